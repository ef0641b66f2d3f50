/-
  Layer 5, its pure side: frames as lists of bytes; which one any bytes begin with; all of them, as far as they go; what comes of frames that were put one behind the other, of a beginning of them, and of one of which bits in a row are others.
-/
import Derived.Test.YtnkmpcepdjjopaaPfx
import Derived.Test.YtnkmpcepdjjopaaCrcB
namespace Go.Proofs.Ytnkmpcepdjjopaa
set_option linter.unusedSimpArgs false
set_option linter.unusedVariables false

/-- The frame of bytes. -/
def fHead (x : List UInt8) : List UInt8 := pPut x.length ++ x
def fBytes (x : List UInt8) : List UInt8 := fHead x ++ cBs (cSum (fHead x))
/-- How many bytes a frame of n bytes has. -/
def fSize (n : Nat) : Nat := n + 4 + pSize n
/-- The frame with which bytes begin: its bytes, how long it is, the error. -/
def fTake (b : List UInt8) : List UInt8 × Nat × Nat :=
  if (pTake b).2.2 ≠ 0 then ([], 0, (pTake b).2.2)
  else if 1048576 < (pTake b).1 then ([], 0, 2)
  else if b.length < (pTake b).2.1 + (pTake b).1 + 4 then ([], 0, 3)
  else if cGood (b.take ((pTake b).2.1 + (pTake b).1 + 4)) then ((b.drop (pTake b).2.1).take (pTake b).1, (pTake b).2.1 + (pTake b).1 + 4, 0) else ([], 0, 50)
/-- All frames' bytes, where the next one would begin, and the error there: so many at most. -/
def fScanN : Nat → List UInt8 → List (List UInt8) × Nat × Nat
  | 0, _ => ([], 0, 0)
  | f + 1, b =>
    if b = [] then ([], 0, 0)
    else if (fTake b).2.2 ≠ 0 then ([], 0, (fTake b).2.2)
    else ((fTake b).1 :: (fScanN f (b.drop (fTake b).2.1)).1, (fTake b).2.1 + (fScanN f (b.drop (fTake b).2.1)).2.1, (fScanN f (b.drop (fTake b).2.1)).2.2)
def fScan (b : List UInt8) : List (List UInt8) × Nat × Nat := fScanN b.length b

theorem pSize_small {n : Nat} (h : n ≤ 1048576) : pSize n ≠ 0 := by rcases pSize_cases n with c | c | c | c | c <;> omega
theorem pSize_small4 {n : Nat} (h : n ≤ 1048576) : 1 ≤ pSize n ∧ pSize n ≤ 4 := by rcases pSize_cases n with c | c | c | c | c <;> omega
theorem cBs_len (s : BitVec 32) : (cBs s).length = 4 := rfl
theorem fHead_len (x : List UInt8) : (fHead x).length = pSize x.length + x.length := by rw [fHead, List.length_append, pPut_len]
theorem fBytes_len (x : List UInt8) : (fBytes x).length = fSize x.length := by
  rw [fBytes, List.length_append, fHead_len, cBs_len, fSize]; omega

/-- What a taken frame's length is. -/
theorem fTake_ok {b x : List UInt8} {k : Nat} (h : fTake b = (x, k, 0)) : 5 ≤ k ∧ k ≤ b.length ∧ x.length + 4 + pSize x.length = k ∧ x.length ≤ 1048576 := by
  obtain ⟨n, j, e, ht⟩ : ∃ n j e, pTake b = (n, j, e) := ⟨_, _, _, rfl⟩
  unfold fTake at h
  rw [ht] at h
  simp only at h
  split at h
  · rename_i h0; simp only [Prod.mk.injEq] at h; omega
  rename_i h0
  split at h
  · simp at h
  rename_i h1
  split at h
  · simp at h
  rename_i h2
  split at h
  · simp only [Prod.mk.injEq, and_true] at h
    obtain ⟨rfl, rfl⟩ := h
    have he : e = 0 := by omega
    subst he
    obtain ⟨h3, h4, h5, h6⟩ := pTake_ok ht
    have hl : (List.take n (List.drop j b)).length = n := by rw [List.length_take, List.length_drop]; omega
    rw [hl]
    refine ⟨by omega, by omega, by omega, by omega⟩
  · simp at h

/-- (P5.4) A frame comes back, whatever is behind it. -/
theorem fTake_frame {x : List UInt8} (hx : x.length ≤ 1048576) (r : List UInt8) : fTake (fBytes x ++ r) = (x, (fBytes x).length, 0) := by
  have hs := pSize_small hx
  have ht : pTake (fBytes x ++ r) = (x.length, pSize x.length, 0) := by
    rw [fBytes, fHead, List.append_assoc, List.append_assoc]
    exact pTake_put hs _
  have hl := fBytes_len x
  unfold fSize at hl
  unfold fTake
  rw [ht]
  simp only [ne_eq, not_true_eq_false, if_false]
  rw [if_neg (by omega), if_neg (by rw [List.length_append]; omega)]
  have e : (fBytes x ++ r).take (pSize x.length + x.length + 4) = fBytes x := by
    rw [List.take_append_of_le_length (by omega), List.take_of_length_le (by omega)]
  rw [e, if_pos (by unfold fBytes; exact cGood_self _)]
  have e2 : (fBytes x ++ r).drop (pSize x.length) = x ++ (cBs (cSum (fHead x)) ++ r) := by
    rw [fBytes, fHead, List.append_assoc, List.append_assoc, List.drop_append_of_le_length (by rw [pPut_len]; omega), List.drop_of_length_le (by rw [pPut_len]; omega), List.nil_append]
  rw [e2, List.take_left, hl]
  congr 2
  omega
/-- (P5.5) Of a beginning of a frame: that it ends too early. -/
theorem fTake_torn {x : List UInt8} (hx : x.length ≤ 1048576) {j : Nat} (hj : j < (fBytes x).length) : fTake ((fBytes x).take j) = ([], 0, 3) := by
  have hs := pSize_small hx
  have hl := fBytes_len x
  unfold fSize at hl
  by_cases h : j < pSize x.length
  · have e : (fBytes x).take j = (pPut x.length).take j := by
      rw [fBytes, fHead, List.append_assoc, List.take_append_of_le_length (by rw [pPut_len]; omega)]
    unfold fTake
    rw [e, pTake_short h]
    simp
  · have e : (fBytes x).take j = pPut x.length ++ ((x ++ cBs (cSum (fHead x))).take (j - pSize x.length)) := by
      rw [fBytes, fHead, List.append_assoc, List.take_append, pPut_len, List.take_of_length_le (by rw [pPut_len]; omega)]
    have hl2 : ((fBytes x).take j).length = j := by rw [List.length_take]; omega
    have ht : pTake ((fBytes x).take j) = (x.length, pSize x.length, 0) := by rw [e]; exact pTake_put hs _
    unfold fTake
    rw [ht, hl2]
    simp only [ne_eq, not_true_eq_false, if_false]
    rw [if_neg (by omega), if_pos (by omega)]
/-- (P5.6) A frame of which bits behind its number are others so that they don't end with their sum. -/
theorem fTake_spoilt {n : Nat} (hn : n ≤ 1048576) {y : List UInt8} (hy : y.length = n + 4) (hg : cGood (pPut n ++ y) = false) (r : List UInt8) : fTake (pPut n ++ y ++ r) = ([], 0, 50) := by
  have hs := pSize_small hn
  have ht : pTake (pPut n ++ y ++ r) = (n, pSize n, 0) := by
    rw [List.append_assoc]
    exact pTake_put hs _
  unfold fTake
  rw [ht]
  simp only [ne_eq, not_true_eq_false, if_false]
  rw [if_neg (by omega), if_neg (by rw [List.length_append, List.length_append, pPut_len]; omega)]
  have e : (pPut n ++ y ++ r).take (pSize n + n + 4) = pPut n ++ y := by
    rw [List.take_append_of_le_length (by rw [List.length_append, pPut_len]; omega), List.take_of_length_le (by rw [List.length_append, pPut_len]; omega)]
  rw [e, hg]
  simp

/-! ### Scan -/
theorem fScanN_nil (f : Nat) : fScanN f [] = ([], 0, 0) := by cases f <;> simp [fScanN]
/-- More rounds than bytes change nothing. -/
theorem fScanN_more : ∀ (f g : Nat) (b : List UInt8), b.length ≤ f → b.length ≤ g → fScanN f b = fScanN g b
  | 0, g, b, h1, _ => by
    have : b = [] := List.eq_nil_of_length_eq_zero (by omega)
    subst this
    rw [fScanN_nil, fScanN_nil]
  | f + 1, 0, b, _, h2 => by
    have : b = [] := List.eq_nil_of_length_eq_zero (by omega)
    subst this
    rw [fScanN_nil, fScanN_nil]
  | f + 1, g + 1, b, h1, h2 => by
    unfold fScanN
    split
    · rfl
    split
    · rfl
    rename_i h3 h4
    obtain ⟨x, k, e, ht⟩ : ∃ x k e, fTake b = (x, k, e) := ⟨_, _, _, rfl⟩
    rw [ht] at h4 ⊢
    simp only at h4 ⊢
    have he : e = 0 := by omega
    subst he
    have hk := fTake_ok ht
    have hd : (b.drop k).length = b.length - k := List.length_drop
    rw [fScanN_more f g (b.drop k) (by omega) (by omega)]
theorem fScan_step {b x : List UInt8} {k : Nat} (h : fTake b = (x, k, 0)) : fScan b = (x :: (fScan (b.drop k)).1, k + (fScan (b.drop k)).2.1, (fScan (b.drop k)).2.2) := by
  have hk := fTake_ok h
  unfold fScan
  obtain ⟨m, hm⟩ : ∃ m, b.length = m + 1 := ⟨b.length - 1, by omega⟩
  rw [hm, fScanN, h]
  have hne : ¬ b = [] := by intro e; rw [e] at hm; simp at hm
  rw [if_neg hne]
  simp only [ne_eq, not_true_eq_false, if_false]
  have hd : (b.drop k).length = b.length - k := List.length_drop
  rw [fScanN_more m (b.drop k).length (b.drop k) (by omega) (Nat.le_refl _)]
theorem fScan_stop {b : List UInt8} (hb : b ≠ []) {e : Nat} (he : e ≠ 0) (h : (fTake b).2.2 = e) : fScan b = ([], 0, e) := by
  unfold fScan
  obtain ⟨m, hm⟩ : ∃ m, b.length = m + 1 := ⟨b.length - 1, by have : b.length ≠ 0 := fun e => hb (List.eq_nil_of_length_eq_zero e); omega⟩
  rw [hm, fScanN, if_neg hb, h, if_pos he]
theorem fScan_nil : fScan [] = ([], 0, 0) := rfl
/-- Frames one behind the other. -/
def fAll (l : List (List UInt8)) : List UInt8 := l.flatMap fBytes
theorem fAll_cons (x : List UInt8) (l : List (List UInt8)) : fAll (x :: l) = fBytes x ++ fAll l := rfl
theorem fAll_app (l m : List (List UInt8)) : fAll (l ++ m) = fAll l ++ fAll m := by simp [fAll]
/-- (P5.4) Frames that were put one behind the other are told, whatever is behind them. -/
theorem fScan_all (l : List (List UInt8)) (hl : ∀ x ∈ l, x.length ≤ 1048576) (r : List UInt8) : fScan (fAll l ++ r) = (l ++ (fScan r).1, (fAll l).length + (fScan r).2.1, (fScan r).2.2) := by
  induction l with
  | nil => simp [fAll]
  | cons x l ih =>
    have h := fTake_frame (hl x (by simp)) (fAll l ++ r)
    rw [fAll_cons, List.append_assoc, fScan_step h, List.drop_left, ih (fun y hy => hl y (by simp [hy]))]
    simp [Nat.add_assoc]
theorem fScan_back (l : List (List UInt8)) (hl : ∀ x ∈ l, x.length ≤ 1048576) : fScan (fAll l) = (l, (fAll l).length, 0) := by
  have h := fScan_all l hl []
  rw [List.append_nil, fScan_nil] at h
  simpa using h
/-- (P5.5) Of a beginning of such bytes: the frames that are whole in it. -/
theorem fScan_torn (l : List (List UInt8)) (hl : ∀ x ∈ l, x.length ≤ 1048576) (n : Nat) (hn : n ≤ (fAll l).length) :
    ∃ k, k ≤ l.length ∧ (fAll (l.take k)).length ≤ n ∧ fScan ((fAll l).take n) = (l.take k, (fAll (l.take k)).length, if (fAll (l.take k)).length = n then 0 else 3) ∧
      (k = l.length ∨ ∃ x, l[k]? = some x ∧ n < (fAll (l.take k)).length + fSize x.length) := by
  induction l generalizing n with
  | nil =>
    have : n = 0 := by simpa [fAll] using hn
    subst this
    exact ⟨0, Nat.le_refl _, Nat.le_refl _, rfl, .inl rfl⟩
  | cons x l ih =>
    have hx := hl x (by simp)
    have hb := fBytes_len x
    rw [fAll_cons, List.length_append] at hn
    by_cases h : n < (fBytes x).length
    · have ht := fTake_torn hx h
      have e : (fAll (x :: l)).take n = (fBytes x).take n := by rw [fAll_cons, List.take_append_of_le_length (by omega)]
      refine ⟨0, Nat.zero_le _, Nat.zero_le _, ?_, .inr ⟨x, rfl, by rw [← hb]; simpa [fAll] using h⟩⟩
      rw [e]
      by_cases h0 : n = 0
      · subst h0; rfl
      · rw [fScan_stop (e := 3) (by intro e2; have := congrArg List.length e2; rw [List.length_take, List.length_nil] at this; omega) (by decide) (by rw [ht])]
        have : ¬ (fAll (List.take 0 (x :: l))).length = n := by simp [fAll]; omega
        rw [if_neg this]
        rfl
    · obtain ⟨k, h1, h2, h3, h4⟩ := ih (fun y hy => hl y (by simp [hy])) (n - (fBytes x).length) (by omega)
      have e : (fAll (x :: l)).take n = fBytes x ++ (fAll l).take (n - (fBytes x).length) := by
        rw [fAll_cons, List.take_append, List.take_of_length_le (by omega)]
      have e3 : (fAll ((x :: l).take (k + 1))).length = (fBytes x).length + (fAll (l.take k)).length := by rw [List.take_succ_cons, fAll_cons, List.length_append]
      refine ⟨k + 1, by simpa using h1, by rw [e3]; omega, ?_, ?_⟩
      · rw [e, fScan_step (fTake_frame hx _), List.drop_left, h3, e3, List.take_succ_cons]
        congr 2
        clear h4 h3
        by_cases hq : (fAll (l.take k)).length = n - (fBytes x).length
        · rw [if_pos hq, if_pos (by omega)]
        · rw [if_neg hq, if_neg (by omega)]
      · rcases h4 with h4 | ⟨y, h5, h6⟩
        · exact .inl (by simp [h4])
        · exact .inr ⟨y, by simpa using h5, by rw [e3]; omega⟩
/-- (P5.6) A spoilt one behind whole ones. -/
theorem fScan_spoilt (l : List (List UInt8)) (hl : ∀ x ∈ l, x.length ≤ 1048576) {n : Nat} (hn : n ≤ 1048576) {y : List UInt8} (hy : y.length = n + 4) (hg : cGood (pPut n ++ y) = false) (r : List UInt8) :
    fScan (fAll l ++ (pPut n ++ y ++ r)) = (l, (fAll l).length, 50) := by
  have h := fTake_spoilt hn hy hg r
  rw [fScan_all l hl, fScan_stop (e := 50) (by intro e; have := congrArg List.length e; rw [List.length_append, List.length_append, List.length_nil] at this; omega) (by decide) (by rw [h])]
  simp
theorem fAll_len (l : List (List UInt8)) : (fAll l).length = (l.map fun x => fSize x.length).sum := by
  induction l with
  | nil => rfl
  | cons x l ih => rw [fAll_cons, List.length_append, fBytes_len, ih]; simp
end Go.Proofs.Ytnkmpcepdjjopaa
