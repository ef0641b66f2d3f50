import Derived.Test.YtjekglnbmccnjaaG3
import Derived.BigQuiet
import Derived.Deep.QuietTactic
set_option linter.unusedSimpArgs false
set_option linter.unusedVariables false
set_option linter.unusedSectionVars false
/-
  Layer 1 in a seat of a later layer: what prefix.takeNumber, Take and the document's own Take do.
-/
namespace Go.Proofs.Ytjekglnbmccnjaa
set_option linter.unusedSimpArgs false
set_option linter.unusedVariables false
open Go.RowKit

/-- What is behind the number. -/
def pRest (l : List UInt8) : List UInt8 := if (pTake l).2.2 = 0 then l.drop (pTake l).2.1 else []
theorem pLen_le (b : UInt8) : pLen b ≤ 8 := by
  unfold pLen
  repeat' split
  all_goals omega
/-- The facts on the first byte that the walk wants. -/
theorem first_facts (b : UInt8) : (b.toNat : Int) < 64 ∧ (b.toNat : Int) / 64 = 0 ∧ pLen b = 1 ∨ 64 ≤ (b.toNat : Int) ∧ (b.toNat : Int) < 128 ∧ (b.toNat : Int) / 64 = 1 ∧ pLen b = 2 ∨
    128 ≤ (b.toNat : Int) ∧ (b.toNat : Int) < 192 ∧ (b.toNat : Int) / 64 = 2 ∧ pLen b = 4 ∨ 192 ≤ (b.toNat : Int) ∧ (b.toNat : Int) < 256 ∧ (b.toNat : Int) / 64 = 3 ∧ pLen b = 8 := by
  have := b.toNat_lt
  unfold pLen
  by_cases c1 : b.toNat < 64
  · left; rw [if_pos c1]; omega
  by_cases c2 : b.toNat < 128
  · right; left; rw [if_neg c1, if_pos c2]; omega
  by_cases c3 : b.toNat < 192
  · right; right; left; rw [if_neg c1, if_neg c2, if_pos c3]; omega
  · right; right; right; rw [if_neg c1, if_neg c2, if_neg c3]; omega
/-- One byte more: the shift and the or. -/
theorem or_byte {x : Int} (c : UInt8) (h0 : 0 ≤ x) (hx : x < 72057594037927936) : bits .or .u64 (x * 256) (c.toNat : Int) = x * 256 + (c.toNat : Int) := by
  obtain ⟨n, rfl⟩ := Int.eq_ofNat_of_zero_le h0
  have hc := c.toNat_lt
  have e : (n : Int) * 256 = ((n * 256 : Nat) : Int) := by omega
  rw [e, u64_or_nat _ _ (by omega) (by omega)]
  have h := Nat.two_pow_add_eq_or_of_lt (i := 8) (b := c.toNat) hc n
  rw [Nat.mul_comm] at h
  rw [← h]
  omega
/-- After i bytes more: below 2^56 while a byte may follow. -/
theorem ube_small {x : Nat} (hx : x < 64) (l : List UInt8) (hl : l.length ≤ 6) : ube x l < 72057594037927936 := by
  have h := (ube_ge x l).2
  have h2 : 256 ^ l.length ≤ 256 ^ 6 := Nat.pow_le_pow_right (by omega) hl
  have h3 : (x + 1) * 256 ^ l.length ≤ 64 * 256 ^ 6 := Nat.mul_le_mul (by omega) h2
  omega
theorem pRest_of {l : List UInt8} {n k e : Nat} (h : pTake l = (n, k, e)) : pRest l = if e = 0 then l.drop k else [] := by unfold pRest; rw [h]
/-- Too few bytes. -/
theorem pTake_few {b : UInt8} {r : List UInt8} (h : r.length + 1 < pLen b) : pTake (b :: r) = (0, 0, 3) := by rw [pTake, if_pos h]
theorem pTake_yes {b : UInt8} {r : List UInt8} {k : Nat} (hk : pLen b = k) (h : k ≤ r.length + 1) (hs : pSize (ube (b.toNat % 64) (r.take (k - 1))) = k) : pTake (b :: r) = (ube (b.toNat % 64) (r.take (k - 1)), k, 0) := by
  subst hk
  rw [pTake, if_neg (by omega), if_pos hs]
theorem pTake_no {b : UInt8} {r : List UInt8} {k : Nat} (hk : pLen b = k) (h : k ≤ r.length + 1) (hs : ¬ pSize (ube (b.toNat % 64) (r.take (k - 1))) = k) : pTake (b :: r) = (0, 0, 4) := by
  subst hk
  rw [pTake, if_neg (by omega), if_neg hs]
/-- What takeNumber leaves. -/
def TakePost (l : List UInt8) (B : Nat) (w : World) (e : Ending) (w' : World) : Prop :=
  ∃ R m c' q, e = .returned (.tuple #[.int .u64 ((pTake l).1 : Nat), .slice R m c', .int .i64 ((pTake l).2.2 : Nat)]) ∧ Rd w B 1 R m (vbs (pRest l)) ∧ m ≤ c' ∧ c' ≤ maxLen ∧ w' = w.drewN q
theorem rest_rd {w : World} {B B0 off n c k x : Nat} {b : UInt8} {r : List UInt8} (hr : Rd w B 1 (some ⟨B0, off, none⟩) n (vbs (b :: r))) (hk : k ≤ n) (hnc : n ≤ c) (e1 : pTake (b :: r) = (x, k, 0)) (hk0 : k ≠ 0)
    {R : Option Addr} (hR : R = if c = k then some ⟨B0, off, none⟩ else some ⟨B0, off + k, none⟩) : Rd w B 1 R (n - k) (vbs (pRest (b :: r))) := by
  have h := hr.cut hk hnc
  rw [pRest_of e1, if_pos rfl, ← vbs_drop]
  rw [Nat.mul_one] at h
  have e : (⟨B0, off, none⟩ : Addr).add k = ⟨B0, off + k, none⟩ := by
    unfold Addr.add
    rw [if_neg hk0]
  simp only [Option.map_some, e] at h
  rw [hR]
  exact h
theorem take_no {l : List UInt8} {B : Nat} {w : World} {e : Nat} (h : pTake l = (0, 0, e)) (he : e ≠ 0) : TakePost l B w (.returned (.tuple #[.int .u64 0, .slice none 0 0, .int .i64 e])) w :=
  ⟨none, 0, 0, 0, by rw [h]; rfl, by rw [pRest_of h, if_neg he]; exact Rd.none_ w B 1 0, Nat.le_refl _, Nat.zero_le _, rfl⟩
theorem take_yes {w : World} {B B0 off n c k q : Nat} {x : Int} {b : UInt8} {r : List UInt8} (hr : Rd w B 1 (some ⟨B0, off, none⟩) n (vbs (b :: r))) (hk : k ≤ n) (hnc : n ≤ c) (hc : c ≤ maxLen) (h0 : 0 ≤ x) (e1 : pTake (b :: r) = (x.toNat, k, 0)) (hk0 : k ≠ 0)
    {R : Option Addr} {m c' : Nat} (hR : R = if c = k then some ⟨B0, off, none⟩ else some ⟨B0, off + k, none⟩) (hm : m = n - k) (hc' : c' = c - k) :
    TakePost (b :: r) B w (.returned (.tuple #[.int .u64 x, .slice R m c', .int .i64 0])) (w.drewN q) := by
  subst hm; subst hc'
  refine ⟨R, n - k, c - k, q, ?_, rest_rd hr hk hnc e1 hk0 hR, Nat.sub_le_sub_right hnc k, Nat.le_trans (Nat.sub_le c k) hc, rfl⟩
  rw [e1]
  have e : ((x.toNat : Nat) : Int) = x := Int.toNat_of_nonneg h0
  rw [e]
  rfl
set_option maxRecDepth 100000 in
set_option maxHeartbeats 800000 in
theorem takeNumber_any (A : Option Addr) (n c : Nat) (l : List UInt8) (B : Nat) (w : World) (hr : Rd w B 1 A n (vbs l)) (hnc : n ≤ c) (hc : c ≤ maxLen) :
    Calls Try.prog 77 #[.slice A n c] w (TakePost l B w) := by
  have hlen := hr.len
  rw [vbs_len] at hlen
  cases l with
  | nil =>
    simp at hlen
    subst hlen
    unfold maxLen at hc
    go_enter Try.func77, Try.ntmps77
    go_wp2
    go_ret3
    exact take_no (l := []) (e := 3) rfl (by omega)
  | cons b r =>
    simp only [List.length_cons] at hlen
    have hn0 : ((n : Int) == 0) = false := by rw [beq_eq_false_iff_ne]; omega
    have hnp : (0 : Int) < n := by omega
    obtain ⟨B0, off, rfl, hB0, hcells⟩ := hr.head (by omega)
    have hcell0 := hcells 0 _ (show (vbs (b :: r))[0]? = some (.int .u8 (b.toNat : Int)) from rfl)
    simp only [Nat.add_zero] at hcell0
    have HC := hid hcells
    have HL := hid hlen
    clear hcells hlen
    have hx64 : b.toNat % 64 < 64 := Nat.mod_lt _ (by omega)
    rcases first_facts b with ⟨b1, b3, b4⟩ | ⟨b1, b2, b3, b4⟩ | ⟨b1, b2, b3, b4⟩ | ⟨b1, b2, b3, b4⟩
    all_goals
      have H4 := hid b4
      clear b4
      unfold maxLen at hc
      go_enter Try.func77, Try.ntmps77
      go_wp2_with (fail)
      all_goals first
        | (go_ret3
           have hk := H4.out
           have hl := HL.out
           have e1 := pTake_few (b := b) (r := r) (by omega)
           exact take_no (e := 3) e1 (by omega))
        | (go_loop [6, 30] (fun x i => ∃ j : Nat, j + 1 ≤ pLen b ∧ i = .int .i64 j ∧ x = .int .u64 ((ube (b.toNat % 64) (r.take j) : Nat) : Int)) (fun _ i => (8 - intOf i).toNat)
           case atStart => exact ⟨0, by rw [H4.out]; omega, rfl, by simp [ube]⟩
           case round =>
             obtain ⟨j, hj, rfl, rfl⟩ := hrel
             rw [H4.out] at hj
             by_cases hlt : j + 1 < pLen b
             · rw [H4.out] at hlt
               obtain ⟨rj, hrj⟩ : ∃ rj, r[j]? = some rj := ⟨r[j]'(by have := HL.out; omega), List.getElem?_eq_getElem _⟩
               obtain ⟨x, hx⟩ : ∃ x : Int, x = (ube (b.toNat % 64) (r.take j) : Nat) := ⟨_, rfl⟩
               have hcj := HC.out (1 + j) (.int .u8 (rj.toNat : Int)) (by rw [Nat.add_comm]; simp [vbs, vb, hrj])
               rw [← Nat.add_assoc] at hcj
               have hub := ube_small hx64 (r.take j) (by rw [List.length_take]; omega)
               have hx0 : 0 ≤ x := by omega
               have hub2 : x < 72057594037927936 := by omega
               have HO := hid (or_byte rj hx0 hub2)
               have hr256 : (rj.toNat : Int) < 256 := by have := rj.toNat_lt; omega
               rw [← hx]
               have HN := hid (show ((ube (b.toNat % 64) (r.take (j + 1)) : Nat) : Int) = x * 256 + (rj.toNat : Int) by rw [take_next hrj, ube_snoc, hx]; omega)
               clear hub hx hrj
               go_wp2
               all_goals
                 go_round
                 case rel => exact ⟨j + 1, by rw [H4.out]; omega, by go_num, by rw [HN.out, HO.out]⟩
                 case measure => simp [intOf]; omega
             · rw [H4.out] at hlt
               have hjk : j + 1 = pLen b := by rw [H4.out]; omega
               have hge : pLen b ≤ r.length + 1 := by rw [H4.out]; have := HL.out; omega
               obtain ⟨x, hx⟩ : ∃ x : Int, x = (ube (b.toNat % 64) (r.take j) : Nat) := ⟨_, rfl⟩
               rw [← hx]
               have hxx : ube (b.toNat % 64) (r.take (pLen b - 1)) = x.toNat := by rw [← hjk, hx]; rfl
               have hx0 : 0 ≤ x := by omega
               have hx1 : x ≤ 18446744073709551615 := by
                 have h1 := (ube_ge (b.toNat % 64) (r.take j)).2
                 have h2 : (r.take j).length ≤ 7 := by rw [List.length_take]; have := pLen_le b; omega
                 have h3 : 256 ^ (r.take j).length ≤ 256 ^ 7 := Nat.pow_le_pow_right (by omega) h2
                 have h4 : (b.toNat % 64 + 1) * 256 ^ (r.take j).length ≤ 64 * 256 ^ 7 := Nat.mul_le_mul (by omega) h3
                 omega
               have HXX := hid hxx
               clear hx hxx
               by_cases hs : pSize x.toNat = pLen b
               · have e1 := hid (pTake_yes (b := b) (r := r) rfl hge (by rw [HXX.out]; exact hs))
                 have hs2 : (((pSize x.toNat : Nat) : Int) == ((pLen b : Nat) : Int)) = true := by rw [hs]; simp
                 have Hge := hid hge
                 clear hs hjk hge
                 rw [H4.out] at hs2
                 go_wp2_with (go_at_call 66; refine (size_any _ _ hx0 hx1).mono ?_; rintro e w' ⟨rfl, rfl⟩)
                 go_quiet (fail)
                 all_goals go_wp2
                 all_goals go_ret3
                 all_goals
                   have hk := H4.out
                   have hl := HL.out
                   have hg := Hge.out
                   have h1 := e1.out
                   rw [HXX.out, hk] at h1
                   exact take_yes hr (by omega) hnc (by unfold maxLen; omega) hx0 h1 (by omega) (by first | (rw [if_pos (by omega)]; done) | (rw [if_neg (by omega)]; done)) (by first | rfl | omega) (by first | rfl | omega)
               · have e1 := hid (pTake_no (b := b) (r := r) rfl hge (by rw [HXX.out]; exact hs))
                 have hs2 : (((pSize x.toNat : Nat) : Int) == ((pLen b : Nat) : Int)) = false := by rw [beq_eq_false_iff_ne]; omega
                 have Hge := hid hge
                 clear hs hjk hge
                 rw [H4.out] at hs2
                 go_wp2_with (go_at_call 66; refine (size_any _ _ hx0 hx1).mono ?_; rintro e w' ⟨rfl, rfl⟩)
                 go_ret3
                 exact take_no (e := 4) e1.out (by omega))
theorem pRest_len (l : List UInt8) : (pRest l).length ≤ l.length := by
  unfold pRest
  split
  · rw [List.length_drop]; omega
  · simp
set_option maxHeartbeats 400000 in
theorem take_any (A : Option Addr) (n c : Nat) (l : List UInt8) (B : Nat) (w : World) (hr : Rd w B 1 A n (vbs l)) (hB : B ≤ w.heap.size) (hnc : n ≤ c) (hc : c ≤ maxLen) (hn : n ≤ 140737488355328) :
    Calls Try.prog 63 #[.slice A n c] w fun e w' =>
      ∃ R m c', e = .returned (.tuple #[.int .u64 ((pTake l).1 : Nat), .slice R m c', .int .i64 ((pTake l).2.2 : Nat)]) ∧ Own w' w.heap.size 5 1 R m c' (vbs (pRest l)) ∧ Turn w w' none := by
  have hl := hr.len
  rw [vbs_len] at hl
  have hlr := pRest_len l
  rw [hl] at hlr
  have hl := hid hl
  go_enter Try.func63, Try.ntmps63
  go_wp2_with (first
    | (go_at_call 77; refine (takeNumber_any _ _ _ l B _ hr hnc hc).mono ?_; rintro e w1 ⟨R, m, c1, q, rfl, hR, hm, hcm, rfl⟩; have hml := hR.len; rw [vbs_len] at hml; have hmn : m ≤ n := (by omega); have hml := hid hml)
    | (go_at_call 67; refine (fresh_any _ _ _ _ (pRest l) B _ (hR.drewN q) (by omega) (by omega) hB).mono ?_; rintro e w2 ⟨A2, c2, rfl, ho, ht⟩))
  go_ret3
  exact ⟨A2, m, c2, rfl, ho, ⟨ht.os, ht.tape, ht.output, ht.size, ht.block⟩⟩
end Go.Proofs.Ytjekglnbmccnjaa
/-
  Layer 15, pure side: records and snapshots with their numbers, whatever these are; the log's frames taken from a list of all of them.
-/
namespace Go.Proofs.Ytjekglnbmccnjaa
set_option linter.unusedSimpArgs false
set_option linter.unusedVariables false

/-- The frame of a number and bytes, or why there is none. -/
def wFr (n : Nat) (b : List UInt8) : List UInt8 × Nat :=
  if 4611686018427387904 ≤ n then ([], 1) else if 1048576 < (wRec n b).length then ([], 2) else (fBytes (wRec n b), 0)
theorem wFr_len (n : Nat) (b : List UInt8) : (wFr n b).1.length ≤ 1048600 := by
  unfold wFr
  split
  · simp
  · split
    · simp
    · rw [fBytes_len]
      unfold fSize
      have := pSize_le (wRec n b).length
      omega
theorem wFr_err (n : Nat) (b : List UInt8) : (wFr n b).2 = 0 ∨ (wFr n b).2 = 1 ∨ (wFr n b).2 = 2 := by
  unfold wFr
  repeat' split
  all_goals simp
theorem wFr_lt {n : Nat} {b : List UInt8} (h : (wFr n b).2 = 0) : n < 4611686018427387904 := by
  unfold wFr at h
  split at h
  · cases h
  · omega
theorem wFr_ok {n : Nat} {b : List UInt8} (hn : n < 4611686018427387904) (hb : b.length ≤ 1048568) : wFr n b = (fBytes (wRec n b), 0) := by
  have h := wRec_len (n := n) hb
  unfold wFr
  rw [if_neg (by omega), if_neg (by omega)]
/-- Append, with the next number. -/
def Dsk.apN (D : Dsk) (n : Nat) (b : List UInt8) : Int × Dsk × Nat :=
  if (wFr n b).2 ≠ 0 then ((wFr n b).2, D, n)
  else if D.wErr 0 (wFr n b).1 ≠ 0 then (D.wErr 0 (wFr n b).1, D.wr 0 (wFr n b).1, n)
  else if (D.wr 0 (wFr n b).1).cErr 0 ≠ 0 then ((D.wr 0 (wFr n b).1).cErr 0, (D.wr 0 (wFr n b).1).sy 0, n)
  else (0, (D.wr 0 (wFr n b).1).sy 0, n + 1)
/-- Snap. -/
def Dsk.snN (D : Dsk) (n : Nat) (b : List UInt8) : Int × Dsk :=
  if (wFr n b).2 ≠ 0 then ((wFr n b).2, D) else D.snapD (wFr n b).1
/-- Replace and Sync. -/
def Dsk.rpS (D : Dsk) (i : Int) (b : List UInt8) : Int × Dsk := if D.rErr i b ≠ 0 then (D.rErr i b, D.rp i b) else ((D.rp i b).cErr i, (D.rp i b).sy i)
theorem snapD_rpS (D : Dsk) (x : List UInt8) : D.snapD x = if (D.rpS 1 x).1 ≠ 0 then D.rpS 1 x else (D.rpS 1 x).2.rpS 0 [] := by
  unfold Dsk.snapD Dsk.rpS
  by_cases h1 : D.rErr 1 x = 0
  · by_cases h2 : (D.rp 1 x).cErr 1 = 0
    · simp [h1, h2]
    · simp [h1, h2]
  · simp [h1]

/-- What is taken of a list of frames' bytes. -/
def tkGo (first : Nat) : List (List UInt8) → List (List UInt8) → Nat → List (List UInt8) × Nat
  | [], recs, e => (recs, e)
  | x :: xs, recs, e =>
    if (pTake x).2.2 ≠ 0 then (recs, e)
    else if (pTake x).1 < first ∧ recs = [] then tkGo first xs recs (e + fSize x.length)
    else if (pTake x).1 = first + recs.length then tkGo first xs (recs ++ [pRest x]) (e + fSize x.length)
    else (recs, e)
theorem pRest_ok {x : List UInt8} (h : (pTake x).2.2 = 0) : pRest x = x.drop (pTake x).2.1 := if_pos h
theorem tk_go (first : Nat) : ∀ (f : Nat) (recs : List (List UInt8)) (b : List UInt8) (e : Nat), b.length ≤ f →
    tkGo first (fScan b).1 recs e = ((wGo f first recs (first + recs.length) b).1, e + (wGo f first recs (first + recs.length) b).2.2) ∧ (wGo f first recs (first + recs.length) b).2.1 = first + (wGo f first recs (first + recs.length) b).1.length
  | 0, recs, b, e, h => by
    have hb : b = [] := List.eq_nil_of_length_eq_zero (by omega)
    subst hb
    rw [fScan_nil]
    exact ⟨rfl, rfl⟩
  | f + 1, recs, b, e, h => by
    by_cases hb : b = []
    · subst hb
      rw [fScan_nil, wGo, if_pos rfl]
      exact ⟨rfl, rfl⟩
    · obtain ⟨x, k, e0, ht⟩ : ∃ x k e0, fTake b = (x, k, e0) := ⟨_, _, _, rfl⟩
      by_cases he : e0 = 0
      · subst he
        obtain ⟨h5, hk, hx, _⟩ := fTake_ok ht
        have hs : fSize x.length = k := by unfold fSize; omega
        rw [fScan_step ht, wGo, if_neg hb, ht, tkGo, hs]
        have hl : (b.drop k).length ≤ f := by rw [List.length_drop]; omega
        simp only
        by_cases hp : (pTake x).2.2 = 0
        · rw [if_neg (show ¬ (pTake x).2.2 ≠ 0 from fun c => c hp), if_neg (show ¬ ((0 : Nat) ≠ 0 ∨ (pTake x).2.2 ≠ 0) from fun c => c.elim (fun c => c rfl) fun c => c hp)]
          by_cases hold : (pTake x).1 < first ∧ recs = []
          · rw [if_pos hold, if_pos hold]
            obtain ⟨i1, i2⟩ := tk_go first f recs (b.drop k) (e + k) hl
            refine ⟨?_, i2⟩
            rw [i1, Nat.add_assoc e k]
          · rw [if_neg hold, if_neg hold]
            by_cases hn : (pTake x).1 = first + recs.length
            · rw [if_pos hn, if_pos hn, pRest_ok hp]
              obtain ⟨i1, i2⟩ := tk_go first f (recs ++ [x.drop (pTake x).2.1]) (b.drop k) (e + k) hl
              rw [List.length_append, List.length_singleton, ← Nat.add_assoc] at i1 i2
              refine ⟨?_, i2⟩
              rw [i1, Nat.add_assoc e k]
            · rw [if_neg hn, if_neg hn]
              exact ⟨rfl, rfl⟩
        · rw [if_pos hp, if_pos (.inr hp)]
          exact ⟨rfl, rfl⟩
      · rw [fScan_stop hb he (by rw [ht]), wGo, if_neg hb, if_pos (.inl (by rw [ht]; exact he))]
        exact ⟨rfl, rfl⟩
theorem wGo_le (first : Nat) : ∀ (f : Nat) (recs : List (List UInt8)) (next : Nat) (b : List UInt8), (wGo f first recs next b).2.2 ≤ b.length
  | 0, recs, next, b => Nat.zero_le _
  | f + 1, recs, next, b => by
    rw [wGo]
    by_cases hb : b = []
    · rw [if_pos hb]; exact Nat.zero_le _
    rw [if_neg hb]
    by_cases hp : (fTake b).2.2 ≠ 0 ∨ (pTake (fTake b).1).2.2 ≠ 0
    · rw [if_pos hp]; exact Nat.zero_le _
    rw [if_neg hp]
    obtain ⟨x, k, e0, ht⟩ : ∃ x k e0, fTake b = (x, k, e0) := ⟨_, _, _, rfl⟩
    have he : e0 = 0 := Decidable.byContradiction fun c => hp (.inl (by rw [ht]; exact c))
    subst he
    obtain ⟨h5, hk, hx, _⟩ := fTake_ok ht
    rw [ht]
    dsimp only
    split
    · have := wGo_le first f recs next (b.drop k)
      rw [List.length_drop] at this
      show k + _ ≤ _
      omega
    · split
      · have := wGo_le first f (recs ++ [x.drop (pTake x).2.1]) (next + 1) (b.drop k)
        rw [List.length_drop] at this
        show k + _ ≤ _
        omega
      · exact Nat.zero_le _
theorem fScan_rows : ∀ (f : Nat) (b : List UInt8), b.length ≤ f → (∀ x ∈ (fScan b).1, x.length ≤ 1048576) ∧ (fScan b).1.length * 5 ≤ b.length
  | 0, b, h => by
    have hb : b = [] := List.eq_nil_of_length_eq_zero (by omega)
    subst hb
    rw [fScan_nil]
    exact ⟨fun x hx => by simp at hx, by simp⟩
  | f + 1, b, h => by
    by_cases hb : b = []
    · subst hb
      rw [fScan_nil]
      exact ⟨fun x hx => by simp at hx, by simp⟩
    obtain ⟨x, k, e0, ht⟩ : ∃ x k e0, fTake b = (x, k, e0) := ⟨_, _, _, rfl⟩
    by_cases he : e0 = 0
    · subst he
      obtain ⟨h5, hk, hx, hm⟩ := fTake_ok ht
      obtain ⟨i1, i2⟩ := fScan_rows f (b.drop k) (by rw [List.length_drop]; omega)
      rw [fScan_step ht]
      refine ⟨fun y hy => ?_, ?_⟩
      · rcases List.mem_cons.1 hy with rfl | hy
        · exact hm
        · exact i1 y hy
      · rw [List.length_drop] at i2
        rw [List.length_cons]
        omega
    · rw [fScan_stop hb he (by rw [ht])]
      exact ⟨fun y hy => by simp at hy, by simp⟩
/-- What is had of a log's frames: the records, the end. -/
theorem takeLog_is (first : Nat) (lg : List UInt8) : tkGo first (fScan lg).1 [] 0 = ((wGo lg.length first [] first lg).1, (wGo lg.length first [] first lg).2.2) ∧ (wGo lg.length first [] first lg).2.1 = first + (wGo lg.length first [] first lg).1.length := by
  have h := tk_go first lg.length [] lg 0 (Nat.le_refl _)
  rw [List.length_nil, Nat.add_zero, Nat.zero_add] at h
  exact h
theorem wGo_few (first : Nat) : ∀ (f : Nat) (recs : List (List UInt8)) (next : Nat) (b : List UInt8), (wGo f first recs next b).1.length * 5 ≤ recs.length * 5 + b.length
  | 0, recs, next, b => Nat.le_add_right _ _
  | f + 1, recs, next, b => by
    rw [wGo]
    by_cases hb : b = []
    · rw [if_pos hb]; exact Nat.le_add_right _ _
    rw [if_neg hb]
    by_cases hp : (fTake b).2.2 ≠ 0 ∨ (pTake (fTake b).1).2.2 ≠ 0
    · rw [if_pos hp]; exact Nat.le_add_right _ _
    rw [if_neg hp]
    obtain ⟨x, k, e0, ht⟩ : ∃ x k e0, fTake b = (x, k, e0) := ⟨_, _, _, rfl⟩
    have he : e0 = 0 := Decidable.byContradiction fun c => hp (.inl (by rw [ht]; exact c))
    subst he
    obtain ⟨h5, hk, hx, _⟩ := fTake_ok ht
    rw [ht]
    dsimp only
    split
    · have := wGo_few first f recs next (b.drop k)
      rw [List.length_drop] at this
      show (wGo f first recs next (b.drop k)).1.length * 5 ≤ _
      omega
    · split
      · have := wGo_few first f (recs ++ [x.drop (pTake x).2.1]) (next + 1) (b.drop k)
        rw [List.length_drop, List.length_append, List.length_singleton] at this
        show (wGo f first (recs ++ [x.drop (pTake x).2.1]) (next + 1) (b.drop k)).1.length * 5 ≤ _
        omega
      · exact Nat.le_add_right _ _
end Go.Proofs.Ytjekglnbmccnjaa
/-
  Layer 14: a disk in memory, the code's; call and look (contracts).
-/
namespace Go.Proofs.Ytjekglnbmccnjaa
set_option linter.unusedSimpArgs false
set_option linter.unusedVariables false
open Go.RowKit

/-- A slice value. -/
structure Sl where
  A : Option Addr
  n : Nat
  c : Nat
def Sl.v (s : Sl) : Value := .slice s.A s.n s.c
/-- A file in memory: what is written, and what stands fast, in blocks of S; these may share their first bytes. -/
structure Fil (w : World) (S : Nat → Prop) (f : Fi) (v u : Sl) : Prop where
  hv : Own w 0 5 1 v.A v.n v.c (vbs f.all)
  hu : Own w 0 5 1 u.A u.n u.c (vbs f.fa)
  sv : ∀ g, blk v.A = some g → S g
  su : ∀ g, blk u.A = some g → S g
  pre : ∀ g, blk v.A = some g → blk u.A = some g → f.fa <+: f.all
def pdc (D : Dsk) (v u : Nat → Sl) (lv : Int) : List Value :=
  [.int .i64 D.lim, (v 0).v, (u 0).v, .bool (D.f 0).is, (v 1).v, (u 1).v, .bool (D.f 1).is, .bool D.dead, .bool D.armed, .int .i64 lv]
structure PD (w : World) (g : Nat) (S : Nat → Nat → Prop) (v u : Nat → Sl) (lv : Int) (D : Dsk) : Prop where
  b : Blk w g 64 (pdc D v u lv).toArray
  f : ∀ i, i < 2 → Fil w (S i) (D.f i) (v i) (u i)
  ap : ∀ k, S 0 k → ¬ S 1 k
  ng : ∀ i, i < 2 → ¬ S i g
  lt : ∀ i k, i < 2 → S i k → k < w.heap.size
  lv : D.armed = true → D.dead = false → lv = D.lf
  ok : D.Ok
section
variable {w w' : World} {g : Nat} {S : Nat → Nat → Prop} {T R : Nat → Prop} {f : Fi} {v u : Sl} {vs us : Nat → Sl} {lv : Int} {D : Dsk}
theorem Fil.chg (h : Fil w R f v u) (ht : Chg w w' T) (hs : ∀ g, R g → ¬ T g) : Fil w' R f v u :=
  ⟨h.hv.chg ht fun g e => hs g (h.sv g e), h.hu.chg ht fun g e => hs g (h.su g e), h.sv, h.su, h.pre⟩
theorem Fil.mono (h : Fil w R f v u) (k : ∀ g, R g → T g) : Fil w T f v u := ⟨h.hv, h.hu, fun g e => k g (h.sv g e), fun g e => k g (h.su g e), h.pre⟩
theorem Fil.vn (h : Fil w R f v u) : v.n = f.all.length := by have := h.hv.len; rw [vbs_len] at this; exact this.symm
theorem Fil.un (h : Fil w R f v u) : u.n = f.fa.length := by have := h.hu.len; rw [vbs_len] at this; exact this.symm
theorem PD.chg (h : PD w g S vs us lv D) (ht : Chg w w' T) (hg : ¬ T g) (hs : ∀ i k, i < 2 → S i k → ¬ T k) : PD w' g S vs us lv D :=
  ⟨h.b.chg ht hg, fun i hi => (h.f i hi).chg ht (fun k => hs i k hi), h.ap, h.ng, fun i k hi hk => Nat.lt_of_lt_of_le (h.lt i k hi hk) ht.size, h.lv, h.ok⟩
theorem PD.turn0 (h : PD w g S vs us lv D) (ht : Turn w w' none) : PD w' g S vs us lv D := h.chg (T := fun _ => False) (Chg.of0 ht _) (fun h => h) (fun _ _ _ _ h => h)
/-- Only the disk's own cells have turned. -/
theorem PD.own (h : PD w g S vs us lv D) {D2 : Dsk} {lv2 : Int} (ht : Turn w w' (some g)) (hb : Blk w' g 64 (pdc D2 vs us lv2).toArray) (hf : D2.f = D.f) (hl : D2.armed = true → D2.dead = false → lv2 = D2.lf) (hk : D2.Ok) : PD w' g S vs us lv2 D2 :=
  ⟨hb, fun i hi => by rw [hf]; exact (h.f i hi).chg (T := fun k => k = g) (Chg.of ht fun i e => (by injection e with e; exact e.symm)) (fun k hk e => h.ng i hi (e ▸ hk)), h.ap, h.ng, fun i k hi hk => Nat.lt_of_lt_of_le (h.lt i k hi hk) ht.size, hl, hk⟩
end
theorem szC {x y z : Value} : (Try.prog.info? 61).map (·.size) = some ([x, y, z] : List Value).length := by kernel_rfl

set_option maxRecDepth 100000 in
set_option maxHeartbeats 800000 in
theorem look_any {w : World} {g : Nat} {S : Nat → Nat → Prop} {v u : Nat → Sl} {lv : Int} {D : Dsk} (h : PD w g S v u lv D) (n : Int) :
    Calls Try.prog 30 #[.pointer (some ⟨g, 0, none⟩), .int .i64 n] w fun e w' => e = .returned (.int .i64 (D.dErr n)) ∧ w = w' := by
  have c7 := h.b.ats (j := 7) (v := .bool D.dead) rfl
  unfold Dsk.dErr fErr
  cases hd : D.dead with
  | true =>
    rw [hd] at c7
    go_enter Try.func30, Try.ntmps30
    go_wp2
    go_ret
    exact ⟨rfl, rfl⟩
  | false =>
    rw [hd] at c7
    have hq : n < 0 ∨ (¬ n < 0 ∧ 2 ≤ n) ∨ (¬ n < 0 ∧ ¬ 2 ≤ n) := by omega
    rcases hq with hq | ⟨hq, hq2⟩ | ⟨hq, hq2⟩
    · rw [if_neg (by simp), if_pos (.inl hq)]
      go_enter Try.func30, Try.ntmps30
      go_wp2
      go_ret
      exact ⟨rfl, rfl⟩
    · rw [if_neg (by simp), if_pos (.inr (by omega))]
      go_enter Try.func30, Try.ntmps30
      go_wp2
      go_ret
      exact ⟨rfl, rfl⟩
    · rw [if_neg (by simp), if_neg (by omega)]
      go_enter Try.func30, Try.ntmps30
      go_wp2
      go_ret
      exact ⟨rfl, rfl⟩

set_option maxRecDepth 100000 in
set_option maxHeartbeats 800000 in
theorem call_any {w : World} {g : Nat} {S : Nat → Nat → Prop} {v u : Nat → Sl} {lv : Int} {D : Dsk} (h : PD w g S v u lv D) (n : Int) :
    Calls Try.prog 52 #[.pointer (some ⟨g, 0, none⟩), .int .i64 n] w fun e w' => e = .returned (.int .i64 (D.cErr n)) ∧ Turn w w' (some g) ∧ ∃ lv', PD w' g S v u lv' D.cnt := by
  have c7 := h.b.ats (j := 7) (v := .bool D.dead) rfl
  have c8 := h.b.ats (j := 8) (v := .bool D.armed) rfl
  have c9 := h.b.ats (j := 9) (v := .int .i64 lv) rfl
  have f7 := h.b.frozen 7
  have f9 := h.b.frozen 9
  have hok := h.ok.cnt
  have hce : D.cErr n = D.cnt.dErr n := by
    unfold Dsk.cErr Dsk.dErr
    rw [Dsk.cnt_dead]
  rw [hce]
  cases ha : D.armed with
  | false =>
    rw [ha] at c8
    have e : D.gone = D.dead := by simp [Dsk.gone, ha]
    have hp : PD w g S v u lv D.cnt := h.own (Turn.refl w _) (by
      have h2 := h.b
      have e2 : pdc D.cnt v u lv = pdc D v u lv := by simp only [pdc, Dsk.cnt_f, Dsk.cnt_lim, Dsk.cnt_armed, Dsk.cnt_dead, e]
      rw [e2]; exact h2) D.cnt_f (fun h => by rw [Dsk.cnt_armed, ha] at h; cases h) hok
    clear e
    go_enter Try.func52, Try.ntmps52
    go_wp2_with (go_at_call 30; refine (look_any hp n).mono ?_; rintro e w1 ⟨rfl, rfl⟩)
    go_ret
    exact ⟨rfl, Turn.refl w _, lv, hp⟩
  | true =>
    rw [ha] at c8
    cases hd : D.dead with
    | true =>
      rw [hd] at c7
      have e : D.gone = true := by simp [Dsk.gone, hd]
      have hb7 := h.b.sets 7 (.bool true)
      have d9 := hb7.ats (j := 9) (v := .int .i64 lv) rfl
      have d99 := hb7.frozen 9
      have hp : ∀ x, PD ((w.setCell ⟨g, 7, none⟩ (.bool true)).setCell ⟨g, 9, none⟩ (.int .i64 x)) g S v u x D.cnt := fun x =>
        h.own ((Blk.setTurn w g 7 _).trans (Blk.setTurn _ g 9 _)) (by
          have h2 := hb7.sets 9 (.int .i64 x)
          have e2 : pdc D.cnt v u x = ((pdc D v u lv).set 7 (.bool true)).set 9 (.int .i64 x) := by simp only [pdc, Dsk.cnt_f, Dsk.cnt_lim, Dsk.cnt_armed, Dsk.cnt_dead, e]; rfl
          rw [e2]; exact h2) D.cnt_f (fun _ h => by rw [Dsk.cnt_dead, e] at h; cases h) hok
      clear e
      go_enter Try.func52, Try.ntmps52
      go_wp2_with (go_at_call 30; refine (look_any (hp _) n).mono ?_; rintro e w1 ⟨rfl, rfl⟩)
      go_ret
      exact ⟨rfl, (Blk.setTurn w g 7 _).trans (Blk.setTurn _ g 9 _), _, hp _⟩
    | false =>
      rw [hd] at c7
      have hlv := h.lv ha hd
      obtain ⟨l0, l1⟩ := h.ok.a0 ha
      by_cases hz : D.lf = 0
      · have e : D.gone = true := by simp [Dsk.gone, ha, hz]
        have z : lv = 0 := by omega
        have hb7 := h.b.sets 7 (.bool true)
        have d9 := hb7.ats (j := 9) (v := .int .i64 lv) rfl
        have d99 := hb7.frozen 9
        have hp : ∀ x, PD ((w.setCell ⟨g, 7, none⟩ (.bool true)).setCell ⟨g, 9, none⟩ (.int .i64 x)) g S v u x D.cnt := fun x =>
          h.own ((Blk.setTurn w g 7 _).trans (Blk.setTurn _ g 9 _)) (by
            have h2 := hb7.sets 9 (.int .i64 x)
            have e2 : pdc D.cnt v u x = ((pdc D v u lv).set 7 (.bool true)).set 9 (.int .i64 x) := by simp only [pdc, Dsk.cnt_f, Dsk.cnt_lim, Dsk.cnt_armed, Dsk.cnt_dead, e]; rfl
            rw [e2]; exact h2) D.cnt_f (fun _ h => by rw [Dsk.cnt_dead, e] at h; cases h) hok
        clear e hlv l0 l1
        subst z
        go_enter Try.func52, Try.ntmps52
        go_wp2_with (go_at_call 30; refine (look_any (hp _) n).mono ?_; rintro e w1 ⟨rfl, rfl⟩)
        go_ret
        exact ⟨rfl, (Blk.setTurn w g 7 _).trans (Blk.setTurn _ g 9 _), _, hp _⟩
      · have e : D.gone = false := by simp [Dsk.gone, hd, hz]
        have z : (lv == 0) = false := by rw [beq_eq_false_iff_ne]; omega
        have hb7 := h.b.sets 7 (.bool false)
        have d9 := hb7.ats (j := 9) (v := .int .i64 lv) rfl
        have d99 := hb7.frozen 9
        have hp : PD ((w.setCell ⟨g, 7, none⟩ (.bool false)).setCell ⟨g, 9, none⟩ (.int .i64 (lv - 1))) g S v u (lv - 1) D.cnt :=
          h.own ((Blk.setTurn w g 7 _).trans (Blk.setTurn _ g 9 _)) (by
            have h2 := hb7.sets 9 (.int .i64 (lv - 1))
            have e2 : pdc D.cnt v u (lv - 1) = ((pdc D v u lv).set 7 (.bool false)).set 9 (.int .i64 (lv - 1)) := by simp only [pdc, Dsk.cnt_f, Dsk.cnt_lim, Dsk.cnt_armed, Dsk.cnt_dead, e]; rfl
            rw [e2]; exact h2) D.cnt_f (fun _ _ => by
              unfold Dsk.cnt
              rw [e]
              show lv - 1 = D.lf - 1
              omega) hok
        have b0 : 0 < lv := by omega
        have b1 : lv ≤ 9223372036854775807 := by omega
        clear e hlv l0 l1
        go_enter Try.func52, Try.ntmps52
        go_wp2_with (go_at_call 30; refine (look_any hp n).mono ?_; rintro e w1 ⟨rfl, rfl⟩)
        go_ret
        exact ⟨rfl, (Blk.setTurn w g 7 _).trans (Blk.setTurn _ g 9 _), _, hp⟩
end Go.Proofs.Ytjekglnbmccnjaa
/-
  Layer 14: New, Dead, Arm, Size, fits, standing, what remains (contracts of the code).
-/
namespace Go.Proofs.Ytjekglnbmccnjaa
set_option linter.unusedSimpArgs false
set_option linter.unusedVariables false
open Go.RowKit

set_option maxRecDepth 100000 in
theorem ix_C {a b c d e f : Value} {j : Nat} {xs : List Value} (hx : (j = 0 ∧ xs = [a, b, c]) ∨ (j = 1 ∧ xs = [d, e, f])) (w : World) : (Instr.index 62 (.agg ([a, b, c, d, e, f] : List Value).toArray) (.int .i64 (j : Int))).run Try.prog w = .ok (.agg xs.toArray) w := by
  have hu : Try.prog.underlying 62 = some (.array 2 61) := Try.underlying62
  have hag : (isAgg 61).run Try.prog w = .ok true w := by
    unfold isAgg
    rw [Sem.run_bind, run_underlying Try.underlying61 w]
    rfl
  have hs : (sizeOf 61).run Try.prog w = .ok 3 w := by
    obtain ⟨i, hi⟩ : ∃ i, Try.prog.info? 61 = some i := ⟨_, rfl⟩
    have h3 : (Try.prog.info? 61).map (·.size) = some 3 := by kernel_rfl
    rw [hi] at h3
    simp at h3
    simp [sizeOf, typeInfo, hi, h3]
  rcases hx with ⟨rfl, rfl⟩ | ⟨rfl, rfl⟩
  · simp [Instr.index, run_underlying hu, asIntOf, part, hag, hs]
  · simp [Instr.index, run_underlying hu, asIntOf, part, hag, hs]
theorem zC : ∀ w, (zeroValue 61).run Try.prog w = .ok (.agg ([.slice none 0 0, .slice none 0 0, .bool false] : List Value).toArray) w := zero_at (by kernel_rfl)
theorem ones3 {x y z : Value} (h1 : x.oneCell' = true) (h2 : y.oneCell' = true) (h3 : z.oneCell' = true) : ∀ u ∈ ([x, y, z] : List Value), u.oneCell' = true := ones_cons h1 (ones_cons h2 (ones_cons h3 ones_nil))

set_option maxRecDepth 100000 in
set_option maxHeartbeats 800000 in
theorem new_any (lim : Int) (w : World) :
    Calls Try.prog 6 #[.int .i64 lim] w fun e w' => ∃ g, w.heap.size ≤ g ∧ e = .returned (.pointer (some ⟨g, 0, none⟩)) ∧ PD w' g (fun _ _ => False) (fun _ => ⟨none, 0, 0⟩) (fun _ => ⟨none, 0, 0⟩) 0 (newD lim) ∧ Turn w w' none := by
  have hz : ∀ L, Try.prog.built 64 [(0, .int .i64 L)] = some ([.int .i64 L, .slice none 0 0, .slice none 0 0, .bool false, .slice none 0 0, .slice none 0 0, .bool false, .bool false, .bool false, .int .i64 0] : List Value).toArray := fun L => by kernel_rfl
  have key : ∀ L, L = (newD lim).lim → ∀ g w', w.heap.size = g → Blk w' g 64 ([.int .i64 L, .slice none 0 0, .slice none 0 0, .bool false, .slice none 0 0, .slice none 0 0, .bool false, .bool false, .bool false, .int .i64 0] : List Value).toArray → Turn w w' none →
      PD w' g (fun _ _ => False) (fun _ => ⟨none, 0, 0⟩) (fun _ => ⟨none, 0, 0⟩) 0 (newD lim) := by
    intro L hL g w' hg hb ht
    subst hL
    refine ⟨hb, fun i _ => ⟨Own.nil _ _ _ _, Own.nil _ _ _ _, (fun g h => by cases h), (fun g h => by cases h), (fun g h => by cases h)⟩, fun _ h => h.elim, fun _ _ h => h, fun _ _ _ h => h.elim, fun h => by simp [newD] at h, newD_ok lim⟩
  go_enter Try.func6, Try.ntmps6
  go_wp2_with (first
    | (refine wp_bd rfl 64 _ rfl _ rfl _ (hz _) ?_)
    | (refine wp_bx rfl 64 _ rfl rfl ?_; intro g w1 hg hb1 ht1))
  all_goals
    go_ret
    exact ⟨g, by omega, rfl, key _ (by simp only [newD]; repeat' split
                                       all_goals omega) g w1 hg hb1 ht1, ht1⟩

theorem dead_any {w : World} {g : Nat} {S : Nat → Nat → Prop} {v u : Nat → Sl} {lv : Int} {D : Dsk} (h : PD w g S v u lv D) :
    Calls Try.prog 19 #[.pointer (some ⟨g, 0, none⟩)] w fun e w' => e = .returned (.bool D.dead) ∧ w = w' := by
  have c7 := h.b.ats (j := 7) (v := .bool D.dead) rfl
  go_enter Try.func19, Try.ntmps19
  go_wp2
  go_ret
  exact ⟨rfl, rfl⟩

set_option maxRecDepth 100000 in
theorem arm_any {w : World} {g : Nat} {S : Nat → Nat → Prop} {v u : Nat → Sl} {lv : Int} {D : Dsk} (h : PD w g S v u lv D) (c : Int) (hc : c ≤ 9223372036854775807) :
    Calls Try.prog 14 #[.pointer (some ⟨g, 0, none⟩), .int .i64 c] w fun e w' => e = .returned (.tuple #[]) ∧ Turn w w' (some g) ∧ ∃ lv', PD w' g S v u lv' (D.arm c) := by
  have f8 := h.b.frozen 8
  have c8 := h.b.ats (j := 8) (v := .bool D.armed) rfl
  have hb8 := h.b.sets 8 (.bool true)
  have d9 := hb8.ats (j := 9) (v := .int .i64 lv) rfl
  have f9 := hb8.frozen 9
  have hp : ∀ x, x = (D.arm c).lf → PD ((w.setCell ⟨g, 8, none⟩ (.bool true)).setCell ⟨g, 9, none⟩ (.int .i64 x)) g S v u x (D.arm c) := fun x hx =>
    h.own ((Blk.setTurn w g 8 _).trans (Blk.setTurn _ g 9 _)) (hb8.sets 9 (.int .i64 x)) rfl (fun _ _ => hx) (h.ok.arm hc)
  have hm0 : c < 0 → 0 = (D.arm c).lf := fun h => by simp only [Dsk.arm]; rw [if_pos h]
  have hm1 : 0 ≤ c → c = (D.arm c).lf := fun h => by simp only [Dsk.arm]; rw [if_neg (by omega)]
  go_enter Try.func14, Try.ntmps14
  go_wp2
  all_goals
    go_end0
    exact ⟨rfl, (Blk.setTurn w g 8 _).trans (Blk.setTurn _ g 9 _), _, hp _ (by first | exact hm0 (by omega) | exact hm1 (by omega))⟩

/-- The cells of both files. -/
def fcs (D : Dsk) (v u : Nat → Sl) : List Value := [(v 0).v, (u 0).v, .bool (D.f 0).is, (v 1).v, (u 1).v, .bool (D.f 1).is]
theorem fcs_sub (D : Dsk) (v u : Nat → Sl) (lv : Int) : Sub (pdc D v u lv).toArray 1 (fcs D v u) := by
  have h := Sub.mid [.int .i64 D.lim] (fcs D v u) [.bool D.dead, .bool D.armed, .int .i64 lv] 1 rfl
  exact h
theorem szFs {D : Dsk} {v u : Nat → Sl} : (Try.prog.info? 62).map (·.size) = some (fcs D v u).length := by kernel_rfl
def fc (f : Fi) (v u : Sl) : List Value := [v.v, u.v, .bool f.is]
theorem fcs_ix (D : Dsk) (v u : Nat → Sl) {j : Nat} (hj : j < 2) (w : World) : (Instr.index 62 (.agg (fcs D v u).toArray) (.int .i64 (j : Int))).run Try.prog w = .ok (.agg (fc (D.f j) (v j) (u j)).toArray) w := by
  obtain rfl | rfl : j = 0 ∨ j = 1 := by omega
  · exact ix_C (.inl ⟨rfl, rfl⟩) w
  · exact ix_C (.inr ⟨rfl, rfl⟩) w

/-- As many bytes as the first j files have. -/
def szTo (D : Dsk) (j : Nat) : Nat := if j = 0 then 0 else if j = 1 then (D.f 0).all.length else D.size
theorem szTo_next (D : Dsk) {j : Nat} (hj : j < 2) : szTo D (j + 1) = szTo D j + (D.f j).all.length := by
  obtain rfl | rfl : j = 0 ∨ j = 1 := by omega
  · simp [szTo]
  · simp [szTo, Dsk.size]
theorem Dsk.Ok.size {D : Dsk} (h : D.Ok) : D.size ≤ 281475043819520 := by
  have h0 := (h.f 0 (by omega)).all
  have h1 := (h.f 1 (by omega)).all
  unfold Dsk.size
  omega
theorem szTo_le {D : Dsk} (j : Nat) : szTo D j ≤ D.size := by
  unfold szTo Dsk.size
  repeat' split
  all_goals omega

set_option maxRecDepth 100000 in
set_option maxHeartbeats 800000 in
theorem dksz_any {w : World} {g : Nat} {S : Nat → Nat → Prop} {v u : Nat → Sl} {lv : Int} {D : Dsk} (h : PD w g S v u lv D) :
    Calls Try.prog 72 #[.pointer (some ⟨g, 0, none⟩)] w fun e w' => e = .returned (.int .i64 (D.size : Int)) ∧ Turn w w' none := by
  have hsz := h.ok.size
  have hrg := h.b.range (fcs_sub D v u lv)
  go_enter Try.func72, Try.ntmps72
  go_wp2_with (first
    | (refine gd_ldR (by rfl) 62 _ rfl rfl hrg Try.underlying62 rfl szFs ?_))
  go_loopw [3, 10] (fun s i wr => ∃ j : Nat, j ≤ 2 ∧ i = .int .i64 (j : Int) ∧ s = .int .i64 (szTo D j : Int) ∧ Turn w wr none) (fun _ i _ => (2 - intOf i).toNat)
  case atStart => exact ⟨0, by omega, rfl, rfl, Turn.refl w none⟩
  case round =>
    obtain ⟨j, hj, rfl, rfl, ht⟩ := hrel
    by_cases hj2 : j < 2
    · have hnx := szTo_next D hj2
      have hle := szTo_le (D := D) (j + 1)
      have hix := fcs_ix D v u hj2
      have hvn := (h.f j hj2).vn
      generalize hS : szTo D j = s0 at *
      generalize hL : (D.f j).all.length = l0 at *
      have HN := hid hnx
      have hb2 : s0 + l0 ≤ 281475043819520 := by omega
      clear hnx hle
      go_wp2_with (first
        | (refine wp_st (xs := fc (D.f j) (v j) (u j)) rfl 61 _ _ rfl rfl rfl (Blk.new wr _ _) rfl szC (ones3 rfl rfl rfl) ?_; intro w3 hb3 ht3; have tw := (ht.alloc _).new ht3 (by simp; have := ht.size; omega); have hc0 := hb3.ats (j := 0) (v := .slice (v j).A (v j).n (v j).c) rfl; rw [hvn] at hc0))
      refine ⟨⟨j + 1, by omega, rfl, by rw [HN.out]; simp, tw⟩, ?_⟩
      simp [intOf]; omega
    · obtain rfl : j = 2 := by omega
      have e : szTo D 2 = D.size := rfl
      rw [e]
      go_wp2
      go_ret
      exact ⟨rfl, ht⟩
end Go.Proofs.Ytjekglnbmccnjaa
/-
  Layer 14: fits, standing, what remains (contracts of the code); a file put in a disk's place.
-/
namespace Go.Proofs.Ytjekglnbmccnjaa
set_option linter.unusedSimpArgs false
set_option linter.unusedVariables false
open Go.RowKit

section
variable {P : Program} {ops : Array Oper} {a : Act} {w : World} {Q : Exit → Act → World → Prop} {o : Oper} {g off : Nat} {t ty : TypeId} {xs : List Value} {x y z : Value} {S : World → Prop}
theorem there3 (h : Blk w g t xs.toArray) (ho : off + 3 ≤ xs.length) : w.there g off 3 := fun j hj => ⟨by
  rw [h.cell, List.getElem?_toArray, List.getElem?_eq_getElem (by omega)]; rfl, h.frozen _⟩
theorem put3 (h : Blk w g t xs.toArray) (off : Nat) (x y z : Value) : Blk (w.setCells g off [x, y, z]) g t (((xs.set off x).set (off + 1) y).set (off + 2) z).toArray ∧ Turn w (w.setCells g off [x, y, z]) (some g) :=
  ⟨((h.sets off x).sets (off + 1) y).sets (off + 2) z, ((Blk.setTurn w g off x).trans (Blk.setTurn _ g (off + 1) y)).trans (Blk.setTurn _ g (off + 2) z)⟩
/-- Three cells that are laid into the midst of a block, in a region that draws. -/
theorem gd_dst3 {F : Prop} {K : Act → World → Prop} (hgd : o.guard = none) (ty : TypeId) (p q : Operand) (ho : o.op = .store ty p q) (hx : a.eval p = .pointer (some ⟨g, off, none⟩)) (hy : a.eval q = .agg ([x, y, z] : List Value).toArray) (h : Blk w g t xs.toArray) (hoff : off + 3 ≤ xs.length)
    (hi : (P.info? ty).map (·.size) = some 3) (h1 : ∀ u ∈ ([x, y, z] : List Value), u.oneCell' = true)
    (hK : ∀ w', Blk w' g t (((xs.set off x).set (off + 1) y).set (off + 2) z).toArray → Turn w w' (some g) → K (a.put o.dst undef) w') : if Region.wanted o (yielded ops a.tmps) = true then Oper.wp P o a w K Q else F := by
  have hw : Region.wanted o (yielded ops a.tmps) = true := by simp [Region.wanted, hgd]
  rw [if_pos hw]
  obtain ⟨h2, h3⟩ := put3 h off x y z
  exact wp_store_mid ty p q ho g off _ hx hy (there3 h hoff) hi (all_oneCell_toArray h1) (hK _ h2 h3)
/-- A struct that is built of parts may be taken first. -/
theorem yieldsIf_bd (hw : Region.wanted o (yielded ops a.tmps) = true) (ty : TypeId) (parts : Array (Nat × Operand)) (ho : o.op = .build ty parts) (pv : Array (Nat × Value)) (hp : (parts.map fun p => (p.1, a.eval p.2)) = pv) (cells : Array Value) (hb : P.built ty pv.toList = some cells) :
    YieldsIf P ops S o (.agg cells) a := .inl ⟨hw, fun w _ => by
  have hrun := run_build (P := P) w ty pv cells hb
  subst hp
  unfold execOp
  simp only [ho, Sem.run_bind, hrun, Result.andThen_ok]
  rfl⟩
end

theorem bdC {A A2 : Option Addr} {n n2 c c2 : Nat} {b : Bool} : Try.prog.built 61 [(0, .slice A n c), (1, .slice A2 n2 c2), (2, .bool b)] = some ([.slice A n c, .slice A2 n2 c2, .bool b] : List Value).toArray := by kernel_rfl
theorem bdC2 {A A2 : Option Addr} {n n2 c c2 : Nat} : Try.prog.built 61 [(0, .slice A n c), (1, .slice A2 n2 c2)] = some ([.slice A n c, .slice A2 n2 c2, .bool false] : List Value).toArray := by kernel_rfl

section
variable {w w' w2 : World} {g : Nat} {S : Nat → Nat → Prop} {T R : Nat → Prop} {f : Fi} {v u : Sl} {vs us : Nat → Sl} {lv : Int} {D : Dsk}
theorem pdc_put0 (D : Dsk) (vs us : Nat → Sl) (lv : Int) (f : Fi) (v u : Sl) : (((pdc D vs us lv).set 1 v.v).set 2 u.v).set 3 (.bool f.is) = pdc (D.put 0 f) (upd vs 0 v) (upd us 0 u) lv := rfl
theorem pdc_put1 (D : Dsk) (vs us : Nat → Sl) (lv : Int) (f : Fi) (v u : Sl) : (((pdc D vs us lv).set 4 v.v).set 5 u.v).set 6 (.bool f.is) = pdc (D.put 1 f) (upd vs 1 v) (upd us 1 u) lv := rfl
theorem pdc_put (D : Dsk) (vs us : Nat → Sl) (lv : Int) (f : Fi) (v u : Sl) {j : Nat} (hj : j < 2) : (((pdc D vs us lv).set (1 + j * 3) v.v).set (1 + j * 3 + 1) u.v).set (1 + j * 3 + 2) (.bool f.is) = pdc (D.put j f) (upd vs j v) (upd us j u) lv := by
  obtain rfl | rfl : j = 0 ∨ j = 1 := by omega
  · rfl
  · rfl
theorem pdc_len (D : Dsk) (vs us : Nat → Sl) (lv : Int) : (pdc D vs us lv).length = 10 := rfl
theorem pdc_sub (D : Dsk) (vs us : Nat → Sl) (lv : Int) {j : Nat} (hj : j < 2) : Sub (pdc D vs us lv).toArray (1 + j * 3) (fc (D.f j) (vs j) (us j)) := by
  obtain rfl | rfl : j = 0 ∨ j = 1 := by omega
  · exact Sub.mid [.int .i64 D.lim] (fc (D.f 0) (vs 0) (us 0)) [(vs 1).v, (us 1).v, .bool (D.f 1).is, .bool D.dead, .bool D.armed, .int .i64 lv] 1 rfl
  · exact Sub.mid [.int .i64 D.lim, (vs 0).v, (us 0).v, .bool (D.f 0).is] (fc (D.f 1) (vs 1) (us 1)) [.bool D.dead, .bool D.armed, .int .i64 lv] 4 rfl
/-- File j gives place to another one. -/
theorem PD.fput (h : PD w g S vs us lv D) {j : Nat} (hj : j < 2) (hc : Chg w w2 (S j)) (ht : Turn w2 w' (some g)) (hb : Blk w' g 64 (pdc (D.put j f) (upd vs j v) (upd us j u) lv).toArray)
    (hf : Fil w2 R f v u) (hR : ∀ k, R k → S j k ∨ (w.heap.size ≤ k ∧ k < w2.heap.size)) (hk : f.Ok) : PD w' g (upd S j R) (upd vs j v) (upd us j u) lv (D.put j f) := by
  have hgl := h.b.lt
  have gR : ¬ R g := fun k => (hR g k).elim (h.ng j hj) (fun e => by omega)
  have ct : Chg w2 w' (fun k => k = g) := Chg.of ht fun i e => by injection e with e; exact e.symm
  have cw : Chg w w' (fun k => S j k ∨ k = g) := (hc.mono (T := fun k => S j k ∨ k = g) fun i hi => .inl (.inl hi)).trans ct fun i hi => .inl (.inr hi)
  have hl2 := hc.size
  have hl3 := ht.size
  have dis : ∀ k, S j k → ¬ S (1 - j) k := by
    obtain rfl | rfl : j = 0 ∨ j = 1 := by omega
    · exact fun k h1 h2 => h.ap k h1 h2
    · exact fun k h1 h2 => h.ap k h2 h1
  have disR : ∀ k, R k → ¬ S (1 - j) k := fun k h1 h2 => (hR k h1).elim (fun h3 => dis k h3 h2) (fun h3 => by have := h.lt (1 - j) k (by omega) h2; omega)
  refine ⟨hb, fun i hi => ?_, fun k h1 h2 => ?_, fun i hi h1 => ?_, fun i k hi h1 => ?_, h.lv, h.ok.put hk⟩
  · by_cases hij : i = j
    · subst hij
      show Fil w' (upd S i R i) (upd D.f i f i) (upd vs i v i) (upd us i u i)
      rw [upd_same, upd_same, upd_same, upd_same]
      exact hf.chg ct fun k hk e => gR (e ▸ hk)
    · show Fil w' (upd S j R i) (upd D.f j f i) (upd vs j v i) (upd us j u i)
      rw [upd_ne _ _ hij, upd_ne _ _ hij, upd_ne _ _ hij, upd_ne _ _ hij]
      refine (h.f i hi).chg cw fun k hk e => ?_
      have hi2 : i = 1 - j := by omega
      rcases e with e | e
      · exact dis k e (hi2 ▸ hk)
      · exact h.ng i hi (e ▸ hk)
  · obtain rfl | rfl : j = 0 ∨ j = 1 := by omega
    · exact disR k h1 h2
    · exact disR k h2 h1
  · by_cases hij : i = j
    · subst hij; rw [upd_same] at h1; exact gR h1
    · rw [upd_ne _ _ hij] at h1; exact h.ng i hi h1
  · by_cases hij : i = j
    · subst hij; rw [upd_same] at h1; exact (hR k h1).elim (fun h3 => by have := h.lt i k hi h3; omega) (fun h3 => by omega)
    · rw [upd_ne _ _ hij] at h1; have := h.lt i k hi h1; omega
end

set_option maxRecDepth 100000 in
set_option maxHeartbeats 800000 in
theorem fits_any {w : World} {g : Nat} {S : Nat → Nat → Prop} {v u : Nat → Sl} {lv : Int} {D : Dsk} (h : PD w g S v u lv D) (f : Fi) (x y : Sl) (z : Nat) (hx : x.n ≤ 140737521909760) (hz : z ≤ 562949953421312) :
    Calls Try.prog 53 #[.pointer (some ⟨g, 0, none⟩), .agg (fc f x y).toArray, .int .i64 (z : Int)] w fun e w' => e = .returned (.bool (decide ((D.size : Int) - x.n + z ≤ D.lim))) ∧ Turn w w' none := by
  have hsz := h.ok.size
  have hw1 : IntKind.i64.wrap ((D.size : Int) - x.n) = (D.size : Int) - x.n := by rw [IntKind.wrap_i64]; omega
  have hw2 : IntKind.i64.wrap ((D.size : Int) - x.n + z) = (D.size : Int) - x.n + z := by rw [IntKind.wrap_i64]; omega
  have HW := hid hw1
  have HW2 := hid hw2
  clear hw1 hw2
  go_enter Try.func53, Try.ntmps53
  go_wp2_with (first
    | (refine wp_bx rfl 61 _ rfl rfl ?_; intro g1 w1 hg1 hb1 ht1))
  have h1 := h.turn0 ht1
  have C0 : ∀ W, Turn (World.drew w1) W none → W.cell? ⟨g1, 0, none⟩ = some (.slice x.A x.n x.c) := fun W h => (hb1.drew.turn0 h).ats (j := 0) (v := .slice x.A x.n x.c) rfl
  have C1 : ∀ W, Turn (World.drew w1) W none → W.cell? ⟨g, 0, none⟩ = some (.int .i64 D.lim) := fun W hW => (h1.b.drew.turn0 hW).ats (j := 0) rfl
  refine wp_region_noPanic ?_
  refine wp_region_held_drew (S := fun W => Turn w1 W none) (by kernel_rfl) (Turn.refl _ none).drew (fun hHeld => ?_)
  refine wpAnyH_more (S' := fun W => Turn (World.drew w1) W none) (fun W h => (Turn.refl _ none).drew.trans h) _ _ _ _ ?_
  clear hHeld
  have hHeld : (fun W => Turn (World.drew w1) W none) (World.drew w1) := Turn.refl _ none
  (first | (refine wpAnyH_take (i := 0) (v := undef) rfl (by kernel_rfl) (by kernel_rfl) (by kernel_rfl) (fun _ _ _ h => h) (Or.inr ⟨rfl, rfl⟩) (by assumption) ?_) | (refine wpAnyH_take (i := 0) (v := ?_) rfl (by kernel_rfl) (by kernel_rfl) (by kernel_rfl) (fun _ _ _ h => h) (Or.inl ⟨rfl, ?_⟩) (by assumption) ?_; rotate_left 1; · (intro w hSw; (try dsimp only at hSw); go_simp; (try with_reducible rfl)))); (try simp only [Act.put, List.getElem_toArray, List.getElem_cons_zero, List.getElem_cons_succ, List.setIfInBounds_toArray, List.set_cons_zero, List.set_cons_succ])
  (first | (refine wpAnyH_take (i := 2) (v := undef) rfl (by kernel_rfl) (by kernel_rfl) (by kernel_rfl) (fun _ _ _ h => h) (Or.inr ⟨rfl, rfl⟩) (by assumption) ?_) | (refine wpAnyH_take (i := 2) (v := ?_) rfl (by kernel_rfl) (by kernel_rfl) (by kernel_rfl) (fun _ _ _ h => h) (Or.inl ⟨rfl, ?_⟩) (by assumption) ?_; rotate_left 1; · (intro w hSw; (try dsimp only at hSw); go_simp; (try with_reducible rfl)))); (try simp only [Act.put, List.getElem_toArray, List.getElem_cons_zero, List.getElem_cons_succ, List.setIfInBounds_toArray, List.set_cons_zero, List.set_cons_succ])
  (first | (refine wpAnyH_take (i := 3) (v := undef) rfl (by kernel_rfl) (by kernel_rfl) (by kernel_rfl) (fun _ _ _ h => h) (Or.inr ⟨rfl, rfl⟩) (by assumption) ?_) | (refine wpAnyH_take (i := 3) (v := ?_) rfl (by kernel_rfl) (by kernel_rfl) (by kernel_rfl) (fun _ _ _ h => h) (Or.inl ⟨rfl, ?_⟩) (by assumption) ?_; rotate_left 1; · (intro w hSw; (try dsimp only at hSw); go_simp; (try with_reducible rfl)))); (try simp only [Act.put, List.getElem_toArray, List.getElem_cons_zero, List.getElem_cons_succ, List.setIfInBounds_toArray, List.set_cons_zero, List.set_cons_succ])
  (first | (refine wpAnyH_take (i := 4) (v := undef) rfl (by kernel_rfl) (by kernel_rfl) (by kernel_rfl) (fun _ _ _ h => h) (Or.inr ⟨rfl, rfl⟩) (by assumption) ?_) | (refine wpAnyH_take (i := 4) (v := ?_) rfl (by kernel_rfl) (by kernel_rfl) (by kernel_rfl) (fun _ _ _ h => h) (Or.inl ⟨rfl, ?_⟩) (by assumption) ?_; rotate_left 1; · (intro w hSw; (try dsimp only at hSw); go_simp; (try with_reducible rfl)))); (try simp only [Act.put, List.getElem_toArray, List.getElem_cons_zero, List.getElem_cons_succ, List.setIfInBounds_toArray, List.set_cons_zero, List.set_cons_succ])
  (first | (refine wpAnyH_take (i := 6) (v := undef) rfl (by kernel_rfl) (by kernel_rfl) (by kernel_rfl) (fun _ _ _ h => h) (Or.inr ⟨rfl, rfl⟩) (by assumption) ?_) | (refine wpAnyH_take (i := 6) (v := ?_) rfl (by kernel_rfl) (by kernel_rfl) (by kernel_rfl) (fun _ _ _ h => h) (Or.inl ⟨rfl, ?_⟩) (by assumption) ?_; rotate_left 1; · (intro w hSw; (try dsimp only at hSw); go_simp; (try with_reducible rfl)))); (try simp only [Act.put, List.getElem_toArray, List.getElem_cons_zero, List.getElem_cons_succ, List.setIfInBounds_toArray, List.set_cons_zero, List.set_cons_succ])
  (first | (refine wpAnyH_take (i := 8) (v := undef) rfl (by kernel_rfl) (by kernel_rfl) (by kernel_rfl) (fun _ _ _ h => h) (Or.inr ⟨rfl, rfl⟩) (by assumption) ?_) | (refine wpAnyH_take (i := 8) (v := ?_) rfl (by kernel_rfl) (by kernel_rfl) (by kernel_rfl) (fun _ _ _ h => h) (Or.inl ⟨rfl, ?_⟩) (by assumption) ?_; rotate_left 1; · (intro w hSw; (try dsimp only at hSw); go_simp; (try with_reducible rfl)))); (try simp only [Act.put, List.getElem_toArray, List.getElem_cons_zero, List.getElem_cons_succ, List.setIfInBounds_toArray, List.set_cons_zero, List.set_cons_succ])
  (first | (refine wpAnyH_take (i := 9) (v := undef) rfl (by kernel_rfl) (by kernel_rfl) (by kernel_rfl) (fun _ _ _ h => h) (Or.inr ⟨rfl, rfl⟩) (by assumption) ?_) | (refine wpAnyH_take (i := 9) (v := ?_) rfl (by kernel_rfl) (by kernel_rfl) (by kernel_rfl) (fun _ _ _ h => h) (Or.inl ⟨rfl, ?_⟩) (by assumption) ?_; rotate_left 1; · (intro w hSw; (try dsimp only at hSw); go_simp; (try with_reducible rfl)))); (try simp only [Act.put, List.getElem_toArray, List.getElem_cons_zero, List.getElem_cons_succ, List.setIfInBounds_toArray, List.set_cons_zero, List.set_cons_succ])
  (first | (refine wpAnyH_take (i := 10) (v := undef) rfl (by kernel_rfl) (by kernel_rfl) (by kernel_rfl) (fun _ _ _ h => h) (Or.inr ⟨rfl, rfl⟩) (by assumption) ?_) | (refine wpAnyH_take (i := 10) (v := ?_) rfl (by kernel_rfl) (by kernel_rfl) (by kernel_rfl) (fun _ _ _ h => h) (Or.inl ⟨rfl, ?_⟩) (by assumption) ?_; rotate_left 1; · (intro w hSw; (try dsimp only at hSw); go_simp; (try with_reducible rfl)))); (try simp only [Act.put, List.getElem_toArray, List.getElem_cons_zero, List.getElem_cons_succ, List.setIfInBounds_toArray, List.set_cons_zero, List.set_cons_succ])
  (first | (refine wpAnyH_take (i := 11) (v := undef) rfl (by kernel_rfl) (by kernel_rfl) (by kernel_rfl) (fun _ _ _ h => h) (Or.inr ⟨rfl, rfl⟩) (by assumption) ?_) | (refine wpAnyH_take (i := 11) (v := ?_) rfl (by kernel_rfl) (by kernel_rfl) (by kernel_rfl) (fun _ _ _ h => h) (Or.inl ⟨rfl, ?_⟩) (by assumption) ?_; rotate_left 1; · (intro w hSw; (try dsimp only at hSw); go_simp; (try with_reducible rfl)))); (try simp only [Act.put, List.getElem_toArray, List.getElem_cons_zero, List.getElem_cons_succ, List.setIfInBounds_toArray, List.set_cons_zero, List.set_cons_succ])
  refine wpAnyH_ready (rs := [1]) (by kernel_rfl) (by simp) ?_
  refine AllReadyH.cons rfl (fun K hK => ?_) AllReadyH.nil
  go_simp
  refine (dksz_any (h1.turn0 ((Turn.refl w1 none).drew))).mono ?_
  rintro e w2 ⟨rfl, ht2⟩
  refine hK.out _ _ ht2 (fun hHeld => ?_); clear hK K; (try simp only [Act.put, List.getElem_toArray, List.getElem_cons_zero, List.getElem_cons_succ, List.setIfInBounds_toArray, List.set_cons_zero, List.set_cons_succ])
  (first | (refine wpAnyH_take (i := 5) (v := undef) rfl (by kernel_rfl) (by kernel_rfl) (by kernel_rfl) (fun _ _ _ h => h) (Or.inr ⟨rfl, rfl⟩) (by assumption) ?_) | (refine wpAnyH_take (i := 5) (v := ?_) rfl (by kernel_rfl) (by kernel_rfl) (by kernel_rfl) (fun _ _ _ h => h) (Or.inl ⟨rfl, ?_⟩) (by assumption) ?_; rotate_left 1; · (intro w hSw; (try dsimp only at hSw); go_simp; (try with_reducible rfl)))); (try simp only [Act.put, List.getElem_toArray, List.getElem_cons_zero, List.getElem_cons_succ, List.setIfInBounds_toArray, List.set_cons_zero, List.set_cons_succ])
  (first | (refine wpAnyH_take (i := 7) (v := undef) rfl (by kernel_rfl) (by kernel_rfl) (by kernel_rfl) (fun _ _ _ h => h) (Or.inr ⟨rfl, rfl⟩) (by assumption) ?_) | (refine wpAnyH_take (i := 7) (v := ?_) rfl (by kernel_rfl) (by kernel_rfl) (by kernel_rfl) (fun _ _ _ h => h) (Or.inl ⟨rfl, ?_⟩) (by assumption) ?_; rotate_left 1; · (intro w hSw; (try dsimp only at hSw); go_simp; (try with_reducible rfl)))); (try simp only [Act.put, List.getElem_toArray, List.getElem_cons_zero, List.getElem_cons_succ, List.setIfInBounds_toArray, List.set_cons_zero, List.set_cons_succ])
  (first | (refine wpAnyH_take (i := 12) (v := undef) rfl (by kernel_rfl) (by kernel_rfl) (by kernel_rfl) (fun _ _ _ h => h) (Or.inr ⟨rfl, rfl⟩) (by assumption) ?_) | (refine wpAnyH_take (i := 12) (v := ?_) rfl (by kernel_rfl) (by kernel_rfl) (by kernel_rfl) (fun _ _ _ h => h) (Or.inl ⟨rfl, ?_⟩) (by assumption) ?_; rotate_left 1; · (intro w hSw; (try dsimp only at hSw); go_simp; (try with_reducible rfl)))); (try simp only [Act.put, List.getElem_toArray, List.getElem_cons_zero, List.getElem_cons_succ, List.setIfInBounds_toArray, List.set_cons_zero, List.set_cons_succ])
  (first | (refine wpAnyH_take (i := 13) (v := undef) rfl (by kernel_rfl) (by kernel_rfl) (by kernel_rfl) (fun _ _ _ h => h) (Or.inr ⟨rfl, rfl⟩) (by assumption) ?_) | (refine wpAnyH_take (i := 13) (v := ?_) rfl (by kernel_rfl) (by kernel_rfl) (by kernel_rfl) (fun _ _ _ h => h) (Or.inl ⟨rfl, ?_⟩) (by assumption) ?_; rotate_left 1; · (intro w hSw; (try dsimp only at hSw); go_simp; (try with_reducible rfl)))); (try simp only [Act.put, List.getElem_toArray, List.getElem_cons_zero, List.getElem_cons_succ, List.setIfInBounds_toArray, List.set_cons_zero, List.set_cons_succ])
  refine wpAnyH_done (by kernel_rfl) ?_ _
  refine NoPanic.normal ?_
  clear hHeld
  go_wp2
  go_ret
  exact ⟨by rw [HW.out, HW2.out]; rfl, ht1.trans ht2.undrew⟩

set_option maxRecDepth 100000 in
set_option maxHeartbeats 800000 in
theorem standing_any (x : Sl) (w : World) :
    Calls Try.prog 38 #[x.v] w fun e w' => e = .returned (.agg ([x.v, x.v, .bool false] : List Value).toArray) ∧ Turn w w' none := by
  obtain ⟨A, n, c⟩ := x
  show Calls Try.prog 38 #[.slice A n c] w fun e w' => e = .returned (.agg ([.slice A n c, .slice A n c, .bool false] : List Value).toArray) ∧ Turn w w' none
  go_enter Try.func38, Try.ntmps38
  go_wp2_with (first
    | (refine wp_bd rfl 61 _ rfl _ rfl _ bdC2 ?_)
    | (refine wp_st (xs := [.slice A n c, .slice A n c, .bool false]) rfl 61 _ _ rfl rfl rfl (Blk.new w _ _) rfl szC (ones3 rfl rfl rfl) ?_; intro w3 hb3 ht3))
  refine ret_cell rfl rfl rfl hb3 Try.underlying61 rfl szC ?_
  exact ⟨rfl, ((Turn.refl w none).alloc _).new ht3 (by simp)⟩
end Go.Proofs.Ytjekglnbmccnjaa
/-
  Layer 14: Read, Sync, Write, Replace (contracts of the code).
-/
namespace Go.Proofs.Ytjekglnbmccnjaa
set_option linter.unusedSimpArgs false
set_option linter.unusedVariables false
open Go.RowKit

theorem fErr_nat {n : Int} (h : fErr n = 0) : ∃ j : Nat, j < 2 ∧ n = (j : Int) := by
  unfold fErr at h
  split at h
  · omega
  · exact ⟨n.toNat, by omega, by omega⟩
theorem fErr_no {n : Int} (h : fErr n ≠ 0) : fErr n = 1 := by
  unfold fErr at h ⊢
  split
  · rfl
  · rename_i h2; rw [if_neg h2] at h; exact absurd rfl h
theorem cErr_cases (D : Dsk) (n : Int) : (D.cErr n = 0 ∧ ∃ j : Nat, j < 2 ∧ n = (j : Int)) ∨ D.cErr n = 140 ∨ D.cErr n = 1 := by
  unfold Dsk.cErr
  split
  · exact .inr (.inl rfl)
  · by_cases h : fErr n = 0
    · exact .inl ⟨h, fErr_nat h⟩
    · exact .inr (.inr (fErr_no h))
theorem dErr_cases (D : Dsk) (n : Int) : (D.dErr n = 0 ∧ ∃ j : Nat, j < 2 ∧ n = (j : Int)) ∨ D.dErr n = 140 ∨ D.dErr n = 1 := by
  unfold Dsk.dErr
  split
  · exact .inr (.inl rfl)
  · by_cases h : fErr n = 0
    · exact .inl ⟨h, fErr_nat h⟩
    · exact .inr (.inr (fErr_no h))

set_option maxRecDepth 100000 in
set_option maxHeartbeats 1600000 in
theorem read_any {w : World} {g : Nat} {S : Nat → Nat → Prop} {v u : Nat → Sl} {lv : Int} {D : Dsk} (h : PD w g S v u lv D) (n : Int) :
    Calls Try.prog 10 #[.pointer (some ⟨g, 0, none⟩), .int .i64 n] w fun e w' => ∃ A c,
      e = .returned (.tuple #[.slice A (D.rd n).length c, .int .i64 (D.dErr n)]) ∧ Own w' w.heap.size 5 1 A (D.rd n).length c (vbs (D.rd n)) ∧ Turn w w' none := by
  rcases dErr_cases D n with ⟨he, j, hj, rfl⟩ | he | he
  · have hrd : D.rd (j : Int) = (D.f j).all := by unfold Dsk.rd; rw [if_pos he, Int.toNat_natCast]
    rw [hrd]
    clear hrd
    have hl := look_any h (j : Int)
    rw [he] at hl
    rw [he]
    clear he
    have hf := h.f j hj
    have hal := (h.ok.f j hj).all
    have hvn := hf.vn
    have hcl := clone_any (v j).A (v j).n (v j).c (D.f j).all w.heap.size w hf.hv.rd (Nat.le_refl _) (by omega)
    have hc := h.b.at_ (pdc_sub D v u lv hj) (j := 0) (v := .slice (v j).A (v j).n (v j).c) rfl
    rw [Nat.add_zero] at hc
    obtain ⟨L, hL⟩ : ∃ L, L = (D.f j).all.length := ⟨_, rfl⟩
    rw [← hL]
    rw [← hL] at hvn
    rw [hvn] at hc hcl
    clear hL hvn hal
    obtain rfl | rfl : j = 0 ∨ j = 1 := by omega
    all_goals
      go_enter Try.func10, Try.ntmps10
      go_wp2_with (first
        | (go_at_call 30; refine hl.mono ?_; rintro e w1 ⟨rfl, rfl⟩)
        | (go_at_call 31; refine hcl.mono ?_; rintro e w2 ⟨A2, c2, rfl, ho2, ht2⟩))
      go_ret2
      exact ⟨A2, c2, rfl, ho2, ht2⟩
  · have hrd : D.rd n = [] := by unfold Dsk.rd; rw [he]; rfl
    rw [hrd]
    have hl := look_any h n
    rw [he] at hl
    rw [he]
    clear he hrd
    go_enter Try.func10, Try.ntmps10
    go_wp2_with (first
      | (go_at_call 30; refine hl.mono ?_; rintro e w1 ⟨rfl, rfl⟩))
    go_ret2
    exact ⟨none, 0, rfl, Own.nil _ _ _ _, Turn.refl w none⟩
  · have hrd : D.rd n = [] := by unfold Dsk.rd; rw [he]; rfl
    rw [hrd]
    have hl := look_any h n
    rw [he] at hl
    rw [he]
    clear he hrd
    go_enter Try.func10, Try.ntmps10
    go_wp2_with (first
      | (go_at_call 30; refine hl.mono ?_; rintro e w1 ⟨rfl, rfl⟩))
    go_ret2
    exact ⟨none, 0, rfl, Own.nil _ _ _ _, Turn.refl w none⟩

/-- What a call of the program's leaves: the disk, in blocks of its own, and what else has turned. -/
def Pk (w : World) (g : Nat) (R : Nat → Prop) (D : Dsk) : Prop := ∃ S v u lv, PD w g S v u lv D ∧ ∀ k, (k = g ∨ S 0 k ∨ S 1 k) ↔ R k
def NewR (w w' : World) (R : Nat → Prop) : Nat → Prop := fun k => R k ∨ (w.heap.size ≤ k ∧ k < w'.heap.size)
theorem Pk.lt {w : World} {g : Nat} {R : Nat → Prop} {D : Dsk} (h : Pk w g R D) {k : Nat} (hk : R k) : k < w.heap.size := by
  obtain ⟨S, v, u, lv, hp, hr⟩ := h
  rcases (hr k).2 hk with rfl | h1 | h1
  · exact hp.b.lt
  · exact hp.lt 0 k (by omega) h1
  · exact hp.lt 1 k (by omega) h1
theorem Pk.chg {w w' : World} {g : Nat} {T R : Nat → Prop} {D : Dsk} (h : Pk w g R D) (hc : Chg w w' T) (hd : ∀ k, R k → ¬ T k) : Pk w' g R D := by
  obtain ⟨S, v, u, lv, hp, hR⟩ := h
  refine ⟨S, v, u, lv, hp.chg hc (fun e => hd g ((hR g).1 (.inl rfl)) e) (fun i k hi hk e => hd k ((hR k).1 ?_) e), hR⟩
  obtain rfl | rfl : i = 0 ∨ i = 1 := by omega
  · exact .inr (.inl hk)
  · exact .inr (.inr hk)
/-- A step of the disk. -/
def Stp (w w' : World) (R : Nat → Prop) (g : Nat) (D' : Dsk) : Prop := Chg w w' R ∧ ∃ R', Pk w' g R' D' ∧ ∀ k, R' k → R k ∨ w.heap.size ≤ k
theorem Stp.refl {w : World} {R : Nat → Prop} {g : Nat} {D : Dsk} (h : Pk w g R D) : Stp w w R g D := ⟨Chg.refl w R, R, h, fun _ h => .inl h⟩
theorem PD.stp {w w' : World} {R : Nat → Prop} {g : Nat} {S : Nat → Nat → Prop} {v u : Nat → Sl} {lv : Int} {D : Dsk} (h : PD w' g S v u lv D) (hc : Chg w w' R) (hk : ∀ k, (k = g ∨ S 0 k ∨ S 1 k) → R k ∨ w.heap.size ≤ k) : Stp w w' R g D :=
  ⟨hc, _, ⟨S, v, u, lv, h, fun _ => Iff.rfl⟩, hk⟩

/-- Behind a call that was refused. -/
theorem PD.no {w w1 : World} {R : Nat → Prop} {g : Nat} {S : Nat → Nat → Prop} {v u : Nat → Sl} {lv : Int} {D : Dsk} (h : PD w1 g S v u lv D) (ht : Turn w w1 (some g)) (hR : ∀ k, (k = g ∨ S 0 k ∨ S 1 k) ↔ R k) : Stp w w1 R g D :=
  h.stp (Chg.of ht fun i e => by injection e with e; exact e ▸ (hR g).1 (.inl rfl)) fun k hk => .inl ((hR k).1 hk)
/-- Behind a call that put another file in a file's place. -/
theorem PD.yes {w w1 w2 w3 : World} {R : Nat → Prop} {g j : Nat} {S : Nat → Nat → Prop} {T : Nat → Prop} {vs us : Nat → Sl} {lv : Int} {D : Dsk} {f : Fi} {v u : Sl} (h : PD w1 g S vs us lv D) (ht : Turn w w1 (some g)) (hR : ∀ k, (k = g ∨ S 0 k ∨ S 1 k) ↔ R k) (hj : j < 2)
    (hc : Chg w1 w2 (S j)) (t3 : Turn w2 w3 (some g)) (hb : Blk w3 g 64 ((((pdc D vs us lv).set (1 + j * 3) v.v).set (1 + j * 3 + 1) u.v).set (1 + j * 3 + 2) (.bool f.is)).toArray)
    (hf : Fil w2 T f v u) (hT : ∀ k, T k → S j k ∨ (w1.heap.size ≤ k ∧ k < w2.heap.size)) (hk : f.Ok) : Stp w w3 R g (D.put j f) := by
  have hSR : ∀ k, S j k → R k := fun k hk => (hR k).1 (by
    obtain rfl | rfl : j = 0 ∨ j = 1 := by omega
    · exact .inr (.inl hk)
    · exact .inr (.inr hk))
  have c1 : Chg w w1 R := Chg.of ht fun i e => by injection e with e; exact e ▸ (hR g).1 (.inl rfl)
  have c2 : Chg w w2 R := c1.trans hc fun i hi => .inl (hSR i hi)
  have c3 : Chg w w3 R := c2.trans (Chg.of (S := R) t3 fun i e => by injection e with e; exact e ▸ (hR g).1 (.inl rfl)) fun i hi => .inl hi
  refine (h.fput hj hc t3 (pdc_put D vs us lv f v u hj ▸ hb) hf hT hk).stp c3 fun k hq => ?_
  have s1 := ht.size
  have one : ∀ i, i < 2 → upd S j T i k → R k ∨ w.heap.size ≤ k := fun i hi hq => by
    by_cases hij : i = j
    · subst hij
      rw [upd_same] at hq
      rcases hT k hq with h1 | h1
      · exact .inl (hSR k h1)
      · exact .inr (by omega)
    · rw [upd_ne _ _ hij] at hq
      refine .inl ((hR k).1 ?_)
      obtain rfl | rfl : i = 0 ∨ i = 1 := by omega
      · exact .inr (.inl hq)
      · exact .inr (.inr hq)
  rcases hq with hq | hq | hq
  · exact .inl ((hR k).1 (.inl hq))
  · exact one 0 (by omega) hq
  · exact one 1 (by omega) hq
theorem rangeJ {w : World} {g : Nat} {S : Nat → Nat → Prop} {v u : Nat → Sl} {lv : Int} {D : Dsk} (h : PD w g S v u lv D) {j : Nat} (hj : j < 2) : w.rangeAt g (1 + j * 3) (fc (D.f j) (v j) (u j)) := h.b.range (pdc_sub D v u lv hj)

set_option maxRecDepth 100000 in
set_option maxHeartbeats 1600000 in
theorem sync_any {w : World} {g : Nat} {R : Nat → Prop} {D : Dsk} (h : Pk w g R D) (n : Int) :
    Calls Try.prog 36 #[.pointer (some ⟨g, 0, none⟩), .int .i64 n] w fun e w' => e = .returned (.int .i64 (D.cErr n)) ∧ Stp w w' R g (D.sy n) := by
  obtain ⟨S, v, u, lv, hp, hR⟩ := h
  have hcl := call_any hp n
  rcases cErr_cases D n with ⟨he, j, hj, rfl⟩ | he | he
  · have hsy : D.sy (j : Int) = D.cnt.put j (stF (D.f j).all) := by unfold Dsk.sy; rw [if_pos he, Int.toNat_natCast]
    rw [hsy]
    clear hsy
    rw [he] at hcl
    rw [he]
    clear he
    have fin : ∀ lv1 w1 w2 w3, PD w1 g S v u lv1 D.cnt → Turn w w1 (some g) → Turn w1 w2 none → Turn w2 w3 (some g) → Blk w3 g 64 (((((pdc D.cnt v u lv1).set (1 + j * 3) (v j).v).set (1 + j * 3 + 1) (v j).v).set (1 + j * 3 + 2) (.bool false))).toArray → Stp w w3 R g (D.cnt.put j (stF (D.f j).all)) := by
      intro lv1 w1 w2 w3 h1 t1 t2 t3 hb3
      have hf := h1.f j hj
      rw [Dsk.cnt_f] at hf
      have hk := (h1.ok.f j hj).all
      rw [Dsk.cnt_f] at hk
      have hn : Fil w2 (S j) (stF (D.f j).all) (v j) (v j) := ⟨by rw [stF_all]; exact hf.hv.turn0 t2, hf.hv.turn0 t2, hf.sv, hf.sv, fun _ _ _ => by rw [stF_all]; exact List.prefix_rfl⟩
      exact h1.yes t1 hR hj (Chg.of0 t2 _) t3 hb3 hn (fun k hk => .inl hk) (stF_ok hk)
    obtain rfl | rfl : j = 0 ∨ j = 1 := by omega
    all_goals
      go_enter Try.func36, Try.ntmps36
      go_wp2_with (first
        | (go_at_call 52; refine hcl.mono ?_; rintro e w1 ⟨rfl, t1, lv1, h1⟩))
    · have c1 : w1.cell? ⟨g, 1, none⟩ = some (.slice (v 0).A (v 0).n (v 0).c) := h1.b.ats (j := 1) rfl
      refine wp_region_noPanic ?_
      refine wp_region_held_drew (S := (fun W => W.cell? ⟨g, 1, none⟩ = some (.slice (v 0).A (v 0).n (v 0).c))) (by kernel_rfl) (c1) (fun hHeld => ?_)
      (first | (refine wpAnyH_take (i := 0) (v := undef) rfl (by kernel_rfl) (by kernel_rfl) (by kernel_rfl) (fun _ _ _ h => h) (Or.inr ⟨rfl, rfl⟩) (by assumption) ?_) | (refine wpAnyH_take (i := 0) (v := ?_) rfl (by kernel_rfl) (by kernel_rfl) (by kernel_rfl) (fun _ _ _ h => h) (Or.inl ⟨rfl, ?_⟩) (by assumption) ?_; rotate_left 1; · (intro w hSw; (try dsimp only at hSw); go_simp; (try with_reducible rfl)))); (try simp only [Act.put, List.getElem_toArray, List.getElem_cons_zero, List.getElem_cons_succ, List.setIfInBounds_toArray, List.set_cons_zero, List.set_cons_succ])
      (first | (refine wpAnyH_take (i := 1) (v := undef) rfl (by kernel_rfl) (by kernel_rfl) (by kernel_rfl) (fun _ _ _ h => h) (Or.inr ⟨rfl, rfl⟩) (by assumption) ?_) | (refine wpAnyH_take (i := 1) (v := ?_) rfl (by kernel_rfl) (by kernel_rfl) (by kernel_rfl) (fun _ _ _ h => h) (Or.inl ⟨rfl, ?_⟩) (by assumption) ?_; rotate_left 1; · (intro w hSw; (try dsimp only at hSw); go_simp; (try with_reducible rfl)))); (try simp only [Act.put, List.getElem_toArray, List.getElem_cons_zero, List.getElem_cons_succ, List.setIfInBounds_toArray, List.set_cons_zero, List.set_cons_succ])
      (first | (refine wpAnyH_take (i := 2) (v := undef) rfl (by kernel_rfl) (by kernel_rfl) (by kernel_rfl) (fun _ _ _ h => h) (Or.inr ⟨rfl, rfl⟩) (by assumption) ?_) | (refine wpAnyH_take (i := 2) (v := ?_) rfl (by kernel_rfl) (by kernel_rfl) (by kernel_rfl) (fun _ _ _ h => h) (Or.inl ⟨rfl, ?_⟩) (by assumption) ?_; rotate_left 1; · (intro w hSw; (try dsimp only at hSw); go_simp; (try with_reducible rfl)))); (try simp only [Act.put, List.getElem_toArray, List.getElem_cons_zero, List.getElem_cons_succ, List.setIfInBounds_toArray, List.set_cons_zero, List.set_cons_succ])
      (first | (refine wpAnyH_take (i := 3) (v := undef) rfl (by kernel_rfl) (by kernel_rfl) (by kernel_rfl) (fun _ _ _ h => h) (Or.inr ⟨rfl, rfl⟩) (by assumption) ?_) | (refine wpAnyH_take (i := 3) (v := ?_) rfl (by kernel_rfl) (by kernel_rfl) (by kernel_rfl) (fun _ _ _ h => h) (Or.inl ⟨rfl, ?_⟩) (by assumption) ?_; rotate_left 1; · (intro w hSw; (try dsimp only at hSw); go_simp; (try with_reducible rfl)))); (try simp only [Act.put, List.getElem_toArray, List.getElem_cons_zero, List.getElem_cons_succ, List.setIfInBounds_toArray, List.set_cons_zero, List.set_cons_succ])
      (first | (refine wpAnyH_take (i := 4) (v := undef) rfl (by kernel_rfl) (by kernel_rfl) (by kernel_rfl) (fun _ _ _ h => h) (Or.inr ⟨rfl, rfl⟩) (by assumption) ?_) | (refine wpAnyH_take (i := 4) (v := ?_) rfl (by kernel_rfl) (by kernel_rfl) (by kernel_rfl) (fun _ _ _ h => h) (Or.inl ⟨rfl, ?_⟩) (by assumption) ?_; rotate_left 1; · (intro w hSw; (try dsimp only at hSw); go_simp; (try with_reducible rfl)))); (try simp only [Act.put, List.getElem_toArray, List.getElem_cons_zero, List.getElem_cons_succ, List.setIfInBounds_toArray, List.set_cons_zero, List.set_cons_succ])
      (first | (refine wpAnyH_take (i := 5) (v := undef) rfl (by kernel_rfl) (by kernel_rfl) (by kernel_rfl) (fun _ _ _ h => h) (Or.inr ⟨rfl, rfl⟩) (by assumption) ?_) | (refine wpAnyH_take (i := 5) (v := ?_) rfl (by kernel_rfl) (by kernel_rfl) (by kernel_rfl) (fun _ _ _ h => h) (Or.inl ⟨rfl, ?_⟩) (by assumption) ?_; rotate_left 1; · (intro w hSw; (try dsimp only at hSw); go_simp; (try with_reducible rfl)))); (try simp only [Act.put, List.getElem_toArray, List.getElem_cons_zero, List.getElem_cons_succ, List.setIfInBounds_toArray, List.set_cons_zero, List.set_cons_succ])
      (first | (refine wpAnyH_take (i := 6) (v := undef) rfl (by kernel_rfl) (by kernel_rfl) (by kernel_rfl) (fun _ _ _ h => h) (Or.inr ⟨rfl, rfl⟩) (by assumption) ?_) | (refine wpAnyH_take (i := 6) (v := ?_) rfl (by kernel_rfl) (by kernel_rfl) (by kernel_rfl) (fun _ _ _ h => h) (Or.inl ⟨rfl, ?_⟩) (by assumption) ?_; rotate_left 1; · (intro w hSw; (try dsimp only at hSw); go_simp; (try with_reducible rfl)))); (try simp only [Act.put, List.getElem_toArray, List.getElem_cons_zero, List.getElem_cons_succ, List.setIfInBounds_toArray, List.set_cons_zero, List.set_cons_succ])
      (first | (refine wpAnyH_take (i := 7) (v := undef) rfl (by kernel_rfl) (by kernel_rfl) (by kernel_rfl) (fun _ _ _ h => h) (Or.inr ⟨rfl, rfl⟩) (by assumption) ?_) | (refine wpAnyH_take (i := 7) (v := ?_) rfl (by kernel_rfl) (by kernel_rfl) (by kernel_rfl) (fun _ _ _ h => h) (Or.inl ⟨rfl, ?_⟩) (by assumption) ?_; rotate_left 1; · (intro w hSw; (try dsimp only at hSw); go_simp; (try with_reducible rfl)))); (try simp only [Act.put, List.getElem_toArray, List.getElem_cons_zero, List.getElem_cons_succ, List.setIfInBounds_toArray, List.set_cons_zero, List.set_cons_succ])
      (first | (refine wpAnyH_take (i := 8) (v := undef) rfl (by kernel_rfl) (by kernel_rfl) (by kernel_rfl) (fun _ _ _ h => h) (Or.inr ⟨rfl, rfl⟩) (by assumption) ?_) | (refine wpAnyH_take (i := 8) (v := ?_) rfl (by kernel_rfl) (by kernel_rfl) (by kernel_rfl) (fun _ _ _ h => h) (Or.inl ⟨rfl, ?_⟩) (by assumption) ?_; rotate_left 1; · (intro w hSw; (try dsimp only at hSw); go_simp; (try with_reducible rfl)))); (try simp only [Act.put, List.getElem_toArray, List.getElem_cons_zero, List.getElem_cons_succ, List.setIfInBounds_toArray, List.set_cons_zero, List.set_cons_succ])
      (first | (refine wpAnyH_take (i := 10) (v := undef) rfl (by kernel_rfl) (by kernel_rfl) (by kernel_rfl) (fun _ _ _ h => h) (Or.inr ⟨rfl, rfl⟩) (by assumption) ?_) | (refine wpAnyH_take (i := 10) (v := ?_) rfl (by kernel_rfl) (by kernel_rfl) (by kernel_rfl) (fun _ _ _ h => h) (Or.inl ⟨rfl, ?_⟩) (by assumption) ?_; rotate_left 1; · (intro w hSw; (try dsimp only at hSw); go_simp; (try with_reducible rfl)))); (try simp only [Act.put, List.getElem_toArray, List.getElem_cons_zero, List.getElem_cons_succ, List.setIfInBounds_toArray, List.set_cons_zero, List.set_cons_succ])
      (first | (refine wpAnyH_take (i := 11) (v := undef) rfl (by kernel_rfl) (by kernel_rfl) (by kernel_rfl) (fun _ _ _ h => h) (Or.inr ⟨rfl, rfl⟩) (by assumption) ?_) | (refine wpAnyH_take (i := 11) (v := ?_) rfl (by kernel_rfl) (by kernel_rfl) (by kernel_rfl) (fun _ _ _ h => h) (Or.inl ⟨rfl, ?_⟩) (by assumption) ?_; rotate_left 1; · (intro w hSw; (try dsimp only at hSw); go_simp; (try with_reducible rfl)))); (try simp only [Act.put, List.getElem_toArray, List.getElem_cons_zero, List.getElem_cons_succ, List.setIfInBounds_toArray, List.set_cons_zero, List.set_cons_succ])
      refine wpAnyH_ready (rs := [9]) (by kernel_rfl) (by simp) ?_
      refine AllReadyH.cons rfl (fun K hK => ?_) AllReadyH.nil
      go_simp
      refine (standing_any (v 0) _).mono ?_
      rintro e w2 ⟨rfl, t2⟩
      have b2 := h1.b.drew.turn0 t2
      refine hK.out _ _ (b2.ats (j := 1) rfl) (fun hHeld => ?_); clear hK K; (try simp only [Act.put, List.getElem_toArray, List.getElem_cons_zero, List.getElem_cons_succ, List.setIfInBounds_toArray, List.set_cons_zero, List.set_cons_succ])
      (first | (refine wpAnyH_take (i := 12) (v := undef) rfl (by kernel_rfl) (by kernel_rfl) (by kernel_rfl) (fun _ _ _ h => h) (Or.inr ⟨rfl, rfl⟩) (by assumption) ?_) | (refine wpAnyH_take (i := 12) (v := ?_) rfl (by kernel_rfl) (by kernel_rfl) (by kernel_rfl) (fun _ _ _ h => h) (Or.inl ⟨rfl, ?_⟩) (by assumption) ?_; rotate_left 1; · (intro w hSw; (try dsimp only at hSw); go_simp; (try with_reducible rfl)))); (try simp only [Act.put, List.getElem_toArray, List.getElem_cons_zero, List.getElem_cons_succ, List.setIfInBounds_toArray, List.set_cons_zero, List.set_cons_succ])
      refine wpAnyH_ready (rs := [13]) (by kernel_rfl) (by simp) ?_; refine AllReadyH.cons rfl (fun K hK => ?_) AllReadyH.nil
      refine gd_dst3 rfl 61 _ _ rfl rfl rfl b2 (by rw [pdc_len]; omega) (by kernel_rfl) (ones3 rfl rfl rfl) ?_
      intro w3 hb3 t3
      refine hK.out _ _ (hb3.ats (j := 1) rfl) (fun hHeld => ?_); clear hK K; (try simp only [Act.put, List.getElem_toArray, List.getElem_cons_zero, List.getElem_cons_succ, List.setIfInBounds_toArray, List.set_cons_zero, List.set_cons_succ])
      refine wpAnyH_done (by kernel_rfl) ?_ _
      refine NoPanic.normal ?_
      clear hHeld
      go_wp2
      go_ret
      exact ⟨rfl, fin _ _ _ _ h1 t1 t2.undrew t3 hb3⟩
    · have c1 : w1.cell? ⟨g, 4, none⟩ = some (.slice (v 1).A (v 1).n (v 1).c) := h1.b.ats (j := 4) rfl
      refine wp_region_noPanic ?_
      refine wp_region_held_drew (S := (fun W => W.cell? ⟨g, 4, none⟩ = some (.slice (v 1).A (v 1).n (v 1).c))) (by kernel_rfl) (c1) (fun hHeld => ?_)
      (first | (refine wpAnyH_take (i := 0) (v := undef) rfl (by kernel_rfl) (by kernel_rfl) (by kernel_rfl) (fun _ _ _ h => h) (Or.inr ⟨rfl, rfl⟩) (by assumption) ?_) | (refine wpAnyH_take (i := 0) (v := ?_) rfl (by kernel_rfl) (by kernel_rfl) (by kernel_rfl) (fun _ _ _ h => h) (Or.inl ⟨rfl, ?_⟩) (by assumption) ?_; rotate_left 1; · (intro w hSw; (try dsimp only at hSw); go_simp; (try with_reducible rfl)))); (try simp only [Act.put, List.getElem_toArray, List.getElem_cons_zero, List.getElem_cons_succ, List.setIfInBounds_toArray, List.set_cons_zero, List.set_cons_succ])
      (first | (refine wpAnyH_take (i := 1) (v := undef) rfl (by kernel_rfl) (by kernel_rfl) (by kernel_rfl) (fun _ _ _ h => h) (Or.inr ⟨rfl, rfl⟩) (by assumption) ?_) | (refine wpAnyH_take (i := 1) (v := ?_) rfl (by kernel_rfl) (by kernel_rfl) (by kernel_rfl) (fun _ _ _ h => h) (Or.inl ⟨rfl, ?_⟩) (by assumption) ?_; rotate_left 1; · (intro w hSw; (try dsimp only at hSw); go_simp; (try with_reducible rfl)))); (try simp only [Act.put, List.getElem_toArray, List.getElem_cons_zero, List.getElem_cons_succ, List.setIfInBounds_toArray, List.set_cons_zero, List.set_cons_succ])
      (first | (refine wpAnyH_take (i := 2) (v := undef) rfl (by kernel_rfl) (by kernel_rfl) (by kernel_rfl) (fun _ _ _ h => h) (Or.inr ⟨rfl, rfl⟩) (by assumption) ?_) | (refine wpAnyH_take (i := 2) (v := ?_) rfl (by kernel_rfl) (by kernel_rfl) (by kernel_rfl) (fun _ _ _ h => h) (Or.inl ⟨rfl, ?_⟩) (by assumption) ?_; rotate_left 1; · (intro w hSw; (try dsimp only at hSw); go_simp; (try with_reducible rfl)))); (try simp only [Act.put, List.getElem_toArray, List.getElem_cons_zero, List.getElem_cons_succ, List.setIfInBounds_toArray, List.set_cons_zero, List.set_cons_succ])
      (first | (refine wpAnyH_take (i := 3) (v := undef) rfl (by kernel_rfl) (by kernel_rfl) (by kernel_rfl) (fun _ _ _ h => h) (Or.inr ⟨rfl, rfl⟩) (by assumption) ?_) | (refine wpAnyH_take (i := 3) (v := ?_) rfl (by kernel_rfl) (by kernel_rfl) (by kernel_rfl) (fun _ _ _ h => h) (Or.inl ⟨rfl, ?_⟩) (by assumption) ?_; rotate_left 1; · (intro w hSw; (try dsimp only at hSw); go_simp; (try with_reducible rfl)))); (try simp only [Act.put, List.getElem_toArray, List.getElem_cons_zero, List.getElem_cons_succ, List.setIfInBounds_toArray, List.set_cons_zero, List.set_cons_succ])
      (first | (refine wpAnyH_take (i := 4) (v := undef) rfl (by kernel_rfl) (by kernel_rfl) (by kernel_rfl) (fun _ _ _ h => h) (Or.inr ⟨rfl, rfl⟩) (by assumption) ?_) | (refine wpAnyH_take (i := 4) (v := ?_) rfl (by kernel_rfl) (by kernel_rfl) (by kernel_rfl) (fun _ _ _ h => h) (Or.inl ⟨rfl, ?_⟩) (by assumption) ?_; rotate_left 1; · (intro w hSw; (try dsimp only at hSw); go_simp; (try with_reducible rfl)))); (try simp only [Act.put, List.getElem_toArray, List.getElem_cons_zero, List.getElem_cons_succ, List.setIfInBounds_toArray, List.set_cons_zero, List.set_cons_succ])
      (first | (refine wpAnyH_take (i := 5) (v := undef) rfl (by kernel_rfl) (by kernel_rfl) (by kernel_rfl) (fun _ _ _ h => h) (Or.inr ⟨rfl, rfl⟩) (by assumption) ?_) | (refine wpAnyH_take (i := 5) (v := ?_) rfl (by kernel_rfl) (by kernel_rfl) (by kernel_rfl) (fun _ _ _ h => h) (Or.inl ⟨rfl, ?_⟩) (by assumption) ?_; rotate_left 1; · (intro w hSw; (try dsimp only at hSw); go_simp; (try with_reducible rfl)))); (try simp only [Act.put, List.getElem_toArray, List.getElem_cons_zero, List.getElem_cons_succ, List.setIfInBounds_toArray, List.set_cons_zero, List.set_cons_succ])
      (first | (refine wpAnyH_take (i := 6) (v := undef) rfl (by kernel_rfl) (by kernel_rfl) (by kernel_rfl) (fun _ _ _ h => h) (Or.inr ⟨rfl, rfl⟩) (by assumption) ?_) | (refine wpAnyH_take (i := 6) (v := ?_) rfl (by kernel_rfl) (by kernel_rfl) (by kernel_rfl) (fun _ _ _ h => h) (Or.inl ⟨rfl, ?_⟩) (by assumption) ?_; rotate_left 1; · (intro w hSw; (try dsimp only at hSw); go_simp; (try with_reducible rfl)))); (try simp only [Act.put, List.getElem_toArray, List.getElem_cons_zero, List.getElem_cons_succ, List.setIfInBounds_toArray, List.set_cons_zero, List.set_cons_succ])
      (first | (refine wpAnyH_take (i := 7) (v := undef) rfl (by kernel_rfl) (by kernel_rfl) (by kernel_rfl) (fun _ _ _ h => h) (Or.inr ⟨rfl, rfl⟩) (by assumption) ?_) | (refine wpAnyH_take (i := 7) (v := ?_) rfl (by kernel_rfl) (by kernel_rfl) (by kernel_rfl) (fun _ _ _ h => h) (Or.inl ⟨rfl, ?_⟩) (by assumption) ?_; rotate_left 1; · (intro w hSw; (try dsimp only at hSw); go_simp; (try with_reducible rfl)))); (try simp only [Act.put, List.getElem_toArray, List.getElem_cons_zero, List.getElem_cons_succ, List.setIfInBounds_toArray, List.set_cons_zero, List.set_cons_succ])
      (first | (refine wpAnyH_take (i := 8) (v := undef) rfl (by kernel_rfl) (by kernel_rfl) (by kernel_rfl) (fun _ _ _ h => h) (Or.inr ⟨rfl, rfl⟩) (by assumption) ?_) | (refine wpAnyH_take (i := 8) (v := ?_) rfl (by kernel_rfl) (by kernel_rfl) (by kernel_rfl) (fun _ _ _ h => h) (Or.inl ⟨rfl, ?_⟩) (by assumption) ?_; rotate_left 1; · (intro w hSw; (try dsimp only at hSw); go_simp; (try with_reducible rfl)))); (try simp only [Act.put, List.getElem_toArray, List.getElem_cons_zero, List.getElem_cons_succ, List.setIfInBounds_toArray, List.set_cons_zero, List.set_cons_succ])
      (first | (refine wpAnyH_take (i := 10) (v := undef) rfl (by kernel_rfl) (by kernel_rfl) (by kernel_rfl) (fun _ _ _ h => h) (Or.inr ⟨rfl, rfl⟩) (by assumption) ?_) | (refine wpAnyH_take (i := 10) (v := ?_) rfl (by kernel_rfl) (by kernel_rfl) (by kernel_rfl) (fun _ _ _ h => h) (Or.inl ⟨rfl, ?_⟩) (by assumption) ?_; rotate_left 1; · (intro w hSw; (try dsimp only at hSw); go_simp; (try with_reducible rfl)))); (try simp only [Act.put, List.getElem_toArray, List.getElem_cons_zero, List.getElem_cons_succ, List.setIfInBounds_toArray, List.set_cons_zero, List.set_cons_succ])
      (first | (refine wpAnyH_take (i := 11) (v := undef) rfl (by kernel_rfl) (by kernel_rfl) (by kernel_rfl) (fun _ _ _ h => h) (Or.inr ⟨rfl, rfl⟩) (by assumption) ?_) | (refine wpAnyH_take (i := 11) (v := ?_) rfl (by kernel_rfl) (by kernel_rfl) (by kernel_rfl) (fun _ _ _ h => h) (Or.inl ⟨rfl, ?_⟩) (by assumption) ?_; rotate_left 1; · (intro w hSw; (try dsimp only at hSw); go_simp; (try with_reducible rfl)))); (try simp only [Act.put, List.getElem_toArray, List.getElem_cons_zero, List.getElem_cons_succ, List.setIfInBounds_toArray, List.set_cons_zero, List.set_cons_succ])
      refine wpAnyH_ready (rs := [9]) (by kernel_rfl) (by simp) ?_
      refine AllReadyH.cons rfl (fun K hK => ?_) AllReadyH.nil
      go_simp
      refine (standing_any (v 1) _).mono ?_
      rintro e w2 ⟨rfl, t2⟩
      have b2 := h1.b.drew.turn0 t2
      refine hK.out _ _ (b2.ats (j := 4) rfl) (fun hHeld => ?_); clear hK K; (try simp only [Act.put, List.getElem_toArray, List.getElem_cons_zero, List.getElem_cons_succ, List.setIfInBounds_toArray, List.set_cons_zero, List.set_cons_succ])
      (first | (refine wpAnyH_take (i := 12) (v := undef) rfl (by kernel_rfl) (by kernel_rfl) (by kernel_rfl) (fun _ _ _ h => h) (Or.inr ⟨rfl, rfl⟩) (by assumption) ?_) | (refine wpAnyH_take (i := 12) (v := ?_) rfl (by kernel_rfl) (by kernel_rfl) (by kernel_rfl) (fun _ _ _ h => h) (Or.inl ⟨rfl, ?_⟩) (by assumption) ?_; rotate_left 1; · (intro w hSw; (try dsimp only at hSw); go_simp; (try with_reducible rfl)))); (try simp only [Act.put, List.getElem_toArray, List.getElem_cons_zero, List.getElem_cons_succ, List.setIfInBounds_toArray, List.set_cons_zero, List.set_cons_succ])
      refine wpAnyH_ready (rs := [13]) (by kernel_rfl) (by simp) ?_; refine AllReadyH.cons rfl (fun K hK => ?_) AllReadyH.nil
      refine gd_dst3 rfl 61 _ _ rfl rfl rfl b2 (by rw [pdc_len]; omega) (by kernel_rfl) (ones3 rfl rfl rfl) ?_
      intro w3 hb3 t3
      refine hK.out _ _ (hb3.ats (j := 4) rfl) (fun hHeld => ?_); clear hK K; (try simp only [Act.put, List.getElem_toArray, List.getElem_cons_zero, List.getElem_cons_succ, List.setIfInBounds_toArray, List.set_cons_zero, List.set_cons_succ])
      refine wpAnyH_done (by kernel_rfl) ?_ _
      refine NoPanic.normal ?_
      clear hHeld
      go_wp2
      go_ret
      exact ⟨rfl, fin _ _ _ _ h1 t1 t2.undrew t3 hb3⟩
  all_goals
    have hsy : D.sy n = D.cnt := by unfold Dsk.sy; rw [he]; rfl
    rw [hsy]
    rw [he] at hcl
    rw [he]
    clear he hsy
    go_enter Try.func36, Try.ntmps36
    go_wp2_with (first
      | (go_at_call 52; refine hcl.mono ?_; rintro e w1 ⟨rfl, t1, lv1, h1⟩))
    go_ret
    exact ⟨rfl, h1.no t1 hR⟩
end Go.Proofs.Ytjekglnbmccnjaa
