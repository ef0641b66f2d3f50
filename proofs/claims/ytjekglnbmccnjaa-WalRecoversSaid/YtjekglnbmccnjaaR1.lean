import Derived.Test.YtjekglnbmccnjaaG10
import Derived.Test.YtjekglnbmccnjaaG11
import Derived.Test.YtjekglnbmccnjaaF1
import Derived.Laws.BitsLemmas
set_option linter.unusedSimpArgs false
set_option linter.unusedVariables false
set_option linter.unusedSectionVars false
/-
  Layer 5: what frame.cut does, at bytes a little longer than a machine holds.
-/
namespace Go.Proofs.Ytjekglnbmccnjaa
set_option linter.unusedSimpArgs false
set_option linter.unusedVariables false
open Go.RowKit

theorem cut_yesB {l : List UInt8} {B n b0 off S n0 k0 : Nat} {w w' : World} {R : Option Addr} (hr : Rd w B 1 (some ⟨b0, off, none⟩) n (vbs l)) (hB : B ≤ w.heap.size) (hS : S ≤ n) (hm : n ≤ 140738000000000) (HF : fTake l = ((l.drop k0).take n0, S, 0))
    (HS : S = n0 + 4 + k0) (ht : Turn w w' none) (hR : R = if S - 4 = k0 then some ⟨b0, off, none⟩ else some ⟨b0, off + k0, none⟩) {q : Nat} (hq : q = S - 4 - k0) :
    CutPost (some ⟨b0, off, none⟩) l B w (.returned (.tuple #[.slice R q q, .int .i64 (S : Int), .int .i64 0])) w' := by
  obtain rfl : q = n0 := by omega
  clear hq
  refine ⟨R, q, q, by rw [HF]; rfl, ?_, Nat.le_refl _, by unfold maxLen; omega, ?_, ht⟩
  · rw [HF]
    by_cases h : q = 0
    · subst h
      rw [List.take_zero]
      exact Rd.none_ _ B 1 0
    · rw [hR, if_neg (by omega)]
      exact ((hr.turn0 ht hB).tailB (c := n + 1) (by omega) (by omega) (by omega)).takeB (by omega)
  · intro g hg
    rw [hR] at hg
    split at hg <;> exact hg

set_option maxRecDepth 100000 in
set_option maxHeartbeats 800000 in
theorem cut_anyB (A : Option Addr) (n c : Nat) (l : List UInt8) (B : Nat) (w : World) (hr : Rd w B 1 A n (vbs l)) (hB : B ≤ w.heap.size) (hnc : n ≤ c) (hc : c ≤ maxLen) (hn : n ≤ 140738000000000) :
    Calls Try.prog 76 #[.slice A n c] w (CutPost A l B w) := by
  have hl := hr.len
  rw [vbs_len] at hl
  have hS8 := hid (show pSize (4611686018427387903 : Int).toNat = 8 by decide)
  obtain ⟨n0, k0, e0, hp⟩ : ∃ n0 k0 e0, pTake l = (n0, k0, e0) := ⟨_, _, _, rfl⟩
  have hcase : (8 < (n : Int) ∧ Rd w B 1 A 8 (vbs (l.take 8)) ∧ Hid (pTake (l.take 8) = (n0, k0, e0))) ∨ ((n : Int) ≤ 8 ∧ Rd w B 1 A n (vbs l) ∧ Hid (pTake l = (n0, k0, e0))) := by
    rcases Nat.lt_or_ge 8 n with h | h
    · refine .inl ⟨by omega, hr.takeB (by omega), hid ?_⟩
      have := pTake_most l
      rw [hl, Nat.min_eq_right (by omega), hp] at this
      exact this
    · exact .inr ⟨by omega, hr, hid hp⟩
  unfold maxLen at hc
  by_cases he : e0 = 0
  · subst he
    obtain ⟨hk, hk0, hkl, _⟩ := pTake_ok hp
    have hk8 := pSize_le n0
    by_cases hlong : 1048576 < n0
    · have hlong2 : (1048576 : Int) < n0 := by omega
      have hn62 : n0 < 4611686018427387904 := by rcases pSize_cases n0 with h | h | h | h | h <;> omega
      have HF := hid (fTake_long hp hlong)
      rcases hcase with ⟨hn8, hrm, HPM⟩ | ⟨hn8, hrm, HPM⟩
      all_goals
        go_enter Try.func76, Try.ntmps76
        go_wp2_with (first
          | (go_at_call 66; refine (size_any _ _ (by omega) (by omega)).mono ?_; rintro e w' ⟨rfl, rfl⟩; rw [hS8.out])
          | (go_at_call 63; refine (take_any _ _ _ _ B _ hrm hB (by omega) (by unfold maxLen; omega) (by omega)).mono ?_; rintro e w1 ⟨R, m, c1, rfl, ho1, ht1⟩; rw [HPM.out]))
        go_ret3
        exact cut_no HF.out ht1
    · have hlong2 : (n0 : Int) ≤ 1048576 := by omega
      obtain ⟨S, hS⟩ : ∃ S, S = n0 + 4 + k0 := ⟨_, rfl⟩
      have HZ := hid (show zSize (n0 : Int) = (S : Int) by unfold zSize fSize; rw [if_pos (by omega), Int.toNat_natCast, hk, ← hS])
      have HK := hid (show pSize (n0 : Int).toNat = k0 by rw [Int.toNat_natCast, hk])
      by_cases hfew : n < S
      · have HF := hid (fTake_few hp (by omega) (by omega))
        have hfew2 : (n : Int) < S := by omega
        rcases hcase with ⟨hn8, hrm, HPM⟩ | ⟨hn8, hrm, HPM⟩
        all_goals
          go_enter Try.func76, Try.ntmps76
          go_wp2_with (first
            | (go_at_call 66; refine (size_any _ _ (by omega) (by omega)).mono ?_; rintro e w' ⟨rfl, rfl⟩; rw [hS8.out])
            | (go_at_call 63; refine (take_any _ _ _ _ B _ hrm hB (by omega) (by unfold maxLen; omega) (by omega)).mono ?_; rintro e w1 ⟨R, m, c1, rfl, ho1, ht1⟩; rw [HPM.out])
            | (go_at_call 65; refine (fsize_any _ _ (by omega) (by omega)).mono ?_; rintro e w' ⟨rfl, rfl⟩; rw [HZ.out]))
          go_ret3
          exact cut_no HF.out ht1
      · have hfew2 : (S : Int) ≤ n := by omega
        have hff := fTake_fine hp (by omega) (by omega)
        rw [← hS] at hff
        have hrS : Rd w B 1 A S (vbs (l.take S)) := hr.takeB (by omega)
        have HS := hid hS
        have hSb : S ≤ 1048600 := by omega
        have hS4 : 4 + (k0 : Int) ≤ S := by omega
        clear hS
        by_cases hg : cGood (l.take S) = true
        · have HF := hid (hff.trans (if_pos hg))
          have HG := hid hg
          clear hff hg
          obtain ⟨b0, off, rfl, _, _⟩ := hr.head (by omega)
          rcases hcase with ⟨hn8, hrm, HPM⟩ | ⟨hn8, hrm, HPM⟩
          all_goals
            go_enter Try.func76, Try.ntmps76
            go_wp2_with (first
              | (go_at_call_of 66 n0; refine (size_any _ _ (by omega) (by omega)).mono ?_; rintro e w' ⟨rfl, rfl⟩; rw [HK.out])
              | (go_at_call 66; refine (size_any _ _ (by omega) (by omega)).mono ?_; rintro e w' ⟨rfl, rfl⟩; rw [hS8.out])
              | (go_at_call 63; refine (take_any _ _ _ _ B _ hrm hB (by omega) (by unfold maxLen; omega) (by omega)).mono ?_; rintro e w1 ⟨R, m, c1, rfl, ho1, ht1⟩; rw [HPM.out])
              | (go_at_call 65; refine (fsize_any _ _ (by omega) (by omega)).mono ?_; rintro e w' ⟨rfl, rfl⟩; rw [HZ.out])
              | (go_at_call 80; refine (good_any _ _ _ (l.take S) B _ (hrS.turn0 ht1 hB) (Nat.le_trans hB ht1.size) (by omega) (by unfold maxLen; omega) (by omega)).mono ?_; rintro e w2 ⟨rfl, ht2⟩; rw [HG.out]))
            all_goals go_ret3
            all_goals exact cut_yesB hr hB (by omega) (by omega) HF.out HS.out (ht1.trans ht2) (by first | (rw [if_pos (by assumption)]; done) | (rw [if_neg (by assumption)]; done)) (by first | rfl | omega)
        · have HF := hid (hff.trans (if_neg hg))
          have HG := hid (show cGood (l.take S) = false by simpa using hg)
          clear hff hg
          rcases hcase with ⟨hn8, hrm, HPM⟩ | ⟨hn8, hrm, HPM⟩
          all_goals
            go_enter Try.func76, Try.ntmps76
            go_wp2_with (first
              | (go_at_call 66; refine (size_any _ _ (by omega) (by omega)).mono ?_; rintro e w' ⟨rfl, rfl⟩; rw [hS8.out])
              | (go_at_call 63; refine (take_any _ _ _ _ B _ hrm hB (by omega) (by unfold maxLen; omega) (by omega)).mono ?_; rintro e w1 ⟨R, m, c1, rfl, ho1, ht1⟩; rw [HPM.out])
              | (go_at_call 65; refine (fsize_any _ _ (by omega) (by omega)).mono ?_; rintro e w' ⟨rfl, rfl⟩; rw [HZ.out])
              | (go_at_call 80; refine (good_any _ _ _ (l.take S) B _ (hrS.turn0 ht1 hB) (Nat.le_trans hB ht1.size) (by omega) (by unfold maxLen; omega) (by omega)).mono ?_; rintro e w2 ⟨rfl, ht2⟩; rw [HG.out]))
            go_ret3
            exact cut_no HF.out (ht1.trans ht2)
  · have he2 : ((e0 : Int) == 0) = false := by rw [beq_eq_false_iff_ne]; omega
    have HF := hid (fTake_err hp he)
    rcases hcase with ⟨hn8, hrm, HPM⟩ | ⟨hn8, hrm, HPM⟩
    all_goals
      go_enter Try.func76, Try.ntmps76
      go_wp2_with (first
        | (go_at_call 66; refine (size_any _ _ (by omega) (by omega)).mono ?_; rintro e w' ⟨rfl, rfl⟩; rw [hS8.out])
        | (go_at_call 63; refine (take_any _ _ _ _ B _ hrm hB (by omega) (by unfold maxLen; omega) (by omega)).mono ?_; rintro e w1 ⟨R, m, c1, rfl, ho1, ht1⟩; rw [HPM.out]))
      go_ret3
      exact cut_no HF.out ht1
end Go.Proofs.Ytjekglnbmccnjaa
/-
  Layer 5: what frame.Scan does, at bytes a little longer than a machine holds, of few frames.
-/
namespace Go.Proofs.Ytjekglnbmccnjaa
set_option linter.unusedSimpArgs false
set_option linter.unusedVariables false
open Go.RowKit

set_option maxRecDepth 100000 in
set_option maxHeartbeats 800000 in
theorem fscan_anyB (A : Option Addr) (n c : Nat) (l : List UInt8) (B : Nat) (w : World) (hr : Rd w B 1 A n (vbs l)) (hB : B ≤ w.heap.size) (hn : n ≤ 140737521909760) (hq : (fScan l).1.length ≤ 1099511627776) :
    Calls Try.prog 64 #[.slice A n c] w (ScPost l w) := by
  have hl := hr.len
  rw [vbs_len] at hl
  go_enter Try.func64, Try.ntmps64
  go_wp2_with (go_at_call 31; refine (clone_any _ _ _ l B _ hr hB (by omega)).mono ?_; rintro e w1 ⟨A1, c1, rfl, ho1, ht1⟩)
  have hrd := ho1.rd
  have hcap := ho1.cap
  go_loopw [6, 7] (fun v i wr => ∃ (j : Nat) (A2 : Option Addr) (n2 c2 : Nat) (vs : List Value) (rows : List (List UInt8)), j ≤ n ∧ i = .int .i64 (j : Int) ∧ v = .slice A2 n2 c2 ∧ Ow wr w1.heap.size 34 A2 n2 c2 vs rows ∧ Turn w1 wr none ∧ ScAt l rows j) (fun _ i _ => (n - intOf i).toNat)
  case atStart => exact ⟨0, none, 0, 0, [], [], by omega, rfl, rfl, Ow.made (Own.nil _ _ _ _), Turn.refl w1 none, ScAt.zero l⟩
  case round =>
    obtain ⟨j, A2, n2, c2, vs, rows, hj, rfl, rfl, how, htr, hsc⟩ := hrel
    by_cases hjn : j < n
    · obtain ⟨g, rfl, hg1, hg2⟩ := ho1.head (by omega)
      have hne : ¬ c1 = j := by omega
      have htail := (hrd.tailB (c := c1) (k := j) (by omega) hcap.1 hne).turn0 htr (Nat.le_refl _)
      rw [Nat.zero_add] at htail
      have hjc : j ≤ c1 := by omega
      have hcm : c1 ≤ 9223372036854775807 := by have := hcap.2; unfold maxLen at this; omega
      obtain ⟨x, k, e0, hp⟩ : ∃ x k e0, fTake (l.drop j) = (x, k, e0) := ⟨_, _, _, rfl⟩
      have hpost : ∀ {e : Ending} {w' : World}, CutPost (some ⟨g, j, none⟩) (l.drop j) w1.heap.size wr e w' → ∃ R m c', e = .returned (.tuple #[.slice R m c', .int .i64 (k : Int), .int .i64 (e0 : Int)]) ∧ Rd w' w1.heap.size 1 R m (vbs x) ∧ m ≤ c' ∧ c' ≤ maxLen ∧ (∀ b, blk R = some b → b = g) ∧ Turn wr w' none := by
        rintro e w' ⟨R, m, c', h1, h2, h3, h4, h6, h5⟩
        rw [hp] at h1 h2
        exact ⟨R, m, c', h1, h2, h3, h4, fun b hb => by have := h6 b hb; simp only [blk, Option.some.injEq] at this; exact this.symm, h5⟩
      by_cases he : e0 = 0
      · subst he
        obtain ⟨h5, hkn, _, _⟩ := fTake_ok hp
        rw [List.length_drop, hl] at hkn
        have hsn := hid (hsc.next hp)
        have hrl := hid how.2.1
        have hrn : n2 = rows.length := by rw [← how.2.1]; exact how.1.len.symm
        have h5n : n2 * 5 ≤ j := by rw [hrn]; exact hsc.2
        have h5q : n2 ≤ 1099511627776 := by
          have e := congrArg (fun q : List (List UInt8) × Nat × Nat => q.1.length) hsc.1
          simp only [List.length_append] at e
          omega
        clear hp hsc hrn
        go_wp2_with (first
          | (go_at_call 76; refine (cut_anyB _ _ _ (l.drop j) w1.heap.size _ htail htr.size (by omega) (by unfold maxLen; omega) (by omega)).mono ?_; intro e w2 hC; obtain ⟨R, m, c', rfl, hR, hm, hcm2, hRb, ht2⟩ := hpost hC)
          | (at_builtin; refine wp_app rfl _ _ _ rfl elR rfl rfl ((how.turn0 ht2).1.alloc _) (Rd.lit _ _ _) (by repeat (first | exact ones_nil | refine ones_cons rfl ?_)) (by unfold maxLen; first | omega | (simp; done) | (simp; omega)) (by first | omega | (simp; done) | (simp; omega)) (by have := htr.size; have := ht2.size; first | omega | (simp; omega)) ?_; intro A3 c3 w3 ho3 ht3 hb3))
        have hT2 := htr.trans ht2
        have hal : (w2.alloc (.cells #[Value.slice R m c'] 34)).heap.size = w2.heap.size + 1 := Array.size_push ..
        have hs := ((how.turn0 ht2).turn0 ((Turn.refl w2 none).alloc (.cells #[Value.slice R m c'] 34))).snoc (l := x) (m := m) (k := c') ((hR.alloc hT2.size _).mono (by have := hT2.size; omega))
          (fun b hb => by
            have e := hRb b hb
            subst e
            have := hT2.size
            exact ⟨by omega, fun e2 => by have := (how.1.block _ e2).1; omega⟩) hm hcm2 ho3 ht3 hb3
        refine ⟨⟨j + k, A3, n2 + 1, c3, _, _, by omega, by go_num, rfl, hs, (hT2.alloc _).new ht3 (fun b hb => (how.1.block b hb).1), hsn.out⟩, ?_⟩
        simp [intOf]; omega
      · have hst := hid (hsc.stop (by omega) he (by rw [hp]))
        have he2 : ((e0 : Int) == 0) = false := by rw [beq_eq_false_iff_ne]; omega
        clear hp hsc
        go_wp2_with (go_at_call 76; refine (cut_anyB _ _ _ (l.drop j) w1.heap.size _ htail htr.size (by omega) (by unfold maxLen; omega) (by omega)).mono ?_; intro e w2 hC; obtain ⟨R, m, c', rfl, hR, hm, hcm2, hRb, ht2⟩ := hpost hC)
        go_ret3
        exact ⟨A2, n2, c2, vs, by rw [hst.out]; rfl, by rw [hst.out]; exact ow_mono (how.turn0 ht2) ht1.size, (ht1.trans htr).trans ht2⟩
    · have hst := hid (hsc.whole (by omega))
      clear hsc
      go_wp2
      go_ret3
      exact ⟨A2, n2, c2, vs, by rw [hst.out]; rfl, by rw [hst.out]; exact ow_mono how ht1.size, ht1.trans htr⟩
end Go.Proofs.Ytjekglnbmccnjaa
/-
  Layer 15: the code's takeLog, load, Open at bytes a little longer than a machine holds, of few frames (contracts).
-/
namespace Go.Proofs.Ytjekglnbmccnjaa
set_option linter.unusedSimpArgs false
set_option linter.unusedVariables false
open Go.RowKit

theorem tkGo_len (first : Nat) : ∀ (rows recs : List (List UInt8)) (e : Nat), (tkGo first rows recs e).1.length ≤ recs.length + rows.length
  | [], recs, e => by rw [tkGo]; simp
  | x :: rows, recs, e => by
    rw [tkGo]
    have h1 := tkGo_len first rows recs (e + fSize x.length)
    have h2 := tkGo_len first rows (recs ++ [pRest x]) (e + fSize x.length)
    rw [List.length_append, List.length_singleton] at h2
    rw [List.length_cons]
    repeat' split
    · show recs.length ≤ _; omega
    · omega
    · omega
    · show recs.length ≤ _; omega
theorem wGo_rows (first : Nat) (lg : List UInt8) : (wGo lg.length first [] first lg).1.length ≤ (fScan lg).1.length := by
  have h1 := (takeLog_is first lg).1
  have h2 := tkGo_len first (fScan lg).1 [] 0
  rw [h1, List.length_nil, Nat.zero_add] at h2
  exact h2

set_option maxRecDepth 100000 in
set_option maxHeartbeats 1600000 in
theorem takeLog_anyB (A : Option Addr) (n c : Nat) (l : List UInt8) (first B : Nat) (w : World) (hr : Rd w B 1 A n (vbs l)) (hB : B ≤ w.heap.size) (hn : n ≤ 140737521909760) (hq : (fScan l).1.length ≤ 1099511627776) (hf : first ≤ 4611686018427387904) :
    Calls Try.prog 49 #[.slice A n c, .int .u64 (first : Int)] w (TlPost first l w) := by
  have hl := hr.len
  rw [vbs_len] at hl
  obtain ⟨hrows, _⟩ := fScan_rows l.length l (Nat.le_refl _)
  have hcount := hq
  have hT := (takeLog_is first l).1
  have fin : ∀ (recs : List (List UInt8)) (en : Nat) (wr : World) (A2 : Option Addr) (n2 c2 : Nat) (vs : List Value), tkGo first (fScan l).1 [] 0 = (recs, en) → Ow wr w.heap.size 34 A2 n2 c2 vs recs → Fr w.heap.size vs → Turn w wr none → TlPost first l w (.returned (.tuple #[.slice A2 n2 c2, .int .i64 (en : Int)])) wr := by
    intro recs en wr A2 n2 c2 vs h1 h2 h3 h4
    rw [hT] at h1
    injection h1 with e1 e2
    unfold TlPost
    rw [e1, e2]
    exact ⟨A2, n2, c2, vs, rfl, h2, h3, h4⟩
  obtain ⟨rows, hrw⟩ : ∃ rows, (fScan l).1 = rows := ⟨_, rfl⟩
  have hsc : ∀ {e : Ending} {w' : World}, ScPost l w e w' → ∃ A' n' c' vs k0 e0, e = .returned (.tuple #[.slice A' n' c', .int .i64 k0, .int .i64 e0]) ∧ Ow w' w.heap.size 34 A' n' c' vs rows ∧ Turn w w' none := by
    rintro e w' ⟨A', n', c', vs, h1, h2, h3⟩
    rw [hrw] at h2
    exact ⟨A', n', c', vs, _, _, h1, h2, h3⟩
  rw [hrw] at hrows hcount fin
  have FIN := hid fin
  have HCN : rows.length ≤ 1099511627776 := hcount
  clear fin hT hcount hrw hl
  go_enter Try.func49, Try.ntmps49
  go_wp2_with (go_at_call 64; refine (fscan_anyB _ _ _ l B _ hr hB hn hq).mono ?_; intro e w1 hC; obtain ⟨A1, n1, c1, vs1, k1, e1, rfl, how1, ht1⟩ := hsc hC)
  obtain ⟨hn1, hn2⟩ : n1 ≤ rows.length ∧ rows.length ≤ n1 := by have e : n1 = rows.length := (by rw [← how1.2.1]; exact how1.1.len.symm); omega
  go_loopw [9, 10, 25] (fun v d i wr => ∃ (j : Nat) (A2 : Option Addr) (n2 c2 : Nat) (vs : List Value) (recs : List (List UInt8)) (en : Nat), j ≤ n1 ∧ i = .int .i64 (j : Int) ∧ v = .slice A2 n2 c2 ∧ d = .int .i64 (en : Int) ∧ Ow wr w1.heap.size 34 A2 n2 c2 vs recs ∧ Fr w.heap.size vs ∧ Turn w1 wr none ∧ TgAt first rows recs j en) (fun _ _ i _ => (n1 - intOf i).toNat)
  case atStart => exact ⟨0, none, 0, 0, [], [], 0, by omega, rfl, rfl, rfl, Ow.made (Own.nil _ _ _ _), Fr.nil _, Turn.refl w1 none, TgAt.zero _ _⟩
  case round =>
    obtain ⟨j, A2, n2, c2, vs, recs, en, hj, rfl, rfl, rfl, how, hfr, htr, hat⟩ := hrel
    by_cases hjn : j < n1
    · obtain ⟨x, hx⟩ : ∃ x, rows[j]? = some x := ⟨rows[j]'(by omega), List.getElem?_eq_getElem (by omega)⟩
      have hxm := hrows x (List.mem_of_getElem? hx)
      have hrr := how1.rw_.turn0 htr (Nat.le_refl _)
      obtain ⟨a, m, k, hv, hrx, hmk, hk⟩ := hrr.2.2 j x hx
      obtain ⟨b0, off, rfl, _, hcells⟩ := hrr.1.head (by omega)
      have hcell := hcells j _ hv
      have hml := hrx.len
      rw [vbs_len] at hml
      obtain ⟨N, kk, e2, hq⟩ : ∃ N kk e2, pTake x = (N, kk, e2) := ⟨_, _, _, rfl⟩
      have hrn : n2 = recs.length := by rw [← how.2.1]; exact how.1.len.symm
      have hen := hat.2.1
      have hrj := hat.2.2
      have HZ := hid (show zSize (m : Int) = (fSize x.length : Nat) by unfold zSize; rw [if_pos (by omega), Int.toNat_natCast, hml])
      have hfs : fSize x.length ≤ 1048600 := by unfold fSize; have := pSize_le x.length; omega
      obtain ⟨Z, hZ⟩ : ∃ Z, fSize x.length = Z := ⟨_, rfl⟩
      rw [hZ] at HZ hfs
      have HQ := hid hq
      have stop : ((e2 ≠ 0 ∨ (¬ (N < first ∧ n2 = 0) ∧ N ≠ first + n2))) → tkGo first rows [] 0 = (recs, en) := fun h => hat.stop hx (by
        rw [hq]
        refine h.imp id fun h => ⟨fun c => h.1 ⟨c.1, by rw [hrn, c.2]; rfl⟩, ?_⟩
        rw [← hrn]; exact h.2)
      have hrl := hid how.2.1
      have T1 := ht1.trans htr
      have hmb : m ≤ 1048576 := by omega
      have hnb : n2 ≤ 1099511627776 := by omega
      by_cases he : e2 = 0
      · subst he
        have hN : N < 4611686018427387904 := by
          obtain ⟨q1, q2, _⟩ := pTake_ok hq
          rcases pSize_cases N with q | q | q | q | q <;> omega
        by_cases hold : N < first ∧ n2 = 0
        · obtain ⟨ho1, ho2⟩ := hold
          have hnx := hid (hat.old hx (by rw [hq]) (by rw [hq]; exact ⟨ho1, List.eq_nil_of_length_eq_zero (by omega)⟩) hxm)
          have ho1 : (N : Int) < (first : Int) := by omega
          clear hat hcells stop hrn hx hq hml
          rw [hZ] at hnx
          clear hZ
          subst ho2
          go_wp2_with (first
            | (go_at_call 63; refine (take_any _ _ _ x w1.heap.size _ hrx htr.size hmk hk (by omega)).mono ?_; rintro e w2 ⟨S, m3, c3, rfl, ho3, t2⟩; rw [HQ.out])
            | (go_at_call 65; refine (fsize_any _ _ (by omega) (by omega)).mono ?_; rintro e w' ⟨rfl, rfl⟩; rw [HZ.out]))
          refine ⟨⟨j + 1, A2, 0, c2, vs, recs, en + Z, by omega, by go_num, rfl, by go_num, how.turn0 t2, hfr, htr.trans t2, hnx.out⟩, ?_⟩
          simp [intOf]; omega
        · by_cases hnn : N = first + n2
          · have hge : (first : Int) ≤ (N : Int) := by omega
            have hnx := hid (hat.next hx (by rw [hq]) (by rw [hq]; intro c; exact hold ⟨c.1, by rw [hrn, c.2]; rfl⟩) (by rw [hq, ← hrn]; exact hnn) hxm)
            clear hat hcells stop hrn hx hq hml hold
            rw [hZ] at hnx
            clear hZ
            subst hnn
            go_wp2_with (first
              | (go_at_call 63; refine (take_any _ _ _ x w1.heap.size _ hrx htr.size hmk hk (by omega)).mono ?_; rintro e w2 ⟨S, m3, c3, rfl, ho3, t2⟩; rw [HQ.out])
              | (at_builtin; refine wp_app rfl _ _ _ rfl elR rfl rfl ((how.turn0 t2).1.alloc _) (Rd.lit _ _ _) (by repeat (first | exact ones_nil | refine ones_cons rfl ?_)) (by unfold maxLen; first | omega | (simp; done) | (simp; omega)) (by first | omega | (simp; done) | (simp; omega)) (by have := htr.size; have := t2.size; first | omega | (simp; omega)) ?_; intro A3 c4 w3 ho4 ht4 hb4)
              | (go_at_call 65; refine (fsize_any _ _ (by omega) (by omega)).mono ?_; rintro e w' ⟨rfl, rfl⟩; rw [HZ.out]))
            have hT2 := T1.trans t2
            have hal : (w2.alloc (.cells #[Value.slice S m3 c3] 34)).heap.size = w2.heap.size + 1 := Array.size_push ..
            have hs := ((how.turn0 t2).turn0 ((Turn.refl w2 none).alloc (.cells #[Value.slice S m3 c3] 34))).snoc (l := pRest x) (m := m3) (k := c3) ((ho3.rd.alloc (Nat.le_refl _) _).mono (by omega))
              (fun b hb => by
                have h1 := ho3.block b hb
                exact ⟨by omega, fun e2 => by have := (how.1.block _ e2).2; omega⟩) ho3.cap.1 ho3.cap.2 ho4 ht4 hb4
            refine ⟨⟨j + 1, A3, n2 + 1, c4, _, _, en + Z, by omega, by go_num, rfl, by go_num, hs, hfr.snoc fun b hb => by have := (ho3.block b hb).1; have := T1.size; omega, ((htr.trans t2).alloc _).new ht4 (fun b hb => (how.1.block b hb).1), hnx.out⟩, ?_⟩
            simp [intOf]; omega
          · have ST := hid (stop (.inr ⟨hold, hnn⟩))
            have hnn2 : ((N : Int) == (first : Int) + (n2 : Int)) = false := by rw [beq_eq_false_iff_ne]; omega
            have hq3 : ((N : Int) < (first : Int) ∧ ((n2 : Int) == 0) = false) ∨ (first : Int) ≤ (N : Int) := by
              by_cases c : N < first
              · exact .inl ⟨by omega, by rw [beq_eq_false_iff_ne]; omega⟩
              · exact .inr (by omega)
            clear hat hcells stop hrn hx hq hml hold hZ hnn
            rcases hq3 with ⟨q1, q2⟩ | q1
            all_goals
              go_wp2_with (first
                | (go_at_call 63; refine (take_any _ _ _ x w1.heap.size _ hrx htr.size hmk hk (by omega)).mono ?_; rintro e w2 ⟨S, m3, c3, rfl, ho3, t2⟩; rw [HQ.out]))
              go_ret2
              exact FIN.out _ _ _ _ _ _ _ ST.out ((ow_mono how ht1.size).turn0 t2) hfr (T1.trans t2)
      · have ST := hid (stop (.inl he))
        have he3 : ((e2 : Int) != 0) = true := by rw [bne_iff_ne]; omega
        have he5 : ¬ ((e2 : Int) = 0) := by omega
        have hq3 : ((N : Int) < (first : Int) ∧ n2 = 0) ∨ ((N : Int) < (first : Int) ∧ ((n2 : Int) == 0) = false) ∨ (first : Int) ≤ (N : Int) := by
          by_cases c : N < first
          · by_cases c2 : n2 = 0
            · exact .inl ⟨by omega, c2⟩
            · exact .inr (.inl ⟨by omega, by rw [beq_eq_false_iff_ne]; omega⟩)
          · exact .inr (.inr (by omega))
        clear hat hcells stop hrn hx hq hml hZ he
        rcases hq3 with ⟨q1, rfl⟩ | ⟨q1, q2⟩ | q1
        all_goals
          go_wp2_with (first
            | (go_at_call 63; refine (take_any _ _ _ x w1.heap.size _ hrx htr.size hmk hk (by omega)).mono ?_; rintro e w2 ⟨S, m3, c3, rfl, ho3, t2⟩; rw [HQ.out]))
          go_ret2
          exact FIN.out _ _ _ _ _ _ _ ST.out ((ow_mono how ht1.size).turn0 t2) hfr (T1.trans t2)
    · have ST := hid (hat.whole (by omega))
      clear hat
      go_wp2
      go_ret2
      exact FIN.out _ _ _ _ _ _ _ ST.out (ow_mono how ht1.size) hfr (ht1.trans htr)

set_option maxRecDepth 100000 in
set_option maxHeartbeats 3200000 in
theorem load_anyB {w : World} {g : Nat} {R : Nat → Prop} {D : Dsk} (h : Pk w g R D) (h0 : (D.rd 0).length ≤ 140737521909760) (hq0 : (fScan (D.rd 0)).1.length ≤ 1099511627776) (hcb : ∀ b s N, wSnapOf (D.rd 1) = some (b, s, N) → (wGo (D.rd 0).length N [] N (D.rd 0)).2.2 ≤ 140737488355328) (h1 : (D.rd 1).length ≤ 1099511627776) :
    Calls Try.prog 33 #[.pointer (some ⟨g, 0, none⟩)] w (LdPost R g D w) := by
  have al : ∀ (w : World) (cs : Array Value) (t : TypeId), (w.alloc (.cells cs t)).heap.size = w.heap.size + 1 := fun w cs t => Array.size_push ..
  have T0 : ∀ (w : World) cs t, Turn w (w.alloc (.cells cs t)) none := fun w cs t => (Turn.refl w none).alloc _
  obtain ⟨he01, he1⟩ := dErr_01 D
  have rd0 : ∀ w1, Turn w w1 none → Calls Try.prog 10 #[.pointer (some ⟨g, 0, none⟩), .int .i64 0] w1 fun e w' => ∃ A c, e = .returned (.tuple #[.slice A (D.rd 0).length c, .int .i64 (D.dErr 1)]) ∧ Own w' w1.heap.size 5 1 A (D.rd 0).length c (vbs (D.rd 0)) ∧ Turn w1 w' none := fun w1 t => by
    have := read_bo (h.turn0 t) 0
    rw [he01] at this
    exact this
  have rd1 : ∀ w1, Turn w w1 none → Calls Try.prog 10 #[.pointer (some ⟨g, 0, none⟩), .int .i64 1] w1 fun e w' => ∃ A c, e = .returned (.tuple #[.slice A (D.rd 1).length c, .int .i64 (D.dErr 1)]) ∧ Own w' w1.heap.size 5 1 A (D.rd 1).length c (vbs (D.rd 1)) ∧ Turn w1 w' none := fun w1 t => read_bo (h.turn0 t) 1
  obtain ⟨sn, hsn⟩ : ∃ sn, D.rd 1 = sn := ⟨_, rfl⟩
  obtain ⟨lg, hlg⟩ : ∃ lg, D.rd 0 = lg := ⟨_, rfl⟩
  rw [hsn] at rd1 h1 hcb
  rw [hlg] at rd0 h0 hq0 hcb
  by_cases hd : D.dErr 1 = 0
  · rw [hd] at rd0 rd1
    cases hs : wSnapOf sn with
    | none =>
      have HO := hid (openD_form hd (by rw [hsn]; exact hs))
      have hsp : ∀ {l : List UInt8} {w e w'}, l = sn → SnPost l w e w' → e = .returned (.tuple #[.agg ([.bool false, .slice none 0 0, .slice none 0 0, .int .u64 0] : List Value).toArray, .int .i64 4]) ∧ Turn w w' none := by
        rintro l w e w' rfl (⟨_, h1, h2⟩ | ⟨b, s, N, h1, _⟩)
        · exact ⟨h1, h2⟩
        · rw [hs] at h1; cases h1
      clear hs hsn hlg he1 he01 hd
      go_enter Try.func33, Try.ntmps33
      go_wp2_with (first
        | (go_at_call 10; first | (refine (rd1 _ ((T0 _ _ _).trans t1)).mono ?_; rintro e w2 ⟨A2, c2, rfl, ho2, t2⟩) | (refine (rd0 _ (T0 _ _ _)).mono ?_; rintro e w1 ⟨A1, c1, rfl, ho1, t1⟩))
        | (go_at_call 48; refine (takeSnap_any _ _ _ sn _ _ ho2.rd (Nat.le_refl _) ho2.cap.1 ho2.cap.2 (by omega)).mono ?_; intro e w3 hC; obtain ⟨rfl, t3⟩ := hsp rfl hC)
        | (refine wp_bd rfl 46 _ rfl _ rfl _ bdK0 ?_)
        | (refine wp_st (xs := [.bool false, .slice none 0 0, .slice none 0 0, .int .u64 0]) rfl 46 _ _ rfl rfl rfl (Blk.new w3 _ _) rfl szKp (ones4 rfl rfl rfl rfl) ?_; intro w4 hb4 ht4)
        | (refine wp_st (xs := [.bool false, .slice none 0 0, .slice none 0 0, .int .u64 0]) rfl 46 _ _ rfl rfl rfl (((((Blk.new w _ _).turn0 t1).turn0 t2).turn0 t3).turn0 ((T0 _ _ _).new ht4 (by simp))) rfl szKp (ones4 rfl rfl rfl rfl) ?_; intro w5 hb5 ht5))
      refine ret_ct rfl rfl rfl rfl hb5 Try.underlying46 rfl szKp ?_
      have TT := (((((T0 w _ _).trans t1).trans t2).trans t3).trans ((T0 w3 _ _).new ht4 (by simp))).new ht5 (by simp)
      exact ld_no HO.out (by decide) ((Stp.refl h).post TT)
    | some q =>
      obtain ⟨b, s, N⟩ := q
      have hN := wSnapOf_lt hs
      have hO := openD_go hd (by rw [hsn]; exact hs)
      rw [hlg] at hO
      have hen := wGo_le N lg.length [] N lg
      have hfew := wGo_rows N lg
      have hcb := hcb b s N hs
      obtain ⟨recs, nx, en, hgo⟩ : ∃ recs nx en, wGo lg.length N [] N lg = (recs, nx, en) := ⟨_, _, _, rfl⟩
      rw [hgo] at hO hen hfew hcb
      have hcb : en ≤ 140737488355328 := hcb
      have hen : en ≤ lg.length := hen
      have hfew : recs.length ≤ 1099511627776 := by
        have : recs.length ≤ (fScan lg).1.length := hfew
        omega
      have hsp : ∀ {l : List UInt8} {w e w'}, l = sn → SnPost l w e w' → ∃ A n c, e = .returned (.tuple #[.agg ([.bool b, .slice A n c, .slice none 0 0, .int .u64 (N : Int)] : List Value).toArray, .int .i64 0]) ∧ Own w' w.heap.size 5 1 A n c (vbs s) ∧ Turn w w' none := by
        rintro l w e w' rfl (⟨h1, _⟩ | ⟨b', s', N', h1, h2⟩)
        · rw [hs] at h1; cases h1
        · rw [hs] at h1
          simp only [Option.some.injEq, Prod.mk.injEq] at h1
          obtain ⟨rfl, rfl, rfl⟩ := h1
          exact h2
      have htl : ∀ {w e w'}, TlPost N lg w e w' → ∃ A c vs, e = .returned (.tuple #[.slice A recs.length c, .int .i64 (en : Int)]) ∧ Ow w' w.heap.size 34 A recs.length c vs recs ∧ Fr w.heap.size vs ∧ Turn w w' none := by
        rintro w e w' ⟨A, n, c, vs, h1, h2, h3, h4⟩
        rw [hgo] at h1 h2
        have e : n = recs.length := by rw [← h2.2.1]; exact h2.1.len.symm
        subst e
        exact ⟨A, c, vs, h1, h2, h3, h4⟩
      clear hs hsn hlg he1 he01 hd hgo
      by_cases hcut : en < lg.length
      · obtain ⟨E, D1, hE⟩ : ∃ E D1, D.rpS 0 (lg.take en) = (E, D1) := ⟨_, _, rfl⟩
        have hO : D.openD = if E ≠ 0 then (E, none, D1) else (0, some ⟨b, s, recs, N + recs.length⟩, D1) := by
          rw [hO, if_pos hcut]
          show (if (D.rpS 0 (lg.take en)).1 ≠ 0 then _ else _) = _
          rw [hE]
        have hrp : ∀ w1 A c b0, Turn w w1 none → Own w1 b0 5 1 A lg.length c (vbs lg) → w.heap.size ≤ b0 → Calls Try.prog 37 #[.pointer (some ⟨g, 0, none⟩), .int .i64 0, .slice A en c] w1 fun e w' => e = .returned (.int .i64 E) ∧ Stp w1 w' R g D1 := fun w1 A c b0 t ho hb => by
          have := wreplace_any (h.turn0 t) 0 A en c w1.heap.size (lg.take en) (ho.rd.takeB hen) (Nat.le_refl _) (by omega) fun k e _ hk => by
            have := (ho.block k e).1
            have := h.lt hk
            omega
          rw [hE] at this
          exact this
        clear hE
        have hcut2 : (en : Int) < (lg.length : Int) := by omega
        by_cases hE0 : E = 0
        · subst hE0
          rw [if_neg (by simp)] at hO
          have HO := hid hO
          have HRP := hid hrp
          clear hO hrp
          go_enter Try.func33, Try.ntmps33
          go_wp2_with (first
            | (go_at_call 10; first | (refine (rd1 _ ((T0 _ _ _).trans t1)).mono ?_; rintro e w2 ⟨A2, c2, rfl, ho2, t2⟩; have r2 : w.heap.size < w2.heap.size := (by have := t1.size; have := t2.size; rw [al] at *; omega)) | (refine (rd0 _ (T0 _ _ _)).mono ?_; rintro e w1 ⟨A1, c1, rfl, ho1, t1⟩; have cap1 := ho1.cap))
            | (go_at_call 48; refine (takeSnap_any _ _ _ sn _ _ ho2.rd (Nat.le_refl _) ho2.cap.1 ho2.cap.2 (by omega)).mono ?_; intro e w3 hC; obtain ⟨S, m3, c3, rfl, ho3, t3⟩ := hsp rfl hC)
            | (refine wp_st (xs := [.bool b, .slice S m3 c3, .slice none 0 0, .int .u64 (N : Int)]) rfl 46 _ _ rfl rfl rfl (Blk.new w3 _ _) rfl szKp (ones4 rfl rfl rfl rfl) ?_; intro w4 hb4 ht4; have t4 := (T0 w3 _ _).new ht4 (by simp); have T4 := ((((T0 w _ _).trans t1).trans t2).trans t3).trans t4; have cK := hb4.ats (j := 3) (v := .int .u64 (N : Int)) rfl)
            | (go_at_call 49; refine (takeLog_anyB _ _ _ lg N _ _ (((ho1.turn0 t2).turn0 t3).turn0 t4).rd (Nat.le_refl _) h0 hq0 (by omega)).mono ?_; intro e w5 hC; obtain ⟨A5, c5, vs5, rfl, ho5, hf5, t5⟩ := htl hC)
            | (go_at_call 37; refine (HRP.out _ _ _ _ (T4.trans t5) ((((ho1.turn0 t2).turn0 t3).turn0 t4).turn0 t5) (T0 w _ _).size).mono ?_; rintro e w6 ⟨rfl, hc6, R6, hp6, hk6⟩; have hK6 := (hb4.turn0 t5).chg hc6 (fun hk => by have := h.lt hk; have := t3.size; omega); have f2 := hK6.frozen 2; have cK2 := hK6.ats (j := 2) (v := .slice none 0 0) rfl; have hK7 := hK6.sets 2 (.slice A5 recs.length c5); have cK7 := hK7.ats (j := 3) (v := .int .u64 (N : Int)) rfl; have f3 := hK7.frozen 3; have hK8 := hK7.sets 3 (.int .u64 ((N : Int) + (recs.length : Int))); have t7 := (Blk.setTurn w6 w3.heap.size 2 (.slice A5 recs.length c5)).trans (Blk.setTurn _ w3.heap.size 3 (.int .u64 ((N : Int) + (recs.length : Int)))))
            | (refine wp_ld rfl 46 _ rfl rfl hK8 (Sub.all _) Try.underlying46 rfl szKp ?_)
            | (refine wp_st (xs := [.bool b, .slice S m3 c3, .slice A5 recs.length c5, .int .u64 ((N : Int) + (recs.length : Int))]) rfl 46 _ _ rfl rfl rfl (((((((Blk.new w _ _).turn0 t1).turn0 t2).turn0 t3).turn0 (t4.trans t5)).chg hc6 (fun hk => by have := h.lt hk; omega)).turn t7 (by have := t3.size; simp; omega)) rfl szKp (ones4 rfl rfl rfl rfl) ?_; intro w8 hb8 ht8))
          refine ret_ct rfl rfl rfl rfl hb8 Try.underlying46 rfl szKp ?_
          exact ld_fin h (((T0 w _ _).trans t1).trans t2) (Nat.le_refl _) r2 ho3 t3 t4 (Nat.le_refl _) hb4.lt ho5 hf5 t5 hc6 hp6 hk6 t7 ht8 HO.out (by omega) rfl
        · rw [if_pos hE0] at hO
          have HO := hid hO
          have HRP := hid hrp
          have hne : (E == 0) = false := by rw [beq_eq_false_iff_ne]; exact hE0
          clear hO hrp
          go_enter Try.func33, Try.ntmps33
          go_wp2_with (first
            | (go_at_call 10; first | (refine (rd1 _ ((T0 _ _ _).trans t1)).mono ?_; rintro e w2 ⟨A2, c2, rfl, ho2, t2⟩; have r2 : w.heap.size < w2.heap.size := (by have := t1.size; have := t2.size; rw [al] at *; omega)) | (refine (rd0 _ (T0 _ _ _)).mono ?_; rintro e w1 ⟨A1, c1, rfl, ho1, t1⟩; have cap1 := ho1.cap))
            | (go_at_call 48; refine (takeSnap_any _ _ _ sn _ _ ho2.rd (Nat.le_refl _) ho2.cap.1 ho2.cap.2 (by omega)).mono ?_; intro e w3 hC; obtain ⟨S, m3, c3, rfl, ho3, t3⟩ := hsp rfl hC)
            | (refine wp_bd rfl 46 _ rfl _ rfl _ bdK0 ?_)
            | (refine wp_st (xs := [.bool b, .slice S m3 c3, .slice none 0 0, .int .u64 (N : Int)]) rfl 46 _ _ rfl rfl rfl (Blk.new w3 _ _) rfl szKp (ones4 rfl rfl rfl rfl) ?_; intro w4 hb4 ht4; have t4 := (T0 w3 _ _).new ht4 (by simp); have T4 := ((((T0 w _ _).trans t1).trans t2).trans t3).trans t4; have cK := hb4.ats (j := 3) (v := .int .u64 (N : Int)) rfl)
            | (go_at_call 49; refine (takeLog_anyB _ _ _ lg N _ _ (((ho1.turn0 t2).turn0 t3).turn0 t4).rd (Nat.le_refl _) h0 hq0 (by omega)).mono ?_; intro e w5 hC; obtain ⟨A5, c5, vs5, rfl, ho5, hf5, t5⟩ := htl hC)
            | (go_at_call 37; refine (HRP.out _ _ _ _ (T4.trans t5) ((((ho1.turn0 t2).turn0 t3).turn0 t4).turn0 t5) (T0 w _ _).size).mono ?_; rintro e w6 ⟨rfl, s6⟩)
            | (refine wp_st (xs := [.bool false, .slice none 0 0, .slice none 0 0, .int .u64 0]) rfl 46 _ _ rfl rfl rfl ((((((Blk.new w _ _).turn0 t1).turn0 t2).turn0 t3).turn0 (t4.trans t5)).chg s6.1 (fun hk => by have := h.lt hk; omega)) rfl szKp (ones4 rfl rfl rfl rfl) ?_; intro w8 hb8 ht8))
          refine ret_ct rfl rfl rfl rfl hb8 Try.underlying46 rfl szKp ?_
          exact ld_no HO.out hE0 (Stp.late (T4.trans t5) s6 ht8 (Nat.le_refl _) (by have := t3.size; have := t4.size; have := t5.size; omega) fun k hk => h.lt hk)
      · rw [if_neg hcut] at hO
        have HO := hid hO
        have hcut2 : (lg.length : Int) ≤ (en : Int) := by omega
        clear hO hcut
        go_enter Try.func33, Try.ntmps33
        go_wp2_with (first
          | (go_at_call 10; first | (refine (rd1 _ ((T0 _ _ _).trans t1)).mono ?_; rintro e w2 ⟨A2, c2, rfl, ho2, t2⟩; have r2 : w.heap.size < w2.heap.size := (by have := t1.size; have := t2.size; rw [al] at *; omega)) | (refine (rd0 _ (T0 _ _ _)).mono ?_; rintro e w1 ⟨A1, c1, rfl, ho1, t1⟩; have cap1 := ho1.cap))
          | (go_at_call 48; refine (takeSnap_any _ _ _ sn _ _ ho2.rd (Nat.le_refl _) ho2.cap.1 ho2.cap.2 (by omega)).mono ?_; intro e w3 hC; obtain ⟨S, m3, c3, rfl, ho3, t3⟩ := hsp rfl hC)
          | (refine wp_st (xs := [.bool b, .slice S m3 c3, .slice none 0 0, .int .u64 (N : Int)]) rfl 46 _ _ rfl rfl rfl (Blk.new w3 _ _) rfl szKp (ones4 rfl rfl rfl rfl) ?_; intro w4 hb4 ht4; have t4 := (T0 w3 _ _).new ht4 (by simp); have T4 := ((((T0 w _ _).trans t1).trans t2).trans t3).trans t4; have cK := hb4.ats (j := 3) (v := .int .u64 (N : Int)) rfl)
          | (go_at_call 49; refine (takeLog_anyB _ _ _ lg N _ _ (((ho1.turn0 t2).turn0 t3).turn0 t4).rd (Nat.le_refl _) h0 hq0 (by omega)).mono ?_; intro e w5 hC; obtain ⟨A5, c5, vs5, rfl, ho5, hf5, t5⟩ := htl hC; have hK6 := hb4.turn0 t5; have f2 := hK6.frozen 2; have cK2 := hK6.ats (j := 2) (v := .slice none 0 0) rfl; have hK7 := hK6.sets 2 (.slice A5 recs.length c5); have cK7 := hK7.ats (j := 3) (v := .int .u64 (N : Int)) rfl; have f3 := hK7.frozen 3; have hK8 := hK7.sets 3 (.int .u64 ((N : Int) + (recs.length : Int))); have t7 := (Blk.setTurn w5 w3.heap.size 2 (.slice A5 recs.length c5)).trans (Blk.setTurn _ w3.heap.size 3 (.int .u64 ((N : Int) + (recs.length : Int)))))
          | (refine wp_ld rfl 46 _ rfl rfl hK8 (Sub.all _) Try.underlying46 rfl szKp ?_)
          | (refine wp_st (xs := [.bool b, .slice S m3 c3, .slice A5 recs.length c5, .int .u64 ((N : Int) + (recs.length : Int))]) rfl 46 _ _ rfl rfl rfl ((((((Blk.new w _ _).turn0 t1).turn0 t2).turn0 t3).turn0 (t4.trans t5)).turn t7 (by have := t3.size; simp; omega)) rfl szKp (ones4 rfl rfl rfl rfl) ?_; intro w8 hb8 ht8))
        refine ret_ct rfl rfl rfl rfl hb8 Try.underlying46 rfl szKp ?_
        exact ld_fin h (((T0 w _ _).trans t1).trans t2) (Nat.le_refl _) r2 ho3 t3 t4 (Nat.le_refl _) hb4.lt ho5 hf5 t5 (Chg.refl _ _) (h.turn0 (T4.trans t5)) (fun i hi => .inl hi) t7 ht8 HO.out (by omega) rfl
  · have hd2 : D.dErr 1 = 140 := he1.resolve_left hd
    rw [hd2] at rd0
    have hO := openD_dead hd
    rw [hd2] at hO
    have HO := hid hO
    clear hO
    clear hd hd2 he1 he01 rd1
    go_enter Try.func33, Try.ntmps33
    go_wp2_with (first
      | (go_at_call 10; refine (rd0 _ (T0 _ _ _)).mono ?_; rintro e w1 ⟨A1, c1, rfl, ho1, t1⟩)
      | (refine wp_bd rfl 46 _ rfl _ rfl _ bdK0 ?_)
      | (refine wp_st (xs := [.bool false, .slice none 0 0, .slice none 0 0, .int .u64 0]) rfl 46 _ _ rfl rfl rfl ((Blk.new w _ _).turn0 t1) rfl szKp (ones4 rfl rfl rfl rfl) ?_; intro w3 hb3 ht3))
    refine ret_ct rfl rfl rfl rfl hb3 Try.underlying46 rfl szKp ?_
    have TT := ((T0 w _ _).trans t1).new ht3 (by simp)
    exact ld_no HO.out (by decide) ((Stp.refl h).post TT)

set_option maxRecDepth 100000 in
set_option maxHeartbeats 3200000 in
theorem open_anyB {w : World} {g : Nat} {R : Nat → Prop} {D : Dsk} (h : Pk w g R D) (h0 : (D.rd 0).length ≤ 140737521909760) (hq0 : (fScan (D.rd 0)).1.length ≤ 1099511627776) (hcb : ∀ b s N, wSnapOf (D.rd 1) = some (b, s, N) → (wGo (D.rd 0).length N [] N (D.rd 0)).2.2 ≤ 140737488355328) (h1 : (D.rd 1).length ≤ 1099511627776) :
    Calls Try.prog 13 #[.pointer (some ⟨g, 0, none⟩)] w (OpPost R g D w) := by
  have al : ∀ (w : World) (cs : Array Value) (t : TypeId), (w.alloc (.cells cs t)).heap.size = w.heap.size + 1 := fun w cs t => Array.size_push ..
  have T0 : ∀ (w : World) cs t, Turn w (w.alloc (.cells cs t)) none := fun w cs t => (Turn.refl w none).alloc _
  have hld := fun cs t => load_anyB (h.turn0 (T0 w cs t)) h0 hq0 hcb h1
  have hlt := fun k hk => h.lt (k := k) hk
  obtain ⟨E, o, D2, hO⟩ : ∃ E o D2, D.openD = (E, o, D2) := ⟨_, _, _, rfl⟩
  cases o with
  | none =>
    have hp : ∀ {wa e w'}, LdPost R g D wa e w' → E ≠ 0 ∧ e = .returned (.tuple #[.agg ([.bool false, .slice none 0 0, .slice none 0 0, .int .u64 0] : List Value).toArray, .int .i64 E]) ∧ Stp wa w' R g D2 := by
      rintro wa e w' (⟨_, h1, h2, h3⟩ | ⟨k, D3, h1, _⟩)
      · rw [hO] at h1 h2 h3; exact ⟨h1, h2, h3⟩
      · rw [hO] at h1; simp at h1
    have HO := hid hO
    clear hO
    go_enter Try.func13, Try.ntmps13
    go_wp2_with (first
      | (go_at_call 33; refine (hld _ _).mono ?_; intro e w1 hC; obtain ⟨hE, rfl, s1⟩ := hp hC; have hne : (E == 0) = false := (by rw [beq_eq_false_iff_ne]; exact hE); have hR1 := (Blk.new w _ _).chg s1.1 (fun hk => by have := hlt _ hk; omega))
      | (refine wp_bd rfl 46 _ rfl _ rfl _ bdK0 ?_)
      | (refine wp_st (xs := [.bool false, .slice none 0 0, .slice none 0 0, .int .u64 0]) rfl 46 _ _ rfl rfl rfl (Blk.new w1 _ _) rfl szKp (ones4 rfl rfl rfl rfl) ?_; intro w2 hb2 ht2; have t2 := (T0 w1 _ _).new ht2 (by simp))
      | (refine wp_st (xs := [.bool false, .slice none 0 0, .slice none 0 0, .int .u64 0]) rfl 46 _ _ rfl rfl rfl (hR1.turn0 t2) rfl szKp (ones4 rfl rfl rfl rfl) ?_; intro w3 hb3 ht3))
    refine ret_tct rfl rfl rfl rfl rfl hb3 Try.underlying46 rfl szKp ?_
    refine .inl ⟨by rw [HO.out], by rw [HO.out]; exact hE, ?_⟩
    unfold OpNo
    rw [HO.out]
    exact ⟨rfl, Stp.late (T0 w _ _) (s1.post t2) ht3 (Nat.le_refl _) (by rw [al]; omega) hlt⟩
  | some k =>
    have hp : ∀ {wa e w'}, LdPost R g D wa e w' → E = 0 ∧ ∃ s r vs Q R', e = .returned (.tuple #[.agg (kpc k s r).toArray, .int .i64 0]) ∧ Chg wa w' R ∧ Pk w' g R' D2 ∧ (∀ i, R' i → R i ∨ wa.heap.size ≤ i) ∧ Kin w' Q k s r vs ∧ (∀ i, Q i → wa.heap.size ≤ i ∧ i < w'.heap.size ∧ ¬ R' i) ∧ k.next ≤ 9223372036854775807 := by
      rintro wa e w' (⟨h1, _⟩ | ⟨k', D3, h1, h2⟩)
      · rw [hO] at h1; cases h1
      · rw [hO] at h1
        simp only [Prod.mk.injEq, Option.some.injEq] at h1
        obtain ⟨rfl, rfl, rfl⟩ := h1
        exact ⟨rfl, h2⟩
    have HO := hid hO
    clear hO
    go_enter Try.func13, Try.ntmps13
    go_upto_region 6 with (first
      | (go_at_call 33; refine (hld _ _).mono ?_; intro e w1 hC; obtain ⟨rfl, s, r, vs, Q1, R1, rfl, hc1, hp1, hk1, hq1, hd1, hN⟩ := hp hC; have hR1 := (Blk.new w _ _).chg hc1 (fun hk => by have := hlt _ hk; omega))
      | (refine wp_st (xs := kpc k s r) rfl 46 _ _ rfl rfl rfl (Blk.new w1 _ _) rfl szKp (ones4 rfl rfl rfl rfl) ?_; intro w2 hb2 ht2; have t2 := (T0 w1 _ _).new ht2 (by simp)))
    clear hp
    have C3 := hb2.ats (j := 3) (v := .int .u64 (k.next : Int)) rfl
    have hRb := (hR1.turn0 t2).drew
    refine wp_region_noPanic ?_
    refine wp_region_held_drew (S := (fun W => W.cell? ⟨w1.heap.size, 3, none⟩ = some (.int .u64 (k.next : Int)) ∧ W.rangeAt w1.heap.size 0 (kpc k s r))) (by kernel_rfl) (⟨C3, hb2.range (Sub.all _)⟩) (fun hHeld => ?_)
    (first | (refine wpAnyH_take (i := 0) (v := undef) rfl (by kernel_rfl) (by kernel_rfl) (by kernel_rfl) (fun _ _ _ h => h) (Or.inr ⟨rfl, rfl⟩) (by assumption) ?_) | (refine wpAnyH_take (i := 0) (v := ?_) rfl (by kernel_rfl) (by kernel_rfl) (by kernel_rfl) (fun _ _ _ h => h) (Or.inl ⟨rfl, ?_⟩) (by assumption) ?_; rotate_left 1; · (intro w hSw; (try dsimp only at hSw); go_simp; (try with_reducible rfl)))); (try simp only [Act.put, List.getElem_toArray, List.getElem_cons_zero, List.getElem_cons_succ, List.setIfInBounds_toArray, List.set_cons_zero, List.set_cons_succ])
    (first | (refine wpAnyH_take (i := 1) (v := undef) rfl (by kernel_rfl) (by kernel_rfl) (by kernel_rfl) (fun _ _ _ h => h) (Or.inr ⟨rfl, rfl⟩) (by assumption) ?_) | (refine wpAnyH_take (i := 1) (v := ?_) rfl (by kernel_rfl) (by kernel_rfl) (by kernel_rfl) (fun _ _ _ h => h) (Or.inl ⟨rfl, ?_⟩) (by assumption) ?_; rotate_left 1; · (intro w hSw; (try dsimp only at hSw); go_simp; (try with_reducible rfl)))); (try simp only [Act.put, List.getElem_toArray, List.getElem_cons_zero, List.getElem_cons_succ, List.setIfInBounds_toArray, List.set_cons_zero, List.set_cons_succ])
    (first | (refine wpAnyH_take (i := 2) (v := undef) rfl (by kernel_rfl) (by kernel_rfl) (by kernel_rfl) (fun _ _ _ h => h) (Or.inr ⟨rfl, rfl⟩) (by assumption) ?_) | (refine wpAnyH_take (i := 2) (v := ?_) rfl (by kernel_rfl) (by kernel_rfl) (by kernel_rfl) (fun _ _ _ h => h) (Or.inl ⟨rfl, ?_⟩) (by assumption) ?_; rotate_left 1; · (intro w hSw; (try dsimp only at hSw); go_simp; (try with_reducible rfl)))); (try simp only [Act.put, List.getElem_toArray, List.getElem_cons_zero, List.getElem_cons_succ, List.setIfInBounds_toArray, List.set_cons_zero, List.set_cons_succ])
    refine wpAnyH_take (i := 3) rfl (by kernel_rfl) (by kernel_rfl) (by kernel_rfl) (fun _ _ _ h => h) (yieldsIf_bd (by rfl) 81 _ rfl #[(0, .pointer (some ⟨g, 0, none⟩)), (1, .int .u64 (k.next : Int))] (by first | rfl | kernel_rfl | (simp; done)) _ bdW) (by assumption) ?_
    (try simp only [Act.put, List.getElem_toArray, List.getElem_cons_zero, List.getElem_cons_succ, List.setIfInBounds_toArray, List.set_cons_zero, List.set_cons_succ])
    refine wpAnyH_take (i := 5) rfl (by kernel_rfl) (by kernel_rfl) (by kernel_rfl) (fun _ _ _ h => h) (yieldsIf_load_mid (by rfl) 46 _ rfl w1.heap.size 0 rfl (kpc k s r) _ (fun W hW => hW.2) Try.underlying46 rfl szKp) (by assumption) ?_
    (try simp only [Act.put, List.getElem_toArray, List.getElem_cons_zero, List.getElem_cons_succ, List.setIfInBounds_toArray, List.set_cons_zero, List.set_cons_succ])
    refine wpAnyH_ready (rs := [4]) (by kernel_rfl) (by simp) ?_; refine AllReadyH.cons rfl (fun K hK => ?_) AllReadyH.nil
    refine gd_dbx rfl 81 _ rfl rfl ?_
    intro gw w3 hgw hb3 t3
    have hb23 := hb2.drew.turn0 t3
    refine hK.out _ _ ⟨hb23.ats (j := 3) rfl, hb23.range (Sub.all _)⟩ (fun hHeld => ?_); clear hK K; (try simp only [Act.put, List.getElem_toArray, List.getElem_cons_zero, List.getElem_cons_succ, List.setIfInBounds_toArray, List.set_cons_zero, List.set_cons_succ])
    (first | (refine wpAnyH_take (i := 6) (v := undef) rfl (by kernel_rfl) (by kernel_rfl) (by kernel_rfl) (fun _ _ _ h => h) (Or.inr ⟨rfl, rfl⟩) (by assumption) ?_) | (refine wpAnyH_take (i := 6) (v := ?_) rfl (by kernel_rfl) (by kernel_rfl) (by kernel_rfl) (fun _ _ _ h => h) (Or.inl ⟨rfl, ?_⟩) (by assumption) ?_; rotate_left 1; · (intro w hSw; (try dsimp only at hSw); go_simp; (try with_reducible rfl)))); (try simp only [Act.put, List.getElem_toArray, List.getElem_cons_zero, List.getElem_cons_succ, List.setIfInBounds_toArray, List.set_cons_zero, List.set_cons_succ])
    refine wpAnyH_ready (rs := [7]) (by kernel_rfl) (by simp) ?_; refine AllReadyH.cons rfl (fun K hK => ?_) AllReadyH.nil
    refine gd_dst (xs := kpc k s r) rfl 46 _ _ rfl rfl rfl (hRb.turn0 t3) rfl szKp (ones4 rfl rfl rfl rfl) ?_
    intro w4 hb4 t4
    have hb24 := hb23.turn t4 (by have := hc1.size; rw [al] at this; simp; omega)
    refine hK.out _ _ ⟨hb24.ats (j := 3) rfl, hb24.range (Sub.all _)⟩ (fun hHeld => ?_); clear hK K; (try simp only [Act.put, List.getElem_toArray, List.getElem_cons_zero, List.getElem_cons_succ, List.setIfInBounds_toArray, List.set_cons_zero, List.set_cons_succ])
    (first | (refine wpAnyH_take (i := 8) (v := undef) rfl (by kernel_rfl) (by kernel_rfl) (by kernel_rfl) (fun _ _ _ h => h) (Or.inr ⟨rfl, rfl⟩) (by assumption) ?_) | (refine wpAnyH_take (i := 8) (v := ?_) rfl (by kernel_rfl) (by kernel_rfl) (by kernel_rfl) (fun _ _ _ h => h) (Or.inl ⟨rfl, ?_⟩) (by assumption) ?_; rotate_left 1; · (intro w hSw; (try dsimp only at hSw); go_simp; (try with_reducible rfl)))); (try simp only [Act.put, List.getElem_toArray, List.getElem_cons_zero, List.getElem_cons_succ, List.setIfInBounds_toArray, List.set_cons_zero, List.set_cons_succ])
    refine wpAnyH_done (by kernel_rfl) ?_ _
    refine NoPanic.normal ?_
    clear hHeld
    go_wp2
    refine ret_tct rfl rfl rfl rfl rfl hb4 Try.underlying46 rfl szKp ?_
    have s1 := hc1.size
    rw [al] at s1
    have s2 := t2.size
    have s3 := t3.undrew.size
    have s4 := t4.size
    have hgw2 : w2.heap.size = gw := hgw
    have k2 := hb2.lt
    have k3 := hb3.lt
    have hc1b : Chg w w1 R := (Chg.of0 (T0 w _ _) R).trans hc1 fun i h => .inl h
    have T3 := t2.trans t3.undrew
    refine .inr ⟨k, D2, HO.out, gw, s, r, vs, Q1, R1, rfl, ?_, ?_, fun i hi => (hk1 i hi).imp id fun h => by rw [al] at h; omega, ?_, hb3.turn t4 (by simp; omega), fun i hi => ?_, fun hq => ?_, hN⟩
    · exact (hc1b.trans (T := fun _ => False) (Chg.of0 T3 _) fun i h => h.elim).trans (T := fun i => i = w.heap.size) (Chg.of t4 fun i e => by injection e with e; exact e.symm) fun i hi => .inr (by omega)
    · refine (hp1.turn0 T3).chg (T := fun i => i = w.heap.size) (Chg.of t4 fun i e => by injection e with e; exact e.symm) fun i hi e => ?_
      rcases hk1 i hi with h4 | h4
      · have := hlt i h4; omega
      · rw [al] at h4; omega
    · refine (hq1.turn0 T3).chg (T := fun i => i = w.heap.size) (Chg.of t4 fun i e => by injection e with e; exact e.symm) fun i hi e => ?_
      have := (hd1 i hi).1
      rw [al] at this
      omega
    · rcases hi with hi | rfl
      · obtain ⟨a1, a2, a3⟩ := hd1 i hi
        rw [al] at a1
        exact ⟨by omega, by omega, a3⟩
      · exact ⟨by omega, by omega, fun hr => by have := hp1.lt hr; omega⟩
    · have := (hd1 gw hq).2.1
      omega
end Go.Proofs.Ytjekglnbmccnjaa
/-
  Layer 15: behind a crash, the data (bounds, what is had), for WalRecovers.
-/
namespace Go.Proofs.Ytjekglnbmccnjaa
set_option linter.unusedSimpArgs false
set_option linter.unusedVariables false
open Go.RowKit

theorem and1 (f : Int) : ∃ j : Nat, j < 2 ∧ bits .and .i64 f 1 = (j : Int) := by
  refine ⟨(BitVec.ofInt 64 f).toNat % 2, Nat.mod_lt _ (by decide), ?_⟩
  have h1 : (BitVec.ofInt 64 f &&& BitVec.ofInt 64 1).toNat = (BitVec.ofInt 64 f).toNat % 2 := by
    rw [BitVec.toNat_and]
    have : (BitVec.ofInt 64 1).toNat = 1 := by decide
    rw [this, Nat.and_one_is_mod]
  have h2 : bits .and .i64 f 1 = IntKind.i64.wrap (((BitVec.ofInt 64 f &&& BitVec.ofInt 64 1).toNat : Nat) : Int) := rfl
  rw [h2, h1, IntKind.wrap_i64]
  omega
def wRows : Nat → List (List UInt8) → List (List UInt8)
  | _, [] => []
  | n, r :: l => wRec n r :: wRows (n + 1) l
theorem wRows_all : ∀ (n : Nat) (l : List (List UInt8)), wAll n l = fAll (wRows n l) ∧ (wRows n l).length = l.length
  | _, [] => ⟨rfl, rfl⟩
  | n, r :: l => by
    obtain ⟨h1, h2⟩ := wRows_all (n + 1) l
    rw [wAll, wRows, fAll_cons, h1, List.length_cons, List.length_cons, h2]
    exact ⟨rfl, rfl⟩
theorem wRows_len : ∀ (n : Nat) (l : List (List UInt8)), (∀ r ∈ l, r.length ≤ 1048568) → ∀ x ∈ wRows n l, x.length ≤ 1048576
  | _, [], _, x, hx => by cases hx
  | n, r :: l, h, x, hx => by
    rcases List.mem_cons.1 hx with rfl | hx
    · exact wRec_len (h r (by simp))
    · exact wRows_len (n + 1) l (fun y hy => h y (by simp [hy])) x hx
theorem Shp.rows {B : Nat} {lg sn b : List UInt8} {m : Md} (hm : m.Ok) (h : Shp B lg sn m b) : (fScan lg).1.length ≤ B := by
  obtain ⟨a, lows, rfl, rfl, h1, h2, h3, h4⟩ := h
  have l1 := wAll_len a lows
  have l2 := wAll_len m.s m.l
  have e : wAll a lows ++ m.log ++ b = fAll (wRows a lows ++ wRows m.s m.l) ++ b := by
    rw [fAll_app, ← (wRows_all a lows).1, ← (wRows_all m.s m.l).1]
    rfl
  have hx : ∀ x ∈ wRows a lows ++ wRows m.s m.l, x.length ≤ 1048576 := fun x hx => (List.mem_append.1 hx).elim (wRows_len a lows h2 x) (wRows_len m.s m.l hm.l x)
  have hb : (fScan b).1 = [] := by
    rcases h3 with rfl | h3
    · rfl
    · by_cases hb : b = []
      · subst hb; rfl
      · rw [fScan_stop hb h3 rfl]
  rw [e, fScan_all _ hx, hb, List.append_nil, List.length_append, (wRows_all a lows).2, (wRows_all m.s m.l).2]
  have h4 : (wAll a lows).length + (wAll m.s m.l).length ≤ B := h4
  omega
theorem Shp.cut {B : Nat} {lg sn b s : List UInt8} {m : Md} (hm : m.Ok) (h : Shp B lg sn m b) {q : Bool} {N : Nat} (hs : wSnapOf sn = some (q, s, N)) : (wGo lg.length N [] N lg).2.2 ≤ B := by
  obtain ⟨at_, h1, _, h2, _⟩ := h.reads hm
  unfold wReads at h1
  rw [hs] at h1
  simp only [Option.some.injEq, Prod.mk.injEq] at h1
  rw [h1.2]
  exact h2
theorem wr_lim2 (D : Dsk) (n : Int) (b : List UInt8) : (D.wr n b).lim = D.lim := by
  unfold Dsk.wr
  split
  · exact D.cnt_lim
  · exact D.cnt_lim
theorem actW_lim (D : Dsk) (m : Md) (k : Int) (b : List UInt8) : (D.actW m k b).2.lim = D.lim := by
  have hr : ∀ (D : Dsk) (i : Int) (b : List UInt8), (D.rpS i b).2.lim = D.lim := fun D i b => by
    unfold Dsk.rpS
    split
    · exact rp_lim D i b
    · rw [sy_lim, rp_lim]
  unfold Dsk.actW
  split
  · unfold Dsk.appD
    split
    · exact wr_lim2 D 0 _
    · rw [sy_lim, wr_lim2]
  · rw [snapD_rpS]
    split
    · exact hr D _ _
    · rw [hr, hr]
/-- What the code's log does in an act. -/
theorem act_apN {D : Dsk} {m : Md} {b : List UInt8} (hn : m.next < 4611686018427387904) (hb : b.length ≤ 1048568) : D.apN m.next b = ((D.actW m 0 b).1, (D.actW m 0 b).2, if (D.actW m 0 b).1 = 0 then m.next + 1 else m.next) := by
  have e : D.actW m 0 b = D.appD (fBytes (wRec m.next b)) := if_pos rfl
  rw [e, apN_appD hn hb]
theorem act_snN {D : Dsk} {m : Md} {b : List UInt8} (hn : m.next < 4611686018427387904) (hb : b.length ≤ 1048568) : D.snN m.next b = D.actW m 1 b := by
  have e : D.actW m 1 b = D.snapD (fBytes (wRec m.next b)) := if_neg (by decide)
  rw [e, snN_snapD hn hb]
theorem after_next0 (m : Md) (b : List UInt8) : (m.after 0 b).next = m.next + 1 := by
  have e : m.after 0 b = { m with l := m.l ++ [b] } := if_pos rfl
  rw [e]
  show m.s + (m.l ++ [b]).length = m.s + m.l.length + 1
  rw [List.length_append, List.length_singleton]; omega
theorem after_next1 (m : Md) (b : List UInt8) : (m.after 1 b).next = m.next := by
  have e : m.after 1 b = ⟨true, m.next, b, []⟩ := if_neg (by decide)
  rw [e]
  rfl
/-- What the second half of the law finds. -/
structure Fnd (D : Dsk) (keep : Int) (t : List UInt8) (mm : Md) (D2 D3 D4 : Dsk) : Prop where
  o1 : (D.crash keep t).openD = (0, some mm.kp, D2)
  ap : D2.apN mm.next [109, 111, 114, 101] = (0, D3, mm.next + 1)
  o2 : D3.openD = (0, some ({ mm with l := mm.l ++ [[109, 111, 114, 101]] } : Md).kp, D4)
  r1 : (fScan ((D.crash keep t).rd 0)).1.length ≤ 1099511627776
  c1 : ∀ b s N, wSnapOf ((D.crash keep t).rd 1) = some (b, s, N) → (wGo ((D.crash keep t).rd 0).length N [] N ((D.crash keep t).rd 0)).2.2 ≤ 140737488355328
  s1 : ((D.crash keep t).rd 1).length ≤ 1099511627776
  s2 : ∀ i : Int, i = 0 ∨ i = 1 → (D3.rd i).length ≤ 1099511627776
  f : mm.Few 50
theorem found {D : Dsk} {m m' : Md} (hl : D.lim = 1048576) (hf : Fly D m m') (hm : m.Few 50) (hm' : m'.Few 50) (keep : Int) (t : List UInt8) :
    ∃ (mm : Md) (D2 D3 D4 : Dsk), (mm = m ∨ mm = m') ∧ Fnd D keep (oSafe keep t) mm D2 D3 D4 := by
  have ht := oSafe_ok keep t
  generalize oSafe keep t = t at *
  have hB := hm.log
  have hB' := hm'.log
  obtain ⟨b, hs⟩ := fly_shape (B := 151000) hf (by omega) (by omega) hm.ok ht
  have key : ∀ mm : Md, mm.Few 50 → Shp 151000 ((D.f 0).left keep t) ((D.f 1).left keep t) mm b → ∃ (D2 D3 D4 : Dsk), Fnd D keep t mm D2 D3 D4 := by
    intro mm hmm hsm
    have hsn : ((D.f 1).left keep t).length ≤ 3020 := by
      obtain ⟨a, lows, _, e, _⟩ := hsm
      rw [e]; exact hmm.sn
    have hr : ([109, 111, 114, 101] : List UInt8).length ≤ 3000 := by decide
    have hfr := frame_len (n := mm.next) hr
    have hup := crash_up hl keep t
    have e0 : (D.crash keep t).rd 0 = (D.f 0).left keep t := by rw [hup.rd0]; exact stF_all _
    have e1 : (D.crash keep t).rd 1 = (D.f 1).left keep t := by rw [hup.rd1]; exact stF_all _
    obtain ⟨D2, lg2, o1, o2, o3, o4, o5, o6⟩ := open_ok hup hmm.ok rfl rfl hsm (by omega)
    obtain ⟨p1, lg3, p2, p3, p4, p5, p6⟩ := app_ok o2 o3 o4 o5 o6 (r := [109, 111, 114, 101]) (by omega)
    have hn := hmm.n
    obtain ⟨D4, lg4, s1, _⟩ := open_ok p2 (hmm.ok.app (r := [109, 111, 114, 101]) (by omega) (by omega)) p3 p4 p5 (by omega)
    refine ⟨D2, _, D4, o1, ?_, s1, ?_, fun q s N hw => ?_, ?_, fun i hi => ?_, hmm⟩
    · rw [apN_appD (by omega) (by decide), p1, if_pos rfl]
    · rw [e0]; have := hsm.rows hmm.ok; omega
    · rw [e0]
      rw [e1] at hw
      have := hsm.cut hmm.ok hw
      omega
    · rw [e1]; omega
    · rcases hi with rfl | rfl
      · rw [p2.rd0, p3, stF_all]; omega
      · rw [p2.rd1, p4, stF_all]; omega
  rcases hs with hs | hs
  · obtain ⟨D2, D3, D4, k⟩ := key m hm hs
    exact ⟨m, D2, D3, D4, .inl rfl, k⟩
  · obtain ⟨D2, D3, D4, k⟩ := key m' hm' hs
    exact ⟨m', D2, D3, D4, .inr rfl, k⟩
end Go.Proofs.Ytjekglnbmccnjaa
/-
  Layer 15: the second half of WalRecovers: the power goes, what is had, and that the log goes on.
-/
namespace Go.Proofs.Ytjekglnbmccnjaa
set_option linter.unusedSimpArgs false
set_option linter.unusedVariables false
open Go.RowKit

theorem oSafe_len (keep : Int) (t : List UInt8) : (oSafe keep t).length ≤ t.length := by
  unfold oSafe
  split
  · rename_i h
    rw [List.length_cons, List.length_drop]
    omega
  · split
    · rw [List.length_take]; omega
    · exact Nat.le_refl _
def tailW : Nat → Code → Code
  | 0, c => c
  | n + 1, .seq _ c => tailW n c
  | _, c => c
def headW (n : Nat) (c : Code) : Code := match tailW n c with
  | .seq r _ => r
  | c => c
noncomputable def wrB : Code := (Try.f4.body).getD .skip
def WrQ (w : World) : Exit → Act → World → Prop := bodyPost Try.prog Try.f4 (fun e w' => e = .returned (.bool true) ∧ Turn w w' none)

set_option maxRecDepth 100000 in
set_option maxHeartbeats 12800000 in
theorem wr_rest {w w7 : World} {g g9 g10 : Nat} {R : Nat → Prop} {D D2 D3 D4 : Dsk} {m nx mm : Md} {s l sx lx : Sl} {vs vx : List Value} {Q : Nat → Prop} {ke : Int} {t : List UInt8} (h : Bo w w7 g R (D.crash ke (oSafe ke t))) (hm : Kim w7 Q m s l vs) (hx : Kim w7 Q nx sx lx vx) (v9 : Blk w7 g9 51 (mdc m s l).toArray) (v10 : Blk w7 g10 51 (mdc nx sx lx).toArray)
    (hQ : ∀ i, Q i → ¬ R i) (n9 : ¬ R g9) (n10 : ¬ R g10) (hf : Fnd D ke (oSafe ke t) mm D2 D3 D4) (hmm : mm = m ∨ mm = nx) (fm : m.l.length ≤ 1000) (fx : nx.l.length ≤ 1000) {e_0 e_1 e_2 e_3 e_4 e_6 e_7 e_8 e_11 e_12 e_13 e_14 e_15 e_16 e_17 e_18 e_19 e_20 e_21 e_22 e_23 e_24 e_25 e_26 e_27 e_28 e_29 e_30 e_31 e_32 e_33 e_34 e_35 e_36 e_37 e_38 e_39 e_40 e_41 e_42 e_43 e_44 e_45 e_46 e_47 e_48 e_49 e_50 e_51 e_52 e_53 e_54 e_55 e_56 e_57 e_58 e_59 e_60 e_61 e_62 e_63 e_64 e_65 e_66 e_67 e_68 e_69 e_70 e_71 e_72 e_73 e_74 e_75 e_76 e_77 e_78 e_79 e_80 e_81 e_82 e_83 e_84 e_85 e_86 e_87 e_88 e_89 e_90 e_91 e_92 e_93 e_94 e_95 e_96 e_97 e_98 e_99 e_100 e_101 e_102 e_103 e_104 e_105 e_106 e_107 e_108 e_109 e_110 e_111 e_112 e_113 e_114 e_115 e_116 e_117 e_118 e_119 e_120 e_121 e_122 e_123 e_124 e_125 e_126 e_127 e_128 e_129 e_130 e_131 e_132 e_133 e_134 e_135 e_136 e_137 e_138 e_139 e_140 e_141 e_142 e_143 e_144 e_145 e_146 e_147 e_148 : Value} :
    Code.wp Try.prog (tailW 9 wrB) (WrQ w) ⟨List.toArray (e_0 :: e_1 :: e_2 :: e_3 :: e_4 :: .pointer (some ⟨g, 0, none⟩) :: e_6 :: e_7 :: e_8 :: .pointer (some ⟨g9, 0, none⟩) :: .pointer (some ⟨g10, 0, none⟩) :: e_11 :: e_12 :: e_13 :: e_14 :: e_15 :: e_16 :: e_17 :: e_18 :: e_19 :: e_20 :: e_21 :: e_22 :: e_23 :: e_24 :: e_25 :: e_26 :: e_27 :: e_28 :: e_29 :: e_30 :: e_31 :: e_32 :: e_33 :: e_34 :: e_35 :: e_36 :: e_37 :: e_38 :: e_39 :: e_40 :: e_41 :: e_42 :: e_43 :: e_44 :: e_45 :: e_46 :: e_47 :: e_48 :: e_49 :: e_50 :: e_51 :: e_52 :: e_53 :: e_54 :: e_55 :: e_56 :: e_57 :: e_58 :: e_59 :: e_60 :: e_61 :: e_62 :: e_63 :: e_64 :: e_65 :: e_66 :: e_67 :: e_68 :: e_69 :: e_70 :: e_71 :: e_72 :: e_73 :: e_74 :: e_75 :: e_76 :: e_77 :: e_78 :: e_79 :: e_80 :: e_81 :: e_82 :: e_83 :: e_84 :: e_85 :: e_86 :: e_87 :: e_88 :: e_89 :: e_90 :: e_91 :: e_92 :: e_93 :: e_94 :: e_95 :: e_96 :: e_97 :: e_98 :: e_99 :: e_100 :: e_101 :: e_102 :: e_103 :: e_104 :: e_105 :: e_106 :: e_107 :: e_108 :: e_109 :: e_110 :: e_111 :: e_112 :: e_113 :: e_114 :: e_115 :: e_116 :: e_117 :: e_118 :: e_119 :: e_120 :: e_121 :: e_122 :: e_123 :: e_124 :: e_125 :: e_126 :: e_127 :: e_128 :: e_129 :: e_130 :: e_131 :: e_132 :: e_133 :: e_134 :: e_135 :: e_136 :: e_137 :: e_138 :: e_139 :: e_140 :: e_141 :: e_142 :: e_143 :: e_144 :: e_145 :: e_146 :: e_147 :: e_148 :: []), []⟩ w7 := by
  unfold WrQ
  have T0 : ∀ (w : World) cs t, Turn w (w.alloc (.cells cs t)) none := fun w cs t => (Turn.refl w none).alloc _
  have kc := fun (w : World) (C : Array Value) (n c : Nat) => Lib.run_convert_bytes_const (P := Try.prog) w 34 5 C n c Try.underlying34 Try.underlying5
  have okD := h.p.ok
  have hop1 : Calls Try.prog 13 #[.pointer (some ⟨g, 0, none⟩)] w7 (OpYes R g mm.kp D2 w7) := (open_anyB h.p (by have h0 : ((D.crash ke (oSafe ke t)).rd 0) = ((D.crash ke (oSafe ke t)).f 0).all := rfl; rw [h0]; exact (okD.f 0 (by decide)).all) hf.r1 hf.c1 hf.s1).mono fun e w' k => op_yes hf.o1 k
  have hap : ∀ {V : World} {R : Nat → Prop} {gv : Nat}, Bo w V g R D2 → Blk V gv 81 (wlc g mm.next).toArray → ¬ R gv → ∀ (A : Option Addr) (m' c B : Nat), Rd V B 1 A m' (vbs [109, 111, 114, 101]) → B ≤ V.heap.size → m' ≤ 140737488351232 → Calls Try.prog 16 #[.pointer (some ⟨gv, 0, none⟩), .slice A m' c] V (LgPost R gv g V 0 D3 (mm.next + 1)) := by
    intro V R gv h hb hR A m' c B h1 h2 h3
    have k := append_any h.p hb hR (by have := hf.f.n; omega) A m' c B [109, 111, 114, 101] h1 h2 h3
    rw [hf.ap] at k
    exact k
  have hop2 : ∀ {V : World} {R : Nat → Prop}, Bo w V g R D3 → Calls Try.prog 13 #[.pointer (some ⟨g, 0, none⟩)] V (OpYes R g ({ mm with l := mm.l ++ [[109, 111, 114, 101]] } : Md).kp D4 V) := fun h => (open_any h.p (hf.s2 0 (.inl rfl)) (hf.s2 1 (.inr rfl))).mono fun e w' k => op_yes hf.o2 k
  have hml : mm.l.length ≤ 1000 := by rcases hmm with rfl | rfl <;> assumption
  have hI : m.isk mm.kp = true ∨ (m.isk mm.kp = false ∧ nx.isk mm.kp = true) := by
    cases hc : m.isk mm.kp with
    | true => exact .inl rfl
    | false =>
      rcases hmm with rfl | rfl
      · rw [isk_self] at hc; cases hc
      · exact .inr ⟨rfl, isk_self _⟩
  have hq : ((txt [109, 111, 114, 101]).toList == [109, 111, 114, 101]) = true := by rw [txt_eq]; rfl
  have LL := hid (show mm.kp.recs.length = mm.l.length from rfl)
  clear hf hmm
  have T0' : ∀ W : World, Turn W (W.alloc (.cells #[.int .u8 109, .int .u8 111, .int .u8 114, .int .u8 101] 5 (4, 5))) none := fun W => (Turn.refl W none).alloc _
  rcases hI with i1 | ⟨i1, i2⟩
  · skip
    conv => arg 2; whnf
    go_wp2_with (first
      | (go_at_call 13; first
        | (refine (hop2 h13).mono ?_; rintro e w14 ⟨gu, s14, x14, vs14, Q14, R14, rfl, hc14, hp14, hk14, hq14, hb14, hd14, hnq14, hN14⟩; have h14 := h13.stp2 hc14 hp14 hk14; have z14 := z13.chg hc14 nz13; obtain ⟨yA, yn, yc⟩ := x14; obtain rfl : yn = mm.l.length + 1 := (hq14.rn.trans (by show (mm.l ++ [[109, 111, 114, 101]]).length = _; rw [List.length_append, List.length_singleton])); obtain ⟨ra, rm, rc, hv, hra, hrm1, hrm2, _⟩ := hq14.rows mm.l.length [109, 111, 114, 101] (by show (mm.l ++ [[109, 111, 114, 101]])[mm.l.length]? = _; simp); obtain ⟨bx, ox, e6, hbx, hcx⟩ := hq14.rd.head (by show 0 < (mm.l.length + 1) * 1; omega); have e6 : yA = some ⟨bx, ox, none⟩ := e6; subst e6; have hc0 := hcx mm.l.length _ hv)
        | (refine hop1.mono ?_; rintro e w8 ⟨gv, s8, x8, vs8, Q8, R8, rfl, hc8, hp8, hk8, hq8, hb8, hd8, hnq8, hN8⟩; have h8 := h.stp2 hc8 hp8 hk8; have k8 := hm.chg hc8 (fun i hi => (hQ i hi)); have kx8 := hx.chg hc8 (fun i hi => (hQ i hi)); have w9 := v9.chg hc8 n9; have w10 := v10.chg hc8 n10; obtain ⟨xA, xn, xc⟩ := x8; obtain rfl : xn = mm.l.length := hq8.rn))
      | (refine wp_st (xs := kpc mm.kp s8 ⟨xA, mm.l.length, xc⟩) rfl 46 _ _ rfl rfl rfl (Blk.new w8 _ _) rfl szKp (ones4 rfl rfl rfl rfl) ?_; intro w11 hb11 ht11; have t11 := (T0 w8 _ _).new ht11 (by simp); have y9 := w9.turn0 t11; have y10 := w10.turn0 t11)
      | (refine gd_ld (by rfl) 51 _ rfl rfl y9 (Sub.all _) Try.underlying51 rfl szMd ?_)
      | (go_at_call 22; refine (is_any (k8.turn0 t11) (hq8.turn0 t11) (by omega)).mono ?_; rintro e w12 ⟨rfl, t12⟩; rw [i1])
      | (refine gd_ld (by rfl) 46 _ rfl rfl hb11 (Sub.all _) Try.underlying46 rfl szKp ?_)
      | (go_at_call 16; refine (hap ((h8.turn0 t11).turn0 (t12.trans (T0' w12))) ((hb8.turn0 t11).turn0 (t12.trans (T0' w12))) (hd8 gv (.inr rfl)).2.2 _ _ _ (w12.heap.size + 1) (show Rd (w12.alloc (.cells #[.int .u8 109, .int .u8 111, .int .u8 114, .int .u8 101] 5 (4, 5))) _ 1 _ 4 (vbs [109, 111, 114, 101]) from Rd.litF w12 _ (4, 5) (vbs [109, 111, 114, 101])) (by show _ ≤ (w12.heap.push _).size; rw [Array.size_push]; omega) (by omega)).mono ?_; rintro e w13 ⟨rfl, hc13, R13, hp13, hk13, hb13, hn13⟩; have h13 := ((h8.turn0 t11).turn0 (t12.trans (T0' w12))).lg (by have := (hd8 gv (.inr rfl)).1; have := h.tw.size; omega) hc13 hp13 hk13; have z11 := hb11.lt; have nz8 : ¬ R8 w8.heap.size := (fun k => by have := hp8.lt k; omega); have z13 := (hb11.turn0 (t12.trans (T0' w12))).chg hc13 (fun k => k.elim nz8 fun e => by have := (hd8 gv (.inr rfl)).2.1; omega); have nz13 : ¬ R13 w8.heap.size := (fun k => (hk13 _ k).elim nz8 fun h => by have := t12.size; have := (T0' w12).size; omega))
      | (refine wp_st (xs := kpc ({ mm with l := mm.l ++ [[109, 111, 114, 101]] } : Md).kp s14 ⟨some ⟨bx, ox, none⟩, mm.l.length + 1, yc⟩) rfl 46 _ _ rfl rfl rfl (Blk.new w14 _ _) rfl szKp (ones4 rfl rfl rfl rfl) ?_; intro w15 hb15 ht15; have t15 := (T0 w14 _ _).new ht15 (by simp); have r15 := hb15.ats (j := 2) (v := .slice (some ⟨bx, ox, none⟩) (mm.l.length + 1) yc) rfl; have q15 := (z14.turn0 t15).ats (j := 2) (v := .slice xA mm.l.length xc) rfl; have p15 : w15.cell? ⟨bx, ox + mm.l.length, none⟩ = some (.slice ra rm rc) := (t15.cell hbx (by simp)).trans hc0; have x15 := str_run w15 (c := rc) (hra.turn0 t15 (Nat.le_refl _)))
      | (go_at_call 12; refine (qlives_any _).mono ?_; rintro e w16 ⟨rfl, t16⟩))
    go_ret
    exact ⟨rfl, ((h14.turn0 t15).tw).trans t16⟩
  · skip
    conv => arg 2; whnf
    go_wp2_with (first
      | (go_at_call 13; first
        | (refine (hop2 h13).mono ?_; rintro e w14 ⟨gu, s14, x14, vs14, Q14, R14, rfl, hc14, hp14, hk14, hq14, hb14, hd14, hnq14, hN14⟩; have h14 := h13.stp2 hc14 hp14 hk14; have z14 := z13.chg hc14 nz13; obtain ⟨yA, yn, yc⟩ := x14; obtain rfl : yn = mm.l.length + 1 := (hq14.rn.trans (by show (mm.l ++ [[109, 111, 114, 101]]).length = _; rw [List.length_append, List.length_singleton])); obtain ⟨ra, rm, rc, hv, hra, hrm1, hrm2, _⟩ := hq14.rows mm.l.length [109, 111, 114, 101] (by show (mm.l ++ [[109, 111, 114, 101]])[mm.l.length]? = _; simp); obtain ⟨bx, ox, e6, hbx, hcx⟩ := hq14.rd.head (by show 0 < (mm.l.length + 1) * 1; omega); have e6 : yA = some ⟨bx, ox, none⟩ := e6; subst e6; have hc0 := hcx mm.l.length _ hv)
        | (refine hop1.mono ?_; rintro e w8 ⟨gv, s8, x8, vs8, Q8, R8, rfl, hc8, hp8, hk8, hq8, hb8, hd8, hnq8, hN8⟩; have h8 := h.stp2 hc8 hp8 hk8; have k8 := hm.chg hc8 (fun i hi => (hQ i hi)); have kx8 := hx.chg hc8 (fun i hi => (hQ i hi)); have w9 := v9.chg hc8 n9; have w10 := v10.chg hc8 n10; obtain ⟨xA, xn, xc⟩ := x8; obtain rfl : xn = mm.l.length := hq8.rn))
      | (refine wp_st (xs := kpc mm.kp s8 ⟨xA, mm.l.length, xc⟩) rfl 46 _ _ rfl rfl rfl (Blk.new w8 _ _) rfl szKp (ones4 rfl rfl rfl rfl) ?_; intro w11 hb11 ht11; have t11 := (T0 w8 _ _).new ht11 (by simp); have y9 := w9.turn0 t11; have y10 := w10.turn0 t11)
      | (refine gd_ld (by rfl) 51 _ rfl rfl y9 (Sub.all _) Try.underlying51 rfl szMd ?_)
      | (refine gd_ld (by rfl) 51 _ rfl rfl (y10.turn0 t12) (Sub.all _) Try.underlying51 rfl szMd ?_)
      | (go_at_call 22; first
        | (refine (is_any ((kx8.turn0 t11).turn0 t12) ((hq8.turn0 t11).turn0 t12) (by omega)).mono ?_; rintro e w12b ⟨rfl, t12b⟩; rw [i2])
        | (refine (is_any (k8.turn0 t11) (hq8.turn0 t11) (by omega)).mono ?_; rintro e w12 ⟨rfl, t12⟩; rw [i1]))
      | (refine gd_ld (by rfl) 46 _ rfl rfl (hb11.turn0 t12) (Sub.all _) Try.underlying46 rfl szKp ?_)
      | (refine gd_ld (by rfl) 46 _ rfl rfl hb11 (Sub.all _) Try.underlying46 rfl szKp ?_)
      | (go_at_call 16; refine (hap ((h8.turn0 t11).turn0 ((t12.trans t12b).trans (T0' w12b))) ((hb8.turn0 t11).turn0 ((t12.trans t12b).trans (T0' w12b))) (hd8 gv (.inr rfl)).2.2 _ _ _ (w12b.heap.size + 1) (show Rd (w12b.alloc (.cells #[.int .u8 109, .int .u8 111, .int .u8 114, .int .u8 101] 5 (4, 5))) _ 1 _ 4 (vbs [109, 111, 114, 101]) from Rd.litF w12b _ (4, 5) (vbs [109, 111, 114, 101])) (by show _ ≤ (w12b.heap.push _).size; rw [Array.size_push]; omega) (by omega)).mono ?_; rintro e w13 ⟨rfl, hc13, R13, hp13, hk13, hb13, hn13⟩; have h13 := ((h8.turn0 t11).turn0 ((t12.trans t12b).trans (T0' w12b))).lg (by have := (hd8 gv (.inr rfl)).1; have := h.tw.size; omega) hc13 hp13 hk13; have z11 := hb11.lt; have nz8 : ¬ R8 w8.heap.size := (fun k => by have := hp8.lt k; omega); have z13 := (hb11.turn0 ((t12.trans t12b).trans (T0' w12b))).chg hc13 (fun k => k.elim nz8 fun e => by have := (hd8 gv (.inr rfl)).2.1; omega); have nz13 : ¬ R13 w8.heap.size := (fun k => (hk13 _ k).elim nz8 fun h => by have := (t12.trans t12b).size; have := (T0' w12b).size; omega))
      | (refine wp_st (xs := kpc ({ mm with l := mm.l ++ [[109, 111, 114, 101]] } : Md).kp s14 ⟨some ⟨bx, ox, none⟩, mm.l.length + 1, yc⟩) rfl 46 _ _ rfl rfl rfl (Blk.new w14 _ _) rfl szKp (ones4 rfl rfl rfl rfl) ?_; intro w15 hb15 ht15; have t15 := (T0 w14 _ _).new ht15 (by simp); have r15 := hb15.ats (j := 2) (v := .slice (some ⟨bx, ox, none⟩) (mm.l.length + 1) yc) rfl; have q15 := (z14.turn0 t15).ats (j := 2) (v := .slice xA mm.l.length xc) rfl; have p15 : w15.cell? ⟨bx, ox + mm.l.length, none⟩ = some (.slice ra rm rc) := (t15.cell hbx (by simp)).trans hc0; have x15 := str_run w15 (c := rc) (hra.turn0 t15 (Nat.le_refl _)))
      | (go_at_call 12; refine (qlives_any _).mono ?_; rintro e w16 ⟨rfl, t16⟩))
    go_ret
    exact ⟨rfl, ((h14.turn0 t15).tw).trans t16⟩

theorem szEn {k n : Int} {A : Option Addr} {m c : Nat} : (Try.prog.info? 42).map (·.size) = some (acq k n A m c).length := by kernel_rfl
set_option maxRecDepth 100000 in
set_option maxHeartbeats 12800000 in
theorem wr_end {w wx : World} {g g3 g9 g10 : Nat} {R : Nat → Prop} {D : Dsk} {m nx : Md} {s l sx lx : Sl} {vs vx : List Value} {Q : Nat → Prop} {ca ke : Int} {A : Option Addr} {n c B : Nat} {t : List UInt8} (h : Bo w wx g R D) (k0 : -9223372036854775808 ≤ ke) (k1 : ke ≤ 9223372036854775807) (h3 : Blk wx g3 42 (acq ca ke A n c).toArray) (n3 : ¬ R g3) (hr : Rd wx B 1 A n (vbs t)) (hB : B ≤ wx.heap.size) (hnc : n ≤ c) (hcm : c ≤ maxLen) (hn : n ≤ 140737488351232)
    (hm : Kim wx Q m s l vs) (hx : Kim wx Q nx sx lx vx) (v9 : Blk wx g9 51 (mdc m s l).toArray) (v10 : Blk wx g10 51 (mdc nx sx lx).toArray) (hQ : ∀ i, Q i → ¬ R i) (n9 : ¬ R g9) (n10 : ¬ R g10)
    (REST : ∀ {z_0 z_1 z_2 z_3 z_4 z_6 z_7 z_8 z_11 z_12 z_13 z_14 z_15 z_16 z_17 z_18 z_19 z_20 z_21 z_22 z_23 z_24 z_25 z_26 z_27 z_28 z_29 z_30 z_31 z_32 z_33 z_34 z_35 z_36 z_37 z_38 z_39 z_40 z_41 z_42 z_43 z_44 z_45 z_46 z_47 z_48 z_49 z_50 z_51 z_52 z_53 z_54 z_55 z_56 z_57 z_58 z_59 z_60 z_61 z_62 z_63 z_64 z_65 z_66 z_67 z_68 z_69 z_70 z_71 z_72 z_73 z_74 z_75 z_76 z_77 z_78 z_79 z_80 z_81 z_82 z_83 z_84 z_85 z_86 z_87 z_88 z_89 z_90 z_91 z_92 z_93 z_94 z_95 z_96 z_97 z_98 z_99 z_100 z_101 z_102 z_103 z_104 z_105 z_106 z_107 z_108 z_109 z_110 z_111 z_112 z_113 z_114 z_115 z_116 z_117 z_118 z_119 z_120 z_121 z_122 z_123 z_124 z_125 z_126 z_127 z_128 z_129 z_130 z_131 z_132 z_133 z_134 z_135 z_136 z_137 z_138 z_139 z_140 z_141 z_142 z_143 z_144 z_145 z_146 z_147 z_148 : Value} (V : World) (R' : Nat → Prop), Bo w V g R' (D.crash ke (oSafe ke t)) → Kim V Q m s l vs → Kim V Q nx sx lx vx → Blk V g9 51 (mdc m s l).toArray → Blk V g10 51 (mdc nx sx lx).toArray → (∀ k, R' k → R k ∨ wx.heap.size ≤ k) →
      Code.wp Try.prog (tailW 9 wrB) (WrQ w) ⟨List.toArray (z_0 :: z_1 :: z_2 :: z_3 :: z_4 :: .pointer (some ⟨g, 0, none⟩) :: z_6 :: z_7 :: z_8 :: .pointer (some ⟨g9, 0, none⟩) :: .pointer (some ⟨g10, 0, none⟩) :: z_11 :: z_12 :: z_13 :: z_14 :: z_15 :: z_16 :: z_17 :: z_18 :: z_19 :: z_20 :: z_21 :: z_22 :: z_23 :: z_24 :: z_25 :: z_26 :: z_27 :: z_28 :: z_29 :: z_30 :: z_31 :: z_32 :: z_33 :: z_34 :: z_35 :: z_36 :: z_37 :: z_38 :: z_39 :: z_40 :: z_41 :: z_42 :: z_43 :: z_44 :: z_45 :: z_46 :: z_47 :: z_48 :: z_49 :: z_50 :: z_51 :: z_52 :: z_53 :: z_54 :: z_55 :: z_56 :: z_57 :: z_58 :: z_59 :: z_60 :: z_61 :: z_62 :: z_63 :: z_64 :: z_65 :: z_66 :: z_67 :: z_68 :: z_69 :: z_70 :: z_71 :: z_72 :: z_73 :: z_74 :: z_75 :: z_76 :: z_77 :: z_78 :: z_79 :: z_80 :: z_81 :: z_82 :: z_83 :: z_84 :: z_85 :: z_86 :: z_87 :: z_88 :: z_89 :: z_90 :: z_91 :: z_92 :: z_93 :: z_94 :: z_95 :: z_96 :: z_97 :: z_98 :: z_99 :: z_100 :: z_101 :: z_102 :: z_103 :: z_104 :: z_105 :: z_106 :: z_107 :: z_108 :: z_109 :: z_110 :: z_111 :: z_112 :: z_113 :: z_114 :: z_115 :: z_116 :: z_117 :: z_118 :: z_119 :: z_120 :: z_121 :: z_122 :: z_123 :: z_124 :: z_125 :: z_126 :: z_127 :: z_128 :: z_129 :: z_130 :: z_131 :: z_132 :: z_133 :: z_134 :: z_135 :: z_136 :: z_137 :: z_138 :: z_139 :: z_140 :: z_141 :: z_142 :: z_143 :: z_144 :: z_145 :: z_146 :: z_147 :: z_148 :: []), []⟩ V) {e_0 e_1 e_2 e_4 e_6 e_7 e_8 e_11 e_12 e_13 e_14 e_15 e_16 e_17 e_18 e_19 e_20 e_21 e_22 e_23 e_24 e_25 e_26 e_27 e_28 e_29 e_30 e_31 e_32 e_33 e_34 e_35 e_36 e_37 e_38 e_39 e_40 e_41 e_42 e_43 e_44 e_45 e_46 e_47 e_48 e_49 e_50 e_51 e_52 e_53 e_54 e_55 e_56 e_57 e_58 e_59 e_60 e_61 e_62 e_63 e_64 e_65 e_66 e_67 e_68 e_69 e_70 e_71 e_72 e_73 e_74 e_75 e_76 e_77 e_78 e_79 e_80 e_81 e_82 e_83 e_84 e_85 e_86 e_87 e_88 e_89 e_90 e_91 e_92 e_93 e_94 e_95 e_96 e_97 e_98 e_99 e_100 e_101 e_102 e_103 e_104 e_105 e_106 e_107 e_108 e_109 e_110 e_111 e_112 e_113 e_114 e_115 e_116 e_117 e_118 e_119 e_120 e_121 e_122 e_123 e_124 e_125 e_126 e_127 e_128 e_129 e_130 e_131 e_132 e_133 e_134 e_135 e_136 e_137 e_138 e_139 e_140 e_141 e_142 e_143 e_144 e_145 e_146 e_147 e_148 : Value} {K : Act → World → Prop} (hK : ∀ a V, Code.wp Try.prog (tailW 9 wrB) (WrQ w) a V → K a V) :
    Code.wp Try.prog (headW 8 wrB) (Exit.then K (WrQ w)) ⟨List.toArray (e_0 :: e_1 :: e_2 :: .pointer (some ⟨g3, 0, none⟩) :: e_4 :: .pointer (some ⟨g, 0, none⟩) :: e_6 :: e_7 :: e_8 :: .pointer (some ⟨g9, 0, none⟩) :: .pointer (some ⟨g10, 0, none⟩) :: e_11 :: e_12 :: e_13 :: e_14 :: e_15 :: e_16 :: e_17 :: e_18 :: e_19 :: e_20 :: e_21 :: e_22 :: e_23 :: e_24 :: e_25 :: e_26 :: e_27 :: e_28 :: e_29 :: e_30 :: e_31 :: e_32 :: e_33 :: e_34 :: e_35 :: e_36 :: e_37 :: e_38 :: e_39 :: e_40 :: e_41 :: e_42 :: e_43 :: e_44 :: e_45 :: e_46 :: e_47 :: e_48 :: e_49 :: e_50 :: e_51 :: e_52 :: e_53 :: e_54 :: e_55 :: e_56 :: e_57 :: e_58 :: e_59 :: e_60 :: e_61 :: e_62 :: e_63 :: e_64 :: e_65 :: e_66 :: e_67 :: e_68 :: e_69 :: e_70 :: e_71 :: e_72 :: e_73 :: e_74 :: e_75 :: e_76 :: e_77 :: e_78 :: e_79 :: e_80 :: e_81 :: e_82 :: e_83 :: e_84 :: e_85 :: e_86 :: e_87 :: e_88 :: e_89 :: e_90 :: e_91 :: e_92 :: e_93 :: e_94 :: e_95 :: e_96 :: e_97 :: e_98 :: e_99 :: e_100 :: e_101 :: e_102 :: e_103 :: e_104 :: e_105 :: e_106 :: e_107 :: e_108 :: e_109 :: e_110 :: e_111 :: e_112 :: e_113 :: e_114 :: e_115 :: e_116 :: e_117 :: e_118 :: e_119 :: e_120 :: e_121 :: e_122 :: e_123 :: e_124 :: e_125 :: e_126 :: e_127 :: e_128 :: e_129 :: e_130 :: e_131 :: e_132 :: e_133 :: e_134 :: e_135 :: e_136 :: e_137 :: e_138 :: e_139 :: e_140 :: e_141 :: e_142 :: e_143 :: e_144 :: e_145 :: e_146 :: e_147 :: e_148 :: []), []⟩ wx := by
  have T0 : ∀ (w : World) cs t, Turn w (w.alloc (.cells cs t)) none := fun w cs t => (Turn.refl w none).alloc _
  have C3 : ∀ W, Blk W g3 42 (acq ca ke A n c).toArray → W.cell? ⟨g3, 1, none⟩ = some (.int .i64 ke) ∧ W.rangeAt g3 0 (acq ca ke A n c) := fun W h => ⟨h.ats (j := 1) rfl, h.range (Sub.all _)⟩
  conv => arg 2; whnf
  · skip
    refine wp_region_noPanic ?_
    refine wp_region_held_drew (S := (fun W => W.cell? ⟨g3, 1, none⟩ = some (.int .i64 ke) ∧ W.rangeAt g3 0 (acq ca ke A n c))) (by kernel_rfl) (C3 _ h3.drew) (fun hHeld => ?_)
    (first | (refine wpAnyH_take (i := 0) (v := undef) rfl (by kernel_rfl) (by kernel_rfl) (by kernel_rfl) (fun _ _ _ h => h) (Or.inr ⟨rfl, rfl⟩) (by assumption) ?_) | (refine wpAnyH_take (i := 0) (v := ?_) rfl (by kernel_rfl) (by kernel_rfl) (by kernel_rfl) (fun _ _ _ h => h) (Or.inl ⟨rfl, ?_⟩) (by assumption) ?_; rotate_left 1; · (intro w hSw; (try dsimp only at hSw); go_simp; (try with_reducible rfl)))); (try simp only [Act.put, List.getElem_toArray, List.getElem_cons_zero, List.getElem_cons_succ, List.setIfInBounds_toArray, List.set_cons_zero, List.set_cons_succ])
    (first | (refine wpAnyH_take (i := 1) (v := undef) rfl (by kernel_rfl) (by kernel_rfl) (by kernel_rfl) (fun _ _ _ h => h) (Or.inr ⟨rfl, rfl⟩) (by assumption) ?_) | (refine wpAnyH_take (i := 1) (v := ?_) rfl (by kernel_rfl) (by kernel_rfl) (by kernel_rfl) (fun _ _ _ h => h) (Or.inl ⟨rfl, ?_⟩) (by assumption) ?_; rotate_left 1; · (intro w hSw; (try dsimp only at hSw); go_simp; (try with_reducible rfl)))); (try simp only [Act.put, List.getElem_toArray, List.getElem_cons_zero, List.getElem_cons_succ, List.setIfInBounds_toArray, List.set_cons_zero, List.set_cons_succ])
    (first | (refine wpAnyH_take (i := 2) (v := undef) rfl (by kernel_rfl) (by kernel_rfl) (by kernel_rfl) (fun _ _ _ h => h) (Or.inr ⟨rfl, rfl⟩) (by assumption) ?_) | (refine wpAnyH_take (i := 2) (v := ?_) rfl (by kernel_rfl) (by kernel_rfl) (by kernel_rfl) (fun _ _ _ h => h) (Or.inl ⟨rfl, ?_⟩) (by assumption) ?_; rotate_left 1; · (intro w hSw; (try dsimp only at hSw); go_simp; (try with_reducible rfl)))); (try simp only [Act.put, List.getElem_toArray, List.getElem_cons_zero, List.getElem_cons_succ, List.setIfInBounds_toArray, List.set_cons_zero, List.set_cons_succ])
    refine wpAnyH_take (i := 4) rfl (by kernel_rfl) (by kernel_rfl) (by kernel_rfl) (fun _ _ _ h => h) (yieldsIf_load_mid (by rfl) 42 _ rfl g3 0 rfl (acq ca ke A n c) _ (fun W hW => hW.2) Try.underlying42 rfl szEn) (by assumption) ?_
    (try simp only [Act.put, List.getElem_toArray, List.getElem_cons_zero, List.getElem_cons_succ, List.setIfInBounds_toArray, List.set_cons_zero, List.set_cons_succ])
    refine wpAnyH_ready (rs := [3, 5]) (by kernel_rfl) (by simp) ?_; refine AllReadyH.cons rfl (fun K hK => ?_) (AllReadyH.cons rfl (fun K hK => ?_) AllReadyH.nil)
    · go_simp
      refine hK.out _ _ (C3 _ (h3.drew.alloc _)) (fun hHeld => ?_); clear hK K; (try simp only [Act.put, List.getElem_toArray, List.getElem_cons_zero, List.getElem_cons_succ, List.setIfInBounds_toArray, List.set_cons_zero, List.set_cons_succ])
      refine wpAnyH_ready (rs := [5]) (by kernel_rfl) (by simp) ?_
      refine AllReadyH.cons rfl (fun K hK => ?_) AllReadyH.nil
      go_simp
      have t1 := T0 (World.drew wx) #[] 5
      refine (safe_any ca ke A n c B t _ ((hr.drew).turn0 t1 hB) (Nat.le_trans hB t1.size) hnc hcm hn).mono ?_
      rintro e w2 ⟨A', n', c', rfl, _, hSf, t2⟩
      have T2 : Turn (World.drew wx) w2 none := t1.trans t2
      have hO : Own w2 wx.heap.size 5 1 (some ⟨wx.heap.size, 0, none⟩) 0 0 [] := (show Own ((World.drew wx).alloc (.cells #[] 5)) wx.heap.size 5 1 (some ⟨wx.heap.size, 0, none⟩) 0 0 [] from Own.made (World.drew wx) _ _ 1 0 #[] (Nat.le_refl _) (by decide) rfl).turn0 t2
      have hn' : n' ≤ 140737488351232 := by have := hSf.len; rw [vbs_len] at this; have := oSafe_len ke t; have := hr.len; rw [vbs_len] at this; omega
      refine hK.out _ _ (C3 _ (h3.drew.turn0 T2)) (fun hHeld => ?_); clear hK K; (try simp only [Act.put, List.getElem_toArray, List.getElem_cons_zero, List.getElem_cons_succ, List.setIfInBounds_toArray, List.set_cons_zero, List.set_cons_succ])
      refine wpAnyH_ready (rs := [6]) (by kernel_rfl) (by simp) ?_; refine AllReadyH.cons rfl (fun K hK => ?_) AllReadyH.nil
      refine st_app (base := wx.heap.size) rfl _ _ _ rfl elB rfl rfl hO hSf (vbs_one (oSafe ke t)) (by unfold maxLen; omega) (by omega) (by have := T2.undrew.size; omega) ?_
      intro A6 c6 w6 ho6 t6' hb6
      have t6 : Turn (World.drew wx) w6 none := T2.new t6' (fun g hg => (hO.block g hg).1)
      clear t6' hb6
      simp only [Nat.zero_add, List.nil_append] at ho6 ⊢
      refine hK.out _ _ (C3 _ (h3.drew.turn0 t6)) (fun hHeld => ?_); clear hK K; (try simp only [Act.put, List.getElem_toArray, List.getElem_cons_zero, List.getElem_cons_succ, List.setIfInBounds_toArray, List.set_cons_zero, List.set_cons_succ])
      refine wpAnyH_ready (rs := [7]) (by kernel_rfl) (by simp) ?_
      refine AllReadyH.cons rfl (fun K hK => ?_) AllReadyH.nil
      go_simp
      refine (crash_any (h.turn0 t6.undrew).p ke k0 k1 A6 n' c6 w6.heap.size (oSafe ke t) ho6.rd (Nat.le_refl _) (by omega) ho6.cap.1 ho6.cap.2 (fun k e _ hk => by have := (ho6.block k e).1; have := h.p.lt hk; omega)).mono ?_
      rintro e w7 ⟨rfl, hc7, R7, hp7, hk7⟩
      refine hK.out _ _ (C3 _ ((h3.drew.turn0 t6).chg hc7 n3)) (fun hHeld => ?_); clear hK K; (try simp only [Act.put, List.getElem_toArray, List.getElem_cons_zero, List.getElem_cons_succ, List.setIfInBounds_toArray, List.set_cons_zero, List.set_cons_succ])
      refine wpAnyH_done (by kernel_rfl) ?_ _
      refine NoPanic.normal ?_
      clear hHeld
      have h7 := (h.turn0 t6.undrew).stp2 hc7 hp7 hk7
      have k7 := (hm.turn0 t6.undrew).chg hc7 (fun i hi => hQ i hi)
      have kx7 := (hx.turn0 t6.undrew).chg hc7 (fun i hi => hQ i hi)
      have v7 := (v9.turn0 t6.undrew).chg hc7 n9
      have vx7 := (v10.turn0 t6.undrew).chg hc7 n10
      exact hK _ _ (REST w7 R7 h7 k7 kx7 v7 vx7 (fun k hk => (hk7 k hk).imp id fun h => by have := t6.undrew.size; omega))
    · go_simp
      refine (safe_any ca ke A n c B t _ hr.drew hB hnc hcm hn).mono ?_
      rintro e w2 ⟨A', n', c', rfl, _, hSf2, t2⟩
      refine hK.out _ _ (C3 _ (h3.drew.turn0 t2)) (fun hHeld => ?_); clear hK K; (try simp only [Act.put, List.getElem_toArray, List.getElem_cons_zero, List.getElem_cons_succ, List.setIfInBounds_toArray, List.set_cons_zero, List.set_cons_succ])
      refine wpAnyH_ready (rs := [3]) (by kernel_rfl) (by simp) ?_; refine AllReadyH.cons rfl (fun K hK => ?_) AllReadyH.nil
      go_simp
      have t1 := T0 w2 #[] 5
      have T2 : Turn (World.drew wx) (w2.alloc (.cells #[] 5)) none := t2.trans t1
      have hSf : Rd (w2.alloc (.cells #[] 5)) w2.heap.size 1 A' n' (vbs (oSafe ke t)) := hSf2.turn0 t1 (Nat.le_refl _)
      have hO : Own (w2.alloc (.cells #[] 5)) wx.heap.size 5 1 (some ⟨w2.heap.size, 0, none⟩) 0 0 [] := Own.made w2 _ _ 1 0 #[] (by have := t2.undrew.size; exact this) (by decide) rfl
      have hn' : n' ≤ 140737488351232 := by have := hSf2.len; rw [vbs_len] at this; have := oSafe_len ke t; have := hr.len; rw [vbs_len] at this; omega
      refine hK.out _ _ (C3 _ (h3.drew.turn0 T2)) (fun hHeld => ?_); clear hK K; (try simp only [Act.put, List.getElem_toArray, List.getElem_cons_zero, List.getElem_cons_succ, List.setIfInBounds_toArray, List.set_cons_zero, List.set_cons_succ])
      refine wpAnyH_ready (rs := [6]) (by kernel_rfl) (by simp) ?_; refine AllReadyH.cons rfl (fun K hK => ?_) AllReadyH.nil
      refine st_app (base := wx.heap.size) rfl _ _ _ rfl elB rfl rfl hO hSf (vbs_one (oSafe ke t)) (by unfold maxLen; omega) (by omega) (by have := T2.undrew.size; omega) ?_
      intro A6 c6 w6 ho6 t6' hb6
      have t6 : Turn (World.drew wx) w6 none := T2.new t6' (fun g hg => (hO.block g hg).1)
      clear t6' hb6
      simp only [Nat.zero_add, List.nil_append] at ho6 ⊢
      refine hK.out _ _ (C3 _ (h3.drew.turn0 t6)) (fun hHeld => ?_); clear hK K; (try simp only [Act.put, List.getElem_toArray, List.getElem_cons_zero, List.getElem_cons_succ, List.setIfInBounds_toArray, List.set_cons_zero, List.set_cons_succ])
      refine wpAnyH_ready (rs := [7]) (by kernel_rfl) (by simp) ?_
      refine AllReadyH.cons rfl (fun K hK => ?_) AllReadyH.nil
      go_simp
      refine (crash_any (h.turn0 t6.undrew).p ke k0 k1 A6 n' c6 w6.heap.size (oSafe ke t) ho6.rd (Nat.le_refl _) (by omega) ho6.cap.1 ho6.cap.2 (fun k e _ hk => by have := (ho6.block k e).1; have := h.p.lt hk; omega)).mono ?_
      rintro e w7 ⟨rfl, hc7, R7, hp7, hk7⟩
      refine hK.out _ _ (C3 _ ((h3.drew.turn0 t6).chg hc7 n3)) (fun hHeld => ?_); clear hK K; (try simp only [Act.put, List.getElem_toArray, List.getElem_cons_zero, List.getElem_cons_succ, List.setIfInBounds_toArray, List.set_cons_zero, List.set_cons_succ])
      refine wpAnyH_done (by kernel_rfl) ?_ _
      refine NoPanic.normal ?_
      clear hHeld
      have h7 := (h.turn0 t6.undrew).stp2 hc7 hp7 hk7
      have k7 := (hm.turn0 t6.undrew).chg hc7 (fun i hi => hQ i hi)
      have kx7 := (hx.turn0 t6.undrew).chg hc7 (fun i hi => hQ i hi)
      have v7 := (v9.turn0 t6.undrew).chg hc7 n9
      have vx7 := (v10.turn0 t6.undrew).chg hc7 n10
      exact hK _ _ (REST w7 R7 h7 k7 kx7 v7 vx7 (fun k hk => (hk7 k hk).imp id fun h => by have := t6.undrew.size; omega))
end Go.Proofs.Ytjekglnbmccnjaa
