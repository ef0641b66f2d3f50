/-
  Layer 1: Same of the document's own answers; the walk of PrefixTexts.
-/
import Derived.Test.YtljmikhommkjgaaPu
import Derived.Deep.RegionLaw
import Derived.Deep.RegionHeld3
import Derived.Deep.DeepCutAuto
namespace Go.Proofs.Ytljmikhommkjgaa
open Go.RowKit

set_option maxHeartbeats 400000 in
theorem same_any (A A' : Option Addr) (n c c' : Nat) (ts : List (List UInt8)) (B B' : Nat) (w : World) (h1 : Rd w B 1 A n (tvl ts)) (h2 : Rd w B' 1 A' n (tvl ts)) (hn : n ≤ 140737488355328) :
    Calls Try.prog 26 #[.slice A n c, .slice A' n c'] w fun e w' => e = .returned (.bool true) ∧ ∃ q, w' = w.drewN q := by
  have hl := h1.len
  rw [tvl_len] at hl
  have HL := hid hl
  clear hl
  go_enter Try.func26, Try.ntmps26
  go_wp2_with fail
  go_loopw [5] (fun i wr => ∃ (j : Nat), j ≤ n ∧ i = .int .i64 j ∧ ∃ q, wr = w.drewN q) (fun i _ => n - (intOf i).toNat)
  case atStart => exact ⟨0, Nat.zero_le _, rfl, 0, rfl⟩
  case round =>
    obtain ⟨j, hj, rfl, q, rfl⟩ := hrel
    by_cases hlt : j < n
    · obtain ⟨t, htj⟩ : ∃ t, ts[j]? = some t := ⟨ts[j]'(by rw [HL.out]; exact hlt), List.getElem?_eq_getElem _⟩
      have hv : (tvl ts)[j]? = some (.string (txt t)) := by simp [tvl, htj]
      obtain ⟨b1, o1, rfl, _, hc1⟩ := h1.head (by omega)
      obtain ⟨b2, o2, rfl, _, hc2⟩ := h2.head (by omega)
      have g1 := hc1 j _ hv
      have g2 := hc2 j _ hv
      have hji : (j : Int) < n := by omega
      clear hc1 hc2 hv htj
      go_wp2_with fail
      go_quiet (fail)
      go_wp2_with fail
      go_roundw
      case measure => simp [intOf]; omega
      case rel => exact ⟨j + 1, by omega, by go_num, _, rfl⟩
    · go_wp2
      go_ret
      exact ⟨rfl, q, rfl⟩

theorem pTakeTexts_ok {l : List UInt8} {most each : Int} (h : (pTakeTexts l most each).2.2 = 0) : (pTakeTexts l most each).2.1 ≤ l.length := by
  have key : ∀ n (l : List UInt8), (pMany n l each).2.1 ≤ l.length := by
    intro n
    induction n with
    | zero => intro l; simp [pMany]
    | succ n ih =>
      intro l
      rw [pMany]
      split
      · simp
      split
      · simp
      · rename_i g1 g2
        have := ih (l.drop (pTakeText l each).2.1)
        have h3 := (pTakeText_ok (l := l) (most := each) (by omega)).1
        rw [List.length_drop] at this
        simp only
        omega
  unfold pTakeTexts at *
  split
  · simp
  split
  · simp
  · rename_i g1 g2
    unfold pAhead
    split
    · simp
    · obtain ⟨x, k, f, ht⟩ : ∃ x k f, pTake l = (x, k, f) := ⟨_, _, _, rfl⟩
      rw [ht] at g1 ⊢
      have hf : f = 0 := by simpa using g1
      subst hf
      have h3 := (pTake_ok ht).2.2.1
      have := key x (l.drop k)
      rw [List.length_drop] at this
      simp only
      omega

theorem pTakeTexts_few (l : List UInt8) (most each : Int) : (pTakeTexts l most each).1.length ≤ l.length := by
  have key : ∀ n (l : List UInt8), (pMany n l each).1.length ≤ (pMany n l each).2.1 := by
    intro n
    induction n with
    | zero => intro l; simp [pMany]
    | succ n ih =>
      intro l
      rw [pMany]
      split
      · simp
      split
      · simp
      · rename_i g1 g2
        have := ih (l.drop (pTakeText l each).2.1)
        have h3 := pTakeText_pos (l := l) (most := each) (by omega)
        simp only [List.length_cons]
        omega
  by_cases h : (pTakeTexts l most each).2.2 = 0
  · have h1 := pTakeTexts_ok h
    refine Nat.le_trans ?_ h1
    unfold pTakeTexts at *
    split
    · simp
    split
    · simp
    · unfold pAhead
      split
      · simp
      · have := key (pTake l).1 (l.drop (pTake l).2.1)
        simp only [List.nil_append]
        omega
  · unfold pTakeTexts at *
    split
    · simp
    split
    · simp
    · rename_i g1 g2
      rw [if_neg g1, if_neg g2] at h
      unfold pAhead at *
      split
      · simp
      · rename_i g3
        rw [if_neg g3] at h
        simp at h

set_option maxRecDepth 100000 in
set_option maxHeartbeats 8000000 in
theorem texts_walk (T : Option Addr) (m d : Nat) (ss : List ByteArray) (A : Option Addr) (n c : Nat) (l : List UInt8) (most each : Int) (w : World) (ht : Rd w w.heap.size 1 T m (tvs ss)) (hs : sumSz ss + m ≤ 1048576)
    (hr : Rd w w.heap.size 1 A n (vbs l)) (hnc : n ≤ c) (hc : c ≤ maxLen) (hn : n ≤ 1048576)
    (h2 : -9223372036854775808 ≤ most) (h3 : most ≤ 9223372036854775807) (h4 : -9223372036854775808 ≤ each) (h5 : each ≤ 9223372036854775807) :
    Calls Try.prog 8 #[.slice T m d, .slice A n c, .agg #[.int .i64 most, .int .i64 each]] w fun e w' => e = .returned (.bool true) ∧ Turn w w' none := by
  go_enter Try.func8, Try.ntmps8
  go_upto_region 1 with fail
  obtain ⟨wb, hwb⟩ : ∃ wb, wb = w.alloc (.cells #[.int .i64 most, .int .i64 each] 46) := ⟨_, rfl⟩
  obtain ⟨g, hg⟩ : ∃ g, g = w.heap.size := ⟨_, rfl⟩
  have hbox : Blk wb g 46 #[.int .i64 most, .int .i64 each] := by rw [hwb, hg]; exact Blk.new w _ _
  have hT : Turn w wb none := by rw [hwb]; exact (Turn.refl w none).alloc _
  rw [← hwb, ← hg]
  clear hwb hg
  have hbox' := hbox
  have hTb := (Turn.refl wb none).drew
  go_cut [24] (fun v w' => v = .bool false ∧ Turn wb w' none)
  case first =>
    have htb := ht.turn0 hT (Nat.le_refl _)
    have hrb := hr.turn0 hT (Nat.le_refl _)
    go_region_law (first
      | ((refine st_app (base := wb.heap.size) rfl _ _ _ rfl elS rfl rfl (by first | exact (Own.made _ _ _ 1 0 #[] (Nat.le_refl _) (by decide) rfl).mono hTb.size | exact (Own.made _ _ _ 1 0 #[] (Nat.le_refl _) (by decide) rfl).drew.turn0 ht1) (htb.turn0 (by first | exact hTb | exact hTb.alloc _) hT.size) (tvs_one ss) (by unfold maxLen; first | omega | (simp; done) | (simp; omega)) (by first | omega | (simp; done) | (simp; omega)) (by have := hTb.size; first | omega | (simp; omega)) ?_; intro T3 d3 w4 ho3 ht3 hb3; have ho1 := (by first | exact ho1.turn ht3 (.inr (by intro e; have := ho1.block _ e; first | (simp at this; done) | (simp at this; omega))) | exact (ho1.alloc _).turn ht3 (.inr (by intro e; have := ho1.block _ e; first | (simp at this; done) | (simp at this; omega))) : Own w4 _ _ _ _ _ _ _); have hTb := (by first | exact hTb.new ht3 (fun g hg => by simp [blk] at hg; have := hTb.size; try omega) | exact (hTb.alloc _).new ht3 (fun g hg => by simp [blk] at hg; have := hTb.size; try omega) : Turn wb w4 none); rw [Nat.zero_add] at ho3 ⊢; rw [List.nil_append] at ho3))
      | (go_simp; go_at_call 11; refine (own_any _ _ _ l w.heap.size _ (hrb.turn0 (by first | exact hTb | exact hTb.alloc _) hT.size) (by have := hT.size; have := hTb.size; first | omega | (simp; omega)) (by omega)).mono ?_; rintro e w1 ⟨A1, c1, rfl, ho1, ht1⟩; have hTb := (by first | exact hTb.trans ht1 | exact (hTb.alloc _).trans ht1 : Turn wb w1 none))
      | (go_simp; go_at_call 22; refine (putTexts_any _ _ _ _ _ _ l ss _ _ ho1.rd ho3.rd (Nat.le_refl _) (by omega) hs).mono ?_; rintro e w5 ⟨A5, N5, c5, rfl, ho5, ht5⟩; have hTb := hTb.trans ht5; have hs5 := str_run w5 (c := c5) ho5.rd; clear ho1 ho3)
      | (go_simp; go_at_call 23; refine (rtexts_any _ _ _ _ _ _ l ss w.heap.size _ (hrb.turn0 hTb hT.size) (htb.turn0 hTb hT.size) (Nat.le_trans hT.size hTb.size) (by omega) hs).mono ?_; rintro e w6 ⟨A6, N6, c6, rfl, ho6, ht6⟩; have hTb := hTb.trans ht6; have hs6 := str_run w6 (c := c6) ho6.rd; have hs5 := str_run w6 (c := c5) (ho5.turn0 ht6).rd; clear ho5 ho6)
      | go_simp)
    all_goals
      go_wp2_with fail
      go_meet
      exact ⟨rfl, hTb⟩
  case rest =>
    clear hTb
    obtain ⟨rfl, hTb⟩ := hcut
    obtain ⟨f, hf⟩ : ∃ f, (pTakeTexts l most each).2.2 = f := ⟨_, rfl⟩
    have HF := hid hf
    clear hf
    go_upto_region 3 with fail
    go_cut [7, 8, 9] (fun v1 v2 v3 w' => ∃ T7 m7 d7 R8 n8 c8, v1 = .slice T7 m7 d7 ∧ v2 = .slice R8 n8 c8 ∧ v3 = .int .i64 f ∧ Own w' wb.heap.size 9 1 T7 m7 d7 (tvl (pTakeTexts l most each).1) ∧
      Own w' wb.heap.size 5 1 R8 n8 c8 (vbs (pRestTexts l most each)) ∧ Turn wb w' none)
    case first =>
      have hTb := hTb.drew
      have hbx := hbox.turn0 hTb
      have b0 := hbx.cell 0
      have b1 := hbx.cell 1
      simp only [List.getElem?_toArray, List.getElem?_cons_zero, List.getElem?_cons_succ] at b0 b1
      have hr1 := (hr.turn0 hT (Nat.le_refl _)).turn0 hTb hT.size
      have hsz := Nat.le_trans hT.size hTb.size
      go_region_held3 (fun w' => w'.cell? ⟨g, 0, none⟩ = some (.int .i64 most) ∧ w'.cell? ⟨g, 1, none⟩ = some (.int .i64 each)) (exact ⟨b0, b1⟩) (first | (go_at_call 11; refine (own_any _ _ _ l w.heap.size _ hr1 hsz (by omega)).mono ?_; rintro e w7 ⟨A7, c7, rfl, ho7, ht7⟩; have hTb := hTb.trans ht7; have hbx := hbx.turn0 ht7; have b0 := hbx.cell 0; have b1 := hbx.cell 1; simp only [List.getElem?_toArray, List.getElem?_cons_zero, List.getElem?_cons_succ] at b0 b1) | (go_at_call 24; refine (takeTexts_any _ _ _ most each l _ _ ho7.rd (Nat.le_refl _) ho7.cap.1 ho7.cap.2 (by omega) h2 h3 h4 h5).mono ?_; rintro e w8 ⟨T8, m8, d8, R8, n8, c8, rfl, hoT, hoR, ht8⟩; rw [HF.out]; have hzb := hTb.size; have hTb := hTb.trans ht8; have hbx := hbx.turn0 ht8; have b0 := hbx.cell 0; have b1 := hbx.cell 1; simp only [List.getElem?_toArray, List.getElem?_cons_zero, List.getElem?_cons_succ] at b0 b1))
      all_goals
        go_wp2_with fail
        go_meet
        exact ⟨T8, m8, d8, R8, n8, c8, rfl, rfl, rfl, hoT.mono hzb, hoR.mono hzb, hTb⟩
    case rest =>
      clear hTb
      obtain ⟨T7, m7, d7, R8, n8, c8, rfl, rfl, rfl, hoT, hoR, hTb⟩ := hcut
      have hbx := hbox.turn0 hTb
      have b0 := hbx.cell 0
      have b1 := hbx.cell 1
      simp only [List.getElem?_toArray, List.getElem?_cons_zero, List.getElem?_cons_succ] at b0 b1
      have hr1 := (hr.turn0 hT (Nat.le_refl _)).turn0 hTb hT.size
      have hsz := Nat.le_trans hT.size hTb.size
      obtain ⟨k, hk⟩ : ∃ k, (pTakeTexts l most each).2.1 = k := ⟨_, rfl⟩
      have HK := hid hk
      clear hk
      go_wp2_with fail
      refine (rtakeTexts_any _ _ _ most each l w.heap.size _ hr1 hsz hnc hc hn h2 h3 h4 h5).mono ?_
      rintro e w9 ⟨T9, m9, d9, rfl, ho9, ht9⟩
      rw [HF.out, HK.out]
      have hm9 : m9 = m7 := by
        have e1 := ho9.len
        have e2 := hoT.len
        rw [e1] at e2
        exact e2
      subst hm9
      have hTb := hTb.trans ht9
      have hoT := hoT.turn0 ht9
      have hoR := hoR.turn0 ht9
      have hr1 := hr1.turn0 ht9 hsz
      have hmm : m9 ≤ 140737488355328 := by
        have e1 := ho9.len
        have e2 := pTakeTexts_few l most each
        have e3 := hr.len
        rw [tvl_len] at e1
        rw [vbs_len] at e3
        omega
      have ht9z := ht9.size
      clear b0 b1 hbx ht9
      by_cases hf : f = 0
      · subst hf
        have hkl := pTakeTexts_ok HF.out
        have hl := hr.len
        rw [vbs_len] at hl
        rw [HK.out, hl] at hkl
        have hrest : pRestTexts l most each = l.drop k := by unfold pRestTexts; rw [HF.out, if_pos rfl, HK.out]
        rw [hrest] at hoR
        have s1 := fun x : Fut w9 => str_run x.at_ (c := c8) (hoR.fut x).rd
        have s2 := fun x : Fut w9 => str_run x.at_ (c := c - k) ((hr1.cutB (c := c) hkl hnc).fut (Nat.le_trans hsz ht9z) x)
        have hsame := hid (fun x : Fut w9 => fut_callN x (same_any _ _ _ d7 d9 _ _ _ _ (hoT.fut x).rd (ho9.fut x).rd hmm))
        have hlives := hid (fun x : Fut w9 => fut_call x (lives_any x.at_))
        have hkc : k ≤ c := by omega
        clear hl hrest
        go_wp2_with fail
        refine wp_region_fut (by kernel_rfl) (by kernel_rfl) ?_
        repeat (go_big_quiet_step (first | (go_at_call 26; exact hsame.out _) | (go_at_call 15; exact hlives.out _)))
        refine wpQuiet_nil ?_
        intro w10 ht10
        go_wp2_with fail
        all_goals
          go_ret
          exact ⟨rfl, hT.trans (hTb.trans ht10)⟩
      · have hrest : pRestTexts l most each = [] := by unfold pRestTexts; rw [HF.out, if_neg hf]
        rw [hrest] at hoR
        have hn8 := hoR.len
        simp [vbs] at hn8
        subst hn8
        have hfb : ((f : Int) != 0) = true := by simp; omega
        have hfe : ((f : Int) == 0) = false := by simp; omega
        have s1 := fun x : Fut w9 => str_run x.at_ (c := c8) (hoR.fut x).rd
        have hsame := hid (fun x : Fut w9 => fut_callN x (same_any _ _ _ d7 d9 _ _ _ _ (hoT.fut x).rd (ho9.fut x).rd hmm))
        have hlives := hid (fun x : Fut w9 => fut_call x (lives_any x.at_))
        clear hrest
        go_wp2_with fail
        refine wp_region_fut (by kernel_rfl) (by kernel_rfl) ?_
        repeat (go_big_quiet_step (first | (go_at_call 26; exact hsame.out _) | (go_at_call 15; exact hlives.out _)))
        refine wpQuiet_nil ?_
        intro w10 ht10
        go_wp2_with fail
        all_goals
          go_ret
          exact ⟨rfl, hT.trans (hTb.trans ht10)⟩
end Go.Proofs.Ytljmikhommkjgaa
