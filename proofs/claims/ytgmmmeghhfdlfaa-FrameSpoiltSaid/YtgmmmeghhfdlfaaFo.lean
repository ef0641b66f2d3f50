/-
  Layer 5: the walk of FrameSpoilt, whole.
-/
import Derived.Test.YtgmmmeghhfdlfaaFn
namespace Go.Proofs.Ytgmmmeghhfdlfaa
open Go.RowKit

set_option maxRecDepth 100000 in
set_option maxHeartbeats 800000 in
theorem fspoilt_big (A : Option Addr) (n c : Nat) (vs : List Value) (rows : List (List UInt8)) (which v0 v1 : Int) (w : World) (hr : Rw w w.heap.size A n vs rows) (hn : n ≤ 140737488355328) (hx : ∀ x ∈ rows, x.length ≤ 140737488355328) (hns : ¬ (Small rows ∧ n ≠ 0)) :
    Calls Try.prog 6 #[.slice A n c, .int .u8 which, .agg #[.int .u32 v0, .int .u32 v1]] w fun e w' => e = .returned (.bool true) ∧ Turn w w' none := by
  go_enter Try.func6, Try.ntmps6
  go_wp2_with fail
  generalize hg : w.heap.size = g
  have hbox := Blk.new w 46 #[.int .u32 v0, .int .u32 v1]
  rw [hg] at hbox
  have hT := (Turn.refl w none).alloc (.cells #[.int .u32 v0, .int .u32 v1] 46)
  have c0 := hbox.cell 0
  have c1 := hbox.cell 1
  simp only [List.getElem?_toArray, List.getElem?_cons_zero, List.getElem?_cons_succ] at c0 c1
  generalize w.alloc (.cells #[.int .u32 v0, .int .u32 v1] 46) = wb at *
  go_region_held3 (fun w' => w'.cell? ⟨g, 0, none⟩ = some (.int .u32 v0) ∧ w'.cell? ⟨g, 1, none⟩ = some (.int .u32 v1)) (exact ⟨c0, c1⟩) (fail)
  have hT := hT.drew
  clear c0 c1 hbox
  have hrb := hr.turn0 hT (Nat.le_refl _)
  by_cases h0 : n = 0
  · have hn0 : ((n : Int) == 0) = true := by rw [h0]; rfl
    clear h0
    go_wp2_with (first
      | (go_at_call 19; refine (small_or _ _ _ vs rows _ _ hrb hn hx).mono ?_; rintro e w' ⟨⟨rfl, hsm⟩ | rfl, rfl⟩)
      | (go_at_call 13; refine (lives_any _).mono ?_; rintro e w8 ⟨rfl, ht8⟩))
    all_goals
      go_ret
      exact ⟨rfl, hT.trans ht8⟩
  · have hns2 : ¬ Small rows := fun h => hns ⟨h, h0⟩
    clear hns h0
    go_wp2_with (first
      | (go_at_call 19; refine (small_or _ _ _ vs rows _ _ hrb hn hx).mono ?_; rintro e w' ⟨⟨rfl, hsm⟩ | rfl, rfl⟩; exact absurd hsm hns2)
      | (go_at_call 13; refine (lives_any _).mono ?_; rintro e w8 ⟨rfl, ht8⟩))
    go_ret
    exact ⟨rfl, hT.trans ht8⟩

theorem fspoilt_walk (A : Option Addr) (n c : Nat) (vs : List Value) (rows : List (List UInt8)) (which v0 v1 : Int) (w : World) (hr : Rw w w.heap.size A n vs rows) (hnc : n ≤ c) (hc : c ≤ maxLen) (hn : n ≤ 140737488355328) (hx : ∀ x ∈ rows, x.length ≤ 140737488355328)
    (hw0 : 0 ≤ which) (hw1 : which ≤ 255) (hv0 : 0 ≤ v0) (hv1 : v0 ≤ 4294967295) (hv2 : 0 ≤ v1) (hv3 : v1 ≤ 4294967295) :
    Calls Try.prog 6 #[.slice A n c, .int .u8 which, .agg #[.int .u32 v0, .int .u32 v1]] w fun e w' => e = .returned (.bool true) ∧ Turn w w' none := by
  by_cases hsm : Small rows ∧ n ≠ 0
  · obtain ⟨hsm, h0⟩ := hsm
    obtain ⟨by_, rfl⟩ := Int.eq_ofNat_of_zero_le hv2
    have hl := hr.len
    have HB : ∀ x ∈ rows, x.length ≤ 1048576 := fun x hx => Nat.le_trans (hsm.one x hx) (by omega)
    have hkp := Int.emod_lt_of_pos which (show (0 : Int) < (n : Int) by omega)
    obtain ⟨k, hk⟩ : ∃ k : Nat, which % (n : Int) = (k : Int) := ⟨(which % (n : Int)).toNat, by rw [Int.toNat_of_nonneg (Int.emod_nonneg _ (by omega))]⟩
    rw [hk] at hkp
    obtain ⟨x, hx8⟩ : ∃ x, rows[k]? = some x := ⟨rows[k]'(by omega), List.getElem?_eq_getElem (by omega)⟩
    obtain ⟨m, hm⟩ : ∃ m, x.length = m := ⟨_, rfl⟩
    have hm20 := hsm.one x (List.mem_of_getElem? hx8)
    rw [hm] at hm20
    have hall := hsm.all
    have hcut := congrArg List.length (fAll_cut hx8)
    rw [List.length_append, List.length_append, fBytes_len, hm, fSize] at hcut
    have hp := pSize_small4 (n := m) (by omega)
    obtain ⟨f, hf⟩ : ∃ f : Nat, v0 % (8 * ((m : Int) + 4)) = (f : Int) := ⟨(v0 % (8 * ((m : Int) + 4))).toNat, by rw [Int.toNat_of_nonneg (Int.emod_nonneg _ (by omega))]⟩
    have hf2 : (f : Int) < 8 * ((m : Int) + 4) := by have := Int.emod_lt_of_pos v0 (show (0 : Int) < 8 * ((m : Int) + 4) by omega); omega
    by_cases h32 : f + 32 ≤ 8 * (m + 4)
    · rcases fC_end hx8 HB (f := f) (by_ := by_) (i := 32) (by omega) (by omega) with ⟨ha, hs⟩ | ⟨ha, hs⟩
      · exact fspoilt_aa A n c vs rows which v0 by_ w hr hnc hc hn hx hw0 hw1 hv0 hv1 hv3 k m _ _ f x hk hkp (hid hx8) (hid hm) hm20 (hid rfl) (hid rfl) hall (by omega) (by omega) hf 32 (by omega) (by omega) (by omega) (hid ha) (hid hs) (hid hl) (hid HB)
      · exact fspoilt_an A n c vs rows which v0 by_ w hr hnc hc hn hx hw0 hw1 hv0 hv1 hv3 k m _ _ f x hk hkp (hid hx8) (hid hm) hm20 (hid rfl) (hid rfl) hall (by omega) (by omega) hf 32 (by omega) (by omega) (by omega) (hid ha) (hid hs) (hid hl) (hid HB)
    · obtain ⟨I, hI⟩ : ∃ I, f + I = 8 * (m + 4) := ⟨8 * (m + 4) - f, by omega⟩
      rcases fC_end hx8 HB (f := f) (by_ := by_) (i := I) (by omega) (by omega) with ⟨ha, hs⟩ | ⟨ha, hs⟩
      · exact fspoilt_ba A n c vs rows which v0 by_ w hr hnc hc hn hx hw0 hw1 hv0 hv1 hv3 k m _ _ f x hk hkp (hid hx8) (hid hm) hm20 (hid rfl) (hid rfl) hall (by omega) (by omega) hf I (by omega) (by omega) (hid ha) (hid hs) (hid hl) (hid HB)
      · exact fspoilt_bn A n c vs rows which v0 by_ w hr hnc hc hn hx hw0 hw1 hv0 hv1 hv3 k m _ _ f x hk hkp (hid hx8) (hid hm) hm20 (hid rfl) (hid rfl) hall (by omega) (by omega) hf I (by omega) (by omega) (hid ha) (hid hs) (hid hl) (hid HB)
  · exact fspoilt_big A n c vs rows which v0 v1 w hr hn hx hsm
end Go.Proofs.Ytgmmmeghhfdlfaa
