/-
  Layer 3: the hash of what was written (contract).
-/
import Derived.Test.YtfmighjblppceaaDoorSe
namespace Go.Proofs.YtfmighjblppceaaDoor
open Go.RowKit

theorem sz32 {xs : List Value} (h : xs.length = 32) : (Tryd.prog.info? 25).map (·.size) = some xs.length := by rw [h]; kernel_rfl
theorem szH {xs : List Value} (h : xs.length = 73) : (Tryd.prog.info? 49).map (·.size) = some xs.length := by rw [h]; kernel_rfl
theorem nul32 : ∀ w, (zeroValue 25).run Tryd.prog w = .ok (.agg (vbs (List.replicate 32 0)).toArray) w := zero_at (by kernel_rfl)
theorem nulH : ∀ w, (zeroValue 49).run Tryd.prog w = .ok (.agg (hsCells ⟨0#32, 0#32, 0#32, 0#32, 0#32, 0#32, 0#32, 0#32⟩ (List.replicate 64 0) 0).toArray) w := zero_at (by kernel_rfl)
theorem hs_one (s : W8) (blk : List UInt8) (n : Int) : ∀ u ∈ hsCells s blk n, u.oneCell' = true := by
  intro u hu
  unfold hsCells at hu
  rcases List.mem_append.1 hu with hu | hu
  · rcases List.mem_append.1 hu with hu | hu
    · exact cvs_one _ u hu
    · exact vbs_one _ u hu
  · rw [List.mem_singleton.1 hu]; rfl

theorem vb_b0 (x : BitVec 32) : Value.int .u8 (cV x / 16777216) = vb (UInt8.ofNat (x.toNat / 16777216)) := by
  have := x.isLt
  rw [vb_ofNat]; congr 1; unfold cV; omega
theorem vb_b1 (x : BitVec 32) : Value.int .u8 (cV x / 65536 % 256) = vb (UInt8.ofNat (x.toNat / 65536)) := by
  rw [vb_ofNat]; congr 1
theorem vb_b2 (x : BitVec 32) : Value.int .u8 (cV x / 256 % 256) = vb (UInt8.ofNat (x.toNat / 256)) := by
  rw [vb_ofNat]; congr 1
theorem vb_b3 (x : BitVec 32) : Value.int .u8 (cV x % 256) = vb (UInt8.ofNat x.toNat) := by
  rw [vb_ofNat]; congr 1
theorem vbs_set (l : List UInt8) (i : Nat) (b : UInt8) : (vbs l).set i (vb b) = vbs (l.set i b) := by
  unfold vbs
  rw [List.map_set]

set_option maxRecDepth 100000 in
set_option maxHeartbeats 1600000 in
theorem hsum_any (l : List UInt8) (g : Nat) (w : World) (hL : Laid w) (hg : 2 ≤ g) (h : HIs w g l) (hN : l.length ≤ 281474976710000) :
    Calls Tryd.prog 13 #[.pointer (some ⟨g, 0, none⟩)] w fun e w' => e = .returned (.agg (vbs (sHash l)).toArray) ∧ Turn w w' none := by
  obtain ⟨s, blk, hs, hst⟩ := h
  obtain ⟨hbl, hb⟩ := hs
  have hT := Turn.refl w none
  obtain ⟨X, hX⟩ : ∃ X, X = vbs (sHash l) := ⟨_, rfl⟩
  have hX1 : X.length = 32 := by rw [hX, vbs_len, sHash_len]
  have hX2 : ∀ u ∈ X, u.oneCell' = true := by rw [hX]; exact vbs_one _
  rw [← hX]
  have HX := hid hX
  clear hX
  go_enter Tryd.func13, Tryd.ntmps13
  go_wp2_with (first
    | (refine wp_al rfl 25 rfl _ nul32 ?_; intro gr w1 hgr hr ht1; have hT := hT.trans ht1; have hb := hb.turn0 ht1; rw [cells_agg] at hr)
    | (refine wp_ld rfl 49 _ rfl rfl hb (Sub.all _) Tryd.underlying49 rfl (szH (hsCells_len s _ hbl)) ?_)
    | (refine wp_al rfl 49 rfl _ nulH ?_; intro ge w2 hge he ht2; have hT := hT.trans ht2; have hr1 := hr.turn0 ht2; have ger : gr < ge := (by rw [← hge]; exact hr.lt); have gge : g < ge := (by rw [← hge]; exact hb.lt); rw [cells_agg] at he)
    | (refine wp_st rfl 49 _ _ rfl rfl rfl he (by rw [List.size_toArray, hsCells_len _ _ (by simp), hsCells_len s _ hbl]) (szH (hsCells_len s _ hbl)) (hs_one _ _ _) ?_; intro w3 he3 ht3))
  have hT3 := hT.new ht3 (by simp; omega)
  have hTs := hT3.size
  have hr3 := hr1.turn ht3 (by simp; omega)
  clear hb he hr1
  go_wp2_with (go_at_call 22; refine (padding_any s blk l.length ge _ ⟨hbl, he3⟩ (by omega)).mono ?_; rintro e w4 ⟨A, c, rfl, ho, ht4⟩)
  have hE : HIs w4 ge l := ⟨s, blk, ⟨hbl, he3.turn0 ht4⟩, hst⟩
  have hL4 := (hL.turn hT3 (by simp)).turn ht4 (by simp)
  have hAe : Go.Proofs.YtfmighjblppceaaDoor.blk A ≠ some ge := by
    intro e
    have := (ho.block ge e).1
    have := he3.lt
    omega
  go_wp2_with (first
    | (go_at_call 12; refine (write_any l ge _ _ _ (sEnd l.length) _ _ hL4 (by omega) hE ho.rd (Nat.le_refl _) (fun _ => hAe) ho.cap.1 ho.cap.2 (by have := sZeros_lt l.length; omega)).mono ?_; rintro e w5 ⟨rfl, hE5, ht5⟩; obtain ⟨s', blk', ⟨hbl', hb5⟩, hst'⟩ := hE5; have hT5 := (hT3.trans ht4).new ht5 (by simp; omega); have hr5 := (hr3.turn0 ht4).turn ht5 (by simp; omega); clear hE ho he3 hr3 ht4 ht5 hL4 hAe)
    | (refine wp_al rfl 25 rfl _ nul32 ?_; intro gs w6 hgs hs6 ht6; have hT6 := hT5.trans ht6; have gsr : gr < gs := (by rw [← hgs]; exact hr5.lt); have hr6 := hr5.turn0 ht6; have hb6 := hb5.turn0 ht6; rw [cells_agg] at hs6)
    | (refine wp_ld rfl 46 _ rfl rfl hb6 (sub_words s' blk' _) Tryd.underlying46 rfl (sz8 rfl) ?_))
  have HY := hid (show X = vbs (sOut s') by rw [sState_out (l := l) hst']; exact HX.out)
  clear hst hst'
  clear hb5 hb6 hr5
  go_loopw [14] (fun i wr => ∃ j : Nat, j ≤ 8 ∧ i = .int .i64 (j : Int) ∧ Blk wr gs 25 (vbs (sOutTo s' j)).toArray ∧ Turn w6 wr (some gs)) (fun i _ => (8 - intOf i).toNat)
  case atStart => exact ⟨0, by omega, rfl, by rw [sOutTo_zero]; exact hs6, Turn.refl w6 _⟩
  case round =>
    obtain ⟨j, hj, rfl, hb, ht⟩ := hrel
    clear hs6
    by_cases hj8 : j < 8
    · obtain ⟨x, hx, hset⟩ := sOutTo_at s' j hj8
      have hix := fun W : World => run_ix (P := Tryd.prog) (w := W) Tryd.underlying46 Tryd.underlying44 (by kernel_rfl) hj8 (show (cvs s'.list).toArray[j]? = some (.int .u32 (cV x)) by rw [List.getElem?_toArray]; exact cvs_at hx)
      have Hset := hid hset
      have hx0 := cV_bd x
      have hll : (vbs (sOutTo s' j)).length = 32 := by rw [vbs_len, sOutTo_len s' j hj]
      have d0 := hb.ats (j := 4 * j) (List.getElem?_eq_getElem (by omega))
      have d1 := hb.ats (j := 4 * j + 1) (List.getElem?_eq_getElem (by omega))
      have d2 := hb.ats (j := 4 * j + 2) (List.getElem?_eq_getElem (by omega))
      have d3 := hb.ats (j := 4 * j + 3) (List.getElem?_eq_getElem (by omega))
      have f0 := hb.frozen (4 * j)
      have f1 := hb.frozen (4 * j + 1)
      have f2 := hb.frozen (4 * j + 2)
      have f3 := hb.frozen (4 * j + 3)
      clear hset hx
      go_wp2_with fail
      have hb4 := (((hb.sets (4 * j) (.int .u8 (cV x / 16777216))).sets (4 * j + 1) (.int .u8 (cV x / 65536 % 256))).sets (4 * j + 2) (.int .u8 (cV x / 256 % 256))).sets (4 * j + 3) (.int .u8 (cV x % 256))
      rw [vb_b0, vb_b1, vb_b2, vb_b3, vbs_set, vbs_set, vbs_set, vbs_set, Hset.out, ← vb_b0, ← vb_b1, ← vb_b2, ← vb_b3] at hb4
      refine ⟨⟨j + 1, by omega, rfl, hb4, ht.trans ((((Blk.setTurn _ gs _ _).trans (Blk.setTurn _ gs _ _)).trans (Blk.setTurn _ gs _ _)).trans (Blk.setTurn _ gs _ _))⟩, ?_⟩
      simp [intOf]; omega
    · have hjj : j = 8 := by omega
      rw [hjj, sOutTo_all, ← HY.out] at hb
      clear hjj
      have hr7 := hr6.turn ht (by simp; omega)
      go_wp2_with (first
        | (refine wp_ld rfl 25 _ rfl rfl hb (Sub.all X) Tryd.underlying25 rfl (sz32 hX1) ?_)
        | (refine wp_st (xs := X) rfl 25 _ _ rfl rfl rfl hr7 (by rw [List.size_toArray, vbs_len, hX1]; rfl) (sz32 hX1) hX2 ?_; intro w9 hb9 ht9))
      refine ret_cell rfl rfl rfl hb9 Tryd.underlying25 rfl (sz32 hX1) ⟨rfl, ?_⟩
      exact (hT6.new ht (by simp; omega)).new ht9 (by simp; omega)
end Go.Proofs.YtfmighjblppceaaDoor
