/-
  Layer 16: the library's slices.Insert at bounds: in place.
-/
import Derived.Test.YtnkmpcepdjjopaaIdI
namespace Go.Proofs.Ytnkmpcepdjjopaa
set_option linter.unusedSimpArgs false
set_option linter.unusedVariables false
open Go.RowKit

section
variable {w : World} {n c k gv : Nat} {B : List (Nat × Nat)} {p : Nat × Nat}
set_option maxRecDepth 100000 in
set_option maxHeartbeats 3200000 in
theorem insC16_any {gz : Nat} (hz : Own w 0 50 2 (some ⟨gz, 0, none⟩) n c (bvs B)) (hv : Blk w gv 50 (bv p).toArray) (hne : gv ≠ gz) (hk : k < n) (hc : n + 1 ≤ c) (hf : n ≤ 100000) :
    Calls Try.prog 35 #[.slice (some ⟨gz, 0, none⟩) n c, .int .i64 (k : Int), .slice (some ⟨gv, 0, none⟩) 1 1] w fun e w' =>
      e = .returned (.slice (some ⟨gz, 0, none⟩) (n + 1) c) ∧ Own w' 0 50 2 (some ⟨gz, 0, none⟩) (n + 1) c (bvs (B.take k ++ p :: B.drop k)) ∧ Turn w w' (some gz) := by
  have hBn : B.length = n := by have := hz.len_; rw [bvs_len] at this; omega
  have hcm := hz.cap.2
  have hgz := (hz.block gz rfl).2
  have hc63 : c ≤ 9223372036854775807 := by unfold maxLen at hcm; omega
  obtain ⟨cur, b0, hcs, htk⟩ := hz.raw
  have lk : (bvs (B.take k)).length = k * 2 := by rw [bvs_len, List.length_take]; omega
  have ld : (bvs (B.drop k)).length = (n - k) * 2 := by rw [bvs_len, List.length_drop]; omega
  have hcl : cur.toList.length = c * 2 := by rw [Array.length_toList, hcs]
  have htk2 : cur.toList.take (k * 2) = bvs (B.take k) := by
    have h := congrArg (List.take (k * 2)) htk
    rw [List.take_take, Nat.min_eq_left (by omega), bvs_take] at h
    exact h
  have hI := ins_cells2 (R := cur.toList) (u := bvs (B.take k)) (v := bv p) (d := bvs (B.drop k)) (by rw [lk]; exact htk2) (by rw [lk, ld, hcl]; show k * 2 + 2 + _ ≤ _; omega)
  rw [lk, ld, show (bv p).length = 2 from rfl, show k * 2 + 2 = (k + 1) * 2 by omega] at hI
  obtain ⟨R2, hR2⟩ : ∃ R2, R2 = cur.toList.take ((k + 1) * 2) ++ bvs (B.drop k) ++ cur.toList.drop ((k + 1) * 2 + (n - k) * 2) := ⟨_, rfl⟩
  obtain ⟨R3, hR3⟩ : ∃ R3, R3 = R2.take (k * 2) ++ bv p ++ R2.drop (k * 2 + 2) := ⟨_, rfl⟩
  rw [← hR2, show (k + 1) * 2 = k * 2 + 2 by omega, ← hR3] at hI
  have rs : Rd w.drew w.heap.size 2 (some ⟨gz, k * 2, none⟩) (n - k) (bvs (B.drop k)) := by
    refine ⟨ld, fun j u hu => ⟨_, rfl, hgz, ?_⟩⟩
    have hjl := (List.getElem?_eq_some_iff.1 hu).1
    rw [ld] at hjl
    rw [add_flat, hz.drew.cell (i := k * 2 + j) (by omega)]
    rw [← bvs_drop, List.getElem?_drop] at hu
    exact hu
  have hcp1 := fun cc c' => run_cpM (sT := 33) (ty := 3) (nn := n - k) (oo := (k + 1) * 2) (cc := cc) (m := n + 1 - k) (c' := c') elBd b0.drew (by show min (n + 1 - k) (n - k) = n - k; omega) rs (bvs_one _) (by rw [hcs, ld]; omega)
  rw [ld, ← hR2] at hcp1
  obtain ⟨w2, hw2⟩ : ∃ w2, w2 = w.drew.setRow gz R2.toArray := ⟨_, rfl⟩
  have b2 : Blk w2 gz 50 R2.toArray := by rw [hw2]; exact b0.drew.setRow R2
  have t2 : Turn w w2 (some gz) := by rw [hw2]; exact (Turn.refl w _).drew.trans (Turn.setRow w.drew gz _)
  rw [← hw2] at hcp1
  have hR2l : R2.length = c * 2 := by rw [hR2]; simp only [List.length_append, List.length_take, List.length_drop, ld, hcl]; omega
  have v2 := hv.turn t2 (fun e => hne (by injection e))
  have rv2 : Rd w2 (gv + 1) 2 (some ⟨gv, 0, none⟩) 1 (bv p) := ⟨rfl, fun j u hu => ⟨_, rfl, Nat.lt_succ_self _, by rw [add_flat, Nat.zero_add]; exact v2.ats hu⟩⟩
  have hcp2 := fun cc => run_cpM (sT := 33) (ty := 3) (nn := n + 1 - k) (oo := k * 2) (cc := cc) (m := 1) (c' := 1) elBd b2 (by show min 1 (n + 1 - k) = 1; omega) rv2 (bvs_one [p]) (by rw [List.size_toArray, hR2l]; show k * 2 + 2 ≤ _; omega)
  rw [List.toList_toArray, show (bv p).length = 2 from rfl, ← hR3] at hcp2
  obtain ⟨w3, hw3⟩ : ∃ w3, w3 = w2.setRow gz R3.toArray := ⟨_, rfl⟩
  have b3 : Blk w3 gz 50 R3.toArray := by rw [hw3]; exact b2.setRow R3
  have t3 : Turn w w3 (some gz) := by rw [hw3]; exact t2.trans (Turn.setRow _ gz _)
  rw [← hw3] at hcp2
  have hO : Own w3 0 50 2 (some ⟨gz, 0, none⟩) (n + 1) c (bvs (B.take k ++ p :: B.drop k)) := by
    refine Own.ofRaw b3 (Nat.zero_le _) hc hcm (by rw [List.size_toArray, hI.2, hcl]) ?_
    rw [List.toList_toArray, show (n + 1) * 2 = k * 2 + 2 + (n - k) * 2 by omega, hI.1, bvs_app]
    show _ = bvs (B.take k) ++ (bv p ++ bvs (B.drop k))
    rw [List.append_assoc]
  have hov : ∀ lb cb, (callFunc 37 #[.slice (some ⟨gv, 0, none⟩) 1 1, .slice (some ⟨gz, (k + 1) * 2, none⟩) lb cb]).run Try.prog w = .ok (.value (.bool false)) w := fun lb cb => by
    rw [run_callFunc_extern Try.func37 (by kernel_rfl) (by kernel_rfl) (by kernel_rfl) (e := Extern.SlicesOverlaps.overlaps #[33, 33] #[4]) (by kernel_rfl),
      Lib.run_overlaps_apart w 33 4 50 Try.underlying33 2 (fun w => by
        obtain ⟨_, i, z, hi, _, hsz, _⟩ := elBd
        simp [sizeOf, typeInfo, hi, hsz]) ⟨gv, 0, none⟩ ⟨gz, (k + 1) * 2, none⟩ 1 1 lb cb hne 50 50 2 cur.size (by unfold World.shape?; rw [show w.heap[gv]? = _ from hv]; rfl) (by unfold World.shape?; rw [show w.heap[gz]? = _ from b0]) (by rw [hcs]; omega) (hv.frozen 0) (hv.frozen 2)]
    rfl
  have HO := hid hO
  have HT := hid t3
  have nk1 : ¬ c = k := by omega
  have nk2 : ¬ c = k + 1 := by omega
  have nk3 : ¬ n = k := by omega
  have nk4 : k ≤ n := by omega
  have nk5 : n ≤ c := by omega
  have hwk : IntKind.i64.wrap ((k : Int) + 1) = (k : Int) + 1 := by rw [IntKind.wrap_i64]; omega
  have htn : ((k : Int) + 1).toNat = k + 1 := by omega
  have hb1 : (0 : Int) ≤ (k : Int) + 1 := by omega
  have hb2 : (k : Int) + 1 ≤ (n : Int) + 1 := by omega
  have hb3 : (k : Int) ≤ (n : Int) + 1 := by omega
  have hkn : ((k : Int) == (n : Int)) = false := by rw [beq_eq_false_iff_ne]; omega
  clear hO t3 hI hR2 hR3 hw2 hw3 hR2l t2 rs rv2 v2 htk htk2 hcl lk ld hcs b2 b3 b0
  go_enter Try.func35, Try.ntmps35
  go_upto_region 15 with (simp only [hov])
  refine wp_region_noPanic ?_
  refine wp_region_held_drew (S := fun _ => True) (by kernel_rfl) trivial (fun hHeld => ?_)
  (first | (refine wpAnyH_take (i := 0) (v := undef) rfl (by kernel_rfl) (by kernel_rfl) (by kernel_rfl) (fun _ _ _ h => h) (Or.inr ⟨rfl, rfl⟩) (by assumption) ?_) | (refine wpAnyH_take (i := 0) (v := ?_) rfl (by kernel_rfl) (by kernel_rfl) (by kernel_rfl) (fun _ _ _ h => h) (Or.inl ⟨rfl, ?_⟩) (by assumption) ?_; rotate_left 1; · (intro w hSw; (try dsimp only at hSw); go_simp; (try with_reducible rfl)))); (try simp only [Act.put, List.getElem_toArray, List.getElem_cons_zero, List.getElem_cons_succ, List.setIfInBounds_toArray, List.set_cons_zero, List.set_cons_succ])
  (first | (refine wpAnyH_take (i := 1) (v := undef) rfl (by kernel_rfl) (by kernel_rfl) (by kernel_rfl) (fun _ _ _ h => h) (Or.inr ⟨rfl, rfl⟩) (by assumption) ?_) | (refine wpAnyH_take (i := 1) (v := ?_) rfl (by kernel_rfl) (by kernel_rfl) (by kernel_rfl) (fun _ _ _ h => h) (Or.inl ⟨rfl, ?_⟩) (by assumption) ?_; rotate_left 1; · (intro w hSw; (try dsimp only at hSw); go_simp; (try with_reducible rfl)))); (try simp only [Act.put, List.getElem_toArray, List.getElem_cons_zero, List.getElem_cons_succ, List.setIfInBounds_toArray, List.set_cons_zero, List.set_cons_succ])
  (first | (refine wpAnyH_take (i := 2) (v := undef) rfl (by kernel_rfl) (by kernel_rfl) (by kernel_rfl) (fun _ _ _ h => h) (Or.inr ⟨rfl, rfl⟩) (by assumption) ?_) | (refine wpAnyH_take (i := 2) (v := ?_) rfl (by kernel_rfl) (by kernel_rfl) (by kernel_rfl) (fun _ _ _ h => h) (Or.inl ⟨rfl, ?_⟩) (by assumption) ?_; rotate_left 1; · (intro w hSw; (try dsimp only at hSw); go_simp; (try with_reducible rfl)))); (try simp only [Act.put, List.getElem_toArray, List.getElem_cons_zero, List.getElem_cons_succ, List.setIfInBounds_toArray, List.set_cons_zero, List.set_cons_succ])
  (first | (refine wpAnyH_take (i := 3) (v := undef) rfl (by kernel_rfl) (by kernel_rfl) (by kernel_rfl) (fun _ _ _ h => h) (Or.inr ⟨rfl, rfl⟩) (by assumption) ?_) | (refine wpAnyH_take (i := 3) (v := ?_) rfl (by kernel_rfl) (by kernel_rfl) (by kernel_rfl) (fun _ _ _ h => h) (Or.inl ⟨rfl, ?_⟩) (by assumption) ?_; rotate_left 1; · (intro w hSw; (try dsimp only at hSw); go_simp; (try with_reducible rfl)))); (try simp only [Act.put, List.getElem_toArray, List.getElem_cons_zero, List.getElem_cons_succ, List.setIfInBounds_toArray, List.set_cons_zero, List.set_cons_succ])
  (first | (refine wpAnyH_take (i := 4) (v := undef) rfl (by kernel_rfl) (by kernel_rfl) (by kernel_rfl) (fun _ _ _ h => h) (Or.inr ⟨rfl, rfl⟩) (by assumption) ?_) | (refine wpAnyH_take (i := 4) (v := ?_) rfl (by kernel_rfl) (by kernel_rfl) (by kernel_rfl) (fun _ _ _ h => h) (Or.inl ⟨rfl, ?_⟩) (by assumption) ?_; rotate_left 1; · (intro w hSw; (try dsimp only at hSw); go_simp; (try with_reducible rfl)))); (try simp only [Act.put, List.getElem_toArray, List.getElem_cons_zero, List.getElem_cons_succ, List.setIfInBounds_toArray, List.set_cons_zero, List.set_cons_succ])
  (first | (refine wpAnyH_take (i := 5) (v := undef) rfl (by kernel_rfl) (by kernel_rfl) (by kernel_rfl) (fun _ _ _ h => h) (Or.inr ⟨rfl, rfl⟩) (by assumption) ?_) | (refine wpAnyH_take (i := 5) (v := ?_) rfl (by kernel_rfl) (by kernel_rfl) (by kernel_rfl) (fun _ _ _ h => h) (Or.inl ⟨rfl, ?_⟩) (by assumption) ?_; rotate_left 1; · (intro w hSw; (try dsimp only at hSw); go_simp; (try with_reducible rfl)))); (try simp only [Act.put, List.getElem_toArray, List.getElem_cons_zero, List.getElem_cons_succ, List.setIfInBounds_toArray, List.set_cons_zero, List.set_cons_succ])
  (first | (refine wpAnyH_take (i := 6) (v := undef) rfl (by kernel_rfl) (by kernel_rfl) (by kernel_rfl) (fun _ _ _ h => h) (Or.inr ⟨rfl, rfl⟩) (by assumption) ?_) | (refine wpAnyH_take (i := 6) (v := ?_) rfl (by kernel_rfl) (by kernel_rfl) (by kernel_rfl) (fun _ _ _ h => h) (Or.inl ⟨rfl, ?_⟩) (by assumption) ?_; rotate_left 1; · (intro w hSw; (try dsimp only at hSw); go_simp; (try with_reducible rfl)))); (try simp only [Act.put, List.getElem_toArray, List.getElem_cons_zero, List.getElem_cons_succ, List.setIfInBounds_toArray, List.set_cons_zero, List.set_cons_succ])
  (first | (refine wpAnyH_take (i := 7) (v := undef) rfl (by kernel_rfl) (by kernel_rfl) (by kernel_rfl) (fun _ _ _ h => h) (Or.inr ⟨rfl, rfl⟩) (by assumption) ?_) | (refine wpAnyH_take (i := 7) (v := ?_) rfl (by kernel_rfl) (by kernel_rfl) (by kernel_rfl) (fun _ _ _ h => h) (Or.inl ⟨rfl, ?_⟩) (by assumption) ?_; rotate_left 1; · (intro w hSw; (try dsimp only at hSw); go_simp; (try with_reducible rfl)))); (try simp only [Act.put, List.getElem_toArray, List.getElem_cons_zero, List.getElem_cons_succ, List.setIfInBounds_toArray, List.set_cons_zero, List.set_cons_succ])
  refine wpAnyH_ready (rs := [8]) (by kernel_rfl) (by simp) ?_
  refine AllReadyH.cons rfl (fun K hK => ?_) AllReadyH.nil
  refine st_cpR rfl _ _ _ _ rfl rfl rfl (hcp1 _ _) ?_
  refine hK.out _ _ trivial (fun hHeld => ?_)
  clear hK K
  (try simp only [Act.put, List.getElem_toArray, List.getElem_cons_zero, List.getElem_cons_succ, List.setIfInBounds_toArray, List.set_cons_zero, List.set_cons_succ])
  refine wpAnyH_done (by kernel_rfl) ?_ _
  refine NoPanic.normal ?_
  clear hHeld
  go_wp2_with (at_builtin; refine wp_cpR rfl _ _ _ _ rfl rfl rfl (hcp2 _) ?_)
  go_ret
  exact ⟨rfl, HO.out, HT.out⟩
end
end Go.Proofs.Ytnkmpcepdjjopaa
