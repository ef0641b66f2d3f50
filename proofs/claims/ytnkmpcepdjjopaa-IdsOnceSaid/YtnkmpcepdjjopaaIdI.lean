/-
  Layer 16: the library's slices.Insert at bounds: one is put at its place.
-/
import Derived.Test.YtnkmpcepdjjopaaIdH
import Derived.Test.YtnkmpcepdjjopaaCpy
import Derived.Lib.Overlaps
import Derived.Laws.Externs
namespace Go.Proofs.Ytnkmpcepdjjopaa
set_option linter.unusedSimpArgs false
set_option linter.unusedVariables false
open Go.RowKit

theorem bvs_one1 (p : Nat × Nat) : bvs [p] = bv p := rfl
theorem Own.raw {w : World} {base E sz n c g : Nat} {xs : List Value} (h : Own w base E sz (some ⟨g, 0, none⟩) n c xs) : ∃ cur, Blk w g E cur ∧ cur.size = c * sz ∧ cur.toList.take (n * sz) = xs := by
  rcases h.2 with ⟨hv, _⟩ | ⟨g1, cap, cur, hv, _, hh, _, _, hs, ht⟩
  · cases hv
  · injection hv with a _ b
    injection a with a
    injection a with a
    subst a; subst b
    exact ⟨cur, hh, hs, ht⟩
theorem Own.ofRaw {w : World} {base E sz n c g : Nat} {xs : List Value} {cur : Array Value} (hb : Blk w g E cur) (hg : base ≤ g) (hn : n ≤ c) (hm : c ≤ maxLen) (hs : cur.size = c * sz) (ht : cur.toList.take (n * sz) = xs) : Own w base E sz (some ⟨g, 0, none⟩) n c xs := by
  refine ⟨?_, .inr ⟨g, c, cur, rfl, hg, hb, hn, hm, hs, ht⟩⟩
  rw [← ht, List.length_take, Array.length_toList, hs]
  exact Nat.min_eq_left (Nat.mul_le_mul_right sz hn)
section
variable {w : World} {A : Option Addr} {n c k gv : Nat} {B : List (Nat × Nat)} {p : Nat × Nat}
set_option maxRecDepth 100000 in
set_option maxHeartbeats 1600000 in
theorem insA16_any (hz : Own w 0 50 2 A n c (bvs B)) (hv : Blk w gv 50 (bv p).toArray) (hf : n ≤ 100000) :
    Calls Try.prog 35 #[.slice A n c, .int .i64 (n : Int), .slice (some ⟨gv, 0, none⟩) 1 1] w fun e w' =>
      ∃ A' c', e = .returned (.slice A' (n + 1) c') ∧ Own w' 0 50 2 A' (n + 1) c' (bvs (B ++ [p])) ∧ Turn w w' (blk A) ∧ (blk A' = blk A ∨ ∃ q, blk A' = some q ∧ w.heap.size ≤ q) := by
  have hr : Rd w (gv + 1) 2 (some ⟨gv, 0, none⟩) 1 (bvs [p]) := ⟨rfl, fun j u hu => ⟨_, rfl, Nat.lt_succ_self _, by rw [add_flat, Nat.zero_add]; exact hv.ats hu⟩⟩
  have hB : bvs B ++ bvs [p] = bvs (B ++ [p]) := (bvs_app B [p]).symm
  have HB := hid hB
  clear hB
  have hc := hz.cap
  go_enter Try.func35, Try.ntmps35
  go_wp2_with (at_builtin; refine wp_appW rfl _ _ _ rfl elBd rfl rfl hz hr (bvs_one [p]) (by unfold maxLen; first | omega | (simp; done) | (simp; omega)) (by first | omega | (simp; done) | (simp; omega)) (Nat.zero_le _) ?_; intro A1 c1 w1 ho1 ht1 hb1)
  all_goals
    go_ret
    rw [HB.out] at ho1
    exact ⟨A1, c1, rfl, ho1, ht1, hb1.imp id fun h => ⟨_, h, Nat.le_refl _⟩⟩
set_option maxRecDepth 100000 in
set_option maxHeartbeats 3200000 in
theorem insB16_any {gz : Nat} (hz : Own w 0 50 2 (some ⟨gz, 0, none⟩) n n (bvs B)) (hv : Blk w gv 50 (bv p).toArray) (hk : k < n) (hf : n ≤ 100000) :
    Calls Try.prog 35 #[.slice (some ⟨gz, 0, none⟩) n n, .int .i64 (k : Int), .slice (some ⟨gv, 0, none⟩) 1 1] w fun e w' =>
      ∃ A' c', e = .returned (.slice A' (n + 1) c') ∧ Own w' 0 50 2 A' (n + 1) c' (bvs (B.take k ++ p :: B.drop k)) ∧ Turn w w' none ∧ ∃ q, blk A' = some q ∧ w.heap.size ≤ q := by
  have hBn : B.length = n := by have := hz.len_; rw [bvs_len] at this; omega
  have hzr := hz.rd
  have hgz := (hz.block gz rfl).2
  obtain ⟨G, cs, hG, hGm, hcs, htk, hrun⟩ := run_apz (ty := 33) (j := n + 1 - k) (c := n) elBd Try.underlying3 (hzr.take (k := k) (by omega)) (by omega) (by omega) (by omega) (by decide) (by omega)
  have hsum : k + (n + 1 - k) = n + 1 := by omega
  rw [hsum] at hG
  rw [hsum] at hrun
  rw [bvs_take] at htk
  obtain ⟨q, hq⟩ : ∃ q, q = w.heap.size := ⟨_, rfl⟩
  obtain ⟨w1, hw1⟩ : ∃ w1, w1 = w.drew.alloc (.cells cs 50) := ⟨_, rfl⟩
  have b1 : Blk w1 q 50 cs := by rw [hw1, hq]; exact Blk.new w.drew _ cs
  have t1 : Turn w w1 none := by rw [hw1]; exact (Turn.refl w none).drew.alloc _
  rw [← hw1, ← hq] at hrun
  have hcast : ((n + 1 - k : Nat) : Int) = (n : Int) + 1 - (k : Int) := by omega
  rw [hcast] at hrun
  have rv1 : Rd w1 (gv + 1) 2 (some ⟨gv, 0, none⟩) 1 (bv p) := ⟨rfl, fun j u hu => ⟨_, rfl, Nat.lt_succ_self _, by rw [add_flat, Nat.zero_add]; exact (hv.turn0 t1).ats hu⟩⟩
  have lk : (bvs (B.take k)).length = k * 2 := by rw [bvs_len, List.length_take]; omega
  have ld : (bvs (B.drop k)).length = (n - k) * 2 := by rw [bvs_len, List.length_drop]; omega
  have hcl : cs.toList.length = G * 2 := by rw [Array.length_toList, hcs]
  have hI := ins_cells (R := cs.toList) (u := bvs (B.take k)) (v := bv p) (d := bvs (B.drop k)) (by rw [lk]; exact htk) (by rw [lk, ld, hcl]; show k * 2 + 2 + _ ≤ _; omega)
  rw [lk, ld, show (bv p).length = 2 from rfl] at hI
  obtain ⟨R2, hR2⟩ : ∃ R2, R2 = cs.toList.take (k * 2) ++ bv p ++ cs.toList.drop (k * 2 + 2) := ⟨_, rfl⟩
  obtain ⟨R3, hR3⟩ : ∃ R3, R3 = R2.take (k * 2 + 2) ++ bvs (B.drop k) ++ R2.drop (k * 2 + 2 + (n - k) * 2) := ⟨_, rfl⟩
  rw [← hR2, ← hR3] at hI
  have hcp1 := fun cc => run_cpM (sT := 33) (ty := 3) (nn := n + 1 - k) (oo := k * 2) (cc := cc) (m := 1) (c' := 1) elBd b1 (by show min 1 (n + 1 - k) = 1; omega) rv1 (bvs_one [p]) (by rw [hcs]; show k * 2 + 2 ≤ _; omega)
  rw [show (bv p).length = 2 from rfl, ← hR2] at hcp1
  obtain ⟨w2, hw2⟩ : ∃ w2, w2 = w1.setRow q R2.toArray := ⟨_, rfl⟩
  have b2 : Blk w2 q 50 R2.toArray := by rw [hw2]; exact b1.setRow R2
  have t2 : Turn w1 w2 (some q) := by rw [hw2]; exact Turn.setRow w1 q _
  rw [← hw2] at hcp1
  have T2 : Turn w w2.drew none := (t1.new t2 (fun g e => by injection e with e; omega)).drew
  have rs : Rd w2.drew w.heap.size 2 (some ⟨gz, k * 2, none⟩) (n - k) (bvs (B.drop k)) := by
    refine ⟨ld, fun j u hu => ⟨_, rfl, hgz, ?_⟩⟩
    have hjl := (List.getElem?_eq_some_iff.1 hu).1
    rw [ld] at hjl
    rw [add_flat, (hz.turn0 T2).cell (i := k * 2 + j) (by omega)]
    rw [← bvs_drop, List.getElem?_drop] at hu
    exact hu
  have hR2l : R2.length = G * 2 := by rw [hR2]; simp [bv, hcl]; omega
  have hcp2 := fun cc c' => run_cpM (sT := 33) (ty := 3) (nn := n - k) (oo := k * 2 + 2) (cc := cc) (m := n - k) (c' := c') elBd b2.drew (Nat.min_self _) rs (bvs_one _) (by rw [List.size_toArray, hR2l, ld]; omega)
  rw [List.toList_toArray, ld, ← hR3] at hcp2
  obtain ⟨w3, hw3⟩ : ∃ w3, w3 = w2.drew.setRow q R3.toArray := ⟨_, rfl⟩
  have b3 : Blk w3 q 50 R3.toArray := by rw [hw3]; exact b2.drew.setRow R3
  have t3 : Turn w2.drew w3 (some q) := by rw [hw3]; exact Turn.setRow _ q _
  rw [← hw3] at hcp2
  have T3 : Turn w w3 none := T2.new t3 (fun g e => by injection e with e; omega)
  have hO : Own w3 0 50 2 (some ⟨q, 0, none⟩) (n + 1) G (bvs (B.take k ++ p :: B.drop k)) := by
    refine Own.ofRaw b3 (Nat.zero_le _) hG hGm (by rw [List.size_toArray, hI.2, hcl]) ?_
    rw [List.toList_toArray, show (n + 1) * 2 = k * 2 + 2 + (n - k) * 2 by omega, hI.1, bvs_app]
    show _ = bvs (B.take k) ++ (bv p ++ bvs (B.drop k))
    rw [List.append_assoc]
  have HO := hid hO
  have HT := hid T3
  have HQ := hid hq
  have nk1 : ¬ G = k := by omega
  have nk2 : ¬ G = k + 1 := by omega
  have nk3 : ¬ n = k := by omega
  have nk4 : k ≤ n := by omega
  have e2 : k * 2 + 2 = (k + 1) * 2 := by omega
  rw [e2] at hcp2
  have hwk : IntKind.i64.wrap ((k : Int) + 1) = (k : Int) + 1 := by rw [IntKind.wrap_i64]; omega
  have htn : ((k : Int) + 1).toNat = k + 1 := by omega
  have hb1 : (0 : Int) ≤ (k : Int) + 1 := by omega
  have hb2 : (k : Int) + 1 ≤ (n : Int) + 1 := by omega
  clear e2
  clear hO T3 hI hR2 hR3 hw1 hw2 hw3 hR2l T2 t1 t2 t3 rs rv1 htk hcl lk ld hcs hzr hq b1 b2 b3
  go_enter Try.func35, Try.ntmps35
  go_upto_region 11 with (first
    | (at_builtin; refine wp_apR rfl _ _ _ _ rfl rfl rfl hrun ?_)
    | (at_builtin; refine wp_cpR rfl _ _ _ _ rfl rfl rfl (hcp1 _) ?_))
  refine wp_region_noPanic ?_
  refine wp_region_held_drew (S := fun _ => True) (by kernel_rfl) trivial (fun hHeld => ?_)
  (first | (refine wpAnyH_take (i := 0) (v := undef) rfl (by kernel_rfl) (by kernel_rfl) (by kernel_rfl) (fun _ _ _ h => h) (Or.inr ⟨rfl, rfl⟩) (by assumption) ?_) | (refine wpAnyH_take (i := 0) (v := ?_) rfl (by kernel_rfl) (by kernel_rfl) (by kernel_rfl) (fun _ _ _ h => h) (Or.inl ⟨rfl, ?_⟩) (by assumption) ?_; rotate_left 1; · (intro w hSw; (try dsimp only at hSw); go_simp; (try with_reducible rfl)))); (try simp only [Act.put, List.getElem_toArray, List.getElem_cons_zero, List.getElem_cons_succ, List.setIfInBounds_toArray, List.set_cons_zero, List.set_cons_succ])
  (first | (refine wpAnyH_take (i := 1) (v := undef) rfl (by kernel_rfl) (by kernel_rfl) (by kernel_rfl) (fun _ _ _ h => h) (Or.inr ⟨rfl, rfl⟩) (by assumption) ?_) | (refine wpAnyH_take (i := 1) (v := ?_) rfl (by kernel_rfl) (by kernel_rfl) (by kernel_rfl) (fun _ _ _ h => h) (Or.inl ⟨rfl, ?_⟩) (by assumption) ?_; rotate_left 1; · (intro w hSw; (try dsimp only at hSw); go_simp; (try with_reducible rfl)))); (try simp only [Act.put, List.getElem_toArray, List.getElem_cons_zero, List.getElem_cons_succ, List.setIfInBounds_toArray, List.set_cons_zero, List.set_cons_succ])
  (first | (refine wpAnyH_take (i := 2) (v := undef) rfl (by kernel_rfl) (by kernel_rfl) (by kernel_rfl) (fun _ _ _ h => h) (Or.inr ⟨rfl, rfl⟩) (by assumption) ?_) | (refine wpAnyH_take (i := 2) (v := ?_) rfl (by kernel_rfl) (by kernel_rfl) (by kernel_rfl) (fun _ _ _ h => h) (Or.inl ⟨rfl, ?_⟩) (by assumption) ?_; rotate_left 1; · (intro w hSw; (try dsimp only at hSw); go_simp; (try with_reducible rfl)))); (try simp only [Act.put, List.getElem_toArray, List.getElem_cons_zero, List.getElem_cons_succ, List.setIfInBounds_toArray, List.set_cons_zero, List.set_cons_succ])
  (first | (refine wpAnyH_take (i := 3) (v := undef) rfl (by kernel_rfl) (by kernel_rfl) (by kernel_rfl) (fun _ _ _ h => h) (Or.inr ⟨rfl, rfl⟩) (by assumption) ?_) | (refine wpAnyH_take (i := 3) (v := ?_) rfl (by kernel_rfl) (by kernel_rfl) (by kernel_rfl) (fun _ _ _ h => h) (Or.inl ⟨rfl, ?_⟩) (by assumption) ?_; rotate_left 1; · (intro w hSw; (try dsimp only at hSw); go_simp; (try with_reducible rfl)))); (try simp only [Act.put, List.getElem_toArray, List.getElem_cons_zero, List.getElem_cons_succ, List.setIfInBounds_toArray, List.set_cons_zero, List.set_cons_succ])
  (first | (refine wpAnyH_take (i := 4) (v := undef) rfl (by kernel_rfl) (by kernel_rfl) (by kernel_rfl) (fun _ _ _ h => h) (Or.inr ⟨rfl, rfl⟩) (by assumption) ?_) | (refine wpAnyH_take (i := 4) (v := ?_) rfl (by kernel_rfl) (by kernel_rfl) (by kernel_rfl) (fun _ _ _ h => h) (Or.inl ⟨rfl, ?_⟩) (by assumption) ?_; rotate_left 1; · (intro w hSw; (try dsimp only at hSw); go_simp; (try with_reducible rfl)))); (try simp only [Act.put, List.getElem_toArray, List.getElem_cons_zero, List.getElem_cons_succ, List.setIfInBounds_toArray, List.set_cons_zero, List.set_cons_succ])
  (first | (refine wpAnyH_take (i := 5) (v := undef) rfl (by kernel_rfl) (by kernel_rfl) (by kernel_rfl) (fun _ _ _ h => h) (Or.inr ⟨rfl, rfl⟩) (by assumption) ?_) | (refine wpAnyH_take (i := 5) (v := ?_) rfl (by kernel_rfl) (by kernel_rfl) (by kernel_rfl) (fun _ _ _ h => h) (Or.inl ⟨rfl, ?_⟩) (by assumption) ?_; rotate_left 1; · (intro w hSw; (try dsimp only at hSw); go_simp; (try with_reducible rfl)))); (try simp only [Act.put, List.getElem_toArray, List.getElem_cons_zero, List.getElem_cons_succ, List.setIfInBounds_toArray, List.set_cons_zero, List.set_cons_succ])
  (first | (refine wpAnyH_take (i := 6) (v := undef) rfl (by kernel_rfl) (by kernel_rfl) (by kernel_rfl) (fun _ _ _ h => h) (Or.inr ⟨rfl, rfl⟩) (by assumption) ?_) | (refine wpAnyH_take (i := 6) (v := ?_) rfl (by kernel_rfl) (by kernel_rfl) (by kernel_rfl) (fun _ _ _ h => h) (Or.inl ⟨rfl, ?_⟩) (by assumption) ?_; rotate_left 1; · (intro w hSw; (try dsimp only at hSw); go_simp; (try with_reducible rfl)))); (try simp only [Act.put, List.getElem_toArray, List.getElem_cons_zero, List.getElem_cons_succ, List.setIfInBounds_toArray, List.set_cons_zero, List.set_cons_succ])
  (first | (refine wpAnyH_take (i := 7) (v := undef) rfl (by kernel_rfl) (by kernel_rfl) (by kernel_rfl) (fun _ _ _ h => h) (Or.inr ⟨rfl, rfl⟩) (by assumption) ?_) | (refine wpAnyH_take (i := 7) (v := ?_) rfl (by kernel_rfl) (by kernel_rfl) (by kernel_rfl) (fun _ _ _ h => h) (Or.inl ⟨rfl, ?_⟩) (by assumption) ?_; rotate_left 1; · (intro w hSw; (try dsimp only at hSw); go_simp; (try with_reducible rfl)))); (try simp only [Act.put, List.getElem_toArray, List.getElem_cons_zero, List.getElem_cons_succ, List.setIfInBounds_toArray, List.set_cons_zero, List.set_cons_succ])
  refine wpAnyH_ready (rs := [8]) (by kernel_rfl) (by simp) ?_
  refine AllReadyH.cons rfl (fun K hK => ?_) AllReadyH.nil
  refine st_cpR rfl _ _ _ _ rfl rfl rfl (hcp2 _ _) ?_
  refine hK.out _ _ trivial (fun hHeld => ?_)
  clear hK K
  (try simp only [Act.put, List.getElem_toArray, List.getElem_cons_zero, List.getElem_cons_succ, List.setIfInBounds_toArray, List.set_cons_zero, List.set_cons_succ])
  refine wpAnyH_done (by kernel_rfl) ?_ _
  refine NoPanic.normal ?_
  clear hHeld
  go_wp2
  go_ret
  exact ⟨_, _, rfl, HO.out, HT.out, q, rfl, Nat.le_of_eq HQ.out.symm⟩
end
end Go.Proofs.Ytnkmpcepdjjopaa
