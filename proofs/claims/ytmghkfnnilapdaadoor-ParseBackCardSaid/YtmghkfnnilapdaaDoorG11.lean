import Derived.Test.YtmghkfnnilapdaaDoorG10
import Derived.Test.YtmghkfnnilapdaaDoorG1
import Derived.Deep.RegionHeld
set_option linter.unusedSimpArgs false
set_option linter.unusedVariables false
set_option linter.unusedSectionVars false
/-
  Layer 7: whether two nodes are one, as the document has it.
-/
namespace Go.Proofs.YtmghkfnnilapdaaDoor
open Go.RowKit

set_option maxRecDepth 100000 in
set_option maxHeartbeats 3200000 in
theorem rnode_any {w : World} {B : Nat} {v u : Value} {x y : Gn} (hx : NdV w B v x) (hy : NdV w B u y) (hB : B ≤ w.heap.size) (ls : x.syms.length ≤ 1000000) (li : x.items.length ≤ 1000000) (lf : x.fields.length ≤ 1000000) :
    Calls Tryd.prog 20 #[v, u] w fun e w' => e = .returned (.bool (decide (x = y))) ∧ Turn w w' none := by
  obtain ⟨As, sc, Ai, ic, Af, fc, rfl, r3, r4, r5⟩ := hx
  obtain ⟨Bs, tc, Bi, jc, Bf, gc, rfl, q3, q4, q5⟩ := hy
  have ex : x = y ↔ x.k = y.k ∧ x.name = y.name ∧ x.size = y.size ∧ x.syms = y.syms ∧ x.items = y.items ∧ x.fields = y.fields := by
    cases x; cases y; simp only [Gn.mk.injEq]
  by_cases n0 : x.k = y.k
  case neg =>
    have e0 : (x.k != y.k) = true := by rw [bne_iff_ne]; omega
    have H := hid (show decide (x = y) = false by simp [ex, n0])
    clear ex n0
    go_enter Tryd.func20, Tryd.ntmps20
    go_upto_region 1 with (first
      | (have q9 := hg; refine wp_bx rfl 57 _ rfl rfl ?_; intro g2 w2 hg2 hb2 ht2)
      | (refine wp_bx rfl 57 _ rfl rfl ?_; intro g w1 hg hb1 ht1))
    have hb3 := hb1.turn0 ht2
    have tt := ht1.trans ht2
    have k0 : w2.cell? ⟨g, 0, none⟩ = some (.int .i64 x.k) := hb3.ats (xs := [_, _, _, _, _, _]) rfl
    have k1 : w2.cell? ⟨g, 1, none⟩ = some (.string (txt x.name)) := hb3.ats (xs := [_, _, _, _, _, _]) rfl
    have k2 : w2.cell? ⟨g, 2, none⟩ = some (.int .i64 x.size) := hb3.ats (xs := [_, _, _, _, _, _]) rfl
    have k3 : w2.cell? ⟨g, 3, none⟩ = some (.slice As x.syms.length sc) := hb3.ats (xs := [_, _, _, _, _, _]) rfl
    have k4 : w2.cell? ⟨g, 4, none⟩ = some (.slice Ai x.items.length ic) := hb3.ats (xs := [_, _, _, _, _, _]) rfl
    have k5 : w2.cell? ⟨g, 5, none⟩ = some (.slice Af x.fields.length fc) := hb3.ats (xs := [_, _, _, _, _, _]) rfl
    have m0 : w2.cell? ⟨g2, 0, none⟩ = some (.int .i64 y.k) := hb2.ats (xs := [_, _, _, _, _, _]) rfl
    have m1 : w2.cell? ⟨g2, 1, none⟩ = some (.string (txt y.name)) := hb2.ats (xs := [_, _, _, _, _, _]) rfl
    have m2 : w2.cell? ⟨g2, 2, none⟩ = some (.int .i64 y.size) := hb2.ats (xs := [_, _, _, _, _, _]) rfl
    have m3 : w2.cell? ⟨g2, 3, none⟩ = some (.slice Bs y.syms.length tc) := hb2.ats (xs := [_, _, _, _, _, _]) rfl
    have m4 : w2.cell? ⟨g2, 4, none⟩ = some (.slice Bi y.items.length jc) := hb2.ats (xs := [_, _, _, _, _, _]) rfl
    have m5 : w2.cell? ⟨g2, 5, none⟩ = some (.slice Bf y.fields.length gc) := hb2.ats (xs := [_, _, _, _, _, _]) rfl
    go_wp2_with fail
    go_ret
    exact ⟨by rw [H.out]; rfl, tt⟩
  by_cases n1 : x.name = y.name
  case neg =>
    have e0 : (x.k != y.k) = false := by rw [n0]; simp
    have e1 : ((txt x.name).toList == (txt y.name).toList) = false := by rw [tx_beq]; simpa using n1
    have e1b : ((txt x.name).toList != (txt y.name).toList) = true := by rw [bne, e1]; rfl
    have H := hid (show decide (x = y) = false by simp [ex, n1])
    clear ex n0 n1
    go_enter Tryd.func20, Tryd.ntmps20
    go_upto_region 1 with (first
      | (have q9 := hg; refine wp_bx rfl 57 _ rfl rfl ?_; intro g2 w2 hg2 hb2 ht2)
      | (refine wp_bx rfl 57 _ rfl rfl ?_; intro g w1 hg hb1 ht1))
    have hb3 := hb1.turn0 ht2
    have tt := ht1.trans ht2
    have k0 : w2.cell? ⟨g, 0, none⟩ = some (.int .i64 x.k) := hb3.ats (xs := [_, _, _, _, _, _]) rfl
    have k1 : w2.cell? ⟨g, 1, none⟩ = some (.string (txt x.name)) := hb3.ats (xs := [_, _, _, _, _, _]) rfl
    have k2 : w2.cell? ⟨g, 2, none⟩ = some (.int .i64 x.size) := hb3.ats (xs := [_, _, _, _, _, _]) rfl
    have k3 : w2.cell? ⟨g, 3, none⟩ = some (.slice As x.syms.length sc) := hb3.ats (xs := [_, _, _, _, _, _]) rfl
    have k4 : w2.cell? ⟨g, 4, none⟩ = some (.slice Ai x.items.length ic) := hb3.ats (xs := [_, _, _, _, _, _]) rfl
    have k5 : w2.cell? ⟨g, 5, none⟩ = some (.slice Af x.fields.length fc) := hb3.ats (xs := [_, _, _, _, _, _]) rfl
    have m0 : w2.cell? ⟨g2, 0, none⟩ = some (.int .i64 y.k) := hb2.ats (xs := [_, _, _, _, _, _]) rfl
    have m1 : w2.cell? ⟨g2, 1, none⟩ = some (.string (txt y.name)) := hb2.ats (xs := [_, _, _, _, _, _]) rfl
    have m2 : w2.cell? ⟨g2, 2, none⟩ = some (.int .i64 y.size) := hb2.ats (xs := [_, _, _, _, _, _]) rfl
    have m3 : w2.cell? ⟨g2, 3, none⟩ = some (.slice Bs y.syms.length tc) := hb2.ats (xs := [_, _, _, _, _, _]) rfl
    have m4 : w2.cell? ⟨g2, 4, none⟩ = some (.slice Bi y.items.length jc) := hb2.ats (xs := [_, _, _, _, _, _]) rfl
    have m5 : w2.cell? ⟨g2, 5, none⟩ = some (.slice Bf y.fields.length gc) := hb2.ats (xs := [_, _, _, _, _, _]) rfl
    go_wp2_with fail
    go_ret
    exact ⟨by rw [H.out]; rfl, tt⟩
  by_cases n2 : x.size = y.size
  case neg =>
    have e0 : (x.k != y.k) = false := by rw [n0]; simp
    have e1 : ((txt x.name).toList == (txt y.name).toList) = true := by rw [tx_beq]; simpa using n1
    have e1b : ((txt x.name).toList != (txt y.name).toList) = false := by rw [bne, e1]; rfl
    have e2 : (x.size != y.size) = true := by rw [bne_iff_ne]; omega
    have H := hid (show decide (x = y) = false by simp [ex, n2])
    clear ex n0 n1 n2
    go_enter Tryd.func20, Tryd.ntmps20
    go_upto_region 1 with (first
      | (have q9 := hg; refine wp_bx rfl 57 _ rfl rfl ?_; intro g2 w2 hg2 hb2 ht2)
      | (refine wp_bx rfl 57 _ rfl rfl ?_; intro g w1 hg hb1 ht1))
    have hb3 := hb1.turn0 ht2
    have tt := ht1.trans ht2
    have k0 : w2.cell? ⟨g, 0, none⟩ = some (.int .i64 x.k) := hb3.ats (xs := [_, _, _, _, _, _]) rfl
    have k1 : w2.cell? ⟨g, 1, none⟩ = some (.string (txt x.name)) := hb3.ats (xs := [_, _, _, _, _, _]) rfl
    have k2 : w2.cell? ⟨g, 2, none⟩ = some (.int .i64 x.size) := hb3.ats (xs := [_, _, _, _, _, _]) rfl
    have k3 : w2.cell? ⟨g, 3, none⟩ = some (.slice As x.syms.length sc) := hb3.ats (xs := [_, _, _, _, _, _]) rfl
    have k4 : w2.cell? ⟨g, 4, none⟩ = some (.slice Ai x.items.length ic) := hb3.ats (xs := [_, _, _, _, _, _]) rfl
    have k5 : w2.cell? ⟨g, 5, none⟩ = some (.slice Af x.fields.length fc) := hb3.ats (xs := [_, _, _, _, _, _]) rfl
    have m0 : w2.cell? ⟨g2, 0, none⟩ = some (.int .i64 y.k) := hb2.ats (xs := [_, _, _, _, _, _]) rfl
    have m1 : w2.cell? ⟨g2, 1, none⟩ = some (.string (txt y.name)) := hb2.ats (xs := [_, _, _, _, _, _]) rfl
    have m2 : w2.cell? ⟨g2, 2, none⟩ = some (.int .i64 y.size) := hb2.ats (xs := [_, _, _, _, _, _]) rfl
    have m3 : w2.cell? ⟨g2, 3, none⟩ = some (.slice Bs y.syms.length tc) := hb2.ats (xs := [_, _, _, _, _, _]) rfl
    have m4 : w2.cell? ⟨g2, 4, none⟩ = some (.slice Bi y.items.length jc) := hb2.ats (xs := [_, _, _, _, _, _]) rfl
    have m5 : w2.cell? ⟨g2, 5, none⟩ = some (.slice Bf y.fields.length gc) := hb2.ats (xs := [_, _, _, _, _, _]) rfl
    go_wp2_with fail
    go_ret
    exact ⟨by rw [H.out]; rfl, tt⟩
  by_cases n3 : x.fields.length = y.fields.length
  case neg =>
    have e0 : (x.k != y.k) = false := by rw [n0]; simp
    have e1 : ((txt x.name).toList == (txt y.name).toList) = true := by rw [tx_beq]; simpa using n1
    have e1b : ((txt x.name).toList != (txt y.name).toList) = false := by rw [bne, e1]; rfl
    have e2 : (x.size != y.size) = false := by rw [n2]; simp
    have e3 : ((x.fields.length : Int) != (y.fields.length : Int)) = true := by rw [bne_iff_ne]; omega
    have H := hid (show decide (x = y) = false by rw [decide_eq_false_iff_not]; rintro rfl; exact n3 rfl)
    clear ex n0 n1 n2 n3
    go_enter Tryd.func20, Tryd.ntmps20
    go_upto_region 1 with (first
      | (have q9 := hg; refine wp_bx rfl 57 _ rfl rfl ?_; intro g2 w2 hg2 hb2 ht2)
      | (refine wp_bx rfl 57 _ rfl rfl ?_; intro g w1 hg hb1 ht1))
    have hb3 := hb1.turn0 ht2
    have tt := ht1.trans ht2
    have k0 : w2.cell? ⟨g, 0, none⟩ = some (.int .i64 x.k) := hb3.ats (xs := [_, _, _, _, _, _]) rfl
    have k1 : w2.cell? ⟨g, 1, none⟩ = some (.string (txt x.name)) := hb3.ats (xs := [_, _, _, _, _, _]) rfl
    have k2 : w2.cell? ⟨g, 2, none⟩ = some (.int .i64 x.size) := hb3.ats (xs := [_, _, _, _, _, _]) rfl
    have k3 : w2.cell? ⟨g, 3, none⟩ = some (.slice As x.syms.length sc) := hb3.ats (xs := [_, _, _, _, _, _]) rfl
    have k4 : w2.cell? ⟨g, 4, none⟩ = some (.slice Ai x.items.length ic) := hb3.ats (xs := [_, _, _, _, _, _]) rfl
    have k5 : w2.cell? ⟨g, 5, none⟩ = some (.slice Af x.fields.length fc) := hb3.ats (xs := [_, _, _, _, _, _]) rfl
    have m0 : w2.cell? ⟨g2, 0, none⟩ = some (.int .i64 y.k) := hb2.ats (xs := [_, _, _, _, _, _]) rfl
    have m1 : w2.cell? ⟨g2, 1, none⟩ = some (.string (txt y.name)) := hb2.ats (xs := [_, _, _, _, _, _]) rfl
    have m2 : w2.cell? ⟨g2, 2, none⟩ = some (.int .i64 y.size) := hb2.ats (xs := [_, _, _, _, _, _]) rfl
    have m3 : w2.cell? ⟨g2, 3, none⟩ = some (.slice Bs y.syms.length tc) := hb2.ats (xs := [_, _, _, _, _, _]) rfl
    have m4 : w2.cell? ⟨g2, 4, none⟩ = some (.slice Bi y.items.length jc) := hb2.ats (xs := [_, _, _, _, _, _]) rfl
    have m5 : w2.cell? ⟨g2, 5, none⟩ = some (.slice Bf y.fields.length gc) := hb2.ats (xs := [_, _, _, _, _, _]) rfl
    go_wp2_with fail
    go_ret
    exact ⟨by rw [H.out]; rfl, tt⟩
  have e0 : (x.k != y.k) = false := by rw [n0]; simp
  have e1 : ((txt x.name).toList == (txt y.name).toList) = true := by rw [tx_beq]; simpa using n1
  have e1b : ((txt x.name).toList != (txt y.name).toList) = false := by rw [bne, e1]; rfl
  have e2 : (x.size != y.size) = false := by rw [n2]; simp
  have e3 : ((x.fields.length : Int) != (y.fields.length : Int)) = false := by rw [n3]; simp
  have HN := hid (show (x = y) ↔ x.fields = y.fields ∧ x.syms = y.syms ∧ x.items = y.items by rw [ex]; constructor <;> (intro h; simp_all))
  have HL := hid n3
  clear ex n0 n1 n2 n3
  go_enter Tryd.func20, Tryd.ntmps20
  go_upto_region 1 with (first
    | (have q9 := hg; refine wp_bx rfl 57 _ rfl rfl ?_; intro g2 w2 hg2 hb2 ht2)
    | (refine wp_bx rfl 57 _ rfl rfl ?_; intro g w1 hg hb1 ht1))
  have hb3 := hb1.turn0 ht2
  have tt := ht1.trans ht2
  have k0 : w2.cell? ⟨g, 0, none⟩ = some (.int .i64 x.k) := hb3.ats (xs := [_, _, _, _, _, _]) rfl
  have k1 : w2.cell? ⟨g, 1, none⟩ = some (.string (txt x.name)) := hb3.ats (xs := [_, _, _, _, _, _]) rfl
  have k2 : w2.cell? ⟨g, 2, none⟩ = some (.int .i64 x.size) := hb3.ats (xs := [_, _, _, _, _, _]) rfl
  have k3 : w2.cell? ⟨g, 3, none⟩ = some (.slice As x.syms.length sc) := hb3.ats (xs := [_, _, _, _, _, _]) rfl
  have k4 : w2.cell? ⟨g, 4, none⟩ = some (.slice Ai x.items.length ic) := hb3.ats (xs := [_, _, _, _, _, _]) rfl
  have k5 : w2.cell? ⟨g, 5, none⟩ = some (.slice Af x.fields.length fc) := hb3.ats (xs := [_, _, _, _, _, _]) rfl
  have m0 : w2.cell? ⟨g2, 0, none⟩ = some (.int .i64 y.k) := hb2.ats (xs := [_, _, _, _, _, _]) rfl
  have m1 : w2.cell? ⟨g2, 1, none⟩ = some (.string (txt y.name)) := hb2.ats (xs := [_, _, _, _, _, _]) rfl
  have m2 : w2.cell? ⟨g2, 2, none⟩ = some (.int .i64 y.size) := hb2.ats (xs := [_, _, _, _, _, _]) rfl
  have m3 : w2.cell? ⟨g2, 3, none⟩ = some (.slice Bs y.syms.length tc) := hb2.ats (xs := [_, _, _, _, _, _]) rfl
  have m4 : w2.cell? ⟨g2, 4, none⟩ = some (.slice Bi y.items.length jc) := hb2.ats (xs := [_, _, _, _, _, _]) rfl
  have m5 : w2.cell? ⟨g2, 5, none⟩ = some (.slice Bf y.fields.length gc) := hb2.ats (xs := [_, _, _, _, _, _]) rfl
  go_wp2_with fail
  go_loopw [5] (fun i wr => ∃ j : Nat, j ≤ x.fields.length ∧ i = .int .i64 (j : Int) ∧ Hid (x.fields.take j = y.fields.take j) ∧ Turn w2 wr none) (fun i _ => (x.fields.length - intOf i).toNat)
  case atStart => exact ⟨0, by omega, rfl, hid rfl, Turn.refl w2 none⟩
  case round =>
    obtain ⟨j, hj, rfl, HE, htr⟩ := hrel
    have hwr : wrap64 ((j : Int) + 1) = (j : Int) + 1 := by unfold wrap64; omega
    have k5' := (htr.cell (a := ⟨g, 5, none⟩) hb3.lt (by simp)).trans k5
    have m5' := (htr.cell (a := ⟨g2, 5, none⟩) hb2.lt (by simp)).trans m5
    have tr := tt.trans htr
    by_cases hjn : j < x.fields.length
    · have hjk : j < y.fields.length := by have := HL.out; omega
      obtain ⟨a, ha⟩ : ∃ a, x.fields[j]? = some a := ⟨x.fields[j], List.getElem?_eq_getElem hjn⟩
      obtain ⟨b, hb⟩ : ∃ b, y.fields[j]? = some b := ⟨y.fields[j], List.getElem?_eq_getElem hjk⟩
      obtain ⟨b1, o1, rfl, _, h1⟩ := (r5.turn0 tr hB).head (by omega)
      obtain ⟨b2, o2, rfl, _, h2⟩ := (q5.turn0 tr hB).head (by omega)
      obtain ⟨p0, p1, p2⟩ := vfs_at ha
      obtain ⟨s0, s1, s2⟩ := vfs_at hb
      have a0 := h1 _ _ p0
      have a1 : wr.cell? ⟨b1, o1 + j * 3 + 1, none⟩ = some (.bool a.has) := by rw [Nat.add_assoc]; exact h1 _ _ p1
      have a2 : wr.cell? ⟨b1, o1 + j * 3 + 2, none⟩ = some (.int .i64 a.ty) := by rw [Nat.add_assoc]; exact h1 _ _ p2
      have d0 := h2 _ _ s0
      have d1 : wr.cell? ⟨b2, o2 + j * 3 + 1, none⟩ = some (.bool b.has) := by rw [Nat.add_assoc]; exact h2 _ _ s1
      have d2 : wr.cell? ⟨b2, o2 + j * 3 + 2, none⟩ = some (.int .i64 b.ty) := by rw [Nat.add_assoc]; exact h2 _ _ s2
      have hgd : Tryd.prog.eqGuardType Tryd.prog.depth 74 = false := by kernel_rfl
      have HX := hid ha
      have HY := hid hb
      clear p0 p1 p2 s0 s1 s2 h1 h2 ha hb k0 k1 k2 k3 k4 k5 m0 m1 m2 m3 m4 m5 e0 e1 e1b e2 e3
      by_cases hxy : a = b
      · have e := feq a b
        rw [decide_eq_true hxy] at e
        have HXY := hid hxy
        clear hxy
        go_wp2_with (fail)
        refine wp_region_noPanic ?_
        refine wp_region_held_drew (S := (fun W => W.cell? ⟨g, 5, none⟩ = some (.slice (some ⟨b1, o1, none⟩) x.fields.length fc) ∧ W.cell? ⟨g2, 5, none⟩ = some (.slice (some ⟨b2, o2, none⟩) y.fields.length gc) ∧ W.cell? ⟨b1, o1 + j * 3, none⟩ = some (.string (txt a.name)) ∧ W.cell? ⟨b1, o1 + j * 3 + 1, none⟩ = some (.bool a.has) ∧ W.cell? ⟨b1, o1 + j * 3 + 2, none⟩ = some (.int .i64 a.ty) ∧ W.cell? ⟨b2, o2 + j * 3, none⟩ = some (.string (txt b.name)) ∧ W.cell? ⟨b2, o2 + j * 3 + 1, none⟩ = some (.bool b.has) ∧ W.cell? ⟨b2, o2 + j * 3 + 2, none⟩ = some (.int .i64 b.ty))) (by kernel_rfl) (⟨k5', m5', a0, a1, a2, d0, d1, d2⟩) (fun hHeld => ?_)
        (first | (refine wpAnyH_take (i := 0) (v := undef) rfl (by kernel_rfl) (by kernel_rfl) (by kernel_rfl) (fun _ _ _ h => h) (Or.inr ⟨rfl, rfl⟩) (by assumption) ?_) | (refine wpAnyH_take (i := 0) (v := ?_) rfl (by kernel_rfl) (by kernel_rfl) (by kernel_rfl) (fun _ _ _ h => h) (Or.inl ⟨rfl, ?_⟩) (by assumption) ?_; rotate_left 1; · (intro w hSw; (try dsimp only at hSw); go_simp; (try with_reducible rfl)))); (try simp only [Act.put, List.getElem_toArray, List.getElem_cons_zero, List.getElem_cons_succ, List.setIfInBounds_toArray, List.set_cons_zero, List.set_cons_succ])
        (first | (refine wpAnyH_take (i := 1) (v := undef) rfl (by kernel_rfl) (by kernel_rfl) (by kernel_rfl) (fun _ _ _ h => h) (Or.inr ⟨rfl, rfl⟩) (by assumption) ?_) | (refine wpAnyH_take (i := 1) (v := ?_) rfl (by kernel_rfl) (by kernel_rfl) (by kernel_rfl) (fun _ _ _ h => h) (Or.inl ⟨rfl, ?_⟩) (by assumption) ?_; rotate_left 1; · (intro w hSw; (try dsimp only at hSw); go_simp; (try with_reducible rfl)))); (try simp only [Act.put, List.getElem_toArray, List.getElem_cons_zero, List.getElem_cons_succ, List.setIfInBounds_toArray, List.set_cons_zero, List.set_cons_succ])
        (first | (refine wpAnyH_take (i := 2) (v := undef) rfl (by kernel_rfl) (by kernel_rfl) (by kernel_rfl) (fun _ _ _ h => h) (Or.inr ⟨rfl, rfl⟩) (by assumption) ?_) | (refine wpAnyH_take (i := 2) (v := ?_) rfl (by kernel_rfl) (by kernel_rfl) (by kernel_rfl) (fun _ _ _ h => h) (Or.inl ⟨rfl, ?_⟩) (by assumption) ?_; rotate_left 1; · (intro w hSw; (try dsimp only at hSw); go_simp; (try with_reducible rfl)))); (try simp only [Act.put, List.getElem_toArray, List.getElem_cons_zero, List.getElem_cons_succ, List.setIfInBounds_toArray, List.set_cons_zero, List.set_cons_succ])
        (first | (refine wpAnyH_take (i := 3) (v := undef) rfl (by kernel_rfl) (by kernel_rfl) (by kernel_rfl) (fun _ _ _ h => h) (Or.inr ⟨rfl, rfl⟩) (by assumption) ?_) | (refine wpAnyH_take (i := 3) (v := ?_) rfl (by kernel_rfl) (by kernel_rfl) (by kernel_rfl) (fun _ _ _ h => h) (Or.inl ⟨rfl, ?_⟩) (by assumption) ?_; rotate_left 1; · (intro w hSw; (try dsimp only at hSw); go_simp; (try with_reducible rfl)))); (try simp only [Act.put, List.getElem_toArray, List.getElem_cons_zero, List.getElem_cons_succ, List.setIfInBounds_toArray, List.set_cons_zero, List.set_cons_succ])
        (first | (refine wpAnyH_take (i := 4) (v := undef) rfl (by kernel_rfl) (by kernel_rfl) (by kernel_rfl) (fun _ _ _ h => h) (Or.inr ⟨rfl, rfl⟩) (by assumption) ?_) | (refine wpAnyH_take (i := 4) (v := ?_) rfl (by kernel_rfl) (by kernel_rfl) (by kernel_rfl) (fun _ _ _ h => h) (Or.inl ⟨rfl, ?_⟩) (by assumption) ?_; rotate_left 1; · (intro w hSw; (try dsimp only at hSw); go_simp; (try with_reducible rfl)))); (try simp only [Act.put, List.getElem_toArray, List.getElem_cons_zero, List.getElem_cons_succ, List.setIfInBounds_toArray, List.set_cons_zero, List.set_cons_succ])
        (first | (refine wpAnyH_take (i := 5) (v := undef) rfl (by kernel_rfl) (by kernel_rfl) (by kernel_rfl) (fun _ _ _ h => h) (Or.inr ⟨rfl, rfl⟩) (by assumption) ?_) | (refine wpAnyH_take (i := 5) (v := ?_) rfl (by kernel_rfl) (by kernel_rfl) (by kernel_rfl) (fun _ _ _ h => h) (Or.inl ⟨rfl, ?_⟩) (by assumption) ?_; rotate_left 1; · (intro w hSw; (try dsimp only at hSw); go_simp; (try with_reducible rfl)))); (try simp only [Act.put, List.getElem_toArray, List.getElem_cons_zero, List.getElem_cons_succ, List.setIfInBounds_toArray, List.set_cons_zero, List.set_cons_succ])
        (first | (refine wpAnyH_take (i := 6) (v := undef) rfl (by kernel_rfl) (by kernel_rfl) (by kernel_rfl) (fun _ _ _ h => h) (Or.inr ⟨rfl, rfl⟩) (by assumption) ?_) | (refine wpAnyH_take (i := 6) (v := ?_) rfl (by kernel_rfl) (by kernel_rfl) (by kernel_rfl) (fun _ _ _ h => h) (Or.inl ⟨rfl, ?_⟩) (by assumption) ?_; rotate_left 1; · (intro w hSw; (try dsimp only at hSw); go_simp; (try with_reducible rfl)))); (try simp only [Act.put, List.getElem_toArray, List.getElem_cons_zero, List.getElem_cons_succ, List.setIfInBounds_toArray, List.set_cons_zero, List.set_cons_succ])
        (first | (refine wpAnyH_take (i := 7) (v := undef) rfl (by kernel_rfl) (by kernel_rfl) (by kernel_rfl) (fun _ _ _ h => h) (Or.inr ⟨rfl, rfl⟩) (by assumption) ?_) | (refine wpAnyH_take (i := 7) (v := ?_) rfl (by kernel_rfl) (by kernel_rfl) (by kernel_rfl) (fun _ _ _ h => h) (Or.inl ⟨rfl, ?_⟩) (by assumption) ?_; rotate_left 1; · (intro w hSw; (try dsimp only at hSw); go_simp; (try with_reducible rfl)))); (try simp only [Act.put, List.getElem_toArray, List.getElem_cons_zero, List.getElem_cons_succ, List.setIfInBounds_toArray, List.set_cons_zero, List.set_cons_succ])
        (first | (refine wpAnyH_take (i := 8) (v := undef) rfl (by kernel_rfl) (by kernel_rfl) (by kernel_rfl) (fun _ _ _ h => h) (Or.inr ⟨rfl, rfl⟩) (by assumption) ?_) | (refine wpAnyH_take (i := 8) (v := ?_) rfl (by kernel_rfl) (by kernel_rfl) (by kernel_rfl) (fun _ _ _ h => h) (Or.inl ⟨rfl, ?_⟩) (by assumption) ?_; rotate_left 1; · (intro w hSw; (try dsimp only at hSw); go_simp; (try with_reducible rfl)))); (try simp only [Act.put, List.getElem_toArray, List.getElem_cons_zero, List.getElem_cons_succ, List.setIfInBounds_toArray, List.set_cons_zero, List.set_cons_succ])
        (first | (refine wpAnyH_take (i := 9) (v := undef) rfl (by kernel_rfl) (by kernel_rfl) (by kernel_rfl) (fun _ _ _ h => h) (Or.inr ⟨rfl, rfl⟩) (by assumption) ?_) | (refine wpAnyH_take (i := 9) (v := ?_) rfl (by kernel_rfl) (by kernel_rfl) (by kernel_rfl) (fun _ _ _ h => h) (Or.inl ⟨rfl, ?_⟩) (by assumption) ?_; rotate_left 1; · (intro w hSw; (try dsimp only at hSw); go_simp; (try with_reducible rfl)))); (try simp only [Act.put, List.getElem_toArray, List.getElem_cons_zero, List.getElem_cons_succ, List.setIfInBounds_toArray, List.set_cons_zero, List.set_cons_succ])
        (first | (refine wpAnyH_take (i := 10) (v := undef) rfl (by kernel_rfl) (by kernel_rfl) (by kernel_rfl) (fun _ _ _ h => h) (Or.inr ⟨rfl, rfl⟩) (by assumption) ?_) | (refine wpAnyH_take (i := 10) (v := ?_) rfl (by kernel_rfl) (by kernel_rfl) (by kernel_rfl) (fun _ _ _ h => h) (Or.inl ⟨rfl, ?_⟩) (by assumption) ?_; rotate_left 1; · (intro w hSw; (try dsimp only at hSw); go_simp; (try with_reducible rfl)))); (try simp only [Act.put, List.getElem_toArray, List.getElem_cons_zero, List.getElem_cons_succ, List.setIfInBounds_toArray, List.set_cons_zero, List.set_cons_succ])
        refine wpAnyH_done (by kernel_rfl) ?_ _
        refine NoPanic.normal ?_
        clear hHeld
        go_wp2
        refine ⟨⟨j + 1, by omega, by go_num, hid (take_next1 HX.out (by rw [HXY.out]; exact HY.out) HE.out), htr.drew⟩, by simp [intOf]; omega⟩
      · have e := feq a b
        rw [decide_eq_false hxy] at e
        have H := hid (show decide (x = y) = false by
          rw [decide_eq_false_iff_not, HN.out]
          rintro ⟨h1, _⟩
          have hx := HX.out
          rw [h1, HY.out] at hx
          exact hxy (Option.some.inj hx).symm)
        clear hxy
        go_wp2_with (fail)
        refine wp_region_noPanic ?_
        refine wp_region_held_drew (S := (fun W => W.cell? ⟨g, 5, none⟩ = some (.slice (some ⟨b1, o1, none⟩) x.fields.length fc) ∧ W.cell? ⟨g2, 5, none⟩ = some (.slice (some ⟨b2, o2, none⟩) y.fields.length gc) ∧ W.cell? ⟨b1, o1 + j * 3, none⟩ = some (.string (txt a.name)) ∧ W.cell? ⟨b1, o1 + j * 3 + 1, none⟩ = some (.bool a.has) ∧ W.cell? ⟨b1, o1 + j * 3 + 2, none⟩ = some (.int .i64 a.ty) ∧ W.cell? ⟨b2, o2 + j * 3, none⟩ = some (.string (txt b.name)) ∧ W.cell? ⟨b2, o2 + j * 3 + 1, none⟩ = some (.bool b.has) ∧ W.cell? ⟨b2, o2 + j * 3 + 2, none⟩ = some (.int .i64 b.ty))) (by kernel_rfl) (⟨k5', m5', a0, a1, a2, d0, d1, d2⟩) (fun hHeld => ?_)
        (first | (refine wpAnyH_take (i := 0) (v := undef) rfl (by kernel_rfl) (by kernel_rfl) (by kernel_rfl) (fun _ _ _ h => h) (Or.inr ⟨rfl, rfl⟩) (by assumption) ?_) | (refine wpAnyH_take (i := 0) (v := ?_) rfl (by kernel_rfl) (by kernel_rfl) (by kernel_rfl) (fun _ _ _ h => h) (Or.inl ⟨rfl, ?_⟩) (by assumption) ?_; rotate_left 1; · (intro w hSw; (try dsimp only at hSw); go_simp; (try with_reducible rfl)))); (try simp only [Act.put, List.getElem_toArray, List.getElem_cons_zero, List.getElem_cons_succ, List.setIfInBounds_toArray, List.set_cons_zero, List.set_cons_succ])
        (first | (refine wpAnyH_take (i := 1) (v := undef) rfl (by kernel_rfl) (by kernel_rfl) (by kernel_rfl) (fun _ _ _ h => h) (Or.inr ⟨rfl, rfl⟩) (by assumption) ?_) | (refine wpAnyH_take (i := 1) (v := ?_) rfl (by kernel_rfl) (by kernel_rfl) (by kernel_rfl) (fun _ _ _ h => h) (Or.inl ⟨rfl, ?_⟩) (by assumption) ?_; rotate_left 1; · (intro w hSw; (try dsimp only at hSw); go_simp; (try with_reducible rfl)))); (try simp only [Act.put, List.getElem_toArray, List.getElem_cons_zero, List.getElem_cons_succ, List.setIfInBounds_toArray, List.set_cons_zero, List.set_cons_succ])
        (first | (refine wpAnyH_take (i := 2) (v := undef) rfl (by kernel_rfl) (by kernel_rfl) (by kernel_rfl) (fun _ _ _ h => h) (Or.inr ⟨rfl, rfl⟩) (by assumption) ?_) | (refine wpAnyH_take (i := 2) (v := ?_) rfl (by kernel_rfl) (by kernel_rfl) (by kernel_rfl) (fun _ _ _ h => h) (Or.inl ⟨rfl, ?_⟩) (by assumption) ?_; rotate_left 1; · (intro w hSw; (try dsimp only at hSw); go_simp; (try with_reducible rfl)))); (try simp only [Act.put, List.getElem_toArray, List.getElem_cons_zero, List.getElem_cons_succ, List.setIfInBounds_toArray, List.set_cons_zero, List.set_cons_succ])
        (first | (refine wpAnyH_take (i := 3) (v := undef) rfl (by kernel_rfl) (by kernel_rfl) (by kernel_rfl) (fun _ _ _ h => h) (Or.inr ⟨rfl, rfl⟩) (by assumption) ?_) | (refine wpAnyH_take (i := 3) (v := ?_) rfl (by kernel_rfl) (by kernel_rfl) (by kernel_rfl) (fun _ _ _ h => h) (Or.inl ⟨rfl, ?_⟩) (by assumption) ?_; rotate_left 1; · (intro w hSw; (try dsimp only at hSw); go_simp; (try with_reducible rfl)))); (try simp only [Act.put, List.getElem_toArray, List.getElem_cons_zero, List.getElem_cons_succ, List.setIfInBounds_toArray, List.set_cons_zero, List.set_cons_succ])
        (first | (refine wpAnyH_take (i := 4) (v := undef) rfl (by kernel_rfl) (by kernel_rfl) (by kernel_rfl) (fun _ _ _ h => h) (Or.inr ⟨rfl, rfl⟩) (by assumption) ?_) | (refine wpAnyH_take (i := 4) (v := ?_) rfl (by kernel_rfl) (by kernel_rfl) (by kernel_rfl) (fun _ _ _ h => h) (Or.inl ⟨rfl, ?_⟩) (by assumption) ?_; rotate_left 1; · (intro w hSw; (try dsimp only at hSw); go_simp; (try with_reducible rfl)))); (try simp only [Act.put, List.getElem_toArray, List.getElem_cons_zero, List.getElem_cons_succ, List.setIfInBounds_toArray, List.set_cons_zero, List.set_cons_succ])
        (first | (refine wpAnyH_take (i := 5) (v := undef) rfl (by kernel_rfl) (by kernel_rfl) (by kernel_rfl) (fun _ _ _ h => h) (Or.inr ⟨rfl, rfl⟩) (by assumption) ?_) | (refine wpAnyH_take (i := 5) (v := ?_) rfl (by kernel_rfl) (by kernel_rfl) (by kernel_rfl) (fun _ _ _ h => h) (Or.inl ⟨rfl, ?_⟩) (by assumption) ?_; rotate_left 1; · (intro w hSw; (try dsimp only at hSw); go_simp; (try with_reducible rfl)))); (try simp only [Act.put, List.getElem_toArray, List.getElem_cons_zero, List.getElem_cons_succ, List.setIfInBounds_toArray, List.set_cons_zero, List.set_cons_succ])
        (first | (refine wpAnyH_take (i := 6) (v := undef) rfl (by kernel_rfl) (by kernel_rfl) (by kernel_rfl) (fun _ _ _ h => h) (Or.inr ⟨rfl, rfl⟩) (by assumption) ?_) | (refine wpAnyH_take (i := 6) (v := ?_) rfl (by kernel_rfl) (by kernel_rfl) (by kernel_rfl) (fun _ _ _ h => h) (Or.inl ⟨rfl, ?_⟩) (by assumption) ?_; rotate_left 1; · (intro w hSw; (try dsimp only at hSw); go_simp; (try with_reducible rfl)))); (try simp only [Act.put, List.getElem_toArray, List.getElem_cons_zero, List.getElem_cons_succ, List.setIfInBounds_toArray, List.set_cons_zero, List.set_cons_succ])
        (first | (refine wpAnyH_take (i := 7) (v := undef) rfl (by kernel_rfl) (by kernel_rfl) (by kernel_rfl) (fun _ _ _ h => h) (Or.inr ⟨rfl, rfl⟩) (by assumption) ?_) | (refine wpAnyH_take (i := 7) (v := ?_) rfl (by kernel_rfl) (by kernel_rfl) (by kernel_rfl) (fun _ _ _ h => h) (Or.inl ⟨rfl, ?_⟩) (by assumption) ?_; rotate_left 1; · (intro w hSw; (try dsimp only at hSw); go_simp; (try with_reducible rfl)))); (try simp only [Act.put, List.getElem_toArray, List.getElem_cons_zero, List.getElem_cons_succ, List.setIfInBounds_toArray, List.set_cons_zero, List.set_cons_succ])
        (first | (refine wpAnyH_take (i := 8) (v := undef) rfl (by kernel_rfl) (by kernel_rfl) (by kernel_rfl) (fun _ _ _ h => h) (Or.inr ⟨rfl, rfl⟩) (by assumption) ?_) | (refine wpAnyH_take (i := 8) (v := ?_) rfl (by kernel_rfl) (by kernel_rfl) (by kernel_rfl) (fun _ _ _ h => h) (Or.inl ⟨rfl, ?_⟩) (by assumption) ?_; rotate_left 1; · (intro w hSw; (try dsimp only at hSw); go_simp; (try with_reducible rfl)))); (try simp only [Act.put, List.getElem_toArray, List.getElem_cons_zero, List.getElem_cons_succ, List.setIfInBounds_toArray, List.set_cons_zero, List.set_cons_succ])
        (first | (refine wpAnyH_take (i := 9) (v := undef) rfl (by kernel_rfl) (by kernel_rfl) (by kernel_rfl) (fun _ _ _ h => h) (Or.inr ⟨rfl, rfl⟩) (by assumption) ?_) | (refine wpAnyH_take (i := 9) (v := ?_) rfl (by kernel_rfl) (by kernel_rfl) (by kernel_rfl) (fun _ _ _ h => h) (Or.inl ⟨rfl, ?_⟩) (by assumption) ?_; rotate_left 1; · (intro w hSw; (try dsimp only at hSw); go_simp; (try with_reducible rfl)))); (try simp only [Act.put, List.getElem_toArray, List.getElem_cons_zero, List.getElem_cons_succ, List.setIfInBounds_toArray, List.set_cons_zero, List.set_cons_succ])
        (first | (refine wpAnyH_take (i := 10) (v := undef) rfl (by kernel_rfl) (by kernel_rfl) (by kernel_rfl) (fun _ _ _ h => h) (Or.inr ⟨rfl, rfl⟩) (by assumption) ?_) | (refine wpAnyH_take (i := 10) (v := ?_) rfl (by kernel_rfl) (by kernel_rfl) (by kernel_rfl) (fun _ _ _ h => h) (Or.inl ⟨rfl, ?_⟩) (by assumption) ?_; rotate_left 1; · (intro w hSw; (try dsimp only at hSw); go_simp; (try with_reducible rfl)))); (try simp only [Act.put, List.getElem_toArray, List.getElem_cons_zero, List.getElem_cons_succ, List.setIfInBounds_toArray, List.set_cons_zero, List.set_cons_succ])
        refine wpAnyH_done (by kernel_rfl) ?_ _
        refine NoPanic.normal ?_
        clear hHeld
        go_wp2
        go_ret
        exact ⟨by rw [H.out]; rfl, tr.drew⟩
    · obtain rfl : j = x.fields.length := by omega
      have hf : x.fields = y.fields := by
        have h := HE.out
        rwa [List.take_length, HL.out, List.take_length] at h
      have k3' := (htr.cell (a := ⟨g, 3, none⟩) hb3.lt (by simp)).trans k3
      have m3' := (htr.cell (a := ⟨g2, 3, none⟩) hb2.lt (by simp)).trans m3
      have k4' := (htr.cell (a := ⟨g, 4, none⟩) hb3.lt (by simp)).trans k4
      have m4' := (htr.cell (a := ⟨g2, 4, none⟩) hb2.lt (by simp)).trans m4
      have hsz := htr.size
      have te := rtexts_any As Bs _ _ sc tc x.syms y.syms B wr rfl rfl (r3.turn0 tr hB) (q3.turn0 tr hB) (Nat.le_trans hB tr.size) ls
      have te2 := fun {w3 : World} (h : Turn wr w3 none) => rints_any Ai Bi _ _ ic jc x.items y.items B w3 rfl rfl ((r4.turn0 tr hB).turn0 h (Nat.le_trans hB tr.size)) ((q4.turn0 tr hB).turn0 h (Nat.le_trans hB tr.size)) (Nat.le_trans (Nat.le_trans hB tr.size) h.size) li
      have k4n := fun {w3 : World} (h : Turn wr w3 none) => (h.cell (a := ⟨g, 4, none⟩) (Nat.lt_of_lt_of_le hb3.lt hsz) (by simp)).trans k4'
      have m4n := fun {w3 : World} (h : Turn wr w3 none) => (h.cell (a := ⟨g2, 4, none⟩) (Nat.lt_of_lt_of_le hb2.lt hsz) (by simp)).trans m4'
      have HF := hid hf
      clear k0 k1 k2 k3 k4 k5 m0 m1 m2 m3 m4 m5 e0 e1 e1b e2 e3 hf k4' m4'
      by_cases hs : x.syms = y.syms
      · have es : (x.syms == y.syms) = true := by simpa using hs
        have H := hid (show decide (x = y) = (x.items == y.items) by
          rw [Bool.eq_iff_iff, decide_eq_true_iff, beq_iff_eq, HN.out]
          exact ⟨fun h => h.2.2, fun h => ⟨HF.out, hs, h⟩⟩)
        rw [es] at te
        clear hs es
        go_wp2_with (first
          | (go_at_call 34; refine te.mono ?_; rintro e w3 ⟨rfl, ht3⟩; have k4' := k4n ht3; have m4' := m4n ht3)
          | (go_at_call 35; refine (te2 ht3).mono ?_; rintro e w4 ⟨rfl, ht4⟩))
        go_ret
        exact ⟨by rw [H.out]; rfl, (tr.trans ht3).trans ht4⟩
      · have es : (x.syms == y.syms) = false := by simpa using hs
        have H := hid (show decide (x = y) = false by
          rw [decide_eq_false_iff_not, HN.out]
          rintro ⟨_, h, _⟩
          exact hs h)
        rw [es] at te
        clear hs es
        go_wp2_with (go_at_call 34; refine te.mono ?_; rintro e w3 ⟨rfl, ht3⟩)
        go_ret
        exact ⟨by rw [H.out]; rfl, tr.trans ht3⟩
end Go.Proofs.YtmghkfnnilapdaaDoor
/-
  Layer 7: whether two schemas are one, as the document has it; whether one is small.
-/
namespace Go.Proofs.YtmghkfnnilapdaaDoor
open Go.RowKit

theorem keepc {w w' : World} {a : Addr} {v : Value} (h : Turn w w' none) (c : w.cell? a = some v) : w'.cell? a = some v := (h.cell (World.block_lt_of_cell? w _ c) (by simp)).trans c
/-- Node j of a schema, cell by cell. -/
theorem Sc.cells {w : World} {B n j : Nat} {A : Option Addr} {gs : List Gn} {x : Gn} (h : Sc w B A n gs) (hx : gs[j]? = some x) : ∃ b off As sc Ai ic Af fc, A = some ⟨b, off, none⟩ ∧
    NdV w B (.agg #[.int .i64 x.k, .string (txt x.name), .int .i64 x.size, .slice As x.syms.length sc, .slice Ai x.items.length ic, .slice Af x.fields.length fc]) x ∧
    w.cell? ⟨b, off + j * 6, none⟩ = some (.int .i64 x.k) ∧ w.cell? ⟨b, off + j * 6 + 1, none⟩ = some (.string (txt x.name)) ∧ w.cell? ⟨b, off + j * 6 + 2, none⟩ = some (.int .i64 x.size) ∧
    w.cell? ⟨b, off + j * 6 + 3, none⟩ = some (.slice As x.syms.length sc) ∧ w.cell? ⟨b, off + j * 6 + 4, none⟩ = some (.slice Ai x.items.length ic) ∧ w.cell? ⟨b, off + j * 6 + 5, none⟩ = some (.slice Af x.fields.length fc) := by
  obtain ⟨h1, vs, h2, h3⟩ := h
  have hi : j < gs.length := (List.getElem?_eq_some_iff.1 hx).1
  obtain ⟨b, off, rfl, _, e3⟩ := h2.head (by omega)
  have hn := h3 j x hx
  obtain ⟨v3, e3', A3, c3, rfl, r3, _⟩ := hn.syms
  obtain ⟨v4, e4, A4, c4, rfl, r4, _⟩ := hn.items
  obtain ⟨v5, e5, A5, c5, rfl, r5, _⟩ := hn.fields
  refine ⟨b, off, A3, c3, A4, c4, A5, c5, rfl, ⟨A3, c3, A4, c4, A5, c5, rfl, r3, r4, r5⟩, e3 _ _ hn.k, ?_, ?_, ?_, ?_, ?_⟩
  · rw [Nat.add_assoc]; exact e3 _ _ hn.name
  · rw [Nat.add_assoc]; exact e3 _ _ hn.size
  · rw [Nat.add_assoc]; exact e3 _ _ e3'
  · rw [Nat.add_assoc]; exact e3 _ _ e4
  · rw [Nat.add_assoc]; exact e3 _ _ e5
set_option maxRecDepth 100000 in
set_option maxHeartbeats 3200000 in
theorem rsame_any {A B : Option Addr} {n m c d : Nat} {l k : List Gn} {D : Nat} {w : World} (ha : Sc w D A n l) (hb : Sc w D B m k) (hD : D ≤ w.heap.size) (hn : n ≤ 1000000) (hs : ∀ x ∈ l, x.syms.length ≤ 1000000 ∧ x.items.length ≤ 1000000 ∧ x.fields.length ≤ 1000000) :
    Calls Tryd.prog 10 #[.agg #[.slice A n c], .agg #[.slice B m d]] w fun e w' => e = .returned (.bool (l == k)) ∧ Turn w w' none := by
  have hl := ha.1
  have hk := hb.1
  by_cases hnm : n = m
  · subst hnm
    have hnn : ((n : Int) != (n : Int)) = false := by simp
    have hlk : l.length = k.length := by omega
    have HA := hid hl
    have HB := hid hk
    clear hl hk
    go_enter Tryd.func10, Tryd.ntmps10
    go_upto_region 1 with (first
      | (have q9 := hg; refine wp_bx rfl 24 _ rfl rfl ?_; intro g2 w2 hg2 hb2 ht2)
      | (refine wp_bx rfl 24 _ rfl rfl ?_; intro g w1 hg hb1 ht1))
    have hb3 := hb1.turn0 ht2
    have tt := ht1.trans ht2
    have k0 : w2.cell? ⟨g, 0, none⟩ = some (.slice A n c) := hb3.ats (xs := [_]) rfl
    have m0 : w2.cell? ⟨g2, 0, none⟩ = some (.slice B n d) := hb2.ats (xs := [_]) rfl
    go_wp2_with fail
    go_loopw [5] (fun i wr => ∃ j : Nat, j ≤ n ∧ i = .int .i64 (j : Int) ∧ Hid (l.take j = k.take j) ∧ Turn w2 wr none) (fun i _ => (n - intOf i).toNat)
    case atStart => exact ⟨0, by omega, rfl, hid rfl, Turn.refl w2 none⟩
    case round =>
      obtain ⟨j, hj, rfl, HE, htr⟩ := hrel
      have hwr : wrap64 ((j : Int) + 1) = (j : Int) + 1 := by unfold wrap64; omega
      have k0' := keepc htr k0
      have m0' := keepc htr m0
      have tr := tt.trans htr
      by_cases hjn : j < n
      · have hjl : j < l.length := by rw [HA.out]; exact hjn
        have hjk : j < k.length := by rw [HB.out]; exact hjn
        obtain ⟨x, hx⟩ : ∃ x, l[j]? = some x := ⟨l[j], List.getElem?_eq_getElem hjl⟩
        obtain ⟨y, hy⟩ : ∃ y, k[j]? = some y := ⟨k[j], List.getElem?_eq_getElem hjk⟩
        obtain ⟨b1, o1, As, sc, Ai, ic, Af, fc, rfl, v1, a0, a1, a2, a3, a4, a5⟩ := (ha.turn0 tr hD).cells hx
        obtain ⟨b2, o2, Bs, tc, Bi, jc, Bf, gc, rfl, v2, d0, d1, d2, d3, d4, d5⟩ := (hb.turn0 tr hD).cells hy
        obtain ⟨l1, l2, l3⟩ := hs x (List.mem_of_getElem? hx)
        have hDr : D ≤ wr.heap.size := Nat.le_trans hD tr.size
        have nd := rnode_any (v1.turn0 (Turn.refl wr none).drew hDr) (v2.turn0 (Turn.refl wr none).drew hDr) hDr l1 l2 l3
        have HX := hid hx
        have HY := hid hy
        clear hx hy v1 v2 hjl hjk k0 m0
        by_cases hxy : x = y
        · rw [decide_eq_true hxy] at nd
          have HXY := hid hxy
          clear hxy
          go_wp2_with (fail)
          refine wp_region_noPanic ?_
          refine wp_region_held_drew (S := (fun W => W.cell? ⟨g, 0, none⟩ = some (.slice (some ⟨b1, o1, none⟩) n c) ∧ W.cell? ⟨g2, 0, none⟩ = some (.slice (some ⟨b2, o2, none⟩) n d) ∧ W.cell? ⟨b1, o1 + j * 6, none⟩ = some (.int .i64 x.k) ∧ W.cell? ⟨b1, o1 + j * 6 + 1, none⟩ = some (.string (txt x.name)) ∧ W.cell? ⟨b1, o1 + j * 6 + 2, none⟩ = some (.int .i64 x.size) ∧ W.cell? ⟨b1, o1 + j * 6 + 3, none⟩ = some (.slice As x.syms.length sc) ∧ W.cell? ⟨b1, o1 + j * 6 + 4, none⟩ = some (.slice Ai x.items.length ic) ∧ W.cell? ⟨b1, o1 + j * 6 + 5, none⟩ = some (.slice Af x.fields.length fc) ∧ W.cell? ⟨b2, o2 + j * 6, none⟩ = some (.int .i64 y.k) ∧ W.cell? ⟨b2, o2 + j * 6 + 1, none⟩ = some (.string (txt y.name)) ∧ W.cell? ⟨b2, o2 + j * 6 + 2, none⟩ = some (.int .i64 y.size) ∧ W.cell? ⟨b2, o2 + j * 6 + 3, none⟩ = some (.slice Bs y.syms.length tc) ∧ W.cell? ⟨b2, o2 + j * 6 + 4, none⟩ = some (.slice Bi y.items.length jc) ∧ W.cell? ⟨b2, o2 + j * 6 + 5, none⟩ = some (.slice Bf y.fields.length gc))) (by kernel_rfl) (⟨k0', m0', a0, a1, a2, a3, a4, a5, d0, d1, d2, d3, d4, d5⟩) (fun hHeld => ?_)
          (first | (refine wpAnyH_take (i := 0) (v := undef) rfl (by kernel_rfl) (by kernel_rfl) (by kernel_rfl) (fun _ _ _ h => h) (Or.inr ⟨rfl, rfl⟩) (by assumption) ?_) | (refine wpAnyH_take (i := 0) (v := ?_) rfl (by kernel_rfl) (by kernel_rfl) (by kernel_rfl) (fun _ _ _ h => h) (Or.inl ⟨rfl, ?_⟩) (by assumption) ?_; rotate_left 1; · (intro w hSw; (try dsimp only at hSw); go_simp; (try with_reducible rfl)))); (try simp only [Act.put, List.getElem_toArray, List.getElem_cons_zero, List.getElem_cons_succ, List.setIfInBounds_toArray, List.set_cons_zero, List.set_cons_succ])
          (first | (refine wpAnyH_take (i := 1) (v := undef) rfl (by kernel_rfl) (by kernel_rfl) (by kernel_rfl) (fun _ _ _ h => h) (Or.inr ⟨rfl, rfl⟩) (by assumption) ?_) | (refine wpAnyH_take (i := 1) (v := ?_) rfl (by kernel_rfl) (by kernel_rfl) (by kernel_rfl) (fun _ _ _ h => h) (Or.inl ⟨rfl, ?_⟩) (by assumption) ?_; rotate_left 1; · (intro w hSw; (try dsimp only at hSw); go_simp; (try with_reducible rfl)))); (try simp only [Act.put, List.getElem_toArray, List.getElem_cons_zero, List.getElem_cons_succ, List.setIfInBounds_toArray, List.set_cons_zero, List.set_cons_succ])
          (first | (refine wpAnyH_take (i := 2) (v := undef) rfl (by kernel_rfl) (by kernel_rfl) (by kernel_rfl) (fun _ _ _ h => h) (Or.inr ⟨rfl, rfl⟩) (by assumption) ?_) | (refine wpAnyH_take (i := 2) (v := ?_) rfl (by kernel_rfl) (by kernel_rfl) (by kernel_rfl) (fun _ _ _ h => h) (Or.inl ⟨rfl, ?_⟩) (by assumption) ?_; rotate_left 1; · (intro w hSw; (try dsimp only at hSw); go_simp; (try with_reducible rfl)))); (try simp only [Act.put, List.getElem_toArray, List.getElem_cons_zero, List.getElem_cons_succ, List.setIfInBounds_toArray, List.set_cons_zero, List.set_cons_succ])
          (first | (refine wpAnyH_take (i := 3) (v := undef) rfl (by kernel_rfl) (by kernel_rfl) (by kernel_rfl) (fun _ _ _ h => h) (Or.inr ⟨rfl, rfl⟩) (by assumption) ?_) | (refine wpAnyH_take (i := 3) (v := ?_) rfl (by kernel_rfl) (by kernel_rfl) (by kernel_rfl) (fun _ _ _ h => h) (Or.inl ⟨rfl, ?_⟩) (by assumption) ?_; rotate_left 1; · (intro w hSw; (try dsimp only at hSw); go_simp; (try with_reducible rfl)))); (try simp only [Act.put, List.getElem_toArray, List.getElem_cons_zero, List.getElem_cons_succ, List.setIfInBounds_toArray, List.set_cons_zero, List.set_cons_succ])
          (first | (refine wpAnyH_take (i := 4) (v := undef) rfl (by kernel_rfl) (by kernel_rfl) (by kernel_rfl) (fun _ _ _ h => h) (Or.inr ⟨rfl, rfl⟩) (by assumption) ?_) | (refine wpAnyH_take (i := 4) (v := ?_) rfl (by kernel_rfl) (by kernel_rfl) (by kernel_rfl) (fun _ _ _ h => h) (Or.inl ⟨rfl, ?_⟩) (by assumption) ?_; rotate_left 1; · (intro w hSw; (try dsimp only at hSw); go_simp; (try with_reducible rfl)))); (try simp only [Act.put, List.getElem_toArray, List.getElem_cons_zero, List.getElem_cons_succ, List.setIfInBounds_toArray, List.set_cons_zero, List.set_cons_succ])
          (first | (refine wpAnyH_take (i := 5) (v := undef) rfl (by kernel_rfl) (by kernel_rfl) (by kernel_rfl) (fun _ _ _ h => h) (Or.inr ⟨rfl, rfl⟩) (by assumption) ?_) | (refine wpAnyH_take (i := 5) (v := ?_) rfl (by kernel_rfl) (by kernel_rfl) (by kernel_rfl) (fun _ _ _ h => h) (Or.inl ⟨rfl, ?_⟩) (by assumption) ?_; rotate_left 1; · (intro w hSw; (try dsimp only at hSw); go_simp; (try with_reducible rfl)))); (try simp only [Act.put, List.getElem_toArray, List.getElem_cons_zero, List.getElem_cons_succ, List.setIfInBounds_toArray, List.set_cons_zero, List.set_cons_succ])
          (first | (refine wpAnyH_take (i := 6) (v := undef) rfl (by kernel_rfl) (by kernel_rfl) (by kernel_rfl) (fun _ _ _ h => h) (Or.inr ⟨rfl, rfl⟩) (by assumption) ?_) | (refine wpAnyH_take (i := 6) (v := ?_) rfl (by kernel_rfl) (by kernel_rfl) (by kernel_rfl) (fun _ _ _ h => h) (Or.inl ⟨rfl, ?_⟩) (by assumption) ?_; rotate_left 1; · (intro w hSw; (try dsimp only at hSw); go_simp; (try with_reducible rfl)))); (try simp only [Act.put, List.getElem_toArray, List.getElem_cons_zero, List.getElem_cons_succ, List.setIfInBounds_toArray, List.set_cons_zero, List.set_cons_succ])
          (first | (refine wpAnyH_take (i := 7) (v := undef) rfl (by kernel_rfl) (by kernel_rfl) (by kernel_rfl) (fun _ _ _ h => h) (Or.inr ⟨rfl, rfl⟩) (by assumption) ?_) | (refine wpAnyH_take (i := 7) (v := ?_) rfl (by kernel_rfl) (by kernel_rfl) (by kernel_rfl) (fun _ _ _ h => h) (Or.inl ⟨rfl, ?_⟩) (by assumption) ?_; rotate_left 1; · (intro w hSw; (try dsimp only at hSw); go_simp; (try with_reducible rfl)))); (try simp only [Act.put, List.getElem_toArray, List.getElem_cons_zero, List.getElem_cons_succ, List.setIfInBounds_toArray, List.set_cons_zero, List.set_cons_succ])
          (first | (refine wpAnyH_take (i := 8) (v := undef) rfl (by kernel_rfl) (by kernel_rfl) (by kernel_rfl) (fun _ _ _ h => h) (Or.inr ⟨rfl, rfl⟩) (by assumption) ?_) | (refine wpAnyH_take (i := 8) (v := ?_) rfl (by kernel_rfl) (by kernel_rfl) (by kernel_rfl) (fun _ _ _ h => h) (Or.inl ⟨rfl, ?_⟩) (by assumption) ?_; rotate_left 1; · (intro w hSw; (try dsimp only at hSw); go_simp; (try with_reducible rfl)))); (try simp only [Act.put, List.getElem_toArray, List.getElem_cons_zero, List.getElem_cons_succ, List.setIfInBounds_toArray, List.set_cons_zero, List.set_cons_succ])
          (first | (refine wpAnyH_take (i := 9) (v := undef) rfl (by kernel_rfl) (by kernel_rfl) (by kernel_rfl) (fun _ _ _ h => h) (Or.inr ⟨rfl, rfl⟩) (by assumption) ?_) | (refine wpAnyH_take (i := 9) (v := ?_) rfl (by kernel_rfl) (by kernel_rfl) (by kernel_rfl) (fun _ _ _ h => h) (Or.inl ⟨rfl, ?_⟩) (by assumption) ?_; rotate_left 1; · (intro w hSw; (try dsimp only at hSw); go_simp; (try with_reducible rfl)))); (try simp only [Act.put, List.getElem_toArray, List.getElem_cons_zero, List.getElem_cons_succ, List.setIfInBounds_toArray, List.set_cons_zero, List.set_cons_succ])
          refine wpAnyH_ready (rs := [10]) (by kernel_rfl) (by simp) ?_; refine AllReadyH.cons rfl (fun K hK => ?_) AllReadyH.nil
          go_simp
          go_at_call 20
          refine nd.mono ?_
          rintro e w6 ⟨rfl, ht6⟩
          go_simp
          refine hK.out _ _ ⟨keepc ht6 k0', keepc ht6 m0', keepc ht6 a0, keepc ht6 a1, keepc ht6 a2, keepc ht6 a3, keepc ht6 a4, keepc ht6 a5, keepc ht6 d0, keepc ht6 d1, keepc ht6 d2, keepc ht6 d3, keepc ht6 d4, keepc ht6 d5⟩ (fun hHeld => ?_); clear hK K; (try simp only [Act.put, List.getElem_toArray, List.getElem_cons_zero, List.getElem_cons_succ, List.setIfInBounds_toArray, List.set_cons_zero, List.set_cons_succ])
          (first | (refine wpAnyH_take (i := 11) (v := undef) rfl (by kernel_rfl) (by kernel_rfl) (by kernel_rfl) (fun _ _ _ h => h) (Or.inr ⟨rfl, rfl⟩) (by assumption) ?_) | (refine wpAnyH_take (i := 11) (v := ?_) rfl (by kernel_rfl) (by kernel_rfl) (by kernel_rfl) (fun _ _ _ h => h) (Or.inl ⟨rfl, ?_⟩) (by assumption) ?_; rotate_left 1; · (intro w hSw; (try dsimp only at hSw); go_simp; (try with_reducible rfl)))); (try simp only [Act.put, List.getElem_toArray, List.getElem_cons_zero, List.getElem_cons_succ, List.setIfInBounds_toArray, List.set_cons_zero, List.set_cons_succ])
          refine wpAnyH_done (by kernel_rfl) ?_ _
          refine NoPanic.normal ?_
          clear hHeld
          go_wp2
          refine ⟨⟨j + 1, by omega, by go_num, hid (take_next1 HX.out (by rw [HXY.out]; exact HY.out) HE.out), htr.drew.trans ht6⟩, by simp [intOf]; omega⟩
        · rw [decide_eq_false hxy] at nd
          have H := hid (beq_diff HX.out HY.out hxy)
          clear hxy
          go_wp2_with (fail)
          refine wp_region_noPanic ?_
          refine wp_region_held_drew (S := (fun W => W.cell? ⟨g, 0, none⟩ = some (.slice (some ⟨b1, o1, none⟩) n c) ∧ W.cell? ⟨g2, 0, none⟩ = some (.slice (some ⟨b2, o2, none⟩) n d) ∧ W.cell? ⟨b1, o1 + j * 6, none⟩ = some (.int .i64 x.k) ∧ W.cell? ⟨b1, o1 + j * 6 + 1, none⟩ = some (.string (txt x.name)) ∧ W.cell? ⟨b1, o1 + j * 6 + 2, none⟩ = some (.int .i64 x.size) ∧ W.cell? ⟨b1, o1 + j * 6 + 3, none⟩ = some (.slice As x.syms.length sc) ∧ W.cell? ⟨b1, o1 + j * 6 + 4, none⟩ = some (.slice Ai x.items.length ic) ∧ W.cell? ⟨b1, o1 + j * 6 + 5, none⟩ = some (.slice Af x.fields.length fc) ∧ W.cell? ⟨b2, o2 + j * 6, none⟩ = some (.int .i64 y.k) ∧ W.cell? ⟨b2, o2 + j * 6 + 1, none⟩ = some (.string (txt y.name)) ∧ W.cell? ⟨b2, o2 + j * 6 + 2, none⟩ = some (.int .i64 y.size) ∧ W.cell? ⟨b2, o2 + j * 6 + 3, none⟩ = some (.slice Bs y.syms.length tc) ∧ W.cell? ⟨b2, o2 + j * 6 + 4, none⟩ = some (.slice Bi y.items.length jc) ∧ W.cell? ⟨b2, o2 + j * 6 + 5, none⟩ = some (.slice Bf y.fields.length gc))) (by kernel_rfl) (⟨k0', m0', a0, a1, a2, a3, a4, a5, d0, d1, d2, d3, d4, d5⟩) (fun hHeld => ?_)
          (first | (refine wpAnyH_take (i := 0) (v := undef) rfl (by kernel_rfl) (by kernel_rfl) (by kernel_rfl) (fun _ _ _ h => h) (Or.inr ⟨rfl, rfl⟩) (by assumption) ?_) | (refine wpAnyH_take (i := 0) (v := ?_) rfl (by kernel_rfl) (by kernel_rfl) (by kernel_rfl) (fun _ _ _ h => h) (Or.inl ⟨rfl, ?_⟩) (by assumption) ?_; rotate_left 1; · (intro w hSw; (try dsimp only at hSw); go_simp; (try with_reducible rfl)))); (try simp only [Act.put, List.getElem_toArray, List.getElem_cons_zero, List.getElem_cons_succ, List.setIfInBounds_toArray, List.set_cons_zero, List.set_cons_succ])
          (first | (refine wpAnyH_take (i := 1) (v := undef) rfl (by kernel_rfl) (by kernel_rfl) (by kernel_rfl) (fun _ _ _ h => h) (Or.inr ⟨rfl, rfl⟩) (by assumption) ?_) | (refine wpAnyH_take (i := 1) (v := ?_) rfl (by kernel_rfl) (by kernel_rfl) (by kernel_rfl) (fun _ _ _ h => h) (Or.inl ⟨rfl, ?_⟩) (by assumption) ?_; rotate_left 1; · (intro w hSw; (try dsimp only at hSw); go_simp; (try with_reducible rfl)))); (try simp only [Act.put, List.getElem_toArray, List.getElem_cons_zero, List.getElem_cons_succ, List.setIfInBounds_toArray, List.set_cons_zero, List.set_cons_succ])
          (first | (refine wpAnyH_take (i := 2) (v := undef) rfl (by kernel_rfl) (by kernel_rfl) (by kernel_rfl) (fun _ _ _ h => h) (Or.inr ⟨rfl, rfl⟩) (by assumption) ?_) | (refine wpAnyH_take (i := 2) (v := ?_) rfl (by kernel_rfl) (by kernel_rfl) (by kernel_rfl) (fun _ _ _ h => h) (Or.inl ⟨rfl, ?_⟩) (by assumption) ?_; rotate_left 1; · (intro w hSw; (try dsimp only at hSw); go_simp; (try with_reducible rfl)))); (try simp only [Act.put, List.getElem_toArray, List.getElem_cons_zero, List.getElem_cons_succ, List.setIfInBounds_toArray, List.set_cons_zero, List.set_cons_succ])
          (first | (refine wpAnyH_take (i := 3) (v := undef) rfl (by kernel_rfl) (by kernel_rfl) (by kernel_rfl) (fun _ _ _ h => h) (Or.inr ⟨rfl, rfl⟩) (by assumption) ?_) | (refine wpAnyH_take (i := 3) (v := ?_) rfl (by kernel_rfl) (by kernel_rfl) (by kernel_rfl) (fun _ _ _ h => h) (Or.inl ⟨rfl, ?_⟩) (by assumption) ?_; rotate_left 1; · (intro w hSw; (try dsimp only at hSw); go_simp; (try with_reducible rfl)))); (try simp only [Act.put, List.getElem_toArray, List.getElem_cons_zero, List.getElem_cons_succ, List.setIfInBounds_toArray, List.set_cons_zero, List.set_cons_succ])
          (first | (refine wpAnyH_take (i := 4) (v := undef) rfl (by kernel_rfl) (by kernel_rfl) (by kernel_rfl) (fun _ _ _ h => h) (Or.inr ⟨rfl, rfl⟩) (by assumption) ?_) | (refine wpAnyH_take (i := 4) (v := ?_) rfl (by kernel_rfl) (by kernel_rfl) (by kernel_rfl) (fun _ _ _ h => h) (Or.inl ⟨rfl, ?_⟩) (by assumption) ?_; rotate_left 1; · (intro w hSw; (try dsimp only at hSw); go_simp; (try with_reducible rfl)))); (try simp only [Act.put, List.getElem_toArray, List.getElem_cons_zero, List.getElem_cons_succ, List.setIfInBounds_toArray, List.set_cons_zero, List.set_cons_succ])
          (first | (refine wpAnyH_take (i := 5) (v := undef) rfl (by kernel_rfl) (by kernel_rfl) (by kernel_rfl) (fun _ _ _ h => h) (Or.inr ⟨rfl, rfl⟩) (by assumption) ?_) | (refine wpAnyH_take (i := 5) (v := ?_) rfl (by kernel_rfl) (by kernel_rfl) (by kernel_rfl) (fun _ _ _ h => h) (Or.inl ⟨rfl, ?_⟩) (by assumption) ?_; rotate_left 1; · (intro w hSw; (try dsimp only at hSw); go_simp; (try with_reducible rfl)))); (try simp only [Act.put, List.getElem_toArray, List.getElem_cons_zero, List.getElem_cons_succ, List.setIfInBounds_toArray, List.set_cons_zero, List.set_cons_succ])
          (first | (refine wpAnyH_take (i := 6) (v := undef) rfl (by kernel_rfl) (by kernel_rfl) (by kernel_rfl) (fun _ _ _ h => h) (Or.inr ⟨rfl, rfl⟩) (by assumption) ?_) | (refine wpAnyH_take (i := 6) (v := ?_) rfl (by kernel_rfl) (by kernel_rfl) (by kernel_rfl) (fun _ _ _ h => h) (Or.inl ⟨rfl, ?_⟩) (by assumption) ?_; rotate_left 1; · (intro w hSw; (try dsimp only at hSw); go_simp; (try with_reducible rfl)))); (try simp only [Act.put, List.getElem_toArray, List.getElem_cons_zero, List.getElem_cons_succ, List.setIfInBounds_toArray, List.set_cons_zero, List.set_cons_succ])
          (first | (refine wpAnyH_take (i := 7) (v := undef) rfl (by kernel_rfl) (by kernel_rfl) (by kernel_rfl) (fun _ _ _ h => h) (Or.inr ⟨rfl, rfl⟩) (by assumption) ?_) | (refine wpAnyH_take (i := 7) (v := ?_) rfl (by kernel_rfl) (by kernel_rfl) (by kernel_rfl) (fun _ _ _ h => h) (Or.inl ⟨rfl, ?_⟩) (by assumption) ?_; rotate_left 1; · (intro w hSw; (try dsimp only at hSw); go_simp; (try with_reducible rfl)))); (try simp only [Act.put, List.getElem_toArray, List.getElem_cons_zero, List.getElem_cons_succ, List.setIfInBounds_toArray, List.set_cons_zero, List.set_cons_succ])
          (first | (refine wpAnyH_take (i := 8) (v := undef) rfl (by kernel_rfl) (by kernel_rfl) (by kernel_rfl) (fun _ _ _ h => h) (Or.inr ⟨rfl, rfl⟩) (by assumption) ?_) | (refine wpAnyH_take (i := 8) (v := ?_) rfl (by kernel_rfl) (by kernel_rfl) (by kernel_rfl) (fun _ _ _ h => h) (Or.inl ⟨rfl, ?_⟩) (by assumption) ?_; rotate_left 1; · (intro w hSw; (try dsimp only at hSw); go_simp; (try with_reducible rfl)))); (try simp only [Act.put, List.getElem_toArray, List.getElem_cons_zero, List.getElem_cons_succ, List.setIfInBounds_toArray, List.set_cons_zero, List.set_cons_succ])
          (first | (refine wpAnyH_take (i := 9) (v := undef) rfl (by kernel_rfl) (by kernel_rfl) (by kernel_rfl) (fun _ _ _ h => h) (Or.inr ⟨rfl, rfl⟩) (by assumption) ?_) | (refine wpAnyH_take (i := 9) (v := ?_) rfl (by kernel_rfl) (by kernel_rfl) (by kernel_rfl) (fun _ _ _ h => h) (Or.inl ⟨rfl, ?_⟩) (by assumption) ?_; rotate_left 1; · (intro w hSw; (try dsimp only at hSw); go_simp; (try with_reducible rfl)))); (try simp only [Act.put, List.getElem_toArray, List.getElem_cons_zero, List.getElem_cons_succ, List.setIfInBounds_toArray, List.set_cons_zero, List.set_cons_succ])
          refine wpAnyH_ready (rs := [10]) (by kernel_rfl) (by simp) ?_; refine AllReadyH.cons rfl (fun K hK => ?_) AllReadyH.nil
          go_simp
          go_at_call 20
          refine nd.mono ?_
          rintro e w6 ⟨rfl, ht6⟩
          go_simp
          refine hK.out _ _ ⟨keepc ht6 k0', keepc ht6 m0', keepc ht6 a0, keepc ht6 a1, keepc ht6 a2, keepc ht6 a3, keepc ht6 a4, keepc ht6 a5, keepc ht6 d0, keepc ht6 d1, keepc ht6 d2, keepc ht6 d3, keepc ht6 d4, keepc ht6 d5⟩ (fun hHeld => ?_); clear hK K; (try simp only [Act.put, List.getElem_toArray, List.getElem_cons_zero, List.getElem_cons_succ, List.setIfInBounds_toArray, List.set_cons_zero, List.set_cons_succ])
          (first | (refine wpAnyH_take (i := 11) (v := undef) rfl (by kernel_rfl) (by kernel_rfl) (by kernel_rfl) (fun _ _ _ h => h) (Or.inr ⟨rfl, rfl⟩) (by assumption) ?_) | (refine wpAnyH_take (i := 11) (v := ?_) rfl (by kernel_rfl) (by kernel_rfl) (by kernel_rfl) (fun _ _ _ h => h) (Or.inl ⟨rfl, ?_⟩) (by assumption) ?_; rotate_left 1; · (intro w hSw; (try dsimp only at hSw); go_simp; (try with_reducible rfl)))); (try simp only [Act.put, List.getElem_toArray, List.getElem_cons_zero, List.getElem_cons_succ, List.setIfInBounds_toArray, List.set_cons_zero, List.set_cons_succ])
          refine wpAnyH_done (by kernel_rfl) ?_ _
          refine NoPanic.normal ?_
          clear hHeld
          go_wp2
          go_ret
          exact ⟨by rw [H.out]; rfl, tr.drew.trans ht6⟩
      · obtain rfl : j = n := by omega
        have H := hid (beq_all hlk (by rw [HA.out]; exact HE.out))
        go_wp2
        go_ret
        exact ⟨by rw [H.out]; rfl, tr⟩
  · have hne : ((n : Int) != (m : Int)) = true := by rw [bne_iff_ne]; omega
    have H := hid (beq_len (l := l) (m := k) (by omega))
    clear hl hk
    go_enter Tryd.func10, Tryd.ntmps10
    go_upto_region 1 with (first
      | (have q9 := hg; refine wp_bx rfl 24 _ rfl rfl ?_; intro g2 w2 hg2 hb2 ht2)
      | (refine wp_bx rfl 24 _ rfl rfl ?_; intro g w1 hg hb1 ht1))
    have hb3 := hb1.turn0 ht2
    have tt := ht1.trans ht2
    have k0 : w2.cell? ⟨g, 0, none⟩ = some (.slice A n c) := hb3.ats (xs := [_]) rfl
    have m0 : w2.cell? ⟨g2, 0, none⟩ = some (.slice B m d) := hb2.ats (xs := [_]) rfl
    go_wp2_with fail
    go_ret
    exact ⟨by rw [H.out]; rfl, tt⟩
end Go.Proofs.YtmghkfnnilapdaaDoor
/-
  A region that draws its order, what is held in it until a certain operation has come up (a store of what was loaded). No program is named here.
-/
namespace Go.Proofs.YtmghkfnnilapdaaDoor
open Go.RowKit

section
variable {P : Program} {ops : Array Oper} {Q : Exit → Act → World → Prop} {md : Region.Mode} {S : World → Prop} {k : Nat}
/-- Whatever order is picked from here on; S holds behind every operation until number k has come up. -/
def wpTwo (P : Program) (md : Region.Mode) (ops : Array Oper) (Q : Exit → Act → World → Prop) (S : World → Prop) (k : Nat) : Nat → Array Bool → Act → World → Prop
  | 0, listed, a, w => Region.ready md ops listed = [] ∧ Q .normal a w
  | fuel + 1, listed, a, w =>
    (Region.ready md ops listed = [] → Q .normal a w) ∧
    ∀ i ∈ Region.ready md ops listed, wpOp P ops Q i (fun a' w' => ((listed.setIfInBounds i true).getD k true = true ∨ S w') ∧ wpTwo P md ops Q S k fuel (listed.setIfInBounds i true) a' w') a w
theorem wpAny_of_two : ∀ (fuel : Nat) (listed : Array Bool) (a : Act) (w : World), wpTwo P md ops Q S k fuel listed a w → wpAny P md ops Q fuel listed a w
  | 0, _, _, _, h => h
  | fuel + 1, _, _, _, h => ⟨h.1, fun i hi => wpOp_mono (fun a' w' h' => wpAny_of_two fuel _ a' w' h'.2) (h.2 i hi)⟩
theorem wpTwo_first {i : Nat} {oi ok : Oper} {v : Value} (hi : ops[i]? = some oi) (hk : ops[k]? = some ok) (hkb : ∃ e ∈ ok.after, Region.binds md e = true ∧ e.on = i) (hsel : ∀ (j : Nat) (o : Oper) cs b, ops[j]? = some o → o.op ≠ .select cs b)
    (hQ : ∀ c a w, Q (.panic c) (a.put oi.dst v) w → Q (.panic c) a w) :
    ∀ (fuel : Nat) (listed : Array Bool) (a : Act) (w : World),
      (∀ j oj, ops[j]? = some oj → j ≠ i → listed.getD j true = false → (∀ e ∈ oj.after, Region.binds md e = true → e.on ≠ i) → oi.apart ops oj = true) →
      i ∈ Region.ready md ops listed → listed.getD k true = false → i ≠ k → YieldsIf P ops S oi v a → S w →
      wpTwo P md ops Q S k fuel (listed.setIfInBounds i true) (a.put oi.dst v) w → wpTwo P md ops Q S k (fuel + 1) listed a w := by
  intro fuel
  induction fuel with
  | zero =>
    intro listed a w _ hr _ _ hy hS H
    refine ⟨fun h => (by rw [h] at hr; cases hr), fun j hj => ?_⟩
    by_cases hji : j = i
    · subst hji; exact hy.wpOp hi hS ⟨.inr hS, H⟩
    · have := ready_mono hj hji
      rw [H.1] at this
      cases this
  | succ fuel ih =>
    intro listed a w hfree hr hlk hik hy hS H
    refine ⟨fun h => (by rw [h] at hr; cases hr), fun j hj => ?_⟩
    by_cases hji : j = i
    · subst hji; exact hy.wpOp hi hS ⟨.inr hS, H⟩
    · have h1 := H.2 j (ready_mono hj hji)
      obtain ⟨hjun, oj, hoj, hall⟩ := mem_ready.1 hj
      have hnot : ∀ e ∈ oj.after, Region.binds md e = true → e.on ≠ i := fun e he hb heq => by
        have h1 := hall e he hb
        have h0 := (mem_ready.1 hr).1
        rw [heq] at h1
        rcases Nat.lt_or_ge i listed.size with h' | h'
        · simp [h'] at h0 h1; rw [h0] at h1; cases h1
        · simp [Array.getElem?_eq_none h'] at h1
      have hjk : j ≠ k := fun e => by
        subst e
        rw [hoj] at hk
        obtain ⟨e, he, hb, hon⟩ := hkb
        rw [← Option.some.inj hk] at he
        exact hnot e he hb hon
      have hlk1 : (listed.setIfInBounds j true).getD k true = false := by rw [getD_set_ne true hjk]; exact hlk
      have hlk2 : ((listed.setIfInBounds i true).setIfInBounds j true).getD k true = false := by rw [getD_set_ne true hjk, getD_set_ne true hik]; exact hlk
      have h2 := wpOp_putIf hoj (hfree j oj hoj hji hjun hnot) (fun cs b => hsel i oi cs b hi) (fun cs b => hsel j oj cs b hoj) hQ hy h1
      have hfree' : ∀ m om, ops[m]? = some om → m ≠ i → (listed.setIfInBounds j true).getD m true = false →
          (∀ e ∈ om.after, Region.binds md e = true → e.on ≠ i) → oi.apart ops om = true := fun m om hm hmi hun hno => by
        refine hfree m om hm hmi ?_ hno
        by_cases hjm : j = m
        · subst hjm; exact hjun
        · rw [getD_set_ne true hjm] at hun; exact hun
      refine wpOp_mono (fun a' w' h3 => ?_) h2
      have hS' : S w' := by
        rcases h3.2.1 with h | h
        · rw [hlk2] at h; cases h
        · exact h
      refine ⟨.inr hS', ih (listed.setIfInBounds j true) a' w' hfree' (ready_mono hr (Ne.symm hji)) hlk1 hik h3.1 hS' ?_⟩
      rw [Array.setIfInBounds_comm _ _ hji]
      exact h3.2.2
/-- Number i is taken first. -/
theorem wpTwo_take {i : Nat} {oi ok : Oper} {v : Value} {fuel : Nat} {listed : Array Bool} {a : Act} {w : World} (hi : ops[i]? = some oi) (hk : ops[k]? = some ok) (hkb : ok.after.any (fun e => Region.binds md e && e.on == i) = true)
    (hs : Region.noSelect ops = true) (hf : Region.free md ops listed i = true) (hr : (Region.ready md ops listed).contains i = true) (hl : listed.getD k true = false) (hik : i ≠ k)
    (hQ : ∀ c a w, Q (.panic c) (a.put oi.dst v) w → Q (.panic c) a w) (hy : YieldsIf P ops S oi v a) (hS : S w)
    (h : wpTwo P md ops Q S k fuel (listed.setIfInBounds i true) (a.put oi.dst v) w) : wpTwo P md ops Q S k (fuel + 1) listed a w := by
  refine wpTwo_first hi hk ?_ (Region.noSelect_spec hs) hQ fuel listed a w (Region.free_spec hi hf) (by simpa using hr) hl hik hy hS h
  rw [Array.any_eq_true'] at hkb
  obtain ⟨e, he, hb⟩ := hkb
  rw [Bool.and_eq_true, beq_iff_eq] at hb
  exact ⟨e, he, hb.1, hb.2⟩
theorem wp_region_two {id : Nat} {a : Act} {w : World} (k : Nat) (S : World → Prop) (hm : P.follows .mixedOrders = true) (hS : S w.drew)
    (h : S w.drew → wpTwo P .any ops Q S k ops.size (Array.replicate ops.size false) a w.drew) : (Code.region id ops true).wp P Q a w :=
  wp_region_any hm (wpAny_of_two _ _ _ _ (h hS))
/-- Each of these comes up next. -/
def AllTwo (P : Program) (md : Region.Mode) (ops : Array Oper) (Q : Exit → Act → World → Prop) (S : World → Prop) (k fuel : Nat) (listed : Array Bool) (a : Act) (w : World) (rs : List Nat) : Prop :=
  ∀ i ∈ rs, wpOp P ops Q i (fun a' w' => ((listed.setIfInBounds i true).getD k true = true ∨ S w') ∧ wpTwo P md ops Q S k fuel (listed.setIfInBounds i true) a' w') a w
theorem AllTwo.nil {fuel : Nat} {listed : Array Bool} {a : Act} {w : World} : AllTwo P md ops Q S k fuel listed a w [] := fun _ h => by cases h
theorem AllTwo.cons {fuel : Nat} {listed : Array Bool} {a : Act} {w : World} {i : Nat} {o : Oper} {rs : List Nat} (ho : ops[i]? = some o)
    (h : ∀ K' : Act → World → Prop, Shut (∀ a w, ((listed.setIfInBounds i true).getD k true = true ∨ S w) → wpTwo P md ops Q S k fuel (listed.setIfInBounds i true) a w → K' a w) → if Region.wanted o (yielded ops a.tmps) = true then Oper.wp P o a w K' Q else K' (a.put o.dst undef) w)
    (hs : AllTwo P md ops Q S k fuel listed a w rs) : AllTwo P md ops Q S k fuel listed a w (i :: rs) := fun j hj => by
  rcases List.mem_cons.1 hj with rfl | hj
  · exact wpOp_step ho (fun K' hK => h K' (fun a w hS hW => hK a w ⟨hS, hW⟩))
  · exact hs j hj
theorem wpTwo_ready {rs : List Nat} {fuel : Nat} {listed : Array Bool} {a : Act} {w : World} (hr : Region.ready md ops listed = rs) (hne : rs ≠ [])
    (h : AllTwo P md ops Q S k fuel listed a w rs) : wpTwo P md ops Q S k (fuel + 1) listed a w :=
  ⟨fun h0 => absurd (hr ▸ h0) hne, hr ▸ h⟩
theorem wpTwo_done {listed : Array Bool} {a : Act} {w : World} (hr : Region.ready md ops listed = []) (h : Q .normal a w) :
    ∀ fuel, wpTwo P md ops Q S k fuel listed a w
  | 0 => ⟨hr, h⟩
  | _ + 1 => ⟨fun _ => h, by rw [hr]; simp⟩
end
end Go.Proofs.YtmghkfnnilapdaaDoor
