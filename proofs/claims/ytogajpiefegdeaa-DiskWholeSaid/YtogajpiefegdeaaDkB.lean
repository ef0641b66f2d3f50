/-
  Layer 14: New, Dead, Arm, Size, fits, standing, what remains (contracts of the code).
-/
import Derived.Test.YtogajpiefegdeaaDkA
namespace Go.Proofs.Ytogajpiefegdeaa
set_option linter.unusedSimpArgs false
set_option linter.unusedVariables false
open Go.RowKit

theorem ix_C {a b c d e f : Value} {j : Nat} {xs : List Value} (hx : (j = 0 ∧ xs = [a, b, c]) ∨ (j = 1 ∧ xs = [d, e, f])) (w : World) : (Instr.index 54 (.agg ([a, b, c, d, e, f] : List Value).toArray) (.int .i64 (j : Int))).run Try.prog w = .ok (.agg xs.toArray) w := by
  have hu : Try.prog.underlying 54 = some (.array 2 53) := Try.underlying54
  have hag : (isAgg 53).run Try.prog w = .ok true w := by
    unfold isAgg
    rw [Sem.run_bind, run_underlying Try.underlying53 w]
    rfl
  have hs : (sizeOf 53).run Try.prog w = .ok 3 w := by
    obtain ⟨i, hi⟩ : ∃ i, Try.prog.info? 53 = some i := ⟨_, rfl⟩
    have h3 : (Try.prog.info? 53).map (·.size) = some 3 := by kernel_rfl
    rw [hi] at h3
    simp at h3
    simp [sizeOf, typeInfo, hi, h3]
  rcases hx with ⟨rfl, rfl⟩ | ⟨rfl, rfl⟩
  · simp [Instr.index, run_underlying hu, asIntOf, part, hag, hs]
  · simp [Instr.index, run_underlying hu, asIntOf, part, hag, hs]
theorem zC : ∀ w, (zeroValue 53).run Try.prog w = .ok (.agg ([.slice none 0 0, .slice none 0 0, .bool false] : List Value).toArray) w := zero_at (by kernel_rfl)
theorem ones3 {x y z : Value} (h1 : x.oneCell' = true) (h2 : y.oneCell' = true) (h3 : z.oneCell' = true) : ∀ u ∈ ([x, y, z] : List Value), u.oneCell' = true := ones_cons h1 (ones_cons h2 (ones_cons h3 ones_nil))

set_option maxRecDepth 100000 in
set_option maxHeartbeats 800000 in
theorem new_any (lim : Int) (w : World) :
    Calls Try.prog 8 #[.int .i64 lim] w fun e w' => ∃ g, w.heap.size ≤ g ∧ e = .returned (.pointer (some ⟨g, 0, none⟩)) ∧ PD w' g (fun _ _ => False) (fun _ => ⟨none, 0, 0⟩) (fun _ => ⟨none, 0, 0⟩) 0 (newD lim) ∧ Turn w w' none := by
  have hz : ∀ L, Try.prog.built 56 [(0, .int .i64 L)] = some ([.int .i64 L, .slice none 0 0, .slice none 0 0, .bool false, .slice none 0 0, .slice none 0 0, .bool false, .bool false, .bool false, .int .i64 0] : List Value).toArray := fun L => by kernel_rfl
  have key : ∀ L, L = (newD lim).lim → ∀ g w', w.heap.size = g → Blk w' g 56 ([.int .i64 L, .slice none 0 0, .slice none 0 0, .bool false, .slice none 0 0, .slice none 0 0, .bool false, .bool false, .bool false, .int .i64 0] : List Value).toArray → Turn w w' none →
      PD w' g (fun _ _ => False) (fun _ => ⟨none, 0, 0⟩) (fun _ => ⟨none, 0, 0⟩) 0 (newD lim) := by
    intro L hL g w' hg hb ht
    subst hL
    refine ⟨hb, fun i _ => ⟨Own.nil _ _ _ _, Own.nil _ _ _ _, (fun g h => by cases h), (fun g h => by cases h), (fun g h => by cases h)⟩, fun _ h => h.elim, fun _ _ h => h, fun _ _ _ h => h.elim, fun h => by simp [newD] at h, newD_ok lim⟩
  go_enter Try.func8, Try.ntmps8
  go_wp2_with (first
    | (refine wp_bd rfl 56 _ rfl _ rfl _ (hz _) ?_)
    | (refine wp_bx rfl 56 _ rfl rfl ?_; intro g w1 hg hb1 ht1))
  all_goals
    go_ret
    exact ⟨g, by omega, rfl, key _ (by simp only [newD]; repeat' split
                                       all_goals omega) g w1 hg hb1 ht1, ht1⟩

theorem dead_any {w : World} {g : Nat} {S : Nat → Nat → Prop} {v u : Nat → Sl} {lv : Int} {D : Dsk} (h : PD w g S v u lv D) :
    Calls Try.prog 11 #[.pointer (some ⟨g, 0, none⟩)] w fun e w' => e = .returned (.bool D.dead) ∧ w = w' := by
  have c7 := h.b.ats (j := 7) (v := .bool D.dead) rfl
  go_enter Try.func11, Try.ntmps11
  go_wp2
  go_ret
  exact ⟨rfl, rfl⟩

set_option maxRecDepth 100000 in
theorem arm_any {w : World} {g : Nat} {S : Nat → Nat → Prop} {v u : Nat → Sl} {lv : Int} {D : Dsk} (h : PD w g S v u lv D) (c : Int) (hc : c ≤ 9223372036854775807) :
    Calls Try.prog 21 #[.pointer (some ⟨g, 0, none⟩), .int .i64 c] w fun e w' => e = .returned (.tuple #[]) ∧ Turn w w' (some g) ∧ ∃ lv', PD w' g S v u lv' (D.arm c) := by
  have f8 := h.b.frozen 8
  have c8 := h.b.ats (j := 8) (v := .bool D.armed) rfl
  have hb8 := h.b.sets 8 (.bool true)
  have d9 := hb8.ats (j := 9) (v := .int .i64 lv) rfl
  have f9 := hb8.frozen 9
  have hp : ∀ x, x = (D.arm c).lf → PD ((w.setCell ⟨g, 8, none⟩ (.bool true)).setCell ⟨g, 9, none⟩ (.int .i64 x)) g S v u x (D.arm c) := fun x hx =>
    h.own ((Blk.setTurn w g 8 _).trans (Blk.setTurn _ g 9 _)) (hb8.sets 9 (.int .i64 x)) rfl (fun _ _ => hx) (h.ok.arm hc)
  have hm0 : c < 0 → 0 = (D.arm c).lf := fun h => by simp only [Dsk.arm]; rw [if_pos h]
  have hm1 : 0 ≤ c → c = (D.arm c).lf := fun h => by simp only [Dsk.arm]; rw [if_neg (by omega)]
  go_enter Try.func21, Try.ntmps21
  go_wp2
  all_goals
    go_end0
    exact ⟨rfl, (Blk.setTurn w g 8 _).trans (Blk.setTurn _ g 9 _), _, hp _ (by first | exact hm0 (by omega) | exact hm1 (by omega))⟩

/-- The cells of both files. -/
def fcs (D : Dsk) (v u : Nat → Sl) : List Value := [(v 0).v, (u 0).v, .bool (D.f 0).is, (v 1).v, (u 1).v, .bool (D.f 1).is]
theorem fcs_sub (D : Dsk) (v u : Nat → Sl) (lv : Int) : Sub (pdc D v u lv).toArray 1 (fcs D v u) := by
  have h := Sub.mid [.int .i64 D.lim] (fcs D v u) [.bool D.dead, .bool D.armed, .int .i64 lv] 1 rfl
  exact h
theorem szFs {D : Dsk} {v u : Nat → Sl} : (Try.prog.info? 54).map (·.size) = some (fcs D v u).length := by kernel_rfl
def fc (f : Fi) (v u : Sl) : List Value := [v.v, u.v, .bool f.is]
theorem fcs_ix (D : Dsk) (v u : Nat → Sl) {j : Nat} (hj : j < 2) (w : World) : (Instr.index 54 (.agg (fcs D v u).toArray) (.int .i64 (j : Int))).run Try.prog w = .ok (.agg (fc (D.f j) (v j) (u j)).toArray) w := by
  obtain rfl | rfl : j = 0 ∨ j = 1 := by omega
  · exact ix_C (.inl ⟨rfl, rfl⟩) w
  · exact ix_C (.inr ⟨rfl, rfl⟩) w

/-- As many bytes as the first j files have. -/
def szTo (D : Dsk) (j : Nat) : Nat := if j = 0 then 0 else if j = 1 then (D.f 0).all.length else D.size
theorem szTo_next (D : Dsk) {j : Nat} (hj : j < 2) : szTo D (j + 1) = szTo D j + (D.f j).all.length := by
  obtain rfl | rfl : j = 0 ∨ j = 1 := by omega
  · simp [szTo]
  · simp [szTo, Dsk.size]
theorem Dsk.Ok.size {D : Dsk} (h : D.Ok) : D.size ≤ 281475043819520 := by
  have h0 := (h.f 0 (by omega)).all
  have h1 := (h.f 1 (by omega)).all
  unfold Dsk.size
  omega
theorem szTo_le {D : Dsk} (j : Nat) : szTo D j ≤ D.size := by
  unfold szTo Dsk.size
  repeat' split
  all_goals omega

set_option maxRecDepth 100000 in
set_option maxHeartbeats 800000 in
theorem size_any {w : World} {g : Nat} {S : Nat → Nat → Prop} {v u : Nat → Sl} {lv : Int} {D : Dsk} (h : PD w g S v u lv D) :
    Calls Try.prog 12 #[.pointer (some ⟨g, 0, none⟩)] w fun e w' => e = .returned (.int .i64 (D.size : Int)) ∧ Turn w w' none := by
  have hsz := h.ok.size
  have hrg := h.b.range (fcs_sub D v u lv)
  go_enter Try.func12, Try.ntmps12
  go_wp2_with (first
    | (refine gd_ldR (by rfl) 54 _ rfl rfl hrg Try.underlying54 rfl szFs ?_))
  go_loopw [3, 10] (fun s i wr => ∃ j : Nat, j ≤ 2 ∧ i = .int .i64 (j : Int) ∧ s = .int .i64 (szTo D j : Int) ∧ Turn w wr none) (fun _ i _ => (2 - intOf i).toNat)
  case atStart => exact ⟨0, by omega, rfl, rfl, Turn.refl w none⟩
  case round =>
    obtain ⟨j, hj, rfl, rfl, ht⟩ := hrel
    by_cases hj2 : j < 2
    · have hnx := szTo_next D hj2
      have hle := szTo_le (D := D) (j + 1)
      have hix := fcs_ix D v u hj2
      have hvn := (h.f j hj2).vn
      generalize hS : szTo D j = s0 at *
      generalize hL : (D.f j).all.length = l0 at *
      have HN := hid hnx
      have hb2 : s0 + l0 ≤ 281475043819520 := by omega
      clear hnx hle
      go_wp2_with (first
        | (refine wp_st (xs := fc (D.f j) (v j) (u j)) rfl 53 _ _ rfl rfl rfl (Blk.new wr _ _) rfl szC (ones3 rfl rfl rfl) ?_; intro w3 hb3 ht3; have tw := (ht.alloc _).new ht3 (by simp; have := ht.size; omega); have hc0 := hb3.ats (j := 0) (v := .slice (v j).A (v j).n (v j).c) rfl; rw [hvn] at hc0))
      refine ⟨⟨j + 1, by omega, rfl, by rw [HN.out]; simp, tw⟩, ?_⟩
      simp [intOf]; omega
    · obtain rfl : j = 2 := by omega
      have e : szTo D 2 = D.size := rfl
      rw [e]
      go_wp2
      go_ret
      exact ⟨rfl, ht⟩
end Go.Proofs.Ytogajpiefegdeaa
