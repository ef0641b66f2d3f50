/-
  Layer 14: fits, standing, what remains (contracts of the code); a file put in a disk's place.
-/
import Derived.Test.YtogajpiefegdeaaDkB
namespace Go.Proofs.Ytogajpiefegdeaa
set_option linter.unusedSimpArgs false
set_option linter.unusedVariables false
open Go.RowKit

section
variable {P : Program} {ops : Array Oper} {a : Act} {w : World} {Q : Exit → Act → World → Prop} {o : Oper} {g off : Nat} {t ty : TypeId} {xs : List Value} {x y z : Value} {S : World → Prop}
theorem there3 (h : Blk w g t xs.toArray) (ho : off + 3 ≤ xs.length) : w.there g off 3 := fun j hj => ⟨by
  rw [h.cell, List.getElem?_toArray, List.getElem?_eq_getElem (by omega)]; rfl, h.frozen _⟩
theorem put3 (h : Blk w g t xs.toArray) (off : Nat) (x y z : Value) : Blk (w.setCells g off [x, y, z]) g t (((xs.set off x).set (off + 1) y).set (off + 2) z).toArray ∧ Turn w (w.setCells g off [x, y, z]) (some g) :=
  ⟨((h.sets off x).sets (off + 1) y).sets (off + 2) z, ((Blk.setTurn w g off x).trans (Blk.setTurn _ g (off + 1) y)).trans (Blk.setTurn _ g (off + 2) z)⟩
/-- Three cells that are laid into the midst of a block, in a region that draws. -/
theorem gd_dst3 {F : Prop} {K : Act → World → Prop} (hgd : o.guard = none) (ty : TypeId) (p q : Operand) (ho : o.op = .store ty p q) (hx : a.eval p = .pointer (some ⟨g, off, none⟩)) (hy : a.eval q = .agg ([x, y, z] : List Value).toArray) (h : Blk w g t xs.toArray) (hoff : off + 3 ≤ xs.length)
    (hi : (P.info? ty).map (·.size) = some 3) (h1 : ∀ u ∈ ([x, y, z] : List Value), u.oneCell' = true)
    (hK : ∀ w', Blk w' g t (((xs.set off x).set (off + 1) y).set (off + 2) z).toArray → Turn w w' (some g) → K (a.put o.dst undef) w') : if Region.wanted o (yielded ops a.tmps) = true then Oper.wp P o a w K Q else F := by
  have hw : Region.wanted o (yielded ops a.tmps) = true := by simp [Region.wanted, hgd]
  rw [if_pos hw]
  obtain ⟨h2, h3⟩ := put3 h off x y z
  exact wp_store_mid ty p q ho g off _ hx hy (there3 h hoff) hi (all_oneCell_toArray h1) (hK _ h2 h3)
/-- A struct that is built of parts may be taken first. -/
theorem yieldsIf_bd (hw : Region.wanted o (yielded ops a.tmps) = true) (ty : TypeId) (parts : Array (Nat × Operand)) (ho : o.op = .build ty parts) (pv : Array (Nat × Value)) (hp : (parts.map fun p => (p.1, a.eval p.2)) = pv) (cells : Array Value) (hb : P.built ty pv.toList = some cells) :
    YieldsIf P ops S o (.agg cells) a := .inl ⟨hw, fun w _ => by
  have hrun := run_build (P := P) w ty pv cells hb
  subst hp
  unfold execOp
  simp only [ho, Sem.run_bind, hrun, Result.andThen_ok]
  rfl⟩
end

theorem bdC {A A2 : Option Addr} {n n2 c c2 : Nat} {b : Bool} : Try.prog.built 53 [(0, .slice A n c), (1, .slice A2 n2 c2), (2, .bool b)] = some ([.slice A n c, .slice A2 n2 c2, .bool b] : List Value).toArray := by kernel_rfl
theorem bdC2 {A A2 : Option Addr} {n n2 c c2 : Nat} : Try.prog.built 53 [(0, .slice A n c), (1, .slice A2 n2 c2)] = some ([.slice A n c, .slice A2 n2 c2, .bool false] : List Value).toArray := by kernel_rfl

section
variable {w w' w2 : World} {g : Nat} {S : Nat → Nat → Prop} {T R : Nat → Prop} {f : Fi} {v u : Sl} {vs us : Nat → Sl} {lv : Int} {D : Dsk}
theorem pdc_put0 (D : Dsk) (vs us : Nat → Sl) (lv : Int) (f : Fi) (v u : Sl) : (((pdc D vs us lv).set 1 v.v).set 2 u.v).set 3 (.bool f.is) = pdc (D.put 0 f) (upd vs 0 v) (upd us 0 u) lv := rfl
theorem pdc_put1 (D : Dsk) (vs us : Nat → Sl) (lv : Int) (f : Fi) (v u : Sl) : (((pdc D vs us lv).set 4 v.v).set 5 u.v).set 6 (.bool f.is) = pdc (D.put 1 f) (upd vs 1 v) (upd us 1 u) lv := rfl
theorem pdc_put (D : Dsk) (vs us : Nat → Sl) (lv : Int) (f : Fi) (v u : Sl) {j : Nat} (hj : j < 2) : (((pdc D vs us lv).set (1 + j * 3) v.v).set (1 + j * 3 + 1) u.v).set (1 + j * 3 + 2) (.bool f.is) = pdc (D.put j f) (upd vs j v) (upd us j u) lv := by
  obtain rfl | rfl : j = 0 ∨ j = 1 := by omega
  · rfl
  · rfl
theorem pdc_len (D : Dsk) (vs us : Nat → Sl) (lv : Int) : (pdc D vs us lv).length = 10 := rfl
theorem pdc_sub (D : Dsk) (vs us : Nat → Sl) (lv : Int) {j : Nat} (hj : j < 2) : Sub (pdc D vs us lv).toArray (1 + j * 3) (fc (D.f j) (vs j) (us j)) := by
  obtain rfl | rfl : j = 0 ∨ j = 1 := by omega
  · exact Sub.mid [.int .i64 D.lim] (fc (D.f 0) (vs 0) (us 0)) [(vs 1).v, (us 1).v, .bool (D.f 1).is, .bool D.dead, .bool D.armed, .int .i64 lv] 1 rfl
  · exact Sub.mid [.int .i64 D.lim, (vs 0).v, (us 0).v, .bool (D.f 0).is] (fc (D.f 1) (vs 1) (us 1)) [.bool D.dead, .bool D.armed, .int .i64 lv] 4 rfl
/-- File j gives place to another one. -/
theorem PD.fput (h : PD w g S vs us lv D) {j : Nat} (hj : j < 2) (hc : Chg w w2 (S j)) (ht : Turn w2 w' (some g)) (hb : Blk w' g 56 (pdc (D.put j f) (upd vs j v) (upd us j u) lv).toArray)
    (hf : Fil w2 R f v u) (hR : ∀ k, R k → S j k ∨ (w.heap.size ≤ k ∧ k < w2.heap.size)) (hk : f.Ok) : PD w' g (upd S j R) (upd vs j v) (upd us j u) lv (D.put j f) := by
  have hgl := h.b.lt
  have gR : ¬ R g := fun k => (hR g k).elim (h.ng j hj) (fun e => by omega)
  have ct : Chg w2 w' (fun k => k = g) := Chg.of ht fun i e => by injection e with e; exact e.symm
  have cw : Chg w w' (fun k => S j k ∨ k = g) := (hc.mono (T := fun k => S j k ∨ k = g) fun i hi => .inl (.inl hi)).trans ct fun i hi => .inl (.inr hi)
  have hl2 := hc.size
  have hl3 := ht.size
  have dis : ∀ k, S j k → ¬ S (1 - j) k := by
    obtain rfl | rfl : j = 0 ∨ j = 1 := by omega
    · exact fun k h1 h2 => h.ap k h1 h2
    · exact fun k h1 h2 => h.ap k h2 h1
  have disR : ∀ k, R k → ¬ S (1 - j) k := fun k h1 h2 => (hR k h1).elim (fun h3 => dis k h3 h2) (fun h3 => by have := h.lt (1 - j) k (by omega) h2; omega)
  refine ⟨hb, fun i hi => ?_, fun k h1 h2 => ?_, fun i hi h1 => ?_, fun i k hi h1 => ?_, h.lv, h.ok.put hk⟩
  · by_cases hij : i = j
    · subst hij
      show Fil w' (upd S i R i) (upd D.f i f i) (upd vs i v i) (upd us i u i)
      rw [upd_same, upd_same, upd_same, upd_same]
      exact hf.chg ct fun k hk e => gR (e ▸ hk)
    · show Fil w' (upd S j R i) (upd D.f j f i) (upd vs j v i) (upd us j u i)
      rw [upd_ne _ _ hij, upd_ne _ _ hij, upd_ne _ _ hij, upd_ne _ _ hij]
      refine (h.f i hi).chg cw fun k hk e => ?_
      have hi2 : i = 1 - j := by omega
      rcases e with e | e
      · exact dis k e (hi2 ▸ hk)
      · exact h.ng i hi (e ▸ hk)
  · obtain rfl | rfl : j = 0 ∨ j = 1 := by omega
    · exact disR k h1 h2
    · exact disR k h2 h1
  · by_cases hij : i = j
    · subst hij; rw [upd_same] at h1; exact gR h1
    · rw [upd_ne _ _ hij] at h1; exact h.ng i hi h1
  · by_cases hij : i = j
    · subst hij; rw [upd_same] at h1; exact (hR k h1).elim (fun h3 => by have := h.lt i k hi h3; omega) (fun h3 => by omega)
    · rw [upd_ne _ _ hij] at h1; have := h.lt i k hi h1; omega
end

set_option maxRecDepth 100000 in
set_option maxHeartbeats 800000 in
theorem fits_any {w : World} {g : Nat} {S : Nat → Nat → Prop} {v u : Nat → Sl} {lv : Int} {D : Dsk} (h : PD w g S v u lv D) (f : Fi) (x y : Sl) (z : Nat) (hx : x.n ≤ 140737521909760) (hz : z ≤ 562949953421312) :
    Calls Try.prog 30 #[.pointer (some ⟨g, 0, none⟩), .agg (fc f x y).toArray, .int .i64 (z : Int)] w fun e w' => e = .returned (.bool (decide ((D.size : Int) - x.n + z ≤ D.lim))) ∧ Turn w w' none := by
  have hsz := h.ok.size
  have hw1 : IntKind.i64.wrap ((D.size : Int) - x.n) = (D.size : Int) - x.n := by rw [IntKind.wrap_i64]; omega
  have hw2 : IntKind.i64.wrap ((D.size : Int) - x.n + z) = (D.size : Int) - x.n + z := by rw [IntKind.wrap_i64]; omega
  have HW := hid hw1
  have HW2 := hid hw2
  clear hw1 hw2
  go_enter Try.func30, Try.ntmps30
  go_wp2_with (first
    | (refine wp_bx rfl 53 _ rfl rfl ?_; intro g1 w1 hg1 hb1 ht1))
  have h1 := h.turn0 ht1
  have C0 : ∀ W, Turn (World.drew w1) W none → W.cell? ⟨g1, 0, none⟩ = some (.slice x.A x.n x.c) := fun W h => (hb1.drew.turn0 h).ats (j := 0) (v := .slice x.A x.n x.c) rfl
  have C1 : ∀ W, Turn (World.drew w1) W none → W.cell? ⟨g, 0, none⟩ = some (.int .i64 D.lim) := fun W hW => (h1.b.drew.turn0 hW).ats (j := 0) rfl
  refine wp_region_noPanic ?_
  refine wp_region_held_drew (S := fun W => Turn w1 W none) (by kernel_rfl) (Turn.refl _ none).drew (fun hHeld => ?_)
  refine wpAnyH_more (S' := fun W => Turn (World.drew w1) W none) (fun W h => (Turn.refl _ none).drew.trans h) _ _ _ _ ?_
  clear hHeld
  have hHeld : (fun W => Turn (World.drew w1) W none) (World.drew w1) := Turn.refl _ none
  (first | (refine wpAnyH_take (i := 0) (v := undef) rfl (by kernel_rfl) (by kernel_rfl) (by kernel_rfl) (fun _ _ _ h => h) (Or.inr ⟨rfl, rfl⟩) (by assumption) ?_) | (refine wpAnyH_take (i := 0) (v := ?_) rfl (by kernel_rfl) (by kernel_rfl) (by kernel_rfl) (fun _ _ _ h => h) (Or.inl ⟨rfl, ?_⟩) (by assumption) ?_; rotate_left 1; · (intro w hSw; (try dsimp only at hSw); go_simp; (try with_reducible rfl)))); (try simp only [Act.put, List.getElem_toArray, List.getElem_cons_zero, List.getElem_cons_succ, List.setIfInBounds_toArray, List.set_cons_zero, List.set_cons_succ])
  (first | (refine wpAnyH_take (i := 2) (v := undef) rfl (by kernel_rfl) (by kernel_rfl) (by kernel_rfl) (fun _ _ _ h => h) (Or.inr ⟨rfl, rfl⟩) (by assumption) ?_) | (refine wpAnyH_take (i := 2) (v := ?_) rfl (by kernel_rfl) (by kernel_rfl) (by kernel_rfl) (fun _ _ _ h => h) (Or.inl ⟨rfl, ?_⟩) (by assumption) ?_; rotate_left 1; · (intro w hSw; (try dsimp only at hSw); go_simp; (try with_reducible rfl)))); (try simp only [Act.put, List.getElem_toArray, List.getElem_cons_zero, List.getElem_cons_succ, List.setIfInBounds_toArray, List.set_cons_zero, List.set_cons_succ])
  (first | (refine wpAnyH_take (i := 3) (v := undef) rfl (by kernel_rfl) (by kernel_rfl) (by kernel_rfl) (fun _ _ _ h => h) (Or.inr ⟨rfl, rfl⟩) (by assumption) ?_) | (refine wpAnyH_take (i := 3) (v := ?_) rfl (by kernel_rfl) (by kernel_rfl) (by kernel_rfl) (fun _ _ _ h => h) (Or.inl ⟨rfl, ?_⟩) (by assumption) ?_; rotate_left 1; · (intro w hSw; (try dsimp only at hSw); go_simp; (try with_reducible rfl)))); (try simp only [Act.put, List.getElem_toArray, List.getElem_cons_zero, List.getElem_cons_succ, List.setIfInBounds_toArray, List.set_cons_zero, List.set_cons_succ])
  (first | (refine wpAnyH_take (i := 4) (v := undef) rfl (by kernel_rfl) (by kernel_rfl) (by kernel_rfl) (fun _ _ _ h => h) (Or.inr ⟨rfl, rfl⟩) (by assumption) ?_) | (refine wpAnyH_take (i := 4) (v := ?_) rfl (by kernel_rfl) (by kernel_rfl) (by kernel_rfl) (fun _ _ _ h => h) (Or.inl ⟨rfl, ?_⟩) (by assumption) ?_; rotate_left 1; · (intro w hSw; (try dsimp only at hSw); go_simp; (try with_reducible rfl)))); (try simp only [Act.put, List.getElem_toArray, List.getElem_cons_zero, List.getElem_cons_succ, List.setIfInBounds_toArray, List.set_cons_zero, List.set_cons_succ])
  (first | (refine wpAnyH_take (i := 6) (v := undef) rfl (by kernel_rfl) (by kernel_rfl) (by kernel_rfl) (fun _ _ _ h => h) (Or.inr ⟨rfl, rfl⟩) (by assumption) ?_) | (refine wpAnyH_take (i := 6) (v := ?_) rfl (by kernel_rfl) (by kernel_rfl) (by kernel_rfl) (fun _ _ _ h => h) (Or.inl ⟨rfl, ?_⟩) (by assumption) ?_; rotate_left 1; · (intro w hSw; (try dsimp only at hSw); go_simp; (try with_reducible rfl)))); (try simp only [Act.put, List.getElem_toArray, List.getElem_cons_zero, List.getElem_cons_succ, List.setIfInBounds_toArray, List.set_cons_zero, List.set_cons_succ])
  (first | (refine wpAnyH_take (i := 8) (v := undef) rfl (by kernel_rfl) (by kernel_rfl) (by kernel_rfl) (fun _ _ _ h => h) (Or.inr ⟨rfl, rfl⟩) (by assumption) ?_) | (refine wpAnyH_take (i := 8) (v := ?_) rfl (by kernel_rfl) (by kernel_rfl) (by kernel_rfl) (fun _ _ _ h => h) (Or.inl ⟨rfl, ?_⟩) (by assumption) ?_; rotate_left 1; · (intro w hSw; (try dsimp only at hSw); go_simp; (try with_reducible rfl)))); (try simp only [Act.put, List.getElem_toArray, List.getElem_cons_zero, List.getElem_cons_succ, List.setIfInBounds_toArray, List.set_cons_zero, List.set_cons_succ])
  (first | (refine wpAnyH_take (i := 9) (v := undef) rfl (by kernel_rfl) (by kernel_rfl) (by kernel_rfl) (fun _ _ _ h => h) (Or.inr ⟨rfl, rfl⟩) (by assumption) ?_) | (refine wpAnyH_take (i := 9) (v := ?_) rfl (by kernel_rfl) (by kernel_rfl) (by kernel_rfl) (fun _ _ _ h => h) (Or.inl ⟨rfl, ?_⟩) (by assumption) ?_; rotate_left 1; · (intro w hSw; (try dsimp only at hSw); go_simp; (try with_reducible rfl)))); (try simp only [Act.put, List.getElem_toArray, List.getElem_cons_zero, List.getElem_cons_succ, List.setIfInBounds_toArray, List.set_cons_zero, List.set_cons_succ])
  (first | (refine wpAnyH_take (i := 10) (v := undef) rfl (by kernel_rfl) (by kernel_rfl) (by kernel_rfl) (fun _ _ _ h => h) (Or.inr ⟨rfl, rfl⟩) (by assumption) ?_) | (refine wpAnyH_take (i := 10) (v := ?_) rfl (by kernel_rfl) (by kernel_rfl) (by kernel_rfl) (fun _ _ _ h => h) (Or.inl ⟨rfl, ?_⟩) (by assumption) ?_; rotate_left 1; · (intro w hSw; (try dsimp only at hSw); go_simp; (try with_reducible rfl)))); (try simp only [Act.put, List.getElem_toArray, List.getElem_cons_zero, List.getElem_cons_succ, List.setIfInBounds_toArray, List.set_cons_zero, List.set_cons_succ])
  (first | (refine wpAnyH_take (i := 11) (v := undef) rfl (by kernel_rfl) (by kernel_rfl) (by kernel_rfl) (fun _ _ _ h => h) (Or.inr ⟨rfl, rfl⟩) (by assumption) ?_) | (refine wpAnyH_take (i := 11) (v := ?_) rfl (by kernel_rfl) (by kernel_rfl) (by kernel_rfl) (fun _ _ _ h => h) (Or.inl ⟨rfl, ?_⟩) (by assumption) ?_; rotate_left 1; · (intro w hSw; (try dsimp only at hSw); go_simp; (try with_reducible rfl)))); (try simp only [Act.put, List.getElem_toArray, List.getElem_cons_zero, List.getElem_cons_succ, List.setIfInBounds_toArray, List.set_cons_zero, List.set_cons_succ])
  refine wpAnyH_ready (rs := [1]) (by kernel_rfl) (by simp) ?_
  refine AllReadyH.cons rfl (fun K hK => ?_) AllReadyH.nil
  go_simp
  refine (size_any (h1.turn0 ((Turn.refl w1 none).drew))).mono ?_
  rintro e w2 ⟨rfl, ht2⟩
  refine hK.out _ _ ht2 (fun hHeld => ?_); clear hK K; (try simp only [Act.put, List.getElem_toArray, List.getElem_cons_zero, List.getElem_cons_succ, List.setIfInBounds_toArray, List.set_cons_zero, List.set_cons_succ])
  (first | (refine wpAnyH_take (i := 5) (v := undef) rfl (by kernel_rfl) (by kernel_rfl) (by kernel_rfl) (fun _ _ _ h => h) (Or.inr ⟨rfl, rfl⟩) (by assumption) ?_) | (refine wpAnyH_take (i := 5) (v := ?_) rfl (by kernel_rfl) (by kernel_rfl) (by kernel_rfl) (fun _ _ _ h => h) (Or.inl ⟨rfl, ?_⟩) (by assumption) ?_; rotate_left 1; · (intro w hSw; (try dsimp only at hSw); go_simp; (try with_reducible rfl)))); (try simp only [Act.put, List.getElem_toArray, List.getElem_cons_zero, List.getElem_cons_succ, List.setIfInBounds_toArray, List.set_cons_zero, List.set_cons_succ])
  (first | (refine wpAnyH_take (i := 7) (v := undef) rfl (by kernel_rfl) (by kernel_rfl) (by kernel_rfl) (fun _ _ _ h => h) (Or.inr ⟨rfl, rfl⟩) (by assumption) ?_) | (refine wpAnyH_take (i := 7) (v := ?_) rfl (by kernel_rfl) (by kernel_rfl) (by kernel_rfl) (fun _ _ _ h => h) (Or.inl ⟨rfl, ?_⟩) (by assumption) ?_; rotate_left 1; · (intro w hSw; (try dsimp only at hSw); go_simp; (try with_reducible rfl)))); (try simp only [Act.put, List.getElem_toArray, List.getElem_cons_zero, List.getElem_cons_succ, List.setIfInBounds_toArray, List.set_cons_zero, List.set_cons_succ])
  (first | (refine wpAnyH_take (i := 12) (v := undef) rfl (by kernel_rfl) (by kernel_rfl) (by kernel_rfl) (fun _ _ _ h => h) (Or.inr ⟨rfl, rfl⟩) (by assumption) ?_) | (refine wpAnyH_take (i := 12) (v := ?_) rfl (by kernel_rfl) (by kernel_rfl) (by kernel_rfl) (fun _ _ _ h => h) (Or.inl ⟨rfl, ?_⟩) (by assumption) ?_; rotate_left 1; · (intro w hSw; (try dsimp only at hSw); go_simp; (try with_reducible rfl)))); (try simp only [Act.put, List.getElem_toArray, List.getElem_cons_zero, List.getElem_cons_succ, List.setIfInBounds_toArray, List.set_cons_zero, List.set_cons_succ])
  (first | (refine wpAnyH_take (i := 13) (v := undef) rfl (by kernel_rfl) (by kernel_rfl) (by kernel_rfl) (fun _ _ _ h => h) (Or.inr ⟨rfl, rfl⟩) (by assumption) ?_) | (refine wpAnyH_take (i := 13) (v := ?_) rfl (by kernel_rfl) (by kernel_rfl) (by kernel_rfl) (fun _ _ _ h => h) (Or.inl ⟨rfl, ?_⟩) (by assumption) ?_; rotate_left 1; · (intro w hSw; (try dsimp only at hSw); go_simp; (try with_reducible rfl)))); (try simp only [Act.put, List.getElem_toArray, List.getElem_cons_zero, List.getElem_cons_succ, List.setIfInBounds_toArray, List.set_cons_zero, List.set_cons_succ])
  refine wpAnyH_done (by kernel_rfl) ?_ _
  refine NoPanic.normal ?_
  clear hHeld
  go_wp2
  go_ret
  exact ⟨by rw [HW.out, HW2.out]; rfl, ht1.trans ht2.undrew⟩

set_option maxRecDepth 100000 in
set_option maxHeartbeats 800000 in
theorem standing_any (x : Sl) (w : World) :
    Calls Try.prog 31 #[x.v] w fun e w' => e = .returned (.agg ([x.v, x.v, .bool false] : List Value).toArray) ∧ Turn w w' none := by
  obtain ⟨A, n, c⟩ := x
  show Calls Try.prog 31 #[.slice A n c] w fun e w' => e = .returned (.agg ([.slice A n c, .slice A n c, .bool false] : List Value).toArray) ∧ Turn w w' none
  go_enter Try.func31, Try.ntmps31
  go_wp2_with (first
    | (refine wp_bd rfl 53 _ rfl _ rfl _ bdC2 ?_)
    | (refine wp_st (xs := [.slice A n c, .slice A n c, .bool false]) rfl 53 _ _ rfl rfl rfl (Blk.new w _ _) rfl szC (ones3 rfl rfl rfl) ?_; intro w3 hb3 ht3))
  refine ret_cell rfl rfl rfl hb3 Try.underlying53 rfl szC ?_
  exact ⟨rfl, ((Turn.refl w none).alloc _).new ht3 (by simp)⟩
end Go.Proofs.Ytogajpiefegdeaa
