import Derived.Test.YtjekglnbmccnjaaG13
set_option linter.unusedSimpArgs false
set_option linter.unusedVariables false
set_option linter.unusedSectionVars false
/-
  Layer 15: the law's opens (contract).
-/
namespace Go.Proofs.Ytjekglnbmccnjaa
set_option linter.unusedSimpArgs false
set_option linter.unusedVariables false
open Go.RowKit

theorem szPr15 {x y z u : Value} : (Try.prog.info? 31).map (·.size) = some ([x, y, z, u] : List Value).length := by kernel_rfl

set_option maxRecDepth 100000 in
set_option maxHeartbeats 6400000 in
theorem opens_any {w0 w : World} {gp g r : Nat} {D : Dsk} {R T : Nat → Prop} {x y : Option Nat} {B : Nat} (h : Pq w0 w gp g r D D R T x y) (hj : Dj D B) (hB : 16777216 ≤ B) (hB2 : B ≤ 1099511627776) :
    Calls Try.prog 8 #[.pointer (some ⟨gp, 0, none⟩)] w fun e w' => e = .returned (.bool true) ∧ ∃ R' T' x' y', Pq w0 w' gp g r D.openD.2.2 D.openD.2.2 R' T' x' y' := by
  have T0 : ∀ (w : World) cs t, Turn w (w.alloc (.cells cs t)) none := fun w cs t => (Turn.refl w none).alloc _
  have ok := h.d.p.ok
  have l0 : ∀ n, (D.rd n).length ≤ 1099511627776 := fun n => Nat.le_trans (hj.rd ok hB) hB2
  have ho := open_any h.d.p (l0 0) (l0 1)
  have c0 := h.b.ats (j := 0) (v := .pointer (some ⟨g, 0, none⟩)) rfl
  have hgp := h.b.lt
  have s0 := h.d.tw.size
  obtain ⟨E, o, D2, hO⟩ : ∃ E o D2, D.openD = (E, o, D2) := ⟨_, _, _, rfl⟩
  have hro := fun w2 (hq : Rk w2 r T D) => ropen_any hq (l0 0) (l0 1)
  unfold OpPost OpNo at ho
  unfold RoPost RoNo at hro
  rw [hO] at ho hro ⊢
  have hrecs := fun k (e : o = some k) => openD_recs (k := k) (e ▸ hO)
  clear hO
  cases o with
  | none =>
    have ho2 : Calls Try.prog 13 #[.pointer (some ⟨g, 0, none⟩)] w fun e w' => E ≠ 0 ∧ e = .returned (.tuple #[.pointer none, .agg ([.bool false, .slice none 0 0, .slice none 0 0, .int .u64 0] : List Value).toArray, .int .i64 E]) ∧ Stp w w' R g D2 := ho.mono (by
      rintro e w' (⟨_, h1, h2, h3⟩ | ⟨k, D3, h1, _⟩)
      · exact ⟨h1, h2, h3⟩
      · simp at h1)
    have hro2 : ∀ w2, Rk w2 r T D → Calls Try.prog 23 #[.pointer (some ⟨r, 0, none⟩)] w2 fun e w' => e = .returned (.tuple #[.pointer none, .agg ([.bool false, .slice none 0 0, .slice none 0 0, .int .u64 0] : List Value).toArray, .int .i64 E]) ∧ Stq w2 w' T r D2 := fun w2 hq => (hro w2 hq).mono (by
      rintro e w' (⟨h0, h1, h2, h3⟩ | ⟨k, D3, h1, _⟩)
      · exact ⟨h2, h3⟩
      · simp at h1)
    clear ho hro
    go_enter Try.func8, Try.ntmps8
    go_upto_region 4 with (first
      | (go_at_call 13; refine ho2.mono ?_; rintro e w1 ⟨hE, rfl, hc1, R1, hp1, hk1⟩; have d1 := h.d.stp1 hc1 hp1 hk1; have b1 := h.b.chg hc1 h.pR; have s1 := hc1.size; have r1 : ¬ R1 gp := fun hr => (hk1 gp hr).elim h.pR fun h => by omega)
      | (go_at_call 23; refine (hro2 _ (d1.turn0 t2).q).mono ?_; rintro e w3 ⟨rfl, hc3, T3, hp3, hk3⟩; have d3 := (d1.turn0 t2).stq1 hc3 hp3 hk3; have b3 := (b1.turn0 t2).chg hc3 h.pT; have s3 := hc3.size; have r3 : ¬ T3 gp := fun hr => (hk3 gp hr).elim h.pT fun h => by have := t2.size; omega)
      | (refine wp_st (xs := [.bool false, .slice none 0 0, .slice none 0 0, .int .u64 0]) rfl 46 _ _ rfl rfl rfl (Blk.new w3 _ _) rfl szKp (ones4 rfl rfl rfl rfl) ?_; intro w4 hb4 ht4; have t4 := (T0 w3 _ _).new ht4 (by simp); have b4 := b3.turn0 t4; have c2 := b4.ats (j := 2) rfl; have f2 := b4.frozen 2; have b5 := b4.sets 2 (.pointer none); have c3 := b5.ats (j := 3) rfl; have f3 := b5.frozen 3; have b6 := b5.sets 3 (.pointer none))
      | (refine wp_st (xs := [.bool false, .slice none 0 0, .slice none 0 0, .int .u64 0]) rfl 46 _ _ rfl rfl rfl (Blk.new w1 _ _) rfl szKp (ones4 rfl rfl rfl rfl) ?_; intro w2 hb2 ht2; have t2 := (T0 w1 _ _).new ht2 (by simp); have c1 := (b1.turn0 t2).ats (j := 1) (v := .pointer (some ⟨r, 0, none⟩)) rfl))
    have tV : Turn w4 ((w4.setCell ⟨gp, 2, none⟩ (.pointer none)).setCell ⟨gp, 3, none⟩ (.pointer none)) (some gp) := (Blk.setTurn _ _ _ _).trans (Blk.setTurn _ _ _ _)
    have d5 := (d3.turn0 t4).one tV r1 r3 h.p0
    have s2 := t2.size
    have s4 := t4.size
    have l2 := hb2.lt
    have hK4 := ((hb2.chg hc3 (fun hk => by have := h.d.q.lt hk; omega)).turn0 t4).turn tV (by simp; omega)
    have hM4 := hb4.turn tV (by simp; omega)
    generalize (w4.setCell ⟨gp, 2, none⟩ (.pointer none)).setCell ⟨gp, 3, none⟩ (.pointer none) = w5 at *
    clear ho2 hro2 c0 c1 c2 c3 f2 f3 b1 b3 b4 b5 hE
    refine wp_region_noPanic ?_
    refine wp_region_held_drew (S := fun W => Turn w5 W none) (by kernel_rfl) (Turn.refl _ none).drew (fun hHeld => ?_)
    refine wpAnyH_more (S' := fun W => Turn (World.drew w5) W none) (fun W h => (Turn.refl _ none).drew.trans h) _ _ _ _ ?_
    clear hHeld
    have hHeld : (fun W => Turn (World.drew w5) W none) (World.drew w5) := Turn.refl _ none
    (first | (refine wpAnyH_take (i := 0) (v := undef) rfl (by kernel_rfl) (by kernel_rfl) (by kernel_rfl) (fun _ _ _ h => h) (Or.inr ⟨rfl, rfl⟩) (by assumption) ?_) | (refine wpAnyH_take (i := 0) (v := ?_) rfl (by kernel_rfl) (by kernel_rfl) (by kernel_rfl) (fun _ _ _ h => h) (Or.inl ⟨rfl, ?_⟩) (by assumption) ?_; rotate_left 1; · (intro w hSw; (try dsimp only at hSw); go_simp; (try with_reducible rfl)))); (try simp only [Act.put, List.getElem_toArray, List.getElem_cons_zero, List.getElem_cons_succ, List.setIfInBounds_toArray, List.set_cons_zero, List.set_cons_succ])
    (first | (refine wpAnyH_take (i := 1) (v := undef) rfl (by kernel_rfl) (by kernel_rfl) (by kernel_rfl) (fun _ _ _ h => h) (Or.inr ⟨rfl, rfl⟩) (by assumption) ?_) | (refine wpAnyH_take (i := 1) (v := ?_) rfl (by kernel_rfl) (by kernel_rfl) (by kernel_rfl) (fun _ _ _ h => h) (Or.inl ⟨rfl, ?_⟩) (by assumption) ?_; rotate_left 1; · (intro w hSw; (try dsimp only at hSw); go_simp; (try with_reducible rfl)))); (try simp only [Act.put, List.getElem_toArray, List.getElem_cons_zero, List.getElem_cons_succ, List.setIfInBounds_toArray, List.set_cons_zero, List.set_cons_succ])
    (first | (refine wpAnyH_take (i := 2) (v := undef) rfl (by kernel_rfl) (by kernel_rfl) (by kernel_rfl) (fun _ _ _ h => h) (Or.inr ⟨rfl, rfl⟩) (by assumption) ?_) | (refine wpAnyH_take (i := 2) (v := ?_) rfl (by kernel_rfl) (by kernel_rfl) (by kernel_rfl) (fun _ _ _ h => h) (Or.inl ⟨rfl, ?_⟩) (by assumption) ?_; rotate_left 1; · (intro w hSw; (try dsimp only at hSw); go_simp; (try with_reducible rfl)))); (try simp only [Act.put, List.getElem_toArray, List.getElem_cons_zero, List.getElem_cons_succ, List.setIfInBounds_toArray, List.set_cons_zero, List.set_cons_succ])
    (first | (refine wpAnyH_take (i := 3) (v := undef) rfl (by kernel_rfl) (by kernel_rfl) (by kernel_rfl) (fun _ _ _ h => h) (Or.inr ⟨rfl, rfl⟩) (by assumption) ?_) | (refine wpAnyH_take (i := 3) (v := ?_) rfl (by kernel_rfl) (by kernel_rfl) (by kernel_rfl) (fun _ _ _ h => h) (Or.inl ⟨rfl, ?_⟩) (by assumption) ?_; rotate_left 1; · (intro w hSw; (try dsimp only at hSw); go_simp; (try with_reducible rfl)))); (try simp only [Act.put, List.getElem_toArray, List.getElem_cons_zero, List.getElem_cons_succ, List.setIfInBounds_toArray, List.set_cons_zero, List.set_cons_succ])
    refine wpAnyH_take (i := 4) rfl (by kernel_rfl) (by kernel_rfl) (by kernel_rfl) (fun _ _ _ h => h) (yieldsIf_load_mid (by rfl) 46 _ rfl w1.heap.size 0 rfl ([.bool false, .slice none 0 0, .slice none 0 0, .int .u64 0]) _ (fun W hW => (hK4.drew.turn0 hW).range (Sub.all _)) Try.underlying46 rfl szKp) (by assumption) ?_
    (try simp only [Act.put, List.getElem_toArray, List.getElem_cons_zero, List.getElem_cons_succ, List.setIfInBounds_toArray, List.set_cons_zero, List.set_cons_succ])
    refine wpAnyH_take (i := 5) rfl (by kernel_rfl) (by kernel_rfl) (by kernel_rfl) (fun _ _ _ h => h) (yieldsIf_load_mid (by rfl) 46 _ rfl w3.heap.size 0 rfl ([.bool false, .slice none 0 0, .slice none 0 0, .int .u64 0]) _ (fun W hW => (hM4.drew.turn0 hW).range (Sub.all _)) Try.underlying46 rfl szKp) (by assumption) ?_
    (try simp only [Act.put, List.getElem_toArray, List.getElem_cons_zero, List.getElem_cons_succ, List.setIfInBounds_toArray, List.set_cons_zero, List.set_cons_succ])
    refine wpAnyH_ready (rs := [6]) (by kernel_rfl) (by simp) ?_
    refine AllReadyH.cons rfl (fun K hK => ?_) AllReadyH.nil
    go_simp
    refine (rsame_any (w := w5.drew) (k := kp0) (s := nilS) (x := nilS) (s2 := nilS) (x2 := nilS) (Kin.nil _ (fun _ => True)) (Kin.nil _ (fun _ => True)) (by decide)).mono ?_
    rintro e w6 ⟨rfl, t6⟩
    refine hK.out _ _ t6 (fun hHeld => ?_); clear hK K; (try simp only [Act.put, List.getElem_toArray, List.getElem_cons_zero, List.getElem_cons_succ, List.setIfInBounds_toArray, List.set_cons_zero, List.set_cons_succ])
    (first | (refine wpAnyH_take (i := 7) (v := undef) rfl (by kernel_rfl) (by kernel_rfl) (by kernel_rfl) (fun _ _ _ h => h) (Or.inr ⟨rfl, rfl⟩) (by assumption) ?_) | (refine wpAnyH_take (i := 7) (v := ?_) rfl (by kernel_rfl) (by kernel_rfl) (by kernel_rfl) (fun _ _ _ h => h) (Or.inl ⟨rfl, ?_⟩) (by assumption) ?_; rotate_left 1; · (intro w hSw; (try dsimp only at hSw); go_simp; (try with_reducible rfl)))); (try simp only [Act.put, List.getElem_toArray, List.getElem_cons_zero, List.getElem_cons_succ, List.setIfInBounds_toArray, List.set_cons_zero, List.set_cons_succ])
    (first | (refine wpAnyH_take (i := 8) (v := undef) rfl (by kernel_rfl) (by kernel_rfl) (by kernel_rfl) (fun _ _ _ h => h) (Or.inr ⟨rfl, rfl⟩) (by assumption) ?_) | (refine wpAnyH_take (i := 8) (v := ?_) rfl (by kernel_rfl) (by kernel_rfl) (by kernel_rfl) (fun _ _ _ h => h) (Or.inl ⟨rfl, ?_⟩) (by assumption) ?_; rotate_left 1; · (intro w hSw; (try dsimp only at hSw); go_simp; (try with_reducible rfl)))); (try simp only [Act.put, List.getElem_toArray, List.getElem_cons_zero, List.getElem_cons_succ, List.setIfInBounds_toArray, List.set_cons_zero, List.set_cons_succ])
    (first | (refine wpAnyH_take (i := 9) (v := undef) rfl (by kernel_rfl) (by kernel_rfl) (by kernel_rfl) (fun _ _ _ h => h) (Or.inr ⟨rfl, rfl⟩) (by assumption) ?_) | (refine wpAnyH_take (i := 9) (v := ?_) rfl (by kernel_rfl) (by kernel_rfl) (by kernel_rfl) (fun _ _ _ h => h) (Or.inl ⟨rfl, ?_⟩) (by assumption) ?_; rotate_left 1; · (intro w hSw; (try dsimp only at hSw); go_simp; (try with_reducible rfl)))); (try simp only [Act.put, List.getElem_toArray, List.getElem_cons_zero, List.getElem_cons_succ, List.setIfInBounds_toArray, List.set_cons_zero, List.set_cons_succ])
    (first | (refine wpAnyH_take (i := 10) (v := undef) rfl (by kernel_rfl) (by kernel_rfl) (by kernel_rfl) (fun _ _ _ h => h) (Or.inr ⟨rfl, rfl⟩) (by assumption) ?_) | (refine wpAnyH_take (i := 10) (v := ?_) rfl (by kernel_rfl) (by kernel_rfl) (by kernel_rfl) (fun _ _ _ h => h) (Or.inl ⟨rfl, ?_⟩) (by assumption) ?_; rotate_left 1; · (intro w hSw; (try dsimp only at hSw); go_simp; (try with_reducible rfl)))); (try simp only [Act.put, List.getElem_toArray, List.getElem_cons_zero, List.getElem_cons_succ, List.setIfInBounds_toArray, List.set_cons_zero, List.set_cons_succ])
    (first | (refine wpAnyH_take (i := 11) (v := undef) rfl (by kernel_rfl) (by kernel_rfl) (by kernel_rfl) (fun _ _ _ h => h) (Or.inr ⟨rfl, rfl⟩) (by assumption) ?_) | (refine wpAnyH_take (i := 11) (v := ?_) rfl (by kernel_rfl) (by kernel_rfl) (by kernel_rfl) (fun _ _ _ h => h) (Or.inl ⟨rfl, ?_⟩) (by assumption) ?_; rotate_left 1; · (intro w hSw; (try dsimp only at hSw); go_simp; (try with_reducible rfl)))); (try simp only [Act.put, List.getElem_toArray, List.getElem_cons_zero, List.getElem_cons_succ, List.setIfInBounds_toArray, List.set_cons_zero, List.set_cons_succ])
    (first | (refine wpAnyH_take (i := 12) (v := undef) rfl (by kernel_rfl) (by kernel_rfl) (by kernel_rfl) (fun _ _ _ h => h) (Or.inr ⟨rfl, rfl⟩) (by assumption) ?_) | (refine wpAnyH_take (i := 12) (v := ?_) rfl (by kernel_rfl) (by kernel_rfl) (by kernel_rfl) (fun _ _ _ h => h) (Or.inl ⟨rfl, ?_⟩) (by assumption) ?_; rotate_left 1; · (intro w hSw; (try dsimp only at hSw); go_simp; (try with_reducible rfl)))); (try simp only [Act.put, List.getElem_toArray, List.getElem_cons_zero, List.getElem_cons_succ, List.setIfInBounds_toArray, List.set_cons_zero, List.set_cons_succ])
    (first | (refine wpAnyH_take (i := 13) (v := undef) rfl (by kernel_rfl) (by kernel_rfl) (by kernel_rfl) (fun _ _ _ h => h) (Or.inr ⟨rfl, rfl⟩) (by assumption) ?_) | (refine wpAnyH_take (i := 13) (v := ?_) rfl (by kernel_rfl) (by kernel_rfl) (by kernel_rfl) (fun _ _ _ h => h) (Or.inl ⟨rfl, ?_⟩) (by assumption) ?_; rotate_left 1; · (intro w hSw; (try dsimp only at hSw); go_simp; (try with_reducible rfl)))); (try simp only [Act.put, List.getElem_toArray, List.getElem_cons_zero, List.getElem_cons_succ, List.setIfInBounds_toArray, List.set_cons_zero, List.set_cons_succ])
    (first | (refine wpAnyH_take (i := 14) (v := undef) rfl (by kernel_rfl) (by kernel_rfl) (by kernel_rfl) (fun _ _ _ h => h) (Or.inr ⟨rfl, rfl⟩) (by assumption) ?_) | (refine wpAnyH_take (i := 14) (v := ?_) rfl (by kernel_rfl) (by kernel_rfl) (by kernel_rfl) (fun _ _ _ h => h) (Or.inl ⟨rfl, ?_⟩) (by assumption) ?_; rotate_left 1; · (intro w hSw; (try dsimp only at hSw); go_simp; (try with_reducible rfl)))); (try simp only [Act.put, List.getElem_toArray, List.getElem_cons_zero, List.getElem_cons_succ, List.setIfInBounds_toArray, List.set_cons_zero, List.set_cons_succ])
    (first | (refine wpAnyH_take (i := 15) (v := undef) rfl (by kernel_rfl) (by kernel_rfl) (by kernel_rfl) (fun _ _ _ h => h) (Or.inr ⟨rfl, rfl⟩) (by assumption) ?_) | (refine wpAnyH_take (i := 15) (v := ?_) rfl (by kernel_rfl) (by kernel_rfl) (by kernel_rfl) (fun _ _ _ h => h) (Or.inl ⟨rfl, ?_⟩) (by assumption) ?_; rotate_left 1; · (intro w hSw; (try dsimp only at hSw); go_simp; (try with_reducible rfl)))); (try simp only [Act.put, List.getElem_toArray, List.getElem_cons_zero, List.getElem_cons_succ, List.setIfInBounds_toArray, List.set_cons_zero, List.set_cons_succ])
    (first | (refine wpAnyH_take (i := 16) (v := undef) rfl (by kernel_rfl) (by kernel_rfl) (by kernel_rfl) (fun _ _ _ h => h) (Or.inr ⟨rfl, rfl⟩) (by assumption) ?_) | (refine wpAnyH_take (i := 16) (v := ?_) rfl (by kernel_rfl) (by kernel_rfl) (by kernel_rfl) (fun _ _ _ h => h) (Or.inl ⟨rfl, ?_⟩) (by assumption) ?_; rotate_left 1; · (intro w hSw; (try dsimp only at hSw); go_simp; (try with_reducible rfl)))); (try simp only [Act.put, List.getElem_toArray, List.getElem_cons_zero, List.getElem_cons_succ, List.setIfInBounds_toArray, List.set_cons_zero, List.set_cons_succ])
    (first | (refine wpAnyH_take (i := 17) (v := undef) rfl (by kernel_rfl) (by kernel_rfl) (by kernel_rfl) (fun _ _ _ h => h) (Or.inr ⟨rfl, rfl⟩) (by assumption) ?_) | (refine wpAnyH_take (i := 17) (v := ?_) rfl (by kernel_rfl) (by kernel_rfl) (by kernel_rfl) (fun _ _ _ h => h) (Or.inl ⟨rfl, ?_⟩) (by assumption) ?_; rotate_left 1; · (intro w hSw; (try dsimp only at hSw); go_simp; (try with_reducible rfl)))); (try simp only [Act.put, List.getElem_toArray, List.getElem_cons_zero, List.getElem_cons_succ, List.setIfInBounds_toArray, List.set_cons_zero, List.set_cons_succ])
    (first | (refine wpAnyH_take (i := 18) (v := undef) rfl (by kernel_rfl) (by kernel_rfl) (by kernel_rfl) (fun _ _ _ h => h) (Or.inr ⟨rfl, rfl⟩) (by assumption) ?_) | (refine wpAnyH_take (i := 18) (v := ?_) rfl (by kernel_rfl) (by kernel_rfl) (by kernel_rfl) (fun _ _ _ h => h) (Or.inl ⟨rfl, ?_⟩) (by assumption) ?_; rotate_left 1; · (intro w hSw; (try dsimp only at hSw); go_simp; (try with_reducible rfl)))); (try simp only [Act.put, List.getElem_toArray, List.getElem_cons_zero, List.getElem_cons_succ, List.setIfInBounds_toArray, List.set_cons_zero, List.set_cons_succ])
    (first | (refine wpAnyH_take (i := 19) (v := undef) rfl (by kernel_rfl) (by kernel_rfl) (by kernel_rfl) (fun _ _ _ h => h) (Or.inr ⟨rfl, rfl⟩) (by assumption) ?_) | (refine wpAnyH_take (i := 19) (v := ?_) rfl (by kernel_rfl) (by kernel_rfl) (by kernel_rfl) (fun _ _ _ h => h) (Or.inl ⟨rfl, ?_⟩) (by assumption) ?_; rotate_left 1; · (intro w hSw; (try dsimp only at hSw); go_simp; (try with_reducible rfl)))); (try simp only [Act.put, List.getElem_toArray, List.getElem_cons_zero, List.getElem_cons_succ, List.setIfInBounds_toArray, List.set_cons_zero, List.set_cons_succ])
    (first | (refine wpAnyH_take (i := 20) (v := undef) rfl (by kernel_rfl) (by kernel_rfl) (by kernel_rfl) (fun _ _ _ h => h) (Or.inr ⟨rfl, rfl⟩) (by assumption) ?_) | (refine wpAnyH_take (i := 20) (v := ?_) rfl (by kernel_rfl) (by kernel_rfl) (by kernel_rfl) (fun _ _ _ h => h) (Or.inl ⟨rfl, ?_⟩) (by assumption) ?_; rotate_left 1; · (intro w hSw; (try dsimp only at hSw); go_simp; (try with_reducible rfl)))); (try simp only [Act.put, List.getElem_toArray, List.getElem_cons_zero, List.getElem_cons_succ, List.setIfInBounds_toArray, List.set_cons_zero, List.set_cons_succ])
    (first | (refine wpAnyH_take (i := 21) (v := undef) rfl (by kernel_rfl) (by kernel_rfl) (by kernel_rfl) (fun _ _ _ h => h) (Or.inr ⟨rfl, rfl⟩) (by assumption) ?_) | (refine wpAnyH_take (i := 21) (v := ?_) rfl (by kernel_rfl) (by kernel_rfl) (by kernel_rfl) (fun _ _ _ h => h) (Or.inl ⟨rfl, ?_⟩) (by assumption) ?_; rotate_left 1; · (intro w hSw; (try dsimp only at hSw); go_simp; (try with_reducible rfl)))); (try simp only [Act.put, List.getElem_toArray, List.getElem_cons_zero, List.getElem_cons_succ, List.setIfInBounds_toArray, List.set_cons_zero, List.set_cons_succ])
    (first | (refine wpAnyH_take (i := 22) (v := undef) rfl (by kernel_rfl) (by kernel_rfl) (by kernel_rfl) (fun _ _ _ h => h) (Or.inr ⟨rfl, rfl⟩) (by assumption) ?_) | (refine wpAnyH_take (i := 22) (v := ?_) rfl (by kernel_rfl) (by kernel_rfl) (by kernel_rfl) (fun _ _ _ h => h) (Or.inl ⟨rfl, ?_⟩) (by assumption) ?_; rotate_left 1; · (intro w hSw; (try dsimp only at hSw); go_simp; (try with_reducible rfl)))); (try simp only [Act.put, List.getElem_toArray, List.getElem_cons_zero, List.getElem_cons_succ, List.setIfInBounds_toArray, List.set_cons_zero, List.set_cons_succ])
    (first | (refine wpAnyH_take (i := 23) (v := undef) rfl (by kernel_rfl) (by kernel_rfl) (by kernel_rfl) (fun _ _ _ h => h) (Or.inr ⟨rfl, rfl⟩) (by assumption) ?_) | (refine wpAnyH_take (i := 23) (v := ?_) rfl (by kernel_rfl) (by kernel_rfl) (by kernel_rfl) (fun _ _ _ h => h) (Or.inl ⟨rfl, ?_⟩) (by assumption) ?_; rotate_left 1; · (intro w hSw; (try dsimp only at hSw); go_simp; (try with_reducible rfl)))); (try simp only [Act.put, List.getElem_toArray, List.getElem_cons_zero, List.getElem_cons_succ, List.setIfInBounds_toArray, List.set_cons_zero, List.set_cons_succ])
    (first | (refine wpAnyH_take (i := 24) (v := undef) rfl (by kernel_rfl) (by kernel_rfl) (by kernel_rfl) (fun _ _ _ h => h) (Or.inr ⟨rfl, rfl⟩) (by assumption) ?_) | (refine wpAnyH_take (i := 24) (v := ?_) rfl (by kernel_rfl) (by kernel_rfl) (by kernel_rfl) (fun _ _ _ h => h) (Or.inl ⟨rfl, ?_⟩) (by assumption) ?_; rotate_left 1; · (intro w hSw; (try dsimp only at hSw); go_simp; (try with_reducible rfl)))); (try simp only [Act.put, List.getElem_toArray, List.getElem_cons_zero, List.getElem_cons_succ, List.setIfInBounds_toArray, List.set_cons_zero, List.set_cons_succ])
    (first | (refine wpAnyH_take (i := 25) (v := undef) rfl (by kernel_rfl) (by kernel_rfl) (by kernel_rfl) (fun _ _ _ h => h) (Or.inr ⟨rfl, rfl⟩) (by assumption) ?_) | (refine wpAnyH_take (i := 25) (v := ?_) rfl (by kernel_rfl) (by kernel_rfl) (by kernel_rfl) (fun _ _ _ h => h) (Or.inl ⟨rfl, ?_⟩) (by assumption) ?_; rotate_left 1; · (intro w hSw; (try dsimp only at hSw); go_simp; (try with_reducible rfl)))); (try simp only [Act.put, List.getElem_toArray, List.getElem_cons_zero, List.getElem_cons_succ, List.setIfInBounds_toArray, List.set_cons_zero, List.set_cons_succ])
    (first | (refine wpAnyH_take (i := 26) (v := undef) rfl (by kernel_rfl) (by kernel_rfl) (by kernel_rfl) (fun _ _ _ h => h) (Or.inr ⟨rfl, rfl⟩) (by assumption) ?_) | (refine wpAnyH_take (i := 26) (v := ?_) rfl (by kernel_rfl) (by kernel_rfl) (by kernel_rfl) (fun _ _ _ h => h) (Or.inl ⟨rfl, ?_⟩) (by assumption) ?_; rotate_left 1; · (intro w hSw; (try dsimp only at hSw); go_simp; (try with_reducible rfl)))); (try simp only [Act.put, List.getElem_toArray, List.getElem_cons_zero, List.getElem_cons_succ, List.setIfInBounds_toArray, List.set_cons_zero, List.set_cons_succ])
    (first | (refine wpAnyH_take (i := 27) (v := undef) rfl (by kernel_rfl) (by kernel_rfl) (by kernel_rfl) (fun _ _ _ h => h) (Or.inr ⟨rfl, rfl⟩) (by assumption) ?_) | (refine wpAnyH_take (i := 27) (v := ?_) rfl (by kernel_rfl) (by kernel_rfl) (by kernel_rfl) (fun _ _ _ h => h) (Or.inl ⟨rfl, ?_⟩) (by assumption) ?_; rotate_left 1; · (intro w hSw; (try dsimp only at hSw); go_simp; (try with_reducible rfl)))); (try simp only [Act.put, List.getElem_toArray, List.getElem_cons_zero, List.getElem_cons_succ, List.setIfInBounds_toArray, List.set_cons_zero, List.set_cons_succ])
    (first | (refine wpAnyH_take (i := 28) (v := undef) rfl (by kernel_rfl) (by kernel_rfl) (by kernel_rfl) (fun _ _ _ h => h) (Or.inr ⟨rfl, rfl⟩) (by assumption) ?_) | (refine wpAnyH_take (i := 28) (v := ?_) rfl (by kernel_rfl) (by kernel_rfl) (by kernel_rfl) (fun _ _ _ h => h) (Or.inl ⟨rfl, ?_⟩) (by assumption) ?_; rotate_left 1; · (intro w hSw; (try dsimp only at hSw); go_simp; (try with_reducible rfl)))); (try simp only [Act.put, List.getElem_toArray, List.getElem_cons_zero, List.getElem_cons_succ, List.setIfInBounds_toArray, List.set_cons_zero, List.set_cons_succ])
    refine wpAnyH_done (by kernel_rfl) ?_ _
    refine NoPanic.normal ?_
    clear hHeld
    go_wp2
    go_ret
    refine ⟨rfl, R1, T3, none, none, d5.turn0 t6.undrew, b6.turn0 t6.undrew, r1, r3, h.p0, .inl ⟨rfl, rfl⟩⟩
  | some k =>
    have hkr : k.recs.length ≤ 140737488355328 := by have := hrecs k rfl; have := l0 0; omega
    have ho2 : Calls Try.prog 13 #[.pointer (some ⟨g, 0, none⟩)] w fun e w' => E = 0 ∧ OpYes R g k D2 w e w' := ho.mono (by
      rintro e w' (⟨h1, _⟩ | ⟨k', D3, h1, h2⟩)
      · cases h1
      · simp only [Prod.mk.injEq, Option.some.injEq] at h1
        obtain ⟨rfl, rfl, rfl⟩ := h1
        exact ⟨rfl, h2⟩)
    have hro2 : ∀ w2, Rk w2 r T D → Calls Try.prog 23 #[.pointer (some ⟨r, 0, none⟩)] w2 (RoYes T r k D2 w2) := fun w2 hq => (hro w2 hq).mono (by
      rintro e w' (⟨h1, _⟩ | ⟨k', D3, h1, h2⟩)
      · cases h1
      · simp only [Prod.mk.injEq, Option.some.injEq] at h1
        obtain ⟨_, rfl, rfl⟩ := h1
        exact h2)
    clear ho hro hrecs
    go_enter Try.func8, Try.ntmps8
    go_upto_region 4 with (first
      | (go_at_call 13; refine ho2.mono ?_; rintro e w1 ⟨rfl, gw, s1', x1', vs1, Q1, R1, rfl, hc1, hp1, hk1, hq1, hbw, hd1, hnq1, hN⟩; have d1 := h.d.stp1 hc1 hp1 hk1; have b1 := h.b.chg hc1 h.pR; have s1 := hc1.size; have r1 : ¬ R1 gp := fun hr => (hk1 gp hr).elim h.pR fun h => by omega)
      | (go_at_call 23; refine (hro2 _ (d1.turn0 t2).q).mono ?_; rintro e w3 ⟨gv, s3', x3', vs3, Q3, T3, rfl, hc3, hp3, hk3, hq3, hbv, hd3, hnq3, hN3⟩; have d3 := (d1.turn0 t2).stq1 hc3 hp3 hk3; have b3 := (b1.turn0 t2).chg hc3 h.pT; have s3 := hc3.size; have r3 : ¬ T3 gp := fun hr => (hk3 gp hr).elim h.pT fun h => by have := t2.size; omega)
      | (refine wp_st (xs := kpc k s3' x3') rfl 46 _ _ rfl rfl rfl (Blk.new w3 _ _) rfl szKp (ones4 rfl rfl rfl rfl) ?_; intro w4 hb4 ht4; have t4 := (T0 w3 _ _).new ht4 (by simp); have b4 := b3.turn0 t4; have c2 := b4.ats (j := 2) rfl; have f2 := b4.frozen 2; have b5 := b4.sets 2 (.pointer (some ⟨gw, 0, none⟩)); have c3 := b5.ats (j := 3) rfl; have f3 := b5.frozen 3; have b6 := b5.sets 3 (.pointer (some ⟨gv, 0, none⟩)))
      | (refine wp_st (xs := kpc k s1' x1') rfl 46 _ _ rfl rfl rfl (Blk.new w1 _ _) rfl szKp (ones4 rfl rfl rfl rfl) ?_; intro w2 hb2 ht2; have t2 := (T0 w1 _ _).new ht2 (by simp); have c1 := (b1.turn0 t2).ats (j := 1) (v := .pointer (some ⟨r, 0, none⟩)) rfl))
    have tV : Turn w4 ((w4.setCell ⟨gp, 2, none⟩ (.pointer (some ⟨gw, 0, none⟩))).setCell ⟨gp, 3, none⟩ (.pointer (some ⟨gv, 0, none⟩))) (some gp) := (Blk.setTurn _ _ _ _).trans (Blk.setTurn _ _ _ _)
    have d5 := (d3.turn0 t4).one tV r1 r3 h.p0
    have s2 := t2.size
    have s4 := t4.size
    have l2 := hb2.lt
    have lT : ∀ i, T i → i < w.heap.size := fun i hi => h.d.q.lt hi
    have hK4 := ((hb2.chg hc3 (fun hk => by have := lT _ hk; omega)).turn0 t4).turn tV (by simp; omega)
    have hM4 := hb4.turn tV (by simp; omega)
    have hq5 := (((hq1.turn0 t2).chg hc3 (fun i hi hk => by have := (hd1 i (.inl hi)).1; have := lT i hk; omega)).turn0 t4).chg (chg1 tV) (fun i hi e => by have := (hd1 i (.inl hi)).1; omega)
    have hq6 := (hq3.turn0 t4).chg (chg1 tV) (fun i hi e => by have := (hd3 i (.inl hi)).1; omega)
    obtain ⟨gw1, gw2, gw3⟩ := hd1 gw (.inr rfl)
    obtain ⟨gv1, gv2, gv3⟩ := hd3 gv (.inr rfl)
    have hw5 := (((hbw.turn0 t2).chg hc3 (fun hk => by have := lT _ hk; omega)).turn0 t4).turn tV (by simp; omega)
    have hv5 := (hbv.turn0 t4).turn tV (by simp; omega)
    have lR1 : ∀ i, R1 i → i < w1.heap.size := fun i hi => hp1.lt hi
    have lg : Lgs w0 ((w4.setCell ⟨gp, 2, none⟩ (.pointer (some ⟨gw, 0, none⟩))).setCell ⟨gp, 3, none⟩ (.pointer (some ⟨gv, 0, none⟩))) gp g r gw gv R1 T3 k.next :=
      ⟨hw5, hv5, gw3, fun hk => (hk3 gw hk).elim (fun h => by have := lT _ h; omega) fun h => by omega, fun hk => by have := lR1 _ hk; omega, gv3, by omega, by omega, by omega, by omega, by omega, hN⟩
    clear hd1 hd3 hnq1 hnq3 hk1 hk3 hbw hbv lR1 lT hq1 hq3 hp1 hp3 hc1 hc3
    generalize (w4.setCell ⟨gp, 2, none⟩ (.pointer (some ⟨gw, 0, none⟩))).setCell ⟨gp, 3, none⟩ (.pointer (some ⟨gv, 0, none⟩)) = w5 at *
    clear ho2 hro2 c0 c1 c2 c3 f2 f3 b1 b3 b4 b5
    have CN : ∀ W, Turn (World.drew w5) W none → W.cell? ⟨gv, 1, none⟩ = some (.int .u64 (k.next : Int)) := fun W hW => (hv5.drew.turn0 hW).ats (j := 1) rfl
    refine wp_region_noPanic ?_
    refine wp_region_held_drew (S := fun W => Turn w5 W none) (by kernel_rfl) (Turn.refl _ none).drew (fun hHeld => ?_)
    refine wpAnyH_more (S' := fun W => Turn (World.drew w5) W none) (fun W h => (Turn.refl _ none).drew.trans h) _ _ _ _ ?_
    clear hHeld
    have hHeld : (fun W => Turn (World.drew w5) W none) (World.drew w5) := Turn.refl _ none
    (first | (refine wpAnyH_take (i := 0) (v := undef) rfl (by kernel_rfl) (by kernel_rfl) (by kernel_rfl) (fun _ _ _ h => h) (Or.inr ⟨rfl, rfl⟩) (by assumption) ?_) | (refine wpAnyH_take (i := 0) (v := ?_) rfl (by kernel_rfl) (by kernel_rfl) (by kernel_rfl) (fun _ _ _ h => h) (Or.inl ⟨rfl, ?_⟩) (by assumption) ?_; rotate_left 1; · (intro w hSw; (try dsimp only at hSw); go_simp; (try with_reducible rfl)))); (try simp only [Act.put, List.getElem_toArray, List.getElem_cons_zero, List.getElem_cons_succ, List.setIfInBounds_toArray, List.set_cons_zero, List.set_cons_succ])
    (first | (refine wpAnyH_take (i := 1) (v := undef) rfl (by kernel_rfl) (by kernel_rfl) (by kernel_rfl) (fun _ _ _ h => h) (Or.inr ⟨rfl, rfl⟩) (by assumption) ?_) | (refine wpAnyH_take (i := 1) (v := ?_) rfl (by kernel_rfl) (by kernel_rfl) (by kernel_rfl) (fun _ _ _ h => h) (Or.inl ⟨rfl, ?_⟩) (by assumption) ?_; rotate_left 1; · (intro w hSw; (try dsimp only at hSw); go_simp; (try with_reducible rfl)))); (try simp only [Act.put, List.getElem_toArray, List.getElem_cons_zero, List.getElem_cons_succ, List.setIfInBounds_toArray, List.set_cons_zero, List.set_cons_succ])
    (first | (refine wpAnyH_take (i := 2) (v := undef) rfl (by kernel_rfl) (by kernel_rfl) (by kernel_rfl) (fun _ _ _ h => h) (Or.inr ⟨rfl, rfl⟩) (by assumption) ?_) | (refine wpAnyH_take (i := 2) (v := ?_) rfl (by kernel_rfl) (by kernel_rfl) (by kernel_rfl) (fun _ _ _ h => h) (Or.inl ⟨rfl, ?_⟩) (by assumption) ?_; rotate_left 1; · (intro w hSw; (try dsimp only at hSw); go_simp; (try with_reducible rfl)))); (try simp only [Act.put, List.getElem_toArray, List.getElem_cons_zero, List.getElem_cons_succ, List.setIfInBounds_toArray, List.set_cons_zero, List.set_cons_succ])
    (first | (refine wpAnyH_take (i := 3) (v := undef) rfl (by kernel_rfl) (by kernel_rfl) (by kernel_rfl) (fun _ _ _ h => h) (Or.inr ⟨rfl, rfl⟩) (by assumption) ?_) | (refine wpAnyH_take (i := 3) (v := ?_) rfl (by kernel_rfl) (by kernel_rfl) (by kernel_rfl) (fun _ _ _ h => h) (Or.inl ⟨rfl, ?_⟩) (by assumption) ?_; rotate_left 1; · (intro w hSw; (try dsimp only at hSw); go_simp; (try with_reducible rfl)))); (try simp only [Act.put, List.getElem_toArray, List.getElem_cons_zero, List.getElem_cons_succ, List.setIfInBounds_toArray, List.set_cons_zero, List.set_cons_succ])
    refine wpAnyH_take (i := 4) rfl (by kernel_rfl) (by kernel_rfl) (by kernel_rfl) (fun _ _ _ h => h) (yieldsIf_load_mid (by rfl) 46 _ rfl w1.heap.size 0 rfl (kpc k s1' x1') _ (fun W hW => (hK4.drew.turn0 hW).range (Sub.all _)) Try.underlying46 rfl szKp) (by assumption) ?_
    (try simp only [Act.put, List.getElem_toArray, List.getElem_cons_zero, List.getElem_cons_succ, List.setIfInBounds_toArray, List.set_cons_zero, List.set_cons_succ])
    refine wpAnyH_take (i := 5) rfl (by kernel_rfl) (by kernel_rfl) (by kernel_rfl) (fun _ _ _ h => h) (yieldsIf_load_mid (by rfl) 46 _ rfl w3.heap.size 0 rfl (kpc k s3' x3') _ (fun W hW => (hM4.drew.turn0 hW).range (Sub.all _)) Try.underlying46 rfl szKp) (by assumption) ?_
    (try simp only [Act.put, List.getElem_toArray, List.getElem_cons_zero, List.getElem_cons_succ, List.setIfInBounds_toArray, List.set_cons_zero, List.set_cons_succ])
    refine wpAnyH_ready (rs := [6]) (by kernel_rfl) (by simp) ?_
    refine AllReadyH.cons rfl (fun K hK => ?_) AllReadyH.nil
    go_simp
    refine (rsame_any (w := w5.drew) (hq5.turn0 (Turn.refl w5 none).drew) (hq6.turn0 (Turn.refl w5 none).drew) hkr).mono ?_
    rintro e w6 ⟨rfl, t6⟩
    refine hK.out _ _ t6 (fun hHeld => ?_); clear hK K; (try simp only [Act.put, List.getElem_toArray, List.getElem_cons_zero, List.getElem_cons_succ, List.setIfInBounds_toArray, List.set_cons_zero, List.set_cons_succ])
    (first | (refine wpAnyH_take (i := 7) (v := undef) rfl (by kernel_rfl) (by kernel_rfl) (by kernel_rfl) (fun _ _ _ h => h) (Or.inr ⟨rfl, rfl⟩) (by assumption) ?_) | (refine wpAnyH_take (i := 7) (v := ?_) rfl (by kernel_rfl) (by kernel_rfl) (by kernel_rfl) (fun _ _ _ h => h) (Or.inl ⟨rfl, ?_⟩) (by assumption) ?_; rotate_left 1; · (intro w hSw; (try dsimp only at hSw); go_simp; (try with_reducible rfl)))); (try simp only [Act.put, List.getElem_toArray, List.getElem_cons_zero, List.getElem_cons_succ, List.setIfInBounds_toArray, List.set_cons_zero, List.set_cons_succ])
    (first | (refine wpAnyH_take (i := 8) (v := undef) rfl (by kernel_rfl) (by kernel_rfl) (by kernel_rfl) (fun _ _ _ h => h) (Or.inr ⟨rfl, rfl⟩) (by assumption) ?_) | (refine wpAnyH_take (i := 8) (v := ?_) rfl (by kernel_rfl) (by kernel_rfl) (by kernel_rfl) (fun _ _ _ h => h) (Or.inl ⟨rfl, ?_⟩) (by assumption) ?_; rotate_left 1; · (intro w hSw; (try dsimp only at hSw); go_simp; (try with_reducible rfl)))); (try simp only [Act.put, List.getElem_toArray, List.getElem_cons_zero, List.getElem_cons_succ, List.setIfInBounds_toArray, List.set_cons_zero, List.set_cons_succ])
    (first | (refine wpAnyH_take (i := 9) (v := undef) rfl (by kernel_rfl) (by kernel_rfl) (by kernel_rfl) (fun _ _ _ h => h) (Or.inr ⟨rfl, rfl⟩) (by assumption) ?_) | (refine wpAnyH_take (i := 9) (v := ?_) rfl (by kernel_rfl) (by kernel_rfl) (by kernel_rfl) (fun _ _ _ h => h) (Or.inl ⟨rfl, ?_⟩) (by assumption) ?_; rotate_left 1; · (intro w hSw; (try dsimp only at hSw); go_simp; (try with_reducible rfl)))); (try simp only [Act.put, List.getElem_toArray, List.getElem_cons_zero, List.getElem_cons_succ, List.setIfInBounds_toArray, List.set_cons_zero, List.set_cons_succ])
    (first | (refine wpAnyH_take (i := 10) (v := undef) rfl (by kernel_rfl) (by kernel_rfl) (by kernel_rfl) (fun _ _ _ h => h) (Or.inr ⟨rfl, rfl⟩) (by assumption) ?_) | (refine wpAnyH_take (i := 10) (v := ?_) rfl (by kernel_rfl) (by kernel_rfl) (by kernel_rfl) (fun _ _ _ h => h) (Or.inl ⟨rfl, ?_⟩) (by assumption) ?_; rotate_left 1; · (intro w hSw; (try dsimp only at hSw); go_simp; (try with_reducible rfl)))); (try simp only [Act.put, List.getElem_toArray, List.getElem_cons_zero, List.getElem_cons_succ, List.setIfInBounds_toArray, List.set_cons_zero, List.set_cons_succ])
    (first | (refine wpAnyH_take (i := 11) (v := undef) rfl (by kernel_rfl) (by kernel_rfl) (by kernel_rfl) (fun _ _ _ h => h) (Or.inr ⟨rfl, rfl⟩) (by assumption) ?_) | (refine wpAnyH_take (i := 11) (v := ?_) rfl (by kernel_rfl) (by kernel_rfl) (by kernel_rfl) (fun _ _ _ h => h) (Or.inl ⟨rfl, ?_⟩) (by assumption) ?_; rotate_left 1; · (intro w hSw; (try dsimp only at hSw); go_simp; (try with_reducible rfl)))); (try simp only [Act.put, List.getElem_toArray, List.getElem_cons_zero, List.getElem_cons_succ, List.setIfInBounds_toArray, List.set_cons_zero, List.set_cons_succ])
    (first | (refine wpAnyH_take (i := 12) (v := undef) rfl (by kernel_rfl) (by kernel_rfl) (by kernel_rfl) (fun _ _ _ h => h) (Or.inr ⟨rfl, rfl⟩) (by assumption) ?_) | (refine wpAnyH_take (i := 12) (v := ?_) rfl (by kernel_rfl) (by kernel_rfl) (by kernel_rfl) (fun _ _ _ h => h) (Or.inl ⟨rfl, ?_⟩) (by assumption) ?_; rotate_left 1; · (intro w hSw; (try dsimp only at hSw); go_simp; (try with_reducible rfl)))); (try simp only [Act.put, List.getElem_toArray, List.getElem_cons_zero, List.getElem_cons_succ, List.setIfInBounds_toArray, List.set_cons_zero, List.set_cons_succ])
    (first | (refine wpAnyH_take (i := 13) (v := undef) rfl (by kernel_rfl) (by kernel_rfl) (by kernel_rfl) (fun _ _ _ h => h) (Or.inr ⟨rfl, rfl⟩) (by assumption) ?_) | (refine wpAnyH_take (i := 13) (v := ?_) rfl (by kernel_rfl) (by kernel_rfl) (by kernel_rfl) (fun _ _ _ h => h) (Or.inl ⟨rfl, ?_⟩) (by assumption) ?_; rotate_left 1; · (intro w hSw; (try dsimp only at hSw); go_simp; (try with_reducible rfl)))); (try simp only [Act.put, List.getElem_toArray, List.getElem_cons_zero, List.getElem_cons_succ, List.setIfInBounds_toArray, List.set_cons_zero, List.set_cons_succ])
    (first | (refine wpAnyH_take (i := 14) (v := undef) rfl (by kernel_rfl) (by kernel_rfl) (by kernel_rfl) (fun _ _ _ h => h) (Or.inr ⟨rfl, rfl⟩) (by assumption) ?_) | (refine wpAnyH_take (i := 14) (v := ?_) rfl (by kernel_rfl) (by kernel_rfl) (by kernel_rfl) (fun _ _ _ h => h) (Or.inl ⟨rfl, ?_⟩) (by assumption) ?_; rotate_left 1; · (intro w hSw; (try dsimp only at hSw); go_simp; (try with_reducible rfl)))); (try simp only [Act.put, List.getElem_toArray, List.getElem_cons_zero, List.getElem_cons_succ, List.setIfInBounds_toArray, List.set_cons_zero, List.set_cons_succ])
    (first | (refine wpAnyH_take (i := 15) (v := undef) rfl (by kernel_rfl) (by kernel_rfl) (by kernel_rfl) (fun _ _ _ h => h) (Or.inr ⟨rfl, rfl⟩) (by assumption) ?_) | (refine wpAnyH_take (i := 15) (v := ?_) rfl (by kernel_rfl) (by kernel_rfl) (by kernel_rfl) (fun _ _ _ h => h) (Or.inl ⟨rfl, ?_⟩) (by assumption) ?_; rotate_left 1; · (intro w hSw; (try dsimp only at hSw); go_simp; (try with_reducible rfl)))); (try simp only [Act.put, List.getElem_toArray, List.getElem_cons_zero, List.getElem_cons_succ, List.setIfInBounds_toArray, List.set_cons_zero, List.set_cons_succ])
    (first | (refine wpAnyH_take (i := 16) (v := undef) rfl (by kernel_rfl) (by kernel_rfl) (by kernel_rfl) (fun _ _ _ h => h) (Or.inr ⟨rfl, rfl⟩) (by assumption) ?_) | (refine wpAnyH_take (i := 16) (v := ?_) rfl (by kernel_rfl) (by kernel_rfl) (by kernel_rfl) (fun _ _ _ h => h) (Or.inl ⟨rfl, ?_⟩) (by assumption) ?_; rotate_left 1; · (intro w hSw; (try dsimp only at hSw); go_simp; (try with_reducible rfl)))); (try simp only [Act.put, List.getElem_toArray, List.getElem_cons_zero, List.getElem_cons_succ, List.setIfInBounds_toArray, List.set_cons_zero, List.set_cons_succ])
    (first | (refine wpAnyH_take (i := 17) (v := undef) rfl (by kernel_rfl) (by kernel_rfl) (by kernel_rfl) (fun _ _ _ h => h) (Or.inr ⟨rfl, rfl⟩) (by assumption) ?_) | (refine wpAnyH_take (i := 17) (v := ?_) rfl (by kernel_rfl) (by kernel_rfl) (by kernel_rfl) (fun _ _ _ h => h) (Or.inl ⟨rfl, ?_⟩) (by assumption) ?_; rotate_left 1; · (intro w hSw; (try dsimp only at hSw); go_simp; (try with_reducible rfl)))); (try simp only [Act.put, List.getElem_toArray, List.getElem_cons_zero, List.getElem_cons_succ, List.setIfInBounds_toArray, List.set_cons_zero, List.set_cons_succ])
    (first | (refine wpAnyH_take (i := 18) (v := undef) rfl (by kernel_rfl) (by kernel_rfl) (by kernel_rfl) (fun _ _ _ h => h) (Or.inr ⟨rfl, rfl⟩) (by assumption) ?_) | (refine wpAnyH_take (i := 18) (v := ?_) rfl (by kernel_rfl) (by kernel_rfl) (by kernel_rfl) (fun _ _ _ h => h) (Or.inl ⟨rfl, ?_⟩) (by assumption) ?_; rotate_left 1; · (intro w hSw; (try dsimp only at hSw); go_simp; (try with_reducible rfl)))); (try simp only [Act.put, List.getElem_toArray, List.getElem_cons_zero, List.getElem_cons_succ, List.setIfInBounds_toArray, List.set_cons_zero, List.set_cons_succ])
    (first | (refine wpAnyH_take (i := 19) (v := undef) rfl (by kernel_rfl) (by kernel_rfl) (by kernel_rfl) (fun _ _ _ h => h) (Or.inr ⟨rfl, rfl⟩) (by assumption) ?_) | (refine wpAnyH_take (i := 19) (v := ?_) rfl (by kernel_rfl) (by kernel_rfl) (by kernel_rfl) (fun _ _ _ h => h) (Or.inl ⟨rfl, ?_⟩) (by assumption) ?_; rotate_left 1; · (intro w hSw; (try dsimp only at hSw); go_simp; (try with_reducible rfl)))); (try simp only [Act.put, List.getElem_toArray, List.getElem_cons_zero, List.getElem_cons_succ, List.setIfInBounds_toArray, List.set_cons_zero, List.set_cons_succ])
    (first | (refine wpAnyH_take (i := 21) (v := undef) rfl (by kernel_rfl) (by kernel_rfl) (by kernel_rfl) (fun _ _ _ h => h) (Or.inr ⟨rfl, rfl⟩) (by assumption) ?_) | (refine wpAnyH_take (i := 21) (v := ?_) rfl (by kernel_rfl) (by kernel_rfl) (by kernel_rfl) (fun _ _ _ h => h) (Or.inl ⟨rfl, ?_⟩) (by assumption) ?_; rotate_left 1; · (intro w hSw; (try dsimp only at hSw); go_simp; (try with_reducible rfl)))); (try simp only [Act.put, List.getElem_toArray, List.getElem_cons_zero, List.getElem_cons_succ, List.setIfInBounds_toArray, List.set_cons_zero, List.set_cons_succ])
    (first | (refine wpAnyH_take (i := 22) (v := undef) rfl (by kernel_rfl) (by kernel_rfl) (by kernel_rfl) (fun _ _ _ h => h) (Or.inr ⟨rfl, rfl⟩) (by assumption) ?_) | (refine wpAnyH_take (i := 22) (v := ?_) rfl (by kernel_rfl) (by kernel_rfl) (by kernel_rfl) (fun _ _ _ h => h) (Or.inl ⟨rfl, ?_⟩) (by assumption) ?_; rotate_left 1; · (intro w hSw; (try dsimp only at hSw); go_simp; (try with_reducible rfl)))); (try simp only [Act.put, List.getElem_toArray, List.getElem_cons_zero, List.getElem_cons_succ, List.setIfInBounds_toArray, List.set_cons_zero, List.set_cons_succ])
    (first | (refine wpAnyH_take (i := 23) (v := undef) rfl (by kernel_rfl) (by kernel_rfl) (by kernel_rfl) (fun _ _ _ h => h) (Or.inr ⟨rfl, rfl⟩) (by assumption) ?_) | (refine wpAnyH_take (i := 23) (v := ?_) rfl (by kernel_rfl) (by kernel_rfl) (by kernel_rfl) (fun _ _ _ h => h) (Or.inl ⟨rfl, ?_⟩) (by assumption) ?_; rotate_left 1; · (intro w hSw; (try dsimp only at hSw); go_simp; (try with_reducible rfl)))); (try simp only [Act.put, List.getElem_toArray, List.getElem_cons_zero, List.getElem_cons_succ, List.setIfInBounds_toArray, List.set_cons_zero, List.set_cons_succ])
    (first | (refine wpAnyH_take (i := 24) (v := undef) rfl (by kernel_rfl) (by kernel_rfl) (by kernel_rfl) (fun _ _ _ h => h) (Or.inr ⟨rfl, rfl⟩) (by assumption) ?_) | (refine wpAnyH_take (i := 24) (v := ?_) rfl (by kernel_rfl) (by kernel_rfl) (by kernel_rfl) (fun _ _ _ h => h) (Or.inl ⟨rfl, ?_⟩) (by assumption) ?_; rotate_left 1; · (intro w hSw; (try dsimp only at hSw); go_simp; (try with_reducible rfl)))); (try simp only [Act.put, List.getElem_toArray, List.getElem_cons_zero, List.getElem_cons_succ, List.setIfInBounds_toArray, List.set_cons_zero, List.set_cons_succ])
    refine wpAnyH_ready (rs := [20]) (by kernel_rfl) (by simp) ?_
    refine AllReadyH.cons rfl (fun K hK => ?_) AllReadyH.nil
    go_simp
    refine (next_any (hw5.drew.turn0 t6)).mono ?_
    rintro e w7 ⟨rfl, rfl⟩
    refine hK.out _ _ t6 (fun hHeld => ?_); clear hK K; (try simp only [Act.put, List.getElem_toArray, List.getElem_cons_zero, List.getElem_cons_succ, List.setIfInBounds_toArray, List.set_cons_zero, List.set_cons_succ])
    (first | (refine wpAnyH_take (i := 25) (v := undef) rfl (by kernel_rfl) (by kernel_rfl) (by kernel_rfl) (fun _ _ _ h => h) (Or.inr ⟨rfl, rfl⟩) (by assumption) ?_) | (refine wpAnyH_take (i := 25) (v := ?_) rfl (by kernel_rfl) (by kernel_rfl) (by kernel_rfl) (fun _ _ _ h => h) (Or.inl ⟨rfl, ?_⟩) (by assumption) ?_; rotate_left 1; · (intro w hSw; (try dsimp only at hSw); go_simp; (try with_reducible rfl)))); (try simp only [Act.put, List.getElem_toArray, List.getElem_cons_zero, List.getElem_cons_succ, List.setIfInBounds_toArray, List.set_cons_zero, List.set_cons_succ])
    (first | (refine wpAnyH_take (i := 26) (v := undef) rfl (by kernel_rfl) (by kernel_rfl) (by kernel_rfl) (fun _ _ _ h => h) (Or.inr ⟨rfl, rfl⟩) (by assumption) ?_) | (refine wpAnyH_take (i := 26) (v := ?_) rfl (by kernel_rfl) (by kernel_rfl) (by kernel_rfl) (fun _ _ _ h => h) (Or.inl ⟨rfl, ?_⟩) (by assumption) ?_; rotate_left 1; · (intro w hSw; (try dsimp only at hSw); go_simp; (try with_reducible rfl)))); (try simp only [Act.put, List.getElem_toArray, List.getElem_cons_zero, List.getElem_cons_succ, List.setIfInBounds_toArray, List.set_cons_zero, List.set_cons_succ])
    (first | (refine wpAnyH_take (i := 27) (v := undef) rfl (by kernel_rfl) (by kernel_rfl) (by kernel_rfl) (fun _ _ _ h => h) (Or.inr ⟨rfl, rfl⟩) (by assumption) ?_) | (refine wpAnyH_take (i := 27) (v := ?_) rfl (by kernel_rfl) (by kernel_rfl) (by kernel_rfl) (fun _ _ _ h => h) (Or.inl ⟨rfl, ?_⟩) (by assumption) ?_; rotate_left 1; · (intro w hSw; (try dsimp only at hSw); go_simp; (try with_reducible rfl)))); (try simp only [Act.put, List.getElem_toArray, List.getElem_cons_zero, List.getElem_cons_succ, List.setIfInBounds_toArray, List.set_cons_zero, List.set_cons_succ])
    (first | (refine wpAnyH_take (i := 28) (v := undef) rfl (by kernel_rfl) (by kernel_rfl) (by kernel_rfl) (fun _ _ _ h => h) (Or.inr ⟨rfl, rfl⟩) (by assumption) ?_) | (refine wpAnyH_take (i := 28) (v := ?_) rfl (by kernel_rfl) (by kernel_rfl) (by kernel_rfl) (fun _ _ _ h => h) (Or.inl ⟨rfl, ?_⟩) (by assumption) ?_; rotate_left 1; · (intro w hSw; (try dsimp only at hSw); go_simp; (try with_reducible rfl)))); (try simp only [Act.put, List.getElem_toArray, List.getElem_cons_zero, List.getElem_cons_succ, List.setIfInBounds_toArray, List.set_cons_zero, List.set_cons_succ])
    refine wpAnyH_done (by kernel_rfl) ?_ _
    refine NoPanic.normal ?_
    clear hHeld
    go_wp2
    go_ret
    have T6 := t6.undrew
    refine ⟨by simp, R1, T3, some gw, some gv, d5.turn0 T6, b6.turn0 T6, r1, r3, h.p0, .inr ⟨gw, gv, k.next, rfl, rfl, ⟨lg.b.turn0 T6, lg.c.turn0 T6, lg.bR, lg.bT, lg.cR, lg.cT, lg.bc, lg.bp, lg.cp, lg.b0, lg.c0, lg.n⟩⟩⟩
end Go.Proofs.Ytjekglnbmccnjaa
/-
  Layer 15: the law's acts in memory, their bytes; a call of both logs.
-/
namespace Go.Proofs.Ytjekglnbmccnjaa
set_option linter.unusedSimpArgs false
set_option linter.unusedVariables false
open Go.RowKit

def acq (k n : Int) (A : Option Addr) (m c : Nat) : List Value := [.int .i64 k, .int .i64 n, .slice A m c]
theorem szAq {k n : Int} {A : Option Addr} {m c : Nat} : (Try.prog.info? 36).map (·.size) = some (acq k n A m c).length := by kernel_rfl
/-- What a call of the code's log leaves, beside the document's disk. -/
theorem lg_one {w0 w w' : World} {g r gw gp gv n n' : Nat} {R T R' : Nat → Prop} {D E D' : Dsk} {cs ds : Array Value} {t u : TypeId} (h : Bp w0 w g r R T D E) (bp : Blk w gp t cs) (bv : Blk w gv u ds) (pR : ¬ R gp) (vR : ¬ R gv) (e1 : gw ≠ gp) (e2 : gw ≠ gv) (hT : ¬ T gw) (h0 : w0.heap.size ≤ gw)
    (hc : Chg w w' (fun k => R k ∨ k = gw)) (hp : Pk w' g R' D') (hk : ∀ k, R' k → R k ∨ w.heap.size ≤ k) :
    Bp w0 w' g r R' T D' E ∧ Blk w' gp t cs ∧ Blk w' gv u ds ∧ ¬ R' gp ∧ ¬ R' gv := by
  have s0 := h.tw.size
  refine ⟨⟨hp, h.q.chg hc fun k h1 h2 => h1.elim (fun h1 => h.dis k h1 h2) fun e => hT (e ▸ h2), fun k h1 h2 => (hk k h1).elim (fun h3 => h.dis k h3 h2) (fun h3 => by have := h.q.lt h2; omega), fun k h1 => (hk k h1).elim (h.r0 k) (fun h3 => by omega), h.t0, ?_⟩, bp.chg hc fun k => k.elim pR fun e => e1 e.symm, bv.chg hc fun k => k.elim vR fun e => e2 e.symm, fun k => (hk _ k).elim pR fun h => by have := bp.lt; omega, fun k => (hk _ k).elim vR fun h => by have := bv.lt; omega⟩
  exact ((Chg.of0 h.tw (fun k => R k ∨ k = gw)).trans hc fun i hi => .inl hi).turn fun i hi => hi.elim (h.r0 i) fun e => by omega
theorem lq_one {w0 w w' : World} {g r gw gp gv n n' : Nat} {R T T' : Nat → Prop} {D E D' : Dsk} {cs ds : Array Value} {t u : TypeId} (h : Bp w0 w g r R T D E) (bp : Blk w gp t cs) (bv : Blk w gv u ds) (pT : ¬ T gp) (vT : ¬ T gv) (e1 : gw ≠ gp) (e2 : gw ≠ gv) (hR : ¬ R gw) (h0 : w0.heap.size ≤ gw)
    (hc : Chg w w' (fun k => T k ∨ k = gw)) (hp : Rk w' r T' D') (hk : ∀ k, T' k → T k ∨ w.heap.size ≤ k) :
    Bp w0 w' g r R T' D D' ∧ Blk w' gp t cs ∧ Blk w' gv u ds ∧ ¬ T' gp ∧ ¬ T' gv := by
  have s0 := h.tw.size
  refine ⟨⟨h.p.chg hc fun k h1 h2 => h2.elim (fun h2 => h.dis k h1 h2) fun e => hR (e ▸ h1), hp, fun k h1 h2 => (hk k h2).elim (fun h3 => h.dis k h1 h3) (fun h3 => by have := h.p.lt h1; omega), h.r0, fun k h1 => (hk k h1).elim (h.t0 k) (fun h3 => by omega), ?_⟩, bp.chg hc fun k => k.elim pT fun e => e1 e.symm, bv.chg hc fun k => k.elim vT fun e => e2 e.symm, fun k => (hk _ k).elim pT fun h => by have := bp.lt; omega, fun k => (hk _ k).elim vT fun h => by have := bv.lt; omega⟩
  exact ((Chg.of0 h.tw (fun k => T k ∨ k = gw)).trans hc fun i hi => .inl hi).turn fun i hi => hi.elim (h.t0 i) fun e => by omega
theorem Lgs.turn0 {w0 w w' : World} {gp g r gw gv n : Nat} {R T : Nat → Prop} (h : Lgs w0 w gp g r gw gv R T n) (ht : Turn w w' none) : Lgs w0 w' gp g r gw gv R T n :=
  ⟨h.b.turn0 ht, h.c.turn0 ht, h.bR, h.bT, h.cR, h.cT, h.bc, h.bp, h.cp, h.b0, h.c0, h.n⟩
theorem Pq.turn0 {w0 w w' : World} {gp g r : Nat} {D E : Dsk} {R T : Nat → Prop} {x y : Option Nat} (h : Pq w0 w gp g r D E R T x y) (ht : Turn w w' none) : Pq w0 w' gp g r D E R T x y :=
  ⟨h.d.turn0 ht, h.b.turn0 ht, h.pR, h.pT, h.p0, h.l.imp id fun ⟨gw, gv, n, e1, e2, L⟩ => ⟨gw, gv, n, e1, e2, L.turn0 ht⟩⟩

theorem Pq.stp1 {w0 w w' : World} {gp g r : Nat} {D E D' : Dsk} {R T : Nat → Prop} {x y : Option Nat} (h : Pq w0 w gp g r D E R T x y) (s : Stp w w' R g D') : ∃ R', Pq w0 w' gp g r D' E R' T x y := by
  obtain ⟨hc, R', hp, hk⟩ := s
  have out : ∀ i, i < w.heap.size → ¬ R i → ¬ R' i := fun i h1 h2 h3 => (hk i h3).elim h2 fun h => by omega
  refine ⟨R', h.d.stp1 hc hp hk, h.b.chg hc h.pR, out _ h.b.lt h.pR, h.pT, h.p0, h.l.imp id fun ⟨gw, gv, n, e1, e2, L⟩ => ⟨gw, gv, n, e1, e2, ⟨L.b.chg hc L.bR, L.c.chg hc L.cR, out _ L.b.lt L.bR, L.bT, out _ L.c.lt L.cR, L.cT, L.bc, L.bp, L.cp, L.b0, L.c0, L.n⟩⟩⟩
theorem Pq.stq1 {w0 w w' : World} {gp g r : Nat} {D E E' : Dsk} {R T : Nat → Prop} {x y : Option Nat} (h : Pq w0 w gp g r D E R T x y) (s : Stq w w' T r E') : ∃ T', Pq w0 w' gp g r D E' R T' x y := by
  obtain ⟨hc, R', hp, hk⟩ := s
  have out : ∀ i, i < w.heap.size → ¬ T i → ¬ R' i := fun i h1 h2 h3 => (hk i h3).elim h2 fun h => by omega
  refine ⟨R', h.d.stq1 hc hp hk, h.b.chg hc h.pT, h.pR, out _ h.b.lt h.pT, h.p0, h.l.imp id fun ⟨gw, gv, n, e1, e2, L⟩ => ⟨gw, gv, n, e1, e2, ⟨L.b.chg hc L.bT, L.c.chg hc L.cT, L.bR, out _ L.b.lt L.bT, L.cR, out _ L.c.lt L.cT, L.bc, L.bp, L.cp, L.b0, L.c0, L.n⟩⟩⟩

set_option maxRecDepth 100000 in
set_option maxHeartbeats 800000 in
theorem bytes15_any (k N : Int) (A : Option Addr) (n c B : Nat) (b : List UInt8) (w : World) (hr : Rd w B 1 A n (vbs b)) (hB : B ≤ w.heap.size) (hnc : n ≤ c) (hc : c ≤ maxLen) :
    Calls Try.prog 17 #[.agg (acq k N A n c).toArray] w fun e w' => ∃ n', e = .returned (.slice A n' c) ∧ Hid (n' = (b.take 3000).length) ∧ n' ≤ n ∧ Rd w' B 1 A n' (vbs (b.take 3000)) ∧ Turn w w' none := by
  have hl := hr.len
  rw [vbs_len] at hl
  unfold maxLen at hc
  by_cases hq : 3000 < n
  · have hq2 : (3000 : Int) < (n : Int) := by omega
    have hlen : (b.take 3000).length = 3000 := by rw [List.length_take]; omega
    have hr3 := hr.takeB (k := 3000) (by omega)
    clear hl
    go_enter Try.func17, Try.ntmps17
    go_wp2_with (first
      | (refine wp_bx rfl 36 _ rfl rfl ?_; intro g5 w1 hg5 hb5 t5; have c2 := hb5.ats (j := 2) (v := .slice A n c) rfl))
    go_ret
    exact ⟨3000, rfl, hid hlen.symm, by omega, hr3.turn0 t5 hB, t5⟩
  · have hq2 : (n : Int) ≤ 3000 := by omega
    have ht : b.take 3000 = b := List.take_of_length_le (by omega)
    go_enter Try.func17, Try.ntmps17
    go_wp2_with (first
      | (refine wp_bx rfl 36 _ rfl rfl ?_; intro g5 w1 hg5 hb5 t5; have c2 := hb5.ats (j := 2) (v := .slice A n c) rfl))
    go_ret
    exact ⟨n, rfl, hid (by rw [ht, hl]), Nat.le_refl _, by rw [ht]; exact hr.turn0 t5 hB, t5⟩
end Go.Proofs.Ytjekglnbmccnjaa
