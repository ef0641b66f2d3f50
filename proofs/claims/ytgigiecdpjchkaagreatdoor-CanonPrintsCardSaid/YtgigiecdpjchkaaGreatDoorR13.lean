import Derived.Test.YtgigiecdpjchkaaGreatDoorR6
import Derived.Test.YtgigiecdpjchkaaGreatDoorR4
import Derived.Test.YtgigiecdpjchkaaGreatDoorR1
import Derived.Test.YtgigiecdpjchkaaGreatDoorR11
import Derived.Test.YtgigiecdpjchkaaGreatDoorR8
set_option linter.unusedSimpArgs false
set_option linter.unusedVariables false
set_option linter.unusedSectionVars false
set_option maxRecDepth 100000
set_option maxHeartbeats 6400000
namespace Go.Proofs.YtgigiecdpjchkaaGreatDoor
open Go.RowKit
structure QB extends RB where
 out : List Nat
def Bd (b : QB) (w : World) : Prop := b.base ≤ w.heap.size ∧ ∀ g ∈ b.out, g < w.heap.size
theorem Bd.mono {b : QB} {w w' : World} (h : Bd b w) (hs : w.heap.size ≤ w'.heap.size) : Bd b w' := ⟨Nat.le_trans h.1 hs, fun g hg => Nat.lt_of_lt_of_le (h.2 g hg) hs⟩
def Fq (b : QB) (w w' : World) : Prop :=
 Below b.base w w' ∧ (∀ g t cs, Blk w g t cs → t ≠ 64 → t ≠ 9 → t ≠ 3 → t ≠ 119 → t ≠ 86 → Blk w' g t cs) ∧ ∀ g ∈ b.out, w'.heap[g]? = w.heap[g]?
section
variable {w w' w2 : World} {b : QB} {g : Nat} {cs : Array Value} {t : TypeId}
theorem Fq.refl (b : QB) (w : World) : Fq b w w := ⟨Below.refl _ _, fun _ _ _ h _ _ _ _ _ => h, fun _ _ => rfl⟩
theorem Fq.trans (h : Fq b w w') (k : Fq b w' w2) : Fq b w w2 := ⟨h.1.trans k.1, fun g t cs hb a1 a2 a3 a4 a5 => k.2.1 g t cs (h.2.1 g t cs hb a1 a2 a3 a4 a5) a1 a2 a3 a4 a5, fun g hg => (k.2.2 g hg).trans (h.2.2 g hg)⟩
theorem Fq.of_turn (h : Turn w w' none) (hb : Bd b w) : Fq b w w' := ⟨h.below.mono hb.1, fun _ _ _ hB _ _ _ _ _ => hB.turn0 h, fun g hg => h.block g (hb.2 g hg) (by simp)⟩
theorem Fq.size (h : Fq b w w') : w.heap.size ≤ w'.heap.size := h.1.size
theorem Fq.turn (h : Fq b w w') (k : Turn w' w2 none) (hb : Bd b w) : Fq b w w2 := h.trans (Fq.of_turn k (hb.mono h.1.size))
theorem Fq.tok (h : Fq b w w') (hb : Blk w g 90 cs) : Blk w' g 90 cs := h.2.1 _ _ _ hb (by decide) (by decide) (by decide) (by decide) (by decide)
theorem Fq.outB (h : Fq b w w') (hg : g ∈ b.out) (hB : Blk w g t cs) : Blk w' g t cs := (h.2.2 g hg).trans hB
theorem Fq.row {sz n c : Nat} {E : TypeId} {A : Option Addr} {xs : List Value} (ho : Own w b.base E sz A n c xs) (hE : NdTy E) (ht : Turn w w' (blk A)) (hb : Bd b w) (hoff : ∀ g ∈ b.out, blk A ≠ some g) : Fq b w w' := by
 cases hA : blk A with
 | none => rw [hA] at ht; exact Fq.of_turn ht hb
 | some g =>
  rw [hA] at ht
  refine ⟨below_turn ht hb.1 (ho.block g hA).1, fun g' t cs hB a1 a2 a3 a4 a5 => hB.turn ht ?_, fun g' hg' => ht.block g' (hb.2 g' hg') ?_⟩
  ·intro e
   injection e with e
   subst e
   refine ho.not_blk hB ?_ hA
   rcases hE with rfl | rfl | rfl | rfl
   ·exact a1
   ·exact a2
   ·exact a3
   ·exact a4
  ·intro e
   exact hoff g' hg' (by rw [hA]; exact e.symm)
end
def psCells (b : QB) (R : Ix → Rw) (s : St) : List Value := [.slice b.A0 b.T.length b.c0, .int .i64 (s.at_ : Int), (R none).v, .int .i64 (s.why : Int), .int .i64 (s.bad : Int)]
def Offs (b : QB) (R : Ix → Rw) : Prop := ∀ i, ∀ g ∈ b.out, blk (R i).A ≠ some g
structure PS (w : World) (b : QB) (s : St) : Prop where
 hb : b.base ≤ b.pB
 hw : Bd b w
 outs : ∀ g ∈ b.out, g ≠ b.pB
 toks : Rd w b.base 3 b.A0 b.T.length (tcs b.T)
 tok : TOk b.T
 few : b.T.length ≤ 1500
 brief : ∀ i, i < b.T.length → (tokAt b.T i).s.length ≤ 4096
 hc : b.T.length ≤ b.c0 ∧ b.c0 ≤ maxLen
 at_ : s.at_ < b.T.length
 ok : NOk s.N (s.at_ + 1)
 mem : ∃ R, NR w b.base R s.N ∧ Blk w b.pB 86 (psCells b R s).toArray ∧ Offs b R
section
variable {w w' : World} {b : QB} {s s' : St} {R R' : Ix → Rw}
theorem ty_P : 86 ≠ 64 ∧ 86 ≠ 9 ∧ 86 ≠ 3 ∧ 86 ≠ 119 := by decide
theorem PS.turn0 (h : PS w b s) (ht : Turn w w' none) : PS w' b s := by
 obtain ⟨R, h1, h2, h3⟩ := h.mem
 exact ⟨h.hb, h.hw.mono ht.size, h.outs, h.toks.turn0 ht h.hw.1, h.tok, h.few, h.brief, h.hc, h.at_, h.ok, R, h1.turn0 ht, h2.turn0 ht, h3⟩
theorem PS.opn (h : PS w b s) : ∃ R, NR w b.base R s.N ∧ Blk w b.pB 86 (psCells b R s).toArray ∧
  w.cell? ⟨b.pB, 0, none⟩ = some (.slice b.A0 b.T.length b.c0) ∧ w.cell? ⟨b.pB, 1, none⟩ = some (.int .i64 (s.at_ : Int)) ∧ w.cell? ⟨b.pB, 2, none⟩ = some (.slice (R none).A s.N.length (R none).c) ∧ w.cell? ⟨b.pB, 3, none⟩ = some (.int .i64 (s.why : Int)) ∧
  w.cell? ⟨b.pB, 4, none⟩ = some (.int .i64 (s.bad : Int)) ∧ ∀ j, w.frozen? ⟨b.pB, j, none⟩ = false := by
 obtain ⟨R, h1, h2, _⟩ := h.mem
 refine ⟨R, h1, h2, h2.cell 0, h2.cell 1, (h2.cell 2).trans ?_, h2.cell 3, h2.cell 4, fun j => h2.frozen j⟩
 show some (Value.slice (R none).A (R none).n (R none).c) = _
 rw [h1.len]
theorem PS.tk (h : PS w b s) {i : Nat} (hi : i < b.T.length) : ∃ bb off, b.A0 = some ⟨bb, off, none⟩ ∧ bb < b.base ∧ w.cell? ⟨bb, off + i * 3, none⟩ = some (.int .i64 ((tokAt b.T i).k : Int)) ∧
  w.cell? ⟨bb, off + i * 3 + 1, none⟩ = some (.string (txt (tokAt b.T i).s)) ∧ w.cell? ⟨bb, off + i * 3 + 2, none⟩ = some (.int .i64 ((tokAt b.T i).at_ : Int)) := by
 obtain ⟨bb, off, e, hlt, hc⟩ := h.toks.head (by omega)
 have ht : b.T[i]? = some (tokAt b.T i) := by
  unfold tokAt
  rw [List.getD_eq_getElem?_getD, List.getElem?_eq_getElem hi]
  rfl
 obtain ⟨h1, h2, h3⟩ := tcs_at ht
 refine ⟨bb, off, e, hlt, hc _ _ h1, ?_, ?_⟩
 ·rw [Nat.add_assoc]; exact hc _ _ h2
 ·rw [Nat.add_assoc]; exact hc _ _ h3
theorem Fq.own (hrb : Blk w b.pB 86 (psCells b R s).toArray) (hb : b.base ≤ b.pB) (ht : Turn w w' (some b.pB)) (hw : Bd b w) (ho : ∀ g ∈ b.out, g ≠ b.pB) : Fq b w w' := by
 refine ⟨below_turn ht hw.1 hb, fun g t cs hB _ _ _ _ a5 => hB.turn ht ?_, fun g hg => ht.block g (hw.2 g hg) (fun e => ho g hg (by injection e))⟩
 intro e
 injection e with e
 subst e
 have e := (show w.heap[b.pB]? = _ from hrb).symm.trans (show w.heap[b.pB]? = _ from hB)
 simp only [Option.some.injEq, Obj.cells.injEq] at e
 exact a5 e.2.1.symm
theorem PS.num (h : PS w b s) (hN : s'.N = s.N) (ha : s.at_ ≤ s'.at_) (hl : s'.at_ < b.T.length) (ht : Turn w w' (some b.pB)) (hc : ∀ R, Blk w b.pB 86 (psCells b R s).toArray → Blk w' b.pB 86 (psCells b R s').toArray) :
  PS w' b s' ∧ Fq b w w' := by
 obtain ⟨R, h1, h2, h3⟩ := h.mem
 have f := Fq.own h2 h.hb ht h.hw h.outs
 refine ⟨⟨h.hb, h.hw.mono ht.size, h.outs, h.toks.below f.1, h.tok, h.few, h.brief, h.hc, hl, by rw [hN]; exact h.ok.mono (by omega), R, by rw [hN]; exact h1.turn h2 ty_P ht, hc R h2, h3⟩, f⟩
theorem ps_set {j : Nat} {u : Value} (hs : (psCells b R s).set j u = psCells b R s') (h : Blk w b.pB 86 (psCells b R s).toArray) : Blk (w.setCell ⟨b.pB, j, none⟩ u) b.pB 86 (psCells b R s').toArray := by
 have := h.set_ j u
 rw [← hs]
 simpa using this
theorem PS.setAt (h : PS w b s) {a : Nat} (v : Int) (hv : v = (a : Int)) (ha : s.at_ ≤ a) (hl : a < b.T.length) : PS (w.setCell ⟨b.pB, 1, none⟩ (.int .i64 v)) b { s with at_ := a } ∧ Fq b w (w.setCell ⟨b.pB, 1, none⟩ (.int .i64 v)) := by
 subst hv
 exact h.num (s' := { s with at_ := a }) rfl ha hl (Blk.setTurn w b.pB 1 _) fun R hb => ps_set (s := s) rfl hb
end
section
variable {P : Program} {ops : Array Oper} {a : Act} {w : World} {Q : Exit → Act → World → Prop} {o : Oper} {g : Nat} {t : TypeId} {cs : Array Value} {xs : List Value}
theorem st_st {K : Act → World → Prop} {F : Prop} (hgd : o.guard = none) (ty : TypeId) (x y : Operand) (ho : o.op = .store ty x y) (hx : a.eval x = .pointer (some ⟨g, 0, none⟩)) (hy : a.eval y = .agg xs.toArray) (h : Blk w g t cs) (hsz : cs.size = xs.length)
  (hi : (P.info? ty).map (·.size) = some xs.length) (h1 : ∀ u ∈ xs, u.oneCell' = true) (hK : ∀ w', Blk w' g t xs.toArray → Turn w w' (some g) → K (a.put o.dst undef) w') :
  if Region.wanted o (yielded ops a.tmps) = true then Oper.wp P o a w K Q else F := by
 have hw : Region.wanted o (yielded ops a.tmps) = true := by simp [Region.wanted, hgd]
 rw [if_pos hw]
 unfold Oper.wp execOp
 simp only [ho, hx, hy, Sem.run_bind, run_st h hsz hi h1, Result.andThen_ok]
 exact hK _ (h.setRow xs) (Turn.setRow w g _)
end
theorem ptok_any {w : World} {b : QB} {s : St} (h : PS w b s) :
  Calls Tryz.prog 51 #[.pointer (some ⟨b.pB, 0, none⟩)] w fun e w' => e = .returned (tkV (tokAt b.T s.at_)) ∧ Turn w w' none := by
 obtain ⟨t, ht⟩ : ∃ t, t = tokAt b.T s.at_ := ⟨_, rfl⟩
 rw [← ht]
 have HT := hid ht
 clear ht
 have hat := h.at_
 have hfew := h.few
 go_enter Tryz.func51, Tryz.ntmps51
 go_wp2_with (refine wp_al rfl 90 rfl _ zTok ?_; intro g1 w1 hg1 hb1 ht1)
 have h1 := h.turn0 ht1
 obtain ⟨R, _, hrb, p0, p1, _, _, _, hf⟩ := h1.opn
 obtain ⟨bb, off, hA0, hbb, t0, t1, t2⟩ := h1.tk hat
 rw [← HT.out] at t0 t1 t2
 rw [hA0] at p0
 have hl1 := hrb.lt
 have hl2 := World.block_lt_of_cell? w1 _ t0
 have hb1 : Blk w1 g1 90 tz.toArray := hb1
 have hbd := hb1.drew
 refine wp_region_noPanic ?_
 refine wp_region_held_drew (S := (fun W => W.cell? ⟨b.pB, 0, none⟩ = some (.slice (some ⟨bb, off, none⟩) b.T.length b.c0) ∧ W.cell? ⟨b.pB, 1, none⟩ = some (.int .i64 (s.at_ : Int)) ∧ W.cell? ⟨bb, off + s.at_ * 3, none⟩ = some (.int .i64 (t.k : Int)) ∧ W.cell? ⟨bb, off + s.at_ * 3 + 1, none⟩ = some (.string (txt t.s)) ∧ W.cell? ⟨bb, off + s.at_ * 3 + 2, none⟩ = some (.int .i64 (t.at_ : Int)))) (by kernel_rfl) (⟨p0, p1, t0, t1, t2⟩) (fun hHeld => ?_)
 (first | refine tkN 0 ?_ | refine tkY 0 _ ?_); (try simp only [Act.put, zs])
 (first | refine tkN 1 ?_ | refine tkY 1 _ ?_); (try simp only [Act.put, zs])
 (first | refine tkN 2 ?_ | refine tkY 2 _ ?_); (try simp only [Act.put, zs])
 (first | refine tkN 3 ?_ | refine tkY 3 _ ?_); (try simp only [Act.put, zs])
 (first | refine tkN 4 ?_ | refine tkY 4 _ ?_); (try simp only [Act.put, zs])
 (first | refine tkN 5 ?_ | refine tkY 5 _ ?_); (try simp only [Act.put, zs])
 (first | refine tkN 6 ?_ | refine tkY 6 _ ?_); (try simp only [Act.put, zs])
 (first | refine tkN 7 ?_ | refine tkY 7 _ ?_); (try simp only [Act.put, zs])
 (first | refine tkN 8 ?_ | refine tkY 8 _ ?_); (try simp only [Act.put, zs])
 (first | refine tkN 9 ?_ | refine tkY 9 _ ?_); (try simp only [Act.put, zs])
 refine wpAnyH_ready (rs := [10]) (by kernel_rfl) (by simp) ?_
 refine AllReadyH.cons rfl (fun K hK => ?_) AllReadyH.nil
 refine st_st (xs := tc t) rfl 90 _ _ rfl rfl rfl hbd rfl szTok (tc_one t) ?_
 intro w2 hb2 ht2
 have hne : g1 < w.heap.size + 1 := by omega
 have hb1l := hb1.lt
 have T2 : Turn w1 w2 (some g1) := (Turn.refl w1 (some g1)).drew.trans ht2
 have n1 : b.pB ≠ g1 := fun e => by subst e; have := (show w1.heap[b.pB]? = _ from hrb).symm.trans (show w1.heap[b.pB]? = _ from hb1); simp at this
 have n2 : bb ≠ g1 := by have := h.hw.1; omega
 have m1 : some b.pB ≠ some g1 := fun e => n1 (by injection e)
 have m2 : some bb ≠ some g1 := fun e => n2 (by injection e)
 have k0 := (T2.cell (a := ⟨b.pB, 0, none⟩) hl1 m1).trans p0
 have k1 := (T2.cell (a := ⟨b.pB, 1, none⟩) hl1 m1).trans p1
 have k2 := (T2.cell (a := ⟨bb, off + s.at_ * 3, none⟩) hl2 m2).trans t0
 have k3 := (T2.cell (a := ⟨bb, off + s.at_ * 3 + 1, none⟩) hl2 m2).trans t1
 have k4 := (T2.cell (a := ⟨bb, off + s.at_ * 3 + 2, none⟩) hl2 m2).trans t2
 refine hK.out _ _ (⟨k0, k1, k2, k3, k4⟩) (fun hHeld => ?_)
 clear hK K
 (try simp only [Act.put, zs])
 refine wpAnyH_done (by kernel_rfl) ?_ _
 refine NoPanic.normal ?_
 clear hHeld
 go_wp2
 refine ret_cell Tryz.results51 rfl rfl hb2 Tryz.underlying90 rfl szTok ⟨rfl, ht1.new T2 (fun q e => by injection e with e; omega)⟩
def Uq (b : QB) (w : World) (s : St) (e : Ending) (w' : World) : Prop := e = .returned (.tuple #[]) ∧ PS w' b s ∧ Turn w w' (some b.pB)
theorem PS.fq {w w' : World} {b : QB} {s : St} (h : PS w b s) (ht : Turn w w' (some b.pB)) : Fq b w w' := by
 obtain ⟨R, _, hrb, _⟩ := h.mem
 exact Fq.own hrb h.hb ht h.hw h.outs
def Two2 (b : QB) (w w' : World) : Prop := w'.cell? ⟨b.pB, 2, none⟩ = w.cell? ⟨b.pB, 2, none⟩
theorem pbad_two {w : World} {b : QB} {s : St} (h : PS w b s) (is : Bool) (e : Nat) :
  Calls Tryz.prog 50 #[.pointer (some ⟨b.pB, 0, none⟩), .bool is, .int .i64 (e : Int)] w fun en w' => Uq b w (mBad b.T is e s) en w' ∧ Two2 b w w' := by
 obtain ⟨R, hN, hrb, p0, p1, p2, p3, p4, hf⟩ := h.opn
 have hw := h.hw
 by_cases hc : is = true ∧ s.why = 0
 case neg =>
  have HM := hid (show mBad b.T is e s = s by unfold mBad; rw [if_neg hc])
  have fin : Uq b w (mBad b.T is e s) (.returned (.tuple #[])) w ∧ Two2 b w w := ⟨⟨rfl, by rw [HM.out]; exact h, Turn.refl _ _⟩, rfl⟩
  have HF := hid fin
  clear fin
  cases is with
  | false =>
   clear hc
   go_enter Tryz.func50, Tryz.ntmps50
   go_wp2
   go_end0
   exact HF.out
  | true =>
   have e1 : ((s.why : Int) == 0) = false := by rw [beq_eq_false_iff_ne]; intro q; exact hc ⟨rfl, by omega⟩
   clear hc
   go_enter Tryz.func50, Tryz.ntmps50
   go_wp2
   go_end0
   exact HF.out
 case pos =>
  obtain ⟨rfl, hz⟩ := hc
  obtain ⟨t, ht⟩ : ∃ t, t = tokAt b.T s.at_ := ⟨_, rfl⟩
  have hat := h.at_
  have hfew := h.few
  obtain ⟨bb, off, hA0, hbb, t0, t1, t2⟩ := h.tk hat
  rw [← ht] at t2
  have HM := hid (show mBad b.T true e s = { s with why := e, bad := t.at_ } by rw [ht]; exact mBad_yes e hz)
  clear ht t0 t1
  rw [hA0] at p0
  have e1 : ((s.why : Int) == 0) = true := by rw [beq_iff_eq]; omega
  have hl1 := hrb.lt
  have f3 := hf 3
  have f4 := hf 4
  have n2 : bb ≠ b.pB := by have := h.hb; omega
  go_enter Tryz.func50, Tryz.ntmps50
  go_wp2
  refine wp_region_noPanic ?_
  refine wp_region_held_drew (S := (fun W => W.cell? ⟨b.pB, 0, none⟩ = some (.slice (some ⟨bb, off, none⟩) b.T.length b.c0) ∧ W.cell? ⟨b.pB, 1, none⟩ = some (.int .i64 (s.at_ : Int)) ∧ W.cell? ⟨bb, off + s.at_ * 3 + 2, none⟩ = some (.int .i64 (t.at_ : Int)))) (by kernel_rfl) (⟨p0, p1, t2⟩) (fun hHeld => ?_)
  (first | refine tkN 0 ?_ | refine tkY 0 _ ?_); (try simp only [Act.put, zs])
  (first | refine tkN 1 ?_ | refine tkY 1 _ ?_); (try simp only [Act.put, zs])
  (first | refine tkN 2 ?_ | refine tkY 2 _ ?_); (try simp only [Act.put, zs])
  (first | refine tkN 3 ?_ | refine tkY 3 _ ?_); (try simp only [Act.put, zs])
  (first | refine tkN 4 ?_ | refine tkY 4 _ ?_); (try simp only [Act.put, zs])
  (first | refine tkN 5 ?_ | refine tkY 5 _ ?_); (try simp only [Act.put, zs])
  (first | refine tkN 6 ?_ | refine tkY 6 _ ?_); (try simp only [Act.put, zs])
  (first | refine tkN 7 ?_ | refine tkY 7 _ ?_); (try simp only [Act.put, zs])
  (first | refine tkN 8 ?_ | refine tkY 8 _ ?_); (try simp only [Act.put, zs])
  (first | refine tkN 9 ?_ | refine tkY 9 _ ?_); (try simp only [Act.put, zs])
  (first | refine tkN 10 ?_ | refine tkY 10 _ ?_); (try simp only [Act.put, zs])
  (first | refine tkN 11 ?_ | refine tkY 11 _ ?_); (try simp only [Act.put, zs])
  (first | refine tkN 12 ?_ | refine tkY 12 _ ?_); (try simp only [Act.put, zs])
  (first | refine tkN 13 ?_ | refine tkY 13 _ ?_); (try simp only [Act.put, zs])
  (first | refine tkN 14 ?_ | refine tkY 14 _ ?_); (try simp only [Act.put, zs])
  (first | refine tkN 15 ?_ | refine tkY 15 _ ?_); (try simp only [Act.put, zs])
  refine wpAnyH_ready (rs := [16]) (by kernel_rfl) (by simp) ?_; refine AllReadyH.cons rfl (fun K hK => ?_) AllReadyH.nil
  go_simp
  obtain ⟨w1, hw1⟩ : ∃ w1, w1 = (w.setCell ⟨b.pB, 3, none⟩ (.int .i64 (e : Int))).drew := ⟨_, rfl⟩
  have T1 : Turn w w1 (some b.pB) := by rw [hw1]; exact (Blk.setTurn _ _ _ _).drew
  have b1 : Blk w1 b.pB 86 (psCells b R { s with why := e }).toArray := by rw [hw1]; exact (ps_set (s := s) rfl hrb).drew
  rw [← hw1]
  clear hw1
  have m2 : some bb ≠ some b.pB := fun e => n2 (by injection e)
  have c0 : w1.cell? ⟨b.pB, 0, none⟩ = some (.slice (some ⟨bb, off, none⟩) b.T.length b.c0) := (b1.cell 0).trans (by rw [← hA0]; rfl)
  have c1 : w1.cell? ⟨b.pB, 1, none⟩ = some (.int .i64 (s.at_ : Int)) := b1.cell 1
  have hl2 := World.block_lt_of_cell? w _ t2
  have c2 := (T1.cell (a := ⟨bb, off + s.at_ * 3 + 2, none⟩) hl2 m2).trans t2
  have g4 := b1.frozen 4
  have d4 : w1.cell? ⟨b.pB, 4, none⟩ = some (.int .i64 (s.bad : Int)) := b1.cell 4
  refine hK.out _ _ (⟨c0, c1, c2⟩) (fun hHeld => ?_)
  clear hK K
  (try simp only [Act.put, zs])
  (first | refine tkN 17 ?_ | refine tkY 17 _ ?_); (try simp only [Act.put, zs])
  (first | refine tkN 18 ?_ | refine tkY 18 _ ?_); (try simp only [Act.put, zs])
  refine wpAnyH_ready (rs := [19]) (by kernel_rfl) (by simp) ?_; refine AllReadyH.cons rfl (fun K hK => ?_) AllReadyH.nil
  go_simp
  obtain ⟨w2, hw2⟩ : ∃ w2, w2 = w1.setCell ⟨b.pB, 4, none⟩ (.int .i64 (t.at_ : Int)) := ⟨_, rfl⟩
  have T2 : Turn w1 w2 (some b.pB) := by rw [hw2]; exact Blk.setTurn _ _ _ _
  have b2 : Blk w2 b.pB 86 (psCells b R { s with why := e, bad := t.at_ }).toArray := by rw [hw2]; exact ps_set (s := { s with why := e }) rfl b1
  rw [← hw2]
  clear hw2
  have c0 : w2.cell? ⟨b.pB, 0, none⟩ = some (.slice (some ⟨bb, off, none⟩) b.T.length b.c0) := (b2.cell 0).trans (by rw [← hA0]; rfl)
  have c1 : w2.cell? ⟨b.pB, 1, none⟩ = some (.int .i64 (s.at_ : Int)) := b2.cell 1
  have c2 := (T2.cell (a := ⟨bb, off + s.at_ * 3 + 2, none⟩) (Nat.lt_of_lt_of_le hl2 T1.size) m2).trans c2
  refine hK.out _ _ (⟨c0, c1, c2⟩) (fun hHeld => ?_)
  clear hK K
  (try simp only [Act.put, zs])
  refine wpAnyH_done (by kernel_rfl) ?_ _
  refine NoPanic.normal ?_
  clear hHeld
  go_wp2
  go_end0
  have hk : ∀ R', Blk w b.pB 86 (psCells b R' s).toArray → Blk w2 b.pB 86 (psCells b R' { s with why := e, bad := t.at_ }).toArray := by
   intro R' hb
   have : psCells b R' s = psCells b R s := by
    have e1 := (show w.heap[b.pB]? = _ from hb).symm.trans (show w.heap[b.pB]? = _ from hrb)
    simp only [Option.some.injEq, Obj.cells.injEq] at e1
    simpa using e1.1
   have e2 : (R' none).v = (R none).v := by
    have := congrArg (fun l => l[2]?) this
    simpa [psCells] using this
   have : psCells b R' { s with why := e, bad := t.at_ } = psCells b R { s with why := e, bad := t.at_ } := by unfold psCells; rw [e2]
   rw [this]
   exact b2
  rw [HM.out]
  obtain ⟨k1, k2⟩ := h.num (w' := w2) (s' := { s with why := e, bad := t.at_ }) rfl (Nat.le_refl _) hat (T1.trans T2) hk
  exact ⟨⟨rfl, k1, T1.trans T2⟩, (b2.cell 2).trans (hrb.cell 2).symm⟩
theorem pbad_any {w : World} {b : QB} {s : St} (h : PS w b s) (is : Bool) (e : Nat) :
  Calls Tryz.prog 50 #[.pointer (some ⟨b.pB, 0, none⟩), .bool is, .int .i64 (e : Int)] w (Uq b w (mBad b.T is e s)) := (pbad_two h is e).mono fun _ _ q => q.1
theorem pon_any {w : World} {b : QB} {s : St} (h : PS w b s) :
  Calls Tryz.prog 82 #[.pointer (some ⟨b.pB, 0, none⟩)] w (Uq b w (mOn b.T s)) := by
 obtain ⟨R, hN, hrb, p0, p1, p2, p3, p4, hf⟩ := h.opn
 have hw := h.hw
 have hat := h.at_
 have hfew := h.few
 have hf1 := hf 1
 by_cases hz : s.why = 0
 case neg =>
  have HM := hid (mOn_stuck (T := b.T) hz)
  have e1 : ((s.why : Int) == 0) = false := by rw [beq_eq_false_iff_ne]; omega
  go_enter Tryz.func82, Tryz.ntmps82
  go_wp2_with (fail)
  go_quiet (fail)
  have hT : Turn w (w.drewN nq) none := (Turn.refl w none).drewN nq
  go_wp2
  go_end0
  rw [HM.out]
  exact ⟨rfl, h.turn0 hT, hT.any _⟩
 case pos =>
  have e1 : ((s.why : Int) == 0) = true := by rw [beq_iff_eq]; omega
  by_cases hl : s.at_ + 1 < b.T.length
  case neg =>
   have HM := hid (show mOn b.T s = s by unfold mOn; rw [if_neg fun x => hl x.2])
   have l1 : ¬((s.at_ : Int) + 1 < (b.T.length : Int)) := by omega
   clear hl
   go_enter Tryz.func82, Tryz.ntmps82
   go_wp2_with (fail)
   go_quiet (fail)
   have hT : Turn w (w.drewN nq) none := (Turn.refl w none).drewN nq
   go_wp2
   go_end0
   rw [HM.out]
   exact ⟨rfl, h.turn0 hT, hT.any _⟩
  case pos =>
   have HM := hid (mOn_more (T := b.T) hz hl)
   have l1 : (s.at_ : Int) + 1 < (b.T.length : Int) := by omega
   go_enter Tryz.func82, Tryz.ntmps82
   go_wp2_with (fail)
   go_quiet (fail)
   have hT : Turn w (w.drewN nq) none := (Turn.refl w none).drewN nq
   have h1 := h.turn0 hT
   obtain ⟨h3, f3⟩ := h1.setAt (a := s.at_ + 1) ((s.at_ : Int) + 1) (by omega) (by omega) hl
   go_wp2
   go_end0
   rw [HM.out]
   exact ⟨rfl, h3, (hT.any _).trans (Blk.setTurn _ _ _ _)⟩
open Go.RowKit
theorem rlow_any (c : UInt8) (w : World) : Calls Tryz.prog 75 #[.int .u8 (c.toNat : Int)] w fun e w' => e = .returned (.bool (wLow c)) ∧ w = w' := by
 rcases wLow_cases c with ⟨h1, h⟩ | ⟨h1, h2, h⟩ | ⟨h0, h1, h⟩
 all_goals
  have H := hid h
  clear h
  go_enter Tryz.func75, Tryz.ntmps75
  go_wp2
  all_goals go_ret
  all_goals exact ⟨by rw [H.out]; first | rfl | (refine congrArg (fun b => Ending.returned (.bool b)) ?_; exact decide_eq_false (by omega)), rfl⟩
theorem rnum_any (c : UInt8) (w : World) : Calls Tryz.prog 76 #[.int .u8 (c.toNat : Int)] w fun e w' => e = .returned (.bool (wNum c)) ∧ w = w' := by
 rcases wNum_cases c with ⟨h1, h⟩ | ⟨h1, h2, h⟩ | ⟨h0, h1, h⟩
 all_goals
  have H := hid h
  clear h
  go_enter Tryz.func76, Tryz.ntmps76
  go_wp2
  all_goals go_ret
  all_goals exact ⟨by rw [H.out]; first | rfl | (refine congrArg (fun b => Ending.returned (.bool b)) ?_; exact decide_eq_false (by omega)), rfl⟩
theorem rname_any (s : ByteArray) (l : List UInt8) (w : World) (hs : Tx s l) : Calls Tryz.prog 120 #[.string s] w fun e w' => e = .returned (.bool (wName l)) ∧ w = w' := by
 obtain ⟨n, hn⟩ : ∃ n, l.length = n := ⟨_, rfl⟩
 have hsz : s.size = n := hs.size.trans hn
 have hli := hs.list
 cases l with
 | nil =>
  have h0 : s.toList.isEmpty = true := by rw [hli]; rfl
  have h1 : s.toList = [] := hli
  clear hli
  go_enter Tryz.func120, Tryz.ntmps120
  go_wp2_with fail
  go_ret
  exact ⟨rfl, rfl⟩
 | cons c r =>
  have h0 : s.toList.isEmpty = false := by rw [hli]; rfl
  have h1 : ¬ s.toList = [] := by rw [hli]; simp
  have hc0 := hs.at_ (i := 0) (c := c) rfl
  have hnp : 0 < n := by rw [← hn]; simp
  obtain ⟨l, hl⟩ : ∃ l, l = c :: r := ⟨_, rfl⟩
  have hl0 : l[0]? = some c := by rw [hl]; rfl
  rw [← hl] at hs hn hli
  rw [← hl]
  clear hl hli
  by_cases hlong : 40 < n
  ·have H := hid (wName_long (l := l) (by omega))
   have hlong2 : (40 : Int) < n := by omega
   go_enter Tryz.func120, Tryz.ntmps120
   go_wp2_with fail
   go_ret
   exact ⟨by rw [H.out]; rfl, rfl⟩
  ·have hlong2 : (n : Int) ≤ 40 := by omega
   cases hlow : wLow c with
   | false =>
    have H := hid (wName_first hl0 hlow)
    have HL := hid hlow
    clear hlow
    go_enter Tryz.func120, Tryz.ntmps120
    go_wp2_with (go_at_call 75; refine (rlow_any c _).mono ?_; rintro e w' ⟨rfl, rfl⟩; rw [HL.out])
    go_ret
    exact ⟨by rw [H.out]; rfl, rfl⟩
   | true =>
    have H := hid (wName_in hl0 hlow (by omega))
    have HL := hid hlow
    clear hlow
    go_enter Tryz.func120, Tryz.ntmps120
    go_wp2_with (go_at_call 75; refine (rlow_any c _).mono ?_; rintro e w' ⟨rfl, rfl⟩; rw [HL.out])
    go_loopw [3] (fun i wr => ∃ j : Nat, j ≤ n ∧ i = .int .i64 (j : Int) ∧ (l.take j).all wIn = true ∧ w = wr) (fun i _ => (n - intOf i).toNat)
    case atStart => exact ⟨0, by omega, rfl, by simp, rfl⟩
    case round =>
     obtain ⟨j, hj, rfl, hall, rfl⟩ := hrel
     by_cases hjn : j < n
     ·obtain ⟨d, hd⟩ : ∃ d, l[j]? = some d := ⟨l[j]'(by omega), List.getElem?_eq_getElem (by omega)⟩
      have hcj := hs.at_ hd
      have hin := all_next (p := wIn) hd
      rw [hall, Bool.true_and] at hin
      have hno := all_not (p := wIn) hd
      have HI := hid hin
      have HNO := hid hno
      clear hin hno hall
      have hd256 := d.toNat_lt
      have hw : wIn d = (wLow d || wNum d || decide (d.toNat = 95)) := rfl
      cases h1 : wLow d with
      | true =>
       rw [h1, Bool.true_or, Bool.true_or] at hw
       have H1 := hid h1
       have HW := hid hw
       clear h1 hw
       go_wp2_with (go_at_call 75; refine (rlow_any d _).mono ?_; rintro e w' ⟨rfl, rfl⟩; rw [H1.out])
       refine ⟨⟨j + 1, by omega, by go_num, by rw [HI.out, HW.out], trivial⟩, ?_⟩
       simp [intOf]; omega
      | false =>
       cases h2 : wNum d with
       | true =>
        rw [h1, h2, Bool.false_or, Bool.true_or] at hw
        have H1 := hid h1
        have H2 := hid h2
        have HW := hid hw
        clear h1 h2 hw
        go_wp2_with (first | (go_at_call 75; refine (rlow_any d _).mono ?_; rintro e w' ⟨rfl, rfl⟩; rw [H1.out]) | (go_at_call 76; refine (rnum_any d _).mono ?_; rintro e w' ⟨rfl, rfl⟩; rw [H2.out]))
        refine ⟨⟨j + 1, by omega, by go_num, by rw [HI.out, HW.out], trivial⟩, ?_⟩
        simp [intOf]; omega
       | false =>
        rw [h1, h2, Bool.false_or, Bool.false_or] at hw
        have H1 := hid h1
        have H2 := hid h2
        have HW := hid hw
        clear h1 h2 hw
        by_cases h95 : d.toNat = 95
        ·have e1 : ((d.toNat : Int) != 95) = false := by rw [h95]; rfl
         have e2 : ((d.toNat : Int) == 95) = true := by rw [h95]; rfl
         have HT : Hid (decide (d.toNat = 95) = true) := hid (decide_eq_true h95)
         clear h95
         go_wp2_with (first | (go_at_call 75; refine (rlow_any d _).mono ?_; rintro e w' ⟨rfl, rfl⟩; rw [H1.out]) | (go_at_call 76; refine (rnum_any d _).mono ?_; rintro e w' ⟨rfl, rfl⟩; rw [H2.out]))
         refine ⟨⟨j + 1, by omega, by go_num, by rw [HI.out, HW.out, HT.out], trivial⟩, ?_⟩
         simp [intOf]; omega
        ·have e1 : ((d.toNat : Int) != 95) = true := by rw [bne_iff_ne]; omega
         have e2 : ((d.toNat : Int) == 95) = false := by rw [beq_eq_false_iff_ne]; omega
         have HF := hid (HNO.out (by rw [HW.out]; exact decide_eq_false h95))
         clear h95
         go_wp2_with (first | (go_at_call 75; refine (rlow_any d _).mono ?_; rintro e w' ⟨rfl, rfl⟩; rw [H1.out]) | (go_at_call 76; refine (rnum_any d _).mono ?_; rintro e w' ⟨rfl, rfl⟩; rw [H2.out]))
         go_ret
         exact ⟨by rw [H.out, HF.out]; rfl, rfl⟩
     ·obtain rfl : j = n := by omega
      rw [List.take_of_length_le (by omega)] at hall
      have HA := hid hall
      clear hall
      go_wp2
      go_ret
      exact ⟨by rw [H.out, HA.out]; rfl, rfl⟩
theorem rnumber_any (s : ByteArray) (l : List UInt8) (w : World) (hs : Tx s l) (hb : s.size ≤ 140737488355328) : Calls Tryz.prog 123 #[.string s] w (NmPost l w) := by
 obtain ⟨n, hn⟩ : ∃ n, l.length = n := ⟨_, rfl⟩
 have hsz : s.size = n := hs.size.trans hn
 rw [hsz] at hb
 have HLI := hid hs.list
 go_enter Tryz.func123, Tryz.ntmps123
 go_wp2
 go_loopw [4, 5] (fun v i wr => ∃ j m : Nat, j ≤ n ∧ i = .int .i64 (j : Int) ∧ v = .int .i64 (m : Int) ∧ Hid (wNumAt (l.take j) = m) ∧ m ≤ 40969 ∧ Hid ((l.take j).all wNum = true) ∧ (j ≤ 1 ∨ l[0]? ≠ some 48) ∧ w = wr) (fun _ i _ => (n - intOf i).toNat)
 case atStart => exact ⟨0, 0, by omega, rfl, rfl, hid rfl, by omega, hid (by simp), .inl (by omega), rfl⟩
 case round =>
  obtain ⟨j, m, hj, rfl, rfl, HM, hm, HA, hh, rfl⟩ := hrel
  by_cases hjn : j < n
  ·obtain ⟨d, hd⟩ : ∃ d, l[j]? = some d := ⟨l[j]'(by omega), List.getElem?_eq_getElem (by omega)⟩
   have hcj := hs.at_ hd
   have HD := hid hd
   clear hd
   rcases wNum_cases d with ⟨d1, h2⟩ | ⟨d1, d2, h2⟩ | ⟨d1, d2, h2⟩
   case inl =>
    have H2 := hid h2
    clear h2
    go_wp2_with (go_at_call 76; refine (rnum_any d _).mono ?_; rintro e w' ⟨rfl, rfl⟩; rw [H2.out])
    go_ret2
    exact nm_no (wOk_not HD.out H2.out)
   case inr.inr =>
    have H2 := hid h2
    clear h2
    go_wp2_with (go_at_call 76; refine (rnum_any d _).mono ?_; rintro e w' ⟨rfl, rfl⟩; rw [H2.out])
    go_ret2
    exact nm_no (wOk_not HD.out H2.out)
   case inr.inl =>
    have H2 := hid h2
    clear h2
    by_cases hm4 : 4096 < m
    ·have hm4i : (4096 : Int) < m := by omega
     go_wp2_with (go_at_call 76; refine (rnum_any d _).mono ?_; rintro e w' ⟨rfl, rfl⟩; rw [H2.out])
     go_ret2
     exact nm_no (wOk_great (j := j) (by rw [HM.out]; exact hm4))
    ·have hm4i : (m : Int) ≤ 4096 := by omega
     by_cases hz : j = 1 ∧ m = 0
     ·obtain ⟨rfl, rfl⟩ := hz
      go_wp2_with (go_at_call 76; refine (rnum_any d _).mono ?_; rintro e w' ⟨rfl, rfl⟩; rw [H2.out])
      go_ret2
      refine nm_no (wOk_nought ?_ (by omega))
      obtain ⟨c, hc⟩ : ∃ c, l[0]? = some c := ⟨l[0]'(by omega), List.getElem?_eq_getElem (by omega)⟩
      have h1 := HM.out
      have h3 := HA.out
      rw [wNumAt_next hc] at h1
      rw [all_next hc, Bool.and_eq_true] at h3
      have h4 := h3.2
      unfold wNum at h4
      rw [decide_eq_true_iff] at h4
      simp only [List.take_zero, wNumAt, List.foldl_nil, Nat.zero_mul, Nat.zero_add] at h1
      rw [hc]
      congr 1
      apply UInt8.toNat_inj.1
      show c.toNat = 48
      omega
     ·have hh2 : j + 1 ≤ 1 ∨ l[0]? ≠ some 48 := by
       rcases Nat.lt_or_ge j 1 with h | h
       ·exact .inl (by omega)
       ·rcases hh with hh | hh
        ·obtain rfl : j = 1 := by omega
         have hm0 : m ≠ 0 := fun e => hz ⟨rfl, e⟩
         refine .inr fun e => hm0 ?_
         have h1 := HM.out
         rw [wNumAt_next e] at h1
         rw [← h1]
         rfl
        ·exact .inr hh
      have hzb : ((j : Int) == 1) = false ∨ (((j : Int) == 1) = true ∧ ((m : Int) == 0) = false) := by
       by_cases h1 : j = 1
       ·right
        refine ⟨by rw [h1]; rfl, ?_⟩
        rw [beq_eq_false_iff_ne]
        intro e
        exact hz ⟨h1, by omega⟩
       ·left
        rw [beq_eq_false_iff_ne]
        omega
      clear hz hh
      have HH := hid hh2
      clear hh2
      rcases hzb with hz1 | ⟨hz1, hz2⟩
      all_goals
       go_wp2_with (go_at_call 76; refine (rnum_any d _).mono ?_; rintro e w' ⟨rfl, rfl⟩; rw [H2.out])
       refine ⟨⟨j + 1, m * 10 + (d.toNat - 48), by omega, by go_num, by go_num, hid (by rw [wNumAt_next HD.out, HM.out]), by omega, hid (by rw [all_next HD.out, HA.out, H2.out]; rfl), HH.out, trivial⟩, ?_⟩
       simp [intOf]; omega
  ·obtain rfl : j = n := by omega
   have hfull : l.take j = l := List.take_of_length_le (by omega)
   by_cases hj0 : j = 0
   ·have hl0 : l = [] := List.eq_nil_of_length_eq_zero (by omega)
    have e0 : s.toList.isEmpty = true := by rw [HLI.out, hl0]; rfl
    have e1 : s.toList = [] := by rw [HLI.out, hl0]
    have HO := hid (show wOk l = false by rw [hl0]; rfl)
    clear hl0 hfull hj0
    go_wp2
    go_ret2
    exact nm_no HO.out
   ·have hl0 : l ≠ [] := fun e => hj0 (by rw [← hn, e]; rfl)
    have e0 : s.toList.isEmpty = false := by
     rw [HLI.out]
     cases l with
     | nil => exact absurd rfl hl0
     | cons c r => rfl
    have e1 : ¬ s.toList = [] := by rw [HLI.out]; exact hl0
    by_cases hm4 : 4096 < m
    ·have hm4i : (4096 : Int) < m := by omega
     have HO := hid (wOk_great (l := l) (j := j) (by rw [HM.out]; exact hm4))
     clear hl0 hfull
     go_wp2
     go_ret2
     exact nm_no HO.out
    ·have hm4i : (m : Int) ≤ 4096 := by omega
     have h1 := HM.out
     have h2 := HA.out
     rw [hfull] at h1 h2
     have HO := hid (wOk_yes hl0 h2 (hh.imp (fun h => by omega) id) (by omega))
     have H1 := hid h1
     clear hl0 hfull h1 h2 hh
     go_wp2
     go_ret2
     exact ⟨by rw [HO.out, H1.out]; rfl, rfl⟩
open Go.RowKit
theorem fld0 (k a : Int) (s : ByteArray) : ∀ w, (Instr.field 90 (.agg #[.int .i64 k, .string s, .int .i64 a]) 0).run Tryz.prog w = .ok (.int .i64 k) w := fun _ => by kernel_rfl
theorem fld1 (k a : Int) (s : ByteArray) : ∀ w, (Instr.field 90 (.agg #[.int .i64 k, .string s, .int .i64 a]) 1).run Tryz.prog w = .ok (.string s) w := fun _ => by kernel_rfl
section
variable {w : World} {b : QB} {s : St}
theorem ptok_t {t : Tok} (HT : Hid (t = tokAt b.T s.at_)) (h : PS w b s) :
  Calls Tryz.prog 51 #[.pointer (some ⟨b.pB, 0, none⟩)] w fun e w' => e = .returned (.agg #[.int .i64 (t.k : Int), .string (txt t.s), .int .i64 (t.at_ : Int)]) ∧ Turn w w' none := by
 rw [HT.out]; exact ptok_any h
theorem mHere_no {T : List Tok} {x : List UInt8} (h : ¬((tokAt T s.at_).k = 2 ∧ (tokAt T s.at_).s = x)) : mHere T x s = false := by
 cases hh : mHere T x s with
 | false => rfl
 | true => exact absurd ((mHere_iff _).1 hh) h
theorem psign_any (h : PS w b s) (x : List UInt8) :
  Calls Tryz.prog 83 #[.pointer (some ⟨b.pB, 0, none⟩), .string (txt x)] w (Uq b w (mSg b.T x s)) := by
 have hw := h.hw
 have hT := Turn.refl w none
 obtain ⟨t, ht⟩ : ∃ t, t = tokAt b.T s.at_ := ⟨_, rfl⟩
 have HT := hid ht
 have q0 := fld0 t.k t.at_ (txt t.s)
 have q1 := fld1 t.k t.at_ (txt t.s)
 by_cases hk : t.k = 2
 ·by_cases hx : t.s = x
  ·have HM := hid (show mSg b.T x s = mOn b.T (mBad b.T false 4 s) by unfold mSg; rw [(mHere_iff x).2 (by rw [← ht]; exact ⟨hk, hx⟩)]; rfl)
   have e1 : ((t.k : Int) != 2) = false := by rw [bne_eq_false_iff_eq]; omega
   have e2 : ((txt t.s).toList == (txt x).toList) = true := by rw [tx_beq]; simpa using hx
   clear ht hk hx
   go_enter Tryz.func83, Tryz.ntmps83
   go_wp2_with (first
    | (go_at_call 51; refine (ptok_t HT (h.turn0 hT)).mono ?_; rintro e w1 ⟨rfl, ht1⟩; have hT := hT.trans ht1)
    | (go_at_call 50; refine (pbad_any (h.turn0 hT) false 4).mono ?_; rintro e w2 ⟨rfl, h2, f2⟩)
    | (go_at_call 82; refine (pon_any h2).mono ?_; rintro e w3 ⟨rfl, h3, f3⟩))
   go_end0
   rw [HM.out]
   exact ⟨rfl, h3, ((hT.any _).trans f2).trans f3⟩
  ·have HM := hid (show mSg b.T x s = mOn b.T (mBad b.T true 4 s) by unfold mSg; rw [mHere_no (by rw [← ht]; exact fun q => hx q.2)]; rfl)
   have e1 : ((t.k : Int) != 2) = false := by rw [bne_eq_false_iff_eq]; omega
   have e2 : ((txt t.s).toList == (txt x).toList) = false := by rw [tx_beq]; simpa using hx
   clear ht hk hx
   go_enter Tryz.func83, Tryz.ntmps83
   go_wp2_with (first
    | (go_at_call 51; refine (ptok_t HT (h.turn0 hT)).mono ?_; rintro e w1 ⟨rfl, ht1⟩; have hT := hT.trans ht1)
    | (go_at_call 50; refine (pbad_any (h.turn0 hT) true 4).mono ?_; rintro e w2 ⟨rfl, h2, f2⟩)
    | (go_at_call 82; refine (pon_any h2).mono ?_; rintro e w3 ⟨rfl, h3, f3⟩))
   go_end0
   rw [HM.out]
   exact ⟨rfl, h3, ((hT.any _).trans f2).trans f3⟩
 ·have HM := hid (show mSg b.T x s = mOn b.T (mBad b.T true 4 s) by unfold mSg; rw [mHere_no (by rw [← ht]; exact fun q => hk q.1)]; rfl)
  have e1 : ((t.k : Int) != 2) = true := by rw [bne_iff_ne]; omega
  clear ht hk
  go_enter Tryz.func83, Tryz.ntmps83
  go_wp2_with (first
   | (go_at_call 51; refine (ptok_t HT (h.turn0 hT)).mono ?_; rintro e w1 ⟨rfl, ht1⟩; have hT := hT.trans ht1)
   | (go_at_call 50; refine (pbad_any (h.turn0 hT) true 4).mono ?_; rintro e w2 ⟨rfl, h2, f2⟩)
   | (go_at_call 82; refine (pon_any h2).mono ?_; rintro e w3 ⟨rfl, h3, f3⟩))
  go_end0
  rw [HM.out]
  exact ⟨rfl, h3, ((hT.any _).trans f2).trans f3⟩
theorem phere_any (h : PS w b s) (x : List UInt8) :
  Calls Tryz.prog 122 #[.pointer (some ⟨b.pB, 0, none⟩), .string (txt x)] w fun e w' => e = .returned (.bool (mHere b.T x s)) ∧ Turn w w' none := by
 have hw := h.hw
 have hT := Turn.refl w none
 obtain ⟨t, ht⟩ : ∃ t, t = tokAt b.T s.at_ := ⟨_, rfl⟩
 have HT := hid ht
 have q0 := fld0 t.k t.at_ (txt t.s)
 have q1 := fld1 t.k t.at_ (txt t.s)
 by_cases hk : t.k = 2
 ·have HM := hid (show mHere b.T x s = ((txt t.s).toList == (txt x).toList) by rw [tx_beq]; unfold mHere; rw [← ht, decide_eq_true hk, Bool.true_and])
  have e1 : ((t.k : Int) == 2) = true := by rw [beq_iff_eq]; omega
  clear ht hk
  go_enter Tryz.func122, Tryz.ntmps122
  go_wp2_with (go_at_call 51; refine (ptok_t HT (h.turn0 hT)).mono ?_; rintro e w1 ⟨rfl, ht1⟩; have hT := hT.trans ht1)
  go_ret
  exact ⟨by rw [HM.out]; rfl, hT⟩
 ·have HM := hid (show mHere b.T x s = false from mHere_no (by rw [← ht]; exact fun q => hk q.1))
  have e1 : ((t.k : Int) == 2) = false := by rw [beq_eq_false_iff_ne]; omega
  clear ht hk
  go_enter Tryz.func122, Tryz.ntmps122
  go_wp2_with (go_at_call 51; refine (ptok_t HT (h.turn0 hT)).mono ?_; rintro e w1 ⟨rfl, ht1⟩; have hT := hT.trans ht1)
  go_ret
  exact ⟨by rw [HM.out]; rfl, hT⟩
theorem pNm_is (t : Tok) : pNm t.tt = (decide (t.k = 0) && (wName t.s && !isKey t.s)) := by
 have h1 : pNm t.tt = (decide (t.k = 0) && wName t.s && (pWord t.s).isNone) := rfl
 rw [h1, ← key_eq, Bool.and_assoc]
 congr 1
 unfold keyW
 cases wName t.s <;> cases pWord t.s <;> rfl
theorem pname_any (h : PS w b s) :
  Calls Tryz.prog 79 #[.pointer (some ⟨b.pB, 0, none⟩)] w fun e w' => e = .returned (.string (txt (tokAt b.T s.at_).s)) ∧ PS w' b (mNm b.T s) ∧ Turn w w' (some b.pB) := by
 have hw := h.hw
 have hT := Turn.refl w none
 obtain ⟨t, ht⟩ : ∃ t, t = tokAt b.T s.at_ := ⟨_, rfl⟩
 have HT := hid ht
 have HM := hid (show mNm b.T s = mBad b.T (!(decide (t.k = 0) && (wName t.s && !isKey t.s))) 4 s by unfold mNm; rw [← ht, pNm_is])
 rw [← ht]
 clear ht
 have kn := fun w => rname_any (txt t.s) t.s w rfl
 have kk := fun w => rkey_any (txt t.s) t.s w rfl
 by_cases hk : t.k = 0
 ·have e1 : ((t.k : Int) != 0) = false := by rw [bne_eq_false_iff_eq]; omega
  rw [decide_eq_true hk, Bool.true_and] at HM
  clear hk
  cases hn : wName t.s with
  | false =>
   rw [hn] at HM kn
   clear hn
   go_enter Tryz.func79, Tryz.ntmps79
   go_wp2_with (first
    | (go_at_call 51; refine (ptok_t HT (h.turn0 hT)).mono ?_; rintro e w1 ⟨rfl, ht1⟩; have hT := hT.trans ht1)
    | (refine wp_var rfl rfl 90 _ _ rfl rfl rfl rfl zTok (fun _ => rfl) (xs := tc t) (fun _ => rfl) rfl szTok (tc_one t) ?_; intro g2 w2 hgg2 hb2 ht2; have c1 := tok1 hb2; have c0 := tok0 hb2)
    | (go_at_call 120; refine (kn _).mono ?_; rintro e w3 ⟨rfl, rfl⟩)
    | (go_at_call 50; refine (pbad_any ((h.turn0 hT).turn0 ht2) true 4).mono ?_; rintro e w4 ⟨rfl, h4, f4⟩; have c1 := tok1 ((((h.turn0 hT).turn0 ht2).fq f4).tok hb2)))
   go_ret
   rw [HM.out]
   exact ⟨rfl, h4, ((hT.trans ht2).any _).trans f4⟩
  | true =>
   rw [hn] at HM kn
   clear hn
   cases hkey : isKey t.s with
   | true =>
    rw [hkey] at HM kk
    clear hkey
    go_enter Tryz.func79, Tryz.ntmps79
    go_wp2_with (first
     | (go_at_call 51; refine (ptok_t HT (h.turn0 hT)).mono ?_; rintro e w1 ⟨rfl, ht1⟩; have hT := hT.trans ht1)
     | (refine wp_var rfl rfl 90 _ _ rfl rfl rfl rfl zTok (fun _ => rfl) (xs := tc t) (fun _ => rfl) rfl szTok (tc_one t) ?_; intro g2 w2 hgg2 hb2 ht2; have c1 := tok1 hb2; have c0 := tok0 hb2)
     | (go_at_call 120; refine (kn _).mono ?_; rintro e w3 ⟨rfl, rfl⟩)
     | (go_at_call 121; refine (kk _).mono ?_; rintro e w5 ⟨rfl, ht5⟩)
     | (go_at_call 50; refine (pbad_any (((h.turn0 hT).turn0 ht2).turn0 ht5) true 4).mono ?_; rintro e w4 ⟨rfl, h4, f4⟩; have c1 := tok1 (((((h.turn0 hT).turn0 ht2).turn0 ht5).fq f4).tok (hb2.turn0 ht5))))
    go_ret
    rw [HM.out]
    exact ⟨rfl, h4, (((hT.trans ht2).trans ht5).any _).trans f4⟩
   | false =>
    rw [hkey] at HM kk
    clear hkey
    go_enter Tryz.func79, Tryz.ntmps79
    go_wp2_with (first
     | (go_at_call 51; refine (ptok_t HT (h.turn0 hT)).mono ?_; rintro e w1 ⟨rfl, ht1⟩; have hT := hT.trans ht1)
     | (refine wp_var rfl rfl 90 _ _ rfl rfl rfl rfl zTok (fun _ => rfl) (xs := tc t) (fun _ => rfl) rfl szTok (tc_one t) ?_; intro g2 w2 hgg2 hb2 ht2; have c1 := tok1 hb2; have c0 := tok0 hb2)
     | (go_at_call 120; refine (kn _).mono ?_; rintro e w3 ⟨rfl, rfl⟩)
     | (go_at_call 121; refine (kk _).mono ?_; rintro e w5 ⟨rfl, ht5⟩)
     | (go_at_call 50; refine (pbad_any (((h.turn0 hT).turn0 ht2).turn0 ht5) false 4).mono ?_; rintro e w4 ⟨rfl, h4, f4⟩; have c1 := tok1 (((((h.turn0 hT).turn0 ht2).turn0 ht5).fq f4).tok (hb2.turn0 ht5))))
    go_ret
    rw [HM.out]
    exact ⟨rfl, h4, (((hT.trans ht2).trans ht5).any _).trans f4⟩
 ·have e1 : ((t.k : Int) != 0) = true := by rw [bne_iff_ne]; omega
  rw [decide_eq_false hk, Bool.false_and] at HM
  clear hk
  go_enter Tryz.func79, Tryz.ntmps79
  go_wp2_with (first
   | (go_at_call 51; refine (ptok_t HT (h.turn0 hT)).mono ?_; rintro e w1 ⟨rfl, ht1⟩; have hT := hT.trans ht1)
   | (refine wp_var rfl rfl 90 _ _ rfl rfl rfl rfl zTok (fun _ => rfl) (xs := tc t) (fun _ => rfl) rfl szTok (tc_one t) ?_; intro g2 w2 hgg2 hb2 ht2; have c1 := tok1 hb2; have c0 := tok0 hb2)
   | (go_at_call 50; refine (pbad_any ((h.turn0 hT).turn0 ht2) true 4).mono ?_; rintro e w4 ⟨rfl, h4, f4⟩; have c1 := tok1 ((((h.turn0 hT).turn0 ht2).fq f4).tok hb2)))
  go_ret
  rw [HM.out]
  exact ⟨rfl, h4, ((hT.trans ht2).any _).trans f4⟩
end
open Go.RowKit
theorem calledI_at {S : List Nd} {x : List UInt8} {j : Nat} {y : Nd} (hj : S[j]? = some y) (hk : 9 ≤ y.k) (hy : y.name = x) (hno : ∀ m z, m < j → S[m]? = some z → ¬(9 ≤ z.k ∧ z.name = x)) : calledI S x = (j : Int) := by
 have hl : j < S.length := (List.getElem?_eq_some_iff.1 hj).1
 have : pCalled S x = some j := by
  unfold pCalled
  rw [List.findIdx?_eq_some_iff_getElem]
  refine ⟨hl, ?_, fun m hm => ?_⟩
  ·rw [List.getElem?_eq_getElem hl, Option.some.injEq] at hj
   rw [hj, decide_eq_true hk, Bool.true_and]; simpa using hy
  ·have := hno m S[m] hm (List.getElem?_eq_getElem (by omega))
   simpa using this
 unfold calledI
 rw [this]
theorem calledI_none {S : List Nd} {x : List UInt8} (hno : ∀ m z, m < S.length → S[m]? = some z → ¬(9 ≤ z.k ∧ z.name = x)) : calledI S x = -1 := by
 have : pCalled S x = none := by
  unfold pCalled
  rw [List.findIdx?_eq_none_iff]
  intro z hz
  obtain ⟨m, hm, rfl⟩ := List.mem_iff_getElem.1 hz
  have := hno m S[m] hm (List.getElem?_eq_getElem hm)
  simpa using this
 unfold calledI
 rw [this]
section
variable {w w1 : World} {b : QB} {s s' : St} {R R' : Ix → Rw}
theorem PS.nd (h : PS w b s) {i : Nat} {x : Nd} (hx : s.N[i]? = some x) : ∃ R g, NR w b.base R s.N ∧ w.cell? ⟨b.pB, 2, none⟩ = some (.slice (some ⟨g, 0, none⟩) s.N.length (R none).c) ∧ (R none).A = some ⟨g, 0, none⟩ ∧ g < w.heap.size ∧
  ∀ j u, (ndRow R i x)[j]? = some u → w.cell? ⟨g, i * 6 + j, none⟩ = some u := by
 obtain ⟨R, hN, _, _, _, p2, _⟩ := h.opn
 obtain ⟨g, hA, hg, _, hc, _⟩ := hN.at_ hx
 rw [hA] at p2
 exact ⟨R, g, hN, p2, hA, hg, hc⟩
theorem pcalled_any (h : PS w b s) (x : List UInt8) :
  Calls Tryz.prog 80 #[.pointer (some ⟨b.pB, 0, none⟩), .string (txt x)] w fun e w' => e = .returned (.int .i64 (calledI s.N x)) ∧ Turn w w' none := by
 have hS := h.ok.few
 obtain ⟨R, hN, _, _, _, p2, _⟩ := h.opn
 go_enter Tryz.func80, Tryz.ntmps80
 go_wp2
 go_loopw [5] (fun i wr => ∃ j : Nat, j ≤ s.N.length ∧ i = .int .i64 (j : Int) ∧ Hid (∀ m z, m < j → s.N[m]? = some z → ¬(9 ≤ z.k ∧ z.name = x)) ∧ wr = w) (fun i _ => (s.N.length - intOf i).toNat)
 case atStart => exact ⟨0, by omega, rfl, hid (fun m x h => absurd h (Nat.not_lt_zero m)), rfl⟩
 case round =>
  obtain ⟨j, hj, rfl, HNO, rfl⟩ := hrel
  by_cases hjn : j < s.N.length
  ·obtain ⟨y, hy⟩ : ∃ y, s.N[j]? = some y := ⟨s.N[j], List.getElem?_eq_getElem hjn⟩
   obtain ⟨g, hA, hgl, _, hc, _⟩ := hN.at_ hy
   have c0 : wr.cell? ⟨g, j * 6, none⟩ = some (.int .i64 (y.k : Int)) := hc 0 _ rfl
   have c1 : wr.cell? ⟨g, j * 6 + 1, none⟩ = some (.string (txt y.name)) := hc 1 _ rfl
   have HY := hid hy
   clear hy hc
   rw [hA] at p2
   have next (hno : ¬(9 ≤ y.k ∧ y.name = x)) : Hid (∀ m z, m < j + 1 → s.N[m]? = some z → ¬(9 ≤ z.k ∧ z.name = x)) := hid (fun m z hm hz => by
    rcases Nat.lt_or_ge m j with h | h
    ·exact HNO.out m z h hz
    ·obtain rfl : m = j := by omega
     rw [HY.out, Option.some.injEq] at hz
     rw [← hz]
     exact hno)
   have HNX := hid next
   clear next
   by_cases hk : 9 ≤ y.k
   ·have l1 : (9 : Int) ≤ (y.k : Int) := by omega
    by_cases hxy : y.name = x
    ·have e1 : ((txt y.name).toList == (txt x).toList) = true := by rw [tx_beq]; simpa using hxy
     have HX := hid (calledI_at HY.out hk hxy HNO.out)
     clear hxy
     go_wp2
     go_ret
     exact ⟨by rw [HX.out]; rfl, Turn.refl _ _⟩
    ·have e1 : ((txt y.name).toList == (txt x).toList) = false := by rw [tx_beq]; simpa using hxy
     have HX := HNX.out (fun q => hxy q.2)
     clear hxy
     go_wp2
     refine ⟨⟨j + 1, by omega, by go_num, HX, ?_⟩, by simp [intOf]; omega⟩; first | rfl | trivial
   ·have l1 : ¬((9 : Int) ≤ (y.k : Int)) := by omega
    have HX := HNX.out (fun q => hk q.1)
    clear hk
    go_wp2
    refine ⟨⟨j + 1, by omega, by go_num, HX, ?_⟩, by simp [intOf]; omega⟩; first | rfl | trivial
  ·obtain rfl : j = s.N.length := by omega
   have HX := hid (calledI_none HNO.out)
   go_wp2
   go_ret
   exact ⟨by rw [HX.out]; rfl, Turn.refl _ _⟩
def smB (N : List Nd) (k n : Int) (i : Nat) : Bool := decide ((i : Int) = n) || (decide (0 ≤ k) && decide (k < 9) && decide (kindAt N i = some k.toNat))
theorem psame_any (h : PS w b s) (A : Option Addr) (c B : Nat) (l : List Nat) (k n : Int) (hr : Rd w B 1 A l.length (vis (l.map Int.ofNat))) (hl : l.length ≤ 1000000) (hi : ∀ i ∈ l, i < s.N.length) (hB : B ≤ w.heap.size) :
  Calls Tryz.prog 81 #[.pointer (some ⟨b.pB, 0, none⟩), .slice A l.length c, .int .i64 k, .int .i64 n] w fun e w' => e = .returned (.bool (mSame s.N l k n)) ∧ Turn w w' none := by
 have hS := h.ok.few
 have hm0 : mSame s.N l k n = l.any (smB s.N k n) := rfl
 rw [hm0]
 clear hm0
 obtain ⟨R, hN, _, _, _, p2, _⟩ := h.opn
 go_enter Tryz.func81, Tryz.ntmps81
 go_wp2
 go_loopw [9] (fun i wr => ∃ j : Nat, j ≤ l.length ∧ i = .int .i64 (j : Int) ∧ Hid (∀ q i, q < j → l[q]? = some i → smB s.N k n i = false) ∧ Turn w wr none) (fun i _ => (l.length - intOf i).toNat)
 case atStart => exact ⟨0, by omega, rfl, hid (fun m x h => absurd h (Nat.not_lt_zero m)), Turn.refl w none⟩
 case round =>
  obtain ⟨j, hj, rfl, HNO, hTr⟩ := hrel
  have hN := hN.turn0 hTr
  have hr := hr.turn0 hTr hB
  have p2 := (hTr.cell (a := ⟨b.pB, 2, none⟩) (World.block_lt_of_cell? w _ p2) (by simp)).trans p2
  by_cases hjn : j < l.length
  ·obtain ⟨i, hi'⟩ : ∃ i, l[j]? = some i := ⟨l[j], List.getElem?_eq_getElem hjn⟩
   have hiS := hi i (List.mem_of_getElem? hi')
   obtain ⟨y, hy⟩ : ∃ y, s.N[i]? = some y := ⟨s.N[i], List.getElem?_eq_getElem hiS⟩
   obtain ⟨bb, off, hAi, _, hci⟩ := hr.head (by omega)
   have cj : wr.cell? ⟨bb, off + j, none⟩ = some (.int .i64 (i : Int)) := hci j _ (vis_at (n := (i : Int)) (by rw [List.getElem?_map, hi']; rfl))
   obtain ⟨g3, hA3, _, _, hc3, _⟩ := hN.at_ hy
   have d0 : wr.cell? ⟨g3, i * 6, none⟩ = some (.int .i64 (y.k : Int)) := hc3 0 _ rfl
   have HB := hid (show smB s.N k n i = (decide ((i : Int) = n) || (decide (0 ≤ k) && decide (k < 9) && decide (y.k = k.toNat))) by unfold smB kindAt; rw [hy]; simp)
   have HI := hid hi'
   clear hi' hy hci hc3 hr
   rw [hA3] at p2
   have next (hno : smB s.N k n i = false) : Hid (∀ q i, q < j + 1 → l[q]? = some i → smB s.N k n i = false) := hid (fun q i' hq hi'' => by
    rcases Nat.lt_or_ge q j with h | h
    ·exact HNO.out q i' h hi''
    ·obtain rfl : q = j := by omega
     rw [HI.out, Option.some.injEq] at hi''
     rw [← hi'']
     exact hno)
   have HNX := hid next
   clear next hi
   subst hAi
   by_cases hn : (i : Int) = n
   ·have H := hid (any_at HI.out (HB.out.trans (by rw [decide_eq_true hn, Bool.true_or])))
    have e1 : ((i : Int) == n) = true := by rw [beq_iff_eq]; exact hn
    clear hn
    go_wp2_with (fail)
    go_quiet (fail)
    go_wp2
    go_ret
    exact ⟨by rw [H.out]; rfl, hTr.drewN nq⟩
   ·have hnn : ((i : Int) == n) = false := by rw [beq_eq_false_iff_ne]; exact hn
    by_cases hk0 : 0 ≤ k
    ·by_cases hk9 : k < 9
     ·by_cases hyk : y.k = k.toNat
      ·have H := hid (any_at HI.out (HB.out.trans (by rw [decide_eq_true hk0, decide_eq_true hk9, decide_eq_true hyk, Bool.and_self, Bool.and_self, Bool.or_true])))
       have e1 : ((y.k : Int) == k) = true := by rw [beq_iff_eq]; omega
       clear hn hyk
       go_wp2_with (fail)
       go_quiet (fail)
       go_wp2
       go_ret
       exact ⟨by rw [H.out]; rfl, hTr.drewN nq⟩
      ·have e1 : ((y.k : Int) == k) = false := by rw [beq_eq_false_iff_ne]; omega
       have H := HNX.out (HB.out.trans (by rw [decide_eq_false hn, decide_eq_false hyk, Bool.and_false, Bool.false_or]))
       clear hn hyk
       go_wp2_with (fail)
       go_quiet (fail)
       go_wp2
       exact ⟨⟨j + 1, by omega, by go_num, H, hTr.drewN nq⟩, by simp [intOf]; omega⟩
     ·have d9 : decide (k < 9) = false := decide_eq_false hk9
      have d0 : decide (0 ≤ k) = true := decide_eq_true hk0
      have H := HNX.out (HB.out.trans (by rw [decide_eq_false hn, decide_eq_false hk9, Bool.and_false, Bool.false_and, Bool.false_or]))
      clear hn
      go_wp2_with (fail)
      refine wp_region_noPanic ?_
      refine wp_region_held_drew (S := (fun W => W.cell? ⟨bb, off + j, none⟩ = some (.int .i64 (i : Int)))) (by kernel_rfl) (cj) (fun hHeld => ?_)
      (first | refine tkN 0 ?_ | refine tkY 0 _ ?_); (try simp only [Act.put, zs])
      (first | refine tkN 1 ?_ | refine tkY 1 _ ?_); (try simp only [Act.put, zs])
      (first | refine tkN 2 ?_ | refine tkY 2 _ ?_); (try simp only [Act.put, zs])
      (first | refine tkN 3 ?_ | refine tkY 3 _ ?_); (try simp only [Act.put, zs])
      (first | refine tkN 4 ?_ | refine tkY 4 _ ?_); (try simp only [Act.put, zs])
      (first | refine tkN 5 ?_ | refine tkY 5 _ ?_); (try simp only [Act.put, zs])
      (first | refine tkN 6 ?_ | refine tkY 6 _ ?_); (try simp only [Act.put, zs])
      (first | refine tkN 7 ?_ | refine tkY 7 _ ?_); (try simp only [Act.put, zs])
      (first | refine tkN 8 ?_ | refine tkY 8 _ ?_); (try simp only [Act.put, zs])
      (first | refine tkN 9 ?_ | refine tkY 9 _ ?_); (try simp only [Act.put, zs])
      (first | refine tkN 10 ?_ | refine tkY 10 _ ?_); (try simp only [Act.put, zs])
      (first | refine tkN 11 ?_ | refine tkY 11 _ ?_); (try simp only [Act.put, zs])
      (first | refine tkN 12 ?_ | refine tkY 12 _ ?_); (try simp only [Act.put, zs])
      (first | refine tkN 13 ?_ | refine tkY 13 _ ?_); (try simp only [Act.put, zs])
      (first | refine tkN 14 ?_ | refine tkY 14 _ ?_); (try simp only [Act.put, zs])
      (first | refine tkN 15 ?_ | refine tkY 15 _ ?_); (try simp only [Act.put, zs])
      (first | refine tkN 16 ?_ | refine tkY 16 _ ?_); (try simp only [Act.put, zs])
      (first | refine tkN 17 ?_ | refine tkY 17 _ ?_); (try simp only [Act.put, zs])
      (first | refine tkN 18 ?_ | refine tkY 18 _ ?_); (try simp only [Act.put, zs])
      (first | refine tkN 19 ?_ | refine tkY 19 _ ?_); (try simp only [Act.put, zs])
      (first | refine tkN 20 ?_ | refine tkY 20 _ ?_); (try simp only [Act.put, zs])
      (first | refine tkN 21 ?_ | refine tkY 21 _ ?_); (try simp only [Act.put, zs])
      (first | refine tkN 22 ?_ | refine tkY 22 _ ?_); (try simp only [Act.put, zs])
      (first | refine tkN 23 ?_ | refine tkY 23 _ ?_); (try simp only [Act.put, zs])
      (first | refine tkN 24 ?_ | refine tkY 24 _ ?_); (try simp only [Act.put, zs])
      (first | refine tkN 25 ?_ | refine tkY 25 _ ?_); (try simp only [Act.put, zs])
      (first | refine tkN 26 ?_ | refine tkY 26 _ ?_); (try simp only [Act.put, zs])
      (first | refine tkN 27 ?_ | refine tkY 27 _ ?_); (try simp only [Act.put, zs])
      (first | refine tkN 28 ?_ | refine tkY 28 _ ?_); (try simp only [Act.put, zs])
      refine wpAnyH_done (by kernel_rfl) ?_ _
      refine NoPanic.normal ?_
      clear hHeld
      go_wp2
      exact ⟨⟨j + 1, by omega, by go_num, H, hTr.drew⟩, by simp [intOf]; omega⟩
    ·have d0 : decide (0 ≤ k) = false := decide_eq_false hk0
     have H := HNX.out (HB.out.trans (by rw [decide_eq_false hn, decide_eq_false hk0, Bool.false_and, Bool.false_and, Bool.false_or]))
     clear hn
     go_wp2_with (fail)
     refine wp_region_noPanic ?_
     refine wp_region_held_drew (S := (fun W => W.cell? ⟨bb, off + j, none⟩ = some (.int .i64 (i : Int)))) (by kernel_rfl) (cj) (fun hHeld => ?_)
     (first | refine tkN 0 ?_ | refine tkY 0 _ ?_); (try simp only [Act.put, zs])
     (first | refine tkN 1 ?_ | refine tkY 1 _ ?_); (try simp only [Act.put, zs])
     (first | refine tkN 2 ?_ | refine tkY 2 _ ?_); (try simp only [Act.put, zs])
     (first | refine tkN 3 ?_ | refine tkY 3 _ ?_); (try simp only [Act.put, zs])
     (first | refine tkN 4 ?_ | refine tkY 4 _ ?_); (try simp only [Act.put, zs])
     (first | refine tkN 5 ?_ | refine tkY 5 _ ?_); (try simp only [Act.put, zs])
     (first | refine tkN 6 ?_ | refine tkY 6 _ ?_); (try simp only [Act.put, zs])
     (first | refine tkN 7 ?_ | refine tkY 7 _ ?_); (try simp only [Act.put, zs])
     (first | refine tkN 8 ?_ | refine tkY 8 _ ?_); (try simp only [Act.put, zs])
     (first | refine tkN 9 ?_ | refine tkY 9 _ ?_); (try simp only [Act.put, zs])
     (first | refine tkN 10 ?_ | refine tkY 10 _ ?_); (try simp only [Act.put, zs])
     (first | refine tkN 11 ?_ | refine tkY 11 _ ?_); (try simp only [Act.put, zs])
     (first | refine tkN 12 ?_ | refine tkY 12 _ ?_); (try simp only [Act.put, zs])
     (first | refine tkN 13 ?_ | refine tkY 13 _ ?_); (try simp only [Act.put, zs])
     (first | refine tkN 14 ?_ | refine tkY 14 _ ?_); (try simp only [Act.put, zs])
     (first | refine tkN 15 ?_ | refine tkY 15 _ ?_); (try simp only [Act.put, zs])
     (first | refine tkN 16 ?_ | refine tkY 16 _ ?_); (try simp only [Act.put, zs])
     (first | refine tkN 17 ?_ | refine tkY 17 _ ?_); (try simp only [Act.put, zs])
     (first | refine tkN 18 ?_ | refine tkY 18 _ ?_); (try simp only [Act.put, zs])
     (first | refine tkN 19 ?_ | refine tkY 19 _ ?_); (try simp only [Act.put, zs])
     (first | refine tkN 20 ?_ | refine tkY 20 _ ?_); (try simp only [Act.put, zs])
     (first | refine tkN 21 ?_ | refine tkY 21 _ ?_); (try simp only [Act.put, zs])
     (first | refine tkN 22 ?_ | refine tkY 22 _ ?_); (try simp only [Act.put, zs])
     (first | refine tkN 23 ?_ | refine tkY 23 _ ?_); (try simp only [Act.put, zs])
     (first | refine tkN 24 ?_ | refine tkY 24 _ ?_); (try simp only [Act.put, zs])
     (first | refine tkN 25 ?_ | refine tkY 25 _ ?_); (try simp only [Act.put, zs])
     (first | refine tkN 26 ?_ | refine tkY 26 _ ?_); (try simp only [Act.put, zs])
     (first | refine tkN 27 ?_ | refine tkY 27 _ ?_); (try simp only [Act.put, zs])
     (first | refine tkN 28 ?_ | refine tkY 28 _ ?_); (try simp only [Act.put, zs])
     refine wpAnyH_done (by kernel_rfl) ?_ _
     refine NoPanic.normal ?_
     clear hHeld
     go_wp2
     exact ⟨⟨j + 1, by omega, by go_num, H, hTr.drew⟩, by simp [intOf]; omega⟩
  ·obtain rfl : j = l.length := by omega
   have H := hid (any_none HNO.out)
   go_wp2
   go_ret
   exact ⟨by rw [H.out]; rfl, hTr⟩
end
open Go.RowKit
section
variable {w w' w1 : World} {b : QB} {s : St} {R R' : Ix → Rw} {S' : List Nd}
theorem PS.opo (h : PS w b s) : ∃ R, NR w b.base R s.N ∧ Blk w b.pB 86 (psCells b R s).toArray ∧ w.cell? ⟨b.pB, 2, none⟩ = some (.slice (R none).A s.N.length (R none).c) ∧ Offs b R := by
 obtain ⟨R, h1, h2, h3⟩ := h.mem
 refine ⟨R, h1, h2, (h2.cell 2).trans ?_, h3⟩
 show some (Value.slice (R none).A (R none).n (R none).c) = _
 rw [h1.len]
theorem offs_none {r : Rw} (h : Offs b R) (hr : blk r.A = blk (R none).A) : Offs b (upd R none r) := fun i g hg => by
 by_cases hi : i = none
 ·subst hi; rw [upd_same, hr]; exact h none g hg
 ·rw [upd_other _ _ hi]; exact h i g hg
theorem offs_upd {r : Rw} {k : Ix} (h : Offs b R) (hw : Bd b w) (hr : blk r.A = blk (R k).A ∨ ∃ q, blk r.A = some q ∧ w.heap.size ≤ q) : Offs b (upd R k r) := fun i g hg => by
 by_cases hi : i = k
 ·subst hi
  rw [upd_same]
  rcases hr with hr | ⟨q, hr, hq⟩
  ·rw [hr]; exact h i g hg
  ·rw [hr]
   intro e
   injection e with e
   have := hw.2 g hg
   omega
 ·rw [upd_other _ _ hi]; exact h i g hg
theorem PS.renew (h : PS w b s) (f : Fq b w w') (hN : NR w' b.base R' S') (hO : Offs b R') (hrb : Blk w' b.pB 86 (psCells b R s).toArray) (hok : NOk S' (s.at_ + 1)) (v : Value) (hv : v = (R' none).v) :
  PS (w'.setCell ⟨b.pB, 2, none⟩ v) b { s with N := S' } ∧ Fq b w (w'.setCell ⟨b.pB, 2, none⟩ v) := by
 subst hv
 have f2 := Fq.own hrb h.hb (Blk.setTurn w' b.pB 2 (R' none).v) (h.hw.mono f.size) h.outs
 have hbl := f.1.trans f2.1
 refine ⟨⟨h.hb, h.hw.mono hbl.size, h.outs, h.toks.below hbl, h.tok, h.few, h.brief, h.hc, h.at_, hok, R', hN.turn hrb ty_P (Blk.setTurn _ _ _ _), ?_, hO⟩, f.trans f2⟩
 have := hrb.set_ 2 (R' none).v
 simpa [psCells] using this
theorem PS.keep (h : PS w b s) (f : Fq b w w') (hN : NR w' b.base R' S') (hO : Offs b R') (hrb : Blk w' b.pB 86 (psCells b R' { s with N := S' }).toArray) (hok : NOk S' (s.at_ + 1)) : PS w' b { s with N := S' } :=
 ⟨h.hb, h.hw.mono f.size, h.outs, h.toks.below f.1, h.tok, h.few, h.brief, h.hc, h.at_, hok, R', hN, hrb, hO⟩
theorem PS.scalar (h : PS w b s) {i jj g n' c' : Nat} {x : Nd} {u : Value} {gg : Nd → Nd} (hx : s.N[i]? = some x) (hj : jj < 3) (hrow : ∀ R, (ndRow R i x).set jj u = ndRow R i (gg x)) (hs : (gg x).syms = x.syms) (hi : (gg x).items = x.items) (hf : (gg x).fields = x.fields)
  (hk : (gg x).k < 9 → (gg x).name = []) (hg : w.cell? ⟨b.pB, 2, none⟩ = some (.slice (some ⟨g, 0, none⟩) n' c')) : PS (w.setCell ⟨g, i * 6 + jj, none⟩ u) b (s.mod i gg) ∧ Fq b w (w.setCell ⟨g, i * 6 + jj, none⟩ u) := by
 obtain ⟨R, hN, hrb, p2, hO⟩ := h.opo
 rw [hg, Option.some.injEq, Value.slice.injEq] at p2
 have hA : (R none).A = some ⟨g, 0, none⟩ := p2.1.symm
 have ho := hN.own
 rw [hA] at ho
 have f : Fq b w (w.setCell ⟨g, i * 6 + jj, none⟩ u) := Fq.row (A := some ⟨g, 0, none⟩) ho (.inl rfl) (ho.storeTurn _ _) h.hw (by rw [← hA]; exact hO none)
 have hN2 := hN.scalar (gg := gg) hx hA hj (hrow R) hs hi hf
 have hrb2 := hrb.turn (ho.storeTurn (i * 6 + jj) u) (fun e => hN.off hrb ty_P none (by rw [hA]; exact e.symm))
 have hsm := h.ok.small x (List.mem_of_getElem? hx)
 refine ⟨h.keep (S' := s.N.modify i gg) f hN2 (offs_none hO (by rw [hA])) ?_ (h.ok.mod hx (Nat.le_refl _) hk (by rw [hs, hi, hf]; exact hsm) (by rw [hi]; exact h.ok.inn x (List.mem_of_getElem? hx))), f⟩
 have e : psCells b (upd R none ⟨64, 6, some ⟨g, 0, none⟩, s.N.length, (R none).c, ndCells R 0 (s.N.modify i gg)⟩) { s with N := s.N.modify i gg } = psCells b R s := by
  unfold psCells
  rw [upd_same]
  unfold Rw.v
  rw [hA, hN.len]
 rw [e]
 exact hrb2
theorem PS.ne (h : PS w b s) {g n' c' g2 : Nat} {t : TypeId} {cs : Array Value} (hg : w.cell? ⟨b.pB, 2, none⟩ = some (.slice (some ⟨g, 0, none⟩) n' c')) (hB : Blk w g2 t cs) (ht : t ≠ 64 ∧ t ≠ 9 ∧ t ≠ 3 ∧ t ≠ 119) : g ≠ g2 := by
 obtain ⟨R, hN, _, _, _, p2, _⟩ := h.opn
 rw [hg, Option.some.injEq, Value.slice.injEq] at p2
 intro e
 exact hN.off hB ht none (by rw [← p2.1, e]; rfl)
theorem PS.fz (h : PS w b s) {i g n' c' : Nat} {x : Nd} (hx : s.N[i]? = some x) (hg : w.cell? ⟨b.pB, 2, none⟩ = some (.slice (some ⟨g, 0, none⟩) n' c')) (j : Nat) : w.frozen? ⟨g, j, none⟩ = false := by
 obtain ⟨R, hN, _, _, _, p2, _⟩ := h.opn
 rw [hg, Option.some.injEq, Value.slice.injEq] at p2
 obtain ⟨g', hg', _, _, _, hz⟩ := hN.at_ hx
 rw [← p2.1] at hg'
 injection hg' with hg'
 injection hg' with hg'
 subst hg'
 exact hz j
theorem PS.slot (h : PS w b s) (hN : NR w b.base R s.N) (hO : Offs b R) (hrb : Blk w b.pB 86 (psCells b R s).toArray) {i j g : Nat} {x : Nd} {gg : Nd → Nd} (hx : s.N[i]? = some x) (hA : (R none).A = some ⟨g, 0, none⟩) (hj : j < 3) {r : Rw} (ho : r.own w1 b.base)
  (ht : Turn w w1 (blk (R (some (i, j))).A)) (hb : blk r.A = blk (R (some (i, j))).A ∨ ∃ q, blk r.A = some q ∧ w.heap.size ≤ q) (hty : r.E = 9 ∨ r.E = 3 ∨ r.E = 119) (hk : (gg x).k = x.k ∧ (gg x).name = x.name ∧ (gg x).size = x.size)
  (h0 : Sh (if j = 0 then r else R (some (i, 0))) 9 1 (gg x).syms.length (vss (gg x).syms)) (h1 : Sh (if j = 1 then r else R (some (i, 1))) 3 1 (gg x).items.length (vis ((gg x).items.map Int.ofNat)))
  (h2 : Sh (if j = 2 then r else R (some (i, 2))) 119 3 (gg x).fields.length (vfs ((gg x).fields.map Fl.g))) (hok : NOk (s.N.modify i gg) (s.at_ + 1)) :
  PS (w1.setCell ⟨g, i * 6 + (3 + j), none⟩ r.v) b (s.mod i gg) ∧ Fq b w (w1.setCell ⟨g, i * 6 + (3 + j), none⟩ r.v) := by
 have hR : NdTy (R (some (i, j))).E := hN.ty _
 have f1 : Fq b w w1 := Fq.row (hN.aps.own (some (i, j))) hR ht h.hw (hO _)
 have hN2 := hN.slot (gg := gg) hx hA hj ho ht hb hty hk h0 h1 h2
 have hne : blk (R (some (i, j))).A = none ∨ blk (R none).A ≠ blk (R (some (i, j))).A := by
  cases hq : blk (R (some (i, j))).A with
  | none => exact .inl rfl
  | some q => exact .inr fun e => hN.aps.off none (some (i, j)) (by simp) q e hq
 have hown : Own w1 b.base 64 6 (some ⟨g, 0, none⟩) s.N.length (R none).c (ndCells R 0 s.N) := by
  have := hN.own
  rw [hA] at this
  refine Own.turn this ht (hne.imp id fun e => ?_)
  rw [← hA]; exact e
 have f2 : Fq b w1 (w1.setCell ⟨g, i * 6 + (3 + j), none⟩ r.v) := Fq.row (A := some ⟨g, 0, none⟩) hown (.inl rfl) (hown.storeTurn _ _) (h.hw.mono ht.size) (by rw [← hA]; exact hO none)
 have hrb1 := hrb.turn ht (fun e => hN.off hrb ty_P (some (i, j)) e.symm)
 have hrb2 := hrb1.turn (hown.storeTurn (i * 6 + (3 + j)) r.v) (fun e => hN.off hrb ty_P none (by rw [hA]; exact e.symm))
 refine ⟨h.keep (S' := s.N.modify i gg) (f1.trans f2) hN2 (offs_none (offs_upd hO h.hw hb) (by rw [upd_other _ _ (by simp), hA])) ?_ hok, f1.trans f2⟩
 have e : psCells b (upd (upd R (some (i, j)) r) none ⟨64, 6, some ⟨g, 0, none⟩, s.N.length, (R none).c, ndCells (upd R (some (i, j)) r) 0 (s.N.modify i gg)⟩) { s with N := s.N.modify i gg } = psCells b R s := by
  unfold psCells
  rw [upd_same]
  unfold Rw.v
  rw [hA, hN.len]
 rw [e]
 exact hrb2
theorem PS.push (h : PS w b s) (hN : NR w b.base R s.N) (hO : Offs b R) (hrb : Blk w b.pB 86 (psCells b R s).toArray) (hS : s.N.length < 200) (k : Nat) {A : Option Addr} {c : Nat} (ho : Own w1 b.base 64 6 A (s.N.length + 1) c (ndCells R 0 s.N ++ ndZ k))
  (ht : Turn w w1 (blk (R none).A)) (hb : blk A = blk (R none).A ∨ blk A = some w.heap.size) :
  PS (w1.setCell ⟨b.pB, 2, none⟩ (.slice A (s.N.length + 1) c)) b { s with N := s.N ++ [Nd.of k] } ∧ Fq b w (w1.setCell ⟨b.pB, 2, none⟩ (.slice A (s.N.length + 1) c)) := by
 have hN2 := hN.push k ho ht hb
 have f1 : Fq b w w1 := Fq.row (hN.aps.own none) (hN.ty _) ht h.hw (hO _)
 have hrb1 := hrb.turn ht (fun e => hN.off hrb ty_P none e.symm)
 exact h.renew f1 hN2 (offs_upd hO h.hw (hb.imp id fun e => ⟨_, e, Nat.le_refl _⟩)) hrb1 (h.ok.push hS k) _ (by rw [upd_same]; rfl)
structure QdAt (w : World) (b : QB) (s : St) (R : Ix → Rw) (g i : Nat) (x : Nd) : Prop where
 hN : NR w b.base R s.N
 hO : Offs b R
 hrb : Blk w b.pB 86 (psCells b R s).toArray
 p2 : w.cell? ⟨b.pB, 2, none⟩ = some (.slice (some ⟨g, 0, none⟩) s.N.length (R none).c)
 hA : (R none).A = some ⟨g, 0, none⟩
 n0 : w.cell? ⟨g, i * 6, none⟩ = some (.int .i64 (x.k : Int))
 n1 : w.cell? ⟨g, i * 6 + 1, none⟩ = some (.string (txt x.name))
 n2 : w.cell? ⟨g, i * 6 + 2, none⟩ = some (.int .i64 (x.size : Int))
 n3 : w.cell? ⟨g, i * 6 + 3, none⟩ = some (.slice (R (some (i, 0))).A x.syms.length (R (some (i, 0))).c)
 n4 : w.cell? ⟨g, i * 6 + 4, none⟩ = some (.slice (R (some (i, 1))).A x.items.length (R (some (i, 1))).c)
 n5 : w.cell? ⟨g, i * 6 + 5, none⟩ = some (.slice (R (some (i, 2))).A x.fields.length (R (some (i, 2))).c)
 fz : ∀ j, w.frozen? ⟨g, j, none⟩ = false
 ne : g ≠ b.pB
theorem PS.ndAt (h : PS w b s) {i : Nat} {x : Nd} (hx : s.N[i]? = some x) : ∃ R g, QdAt w b s R g i x := by
 obtain ⟨R, hN, hrb, p2, hO⟩ := h.opo
 obtain ⟨g, hA, hg, _, hc, hz⟩ := hN.at_ hx
 rw [hA] at p2
 refine ⟨R, g, hN, hO, hrb, p2, hA, hc 0 _ rfl, hc 1 _ rfl, hc 2 _ rfl, (hc 3 _ rfl).trans ?_, (hc 4 _ rfl).trans ?_, (hc 5 _ rfl).trans ?_, hz, h.ne p2 hrb ty_P⟩
 ·show some (Value.slice _ (R (some (i, 0))).n _) = _
  rw [(hN.syms i x hx).2.2.1]
 ·show some (Value.slice _ (R (some (i, 1))).n _) = _
  rw [(hN.items i x hx).2.2.1]
 ·show some (Value.slice _ (R (some (i, 2))).n _) = _
  rw [(hN.fields i x hx).2.2.1]
theorem QdAt.q1 {i g : Nat} {x : Nd} (h : QdAt w b s R g i x) (j : Nat) : some b.pB ≠ blk (R (some (i, j))).A := fun e => h.hN.off h.hrb ty_P _ e.symm
theorem QdAt.q2 {i g : Nat} {x : Nd} (h : QdAt w b s R g i x) (j : Nat) : some g ≠ blk (R (some (i, j))).A := fun e => h.hN.aps.off none (some (i, j)) (by simp) g (by rw [h.hA]; rfl) e.symm
theorem QdAt.q3 {i g g2 : Nat} {x : Nd} {cs : Array Value} {t : TypeId} (h : QdAt w b s R g i x) (j : Nat) (hb : Blk w g2 t cs) (ht : t ≠ 64 ∧ t ≠ 9 ∧ t ≠ 3 ∧ t ≠ 119) : some g2 ≠ blk (R (some (i, j))).A := fun e => h.hN.off hb ht _ e.symm
def QB.add (b : QB) (g : Nat) : QB := { b with out := g :: b.out }
theorem PS.add (h : PS w b s) (ht : Turn w w' none) {g : Nat} (hg : w.heap.size ≤ g) (hl : g < w'.heap.size) : PS w' (b.add g) s := by
 obtain ⟨R, h1, h2, h3⟩ := h.mem
 have hp := h2.lt
 have k := h.turn0 ht
 refine ⟨k.hb, ⟨k.hw.1, fun q hq => ?_⟩, fun q hq => ?_, k.toks, k.tok, k.few, k.brief, k.hc, k.at_, k.ok, R, h1.turn0 ht, h2.turn0 ht, fun i q hq => ?_⟩
 ·rcases List.mem_cons.1 hq with rfl | hq
  ·exact hl
  ·exact k.hw.2 q hq
 ·rcases List.mem_cons.1 hq with rfl | hq
  ·intro e
   have e2 : q = b.pB := e
   omega
  ·exact k.outs q hq
 ·rcases List.mem_cons.1 hq with rfl | hq
  ·intro e; have := (h1.aps.lt i e).2; omega
  ·exact h3 i q hq
theorem PS.drop {g : Nat} (h : PS w (b.add g) s) : PS w b s := by
 obtain ⟨R, h1, h2, h3⟩ := h.mem
 exact ⟨h.hb, ⟨h.hw.1, fun q hq => h.hw.2 q (List.mem_cons_of_mem _ hq)⟩, fun q hq => h.outs q (List.mem_cons_of_mem _ hq), h.toks, h.tok, h.few, h.brief, h.hc, h.at_, h.ok, R, h1, h2, fun i q hq => h3 i q (List.mem_cons_of_mem _ hq)⟩
theorem Fq.drop {g : Nat} (h : Fq (b.add g) w w') : Fq b w w' := ⟨h.1, h.2.1, fun q hq => h.2.2 q (List.mem_cons_of_mem _ hq)⟩
theorem PS.turnO (h : PS w b s) {g : Nat} (hg : g ∈ b.out) (hb : b.base ≤ g) (ht : Turn w w' (some g)) : PS w' b s := by
 obtain ⟨R, h1, h2, h3⟩ := h.mem
 have hbl : Below b.base w w' := below_turn ht h.hw.1 hb
 exact ⟨h.hb, h.hw.mono ht.size, h.outs, h.toks.below hbl, h.tok, h.few, h.brief, h.hc, h.at_, h.ok, R, ⟨h1.aps.turn ht (fun i => h3 i g hg), h1.arr, h1.syms, h1.items, h1.fields, h1.far, h1.ty⟩, h2.turn ht (fun e => h.outs g hg (by injection e with e; exact e.symm)), h3⟩
theorem Fq.turnNew {g : Nat} (h : Fq b w w') (k : Turn w' w1 (some g)) (hb : Bd b w) (hg : w.heap.size ≤ g) : Fq b w w1 :=
 ⟨h.1.trans (below_turn k (Nat.le_trans hb.1 h.size) (Nat.le_trans hb.1 hg)), fun g' t cs hB a1 a2 a3 a4 a5 => (h.2.1 g' t cs hB a1 a2 a3 a4 a5).turn k (by intro e; injection e with e; have := hB.lt; omega),
  fun g' hg' => (k.block g' (Nat.lt_of_lt_of_le (hb.2 g' hg') h.size) (by intro e; injection e with e; have := hb.2 g' hg'; omega)).trans (h.2.2 g' hg')⟩
end
end Go.Proofs.YtgigiecdpjchkaaGreatDoor
