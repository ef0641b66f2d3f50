/-
  Layer 16, the code: a bound is put in its place.
-/
import Derived.Test.YtnkmpcepdjjopaaIdJ
import Derived.Test.YtnkmpcepdjjopaaTwt
namespace Go.Proofs.Ytnkmpcepdjjopaa
set_option linter.unusedSimpArgs false
set_option linter.unusedVariables false
open Go.RowKit

theorem ins16_any {w : World} {A : Option Addr} {n c k gv : Nat} {B : List (Nat × Nat)} {p : Nat × Nat} (hz : Own w 0 50 2 A n c (bvs B)) (hv : Blk w gv 50 (bv p).toArray) (hne : blk A ≠ some gv) (hk : k ≤ n) (hf : n ≤ 100000) :
    Calls Try.prog 35 #[.slice A n c, .int .i64 (k : Int), .slice (some ⟨gv, 0, none⟩) 1 1] w fun e w' =>
      ∃ A' c', e = .returned (.slice A' (n + 1) c') ∧ Own w' 0 50 2 A' (n + 1) c' (bvs (B.take k ++ p :: B.drop k)) ∧ Turn w w' (blk A) ∧ (blk A' = blk A ∨ ∃ q, blk A' = some q ∧ w.heap.size ≤ q) := by
  have hBn : B.length = n := by have := hz.len_; rw [bvs_len] at this; omega
  rcases Nat.lt_or_ge k n with hkn | hkn
  · obtain ⟨gz, rfl, _, _⟩ := hz.head (by omega)
    have hc := hz.cap.1
    rcases Nat.lt_or_ge n c with h1 | h1
    · refine (insC16_any hz hv (fun e => hne (by rw [e]; rfl)) hkn h1 hf).mono ?_
      rintro e w' ⟨rfl, ho, ht⟩
      exact ⟨_, _, rfl, ho, ht, .inl rfl⟩
    · obtain rfl : c = n := by omega
      refine (insB16_any hz hv hkn hf).mono ?_
      rintro e w' ⟨A', c', rfl, ho, ht, hq⟩
      exact ⟨_, _, rfl, ho, ht.any _, .inr hq⟩
  · obtain rfl : k = n := by omega
    have e : B.take k ++ p :: B.drop k = B ++ [p] := by
      rw [List.take_of_length_le (by omega), List.drop_of_length_le (by omega)]
    rw [e]
    exact insA16_any hz hv hf
section
variable {w : World} {g m clock : Nat} {S : Nat → Prop} {x y z : Slc} {es : List MapEntry} {t : Idt}
theorem iIns_flag {n j x : Nat} {B : List (Nat × Nat)} (hj : j < n) : fvs n (iIns x (j + 1) B) = (fvs n B).set j (.bool true) :=
  fvs_set hj (fun p => by
    rw [iIns_mem]
    constructor
    · rintro (h | h)
      · exact .inr ⟨by rw [h], .inl h⟩
      · exact .inl h
    · rintro (h | ⟨_, h⟩)
      · exact .inr h
      · exact h) ⟨(x, j + 1), iIns_mem.mpr (.inl rfl), rfl⟩
set_option maxRecDepth 100000 in
set_option maxHeartbeats 3200000 in
theorem bind16_any (h : PT w g S m clock x y z es t) {qx j : Nat} (h0 : iMap t.B qx = 0) (h1 : ∀ p ∈ t.B, p.2 ≠ j + 1) (hq : 1 ≤ qx ∧ qx ≤ 2147483647) (hj : j < t.L.length) (hf : t.B.length ≤ 100000) (hf2 : t.L.length ≤ 100000) :
    Calls Try.prog 29 #[.pointer (some ⟨g, 0, none⟩), .int .i64 ((iAt t.B qx : Nat) : Int), .agg #[.int .u64 (qx : Int), .int .u64 ((j : Int) + 1)]] w fun e w' => e = .returned (.tuple #[]) ∧ Stp w w' S g { t with B := iIns qx (j + 1) t.B } := by
  have hno := h.wf.nomap h0
  have hins := iAt_ins (y := j + 1) h.wf.up hno
  have hflag := iIns_flag (x := qx) (B := t.B) hj
  have hlen := iIns_len qx (j + 1) t.B
  have hat := iAt_le t.B qx
  have hwf : Idt.Wf { t with B := iIns qx (j + 1) t.B } := by
    refine ⟨h.wf.nd, h.wf.ln, h.wf.lm, iIns_up h.wf.up hno, iIns_to h.wf.to h1, fun p hp => ?_, fun p hp => ?_⟩
    · rcases iIns_mem.mp hp with e | e
      · rw [e]; exact hq
      · exact h.wf.fr p e
    · rcases iIns_mem.mp hp with e | e
      · rw [e]; show 1 ≤ j + 1 ∧ j + 1 ≤ t.L.length; omega
      · exact h.wf.id p e
  obtain ⟨k, hk⟩ : ∃ k, k = iAt t.B qx := ⟨_, rfl⟩
  rw [← hk] at hins hat ⊢
  have B0 := h.b
  have hz0 := h.hz
  have hy0 := h.hy
  rw [h.zn] at hz0
  rw [h.yn] at hy0
  have gz := h.gz
  have gy := h.gy
  have mz := h.mz
  have c4 : w.cell? ⟨g, 4, none⟩ = some (.slice z.A t.B.length z.c) := by rw [← h.zn]; exact h.b.ats rfl
  have hyn := h.yn
  have hzlt := hz0.block
  have HWF := hid hwf
  have HIN := hid hins
  have HFL := hid hflag
  have HLN := hid hlen
  have HK := hid hk
  have H1 := hid h1
  clear hk hins hflag hlen hwf h1 h0 hno
  obtain ⟨N, hN⟩ : ∃ N, N = t.B.length := ⟨_, rfl⟩
  rw [← hN] at c4 hz0 hat hf
  have HN := hid hN
  clear hN
  obtain ⟨M, hM⟩ : ∃ M, M = t.L.length := ⟨_, rfl⟩
  rw [← hM] at hy0 hj hf2
  rw [← hM] at hyn
  have HM := hid hM
  clear hM
  go_enter Try.func29, Try.ntmps29
  go_upto_region 1 with (refine wp_bx rfl 50 _ rfl rfl ?_; intro g5 w1 hg5 hb5 ht5)
  have d4 : w1.drew.cell? ⟨g, 4, none⟩ = some (.slice z.A N z.c) := (ht5.cell (a := ⟨g, 4, none⟩) B0.lt (by simp)).trans c4
  refine wp_region_noPanic ?_
  refine wp_region_two 11 (fun W => W.cell? ⟨g, 4, none⟩ = some (.slice z.A N z.c)) (by kernel_rfl) d4 (fun hHeld => ?_)
  (refine wpTwo_take (i := 0) (v := ?_) rfl rfl (by kernel_rfl) (by kernel_rfl) (by kernel_rfl) (by kernel_rfl) (by kernel_rfl) (by decide) (fun _ _ _ h => h) (Or.inl ⟨rfl, ?_⟩) (by assumption) ?_; rotate_left 1; · (intro w hSw; (try dsimp only at hSw); go_simp; (try with_reducible rfl))); (try simp only [Act.put, List.getElem_toArray, List.getElem_cons_zero, List.getElem_cons_succ, List.setIfInBounds_toArray, List.set_cons_zero, List.set_cons_succ])
  (refine wpTwo_take (i := 1) (v := ?_) rfl rfl (by kernel_rfl) (by kernel_rfl) (by kernel_rfl) (by kernel_rfl) (by kernel_rfl) (by decide) (fun _ _ _ h => h) (Or.inl ⟨rfl, ?_⟩) (by assumption) ?_; rotate_left 1; · (intro w hSw; (try dsimp only at hSw); go_simp; (try with_reducible rfl))); (try simp only [Act.put, List.getElem_toArray, List.getElem_cons_zero, List.getElem_cons_succ, List.setIfInBounds_toArray, List.set_cons_zero, List.set_cons_succ])
  (refine wpTwo_take (i := 2) (v := ?_) rfl rfl (by kernel_rfl) (by kernel_rfl) (by kernel_rfl) (by kernel_rfl) (by kernel_rfl) (by decide) (fun _ _ _ h => h) (Or.inl ⟨rfl, ?_⟩) (by assumption) ?_; rotate_left 1; · (intro w hSw; (try dsimp only at hSw); go_simp; (try with_reducible rfl))); (try simp only [Act.put, List.getElem_toArray, List.getElem_cons_zero, List.getElem_cons_succ, List.setIfInBounds_toArray, List.set_cons_zero, List.set_cons_succ])
  (refine wpTwo_take (i := 3) (v := ?_) rfl rfl (by kernel_rfl) (by kernel_rfl) (by kernel_rfl) (by kernel_rfl) (by kernel_rfl) (by decide) (fun _ _ _ h => h) (Or.inl ⟨rfl, ?_⟩) (by assumption) ?_; rotate_left 1; · (intro w hSw; (try dsimp only at hSw); go_simp; (try with_reducible rfl))); (try simp only [Act.put, List.getElem_toArray, List.getElem_cons_zero, List.getElem_cons_succ, List.setIfInBounds_toArray, List.set_cons_zero, List.set_cons_succ])
  (refine wpTwo_take (i := 4) (v := ?_) rfl rfl (by kernel_rfl) (by kernel_rfl) (by kernel_rfl) (by kernel_rfl) (by kernel_rfl) (by decide) (fun _ _ _ h => h) (Or.inl ⟨rfl, ?_⟩) (by assumption) ?_; rotate_left 1; · (intro w hSw; (try dsimp only at hSw); go_simp; (try with_reducible rfl))); (try simp only [Act.put, List.getElem_toArray, List.getElem_cons_zero, List.getElem_cons_succ, List.setIfInBounds_toArray, List.set_cons_zero, List.set_cons_succ])
  (refine wpTwo_take (i := 5) (v := ?_) rfl rfl (by kernel_rfl) (by kernel_rfl) (by kernel_rfl) (by kernel_rfl) (by kernel_rfl) (by decide) (fun _ _ _ h => h) (Or.inl ⟨rfl, ?_⟩) (by assumption) ?_; rotate_left 1; · (intro w hSw; (try dsimp only at hSw); go_simp; (try with_reducible rfl))); (try simp only [Act.put, List.getElem_toArray, List.getElem_cons_zero, List.getElem_cons_succ, List.setIfInBounds_toArray, List.set_cons_zero, List.set_cons_succ])
  have R5 : w1.drew.rangeAt g5 0 ([.int .u64 (qx : Int), .int .u64 ((j : Int) + 1)] : List Value) := fun j v hv => by rw [Nat.zero_add]; exact hb5.drew.ats hv
  refine wpTwo_ready (rs := [6]) (by kernel_rfl) (by simp) ?_
  refine AllTwo.cons rfl (fun K hK => ?_) ?_
  · refine gd_dld (by rfl) 50 _ rfl rfl R5 Try.underlying50 rfl szBd ?_
    refine hK.out _ _ (Or.inr d4) ?_; clear hK K; (try simp only [Act.put, List.getElem_toArray, List.getElem_cons_zero, List.getElem_cons_succ, List.setIfInBounds_toArray, List.set_cons_zero, List.set_cons_succ])
    refine wpTwo_ready (rs := [7]) (by kernel_rfl) (by simp) ?_
    refine AllTwo.cons rfl (fun K hK => ?_) ?_
    · go_simp
      obtain ⟨w2, hw2⟩ : ∃ w2, w2 = (w1.alloc (Obj.cells #[Value.int IntKind.u64 (qx : Int), Value.int IntKind.u64 ((j : Int) + 1)] 50)).drew := ⟨_, rfl⟩
      have b2 : Blk w2 w1.heap.size 50 (bv (qx, j + 1)).toArray := by rw [hw2]; exact Blk.new w1 _ _
      have t12 : Turn w1 w2 none := by rw [hw2]; exact ((Turn.refl w1 none).alloc _).drew
      rw [← hw2]
      clear hw2
      have T2 := ht5.trans t12
      obtain ⟨gv, hgv⟩ : ∃ gv, gv = w1.heap.size := ⟨_, rfl⟩
      rw [← hgv] at b2 ⊢
      have hgw : w.heap.size ≤ gv := by have := ht5.size; omega
      clear hgv
      have e4 : w2.cell? ⟨g, 4, none⟩ = some (.slice z.A N z.c) := (T2.cell (a := ⟨g, 4, none⟩) B0.lt (by simp)).trans c4
      have hne : blk z.A ≠ some gv := fun e => by have := (hzlt gv e).2; omega
      refine hK.out _ _ (Or.inr e4) ?_; clear hK K; (try simp only [Act.put, List.getElem_toArray, List.getElem_cons_zero, List.getElem_cons_succ, List.setIfInBounds_toArray, List.set_cons_zero, List.set_cons_succ])
      refine wpTwo_ready (rs := [8]) (by kernel_rfl) (by simp) ?_
      refine AllTwo.cons rfl (fun K hK => ?_) ?_
      · go_simp
        refine (ins16_any (hz0.turn0 T2) b2 hne hat hf).mono ?_
        rintro e w3 ⟨A1, c1, rfl, ho3, t3, hb3⟩
        go_simp
        have B3 := (B0.turn0 T2).turn t3 (fun e => gz e.symm)
        have e5 : w3.cell? ⟨g, 4, none⟩ = some (.slice z.A N z.c) := (t3.cell (a := ⟨g, 4, none⟩) (B0.turn0 T2).lt (fun e => gz e.symm)).trans e4
        have f5 := B3.frozen 4
        refine hK.out _ _ (Or.inr e5) ?_; clear hK K; (try simp only [Act.put, List.getElem_toArray, List.getElem_cons_zero, List.getElem_cons_succ, List.setIfInBounds_toArray, List.set_cons_zero, List.set_cons_succ])
        (refine wpTwo_takeT (i := 9) (v := ?_) rfl (by decide) (by kernel_rfl) (by kernel_rfl) (by kernel_rfl) (fun _ _ _ h => h) (Or.inl ⟨rfl, ?_⟩) (Or.inr e5) ?_; rotate_left 1; · (intro w hSw; clear hSw; go_simp; (try with_reducible rfl))); (try simp only [Act.put, List.getElem_toArray, List.getElem_cons_zero, List.getElem_cons_succ, List.setIfInBounds_toArray, List.set_cons_zero, List.set_cons_succ])
        (refine wpTwo_takeT (i := 10) (v := ?_) rfl (by decide) (by kernel_rfl) (by kernel_rfl) (by kernel_rfl) (fun _ _ _ h => h) (Or.inl ⟨rfl, ?_⟩) (Or.inr e5) ?_; rotate_left 1; · (intro w hSw; clear hSw; go_simp; (try with_reducible rfl))); (try simp only [Act.put, List.getElem_toArray, List.getElem_cons_zero, List.getElem_cons_succ, List.setIfInBounds_toArray, List.set_cons_zero, List.set_cons_succ])
        refine wpTwo_ready (rs := [11]) (by kernel_rfl) (by simp) ?_
        refine AllTwo.cons rfl (fun K hK => ?_) ?_
        · go_simp
          refine hK.out _ _ (Or.inl rfl) ?_; clear hK K; (try simp only [Act.put, List.getElem_toArray, List.getElem_cons_zero, List.getElem_cons_succ, List.setIfInBounds_toArray, List.set_cons_zero, List.set_cons_succ])
          refine wpTwo_done (by kernel_rfl) ?_ _
          refine NoPanic.normal ?_
          have hgg5 : g ≠ g5 := fun e => by have := B0.lt; omega
          have hz5 : blk z.A ≠ some g5 := fun e => by have := (hzlt g5 e).2; omega
          have b5 := (hb5.turn0 t12).turn t3 (fun e => hz5 e.symm)
          have hy3 := (hy0.turn0 T2).turnO (hz0.turn0 T2) (by decide) t3
          have m3 := (h.mp.turn0 T2).turn t3 (fun e => mz e.symm)
          have hx3 := (h.hx.turn0 T2).turnO (hz0.turn0 T2) (by decide) t3
          obtain ⟨w4, hw4⟩ : ∃ w4, w4 = w3.setCell ⟨g, 4, none⟩ (.slice A1 (N + 1) c1) := ⟨_, rfl⟩
          have B4 := B3.sets 4 (.slice A1 (N + 1) c1)
          have T4 := Blk.setTurn w3 g 4 (.slice A1 (N + 1) c1)
          rw [← hw4] at B4 T4 ⊢
          clear hw4
          have B4 : Blk w4 g 55 [.int .u64 (t.lim : Int), .map (some m), x.v, .slice y.A M y.c, .slice A1 (N + 1) c1].toArray := by rw [← hyn]; exact B4
          have b6 := b5.turn T4 (fun e => hgg5 (by injection e with e; exact e.symm))
          have hy4 := hy3.turn T4 (.inr (hy3.notB B3 (by decide)))
          have hx4 := hx3.turn T4 (.inr (hx3.notB B3 (by decide)))
          have hz4 := ho3.turn T4 (.inr (ho3.notB B3 (by decide)))
          have m4 := m3.turn T4 h.notG
          obtain ⟨q3, hyA, _, hq3⟩ := hy4.head (by omega)
          rw [hyA] at hy4 B4
          have s3 : w4.cell? ⟨g, 3, none⟩ = some (.slice (some ⟨q3, 0, none⟩) M y.c) := B4.ats rfl
          have s5 : w4.cell? ⟨g5, 1, none⟩ = some (.int .u64 ((j : Int) + 1)) := b6.ats rfl
          have sy := hy4.cell (i := j) (by omega)
          rw [fvs_at hj] at sy
          have fy := hy4.frozen j
          have nqg : q3 ≠ g := fun e => by
            have := hy4.notB B4 (by decide)
            rw [e] at this
            exact this rfl
          have nq5 : q3 ≠ g5 := fun e => by
            obtain ⟨cur, h1, _⟩ := hy4.obj (g := q3) rfl
            rw [e, show w4.heap[g5]? = _ from b6] at h1
            injection h1 with h1
            injection h1 with _ h1
            exact absurd h1 (by decide)
          have hwj : IntKind.u64.wrap (j : Int) = (j : Int) := by rw [IntKind.wrap_u64]; omega
          have hjM : (j : Int) < (M : Int) := by omega
          go_upto_region 2 with fail
          refine wp_region_noPanic ?_
          refine wp_region_held_drew (S := fun W => (W.cell? ⟨g, 3, none⟩ = some (.slice (some ⟨q3, 0, none⟩) M y.c) ∧ W.cell? ⟨g5, 1, none⟩ = some (.int .u64 ((j : Int) + 1)))) (by kernel_rfl) (⟨s3, s5⟩) (fun hHeld => ?_)
          (first | (refine wpAnyH_take (i := 0) (v := undef) rfl (by kernel_rfl) (by kernel_rfl) (by kernel_rfl) (fun _ _ _ h => h) (Or.inr ⟨rfl, rfl⟩) (by assumption) ?_) | (refine wpAnyH_take (i := 0) (v := ?_) rfl (by kernel_rfl) (by kernel_rfl) (by kernel_rfl) (fun _ _ _ h => h) (Or.inl ⟨rfl, ?_⟩) (by assumption) ?_; rotate_left 1; · (intro w hSw; (try dsimp only at hSw); go_simp; (try with_reducible rfl)))); (try simp only [Act.put, List.getElem_toArray, List.getElem_cons_zero, List.getElem_cons_succ, List.setIfInBounds_toArray, List.set_cons_zero, List.set_cons_succ])
          (first | (refine wpAnyH_take (i := 1) (v := undef) rfl (by kernel_rfl) (by kernel_rfl) (by kernel_rfl) (fun _ _ _ h => h) (Or.inr ⟨rfl, rfl⟩) (by assumption) ?_) | (refine wpAnyH_take (i := 1) (v := ?_) rfl (by kernel_rfl) (by kernel_rfl) (by kernel_rfl) (fun _ _ _ h => h) (Or.inl ⟨rfl, ?_⟩) (by assumption) ?_; rotate_left 1; · (intro w hSw; (try dsimp only at hSw); go_simp; (try with_reducible rfl)))); (try simp only [Act.put, List.getElem_toArray, List.getElem_cons_zero, List.getElem_cons_succ, List.setIfInBounds_toArray, List.set_cons_zero, List.set_cons_succ])
          (first | (refine wpAnyH_take (i := 2) (v := undef) rfl (by kernel_rfl) (by kernel_rfl) (by kernel_rfl) (fun _ _ _ h => h) (Or.inr ⟨rfl, rfl⟩) (by assumption) ?_) | (refine wpAnyH_take (i := 2) (v := ?_) rfl (by kernel_rfl) (by kernel_rfl) (by kernel_rfl) (fun _ _ _ h => h) (Or.inl ⟨rfl, ?_⟩) (by assumption) ?_; rotate_left 1; · (intro w hSw; (try dsimp only at hSw); go_simp; (try with_reducible rfl)))); (try simp only [Act.put, List.getElem_toArray, List.getElem_cons_zero, List.getElem_cons_succ, List.setIfInBounds_toArray, List.set_cons_zero, List.set_cons_succ])
          (first | (refine wpAnyH_take (i := 3) (v := undef) rfl (by kernel_rfl) (by kernel_rfl) (by kernel_rfl) (fun _ _ _ h => h) (Or.inr ⟨rfl, rfl⟩) (by assumption) ?_) | (refine wpAnyH_take (i := 3) (v := ?_) rfl (by kernel_rfl) (by kernel_rfl) (by kernel_rfl) (fun _ _ _ h => h) (Or.inl ⟨rfl, ?_⟩) (by assumption) ?_; rotate_left 1; · (intro w hSw; (try dsimp only at hSw); go_simp; (try with_reducible rfl)))); (try simp only [Act.put, List.getElem_toArray, List.getElem_cons_zero, List.getElem_cons_succ, List.setIfInBounds_toArray, List.set_cons_zero, List.set_cons_succ])
          (first | (refine wpAnyH_take (i := 4) (v := undef) rfl (by kernel_rfl) (by kernel_rfl) (by kernel_rfl) (fun _ _ _ h => h) (Or.inr ⟨rfl, rfl⟩) (by assumption) ?_) | (refine wpAnyH_take (i := 4) (v := ?_) rfl (by kernel_rfl) (by kernel_rfl) (by kernel_rfl) (fun _ _ _ h => h) (Or.inl ⟨rfl, ?_⟩) (by assumption) ?_; rotate_left 1; · (intro w hSw; (try dsimp only at hSw); go_simp; (try with_reducible rfl)))); (try simp only [Act.put, List.getElem_toArray, List.getElem_cons_zero, List.getElem_cons_succ, List.setIfInBounds_toArray, List.set_cons_zero, List.set_cons_succ])
          (first | (refine wpAnyH_take (i := 5) (v := undef) rfl (by kernel_rfl) (by kernel_rfl) (by kernel_rfl) (fun _ _ _ h => h) (Or.inr ⟨rfl, rfl⟩) (by assumption) ?_) | (refine wpAnyH_take (i := 5) (v := ?_) rfl (by kernel_rfl) (by kernel_rfl) (by kernel_rfl) (fun _ _ _ h => h) (Or.inl ⟨rfl, ?_⟩) (by assumption) ?_; rotate_left 1; · (intro w hSw; (try dsimp only at hSw); go_simp; (try with_reducible rfl)))); (try simp only [Act.put, List.getElem_toArray, List.getElem_cons_zero, List.getElem_cons_succ, List.setIfInBounds_toArray, List.set_cons_zero, List.set_cons_succ])
          (first | (refine wpAnyH_take (i := 6) (v := undef) rfl (by kernel_rfl) (by kernel_rfl) (by kernel_rfl) (fun _ _ _ h => h) (Or.inr ⟨rfl, rfl⟩) (by assumption) ?_) | (refine wpAnyH_take (i := 6) (v := ?_) rfl (by kernel_rfl) (by kernel_rfl) (by kernel_rfl) (fun _ _ _ h => h) (Or.inl ⟨rfl, ?_⟩) (by assumption) ?_; rotate_left 1; · (intro w hSw; (try dsimp only at hSw); go_simp; (try with_reducible rfl)))); (try simp only [Act.put, List.getElem_toArray, List.getElem_cons_zero, List.getElem_cons_succ, List.setIfInBounds_toArray, List.set_cons_zero, List.set_cons_succ])
          (first | (refine wpAnyH_take (i := 7) (v := undef) rfl (by kernel_rfl) (by kernel_rfl) (by kernel_rfl) (fun _ _ _ h => h) (Or.inr ⟨rfl, rfl⟩) (by assumption) ?_) | (refine wpAnyH_take (i := 7) (v := ?_) rfl (by kernel_rfl) (by kernel_rfl) (by kernel_rfl) (fun _ _ _ h => h) (Or.inl ⟨rfl, ?_⟩) (by assumption) ?_; rotate_left 1; · (intro w hSw; (try dsimp only at hSw); go_simp; (try with_reducible rfl)))); (try simp only [Act.put, List.getElem_toArray, List.getElem_cons_zero, List.getElem_cons_succ, List.setIfInBounds_toArray, List.set_cons_zero, List.set_cons_succ])
          have c5 : (w4.setCell ⟨q3, j, none⟩ (.bool true)).drew.cell? ⟨g, 3, none⟩ = some (.slice (some ⟨q3, 0, none⟩) M y.c) ∧ (w4.setCell ⟨q3, j, none⟩ (.bool true)).drew.cell? ⟨g5, 1, none⟩ = some (.int .u64 ((j : Int) + 1)) :=
            ⟨(World.cell?_setCell_other _ _ _ _ (fun e => nqg (by injection e))).trans s3, (World.cell?_setCell_other _ _ _ _ (fun e => nq5 (by injection e))).trans s5⟩
          refine wpAnyH_ready (rs := [8]) (by kernel_rfl) (by simp) ?_
          refine AllReadyH.cons rfl (fun K hK => ?_) AllReadyH.nil
          go_simp
          refine hK.out _ _ (c5) (fun hHeld => ?_)
          clear hK K
          (try simp only [Act.put, List.getElem_toArray, List.getElem_cons_zero, List.getElem_cons_succ, List.setIfInBounds_toArray, List.set_cons_zero, List.set_cons_succ])
          refine wpAnyH_done (by kernel_rfl) ?_ _
          refine NoPanic.normal ?_
          clear hHeld
          have hy6 := hy4.store j (.bool true)
          have T6 : Turn w4 (w4.setCell ⟨q3, j, none⟩ (.bool true)).drew (some q3) := (hy4.storeTurn j (.bool true)).drew
          have efl := HFL.out
          rw [← HM.out] at efl
          rw [← efl] at hy6
          have B6 := B4.turn T6 (fun e => nqg (by injection e with e; exact e.symm))
          have m6 := m4.turn T6 (fun e => by
            injection e with e
            obtain ⟨cur, h1, _⟩ := hy4.obj (g := q3) rfl
            rw [← e, m4.blk] at h1
            cases h1)
          have hx6 := hx4.turnO hy4 (by decide) T6
          have hz6 := hz4.turnO hy4 (by decide) T6
          have z2 := T2.size
          have z3 := t3.size
          have z4 := T4.size
          have z6 := T6.size
          have Sq : S q3 := h.sy q3 (by rw [hyA]; rfl)
          have C2 : Chg w w2 S := Chg.of0 T2 S
          have C3 : Chg w2 w3 S := Chg.of_blk t3 h.sz
          have C4 : Chg w3 w4 S := Chg.of T4 fun i e => by injection e with e; exact e ▸ h.sg
          have C6 := Chg.of (S := S) T6 fun i e => by injection e with e; exact e ▸ Sq
          have CC := ((C2.trans C3 fun i hi => .inl hi).trans C4 fun i hi => .inl hi).trans C6 fun i hi => .inl hi
          refine ⟨rfl, _, results_none rfl _ _ _, rfl, CC, fun i => S i ∨ blk A1 = some i, ⟨m, clock, x, ⟨some ⟨q3, 0, none⟩, M, y.c⟩, ⟨A1, N + 1, c1⟩, es, B6, m6, h.en, hx6, ?_, ?_, .inl h.sg, .inl h.sm, fun k e => .inl (h.sx k e), fun k e => ?_, fun k e => .inr e, ?_, HWF.out⟩, ?_⟩
          · show Own _ 0 4 1 (some ⟨q3, 0, none⟩) M y.c (fvs t.L.length (iIns qx (j + 1) t.B))
            rw [← HM.out]
            exact hy6
          · show Own _ 0 50 2 A1 (N + 1) c1 (bvs (iIns qx (j + 1) t.B))
            rw [HIN.out]
            exact hz6
          · injection e with e
            exact .inl ((show q3 = k from e) ▸ Sq)
          · rintro i (hi | hi)
            · have := h.lt i hi; omega
            · exact (hz6.block i hi).2
          · rintro i (hi | hi)
            · exact .inl hi
            · rcases hb3 with q | ⟨q, h8, h9⟩
              · exact .inl (h.sz i (by rw [← q]; exact hi))
              · rw [h8] at hi
                injection hi with hi
                exact .inr (by omega)
        · exact AllTwo.nil
      · exact AllTwo.nil
    · exact AllTwo.nil
  · exact AllTwo.nil
end
end Go.Proofs.Ytnkmpcepdjjopaa
