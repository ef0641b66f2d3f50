/-
  Layer 16: the law's tells and same.
-/
import Derived.Test.YtnkmpcepdjjopaaIdV
namespace Go.Proofs.Ytnkmpcepdjjopaa
set_option linter.unusedSimpArgs false
set_option linter.unusedVariables false
open Go.RowKit

section
variable {w w0 : World} {g r : Nat} {S T : Nat → Prop} {t : Idt}
theorem map16_pt (h : Pt w g S t) (hf : t.B.length ≤ 100000) (q : Nat) :
    Calls Try.prog 22 #[.pointer (some ⟨g, 0, none⟩), .int .u64 (q : Int)] w fun e w' => e = .returned (.tuple #[.int .u64 ((iMap t.B q : Nat) : Int), .bool (decide (iMap t.B q ≠ 0))]) ∧ Turn w w' none := by
  obtain ⟨m, c, x, y, z, es, h⟩ := h
  exact map16_any h hf q
theorem bounds16_pt (h : Pt w g S t) (hf : t.B.length ≤ 100000) :
    Calls Try.prog 11 #[.pointer (some ⟨g, 0, none⟩)] w fun e w' => ∃ A' c', e = .returned (.slice A' t.B.length c') ∧ Own w' w.heap.size 50 2 A' t.B.length c' (bvs t.B) ∧ Turn w w' none := by
  obtain ⟨m, c, x, y, z, es, h⟩ := h
  exact bounds16_any h hf
theorem rof16_pt (h : Rt16 w r T t) (hf : t.L.length ≤ 100000) (s : List UInt8) :
    Calls Try.prog 20 #[.pointer (some ⟨r, 0, none⟩), .string (txt s)] w fun e w' => e = .returned (.tuple #[.int .u64 ((t.of s : Nat) : Int), .bool (decide (t.of s ≠ 0))]) ∧ w = w' := by
  obtain ⟨x, z, h⟩ := h
  exact rof16_any h hf s
theorem rtext16_pt (h : Rt16 w r T t) (hf : t.L.length ≤ 100000) (n : Nat) (hn : n ≤ 18446744073709551615) :
    Calls Try.prog 21 #[.pointer (some ⟨r, 0, none⟩), .int .u64 (n : Int)] w fun e w' => e = .returned (.tuple #[.string (txt (t.text n).1), .bool (t.text n).2]) ∧ w = w' := by
  obtain ⟨x, z, h⟩ := h
  exact rtext16_any h hf n hn
theorem rmap16_pt (h : Rt16 w r T t) (hf : t.B.length ≤ 100000) (q : Nat) :
    Calls Try.prog 23 #[.pointer (some ⟨r, 0, none⟩), .int .u64 (q : Int)] w fun e w' => e = .returned (.tuple #[.int .u64 ((iMap t.B q : Nat) : Int), .bool (decide (iMap t.B q ≠ 0))]) ∧ w = w' := by
  obtain ⟨x, z, h⟩ := h
  exact rmap16_any h hf q
/-- What lies in the document's table. -/
theorem rt16_cells (h : Rt16 w r T t) : ∃ A c D d, w.cell? ⟨r, 1, none⟩ = some (.slice A t.L.length c) ∧ w.cell? ⟨r, 2, none⟩ = some (.slice D t.B.length d) ∧ Own w 0 50 2 D t.B.length d (bvs t.B) := by
  obtain ⟨x, z, h⟩ := h
  have hz := h.hz
  rw [h.zn] at hz
  exact ⟨x.A, x.c, z.A, z.c, by rw [← h.xn]; exact h.b.ats rfl, by rw [← h.zn]; exact h.b.ats rfl, hz⟩
set_option maxRecDepth 100000 in
set_option maxHeartbeats 1600000 in
theorem tells16_any (h : Bd w0 w g r S T t t) (a : A16) (ha : a.Ok) (hf : t.B.length ≤ 1000) (hf2 : t.L.length ≤ 1000) (n : Nat) (hn : n ≤ 1000) :
    Calls Try.prog 9 #[.pointer (some ⟨g, 0, none⟩), .pointer (some ⟨r, 0, none⟩), .agg #[.int .i64 a.k, .int .u64 (a.x : Int), .string (txt a.s)], .int .u64 (n : Int)] w fun e w' => e = .returned (.bool true) ∧ Turn w w' none := by
  obtain ⟨k, x, s⟩ := a
  obtain ⟨hx, hs⟩ := ha
  simp only at hx hs ⊢
  have k1 := fun {w} (T : Turn _ w none) => of16_pt (h.turn0 T).p (s := s) (by unfold maxLen; omega)
  have k2 := fun {w} (T : Turn _ w none) => rof16_pt (h.turn0 T).q (by omega) s
  have k3 := fun {w} (T : Turn _ w none) => text16_pt (h.turn0 T).p (by omega) n (by omega)
  have k4 := fun {w} (T : Turn _ w none) => rtext16_pt (h.turn0 T).q (by omega) n (by omega)
  have k5 := fun {w} (T : Turn _ w none) => map16_pt (h.turn0 T).p (by omega) x
  have k6 := fun {w} (T : Turn _ w none) => rmap16_pt (h.turn0 T).q (by omega) x
  have k7 := fun {w} (T : Turn _ w none) => len16_pt (h.turn0 T).p
  have k8 := fun {w} (T : Turn _ w none) => rt16_cells (h.turn0 T).q
  have hbe : ((txt (t.text n).1).toList == (txt (t.text n).1).toList) = true := beq_self_eq_true _
  generalize (t.text n).1 = tx at *
  generalize (t.text n).2 = tb at *
  generalize decide (t.of s ≠ 0) = d1 at *
  generalize ((t.of s : Nat) : Int) = d2 at *
  generalize decide (iMap t.B x ≠ 0) = d3 at *
  generalize ((iMap t.B x : Nat) : Int) = d4 at *
  generalize t.L.length = N at *
  clear h
  go_enter Try.func9, Try.ntmps9
  go_upto_region 7 with (first
    | (refine wp_bx rfl 30 _ rfl rfl ?_; intro g5 w1 hg5 hb5 ht5; have e1 : w1.cell? ⟨g5, 1, none⟩ = some (.int .u64 (x : Int)) := hb5.ats rfl; have e2 : w1.cell? ⟨g5, 2, none⟩ = some (.string (txt s)) := hb5.ats rfl)
    | (go_at_call 17; refine (k1 ht5).mono ?_; rintro e w2 ⟨rfl, rfl⟩)
    | (go_at_call 20; refine (k2 ht5).mono ?_; rintro e w2 ⟨rfl, rfl⟩)
    | (go_at_call 16; refine (k3 ht5).mono ?_; rintro e w2 ⟨rfl, rfl⟩)
    | (go_at_call 21; refine (k4 ht5).mono ?_; rintro e w2 ⟨rfl, rfl⟩)
    | (go_at_call 22; refine (k5 ht5).mono ?_; rintro e w3 ⟨rfl, t3⟩; have T3 := ht5.trans t3; have f1 : w3.cell? ⟨g5, 1, none⟩ = some (.int .u64 (x : Int)) := (hb5.turn0 t3).ats rfl)
    | (go_at_call 23; refine (k6 T3).mono ?_; rintro e w4 ⟨rfl, rfl⟩))
  obtain ⟨A, c, DD, dd, c1, _⟩ := k8 T3
  have k9 := fun m => k7 (T3.drewN m)
  go_quiet ((go_at_call 15; exact gd_quiet (k9 _)))
  go_wp2
  go_ret
  exact ⟨rfl, T3.drewN _⟩
set_option maxRecDepth 100000 in
set_option maxHeartbeats 1600000 in
theorem same16_any {A D : Option Addr} {n c d b1 b2 : Nat} {B : List (Nat × Nat)} (ha : Own w b1 50 2 A n c (bvs B)) (hd : Own w b2 50 2 D n d (bvs B)) (hn : n ≤ 1000) :
    Calls Try.prog 10 #[.slice A n c, .slice D n d] w fun e w' => e = .returned (.bool true) ∧ Turn w w' none := by
  have hl : n = B.length := by have := ha.len_; rw [bvs_len] at this; omega
  have HL := hid hl
  clear hl
  go_enter Try.func10, Try.ntmps10
  go_wp2
  go_loopw [5] (fun i wr => ∃ j : Nat, j ≤ n ∧ i = .int .i64 (j : Int) ∧ Turn w wr none) (fun i _ => (n - intOf i).toNat)
  case atStart => exact ⟨0, by omega, rfl, Turn.refl w none⟩
  case round =>
    obtain ⟨j, hj, rfl, htr⟩ := hrel
    have hw1 : wrap64 ((j : Int) + 1) = (j : Int) + 1 := by unfold wrap64; omega
    by_cases hjn : j < n
    · obtain ⟨p, hp⟩ : ∃ p, B[j]? = some p := ⟨_, List.getElem?_eq_getElem (by have := HL.out; omega)⟩
      obtain ⟨ga, rfl, _, _⟩ := ha.head (by omega)
      obtain ⟨gd, rfl, _, _⟩ := hd.head (by omega)
      have RA : wr.drew.rangeAt ga (j * 2) ([.int .u64 (p.1 : Int), .int .u64 (p.2 : Int)] : List Value) := (ha.turn0 htr).bnd hp
      have RD : wr.drew.rangeAt gd (j * 2) ([.int .u64 (p.1 : Int), .int .u64 (p.2 : Int)] : List Value) := (hd.turn0 htr).bnd hp
      clear hp
      go_upto_region 6 with fail
      refine wp_region_noPanic ?_
      refine wp_region_held_drew (S := fun W => (W.rangeAt ga (j * 2) ([.int .u64 (p.1 : Int), .int .u64 (p.2 : Int)] : List Value) ∧ W.rangeAt gd (j * 2) ([.int .u64 (p.1 : Int), .int .u64 (p.2 : Int)] : List Value))) (by kernel_rfl) (⟨RA, RD⟩) (fun hHeld => ?_)
      (first | (refine wpAnyH_take (i := 0) (v := undef) rfl (by kernel_rfl) (by kernel_rfl) (by kernel_rfl) (fun _ _ _ h => h) (Or.inr ⟨rfl, rfl⟩) (by assumption) ?_) | (refine wpAnyH_take (i := 0) (v := ?_) rfl (by kernel_rfl) (by kernel_rfl) (by kernel_rfl) (fun _ _ _ h => h) (Or.inl ⟨rfl, ?_⟩) (by assumption) ?_; rotate_left 1; · (intro w hSw; (try dsimp only at hSw); go_simp; (try with_reducible rfl)))); (try simp only [Act.put, List.getElem_toArray, List.getElem_cons_zero, List.getElem_cons_succ, List.setIfInBounds_toArray, List.set_cons_zero, List.set_cons_succ])
      (first | (refine wpAnyH_take (i := 1) (v := undef) rfl (by kernel_rfl) (by kernel_rfl) (by kernel_rfl) (fun _ _ _ h => h) (Or.inr ⟨rfl, rfl⟩) (by assumption) ?_) | (refine wpAnyH_take (i := 1) (v := ?_) rfl (by kernel_rfl) (by kernel_rfl) (by kernel_rfl) (fun _ _ _ h => h) (Or.inl ⟨rfl, ?_⟩) (by assumption) ?_; rotate_left 1; · (intro w hSw; (try dsimp only at hSw); go_simp; (try with_reducible rfl)))); (try simp only [Act.put, List.getElem_toArray, List.getElem_cons_zero, List.getElem_cons_succ, List.setIfInBounds_toArray, List.set_cons_zero, List.set_cons_succ])
      (first | (refine wpAnyH_take (i := 2) (v := undef) rfl (by kernel_rfl) (by kernel_rfl) (by kernel_rfl) (fun _ _ _ h => h) (Or.inr ⟨rfl, rfl⟩) (by assumption) ?_) | (refine wpAnyH_take (i := 2) (v := ?_) rfl (by kernel_rfl) (by kernel_rfl) (by kernel_rfl) (fun _ _ _ h => h) (Or.inl ⟨rfl, ?_⟩) (by assumption) ?_; rotate_left 1; · (intro w hSw; (try dsimp only at hSw); go_simp; (try with_reducible rfl)))); (try simp only [Act.put, List.getElem_toArray, List.getElem_cons_zero, List.getElem_cons_succ, List.setIfInBounds_toArray, List.set_cons_zero, List.set_cons_succ])
      (first | (refine wpAnyH_take (i := 4) (v := undef) rfl (by kernel_rfl) (by kernel_rfl) (by kernel_rfl) (fun _ _ _ h => h) (Or.inr ⟨rfl, rfl⟩) (by assumption) ?_) | (refine wpAnyH_take (i := 4) (v := ?_) rfl (by kernel_rfl) (by kernel_rfl) (by kernel_rfl) (fun _ _ _ h => h) (Or.inl ⟨rfl, ?_⟩) (by assumption) ?_; rotate_left 1; · (intro w hSw; (try dsimp only at hSw); go_simp; (try with_reducible rfl)))); (try simp only [Act.put, List.getElem_toArray, List.getElem_cons_zero, List.getElem_cons_succ, List.setIfInBounds_toArray, List.set_cons_zero, List.set_cons_succ])
      (first | (refine wpAnyH_take (i := 5) (v := undef) rfl (by kernel_rfl) (by kernel_rfl) (by kernel_rfl) (fun _ _ _ h => h) (Or.inr ⟨rfl, rfl⟩) (by assumption) ?_) | (refine wpAnyH_take (i := 5) (v := ?_) rfl (by kernel_rfl) (by kernel_rfl) (by kernel_rfl) (fun _ _ _ h => h) (Or.inl ⟨rfl, ?_⟩) (by assumption) ?_; rotate_left 1; · (intro w hSw; (try dsimp only at hSw); go_simp; (try with_reducible rfl)))); (try simp only [Act.put, List.getElem_toArray, List.getElem_cons_zero, List.getElem_cons_succ, List.setIfInBounds_toArray, List.set_cons_zero, List.set_cons_succ])
      (first | (refine wpAnyH_take (i := 6) (v := undef) rfl (by kernel_rfl) (by kernel_rfl) (by kernel_rfl) (fun _ _ _ h => h) (Or.inr ⟨rfl, rfl⟩) (by assumption) ?_) | (refine wpAnyH_take (i := 6) (v := ?_) rfl (by kernel_rfl) (by kernel_rfl) (by kernel_rfl) (fun _ _ _ h => h) (Or.inl ⟨rfl, ?_⟩) (by assumption) ?_; rotate_left 1; · (intro w hSw; (try dsimp only at hSw); go_simp; (try with_reducible rfl)))); (try simp only [Act.put, List.getElem_toArray, List.getElem_cons_zero, List.getElem_cons_succ, List.setIfInBounds_toArray, List.set_cons_zero, List.set_cons_succ])
      refine wpAnyH_take (i := 3) rfl (by kernel_rfl) (by kernel_rfl) (by kernel_rfl) (fun _ _ _ h => h) (yieldsIf_load_mid (by rfl) 50 _ rfl ga (j * 2) rfl ([.int .u64 (p.1 : Int), .int .u64 (p.2 : Int)]) _ (fun _ h => h.1) Try.underlying50 rfl szBd) (by assumption) ?_; (try simp only [Act.put, List.getElem_toArray, List.getElem_cons_zero, List.getElem_cons_succ, List.setIfInBounds_toArray, List.set_cons_zero, List.set_cons_succ])
      refine wpAnyH_take (i := 7) rfl (by kernel_rfl) (by kernel_rfl) (by kernel_rfl) (fun _ _ _ h => h) (yieldsIf_load_mid (by rfl) 50 _ rfl gd (j * 2) rfl ([.int .u64 (p.1 : Int), .int .u64 (p.2 : Int)]) _ (fun _ h => h.2) Try.underlying50 rfl szBd) (by assumption) ?_; (try simp only [Act.put, List.getElem_toArray, List.getElem_cons_zero, List.getElem_cons_succ, List.setIfInBounds_toArray, List.set_cons_zero, List.set_cons_succ])
      (first | (refine wpAnyH_take (i := 8) (v := undef) rfl (by kernel_rfl) (by kernel_rfl) (by kernel_rfl) (fun _ _ _ h => h) (Or.inr ⟨rfl, rfl⟩) (by assumption) ?_) | (refine wpAnyH_take (i := 8) (v := ?_) rfl (by kernel_rfl) (by kernel_rfl) (by kernel_rfl) (fun _ _ _ h => h) (Or.inl ⟨rfl, ?_⟩) (by assumption) ?_; rotate_left 1; · (intro w hSw; (try dsimp only at hSw); go_simp; (try with_reducible rfl)))); (try simp only [Act.put, List.getElem_toArray, List.getElem_cons_zero, List.getElem_cons_succ, List.setIfInBounds_toArray, List.set_cons_zero, List.set_cons_succ])
      refine wpAnyH_done (by kernel_rfl) ?_ _
      refine NoPanic.normal ?_
      clear hHeld
      go_wp2
      refine ⟨⟨j + 1, by omega, rfl, htr.drew⟩, ?_⟩
      simp [intOf]; omega
    · obtain rfl : n = j := by omega
      go_wp2
      go_ret
      exact ⟨rfl, htr⟩
end
end Go.Proofs.Ytnkmpcepdjjopaa
