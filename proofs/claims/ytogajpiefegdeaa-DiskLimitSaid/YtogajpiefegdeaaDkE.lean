/-
  Layer 14: Read, Sync, Write, Replace (contracts of the code).
-/
import Derived.Test.YtogajpiefegdeaaDkC
namespace Go.Proofs.Ytogajpiefegdeaa
set_option linter.unusedSimpArgs false
set_option linter.unusedVariables false
open Go.RowKit

theorem fErr_nat {n : Int} (h : fErr n = 0) : ∃ j : Nat, j < 2 ∧ n = (j : Int) := by
  unfold fErr at h
  split at h
  · omega
  · exact ⟨n.toNat, by omega, by omega⟩
theorem fErr_no {n : Int} (h : fErr n ≠ 0) : fErr n = 1 := by
  unfold fErr at h ⊢
  split
  · rfl
  · rename_i h2; rw [if_neg h2] at h; exact absurd rfl h
theorem cErr_cases (D : Dsk) (n : Int) : (D.cErr n = 0 ∧ ∃ j : Nat, j < 2 ∧ n = (j : Int)) ∨ D.cErr n = 140 ∨ D.cErr n = 1 := by
  unfold Dsk.cErr
  split
  · exact .inr (.inl rfl)
  · by_cases h : fErr n = 0
    · exact .inl ⟨h, fErr_nat h⟩
    · exact .inr (.inr (fErr_no h))
theorem dErr_cases (D : Dsk) (n : Int) : (D.dErr n = 0 ∧ ∃ j : Nat, j < 2 ∧ n = (j : Int)) ∨ D.dErr n = 140 ∨ D.dErr n = 1 := by
  unfold Dsk.dErr
  split
  · exact .inr (.inl rfl)
  · by_cases h : fErr n = 0
    · exact .inl ⟨h, fErr_nat h⟩
    · exact .inr (.inr (fErr_no h))

set_option maxRecDepth 100000 in
set_option maxHeartbeats 1600000 in
theorem read_any {w : World} {g : Nat} {S : Nat → Nat → Prop} {v u : Nat → Sl} {lv : Int} {D : Dsk} (h : PD w g S v u lv D) (n : Int) :
    Calls Try.prog 18 #[.pointer (some ⟨g, 0, none⟩), .int .i64 n] w fun e w' => ∃ A c,
      e = .returned (.tuple #[.slice A (D.rd n).length c, .int .i64 (D.dErr n)]) ∧ Own w' w.heap.size 5 1 A (D.rd n).length c (vbs (D.rd n)) ∧ Turn w w' none := by
  rcases dErr_cases D n with ⟨he, j, hj, rfl⟩ | he | he
  · have hrd : D.rd (j : Int) = (D.f j).all := by unfold Dsk.rd; rw [if_pos he, Int.toNat_natCast]
    rw [hrd]
    clear hrd
    have hl := look_any h (j : Int)
    rw [he] at hl
    rw [he]
    clear he
    have hf := h.f j hj
    have hal := (h.ok.f j hj).all
    have hvn := hf.vn
    have hcl := clone_any (v j).A (v j).n (v j).c (D.f j).all w.heap.size w hf.hv.rd (Nat.le_refl _) (by omega)
    have hc := h.b.at_ (pdc_sub D v u lv hj) (j := 0) (v := .slice (v j).A (v j).n (v j).c) rfl
    rw [Nat.add_zero] at hc
    obtain ⟨L, hL⟩ : ∃ L, L = (D.f j).all.length := ⟨_, rfl⟩
    rw [← hL]
    rw [← hL] at hvn
    rw [hvn] at hc hcl
    clear hL hvn hal
    obtain rfl | rfl : j = 0 ∨ j = 1 := by omega
    all_goals
      go_enter Try.func18, Try.ntmps18
      go_wp2_with (first
        | (go_at_call 33; refine hl.mono ?_; rintro e w1 ⟨rfl, rfl⟩)
        | (go_at_call 34; refine hcl.mono ?_; rintro e w2 ⟨A2, c2, rfl, ho2, ht2⟩))
      go_ret2
      exact ⟨A2, c2, rfl, ho2, ht2⟩
  · have hrd : D.rd n = [] := by unfold Dsk.rd; rw [he]; rfl
    rw [hrd]
    have hl := look_any h n
    rw [he] at hl
    rw [he]
    clear he hrd
    go_enter Try.func18, Try.ntmps18
    go_wp2_with (first
      | (go_at_call 33; refine hl.mono ?_; rintro e w1 ⟨rfl, rfl⟩))
    go_ret2
    exact ⟨none, 0, rfl, Own.nil _ _ _ _, Turn.refl w none⟩
  · have hrd : D.rd n = [] := by unfold Dsk.rd; rw [he]; rfl
    rw [hrd]
    have hl := look_any h n
    rw [he] at hl
    rw [he]
    clear he hrd
    go_enter Try.func18, Try.ntmps18
    go_wp2_with (first
      | (go_at_call 33; refine hl.mono ?_; rintro e w1 ⟨rfl, rfl⟩))
    go_ret2
    exact ⟨none, 0, rfl, Own.nil _ _ _ _, Turn.refl w none⟩

/-- What a call of the program's leaves: the disk, in blocks of its own, and what else has turned. -/
def Pk (w : World) (g : Nat) (R : Nat → Prop) (D : Dsk) : Prop := ∃ S v u lv, PD w g S v u lv D ∧ ∀ k, (k = g ∨ S 0 k ∨ S 1 k) ↔ R k
def NewR (w w' : World) (R : Nat → Prop) : Nat → Prop := fun k => R k ∨ (w.heap.size ≤ k ∧ k < w'.heap.size)
theorem Pk.lt {w : World} {g : Nat} {R : Nat → Prop} {D : Dsk} (h : Pk w g R D) {k : Nat} (hk : R k) : k < w.heap.size := by
  obtain ⟨S, v, u, lv, hp, hr⟩ := h
  rcases (hr k).2 hk with rfl | h1 | h1
  · exact hp.b.lt
  · exact hp.lt 0 k (by omega) h1
  · exact hp.lt 1 k (by omega) h1
theorem Pk.chg {w w' : World} {g : Nat} {T R : Nat → Prop} {D : Dsk} (h : Pk w g R D) (hc : Chg w w' T) (hd : ∀ k, R k → ¬ T k) : Pk w' g R D := by
  obtain ⟨S, v, u, lv, hp, hR⟩ := h
  refine ⟨S, v, u, lv, hp.chg hc (fun e => hd g ((hR g).1 (.inl rfl)) e) (fun i k hi hk e => hd k ((hR k).1 ?_) e), hR⟩
  obtain rfl | rfl : i = 0 ∨ i = 1 := by omega
  · exact .inr (.inl hk)
  · exact .inr (.inr hk)
/-- A step of the disk. -/
def Stp (w w' : World) (R : Nat → Prop) (g : Nat) (D' : Dsk) : Prop := Chg w w' R ∧ ∃ R', Pk w' g R' D' ∧ ∀ k, R' k → R k ∨ w.heap.size ≤ k
theorem Stp.refl {w : World} {R : Nat → Prop} {g : Nat} {D : Dsk} (h : Pk w g R D) : Stp w w R g D := ⟨Chg.refl w R, R, h, fun _ h => .inl h⟩
theorem PD.stp {w w' : World} {R : Nat → Prop} {g : Nat} {S : Nat → Nat → Prop} {v u : Nat → Sl} {lv : Int} {D : Dsk} (h : PD w' g S v u lv D) (hc : Chg w w' R) (hk : ∀ k, (k = g ∨ S 0 k ∨ S 1 k) → R k ∨ w.heap.size ≤ k) : Stp w w' R g D :=
  ⟨hc, _, ⟨S, v, u, lv, h, fun _ => Iff.rfl⟩, hk⟩

/-- Behind a call that was refused. -/
theorem PD.no {w w1 : World} {R : Nat → Prop} {g : Nat} {S : Nat → Nat → Prop} {v u : Nat → Sl} {lv : Int} {D : Dsk} (h : PD w1 g S v u lv D) (ht : Turn w w1 (some g)) (hR : ∀ k, (k = g ∨ S 0 k ∨ S 1 k) ↔ R k) : Stp w w1 R g D :=
  h.stp (Chg.of ht fun i e => by injection e with e; exact e ▸ (hR g).1 (.inl rfl)) fun k hk => .inl ((hR k).1 hk)
/-- Behind a call that put another file in a file's place. -/
theorem PD.yes {w w1 w2 w3 : World} {R : Nat → Prop} {g j : Nat} {S : Nat → Nat → Prop} {T : Nat → Prop} {vs us : Nat → Sl} {lv : Int} {D : Dsk} {f : Fi} {v u : Sl} (h : PD w1 g S vs us lv D) (ht : Turn w w1 (some g)) (hR : ∀ k, (k = g ∨ S 0 k ∨ S 1 k) ↔ R k) (hj : j < 2)
    (hc : Chg w1 w2 (S j)) (t3 : Turn w2 w3 (some g)) (hb : Blk w3 g 56 ((((pdc D vs us lv).set (1 + j * 3) v.v).set (1 + j * 3 + 1) u.v).set (1 + j * 3 + 2) (.bool f.is)).toArray)
    (hf : Fil w2 T f v u) (hT : ∀ k, T k → S j k ∨ (w1.heap.size ≤ k ∧ k < w2.heap.size)) (hk : f.Ok) : Stp w w3 R g (D.put j f) := by
  have hSR : ∀ k, S j k → R k := fun k hk => (hR k).1 (by
    obtain rfl | rfl : j = 0 ∨ j = 1 := by omega
    · exact .inr (.inl hk)
    · exact .inr (.inr hk))
  have c1 : Chg w w1 R := Chg.of ht fun i e => by injection e with e; exact e ▸ (hR g).1 (.inl rfl)
  have c2 : Chg w w2 R := c1.trans hc fun i hi => .inl (hSR i hi)
  have c3 : Chg w w3 R := c2.trans (Chg.of (S := R) t3 fun i e => by injection e with e; exact e ▸ (hR g).1 (.inl rfl)) fun i hi => .inl hi
  refine (h.fput hj hc t3 (pdc_put D vs us lv f v u hj ▸ hb) hf hT hk).stp c3 fun k hq => ?_
  have s1 := ht.size
  have one : ∀ i, i < 2 → upd S j T i k → R k ∨ w.heap.size ≤ k := fun i hi hq => by
    by_cases hij : i = j
    · subst hij
      rw [upd_same] at hq
      rcases hT k hq with h1 | h1
      · exact .inl (hSR k h1)
      · exact .inr (by omega)
    · rw [upd_ne _ _ hij] at hq
      refine .inl ((hR k).1 ?_)
      obtain rfl | rfl : i = 0 ∨ i = 1 := by omega
      · exact .inr (.inl hq)
      · exact .inr (.inr hq)
  rcases hq with hq | hq | hq
  · exact .inl ((hR k).1 (.inl hq))
  · exact one 0 (by omega) hq
  · exact one 1 (by omega) hq
theorem rangeJ {w : World} {g : Nat} {S : Nat → Nat → Prop} {v u : Nat → Sl} {lv : Int} {D : Dsk} (h : PD w g S v u lv D) {j : Nat} (hj : j < 2) : w.rangeAt g (1 + j * 3) (fc (D.f j) (v j) (u j)) := h.b.range (pdc_sub D v u lv hj)

set_option maxRecDepth 100000 in
set_option maxHeartbeats 1600000 in
theorem sync_any {w : World} {g : Nat} {R : Nat → Prop} {D : Dsk} (h : Pk w g R D) (n : Int) :
    Calls Try.prog 16 #[.pointer (some ⟨g, 0, none⟩), .int .i64 n] w fun e w' => e = .returned (.int .i64 (D.cErr n)) ∧ Stp w w' R g (D.sy n) := by
  obtain ⟨S, v, u, lv, hp, hR⟩ := h
  have hcl := call_any hp n
  rcases cErr_cases D n with ⟨he, j, hj, rfl⟩ | he | he
  · have hsy : D.sy (j : Int) = D.cnt.put j (stF (D.f j).all) := by unfold Dsk.sy; rw [if_pos he, Int.toNat_natCast]
    rw [hsy]
    clear hsy
    rw [he] at hcl
    rw [he]
    clear he
    have fin : ∀ lv1 w1 w2 w3, PD w1 g S v u lv1 D.cnt → Turn w w1 (some g) → Turn w1 w2 none → Turn w2 w3 (some g) → Blk w3 g 56 (((((pdc D.cnt v u lv1).set (1 + j * 3) (v j).v).set (1 + j * 3 + 1) (v j).v).set (1 + j * 3 + 2) (.bool false))).toArray → Stp w w3 R g (D.cnt.put j (stF (D.f j).all)) := by
      intro lv1 w1 w2 w3 h1 t1 t2 t3 hb3
      have hf := h1.f j hj
      rw [Dsk.cnt_f] at hf
      have hk := (h1.ok.f j hj).all
      rw [Dsk.cnt_f] at hk
      have hn : Fil w2 (S j) (stF (D.f j).all) (v j) (v j) := ⟨by rw [stF_all]; exact hf.hv.turn0 t2, hf.hv.turn0 t2, hf.sv, hf.sv, fun _ _ _ => by rw [stF_all]; exact List.prefix_rfl⟩
      exact h1.yes t1 hR hj (Chg.of0 t2 _) t3 hb3 hn (fun k hk => .inl hk) (stF_ok hk)
    obtain rfl | rfl : j = 0 ∨ j = 1 := by omega
    all_goals
      go_enter Try.func16, Try.ntmps16
      go_wp2_with (first
        | (go_at_call 29; refine hcl.mono ?_; rintro e w1 ⟨rfl, t1, lv1, h1⟩))
    · have c1 : w1.cell? ⟨g, 1, none⟩ = some (.slice (v 0).A (v 0).n (v 0).c) := h1.b.ats (j := 1) rfl
      refine wp_region_noPanic ?_
      refine wp_region_held_drew (S := (fun W => W.cell? ⟨g, 1, none⟩ = some (.slice (v 0).A (v 0).n (v 0).c))) (by kernel_rfl) (c1) (fun hHeld => ?_)
      (first | (refine wpAnyH_take (i := 0) (v := undef) rfl (by kernel_rfl) (by kernel_rfl) (by kernel_rfl) (fun _ _ _ h => h) (Or.inr ⟨rfl, rfl⟩) (by assumption) ?_) | (refine wpAnyH_take (i := 0) (v := ?_) rfl (by kernel_rfl) (by kernel_rfl) (by kernel_rfl) (fun _ _ _ h => h) (Or.inl ⟨rfl, ?_⟩) (by assumption) ?_; rotate_left 1; · (intro w hSw; (try dsimp only at hSw); go_simp; (try with_reducible rfl)))); (try simp only [Act.put, List.getElem_toArray, List.getElem_cons_zero, List.getElem_cons_succ, List.setIfInBounds_toArray, List.set_cons_zero, List.set_cons_succ])
      (first | (refine wpAnyH_take (i := 1) (v := undef) rfl (by kernel_rfl) (by kernel_rfl) (by kernel_rfl) (fun _ _ _ h => h) (Or.inr ⟨rfl, rfl⟩) (by assumption) ?_) | (refine wpAnyH_take (i := 1) (v := ?_) rfl (by kernel_rfl) (by kernel_rfl) (by kernel_rfl) (fun _ _ _ h => h) (Or.inl ⟨rfl, ?_⟩) (by assumption) ?_; rotate_left 1; · (intro w hSw; (try dsimp only at hSw); go_simp; (try with_reducible rfl)))); (try simp only [Act.put, List.getElem_toArray, List.getElem_cons_zero, List.getElem_cons_succ, List.setIfInBounds_toArray, List.set_cons_zero, List.set_cons_succ])
      (first | (refine wpAnyH_take (i := 2) (v := undef) rfl (by kernel_rfl) (by kernel_rfl) (by kernel_rfl) (fun _ _ _ h => h) (Or.inr ⟨rfl, rfl⟩) (by assumption) ?_) | (refine wpAnyH_take (i := 2) (v := ?_) rfl (by kernel_rfl) (by kernel_rfl) (by kernel_rfl) (fun _ _ _ h => h) (Or.inl ⟨rfl, ?_⟩) (by assumption) ?_; rotate_left 1; · (intro w hSw; (try dsimp only at hSw); go_simp; (try with_reducible rfl)))); (try simp only [Act.put, List.getElem_toArray, List.getElem_cons_zero, List.getElem_cons_succ, List.setIfInBounds_toArray, List.set_cons_zero, List.set_cons_succ])
      (first | (refine wpAnyH_take (i := 3) (v := undef) rfl (by kernel_rfl) (by kernel_rfl) (by kernel_rfl) (fun _ _ _ h => h) (Or.inr ⟨rfl, rfl⟩) (by assumption) ?_) | (refine wpAnyH_take (i := 3) (v := ?_) rfl (by kernel_rfl) (by kernel_rfl) (by kernel_rfl) (fun _ _ _ h => h) (Or.inl ⟨rfl, ?_⟩) (by assumption) ?_; rotate_left 1; · (intro w hSw; (try dsimp only at hSw); go_simp; (try with_reducible rfl)))); (try simp only [Act.put, List.getElem_toArray, List.getElem_cons_zero, List.getElem_cons_succ, List.setIfInBounds_toArray, List.set_cons_zero, List.set_cons_succ])
      (first | (refine wpAnyH_take (i := 4) (v := undef) rfl (by kernel_rfl) (by kernel_rfl) (by kernel_rfl) (fun _ _ _ h => h) (Or.inr ⟨rfl, rfl⟩) (by assumption) ?_) | (refine wpAnyH_take (i := 4) (v := ?_) rfl (by kernel_rfl) (by kernel_rfl) (by kernel_rfl) (fun _ _ _ h => h) (Or.inl ⟨rfl, ?_⟩) (by assumption) ?_; rotate_left 1; · (intro w hSw; (try dsimp only at hSw); go_simp; (try with_reducible rfl)))); (try simp only [Act.put, List.getElem_toArray, List.getElem_cons_zero, List.getElem_cons_succ, List.setIfInBounds_toArray, List.set_cons_zero, List.set_cons_succ])
      (first | (refine wpAnyH_take (i := 5) (v := undef) rfl (by kernel_rfl) (by kernel_rfl) (by kernel_rfl) (fun _ _ _ h => h) (Or.inr ⟨rfl, rfl⟩) (by assumption) ?_) | (refine wpAnyH_take (i := 5) (v := ?_) rfl (by kernel_rfl) (by kernel_rfl) (by kernel_rfl) (fun _ _ _ h => h) (Or.inl ⟨rfl, ?_⟩) (by assumption) ?_; rotate_left 1; · (intro w hSw; (try dsimp only at hSw); go_simp; (try with_reducible rfl)))); (try simp only [Act.put, List.getElem_toArray, List.getElem_cons_zero, List.getElem_cons_succ, List.setIfInBounds_toArray, List.set_cons_zero, List.set_cons_succ])
      (first | (refine wpAnyH_take (i := 6) (v := undef) rfl (by kernel_rfl) (by kernel_rfl) (by kernel_rfl) (fun _ _ _ h => h) (Or.inr ⟨rfl, rfl⟩) (by assumption) ?_) | (refine wpAnyH_take (i := 6) (v := ?_) rfl (by kernel_rfl) (by kernel_rfl) (by kernel_rfl) (fun _ _ _ h => h) (Or.inl ⟨rfl, ?_⟩) (by assumption) ?_; rotate_left 1; · (intro w hSw; (try dsimp only at hSw); go_simp; (try with_reducible rfl)))); (try simp only [Act.put, List.getElem_toArray, List.getElem_cons_zero, List.getElem_cons_succ, List.setIfInBounds_toArray, List.set_cons_zero, List.set_cons_succ])
      (first | (refine wpAnyH_take (i := 7) (v := undef) rfl (by kernel_rfl) (by kernel_rfl) (by kernel_rfl) (fun _ _ _ h => h) (Or.inr ⟨rfl, rfl⟩) (by assumption) ?_) | (refine wpAnyH_take (i := 7) (v := ?_) rfl (by kernel_rfl) (by kernel_rfl) (by kernel_rfl) (fun _ _ _ h => h) (Or.inl ⟨rfl, ?_⟩) (by assumption) ?_; rotate_left 1; · (intro w hSw; (try dsimp only at hSw); go_simp; (try with_reducible rfl)))); (try simp only [Act.put, List.getElem_toArray, List.getElem_cons_zero, List.getElem_cons_succ, List.setIfInBounds_toArray, List.set_cons_zero, List.set_cons_succ])
      (first | (refine wpAnyH_take (i := 8) (v := undef) rfl (by kernel_rfl) (by kernel_rfl) (by kernel_rfl) (fun _ _ _ h => h) (Or.inr ⟨rfl, rfl⟩) (by assumption) ?_) | (refine wpAnyH_take (i := 8) (v := ?_) rfl (by kernel_rfl) (by kernel_rfl) (by kernel_rfl) (fun _ _ _ h => h) (Or.inl ⟨rfl, ?_⟩) (by assumption) ?_; rotate_left 1; · (intro w hSw; (try dsimp only at hSw); go_simp; (try with_reducible rfl)))); (try simp only [Act.put, List.getElem_toArray, List.getElem_cons_zero, List.getElem_cons_succ, List.setIfInBounds_toArray, List.set_cons_zero, List.set_cons_succ])
      (first | (refine wpAnyH_take (i := 10) (v := undef) rfl (by kernel_rfl) (by kernel_rfl) (by kernel_rfl) (fun _ _ _ h => h) (Or.inr ⟨rfl, rfl⟩) (by assumption) ?_) | (refine wpAnyH_take (i := 10) (v := ?_) rfl (by kernel_rfl) (by kernel_rfl) (by kernel_rfl) (fun _ _ _ h => h) (Or.inl ⟨rfl, ?_⟩) (by assumption) ?_; rotate_left 1; · (intro w hSw; (try dsimp only at hSw); go_simp; (try with_reducible rfl)))); (try simp only [Act.put, List.getElem_toArray, List.getElem_cons_zero, List.getElem_cons_succ, List.setIfInBounds_toArray, List.set_cons_zero, List.set_cons_succ])
      (first | (refine wpAnyH_take (i := 11) (v := undef) rfl (by kernel_rfl) (by kernel_rfl) (by kernel_rfl) (fun _ _ _ h => h) (Or.inr ⟨rfl, rfl⟩) (by assumption) ?_) | (refine wpAnyH_take (i := 11) (v := ?_) rfl (by kernel_rfl) (by kernel_rfl) (by kernel_rfl) (fun _ _ _ h => h) (Or.inl ⟨rfl, ?_⟩) (by assumption) ?_; rotate_left 1; · (intro w hSw; (try dsimp only at hSw); go_simp; (try with_reducible rfl)))); (try simp only [Act.put, List.getElem_toArray, List.getElem_cons_zero, List.getElem_cons_succ, List.setIfInBounds_toArray, List.set_cons_zero, List.set_cons_succ])
      refine wpAnyH_ready (rs := [9]) (by kernel_rfl) (by simp) ?_
      refine AllReadyH.cons rfl (fun K hK => ?_) AllReadyH.nil
      go_simp
      refine (standing_any (v 0) _).mono ?_
      rintro e w2 ⟨rfl, t2⟩
      have b2 := h1.b.drew.turn0 t2
      refine hK.out _ _ (b2.ats (j := 1) rfl) (fun hHeld => ?_); clear hK K; (try simp only [Act.put, List.getElem_toArray, List.getElem_cons_zero, List.getElem_cons_succ, List.setIfInBounds_toArray, List.set_cons_zero, List.set_cons_succ])
      (first | (refine wpAnyH_take (i := 12) (v := undef) rfl (by kernel_rfl) (by kernel_rfl) (by kernel_rfl) (fun _ _ _ h => h) (Or.inr ⟨rfl, rfl⟩) (by assumption) ?_) | (refine wpAnyH_take (i := 12) (v := ?_) rfl (by kernel_rfl) (by kernel_rfl) (by kernel_rfl) (fun _ _ _ h => h) (Or.inl ⟨rfl, ?_⟩) (by assumption) ?_; rotate_left 1; · (intro w hSw; (try dsimp only at hSw); go_simp; (try with_reducible rfl)))); (try simp only [Act.put, List.getElem_toArray, List.getElem_cons_zero, List.getElem_cons_succ, List.setIfInBounds_toArray, List.set_cons_zero, List.set_cons_succ])
      refine wpAnyH_ready (rs := [13]) (by kernel_rfl) (by simp) ?_; refine AllReadyH.cons rfl (fun K hK => ?_) AllReadyH.nil
      refine gd_dst3 rfl 53 _ _ rfl rfl rfl b2 (by rw [pdc_len]; omega) (by kernel_rfl) (ones3 rfl rfl rfl) ?_
      intro w3 hb3 t3
      refine hK.out _ _ (hb3.ats (j := 1) rfl) (fun hHeld => ?_); clear hK K; (try simp only [Act.put, List.getElem_toArray, List.getElem_cons_zero, List.getElem_cons_succ, List.setIfInBounds_toArray, List.set_cons_zero, List.set_cons_succ])
      refine wpAnyH_done (by kernel_rfl) ?_ _
      refine NoPanic.normal ?_
      clear hHeld
      go_wp2
      go_ret
      exact ⟨rfl, fin _ _ _ _ h1 t1 t2.undrew t3 hb3⟩
    · have c1 : w1.cell? ⟨g, 4, none⟩ = some (.slice (v 1).A (v 1).n (v 1).c) := h1.b.ats (j := 4) rfl
      refine wp_region_noPanic ?_
      refine wp_region_held_drew (S := (fun W => W.cell? ⟨g, 4, none⟩ = some (.slice (v 1).A (v 1).n (v 1).c))) (by kernel_rfl) (c1) (fun hHeld => ?_)
      (first | (refine wpAnyH_take (i := 0) (v := undef) rfl (by kernel_rfl) (by kernel_rfl) (by kernel_rfl) (fun _ _ _ h => h) (Or.inr ⟨rfl, rfl⟩) (by assumption) ?_) | (refine wpAnyH_take (i := 0) (v := ?_) rfl (by kernel_rfl) (by kernel_rfl) (by kernel_rfl) (fun _ _ _ h => h) (Or.inl ⟨rfl, ?_⟩) (by assumption) ?_; rotate_left 1; · (intro w hSw; (try dsimp only at hSw); go_simp; (try with_reducible rfl)))); (try simp only [Act.put, List.getElem_toArray, List.getElem_cons_zero, List.getElem_cons_succ, List.setIfInBounds_toArray, List.set_cons_zero, List.set_cons_succ])
      (first | (refine wpAnyH_take (i := 1) (v := undef) rfl (by kernel_rfl) (by kernel_rfl) (by kernel_rfl) (fun _ _ _ h => h) (Or.inr ⟨rfl, rfl⟩) (by assumption) ?_) | (refine wpAnyH_take (i := 1) (v := ?_) rfl (by kernel_rfl) (by kernel_rfl) (by kernel_rfl) (fun _ _ _ h => h) (Or.inl ⟨rfl, ?_⟩) (by assumption) ?_; rotate_left 1; · (intro w hSw; (try dsimp only at hSw); go_simp; (try with_reducible rfl)))); (try simp only [Act.put, List.getElem_toArray, List.getElem_cons_zero, List.getElem_cons_succ, List.setIfInBounds_toArray, List.set_cons_zero, List.set_cons_succ])
      (first | (refine wpAnyH_take (i := 2) (v := undef) rfl (by kernel_rfl) (by kernel_rfl) (by kernel_rfl) (fun _ _ _ h => h) (Or.inr ⟨rfl, rfl⟩) (by assumption) ?_) | (refine wpAnyH_take (i := 2) (v := ?_) rfl (by kernel_rfl) (by kernel_rfl) (by kernel_rfl) (fun _ _ _ h => h) (Or.inl ⟨rfl, ?_⟩) (by assumption) ?_; rotate_left 1; · (intro w hSw; (try dsimp only at hSw); go_simp; (try with_reducible rfl)))); (try simp only [Act.put, List.getElem_toArray, List.getElem_cons_zero, List.getElem_cons_succ, List.setIfInBounds_toArray, List.set_cons_zero, List.set_cons_succ])
      (first | (refine wpAnyH_take (i := 3) (v := undef) rfl (by kernel_rfl) (by kernel_rfl) (by kernel_rfl) (fun _ _ _ h => h) (Or.inr ⟨rfl, rfl⟩) (by assumption) ?_) | (refine wpAnyH_take (i := 3) (v := ?_) rfl (by kernel_rfl) (by kernel_rfl) (by kernel_rfl) (fun _ _ _ h => h) (Or.inl ⟨rfl, ?_⟩) (by assumption) ?_; rotate_left 1; · (intro w hSw; (try dsimp only at hSw); go_simp; (try with_reducible rfl)))); (try simp only [Act.put, List.getElem_toArray, List.getElem_cons_zero, List.getElem_cons_succ, List.setIfInBounds_toArray, List.set_cons_zero, List.set_cons_succ])
      (first | (refine wpAnyH_take (i := 4) (v := undef) rfl (by kernel_rfl) (by kernel_rfl) (by kernel_rfl) (fun _ _ _ h => h) (Or.inr ⟨rfl, rfl⟩) (by assumption) ?_) | (refine wpAnyH_take (i := 4) (v := ?_) rfl (by kernel_rfl) (by kernel_rfl) (by kernel_rfl) (fun _ _ _ h => h) (Or.inl ⟨rfl, ?_⟩) (by assumption) ?_; rotate_left 1; · (intro w hSw; (try dsimp only at hSw); go_simp; (try with_reducible rfl)))); (try simp only [Act.put, List.getElem_toArray, List.getElem_cons_zero, List.getElem_cons_succ, List.setIfInBounds_toArray, List.set_cons_zero, List.set_cons_succ])
      (first | (refine wpAnyH_take (i := 5) (v := undef) rfl (by kernel_rfl) (by kernel_rfl) (by kernel_rfl) (fun _ _ _ h => h) (Or.inr ⟨rfl, rfl⟩) (by assumption) ?_) | (refine wpAnyH_take (i := 5) (v := ?_) rfl (by kernel_rfl) (by kernel_rfl) (by kernel_rfl) (fun _ _ _ h => h) (Or.inl ⟨rfl, ?_⟩) (by assumption) ?_; rotate_left 1; · (intro w hSw; (try dsimp only at hSw); go_simp; (try with_reducible rfl)))); (try simp only [Act.put, List.getElem_toArray, List.getElem_cons_zero, List.getElem_cons_succ, List.setIfInBounds_toArray, List.set_cons_zero, List.set_cons_succ])
      (first | (refine wpAnyH_take (i := 6) (v := undef) rfl (by kernel_rfl) (by kernel_rfl) (by kernel_rfl) (fun _ _ _ h => h) (Or.inr ⟨rfl, rfl⟩) (by assumption) ?_) | (refine wpAnyH_take (i := 6) (v := ?_) rfl (by kernel_rfl) (by kernel_rfl) (by kernel_rfl) (fun _ _ _ h => h) (Or.inl ⟨rfl, ?_⟩) (by assumption) ?_; rotate_left 1; · (intro w hSw; (try dsimp only at hSw); go_simp; (try with_reducible rfl)))); (try simp only [Act.put, List.getElem_toArray, List.getElem_cons_zero, List.getElem_cons_succ, List.setIfInBounds_toArray, List.set_cons_zero, List.set_cons_succ])
      (first | (refine wpAnyH_take (i := 7) (v := undef) rfl (by kernel_rfl) (by kernel_rfl) (by kernel_rfl) (fun _ _ _ h => h) (Or.inr ⟨rfl, rfl⟩) (by assumption) ?_) | (refine wpAnyH_take (i := 7) (v := ?_) rfl (by kernel_rfl) (by kernel_rfl) (by kernel_rfl) (fun _ _ _ h => h) (Or.inl ⟨rfl, ?_⟩) (by assumption) ?_; rotate_left 1; · (intro w hSw; (try dsimp only at hSw); go_simp; (try with_reducible rfl)))); (try simp only [Act.put, List.getElem_toArray, List.getElem_cons_zero, List.getElem_cons_succ, List.setIfInBounds_toArray, List.set_cons_zero, List.set_cons_succ])
      (first | (refine wpAnyH_take (i := 8) (v := undef) rfl (by kernel_rfl) (by kernel_rfl) (by kernel_rfl) (fun _ _ _ h => h) (Or.inr ⟨rfl, rfl⟩) (by assumption) ?_) | (refine wpAnyH_take (i := 8) (v := ?_) rfl (by kernel_rfl) (by kernel_rfl) (by kernel_rfl) (fun _ _ _ h => h) (Or.inl ⟨rfl, ?_⟩) (by assumption) ?_; rotate_left 1; · (intro w hSw; (try dsimp only at hSw); go_simp; (try with_reducible rfl)))); (try simp only [Act.put, List.getElem_toArray, List.getElem_cons_zero, List.getElem_cons_succ, List.setIfInBounds_toArray, List.set_cons_zero, List.set_cons_succ])
      (first | (refine wpAnyH_take (i := 10) (v := undef) rfl (by kernel_rfl) (by kernel_rfl) (by kernel_rfl) (fun _ _ _ h => h) (Or.inr ⟨rfl, rfl⟩) (by assumption) ?_) | (refine wpAnyH_take (i := 10) (v := ?_) rfl (by kernel_rfl) (by kernel_rfl) (by kernel_rfl) (fun _ _ _ h => h) (Or.inl ⟨rfl, ?_⟩) (by assumption) ?_; rotate_left 1; · (intro w hSw; (try dsimp only at hSw); go_simp; (try with_reducible rfl)))); (try simp only [Act.put, List.getElem_toArray, List.getElem_cons_zero, List.getElem_cons_succ, List.setIfInBounds_toArray, List.set_cons_zero, List.set_cons_succ])
      (first | (refine wpAnyH_take (i := 11) (v := undef) rfl (by kernel_rfl) (by kernel_rfl) (by kernel_rfl) (fun _ _ _ h => h) (Or.inr ⟨rfl, rfl⟩) (by assumption) ?_) | (refine wpAnyH_take (i := 11) (v := ?_) rfl (by kernel_rfl) (by kernel_rfl) (by kernel_rfl) (fun _ _ _ h => h) (Or.inl ⟨rfl, ?_⟩) (by assumption) ?_; rotate_left 1; · (intro w hSw; (try dsimp only at hSw); go_simp; (try with_reducible rfl)))); (try simp only [Act.put, List.getElem_toArray, List.getElem_cons_zero, List.getElem_cons_succ, List.setIfInBounds_toArray, List.set_cons_zero, List.set_cons_succ])
      refine wpAnyH_ready (rs := [9]) (by kernel_rfl) (by simp) ?_
      refine AllReadyH.cons rfl (fun K hK => ?_) AllReadyH.nil
      go_simp
      refine (standing_any (v 1) _).mono ?_
      rintro e w2 ⟨rfl, t2⟩
      have b2 := h1.b.drew.turn0 t2
      refine hK.out _ _ (b2.ats (j := 4) rfl) (fun hHeld => ?_); clear hK K; (try simp only [Act.put, List.getElem_toArray, List.getElem_cons_zero, List.getElem_cons_succ, List.setIfInBounds_toArray, List.set_cons_zero, List.set_cons_succ])
      (first | (refine wpAnyH_take (i := 12) (v := undef) rfl (by kernel_rfl) (by kernel_rfl) (by kernel_rfl) (fun _ _ _ h => h) (Or.inr ⟨rfl, rfl⟩) (by assumption) ?_) | (refine wpAnyH_take (i := 12) (v := ?_) rfl (by kernel_rfl) (by kernel_rfl) (by kernel_rfl) (fun _ _ _ h => h) (Or.inl ⟨rfl, ?_⟩) (by assumption) ?_; rotate_left 1; · (intro w hSw; (try dsimp only at hSw); go_simp; (try with_reducible rfl)))); (try simp only [Act.put, List.getElem_toArray, List.getElem_cons_zero, List.getElem_cons_succ, List.setIfInBounds_toArray, List.set_cons_zero, List.set_cons_succ])
      refine wpAnyH_ready (rs := [13]) (by kernel_rfl) (by simp) ?_; refine AllReadyH.cons rfl (fun K hK => ?_) AllReadyH.nil
      refine gd_dst3 rfl 53 _ _ rfl rfl rfl b2 (by rw [pdc_len]; omega) (by kernel_rfl) (ones3 rfl rfl rfl) ?_
      intro w3 hb3 t3
      refine hK.out _ _ (hb3.ats (j := 4) rfl) (fun hHeld => ?_); clear hK K; (try simp only [Act.put, List.getElem_toArray, List.getElem_cons_zero, List.getElem_cons_succ, List.setIfInBounds_toArray, List.set_cons_zero, List.set_cons_succ])
      refine wpAnyH_done (by kernel_rfl) ?_ _
      refine NoPanic.normal ?_
      clear hHeld
      go_wp2
      go_ret
      exact ⟨rfl, fin _ _ _ _ h1 t1 t2.undrew t3 hb3⟩
  all_goals
    have hsy : D.sy n = D.cnt := by unfold Dsk.sy; rw [he]; rfl
    rw [hsy]
    rw [he] at hcl
    rw [he]
    clear he hsy
    go_enter Try.func16, Try.ntmps16
    go_wp2_with (first
      | (go_at_call 29; refine hcl.mono ?_; rintro e w1 ⟨rfl, t1, lv1, h1⟩))
    go_ret
    exact ⟨rfl, h1.no t1 hR⟩
end Go.Proofs.Ytogajpiefegdeaa
