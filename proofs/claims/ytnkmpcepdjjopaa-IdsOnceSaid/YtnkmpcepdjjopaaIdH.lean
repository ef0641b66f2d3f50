/-
  Layer 16, the code: Map, Bounds.
-/
import Derived.Test.YtnkmpcepdjjopaaIdG
import Derived.Lib.SliceRun
namespace Go.Proofs.Ytnkmpcepdjjopaa
set_option linter.unusedSimpArgs false
set_option linter.unusedVariables false
open Go.RowKit

section
variable {w : World} {g m clock : Nat} {S : Nat → Prop} {x y z : Slc} {es : List MapEntry} {t : Idt}
set_option maxRecDepth 100000 in
theorem search16_any (h : PT w g S m clock x y z es t) (hf : t.B.length ≤ 100000) (q : Nat) :
    Calls Try.prog 28 #[.pointer (some ⟨g, 0, none⟩), .int .u64 (q : Int)] w fun e w' => e = .returned (.tuple #[.int .i64 ((iAt t.B q : Nat) : Int), .bool (decide (iMap t.B q ≠ 0))]) ∧ Turn w w' none := by
  have c4 : w.cell? ⟨g, 4, none⟩ = some (.slice z.A z.n z.c) := h.b.ats rfl
  have kb := bsf16_any h.hz h.wf.up (by rw [h.zn]; exact hf) q
  have e : decide (∃ p, t.B[iAt t.B q]? = some p ∧ p.1 = q) = decide (iMap t.B q ≠ 0) := by
    rcases iAt_map h.wf q with ⟨p, h1, h2, h3, h4⟩ | ⟨h1, h2⟩
    · rw [decide_eq_true ⟨p, h1, h2⟩, decide_eq_true (by omega)]
    · rw [decide_eq_false (by rintro ⟨p, h3, h4⟩; exact h1 p h3 h4), decide_eq_false (by omega)]
  rw [e] at kb
  generalize decide (iMap t.B q ≠ 0) = d at *
  generalize ((iAt t.B q : Nat) : Int) = k at *
  clear e
  go_enter Try.func28, Try.ntmps28
  go_wp2_with (go_at_call 32; refine kb.mono ?_; rintro e w1 ⟨rfl, t1⟩)
  go_ret2
  exact ⟨rfl, t1⟩
set_option maxRecDepth 100000 in
theorem map16_any (h : PT w g S m clock x y z es t) (hf : t.B.length ≤ 100000) (q : Nat) :
    Calls Try.prog 22 #[.pointer (some ⟨g, 0, none⟩), .int .u64 (q : Int)] w fun e w' => e = .returned (.tuple #[.int .u64 ((iMap t.B q : Nat) : Int), .bool (decide (iMap t.B q ≠ 0))]) ∧ Turn w w' none := by
  have ks := search16_any h hf q
  rcases iAt_map h.wf q with ⟨p, h1, h2, h3, h4⟩ | ⟨h1, h2⟩
  · rw [h3] at ks ⊢
    rw [decide_eq_true h4] at ks ⊢
    obtain ⟨k, hk⟩ : ∃ k, k = iAt t.B q := ⟨_, rfl⟩
    rw [← hk] at ks h1
    have hkl := (List.getElem?_eq_some_iff.1 h1).1
    have hz := h.hz
    have hzn := h.zn
    rw [hzn] at hz
    obtain ⟨gz, hA, _, _⟩ := hz.head (by omega)
    have c4 : ∀ w1, Turn w w1 none → w1.cell? ⟨g, 4, none⟩ = some (.slice (some ⟨gz, 0, none⟩) t.B.length z.c) := fun w1 T => by
      rw [← hA, ← hzn]; exact (h.b.turn0 T).ats rfl
    rw [hA] at hz
    have cz : ∀ w1, Turn w w1 none → w1.cell? ⟨gz, k * 2 + 1, none⟩ = some (.int .u64 (p.2 : Int)) := fun w1 T => (hz.turn0 T).bnd h1 1 _ rfl
    clear hk h1 h2 h3 hA hz hzn
    go_enter Try.func22, Try.ntmps22
    go_wp2_with (go_at_call 28; refine ks.mono ?_; rintro e w1 ⟨rfl, t1⟩; have d4 := c4 _ t1; have dz := cz _ t1)
    go_ret2
    exact ⟨rfl, t1⟩
  · rw [h2] at ks ⊢
    generalize ((iAt t.B q : Nat) : Int) = k at *
    go_enter Try.func22, Try.ntmps22
    go_wp2_with (go_at_call 28; refine ks.mono ?_; rintro e w1 ⟨rfl, t1⟩)
    go_ret2
    exact ⟨rfl, t1⟩
end
set_option maxHeartbeats 400000 in
theorem bclone16_any (A : Option Addr) (n c : Nat) (B : List (Nat × Nat)) (D : Nat) (w : World) (hr : Rd w D 2 A n (bvs B)) (hD : D ≤ w.heap.size) (hn : n ≤ 100000) :
    Calls Try.prog 24 #[.slice A n c] w fun e w' =>
      ∃ A' c', e = .returned (.slice A' n c') ∧ Own w' w.heap.size 50 2 A' n c' (bvs B) ∧ Turn w w' none := by
  have h0 : Own (w.alloc (.cells #[] 50)) w.heap.size 50 2 (some ⟨w.heap.size, 0, none⟩) 0 0 [] := Own.made w _ _ 2 0 #[] (Nat.le_refl _) (by decide) rfl
  have hr1 := hr.alloc hD (.cells #[] 50)
  have hq : ∀ (w : World) (a : Option Addr) (n c n' c' : Nat), (binOp .eql 33 (.slice a n c) (.slice none n' c')).run Try.prog w = .ok (.bool a.isNone) w := fun w a n c n' c' => Lib.run_eql_slice_nil w _ _ a n c n' c' Try.underlying33
  cases A with
  | none =>
    obtain ⟨rfl, hl⟩ := rd_nil_len hr (by decide)
    go_enter Try.func24, Try.ntmps24
    go_wp2
    go_ret
    exact ⟨none, 0, rfl, by rw [hl]; exact Own.nil _ _ _ _, Turn.refl w none⟩
  | some a =>
    go_enter Try.func24, Try.ntmps24
    go_wp2_with (at_builtin; refine wp_appW rfl _ _ _ rfl elBd rfl rfl h0 hr1 (bvs_one B) (by unfold maxLen; first | omega | (simp; done) | (simp; omega)) (by first | omega | (simp; done) | (simp; omega)) (by first | omega | (simp; done) | (simp; omega)) ?_; intro A1 c1 w1 hown ht hb)
    go_ret
    refine ⟨A1, c1, ?_, ?_, (Turn.alloc (Turn.refl w none) _).new ht (fun g hg => by simp [blk] at hg; omega)⟩
    · simp
    · simpa using hown
set_option maxRecDepth 100000 in
theorem bounds16_any {w : World} {g m clock : Nat} {S : Nat → Prop} {x y z : Slc} {es : List MapEntry} {t : Idt} (h : PT w g S m clock x y z es t) (hf : t.B.length ≤ 100000) :
    Calls Try.prog 11 #[.pointer (some ⟨g, 0, none⟩)] w fun e w' => ∃ A' c', e = .returned (.slice A' t.B.length c') ∧ Own w' w.heap.size 50 2 A' t.B.length c' (bvs t.B) ∧ Turn w w' none := by
  have hz := h.hz
  rw [h.zn] at hz
  have c4 : w.cell? ⟨g, 4, none⟩ = some (.slice z.A t.B.length z.c) := by rw [← h.zn]; exact h.b.ats rfl
  have kc := bclone16_any z.A t.B.length z.c t.B w.heap.size w hz.rd (Nat.le_refl _) hf
  generalize t.B.length = N at *
  go_enter Try.func11, Try.ntmps11
  go_wp2_with (go_at_call 24; refine kc.mono ?_; rintro e w1 ⟨A1, c1, rfl, ho1, t1⟩)
  go_ret
  exact ⟨A1, c1, rfl, ho1, t1⟩
end Go.Proofs.Ytnkmpcepdjjopaa
