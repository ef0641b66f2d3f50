/-
  Layer 16, the code: Bind.
-/
import Derived.Test.YtnkmpcepdjjopaaIdK
namespace Go.Proofs.Ytnkmpcepdjjopaa
set_option linter.unusedSimpArgs false
set_option linter.unusedVariables false
open Go.RowKit

theorem bdBd (a b : Int) : Try.prog.built 50 [(0, .int .u64 a), (1, .int .u64 b)] = some #[.int .u64 a, .int .u64 b] := by kernel_rfl
theorem Stp.comp {w w2 w3 : World} {S S' : Nat → Prop} {g : Nat} {t : Idt} (hc : Chg w w2 S) (hk : ∀ i, S' i → S i ∨ w.heap.size ≤ i) (k : Stp w2 w3 S' g t) : Stp w w3 S g t := by
  obtain ⟨k1, S2, k2, k3⟩ := k
  exact ⟨hc.trans k1 hk, S2, k2, fun i hi => (k3 i hi).elim (hk i) fun h => .inr (Nat.le_trans hc.size h)⟩
set_option maxRecDepth 100000 in
theorem foreign16_any (x : Nat) (w : World) : Calls Try.prog 27 #[.int .u64 (x : Int)] w fun e w' => e = .returned (.bool (decide (1 ≤ x ∧ x ≤ 2147483647))) ∧ w = w' := by
  have hq : ¬ 1 ≤ x ∨ (1 ≤ x ∧ ¬ x ≤ 2147483647) ∨ (1 ≤ x ∧ x ≤ 2147483647) := by omega
  rcases hq with h | ⟨h, h2⟩ | ⟨h, h2⟩
  · rw [decide_eq_false fun c => h c.1]
    go_enter Try.func27, Try.ntmps27
    go_wp2
    go_ret
    exact ⟨rfl, rfl⟩
  · rw [decide_eq_false fun c => h2 c.2]
    go_enter Try.func27, Try.ntmps27
    go_wp2
    go_ret
    exact ⟨by show Ending.returned (Value.bool (decide ((x : Int) ≤ 2147483647))) = _; rw [decide_eq_false (by omega)], rfl⟩
  · rw [decide_eq_true ⟨h, h2⟩]
    go_enter Try.func27, Try.ntmps27
    go_wp2
    go_ret
    exact ⟨by show Ending.returned (Value.bool (decide ((x : Int) ≤ 2147483647))) = _; rw [decide_eq_true (by omega)], rfl⟩
section
variable {w : World} {g : Nat} {S : Nat → Prop} {t : Idt}
theorem bind16_pt (h : Pt w g S t) {qx j : Nat} (h0 : iMap t.B qx = 0) (h1 : ∀ p ∈ t.B, p.2 ≠ j + 1) (hq : 1 ≤ qx ∧ qx ≤ 2147483647) (hj : j < t.L.length) (hf : t.B.length ≤ 100000) (hf2 : t.L.length ≤ 100000) :
    Calls Try.prog 29 #[.pointer (some ⟨g, 0, none⟩), .int .i64 ((iAt t.B qx : Nat) : Int), .agg #[.int .u64 (qx : Int), .int .u64 ((j : Int) + 1)]] w fun e w' => e = .returned (.tuple #[]) ∧ Stp w w' S g { t with B := iIns qx (j + 1) t.B } := by
  obtain ⟨m, c, x, y, z, es, h⟩ := h
  exact bind16_any h h0 h1 hq hj hf hf2
set_option maxRecDepth 100000 in
set_option maxHeartbeats 3200000 in
theorem bindA16_any {m clock : Nat} {x y z : Slc} {es : List MapEntry} (h : PT w g S m clock x y z es t) {q : Nat} {s : List UInt8} (hs : s.length ≤ 140737488355328) (hq : ¬ (q = 0 ∨ 2147483647 < q)) (hm : iMap t.B q ≠ 0) (hf : t.B.length ≤ 100000) :
    Calls Try.prog 14 #[.pointer (some ⟨g, 0, none⟩), .int .u64 (q : Int), .string (txt s)] w fun e w' => e = .returned (.tuple #[.int .u64 ((if t.of s = iMap t.B q then t.of s else 0 : Nat) : Int), .int .i64 ((if t.of s = iMap t.B q then 0 else 6 : Nat) : Int)]) ∧ Turn w w' none := by
  have kf := fun w => foreign16_any q w
  rw [decide_eq_true (by omega)] at kf
  have ks := search16_any h hf q
  have hz := h.hz
  have zn := h.zn
  rw [zn] at hz
  rcases iAt_map h.wf q with ⟨p, h1, h2, h3, h4⟩ | ⟨h1, h2⟩
  · rw [decide_eq_true hm] at ks
    rw [h3]
    obtain ⟨k, hk⟩ : ∃ k, k = iAt t.B q := ⟨_, rfl⟩
    rw [← hk] at ks h1
    have hkl := (List.getElem?_eq_some_iff.1 h1).1
    obtain ⟨gz, hA, _, _⟩ := hz.head (by omega)
    rw [hA] at hz
    have C1 : ∀ w1, Turn w w1 none → w1.cell? ⟨g, 1, none⟩ = some (.map (some m)) := fun w1 T => (h.b.turn0 T).ats rfl
    have C4 : ∀ w1, Turn w w1 none → w1.cell? ⟨g, 4, none⟩ = some (.slice (some ⟨gz, 0, none⟩) t.B.length z.c) := fun w1 T => by rw [← hA, ← zn]; exact (h.b.turn0 T).ats rfl
    have CZ : ∀ w1, Turn w w1 none → w1.cell? ⟨gz, k * 2 + 1, none⟩ = some (.int .u64 (p.2 : Int)) := fun w1 T => (hz.turn0 T).bnd h1 1 _ rfl
    have LK := fun w1 (T : Turn w w1 none) => look16 (h.turn0 T) (s := s) (by unfold maxLen; omega)
    obtain ⟨i, hi⟩ : ∃ i, i = t.of s := ⟨_, rfl⟩
    rw [← hi] at LK ⊢
    obtain ⟨N, hN⟩ : ∃ N, N = t.B.length := ⟨_, rfl⟩
    rw [← hN] at C4 hkl
    clear hk h1 h2 h3 hA hz zn hi hN hq hf h hm
    by_cases hc : i = p.2
    · rw [if_pos hc, if_pos hc]
      rw [decide_eq_true (show i ≠ 0 by omega)] at LK
      subst hc
      clear h4
      go_enter Try.func14, Try.ntmps14
      go_wp2_with (first
        | (rw [LK _ t1]; go_simp)
        | (go_at_call 27; refine (kf _).mono ?_; rintro e w1 ⟨rfl, rfl⟩)
        | (go_at_call 28; refine ks.mono ?_; rintro e w1 ⟨rfl, t1⟩; have d1 := C1 _ t1; have d4 := C4 _ t1; have dz := CZ _ t1))
      go_ret2
      exact ⟨rfl, t1⟩
    · rw [if_neg hc, if_neg hc]
      by_cases hi0 : i = 0
      · subst hi0
        rw [decide_eq_false (by simp)] at LK
        go_enter Try.func14, Try.ntmps14
        go_wp2_with (first
          | (rw [LK _ t1]; go_simp)
          | (go_at_call 27; refine (kf _).mono ?_; rintro e w1 ⟨rfl, rfl⟩)
          | (go_at_call 28; refine ks.mono ?_; rintro e w1 ⟨rfl, t1⟩; have d1 := C1 _ t1; have d4 := C4 _ t1; have dz := CZ _ t1))
        go_ret2
        exact ⟨rfl, t1⟩
      · rw [decide_eq_true hi0] at LK
        have hne : ((p.2 : Int) == (i : Int)) = false := by rw [beq_eq_false_iff_ne]; omega
        go_enter Try.func14, Try.ntmps14
        go_wp2_with (first
          | (rw [LK _ t1]; go_simp)
          | (go_at_call 27; refine (kf _).mono ?_; rintro e w1 ⟨rfl, rfl⟩)
          | (go_at_call 28; refine ks.mono ?_; rintro e w1 ⟨rfl, t1⟩; have d1 := C1 _ t1; have d4 := C4 _ t1; have dz := CZ _ t1))
        go_ret2
        exact ⟨rfl, t1⟩
  · exact absurd h2 hm
end
end Go.Proofs.Ytnkmpcepdjjopaa
