/-
  Layer 16, the code: Bind, whole.
-/
import Derived.Test.YtnkmpcepdjjopaaIdL
namespace Go.Proofs.Ytnkmpcepdjjopaa
set_option linter.unusedSimpArgs false
set_option linter.unusedVariables false
open Go.RowKit

section
variable {w : World} {g : Nat} {S : Nat → Prop} {t : Idt}
/-- A flag of a text's id. -/
theorem flag16 {m clock : Nat} {x y z : Slc} {es : List MapEntry} (h : PT w g S m clock x y z es t) {j : Nat} (hj : j < t.L.length) : ∃ gy, w.cell? ⟨g, 3, none⟩ = some (.slice (some ⟨gy, 0, none⟩) t.L.length y.c) ∧ w.cell? ⟨gy, j, none⟩ = some (.bool (flg t.B j)) := by
  have hy := h.hy
  have yn := h.yn
  rw [yn] at hy
  obtain ⟨gy, hA, _, _⟩ := hy.head (by omega)
  rw [hA] at hy
  refine ⟨gy, by rw [← hA, ← yn]; exact h.b.ats rfl, ?_⟩
  rw [hy.cell (i := j) (by omega), fvs_at hj]
set_option maxRecDepth 100000 in
set_option maxHeartbeats 3200000 in
/-- The id is bound to another one. -/
theorem bindB16_any {m clock : Nat} {x y z : Slc} {es : List MapEntry} (h : PT w g S m clock x y z es t) {q : Nat} {s : List UInt8} (hs : s.length ≤ 140737488355328) (hq : ¬ (q = 0 ∨ 2147483647 < q)) (hm : iMap t.B q = 0) (hk : t.of s ≠ 0 ∧ ∃ p ∈ t.B, p.2 = t.of s) (hf : t.B.length ≤ 100000) (hf2 : t.L.length ≤ 100000) :
    Calls Try.prog 14 #[.pointer (some ⟨g, 0, none⟩), .int .u64 (q : Int), .string (txt s)] w fun e w' => e = .returned (.tuple #[.int .u64 0, .int .i64 6]) ∧ Turn w w' none := by
  have kf := fun w => foreign16_any q w
  rw [decide_eq_true (by omega)] at kf
  have ks := search16_any h hf q
  rw [decide_eq_false (by omega)] at ks
  have C1 : ∀ w1, Turn w w1 none → w1.cell? ⟨g, 1, none⟩ = some (.map (some m)) := fun w1 T => (h.b.turn0 T).ats rfl
  have LK := fun w1 (T : Turn w w1 none) => look16 (h.turn0 T) (s := s) (by unfold maxLen; omega)
  have hle := t.of_le s
  obtain ⟨j, hj⟩ : ∃ j, t.of s = j + 1 := ⟨t.of s - 1, by omega⟩
  rw [hj] at LK hk hle
  have CF : ∀ w1, Turn w w1 none → ∃ gy, w1.cell? ⟨g, 3, none⟩ = some (.slice (some ⟨gy, 0, none⟩) t.L.length y.c) ∧ w1.cell? ⟨gy, j, none⟩ = some (.bool true) := fun w1 T => by
    have := flag16 (h.turn0 T) (j := j) (by omega)
    rw [flg_iff.2 hk.2] at this
    exact this
  rw [decide_eq_true (show j + 1 ≠ 0 by omega)] at LK
  obtain ⟨N, hN⟩ : ∃ N, N = t.L.length := ⟨_, rfl⟩
  rw [← hN] at CF hle hf2
  generalize ((iAt t.B q : Nat) : Int) = at_ at *
  have hwj : IntKind.u64.wrap (j : Int) = (j : Int) := by rw [IntKind.wrap_u64]; omega
  clear h hk hj hN hq hm hf
  go_enter Try.func14, Try.ntmps14
  go_wp2_with (first
    | (rw [LK _ t1]; go_simp)
    | (go_at_call 27; refine (kf _).mono ?_; rintro e w1 ⟨rfl, rfl⟩)
    | (go_at_call 28; refine ks.mono ?_; rintro e w1 ⟨rfl, t1⟩; have d1 := C1 _ t1; obtain ⟨gy, d3, dy⟩ := CF _ t1))
  go_ret2
  exact ⟨rfl, t1⟩
set_option maxRecDepth 100000 in
set_option maxHeartbeats 3200000 in
/-- Make's answer is the end, or a bound is put. -/
theorem bindC16_any {m clock : Nat} {x y z : Slc} {es : List MapEntry} (h : PT w g S m clock x y z es t) {q : Nat} {s : List UInt8} (hs : s.length ≤ 140737488355328) (hq : ¬ (q = 0 ∨ 2147483647 < q)) (hm : iMap t.B q = 0) (hk : ¬ (t.of s ≠ 0 ∧ ∃ p ∈ t.B, p.2 = t.of s)) (hf : t.B.length ≤ 100000) (hf2 : t.L.length < 100000) :
    Calls Try.prog 14 #[.pointer (some ⟨g, 0, none⟩), .int .u64 (q : Int), .string (txt s)] w fun e w' => e = .returned (.tuple #[.int .u64 (((t.bind q s).2.1 : Nat) : Int), .int .i64 (((t.bind q s).2.2 : Nat) : Int)]) ∧ Stp w w' S g (t.bind q s).1 := by
  have hb : t.bind q s = if (t.make s).2.2 ≠ 0 then ((t.make s).1, 0, (t.make s).2.2) else ({ (t.make s).1 with B := iIns q (t.make s).2.1 t.B }, (t.make s).2.1, 0) := by
    rw [Idt.bind, if_neg hq, if_neg (by omega), if_neg hk]
  rw [hb]
  have kf := fun w => foreign16_any q w
  rw [decide_eq_true (by omega)] at kf
  have ks := search16_any h hf q
  rw [decide_eq_false (by omega)] at ks
  have C1 : ∀ w1, Turn w w1 none → w1.cell? ⟨g, 1, none⟩ = some (.map (some m)) := fun w1 T => (h.b.turn0 T).ats rfl
  have LK := fun w1 (T : Turn w w1 none) => look16 (h.turn0 T) (s := s) (by unfold maxLen; omega)
  have km := fun w1 (T : Turn w w1 none) => make16_any (h.turn0 T) (s := s) hs (by omega)
  have hle := t.of_le s
  have h0 : ∀ p ∈ t.B, p.2 ≠ t.L.length + 1 := fun p hp e => by have := h.wf.id p hp; omega
  rcases t.make_cases s with ⟨h1, h2⟩ | ⟨h1, h3, h2⟩ | ⟨h1, h3, h2⟩
  · rw [h2] at km ⊢
    rw [if_neg (by simp)]
    simp only at km ⊢
    obtain ⟨j, hj⟩ : ∃ j, t.of s = j + 1 := ⟨t.of s - 1, by omega⟩
    rw [hj] at LK hk hle km ⊢
    have hno : ∀ p ∈ t.B, p.2 ≠ j + 1 := fun p hp e => hk ⟨by omega, p, hp, e⟩
    have CF : ∀ w1, Turn w w1 none → ∃ gy, w1.cell? ⟨g, 3, none⟩ = some (.slice (some ⟨gy, 0, none⟩) t.L.length y.c) ∧ w1.cell? ⟨gy, j, none⟩ = some (.bool false) := fun w1 T => by
      have hh := flag16 (h.turn0 T) (j := j) (by omega)
      have e : flg t.B j = false := by
        rw [Bool.eq_false_iff]
        intro c
        obtain ⟨p, hp, hp2⟩ := flg_iff.1 c
        exact hno p hp hp2
      rw [e] at hh
      exact hh
    rw [decide_eq_true (show j + 1 ≠ 0 by omega)] at LK
    have kb := fun w1 S1 (P : Pt w1 g S1 t) => bind16_pt P hm hno (by omega) (show j < t.L.length by omega) hf (by omega)
    obtain ⟨N, hN⟩ : ∃ N, N = t.L.length := ⟨_, rfl⟩
    rw [← hN] at CF hle hf2
    generalize ((iAt t.B q : Nat) : Int) = at_ at *
    have hwj : IntKind.u64.wrap (j : Int) = (j : Int) := by rw [IntKind.wrap_u64]; omega
    clear h hk hj hN hq hm hf h0 h1 h2 hb hno
    go_enter Try.func14, Try.ntmps14
    go_wp2_with (first
      | (rw [LK _ t1]; go_simp)
      | (refine wp_bd rfl 50 _ rfl _ rfl _ (bdBd _ _) ?_)
      | (go_at_call 29; refine (kb _ _ hp).mono ?_; rintro e w3 ⟨rfl, s3⟩)
      | (go_at_call 13; refine (km _ t1).mono ?_; rintro e w2 ⟨rfl, hc, S2, hp, hk2⟩)
      | (go_at_call 27; refine (kf _).mono ?_; rintro e w1 ⟨rfl, rfl⟩)
      | (go_at_call 28; refine ks.mono ?_; rintro e w1 ⟨rfl, t1⟩; have d1 := C1 _ t1; obtain ⟨gy, d3, dy⟩ := CF _ t1))
    go_ret2
    exact ⟨rfl, Stp.ahead t1 (Stp.comp hc hk2 s3)⟩
  · rw [h2] at km ⊢
    rw [if_pos (by simp)]
    simp only at km ⊢
    rw [h1] at LK
    generalize ((iAt t.B q : Nat) : Int) = at_ at *
    clear h hk hq hm hf h0 h1 h2 hb
    go_enter Try.func14, Try.ntmps14
    go_wp2_with (first
      | (rw [LK _ t1]; go_simp)
      | (go_at_call 13; refine (km _ t1).mono ?_; rintro e w2 ⟨rfl, s2⟩)
      | (go_at_call 27; refine (kf _).mono ?_; rintro e w1 ⟨rfl, rfl⟩)
      | (go_at_call 28; refine ks.mono ?_; rintro e w1 ⟨rfl, t1⟩; have d1 := C1 _ t1))
    go_ret2
    exact ⟨rfl, Stp.ahead t1 s2⟩
  · rw [h2] at km ⊢
    rw [if_neg (by simp)]
    simp only at km ⊢
    rw [h1] at LK
    have kb := fun w1 S1 (P : Pt w1 g S1 { t with L := t.L ++ [s] }) => bind16_pt P hm h0 (by omega) (show t.L.length < (t.L ++ [s]).length by simp) hf (by simp; omega)
    simp only at kb
    obtain ⟨N, hN⟩ : ∃ N, N = t.L.length := ⟨_, rfl⟩
    rw [← hN] at kb km ⊢
    have hNc : ((N + 1 : Nat) : Int) = (N : Int) + 1 := by omega
    rw [hNc] at km
    generalize ((iAt t.B q : Nat) : Int) = at_ at *
    have HN := hid hN
    clear h hk hq hm hf h0 h1 h2 hb hN hNc hle
    go_enter Try.func14, Try.ntmps14
    go_wp2_with (first
      | (rw [LK _ t1]; go_simp)
      | (refine wp_bd rfl 50 _ rfl _ rfl _ (bdBd _ _) ?_)
      | (go_at_call 29; refine (kb _ _ hp).mono ?_; rintro e w3 ⟨rfl, s3⟩)
      | (go_at_call 13; refine (km _ t1).mono ?_; rintro e w2 ⟨rfl, hc, S2, hp, hk2⟩)
      | (go_at_call 27; refine (kf _).mono ?_; rintro e w1 ⟨rfl, rfl⟩)
      | (go_at_call 28; refine ks.mono ?_; rintro e w1 ⟨rfl, t1⟩; have d1 := C1 _ t1))
    go_ret2
    exact ⟨rfl, Stp.ahead t1 (Stp.comp hc hk2 s3)⟩
/-- Bind. -/
theorem bindT16_pt (h : Pt w g S t) {q : Nat} {s : List UInt8} (hs : s.length ≤ 140737488355328) (hf : t.B.length ≤ 100000) (hf2 : t.L.length < 100000) :
    Calls Try.prog 14 #[.pointer (some ⟨g, 0, none⟩), .int .u64 (q : Int), .string (txt s)] w fun e w' => e = .returned (.tuple #[.int .u64 (((t.bind q s).2.1 : Nat) : Int), .int .i64 (((t.bind q s).2.2 : Nat) : Int)]) ∧ Stp w w' S g (t.bind q s).1 := by
  have hP := h
  obtain ⟨m, c, x, y, z, es, h⟩ := h
  by_cases hq : q = 0 ∨ 2147483647 < q
  · have hb : t.bind q s = (t, 0, 1) := by rw [Idt.bind, if_pos hq]
    rw [hb]
    have kf := fun w => foreign16_any q w
    rw [decide_eq_false (by omega)] at kf
    have HS := hid (Stp.same hP (Turn.refl w none))
    clear h hP hb hq hf hf2
    go_enter Try.func14, Try.ntmps14
    go_wp2_with (go_at_call 27; refine (kf _).mono ?_; rintro e w1 ⟨rfl, rfl⟩)
    go_ret2
    exact ⟨rfl, HS.out⟩
  · by_cases hm : iMap t.B q = 0
    · by_cases hk : t.of s ≠ 0 ∧ ∃ p ∈ t.B, p.2 = t.of s
      · have hb : t.bind q s = (t, 0, 6) := by rw [Idt.bind, if_neg hq, if_neg (by omega), if_pos hk]
        rw [hb]
        refine (bindB16_any h hs hq hm hk hf (by omega)).mono ?_
        rintro e w' ⟨rfl, ht⟩
        exact ⟨rfl, Stp.same hP ht⟩
      · exact bindC16_any h hs hq hm hk hf hf2
    · have hb : t.bind q s = (t, (if t.of s = iMap t.B q then t.of s else 0), if t.of s = iMap t.B q then 0 else 6) := by
        rw [Idt.bind, if_neg hq, if_pos hm]
        split <;> rfl
      rw [hb]
      refine (bindA16_any h hs hq hm hf).mono ?_
      rintro e w' ⟨rfl, ht⟩
      exact ⟨rfl, Stp.same hP ht⟩
end
end Go.Proofs.Ytnkmpcepdjjopaa
