/-
  Layer 16: both tables side by side; the law's does.
-/
import Derived.Test.YtnkmpcepdjjopaaIdM
import Derived.Test.YtnkmpcepdjjopaaIdU
namespace Go.Proofs.Ytnkmpcepdjjopaa
set_option linter.unusedSimpArgs false
set_option linter.unusedVariables false
open Go.RowKit

/-- Both tables, each in blocks of its own, made since w0. -/
structure Bd (w0 w : World) (g r : Nat) (S T : Nat → Prop) (t u : Idt) : Prop where
  p : Pt w g S t
  q : Rt16 w r T u
  dis : ∀ k, S k → ¬ T k
  s0 : ∀ k, S k → w0.heap.size ≤ k
  t0 : ∀ k, T k → w0.heap.size ≤ k
  tw : Turn w0 w none
section
variable {w0 w w' : World} {g r : Nat} {S T : Nat → Prop} {t u t' : Idt}
theorem Bd.turn0 (h : Bd w0 w g r S T t u) (ht : Turn w w' none) : Bd w0 w' g r S T t u := ⟨h.p.turn0 ht, h.q.turn0 ht, h.dis, h.s0, h.t0, h.tw.trans ht⟩
theorem Bd.stp (h : Bd w0 w g r S T t u) (s : Stp w w' S g t') : ∃ S', Bd w0 w' g r S' T t' u := by
  obtain ⟨hc, S', hp, hk⟩ := s
  have s0 := h.tw.size
  refine ⟨S', hp, h.q.chg hc (fun k h1 h2 => h.dis k h2 h1), fun k h1 h2 => (hk k h1).elim (fun h3 => h.dis k h3 h2) (fun h3 => by have := h.q.lt h2; omega), fun k h1 => (hk k h1).elim (h.s0 k) (fun h3 => by omega), h.t0, ?_⟩
  exact ((Chg.of0 h.tw S).trans hc fun i hi => .inl hi).turn h.s0
theorem Bd.stq (h : Bd w0 w g r S T t u) (s : Stq w w' T r t') : ∃ T', Bd w0 w' g r S T' t t' := by
  obtain ⟨hc, T', hp, hk⟩ := s
  have s0 := h.tw.size
  refine ⟨T', h.p.chg hc h.dis, hp, fun k h1 h2 => (hk k h2).elim (fun h3 => h.dis k h1 h3) (fun h3 => by have := h.p.lt h1; omega), h.s0, fun k h1 => (hk k h1).elim (h.t0 k) (fun h3 => by omega), ?_⟩
  exact ((Chg.of0 h.tw T).trans hc fun i hi => .inl hi).turn h.t0
theorem rbindT16_pt (h : Rt16 w r T t) {q : Nat} {s : List UInt8} (hf : t.B.length ≤ 100000) (hf2 : t.L.length < 100000) :
    Calls Try.prog 19 #[.pointer (some ⟨r, 0, none⟩), .int .u64 (q : Int), .string (txt s)] w fun e w' => e = .returned (.tuple #[.int .u64 (((t.bind q s).2.1 : Nat) : Int), .int .i64 (((t.bind q s).2.2 : Nat) : Int)]) ∧ Stq w w' T r (t.bind q s).1 := by
  have hP := h
  obtain ⟨x, z, h⟩ := h
  by_cases hm : (q = 0 ∨ 2147483647 < q) ∨ iMap t.B q ≠ 0
  · exact rbindA16_any h hm hf (by omega)
  · have hq : ¬ (q = 0 ∨ 2147483647 < q) := fun c => hm (.inl c)
    have hm : iMap t.B q = 0 := Decidable.byContradiction fun c => hm (.inr c)
    by_cases hk : t.of s ≠ 0 ∧ ∃ p ∈ t.B, p.2 = t.of s
    · have hb : t.bind q s = (t, 0, 6) := by rw [Idt.bind, if_neg hq, if_neg (by omega), if_pos hk]
      rw [hb]
      refine (rbindB16_any h hq hm hk hf (by omega)).mono ?_
      rintro e w' ⟨rfl, rfl⟩
      exact ⟨rfl, Stq.same hP (Turn.refl w none)⟩
    · exact rbindC16_any h hq hm hk hf hf2
end
/-- An act. -/
structure A16 where
  k : Int
  x : Nat
  s : List UInt8
def A16.cs (a : A16) : List Value := [.int .i64 a.k, .int .u64 (a.x : Int), .string (txt a.s)]
structure A16.Ok (a : A16) : Prop where
  x : a.x ≤ 18446744073709551615
  s : a.s.length ≤ 140737488355328
/-- What an act leaves. -/
def Idt.act (t : Idt) (a : A16) : Idt := if a.k = 0 then (t.make a.s).1 else (t.bind a.x a.s).1
theorem Idt.act_few (t : Idt) (a : A16) : (t.act a).L.length ≤ t.L.length + 1 ∧ (t.act a).B.length ≤ t.B.length + 1 := by
  have hm : (t.make a.s).1.L.length ≤ t.L.length + 1 := by
    rcases t.make_cases a.s with ⟨_, h⟩ | ⟨_, _, h⟩ | ⟨_, _, h⟩ <;> rw [h] <;> simp
  have hB := t.make_B a.s
  unfold Idt.act
  split
  · exact ⟨hm, by rw [hB]; omega⟩
  · rw [Idt.bind]
    split
    · exact ⟨by show t.L.length ≤ _; omega, by show t.B.length ≤ _; omega⟩
    split
    · split <;> exact ⟨by show t.L.length ≤ _; omega, by show t.B.length ≤ _; omega⟩
    split
    · exact ⟨by show t.L.length ≤ _; omega, by show t.B.length ≤ _; omega⟩
    split
    · exact ⟨hm, by show (t.make a.s).1.B.length ≤ _; rw [hB]; omega⟩
    · exact ⟨hm, by show (iIns a.x (t.make a.s).2.1 t.B).length ≤ _; rw [iIns_len]; omega⟩
theorem szA16 : (Try.prog.info? 30).map (·.size) = some 3 := by kernel_rfl
section
variable {w0 w : World} {g r : Nat} {S T : Nat → Prop} {t : Idt}
set_option maxRecDepth 100000 in
set_option maxHeartbeats 1600000 in
theorem does16_any (h : Bd w0 w g r S T t t) (a : A16) (ha : a.Ok) (hf : t.B.length ≤ 1000) (hf2 : t.L.length ≤ 1000) :
    Calls Try.prog 8 #[.pointer (some ⟨g, 0, none⟩), .pointer (some ⟨r, 0, none⟩), .agg #[.int .i64 a.k, .int .u64 (a.x : Int), .string (txt a.s)]] w fun e w' => e = .returned (.bool true) ∧ ∃ S' T', Bd w0 w' g r S' T' (t.act a) (t.act a) := by
  obtain ⟨k, x, s⟩ := a
  obtain ⟨hx, hs⟩ := ha
  unfold Idt.act
  simp only at hx hs ⊢
  by_cases hk : k = 0
  · subst hk
    rw [if_pos rfl]
    have km := fun {w S} (P : Pt w g S t) => make16_pt P (s := s) hs (by omega)
    have kr := fun {w T} (P : Rt16 w r T t) => rmake16_pt P (s := s) (by omega)
    obtain ⟨mk, hmk⟩ : ∃ mk, mk = t.make s := ⟨_, rfl⟩
    rw [← hmk] at km kr ⊢
    obtain ⟨t1, id, er⟩ := mk
    simp only at km kr ⊢
    clear hmk
    go_enter Try.func8, Try.ntmps8
    go_upto_region 3 with (first
      | (refine wp_bx rfl 30 _ rfl rfl ?_; intro g5 w1 hg5 hb5 ht5; have b1 := h.turn0 ht5; have d0 : w1.cell? ⟨g5, 0, none⟩ = some (.int .i64 0) := hb5.ats rfl; have d2 : w1.cell? ⟨g5, 2, none⟩ = some (.string (txt s)) := hb5.ats rfl)
      | (go_at_call 13; refine (km b1.p).mono ?_; rintro e w2 ⟨rfl, s2⟩))
    have nS : ¬ S g5 := fun c => by have := h.p.lt c; omega
    have hb6 := hb5.chg s2.1 nS
    have e2 : w2.cell? ⟨g5, 2, none⟩ = some (.string (txt s)) := hb6.ats rfl
    obtain ⟨S2, b2⟩ := b1.stp s2
    go_wp2_with (go_at_call 18; refine (kr b2.q).mono ?_; rintro e w3 ⟨rfl, s3⟩)
    go_ret
    obtain ⟨T3, b3⟩ := b2.stq s3
    exact ⟨rfl, S2, T3, b3⟩
  · rw [if_neg hk]
    have hk0 : (k == 0) = false := by rw [beq_eq_false_iff_ne]; exact hk
    have km := fun {w S} (P : Pt w g S t) => bindT16_pt P (q := x) (s := s) hs (by omega) (by omega)
    have kr := fun {w T} (P : Rt16 w r T t) => rbindT16_pt P (q := x) (s := s) (by omega) (by omega)
    obtain ⟨mk, hmk⟩ : ∃ mk, mk = t.bind x s := ⟨_, rfl⟩
    rw [← hmk] at km kr ⊢
    obtain ⟨t1, id, er⟩ := mk
    simp only at km kr ⊢
    clear hmk
    go_enter Try.func8, Try.ntmps8
    go_upto_region 6 with (first
      | (refine wp_bx rfl 30 _ rfl rfl ?_; intro g5 w1 hg5 hb5 ht5; have b1 := h.turn0 ht5; have d0 : w1.cell? ⟨g5, 0, none⟩ = some (.int .i64 k) := hb5.ats rfl; have d1 : w1.cell? ⟨g5, 1, none⟩ = some (.int .u64 (x : Int)) := hb5.ats rfl; have d2 : w1.cell? ⟨g5, 2, none⟩ = some (.string (txt s)) := hb5.ats rfl)
      | (go_at_call 14; refine (km b1.p).mono ?_; rintro e w2 ⟨rfl, s2⟩))
    have nS : ¬ S g5 := fun c => by have := h.p.lt c; omega
    have hb6 := hb5.chg s2.1 nS
    have e1 : w2.cell? ⟨g5, 1, none⟩ = some (.int .u64 (x : Int)) := hb6.ats rfl
    have e2 : w2.cell? ⟨g5, 2, none⟩ = some (.string (txt s)) := hb6.ats rfl
    obtain ⟨S2, b2⟩ := b1.stp s2
    go_wp2_with (go_at_call 19; refine (kr b2.q).mono ?_; rintro e w3 ⟨rfl, s3⟩)
    go_ret
    obtain ⟨T3, b3⟩ := b2.stq s3
    exact ⟨rfl, S2, T3, b3⟩
end
end Go.Proofs.Ytnkmpcepdjjopaa
