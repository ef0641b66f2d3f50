/-
  Layer 16, the document's table in memory: Bind.
-/
import Derived.Test.YtnkmpcepdjjopaaIdR
import Derived.Test.YtnkmpcepdjjopaaIdL
namespace Go.Proofs.Ytnkmpcepdjjopaa
set_option linter.unusedSimpArgs false
set_option linter.unusedVariables false
open Go.RowKit

section
variable {w : World} {r : Nat} {T : Nat → Prop} {x z : Slc} {t : Idt}
theorem rmake16_pt (h : Rt16 w r T t) {s : List UInt8} (hf : t.L.length ≤ 100000) :
    Calls Try.prog 18 #[.pointer (some ⟨r, 0, none⟩), .string (txt s)] w fun e w' => e = .returned (.tuple #[.int .u64 (((t.make s).2.1 : Nat) : Int), .int .i64 (((t.make s).2.2 : Nat) : Int)]) ∧ Stq w w' T r (t.make s).1 := by
  obtain ⟨x, z, h⟩ := h
  exact rmake16_any h hf
set_option maxRecDepth 100000 in
set_option maxHeartbeats 1600000 in
/-- From is no foreign id; or it is bound. -/
theorem rbindA16_any (h : RT w r T x z t) {q : Nat} {s : List UInt8} (hm : (q = 0 ∨ 2147483647 < q) ∨ iMap t.B q ≠ 0) (hf : t.B.length ≤ 100000) (hf2 : t.L.length ≤ 100000) :
    Calls Try.prog 19 #[.pointer (some ⟨r, 0, none⟩), .int .u64 (q : Int), .string (txt s)] w fun e w' => e = .returned (.tuple #[.int .u64 (((t.bind q s).2.1 : Nat) : Int), .int .i64 (((t.bind q s).2.2 : Nat) : Int)]) ∧ Stq w w' T r (t.bind q s).1 := by
  have HP := hid (Stq.same (⟨x, z, h⟩ : Rt16 w r T t) (Turn.refl w none))
  have ko := rof16_any h hf2 s
  have km := rmap16_any h hf q
  by_cases hq : q = 0 ∨ 2147483647 < q
  · have hb : t.bind q s = (t, 0, 1) := by rw [Idt.bind, if_pos hq]
    rw [hb]
    clear hb h hm ko km
    rcases hq with rfl | hq
    all_goals
      go_enter Try.func19, Try.ntmps19
      go_wp2
      go_ret2
      exact ⟨rfl, HP.out⟩
  · have hm : iMap t.B q ≠ 0 := hm.resolve_left hq
    have hb : t.bind q s = (t, (if t.of s = iMap t.B q then t.of s else 0), if t.of s = iMap t.B q then 0 else 6) := by
      rw [Idt.bind, if_neg hq, if_pos hm]
      split <;> rfl
    rw [hb]
    rw [decide_eq_true hm] at km
    have q0 : ¬ q = 0 := by omega
    have q1 : ¬ 2147483647 < q := by omega
    obtain ⟨i, hi⟩ : ∃ i, i = t.of s := ⟨_, rfl⟩
    obtain ⟨y, hy⟩ : ∃ y, y = iMap t.B q := ⟨_, rfl⟩
    rw [← hi] at ko ⊢
    rw [← hy] at km hm ⊢
    clear hb h hq hi hy
    have hq0 : ((q : Int) == 0) = false := by rw [beq_eq_false_iff_ne]; omega
    by_cases hc : i = y
    · rw [if_pos hc, if_pos hc]
      rw [decide_eq_true (show i ≠ 0 by omega)] at ko
      subst hc
      go_enter Try.func19, Try.ntmps19
      go_wp2_with (first
        | (go_at_call 20; refine ko.mono ?_; rintro e w1 ⟨rfl, rfl⟩)
        | (go_at_call 23; refine km.mono ?_; rintro e w1 ⟨rfl, rfl⟩))
      go_ret2
      exact ⟨rfl, HP.out⟩
    · rw [if_neg hc, if_neg hc]
      have hne : ((y : Int) == (i : Int)) = false := by rw [beq_eq_false_iff_ne]; omega
      by_cases hi0 : i = 0
      · subst hi0
        rw [decide_eq_false (by simp)] at ko
        go_enter Try.func19, Try.ntmps19
        go_wp2_with (first
          | (go_at_call 20; refine ko.mono ?_; rintro e w1 ⟨rfl, rfl⟩)
          | (go_at_call 23; refine km.mono ?_; rintro e w1 ⟨rfl, rfl⟩))
        go_ret2
        exact ⟨rfl, HP.out⟩
      · rw [decide_eq_true hi0] at ko
        go_enter Try.func19, Try.ntmps19
        go_wp2_with (first
          | (go_at_call 20; refine ko.mono ?_; rintro e w1 ⟨rfl, rfl⟩)
          | (go_at_call 23; refine km.mono ?_; rintro e w1 ⟨rfl, rfl⟩))
        go_ret2
        exact ⟨rfl, HP.out⟩
set_option maxRecDepth 100000 in
set_option maxHeartbeats 1600000 in
/-- The id is bound to another one. -/
theorem rbindB16_any (h : RT w r T x z t) {q : Nat} {s : List UInt8} (hq : ¬ (q = 0 ∨ 2147483647 < q)) (hm : iMap t.B q = 0) (hk : t.of s ≠ 0 ∧ ∃ p ∈ t.B, p.2 = t.of s) (hf : t.B.length ≤ 100000) (hf2 : t.L.length ≤ 100000) :
    Calls Try.prog 19 #[.pointer (some ⟨r, 0, none⟩), .int .u64 (q : Int), .string (txt s)] w fun e w' => e = .returned (.tuple #[.int .u64 0, .int .i64 6]) ∧ w = w' := by
  have ko := rof16_any h hf2 s
  have km := rmap16_any h hf q
  rw [hm, decide_eq_false (by simp)] at km
  rw [decide_eq_true hk.1] at ko
  have hz := h.hz
  have zn := h.zn
  rw [zn] at hz
  have c2 : w.cell? ⟨r, 2, none⟩ = some (.slice z.A t.B.length z.c) := by rw [← zn]; exact h.b.ats rfl
  obtain ⟨i, hi⟩ : ∃ i, i = t.of s := ⟨_, rfl⟩
  rw [← hi] at ko hk
  obtain ⟨N, hN⟩ : ∃ N, N = t.B.length := ⟨_, rfl⟩
  rw [← hN] at hz c2 hf
  have HN := hid hN
  have HK := hid hk.2
  have q0 : ¬ q = 0 := by omega
  have q1 : ¬ 2147483647 < q := by omega
  have hq0 : ((q : Int) == 0) = false := by rw [beq_eq_false_iff_ne]; omega
  clear hN hk hi hm hq h zn
  go_enter Try.func19, Try.ntmps19
  go_wp2_with (first
    | (go_at_call 20; refine ko.mono ?_; rintro e w1 ⟨rfl, rfl⟩)
    | (go_at_call 23; refine km.mono ?_; rintro e w1 ⟨rfl, rfl⟩))
  go_loopw [12] (fun v wr => ∃ j : Nat, j ≤ N ∧ v = .int .i64 (j : Int) ∧ Hid (∀ k p, k < j → t.B[k]? = some p → p.2 ≠ i) ∧ w = wr) (fun v _ => (N - intOf v).toNat)
  case atStart => exact ⟨0, by omega, rfl, hid (fun k p hk => by omega), rfl⟩
  case round =>
    obtain ⟨j, hj, rfl, HJ, rfl⟩ := hrel
    by_cases hjn : j < N
    · obtain ⟨p, hp⟩ : ∃ p, t.B[j]? = some p := ⟨_, List.getElem?_eq_getElem (by have := HN.out; omega)⟩
      obtain ⟨gz, hA, _, _⟩ := hz.head (by omega)
      rw [hA] at hz c2
      have cy : w.cell? ⟨gz, j * 2 + 1, none⟩ = some (.int .u64 (p.2 : Int)) := hz.bnd hp 1 _ rfl
      have hw1 : wrap64 ((j : Int) + 1) = (j : Int) + 1 := by unfold wrap64; omega
      by_cases hc : p.2 = i
      · subst hc
        clear hp
        go_wp2
        go_ret2
        exact ⟨rfl, rfl⟩
      · have HL := hid (show ∀ k p, k < j + 1 → t.B[k]? = some p → p.2 ≠ i by
          intro k p2 hk e
          rcases Nat.lt_or_ge k j with c | c
          · exact HJ.out k p2 c e
          · obtain rfl : k = j := by omega
            rw [hp] at e
            rw [← Option.some.inj e]
            exact hc)
        have hne : ((p.2 : Int) == (i : Int)) = false := by rw [beq_eq_false_iff_ne]; omega
        clear hp
        go_wp2
        refine ⟨⟨j + 1, by omega, rfl, HL, trivial⟩, ?_⟩
        simp [intOf]; omega
    · exfalso
      obtain ⟨p, hp, hp2⟩ := HK.out
      obtain ⟨k, hk⟩ := List.getElem?_of_mem hp
      exact HJ.out k p (by have := (List.getElem?_eq_some_iff.1 hk).1; have := HN.out; omega) hk hp2
end
end Go.Proofs.Ytnkmpcepdjjopaa
