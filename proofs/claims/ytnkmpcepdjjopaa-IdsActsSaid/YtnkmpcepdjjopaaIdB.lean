/-
  Layer 16, the code: New, Len, Of, Text, and the small tests.
-/
import Derived.Test.YtnkmpcepdjjopaaIdA
namespace Go.Proofs.Ytnkmpcepdjjopaa
set_option linter.unusedSimpArgs false
set_option linter.unusedVariables false
open Go.RowKit

theorem zU64 : ∀ w, (zeroValue 22).run Try.prog w = .ok (.int .u64 0) w := zero_at (by kernel_rfl)
theorem bdTab (n : Int) (m : Nat) : Try.prog.built 55 [(0, .int .u64 n), (1, .map (some m))] = some ([.int .u64 n, .map (some m), .slice none 0 0, .slice none 0 0, .slice none 0 0] : List Value).toArray := by kernel_rfl
theorem szBd : (Try.prog.info? 50).map (·.size) = some 2 := by kernel_rfl

set_option maxRecDepth 100000 in
set_option maxHeartbeats 800000 in
theorem new16_any (n : Nat) (w : World) (hn : n ≤ 18446744073709551615) :
    Calls Try.prog 6 #[.int .u64 (n : Int)] w fun e w' => ∃ g, e = .returned (.pointer (some ⟨g, 0, none⟩)) ∧ (∃ S, Pt w' g S (Idt.nu n) ∧ ∀ i, S i → w.heap.size ≤ i) ∧ Turn w w' none := by
  have hmk : (Instr.makeMap 52 none).run Try.prog w = .ok (.map (some w.heap.size)) (w.alloc (.map #[] 0)) := rfl
  have hm := MapIs.made Try.prog 9 w
  have key : ∀ q g w', q = (((Idt.nu n).lim : Nat) : Int) → (w.alloc (.map #[] 0)).heap.size = g → Blk w' g 55 ([.int .u64 q, .map (some w.heap.size), .slice none 0 0, .slice none 0 0, .slice none 0 0] : List Value).toArray → Turn (w.alloc (.map #[] 0)) w' none →
      ∃ S, Pt w' g S (Idt.nu n) ∧ (∀ i, S i → w.heap.size ≤ i) ∧ Turn w w' none := by
    intro q g w' hq hg hb ht
    subst hq
    have hz : g = w.heap.size + 1 := by rw [← hg]; exact Array.size_push ..
    have hl := hb.lt
    refine ⟨fun i => i = g ∨ i = w.heap.size, ⟨w.heap.size, 0, ⟨none, 0, 0⟩, ⟨none, 0, 0⟩, ⟨none, 0, 0⟩, [], hb, hm.turn0 ht, Ent.nil, Own.nil _ _ _ _, Own.nil _ _ _ _, Own.nil _ _ _ _, .inl rfl, .inr rfl, ?_, ?_, ?_, ?_, Idt.nu_wf n⟩, ?_, ((Turn.refl w none).alloc _).trans ht⟩
    · intro k e; cases e
    · intro k e; cases e
    · intro k e; cases e
    · rintro i (rfl | rfl) <;> omega
    · rintro i (rfl | rfl) <;> omega
  go_enter Try.func6, Try.ntmps6
  go_wp2_with (first
    | (rw [hmk]; go_simp)
    | (refine wp_bd rfl 55 _ rfl _ rfl _ (bdTab _ _) ?_)
    | (refine wp_bx rfl 55 _ rfl rfl ?_; intro g w1 hg hb1 ht1))
  all_goals
    go_ret
    obtain ⟨S, h1, h2, h3⟩ := key _ g w1 (by simp only [Idt.nu]; omega) hg hb1 ht1
    exact ⟨g, rfl, ⟨S, h1, h2⟩, h3⟩
section
variable {w : World} {g m clock : Nat} {S : Nat → Prop} {x y z : Slc} {es : List MapEntry} {t : Idt}
set_option maxRecDepth 100000 in
theorem len16_any (h : PT w g S m clock x y z es t) :
    Calls Try.prog 15 #[.pointer (some ⟨g, 0, none⟩)] w fun e w' => e = .returned (.int .i64 (t.L.length : Int)) ∧ w = w' := by
  have c2 : w.cell? ⟨g, 2, none⟩ = some (.slice x.A t.L.length x.c) := by rw [← h.xn]; exact h.b.ats rfl
  go_enter Try.func15, Try.ntmps15
  go_wp2
  go_ret
  exact ⟨rfl, rfl⟩
/-- What a lookup of a text finds. -/
theorem look16 (h : PT w g S m clock x y z es t) {s : List UInt8} (hs : s.length ≤ maxLen) :
    (Instr.lookup 52 (.map (some m)) (.string (txt s)) true).run Try.prog w = .ok (.tuple #[.int .u64 ((t.of s : Nat) : Int), .bool (decide (t.of s ≠ 0))]) w := by
  obtain ⟨k, hk⟩ := keyS hs
  rcases h.mp.look keysS Try.underlying52 true (zU64 w) hk with ⟨h1, h2⟩ | ⟨e, he, h1, h2⟩
  · rw [h1, h.en.no h2]
    rfl
  · obtain ⟨h3, h4⟩ := h.en.yes h.wf he h1
    rw [h2, h4, decide_eq_true h3]
    rfl
set_option maxRecDepth 100000 in
theorem of16_any (h : PT w g S m clock x y z es t) {s : List UInt8} (hs : s.length ≤ maxLen) :
    Calls Try.prog 17 #[.pointer (some ⟨g, 0, none⟩), .string (txt s)] w fun e w' => e = .returned (.tuple #[.int .u64 ((t.of s : Nat) : Int), .bool (decide (t.of s ≠ 0))]) ∧ w = w' := by
  have c1 : w.cell? ⟨g, 1, none⟩ = some (.map (some m)) := h.b.ats rfl
  have lk := look16 h hs
  generalize decide (t.of s ≠ 0) = d at *
  generalize ((t.of s : Nat) : Int) = k at *
  go_enter Try.func17, Try.ntmps17
  go_wp2_with (rw [lk]; go_simp)
  go_ret2
  exact ⟨rfl, rfl⟩
set_option maxRecDepth 100000 in
theorem has16_any (h : PT w g S m clock x y z es t) (hf : t.L.length ≤ 100000) (n : Nat) (hn : n ≤ 18446744073709551615) :
    Calls Try.prog 30 #[.pointer (some ⟨g, 0, none⟩), .int .u64 (n : Int)] w fun e w' => e = .returned (.bool (decide (1 ≤ n ∧ n ≤ t.L.length))) ∧ w = w' := by
  have c2 : w.cell? ⟨g, 2, none⟩ = some (.slice x.A t.L.length x.c) := by rw [← h.xn]; exact h.b.ats rfl
  obtain ⟨L, hL⟩ : ∃ L, L = t.L.length := ⟨_, rfl⟩
  rw [← hL] at c2 hf ⊢
  clear hL
  by_cases h1 : 1 ≤ n
  · by_cases h2 : n ≤ L
    · rw [decide_eq_true ⟨h1, h2⟩]
      go_enter Try.func30, Try.ntmps30
      go_wp2
      go_ret
      exact ⟨rfl, rfl⟩
    · rw [decide_eq_false fun c => h2 c.2]
      go_enter Try.func30, Try.ntmps30
      go_wp2
      go_ret
      exact ⟨rfl, rfl⟩
  · rw [decide_eq_false fun c => h1 c.1]
    go_enter Try.func30, Try.ntmps30
    go_wp2
    go_ret
    exact ⟨rfl, rfl⟩
set_option maxRecDepth 100000 in
theorem text16_any (h : PT w g S m clock x y z es t) (hf : t.L.length ≤ 100000) (n : Nat) (hn : n ≤ 18446744073709551615) :
    Calls Try.prog 16 #[.pointer (some ⟨g, 0, none⟩), .int .u64 (n : Int)] w fun e w' => e = .returned (.tuple #[.string (txt (t.text n).1), .bool (t.text n).2]) ∧ w = w' := by
  have kh := has16_any h hf n hn
  unfold Idt.text
  by_cases hi : 1 ≤ n ∧ n ≤ t.L.length
  · rw [decide_eq_true hi] at kh
    rw [if_neg (by omega)]
    obtain ⟨l, hl⟩ : ∃ l, t.L[n - 1]? = some l := ⟨_, List.getElem?_eq_getElem (by omega)⟩
    have hd : t.L.getD (n - 1) [] = l := by simp [List.getD, hl]
    rw [hd]
    have hx := h.hx
    rw [h.xn] at hx
    obtain ⟨gx, hA, _, _⟩ := hx.head (by omega)
    rw [hA] at hx
    have cx := hx.cell (i := n - 1) (by omega)
    rw [tvs_at hl] at cx
    have c2 : w.cell? ⟨g, 2, none⟩ = some (.slice (some ⟨gx, 0, none⟩) t.L.length x.c) := by rw [← hA, ← h.xn]; exact h.b.ats rfl
    obtain ⟨k, rfl⟩ : ∃ k, n = k + 1 := ⟨n - 1, by omega⟩
    simp only [Nat.add_sub_cancel] at cx
    obtain ⟨L, hL⟩ : ∃ L, L = t.L.length := ⟨_, rfl⟩
    rw [← hL] at c2 hf hi
    have h2 := hi.2
    clear hd hl hL hx hi
    go_enter Try.func16, Try.ntmps16
    go_wp2_with (go_at_call 30; refine kh.mono ?_; rintro e w1 ⟨rfl, rfl⟩)
    go_ret2
    exact ⟨rfl, rfl⟩
  · rw [decide_eq_false hi] at kh
    rw [if_pos (by omega)]
    go_enter Try.func16, Try.ntmps16
    go_wp2_with (go_at_call 30; refine kh.mono ?_; rintro e w1 ⟨rfl, rfl⟩)
    go_ret2
    exact ⟨rfl, rfl⟩
end
end Go.Proofs.Ytnkmpcepdjjopaa
