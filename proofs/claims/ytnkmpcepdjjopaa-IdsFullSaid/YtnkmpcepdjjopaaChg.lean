/-
  Blocks of which only some turn. No program is named here.
-/
import Derived.Test.YtnkmpcepdjjopaaLaw
namespace Go.Proofs.Ytnkmpcepdjjopaa
set_option linter.unusedSimpArgs false
set_option linter.unusedVariables false
open Go.RowKit

/-! ### Blocks of which only some turn -/
/-- From w to w' nothing has turned but what is new, and blocks of S. -/
structure Chg (w w' : World) (S : Nat → Prop) : Prop where
  os : w'.os = w.os
  tape : w'.tape = w.tape
  output : w'.output = w.output
  size : w.heap.size ≤ w'.heap.size
  block : ∀ k, k < w.heap.size → ¬ S k → w'.heap[k]? = w.heap[k]?
section
variable {w w' w2 : World} {S T R : Nat → Prop} {base n c k : Nat} {E : TypeId} {A : Option Addr} {xs : List Value} {g : Nat} {t : TypeId} {cs : Array Value}
theorem Chg.refl (w : World) (S : Nat → Prop) : Chg w w S := ⟨rfl, rfl, rfl, Nat.le_refl _, fun _ _ _ => rfl⟩
theorem Chg.mono (h : Chg w w' S) (k : ∀ i, S i → T i ∨ w.heap.size ≤ i) : Chg w w' T :=
  ⟨h.os, h.tape, h.output, h.size, fun i hi hn => h.block i hi fun hs => (k i hs).elim hn (fun h2 => by omega)⟩
theorem Chg.trans (h : Chg w w' S) (k : Chg w' w2 T) (hk : ∀ i, T i → S i ∨ w.heap.size ≤ i) : Chg w w2 S :=
  ⟨k.os.trans h.os, k.tape.trans h.tape, k.output.trans h.output, Nat.le_trans h.size k.size, fun i hi hn =>
    (k.block i (Nat.lt_of_lt_of_le hi h.size) fun ht => (hk i ht).elim hn (fun h2 => by omega)).trans (h.block i hi hn)⟩
theorem Chg.of {row : Option Nat} (h : Turn w w' row) (k : ∀ i, row = some i → S i) : Chg w w' S :=
  ⟨h.os, h.tape, h.output, h.size, fun i hi hn => h.block i hi fun e => hn (k i e.symm)⟩
theorem Chg.of0 (h : Turn w w' none) (S : Nat → Prop) : Chg w w' S := Chg.of h fun _ e => by cases e
theorem Chg.turn (h : Chg w w' S) (k : ∀ i, S i → w.heap.size ≤ i) : Turn w w' none :=
  ⟨h.os, h.tape, h.output, h.size, fun i hi _ => h.block i hi fun hs => by have := k i hs; omega⟩
theorem Chg.turn1 (h : Chg w w' (fun i => i = g)) : Turn w w' (some g) :=
  ⟨h.os, h.tape, h.output, h.size, fun i hi hn => h.block i hi fun hs => hn (by rw [hs])⟩
theorem Chg.drewN (h : Chg w w' S) (n : Nat) : Chg w (w'.drewN n) S := ⟨h.os, h.tape, h.output, h.size, h.block⟩
theorem Own.chg {sz : Nat} (h : Own w base E sz A n c xs) (ht : Chg w w' S) (hs : ∀ g, blk A = some g → ¬ S g) : Own w' base E sz A n c xs := by
  obtain ⟨h1, h2⟩ := h
  refine ⟨h1, ?_⟩
  rcases h2 with h2 | ⟨g, cap, cur, hv, hg, hh, r⟩
  · exact .inl h2
  · refine .inr ⟨g, cap, cur, hv, hg, ?_, r⟩
    have hlt : g < w.heap.size := (Array.getElem?_eq_some_iff.1 hh).1
    injection hv with hA
    exact (ht.block g hlt (hs g (by rw [hA]; rfl))).trans hh
theorem Blk.chg (h : Blk w g t cs) (ht : Chg w w' S) (hs : ¬ S g) : Blk w' g t cs := (ht.block g h.lt hs).trans h
theorem Rd.chg {B sz : Nat} (h : Rd w B sz A n xs) (hB : B ≤ w.heap.size) (ht : Chg w w' S) (hs : ∀ g, blk A = some g → ¬ S g) : Rd w' B sz A n xs :=
  h.keep fun a ha hb k => World.cell?_of_block (ht.block _ (by rw [addr_block]; omega) (by rw [addr_block]; exact hs _ (by rw [ha]; rfl)))
theorem Rd.chg0 {B m : Nat} {b : List UInt8} (h : Rd w B 1 A m (vbs b)) (hB : B ≤ w.heap.size) (ht : Chg w w' S) (hs : ∀ g, blk A = some g → 0 < m → ¬ S g) : Rd w' B 1 A m (vbs b) := by
  rcases Nat.eq_zero_or_pos m with rfl | hp
  · have hb : vbs b = [] := List.length_eq_zero_iff.1 h.len
    rw [hb]
    exact Rd.none_ w' B 1 0
  · exact h.chg hB ht fun g e => hs g e hp
theorem Rd.ne0 {B m : Nat} {b : List UInt8} (h : Rd w B 1 A m (vbs b)) (hB : B ≤ w.heap.size) (ht : Turn w w' (some g)) (hs : blk A = some g → 0 < m → False) : Rd w' B 1 A m (vbs b) :=
  h.chg0 hB (Chg.of (S := fun k => k = g) ht fun i e => by injection e with e; exact e.symm) fun k e hp hk => hs (hk ▸ e) hp
/-- The first k of a row. -/
theorem Own.front {A2 : Option Addr} {c2 : Nat} (h : Own w base E 1 A n c xs) (hk : k ≤ n) : Own w base E 1 A k c (xs.take k) := by
  obtain ⟨h1, h2⟩ := h
  refine ⟨by rw [List.length_take, h1]; omega, ?_⟩
  rcases h2 with ⟨hv, rfl⟩ | ⟨g, cap, cur, hv, hg, hh, hn, hm, hs, ht⟩
  · obtain rfl : k = 0 := by omega
    exact .inl ⟨hv, rfl⟩
  · injection hv with a b c
    subst a; subst c
    refine .inr ⟨g, _, cur, rfl, hg, hh, by omega, hm, hs, ?_⟩
    rw [← ht, List.take_take, Nat.mul_one, Nat.mul_one, Nat.min_eq_left hk]
/-- Two rows at one block have one address and one capacity. -/
theorem Own.one_ {E2 : TypeId} {b2 n2 c2 : Nat} {A2 : Option Addr} {ys : List Value} (h : Own w base E 1 A n c xs) (k : Own w b2 E2 1 A2 n2 c2 ys) (hg : blk A = some g) (hk : blk A2 = some g) : A2 = A ∧ c2 = c := by
  rcases h.2 with ⟨hv, _⟩ | ⟨g1, cap, cur, hv, _, hh, _, _, hs, _⟩
  · injection hv with a; subst a; cases hg
  · rcases k.2 with ⟨kv, _⟩ | ⟨g2, cap2, cur2, kv, _, kh, _, _, ks, _⟩
    · injection kv with a; subst a; cases hk
    · injection hv with a _ b
      injection kv with a2 _ b2
      subst a; subst a2; subst b; subst b2
      injection hg with hg
      injection hk with hk
      simp only at hg hk
      subst hg; subst hk
      rw [hh] at kh
      injection kh with kh
      injection kh with kh
      subst kh
      exact ⟨rfl, by omega⟩
end

section
variable {w w' : World} {base b2 sz s2 n m c d g : Nat} {E F t : TypeId} {A A2 : Option Addr} {xs ys : List Value} {cs : Array Value}
/-- What an owned row's block holds tells it from others. -/
theorem Own.obj (h : Own w base E sz A n c xs) (hg : blk A = some g) : ∃ cur, w.heap[g]? = some (.cells cur E (0, 0)) ∧ A = some ⟨g, 0, none⟩ := by
  rcases h.2 with ⟨hv, _⟩ | ⟨g1, cap, cur, hv, _, hh, _⟩
  · injection hv with a; subst a; cases hg
  · injection hv with a
    subst a
    injection hg with hg
    simp only at hg
    subst hg
    exact ⟨cur, hh, rfl⟩
theorem Own.notB (h : Own w base E sz A n c xs) (hb : Blk w g t cs) (ht : t ≠ E) : blk A ≠ some g := fun e => by
  obtain ⟨cur, h1, _⟩ := h.obj e
  rw [show w.heap[g]? = _ from hb] at h1
  injection h1 with h1
  injection h1 with _ h1
  exact ht h1
theorem Own.notO (h : Own w base E sz A n c xs) (k : Own w b2 F s2 A2 m d ys) (ht : E ≠ F) (hg : blk A = some g) : blk A2 ≠ some g := fun e => by
  obtain ⟨cur, h1, _⟩ := h.obj hg
  obtain ⟨cur2, h2, _⟩ := k.obj e
  rw [h1] at h2
  injection h2 with h2
  injection h2 with _ h2
  exact ht h2
end
end Go.Proofs.Ytnkmpcepdjjopaa
