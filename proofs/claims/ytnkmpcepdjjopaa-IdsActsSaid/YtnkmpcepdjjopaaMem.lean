/-
  Words for memory that all proofs of this family share: which cells a slice value shows, which slice values own a block of the call's own, and which blocks a step may have turned. No program is named here.
-/
import Derived.Test.YtnkmpcepdjjopaaRows
import Derived.WalkKit
import Derived.WalkSpells
import Derived.WalkLawsBesides
import Derived.Maps.AppendAt
import Derived.Laws.CopyOwn
import Derived.Deep.AppendLies
import Derived.Deep.Draws
import Derived.Outline
namespace Go.Proofs.Ytnkmpcepdjjopaa
set_option linter.unusedSimpArgs false
set_option linter.unusedVariables false
open Go.RowKit

/-- A fact put out of the walk's sight. -/
theorem hid {p : Prop} (h : p) : Hid p := h

/-- The block to which a slice's address leads. -/
def blk : Option Addr → Option Nat
  | some a => some a.block
  | none => none

/-- The cells xs are seen through the slice value (A, n): elements of sz cells each; all in blocks below B. -/
def Rd (w : World) (B sz : Nat) (A : Option Addr) (n : Nat) (xs : List Value) : Prop :=
  xs.length = n * sz ∧ ∀ k u, xs[k]? = some u → ∃ a, A = some a ∧ a.block < B ∧ w.cell? (a.add k) = some u

/-- The slice value (A, n, c) is nil, or stands at the head of a block from 'base' on that is the call's own. -/
def Own (w : World) (base : Nat) (E : TypeId) (sz : Nat) (A : Option Addr) (n c : Nat) (xs : List Value) : Prop :=
  w.ownsRow base E sz (.slice A n c) n xs

/-- From w to w' nothing has turned but blocks that are new, and block 'row'. -/
def Turn (w w' : World) (row : Option Nat) : Prop := w.grownBy w' row

theorem addr_block (a : Addr) (k : Nat) : (a.add k).block = a.block := by
  unfold Addr.add
  split <;> rfl
theorem addr_add (a : Addr) (i j : Nat) : (a.add i).add j = a.add (i + j) := by
  unfold Addr.add
  by_cases hi : i = 0
  · simp [hi]
  · by_cases hj : j = 0
    · simp [hi, hj]
    · have h : ¬ (i + j = 0) := by omega
      simp only [hi, hj, h, if_false]
      simp

section
variable {w w' w2 : World} {B B' base sz n c : Nat} {E : TypeId} {A : Option Addr} {xs ys : List Value} {row : Option Nat}

theorem Turn.size (h : Turn w w' row) : w.heap.size ≤ w'.heap.size := World.grownBy.size h
theorem Turn.refl (w : World) (row : Option Nat) : Turn w w row := World.grownBy.refl w row
theorem Turn.trans (h : Turn w w' row) (k : Turn w' w2 row) : Turn w w2 row := World.grownBy.trans h k
theorem Turn.any (h : Turn w w' none) (row : Option Nat) : Turn w w' row := ⟨h.os, h.tape, h.output, h.size, fun k hk _ => h.block k hk (by simp)⟩
/-- A block that was not there when the whole began is not seen from there. -/
theorem Turn.new {row' : Option Nat} (h : Turn w w' row) (k : Turn w' w2 row') (hr : ∀ g, row' = some g → w.heap.size ≤ g) : Turn w w2 row :=
  ⟨World.grownBy.os k ▸ World.grownBy.os h ▸ rfl, World.grownBy.tape k ▸ World.grownBy.tape h ▸ rfl, World.grownBy.output k ▸ World.grownBy.output h ▸ rfl,
    Nat.le_trans h.size k.size, fun i hi hne => (World.grownBy.block k i (Nat.lt_of_lt_of_le hi h.size) (fun e => by have := hr i e.symm; omega)).trans (World.grownBy.block h i hi hne)⟩
theorem Turn.alloc (h : Turn w w' row) (o : Obj) : Turn w (w'.alloc o) row := h.new (World.grownBy_alloc w' o none) (by simp)
theorem Turn.drew (h : Turn w w' row) : Turn w w'.drew row := ⟨h.os, h.tape, h.output, h.size, h.block⟩
theorem Turn.drewN (h : Turn w w' row) (k : Nat) : Turn w (w'.drewN k) row := ⟨h.os, h.tape, h.output, h.size, h.block⟩
theorem Turn.undrew (h : Turn w.drew w' row) : Turn w w' row := ⟨h.os, h.tape, h.output, h.size, h.block⟩
theorem Turn.undrewN {k : Nat} (h : Turn (w.drewN k) w' row) : Turn w w' row := ⟨h.os, h.tape, h.output, h.size, h.block⟩
theorem Turn.below (h : Turn w w' none) : Below w.heap.size w w' := ⟨h.os, h.tape, h.output, h.size, fun k hk => h.block k hk (by simp)⟩
theorem Turn.cell (h : Turn w w' row) {a : Addr} (ha : a.block < w.heap.size) (hne : some a.block ≠ row) : w'.cell? a = w.cell? a :=
  World.cell?_of_block (World.grownBy.block h a.block ha hne)
theorem Turn.setCell {g i : Nat} (h : Turn w w' (some g)) (u : Value) : Turn w (w'.setCell ⟨g, i, none⟩ u) (some g) :=
  h.trans ⟨rfl, rfl, rfl, by simp [World.setCell], fun k _ hk => Below.heap_setCell _ _ _ _ (fun e => hk (by simp [e]))⟩

theorem Rd.len (h : Rd w B 1 A n xs) : xs.length = n := by have := h.1; omega
theorem Rd.none_ (w : World) (B sz _c : Nat) : Rd w B sz A 0 [] := ⟨by simp, fun k u h => by simp at h⟩
theorem Rd.at_ {k : Nat} (h : Rd w B sz A n xs) (hk : k < n * sz) : ∃ a u, A = some a ∧ a.block < B ∧ xs[k]? = some u ∧ w.cell? (a.add k) = some u := by
  have hl : k < xs.length := by have := h.1; omega
  obtain ⟨a, h1, h2, h3⟩ := h.2 k xs[k] (List.getElem?_eq_getElem hl)
  exact ⟨a, xs[k], h1, h2, List.getElem?_eq_getElem hl, h3⟩
/-- The first cell's place, and the others behind it. -/
theorem Rd.head (h : Rd w B sz A n xs) (hn : 0 < n * sz) : ∃ b off, A = some ⟨b, off, none⟩ ∧ b < B ∧ ∀ k u, xs[k]? = some u → w.cell? ⟨b, off + k, none⟩ = some u := by
  obtain ⟨a, u, rfl, hb, h0, hc⟩ := h.at_ hn
  have hs : a.spot = none := by
    unfold Addr.add at hc
    simp only [if_true, World.cell?] at hc
    cases ha : a.spot with
    | none => rfl
    | some s =>
      rw [ha] at hc
      split at hc <;> simp at hc
  obtain ⟨b, off, s⟩ := a
  simp only at hs
  subst hs
  refine ⟨b, off, rfl, hb, fun k v hv => ?_⟩
  obtain ⟨a', ha, _, hc'⟩ := h.2 k v hv
  injection ha with ha
  subst ha
  have e : (⟨b, off, none⟩ : Addr).add k = ⟨b, off + k, none⟩ := by
    unfold Addr.add
    split
    · rename_i h0; subst h0; rfl
    · rfl
  rw [← e]
  exact hc'
theorem Rd.mono (h : Rd w B sz A n xs) (hB : B ≤ B') : Rd w B' sz A n xs :=
  ⟨h.1, fun k u hu => by
    obtain ⟨a, h1, h2, h3⟩ := h.2 k u hu
    exact ⟨a, h1, by omega, h3⟩⟩
theorem Rd.keep (h : Rd w B sz A n xs) (hk : ∀ a : Addr, A = some a → a.block < B → ∀ k, w'.cell? (a.add k) = w.cell? (a.add k)) : Rd w' B sz A n xs :=
  ⟨h.1, fun k u hu => by
    obtain ⟨a, h1, h2, h3⟩ := h.2 k u hu
    exact ⟨a, h1, h2, (hk a h1 h2 k).trans h3⟩⟩
theorem Rd.drew (h : Rd w B sz A n xs) : Rd w.drew B sz A n xs := h
theorem Rd.drewN (h : Rd w B sz A n xs) (k : Nat) : Rd (w.drewN k) B sz A n xs := h
theorem Rd.turn (h : Rd w B sz A n xs) (ht : Turn w w' row) (hB : B ≤ w.heap.size) (hr : ∀ g, row = some g → B ≤ g) : Rd w' B sz A n xs :=
  h.keep fun a _ hb k => ht.cell (by rw [addr_block]; omega) (by rw [addr_block]; intro e; have := hr _ e.symm; omega)
theorem Rd.turn0 (h : Rd w B sz A n xs) (ht : Turn w w' none) (hB : B ≤ w.heap.size) : Rd w' B sz A n xs := h.turn ht hB (by simp)
/-- What is read lies in another block than the one that turned. -/
theorem Rd.turnNe (h : Rd w B sz A n xs) (ht : Turn w w' row) (hB : B ≤ w.heap.size) (hr : row = none ∨ blk A ≠ row) : Rd w' B sz A n xs :=
  h.keep fun a ha hb k => ht.cell (by rw [addr_block]; omega) (by
    rw [addr_block]
    intro e
    rcases hr with hr | hr
    · rw [hr] at e; cases e
    · exact hr (by rw [ha]; exact e))
theorem Rd.alloc (h : Rd w B sz A n xs) (hB : B ≤ w.heap.size) (o : Obj) : Rd (w.alloc o) B sz A n xs := h.turn0 (World.grownBy_alloc w o none) hB
theorem Rd.below (h : Rd w B sz A n xs) (hb : Below B w w') : Rd w' B sz A n xs := h.keep fun a _ hlt k => hb.cell (by rw [addr_block]; exact hlt)
/-- A piece of a slice, as the model writes its address. -/
theorem Rd.cut (h : Rd w B sz A n xs) {k : Nat} (hk : k ≤ n) (hc : n ≤ c) :
    Rd w B sz (if c = k then A else A.map (·.add (k * sz))) (n - k) (xs.drop (k * sz)) := by
  refine ⟨by rw [List.length_drop, h.1, Nat.sub_mul], fun j u hu => ?_⟩
  rw [List.getElem?_drop] at hu
  obtain ⟨a, h1, h2, h3⟩ := h.2 _ u hu
  have hlt : k * sz + j < n * sz := by
    have := (List.getElem?_eq_some_iff.1 hu).1
    rw [h.1] at this
    exact this
  have hne : ¬ c = k := by
    intro e
    have : n ≤ k := by omega
    have := Nat.mul_le_mul_right sz this
    omega
  rw [if_neg hne, h1]
  exact ⟨_, rfl, by rw [addr_block]; exact h2, by rw [addr_add]; exact h3⟩
theorem Rd.take (h : Rd w B sz A n xs) {k : Nat} (hk : k ≤ n) : Rd w B sz A k (xs.take (k * sz)) := by
  refine ⟨by rw [List.length_take, h.1]; exact Nat.min_eq_left (Nat.mul_le_mul_right sz hk), fun j u hu => ?_⟩
  rw [List.getElem?_take] at hu
  split at hu
  · exact h.2 j u hu
  · cases hu

theorem Own.len (h : Own w base E 1 A n c xs) : xs.length = n := by have := h.1; omega
theorem Own.len_ (h : Own w base E sz A n c xs) : xs.length = n * sz := h.1
theorem Own.cap (h : Own w base E sz A n c xs) : n ≤ c ∧ c ≤ maxLen := by
  rcases h.2 with ⟨e, rfl⟩ | ⟨g, cap, cur, e, _, _, h1, h2, _⟩
  · injection e with _ _ e; subst e; simp
  · injection e with _ _ e; subst e; exact ⟨h1, h2⟩
theorem Own.block (h : Own w base E sz A n c xs) : ∀ g, blk A = some g → base ≤ g ∧ g < w.heap.size := by
  intro g hg
  cases A with
  | none => simp [blk] at hg
  | some a => exact World.ownsRow.lt h g (by simpa [blk, Value.ownBlock] using hg)
theorem Own.rd (h : Own w base E sz A n c xs) : Rd w w.heap.size sz A n xs := by
  refine ⟨h.1, fun k u hu => ?_⟩
  have hl : k < xs.length := (List.getElem?_eq_some_iff.1 hu).1
  have hn : 0 < n := by
    rcases Nat.eq_zero_or_pos n with e | e
    · have := h.1; rw [e] at this; simp at this; subst this; simp at hl
    · exact e
  obtain ⟨g, cap, hv, _, hlt⟩ := World.ownsRow.form h hn
  injection hv with hA
  subst hA
  exact ⟨_, rfl, hlt, World.ownsRow.cells h (g := g) rfl k u hu⟩
theorem Own.turn (h : Own w base E sz A n c xs) (ht : Turn w w' row) (hr : row = none ∨ blk A ≠ row) : Own w' base E sz A n c xs := by
  refine World.ownsRow.kept h ht ?_
  have e : (Value.slice A n c).ownBlock = blk A := by cases A <;> rfl
  rw [e]
  rcases hr with rfl | hr
  · cases blk A <;> simp
  · exact .inr hr
theorem Own.turn0 (h : Own w base E sz A n c xs) (ht : Turn w w' none) : Own w' base E sz A n c xs := h.turn ht (.inl rfl)
theorem Own.alloc (h : Own w base E sz A n c xs) (o : Obj) : Own (w.alloc o) base E sz A n c xs := World.ownsRow.alloc h o
theorem Own.drew (h : Own w base E sz A n c xs) : Own w.drew base E sz A n c xs := h
theorem Own.drewN (h : Own w base E sz A n c xs) (k : Nat) : Own (w.drewN k) base E sz A n c xs := h
theorem Own.mono (h : Own w base E sz A n c xs) (hb : B ≤ base) : Own w B E sz A n c xs := by
  obtain ⟨h1, h2⟩ := h
  refine ⟨h1, ?_⟩
  rcases h2 with h2 | ⟨g, cap, cur, hv, hg, r⟩
  · exact .inl h2
  · exact .inr ⟨g, cap, cur, hv, by omega, r⟩
theorem Own.nil (w : World) (base : Nat) (E : TypeId) (sz : Nat) : Own w base E sz none 0 0 [] := World.ownsRow_nil w base E sz
theorem Own.made (w : World) (base : Nat) (E : TypeId) (sz c : Nat) (cs : Array Value) (hb : base ≤ w.heap.size) (hm : c ≤ maxLen) (hs : cs.size = c * sz) :
    Own (w.alloc (.cells cs E)) base E sz (some ⟨w.heap.size, 0, none⟩) 0 c [] := World.ownsRow_made w cs c hb hm hs
theorem Own.full (w : World) (base : Nat) (E : TypeId) (sz n c : Nat) (cs : Array Value) (hb : base ≤ w.heap.size) (hm : c ≤ maxLen) (hn : n ≤ c) (hs : cs.size = c * sz) :
    Own (w.alloc (.cells cs E)) base E sz (some ⟨w.heap.size, 0, none⟩) n c (cs.toList.take (n * sz)) := by
  refine ⟨?_, .inr ⟨w.heap.size, c, cs, rfl, hb, heap_alloc_new w _, hn, hm, hs, rfl⟩⟩
  rw [List.length_take, Array.length_toList, hs]
  exact Nat.min_eq_left (Nat.mul_le_mul_right sz hn)
end

section
variable {w w' w2 : World} {base sz n c i : Nat} {E : TypeId} {A A2 A3 : Option Addr} {xs : List Value}
/-- From w to w' the row of A may have turned, and what is new; A2 stands for A now. -/
def Grow (w w' : World) (A A2 : Option Addr) : Prop := Turn w w' (blk A) ∧ (blk A2 = blk A ∨ ∃ g, blk A2 = some g ∧ w.heap.size ≤ g)
theorem Grow.refl (w : World) (A : Option Addr) : Grow w w A A := ⟨Turn.refl w _, .inl rfl⟩
theorem Grow.trans (h : Grow w w' A A2) (k : Grow w' w2 A2 A3) : Grow w w2 A A3 := by
  obtain ⟨h1, h2⟩ := h
  obtain ⟨k1, k2⟩ := k
  refine ⟨?_, ?_⟩
  · rcases h2 with h2 | ⟨g, h2, h3⟩
    · rw [h2] at k1; exact h1.trans k1
    · exact h1.new k1 (fun g' e => by rw [h2] at e; injection e with e; omega)
  · rcases k2 with k2 | ⟨g, k2, k3⟩
    · rw [k2]; exact h2
    · exact .inr ⟨g, k2, Nat.le_trans h1.size k3⟩
theorem Grow.alloc (h : Grow w w' A A2) (o : Obj) : Grow w (w'.alloc o) A A2 := ⟨h.1.alloc o, h.2⟩
theorem Grow.step (h : Grow w w' A A2) (k : Turn w' w2 (blk A2)) (e : blk A3 = blk A2 ∨ blk A3 = some w'.heap.size) : Grow w w2 A A3 :=
  h.trans ⟨k, e.imp id fun e => ⟨_, e, Nat.le_refl _⟩⟩
/-- Seen from a world in which A's row was not yet there, nothing has turned. -/
theorem Grow.fresh {w0 : World} (h : Grow w w' A A2) (k : Turn w0 w none) (hb : ∀ g, blk A = some g → w0.heap.size ≤ g) : Turn w0 w' none := k.new h.1 hb

theorem Own.head (h : Own w base E sz A n c xs) (hn : 0 < n) : ∃ g, A = some ⟨g, 0, none⟩ ∧ base ≤ g ∧ g < w.heap.size := by
  obtain ⟨g, cap, hv, h1, h2⟩ := World.ownsRow.form h hn
  injection hv with hA
  exact ⟨g, hA, h1, h2⟩
theorem Own.cell {g : Nat} (h : Own w base E sz (some ⟨g, 0, none⟩) n c xs) (hi : i < n * sz) : w.cell? ⟨g, i, none⟩ = xs[i]? := World.ownsRow.cellAt h i hi
theorem Own.frozen {g : Nat} (h : Own w base E sz (some ⟨g, 0, none⟩) n c xs) (i : Nat) : w.frozen? ⟨g, i, none⟩ = false := World.ownsRow.frozenAt h i
theorem Own.store {g : Nat} (h : Own w base E sz (some ⟨g, 0, none⟩) n c xs) (i : Nat) (u : Value) : Own (w.setCell ⟨g, i, none⟩ u) base E sz (some ⟨g, 0, none⟩) n c (xs.set i u) :=
  (World.ownsRow.stored h i u).1
theorem Own.storeTurn {g : Nat} (h : Own w base E sz (some ⟨g, 0, none⟩) n c xs) (i : Nat) (u : Value) : Turn w (w.setCell ⟨g, i, none⟩ u) (some g) :=
  (World.ownsRow.stored h i u).2
end

/-- Block g is just these cells, none frozen. -/
def Blk (w : World) (g : Nat) (t : TypeId) (cs : Array Value) : Prop := w.heap[g]? = some (.cells cs t (0, 0))
section
variable {w w' : World} {g : Nat} {t : TypeId} {cs : Array Value} {row : Option Nat}
theorem Blk.lt (h : Blk w g t cs) : g < w.heap.size := (Array.getElem?_eq_some_iff.1 h).1
theorem Blk.cell (h : Blk w g t cs) (i : Nat) : w.cell? ⟨g, i, none⟩ = cs[i]? := cell_of_row w g i cs t (0, 0) h
theorem Blk.frozen (h : Blk w g t cs) (i : Nat) : w.frozen? ⟨g, i, none⟩ = false := frozen_of_row w g i cs t h
theorem Blk.new (w : World) (t : TypeId) (cs : Array Value) : Blk (w.alloc (.cells cs t)) w.heap.size t cs := heap_alloc_new w _
theorem Blk.turn (h : Blk w g t cs) (ht : Turn w w' row) (hr : some g ≠ row) : Blk w' g t cs := (World.grownBy.block ht g h.lt hr).trans h
theorem Blk.turn0 (h : Blk w g t cs) (ht : Turn w w' none) : Blk w' g t cs := h.turn ht (by simp)
theorem Blk.store (h : Blk w g t cs) (i : Nat) (u : Value) : Blk (w.setCell ⟨g, i, none⟩ u) g t (cs.setIfInBounds i u) := heap_setCell_same w g i cs t u h
theorem Blk.drew (h : Blk w g t cs) : Blk w.drew g t cs := h
theorem Blk.drewN (h : Blk w g t cs) (n : Nat) : Blk (w.drewN n) g t cs := h
theorem Blk.alloc (h : Blk w g t cs) (o : Obj) : Blk (w.alloc o) g t cs := h.turn0 (World.grownBy_alloc w o none)
theorem Blk.set_ (h : Blk w g t cs) (i : Nat) (u : Value) : Blk (w.setCell ⟨g, i, none⟩ u) g t (cs.setIfInBounds i u) := by
  unfold Blk at h ⊢
  simp [World.setCell, Array.getElem?_modify, h]
theorem Blk.setTurn (w : World) (g i : Nat) (u : Value) : Turn w (w.setCell ⟨g, i, none⟩ u) (some g) :=
  ⟨rfl, rfl, rfl, by simp [World.setCell], fun k _ hk => Below.heap_setCell _ _ _ _ (fun e => hk (by simp [e]))⟩
end

/-! ### Bytes -/
/-- A byte's cell. -/
def vb (b : UInt8) : Value := .int .u8 (b.toNat : Int)
def vbs (l : List UInt8) : List Value := l.map vb
theorem vbs_len (l : List UInt8) : (vbs l).length = l.length := by simp [vbs]
theorem vbs_one (l : List UInt8) : ∀ u ∈ vbs l, u.oneCell' = true := by
  intro u hu
  obtain ⟨b, _, rfl⟩ := List.mem_map.1 hu
  rfl
theorem vbs_append (l m : List UInt8) : vbs (l ++ m) = vbs l ++ vbs m := by simp [vbs]
theorem vbs_take (l : List UInt8) (k : Nat) : (vbs l).take k = vbs (l.take k) := by simp [vbs]
theorem vbs_drop (l : List UInt8) (k : Nat) : (vbs l).drop k = vbs (l.drop k) := by simp [vbs]
theorem vbs_at (l : List UInt8) (k : Nat) (u : Value) : (vbs l)[k]? = some u → ∃ b, l[k]? = some b ∧ u = .int .u8 (b.toNat : Int) := by
  intro h
  simp only [vbs, List.getElem?_map, Option.map_eq_some_iff] at h
  obtain ⟨b, h1, rfl⟩ := h
  exact ⟨b, h1, rfl⟩

theorem Rd.cutB {w : World} {B n c k : Nat} {A : Option Addr} {l : List UInt8} (h : Rd w B 1 A n (vbs l)) (hk : k ≤ n) (hc : n ≤ c) :
    Rd w B 1 (if c = k then A else Option.map (fun a => a.add k) A) (n - k) (vbs (l.drop k)) := by
  have h2 := h.cut (c := c) hk hc
  rw [Nat.mul_one, vbs_drop] at h2
  exact h2
theorem add_flat (b off k : Nat) : (⟨b, off, none⟩ : Addr).add k = ⟨b, off + k, none⟩ := by
  unfold Addr.add
  split
  · rename_i h; subst h; rfl
  · rfl
/-- The tail of bytes, its address written out. -/
theorem Rd.tailB {w : World} {B n c k b off : Nat} {l : List UInt8} (h : Rd w B 1 (some ⟨b, off, none⟩) n (vbs l)) (hk : k ≤ n) (hc : n ≤ c) (hne : ¬ c = k) :
    Rd w B 1 (some ⟨b, off + k, none⟩) (n - k) (vbs (l.drop k)) := by
  have h2 := h.cutB (c := c) hk hc
  rw [if_neg hne, Option.map_some, add_flat] at h2
  exact h2
theorem Rd.takeB {w : World} {B n k : Nat} {A : Option Addr} {l : List UInt8} (h : Rd w B 1 A n (vbs l)) (hk : k ≤ n) : Rd w B 1 A k (vbs (l.take k)) := by
  have h2 := h.take hk
  rw [Nat.mul_one, vbs_take] at h2
  exact h2

/-- The text of bytes. -/
def txt (l : List UInt8) : ByteArray := ⟨l.toArray⟩
theorem txt_inj {l m : List UInt8} (h : txt l = txt m) : l = m := by simpa [txt] using h
theorem txt_size (l : List UInt8) : (txt l).size = l.length := by simp [txt, ByteArray.size]
theorem txt_toList (l : List UInt8) : (txt l).data.toList = l := by simp [txt]
theorem txt_of (s : ByteArray) : txt s.data.toList = s := by simp [txt]

theorem bytes_back (l : List UInt8) : (l.map fun b => (b.toNat : Int)).map (fun n => UInt8.ofNat n.toNat) = l := by
  induction l with
  | nil => rfl
  | cons b r ih => simp only [List.map_cons, ih]; simp

/-- string(b): the text of the bytes that are seen. -/
theorem run_txt {P : Program} (w : World) (B : Nat) (src dst e : TypeId) (A : Option Addr) (n c : Nat) (l : List UInt8) (hs : P.underlying src = some (.slice e)) (he : P.underlying e = some (.int .u8))
    (hd : P.underlying dst = some .string) (h : Rd w B 1 A n (vbs l)) : (convert src dst (.slice A n c)).run P w = .ok (.string (txt l)) w := by
  rw [run_convert_bytes_string w src dst e _ n c hs he hd]
  cases A with
  | none =>
    have hl : l = [] := by
      cases l with
      | nil => rfl
      | cons b r =>
        obtain ⟨a, ha, _⟩ := h.2 0 (vb b) (by simp [vbs])
        cases ha
    subst hl
    simp [Conv.bytesToString, txt]
    rfl
  | some a =>
    have hl : (loadCells a n).run P w = .ok ((l.map fun b => (b.toNat : Int)).map (Value.int .u8)).toArray w := by
      have h1 := run_loadCells_list (P := P) w a (vbs l) (fun j v hj => by
        obtain ⟨a', ha, _, hc⟩ := h.2 j v hj
        injection ha with ha
        subst ha
        exact hc)
      have h2 : (vbs l).length = n := h.len
      rw [h2] at h1
      rw [h1]
      simp [vbs, vb]
    rw [run_bytesToString w a n c _ hl, foldl_push_bytes]
    rw [bytes_back]
    simp [txt, ByteArray.empty, ByteArray.emptyWithCapacity]
    rfl
end Go.Proofs.Ytnkmpcepdjjopaa
