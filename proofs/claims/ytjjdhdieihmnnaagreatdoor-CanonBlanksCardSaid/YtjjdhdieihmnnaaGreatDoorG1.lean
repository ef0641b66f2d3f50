import Derived.Test.YtjjdhdieihmnnaaGreatDoorRows
import Derived.WalkKit
import Derived.WalkSpells
import Derived.WalkLawsBesides
import Derived.Maps.AppendAt
import Derived.Laws.CopyOwn
import Derived.Deep.AppendLies
import Derived.Deep.Draws
import Derived.Outline
import Derived.ProofKit
import Derived.OpenShut
import Derived.ShutString
import Derived.ChangeOld
import Derived.Below
import Derived.SizedLaws
import Derived.JoinedCond
import Derived.SliceStrings
import Derived.Deep.DeepHandedRow
import Derived.Lib.LaidTab
import Derived.Lib.AppendStr
import Derived.Laws.OwnMore
import Derived.BigQuiet
import Derived.Deep.QuietTactic
import Derived.Deep.DeepCutAuto
import Derived.Deep.RegionLaw
import Derived.Deep.RegionHeld3
set_option linter.unusedSimpArgs false
set_option linter.unusedVariables false
set_option linter.unusedSectionVars false
/-
  Words for memory that all proofs of this family share: which cells a slice value shows, which slice values own a block of the call's own, and which blocks a step may have turned. No program is named here.
-/
namespace Go.Proofs.YtjjdhdieihmnnaaGreatDoor
open Go.RowKit

/-- A fact put out of the walk's sight. -/
theorem hid {p : Prop} (h : p) : Hid p := h

/-- The block to which a slice's address leads. -/
def blk : Option Addr → Option Nat
  | some a => some a.block
  | none => none

/-- The cells xs are seen through the slice value (A, n): elements of sz cells each; all in blocks below B. -/
def Rd (w : World) (B sz : Nat) (A : Option Addr) (n : Nat) (xs : List Value) : Prop :=
  xs.length = n * sz ∧ ∀ k u, xs[k]? = some u → ∃ a, A = some a ∧ a.block < B ∧ w.cell? (a.add k) = some u

/-- The slice value (A, n, c) is nil, or stands at the head of a block from 'base' on that is the call's own. -/
def Own (w : World) (base : Nat) (E : TypeId) (sz : Nat) (A : Option Addr) (n c : Nat) (xs : List Value) : Prop :=
  w.ownsRow base E sz (.slice A n c) n xs

/-- From w to w' nothing has turned but blocks that are new, and block 'row'. -/
def Turn (w w' : World) (row : Option Nat) : Prop := w.grownBy w' row

theorem addr_block (a : Addr) (k : Nat) : (a.add k).block = a.block := by
  unfold Addr.add
  split <;> rfl
theorem addr_add (a : Addr) (i j : Nat) : (a.add i).add j = a.add (i + j) := by
  unfold Addr.add
  by_cases hi : i = 0
  · simp [hi]
  · by_cases hj : j = 0
    · simp [hi, hj]
    · have h : ¬ (i + j = 0) := by omega
      simp only [hi, hj, h, if_false]
      simp

section
variable {w w' w2 : World} {B B' base sz n c : Nat} {E : TypeId} {A : Option Addr} {xs ys : List Value} {row : Option Nat}

theorem Turn.size (h : Turn w w' row) : w.heap.size ≤ w'.heap.size := World.grownBy.size h
theorem Turn.refl (w : World) (row : Option Nat) : Turn w w row := World.grownBy.refl w row
theorem Turn.trans (h : Turn w w' row) (k : Turn w' w2 row) : Turn w w2 row := World.grownBy.trans h k
theorem Turn.any (h : Turn w w' none) (row : Option Nat) : Turn w w' row := ⟨h.os, h.tape, h.output, h.size, fun k hk _ => h.block k hk (by simp)⟩
/-- A block that was not there when the whole began is not seen from there. -/
theorem Turn.new {row' : Option Nat} (h : Turn w w' row) (k : Turn w' w2 row') (hr : ∀ g, row' = some g → w.heap.size ≤ g) : Turn w w2 row :=
  ⟨World.grownBy.os k ▸ World.grownBy.os h ▸ rfl, World.grownBy.tape k ▸ World.grownBy.tape h ▸ rfl, World.grownBy.output k ▸ World.grownBy.output h ▸ rfl,
    Nat.le_trans h.size k.size, fun i hi hne => (World.grownBy.block k i (Nat.lt_of_lt_of_le hi h.size) (fun e => by have := hr i e.symm; omega)).trans (World.grownBy.block h i hi hne)⟩
theorem Turn.alloc (h : Turn w w' row) (o : Obj) : Turn w (w'.alloc o) row := h.new (World.grownBy_alloc w' o none) (by simp)
theorem Turn.drew (h : Turn w w' row) : Turn w w'.drew row := ⟨h.os, h.tape, h.output, h.size, h.block⟩
theorem Turn.drewN (h : Turn w w' row) (k : Nat) : Turn w (w'.drewN k) row := ⟨h.os, h.tape, h.output, h.size, h.block⟩
theorem Turn.undrew (h : Turn w.drew w' row) : Turn w w' row := ⟨h.os, h.tape, h.output, h.size, h.block⟩
theorem Turn.undrewN {k : Nat} (h : Turn (w.drewN k) w' row) : Turn w w' row := ⟨h.os, h.tape, h.output, h.size, h.block⟩
theorem Turn.below (h : Turn w w' none) : Below w.heap.size w w' := ⟨h.os, h.tape, h.output, h.size, fun k hk => h.block k hk (by simp)⟩
theorem Turn.cell (h : Turn w w' row) {a : Addr} (ha : a.block < w.heap.size) (hne : some a.block ≠ row) : w'.cell? a = w.cell? a :=
  World.cell?_of_block (World.grownBy.block h a.block ha hne)
theorem Turn.setCell {g i : Nat} (h : Turn w w' (some g)) (u : Value) : Turn w (w'.setCell ⟨g, i, none⟩ u) (some g) :=
  h.trans ⟨rfl, rfl, rfl, by simp [World.setCell], fun k _ hk => Below.heap_setCell _ _ _ _ (fun e => hk (by simp [e]))⟩

theorem Rd.len (h : Rd w B 1 A n xs) : xs.length = n := by have := h.1; omega
theorem Rd.none_ (w : World) (B sz _c : Nat) : Rd w B sz A 0 [] := ⟨by simp, fun k u h => by simp at h⟩
theorem Rd.at_ {k : Nat} (h : Rd w B sz A n xs) (hk : k < n * sz) : ∃ a u, A = some a ∧ a.block < B ∧ xs[k]? = some u ∧ w.cell? (a.add k) = some u := by
  have hl : k < xs.length := by have := h.1; omega
  obtain ⟨a, h1, h2, h3⟩ := h.2 k xs[k] (List.getElem?_eq_getElem hl)
  exact ⟨a, xs[k], h1, h2, List.getElem?_eq_getElem hl, h3⟩
/-- The first cell's place, and the others behind it. -/
theorem Rd.head (h : Rd w B sz A n xs) (hn : 0 < n * sz) : ∃ b off, A = some ⟨b, off, none⟩ ∧ b < B ∧ ∀ k u, xs[k]? = some u → w.cell? ⟨b, off + k, none⟩ = some u := by
  obtain ⟨a, u, rfl, hb, h0, hc⟩ := h.at_ hn
  have hs : a.spot = none := by
    unfold Addr.add at hc
    simp only [if_true, World.cell?] at hc
    cases ha : a.spot with
    | none => rfl
    | some s =>
      rw [ha] at hc
      split at hc <;> simp at hc
  obtain ⟨b, off, s⟩ := a
  simp only at hs
  subst hs
  refine ⟨b, off, rfl, hb, fun k v hv => ?_⟩
  obtain ⟨a', ha, _, hc'⟩ := h.2 k v hv
  injection ha with ha
  subst ha
  have e : (⟨b, off, none⟩ : Addr).add k = ⟨b, off + k, none⟩ := by
    unfold Addr.add
    split
    · rename_i h0; subst h0; rfl
    · rfl
  rw [← e]
  exact hc'
theorem Rd.mono (h : Rd w B sz A n xs) (hB : B ≤ B') : Rd w B' sz A n xs :=
  ⟨h.1, fun k u hu => by
    obtain ⟨a, h1, h2, h3⟩ := h.2 k u hu
    exact ⟨a, h1, by omega, h3⟩⟩
theorem Rd.keep (h : Rd w B sz A n xs) (hk : ∀ a : Addr, A = some a → a.block < B → ∀ k, w'.cell? (a.add k) = w.cell? (a.add k)) : Rd w' B sz A n xs :=
  ⟨h.1, fun k u hu => by
    obtain ⟨a, h1, h2, h3⟩ := h.2 k u hu
    exact ⟨a, h1, h2, (hk a h1 h2 k).trans h3⟩⟩
theorem Rd.drew (h : Rd w B sz A n xs) : Rd w.drew B sz A n xs := h
theorem Rd.drewN (h : Rd w B sz A n xs) (k : Nat) : Rd (w.drewN k) B sz A n xs := h
theorem Rd.turn (h : Rd w B sz A n xs) (ht : Turn w w' row) (hB : B ≤ w.heap.size) (hr : ∀ g, row = some g → B ≤ g) : Rd w' B sz A n xs :=
  h.keep fun a _ hb k => ht.cell (by rw [addr_block]; omega) (by rw [addr_block]; intro e; have := hr _ e.symm; omega)
theorem Rd.turn0 (h : Rd w B sz A n xs) (ht : Turn w w' none) (hB : B ≤ w.heap.size) : Rd w' B sz A n xs := h.turn ht hB (by simp)
/-- What is read lies in another block than the one that turned. -/
theorem Rd.turnNe (h : Rd w B sz A n xs) (ht : Turn w w' row) (hB : B ≤ w.heap.size) (hr : row = none ∨ blk A ≠ row) : Rd w' B sz A n xs :=
  h.keep fun a ha hb k => ht.cell (by rw [addr_block]; omega) (by
    rw [addr_block]
    intro e
    rcases hr with hr | hr
    · rw [hr] at e; cases e
    · exact hr (by rw [ha]; exact e))
theorem Rd.alloc (h : Rd w B sz A n xs) (hB : B ≤ w.heap.size) (o : Obj) : Rd (w.alloc o) B sz A n xs := h.turn0 (World.grownBy_alloc w o none) hB
theorem Rd.below (h : Rd w B sz A n xs) (hb : Below B w w') : Rd w' B sz A n xs := h.keep fun a _ hlt k => hb.cell (by rw [addr_block]; exact hlt)
/-- A piece of a slice, as the model writes its address. -/
theorem Rd.cut (h : Rd w B sz A n xs) {k : Nat} (hk : k ≤ n) (hc : n ≤ c) :
    Rd w B sz (if c = k then A else A.map (·.add (k * sz))) (n - k) (xs.drop (k * sz)) := by
  refine ⟨by rw [List.length_drop, h.1, Nat.sub_mul], fun j u hu => ?_⟩
  rw [List.getElem?_drop] at hu
  obtain ⟨a, h1, h2, h3⟩ := h.2 _ u hu
  have hlt : k * sz + j < n * sz := by
    have := (List.getElem?_eq_some_iff.1 hu).1
    rw [h.1] at this
    exact this
  have hne : ¬ c = k := by
    intro e
    have : n ≤ k := by omega
    have := Nat.mul_le_mul_right sz this
    omega
  rw [if_neg hne, h1]
  exact ⟨_, rfl, by rw [addr_block]; exact h2, by rw [addr_add]; exact h3⟩
theorem Rd.take (h : Rd w B sz A n xs) {k : Nat} (hk : k ≤ n) : Rd w B sz A k (xs.take (k * sz)) := by
  refine ⟨by rw [List.length_take, h.1]; exact Nat.min_eq_left (Nat.mul_le_mul_right sz hk), fun j u hu => ?_⟩
  rw [List.getElem?_take] at hu
  split at hu
  · exact h.2 j u hu
  · cases hu

theorem Own.len (h : Own w base E 1 A n c xs) : xs.length = n := by have := h.1; omega
theorem Own.len_ (h : Own w base E sz A n c xs) : xs.length = n * sz := h.1
theorem Own.cap (h : Own w base E sz A n c xs) : n ≤ c ∧ c ≤ maxLen := by
  rcases h.2 with ⟨e, rfl⟩ | ⟨g, cap, cur, e, _, _, h1, h2, _⟩
  · injection e with _ _ e; subst e; simp
  · injection e with _ _ e; subst e; exact ⟨h1, h2⟩
theorem Own.block (h : Own w base E sz A n c xs) : ∀ g, blk A = some g → base ≤ g ∧ g < w.heap.size := by
  intro g hg
  cases A with
  | none => simp [blk] at hg
  | some a => exact World.ownsRow.lt h g (by simpa [blk, Value.ownBlock] using hg)
theorem Own.rd (h : Own w base E sz A n c xs) : Rd w w.heap.size sz A n xs := by
  refine ⟨h.1, fun k u hu => ?_⟩
  have hl : k < xs.length := (List.getElem?_eq_some_iff.1 hu).1
  have hn : 0 < n := by
    rcases Nat.eq_zero_or_pos n with e | e
    · have := h.1; rw [e] at this; simp at this; subst this; simp at hl
    · exact e
  obtain ⟨g, cap, hv, _, hlt⟩ := World.ownsRow.form h hn
  injection hv with hA
  subst hA
  exact ⟨_, rfl, hlt, World.ownsRow.cells h (g := g) rfl k u hu⟩
theorem Own.turn (h : Own w base E sz A n c xs) (ht : Turn w w' row) (hr : row = none ∨ blk A ≠ row) : Own w' base E sz A n c xs := by
  refine World.ownsRow.kept h ht ?_
  have e : (Value.slice A n c).ownBlock = blk A := by cases A <;> rfl
  rw [e]
  rcases hr with rfl | hr
  · cases blk A <;> simp
  · exact .inr hr
theorem Own.turn0 (h : Own w base E sz A n c xs) (ht : Turn w w' none) : Own w' base E sz A n c xs := h.turn ht (.inl rfl)
theorem Own.alloc (h : Own w base E sz A n c xs) (o : Obj) : Own (w.alloc o) base E sz A n c xs := World.ownsRow.alloc h o
theorem Own.drew (h : Own w base E sz A n c xs) : Own w.drew base E sz A n c xs := h
theorem Own.drewN (h : Own w base E sz A n c xs) (k : Nat) : Own (w.drewN k) base E sz A n c xs := h
theorem Own.mono (h : Own w base E sz A n c xs) (hb : B ≤ base) : Own w B E sz A n c xs := by
  obtain ⟨h1, h2⟩ := h
  refine ⟨h1, ?_⟩
  rcases h2 with h2 | ⟨g, cap, cur, hv, hg, r⟩
  · exact .inl h2
  · exact .inr ⟨g, cap, cur, hv, by omega, r⟩
theorem Own.nil (w : World) (base : Nat) (E : TypeId) (sz : Nat) : Own w base E sz none 0 0 [] := World.ownsRow_nil w base E sz
theorem Own.made (w : World) (base : Nat) (E : TypeId) (sz c : Nat) (cs : Array Value) (hb : base ≤ w.heap.size) (hm : c ≤ maxLen) (hs : cs.size = c * sz) :
    Own (w.alloc (.cells cs E)) base E sz (some ⟨w.heap.size, 0, none⟩) 0 c [] := World.ownsRow_made w cs c hb hm hs
theorem Own.full (w : World) (base : Nat) (E : TypeId) (sz n c : Nat) (cs : Array Value) (hb : base ≤ w.heap.size) (hm : c ≤ maxLen) (hn : n ≤ c) (hs : cs.size = c * sz) :
    Own (w.alloc (.cells cs E)) base E sz (some ⟨w.heap.size, 0, none⟩) n c (cs.toList.take (n * sz)) := by
  refine ⟨?_, .inr ⟨w.heap.size, c, cs, rfl, hb, heap_alloc_new w _, hn, hm, hs, rfl⟩⟩
  rw [List.length_take, Array.length_toList, hs]
  exact Nat.min_eq_left (Nat.mul_le_mul_right sz hn)
end

section
variable {w w' w2 : World} {base sz n c i : Nat} {E : TypeId} {A A2 A3 : Option Addr} {xs : List Value}
/-- From w to w' the row of A may have turned, and what is new; A2 stands for A now. -/
def Grow (w w' : World) (A A2 : Option Addr) : Prop := Turn w w' (blk A) ∧ (blk A2 = blk A ∨ ∃ g, blk A2 = some g ∧ w.heap.size ≤ g)
theorem Grow.refl (w : World) (A : Option Addr) : Grow w w A A := ⟨Turn.refl w _, .inl rfl⟩
theorem Grow.trans (h : Grow w w' A A2) (k : Grow w' w2 A2 A3) : Grow w w2 A A3 := by
  obtain ⟨h1, h2⟩ := h
  obtain ⟨k1, k2⟩ := k
  refine ⟨?_, ?_⟩
  · rcases h2 with h2 | ⟨g, h2, h3⟩
    · rw [h2] at k1; exact h1.trans k1
    · exact h1.new k1 (fun g' e => by rw [h2] at e; injection e with e; omega)
  · rcases k2 with k2 | ⟨g, k2, k3⟩
    · rw [k2]; exact h2
    · exact .inr ⟨g, k2, Nat.le_trans h1.size k3⟩
theorem Grow.alloc (h : Grow w w' A A2) (o : Obj) : Grow w (w'.alloc o) A A2 := ⟨h.1.alloc o, h.2⟩
theorem Grow.step (h : Grow w w' A A2) (k : Turn w' w2 (blk A2)) (e : blk A3 = blk A2 ∨ blk A3 = some w'.heap.size) : Grow w w2 A A3 :=
  h.trans ⟨k, e.imp id fun e => ⟨_, e, Nat.le_refl _⟩⟩
/-- Seen from a world in which A's row was not yet there, nothing has turned. -/
theorem Grow.fresh {w0 : World} (h : Grow w w' A A2) (k : Turn w0 w none) (hb : ∀ g, blk A = some g → w0.heap.size ≤ g) : Turn w0 w' none := k.new h.1 hb

theorem Own.head (h : Own w base E sz A n c xs) (hn : 0 < n) : ∃ g, A = some ⟨g, 0, none⟩ ∧ base ≤ g ∧ g < w.heap.size := by
  obtain ⟨g, cap, hv, h1, h2⟩ := World.ownsRow.form h hn
  injection hv with hA
  exact ⟨g, hA, h1, h2⟩
theorem Own.cell {g : Nat} (h : Own w base E sz (some ⟨g, 0, none⟩) n c xs) (hi : i < n * sz) : w.cell? ⟨g, i, none⟩ = xs[i]? := World.ownsRow.cellAt h i hi
theorem Own.frozen {g : Nat} (h : Own w base E sz (some ⟨g, 0, none⟩) n c xs) (i : Nat) : w.frozen? ⟨g, i, none⟩ = false := World.ownsRow.frozenAt h i
theorem Own.store {g : Nat} (h : Own w base E sz (some ⟨g, 0, none⟩) n c xs) (i : Nat) (u : Value) : Own (w.setCell ⟨g, i, none⟩ u) base E sz (some ⟨g, 0, none⟩) n c (xs.set i u) :=
  (World.ownsRow.stored h i u).1
theorem Own.storeTurn {g : Nat} (h : Own w base E sz (some ⟨g, 0, none⟩) n c xs) (i : Nat) (u : Value) : Turn w (w.setCell ⟨g, i, none⟩ u) (some g) :=
  (World.ownsRow.stored h i u).2
end

/-- Block g is just these cells, none frozen. -/
def Blk (w : World) (g : Nat) (t : TypeId) (cs : Array Value) : Prop := w.heap[g]? = some (.cells cs t (0, 0))
section
variable {w w' : World} {g : Nat} {t : TypeId} {cs : Array Value} {row : Option Nat}
theorem Blk.lt (h : Blk w g t cs) : g < w.heap.size := (Array.getElem?_eq_some_iff.1 h).1
theorem Blk.cell (h : Blk w g t cs) (i : Nat) : w.cell? ⟨g, i, none⟩ = cs[i]? := cell_of_row w g i cs t (0, 0) h
theorem Blk.frozen (h : Blk w g t cs) (i : Nat) : w.frozen? ⟨g, i, none⟩ = false := frozen_of_row w g i cs t h
theorem Blk.new (w : World) (t : TypeId) (cs : Array Value) : Blk (w.alloc (.cells cs t)) w.heap.size t cs := heap_alloc_new w _
theorem Blk.turn (h : Blk w g t cs) (ht : Turn w w' row) (hr : some g ≠ row) : Blk w' g t cs := (World.grownBy.block ht g h.lt hr).trans h
theorem Blk.turn0 (h : Blk w g t cs) (ht : Turn w w' none) : Blk w' g t cs := h.turn ht (by simp)
theorem Blk.store (h : Blk w g t cs) (i : Nat) (u : Value) : Blk (w.setCell ⟨g, i, none⟩ u) g t (cs.setIfInBounds i u) := heap_setCell_same w g i cs t u h
theorem Blk.drew (h : Blk w g t cs) : Blk w.drew g t cs := h
theorem Blk.drewN (h : Blk w g t cs) (n : Nat) : Blk (w.drewN n) g t cs := h
theorem Blk.alloc (h : Blk w g t cs) (o : Obj) : Blk (w.alloc o) g t cs := h.turn0 (World.grownBy_alloc w o none)
theorem Blk.set_ (h : Blk w g t cs) (i : Nat) (u : Value) : Blk (w.setCell ⟨g, i, none⟩ u) g t (cs.setIfInBounds i u) := by
  unfold Blk at h ⊢
  simp [World.setCell, Array.getElem?_modify, h]
theorem Blk.setTurn (w : World) (g i : Nat) (u : Value) : Turn w (w.setCell ⟨g, i, none⟩ u) (some g) :=
  ⟨rfl, rfl, rfl, by simp [World.setCell], fun k _ hk => Below.heap_setCell _ _ _ _ (fun e => hk (by simp [e]))⟩
end

/-! ### Bytes -/
/-- A byte's cell. -/
def vb (b : UInt8) : Value := .int .u8 (b.toNat : Int)
def vbs (l : List UInt8) : List Value := l.map vb
theorem vbs_len (l : List UInt8) : (vbs l).length = l.length := by simp [vbs]
theorem vbs_one (l : List UInt8) : ∀ u ∈ vbs l, u.oneCell' = true := by
  intro u hu
  obtain ⟨b, _, rfl⟩ := List.mem_map.1 hu
  rfl
theorem vbs_append (l m : List UInt8) : vbs (l ++ m) = vbs l ++ vbs m := by simp [vbs]
theorem vbs_take (l : List UInt8) (k : Nat) : (vbs l).take k = vbs (l.take k) := by simp [vbs]
theorem vbs_drop (l : List UInt8) (k : Nat) : (vbs l).drop k = vbs (l.drop k) := by simp [vbs]
theorem vbs_at (l : List UInt8) (k : Nat) (u : Value) : (vbs l)[k]? = some u → ∃ b, l[k]? = some b ∧ u = .int .u8 (b.toNat : Int) := by
  intro h
  simp only [vbs, List.getElem?_map, Option.map_eq_some_iff] at h
  obtain ⟨b, h1, rfl⟩ := h
  exact ⟨b, h1, rfl⟩

theorem Rd.cutB {w : World} {B n c k : Nat} {A : Option Addr} {l : List UInt8} (h : Rd w B 1 A n (vbs l)) (hk : k ≤ n) (hc : n ≤ c) :
    Rd w B 1 (if c = k then A else Option.map (fun a => a.add k) A) (n - k) (vbs (l.drop k)) := by
  have h2 := h.cut (c := c) hk hc
  rw [Nat.mul_one, vbs_drop] at h2
  exact h2
theorem add_flat (b off k : Nat) : (⟨b, off, none⟩ : Addr).add k = ⟨b, off + k, none⟩ := by
  unfold Addr.add
  split
  · rename_i h; subst h; rfl
  · rfl
/-- The tail of bytes, its address written out. -/
theorem Rd.tailB {w : World} {B n c k b off : Nat} {l : List UInt8} (h : Rd w B 1 (some ⟨b, off, none⟩) n (vbs l)) (hk : k ≤ n) (hc : n ≤ c) (hne : ¬ c = k) :
    Rd w B 1 (some ⟨b, off + k, none⟩) (n - k) (vbs (l.drop k)) := by
  have h2 := h.cutB (c := c) hk hc
  rw [if_neg hne, Option.map_some, add_flat] at h2
  exact h2
theorem Rd.takeB {w : World} {B n k : Nat} {A : Option Addr} {l : List UInt8} (h : Rd w B 1 A n (vbs l)) (hk : k ≤ n) : Rd w B 1 A k (vbs (l.take k)) := by
  have h2 := h.take hk
  rw [Nat.mul_one, vbs_take] at h2
  exact h2

/-- The text of bytes. -/
def txt (l : List UInt8) : ByteArray := ⟨l.toArray⟩
theorem txt_inj {l m : List UInt8} (h : txt l = txt m) : l = m := by simpa [txt] using h
theorem txt_size (l : List UInt8) : (txt l).size = l.length := by simp [txt, ByteArray.size]
theorem txt_toList (l : List UInt8) : (txt l).data.toList = l := by simp [txt]
theorem txt_of (s : ByteArray) : txt s.data.toList = s := by simp [txt]

theorem bytes_back (l : List UInt8) : (l.map fun b => (b.toNat : Int)).map (fun n => UInt8.ofNat n.toNat) = l := by
  induction l with
  | nil => rfl
  | cons b r ih => simp only [List.map_cons, ih]; simp

/-- string(b): the text of the bytes that are seen. -/
theorem run_txt {P : Program} (w : World) (B : Nat) (src dst e : TypeId) (A : Option Addr) (n c : Nat) (l : List UInt8) (hs : P.underlying src = some (.slice e)) (he : P.underlying e = some (.int .u8))
    (hd : P.underlying dst = some .string) (h : Rd w B 1 A n (vbs l)) : (convert src dst (.slice A n c)).run P w = .ok (.string (txt l)) w := by
  rw [run_convert_bytes_string w src dst e _ n c hs he hd]
  cases A with
  | none =>
    have hl : l = [] := by
      cases l with
      | nil => rfl
      | cons b r =>
        obtain ⟨a, ha, _⟩ := h.2 0 (vb b) (by simp [vbs])
        cases ha
    subst hl
    simp [Conv.bytesToString, txt]
    rfl
  | some a =>
    have hl : (loadCells a n).run P w = .ok ((l.map fun b => (b.toNat : Int)).map (Value.int .u8)).toArray w := by
      have h1 := run_loadCells_list (P := P) w a (vbs l) (fun j v hj => by
        obtain ⟨a', ha, _, hc⟩ := h.2 j v hj
        injection ha with ha
        subst ha
        exact hc)
      have h2 : (vbs l).length = n := h.len
      rw [h2] at h1
      rw [h1]
      simp [vbs, vb]
    rw [run_bytesToString w a n c _ hl, foldl_push_bytes]
    rw [bytes_back]
    simp [txt, ByteArray.empty, ByteArray.emptyWithCapacity]
    rfl
end Go.Proofs.YtjjdhdieihmnnaaGreatDoor
/-
  From a statement's row to its walk: what arguments that are read as data are in memory, in the words of this family; how great they are.
-/
namespace Go.Proofs.YtjjdhdieihmnnaaGreatDoor
open Go.ChangeShapes Go.WideShapes Go.ChangeAt Go.RowKit
open Go.ChangeMaps (open_string shut_string)

theorem frOwn : ownKnob Tryz.prog.godebug = none := by kernel_rfl
theorem frLaid : laidOutB Tryz.prog = true := by kernel_rfl

section
variable {H : Type} {enc : TypeId × Value → H} {P : Program} {W : World}

/-- What a slice's datum tells of its capacity. -/
def CapIs (d : DataW H) (len cap : Nat) : Prop := (d = .nil ∧ len = 0 ∧ cap = 0) ∨ ∃ es sp, d = .slice es sp ∧ es.length = len ∧ es.length + sp.length = cap

theorem open_bytes {t e : TypeId} (ht : P.underlying t = some (.slice e)) (he : P.underlying e = some (.int .u8)) (hc : P.cellsOf e = 1) {a : Option Addr} {len cap : Nat} {d : DataW H} {p : List MemPlace}
    (h : DataW.Trod enc P W 0 (fun _ => true) true t (.slice a len cap) d p) : ∃ l : List UInt8, Rd W W.heap.size 1 a len (vbs l) ∧ len ≤ cap ∧ cap ≤ maxLen ∧ CapIs d len cap := by
  obtain ⟨fuel, hf⟩ := h
  rcases open_ints ht he hc hf with ⟨hcs, hx⟩ | ⟨x, l, c, zs, hcs, _, hl, hm, hz, hx, hcell, hwz⟩
  · simp [Value.cells] at hcs
    obtain ⟨rfl, rfl, rfl⟩ := hcs
    injection hx with hx _
    exact ⟨[], Rd.none_ W _ 1 0, Nat.le_refl _, Nat.zero_le _, .inl ⟨hx, rfl, rfl⟩⟩
  · simp [Value.cells] at hcs
    obtain ⟨rfl, rfl, rfl⟩ := hcs
    simp only [if_true] at hz
    injection hx with hx _
    refine ⟨(zs.take len).map fun n => UInt8.ofNat n.toNat, ⟨by simp [vbs, hz]; omega, fun k u hu => ?_⟩, hl, hm, .inr ⟨_, _, hx, ?_, ?_⟩⟩
    · obtain ⟨b, hb, rfl⟩ := vbs_at _ _ _ hu
      simp only [List.getElem?_map, Option.map_eq_some_iff] at hb
      obtain ⟨n, hn, rfl⟩ := hb
      have hk : k < len := by
        have := (List.getElem?_eq_some_iff.1 hn).1
        rw [List.length_take] at this
        omega
      rw [List.getElem?_take_of_lt hk] at hn
      have hmem : n ∈ zs := List.mem_of_getElem? hn
      have hw := hwz n hmem
      have hb2 : 0 ≤ n ∧ n ≤ 255 := by simpa [Lit.wf, IntKind.min, IntKind.max, IntKind.signed, IntKind.bits] using hw
      have hc2 := hcell k (by omega)
      have hget : zs.getD k 0 = n := by simp [List.getD, hn]
      rw [hget] at hc2
      have hcast : ((UInt8.ofNat n.toNat).toNat : Int) = n := by
        rw [UInt8.toNat_ofNat']
        omega
      rw [hcast]
      exact ⟨x, rfl, by have := World.block_lt_of_cell? W _ hc2; rwa [addr_block] at this, hc2⟩
    · simp [lits, hz]; omega
    · simp only [lits, List.length_map, List.length_take, List.length_drop, hz]; omega

/-- An array of two, of elements of one cell, by value. -/
theorem open_arr2 {r : Reach} {b0 : Nat} {t e : TypeId} {v : Value} {d : DataW H} {p : List MemPlace} (ht : P.underlying t = some (.array 2 e)) (hce : P.cellsOf e = 1) (hC : P.cellsOf t = 2)
    (hv : Value.okWide P W r b0 t v) (h : DataW.Trod enc P W 0 (fun _ => true) true t v d p) :
    ∃ (v0 v1 : Value) (y0 y1 : DataW H × List MemPlace) (n : Nat), v = .agg #[v0, v1] ∧ d = .agg [y0.1, y1.1] ∧ p = y0.2 ++ y1.2 ∧
      DataW.trod enc P W 0 (fun _ => true) true n e [v0] = some y0 ∧ DataW.trod enc P W 0 (fun _ => true) true n e [v1] = some y1 := by
  simp only [Value.okWide, ht] at hv
  obtain ⟨cs, rfl, h2, _⟩ := hv
  have hl : cs.toList.length = 2 := by rw [Array.length_toList]; exact h2.trans hC
  obtain ⟨c0, c1, hcs⟩ : ∃ c0 c1, cs.toList = [c0, c1] := by
    match cs.toList, hl with
    | [a, b], _ => exact ⟨a, b, rfl⟩
  obtain rfl : cs = #[c0, c1] := by rw [← Array.toList_inj]; exact hcs
  obtain ⟨fuel, hf⟩ := h
  cases fuel with
  | zero => simp [DataW.trod] at hf
  | succ n =>
    unfold DataW.trod at hf
    rw [ht] at hf
    have r2 : List.range 2 = [0, 1] := rfl
    simp [r2, hce, Value.cells] at hf
    cases h0 : DataW.trod enc P W 0 (fun _ => true) true n e [c0] with
    | none => simp [h0] at hf
    | some y0 =>
      cases h1 : DataW.trod enc P W 0 (fun _ => true) true n e [c1] with
      | none => simp [h0, h1] at hf
      | some y1 =>
        simp [h0, h1] at hf
        exact ⟨c0, c1, y0, y1, n, rfl, hf.2.1.symm, hf.2.2.symm, h0, h1⟩

theorem open_strs {t e : TypeId} (ht : P.underlying t = some (.slice e)) (he : P.underlying e = some .string) (hc : P.cellsOf e = 1) {a : Option Addr} {len cap : Nat} {d : DataW H} {p : List MemPlace}
    (h : DataW.Trod enc P W 0 (fun _ => true) true t (.slice a len cap) d p) : ∃ ss : List ByteArray, Rd W W.heap.size 1 a len (ss.map Value.string) ∧ len ≤ cap ∧ cap ≤ maxLen ∧ (∀ s ∈ ss, s.size ≤ maxLen) ∧
      ((d = .nil ∧ len = 0 ∧ cap = 0) ∨ ∃ sp, d = .slice (strs ss) sp ∧ ss.length = len ∧ ss.length + sp.length = cap) := by
  obtain ⟨fuel, hf⟩ := h
  rcases open_strings ht he hc hf with ⟨hcs, hx⟩ | ⟨x, l, c, zs, hcs, _, hl, hm, hz, hx, hcell, hwz⟩
  · simp [Value.cells] at hcs
    obtain ⟨rfl, rfl, rfl⟩ := hcs
    injection hx with hx _
    exact ⟨[], Rd.none_ W _ 1 0, Nat.le_refl _, Nat.zero_le _, by simp, .inl ⟨hx, rfl, rfl⟩⟩
  · simp [Value.cells] at hcs
    obtain ⟨rfl, rfl, rfl⟩ := hcs
    simp only [if_true] at hz
    injection hx with hx _
    refine ⟨zs.take len, ⟨by simp [hz]; omega, fun k u hu => ?_⟩, hl, hm, fun s hs => hwz s (List.mem_of_mem_take hs), .inr ⟨_, hx, ?_, ?_⟩⟩
    · simp only [List.getElem?_map, Option.map_eq_some_iff] at hu
      obtain ⟨s, hs, rfl⟩ := hu
      have hk : k < len := by
        have := (List.getElem?_eq_some_iff.1 hs).1
        rw [List.length_take] at this
        omega
      rw [List.getElem?_take_of_lt hk] at hs
      have hc2 := hcell k (by omega)
      have hget : zs.getD k ByteArray.empty = s := by simp [List.getD, hs]
      rw [hget] at hc2
      exact ⟨x, rfl, by have := World.block_lt_of_cell? W _ hc2; rwa [addr_block] at this, hc2⟩
    · rw [List.length_take, hz]; omega
    · simp only [strs, List.length_map, List.length_take, List.length_drop, hz]; omega

/-- The reach, of a slice. -/
theorem cap_reach {ts : List TypeId} {ds : List (DataW H)} (h : (DataW.weightsEach P ts ds).all (· ≤ reachBytes) = true) {j : Nat} {t e : TypeId} {d : DataW H} {len cap by_ : Nat} (ht : ts[j]? = some t) (hd : ds[j]? = some d)
    (hu : P.underlying t = some (.slice e)) (hb : P.bytesOf e = by_) (hc : CapIs d len cap) : cap * by_ ≤ 140737488351232 := by
  rcases hc with ⟨_, _, rfl⟩ | ⟨es, sp, rfl, _, rfl⟩
  · simp
  · have := sized_slice h ht hd hu
    rw [hb] at this
    exact this
theorem str_reach {ts : List TypeId} {ds : List (DataW H)} (h : (DataW.weightsEach P ts ds).all (· ≤ reachBytes) = true) {j : Nat} {t : TypeId} {s : ByteArray} (ht : ts[j]? = some t) (hd : ds[j]? = some (.lit (.string s.data.toList))) : s.size ≤ 140737488351232 := by
  have h1 := sized_string h ht hd
  rw [Array.length_toList] at h1
  exact h1

/-- The second form's bound. -/
theorem bulk_part {d : DataW H} {l : List (DataW H)} (h : d ∈ l) : Rows.uptoBulk d ≤ Rows.uptoBulkAll l := by
  induction l with
  | nil => cases h
  | cons x r ih =>
    simp only [Rows.uptoBulkAll]
    rcases List.mem_cons.1 h with e | e
    · subst e; omega
    · have := ih e; omega
theorem bulk_pos (d : DataW H) : 1 ≤ Rows.uptoBulk d := by
  cases d with
  | lit l => cases l <;> simp [Rows.uptoBulk]
  | nil => simp [Rows.uptoBulk]
  | ptr d => simp [Rows.uptoBulk]
  | slice elems spare => simp [Rows.uptoBulk]
  | agg parts => simp [Rows.uptoBulk]
  | iface t d => simp [Rows.uptoBulk]
  | map entries => simp [Rows.uptoBulk]
  | held h => simp [Rows.uptoBulk]
theorem bulk_len (l : List (DataW H)) : l.length ≤ Rows.uptoBulkAll l := by
  induction l with
  | nil => simp [Rows.uptoBulkAll]
  | cons x r ih => have := bulk_pos x; simp only [Rows.uptoBulkAll, List.length_cons]; omega
theorem bulk_all {l : List (DataW H)} (hk : Rows.uptoSmall H l = true) : Rows.uptoBulkAll l ≤ 1048576 := of_decide_eq_true hk
theorem bulk_cap {l : List (DataW H)} {d : DataW H} {len cap : Nat} (hk : Rows.uptoSmall H l = true) (hd : d ∈ l) (hc : CapIs d len cap) : cap ≤ 1048576 := by
  have h1 := bulk_all hk
  have h2 := bulk_part hd
  rcases hc with ⟨_, _, rfl⟩ | ⟨es, sp, rfl, _, rfl⟩
  · omega
  · have h3 := bulk_len es
    have h4 := bulk_len sp
    simp only [Rows.uptoBulk] at h2
    omega
theorem bulk_str {l : List (DataW H)} {s : ByteArray} (hk : Rows.uptoSmall H l = true) (hd : DataW.lit (.string s.data.toList) ∈ l) : s.size ≤ 1048576 := by
  have h1 := bulk_all hk
  have h2 := bulk_part hd
  simp only [Rows.uptoBulk, Array.length_toList] at h2
  have e : s.data.size = s.size := rfl
  omega
/-- Texts: how many bytes they have together. -/
def sumLen (ss : List ByteArray) : Nat := (ss.map (·.size)).sum
theorem bulk_strs {l : List (DataW H)} {d : DataW H} {ss : List ByteArray} {len cap : Nat} (hk : Rows.uptoSmall H l = true) (hd : d ∈ l)
    (hc : (d = .nil ∧ len = 0 ∧ cap = 0) ∨ ∃ sp, d = .slice (strs ss) sp ∧ ss.length = len ∧ ss.length + sp.length = cap) (hl : ss.length = len) : sumLen ss + ss.length ≤ 1048576 := by
  have h1 := bulk_all hk
  have h2 := bulk_part hd
  rcases hc with ⟨_, h0, rfl⟩ | ⟨sp, rfl, _, rfl⟩
  · have : ss = [] := List.eq_nil_of_length_eq_zero (by omega)
    subst this
    simp [sumLen]
  · have h3 : ∀ ss : List ByteArray, Rows.uptoBulkAll (strs (H := H) ss) = sumLen ss + ss.length := by
      intro ss
      induction ss with
      | nil => simp [strs, Rows.uptoBulkAll, sumLen]
      | cons s r ih =>
        have e : strs (H := H) (s :: r) = .lit (.string s.data.toList) :: strs r := rfl
        rw [e, Rows.uptoBulkAll, ih]
        simp only [Rows.uptoBulk, sumLen, List.map_cons, List.sum_cons, List.length_cons, Array.length_toList]
        have e2 : s.data.size = s.size := rfl
        omega
    simp only [Rows.uptoBulk, h3] at h2
    omega
end

theorem bd_u64 {n : Int} (h : (Lit.int .u64 n).wf = true) : 0 ≤ n ∧ n ≤ 18446744073709551615 := by simpa [Lit.wf, IntKind.min, IntKind.max, IntKind.signed, IntKind.bits] using h
theorem bd_u8 {n : Int} (h : (Lit.int .u8 n).wf = true) : 0 ≤ n ∧ n ≤ 255 := by simpa [Lit.wf, IntKind.min, IntKind.max, IntKind.signed, IntKind.bits] using h
theorem bd_u16 {n : Int} (h : (Lit.int .u16 n).wf = true) : 0 ≤ n ∧ n ≤ 65535 := by simpa [Lit.wf, IntKind.min, IntKind.max, IntKind.signed, IntKind.bits] using h
theorem bd_u32 {n : Int} (h : (Lit.int .u32 n).wf = true) : 0 ≤ n ∧ n ≤ 4294967295 := by simpa [Lit.wf, IntKind.min, IntKind.max, IntKind.signed, IntKind.bits] using h
theorem bd_i64 {n : Int} (h : (Lit.int .i64 n).wf = true) : -9223372036854775808 ≤ n ∧ n ≤ 9223372036854775807 := by simpa [Lit.wf, IntKind.min, IntKind.max, IntKind.signed, IntKind.bits] using h
end Go.Proofs.YtjjdhdieihmnnaaGreatDoor
/-
  What package variables hold, read as data: arrays of texts; how long the texts of a list may be. No program is named here.
-/
namespace Go.Proofs.YtjjdhdieihmnnaaGreatDoor
open Go.ChangeShapes Go.WideShapes Go.ChangeAt Go.RowKit

def strData {H : Type} (ss : List (List UInt8)) : DataW H := .agg (ss.map fun s => .lit (.string s))
/-- An array of texts that reads as these holds these. -/
theorem cells_of_strs {H : Type} {enc : TypeId × Value → H} {P : Program} {w : World} {base : Nat} {sp : Nat → Bool} {held : Bool} {fuel : Nat} {t e : TypeId} {n : Nat} {cs : List Value} {ss : List (List UInt8)} {p : List MemPlace}
    (ht : P.underlying t = some (.array n e)) (he : P.underlying e = some .string) (hce : P.cellsOf e = 1) (hct : P.cellsOf t = n)
    (h : DataW.trod enc P w base sp held fuel t cs = some (strData ss, p)) : cs = ss.map fun s => Value.string (txt s) := by
  cases fuel with
  | zero => simp [DataW.trod] at h
  | succ fuel =>
    simp only [DataW.trod, ht, hce, hct, Nat.mul_one] at h
    split at h
    · rename_i hl
      obtain ⟨xs, hm, hx⟩ := Option.map_eq_some_iff.1 h
      have hxs : xs.map (·.1) = ss.map fun s => (DataW.lit (.string s) : DataW H) := by
        have := congrArg Prod.fst hx
        simpa [strData] using this
      have hxl : xs.length = n := by simpa using Lib.mapM_length hm
      have hsl : ss.length = n := by
        have := congrArg List.length hxs
        simp at this
        omega
      apply List.ext_getElem?
      intro i
      by_cases hi : i < n
      · obtain ⟨b, hb, hf⟩ := Lib.mapM_at hm i i (by simp [hi])
        obtain ⟨s, hc, rfl, _⟩ := DataW.trod_string he hf
        have h1 : cs[i]? = some (.string s) := by
          have := congrArg (·[0]?) hc
          simpa [List.getElem?_take, List.getElem?_drop] using this
        have h2 : (xs.map (·.1))[i]? = some (DataW.lit (.string s.data.toList) : DataW H) := by simp [hb]
        rw [hxs] at h2
        simp only [List.getElem?_map, Option.map_eq_some_iff, DataW.lit.injEq, Lit.string.injEq] at h2
        obtain ⟨z', hz', hzz⟩ := h2
        rw [h1, List.getElem?_map, hz', hzz]
        show _ = some (Value.string (txt s.data.toList))
        rw [txt_of]
      · rw [List.getElem?_eq_none (by omega), List.getElem?_eq_none (by simp; omega)]
    · cases h
/-- A world for the witness: the variables' cells as the program lays them. -/
def laidRow (cs : List Value) : Obj → Obj
  | .cells _ t frozen => .cells cs.toArray t frozen
  | o => o
def intRow (k : IntKind) : DataW Unit → List Value
  | .agg l => l.map fun
    | .lit (.int _ n) => .int k n
    | _ => undef
  | _ => []
theorem weights_in {H : Type} {P : Program} {e : TypeId} {d : DataW H} {n : Nat} : ∀ {l : List (DataW H)}, d ∈ l → n ∈ d.weights P e → n ∈ DataW.weightsAll P e l
  | [], hd, _ => by cases hd
  | x :: r, hd, hn => by
    simp only [DataW.weightsAll, List.mem_append]
    rcases List.mem_cons.1 hd with rfl | hd
    · exact .inl hn
    · exact .inr (weights_in hd hn)
/-- The reach, of a list of texts. -/
theorem strs_reach {H : Type} {P : Program} {W : World} {ts : List TypeId} {ds : List (DataW H)} (h : (DataW.weightsEach P ts ds).all (· ≤ reachBytes) = true) {j : Nat} {t e : TypeId} {d : DataW H} {a : Option Addr} {len cap : Nat} {ss : List ByteArray} (ht : ts[j]? = some t) (hd : ds[j]? = some d)
    (hu : P.underlying t = some (.slice e)) (hr : Rd W W.heap.size 1 a len (ss.map Value.string)) (hc : (d = .nil ∧ len = 0 ∧ cap = 0) ∨ ∃ sp, d = .slice (strs ss) sp ∧ ss.length = len ∧ ss.length + sp.length = cap) : (∀ s ∈ ss, s.size ≤ 140737488351232) ∧ cap * P.bytesOf e ≤ 140737488351232 := by
  have hl := hr.1
  rw [List.length_map] at hl
  rcases hc with ⟨_, rfl, rfl⟩ | ⟨sp, rfl, _, rfl⟩
  · have : ss = [] := List.eq_nil_of_length_eq_zero (by omega)
    subst this
    exact ⟨fun s hs => (by cases hs), by simp⟩
  · refine ⟨fun s hs => ?_, ?_⟩
    · have hm : (DataW.lit (.string s.data.toList) : DataW H) ∈ strs ss := List.mem_map.2 ⟨s, hs, rfl⟩
      have hn : s.data.toList.length ∈ (DataW.slice (strs ss) sp : DataW H).weights P t := by
        simp only [DataW.weights, hu, List.mem_cons, List.mem_append]
        refine .inr (.inl ?_)
        exact weights_in hm (by simp [DataW.weights])
      have := List.all_eq_true.1 h _ (DataW.weights_mem_each ht hd _ hn)
      have := of_decide_eq_true this
      rw [Array.length_toList] at this
      exact this
    · have := sized_slice h ht hd hu
      simp only [strs, List.length_map] at this
      exact this
end Go.Proofs.YtjjdhdieihmnnaaGreatDoor
/-
  The walk's laws for append, copy, make and string(bytes), said in the words of the text before. No program is named here.
-/
namespace Go.Proofs.YtjjdhdieihmnnaaGreatDoor
open Go.RowKit

/-- What the type table says of a slice type t: its element type E, of sz cells and by bytes. -/
def El (P : Program) (t E : TypeId) (sz by_ : Nat) : Prop :=
  P.underlying t = some (.slice E) ∧ ∃ i z, P.info? E = some i ∧ i.zero = some z ∧ i.size = sz ∧ i.bytes = by_ ∧ z.cells.size = sz ∧ 0 < sz

theorem El.mk_ {P : Program} {t E : TypeId} {sz by_ : Nat} {z : Value} (ht : P.underlying t = some (.slice E)) (h : (P.info? E).map (fun i => (i.zero, i.size, i.bytes)) = some (some z, sz, by_))
    (hz : z.cells.size = sz) (hs : 0 < sz) : El P t E sz by_ := by
  obtain ⟨i, h1, h2, h3, h4⟩ := info_parts h
  exact ⟨ht, i, z, h1, h2, h3, h4, hz, hs⟩

section
variable {P : Program} {w : World} {ops : Array Oper} {rest : List Oper} {o : Oper} {a : Act} {Q : Exit → Act → World → Prop}

theorem run_app_nil {base sz by_ n c : Nat} {t ty E : TypeId} (he : El P t E sz by_) {A : Option Addr} {xs : List Value} (hown : Own w base E sz A n c xs) (c' : Nat) :
    (Builtin.append_ #[t, t] ty #[.slice A n c, .slice none 0 c']).run P w = .ok (.slice A n c) w := by
  obtain ⟨ht, i, z, hi, hz, hsz, hby, hzs, h0⟩ := he
  rcases hown.2 with ⟨hv, _⟩ | ⟨g, cap, cur, hv, _, _, hnc, _⟩
  · injection hv with h1 h2 h3
    subst h1; subst h2; subst h3
    simp [Builtin.append_, run_underlying ht, sizeOf, typeInfo, hi, Builtin.lenOf, Builtin.firstCells]
  · injection hv with h1 h2 h3
    subst h1; subst h3
    simp [Builtin.append_, run_underlying ht, sizeOf, typeInfo, hi, Builtin.lenOf, Builtin.firstCells, hnc, storeCells]

theorem rd_nil_len {B sz m : Nat} {news : List Value} (hr : Rd w B sz none m news) (hsz : 0 < sz) : m = 0 ∧ news = [] := by
  cases news with
  | nil =>
    have h : m * sz = 0 := by have := hr.1; simpa using this.symm
    refine ⟨?_, rfl⟩
    rcases Nat.mul_eq_zero.1 h with h | h
    · exact h
    · omega
  | cons u r =>
    obtain ⟨x, hx, _⟩ := hr.2 0 u (by simp)
    cases hx

theorem run_app {base sz by_ n c : Nat} {t ty E : TypeId} (he : El P t E sz by_) {A : Option Addr} {xs : List Value} (hown : Own w base E sz A n c xs)
    {B m c' : Nat} {X : Option Addr} {news : List Value} (hr : Rd w B sz X m news) (h1 : ∀ u ∈ news, u.oneCell' = true)
    (h63 : n + m ≤ maxLen) (hby : (n + m) * by_ ≤ 140737488355328) (hbase : base ≤ w.heap.size) :
    ∃ A' c2 w', (Builtin.append_ #[t, t] ty #[.slice A n c, .slice X m c']).run P w = .ok (.slice A' (n + m) c2) w' ∧ Own w' base E sz A' (n + m) c2 (xs ++ news) ∧ Turn w w' (blk A) ∧
      (blk A' = blk A ∨ blk A' = some w.heap.size) := by
  have he' := he
  obtain ⟨ht, i, z, hi, hz, hsz, hb, hzs, h0⟩ := he
  cases X with
  | none =>
    obtain ⟨rfl, rfl⟩ := rd_nil_len hr h0
    exact ⟨A, c, w, run_app_nil he' hown c', by simpa using hown, Turn.refl w _, .inl rfl⟩
  | some ad =>
    obtain ⟨v', w', hrun, ho', hg, _, hblk⟩ := run_append_own_at (P := P) w base t ty E i z sz by_ ht hi hz hsz hb hzs h0 (.slice A n c) n xs hown ad m c' news hr.1 (fun j u hu => by
      obtain ⟨a', ha, _, hc⟩ := hr.2 j u hu
      injection ha with ha
      subst ha
      exact hc) h1 h63 hby hbase
    have eA : ∀ (A : Option Addr) (n c : Nat), (Value.slice A n c).ownBlock = blk A := fun A n c => by cases A <;> rfl
    have hv : ∃ A' c2, v' = .slice A' (n + m) c2 := by
      rcases ho'.2 with ⟨hv, h⟩ | ⟨g, cap, cur, hv, _⟩
      · exact ⟨none, 0, by rw [hv, h]⟩
      · exact ⟨_, _, hv⟩
    obtain ⟨A', c2, rfl⟩ := hv
    rw [eA, eA] at hblk
    rw [eA] at hg
    exact ⟨A', c2, w', hrun, ho', hg, hblk⟩

/-- append(s, x...): s nil or the call's own, x whatever is read. -/
theorem wp_app (hgd : o.guard = none) (s x : Operand) (t : TypeId) (ho : o.op = .call { callee := .builtin .append, args := #[s, x], argTypes := #[t, t] })
    {base sz by_ n c : Nat} {E : TypeId} (he : El P t E sz by_) {A : Option Addr} {xs : List Value} (hs : a.eval s = .slice A n c)
    {B m c' : Nat} {X : Option Addr} {news : List Value} (hx : a.eval x = .slice X m c') (hown : Own w base E sz A n c xs) (hr : Rd w B sz X m news) (h1 : ∀ u ∈ news, u.oneCell' = true)
    (h63 : n + m ≤ maxLen) (hby : (n + m) * by_ ≤ 140737488355328) (hbase : base ≤ w.heap.size)
    (hK : ∀ A' c2 w', Own w' base E sz A' (n + m) c2 (xs ++ news) → Turn w w' (blk A) → (blk A' = blk A ∨ blk A' = some w.heap.size) → wpList P ops Q rest (a.put o.dst (.slice A' (n + m) c2)) w') :
    wpList P ops Q (o :: rest) a w := by
  refine wpList_plain hgd fun K hK2 => ?_
  obtain ⟨A', c2, w', hrun, h2, h3, h4⟩ := run_app (ty := o.type) he hown (c' := c') hr h1 h63 hby hbase
  unfold Oper.wp execOp
  simp only [ho, resolve, invoke, builtin, Sem.run_bind, Sem.run_pure, Result.andThen_ok, List.map_toArray, List.map_cons, List.map_nil, hs, hx, hrun]
  exact hK2 _ _ (hK A' c2 w' h2 h3 h4)

/-- The same, as a step of a region that draws its order. -/
theorem st_app {K : Act → World → Prop} {F : Prop} (hgd : o.guard = none) (s x : Operand) (t : TypeId) (ho : o.op = .call { callee := .builtin .append, args := #[s, x], argTypes := #[t, t] })
    {base sz by_ n c : Nat} {E : TypeId} (he : El P t E sz by_) {A : Option Addr} {xs : List Value} (hs : a.eval s = .slice A n c)
    {B m c' : Nat} {X : Option Addr} {news : List Value} (hx : a.eval x = .slice X m c') (hown : Own w base E sz A n c xs) (hr : Rd w B sz X m news) (h1 : ∀ u ∈ news, u.oneCell' = true)
    (h63 : n + m ≤ maxLen) (hby : (n + m) * by_ ≤ 140737488355328) (hbase : base ≤ w.heap.size)
    (hK : ∀ A' c2 w', Own w' base E sz A' (n + m) c2 (xs ++ news) → Turn w w' (blk A) → (blk A' = blk A ∨ blk A' = some w.heap.size) → K (a.put o.dst (.slice A' (n + m) c2)) w') :
    if Region.wanted o (yielded ops a.tmps) = true then Oper.wp P o a w K Q else F := by
  have hw : Region.wanted o (yielded ops a.tmps) = true := by simp [Region.wanted, hgd]
  rw [if_pos hw]
  obtain ⟨A', c2, w', hrun, h2, h3, h4⟩ := run_app (ty := o.type) he hown (c' := c') hr h1 h63 hby hbase
  unfold Oper.wp execOp
  simp only [ho, resolve, invoke, builtin, Sem.run_bind, Sem.run_pure, Result.andThen_ok, List.map_toArray, List.map_cons, List.map_nil, hs, hx, hrun]
  exact hK A' c2 w' h2 h3 h4

/-- The same where something is there behind it: the value's head is told. -/
theorem wp_app1 (hgd : o.guard = none) (s x : Operand) (t : TypeId) (ho : o.op = .call { callee := .builtin .append, args := #[s, x], argTypes := #[t, t] })
    {base sz by_ n c : Nat} {E : TypeId} (he : El P t E sz by_) {A : Option Addr} {xs : List Value} (hs : a.eval s = .slice A n c)
    {B m c' : Nat} {X : Option Addr} {news : List Value} (hx : a.eval x = .slice X m c') (hown : Own w base E sz A n c xs) (hr : Rd w B sz X m news) (h1 : ∀ u ∈ news, u.oneCell' = true)
    (h63 : n + m ≤ maxLen) (hby : (n + m) * by_ ≤ 140737488355328) (hbase : base ≤ w.heap.size) (hpos : 0 < n + m)
    (hK : ∀ g c2 w', Own w' base E sz (some ⟨g, 0, none⟩) (n + m) c2 (xs ++ news) → Grow w w' A (some ⟨g, 0, none⟩) → wpList P ops Q rest (a.put o.dst (.slice (some ⟨g, 0, none⟩) (n + m) c2)) w') :
    wpList P ops Q (o :: rest) a w :=
  wp_app hgd s x t ho he hs hx hown hr h1 h63 hby hbase fun A' c2 w' h2 h3 h4 => by
    obtain ⟨g, rfl, _, _⟩ := h2.head hpos
    exact hK g c2 w' h2 ⟨h3, h4.imp id fun e => ⟨_, e, Nat.le_refl _⟩⟩

/-- The same of a text: append(b, s...). -/
theorem run_apps {base n c : Nat} {t u ty E : TypeId} (ht : P.underlying t = some (.slice E)) (hu : P.underlying u = some .string) (he : (P.info? E).map (fun i => (i.zero, i.size, i.bytes)) = some (some (.int .u8 0), 1, 1))
    {A : Option Addr} {xs : List Value} (hown : Own w base E 1 A n c xs) (s : ByteArray) (h63 : n + s.size ≤ maxLen) (hby : n + s.size ≤ 140737488355328) (hbase : base ≤ w.heap.size) :
    ∃ A' c2 w', (Builtin.append_ #[t, u] ty #[.slice A n c, .string s]).run P w = .ok (.slice A' (n + s.size) c2) w' ∧ Own w' base E 1 A' (n + s.size) c2 (xs ++ vbs s.data.toList) ∧ Turn w w' (blk A) ∧
      (blk A' = blk A ∨ blk A' = some w.heap.size) := by
  obtain ⟨i, hi, hz, hsz, hb⟩ := info_parts he
  have hsmall : n + s.size ≤ 9223372036854775807 := by simp only [maxLen] at h63; omega
  obtain ⟨v', w', hr, ho, hg, hn⟩ := Lib.run_append_own_string (P := P) w base t u ty E i ht hu hi hz hsz hb (.slice A n c) n xs hown s h63 hby hbase
  have eA : ∀ (A : Option Addr) (n c : Nat), (Value.slice A n c).ownBlock = blk A := fun A n c => by cases A <;> rfl
  have hv : ∃ A' c2, v' = .slice A' (n + s.size) c2 := by
    rcases ho.2 with ⟨hv, h⟩ | ⟨g, cap, cur, hv, _⟩
    · exact ⟨none, 0, by rw [hv, h]⟩
    · exact ⟨_, _, hv⟩
  obtain ⟨A', c2, rfl⟩ := hv
  rw [eA] at hg
  refine ⟨A', c2, w', hr, ho, hg, ?_⟩
  rcases hown.2 with ⟨hv, h0⟩ | ⟨g, cap, cur, hv, _, hgg, hnc, _, hcs, _⟩
  · injection hv with h1 h2 h3
    subst h1; subst h2; subst h3
    by_cases hm : s.size = 0
    · have := hn.2 ⟨rfl, hm⟩
      injection this with h1
      exact .inl (by rw [h1])
    · have h2 := run_append_nil_string (P := P) w t u ty E i (.int .u8 0) ht hu hi hz s (by omega) (by omega) (by rw [hb]; omega)
      rw [hr] at h2
      injection h2 with h2 _
      injection h2 with h2
      exact .inr (by rw [h2]; rfl)
  · injection hv with h1 _ h3
    subst h1; subst h3
    by_cases hroom : n + s.size ≤ c
    · have h2 := Lib.run_append_room_string (P := P) w t u ty E i ht hu hi hsz g n c cur hgg s hroom (by omega)
      rw [hr] at h2
      injection h2 with h2 _
      injection h2 with h2
      exact .inl (by rw [h2])
    · have h2 := Lib.run_append_grow_string (P := P) w t u ty E i (.int .u8 0) ht hu hi hz ⟨g, 0, none⟩ n c xs (by rw [hsz]; exact hown.1) (World.ownsRow.cells hown (g := g) rfl) s (by omega) (by omega) (by rw [hb]; exact growslice_fits (by omega) (by omega))
      rw [hr] at h2
      injection h2 with h2 _
      injection h2 with h2
      exact .inr (by rw [h2]; rfl)

theorem wp_apps (hgd : o.guard = none) (s x : Operand) (t u : TypeId) (ho : o.op = .call { callee := .builtin .append, args := #[s, x], argTypes := #[t, u] })
    {base n c : Nat} {E : TypeId} (ht : P.underlying t = some (.slice E)) (hu : P.underlying u = some .string) (he : (P.info? E).map (fun i => (i.zero, i.size, i.bytes)) = some (some (.int .u8 0), 1, 1))
    {A : Option Addr} {xs : List Value} (hs : a.eval s = .slice A n c) {b : ByteArray} (hx : a.eval x = .string b) (hown : Own w base E 1 A n c xs)
    (h63 : n + b.size ≤ maxLen) (hby : n + b.size ≤ 140737488355328) (hbase : base ≤ w.heap.size)
    (hK : ∀ A' c2 w', Own w' base E 1 A' (n + b.size) c2 (xs ++ vbs b.data.toList) → Turn w w' (blk A) → (blk A' = blk A ∨ blk A' = some w.heap.size) → wpList P ops Q rest (a.put o.dst (.slice A' (n + b.size) c2)) w') :
    wpList P ops Q (o :: rest) a w := by
  refine wpList_plain hgd fun K hK2 => ?_
  obtain ⟨A', c2, w', hrun, h2, h3, h4⟩ := run_apps (ty := o.type) ht hu he hown b h63 hby hbase
  unfold Oper.wp execOp
  simp only [ho, resolve, invoke, builtin, Sem.run_bind, Sem.run_pure, Result.andThen_ok, List.map_toArray, List.map_cons, List.map_nil, hs, hx, hrun]
  exact hK2 _ _ (hK A' c2 w' h2 h3 h4)

theorem run_cp {base by_ n c : Nat} {t sT ty E : TypeId} (he : El P t E 1 by_) {A : Option Addr} {ys : List Value} (hown : Own w base E 1 A n c ys)
    {B m c' : Nat} {X : Option Addr} {xs : List Value} (hr : Rd w B 1 X m xs) (h1 : ∀ u ∈ xs, u.oneCell' = true) :
    ∃ w', (Builtin.copy_ #[t, sT] ty #[.slice A n c, .slice X m c']).run P w = .ok (goInt (Nat.min m n)) w' ∧ Own w' base E 1 A n c (xs.take (Nat.min m n) ++ ys.drop (Nat.min m n)) ∧ Turn w w' (blk A) := by
  obtain ⟨ht, i, z, hi, hz, hsz, hb, hzs, h0⟩ := he
  have hs1 : (P.info? E).map (·.size) = some 1 := by rw [hi]; simp [hsz]
  by_cases hn : Nat.min m n = 0
  · refine ⟨w, ?_, by rw [hn]; simpa using hown, Turn.refl w _⟩
    rw [hn]
    exact run_copy_none (P := P) w t sT ty E A X n c m c' ht hs1 hn
  · have hmn : 0 < m ∧ 0 < n := by
      have : Nat.min m n ≤ m := Nat.min_le_left m n
      have : Nat.min m n ≤ n := Nat.min_le_right m n
      omega
    obtain ⟨g, cap, hv, hbg, hlt⟩ := World.ownsRow.form hown hmn.2
    injection hv with hA _ hc
    subst hA; subst hc
    obtain ⟨h2, h3⟩ := hown
    rcases h3 with ⟨hv, _⟩ | ⟨g', cap', cur, hv, _, hg, hnc, hcm, hcs, htake⟩
    · cases hv
    · injection hv with hv _ hc
      injection hv with hv
      injection hv with hg'
      subst hg'; subst hc
      have hmin : Nat.min m n ≤ n := Nat.min_le_right m n
      have hl : (xs.take (Nat.min m n)).length = Nat.min m n := by
        rw [List.length_take, hr.len]; exact Nat.min_eq_left (Nat.min_le_left m n)
      obtain ⟨u0, ad, hX, _, hx0, _⟩ := hr.at_ (k := 0) (by omega)
      subst hX
      have hrun := run_copy_row (P := P) w t sT ty E g 0 n c u0 m c' cur E (xs.take (Nat.min m n)) ht hs1 hg hl (fun j v hj => by
        rw [List.getElem?_take] at hj
        split at hj
        · obtain ⟨a', ha, _, hc⟩ := hr.2 j v hj
          injection ha with ha
          subst ha
          exact hc
        · cases hj) (by rw [hl, hcs]; omega) (fun v hv => h1 v (List.mem_of_mem_take hv))
      rw [hl] at hrun
      refine ⟨_, hrun, ⟨?_, .inr ⟨g, c, _, rfl, hbg, setRow_heap w g cur _ E _ hg, hnc, hcm, ?_, ?_⟩⟩, ⟨rfl, rfl, rfl, by simp, fun k _ hk => setRow_other w g k _ (fun e => hk (by simp [blk, e]))⟩⟩
      · rw [List.length_append, hl, List.length_drop, h2]; omega
      · have hcl : cur.toList.length = c * 1 := by rw [Array.length_toList, hcs]
        simp only [List.take_zero, List.nil_append, List.size_toArray, List.length_append, hl, List.length_drop, hcl]
        omega
      · simp only [List.take_zero, List.nil_append, Nat.zero_add]
        rw [List.take_append, hl]
        have e1 : (xs.take (Nat.min m n)).take (n * 1) = xs.take (Nat.min m n) := by
          rw [List.take_take]; congr 1; omega
        rw [e1, ← htake, List.drop_take]

/-- copy(d, s): d the call's own. -/
theorem wp_cp (hgd : o.guard = none) (d s : Operand) (t sT : TypeId) (ho : o.op = .call { callee := .builtin .copy, args := #[d, s], argTypes := #[t, sT] })
    {base by_ n c : Nat} {E : TypeId} (he : El P t E 1 by_) {A : Option Addr} {ys : List Value} (hd : a.eval d = .slice A n c)
    {B m c' : Nat} {X : Option Addr} {xs : List Value} (hs : a.eval s = .slice X m c') (hown : Own w base E 1 A n c ys) (hr : Rd w B 1 X m xs) (h1 : ∀ u ∈ xs, u.oneCell' = true)
    (hK : ∀ w', Own w' base E 1 A n c (xs.take (Nat.min m n) ++ ys.drop (Nat.min m n)) → Turn w w' (blk A) → wpList P ops Q rest (a.put o.dst (goInt (Nat.min m n))) w') :
    wpList P ops Q (o :: rest) a w := by
  refine wpList_plain hgd fun K hK2 => ?_
  obtain ⟨w', hrun, h2, h3⟩ := run_cp (ty := o.type) (sT := sT) he hown (c' := c') hr h1
  unfold Oper.wp execOp
  simp only [ho, resolve, invoke, builtin, Sem.run_bind, Sem.run_pure, Result.andThen_ok, List.map_toArray, List.map_cons, List.map_nil, hd, hs, hrun]
  exact hK2 _ _ (hK w' h2 h3)

/-- make([]T, n, c), elements of one cell: the value stands at the head of a new block. -/
theorem wp_mk (hgd : o.guard = none) (l cc : Operand) (t : TypeId) (ho : o.op = .makeSlice t l cc)
    {by_ : Nat} {E : TypeId} (he : El P t E 1 by_) {kl kc : IntKind} {L C : Int} (hl : a.eval l = .int kl L) (hc : a.eval cc = .int kc C) (n c : Nat) (hL : L = n) (hC : C = c)
    (hnc : n ≤ c) (hby : by_ * c ≤ 281474976710656) (h63 : c ≤ maxLen)
    (hK : ∀ w' xs, xs.length = n → Own w' w.heap.size E 1 (some ⟨w.heap.size, 0, none⟩) n c xs → Turn w w' none → wpList P ops Q rest (a.put o.dst (.slice (some ⟨w.heap.size, 0, none⟩) n c)) w') :
    wpList P ops Q (o :: rest) a w := by
  refine wpList_plain hgd fun K hK2 => ?_
  obtain ⟨ht, i, z, hi, hz, hsz, hb, hzs, h0⟩ := he
  subst hL; subst hC
  have hbi : (i.bytes : Int) * (c : Int) ≤ 281474976710656 := by
    rw [hb]
    have h : ((by_ * c : Nat) : Int) ≤ 281474976710656 := by omega
    rwa [Int.natCast_mul] at h
  have hr := run_make (P := P) w t E i z ht hi hz kl kc n c (by omega) (by omega) hbi (by simp only [maxLen] at h63; omega)
  simp only [Int.toNat_natCast] at hr
  have hcs : (madeCells z.cells (c * i.size)).size = c * 1 := by rw [size_madeCells, hsz]
  have hown := Own.full w w.heap.size E 1 n c (madeCells z.cells (c * i.size)) (Nat.le_refl _) h63 hnc hcs
  unfold Oper.wp execOp
  simp only [ho, hl, hc, Sem.run_bind, Sem.run_pure, Result.andThen_ok, hr]
  exact hK2 _ _ (hK _ _ (by rw [List.length_take, Array.length_toList, hcs]; omega) hown (World.grownBy_alloc w _ none))

/-- The same, and what the cells hold: the element type's nought. -/
theorem wp_mk0 (hgd : o.guard = none) (l cc : Operand) (t : TypeId) (ho : o.op = .makeSlice t l cc)
    {by_ : Nat} {E : TypeId} (he : El P t E 1 by_) {z0 : Value} (hz0 : (P.info? E).map (fun i => i.zero) = some (some z0)) (hz1 : z0.cells = #[z0]) {kl kc : IntKind} {L C : Int} (hl : a.eval l = .int kl L) (hc : a.eval cc = .int kc C) (n c : Nat) (hL : L = n) (hC : C = c)
    (hnc : n ≤ c) (hby : by_ * c ≤ 281474976710656) (h63 : c ≤ maxLen)
    (hK : ∀ w', Own w' w.heap.size E 1 (some ⟨w.heap.size, 0, none⟩) n c (List.replicate n z0) → Turn w w' none → wpList P ops Q rest (a.put o.dst (.slice (some ⟨w.heap.size, 0, none⟩) n c)) w') :
    wpList P ops Q (o :: rest) a w := by
  refine wpList_plain hgd fun K hK2 => ?_
  obtain ⟨ht, i, z, hi, hz, hsz, hb, hzs, h0⟩ := he
  subst hL; subst hC
  have ez : z = z0 := by
    rw [hi, Option.map_some, hz] at hz0
    injection hz0 with e
    injection e
  subst ez
  have hbi : (i.bytes : Int) * (c : Int) ≤ 281474976710656 := by
    rw [hb]
    have h : ((by_ * c : Nat) : Int) ≤ 281474976710656 := by omega
    rwa [Int.natCast_mul] at h
  have hr := run_make (P := P) w t E i z ht hi hz kl kc n c (by omega) (by omega) hbi (by simp only [maxLen] at h63; omega)
  simp only [Int.toNat_natCast] at hr
  have hcs : (madeCells z.cells (c * i.size)).size = c * 1 := by rw [size_madeCells, hsz]
  have hown := Own.full w w.heap.size E 1 n c (madeCells z.cells (c * i.size)) (Nat.le_refl _) h63 hnc hcs
  have hlist : (madeCells z.cells (c * i.size)).toList.take (n * 1) = List.replicate n z := by
    rw [hsz, hz1, toList_madeCells_one, List.take_replicate, Nat.mul_one, Nat.mul_one, Nat.min_eq_left hnc]
  rw [hlist] at hown
  unfold Oper.wp execOp
  simp only [ho, hl, hc, Sem.run_bind, Sem.run_pure, Result.andThen_ok, hr]
  exact hK2 _ _ (hK _ hown (World.grownBy_alloc w _ none))

/-- string(b), b bytes that are seen. -/
theorem wp_txt (hgd : o.guard = none) (x : Operand) (t dst e : TypeId) (ho : o.op = .convert t dst x) (hs : P.underlying t = some (.slice e)) (he : P.underlying e = some (.int .u8)) (hd : P.underlying dst = some .string)
    {B n c : Nat} {A : Option Addr} {l : List UInt8} (hx : a.eval x = .slice A n c) (hr : Rd w B 1 A n (vbs l)) (hK : wpList P ops Q rest (a.put o.dst (.string (txt l))) w) :
    wpList P ops Q (o :: rest) a w := by
  refine wpList_plain hgd fun K hK2 => ?_
  have hrun := run_txt (P := P) w B t dst e A n c l hs he hd hr
  unfold Oper.wp execOp
  simp only [ho, hx, Sem.run_bind, Sem.run_pure, Result.andThen_ok, hrun]
  exact hK2 _ _ hK

/-! ### A region that draws its order, of whose calls each tells a plain value and only makes memory -/
/-- The worlds behind w in which nothing has turned but what is new. -/
def Fut (w : World) : Type := { w' : World // Turn w w' none }
def Fut.at_ {w : World} (x : Fut w) : World := x.1
instance futNonempty (w : World) : Nonempty (Fut w) := ⟨⟨w, Turn.refl w none⟩⟩
theorem Fut.turn {w : World} (x : Fut w) : Turn w x.at_ none := x.2
theorem Rd.fut {B sz n : Nat} {A : Option Addr} {xs : List Value} (h : Rd w B sz A n xs) (hB : B ≤ w.heap.size) (x : Fut w) : Rd x.at_ B sz A n xs := h.turn0 x.turn hB
theorem Own.fut {base sz n c : Nat} {E : TypeId} {A : Option Addr} {xs : List Value} (h : Own w base E sz A n c xs) (x : Fut w) : Own x.at_ base E sz A n c xs := h.turn0 x.turn
theorem Blk.fut {g : Nat} {t : TypeId} {cs : Array Value} (h : Blk w g t cs) (x : Fut w) : Blk x.at_ g t cs := h.turn0 x.turn
theorem fut_call {f : FuncId} {args : Array Value} {v : Value} (x : Fut w) (h : Calls P f args x.at_ fun e w' => e = .returned v ∧ Turn x.at_ w' none) :
    Calls P f args x.at_ fun e w' => e = .returned v ∧ ∃ y : Fut w, w' = y.at_ :=
  h.mono fun _ w' ⟨he, ht⟩ => ⟨he, ⟨w', x.turn.trans ht⟩, rfl⟩
theorem fut_call0 {f : FuncId} {args : Array Value} {v : Value} (x : Fut w) (h : Calls P f args x.at_ fun e w' => e = .returned v ∧ x.at_ = w') :
    Calls P f args x.at_ fun e w' => e = .returned v ∧ ∃ y : Fut w, w' = y.at_ :=
  h.mono fun _ _ ⟨he, ht⟩ => ⟨he, x, ht.symm⟩
theorem fut_callN {f : FuncId} {args : Array Value} {v : Value} (x : Fut w) (h : Calls P f args x.at_ fun e w' => e = .returned v ∧ ∃ q, w' = x.at_.drewN q) :
    Calls P f args x.at_ fun e w' => e = .returned v ∧ ∃ y : Fut w, w' = y.at_ :=
  fut_call x (h.mono fun _ _ ⟨he, q, hq⟩ => ⟨he, by rw [hq]; exact (Turn.refl _ _).drewN q⟩)
theorem wp_region_fut {id : Nat} {l : List Oper} (hm : P.follows .mixedOrders = true) (hB : Region.lexB .any l.toArray = true)
    (h : wpQuiet P l.toArray (fun w' => ∃ x : Fut w, w' = x.at_) (fun a' => ∀ w', Turn w w' none → Q .normal a' w') l a) : (Code.region id l.toArray true).wp P Q a w := by
  refine wp_region_quiet (C := fun w' => ∃ x : Fut w, w' = x.at_) hm hB ⟨⟨_, (Turn.refl w none).drew⟩, rfl⟩ ?_
  have e : (fun a' : Act => ∀ w', (∃ x : Fut w, w' = x.at_) → Q .normal a' w') = fun a' => ∀ w', Turn w w' none → Q .normal a' w' := by
    funext a'
    apply propext
    exact ⟨fun h w' ht => h w' ⟨⟨w', ht⟩, rfl⟩, fun h w' ⟨x, hx⟩ => h w' (by rw [hx]; exact x.turn)⟩
  rw [e]
  simpa using h

/-- What is held in a region may be made more. -/
theorem wpAnyH_more {md : Region.Mode} {opsA : Array Oper} {S S' : World → Prop} (hS : ∀ w, S' w → S w) : ∀ (fuel : Nat) (listed : Array Bool) (a : Act) (w : World), wpAnyH P md opsA Q S' fuel listed a w → wpAnyH P md opsA Q S fuel listed a w
  | 0, _, _, _, h => h
  | fuel + 1, _, _, _, h => ⟨h.1, fun i hi => wpOp_mono (fun a' w' h' => ⟨hS _ h'.1, wpAnyH_more hS fuel _ a' w' h'.2⟩) (h.2 i hi)⟩

/-- The cells of a literal: a new block. -/
theorem Rd.lit (w : World) (E : TypeId) (cs : List Value) : Rd (w.alloc (.cells cs.toArray E)) (w.heap.size + 1) 1 (some ⟨w.heap.size, 0, none⟩) cs.length cs := by
  refine ⟨by simp, fun k u hu => ⟨_, rfl, Nat.lt_succ_self _, ?_⟩⟩
  exact World.news_of_block (cs := cs.toArray) (heap_alloc_new w _) k u (by simpa using hu)
/-- The same, of a row that is marked behind its last cell. -/
theorem Rd.litF (w : World) (E : TypeId) (fr : Nat × Nat) (cs : List Value) : Rd (w.alloc (.cells cs.toArray E fr)) (w.heap.size + 1) 1 (some ⟨w.heap.size, 0, none⟩) cs.length cs := by
  refine ⟨by simp, fun k u hu => ⟨_, rfl, Nat.lt_succ_self _, ?_⟩⟩
  rw [add_flat, Nat.zero_add, cell_of_row _ _ _ cs.toArray E fr (heap_alloc_new w _)]
  simpa using hu
theorem ones_nil : ∀ u ∈ ([] : List Value), u.oneCell' = true := fun u hu => by cases hu
theorem ones_cons {v : Value} {l : List Value} (h : v.oneCell' = true) (hl : ∀ u ∈ l, u.oneCell' = true) : ∀ u ∈ v :: l, u.oneCell' = true := by
  intro u hu
  rcases List.mem_cons.1 hu with rfl | hu
  · exact h
  · exact hl u hu
theorem at_len {xs : List Value} {n : Nat} (h : xs.length = n) (v : Value) (r : List Value) : (xs ++ v :: r)[n]? = some v := by
  subst h; simp
theorem set_len {xs : List Value} {n : Nat} (h : xs.length = n) (v u : Value) (r : List Value) : (xs ++ v :: r).set n u = xs ++ u :: r := by
  subst h; simp
end
end Go.Proofs.YtjjdhdieihmnnaaGreatDoor
/-
  Rows of memory that one owner holds: each its own block, no two the same. No program is named here.
-/
namespace Go.Proofs.YtjjdhdieihmnnaaGreatDoor
open Go.RowKit
set_option linter.unusedSectionVars false

/-- A row: its elements' type and size, the slice value, the cells. -/
structure Rw where
  E : TypeId
  sz : Nat
  A : Option Addr
  n : Nat
  c : Nat
  xs : List Value
def Rw.v (r : Rw) : Value := .slice r.A r.n r.c
def Rw.own (w : World) (base : Nat) (r : Rw) : Prop := Own w base r.E r.sz r.A r.n r.c r.xs
def Rw.nil (E : TypeId) (sz : Nat) : Rw := ⟨E, sz, none, 0, 0, []⟩
/-- Two rows lie in no common block. -/
def Off (r s : Rw) : Prop := ∀ g, blk r.A = some g → blk s.A ≠ some g
theorem Off.symm {r s : Rw} (h : Off r s) : Off s r := fun g e e' => h g e' e
theorem Off.nil {E : TypeId} {sz : Nat} {s : Rw} : Off (Rw.nil E sz) s := fun g e => by cases e
section
variable {ι : Type} [DecidableEq ι]
/-- Rows, by whatever names them. -/
structure Aps (w : World) (base : Nat) (R : ι → Rw) : Prop where
  own : ∀ i, (R i).own w base
  off : ∀ i j, i ≠ j → Off (R i) (R j)
def upd (R : ι → Rw) (i : ι) (r : Rw) : ι → Rw := fun j => if j = i then r else R j
theorem upd_same (R : ι → Rw) (i : ι) (r : Rw) : upd R i r i = r := if_pos rfl
theorem upd_other (R : ι → Rw) {i j : ι} (r : Rw) (h : j ≠ i) : upd R i r j = R j := if_neg h
variable {w w' : World} {base : Nat} {R : ι → Rw}
theorem Aps.turn0 (h : Aps w base R) (ht : Turn w w' none) : Aps w' base R := ⟨fun i => Own.turn0 (h.own i) ht, h.off⟩
/-- A block turns that is none of theirs. -/
theorem Aps.turn (h : Aps w base R) {g : Nat} (ht : Turn w w' (some g)) (hg : ∀ i, blk (R i).A ≠ some g) : Aps w' base R := ⟨fun i => Own.turn (h.own i) ht (.inr (hg i)), h.off⟩
/-- A row becomes another one, in its own block or in a new one. -/
theorem Aps.step (h : Aps w base R) (i : ι) (r : Rw) (hr : r.own w' base) (ht : Turn w w' (blk (R i).A)) (hb : blk r.A = blk (R i).A ∨ ∃ g, blk r.A = some g ∧ w.heap.size ≤ g) : Aps w' base (upd R i r) := by
  have key : ∀ j, j ≠ i → Off r (R j) := by
    intro j hj g hg e
    rcases hb with hb | ⟨g', hb, hs⟩
    · exact h.off i j (Ne.symm hj) g (hb ▸ hg) e
    · rw [hb] at hg
      injection hg with hg
      have := (Own.block (h.own j) g e).2
      omega
  refine ⟨fun j => ?_, fun j k hjk => ?_⟩
  · by_cases hj : j = i
    · subst hj; rw [upd_same]; exact hr
    · rw [upd_other R r hj]
      refine Own.turn (h.own j) ht ?_
      cases hA : blk (R i).A with
      | none => exact .inl rfl
      | some g =>
        right
        intro e
        exact h.off i j (Ne.symm hj) g hA e
  · by_cases hj : j = i
    · subst hj
      rw [upd_same, upd_other R r (Ne.symm hjk)]
      exact key k (Ne.symm hjk)
    · rw [upd_other R r hj]
      by_cases hk : k = i
      · subst hk; rw [upd_same]; exact (key j hj).symm
      · rw [upd_other R r hk]; exact h.off j k hjk
/-- A row that was there in no block. -/
theorem Aps.fresh (h : Aps w base R) (i : ι) (r : Rw) (hr : r.own w' base) (ht : Turn w w' none) (hb : ∀ g, blk r.A = some g → w.heap.size ≤ g) : Aps w' base (upd R i r) := by
  have h' := h.turn0 ht
  have key : ∀ j, j ≠ i → Off r (R j) := by
    intro j hj g hg e
    have := (Own.block (h.own j) g e).2
    have := hb g hg
    omega
  refine ⟨fun j => ?_, fun j k hjk => ?_⟩
  · by_cases hj : j = i
    · subst hj; rw [upd_same]; exact hr
    · rw [upd_other R r hj]; exact h'.own j
  · by_cases hj : j = i
    · subst hj
      rw [upd_same, upd_other R r (Ne.symm hjk)]
      exact key k (Ne.symm hjk)
    · rw [upd_other R r hj]
      by_cases hk : k = i
      · subst hk; rw [upd_same]; exact (key j hj).symm
      · rw [upd_other R r hk]; exact h.off j k hjk
theorem Aps.lt (h : Aps w base R) (i : ι) {g : Nat} (e : blk (R i).A = some g) : base ≤ g ∧ g < w.heap.size := Own.block (h.own i) g e
theorem Aps.mono (h : Aps w base R) {b : Nat} (hb : b ≤ base) : Aps w b R := ⟨fun i => Own.mono (h.own i) hb, h.off⟩
end
/-- An owned row's block is none of another type. -/
theorem Own.not_blk {w : World} {base sz n c g : Nat} {E t : TypeId} {A : Option Addr} {xs : List Value} {cs : Array Value} (h : Own w base E sz A n c xs) (hb : Blk w g t cs) (ht : t ≠ E) : blk A ≠ some g := by
  intro e
  rcases h.2 with ⟨hv, _⟩ | ⟨g', cap, cur, hv, _, hgb, _⟩
  · injection hv with hA
    subst hA
    cases e
  · injection hv with hA
    subst hA
    have : g' = g := by simpa [blk] using e
    subst this
    rw [show w.heap[g']? = _ from hb] at hgb
    simp only [Option.some.injEq, Obj.cells.injEq] at hgb
    exact ht hgb.2.1
end Go.Proofs.YtjjdhdieihmnnaaGreatDoor
/-
  Layer 6, its pure side: the words of a text as a list of bytes; that their places rise, and what a line feed ahead of one of them does.
-/
namespace Go.Proofs.YtjjdhdieihmnnaaGreatDoor

def wLow (c : UInt8) : Bool := decide (97 ≤ c.toNat ∧ c.toNat ≤ 122)
def wNum (c : UInt8) : Bool := decide (48 ≤ c.toNat ∧ c.toNat ≤ 57)
def wIn (c : UInt8) : Bool := wLow c || wNum c || decide (c.toNat = 95)
def wSign (c : UInt8) : Bool := [40, 41, 91, 93, 123, 125, 60, 62, 124, 58, 59, 44, 63].contains c.toNat
def wBlank (c : UInt8) : Bool := decide (c.toNat = 32 ∨ c.toNat = 9 ∨ c.toNat = 10 ∨ c.toNat = 13)
/-- Whether a remark goes on behind a byte. -/
def wNote (note : Bool) (c : UInt8) : Bool := if c.toNat = 10 then false else if c.toNat = 35 then true else note
/-- A byte that is passed over. -/
def wPass (note : Bool) (c : UInt8) : Bool := wNote note c || wBlank c
def wSkip : Bool → List UInt8 → Nat
  | _, [] => 0
  | note, c :: r => if wPass note c then wSkip (wNote note c) r + 1 else 0
/-- How many bytes of r are the token's that c begins. -/
def wMore (c : UInt8) (r : List UInt8) : Nat := if wLow c then (r.takeWhile wIn).length else if wNum c then (r.takeWhile wNum).length else 0
/-- Whether c begins a token, and of which kind. -/
def wBegins (c : UInt8) : Bool := wLow c || wNum c || wSign c
def wKind (c : UInt8) : Nat := if wLow c then 0 else if wNum c then 1 else 2
structure Tok where
  k : Nat
  s : List UInt8
  at_ : Nat
/-- The tokens from place 'at_' on, n of them are there already; else the place and the error. -/
def wGo : Nat → Nat → Nat → List UInt8 → Except (Nat × Nat) (List Tok)
  | 0, _, _, _ => .error (0, 0)
  | f + 1, n, at_, l =>
    match l.drop (wSkip false l) with
    | [] => if n = 1500 then .error (4096, 2) else .ok [⟨3, [], at_ + wSkip false l⟩]
    | c :: r =>
      if wBegins c then
        if n = 1500 then .error (4096, 2)
        else match wGo f (n + 1) (at_ + wSkip false l + 1 + wMore c r) (r.drop (wMore c r)) with
          | .ok ts => .ok (⟨wKind c, c :: r.take (wMore c r), at_ + wSkip false l⟩ :: ts)
          | .error e => .error e
      else .error (at_ + wSkip false l, 4)
def wWords (l : List UInt8) : Except (Nat × Nat) (List Tok) := if 4096 < l.length then .error (0, 2) else wGo (l.length + 1) 0 0 l

theorem wSkip_le : ∀ (note : Bool) (l : List UInt8), wSkip note l ≤ l.length
  | _, [] => Nat.le_refl _
  | note, c :: r => by
    unfold wSkip
    split
    · have := wSkip_le (wNote note c) r
      rw [List.length_cons]; omega
    · omega
theorem wMore_le (c : UInt8) (r : List UInt8) : wMore c r ≤ r.length := by
  have h (p : UInt8 → Bool) : (r.takeWhile p).length ≤ r.length := (List.takeWhile_sublist p).length_le
  unfold wMore
  split
  · exact h _
  split
  · exact h _
  · omega
/-- The state behind bytes that are all passed over. -/
def wState : Bool → List UInt8 → Bool
  | note, [] => note
  | note, c :: r => wState (wNote note c) r
def wAll : Bool → List UInt8 → Bool
  | _, [] => true
  | note, c :: r => wPass note c && wAll (wNote note c) r
theorem wSkip_app : ∀ (note : Bool) (p q : List UInt8), wAll note p = true → wSkip note (p ++ q) = p.length + wSkip (wState note p) q
  | _, [], q, _ => by simp [wState]
  | note, c :: p, q, h => by
    simp only [wAll, Bool.and_eq_true] at h
    rw [List.cons_append, wSkip, if_pos h.1, wSkip_app _ p q h.2, wState, List.length_cons]
    omega
theorem wAll_take : ∀ (note : Bool) (l : List UInt8), wAll note (l.take (wSkip note l)) = true
  | _, [] => rfl
  | note, c :: r => by
    unfold wSkip
    split
    · rename_i h
      rw [List.take_succ_cons, wAll, h, wAll_take]
      rfl
    · rfl
/-- A line feed is passed over, whatever was ahead of it. -/
theorem wSkip_lf (note : Bool) (q : List UInt8) : wSkip note (10 :: q) = wSkip false q + 1 := by
  have h1 : wNote note 10 = false := by unfold wNote; rfl
  have h2 : wPass note 10 = true := by unfold wPass; rw [h1]; rfl
  rw [wSkip, if_pos h2, h1]
/-- What stands where the skipping stops. -/
theorem wSkip_stop : ∀ (note : Bool) (l : List UInt8) (c : UInt8) (r : List UInt8), l.drop (wSkip note l) = c :: r → wPass false c = false
  | _, [], c, r, h => by simp at h
  | note, d :: l, c, r, h => by
    unfold wSkip at h
    split at h
    · rw [List.drop_succ_cons] at h
      exact wSkip_stop _ l c r h
    · rename_i hp
      rw [List.drop_zero] at h
      injection h with h1 h2
      subst h1
      have : wPass note d = false := by simpa using hp
      unfold wPass wNote at this ⊢
      simp only [Bool.or_eq_false_iff] at this ⊢
      refine ⟨?_, this.2⟩
      by_cases a : d.toNat = 10
      · rw [if_pos a]
      · rw [if_neg a] at this ⊢
        by_cases b : d.toNat = 35
        · rw [if_pos b] at this; exact absurd this.1 (by simp)
        · rw [if_neg b]
theorem wSkip_here {c : UInt8} {r : List UInt8} (h : wPass false c = false) : wSkip false (c :: r) = 0 := by
  unfold wSkip; rw [if_neg (by rw [h]; simp)]

/-! ### Fuel, shifts -/
theorem wGo_ok : ∀ (f g n at_ : Nat) (l : List UInt8) (ts : List Tok), wGo f n at_ l = .ok ts → l.length < g → wGo g n at_ l = .ok ts
  | 0, _, _, _, _, _, h, _ => by simp [wGo] at h
  | _ + 1, 0, _, _, _, _, _, h => by omega
  | f + 1, g + 1, n, at_, l, ts, h, h2 => by
    unfold wGo at h ⊢
    have hs := wSkip_le false l
    cases hd : l.drop (wSkip false l) with
    | nil =>
      rw [hd] at h
      exact h
    | cons c r =>
      rw [hd] at h
      simp only at h ⊢
      have hl : r.length + 1 = l.length - wSkip false l := by rw [← List.length_drop, hd]; rfl
      have hm := wMore_le c r
      have hr : (r.drop (wMore c r)).length = r.length - wMore c r := List.length_drop
      split at h
      · rename_i hb
        rw [if_pos hb]
        split at h
        · cases h
        · rename_i hn
          rw [if_neg hn]
          cases hg : wGo f (n + 1) (at_ + wSkip false l + 1 + wMore c r) (r.drop (wMore c r)) with
          | error e => rw [hg] at h; cases h
          | ok us =>
            rw [hg] at h
            rw [wGo_ok f g (n + 1) _ (r.drop (wMore c r)) us hg (by omega)]
            exact h
      · cases h
def Tok.up (t : Tok) : Tok := ⟨t.k, t.s, t.at_ + 1⟩
theorem wGo_up : ∀ (f n at_ : Nat) (l : List UInt8) (ts : List Tok), wGo f n at_ l = .ok ts → wGo f n (at_ + 1) l = .ok (ts.map Tok.up)
  | 0, _, _, _, _, h => by simp [wGo] at h
  | f + 1, n, at_, l, ts, h => by
    unfold wGo at h ⊢
    cases hd : l.drop (wSkip false l) with
    | nil =>
      rw [hd] at h
      simp only at h ⊢
      split at h
      · cases h
      · rename_i hn
        injection h with h
        subst h
        rw [if_neg hn]
        simp [Tok.up]
        omega
    | cons c r =>
      rw [hd] at h
      simp only at h ⊢
      split at h
      · rename_i hb
        split at h
        · cases h
        · rename_i hn
          rw [if_pos hb, if_neg hn]
          cases hg : wGo f (n + 1) (at_ + wSkip false l + 1 + wMore c r) (r.drop (wMore c r)) with
          | error e => rw [hg] at h; cases h
          | ok us =>
            rw [hg] at h
            injection h with h
            subst h
            have := wGo_up f (n + 1) _ _ us hg
            rw [show at_ + wSkip false l + 1 + wMore c r + 1 = at_ + 1 + wSkip false l + 1 + wMore c r by omega] at this
            rw [this]
            simp [Tok.up]
            omega
      · cases h

/-! ### What a word takes -/
theorem takeWhile_same {p : UInt8 → Bool} : ∀ (r q : List UInt8), (∀ d q', q = d :: q' → p d = false) → ((r.take (r.takeWhile p).length) ++ q).takeWhile p = r.takeWhile p
  | [], q, h => by
    cases q with
    | nil => rfl
    | cons d q' => simp [List.takeWhile, h d q' rfl]
  | c :: r, q, h => by
    by_cases hc : p c = true
    · simp only [List.takeWhile_cons, hc, if_true, List.length_cons, List.take_succ_cons, List.cons_append, takeWhile_same r q h]
    · have hc' : p c = false := by simpa using hc
      simp only [List.takeWhile_cons, hc']
      cases q with
      | nil => rfl
      | cons d q' => simp [h d q' rfl]
theorem takeWhile_next {p : UInt8 → Bool} : ∀ (r : List UInt8) (d : UInt8) (q : List UInt8), r.drop (r.takeWhile p).length = d :: q → p d = false
  | [], d, q, h => by simp at h
  | c :: r, d, q, h => by
    by_cases hc : p c = true
    · simp only [List.takeWhile_cons, hc, if_true, List.length_cons, List.drop_succ_cons] at h
      exact takeWhile_next r d q h
    · have hc' : p c = false := by simpa using hc
      simp only [List.takeWhile_cons, hc', Bool.false_eq_true, if_false, List.length_nil, List.drop_zero] at h
      injection h with h1 _
      subst h1
      exact hc'
/-- Behind a word's bytes other bytes may stand, if they begin as before, or with a line feed. -/
theorem wMore_same (c : UInt8) (r q : List UInt8) (h : ∀ d q', q = d :: q' → d = 10 ∨ ∃ q2, r.drop (wMore c r) = d :: q2) : wMore c (r.take (wMore c r) ++ q) = wMore c r := by
  unfold wMore at h ⊢
  split
  · rename_i hc
    rw [if_pos hc] at h
    rw [takeWhile_same r q fun d q' e => ?_]
    rcases h d q' e with rfl | ⟨q2, h2⟩
    · rfl
    · exact takeWhile_next r d q2 h2
  · rename_i hc
    rw [if_neg hc] at h
    split
    · rename_i hc2
      rw [if_pos hc2] at h
      rw [takeWhile_same r q fun d q' e => ?_]
      rcases h d q' e with rfl | ⟨q2, h2⟩
      · rfl
      · exact takeWhile_next r d q2 h2
    · rfl
theorem wSkip_head {note : Bool} {c : UInt8} {r r' : List UInt8} (h : wSkip note (c :: r) = 0) : wSkip note (c :: r') = 0 := by
  unfold wSkip at h ⊢
  split at h
  · omega
  · rename_i hp
    rw [if_neg hp]

/-- (P6.4) A line feed ahead of token k. -/
theorem wGo_lf : ∀ (f n at_ : Nat) (l : List UInt8) (ts : List Tok), wGo f n at_ l = .ok ts → ∀ (k : Nat) (t : Tok), ts[k]? = some t → at_ ≤ t.at_ ∧ t.at_ ≤ at_ + l.length ∧
    ∀ g, l.length + 1 < g → wGo g n at_ (l.take (t.at_ - at_) ++ 10 :: l.drop (t.at_ - at_)) = .ok (ts.take k ++ (ts.drop k).map Tok.up)
  | 0, _, _, _, _, h => by simp [wGo] at h
  | f + 1, n, at_, l, ts, h => by
    intro k t hk
    have hs := wSkip_le false l
    have hall := wAll_take false l
    have hl : l = l.take (wSkip false l) ++ l.drop (wSkip false l) := (List.take_append_drop _ _).symm
    have hpl : (l.take (wSkip false l)).length = wSkip false l := by rw [List.length_take]; omega
    -- the first token
    have first : ∀ t0 : Tok, t0.at_ = at_ + wSkip false l → at_ ≤ t0.at_ ∧ t0.at_ ≤ at_ + l.length ∧
        ∀ g, l.length + 1 < g → wGo g n at_ (l.take (t0.at_ - at_) ++ 10 :: l.drop (t0.at_ - at_)) = .ok (ts.map Tok.up) := by
      intro t0 h0
      refine ⟨by omega, by omega, fun g hg => ?_⟩
      obtain ⟨g', rfl⟩ : ∃ g', g = g' + 1 := ⟨g - 1, by omega⟩
      have e0 : t0.at_ - at_ = wSkip false l := by omega
      rw [e0]
      have hz : wSkip false (l.drop (wSkip false l)) = 0 := by
        cases hd : l.drop (wSkip false l) with
        | nil => rfl
        | cons c r => exact wSkip_here (wSkip_stop false l c r hd)
      have e1 : wSkip false (l.take (wSkip false l) ++ 10 :: l.drop (wSkip false l)) = wSkip false l + 1 := by
        rw [wSkip_app _ _ _ hall, wSkip_lf, hz, hpl]
      have e2 : (l.take (wSkip false l) ++ 10 :: l.drop (wSkip false l)).drop (wSkip false l + 1) = l.drop (wSkip false l) := by
        rw [List.drop_append, hpl, List.drop_of_length_le (by rw [hpl]; omega)]
        simp
      have h2 := wGo_up (f + 1) n at_ l ts h
      have h2 := wGo_ok (f + 1) (g' + 1) n _ l _ h2 (by omega)
      rw [← h2]
      conv => lhs; unfold wGo
      conv => rhs; unfold wGo
      rw [e1, e2, show at_ + (wSkip false l + 1) = at_ + 1 + wSkip false l by omega]
    unfold wGo at h
    cases hd : l.drop (wSkip false l) with
    | nil =>
      rw [hd] at h
      simp only at h
      split at h
      · cases h
      · injection h with h
        subst h
        cases k with
        | zero =>
          obtain rfl : (⟨3, [], at_ + wSkip false l⟩ : Tok) = t := by simpa using hk
          exact first _ rfl
        | succ k => simp at hk
    | cons c r =>
      rw [hd] at h
      simp only at h
      have hl1 : r.length + 1 = l.length - wSkip false l := by rw [← List.length_drop, hd]; rfl
      have hm := wMore_le c r
      have hr : (r.drop (wMore c r)).length = r.length - wMore c r := List.length_drop
      split at h
      · rename_i hb
        split at h
        · cases h
        · rename_i hn
          cases hg : wGo f (n + 1) (at_ + wSkip false l + 1 + wMore c r) (r.drop (wMore c r)) with
          | error e => rw [hg] at h; cases h
          | ok us =>
            rw [hg] at h
            injection h with h
            cases k with
            | zero =>
              subst h
              obtain rfl : (⟨wKind c, c :: r.take (wMore c r), at_ + wSkip false l⟩ : Tok) = t := by simpa using hk
              exact first _ rfl
            | succ k =>
              clear first
              subst h
              have hk' : us[k]? = some t := by simpa using hk
              obtain ⟨i1, i2, i3⟩ := wGo_lf f (n + 1) _ _ us hg k t hk'
              refine ⟨by omega, by omega, fun g hg2 => ?_⟩
              obtain ⟨g', rfl⟩ : ∃ g', g = g' + 1 := ⟨g - 1, by omega⟩
              obtain ⟨b, hb2⟩ : ∃ b, b = t.at_ - (at_ + wSkip false l + 1 + wMore c r) := ⟨_, rfl⟩
              have ea : t.at_ - at_ = wSkip false l + (1 + (wMore c r + b)) := by omega
              have i4 := i3 g' (by omega)
              rw [← hb2] at i4
              -- the bytes, cut
              have e1 : l.take (t.at_ - at_) ++ 10 :: l.drop (t.at_ - at_) = l.take (wSkip false l) ++ (c :: (r.take (wMore c r) ++ ((r.drop (wMore c r)).take b ++ 10 :: (r.drop (wMore c r)).drop b))) := by
                rw [ea]
                have x1 : l.take (wSkip false l + (1 + (wMore c r + b))) = l.take (wSkip false l) ++ (c :: (r.take (wMore c r) ++ (r.drop (wMore c r)).take b)) := by
                  rw [List.take_add, hd, Nat.add_comm 1, List.take_succ_cons, List.take_add]
                have x2 : l.drop (wSkip false l + (1 + (wMore c r + b))) = (r.drop (wMore c r)).drop b := by
                  rw [← List.drop_drop, hd, Nat.add_comm 1, List.drop_succ_cons, List.drop_drop]
                rw [x1, x2]
                simp
              obtain ⟨q, hq⟩ : ∃ q, q = (r.drop (wMore c r)).take b ++ 10 :: (r.drop (wMore c r)).drop b := ⟨_, rfl⟩
              rw [← hq] at e1 i4
              have hm2 : wMore c (r.take (wMore c r) ++ q) = wMore c r := wMore_same c r q (fun d q' e => by
                rw [hq] at e
                cases b with
                | zero =>
                  rw [List.take_zero, List.nil_append] at e
                  injection e with e _
                  exact .inl e.symm
                | succ b =>
                  cases hx : r.drop (wMore c r) with
                  | nil =>
                    rw [hx] at e
                    simp at e
                    exact .inl e.1.symm
                  | cons d2 q2 =>
                    rw [hx, List.take_succ_cons, List.cons_append] at e
                    injection e with e _
                    subst e
                    exact .inr ⟨q2, rfl⟩)
              have hz : wSkip (wState false (l.take (wSkip false l))) (c :: r) = 0 := by
                have := wSkip_app false (l.take (wSkip false l)) (c :: r) hall
                rw [← hd, ← hl, hpl] at this
                rw [← hd]
                omega
              have e2 : wSkip false (l.take (wSkip false l) ++ (c :: (r.take (wMore c r) ++ q))) = wSkip false l := by
                rw [wSkip_app _ _ _ hall, wSkip_head hz, hpl, Nat.add_zero]
              have e3 : (l.take (wSkip false l) ++ (c :: (r.take (wMore c r) ++ q))).drop (wSkip false l) = c :: (r.take (wMore c r) ++ q) := by
                rw [List.drop_append_of_le_length (by omega), List.drop_of_length_le (by omega), List.nil_append]
              have e4 : (r.take (wMore c r) ++ q).drop (wMore c r) = q := by
                rw [List.drop_append_of_le_length (by rw [List.length_take]; omega), List.drop_of_length_le (by rw [List.length_take]; omega), List.nil_append]
              have e5 : (r.take (wMore c r) ++ q).take (wMore c r) = r.take (wMore c r) := by
                rw [List.take_append_of_le_length (by rw [List.length_take]; omega), List.take_of_length_le (by rw [List.length_take]; omega)]
              rw [e1]
              unfold wGo
              rw [e2, e3]
              simp only
              rw [if_pos hb, if_neg hn, hm2, e4, e5, i4]
              simp
      · cases h
theorem wWords_lf {l : List UInt8} {ts : List Tok} (h : wWords l = .ok ts) (hl : l.length < 4096) {k : Nat} {t : Tok} (hk : ts[k]? = some t) :
    t.at_ ≤ l.length ∧ wWords (l.take t.at_ ++ 10 :: l.drop t.at_) = .ok (ts.take k ++ (ts.drop k).map Tok.up) := by
  unfold wWords at h ⊢
  rw [if_neg (by omega)] at h
  obtain ⟨h1, h2, h3⟩ := wGo_lf _ 0 0 l ts h k t hk
  have hlen : (l.take t.at_ ++ 10 :: l.drop t.at_).length = l.length + 1 := by
    rw [List.length_append, List.length_take, List.length_cons, List.length_drop]; omega
  refine ⟨by omega, ?_⟩
  rw [hlen, if_neg (by omega)]
  exact h3 (l.length + 1 + 1) (by omega)

theorem wKind_le (c : UInt8) : wKind c ≤ 2 := by unfold wKind; split <;> (try split) <;> omega
/-- (P6.3) Tokens' places rise, and each stands where it says. -/
theorem wGo_ord : ∀ (f n at_ : Nat) (L : List UInt8) (ts : List Tok), at_ ≤ L.length → wGo f n at_ (L.drop at_) = .ok ts → ts ≠ [] ∧ (∀ t, ts[0]? = some t → at_ ≤ t.at_) ∧
    ∀ i t, ts[i]? = some t → t.at_ + t.s.length ≤ L.length ∧ (L.drop t.at_).take t.s.length = t.s ∧ (t.k = 3 ↔ i + 1 = ts.length) ∧ (t.s = [] ↔ t.k = 3) ∧ ∀ u, ts[i + 1]? = some u → t.at_ + t.s.length ≤ u.at_
  | 0, _, _, _, _, _, h => by simp [wGo] at h
  | f + 1, n, at_, L, ts, ha, h => by
    unfold wGo at h
    have hs := wSkip_le false (L.drop at_)
    rw [List.length_drop] at hs
    cases hd : (L.drop at_).drop (wSkip false (L.drop at_)) with
    | nil =>
      rw [hd] at h
      simp only at h
      split at h
      · cases h
      · injection h with h
        subst h
        have hz : L.length - at_ - wSkip false (L.drop at_) = 0 := by
          have := congrArg List.length hd
          rw [List.length_drop, List.length_drop] at this
          simpa using this
        refine ⟨by simp, fun t ht => ?_, fun i t ht => ?_⟩
        · obtain rfl : (⟨3, [], at_ + wSkip false (L.drop at_)⟩ : Tok) = t := by simpa using ht
          exact Nat.le_add_right _ _
        · cases i with
          | succ i => simp at ht
          | zero =>
            obtain rfl : (⟨3, [], at_ + wSkip false (L.drop at_)⟩ : Tok) = t := by simpa using ht
            exact ⟨by simp only [List.length_nil]; omega, by simp, by simp, by simp, by simp⟩
    | cons c r =>
      rw [hd] at h
      simp only at h
      have hl1 : r.length + 1 = L.length - at_ - wSkip false (L.drop at_) := by rw [← List.length_drop, ← List.length_drop, hd]; rfl
      have hm := wMore_le c r
      rw [List.drop_drop] at hd
      obtain ⟨s, hse⟩ : ∃ s, s = wSkip false (L.drop at_) := ⟨_, rfl⟩
      rw [← hse] at hs hd h hl1
      split at h
      · rename_i hb
        split at h
        · cases h
        · have hdd : r.drop (wMore c r) = L.drop (at_ + s + 1 + wMore c r) := by
            have : L.drop (at_ + s + (1 + wMore c r)) = r.drop (wMore c r) := by rw [← List.drop_drop, hd, Nat.add_comm 1, List.drop_succ_cons]
            rw [← this]
            congr 1
            omega
          rw [hdd] at h
          cases hg : wGo f (n + 1) (at_ + s + 1 + wMore c r) (L.drop (at_ + s + 1 + wMore c r)) with
          | error e => rw [hg] at h; cases h
          | ok us =>
            rw [hg] at h
            injection h with h
            subst h
            obtain ⟨h1, h2, h3⟩ := wGo_ord f (n + 1) (at_ + s + 1 + wMore c r) L us (by omega) hg
            have htl : (r.take (wMore c r)).length = wMore c r := by rw [List.length_take]; omega
            refine ⟨by simp, fun t ht => ?_, fun i t ht => ?_⟩
            · obtain rfl : (⟨wKind c, c :: r.take (wMore c r), at_ + s⟩ : Tok) = t := by simpa using ht
              exact Nat.le_add_right _ _
            · cases i with
              | zero =>
                obtain rfl : (⟨wKind c, c :: r.take (wMore c r), at_ + s⟩ : Tok) = t := by simpa using ht
                have hkk := wKind_le c
                have hus : us.length ≠ 0 := fun e => h1 (List.eq_nil_of_length_eq_zero e)
                refine ⟨?_, ?_, ?_, ?_, ?_⟩
                · simp only [List.length_cons, htl]; omega
                · simp only [hd, List.length_cons, htl, List.take_succ_cons]
                · simp only [List.length_cons]; omega
                · simp only [List.cons_ne_nil, false_iff]; omega
                · intro u hu
                  have := h2 u (by simpa using hu)
                  simp only [List.length_cons, htl]; omega
              | succ i =>
                obtain ⟨k1, k2, k3, k4, k5⟩ := h3 i t (by simpa using ht)
                exact ⟨k1, k2, by rw [k3, List.length_cons]; omega, k4, fun u hu => k5 u (by simpa using hu)⟩
      · cases h
theorem wWords_ord {l : List UInt8} {ts : List Tok} (h : wWords l = .ok ts) : l.length ≤ 4096 ∧ ts ≠ [] ∧
    ∀ i t, ts[i]? = some t → t.at_ + t.s.length ≤ l.length ∧ (l.drop t.at_).take t.s.length = t.s ∧ (t.k = 3 ↔ i + 1 = ts.length) ∧ (t.s = [] ↔ t.k = 3) ∧ ∀ u, ts[i + 1]? = some u → t.at_ + t.s.length ≤ u.at_ := by
  unfold wWords at h
  split at h
  · cases h
  · rename_i hl
    have h2 := wGo_ord (l.length + 1) 0 0 l ts (Nat.zero_le _) (by rw [List.drop_zero]; exact h)
    exact ⟨by omega, h2.1, h2.2.2⟩
theorem wGo_few : ∀ (f n at_ : Nat) (l : List UInt8) (ts : List Tok), wGo f n at_ l = .ok ts → n ≤ 1500 → n + ts.length ≤ 1500
  | 0, _, _, _, _, h, _ => by simp [wGo] at h
  | f + 1, n, at_, l, ts, h, hn => by
    unfold wGo at h
    cases hd : l.drop (wSkip false l) with
    | nil =>
      rw [hd] at h
      simp only at h
      split at h
      · cases h
      · injection h with h
        subst h
        simp only [List.length_singleton]
        omega
    | cons c r =>
      rw [hd] at h
      simp only at h
      split at h
      · split at h
        · cases h
        · cases hg : wGo f (n + 1) (at_ + wSkip false l + 1 + wMore c r) (r.drop (wMore c r)) with
          | error e => rw [hg] at h; cases h
          | ok us =>
            rw [hg] at h
            injection h with h
            subst h
            have := wGo_few f (n + 1) _ _ us hg (by omega)
            rw [List.length_cons]; omega
      · cases h
end Go.Proofs.YtjjdhdieihmnnaaGreatDoor
