import Derived.Test.YtjekglnbmccnjaaRows
import Derived.WalkKit
import Derived.WalkSpells
import Derived.WalkLawsBesides
import Derived.Maps.AppendAt
import Derived.Laws.CopyOwn
import Derived.Deep.AppendLies
import Derived.Deep.Draws
import Derived.Outline
import Derived.ProofKit
import Derived.OpenShut
import Derived.ShutString
import Derived.ChangeOld
import Derived.Below
import Derived.SizedLaws
import Derived.JoinedCond
import Derived.SliceStrings
import Derived.Laws.BitsAllLaws
set_option linter.unusedSimpArgs false
set_option linter.unusedVariables false
set_option linter.unusedSectionVars false
/-
  Words for memory that all proofs of this family share: which cells a slice value shows, which slice values own a block of the call's own, and which blocks a step may have turned. No program is named here.
-/
namespace Go.Proofs.Ytjekglnbmccnjaa
set_option linter.unusedSimpArgs false
set_option linter.unusedVariables false
open Go.RowKit

/-- A fact put out of the walk's sight. -/
theorem hid {p : Prop} (h : p) : Hid p := h

/-- The block to which a slice's address leads. -/
def blk : Option Addr → Option Nat
  | some a => some a.block
  | none => none

/-- The cells xs are seen through the slice value (A, n): elements of sz cells each; all in blocks below B. -/
def Rd (w : World) (B sz : Nat) (A : Option Addr) (n : Nat) (xs : List Value) : Prop :=
  xs.length = n * sz ∧ ∀ k u, xs[k]? = some u → ∃ a, A = some a ∧ a.block < B ∧ w.cell? (a.add k) = some u

/-- The slice value (A, n, c) is nil, or stands at the head of a block from 'base' on that is the call's own. -/
def Own (w : World) (base : Nat) (E : TypeId) (sz : Nat) (A : Option Addr) (n c : Nat) (xs : List Value) : Prop :=
  w.ownsRow base E sz (.slice A n c) n xs

/-- From w to w' nothing has turned but blocks that are new, and block 'row'. -/
def Turn (w w' : World) (row : Option Nat) : Prop := w.grownBy w' row

theorem addr_block (a : Addr) (k : Nat) : (a.add k).block = a.block := by
  unfold Addr.add
  split <;> rfl
theorem addr_add (a : Addr) (i j : Nat) : (a.add i).add j = a.add (i + j) := by
  unfold Addr.add
  by_cases hi : i = 0
  · simp [hi]
  · by_cases hj : j = 0
    · simp [hi, hj]
    · have h : ¬ (i + j = 0) := by omega
      simp only [hi, hj, h, if_false]
      simp

section
variable {w w' w2 : World} {B B' base sz n c : Nat} {E : TypeId} {A : Option Addr} {xs ys : List Value} {row : Option Nat}

theorem Turn.size (h : Turn w w' row) : w.heap.size ≤ w'.heap.size := World.grownBy.size h
theorem Turn.refl (w : World) (row : Option Nat) : Turn w w row := World.grownBy.refl w row
theorem Turn.trans (h : Turn w w' row) (k : Turn w' w2 row) : Turn w w2 row := World.grownBy.trans h k
theorem Turn.any (h : Turn w w' none) (row : Option Nat) : Turn w w' row := ⟨h.os, h.tape, h.output, h.size, fun k hk _ => h.block k hk (by simp)⟩
/-- A block that was not there when the whole began is not seen from there. -/
theorem Turn.new {row' : Option Nat} (h : Turn w w' row) (k : Turn w' w2 row') (hr : ∀ g, row' = some g → w.heap.size ≤ g) : Turn w w2 row :=
  ⟨World.grownBy.os k ▸ World.grownBy.os h ▸ rfl, World.grownBy.tape k ▸ World.grownBy.tape h ▸ rfl, World.grownBy.output k ▸ World.grownBy.output h ▸ rfl,
    Nat.le_trans h.size k.size, fun i hi hne => (World.grownBy.block k i (Nat.lt_of_lt_of_le hi h.size) (fun e => by have := hr i e.symm; omega)).trans (World.grownBy.block h i hi hne)⟩
theorem Turn.alloc (h : Turn w w' row) (o : Obj) : Turn w (w'.alloc o) row := h.new (World.grownBy_alloc w' o none) (by simp)
theorem Turn.drew (h : Turn w w' row) : Turn w w'.drew row := ⟨h.os, h.tape, h.output, h.size, h.block⟩
theorem Turn.drewN (h : Turn w w' row) (k : Nat) : Turn w (w'.drewN k) row := ⟨h.os, h.tape, h.output, h.size, h.block⟩
theorem Turn.undrew (h : Turn w.drew w' row) : Turn w w' row := ⟨h.os, h.tape, h.output, h.size, h.block⟩
theorem Turn.undrewN {k : Nat} (h : Turn (w.drewN k) w' row) : Turn w w' row := ⟨h.os, h.tape, h.output, h.size, h.block⟩
theorem Turn.below (h : Turn w w' none) : Below w.heap.size w w' := ⟨h.os, h.tape, h.output, h.size, fun k hk => h.block k hk (by simp)⟩
theorem Turn.cell (h : Turn w w' row) {a : Addr} (ha : a.block < w.heap.size) (hne : some a.block ≠ row) : w'.cell? a = w.cell? a :=
  World.cell?_of_block (World.grownBy.block h a.block ha hne)
theorem Turn.setCell {g i : Nat} (h : Turn w w' (some g)) (u : Value) : Turn w (w'.setCell ⟨g, i, none⟩ u) (some g) :=
  h.trans ⟨rfl, rfl, rfl, by simp [World.setCell], fun k _ hk => Below.heap_setCell _ _ _ _ (fun e => hk (by simp [e]))⟩

theorem Rd.len (h : Rd w B 1 A n xs) : xs.length = n := by have := h.1; omega
theorem Rd.none_ (w : World) (B sz _c : Nat) : Rd w B sz A 0 [] := ⟨by simp, fun k u h => by simp at h⟩
theorem Rd.at_ {k : Nat} (h : Rd w B sz A n xs) (hk : k < n * sz) : ∃ a u, A = some a ∧ a.block < B ∧ xs[k]? = some u ∧ w.cell? (a.add k) = some u := by
  have hl : k < xs.length := by have := h.1; omega
  obtain ⟨a, h1, h2, h3⟩ := h.2 k xs[k] (List.getElem?_eq_getElem hl)
  exact ⟨a, xs[k], h1, h2, List.getElem?_eq_getElem hl, h3⟩
/-- The first cell's place, and the others behind it. -/
theorem Rd.head (h : Rd w B sz A n xs) (hn : 0 < n * sz) : ∃ b off, A = some ⟨b, off, none⟩ ∧ b < B ∧ ∀ k u, xs[k]? = some u → w.cell? ⟨b, off + k, none⟩ = some u := by
  obtain ⟨a, u, rfl, hb, h0, hc⟩ := h.at_ hn
  have hs : a.spot = none := by
    unfold Addr.add at hc
    simp only [if_true, World.cell?] at hc
    cases ha : a.spot with
    | none => rfl
    | some s =>
      rw [ha] at hc
      split at hc <;> simp at hc
  obtain ⟨b, off, s⟩ := a
  simp only at hs
  subst hs
  refine ⟨b, off, rfl, hb, fun k v hv => ?_⟩
  obtain ⟨a', ha, _, hc'⟩ := h.2 k v hv
  injection ha with ha
  subst ha
  have e : (⟨b, off, none⟩ : Addr).add k = ⟨b, off + k, none⟩ := by
    unfold Addr.add
    split
    · rename_i h0; subst h0; rfl
    · rfl
  rw [← e]
  exact hc'
theorem Rd.mono (h : Rd w B sz A n xs) (hB : B ≤ B') : Rd w B' sz A n xs :=
  ⟨h.1, fun k u hu => by
    obtain ⟨a, h1, h2, h3⟩ := h.2 k u hu
    exact ⟨a, h1, by omega, h3⟩⟩
theorem Rd.keep (h : Rd w B sz A n xs) (hk : ∀ a : Addr, A = some a → a.block < B → ∀ k, w'.cell? (a.add k) = w.cell? (a.add k)) : Rd w' B sz A n xs :=
  ⟨h.1, fun k u hu => by
    obtain ⟨a, h1, h2, h3⟩ := h.2 k u hu
    exact ⟨a, h1, h2, (hk a h1 h2 k).trans h3⟩⟩
theorem Rd.drew (h : Rd w B sz A n xs) : Rd w.drew B sz A n xs := h
theorem Rd.drewN (h : Rd w B sz A n xs) (k : Nat) : Rd (w.drewN k) B sz A n xs := h
theorem Rd.turn (h : Rd w B sz A n xs) (ht : Turn w w' row) (hB : B ≤ w.heap.size) (hr : ∀ g, row = some g → B ≤ g) : Rd w' B sz A n xs :=
  h.keep fun a _ hb k => ht.cell (by rw [addr_block]; omega) (by rw [addr_block]; intro e; have := hr _ e.symm; omega)
theorem Rd.turn0 (h : Rd w B sz A n xs) (ht : Turn w w' none) (hB : B ≤ w.heap.size) : Rd w' B sz A n xs := h.turn ht hB (by simp)
/-- What is read lies in another block than the one that turned. -/
theorem Rd.turnNe (h : Rd w B sz A n xs) (ht : Turn w w' row) (hB : B ≤ w.heap.size) (hr : row = none ∨ blk A ≠ row) : Rd w' B sz A n xs :=
  h.keep fun a ha hb k => ht.cell (by rw [addr_block]; omega) (by
    rw [addr_block]
    intro e
    rcases hr with hr | hr
    · rw [hr] at e; cases e
    · exact hr (by rw [ha]; exact e))
theorem Rd.alloc (h : Rd w B sz A n xs) (hB : B ≤ w.heap.size) (o : Obj) : Rd (w.alloc o) B sz A n xs := h.turn0 (World.grownBy_alloc w o none) hB
theorem Rd.below (h : Rd w B sz A n xs) (hb : Below B w w') : Rd w' B sz A n xs := h.keep fun a _ hlt k => hb.cell (by rw [addr_block]; exact hlt)
/-- A piece of a slice, as the model writes its address. -/
theorem Rd.cut (h : Rd w B sz A n xs) {k : Nat} (hk : k ≤ n) (hc : n ≤ c) :
    Rd w B sz (if c = k then A else A.map (·.add (k * sz))) (n - k) (xs.drop (k * sz)) := by
  refine ⟨by rw [List.length_drop, h.1, Nat.sub_mul], fun j u hu => ?_⟩
  rw [List.getElem?_drop] at hu
  obtain ⟨a, h1, h2, h3⟩ := h.2 _ u hu
  have hlt : k * sz + j < n * sz := by
    have := (List.getElem?_eq_some_iff.1 hu).1
    rw [h.1] at this
    exact this
  have hne : ¬ c = k := by
    intro e
    have : n ≤ k := by omega
    have := Nat.mul_le_mul_right sz this
    omega
  rw [if_neg hne, h1]
  exact ⟨_, rfl, by rw [addr_block]; exact h2, by rw [addr_add]; exact h3⟩
theorem Rd.take (h : Rd w B sz A n xs) {k : Nat} (hk : k ≤ n) : Rd w B sz A k (xs.take (k * sz)) := by
  refine ⟨by rw [List.length_take, h.1]; exact Nat.min_eq_left (Nat.mul_le_mul_right sz hk), fun j u hu => ?_⟩
  rw [List.getElem?_take] at hu
  split at hu
  · exact h.2 j u hu
  · cases hu

theorem Own.len (h : Own w base E 1 A n c xs) : xs.length = n := by have := h.1; omega
theorem Own.len_ (h : Own w base E sz A n c xs) : xs.length = n * sz := h.1
theorem Own.cap (h : Own w base E sz A n c xs) : n ≤ c ∧ c ≤ maxLen := by
  rcases h.2 with ⟨e, rfl⟩ | ⟨g, cap, cur, e, _, _, h1, h2, _⟩
  · injection e with _ _ e; subst e; simp
  · injection e with _ _ e; subst e; exact ⟨h1, h2⟩
theorem Own.block (h : Own w base E sz A n c xs) : ∀ g, blk A = some g → base ≤ g ∧ g < w.heap.size := by
  intro g hg
  cases A with
  | none => simp [blk] at hg
  | some a => exact World.ownsRow.lt h g (by simpa [blk, Value.ownBlock] using hg)
theorem Own.rd (h : Own w base E sz A n c xs) : Rd w w.heap.size sz A n xs := by
  refine ⟨h.1, fun k u hu => ?_⟩
  have hl : k < xs.length := (List.getElem?_eq_some_iff.1 hu).1
  have hn : 0 < n := by
    rcases Nat.eq_zero_or_pos n with e | e
    · have := h.1; rw [e] at this; simp at this; subst this; simp at hl
    · exact e
  obtain ⟨g, cap, hv, _, hlt⟩ := World.ownsRow.form h hn
  injection hv with hA
  subst hA
  exact ⟨_, rfl, hlt, World.ownsRow.cells h (g := g) rfl k u hu⟩
theorem Own.turn (h : Own w base E sz A n c xs) (ht : Turn w w' row) (hr : row = none ∨ blk A ≠ row) : Own w' base E sz A n c xs := by
  refine World.ownsRow.kept h ht ?_
  have e : (Value.slice A n c).ownBlock = blk A := by cases A <;> rfl
  rw [e]
  rcases hr with rfl | hr
  · cases blk A <;> simp
  · exact .inr hr
theorem Own.turn0 (h : Own w base E sz A n c xs) (ht : Turn w w' none) : Own w' base E sz A n c xs := h.turn ht (.inl rfl)
theorem Own.alloc (h : Own w base E sz A n c xs) (o : Obj) : Own (w.alloc o) base E sz A n c xs := World.ownsRow.alloc h o
theorem Own.drew (h : Own w base E sz A n c xs) : Own w.drew base E sz A n c xs := h
theorem Own.drewN (h : Own w base E sz A n c xs) (k : Nat) : Own (w.drewN k) base E sz A n c xs := h
theorem Own.mono (h : Own w base E sz A n c xs) (hb : B ≤ base) : Own w B E sz A n c xs := by
  obtain ⟨h1, h2⟩ := h
  refine ⟨h1, ?_⟩
  rcases h2 with h2 | ⟨g, cap, cur, hv, hg, r⟩
  · exact .inl h2
  · exact .inr ⟨g, cap, cur, hv, by omega, r⟩
theorem Own.nil (w : World) (base : Nat) (E : TypeId) (sz : Nat) : Own w base E sz none 0 0 [] := World.ownsRow_nil w base E sz
theorem Own.made (w : World) (base : Nat) (E : TypeId) (sz c : Nat) (cs : Array Value) (hb : base ≤ w.heap.size) (hm : c ≤ maxLen) (hs : cs.size = c * sz) :
    Own (w.alloc (.cells cs E)) base E sz (some ⟨w.heap.size, 0, none⟩) 0 c [] := World.ownsRow_made w cs c hb hm hs
theorem Own.full (w : World) (base : Nat) (E : TypeId) (sz n c : Nat) (cs : Array Value) (hb : base ≤ w.heap.size) (hm : c ≤ maxLen) (hn : n ≤ c) (hs : cs.size = c * sz) :
    Own (w.alloc (.cells cs E)) base E sz (some ⟨w.heap.size, 0, none⟩) n c (cs.toList.take (n * sz)) := by
  refine ⟨?_, .inr ⟨w.heap.size, c, cs, rfl, hb, heap_alloc_new w _, hn, hm, hs, rfl⟩⟩
  rw [List.length_take, Array.length_toList, hs]
  exact Nat.min_eq_left (Nat.mul_le_mul_right sz hn)
end

section
variable {w w' w2 : World} {base sz n c i : Nat} {E : TypeId} {A A2 A3 : Option Addr} {xs : List Value}
/-- From w to w' the row of A may have turned, and what is new; A2 stands for A now. -/
def Grow (w w' : World) (A A2 : Option Addr) : Prop := Turn w w' (blk A) ∧ (blk A2 = blk A ∨ ∃ g, blk A2 = some g ∧ w.heap.size ≤ g)
theorem Grow.refl (w : World) (A : Option Addr) : Grow w w A A := ⟨Turn.refl w _, .inl rfl⟩
theorem Grow.trans (h : Grow w w' A A2) (k : Grow w' w2 A2 A3) : Grow w w2 A A3 := by
  obtain ⟨h1, h2⟩ := h
  obtain ⟨k1, k2⟩ := k
  refine ⟨?_, ?_⟩
  · rcases h2 with h2 | ⟨g, h2, h3⟩
    · rw [h2] at k1; exact h1.trans k1
    · exact h1.new k1 (fun g' e => by rw [h2] at e; injection e with e; omega)
  · rcases k2 with k2 | ⟨g, k2, k3⟩
    · rw [k2]; exact h2
    · exact .inr ⟨g, k2, Nat.le_trans h1.size k3⟩
theorem Grow.alloc (h : Grow w w' A A2) (o : Obj) : Grow w (w'.alloc o) A A2 := ⟨h.1.alloc o, h.2⟩
theorem Grow.step (h : Grow w w' A A2) (k : Turn w' w2 (blk A2)) (e : blk A3 = blk A2 ∨ blk A3 = some w'.heap.size) : Grow w w2 A A3 :=
  h.trans ⟨k, e.imp id fun e => ⟨_, e, Nat.le_refl _⟩⟩
/-- Seen from a world in which A's row was not yet there, nothing has turned. -/
theorem Grow.fresh {w0 : World} (h : Grow w w' A A2) (k : Turn w0 w none) (hb : ∀ g, blk A = some g → w0.heap.size ≤ g) : Turn w0 w' none := k.new h.1 hb

theorem Own.head (h : Own w base E sz A n c xs) (hn : 0 < n) : ∃ g, A = some ⟨g, 0, none⟩ ∧ base ≤ g ∧ g < w.heap.size := by
  obtain ⟨g, cap, hv, h1, h2⟩ := World.ownsRow.form h hn
  injection hv with hA
  exact ⟨g, hA, h1, h2⟩
theorem Own.cell {g : Nat} (h : Own w base E sz (some ⟨g, 0, none⟩) n c xs) (hi : i < n * sz) : w.cell? ⟨g, i, none⟩ = xs[i]? := World.ownsRow.cellAt h i hi
theorem Own.frozen {g : Nat} (h : Own w base E sz (some ⟨g, 0, none⟩) n c xs) (i : Nat) : w.frozen? ⟨g, i, none⟩ = false := World.ownsRow.frozenAt h i
theorem Own.store {g : Nat} (h : Own w base E sz (some ⟨g, 0, none⟩) n c xs) (i : Nat) (u : Value) : Own (w.setCell ⟨g, i, none⟩ u) base E sz (some ⟨g, 0, none⟩) n c (xs.set i u) :=
  (World.ownsRow.stored h i u).1
theorem Own.storeTurn {g : Nat} (h : Own w base E sz (some ⟨g, 0, none⟩) n c xs) (i : Nat) (u : Value) : Turn w (w.setCell ⟨g, i, none⟩ u) (some g) :=
  (World.ownsRow.stored h i u).2
end

/-- Block g is just these cells, none frozen. -/
def Blk (w : World) (g : Nat) (t : TypeId) (cs : Array Value) : Prop := w.heap[g]? = some (.cells cs t (0, 0))
section
variable {w w' : World} {g : Nat} {t : TypeId} {cs : Array Value} {row : Option Nat}
theorem Blk.lt (h : Blk w g t cs) : g < w.heap.size := (Array.getElem?_eq_some_iff.1 h).1
theorem Blk.cell (h : Blk w g t cs) (i : Nat) : w.cell? ⟨g, i, none⟩ = cs[i]? := cell_of_row w g i cs t (0, 0) h
theorem Blk.frozen (h : Blk w g t cs) (i : Nat) : w.frozen? ⟨g, i, none⟩ = false := frozen_of_row w g i cs t h
theorem Blk.new (w : World) (t : TypeId) (cs : Array Value) : Blk (w.alloc (.cells cs t)) w.heap.size t cs := heap_alloc_new w _
theorem Blk.turn (h : Blk w g t cs) (ht : Turn w w' row) (hr : some g ≠ row) : Blk w' g t cs := (World.grownBy.block ht g h.lt hr).trans h
theorem Blk.turn0 (h : Blk w g t cs) (ht : Turn w w' none) : Blk w' g t cs := h.turn ht (by simp)
theorem Blk.store (h : Blk w g t cs) (i : Nat) (u : Value) : Blk (w.setCell ⟨g, i, none⟩ u) g t (cs.setIfInBounds i u) := heap_setCell_same w g i cs t u h
theorem Blk.drew (h : Blk w g t cs) : Blk w.drew g t cs := h
theorem Blk.drewN (h : Blk w g t cs) (n : Nat) : Blk (w.drewN n) g t cs := h
theorem Blk.alloc (h : Blk w g t cs) (o : Obj) : Blk (w.alloc o) g t cs := h.turn0 (World.grownBy_alloc w o none)
theorem Blk.set_ (h : Blk w g t cs) (i : Nat) (u : Value) : Blk (w.setCell ⟨g, i, none⟩ u) g t (cs.setIfInBounds i u) := by
  unfold Blk at h ⊢
  simp [World.setCell, Array.getElem?_modify, h]
theorem Blk.setTurn (w : World) (g i : Nat) (u : Value) : Turn w (w.setCell ⟨g, i, none⟩ u) (some g) :=
  ⟨rfl, rfl, rfl, by simp [World.setCell], fun k _ hk => Below.heap_setCell _ _ _ _ (fun e => hk (by simp [e]))⟩
end

/-! ### Bytes -/
/-- A byte's cell. -/
def vb (b : UInt8) : Value := .int .u8 (b.toNat : Int)
def vbs (l : List UInt8) : List Value := l.map vb
theorem vbs_len (l : List UInt8) : (vbs l).length = l.length := by simp [vbs]
theorem vbs_one (l : List UInt8) : ∀ u ∈ vbs l, u.oneCell' = true := by
  intro u hu
  obtain ⟨b, _, rfl⟩ := List.mem_map.1 hu
  rfl
theorem vbs_append (l m : List UInt8) : vbs (l ++ m) = vbs l ++ vbs m := by simp [vbs]
theorem vbs_take (l : List UInt8) (k : Nat) : (vbs l).take k = vbs (l.take k) := by simp [vbs]
theorem vbs_drop (l : List UInt8) (k : Nat) : (vbs l).drop k = vbs (l.drop k) := by simp [vbs]
theorem vbs_at (l : List UInt8) (k : Nat) (u : Value) : (vbs l)[k]? = some u → ∃ b, l[k]? = some b ∧ u = .int .u8 (b.toNat : Int) := by
  intro h
  simp only [vbs, List.getElem?_map, Option.map_eq_some_iff] at h
  obtain ⟨b, h1, rfl⟩ := h
  exact ⟨b, h1, rfl⟩

theorem Rd.cutB {w : World} {B n c k : Nat} {A : Option Addr} {l : List UInt8} (h : Rd w B 1 A n (vbs l)) (hk : k ≤ n) (hc : n ≤ c) :
    Rd w B 1 (if c = k then A else Option.map (fun a => a.add k) A) (n - k) (vbs (l.drop k)) := by
  have h2 := h.cut (c := c) hk hc
  rw [Nat.mul_one, vbs_drop] at h2
  exact h2
theorem add_flat (b off k : Nat) : (⟨b, off, none⟩ : Addr).add k = ⟨b, off + k, none⟩ := by
  unfold Addr.add
  split
  · rename_i h; subst h; rfl
  · rfl
/-- The tail of bytes, its address written out. -/
theorem Rd.tailB {w : World} {B n c k b off : Nat} {l : List UInt8} (h : Rd w B 1 (some ⟨b, off, none⟩) n (vbs l)) (hk : k ≤ n) (hc : n ≤ c) (hne : ¬ c = k) :
    Rd w B 1 (some ⟨b, off + k, none⟩) (n - k) (vbs (l.drop k)) := by
  have h2 := h.cutB (c := c) hk hc
  rw [if_neg hne, Option.map_some, add_flat] at h2
  exact h2
theorem Rd.takeB {w : World} {B n k : Nat} {A : Option Addr} {l : List UInt8} (h : Rd w B 1 A n (vbs l)) (hk : k ≤ n) : Rd w B 1 A k (vbs (l.take k)) := by
  have h2 := h.take hk
  rw [Nat.mul_one, vbs_take] at h2
  exact h2

/-- The text of bytes. -/
def txt (l : List UInt8) : ByteArray := ⟨l.toArray⟩
theorem txt_inj {l m : List UInt8} (h : txt l = txt m) : l = m := by simpa [txt] using h
theorem txt_size (l : List UInt8) : (txt l).size = l.length := by simp [txt, ByteArray.size]
theorem txt_toList (l : List UInt8) : (txt l).data.toList = l := by simp [txt]
theorem txt_of (s : ByteArray) : txt s.data.toList = s := by simp [txt]

theorem bytes_back (l : List UInt8) : (l.map fun b => (b.toNat : Int)).map (fun n => UInt8.ofNat n.toNat) = l := by
  induction l with
  | nil => rfl
  | cons b r ih => simp only [List.map_cons, ih]; simp

/-- string(b): the text of the bytes that are seen. -/
theorem run_txt {P : Program} (w : World) (B : Nat) (src dst e : TypeId) (A : Option Addr) (n c : Nat) (l : List UInt8) (hs : P.underlying src = some (.slice e)) (he : P.underlying e = some (.int .u8))
    (hd : P.underlying dst = some .string) (h : Rd w B 1 A n (vbs l)) : (convert src dst (.slice A n c)).run P w = .ok (.string (txt l)) w := by
  rw [run_convert_bytes_string w src dst e _ n c hs he hd]
  cases A with
  | none =>
    have hl : l = [] := by
      cases l with
      | nil => rfl
      | cons b r =>
        obtain ⟨a, ha, _⟩ := h.2 0 (vb b) (by simp [vbs])
        cases ha
    subst hl
    simp [Conv.bytesToString, txt]
    rfl
  | some a =>
    have hl : (loadCells a n).run P w = .ok ((l.map fun b => (b.toNat : Int)).map (Value.int .u8)).toArray w := by
      have h1 := run_loadCells_list (P := P) w a (vbs l) (fun j v hj => by
        obtain ⟨a', ha, _, hc⟩ := h.2 j v hj
        injection ha with ha
        subst ha
        exact hc)
      have h2 : (vbs l).length = n := h.len
      rw [h2] at h1
      rw [h1]
      simp [vbs, vb]
    rw [run_bytesToString w a n c _ hl, foldl_push_bytes]
    rw [bytes_back]
    simp [txt, ByteArray.empty, ByteArray.emptyWithCapacity]
    rfl
end Go.Proofs.Ytjekglnbmccnjaa
/-
  From a statement's row to its walk: what arguments that are read as data are in memory, in the words of this family; how great they are.
-/
namespace Go.Proofs.Ytjekglnbmccnjaa
set_option linter.unusedSimpArgs false
set_option linter.unusedVariables false
open Go.ChangeShapes Go.WideShapes Go.ChangeAt Go.RowKit
open Go.ChangeMaps (open_string shut_string)

theorem frOwn : ownKnob Try.prog.godebug = none := by kernel_rfl
theorem frLaid : laidOutB Try.prog = true := by kernel_rfl

section
variable {H : Type} {enc : TypeId × Value → H} {P : Program} {W : World}

/-- What a slice's datum tells of its capacity. -/
def CapIs (d : DataW H) (len cap : Nat) : Prop := (d = .nil ∧ len = 0 ∧ cap = 0) ∨ ∃ es sp, d = .slice es sp ∧ es.length = len ∧ es.length + sp.length = cap

theorem open_bytes {t e : TypeId} (ht : P.underlying t = some (.slice e)) (he : P.underlying e = some (.int .u8)) (hc : P.cellsOf e = 1) {a : Option Addr} {len cap : Nat} {d : DataW H} {p : List MemPlace}
    (h : DataW.Trod enc P W 0 (fun _ => true) true t (.slice a len cap) d p) : ∃ l : List UInt8, Rd W W.heap.size 1 a len (vbs l) ∧ len ≤ cap ∧ cap ≤ maxLen ∧ CapIs d len cap := by
  obtain ⟨fuel, hf⟩ := h
  rcases open_ints ht he hc hf with ⟨hcs, hx⟩ | ⟨x, l, c, zs, hcs, _, hl, hm, hz, hx, hcell, hwz⟩
  · simp [Value.cells] at hcs
    obtain ⟨rfl, rfl, rfl⟩ := hcs
    injection hx with hx _
    exact ⟨[], Rd.none_ W _ 1 0, Nat.le_refl _, Nat.zero_le _, .inl ⟨hx, rfl, rfl⟩⟩
  · simp [Value.cells] at hcs
    obtain ⟨rfl, rfl, rfl⟩ := hcs
    simp only [if_true] at hz
    injection hx with hx _
    refine ⟨(zs.take len).map fun n => UInt8.ofNat n.toNat, ⟨by simp [vbs, hz]; omega, fun k u hu => ?_⟩, hl, hm, .inr ⟨_, _, hx, ?_, ?_⟩⟩
    · obtain ⟨b, hb, rfl⟩ := vbs_at _ _ _ hu
      simp only [List.getElem?_map, Option.map_eq_some_iff] at hb
      obtain ⟨n, hn, rfl⟩ := hb
      have hk : k < len := by
        have := (List.getElem?_eq_some_iff.1 hn).1
        rw [List.length_take] at this
        omega
      rw [List.getElem?_take_of_lt hk] at hn
      have hmem : n ∈ zs := List.mem_of_getElem? hn
      have hw := hwz n hmem
      have hb2 : 0 ≤ n ∧ n ≤ 255 := by simpa [Lit.wf, IntKind.min, IntKind.max, IntKind.signed, IntKind.bits] using hw
      have hc2 := hcell k (by omega)
      have hget : zs.getD k 0 = n := by simp [List.getD, hn]
      rw [hget] at hc2
      have hcast : ((UInt8.ofNat n.toNat).toNat : Int) = n := by
        rw [UInt8.toNat_ofNat']
        omega
      rw [hcast]
      exact ⟨x, rfl, by have := World.block_lt_of_cell? W _ hc2; rwa [addr_block] at this, hc2⟩
    · simp [lits, hz]; omega
    · simp only [lits, List.length_map, List.length_take, List.length_drop, hz]; omega

/-- An array of two, of elements of one cell, by value. -/
theorem open_arr2 {r : Reach} {b0 : Nat} {t e : TypeId} {v : Value} {d : DataW H} {p : List MemPlace} (ht : P.underlying t = some (.array 2 e)) (hce : P.cellsOf e = 1) (hC : P.cellsOf t = 2)
    (hv : Value.okWide P W r b0 t v) (h : DataW.Trod enc P W 0 (fun _ => true) true t v d p) :
    ∃ (v0 v1 : Value) (y0 y1 : DataW H × List MemPlace) (n : Nat), v = .agg #[v0, v1] ∧ d = .agg [y0.1, y1.1] ∧ p = y0.2 ++ y1.2 ∧
      DataW.trod enc P W 0 (fun _ => true) true n e [v0] = some y0 ∧ DataW.trod enc P W 0 (fun _ => true) true n e [v1] = some y1 := by
  simp only [Value.okWide, ht] at hv
  obtain ⟨cs, rfl, h2, _⟩ := hv
  have hl : cs.toList.length = 2 := by rw [Array.length_toList]; exact h2.trans hC
  obtain ⟨c0, c1, hcs⟩ : ∃ c0 c1, cs.toList = [c0, c1] := by
    match cs.toList, hl with
    | [a, b], _ => exact ⟨a, b, rfl⟩
  obtain rfl : cs = #[c0, c1] := by rw [← Array.toList_inj]; exact hcs
  obtain ⟨fuel, hf⟩ := h
  cases fuel with
  | zero => simp [DataW.trod] at hf
  | succ n =>
    unfold DataW.trod at hf
    rw [ht] at hf
    have r2 : List.range 2 = [0, 1] := rfl
    simp [r2, hce, Value.cells] at hf
    cases h0 : DataW.trod enc P W 0 (fun _ => true) true n e [c0] with
    | none => simp [h0] at hf
    | some y0 =>
      cases h1 : DataW.trod enc P W 0 (fun _ => true) true n e [c1] with
      | none => simp [h0, h1] at hf
      | some y1 =>
        simp [h0, h1] at hf
        exact ⟨c0, c1, y0, y1, n, rfl, hf.2.1.symm, hf.2.2.symm, h0, h1⟩

theorem open_strs {t e : TypeId} (ht : P.underlying t = some (.slice e)) (he : P.underlying e = some .string) (hc : P.cellsOf e = 1) {a : Option Addr} {len cap : Nat} {d : DataW H} {p : List MemPlace}
    (h : DataW.Trod enc P W 0 (fun _ => true) true t (.slice a len cap) d p) : ∃ ss : List ByteArray, Rd W W.heap.size 1 a len (ss.map Value.string) ∧ len ≤ cap ∧ cap ≤ maxLen ∧ (∀ s ∈ ss, s.size ≤ maxLen) ∧
      ((d = .nil ∧ len = 0 ∧ cap = 0) ∨ ∃ sp, d = .slice (strs ss) sp ∧ ss.length = len ∧ ss.length + sp.length = cap) := by
  obtain ⟨fuel, hf⟩ := h
  rcases open_strings ht he hc hf with ⟨hcs, hx⟩ | ⟨x, l, c, zs, hcs, _, hl, hm, hz, hx, hcell, hwz⟩
  · simp [Value.cells] at hcs
    obtain ⟨rfl, rfl, rfl⟩ := hcs
    injection hx with hx _
    exact ⟨[], Rd.none_ W _ 1 0, Nat.le_refl _, Nat.zero_le _, by simp, .inl ⟨hx, rfl, rfl⟩⟩
  · simp [Value.cells] at hcs
    obtain ⟨rfl, rfl, rfl⟩ := hcs
    simp only [if_true] at hz
    injection hx with hx _
    refine ⟨zs.take len, ⟨by simp [hz]; omega, fun k u hu => ?_⟩, hl, hm, fun s hs => hwz s (List.mem_of_mem_take hs), .inr ⟨_, hx, ?_, ?_⟩⟩
    · simp only [List.getElem?_map, Option.map_eq_some_iff] at hu
      obtain ⟨s, hs, rfl⟩ := hu
      have hk : k < len := by
        have := (List.getElem?_eq_some_iff.1 hs).1
        rw [List.length_take] at this
        omega
      rw [List.getElem?_take_of_lt hk] at hs
      have hc2 := hcell k (by omega)
      have hget : zs.getD k ByteArray.empty = s := by simp [List.getD, hs]
      rw [hget] at hc2
      exact ⟨x, rfl, by have := World.block_lt_of_cell? W _ hc2; rwa [addr_block] at this, hc2⟩
    · rw [List.length_take, hz]; omega
    · simp only [strs, List.length_map, List.length_take, List.length_drop, hz]; omega

/-- The reach, of a slice. -/
theorem cap_reach {ts : List TypeId} {ds : List (DataW H)} (h : (DataW.weightsEach P ts ds).all (· ≤ reachBytes) = true) {j : Nat} {t e : TypeId} {d : DataW H} {len cap by_ : Nat} (ht : ts[j]? = some t) (hd : ds[j]? = some d)
    (hu : P.underlying t = some (.slice e)) (hb : P.bytesOf e = by_) (hc : CapIs d len cap) : cap * by_ ≤ 140737488351232 := by
  rcases hc with ⟨_, _, rfl⟩ | ⟨es, sp, rfl, _, rfl⟩
  · simp
  · have := sized_slice h ht hd hu
    rw [hb] at this
    exact this
theorem str_reach {ts : List TypeId} {ds : List (DataW H)} (h : (DataW.weightsEach P ts ds).all (· ≤ reachBytes) = true) {j : Nat} {t : TypeId} {s : ByteArray} (ht : ts[j]? = some t) (hd : ds[j]? = some (.lit (.string s.data.toList))) : s.size ≤ 140737488351232 := by
  have h1 := sized_string h ht hd
  rw [Array.length_toList] at h1
  exact h1

/-- The second form's bound. -/
theorem bulk_part {d : DataW H} {l : List (DataW H)} (h : d ∈ l) : Rows.uptoBulk d ≤ Rows.uptoBulkAll l := by
  induction l with
  | nil => cases h
  | cons x r ih =>
    simp only [Rows.uptoBulkAll]
    rcases List.mem_cons.1 h with e | e
    · subst e; omega
    · have := ih e; omega
theorem bulk_pos (d : DataW H) : 1 ≤ Rows.uptoBulk d := by
  cases d with
  | lit l => cases l <;> simp [Rows.uptoBulk]
  | nil => simp [Rows.uptoBulk]
  | ptr d => simp [Rows.uptoBulk]
  | slice elems spare => simp [Rows.uptoBulk]
  | agg parts => simp [Rows.uptoBulk]
  | iface t d => simp [Rows.uptoBulk]
  | map entries => simp [Rows.uptoBulk]
  | held h => simp [Rows.uptoBulk]
theorem bulk_len (l : List (DataW H)) : l.length ≤ Rows.uptoBulkAll l := by
  induction l with
  | nil => simp [Rows.uptoBulkAll]
  | cons x r ih => have := bulk_pos x; simp only [Rows.uptoBulkAll, List.length_cons]; omega
theorem bulk_all {l : List (DataW H)} (hk : Rows.uptoSmall H l = true) : Rows.uptoBulkAll l ≤ 1048576 := of_decide_eq_true hk
theorem bulk_cap {l : List (DataW H)} {d : DataW H} {len cap : Nat} (hk : Rows.uptoSmall H l = true) (hd : d ∈ l) (hc : CapIs d len cap) : cap ≤ 1048576 := by
  have h1 := bulk_all hk
  have h2 := bulk_part hd
  rcases hc with ⟨_, _, rfl⟩ | ⟨es, sp, rfl, _, rfl⟩
  · omega
  · have h3 := bulk_len es
    have h4 := bulk_len sp
    simp only [Rows.uptoBulk] at h2
    omega
theorem bulk_str {l : List (DataW H)} {s : ByteArray} (hk : Rows.uptoSmall H l = true) (hd : DataW.lit (.string s.data.toList) ∈ l) : s.size ≤ 1048576 := by
  have h1 := bulk_all hk
  have h2 := bulk_part hd
  simp only [Rows.uptoBulk, Array.length_toList] at h2
  have e : s.data.size = s.size := rfl
  omega
/-- Texts: how many bytes they have together. -/
def sumLen (ss : List ByteArray) : Nat := (ss.map (·.size)).sum
theorem bulk_strs {l : List (DataW H)} {d : DataW H} {ss : List ByteArray} {len cap : Nat} (hk : Rows.uptoSmall H l = true) (hd : d ∈ l)
    (hc : (d = .nil ∧ len = 0 ∧ cap = 0) ∨ ∃ sp, d = .slice (strs ss) sp ∧ ss.length = len ∧ ss.length + sp.length = cap) (hl : ss.length = len) : sumLen ss + ss.length ≤ 1048576 := by
  have h1 := bulk_all hk
  have h2 := bulk_part hd
  rcases hc with ⟨_, h0, rfl⟩ | ⟨sp, rfl, _, rfl⟩
  · have : ss = [] := List.eq_nil_of_length_eq_zero (by omega)
    subst this
    simp [sumLen]
  · have h3 : ∀ ss : List ByteArray, Rows.uptoBulkAll (strs (H := H) ss) = sumLen ss + ss.length := by
      intro ss
      induction ss with
      | nil => simp [strs, Rows.uptoBulkAll, sumLen]
      | cons s r ih =>
        have e : strs (H := H) (s :: r) = .lit (.string s.data.toList) :: strs r := rfl
        rw [e, Rows.uptoBulkAll, ih]
        simp only [Rows.uptoBulk, sumLen, List.map_cons, List.sum_cons, List.length_cons, Array.length_toList]
        have e2 : s.data.size = s.size := rfl
        omega
    simp only [Rows.uptoBulk, h3] at h2
    omega
end

theorem bd_u64 {n : Int} (h : (Lit.int .u64 n).wf = true) : 0 ≤ n ∧ n ≤ 18446744073709551615 := by simpa [Lit.wf, IntKind.min, IntKind.max, IntKind.signed, IntKind.bits] using h
theorem bd_u8 {n : Int} (h : (Lit.int .u8 n).wf = true) : 0 ≤ n ∧ n ≤ 255 := by simpa [Lit.wf, IntKind.min, IntKind.max, IntKind.signed, IntKind.bits] using h
theorem bd_u16 {n : Int} (h : (Lit.int .u16 n).wf = true) : 0 ≤ n ∧ n ≤ 65535 := by simpa [Lit.wf, IntKind.min, IntKind.max, IntKind.signed, IntKind.bits] using h
theorem bd_u32 {n : Int} (h : (Lit.int .u32 n).wf = true) : 0 ≤ n ∧ n ≤ 4294967295 := by simpa [Lit.wf, IntKind.min, IntKind.max, IntKind.signed, IntKind.bits] using h
theorem bd_i64 {n : Int} (h : (Lit.int .i64 n).wf = true) : -9223372036854775808 ≤ n ∧ n ≤ 9223372036854775807 := by simpa [Lit.wf, IntKind.min, IntKind.max, IntKind.signed, IntKind.bits] using h
end Go.Proofs.Ytjekglnbmccnjaa
/-
  Numbers whose first byte says how many bytes they have, as plain functions on lists of bytes, and what they come to. No program is named here.
-/
namespace Go.Proofs.Ytjekglnbmccnjaa
set_option linter.unusedSimpArgs false
set_option linter.unusedVariables false

/-- How many bytes a number has; 0: it has none. -/
def pSize (n : Nat) : Nat := if n < 64 then 1 else if n < 16384 then 2 else if n < 1073741824 then 4 else if n < 4611686018427387904 then 8 else 0

/-- k bytes of n, the highest first. -/
def be : Nat → Nat → List UInt8
  | 0, _ => []
  | k + 1, n => UInt8.ofNat (n / 256 ^ k) :: be k n
/-- The number of bytes behind a number. -/
def ube (n : Nat) (l : List UInt8) : Nat := l.foldl (fun n c => n * 256 + c.toNat) n
/-- The highest two bits of the first byte. -/
def mark (k : Nat) : Nat := if k = 2 then 64 else if k = 4 then 128 else if k = 8 then 192 else 0

/-- The bytes of n. -/
def pPut (n : Nat) : List UInt8 :=
  match be (pSize n) n with
  | [] => []
  | c :: r => UInt8.ofNat (c.toNat + mark (pSize n)) :: r

/-- How many bytes the first one says. -/
def pLen (b : UInt8) : Nat := if b.toNat < 64 then 1 else if b.toNat < 128 then 2 else if b.toNat < 192 then 4 else 8

/-- The number with which bytes begin, how many these are, and the error. -/
def pTake : List UInt8 → Nat × Nat × Nat
  | [] => (0, 0, 3)
  | b :: r => if r.length + 1 < pLen b then (0, 0, 3) else if pSize (ube (b.toNat % 64) (r.take (pLen b - 1))) = pLen b then (ube (b.toNat % 64) (r.take (pLen b - 1)), pLen b, 0) else (0, 0, 4)

theorem u8_of {x : Nat} (h : x < 256) : (UInt8.ofNat x).toNat = x := by
  rw [UInt8.toNat_ofNat']
  exact Nat.mod_eq_of_lt h
theorem pLen_pos (b : UInt8) : 0 < pLen b := by
  unfold pLen
  repeat' split
  all_goals omega
theorem pSize_cases (n : Nat) : (n < 64 ∧ pSize n = 1) ∨ (64 ≤ n ∧ n < 16384 ∧ pSize n = 2) ∨ (16384 ≤ n ∧ n < 1073741824 ∧ pSize n = 4) ∨ (1073741824 ≤ n ∧ n < 4611686018427387904 ∧ pSize n = 8) ∨ (4611686018427387904 ≤ n ∧ pSize n = 0) := by
  unfold pSize
  by_cases h1 : n < 64
  · simp [h1]
  by_cases h2 : n < 16384
  · simp [h1, h2]; omega
  by_cases h3 : n < 1073741824
  · simp [h1, h2, h3]; omega
  by_cases h4 : n < 4611686018427387904
  · simp [h1, h2, h3, h4]; omega
  · simp [h1, h2, h3, h4]; omega
theorem pSize_le (n : Nat) : pSize n ≤ 8 := by rcases pSize_cases n with h | h | h | h | h <;> omega

theorem be_len (k n : Nat) : (be k n).length = k := by
  induction k with
  | zero => rfl
  | succ k ih => simp [be, ih]
theorem pPut_len (n : Nat) : (pPut n).length = pSize n := by
  have h := be_len (pSize n) n
  unfold pPut
  cases hb : be (pSize n) n with
  | nil => rw [hb] at h; simpa using h
  | cons c r => rw [hb] at h; simpa using h

theorem ube_cons (n : Nat) (c : UInt8) (l : List UInt8) : ube n (c :: l) = ube (n * 256 + c.toNat) l := rfl
theorem ube_snoc (n : Nat) (c : UInt8) (l : List UInt8) : ube n (l ++ [c]) = ube n l * 256 + c.toNat := by simp [ube]
theorem ube_ge (n : Nat) (l : List UInt8) : n * 256 ^ l.length ≤ ube n l ∧ ube n l < (n + 1) * 256 ^ l.length := by
  induction l generalizing n with
  | nil => simp [ube]
  | cons c l ih =>
    have h := ih (n * 256 + c.toNat)
    have hc : c.toNat < 256 := c.toNat_lt
    rw [ube_cons, List.length_cons, Nat.pow_succ]
    have e1 : n * (256 ^ l.length * 256) = n * 256 * 256 ^ l.length := by rw [Nat.mul_assoc, Nat.mul_comm 256]
    have e2 : (n + 1) * (256 ^ l.length * 256) = (n + 1) * 256 * 256 ^ l.length := by rw [Nat.mul_assoc, Nat.mul_comm 256]
    have h1 : n * 256 * 256 ^ l.length ≤ (n * 256 + c.toNat) * 256 ^ l.length := Nat.mul_le_mul_right _ (by omega)
    have h2 : (n * 256 + c.toNat + 1) * 256 ^ l.length ≤ (n + 1) * 256 * 256 ^ l.length := Nat.mul_le_mul_right _ (by omega)
    rw [e1, e2]
    exact ⟨Nat.le_trans h1 h.1, Nat.lt_of_lt_of_le h.2 h2⟩
/-- The bytes of a number are that number's. -/
theorem ube_be (k n m : Nat) : ube m (be k n) = m * 256 ^ k + n % 256 ^ k := by
  induction k generalizing m with
  | zero => simp [be, ube, Nat.mod_one]
  | succ k ih =>
    rw [be, ube_cons, ih]
    have e : (UInt8.ofNat (n / 256 ^ k)).toNat = n / 256 ^ k % 256 := by simp
    rw [e, Nat.pow_succ, Nat.mod_mul, Nat.add_mul, Nat.mul_assoc, Nat.mul_comm 256 (256 ^ k), Nat.mul_comm (n / 256 ^ k % 256)]
    omega
theorem be_ube (j m : Nat) (l : List UInt8) (h : l.length = j) : be j (ube m l) = l := by
  induction l generalizing j m with
  | nil => subst h; rfl
  | cons c l ih =>
    subst h
    rw [List.length_cons, be, ube_cons, ih _ _ rfl]
    have hb := ube_ge (m * 256 + c.toNat) l
    have hp : 0 < 256 ^ l.length := Nat.pow_pos (by omega)
    have hd : ube (m * 256 + c.toNat) l / 256 ^ l.length = m * 256 + c.toNat := by
      rw [Nat.div_eq_iff hp]
      generalize 256 ^ l.length = p at *
      generalize ube (m * 256 + c.toNat) l = u at *
      have e : (m * 256 + c.toNat + 1) * p = (m * 256 + c.toNat) * p + p := by rw [Nat.add_mul, Nat.one_mul]
      rw [e] at hb
      exact ⟨hb.1, by omega⟩
    rw [hd]
    congr 1
    have e : UInt8.ofNat (m * 256 + c.toNat) = c := by
      apply UInt8.toNat_inj.1
      have hc := c.toNat_lt
      simp
    exact e
theorem ube_div (m : Nat) (l : List UInt8) : ube m l / 256 ^ l.length = m := by
  have hb := ube_ge m l
  have hp : 0 < 256 ^ l.length := Nat.pow_pos (by omega)
  rw [Nat.div_eq_iff hp]
  generalize 256 ^ l.length = p at *
  generalize ube m l = u at *
  have e : (m + 1) * p = m * p + p := by rw [Nat.add_mul, Nat.one_mul]
  rw [e] at hb
  exact ⟨hb.1, by omega⟩

/-- A number's bytes, the first one by itself. -/
theorem pPut_form {n : Nat} (h : pSize n ≠ 0) : ∃ j b, pSize n = j + 1 ∧ j ≤ 7 ∧ n / 256 ^ j < 64 ∧ pPut n = b :: be j n ∧ b.toNat = n / 256 ^ j + mark (j + 1) ∧ pLen b = j + 1 ∧ b.toNat % 64 = n / 256 ^ j := by
  have key : ∀ j m : Nat, pSize n = j + 1 → j ≤ 7 → mark (j + 1) = m → n / 256 ^ j < 64 → m ≤ 192 → m % 64 = 0 → (∀ x, x < 64 → (if x + m < 64 then 1 else if x + m < 128 then 2 else if x + m < 192 then 4 else 8) = j + 1) →
      ∃ j b, pSize n = j + 1 ∧ j ≤ 7 ∧ n / 256 ^ j < 64 ∧ pPut n = b :: be j n ∧ b.toNat = n / 256 ^ j + mark (j + 1) ∧ pLen b = j + 1 ∧ b.toNat % 64 = n / 256 ^ j := by
    intro j m hs hj hm hd hm1 hm2 hl
    have e1 : (UInt8.ofNat (n / 256 ^ j)).toNat = n / 256 ^ j := u8_of (Nat.lt_of_lt_of_le hd (by omega))
    have e2 : (UInt8.ofNat (n / 256 ^ j + m)).toNat = n / 256 ^ j + m := u8_of (by generalize n / 256 ^ j = x at *; omega)
    refine ⟨j, UInt8.ofNat (n / 256 ^ j + m), hs, hj, hd, ?_, by rw [e2, hm], ?_, by rw [e2]; omega⟩
    · unfold pPut
      rw [hs, be]
      simp only []
      rw [e1, hm]
    · unfold pLen
      rw [e2]
      exact hl _ hd
  rcases pSize_cases n with h1 | h1 | h1 | h1 | h1
  · exact key 0 0 (by omega) (by omega) rfl (by omega) (by omega) (by omega) (fun x hx => by rw [if_pos (by omega)])
  · exact key 1 64 (by omega) (by omega) rfl (by omega) (by omega) (by omega) (fun x hx => by rw [if_neg (by omega), if_pos (by omega)])
  · exact key 3 128 (by omega) (by omega) rfl (by omega) (by omega) (by omega) (fun x hx => by rw [if_neg (by omega), if_neg (by omega), if_pos (by omega)])
  · exact key 7 192 (by omega) (by omega) rfl (by omega) (by omega) (by omega) (fun x hx => by rw [if_neg (by omega), if_neg (by omega), if_neg (by omega)])
  · omega

theorem pTake_put {n : Nat} (h : pSize n ≠ 0) (r : List UInt8) : pTake (pPut n ++ r) = (n, pSize n, 0) := by
  obtain ⟨j, b, hs, hj, hd, hp, hb, hl, hm⟩ := pPut_form h
  have hbl := be_len j n
  rw [hp, List.cons_append, pTake, hl, hm]
  rw [if_neg (by rw [List.length_append, hbl]; omega)]
  have e : (be j n ++ r).take (j + 1 - 1) = be j n := by
    rw [Nat.add_sub_cancel, List.take_append_of_le_length (by omega), List.take_of_length_le (by omega)]
  rw [e, ube_be]
  have e2 : n / 256 ^ j * 256 ^ j + n % 256 ^ j = n := Nat.div_add_mod' n (256 ^ j)
  rw [e2, if_pos hs, hs]

theorem pTake_short {n k : Nat} (hk : k < pSize n) : pTake ((pPut n).take k) = (0, 0, 3) := by
  obtain ⟨j, b, hs, hj, hd, hp, hb, hl, hm⟩ := pPut_form (n := n) (by omega)
  have hbl := be_len j n
  rw [hp]
  cases k with
  | zero => rfl
  | succ k =>
    rw [List.take_succ_cons, pTake, hl, if_pos]
    rw [List.length_take, hbl]
    omega

theorem pTake_ok {l : List UInt8} {n k : Nat} (h : pTake l = (n, k, 0)) : pSize n = k ∧ 0 < k ∧ k ≤ l.length ∧ pPut n = l.take k := by
  cases l with
  | nil => simp [pTake] at h
  | cons b r =>
    rw [pTake] at h
    split at h
    · simp at h
    rename_i hlen
    split at h
    · rename_i hs
      simp only [Prod.mk.injEq, and_true] at h
      obtain ⟨rfl, rfl⟩ := h
      have hpos : 0 < pLen b := pLen_pos b
      have hne : pSize (ube (b.toNat % 64) (r.take (pLen b - 1))) ≠ 0 := by omega
      refine ⟨hs, hpos, by rw [List.length_cons]; omega, ?_⟩
      obtain ⟨j, b', hs', hj, hd, hp, hb, hl, hm⟩ := pPut_form hne
      have hj' : pLen b - 1 = j := by omega
      have hlen2 : (r.take (pLen b - 1)).length = j := by rw [List.length_take]; omega
      rw [hp]
      have hdiv := ube_div (b.toNat % 64) (r.take (pLen b - 1))
      rw [hlen2] at hdiv
      have hbe := be_ube j (b.toNat % 64) (r.take (pLen b - 1)) hlen2
      have hb2 : b' = b := by
        apply UInt8.toNat_inj.1
        rw [hb, hdiv, ← hs', hs]
        unfold pLen mark
        have := b.toNat_lt
        by_cases c1 : b.toNat < 64
        · simp [c1]
        by_cases c2 : b.toNat < 128
        · simp [c1, c2]; omega
        by_cases c3 : b.toNat < 192
        · simp [c1, c2, c3]; omega
        · simp [c1, c2, c3]; omega
      rw [hbe, hb2]
      have e : pLen b = (pLen b - 1) + 1 := by omega
      rw [e, List.take_succ_cons]
      rw [Nat.add_sub_cancel]
    · simp only [Prod.mk.injEq] at h
      omega

/-- The order of bytes, and of numbers of one size. -/
theorem less_be (j a b : Nat) (ha : a < 256 ^ j) (hb : b < 256 ^ j) : Op.bytesLess (be j a) (be j b) = decide (a < b) := by
  induction j generalizing a b with
  | zero => simp at ha hb; subst ha; subst hb; rfl
  | succ j ih =>
    have hp : 0 < 256 ^ j := Nat.pow_pos (by omega)
    rw [be, be]
    have mod_be : ∀ n, be j n = be j (n % 256 ^ j) := by
      intro n
      have h1 := ube_be j n 0
      have h2 := be_ube j 0 (be j n) (be_len j n)
      rw [h1] at h2
      simpa using h2.symm
    have e1 : (UInt8.ofNat (a / 256 ^ j)).toNat = a / 256 ^ j := u8_of (by rw [Nat.div_lt_iff_lt_mul hp]; rw [Nat.pow_succ, Nat.mul_comm] at ha; exact ha)
    have e2 : (UInt8.ofNat (b / 256 ^ j)).toNat = b / 256 ^ j := u8_of (by rw [Nat.div_lt_iff_lt_mul hp]; rw [Nat.pow_succ, Nat.mul_comm] at hb; exact hb)
    have hma : a % 256 ^ j < 256 ^ j := Nat.mod_lt _ hp
    have hmb : b % 256 ^ j < 256 ^ j := Nat.mod_lt _ hp
    have hda := Nat.div_add_mod' a (256 ^ j)
    have hdb := Nat.div_add_mod' b (256 ^ j)
    rw [Op.bytesLess, mod_be a, mod_be b, ih _ _ hma hmb]
    have c1 : (decide (UInt8.ofNat (a / 256 ^ j) < UInt8.ofNat (b / 256 ^ j))) = decide (a / 256 ^ j < b / 256 ^ j) := by
      rw [decide_eq_decide, UInt8.lt_iff_toNat_lt, e1, e2]
    have c2 : (UInt8.ofNat (a / 256 ^ j) == UInt8.ofNat (b / 256 ^ j)) = decide (a / 256 ^ j = b / 256 ^ j) := by
      rw [Bool.eq_iff_iff, beq_iff_eq, decide_eq_true_iff, ← UInt8.toNat_inj, e1, e2]
    rw [c1, c2]
    generalize 256 ^ j = p at *
    generalize a / p = x at *
    generalize b / p = y at *
    generalize a % p = u at *
    generalize b % p = v at *
    rw [← hda, ← hdb]
    rcases Nat.lt_trichotomy x y with h | h | h
    · have h2 : (x + 1) * p ≤ y * p := Nat.mul_le_mul_right p h
      rw [Nat.add_mul, Nat.one_mul] at h2
      have h3 : x * p + u < y * p + v := by omega
      simp [h, h3]
    · subst h
      simp
    · have h2 : (y + 1) * p ≤ x * p := Nat.mul_le_mul_right p h
      rw [Nat.add_mul, Nat.one_mul] at h2
      have h3 : ¬ x * p + u < y * p + v := by omega
      have h4 : ¬ x < y := by omega
      have h5 : ¬ x = y := by omega
      simp [h3, h4, h5]

theorem less_put {a b : Nat} (h : pSize a = pSize b) (h0 : pSize a ≠ 0) : Op.bytesLess (pPut a) (pPut b) = decide (a < b) := by
  obtain ⟨j, x, hs, hj, hd, hp, hb, hl, hm⟩ := pPut_form h0
  obtain ⟨j', y, hs', hj', hd', hp', hb', hl', hm'⟩ := pPut_form (n := b) (by omega)
  obtain rfl : j' = j := by omega
  have hpow : 0 < 256 ^ j' := Nat.pow_pos (by omega)
  have ha : a < 256 ^ (j' + 1) := by
    rw [Nat.pow_succ, Nat.mul_comm]
    have := (Nat.div_lt_iff_lt_mul hpow).1 hd
    omega
  have hbb : b < 256 ^ (j' + 1) := by
    rw [Nat.pow_succ, Nat.mul_comm]
    have := (Nat.div_lt_iff_lt_mul hpow).1 hd'
    omega
  have hbase := less_be (j' + 1) a b ha hbb
  rw [be, be, Op.bytesLess] at hbase
  have e1 : (UInt8.ofNat (a / 256 ^ j')).toNat = a / 256 ^ j' := u8_of (Nat.lt_of_lt_of_le hd (by omega))
  have e2 : (UInt8.ofNat (b / 256 ^ j')).toNat = b / 256 ^ j' := u8_of (Nat.lt_of_lt_of_le hd' (by omega))
  rw [hp, hp', Op.bytesLess, ← hbase]
  have c1 : decide (x < y) = decide (UInt8.ofNat (a / 256 ^ j') < UInt8.ofNat (b / 256 ^ j')) := by
    rw [decide_eq_decide, UInt8.lt_iff_toNat_lt, UInt8.lt_iff_toNat_lt, e1, e2, hb, hb']; omega
  have c2 : (x == y) = (UInt8.ofNat (a / 256 ^ j') == UInt8.ofNat (b / 256 ^ j')) := by
    rw [Bool.eq_iff_iff, beq_iff_eq, beq_iff_eq, ← UInt8.toNat_inj, ← UInt8.toNat_inj, e1, e2, hb, hb']; omega
  rw [c1, c2]
end Go.Proofs.Ytjekglnbmccnjaa
/-
  Layer 2, its pure side: sums of 32 bits, bit by bit; what they are of bytes, of bytes and others behind them, of sums xored, and of bytes with their sum behind them.
-/
namespace Go.Proofs.Ytjekglnbmccnjaa
set_option linter.unusedSimpArgs false
set_option linter.unusedVariables false
open Go.RowKit

/-- The divisor. -/
def cD : BitVec 32 := 0x04c11db7#32
/-- One bit leaves at the top. -/
def cStep (s : BitVec 32) : BitVec 32 := if s.msb then (s <<< 1) ^^^ cD else s <<< 1
def cSteps : Nat → BitVec 32 → BitVec 32
  | 0, s => s
  | n + 1, s => cSteps n (cStep s)
/-- A byte at the top of 32 bits. -/
def cTop (c : UInt8) : BitVec 32 := BitVec.ofNat 32 c.toNat <<< 24
def cByte (s : BitVec 32) (c : UInt8) : BitVec 32 := cSteps 8 (s ^^^ cTop c)
def cGo (s : BitVec 32) (l : List UInt8) : BitVec 32 := l.foldl cByte s
def cSum (l : List UInt8) : BitVec 32 := cGo 0xffffffff#32 l
/-- A sum as an integer. -/
def cV (s : BitVec 32) : Int := (s.toNat : Int)

theorem cV_bd (s : BitVec 32) : 0 ≤ cV s ∧ cV s ≤ 4294967295 := by
  have h := s.isLt
  unfold cV
  omega
theorem cV_inj {s t : BitVec 32} (h : cV s = cV t) : s = t := by
  unfold cV at h
  exact BitVec.eq_of_toNat_eq (by omega)
theorem cV_of {n : Int} (h0 : 0 ≤ n) (h1 : n ≤ 4294967295) : ∃ s, n = cV s := by
  obtain ⟨k, rfl⟩ := Int.eq_ofNat_of_zero_le h0
  refine ⟨BitVec.ofNat 32 k, ?_⟩
  unfold cV
  rw [BitVec.toNat_ofNat, Nat.mod_eq_of_lt (by omega)]
theorem cV_xor (s t : BitVec 32) : bits .xor .u32 (cV s) (cV t) = cV (s ^^^ t) := by
  unfold cV
  rw [u32_xor_nat _ _ s.isLt t.isLt, BitVec.toNat_xor]
theorem cV_or (s t : BitVec 32) : bits .or .u32 (cV s) (cV t) = cV (s ||| t) := by
  unfold cV
  rw [u32_or_nat _ _ s.isLt t.isLt, BitVec.toNat_or]
theorem cV_shl (s : BitVec 32) (k : Nat) : cV s * 2 ^ k % 4294967296 = cV (s <<< k) := by
  unfold cV
  rw [BitVec.toNat_shiftLeft, Nat.shiftLeft_eq]
  simp
theorem cV_shr (s : BitVec 32) (k : Nat) : cV s / 2 ^ k = cV (s >>> k) := by
  unfold cV
  rw [BitVec.toNat_ushiftRight, Nat.shiftRight_eq_div_pow]
  simp

/-- One bit, as the code does it. -/
theorem cStep_code (s : BitVec 32) : bits .xor .u32 (cV s * 2 % 4294967296) (cV s / 2147483648 * 79764919) = cV (cStep s) := by
  have e2 : cV s * (2 : Int) % (4294967296 : Int) = cV (s <<< 1) := by
    unfold cV
    rw [BitVec.toNat_shiftLeft, Nat.shiftLeft_eq]
    omega
  have hb := s.isLt
  have hm : s.msb = decide (2 ^ 31 ≤ s.toNat) := by rw [BitVec.msb_eq_decide]
  have e3 : cV s / 2147483648 * 79764919 = cV (if s.msb then cD else 0#32) := by
    rw [hm]
    by_cases h : 2 ^ 31 ≤ s.toNat
    · rw [decide_eq_true h, if_pos rfl]
      show (s.toNat : Int) / 2147483648 * 79764919 = 79764919
      omega
    · rw [decide_eq_false h]
      show (s.toNat : Int) / 2147483648 * 79764919 = 0
      omega
  rw [e2, e3, cV_xor]
  unfold cStep
  cases s.msb <;> simp

theorem cIdx {j : Nat} (h : j < 16) : (j : Int) * 268435456 = cV (BitVec.ofNat 32 j <<< 28) := by
  unfold cV
  rw [BitVec.toNat_shiftLeft, BitVec.toNat_ofNat, Nat.shiftLeft_eq]
  omega
theorem cStep_hi {s : BitVec 32} (h : (2147483648 : Int) ≤ cV s) : bits .xor .u32 (cV s * (2 : Int) % (4294967296 : Int)) (79764919 : Int) = cV (cStep s) := by
  have e := cStep_code s
  have hb := cV_bd s
  have e2 : cV s / (2147483648 : Int) * (79764919 : Int) = (79764919 : Int) := by omega
  rw [e2] at e
  exact e
theorem cStep_lo {s : BitVec 32} (h : cV s < (2147483648 : Int)) : cV s * (2 : Int) = cV (cStep s) := by
  unfold cV at h ⊢
  have hm : s.msb = false := by rw [BitVec.msb_eq_decide]; simp; omega
  have hs : cStep s = s <<< 1 := by rw [cStep, hm]; rfl
  rw [hs, BitVec.toNat_shiftLeft, Nat.shiftLeft_eq]
  omega
theorem cTop_code (c : UInt8) : (c.toNat : Int) * 16777216 = cV (cTop c) := by
  have := c.toNat_lt
  unfold cV cTop
  rw [BitVec.toNat_shiftLeft, BitVec.toNat_ofNat, Nat.shiftLeft_eq]
  omega
theorem cLo_code (s : BitVec 32) : cV s * (16 : Int) % (4294967296 : Int) = cV (s <<< 4) := by
  unfold cV
  rw [BitVec.toNat_shiftLeft, Nat.shiftLeft_eq]
  omega
theorem cStep_xor (s t : BitVec 32) : cStep (s ^^^ t) = cStep s ^^^ cStep t := by
  unfold cStep
  rw [BitVec.msb_xor, BitVec.shiftLeft_xor_distrib]
  cases s.msb <;> cases t.msb <;> simp
  · ac_rfl
  · ac_rfl
  · generalize cD = d
    generalize s <<< 1 = x
    generalize t <<< 1 = y
    rw [show x ^^^ d ^^^ (y ^^^ d) = x ^^^ y ^^^ (d ^^^ d) by ac_rfl, BitVec.xor_self, BitVec.xor_zero]
theorem cSteps_xor (n : Nat) : ∀ s t, cSteps n (s ^^^ t) = cSteps n s ^^^ cSteps n t := by
  induction n with
  | zero => intro s t; rfl
  | succ n ih => intro s t; rw [cSteps, cSteps, cSteps, cStep_xor, ih]
theorem cSteps_add (n m : Nat) : ∀ s, cSteps (n + m) s = cSteps m (cSteps n s) := by
  induction n with
  | zero => intro s; rw [Nat.zero_add]; rfl
  | succ n ih => intro s; rw [Nat.succ_add, cSteps, cSteps, ih]
theorem cSteps_last (n : Nat) (s : BitVec 32) : cSteps (n + 1) s = cStep (cSteps n s) := by
  rw [cSteps_add n 1]; rfl
/-- Bits that are nought at the top leave without a trace. -/
theorem cSteps_low (n : Nat) : ∀ s : BitVec 32, s.toNat * 2 ^ n < 2 ^ 32 → cSteps n s = s <<< n := by
  induction n with
  | zero => intro s _; simp [cSteps]
  | succ n ih =>
    intro s h
    have h2 : s.toNat * 2 * 2 ^ n < 2 ^ 32 := by rw [Nat.mul_assoc, ← Nat.pow_succ']; exact h
    have h1 : s.toNat * 2 < 2 ^ 32 := by
      have := Nat.le_mul_of_pos_right (s.toNat * 2) (Nat.two_pow_pos n)
      omega
    have hm : s.msb = false := by rw [BitVec.msb_eq_decide]; simp; omega
    have hs : cStep s = s <<< 1 := by rw [cStep, hm]; rfl
    have ht : (s <<< 1).toNat = s.toNat * 2 := by
      rw [BitVec.toNat_shiftLeft, Nat.shiftLeft_eq, Nat.pow_one, Nat.mod_eq_of_lt h1]
    rw [cSteps, hs, ih _ (by rw [ht]; exact h2), ← BitVec.shiftLeft_add, Nat.add_comm]
/-- Half a byte leaves at once. -/
theorem cHalf (s : BitVec 32) : cSteps 4 s = (s <<< 4) ^^^ cSteps 4 ((s >>> 28) <<< 28) := by
  have e : s = (s &&& 0x0fffffff#32) ^^^ ((s >>> 28) <<< 28) := by
    apply BitVec.eq_of_getLsbD_eq
    intro i hi
    simp only [BitVec.getLsbD_xor, BitVec.getLsbD_and, BitVec.getLsbD_shiftLeft, BitVec.getLsbD_ushiftRight]
    have key : ∀ i, i < 32 → ((0x0fffffff#32).getLsbD i = decide (i < 28)) := by decide +kernel
    rw [key i hi]
    by_cases h : i < 28
    · simp [h]
    · simp [h, hi, show 28 + (i - 28) = i by omega]
  have h4 : cSteps 4 (s &&& 0x0fffffff#32) = s <<< 4 := by
    rw [cSteps_low]
    · apply BitVec.eq_of_toNat_eq
      simp only [BitVec.toNat_shiftLeft, BitVec.toNat_and, Nat.shiftLeft_eq]
      rw [show (0x0fffffff#32).toNat = 2 ^ 28 - 1 from rfl, Nat.and_two_pow_sub_one_eq_mod]
      omega
    · rw [BitVec.toNat_and, show (0x0fffffff#32).toNat = 2 ^ 28 - 1 from rfl, Nat.and_two_pow_sub_one_eq_mod]
      omega
  rw [← h4, ← cSteps_xor, ← e]
/-- The table of half bytes. -/
def cTab (i : Nat) : BitVec 32 := cSteps 4 (BitVec.ofNat 32 i <<< 28)
/-- The number of the half byte at the top, and what the table has for it. -/
def cHi (s : BitVec 32) : Nat := (s >>> 28).toNat
def cTb (s : BitVec 32) : BitVec 32 := cTab (cHi s)
theorem cHi_code (s : BitVec 32) : Int.toNat (cV s / (268435456 : Int)) = cHi s := by
  unfold cV
  rw [cHi, BitVec.toNat_ushiftRight, Nat.shiftRight_eq_div_pow]
  omega
theorem cHi_lt (s : BitVec 32) : cHi s < 16 := by
  have := s.isLt
  rw [cHi, BitVec.toNat_ushiftRight, Nat.shiftRight_eq_div_pow]
  omega
theorem cHalf_tab (s : BitVec 32) : (s <<< 4) ^^^ cTb s = cSteps 4 s := by
  rw [cHalf s, cTb, cHi, cTab, BitVec.ofNat_toNat, BitVec.setWidth_eq]
theorem cByte_tab (s : BitVec 32) (c : UInt8) (x y : BitVec 32) (hx : s ^^^ cTop c = x) (hy : (x <<< 4) ^^^ cTb x = y) : (y <<< 4) ^^^ cTb y = cByte s c := by
  subst hx
  rw [cHalf_tab] at hy ⊢
  subst hy
  rw [cByte, ← cSteps_add]

theorem cGo_nil (s : BitVec 32) : cGo s [] = s := rfl
theorem cGo_app (s : BitVec 32) (l m : List UInt8) : cGo (cGo s l) m = cGo s (l ++ m) := by simp [cGo]
theorem cGo_last (s : BitVec 32) (l : List UInt8) (c : UInt8) : cGo s (l ++ [c]) = cByte (cGo s l) c := by simp [cGo]
theorem cByte_xor (s t : BitVec 32) (c : UInt8) : cByte (s ^^^ t) c = cByte s 0 ^^^ cByte t c := by
  unfold cByte
  rw [← cSteps_xor]
  congr 1
  have : cTop 0 = 0#32 := by decide
  rw [this, BitVec.xor_zero, BitVec.xor_assoc]
theorem cGo_xor (l : List UInt8) : ∀ s t, cGo (s ^^^ t) l = cGo s (List.replicate l.length 0) ^^^ cGo t l := by
  induction l with
  | nil => intro s t; rfl
  | cons c r ih =>
    intro s t
    show cGo (cByte (s ^^^ t) c) r = cGo (cByte s 0) (List.replicate r.length 0) ^^^ cGo (cByte t c) r
    rw [cByte_xor, ih]

/-- A sum's bytes, the highest first. -/
def cBs (s : BitVec 32) : List UInt8 := [UInt8.ofNat (s.toNat / 16777216), UInt8.ofNat (s.toNat / 65536), UInt8.ofNat (s.toNat / 256), UInt8.ofNat s.toNat]
theorem cTop_nat (x : Nat) : (cTop (UInt8.ofNat x)).toNat = x % 256 * 16777216 := by
  unfold cTop
  rw [BitVec.toNat_shiftLeft, BitVec.toNat_ofNat, Nat.shiftLeft_eq, UInt8.toNat_ofNat']
  omega
/-- The top byte goes out by itself: the other three move up. -/
theorem cByte_self (s : BitVec 32) : cByte s (UInt8.ofNat (s.toNat / 16777216)) = s <<< 8 := by
  have e : s = (s &&& 0x00ffffff#32) ^^^ cTop (UInt8.ofNat (s.toNat / 16777216)) := by
    have h1 : cTop (UInt8.ofNat (s.toNat / 16777216)) = (s >>> 24) <<< 24 := by
      apply BitVec.eq_of_toNat_eq
      rw [cTop_nat, BitVec.toNat_shiftLeft, BitVec.toNat_ushiftRight, Nat.shiftLeft_eq, Nat.shiftRight_eq_div_pow]
      have := s.isLt
      omega
    rw [h1]
    apply BitVec.eq_of_getLsbD_eq
    intro i hi
    simp only [BitVec.getLsbD_xor, BitVec.getLsbD_and, BitVec.getLsbD_shiftLeft, BitVec.getLsbD_ushiftRight]
    have key : ∀ i, i < 32 → ((0x00ffffff#32).getLsbD i = decide (i < 24)) := by decide +kernel
    rw [key i hi]
    by_cases h : i < 24
    · simp [h]
    · simp [h, hi, show 24 + (i - 24) = i by omega]
  have e2 : s ^^^ cTop (UInt8.ofNat (s.toNat / 16777216)) = s &&& 0x00ffffff#32 := by
    generalize cTop (UInt8.ofNat (s.toNat / 16777216)) = t at e
    generalize s &&& 0x00ffffff#32 = u at e
    rw [e, BitVec.xor_assoc, BitVec.xor_self, BitVec.xor_zero]
  rw [cByte, e2, cSteps_low]
  · apply BitVec.eq_of_toNat_eq
    simp only [BitVec.toNat_shiftLeft, BitVec.toNat_and, Nat.shiftLeft_eq]
    rw [show (0x00ffffff#32).toNat = 2 ^ 24 - 1 from rfl, Nat.and_two_pow_sub_one_eq_mod]
    omega
  · rw [BitVec.toNat_and, show (0x00ffffff#32).toNat = 2 ^ 24 - 1 from rfl, Nat.and_two_pow_sub_one_eq_mod]
    omega
theorem cGo_self (s : BitVec 32) : cGo s (cBs s) = 0#32 := by
  have sh : ∀ (k : Nat) (j : Nat), (s <<< k).toNat / 16777216 = s.toNat * 2 ^ k % 4294967296 / 16777216 := fun k j => by
    rw [BitVec.toNat_shiftLeft, Nat.shiftLeft_eq]
  have u8 : ∀ x y : Nat, x % 256 = y % 256 → UInt8.ofNat x = UInt8.ofNat y := fun x y h => by
    apply UInt8.toNat_inj.1
    simpa using h
  show cByte (cByte (cByte (cByte s _) _) _) _ = _
  rw [cByte_self]
  have e1 : UInt8.ofNat (s.toNat / 65536) = UInt8.ofNat ((s <<< 8).toNat / 16777216) := u8 _ _ (by rw [sh 8 0]; omega)
  rw [e1, cByte_self, ← BitVec.shiftLeft_add]
  have e2 : UInt8.ofNat (s.toNat / 256) = UInt8.ofNat ((s <<< (8 + 8)).toNat / 16777216) := u8 _ _ (by rw [sh (8 + 8) 0]; omega)
  rw [e2, cByte_self, ← BitVec.shiftLeft_add]
  have e3 : UInt8.ofNat s.toNat = UInt8.ofNat ((s <<< (8 + 8 + 8)).toNat / 16777216) := u8 _ _ (by rw [sh (8 + 8 + 8) 0]; omega)
  rw [e3, cByte_self, ← BitVec.shiftLeft_add]
  exact BitVec.shiftLeft_eq_zero (by decide)
theorem cSum_nought (l : List UInt8) : cSum (l ++ cBs (cSum l)) = 0#32 := by
  rw [cSum, ← cGo_app]
  exact cGo_self _

/-- The sum that four bytes are, the highest first. -/
def cOf (l : List UInt8) : BitVec 32 := l.foldl (fun s c => (s <<< 8) ||| BitVec.ofNat 32 c.toNat) 0#32
theorem cOf_last (l : List UInt8) (c : UInt8) : cOf (l ++ [c]) = (cOf l <<< 8) ||| BitVec.ofNat 32 c.toNat := by simp [cOf]
theorem cOr_code (s : BitVec 32) (c : UInt8) : bits .or .u32 (cV s * (256 : Int) % (4294967296 : Int)) (c.toNat : Int) = cV ((s <<< 8) ||| BitVec.ofNat 32 c.toNat) := by
  have := c.toNat_lt
  have e1 : cV s * (256 : Int) % (4294967296 : Int) = cV (s <<< 8) := by
    unfold cV
    rw [BitVec.toNat_shiftLeft, Nat.shiftLeft_eq]
    omega
  have e2 : (c.toNat : Int) = cV (BitVec.ofNat 32 c.toNat) := by
    unfold cV
    rw [BitVec.toNat_ofNat, Nat.mod_eq_of_lt (by omega)]
  rw [e1, e2, cV_or]
theorem cOf_bytes {l : List UInt8} (h : l.length = 4) : cBs (cOf l) = l := by
  match l, h with
  | [a, b, c, d], _ =>
    have ha := a.toNat_lt
    have hb := b.toNat_lt
    have hc := c.toNat_lt
    have hd := d.toNat_lt
    have e : (cOf [a, b, c, d]).toNat = a.toNat * 16777216 + b.toNat * 65536 + c.toNat * 256 + d.toNat := by
      have or8 : ∀ (s : BitVec 32) (x : UInt8), s.toNat < 16777216 → ((s <<< 8) ||| BitVec.ofNat 32 x.toNat).toNat = s.toNat * 256 + x.toNat := by
        intro s x hs
        have hx := x.toNat_lt
        rw [BitVec.toNat_or, BitVec.toNat_shiftLeft, BitVec.toNat_ofNat, Nat.shiftLeft_eq, Nat.mod_eq_of_lt (by omega), Nat.mod_eq_of_lt (by omega)]
        have h := Nat.two_pow_add_eq_or_of_lt (i := 8) (b := x.toNat) (by omega) s.toNat
        rw [Nat.mul_comm] at h
        exact h.symm
      show ((((0#32 <<< 8 ||| BitVec.ofNat 32 a.toNat) <<< 8 ||| BitVec.ofNat 32 b.toNat) <<< 8 ||| BitVec.ofNat 32 c.toNat) <<< 8 ||| BitVec.ofNat 32 d.toNat).toNat = _
      have h1 := or8 0#32 a (by simp)
      have h2 := or8 _ b (by rw [h1]; simp; omega)
      have h3 := or8 _ c (by rw [h2, h1]; simp; omega)
      have h4 := or8 _ d (by rw [h3, h2, h1]; simp; omega)
      rw [h4, h3, h2, h1]
      simp
      omega
    unfold cBs
    rw [e]
    have u8 : ∀ (x : Nat) (y : UInt8), x % 256 = y.toNat → UInt8.ofNat x = y := fun x y h => by
      apply UInt8.toNat_inj.1
      simpa using h
    rw [u8 _ a (by omega), u8 _ b (by omega), u8 _ c (by omega), u8 _ d (by omega)]
theorem cBs_inj {s t : BitVec 32} (h : cBs s = cBs t) : s = t := by
  unfold cBs at h
  simp only [List.cons.injEq, and_true] at h
  obtain ⟨h1, h2, h3, h4⟩ := h
  have k : ∀ x y : Nat, UInt8.ofNat x = UInt8.ofNat y → x % 256 = y % 256 := fun x y h => by
    have := congrArg UInt8.toNat h
    simpa using this
  have h1 := k _ _ h1
  have h2 := k _ _ h2
  have h3 := k _ _ h3
  have h4 := k _ _ h4
  have hs := s.isLt
  have ht := t.isLt
  exact BitVec.eq_of_toNat_eq (by omega)
/-- Whether bytes end with their sum. -/
def cGood (l : List UInt8) : Bool := decide (4 ≤ l.length) && (cBs (cSum (l.take (l.length - 4))) == l.drop (l.length - 4))
theorem cGood_of {l : List UInt8} (h : 4 ≤ l.length) : cGood l = (cOf (l.drop (l.length - 4)) == cSum (l.take (l.length - 4))) := by
  have h4 : (l.drop (l.length - 4)).length = 4 := by simp; omega
  unfold cGood
  rw [decide_eq_true h, Bool.true_and, Bool.eq_iff_iff, beq_iff_eq, beq_iff_eq]
  constructor
  · intro e
    rw [← cOf_bytes h4] at e
    exact (cBs_inj e).symm
  · intro e
    rw [← e, cOf_bytes h4]
theorem cGood_self (l : List UInt8) : cGood (l ++ cBs (cSum l)) = true := by
  have h : (cBs (cSum l)).length = 4 := rfl
  unfold cGood
  rw [List.length_append, h, Nat.add_sub_cancel, List.take_left, List.drop_left]
  simp
end Go.Proofs.Ytjekglnbmccnjaa
/-
  Layer 5, the pure side of a burst: bytes of which up to 32 bits in a row are others have another sum.
-/
namespace Go.Proofs.Ytjekglnbmccnjaa
set_option linter.unusedSimpArgs false
set_option linter.unusedVariables false

/-- A step that takes a bit in at the top. -/
def bStep (s : BitVec 32) (b : Bool) : BitVec 32 := cStep (s ^^^ (if b then 0x80000000#32 else 0#32))
def bGo (s : BitVec 32) (l : List Bool) : BitVec 32 := l.foldl bStep s
/-- The bits of a byte, the highest first. -/
def bBits (c : UInt8) : List Bool := [c.toNat.testBit 7, c.toNat.testBit 6, c.toNat.testBit 5, c.toNat.testBit 4, c.toNat.testBit 3, c.toNat.testBit 2, c.toNat.testBit 1, c.toNat.testBit 0]
def bAll (l : List UInt8) : List Bool := l.flatMap bBits
/-- Up to 32 bits as a word, the first one at the top. -/
def bWord : List Bool → BitVec 32
  | [] => 0#32
  | b :: r => (if b then 0x80000000#32 else 0#32) ^^^ (bWord r >>> 1)

theorem cStep_zero : cStep 0#32 = 0#32 := by decide
theorem cSteps_zero (n : Nat) : cSteps n 0#32 = 0#32 := by
  induction n with
  | zero => rfl
  | succ n ih => rw [cSteps, cStep_zero, ih]
theorem xor_self_eq {s t : BitVec 32} (h : s ^^^ t = 0#32) : s = t := by
  have : s ^^^ t ^^^ t = 0#32 ^^^ t := by rw [h]
  rwa [BitVec.xor_assoc, BitVec.xor_self, BitVec.xor_zero, BitVec.zero_xor] at this
/-- A step loses nothing: the divisor is odd. -/
theorem cStep_ne {s : BitVec 32} (h : cStep s = 0#32) : s = 0#32 := by
  unfold cStep at h
  cases hm : s.msb with
  | true =>
    rw [hm, if_pos rfl] at h
    have e := xor_self_eq h
    have : (s <<< 1).getLsbD 0 = cD.getLsbD 0 := by rw [e]
    simp [cD] at this
  | false =>
    rw [hm] at h
    simp only [Bool.false_eq_true, if_false] at h
    have h1 : (s <<< 1).toNat = 0 := by rw [h]; rfl
    rw [BitVec.toNat_shiftLeft, Nat.shiftLeft_eq] at h1
    have h2 : s.toNat < 2 ^ 31 := by
      have := BitVec.msb_eq_decide s
      rw [hm] at this
      simp at this
      omega
    apply BitVec.eq_of_toNat_eq
    simp
    omega
theorem cSteps_ne (n : Nat) : ∀ {s : BitVec 32}, cSteps n s = 0#32 → s = 0#32 := by
  induction n with
  | zero => intro s h; exact h
  | succ n ih => intro s h; exact cStep_ne (ih h)

theorem bGo_app (s : BitVec 32) (l m : List Bool) : bGo s (l ++ m) = bGo (bGo s l) m := by simp [bGo]
theorem bGo_noughts (n : Nat) : ∀ s, bGo s (List.replicate n false) = cSteps n s := by
  induction n with
  | zero => intro s; rfl
  | succ n ih =>
    intro s
    rw [List.replicate_succ]
    show bGo (bStep s false) (List.replicate n false) = _
    rw [ih, bStep, cSteps]
    simp
/-- Bits that come in at the top, one by one: as if they had stood there at first. -/
theorem shr_step (s : BitVec 32) : cStep (s >>> 1) = s >>> 1 <<< 1 := by
  have hm : (s >>> 1).msb = false := by
    rw [BitVec.msb_eq_decide, BitVec.toNat_ushiftRight, Nat.shiftRight_eq_div_pow]
    have := s.isLt
    simp
    omega
  rw [cStep, hm]
  rfl
/-- The last one of n bits stands at place 32 - n; below it there is nought. -/
theorem bWord_low (l : List Bool) (hl : l.length ≤ 32) : ∀ i, i < 32 - l.length → (bWord l).getLsbD i = false := by
  induction l with
  | nil => intro i _; simp [bWord]
  | cons b r ih =>
    intro i hi
    rw [List.length_cons] at hl hi
    have h31 : ((if b then 0x80000000#32 else 0#32) : BitVec 32).getLsbD i = false := by
      cases b
      · simp
      · have key : ∀ i, i < 31 → (0x80000000#32).getLsbD i = false := by decide +kernel
        exact key i (by omega)
    rw [bWord, BitVec.getLsbD_xor, h31, BitVec.getLsbD_ushiftRight, ih (by omega) (1 + i) (by omega)]
    rfl
theorem shr_back {s : BitVec 32} (h : s.getLsbD 0 = false) : s >>> 1 <<< 1 = s := by
  apply BitVec.eq_of_getLsbD_eq
  intro i hi
  rw [BitVec.getLsbD_shiftLeft, BitVec.getLsbD_ushiftRight]
  by_cases h0 : i = 0
  · subst h0; simp; rw [← BitVec.getLsbD_eq_getElem]; exact h.symm ▸ rfl
  · simp [hi, show ¬ i < 1 by omega, show 1 + (i - 1) = i by omega]
theorem bGo_word (l : List Bool) (hl : l.length ≤ 32) : ∀ s, bGo s l = cSteps l.length (s ^^^ bWord l) := by
  induction l with
  | nil => intro s; simp [bGo, bWord, cSteps]
  | cons b r ih =>
    intro s
    rw [List.length_cons] at hl ⊢
    show bGo (bStep s b) r = _
    rw [ih (by omega), cSteps, bWord]
    congr 1
    have e : bWord r = cStep (bWord r >>> 1) := by
      rw [shr_step, shr_back]
      exact bWord_low r (by omega) 0 (by omega)
    rw [bStep, ← BitVec.xor_assoc, cStep_xor (s ^^^ _) (bWord r >>> 1), ← e]
theorem bWord_zero (l : List Bool) (hl : l.length ≤ 32) (h : bWord l = 0#32) : ∀ b ∈ l, b = false := by
  induction l with
  | nil => intro b hb; cases hb
  | cons b r ih =>
    rw [List.length_cons] at hl
    rw [bWord] at h
    have hb : b = false := by
      cases b with
      | false => rfl
      | true =>
        have : ((0x80000000#32 : BitVec 32) ^^^ (bWord r >>> 1)).getLsbD 31 = (0#32).getLsbD 31 := by
          simp only [if_true] at h; rw [h]
        rw [BitVec.getLsbD_xor, BitVec.getLsbD_ushiftRight] at this
        simp at this
    subst hb
    simp only [Bool.false_eq_true, if_false, BitVec.zero_xor] at h
    have h0 : bWord r = 0#32 := by
      rw [← shr_back (bWord_low r (by omega) 0 (by omega)), h]
      simp
    intro c hc
    rcases List.mem_cons.1 hc with rfl | hc
    · rfl
    · exact ih (by omega) h0 c hc
/-- Bits of which up to 32 in a row are not all nought, and all others are, leave a sum that is not nought. -/
theorem bGo_burst (a b : Nat) (w : List Bool) (hw : w.length ≤ 32) (h1 : true ∈ w) : bGo 0#32 (List.replicate a false ++ w ++ List.replicate b false) ≠ 0#32 := by
  intro h
  rw [bGo_app, bGo_app, bGo_noughts a, cSteps_zero, bGo_noughts b] at h
  have h2 := cSteps_ne b h
  rw [bGo_word w hw, BitVec.zero_xor] at h2
  have h3 := bWord_zero w hw (cSteps_ne _ h2) true h1
  cases h3

theorem bWord_byte (c : UInt8) : bWord (bBits c) = cTop c := by
  have key : ∀ n, n < 256 → bWord (bBits (UInt8.ofNat n)) = cTop (UInt8.ofNat n) := by decide +kernel
  have := key c.toNat c.toNat_lt
  simpa using this
theorem cByte_bits (s : BitVec 32) (c : UInt8) : cByte s c = bGo s (bBits c) := by
  rw [bGo_word _ (by simp [bBits]), bWord_byte]
  rfl
theorem cGo_bits (l : List UInt8) : ∀ s, cGo s l = bGo s (bAll l) := by
  induction l with
  | nil => intro s; rfl
  | cons c r ih =>
    intro s
    show cGo (cByte s c) r = bGo s (bBits c ++ bAll r)
    rw [bGo_app, ih, cByte_bits]

/-! ### Two lists of bytes xored -/
theorem cTop_xor (c d : UInt8) : cTop (c ^^^ d) = cTop c ^^^ cTop d := by
  unfold cTop
  rw [← BitVec.shiftLeft_xor_distrib]
  congr 1
  apply BitVec.eq_of_toNat_eq
  have h1 := c.toNat_lt
  have h2 := d.toNat_lt
  have h3 : c.toNat ^^^ d.toNat < 2 ^ 8 := Nat.xor_lt_two_pow (by omega) (by omega)
  have e1 : (BitVec.ofNat 32 (c ^^^ d).toNat).toNat = c.toNat ^^^ d.toNat := by
    rw [BitVec.toNat_ofNat, UInt8.toNat_xor]; omega
  have e2 : (BitVec.ofNat 32 c.toNat).toNat = c.toNat := by rw [BitVec.toNat_ofNat]; omega
  have e3 : (BitVec.ofNat 32 d.toNat).toNat = d.toNat := by rw [BitVec.toNat_ofNat]; omega
  rw [e1, BitVec.toNat_xor, e2, e3]
theorem cByte_xor2 (s t : BitVec 32) (c d : UInt8) : cByte (s ^^^ t) (c ^^^ d) = cByte s c ^^^ cByte t d := by
  unfold cByte
  rw [← cSteps_xor, cTop_xor]
  generalize cTop c = x
  generalize cTop d = y
  rw [show s ^^^ t ^^^ (x ^^^ y) = s ^^^ x ^^^ (t ^^^ y) by ac_rfl]
/-- Bytes xored, one by one. -/
def cXor (l d : List UInt8) : List UInt8 := List.zipWith (fun a b => a ^^^ b) l d
theorem cGo_xor2 : ∀ (l d : List UInt8) (s t : BitVec 32), l.length = d.length → cGo (s ^^^ t) (cXor l d) = cGo s l ^^^ cGo t d
  | [], [], _, _, _ => rfl
  | c :: l, e :: d, s, t, h => by
    show cGo (cByte (s ^^^ t) (c ^^^ e)) (cXor l d) = cGo (cByte s c) l ^^^ cGo (cByte t e) d
    rw [cByte_xor2]
    exact cGo_xor2 l d _ _ (by simpa using h)
theorem cXor_self_eq : ∀ (l d : List UInt8), l.length = d.length → (∀ c ∈ cXor l d, c = 0) → l = d
  | [], [], _, _ => rfl
  | c :: l, e :: d, h, hz => by
    have h0 : c ^^^ e = 0 := hz _ (by simp [cXor])
    have : c = e := by
      have h2 : c ^^^ e ^^^ e = 0 ^^^ e := by rw [h0]
      simpa [UInt8.xor_assoc] using h2
    rw [this, cXor_self_eq l d (by simpa using h) (fun x hx => hz x (by simp [cXor] at hx ⊢; exact .inr hx))]
theorem bBits_zero {c : UInt8} (h : ∀ b ∈ bBits c, b = false) : c = 0 := by
  have key : ∀ n, n < 256 → (∀ b ∈ bBits (UInt8.ofNat n), b = false) → UInt8.ofNat n = 0 := by decide +kernel
  have := key c.toNat c.toNat_lt (by simpa using h)
  simpa using this
theorem bAll_len (l : List UInt8) : (bAll l).length = 8 * l.length := by
  induction l with
  | nil => rfl
  | cons c r ih =>
    show (bBits c ++ bAll r).length = _
    rw [List.length_append, ih, List.length_cons]
    simp [bBits]
    omega
theorem bAll_zero {l : List UInt8} (h : ∀ b ∈ bAll l, b = false) : ∀ c ∈ l, c = 0 := by
  intro c hc
  exact bBits_zero fun b hb => h b (List.mem_flatMap.2 ⟨c, hc, hb⟩)
/-- Four bytes behind a sum that come to nought are that sum's. -/
theorem cGo_four {t : BitVec 32} {y : List UInt8} (hy : y.length = 4) (h : cGo t y = 0#32) : y = cBs t := by
  have hl : y.length = (cBs t).length := by rw [hy]; rfl
  have h2 := cGo_xor2 y (cBs t) t t hl
  rw [h, cGo_self, BitVec.xor_self, BitVec.xor_self, cGo_bits] at h2
  have hlen : (cXor y (cBs t)).length = 4 := by simp [cXor, hy, cBs]
  have hb : (bAll (cXor y (cBs t))).length ≤ 32 := by rw [bAll_len, hlen]; decide
  rw [bGo_word _ hb, BitVec.zero_xor] at h2
  exact cXor_self_eq y (cBs t) hl (bAll_zero (bWord_zero _ hb (cSteps_ne _ h2)))
theorem cGood_iff {l : List UInt8} (h : 4 ≤ l.length) : cGood l = (cSum l == 0#32) := by
  have hs : cSum l = cGo (cSum (l.take (l.length - 4))) (l.drop (l.length - 4)) := by
    rw [cSum, cSum, cGo_app, List.take_append_drop]
  unfold cGood
  rw [decide_eq_true h, Bool.true_and, Bool.eq_iff_iff, beq_iff_eq, beq_iff_eq, hs]
  constructor
  · intro e
    rw [← e]
    exact cGo_self _
  · intro e
    exact (cGo_four (by simp; omega) e).symm
/-- Bytes that end with their sum, of which others are xored behind the first ones: they end with their sum just if what is xored comes to nought. -/
theorem cGood_xor {p l d : List UInt8} (hl : l.length = d.length) (h4 : 4 ≤ l.length) (h : cGood (p ++ l) = true) : cGood (p ++ cXor l d) = (cGo 0#32 d == 0#32) := by
  have hx : (cXor l d).length = l.length := by simp [cXor, hl]
  rw [cGood_iff (by rw [List.length_append]; omega)] at h
  rw [cGood_iff (by rw [List.length_append, hx]; omega)]
  have h1 : cSum (p ++ l) = 0#32 := by simpa using h
  have e : cSum (p ++ cXor l d) = cGo 0#32 d := by
    have e0 : cGo (cSum p) (cXor l d) = cGo (cSum p ^^^ 0#32) (cXor l d) := by rw [BitVec.xor_zero]
    rw [cSum, ← cGo_app] at h1 ⊢
    rw [show cGo 0xffffffff#32 p = cSum p from rfl] at h1 ⊢
    rw [e0, cGo_xor2 l d _ _ hl, h1, BitVec.zero_xor]
  rw [e]
/-- A burst is found out. -/
theorem cGood_burst {p l d : List UInt8} (hl : l.length = d.length) (h4 : 4 ≤ l.length) (h : cGood (p ++ l) = true) {a b : Nat} {w : List Bool} (hd : bAll d = List.replicate a false ++ w ++ List.replicate b false) (hw : w.length ≤ 32) (h1 : true ∈ w) :
    cGood (p ++ cXor l d) = false := by
  rw [cGood_xor hl h4 h, cGo_bits, hd]
  simpa using bGo_burst a b w hw h1

/-! ### One bit of bytes -/
theorem modify_app_lt {α : Type} (f : α → α) : ∀ (l m : List α) (n : Nat), n < l.length → (l ++ m).modify n f = l.modify n f ++ m
  | a :: l, m, 0, _ => by simp
  | a :: l, m, n + 1, h => by
    have := modify_app_lt f l m n (by simpa using h)
    simp [this]
theorem modify_app_ge {α : Type} (f : α → α) : ∀ (l m : List α) (n : Nat), (l ++ m).modify (l.length + n) f = l ++ m.modify n f
  | [], m, n => by simp
  | a :: l, m, n => by
    have := modify_app_ge f l m n
    rw [List.length_cons, show l.length + 1 + n = l.length + n + 1 by omega]
    simp [this]
/-- The mask of bit k of a byte, the highest first. -/
theorem bBits_flip (c : UInt8) (k : Nat) (hk : k < 8) : bBits (c ^^^ UInt8.ofNat (128 >>> k)) = (bBits c).modify k (fun b => !b) := by
  have key : ∀ n, n < 256 → ∀ k, k < 8 → bBits (UInt8.ofNat n ^^^ UInt8.ofNat (128 >>> k)) = (bBits (UInt8.ofNat n)).modify k (fun b => !b) := by decide +kernel
  have := key c.toNat c.toNat_lt k hk
  simpa using this
theorem bAll_flip : ∀ (l : List UInt8) (n : Nat), n < 8 * l.length → bAll (l.modify (n / 8) (fun c => c ^^^ UInt8.ofNat (128 >>> (n % 8)))) = (bAll l).modify n (fun b => !b)
  | [], n, h => by simp at h
  | c :: r, n, h => by
    have h8 : (bBits c).length = 8 := rfl
    by_cases hn : n < 8
    · rw [Nat.div_eq_of_lt hn, Nat.mod_eq_of_lt hn, List.modify_zero_cons]
      show bBits (c ^^^ UInt8.ofNat (128 >>> n)) ++ bAll r = (bBits c ++ bAll r).modify n _
      rw [bBits_flip c n hn, modify_app_lt _ _ _ _ (by rw [h8]; exact hn)]
    · obtain ⟨m, rfl⟩ : ∃ m, n = 8 + m := ⟨n - 8, by omega⟩
      rw [show (8 + m) / 8 = m / 8 + 1 by omega, show (8 + m) % 8 = m % 8 by omega, List.modify_succ_cons]
      show bBits c ++ bAll (r.modify (m / 8) _) = (bBits c ++ bAll r).modify (8 + m) _
      rw [bAll_flip r m (by rw [List.length_cons] at h; omega), ← h8, modify_app_ge]
end Go.Proofs.Ytjekglnbmccnjaa
/-
  Layer 5, its pure side: frames as lists of bytes; which one any bytes begin with; all of them, as far as they go; what comes of frames that were put one behind the other, of a beginning of them, and of one of which bits in a row are others.
-/
namespace Go.Proofs.Ytjekglnbmccnjaa
set_option linter.unusedSimpArgs false
set_option linter.unusedVariables false

/-- The frame of bytes. -/
def fHead (x : List UInt8) : List UInt8 := pPut x.length ++ x
def fBytes (x : List UInt8) : List UInt8 := fHead x ++ cBs (cSum (fHead x))
/-- How many bytes a frame of n bytes has. -/
def fSize (n : Nat) : Nat := n + 4 + pSize n
/-- The frame with which bytes begin: its bytes, how long it is, the error. -/
def fTake (b : List UInt8) : List UInt8 × Nat × Nat :=
  if (pTake b).2.2 ≠ 0 then ([], 0, (pTake b).2.2)
  else if 1048576 < (pTake b).1 then ([], 0, 2)
  else if b.length < (pTake b).2.1 + (pTake b).1 + 4 then ([], 0, 3)
  else if cGood (b.take ((pTake b).2.1 + (pTake b).1 + 4)) then ((b.drop (pTake b).2.1).take (pTake b).1, (pTake b).2.1 + (pTake b).1 + 4, 0) else ([], 0, 50)
/-- All frames' bytes, where the next one would begin, and the error there: so many at most. -/
def fScanN : Nat → List UInt8 → List (List UInt8) × Nat × Nat
  | 0, _ => ([], 0, 0)
  | f + 1, b =>
    if b = [] then ([], 0, 0)
    else if (fTake b).2.2 ≠ 0 then ([], 0, (fTake b).2.2)
    else ((fTake b).1 :: (fScanN f (b.drop (fTake b).2.1)).1, (fTake b).2.1 + (fScanN f (b.drop (fTake b).2.1)).2.1, (fScanN f (b.drop (fTake b).2.1)).2.2)
def fScan (b : List UInt8) : List (List UInt8) × Nat × Nat := fScanN b.length b

theorem pSize_small {n : Nat} (h : n ≤ 1048576) : pSize n ≠ 0 := by rcases pSize_cases n with c | c | c | c | c <;> omega
theorem pSize_small4 {n : Nat} (h : n ≤ 1048576) : 1 ≤ pSize n ∧ pSize n ≤ 4 := by rcases pSize_cases n with c | c | c | c | c <;> omega
theorem cBs_len (s : BitVec 32) : (cBs s).length = 4 := rfl
theorem fHead_len (x : List UInt8) : (fHead x).length = pSize x.length + x.length := by rw [fHead, List.length_append, pPut_len]
theorem fBytes_len (x : List UInt8) : (fBytes x).length = fSize x.length := by
  rw [fBytes, List.length_append, fHead_len, cBs_len, fSize]; omega

/-- What a taken frame's length is. -/
theorem fTake_ok {b x : List UInt8} {k : Nat} (h : fTake b = (x, k, 0)) : 5 ≤ k ∧ k ≤ b.length ∧ x.length + 4 + pSize x.length = k ∧ x.length ≤ 1048576 := by
  obtain ⟨n, j, e, ht⟩ : ∃ n j e, pTake b = (n, j, e) := ⟨_, _, _, rfl⟩
  unfold fTake at h
  rw [ht] at h
  simp only at h
  split at h
  · rename_i h0; simp only [Prod.mk.injEq] at h; omega
  rename_i h0
  split at h
  · simp at h
  rename_i h1
  split at h
  · simp at h
  rename_i h2
  split at h
  · simp only [Prod.mk.injEq, and_true] at h
    obtain ⟨rfl, rfl⟩ := h
    have he : e = 0 := by omega
    subst he
    obtain ⟨h3, h4, h5, h6⟩ := pTake_ok ht
    have hl : (List.take n (List.drop j b)).length = n := by rw [List.length_take, List.length_drop]; omega
    rw [hl]
    refine ⟨by omega, by omega, by omega, by omega⟩
  · simp at h

/-- (P5.4) A frame comes back, whatever is behind it. -/
theorem fTake_frame {x : List UInt8} (hx : x.length ≤ 1048576) (r : List UInt8) : fTake (fBytes x ++ r) = (x, (fBytes x).length, 0) := by
  have hs := pSize_small hx
  have ht : pTake (fBytes x ++ r) = (x.length, pSize x.length, 0) := by
    rw [fBytes, fHead, List.append_assoc, List.append_assoc]
    exact pTake_put hs _
  have hl := fBytes_len x
  unfold fSize at hl
  unfold fTake
  rw [ht]
  simp only [ne_eq, not_true_eq_false, if_false]
  rw [if_neg (by omega), if_neg (by rw [List.length_append]; omega)]
  have e : (fBytes x ++ r).take (pSize x.length + x.length + 4) = fBytes x := by
    rw [List.take_append_of_le_length (by omega), List.take_of_length_le (by omega)]
  rw [e, if_pos (by unfold fBytes; exact cGood_self _)]
  have e2 : (fBytes x ++ r).drop (pSize x.length) = x ++ (cBs (cSum (fHead x)) ++ r) := by
    rw [fBytes, fHead, List.append_assoc, List.append_assoc, List.drop_append_of_le_length (by rw [pPut_len]; omega), List.drop_of_length_le (by rw [pPut_len]; omega), List.nil_append]
  rw [e2, List.take_left, hl]
  congr 2
  omega
/-- (P5.5) Of a beginning of a frame: that it ends too early. -/
theorem fTake_torn {x : List UInt8} (hx : x.length ≤ 1048576) {j : Nat} (hj : j < (fBytes x).length) : fTake ((fBytes x).take j) = ([], 0, 3) := by
  have hs := pSize_small hx
  have hl := fBytes_len x
  unfold fSize at hl
  by_cases h : j < pSize x.length
  · have e : (fBytes x).take j = (pPut x.length).take j := by
      rw [fBytes, fHead, List.append_assoc, List.take_append_of_le_length (by rw [pPut_len]; omega)]
    unfold fTake
    rw [e, pTake_short h]
    simp
  · have e : (fBytes x).take j = pPut x.length ++ ((x ++ cBs (cSum (fHead x))).take (j - pSize x.length)) := by
      rw [fBytes, fHead, List.append_assoc, List.take_append, pPut_len, List.take_of_length_le (by rw [pPut_len]; omega)]
    have hl2 : ((fBytes x).take j).length = j := by rw [List.length_take]; omega
    have ht : pTake ((fBytes x).take j) = (x.length, pSize x.length, 0) := by rw [e]; exact pTake_put hs _
    unfold fTake
    rw [ht, hl2]
    simp only [ne_eq, not_true_eq_false, if_false]
    rw [if_neg (by omega), if_pos (by omega)]
/-- (P5.6) A frame of which bits behind its number are others so that they don't end with their sum. -/
theorem fTake_spoilt {n : Nat} (hn : n ≤ 1048576) {y : List UInt8} (hy : y.length = n + 4) (hg : cGood (pPut n ++ y) = false) (r : List UInt8) : fTake (pPut n ++ y ++ r) = ([], 0, 50) := by
  have hs := pSize_small hn
  have ht : pTake (pPut n ++ y ++ r) = (n, pSize n, 0) := by
    rw [List.append_assoc]
    exact pTake_put hs _
  unfold fTake
  rw [ht]
  simp only [ne_eq, not_true_eq_false, if_false]
  rw [if_neg (by omega), if_neg (by rw [List.length_append, List.length_append, pPut_len]; omega)]
  have e : (pPut n ++ y ++ r).take (pSize n + n + 4) = pPut n ++ y := by
    rw [List.take_append_of_le_length (by rw [List.length_append, pPut_len]; omega), List.take_of_length_le (by rw [List.length_append, pPut_len]; omega)]
  rw [e, hg]
  simp

/-! ### Scan -/
theorem fScanN_nil (f : Nat) : fScanN f [] = ([], 0, 0) := by cases f <;> simp [fScanN]
/-- More rounds than bytes change nothing. -/
theorem fScanN_more : ∀ (f g : Nat) (b : List UInt8), b.length ≤ f → b.length ≤ g → fScanN f b = fScanN g b
  | 0, g, b, h1, _ => by
    have : b = [] := List.eq_nil_of_length_eq_zero (by omega)
    subst this
    rw [fScanN_nil, fScanN_nil]
  | f + 1, 0, b, _, h2 => by
    have : b = [] := List.eq_nil_of_length_eq_zero (by omega)
    subst this
    rw [fScanN_nil, fScanN_nil]
  | f + 1, g + 1, b, h1, h2 => by
    unfold fScanN
    split
    · rfl
    split
    · rfl
    rename_i h3 h4
    obtain ⟨x, k, e, ht⟩ : ∃ x k e, fTake b = (x, k, e) := ⟨_, _, _, rfl⟩
    rw [ht] at h4 ⊢
    simp only at h4 ⊢
    have he : e = 0 := by omega
    subst he
    have hk := fTake_ok ht
    have hd : (b.drop k).length = b.length - k := List.length_drop
    rw [fScanN_more f g (b.drop k) (by omega) (by omega)]
theorem fScan_step {b x : List UInt8} {k : Nat} (h : fTake b = (x, k, 0)) : fScan b = (x :: (fScan (b.drop k)).1, k + (fScan (b.drop k)).2.1, (fScan (b.drop k)).2.2) := by
  have hk := fTake_ok h
  unfold fScan
  obtain ⟨m, hm⟩ : ∃ m, b.length = m + 1 := ⟨b.length - 1, by omega⟩
  rw [hm, fScanN, h]
  have hne : ¬ b = [] := by intro e; rw [e] at hm; simp at hm
  rw [if_neg hne]
  simp only [ne_eq, not_true_eq_false, if_false]
  have hd : (b.drop k).length = b.length - k := List.length_drop
  rw [fScanN_more m (b.drop k).length (b.drop k) (by omega) (Nat.le_refl _)]
theorem fScan_stop {b : List UInt8} (hb : b ≠ []) {e : Nat} (he : e ≠ 0) (h : (fTake b).2.2 = e) : fScan b = ([], 0, e) := by
  unfold fScan
  obtain ⟨m, hm⟩ : ∃ m, b.length = m + 1 := ⟨b.length - 1, by have : b.length ≠ 0 := fun e => hb (List.eq_nil_of_length_eq_zero e); omega⟩
  rw [hm, fScanN, if_neg hb, h, if_pos he]
theorem fScan_nil : fScan [] = ([], 0, 0) := rfl
/-- Frames one behind the other. -/
def fAll (l : List (List UInt8)) : List UInt8 := l.flatMap fBytes
theorem fAll_cons (x : List UInt8) (l : List (List UInt8)) : fAll (x :: l) = fBytes x ++ fAll l := rfl
theorem fAll_app (l m : List (List UInt8)) : fAll (l ++ m) = fAll l ++ fAll m := by simp [fAll]
/-- (P5.4) Frames that were put one behind the other are told, whatever is behind them. -/
theorem fScan_all (l : List (List UInt8)) (hl : ∀ x ∈ l, x.length ≤ 1048576) (r : List UInt8) : fScan (fAll l ++ r) = (l ++ (fScan r).1, (fAll l).length + (fScan r).2.1, (fScan r).2.2) := by
  induction l with
  | nil => simp [fAll]
  | cons x l ih =>
    have h := fTake_frame (hl x (by simp)) (fAll l ++ r)
    rw [fAll_cons, List.append_assoc, fScan_step h, List.drop_left, ih (fun y hy => hl y (by simp [hy]))]
    simp [Nat.add_assoc]
theorem fScan_back (l : List (List UInt8)) (hl : ∀ x ∈ l, x.length ≤ 1048576) : fScan (fAll l) = (l, (fAll l).length, 0) := by
  have h := fScan_all l hl []
  rw [List.append_nil, fScan_nil] at h
  simpa using h
/-- (P5.5) Of a beginning of such bytes: the frames that are whole in it. -/
theorem fScan_torn (l : List (List UInt8)) (hl : ∀ x ∈ l, x.length ≤ 1048576) (n : Nat) (hn : n ≤ (fAll l).length) :
    ∃ k, k ≤ l.length ∧ (fAll (l.take k)).length ≤ n ∧ fScan ((fAll l).take n) = (l.take k, (fAll (l.take k)).length, if (fAll (l.take k)).length = n then 0 else 3) ∧
      (k = l.length ∨ ∃ x, l[k]? = some x ∧ n < (fAll (l.take k)).length + fSize x.length) := by
  induction l generalizing n with
  | nil =>
    have : n = 0 := by simpa [fAll] using hn
    subst this
    exact ⟨0, Nat.le_refl _, Nat.le_refl _, rfl, .inl rfl⟩
  | cons x l ih =>
    have hx := hl x (by simp)
    have hb := fBytes_len x
    rw [fAll_cons, List.length_append] at hn
    by_cases h : n < (fBytes x).length
    · have ht := fTake_torn hx h
      have e : (fAll (x :: l)).take n = (fBytes x).take n := by rw [fAll_cons, List.take_append_of_le_length (by omega)]
      refine ⟨0, Nat.zero_le _, Nat.zero_le _, ?_, .inr ⟨x, rfl, by rw [← hb]; simpa [fAll] using h⟩⟩
      rw [e]
      by_cases h0 : n = 0
      · subst h0; rfl
      · rw [fScan_stop (e := 3) (by intro e2; have := congrArg List.length e2; rw [List.length_take, List.length_nil] at this; omega) (by decide) (by rw [ht])]
        have : ¬ (fAll (List.take 0 (x :: l))).length = n := by simp [fAll]; omega
        rw [if_neg this]
        rfl
    · obtain ⟨k, h1, h2, h3, h4⟩ := ih (fun y hy => hl y (by simp [hy])) (n - (fBytes x).length) (by omega)
      have e : (fAll (x :: l)).take n = fBytes x ++ (fAll l).take (n - (fBytes x).length) := by
        rw [fAll_cons, List.take_append, List.take_of_length_le (by omega)]
      have e3 : (fAll ((x :: l).take (k + 1))).length = (fBytes x).length + (fAll (l.take k)).length := by rw [List.take_succ_cons, fAll_cons, List.length_append]
      refine ⟨k + 1, by simpa using h1, by rw [e3]; omega, ?_, ?_⟩
      · rw [e, fScan_step (fTake_frame hx _), List.drop_left, h3, e3, List.take_succ_cons]
        congr 2
        clear h4 h3
        by_cases hq : (fAll (l.take k)).length = n - (fBytes x).length
        · rw [if_pos hq, if_pos (by omega)]
        · rw [if_neg hq, if_neg (by omega)]
      · rcases h4 with h4 | ⟨y, h5, h6⟩
        · exact .inl (by simp [h4])
        · exact .inr ⟨y, by simpa using h5, by rw [e3]; omega⟩
/-- (P5.6) A spoilt one behind whole ones. -/
theorem fScan_spoilt (l : List (List UInt8)) (hl : ∀ x ∈ l, x.length ≤ 1048576) {n : Nat} (hn : n ≤ 1048576) {y : List UInt8} (hy : y.length = n + 4) (hg : cGood (pPut n ++ y) = false) (r : List UInt8) :
    fScan (fAll l ++ (pPut n ++ y ++ r)) = (l, (fAll l).length, 50) := by
  have h := fTake_spoilt hn hy hg r
  rw [fScan_all l hl, fScan_stop (e := 50) (by intro e; have := congrArg List.length e; rw [List.length_append, List.length_append, List.length_nil] at this; omega) (by decide) (by rw [h])]
  simp
theorem fAll_len (l : List (List UInt8)) : (fAll l).length = (l.map fun x => fSize x.length).sum := by
  induction l with
  | nil => rfl
  | cons x l ih => rw [fAll_cons, List.length_append, fBytes_len, ih]; simp
end Go.Proofs.Ytjekglnbmccnjaa
