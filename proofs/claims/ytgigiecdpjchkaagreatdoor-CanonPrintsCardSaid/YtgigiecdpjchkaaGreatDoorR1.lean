import Derived.OrdersHeld
import Derived.WalkKit
import Derived.Test.YtgigiecdpjchkaaGreatDoorRows
import Derived.WalkSpells
import Derived.WalkLawsBesides
import Derived.Maps.AppendAt
import Derived.Laws.CopyOwn
import Derived.Deep.AppendLies
import Derived.Deep.Draws
import Derived.Outline
import Derived.ProofKit
import Derived.OpenShut
import Derived.ShutString
import Derived.ChangeOld
import Derived.Below
import Derived.SizedLaws
import Derived.JoinedCond
import Derived.SliceStrings
import Derived.Deep.DeepHandedRow
import Derived.Lib.LaidTab
import Derived.Lib.AppendStr
import Derived.Laws.OwnMore
import Derived.BigQuiet
import Derived.Deep.QuietTactic
import Derived.Deep.DeepCutAuto
import Derived.Deep.RegionLaw
import Derived.Deep.RegionHeld3
set_option linter.unusedSimpArgs false
set_option linter.unusedVariables false
set_option linter.unusedSectionVars false
set_option maxRecDepth 100000
set_option maxHeartbeats 6400000
namespace Go.Proofs.YtgigiecdpjchkaaGreatDoor
section
variable {P : Program} {md : Region.Mode} {ops : Array Oper} {Q : Exit → Act → World → Prop} {S : World → Prop}
theorem tkN (i : Nat) {oi : Oper} {fuel : Nat} {listed : Array Bool} {a : Act} {w : World} (h : wpAnyH P md ops Q S fuel (listed.setIfInBounds i true) (a.put oi.dst undef) w)
  (hi : ops[i]? = some oi := by exact rfl) (hs : Region.noSelect ops = true := by kernel_rfl) (hf : Region.free md ops listed i = true := by kernel_rfl) (hr : (Region.ready md ops listed).contains i = true := by kernel_rfl)
  (hQ : ∀ c a w, Q (.panic c) (a.put oi.dst undef) w → Q (.panic c) a w := by exact fun _ _ _ h => h) (hw : Region.wanted oi (yielded ops a.tmps) = false := by exact rfl) (hS : S w := by assumption) : wpAnyH P md ops Q S (fuel + 1) listed a w :=
 wpAnyH_take hi hs hf hr hQ (Or.inr ⟨hw, rfl⟩) hS h
theorem tkY (i : Nat) {oi : Oper} (v : Value) {fuel : Nat} {listed : Array Bool} {a : Act} {w : World} (h : wpAnyH P md ops Q S fuel (listed.setIfInBounds i true) (a.put oi.dst v) w)
  (hi : ops[i]? = some oi := by exact rfl) (hs : Region.noSelect ops = true := by kernel_rfl) (hf : Region.free md ops listed i = true := by kernel_rfl) (hr : (Region.ready md ops listed).contains i = true := by kernel_rfl)
  (hQ : ∀ c a w, Q (.panic c) (a.put oi.dst v) w → Q (.panic c) a w := by exact fun _ _ _ h => h) (hw : Region.wanted oi (yielded ops a.tmps) = true := by exact rfl) (hS : S w := by assumption)
  (hy : ∀ w, S w → (execOp a.eval oi).run P w = .ok (.value v) w := by intro w hSw; (try dsimp only at hSw); go_simp; (try with_reducible rfl)) : wpAnyH P md ops Q S (fuel + 1) listed a w :=
 wpAnyH_take hi hs hf hr hQ (Or.inl ⟨hw, hy⟩) hS h
end
theorem zs {α : Type} : (∀ (xs : List α) (i : Nat) (h : i < xs.toArray.size), xs.toArray[i] = xs[i]'(by simpa using h)) ∧ (∀ (a : α) (l : List α) (h : 0 < (a :: l).length), (a :: l)[0] = a) ∧ (∀ (a : α) (l : List α) (i : Nat) (h : i + 1 < (a :: l).length), (a :: l)[i + 1] = l[i]'(Nat.lt_of_succ_lt_succ h)) ∧
  (∀ (l : List α) (i : Nat) (a : α), l.toArray.setIfInBounds i a = (l.set i a).toArray) ∧ (∀ (x : α) (xs : List α) (a : α), (x :: xs).set 0 a = a :: xs) ∧ (∀ (x : α) (xs : List α) (n : Nat) (a : α), (x :: xs).set (n + 1) a = x :: xs.set n a) :=
 ⟨fun _ _ h => List.getElem_toArray h, List.getElem_cons_zero, List.getElem_cons_succ, List.setIfInBounds_toArray, fun _ _ _ => List.set_cons_zero, fun _ _ _ _ => List.set_cons_succ⟩
open Go.RowKit
theorem hid {p : Prop} (h : p) : Hid p := h
def blk : Option Addr → Option Nat
 | some a => some a.block
 | none => none
def Rd (w : World) (B sz : Nat) (A : Option Addr) (n : Nat) (xs : List Value) : Prop :=
 xs.length = n * sz ∧ ∀ k u, xs[k]? = some u → ∃ a, A = some a ∧ a.block < B ∧ w.cell? (a.add k) = some u
def Own (w : World) (base : Nat) (E : TypeId) (sz : Nat) (A : Option Addr) (n c : Nat) (xs : List Value) : Prop :=
 w.ownsRow base E sz (.slice A n c) n xs
def Turn (w w' : World) (row : Option Nat) : Prop := w.grownBy w' row
theorem addr_block (a : Addr) (k : Nat) : (a.add k).block = a.block := by
 unfold Addr.add
 split <;> rfl
theorem addr_add (a : Addr) (i j : Nat) : (a.add i).add j = a.add (i + j) := by
 unfold Addr.add
 by_cases hi : i = 0
 ·simp [hi]
 ·by_cases hj : j = 0
  ·simp [hi, hj]
  ·have h : ¬ (i + j = 0) := by omega
   simp only [hi, hj, h, if_false]
   simp
section
variable {w w' w2 : World} {B B' base sz n c : Nat} {E : TypeId} {A : Option Addr} {xs ys : List Value} {row : Option Nat}
theorem Turn.size (h : Turn w w' row) : w.heap.size ≤ w'.heap.size := World.grownBy.size h
theorem Turn.refl (w : World) (row : Option Nat) : Turn w w row := World.grownBy.refl w row
theorem Turn.trans (h : Turn w w' row) (k : Turn w' w2 row) : Turn w w2 row := World.grownBy.trans h k
theorem Turn.any (h : Turn w w' none) (row : Option Nat) : Turn w w' row := ⟨h.os, h.tape, h.output, h.size, fun k hk _ => h.block k hk (by simp)⟩
theorem Turn.new {row' : Option Nat} (h : Turn w w' row) (k : Turn w' w2 row') (hr : ∀ g, row' = some g → w.heap.size ≤ g) : Turn w w2 row :=
 ⟨World.grownBy.os k ▸ World.grownBy.os h ▸ rfl, World.grownBy.tape k ▸ World.grownBy.tape h ▸ rfl, World.grownBy.output k ▸ World.grownBy.output h ▸ rfl,
  Nat.le_trans h.size k.size, fun i hi hne => (World.grownBy.block k i (Nat.lt_of_lt_of_le hi h.size) (fun e => by have := hr i e.symm; omega)).trans (World.grownBy.block h i hi hne)⟩
theorem Turn.alloc (h : Turn w w' row) (o : Obj) : Turn w (w'.alloc o) row := h.new (World.grownBy_alloc w' o none) (by simp)
theorem Turn.drew (h : Turn w w' row) : Turn w w'.drew row := ⟨h.os, h.tape, h.output, h.size, h.block⟩
theorem Turn.drewN (h : Turn w w' row) (k : Nat) : Turn w (w'.drewN k) row := ⟨h.os, h.tape, h.output, h.size, h.block⟩
theorem Turn.below (h : Turn w w' none) : Below w.heap.size w w' := ⟨h.os, h.tape, h.output, h.size, fun k hk => h.block k hk (by simp)⟩
theorem Turn.cell (h : Turn w w' row) {a : Addr} (ha : a.block < w.heap.size) (hne : some a.block ≠ row) : w'.cell? a = w.cell? a :=
 World.cell?_of_block (World.grownBy.block h a.block ha hne)
theorem Turn.setCell {g i : Nat} (h : Turn w w' (some g)) (u : Value) : Turn w (w'.setCell ⟨g, i, none⟩ u) (some g) :=
 h.trans ⟨rfl, rfl, rfl, by simp [World.setCell], fun k _ hk => Below.heap_setCell _ _ _ _ (fun e => hk (by simp [e]))⟩
theorem Rd.len (h : Rd w B 1 A n xs) : xs.length = n := by have := h.1; omega
theorem Rd.none_ (w : World) (B sz _c : Nat) : Rd w B sz A 0 [] := ⟨by simp, fun k u h => by simp at h⟩
theorem Rd.at_ {k : Nat} (h : Rd w B sz A n xs) (hk : k < n * sz) : ∃ a u, A = some a ∧ a.block < B ∧ xs[k]? = some u ∧ w.cell? (a.add k) = some u := by
 have hl : k < xs.length := by have := h.1; omega
 obtain ⟨a, h1, h2, h3⟩ := h.2 k xs[k] (List.getElem?_eq_getElem hl)
 exact ⟨a, xs[k], h1, h2, List.getElem?_eq_getElem hl, h3⟩
theorem Rd.head (h : Rd w B sz A n xs) (hn : 0 < n * sz) : ∃ b off, A = some ⟨b, off, none⟩ ∧ b < B ∧ ∀ k u, xs[k]? = some u → w.cell? ⟨b, off + k, none⟩ = some u := by
 obtain ⟨a, u, rfl, hb, h0, hc⟩ := h.at_ hn
 have hs : a.spot = none := by
  unfold Addr.add at hc
  simp only [if_true, World.cell?] at hc
  cases ha : a.spot with
  | none => rfl
  | some s =>
   rw [ha] at hc
   split at hc <;> simp at hc
 obtain ⟨b, off, s⟩ := a
 simp only at hs
 subst hs
 refine ⟨b, off, rfl, hb, fun k v hv => ?_⟩
 obtain ⟨a', ha, _, hc'⟩ := h.2 k v hv
 injection ha with ha
 subst ha
 have e : (⟨b, off, none⟩ : Addr).add k = ⟨b, off + k, none⟩ := by
  unfold Addr.add
  split
  ·rename_i h0; subst h0; rfl
  ·rfl
 rw [← e]
 exact hc'
theorem Rd.mono (h : Rd w B sz A n xs) (hB : B ≤ B') : Rd w B' sz A n xs :=
 ⟨h.1, fun k u hu => by
  obtain ⟨a, h1, h2, h3⟩ := h.2 k u hu
  exact ⟨a, h1, by omega, h3⟩⟩
theorem Rd.keep (h : Rd w B sz A n xs) (hk : ∀ a : Addr, A = some a → a.block < B → ∀ k, w'.cell? (a.add k) = w.cell? (a.add k)) : Rd w' B sz A n xs :=
 ⟨h.1, fun k u hu => by
  obtain ⟨a, h1, h2, h3⟩ := h.2 k u hu
  exact ⟨a, h1, h2, (hk a h1 h2 k).trans h3⟩⟩
theorem Rd.drew (h : Rd w B sz A n xs) : Rd w.drew B sz A n xs := h
theorem Rd.drewN (h : Rd w B sz A n xs) (k : Nat) : Rd (w.drewN k) B sz A n xs := h
theorem Rd.turn (h : Rd w B sz A n xs) (ht : Turn w w' row) (hB : B ≤ w.heap.size) (hr : ∀ g, row = some g → B ≤ g) : Rd w' B sz A n xs :=
 h.keep fun a _ hb k => ht.cell (by rw [addr_block]; omega) (by rw [addr_block]; intro e; have := hr _ e.symm; omega)
theorem Rd.turn0 (h : Rd w B sz A n xs) (ht : Turn w w' none) (hB : B ≤ w.heap.size) : Rd w' B sz A n xs := h.turn ht hB (by simp)
theorem Rd.turnNe (h : Rd w B sz A n xs) (ht : Turn w w' row) (hB : B ≤ w.heap.size) (hr : row = none ∨ blk A ≠ row) : Rd w' B sz A n xs :=
 h.keep fun a ha hb k => ht.cell (by rw [addr_block]; omega) (by
  rw [addr_block]
  intro e
  rcases hr with hr | hr
  ·rw [hr] at e; cases e
  ·exact hr (by rw [ha]; exact e))
theorem Rd.alloc (h : Rd w B sz A n xs) (hB : B ≤ w.heap.size) (o : Obj) : Rd (w.alloc o) B sz A n xs := h.turn0 (World.grownBy_alloc w o none) hB
theorem Rd.below (h : Rd w B sz A n xs) (hb : Below B w w') : Rd w' B sz A n xs := h.keep fun a _ hlt k => hb.cell (by rw [addr_block]; exact hlt)
theorem Rd.cut (h : Rd w B sz A n xs) {k : Nat} (hk : k ≤ n) (hc : n ≤ c) :
  Rd w B sz (if c = k then A else A.map (·.add (k * sz))) (n - k) (xs.drop (k * sz)) := by
 refine ⟨by rw [List.length_drop, h.1, Nat.sub_mul], fun j u hu => ?_⟩
 rw [List.getElem?_drop] at hu
 obtain ⟨a, h1, h2, h3⟩ := h.2 _ u hu
 have hlt : k * sz + j < n * sz := by
  have := (List.getElem?_eq_some_iff.1 hu).1
  rw [h.1] at this
  exact this
 have hne : ¬ c = k := by
  intro e
  have : n ≤ k := by omega
  have := Nat.mul_le_mul_right sz this
  omega
 rw [if_neg hne, h1]
 exact ⟨_, rfl, by rw [addr_block]; exact h2, by rw [addr_add]; exact h3⟩
theorem Rd.take (h : Rd w B sz A n xs) {k : Nat} (hk : k ≤ n) : Rd w B sz A k (xs.take (k * sz)) := by
 refine ⟨by rw [List.length_take, h.1]; exact Nat.min_eq_left (Nat.mul_le_mul_right sz hk), fun j u hu => ?_⟩
 rw [List.getElem?_take] at hu
 split at hu
 ·exact h.2 j u hu
 ·cases hu
theorem Own.len (h : Own w base E 1 A n c xs) : xs.length = n := by have := h.1; omega
theorem Own.len_ (h : Own w base E sz A n c xs) : xs.length = n * sz := h.1
theorem Own.cap (h : Own w base E sz A n c xs) : n ≤ c ∧ c ≤ maxLen := by
 rcases h.2 with ⟨e, rfl⟩ | ⟨g, cap, cur, e, _, _, h1, h2, _⟩
 ·injection e with _ _ e; subst e; simp
 ·injection e with _ _ e; subst e; exact ⟨h1, h2⟩
theorem Own.block (h : Own w base E sz A n c xs) : ∀ g, blk A = some g → base ≤ g ∧ g < w.heap.size := by
 intro g hg
 cases A with
 | none => simp [blk] at hg
 | some a => exact World.ownsRow.lt h g (by simpa [blk, Value.ownBlock] using hg)
theorem Own.rd (h : Own w base E sz A n c xs) : Rd w w.heap.size sz A n xs := by
 refine ⟨h.1, fun k u hu => ?_⟩
 have hl : k < xs.length := (List.getElem?_eq_some_iff.1 hu).1
 have hn : 0 < n := by
  rcases Nat.eq_zero_or_pos n with e | e
  ·have := h.1; rw [e] at this; simp at this; subst this; simp at hl
  ·exact e
 obtain ⟨g, cap, hv, _, hlt⟩ := World.ownsRow.form h hn
 injection hv with hA
 subst hA
 exact ⟨_, rfl, hlt, World.ownsRow.cells h (g := g) rfl k u hu⟩
theorem Own.turn (h : Own w base E sz A n c xs) (ht : Turn w w' row) (hr : row = none ∨ blk A ≠ row) : Own w' base E sz A n c xs := by
 refine World.ownsRow.kept h ht ?_
 have e : (Value.slice A n c).ownBlock = blk A := by cases A <;> rfl
 rw [e]
 rcases hr with rfl | hr
 ·cases blk A <;> simp
 ·exact .inr hr
theorem Own.turn0 (h : Own w base E sz A n c xs) (ht : Turn w w' none) : Own w' base E sz A n c xs := h.turn ht (.inl rfl)
theorem Own.alloc (h : Own w base E sz A n c xs) (o : Obj) : Own (w.alloc o) base E sz A n c xs := World.ownsRow.alloc h o
theorem Own.drew (h : Own w base E sz A n c xs) : Own w.drew base E sz A n c xs := h
theorem Own.drewN (h : Own w base E sz A n c xs) (k : Nat) : Own (w.drewN k) base E sz A n c xs := h
theorem Own.mono (h : Own w base E sz A n c xs) (hb : B ≤ base) : Own w B E sz A n c xs := by
 obtain ⟨h1, h2⟩ := h
 refine ⟨h1, ?_⟩
 rcases h2 with h2 | ⟨g, cap, cur, hv, hg, r⟩
 ·exact .inl h2
 ·exact .inr ⟨g, cap, cur, hv, by omega, r⟩
theorem Own.nil (w : World) (base : Nat) (E : TypeId) (sz : Nat) : Own w base E sz none 0 0 [] := World.ownsRow_nil w base E sz
theorem Own.made (w : World) (base : Nat) (E : TypeId) (sz c : Nat) (cs : Array Value) (hb : base ≤ w.heap.size) (hm : c ≤ maxLen) (hs : cs.size = c * sz) :
  Own (w.alloc (.cells cs E)) base E sz (some ⟨w.heap.size, 0, none⟩) 0 c [] := World.ownsRow_made w cs c hb hm hs
theorem Own.full (w : World) (base : Nat) (E : TypeId) (sz n c : Nat) (cs : Array Value) (hb : base ≤ w.heap.size) (hm : c ≤ maxLen) (hn : n ≤ c) (hs : cs.size = c * sz) :
  Own (w.alloc (.cells cs E)) base E sz (some ⟨w.heap.size, 0, none⟩) n c (cs.toList.take (n * sz)) := by
 refine ⟨?_, .inr ⟨w.heap.size, c, cs, rfl, hb, heap_alloc_new w _, hn, hm, hs, rfl⟩⟩
 rw [List.length_take, Array.length_toList, hs]
 exact Nat.min_eq_left (Nat.mul_le_mul_right sz hn)
end
section
variable {w w' w2 : World} {base sz n c i : Nat} {E : TypeId} {A A2 A3 : Option Addr} {xs : List Value}
def Grow (w w' : World) (A A2 : Option Addr) : Prop := Turn w w' (blk A) ∧ (blk A2 = blk A ∨ ∃ g, blk A2 = some g ∧ w.heap.size ≤ g)
theorem Grow.refl (w : World) (A : Option Addr) : Grow w w A A := ⟨Turn.refl w _, .inl rfl⟩
theorem Grow.trans (h : Grow w w' A A2) (k : Grow w' w2 A2 A3) : Grow w w2 A A3 := by
 obtain ⟨h1, h2⟩ := h
 obtain ⟨k1, k2⟩ := k
 refine ⟨?_, ?_⟩
 ·rcases h2 with h2 | ⟨g, h2, h3⟩
  ·rw [h2] at k1; exact h1.trans k1
  ·exact h1.new k1 (fun g' e => by rw [h2] at e; injection e with e; omega)
 ·rcases k2 with k2 | ⟨g, k2, k3⟩
  ·rw [k2]; exact h2
  ·exact .inr ⟨g, k2, Nat.le_trans h1.size k3⟩
theorem Grow.alloc (h : Grow w w' A A2) (o : Obj) : Grow w (w'.alloc o) A A2 := ⟨h.1.alloc o, h.2⟩
theorem Grow.step (h : Grow w w' A A2) (k : Turn w' w2 (blk A2)) (e : blk A3 = blk A2 ∨ blk A3 = some w'.heap.size) : Grow w w2 A A3 :=
 h.trans ⟨k, e.imp id fun e => ⟨_, e, Nat.le_refl _⟩⟩
theorem Own.head (h : Own w base E sz A n c xs) (hn : 0 < n) : ∃ g, A = some ⟨g, 0, none⟩ ∧ base ≤ g ∧ g < w.heap.size := by
 obtain ⟨g, cap, hv, h1, h2⟩ := World.ownsRow.form h hn
 injection hv with hA
 exact ⟨g, hA, h1, h2⟩
theorem Own.cell {g : Nat} (h : Own w base E sz (some ⟨g, 0, none⟩) n c xs) (hi : i < n * sz) : w.cell? ⟨g, i, none⟩ = xs[i]? := World.ownsRow.cellAt h i hi
theorem Own.frozen {g : Nat} (h : Own w base E sz (some ⟨g, 0, none⟩) n c xs) (i : Nat) : w.frozen? ⟨g, i, none⟩ = false := World.ownsRow.frozenAt h i
theorem Own.store {g : Nat} (h : Own w base E sz (some ⟨g, 0, none⟩) n c xs) (i : Nat) (u : Value) : Own (w.setCell ⟨g, i, none⟩ u) base E sz (some ⟨g, 0, none⟩) n c (xs.set i u) :=
 (World.ownsRow.stored h i u).1
theorem Own.storeTurn {g : Nat} (h : Own w base E sz (some ⟨g, 0, none⟩) n c xs) (i : Nat) (u : Value) : Turn w (w.setCell ⟨g, i, none⟩ u) (some g) :=
 (World.ownsRow.stored h i u).2
end
def Blk (w : World) (g : Nat) (t : TypeId) (cs : Array Value) : Prop := w.heap[g]? = some (.cells cs t (0, 0))
section
variable {w w' : World} {g : Nat} {t : TypeId} {cs : Array Value} {row : Option Nat}
theorem Blk.lt (h : Blk w g t cs) : g < w.heap.size := (Array.getElem?_eq_some_iff.1 h).1
theorem Blk.cell (h : Blk w g t cs) (i : Nat) : w.cell? ⟨g, i, none⟩ = cs[i]? := cell_of_row w g i cs t (0, 0) h
theorem Blk.frozen (h : Blk w g t cs) (i : Nat) : w.frozen? ⟨g, i, none⟩ = false := frozen_of_row w g i cs t h
theorem Blk.new (w : World) (t : TypeId) (cs : Array Value) : Blk (w.alloc (.cells cs t)) w.heap.size t cs := heap_alloc_new w _
theorem Blk.turn (h : Blk w g t cs) (ht : Turn w w' row) (hr : some g ≠ row) : Blk w' g t cs := (World.grownBy.block ht g h.lt hr).trans h
theorem Blk.turn0 (h : Blk w g t cs) (ht : Turn w w' none) : Blk w' g t cs := h.turn ht (by simp)
theorem Blk.store (h : Blk w g t cs) (i : Nat) (u : Value) : Blk (w.setCell ⟨g, i, none⟩ u) g t (cs.setIfInBounds i u) := heap_setCell_same w g i cs t u h
theorem Blk.drew (h : Blk w g t cs) : Blk w.drew g t cs := h
theorem Blk.drewN (h : Blk w g t cs) (n : Nat) : Blk (w.drewN n) g t cs := h
theorem Blk.alloc (h : Blk w g t cs) (o : Obj) : Blk (w.alloc o) g t cs := h.turn0 (World.grownBy_alloc w o none)
theorem Blk.set_ (h : Blk w g t cs) (i : Nat) (u : Value) : Blk (w.setCell ⟨g, i, none⟩ u) g t (cs.setIfInBounds i u) := by
 unfold Blk at h ⊢
 simp [World.setCell, Array.getElem?_modify, h]
theorem Blk.setTurn (w : World) (g i : Nat) (u : Value) : Turn w (w.setCell ⟨g, i, none⟩ u) (some g) :=
 ⟨rfl, rfl, rfl, by simp [World.setCell], fun k _ hk => Below.heap_setCell _ _ _ _ (fun e => hk (by simp [e]))⟩
end
def vb (b : UInt8) : Value := .int .u8 (b.toNat : Int)
def vbs (l : List UInt8) : List Value := l.map vb
theorem vbs_len (l : List UInt8) : (vbs l).length = l.length := by simp [vbs]
theorem vbs_one (l : List UInt8) : ∀ u ∈ vbs l, u.oneCell' = true := by
 intro u hu
 obtain ⟨b, _, rfl⟩ := List.mem_map.1 hu
 rfl
theorem vbs_append (l m : List UInt8) : vbs (l ++ m) = vbs l ++ vbs m := by simp [vbs]
theorem vbs_take (l : List UInt8) (k : Nat) : (vbs l).take k = vbs (l.take k) := by simp [vbs]
theorem vbs_drop (l : List UInt8) (k : Nat) : (vbs l).drop k = vbs (l.drop k) := by simp [vbs]
theorem Rd.cutB {w : World} {B n c k : Nat} {A : Option Addr} {l : List UInt8} (h : Rd w B 1 A n (vbs l)) (hk : k ≤ n) (hc : n ≤ c) :
  Rd w B 1 (if c = k then A else Option.map (fun a => a.add k) A) (n - k) (vbs (l.drop k)) := by
 have h2 := h.cut (c := c) hk hc
 rw [Nat.mul_one, vbs_drop] at h2
 exact h2
theorem add_flat (b off k : Nat) : (⟨b, off, none⟩ : Addr).add k = ⟨b, off + k, none⟩ := by
 unfold Addr.add
 split
 ·rename_i h; subst h; rfl
 ·rfl
theorem Rd.tailB {w : World} {B n c k b off : Nat} {l : List UInt8} (h : Rd w B 1 (some ⟨b, off, none⟩) n (vbs l)) (hk : k ≤ n) (hc : n ≤ c) (hne : ¬ c = k) :
  Rd w B 1 (some ⟨b, off + k, none⟩) (n - k) (vbs (l.drop k)) := by
 have h2 := h.cutB (c := c) hk hc
 rw [if_neg hne, Option.map_some, add_flat] at h2
 exact h2
def txt (l : List UInt8) : ByteArray := ⟨l.toArray⟩
theorem txt_size (l : List UInt8) : (txt l).size = l.length := by simp [txt, ByteArray.size]
theorem txt_of (s : ByteArray) : txt s.data.toList = s := by simp [txt]
theorem bytes_back (l : List UInt8) : (l.map fun b => (b.toNat : Int)).map (fun n => UInt8.ofNat n.toNat) = l := by
 induction l with
 | nil => rfl
 | cons b r ih => simp only [List.map_cons, ih]; simp
theorem run_txt {P : Program} (w : World) (B : Nat) (src dst e : TypeId) (A : Option Addr) (n c : Nat) (l : List UInt8) (hs : P.underlying src = some (.slice e)) (he : P.underlying e = some (.int .u8))
  (hd : P.underlying dst = some .string) (h : Rd w B 1 A n (vbs l)) : (convert src dst (.slice A n c)).run P w = .ok (.string (txt l)) w := by
 rw [run_convert_bytes_string w src dst e _ n c hs he hd]
 cases A with
 | none =>
  have hl : l = [] := by
   cases l with
   | nil => rfl
   | cons b r =>
    obtain ⟨a, ha, _⟩ := h.2 0 (vb b) (by simp [vbs])
    cases ha
  subst hl
  simp [Conv.bytesToString, txt]
  rfl
 | some a =>
  have hl : (loadCells a n).run P w = .ok ((l.map fun b => (b.toNat : Int)).map (Value.int .u8)).toArray w := by
   have h1 := run_loadCells_list (P := P) w a (vbs l) (fun j v hj => by
    obtain ⟨a', ha, _, hc⟩ := h.2 j v hj
    injection ha with ha
    subst ha
    exact hc)
   have h2 : (vbs l).length = n := h.len
   rw [h2] at h1
   rw [h1]
   simp [vbs, vb]
  rw [run_bytesToString w a n c _ hl, foldl_push_bytes]
  rw [bytes_back]
  simp [txt, ByteArray.empty, ByteArray.emptyWithCapacity]
  rfl
open Go.ChangeShapes Go.WideShapes Go.ChangeAt Go.RowKit
open Go.ChangeMaps (open_string shut_string)
theorem frOwn : ownKnob Tryz.prog.godebug = none := by kernel_rfl
theorem frLaid : laidOutB Tryz.prog = true := by kernel_rfl
section
variable {H : Type} {enc : TypeId × Value → H} {P : Program} {W : World}
theorem str_reach {ts : List TypeId} {ds : List (DataW H)} (h : (DataW.weightsEach P ts ds).all (· ≤ reachBytes) = true) {j : Nat} {t : TypeId} {s : ByteArray} (ht : ts[j]? = some t) (hd : ds[j]? = some (.lit (.string s.data.toList))) : s.size ≤ 140737488351232 := by
 have h1 := sized_string h ht hd
 rw [Array.length_toList] at h1
 exact h1
end
open Go.ChangeShapes Go.WideShapes Go.ChangeAt Go.RowKit
def strData {H : Type} (ss : List (List UInt8)) : DataW H := .agg (ss.map fun s => .lit (.string s))
theorem cells_of_strs {H : Type} {enc : TypeId × Value → H} {P : Program} {w : World} {base : Nat} {sp : Nat → Bool} {held : Bool} {fuel : Nat} {t e : TypeId} {n : Nat} {cs : List Value} {ss : List (List UInt8)} {p : List MemPlace}
  (ht : P.underlying t = some (.array n e)) (he : P.underlying e = some .string) (hce : P.cellsOf e = 1) (hct : P.cellsOf t = n)
  (h : DataW.trod enc P w base sp held fuel t cs = some (strData ss, p)) : cs = ss.map fun s => Value.string (txt s) := by
 cases fuel with
 | zero => simp [DataW.trod] at h
 | succ fuel =>
  simp only [DataW.trod, ht, hce, hct, Nat.mul_one] at h
  split at h
  ·rename_i hl
   obtain ⟨xs, hm, hx⟩ := Option.map_eq_some_iff.1 h
   have hxs : xs.map (·.1) = ss.map fun s => (DataW.lit (.string s) : DataW H) := by
    have := congrArg Prod.fst hx
    simpa [strData] using this
   have hxl : xs.length = n := by simpa using Lib.mapM_length hm
   have hsl : ss.length = n := by
    have := congrArg List.length hxs
    simp at this
    omega
   apply List.ext_getElem?
   intro i
   by_cases hi : i < n
   ·obtain ⟨b, hb, hf⟩ := Lib.mapM_at hm i i (by simp [hi])
    obtain ⟨s, hc, rfl, _⟩ := DataW.trod_string he hf
    have h1 : cs[i]? = some (.string s) := by
     have := congrArg (·[0]?) hc
     simpa [List.getElem?_take, List.getElem?_drop] using this
    have h2 : (xs.map (·.1))[i]? = some (DataW.lit (.string s.data.toList) : DataW H) := by simp [hb]
    rw [hxs] at h2
    simp only [List.getElem?_map, Option.map_eq_some_iff, DataW.lit.injEq, Lit.string.injEq] at h2
    obtain ⟨z', hz', hzz⟩ := h2
    rw [h1, List.getElem?_map, hz', hzz]
    show _ = some (Value.string (txt s.data.toList))
    rw [txt_of]
   ·rw [List.getElem?_eq_none (by omega), List.getElem?_eq_none (by simp; omega)]
  ·cases h
def laidRow (cs : List Value) : Obj → Obj
 | .cells _ t frozen => .cells cs.toArray t frozen
 | o => o
def intRow (k : IntKind) : DataW Unit → List Value
 | .agg l => l.map fun
  | .lit (.int _ n) => .int k n
  | _ => undef
 | _ => []
open Go.RowKit
def El (P : Program) (t E : TypeId) (sz by_ : Nat) : Prop :=
 P.underlying t = some (.slice E) ∧ ∃ i z, P.info? E = some i ∧ i.zero = some z ∧ i.size = sz ∧ i.bytes = by_ ∧ z.cells.size = sz ∧ 0 < sz
theorem El.mk_ {P : Program} {t E : TypeId} {sz by_ : Nat} {z : Value} (ht : P.underlying t = some (.slice E)) (h : (P.info? E).map (fun i => (i.zero, i.size, i.bytes)) = some (some z, sz, by_))
  (hz : z.cells.size = sz) (hs : 0 < sz) : El P t E sz by_ := by
 obtain ⟨i, h1, h2, h3, h4⟩ := info_parts h
 exact ⟨ht, i, z, h1, h2, h3, h4, hz, hs⟩
section
variable {P : Program} {w : World} {ops : Array Oper} {rest : List Oper} {o : Oper} {a : Act} {Q : Exit → Act → World → Prop}
theorem run_app_nil {base sz by_ n c : Nat} {t ty E : TypeId} (he : El P t E sz by_) {A : Option Addr} {xs : List Value} (hown : Own w base E sz A n c xs) (c' : Nat) :
  (Builtin.append_ #[t, t] ty #[.slice A n c, .slice none 0 c']).run P w = .ok (.slice A n c) w := by
 obtain ⟨ht, i, z, hi, hz, hsz, hby, hzs, h0⟩ := he
 rcases hown.2 with ⟨hv, _⟩ | ⟨g, cap, cur, hv, _, _, hnc, _⟩
 ·injection hv with h1 h2 h3
  subst h1; subst h2; subst h3
  simp [Builtin.append_, run_underlying ht, sizeOf, typeInfo, hi, Builtin.lenOf, Builtin.firstCells]
 ·injection hv with h1 h2 h3
  subst h1; subst h3
  simp [Builtin.append_, run_underlying ht, sizeOf, typeInfo, hi, Builtin.lenOf, Builtin.firstCells, hnc, storeCells]
theorem rd_nil_len {B sz m : Nat} {news : List Value} (hr : Rd w B sz none m news) (hsz : 0 < sz) : m = 0 ∧ news = [] := by
 cases news with
 | nil =>
  have h : m * sz = 0 := by have := hr.1; simpa using this.symm
  refine ⟨?_, rfl⟩
  rcases Nat.mul_eq_zero.1 h with h | h
  ·exact h
  ·omega
 | cons u r =>
  obtain ⟨x, hx, _⟩ := hr.2 0 u (by simp)
  cases hx
theorem run_app {base sz by_ n c : Nat} {t ty E : TypeId} (he : El P t E sz by_) {A : Option Addr} {xs : List Value} (hown : Own w base E sz A n c xs)
  {B m c' : Nat} {X : Option Addr} {news : List Value} (hr : Rd w B sz X m news) (h1 : ∀ u ∈ news, u.oneCell' = true)
  (h63 : n + m ≤ maxLen) (hby : (n + m) * by_ ≤ 140737488355328) (hbase : base ≤ w.heap.size) :
  ∃ A' c2 w', (Builtin.append_ #[t, t] ty #[.slice A n c, .slice X m c']).run P w = .ok (.slice A' (n + m) c2) w' ∧ Own w' base E sz A' (n + m) c2 (xs ++ news) ∧ Turn w w' (blk A) ∧
   (blk A' = blk A ∨ blk A' = some w.heap.size) := by
 have he' := he
 obtain ⟨ht, i, z, hi, hz, hsz, hb, hzs, h0⟩ := he
 cases X with
 | none =>
  obtain ⟨rfl, rfl⟩ := rd_nil_len hr h0
  exact ⟨A, c, w, run_app_nil he' hown c', by simpa using hown, Turn.refl w _, .inl rfl⟩
 | some ad =>
  obtain ⟨v', w', hrun, ho', hg, _, hblk⟩ := run_append_own_at (P := P) w base t ty E i z sz by_ ht hi hz hsz hb hzs h0 (.slice A n c) n xs hown ad m c' news hr.1 (fun j u hu => by
   obtain ⟨a', ha, _, hc⟩ := hr.2 j u hu
   injection ha with ha
   subst ha
   exact hc) h1 h63 hby hbase
  have eA : ∀ (A : Option Addr) (n c : Nat), (Value.slice A n c).ownBlock = blk A := fun A n c => by cases A <;> rfl
  have hv : ∃ A' c2, v' = .slice A' (n + m) c2 := by
   rcases ho'.2 with ⟨hv, h⟩ | ⟨g, cap, cur, hv, _⟩
   ·exact ⟨none, 0, by rw [hv, h]⟩
   ·exact ⟨_, _, hv⟩
  obtain ⟨A', c2, rfl⟩ := hv
  rw [eA, eA] at hblk
  rw [eA] at hg
  exact ⟨A', c2, w', hrun, ho', hg, hblk⟩
theorem wp_app (hgd : o.guard = none) (s x : Operand) (t : TypeId) (ho : o.op = .call { callee := .builtin .append, args := #[s, x], argTypes := #[t, t] })
  {base sz by_ n c : Nat} {E : TypeId} (he : El P t E sz by_) {A : Option Addr} {xs : List Value} (hs : a.eval s = .slice A n c)
  {B m c' : Nat} {X : Option Addr} {news : List Value} (hx : a.eval x = .slice X m c') (hown : Own w base E sz A n c xs) (hr : Rd w B sz X m news) (h1 : ∀ u ∈ news, u.oneCell' = true)
  (h63 : n + m ≤ maxLen) (hby : (n + m) * by_ ≤ 140737488355328) (hbase : base ≤ w.heap.size)
  (hK : ∀ A' c2 w', Own w' base E sz A' (n + m) c2 (xs ++ news) → Turn w w' (blk A) → (blk A' = blk A ∨ blk A' = some w.heap.size) → wpList P ops Q rest (a.put o.dst (.slice A' (n + m) c2)) w') :
  wpList P ops Q (o :: rest) a w := by
 refine wpList_plain hgd fun K hK2 => ?_
 obtain ⟨A', c2, w', hrun, h2, h3, h4⟩ := run_app (ty := o.type) he hown (c' := c') hr h1 h63 hby hbase
 unfold Oper.wp execOp
 simp only [ho, resolve, invoke, builtin, Sem.run_bind, Sem.run_pure, Result.andThen_ok, List.map_toArray, List.map_cons, List.map_nil, hs, hx, hrun]
 exact hK2 _ _ (hK A' c2 w' h2 h3 h4)
theorem st_app {K : Act → World → Prop} {F : Prop} (hgd : o.guard = none) (s x : Operand) (t : TypeId) (ho : o.op = .call { callee := .builtin .append, args := #[s, x], argTypes := #[t, t] })
  {base sz by_ n c : Nat} {E : TypeId} (he : El P t E sz by_) {A : Option Addr} {xs : List Value} (hs : a.eval s = .slice A n c)
  {B m c' : Nat} {X : Option Addr} {news : List Value} (hx : a.eval x = .slice X m c') (hown : Own w base E sz A n c xs) (hr : Rd w B sz X m news) (h1 : ∀ u ∈ news, u.oneCell' = true)
  (h63 : n + m ≤ maxLen) (hby : (n + m) * by_ ≤ 140737488355328) (hbase : base ≤ w.heap.size)
  (hK : ∀ A' c2 w', Own w' base E sz A' (n + m) c2 (xs ++ news) → Turn w w' (blk A) → (blk A' = blk A ∨ blk A' = some w.heap.size) → K (a.put o.dst (.slice A' (n + m) c2)) w') :
  if Region.wanted o (yielded ops a.tmps) = true then Oper.wp P o a w K Q else F := by
 have hw : Region.wanted o (yielded ops a.tmps) = true := by simp [Region.wanted, hgd]
 rw [if_pos hw]
 obtain ⟨A', c2, w', hrun, h2, h3, h4⟩ := run_app (ty := o.type) he hown (c' := c') hr h1 h63 hby hbase
 unfold Oper.wp execOp
 simp only [ho, resolve, invoke, builtin, Sem.run_bind, Sem.run_pure, Result.andThen_ok, List.map_toArray, List.map_cons, List.map_nil, hs, hx, hrun]
 exact hK A' c2 w' h2 h3 h4
theorem run_apps {base n c : Nat} {t u ty E : TypeId} (ht : P.underlying t = some (.slice E)) (hu : P.underlying u = some .string) (he : (P.info? E).map (fun i => (i.zero, i.size, i.bytes)) = some (some (.int .u8 0), 1, 1))
  {A : Option Addr} {xs : List Value} (hown : Own w base E 1 A n c xs) (s : ByteArray) (h63 : n + s.size ≤ maxLen) (hby : n + s.size ≤ 140737488355328) (hbase : base ≤ w.heap.size) :
  ∃ A' c2 w', (Builtin.append_ #[t, u] ty #[.slice A n c, .string s]).run P w = .ok (.slice A' (n + s.size) c2) w' ∧ Own w' base E 1 A' (n + s.size) c2 (xs ++ vbs s.data.toList) ∧ Turn w w' (blk A) ∧
   (blk A' = blk A ∨ blk A' = some w.heap.size) := by
 obtain ⟨i, hi, hz, hsz, hb⟩ := info_parts he
 have hsmall : n + s.size ≤ 9223372036854775807 := by simp only [maxLen] at h63; omega
 obtain ⟨v', w', hr, ho, hg, hn⟩ := Lib.run_append_own_string (P := P) w base t u ty E i ht hu hi hz hsz hb (.slice A n c) n xs hown s h63 hby hbase
 have eA : ∀ (A : Option Addr) (n c : Nat), (Value.slice A n c).ownBlock = blk A := fun A n c => by cases A <;> rfl
 have hv : ∃ A' c2, v' = .slice A' (n + s.size) c2 := by
  rcases ho.2 with ⟨hv, h⟩ | ⟨g, cap, cur, hv, _⟩
  ·exact ⟨none, 0, by rw [hv, h]⟩
  ·exact ⟨_, _, hv⟩
 obtain ⟨A', c2, rfl⟩ := hv
 rw [eA] at hg
 refine ⟨A', c2, w', hr, ho, hg, ?_⟩
 rcases hown.2 with ⟨hv, h0⟩ | ⟨g, cap, cur, hv, _, hgg, hnc, _, hcs, _⟩
 ·injection hv with h1 h2 h3
  subst h1; subst h2; subst h3
  by_cases hm : s.size = 0
  ·have := hn.2 ⟨rfl, hm⟩
   injection this with h1
   exact .inl (by rw [h1])
  ·have h2 := run_append_nil_string (P := P) w t u ty E i (.int .u8 0) ht hu hi hz s (by omega) (by omega) (by rw [hb]; omega)
   rw [hr] at h2
   injection h2 with h2 _
   injection h2 with h2
   exact .inr (by rw [h2]; rfl)
 ·injection hv with h1 _ h3
  subst h1; subst h3
  by_cases hroom : n + s.size ≤ c
  ·have h2 := Lib.run_append_room_string (P := P) w t u ty E i ht hu hi hsz g n c cur hgg s hroom (by omega)
   rw [hr] at h2
   injection h2 with h2 _
   injection h2 with h2
   exact .inl (by rw [h2])
  ·have h2 := Lib.run_append_grow_string (P := P) w t u ty E i (.int .u8 0) ht hu hi hz ⟨g, 0, none⟩ n c xs (by rw [hsz]; exact hown.1) (World.ownsRow.cells hown (g := g) rfl) s (by omega) (by omega) (by rw [hb]; exact growslice_fits (by omega) (by omega))
   rw [hr] at h2
   injection h2 with h2 _
   injection h2 with h2
   exact .inr (by rw [h2]; rfl)
theorem wp_apps (hgd : o.guard = none) (s x : Operand) (t u : TypeId) (ho : o.op = .call { callee := .builtin .append, args := #[s, x], argTypes := #[t, u] })
  {base n c : Nat} {E : TypeId} (ht : P.underlying t = some (.slice E)) (hu : P.underlying u = some .string) (he : (P.info? E).map (fun i => (i.zero, i.size, i.bytes)) = some (some (.int .u8 0), 1, 1))
  {A : Option Addr} {xs : List Value} (hs : a.eval s = .slice A n c) {b : ByteArray} (hx : a.eval x = .string b) (hown : Own w base E 1 A n c xs)
  (h63 : n + b.size ≤ maxLen) (hby : n + b.size ≤ 140737488355328) (hbase : base ≤ w.heap.size)
  (hK : ∀ A' c2 w', Own w' base E 1 A' (n + b.size) c2 (xs ++ vbs b.data.toList) → Turn w w' (blk A) → (blk A' = blk A ∨ blk A' = some w.heap.size) → wpList P ops Q rest (a.put o.dst (.slice A' (n + b.size) c2)) w') :
  wpList P ops Q (o :: rest) a w := by
 refine wpList_plain hgd fun K hK2 => ?_
 obtain ⟨A', c2, w', hrun, h2, h3, h4⟩ := run_apps (ty := o.type) ht hu he hown b h63 hby hbase
 unfold Oper.wp execOp
 simp only [ho, resolve, invoke, builtin, Sem.run_bind, Sem.run_pure, Result.andThen_ok, List.map_toArray, List.map_cons, List.map_nil, hs, hx, hrun]
 exact hK2 _ _ (hK A' c2 w' h2 h3 h4)
theorem wp_mk0 (hgd : o.guard = none) (l cc : Operand) (t : TypeId) (ho : o.op = .makeSlice t l cc)
  {by_ : Nat} {E : TypeId} (he : El P t E 1 by_) {z0 : Value} (hz0 : (P.info? E).map (fun i => i.zero) = some (some z0)) (hz1 : z0.cells = #[z0]) {kl kc : IntKind} {L C : Int} (hl : a.eval l = .int kl L) (hc : a.eval cc = .int kc C) (n c : Nat) (hL : L = n) (hC : C = c)
  (hnc : n ≤ c) (hby : by_ * c ≤ 281474976710656) (h63 : c ≤ maxLen)
  (hK : ∀ w', Own w' w.heap.size E 1 (some ⟨w.heap.size, 0, none⟩) n c (List.replicate n z0) → Turn w w' none → wpList P ops Q rest (a.put o.dst (.slice (some ⟨w.heap.size, 0, none⟩) n c)) w') :
  wpList P ops Q (o :: rest) a w := by
 refine wpList_plain hgd fun K hK2 => ?_
 obtain ⟨ht, i, z, hi, hz, hsz, hb, hzs, h0⟩ := he
 subst hL; subst hC
 have ez : z = z0 := by
  rw [hi, Option.map_some, hz] at hz0
  injection hz0 with e
  injection e
 subst ez
 have hbi : (i.bytes : Int) * (c : Int) ≤ 281474976710656 := by
  rw [hb]
  have h : ((by_ * c : Nat) : Int) ≤ 281474976710656 := by omega
  rwa [Int.natCast_mul] at h
 have hr := run_make (P := P) w t E i z ht hi hz kl kc n c (by omega) (by omega) hbi (by simp only [maxLen] at h63; omega)
 simp only [Int.toNat_natCast] at hr
 have hcs : (madeCells z.cells (c * i.size)).size = c * 1 := by rw [size_madeCells, hsz]
 have hown := Own.full w w.heap.size E 1 n c (madeCells z.cells (c * i.size)) (Nat.le_refl _) h63 hnc hcs
 have hlist : (madeCells z.cells (c * i.size)).toList.take (n * 1) = List.replicate n z := by
  rw [hsz, hz1, toList_madeCells_one, List.take_replicate, Nat.mul_one, Nat.mul_one, Nat.min_eq_left hnc]
 rw [hlist] at hown
 unfold Oper.wp execOp
 simp only [ho, hl, hc, Sem.run_bind, Sem.run_pure, Result.andThen_ok, hr]
 exact hK2 _ _ (hK _ hown (World.grownBy_alloc w _ none))
def Fut (w : World) : Type := { w' : World // Turn w w' none }
def Fut.at_ {w : World} (x : Fut w) : World := x.1
instance futNonempty (w : World) : Nonempty (Fut w) := ⟨⟨w, Turn.refl w none⟩⟩
theorem Fut.turn {w : World} (x : Fut w) : Turn w x.at_ none := x.2
theorem Rd.lit (w : World) (E : TypeId) (cs : List Value) : Rd (w.alloc (.cells cs.toArray E)) (w.heap.size + 1) 1 (some ⟨w.heap.size, 0, none⟩) cs.length cs := by
 refine ⟨by simp, fun k u hu => ⟨_, rfl, Nat.lt_succ_self _, ?_⟩⟩
 exact World.news_of_block (cs := cs.toArray) (heap_alloc_new w _) k u (by simpa using hu)
theorem ones_nil : ∀ u ∈ ([] : List Value), u.oneCell' = true := fun u hu => by cases hu
theorem ones_cons {v : Value} {l : List Value} (h : v.oneCell' = true) (hl : ∀ u ∈ l, u.oneCell' = true) : ∀ u ∈ v :: l, u.oneCell' = true := by
 intro u hu
 rcases List.mem_cons.1 hu with rfl | hu
 ·exact h
 ·exact hl u hu
end
open Go.RowKit
set_option linter.unusedSectionVars false
structure Rw where
 E : TypeId
 sz : Nat
 A : Option Addr
 n : Nat
 c : Nat
 xs : List Value
def Rw.v (r : Rw) : Value := .slice r.A r.n r.c
def Rw.own (w : World) (base : Nat) (r : Rw) : Prop := Own w base r.E r.sz r.A r.n r.c r.xs
def Rw.nil (E : TypeId) (sz : Nat) : Rw := ⟨E, sz, none, 0, 0, []⟩
def Off (r s : Rw) : Prop := ∀ g, blk r.A = some g → blk s.A ≠ some g
theorem Off.symm {r s : Rw} (h : Off r s) : Off s r := fun g e e' => h g e' e
theorem Off.nil {E : TypeId} {sz : Nat} {s : Rw} : Off (Rw.nil E sz) s := fun g e => by cases e
section
variable {ι : Type} [DecidableEq ι]
structure Aps (w : World) (base : Nat) (R : ι → Rw) : Prop where
 own : ∀ i, (R i).own w base
 off : ∀ i j, i ≠ j → Off (R i) (R j)
def upd (R : ι → Rw) (i : ι) (r : Rw) : ι → Rw := fun j => if j = i then r else R j
theorem upd_same (R : ι → Rw) (i : ι) (r : Rw) : upd R i r i = r := if_pos rfl
theorem upd_other (R : ι → Rw) {i j : ι} (r : Rw) (h : j ≠ i) : upd R i r j = R j := if_neg h
variable {w w' : World} {base : Nat} {R : ι → Rw}
theorem Aps.turn0 (h : Aps w base R) (ht : Turn w w' none) : Aps w' base R := ⟨fun i => Own.turn0 (h.own i) ht, h.off⟩
theorem Aps.turn (h : Aps w base R) {g : Nat} (ht : Turn w w' (some g)) (hg : ∀ i, blk (R i).A ≠ some g) : Aps w' base R := ⟨fun i => Own.turn (h.own i) ht (.inr (hg i)), h.off⟩
theorem Aps.step (h : Aps w base R) (i : ι) (r : Rw) (hr : r.own w' base) (ht : Turn w w' (blk (R i).A)) (hb : blk r.A = blk (R i).A ∨ ∃ g, blk r.A = some g ∧ w.heap.size ≤ g) : Aps w' base (upd R i r) := by
 have key : ∀ j, j ≠ i → Off r (R j) := by
  intro j hj g hg e
  rcases hb with hb | ⟨g', hb, hs⟩
  ·exact h.off i j (Ne.symm hj) g (hb ▸ hg) e
  ·rw [hb] at hg
   injection hg with hg
   have := (Own.block (h.own j) g e).2
   omega
 refine ⟨fun j => ?_, fun j k hjk => ?_⟩
 ·by_cases hj : j = i
  ·subst hj; rw [upd_same]; exact hr
  ·rw [upd_other R r hj]
   refine Own.turn (h.own j) ht ?_
   cases hA : blk (R i).A with
   | none => exact .inl rfl
   | some g =>
    right
    intro e
    exact h.off i j (Ne.symm hj) g hA e
 ·by_cases hj : j = i
  ·subst hj
   rw [upd_same, upd_other R r (Ne.symm hjk)]
   exact key k (Ne.symm hjk)
  ·rw [upd_other R r hj]
   by_cases hk : k = i
   ·subst hk; rw [upd_same]; exact (key j hj).symm
   ·rw [upd_other R r hk]; exact h.off j k hjk
theorem Aps.lt (h : Aps w base R) (i : ι) {g : Nat} (e : blk (R i).A = some g) : base ≤ g ∧ g < w.heap.size := Own.block (h.own i) g e
theorem Aps.mono (h : Aps w base R) {b : Nat} (hb : b ≤ base) : Aps w b R := ⟨fun i => Own.mono (h.own i) hb, h.off⟩
end
theorem Own.not_blk {w : World} {base sz n c g : Nat} {E t : TypeId} {A : Option Addr} {xs : List Value} {cs : Array Value} (h : Own w base E sz A n c xs) (hb : Blk w g t cs) (ht : t ≠ E) : blk A ≠ some g := by
 intro e
 rcases h.2 with ⟨hv, _⟩ | ⟨g', cap, cur, hv, _, hgb, _⟩
 ·injection hv with hA
  subst hA
  cases e
 ·injection hv with hA
  subst hA
  have : g' = g := by simpa [blk] using e
  subst this
  rw [show w.heap[g']? = _ from hb] at hgb
  simp only [Option.some.injEq, Obj.cells.injEq] at hgb
  exact ht hgb.2.1
def wLow (c : UInt8) : Bool := decide (97 ≤ c.toNat ∧ c.toNat ≤ 122)
def wNum (c : UInt8) : Bool := decide (48 ≤ c.toNat ∧ c.toNat ≤ 57)
def wIn (c : UInt8) : Bool := wLow c || wNum c || decide (c.toNat = 95)
def wSign (c : UInt8) : Bool := [40, 41, 91, 93, 123, 125, 60, 62, 124, 58, 59, 44, 63].contains c.toNat
def wBlank (c : UInt8) : Bool := decide (c.toNat = 32 ∨ c.toNat = 9 ∨ c.toNat = 10 ∨ c.toNat = 13)
def wNote (note : Bool) (c : UInt8) : Bool := if c.toNat = 10 then false else if c.toNat = 35 then true else note
def wPass (note : Bool) (c : UInt8) : Bool := wNote note c || wBlank c
def wSkip : Bool → List UInt8 → Nat
 | _, [] => 0
 | note, c :: r => if wPass note c then wSkip (wNote note c) r + 1 else 0
def wMore (c : UInt8) (r : List UInt8) : Nat := if wLow c then (r.takeWhile wIn).length else if wNum c then (r.takeWhile wNum).length else 0
def wBegins (c : UInt8) : Bool := wLow c || wNum c || wSign c
def wKind (c : UInt8) : Nat := if wLow c then 0 else if wNum c then 1 else 2
structure Tok where
 k : Nat
 s : List UInt8
 at_ : Nat
def wGo : Nat → Nat → Nat → List UInt8 → Except (Nat × Nat) (List Tok)
 | 0, _, _, _ => .error (0, 0)
 | f + 1, n, at_, l =>
  match l.drop (wSkip false l) with
  | [] => if n = 1500 then .error (4096, 2) else .ok [⟨3, [], at_ + wSkip false l⟩]
  | c :: r =>
   if wBegins c then
    if n = 1500 then .error (4096, 2)
    else match wGo f (n + 1) (at_ + wSkip false l + 1 + wMore c r) (r.drop (wMore c r)) with
     | .ok ts => .ok (⟨wKind c, c :: r.take (wMore c r), at_ + wSkip false l⟩ :: ts)
     | .error e => .error e
   else .error (at_ + wSkip false l, 4)
def wWords (l : List UInt8) : Except (Nat × Nat) (List Tok) := if 4096 < l.length then .error (0, 2) else wGo (l.length + 1) 0 0 l
theorem wSkip_le : ∀ (note : Bool) (l : List UInt8), wSkip note l ≤ l.length
 | _, [] => Nat.le_refl _
 | note, c :: r => by
  unfold wSkip
  split
  ·have := wSkip_le (wNote note c) r
   rw [List.length_cons]; omega
  ·omega
theorem wMore_le (c : UInt8) (r : List UInt8) : wMore c r ≤ r.length := by
 have h (p : UInt8 → Bool) : (r.takeWhile p).length ≤ r.length := (List.takeWhile_sublist p).length_le
 unfold wMore
 split
 ·exact h _
 split
 ·exact h _
 ·omega
theorem wSkip_here {c : UInt8} {r : List UInt8} (h : wPass false c = false) : wSkip false (c :: r) = 0 := by
 unfold wSkip; rw [if_neg (by rw [h]; simp)]
theorem takeWhile_next {p : UInt8 → Bool} : ∀ (r : List UInt8) (d : UInt8) (q : List UInt8), r.drop (r.takeWhile p).length = d :: q → p d = false
 | [], d, q, h => by simp at h
 | c :: r, d, q, h => by
  by_cases hc : p c = true
  ·simp only [List.takeWhile_cons, hc, if_true, List.length_cons, List.drop_succ_cons] at h
   exact takeWhile_next r d q h
  ·have hc' : p c = false := by simpa using hc
   simp only [List.takeWhile_cons, hc', Bool.false_eq_true, if_false, List.length_nil, List.drop_zero] at h
   injection h with h1 _
   subst h1
   exact hc'
theorem wKind_le (c : UInt8) : wKind c ≤ 2 := by unfold wKind; split <;> (try split) <;> omega
theorem wGo_ord : ∀ (f n at_ : Nat) (L : List UInt8) (ts : List Tok), at_ ≤ L.length → wGo f n at_ (L.drop at_) = .ok ts → ts ≠ [] ∧ (∀ t, ts[0]? = some t → at_ ≤ t.at_) ∧
  ∀ i t, ts[i]? = some t → t.at_ + t.s.length ≤ L.length ∧ (L.drop t.at_).take t.s.length = t.s ∧ (t.k = 3 ↔ i + 1 = ts.length) ∧ (t.s = [] ↔ t.k = 3) ∧ ∀ u, ts[i + 1]? = some u → t.at_ + t.s.length ≤ u.at_
 | 0, _, _, _, _, _, h => by simp [wGo] at h
 | f + 1, n, at_, L, ts, ha, h => by
  unfold wGo at h
  have hs := wSkip_le false (L.drop at_)
  rw [List.length_drop] at hs
  cases hd : (L.drop at_).drop (wSkip false (L.drop at_)) with
  | nil =>
   rw [hd] at h
   simp only at h
   split at h
   ·cases h
   ·injection h with h
    subst h
    have hz : L.length - at_ - wSkip false (L.drop at_) = 0 := by
     have := congrArg List.length hd
     rw [List.length_drop, List.length_drop] at this
     simpa using this
    refine ⟨by simp, fun t ht => ?_, fun i t ht => ?_⟩
    ·obtain rfl : (⟨3, [], at_ + wSkip false (L.drop at_)⟩ : Tok) = t := by simpa using ht
     exact Nat.le_add_right _ _
    ·cases i with
     | succ i => simp at ht
     | zero =>
      obtain rfl : (⟨3, [], at_ + wSkip false (L.drop at_)⟩ : Tok) = t := by simpa using ht
      exact ⟨by simp only [List.length_nil]; omega, by simp, by simp, by simp, by simp⟩
  | cons c r =>
   rw [hd] at h
   simp only at h
   have hl1 : r.length + 1 = L.length - at_ - wSkip false (L.drop at_) := by rw [← List.length_drop, ← List.length_drop, hd]; rfl
   have hm := wMore_le c r
   rw [List.drop_drop] at hd
   obtain ⟨s, hse⟩ : ∃ s, s = wSkip false (L.drop at_) := ⟨_, rfl⟩
   rw [← hse] at hs hd h hl1
   split at h
   ·rename_i hb
    split at h
    ·cases h
    ·have hdd : r.drop (wMore c r) = L.drop (at_ + s + 1 + wMore c r) := by
      have : L.drop (at_ + s + (1 + wMore c r)) = r.drop (wMore c r) := by rw [← List.drop_drop, hd, Nat.add_comm 1, List.drop_succ_cons]
      rw [← this]
      congr 1
      omega
     rw [hdd] at h
     cases hg : wGo f (n + 1) (at_ + s + 1 + wMore c r) (L.drop (at_ + s + 1 + wMore c r)) with
     | error e => rw [hg] at h; cases h
     | ok us =>
      rw [hg] at h
      injection h with h
      subst h
      obtain ⟨h1, h2, h3⟩ := wGo_ord f (n + 1) (at_ + s + 1 + wMore c r) L us (by omega) hg
      have htl : (r.take (wMore c r)).length = wMore c r := by rw [List.length_take]; omega
      refine ⟨by simp, fun t ht => ?_, fun i t ht => ?_⟩
      ·obtain rfl : (⟨wKind c, c :: r.take (wMore c r), at_ + s⟩ : Tok) = t := by simpa using ht
       exact Nat.le_add_right _ _
      ·cases i with
       | zero =>
        obtain rfl : (⟨wKind c, c :: r.take (wMore c r), at_ + s⟩ : Tok) = t := by simpa using ht
        have hkk := wKind_le c
        have hus : us.length ≠ 0 := fun e => h1 (List.eq_nil_of_length_eq_zero e)
        refine ⟨?_, ?_, ?_, ?_, ?_⟩
        ·simp only [List.length_cons, htl]; omega
        ·simp only [hd, List.length_cons, htl, List.take_succ_cons]
        ·simp only [List.length_cons]; omega
        ·simp only [List.cons_ne_nil, false_iff]; omega
        ·intro u hu
         have := h2 u (by simpa using hu)
         simp only [List.length_cons, htl]; omega
       | succ i =>
        obtain ⟨k1, k2, k3, k4, k5⟩ := h3 i t (by simpa using ht)
        exact ⟨k1, k2, by rw [k3, List.length_cons]; omega, k4, fun u hu => k5 u (by simpa using hu)⟩
   ·cases h
theorem wWords_ord {l : List UInt8} {ts : List Tok} (h : wWords l = .ok ts) : l.length ≤ 4096 ∧ ts ≠ [] ∧
  ∀ i t, ts[i]? = some t → t.at_ + t.s.length ≤ l.length ∧ (l.drop t.at_).take t.s.length = t.s ∧ (t.k = 3 ↔ i + 1 = ts.length) ∧ (t.s = [] ↔ t.k = 3) ∧ ∀ u, ts[i + 1]? = some u → t.at_ + t.s.length ≤ u.at_ := by
 unfold wWords at h
 split at h
 ·cases h
 ·rename_i hl
  have h2 := wGo_ord (l.length + 1) 0 0 l ts (Nat.zero_le _) (by rw [List.drop_zero]; exact h)
  exact ⟨by omega, h2.1, h2.2.2⟩
theorem wGo_few : ∀ (f n at_ : Nat) (l : List UInt8) (ts : List Tok), wGo f n at_ l = .ok ts → n ≤ 1500 → n + ts.length ≤ 1500
 | 0, _, _, _, _, h, _ => by simp [wGo] at h
 | f + 1, n, at_, l, ts, h, hn => by
  unfold wGo at h
  cases hd : l.drop (wSkip false l) with
  | nil =>
   rw [hd] at h
   simp only at h
   split at h
   ·cases h
   ·injection h with h
    subst h
    simp only [List.length_singleton]
    omega
  | cons c r =>
   rw [hd] at h
   simp only at h
   split at h
   ·split at h
    ·cases h
    ·cases hg : wGo f (n + 1) (at_ + wSkip false l + 1 + wMore c r) (r.drop (wMore c r)) with
     | error e => rw [hg] at h; cases h
     | ok us =>
      rw [hg] at h
      injection h with h
      subst h
      have := wGo_few f (n + 1) _ _ us hg (by omega)
      rw [List.length_cons]; omega
   ·cases h
open Go.RowKit
def tc (t : Tok) : List Value := [.int .i64 (t.k : Int), .string (txt t.s), .int .i64 (t.at_ : Int)]
def tcs (ts : List Tok) : List Value := ts.flatMap tc
theorem tcs_cons (t : Tok) (ts : List Tok) : tcs (t :: ts) = tc t ++ tcs ts := rfl
theorem tcs_app (ts us : List Tok) : tcs (ts ++ us) = tcs ts ++ tcs us := by simp [tcs]
theorem tcs_len (ts : List Tok) : (tcs ts).length = ts.length * 3 := by
 induction ts with
 | nil => rfl
 | cons t ts ih => rw [tcs_cons, List.length_append, ih, List.length_cons]; simp [tc]; omega
theorem tcs_at {ts : List Tok} : ∀ {i : Nat} {t : Tok}, ts[i]? = some t → (tcs ts)[i * 3]? = some (.int .i64 (t.k : Int)) ∧ (tcs ts)[i * 3 + 1]? = some (.string (txt t.s)) ∧ (tcs ts)[i * 3 + 2]? = some (.int .i64 (t.at_ : Int)) := by
 induction ts with
 | nil => intro i t h; simp at h
 | cons u us ih =>
  intro i t h
  cases i with
  | zero =>
   obtain rfl : u = t := by simpa using h
   exact ⟨rfl, rfl, rfl⟩
  | succ i =>
   obtain ⟨h1, h2, h3⟩ := ih (i := i) (t := t) (by simpa using h)
   have e (j : Nat) : (tcs (u :: us))[i * 3 + j + 3]? = (tcs us)[i * 3 + j]? := by
    rw [tcs_cons, show i * 3 + j + 3 = (tc u).length + (i * 3 + j) by simp [tc]; omega, List.getElem?_append_right (by omega)]
    congr 1
    omega
   refine ⟨?_, ?_, ?_⟩
   ·rw [show (i + 1) * 3 = i * 3 + 0 + 3 by omega, e 0]; exact h1
   ·rw [show (i + 1) * 3 + 1 = i * 3 + 1 + 3 by omega, e 1]; exact h2
   ·rw [show (i + 1) * 3 + 2 = i * 3 + 2 + 3 by omega, e 2]; exact h3
theorem Rd.litS (w : World) (E : TypeId) (sz n : Nat) (cs : List Value) (h : cs.length = n * sz) : Rd (w.alloc (.cells cs.toArray E)) (w.heap.size + 1) sz (some ⟨w.heap.size, 0, none⟩) n cs := by
 refine ⟨h, fun k u hu => ⟨_, rfl, Nat.lt_succ_self _, ?_⟩⟩
 exact World.news_of_block (cs := cs.toArray) (heap_alloc_new w _) k u (by simpa using hu)
theorem drop_at {l : List UInt8} {a : Nat} {c : UInt8} (h : l[a]? = some c) : l.drop a = c :: l.drop (a + 1) := by
 obtain ⟨ha, rfl⟩ := List.getElem?_eq_some_iff.1 h
 exact List.drop_eq_getElem_cons ha
def wRun (p : UInt8 → Bool) (l : List UInt8) (a : Nat) : Nat := ((l.drop a).takeWhile p).length
theorem wRun_in {p : UInt8 → Bool} {l : List UInt8} {a : Nat} {c : UInt8} (h : l[a]? = some c) (hp : p c = true) : wRun p l a = wRun p l (a + 1) + 1 := by
 unfold wRun; rw [drop_at h, List.takeWhile_cons, if_pos hp, List.length_cons]
theorem wRun_out {p : UInt8 → Bool} {l : List UInt8} {a : Nat} {c : UInt8} (h : l[a]? = some c) (hp : p c = false) : wRun p l a = 0 := by
 unfold wRun; rw [drop_at h, List.takeWhile_cons, hp]; rfl
theorem wRun_end {p : UInt8 → Bool} {l : List UInt8} {a : Nat} (h : l.length ≤ a) : wRun p l a = 0 := by
 unfold wRun; rw [List.drop_of_length_le h]; rfl
theorem wRun_le (p : UInt8 → Bool) (l : List UInt8) (a : Nat) : wRun p l a ≤ l.length - a := by
 unfold wRun
 have := (List.takeWhile_sublist p (l := l.drop a)).length_le
 rwa [List.length_drop] at this
def wOver (note : Bool) (l : List UInt8) (a : Nat) : Nat := wSkip note (l.drop a)
theorem wOver_in {note : Bool} {l : List UInt8} {a : Nat} {c : UInt8} (h : l[a]? = some c) (hp : wPass note c = true) : wOver note l a = wOver (wNote note c) l (a + 1) + 1 := by
 unfold wOver; rw [drop_at h, wSkip, if_pos hp]
theorem wOver_out {note : Bool} {l : List UInt8} {a : Nat} {c : UInt8} (h : l[a]? = some c) (hp : wPass note c = false) : wOver note l a = 0 := by
 unfold wOver; rw [drop_at h, wSkip, hp]; rfl
theorem wOver_end {note : Bool} {l : List UInt8} {a : Nat} (h : l.length ≤ a) : wOver note l a = 0 := by
 unfold wOver; rw [List.drop_of_length_le h]; rfl
theorem wOver_le (note : Bool) (l : List UInt8) (a : Nat) : wOver note l a ≤ l.length - a := by
 unfold wOver
 have := wSkip_le note (l.drop a)
 rwa [List.length_drop] at this
theorem pass_blank {note : Bool} {c : UInt8} (h : wBlank c = true) : wPass note c = true := by unfold wPass; rw [h, Bool.or_true]
theorem note_blank {c : UInt8} (h : c.toNat ≠ 35) : wNote false c = false := by unfold wNote; split <;> rfl
theorem pass_sign {c : UInt8} (h : c.toNat = 35) : wPass false c = true ∧ wNote false c = true := by
 have : wNote false c = true := by unfold wNote; rw [if_neg (by omega), if_pos h]
 exact ⟨by unfold wPass; rw [this]; rfl, this⟩
theorem pass_in {c : UInt8} (h : c.toNat ≠ 10) : wPass true c = true ∧ wNote true c = true := by
 have : wNote true c = true := by unfold wNote; rw [if_neg h]; split <;> rfl
 exact ⟨by unfold wPass; rw [this]; rfl, this⟩
theorem pass_lf {note : Bool} {c : UInt8} (h : c.toNat = 10) : wPass note c = true ∧ wNote note c = false := by
 have : wNote note c = false := by unfold wNote; rw [if_pos h]
 exact ⟨by unfold wPass wBlank; rw [decide_eq_true (by omega), Bool.or_true], this⟩
theorem pass_no {c : UInt8} (h1 : c.toNat ≠ 35) (h2 : wBlank c = false) : wPass false c = false := by
 unfold wPass; rw [note_blank h1, h2]; rfl
theorem begins_pass {c : UInt8} (h : wBegins c = true) : wPass false c = false := by
 have key : ∀ n : Nat, n < 256 → wBegins (UInt8.ofNat n) = true → wPass false (UInt8.ofNat n) = false := by decide +kernel
 have := key c.toNat c.toNat_lt (by simpa using h)
 simpa using this
theorem wGo_fuel : ∀ (f g n at_ : Nat) (l : List UInt8), l.length < f → l.length < g → wGo f n at_ l = wGo g n at_ l
 | 0, _, _, _, _, h, _ => by omega
 | _, 0, _, _, _, _, h => by omega
 | f + 1, g + 1, n, at_, l, h1, h2 => by
  unfold wGo
  have hs := wSkip_le false l
  cases hd : l.drop (wSkip false l) with
  | nil => rfl
  | cons c r =>
   have hl : r.length + 1 = l.length - wSkip false l := by rw [← List.length_drop, hd]; rfl
   have hm := wMore_le c r
   have hr : (r.drop (wMore c r)).length = r.length - wMore c r := List.length_drop
   simp only
   rw [wGo_fuel f g (n + 1) _ (r.drop (wMore c r)) (by omega) (by omega)]
def WdAt (l : List UInt8) (ts : List Tok) (j : Nat) : Prop :=
 l.length ≤ 4096 ∧ j ≤ l.length ∧ ts.length ≤ j ∧ wWords l = match wGo (l.length + 1 - j) ts.length j (l.drop j) with
  | .ok us => .ok (ts ++ us)
  | .error e => .error e
theorem WdAt.zero {l : List UInt8} (h : l.length ≤ 4096) : WdAt l [] 0 := by
 refine ⟨h, Nat.zero_le _, Nat.zero_le _, ?_⟩
 unfold wWords
 rw [if_neg (by omega), List.drop_zero, Nat.sub_zero]
 cases wGo (l.length + 1) 0 0 l <;> rfl
theorem wWords_long {l : List UInt8} (h : 4096 < l.length) : wWords l = .error (0, 2) := by unfold wWords; rw [if_pos h]
section
variable {l : List UInt8} {ts : List Tok} {j : Nat}
theorem wGo_at (h : j ≤ l.length) (n : Nat) : wGo (l.length + 1 - j) n j (l.drop j) = match l.drop (j + wOver false l j) with
  | [] => if n = 1500 then .error (4096, 2) else .ok [⟨3, [], j + wOver false l j⟩]
  | c :: r =>
   if wBegins c then
    if n = 1500 then .error (4096, 2)
    else match wGo (l.length - j) (n + 1) (j + wOver false l j + 1 + wMore c r) (r.drop (wMore c r)) with
     | .ok us => .ok (⟨wKind c, c :: r.take (wMore c r), j + wOver false l j⟩ :: us)
     | .error e => .error e
   else .error (j + wOver false l j, 4) := by
 rw [show l.length + 1 - j = l.length - j + 1 by omega, wGo, List.drop_drop]
 rfl
theorem WdAt.stop (h : WdAt l ts j) (he : j + wOver false l j = l.length) : wWords l = if ts.length = 1500 then .error (4096, 2) else .ok (ts ++ [⟨3, [], l.length⟩]) := by
 obtain ⟨_, h1, _, h2⟩ := h
 rw [h2, wGo_at h1, he, List.drop_length]
 by_cases hn : ts.length = 1500
 ·simp only [if_pos hn]
 ·simp only [if_neg hn]
variable {c : UInt8}
theorem WdAt.form (h : WdAt l ts j) (hc : l[j + wOver false l j]? = some c) (hb : wBegins c = false) : wWords l = .error (j + wOver false l j, 4) := by
 obtain ⟨_, h1, _, h2⟩ := h
 rw [h2, wGo_at h1, drop_at hc]
 simp only [hb, Bool.false_eq_true, if_false]
theorem WdAt.many (h : WdAt l ts j) (hc : l[j + wOver false l j]? = some c) (hb : wBegins c = true) (hn : ts.length = 1500) : wWords l = .error (4096, 2) := by
 obtain ⟨_, h1, _, h2⟩ := h
 rw [h2, wGo_at h1, drop_at hc]
 simp only [hb, if_true, hn]
def wLen (l : List UInt8) (a : Nat) : Nat := match l.drop a with
 | [] => 0
 | c :: r => 1 + wMore c r
theorem wLen_name {a : Nat} (hc : l[a]? = some c) (hb : wLow c = true) : wLen l a = 1 + wRun wIn l (a + 1) := by
 unfold wLen wRun; rw [drop_at hc]; simp only [wMore, hb, if_true]
theorem wLen_num {a : Nat} (hc : l[a]? = some c) (h0 : wLow c = false) (hb : wNum c = true) : wLen l a = 1 + wRun wNum l (a + 1) := by
 unfold wLen wRun; rw [drop_at hc]; simp only [wMore, h0, hb, Bool.false_eq_true, if_false, if_true]
theorem wLen_sign {a : Nat} (hc : l[a]? = some c) (h0 : wLow c = false) (h1 : wNum c = false) : wLen l a = 1 := by
 unfold wLen; rw [drop_at hc]; simp only [wMore, h0, h1, Bool.false_eq_true, if_false]
theorem wLen_le {a : Nat} (h : a ≤ l.length) : a + wLen l a ≤ l.length := by
 unfold wLen
 have hl : (l.drop a).length = l.length - a := List.length_drop
 cases hd : l.drop a with
 | nil => simp only; omega
 | cons c r =>
  rw [hd, List.length_cons] at hl
  have := wMore_le c r
  simp only
  omega
theorem WdAt.next (h : WdAt l ts j) (hc : l[j + wOver false l j]? = some c) (hb : wBegins c = true) (hn : ts.length ≠ 1500) :
  WdAt l (ts ++ [⟨wKind c, (l.drop (j + wOver false l j)).take (wLen l (j + wOver false l j)), j + wOver false l j⟩]) (j + wOver false l j + wLen l (j + wOver false l j)) := by
 obtain ⟨h0, h1, h3, h2⟩ := h
 obtain ⟨a, ha⟩ : ∃ a, a = j + wOver false l j := ⟨_, rfl⟩
 have hov := wOver_le false l j
 rw [wGo_at h1] at h2
 rw [← ha] at h2 hc
 rw [← ha]
 have hal : a < l.length := (List.getElem?_eq_some_iff.1 hc).1
 have hm := wMore_le c (l.drop (a + 1))
 rw [List.length_drop] at hm
 have hlen : wLen l a = 1 + wMore c (l.drop (a + 1)) := by unfold wLen; rw [drop_at hc]
 have htk : (l.drop a).take (wLen l a) = c :: (l.drop (a + 1)).take (wMore c (l.drop (a + 1))) := by
  rw [drop_at hc, hlen, Nat.add_comm 1, List.take_succ_cons]
 refine ⟨h0, by omega, by rw [List.length_append, List.length_singleton]; omega, ?_⟩
 rw [h2, htk, drop_at hc]
 simp only [hb, if_true, if_neg hn]
 rw [List.drop_drop, List.length_append, List.length_singleton]
 have e1 : a + 1 + wMore c (l.drop (a + 1)) = a + wLen l a := by omega
 rw [e1]
 have hd : (l.drop (a + wLen l a)).length = l.length - (a + wLen l a) := List.length_drop
 -- the rest, with more or less fuel
 have hfuel : ∀ f g, (l.drop (a + wLen l a)).length < f → (l.drop (a + wLen l a)).length < g →
   wGo f (ts.length + 1) (a + wLen l a) (l.drop (a + wLen l a)) = wGo g (ts.length + 1) (a + wLen l a) (l.drop (a + wLen l a)) := fun f g hf hg => wGo_fuel f g _ _ _ hf hg
 rw [hfuel (l.length - j) (l.length + 1 - (a + wLen l a)) (by omega) (by omega)]
 cases wGo (l.length + 1 - (a + wLen l a)) (ts.length + 1) (a + wLen l a) (l.drop (a + wLen l a)) with
 | error e => rfl
 | ok us => simp
end
open Go.RowKit
def wName (l : List UInt8) : Bool :=
 match l with
 | [] => false
 | c :: r => decide (r.length ≤ 39) && wLow c && r.all wIn
def wNumAt (l : List UInt8) : Nat := l.foldl (fun n c => n * 10 + (c.toNat - 48)) 0
def wOk (l : List UInt8) : Bool := !l.isEmpty && l.all wNum && (decide (l.length = 1) || decide (l[0]? ≠ some 48)) && decide (wNumAt l ≤ 4096)
theorem wNum_mono : ∀ (r : List UInt8) (n : Nat), n ≤ r.foldl (fun n c => n * 10 + (c.toNat - 48)) n
 | [], n => Nat.le_refl _
 | c :: r, n => by
  have := wNum_mono r (n * 10 + (c.toNat - 48))
  simp only [List.foldl_cons]
  omega
theorem wNumAt_take (l : List UInt8) (j : Nat) : wNumAt (l.take j) ≤ wNumAt l := by
 have h := wNum_mono (l.drop j) (wNumAt (l.take j))
 unfold wNumAt at h ⊢
 rw [← List.foldl_append, List.take_append_drop] at h
 exact h
theorem wNumAt_next {l : List UInt8} {j : Nat} {c : UInt8} (h : l[j]? = some c) : wNumAt (l.take (j + 1)) = wNumAt (l.take j) * 10 + (c.toNat - 48) := by
 rw [List.take_add_one, h]; simp [wNumAt]
theorem wOk_not {l : List UInt8} {j : Nat} {c : UInt8} (h : l[j]? = some c) (hc : wNum c = false) : wOk l = false := by
 have : l.all wNum = false := List.all_eq_false.2 ⟨c, List.mem_of_getElem? h, by rw [hc]; simp⟩
 simp [wOk, this]
theorem wOk_great {l : List UInt8} {j : Nat} (h : 4096 < wNumAt (l.take j)) : wOk l = false := by
 have h1 := wNumAt_take l j
 have : decide (wNumAt l ≤ 4096) = false := by rw [decide_eq_false_iff_not]; omega
 simp [wOk, this]
theorem wOk_nought {l : List UInt8} (h : l[0]? = some 48) (hl : 1 < l.length) : wOk l = false := by
 have h1 : decide (l.length = 1) = false := by rw [decide_eq_false_iff_not]; omega
 have h2 : decide (l[0]? ≠ some 48) = false := by rw [decide_eq_false_iff_not]; simp [h]
 simp only [wOk, h1, h2, Bool.or_self, Bool.and_false, Bool.false_and]
theorem wOk_yes {l : List UInt8} (h0 : l ≠ []) (h1 : l.all wNum = true) (h2 : l.length ≤ 1 ∨ l[0]? ≠ some 48) (h3 : wNumAt l ≤ 4096) : wOk l = true := by
 have e0 : l.isEmpty = false := by cases l with
  | nil => exact absurd rfl h0
  | cons c r => rfl
 have hl : l.length ≠ 0 := fun e => h0 (List.eq_nil_of_length_eq_zero e)
 have e2 : (decide (l.length = 1) || decide (l[0]? ≠ some 48)) = true := by
  rw [Bool.or_eq_true, decide_eq_true_iff, decide_eq_true_iff]
  rcases h2 with h2 | h2
  ·exact .inl (by omega)
  ·exact .inr h2
 simp only [wOk, e0, h1, e2, decide_eq_true h3, Bool.not_false, Bool.and_self]
theorem wLow_cases (c : UInt8) : ((c.toNat : Int) < 97 ∧ wLow c = false) ∨ ((97 : Int) ≤ c.toNat ∧ (c.toNat : Int) ≤ 122 ∧ wLow c = true) ∨ ((97 : Int) ≤ c.toNat ∧ (122 : Int) < c.toNat ∧ wLow c = false) := by
 unfold wLow
 rcases Nat.lt_or_ge c.toNat 97 with h | h
 ·exact .inl ⟨by omega, by rw [decide_eq_false_iff_not]; omega⟩
 ·rcases Nat.lt_or_ge 122 c.toNat with h2 | h2
  ·exact .inr (.inr ⟨by omega, by omega, by rw [decide_eq_false_iff_not]; omega⟩)
  ·exact .inr (.inl ⟨by omega, by omega, by rw [decide_eq_true_iff]; omega⟩)
theorem wNum_cases (c : UInt8) : ((c.toNat : Int) < 48 ∧ wNum c = false) ∨ ((48 : Int) ≤ c.toNat ∧ (c.toNat : Int) ≤ 57 ∧ wNum c = true) ∨ ((48 : Int) ≤ c.toNat ∧ (57 : Int) < c.toNat ∧ wNum c = false) := by
 unfold wNum
 rcases Nat.lt_or_ge c.toNat 48 with h | h
 ·exact .inl ⟨by omega, by rw [decide_eq_false_iff_not]; omega⟩
 ·rcases Nat.lt_or_ge 57 c.toNat with h2 | h2
  ·exact .inr (.inr ⟨by omega, by omega, by rw [decide_eq_false_iff_not]; omega⟩)
  ·exact .inr (.inl ⟨by omega, by omega, by rw [decide_eq_true_iff]; omega⟩)
def Tx (s : ByteArray) (l : List UInt8) : Prop := s = txt l
theorem Tx.size {s : ByteArray} {l : List UInt8} (h : Tx s l) : s.size = l.length := by rw [h, txt_size]
theorem Tx.list {s : ByteArray} {l : List UInt8} (h : Tx s l) : s.toList = l := by rw [h]; exact ByteArray.toList_mk l
theorem Tx.at_ {s : ByteArray} {l : List UInt8} (h : Tx s l) {i : Nat} {c : UInt8} (hc : l[i]? = some c) : ∀ hi : i < s.size, s[i]'hi = c := by
 subst h
 intro hi
 obtain ⟨h1, h2⟩ := List.getElem?_eq_some_iff.1 hc
 rw [← h2]
 rfl
theorem all_next {p : UInt8 → Bool} {l : List UInt8} {j : Nat} {c : UInt8} (h : l[j]? = some c) : (l.take (j + 1)).all p = ((l.take j).all p && p c) := by
 rw [List.take_add_one, h]; simp
theorem all_not {p : UInt8 → Bool} {l : List UInt8} {j : Nat} {c : UInt8} (h : l[j]? = some c) (hp : p c = false) : l.all p = false := by
 rw [List.all_eq_false]
 exact ⟨c, List.mem_of_getElem? h, by rw [hp]; simp⟩
theorem wName_long {l : List UInt8} (h : 40 < l.length) : wName l = false := by
 cases l with
 | nil => rfl
 | cons c r =>
  rw [List.length_cons] at h
  have : decide (r.length ≤ 39) = false := by rw [decide_eq_false_iff_not]; omega
  simp [wName, this]
theorem wName_first {l : List UInt8} {c : UInt8} (h : l[0]? = some c) (hc : wLow c = false) : wName l = false := by
 cases l with
 | nil => rfl
 | cons d r =>
  obtain rfl : d = c := by simpa using h
  simp [wName, hc]
theorem wName_in {l : List UInt8} {c : UInt8} (h : l[0]? = some c) (hc : wLow c = true) (hl : l.length ≤ 40) : wName l = l.all wIn := by
 cases l with
 | nil => simp at h
 | cons d r =>
  obtain rfl : d = c := by simpa using h
  rw [List.length_cons] at hl
  have h1 : decide (r.length ≤ 39) = true := by rw [decide_eq_true_iff]; omega
  have h2 : wIn d = true := by unfold wIn; rw [hc]; rfl
  simp [wName, hc, h1, h2]
end Go.Proofs.YtgigiecdpjchkaaGreatDoor
