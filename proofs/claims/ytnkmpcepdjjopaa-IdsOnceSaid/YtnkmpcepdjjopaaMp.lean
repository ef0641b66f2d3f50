/-
  Maps in memory, entry by entry: what each operation does, over keys of one kind. No program is named here.
-/
import Derived.Test.YtnkmpcepdjjopaaMem
import Derived.Maps.Keyed
import Derived.Maps.Own
import Derived.Maps.RangeRun
import Derived.Maps.RangeWalk
namespace Go.Proofs.Ytnkmpcepdjjopaa
set_option linter.unusedSimpArgs false
set_option linter.unusedVariables false
open Go.RowKit
open Go.ChangeMaps (setBlock)

/-- The map's block holds these entries, at this time. -/
structure MapIs (P : Program) (k : TypeId) (w : World) (g : Nat) (es : List MapEntry) (clock : Nat) : Prop where
  blk : w.heap[g]? = some (.map es.toArray clock)
  keys : es.Pairwise (fun x y => x.key ≠ y.key)
  keyed : ∀ e ∈ es, ∃ l, keyOf P k e.key = some l
  born : (es.map (·.born)).Nodup
  old : ∀ e ∈ es, e.born < clock
section
variable {P : Program} {k t e : TypeId} {w w' : World} {g clock : Nat} {es : List MapEntry} {row : Option Nat}
theorem MapIs.lt (h : MapIs P k w g es clock) : g < w.heap.size := (Array.getElem?_eq_some_iff.1 h.blk).1
theorem MapIs.turn (h : MapIs P k w g es clock) (ht : Turn w w' row) (hr : some g ≠ row) : MapIs P k w' g es clock :=
  ⟨(World.grownBy.block ht g h.lt hr).trans h.blk, h.keys, h.keyed, h.born, h.old⟩
theorem MapIs.turn0 (h : MapIs P k w g es clock) (ht : Turn w w' none) : MapIs P k w' g es clock := h.turn ht (by simp)
theorem MapIs.drew (h : MapIs P k w g es clock) : MapIs P k w.drew g es clock := ⟨h.blk, h.keys, h.keyed, h.born, h.old⟩
theorem MapIs.made (P : Program) (k : TypeId) (w : World) : MapIs P k (w.alloc (.map #[] 0)) w.heap.size [] 0 :=
  ⟨heap_alloc_new w _, by simp, by simp, by simp, by simp⟩
theorem setBlock_turn (w : World) (g : Nat) (o : Obj) : Turn w (setBlock w g o) (some g) :=
  ⟨rfl, rfl, rfl, by simp [setBlock], fun i _ hne => by
    have : i ≠ g := fun e => hne (by rw [e])
    simp [setBlock, Array.getElem?_setIfInBounds, Ne.symm this]⟩
theorem setBlock_at {w : World} {g : Nat} (h : g < w.heap.size) (o : Obj) : (setBlock w g o).heap[g]? = some o := by
  simp [setBlock, Array.getElem?_setIfInBounds, h]
theorem modify_set {α : Type} {l : List α} {i : Nat} {a : α} {f : α → α} (h : l[i]? = some a) : l.modify i f = l.set i (f a) := by
  apply List.ext_getElem?
  intro q
  rw [List.getElem?_modify, List.getElem?_set]
  by_cases e : i = q
  · subst e
    rw [h, if_pos rfl, if_pos (List.getElem?_eq_some_iff.1 h).1]
    simp
  · rw [if_neg e]
    simp [e]
/-- m[k], v, ok. -/
theorem MapIs.look (h : MapIs P k w g es clock) (K : Maps.Keyed P k) (ht : P.underlying t = some (.map k e)) (c : Bool) {z : Value} (hz : (zeroValue e).run P w = .ok z w) {key : Value} {kl : Lit} (hkey : keyOf P k key = some kl) :
    ((Instr.lookup t (.map (some g)) key c).run P w = .ok (if c then .tuple #[z, .bool false] else z) w ∧ ∀ x ∈ es, x.key ≠ key) ∨
    ∃ x ∈ es, x.key = key ∧ (Instr.lookup t (.map (some g)) key c).run P w = .ok (if c then .tuple #[x.val, .bool true] else x.val) w := by
  rcases K.find w hkey es h.keyed with ⟨h1, h2⟩ | ⟨j, e0, h1, h2, h3⟩
  · exact .inl ⟨by simp [Instr.lookup, run_underlying ht, MapKept.run_getObj_map h.blk, K.check w _ hkey, h1, hz, Result.andThen], h2⟩
  · exact .inr ⟨e0, List.mem_of_getElem? h2, h3, by simp [Instr.lookup, run_underlying ht, MapKept.run_getObj_map h.blk, K.check w _ hkey, h1, Result.andThen]⟩
/-- m[k] = v, of a key that is not there. -/
theorem MapIs.put (h : MapIs P k w g es clock) (K : Maps.Keyed P k) (ht : P.underlying t = some (.map k e)) {key : Value} (val : Value) {kl : Lit} (hkey : keyOf P k key = some kl) (hno : ∀ x ∈ es, x.key ≠ key) :
    ∃ w', (Instr.mapUpdate t (.map (some g)) key val).run P w = .ok () w' ∧ MapIs P k w' g (es ++ [⟨key, val, clock⟩]) (clock + 1) ∧ Turn w w' (some g) := by
  rcases K.find w hkey es h.keyed with ⟨h1, _⟩ | ⟨j, e0, _, h2, h3⟩
  · refine ⟨setBlock w g (.map (es ++ [MapEntry.mk key val clock]).toArray (clock + 1)), ?_, ⟨setBlock_at h.lt _, ?_, ?_, ?_, ?_⟩, setBlock_turn w g _⟩
    · simp [Instr.mapUpdate, run_underlying ht, MapKept.run_getObj_map h.blk, K.check w false hkey, h1, MapKept.run_setObj_map _ h.blk, Result.andThen, setBlock]
    · rw [List.pairwise_append]
      refine ⟨h.keys, by simp, fun x hx y hy => ?_⟩
      rw [List.mem_singleton] at hy
      rw [hy]
      exact hno x hx
    · intro x hx
      rcases List.mem_append.1 hx with hx | hx
      · exact h.keyed x hx
      · rw [List.mem_singleton] at hx; rw [hx]; exact ⟨kl, hkey⟩
    · rw [List.map_append, List.nodup_append]
      refine ⟨h.born, by simp, fun a ha b hb e => ?_⟩
      obtain ⟨x, hx, rfl⟩ := List.mem_map.1 ha
      have := h.old x hx
      simp at hb
      omega
    · intro x hx
      rcases List.mem_append.1 hx with hx | hx
      · have := h.old x hx; omega
      · rw [List.mem_singleton] at hx; rw [hx]; exact Nat.lt_succ_self _
  · exact absurd h3 (hno e0 (List.mem_of_getElem? h2))
/-- m[k] = v, of a key that is there. -/
theorem MapIs.set (h : MapIs P k w g es clock) (K : Maps.Keyed P k) (ht : P.underlying t = some (.map k e)) {key : Value} (val : Value) {kl : Lit} (hkey : keyOf P k key = some kl) {j : Nat} {e0 : MapEntry} (hj : es[j]? = some e0) (h0 : e0.key = key) :
    ∃ w', (Instr.mapUpdate t (.map (some g)) key val).run P w = .ok () w' ∧ MapIs P k w' g (es.set j { e0 with val := val }) clock ∧ Turn w w' (some g) := by
  rcases K.find w hkey es h.keyed with ⟨_, h2⟩ | ⟨i, e1, h1, h2, h3⟩
  · exact absurd h0 (h2 e0 (List.mem_of_getElem? hj))
  · obtain rfl : i = j := by
      obtain ⟨hi, e2⟩ := List.getElem?_eq_some_iff.1 h2
      obtain ⟨hj2, e3⟩ := List.getElem?_eq_some_iff.1 hj
      rcases Nat.lt_trichotomy i j with hlt | heq | hgt
      · exact absurd (by rw [e2, e3, h3, h0]) (List.pairwise_iff_getElem.1 h.keys i j hi hj2 hlt)
      · exact heq
      · exact absurd (by rw [e2, e3, h3, h0]) (List.pairwise_iff_getElem.1 h.keys j i hj2 hi hgt)
    obtain rfl : e1 = e0 := by rw [hj] at h2; exact (Option.some.inj h2).symm
    have hm : es.modify i (fun x => { key := key, val := val, born := x.born }) = es.set i { e1 with val := val } := by
      rw [modify_set hj, ← h0]
    refine ⟨setBlock w g (.map (es.set i { e1 with val := val }).toArray clock), ?_, ⟨setBlock_at h.lt _, ?_, ?_, ?_, ?_⟩, setBlock_turn w g _⟩
    · have hk1 : ((es.toArray[i]?).map (·.key)).getD key = key := by simp [hj, h0]
      have hst := K.stays w hkey
      simp [Instr.mapUpdate, run_underlying ht, MapKept.run_getObj_map h.blk, K.check w false hkey, h1, hj, h0, hst, MapKept.run_setObj_map _ h.blk, Result.andThen, setBlock]
      rw [hm, h0]
    · have e1k : (es.set i { e1 with val := val }).map (·.key) = es.map (·.key) := by
        rw [List.map_set]
        apply List.ext_getElem?
        intro q
        rw [List.getElem?_set]
        split
        · rename_i e; subst e; rw [List.getElem?_map, hj]; simp [(List.getElem?_eq_some_iff.1 hj).1]
        · rfl
      have hp : (es.map (·.key)).Pairwise (· ≠ ·) := List.pairwise_map.2 h.keys
      rw [← e1k] at hp
      exact List.pairwise_map.1 hp
    · intro x hx
      rcases List.mem_or_eq_of_mem_set hx with hx | hx
      · exact h.keyed x hx
      · rw [hx]; exact h.keyed e1 (List.mem_of_getElem? hj)
    · have e1b : (es.set i { e1 with val := val }).map (·.born) = es.map (·.born) := by
        rw [List.map_set]
        apply List.ext_getElem?
        intro q
        rw [List.getElem?_set]
        split
        · rename_i e; subst e; rw [List.getElem?_map, hj]; simp [(List.getElem?_eq_some_iff.1 hj).1]
        · rfl
      rw [e1b]; exact h.born
    · intro x hx
      rcases List.mem_or_eq_of_mem_set hx with hx | hx
      · exact h.old x hx
      · rw [hx]; exact h.old e1 (List.mem_of_getElem? hj)
/-- len(m). -/
theorem MapIs.len (h : MapIs P k w g es clock) (ht : P.underlying t = some (.map k e)) (ty : TypeId) : (Builtin.len_ #[t] ty #[.map (some g)]).run P w = .ok (.int .i64 (es.length : Int)) w := by
  simp [Builtin.len_, run_underlying ht, MapKept.run_getObj_map h.blk, goInt, Result.andThen]
/-- delete(m, k), of a key that is there. -/
theorem MapIs.del (h : MapIs P k w g es clock) (K : Maps.Keyed P k) (ht : P.underlying t = some (.map k e)) {key : Value} {kl : Lit} (hkey : keyOf P k key = some kl) (hin : ∃ x ∈ es, x.key = key) (ty : TypeId) :
    ∃ w' es', (Builtin.delete_ #[t, k] ty #[.map (some g), key]).run P w = .ok (.tuple #[]) w' ∧ MapIs P k w' g es' clock ∧ (∀ y, y ∈ es' ↔ y ∈ es ∧ y.key ≠ key) ∧ es'.length + 1 = es.length ∧ Turn w w' (some g) := by
  rcases K.find w hkey es h.keyed with ⟨_, h2⟩ | ⟨i, e1, h1, h2, h3⟩
  · obtain ⟨x, hx, hk⟩ := hin
    exact absurd hk (h2 x hx)
  · have hil := (List.getElem?_eq_some_iff.1 h2).1
    refine ⟨setBlock w g (.map (es.eraseIdx i).toArray clock), es.eraseIdx i, ?_, ?_, ?_, ?_, setBlock_turn w g _⟩
    · simp [Builtin.delete_, run_underlying ht, MapKept.run_getObj_map h.blk, K.check w _ hkey, h1, MapKept.run_setObj_map _ h.blk, Result.andThen, setBlock]
    · exact ⟨setBlock_at h.lt _, h.keys.sublist (List.eraseIdx_sublist ..), fun x hx => h.keyed x (List.mem_of_mem_eraseIdx hx), h.born.sublist ((List.eraseIdx_sublist ..).map _), fun x hx => h.old x (List.mem_of_mem_eraseIdx hx)⟩
    · have hsp : es = es.take i ++ e1 :: es.drop (i + 1) := by
        have : es.drop i = e1 :: es.drop (i + 1) := by
          rw [List.drop_eq_getElem_cons hil, (List.getElem?_eq_some_iff.1 h2).2]
        rw [← this, List.take_append_drop]
      have hk := h.keys
      rw [hsp, List.pairwise_append] at hk
      obtain ⟨_, k2, k3⟩ := hk
      have k4 := (List.pairwise_cons.1 k2).1
      intro y
      rw [List.eraseIdx_eq_take_drop_succ]
      constructor
      · intro hy
        rcases List.mem_append.1 hy with hy | hy
        · exact ⟨List.mem_of_mem_take hy, by have := k3 y hy e1 (by simp); rwa [h3] at this⟩
        · exact ⟨List.mem_of_mem_drop hy, by have := k4 y hy; rw [h3] at this; exact Ne.symm this⟩
      · rintro ⟨hy, hne⟩
        rw [hsp] at hy
        rcases List.mem_append.1 hy with hy | hy
        · exact List.mem_append.2 (.inl hy)
        · rcases List.mem_cons.1 hy with hy | hy
          · rw [hy] at hne; exact absurd h3 hne
          · exact List.mem_append.2 (.inr hy)
    · rw [List.length_eraseIdx_of_lt hil]; omega
/-- What a range loop has not seen. -/
def leftIn (es : List MapEntry) (seen : List Nat) : List MapEntry := es.filter fun x => !seen.contains x.born
/-- The loop's own block. -/
def ItIs (w : World) (r g since : Nat) (seen : List Nat) (c : Nat) : Prop := w.heap[r]? = some (.mapIter (some g) since seen.toArray c)
theorem ItIs.lt {r since c : Nat} {seen : List Nat} (h : ItIs w r g since seen c) : r < w.heap.size := (Array.getElem?_eq_some_iff.1 h).1
theorem ItIs.turn {r since c : Nat} {seen : List Nat} (h : ItIs w r g since seen c) (ht : Turn w w' row) (hr : some r ≠ row) : ItIs w' r g since seen c := (World.grownBy.block ht r h.lt hr).trans h
theorem MapIs.range (h : MapIs P k w g es clock) (ht : P.underlying t = some (.map k e)) :
    ∃ w', (Instr.range t (.map (some g))).run P w = .ok (.pointer (some ⟨w.heap.size, 0, none⟩)) w' ∧ ItIs w' w.heap.size g clock [] clock ∧ Turn w w' none := by
  refine ⟨w.alloc (.mapIter (some g) clock #[] clock), ?_, heap_alloc_new w _, (Turn.refl w none).alloc _⟩
  simp [Instr.range, run_underlying ht, MapKept.run_getObj_map h.blk, Result.andThen, run_newObj]
theorem leftOf_list (es : List MapEntry) (seen : List Nat) : (leftOf es.toArray seen.toArray).toList = leftIn es seen := by
  simp [leftOf, leftIn]
/-- The loop's step: nothing is left; or one that is left comes. -/
theorem MapIs.next {r c : Nat} {seen : List Nat} (h : MapIs P k w g es clock) (hi : ItIs w r g clock seen c) (hc : clock ≤ c) (ty : TypeId) :
    (leftIn es seen = [] ∧ (Instr.next (.pointer (some ⟨r, 0, none⟩)) false ty).run P w = .ok (.tuple #[.bool false]) w) ∨
    ∃ x ∈ leftIn es seen, ∃ w', (Instr.next (.pointer (some ⟨r, 0, none⟩)) false ty).run P w = .ok (.tuple #[.bool true, x.key, x.val]) w' ∧ ItIs w' r g clock (seen ++ [x.born]) clock ∧ Turn w w' (some r) := by
  rcases run_next_at (P := P) w ty r g clock c seen.toArray es.toArray clock hi h.blk (by simpa using h.old) hc with ⟨h1, h2⟩ | ⟨x, hx, w1, hw1, h2⟩
  · refine .inl ⟨?_, h2⟩
    have := congrArg Array.toList (Array.eq_empty_of_size_eq_zero h1)
    rw [leftOf_list] at this
    exact this
  · rw [leftOf_list] at hx
    refine .inr ⟨x, hx, _, h2, ?_, ?_⟩
    · have hl : r < w1.heap.size := by rcases hw1 with rfl | rfl <;> exact ItIs.lt hi
      unfold ItIs
      rw [setBlock_at hl]
      simp
    · rcases hw1 with rfl | rfl
      · exact setBlock_turn _ _ _
      · exact Turn.trans ((Turn.refl w _).drew) (setBlock_turn _ _ _)
/-- The entry at which the loop is, read again. -/
theorem MapIs.entry {r since : Nat} {seen : List Nat} {x : MapEntry} (h : MapIs P k w g es clock) (hi : ItIs w r g since (seen ++ [x.born]) clock) (hx : x ∈ es) : (Instr.entry (.pointer (some ⟨r, 0, none⟩))).run P w = .ok (.tuple #[x.key, x.val]) w :=
  run_entry_at w r g since seen.toArray es.toArray clock x (by unfold ItIs at hi; rw [hi]; simp) h.blk (by simpa using hx) (by simpa using h.born)
end
end Go.Proofs.Ytnkmpcepdjjopaa
