/-
  Lists of lists of bytes that are read as data.
-/
import Derived.Test.YtnkmpcepdjjopaaFrm
import Derived.Deep.Slices
namespace Go.Proofs.Ytnkmpcepdjjopaa
set_option linter.unusedSimpArgs false
set_option linter.unusedVariables false
open Go.ChangeShapes Go.WideShapes Go.ChangeAt Go.RowKit

/-- The lists of bytes are seen through the slice value (A, n), each through its own slice value, all in blocks below B. -/
def Rw (w : World) (B : Nat) (A : Option Addr) (n : Nat) (vs : List Value) (rows : List (List UInt8)) : Prop :=
  Rd w B 1 A n vs ∧ vs.length = rows.length ∧ ∀ (i : Nat) (l : List UInt8), rows[i]? = some l → ∃ a m c, vs[i]? = some (.slice a m c) ∧ Rd w B 1 a m (vbs l) ∧ m ≤ c ∧ c ≤ maxLen
section
variable {w w' : World} {B B' n : Nat} {A : Option Addr} {vs : List Value} {rows : List (List UInt8)} {row : Option Nat}
theorem Rw.len (h : Rw w B A n vs rows) : rows.length = n := by rw [← h.2.1]; exact h.1.len
theorem Rw.mono (h : Rw w B A n vs rows) (hB : B ≤ B') : Rw w B' A n vs rows :=
  ⟨h.1.mono hB, h.2.1, fun i l hi => by
    obtain ⟨a, m, c, h1, h2, h3⟩ := h.2.2 i l hi
    exact ⟨a, m, c, h1, h2.mono hB, h3⟩⟩
theorem Rw.turn (h : Rw w B A n vs rows) (ht : Turn w w' row) (hB : B ≤ w.heap.size) (hr : ∀ g, row = some g → B ≤ g) : Rw w' B A n vs rows :=
  ⟨h.1.turn ht hB hr, h.2.1, fun i l hi => by
    obtain ⟨a, m, c, h1, h2, h3⟩ := h.2.2 i l hi
    exact ⟨a, m, c, h1, h2.turn ht hB hr, h3⟩⟩
theorem Rw.turn0 (h : Rw w B A n vs rows) (ht : Turn w w' none) (hB : B ≤ w.heap.size) : Rw w' B A n vs rows := h.turn ht hB (by simp)
theorem Rw.take (h : Rw w B A n vs rows) {k : Nat} (hk : k ≤ n) : Rw w B A k (vs.take k) (rows.take k) := by
  have h1 := h.1.take hk
  rw [Nat.mul_one] at h1
  refine ⟨h1, by rw [List.length_take, List.length_take, h.2.1], fun i l hi => ?_⟩
  rw [List.getElem?_take] at hi
  split at hi
  · rename_i hik
    obtain ⟨a, m, c, h2, h3⟩ := h.2.2 i l hi
    exact ⟨a, m, c, by rw [List.getElem?_take, if_pos hik]; exact h2, h3⟩
  · cases hi
end

theorem weights_all {H : Type} {P : Program} {e : TypeId} {d : DataW H} {n : Nat} : ∀ {l : List (DataW H)}, d ∈ l → n ∈ d.weights P e → n ∈ DataW.weightsAll P e l
  | x :: r, hd, hn => by
    simp only [DataW.weightsAll, List.mem_append]
    rcases List.mem_cons.1 hd with rfl | hd
    · exact .inl hn
    · exact .inr (weights_all hd hn)

/-- A row of rows of bytes that is read: what it shows, and how great its parts are. -/
theorem open_rows {H : Type} {enc : TypeId × Value → H} {P : Program} {W : World} {t e b : TypeId} (ht : P.underlying t = some (.slice e)) (he : P.underlying e = some (.slice b)) (hb : P.underlying b = some (.int .u8))
    (hce : P.cellsOf e = 1) (hcb : P.cellsOf b = 1) (hbb : P.bytesOf b = 1) {a : Option Addr} {len cap : Nat} {d : DataW H} {p : List MemPlace}
    (h : DataW.Trod enc P W 0 (fun _ => true) true t (.slice a len cap) d p) : ∃ vs rows, Rw W W.heap.size a len vs rows ∧ len ≤ cap ∧ cap ≤ maxLen ∧
      ((∀ n ∈ d.weights P t, n ≤ 140737488351232) → (∀ l ∈ rows, l.length ≤ 140737488351232) ∧ cap * P.bytesOf e ≤ 140737488351232) := by
  obtain ⟨fuel, hf⟩ := h
  rcases Deep.open_slice1 ht hce hf with ⟨hcs, hx⟩ | ⟨x, l, cp, m, n', V, D, Pl, hcs, _, hl, hm, hmm, hx, hel⟩
  · simp [Value.cells] at hcs
    obtain ⟨rfl, rfl, rfl⟩ := hcs
    exact ⟨[], [], ⟨Rd.none_ W _ 1 0, rfl, fun i l hi => by simp at hi⟩, Nat.le_refl _, Nat.zero_le _, fun _ => ⟨fun l hl => by simp at hl, by simp⟩⟩
  · simp [Value.cells] at hcs
    obtain ⟨rfl, rfl, rfl⟩ := hcs
    simp only [if_true] at hmm
    have one : ∀ i, i < len → ∃ r : Option Addr × Nat × Nat × List UInt8, V i = .slice r.1 r.2.1 r.2.2.1 ∧ Rd W W.heap.size 1 r.1 r.2.1 (vbs r.2.2.2) ∧ r.2.1 ≤ r.2.2.1 ∧ r.2.2.1 ≤ maxLen ∧ CapIs (D i) r.2.1 r.2.2.1 := by
      intro i hi
      obtain ⟨_, h2⟩ := hel i (by omega)
      have form : ∃ A n c, V i = .slice A n c := by
        rcases open_ints he hb hcb h2 with ⟨hc, _⟩ | ⟨y, n2, c2, _, hc, _⟩
        · exact ⟨_, _, _, by simpa using hc⟩
        · exact ⟨_, _, _, by simpa using hc⟩
      obtain ⟨A, n2, c2, hV⟩ := form
      rw [hV] at h2
      obtain ⟨l2, h3, h4, h5, h6⟩ := open_bytes (d := D i) (p := Pl i) he hb hcb ⟨n', by simpa [Value.cells] using h2⟩
      exact ⟨(A, n2, c2, l2), hV, h3, h4, h5, h6⟩
    obtain ⟨r, hr⟩ := Deep.choose_lt one
    refine ⟨(List.range len).map V, (List.range len).map fun i => (r i).2.2.2, ⟨⟨by simp, fun k u hu => ?_⟩, by simp, fun i l2 hi => ?_⟩, hl, hm, fun hw => ⟨fun l2 hl2 => ?_, ?_⟩⟩
    · simp only [List.getElem?_map, Option.map_eq_some_iff] at hu
      obtain ⟨k', hk', rfl⟩ := hu
      obtain ⟨hlt, rfl⟩ := List.getElem?_eq_some_iff.1 hk'
      simp only [List.length_range] at hlt
      simp only [List.getElem_range]
      obtain ⟨h1, _⟩ := hel k (by omega)
      exact ⟨x, rfl, by have := World.block_lt_of_cell? W _ h1; rwa [addr_block] at this, h1⟩
    · simp only [List.getElem?_map, Option.map_eq_some_iff] at hi
      obtain ⟨k', hk', rfl⟩ := hi
      obtain ⟨hlt, rfl⟩ := List.getElem?_eq_some_iff.1 hk'
      simp only [List.length_range] at hlt
      simp only [List.getElem_range]
      obtain ⟨h1, h2, h3, h4, _⟩ := hr i hlt
      exact ⟨_, _, _, by rw [List.getElem?_map, List.getElem?_range hlt]; simp [h1], h2, h3, h4⟩
    · obtain ⟨i, hi, rfl⟩ := List.mem_map.1 hl2
      have hlt := List.mem_range.1 hi
      obtain ⟨_, h2, h3, _, h5⟩ := hr i hlt
      have hlen := h2.len
      rw [vbs_len] at hlen
      injection hx with hx _
      have hmem : ∀ n ∈ (D i).weights P e, n ≤ 140737488351232 := fun n hn => hw n (by
        rw [hx, DataW.weights, ht]
        simp only [List.mem_cons, List.mem_append]
        exact .inr (.inl (weights_all (List.mem_map.2 ⟨i, hi, rfl⟩) hn)))
      rcases h5 with ⟨_, h6, _⟩ | ⟨es, sp, hD, h7, h8⟩
      · omega
      · have := hmem ((es.length + sp.length) * P.bytesOf b) (by rw [hD, DataW.weights, he]; simp)
        rw [hbb] at this
        omega
    · injection hx with hx _
      have := hw ((((List.range len).map D).length + ((List.range (m - len)).map fun j => D (len + j)).length) * P.bytesOf e) (by rw [hx, DataW.weights, ht]; simp)
      simp only [List.length_map, List.length_range] at this
      rwa [show len + (m - len) = cap by omega] at this

/-- A list of lists of bytes that the call has made: the outer row is its own; each inner one is seen, and lies in another block. -/
def Ow (w : World) (base : Nat) (E : TypeId) (A : Option Addr) (n c : Nat) (vs : List Value) (rows : List (List UInt8)) : Prop :=
  Own w base E 1 A n c vs ∧ vs.length = rows.length ∧ ∀ (i : Nat) (l : List UInt8), rows[i]? = some l → ∃ a m k, vs[i]? = some (.slice a m k) ∧ Rd w w.heap.size 1 a m (vbs l) ∧ (∀ g, blk a = some g → g < w.heap.size ∧ blk A ≠ some g) ∧ m ≤ k ∧ k ≤ maxLen
section
variable {w w' : World} {base n c : Nat} {E : TypeId} {A : Option Addr} {vs : List Value} {rows : List (List UInt8)}
theorem Ow.rw_ (h : Ow w base E A n c vs rows) : Rw w w.heap.size A n vs rows :=
  ⟨h.1.rd, h.2.1, fun i l hi => by
    obtain ⟨a, m, k, h1, h2, _, h3⟩ := h.2.2 i l hi
    exact ⟨a, m, k, h1, h2, h3⟩⟩
theorem Ow.turn0 (h : Ow w base E A n c vs rows) (ht : Turn w w' none) : Ow w' base E A n c vs rows :=
  ⟨h.1.turn0 ht, h.2.1, fun i l hi => by
    obtain ⟨a, m, k, h1, h2, h3, h4⟩ := h.2.2 i l hi
    exact ⟨a, m, k, h1, (h2.turn0 ht (Nat.le_refl _)).mono ht.size, fun g hg => ⟨Nat.lt_of_lt_of_le (h3 g hg).1 ht.size, (h3 g hg).2⟩, h4⟩⟩
theorem Ow.made (h : Own w base E 1 A 0 c []) : Ow w base E A 0 c [] [] := ⟨h, rfl, fun i l hi => by simp at hi⟩
/-- One more list behind the others. -/
theorem Ow.snoc {A' a : Option Addr} {c2 m k : Nat} {l : List UInt8} (h : Ow w base E A n c vs rows) (hr : Rd w w.heap.size 1 a m (vbs l)) (hne : ∀ g, blk a = some g → g < w.heap.size ∧ blk A ≠ some g) (hm : m ≤ k) (hk : k ≤ maxLen)
    (ho : Own w' base E 1 A' (n + 1) c2 (vs ++ [.slice a m k])) (ht : Turn w w' (blk A)) (hb : blk A' = blk A ∨ blk A' = some w.heap.size) : Ow w' base E A' (n + 1) c2 (vs ++ [.slice a m k]) (rows ++ [l]) := by
  have keep : ∀ (b : Option Addr) (q : Nat) (x : List UInt8), Rd w w.heap.size 1 b q (vbs x) → (∀ g, blk b = some g → g < w.heap.size ∧ blk A ≠ some g) → Rd w' w'.heap.size 1 b q (vbs x) ∧ (∀ g, blk b = some g → g < w'.heap.size ∧ blk A' ≠ some g) := by
    intro b q x hx hn
    refine ⟨⟨hx.1, fun j u hu => ?_⟩, fun g hg => ⟨Nat.lt_of_lt_of_le (hn g hg).1 ht.size, ?_⟩⟩
    · obtain ⟨y, rfl, hy, hc⟩ := hx.2 j u hu
      refine ⟨y, rfl, Nat.lt_of_lt_of_le hy ht.size, ?_⟩
      rw [ht.cell (by rw [addr_block]; exact hy) (by rw [addr_block]; exact fun e => (hn y.block rfl).2 e.symm)]
      exact hc
    · rcases hb with e | e
      · rw [e]; exact (hn g hg).2
      · rw [e]
        intro e2
        injection e2 with e2
        have := (hn g hg).1
        omega
  refine ⟨ho, by simp [h.2.1], fun i x hi => ?_⟩
  by_cases hlt : i < rows.length
  · rw [List.getElem?_append_left hlt] at hi
    obtain ⟨b, q, p, h1, h2, h3, h4⟩ := h.2.2 i x hi
    obtain ⟨k1, k2⟩ := keep b q x h2 h3
    exact ⟨b, q, p, by rw [List.getElem?_append_left (by rw [h.2.1]; exact hlt)]; exact h1, k1, k2, h4⟩
  · have hi2 := (List.getElem?_eq_some_iff.1 hi).1
    rw [List.length_append, List.length_singleton] at hi2
    obtain rfl : i = rows.length := by omega
    rw [List.getElem?_append_right (Nat.le_refl _), Nat.sub_self] at hi
    obtain rfl : l = x := by simpa using hi
    obtain ⟨k1, k2⟩ := keep a m l hr hne
    exact ⟨a, m, k, by rw [← h.2.1, List.getElem?_append_right (Nat.le_refl _), Nat.sub_self]; rfl, k1, k2, hm, hk⟩
end
end Go.Proofs.Ytnkmpcepdjjopaa
