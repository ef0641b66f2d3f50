/-
  Slices of elements of some cells each: what is seen of them, and how they are read as data. No program is named here.
-/
import Derived.Test.YtnkmpcepdjjopaaFrm
import Derived.Deep.Slices
import Derived.Deep.Strs
namespace Go.Proofs.Ytnkmpcepdjjopaa
set_option linter.unusedSimpArgs false
set_option linter.unusedVariables false
open Go.ChangeShapes Go.WideShapes Go.ChangeAt Go.RowKit

theorem flat_len {V : Nat → List Value} {sz : Nat} (hV : ∀ i, (V i).length = sz) : ∀ n, ((List.range n).flatMap V).length = n * sz
  | 0 => by simp
  | n + 1 => by
    rw [List.range_succ, List.flatMap_append, List.length_append, flat_len hV n, Nat.succ_mul]
    simp [hV]
theorem flat_at {V : Nat → List Value} {sz : Nat} (hV : ∀ i, (V i).length = sz) : ∀ (n i q : Nat), i < n → q < sz → ((List.range n).flatMap V)[i * sz + q]? = (V i)[q]?
  | 0, _, _, h, _ => absurd h (Nat.not_lt_zero _)
  | n + 1, i, q, h, hq => by
    rw [List.range_succ, List.flatMap_append]
    have hl := flat_len hV n
    by_cases hi : i < n
    · have : i * sz + q < n * sz := by
        have h1 : (i + 1) * sz ≤ n * sz := Nat.mul_le_mul_right _ hi
        rw [Nat.succ_mul] at h1
        omega
      rw [List.getElem?_append_left (by rw [hl]; exact this)]
      exact flat_at hV n i q hi hq
    · obtain rfl : i = n := by omega
      rw [List.getElem?_append_right (by omega), hl, Nat.add_sub_cancel_left]
      simp
section
variable {H : Type} {enc : TypeId × Value → H} {P : Program} {W : World}
/-- Elements of some cells each, one behind another. -/
theorem rd_many {b : Addr} {len sz : Nat} {V : Nat → List Value} (hz : 0 < sz) (hV : ∀ i, (V i).length = sz) (h : ∀ i, i < len → ∀ q v, (V i)[q]? = some v → W.cell? (b.add (i * sz + q)) = some v) : Rd W W.heap.size sz (some b) len ((List.range len).flatMap V) := by
  refine ⟨flat_len hV len, fun k u hu => ?_⟩
  have hk : k < len * sz := by rw [← flat_len hV len]; exact (List.getElem?_eq_some_iff.1 hu).1
  have hi : k / sz < len := Nat.div_lt_of_lt_mul (by rw [Nat.mul_comm]; exact hk)
  have hq : k % sz < sz := Nat.mod_lt _ hz
  have hkk : k / sz * sz + k % sz = k := Nat.div_add_mod' k sz
  rw [← hkk, flat_at hV len _ _ hi hq] at hu
  have hc := h _ hi _ _ hu
  rw [hkk] at hc
  exact ⟨b, rfl, by have := World.block_lt_of_cell? W _ hc; rwa [addr_block] at this, hc⟩
/-- A slice that is read: its elements' cells, and their data. -/
theorem open_many {t e : TypeId} {sz fuel len cap : Nat} {a : Option Addr} {x : DataW H × List MemPlace} (ht : P.underlying t = some (.slice e)) (hsz : P.cellsOf e = sz)
    (h : DataW.trod enc P W 0 (fun _ => true) true fuel t [.slice a len cap] = some x) : (a = none ∧ len = 0 ∧ cap = 0) ∨
    ∃ (b : Addr) (n : Nat) (D : Nat → DataW H × List MemPlace) (C : Nat → List Value) (sp : List (DataW H)), a = some b ∧ len ≤ cap ∧ cap ≤ maxLen ∧ x.1 = .slice ((List.range len).map fun i => (D i).1) sp ∧ len + sp.length = cap ∧
      ∀ i, i < len → (C i).length = sz ∧ (∀ q v, (C i)[q]? = some v → W.cell? (b.add (i * sz + q)) = some v) ∧ DataW.trod enc P W 0 (fun _ => true) true n e (C i) = some (D i) := by
  rcases DataW.trod_slice ht h with ⟨hc, _⟩ | ⟨b, len', cap', elems, rest, n, _, hc, rfl, _, hl, hm, hel, hE, hS, _⟩
  · simp only [List.cons.injEq, Value.slice.injEq, and_true] at hc
    exact .inl hc
  · simp only [List.cons.injEq, Value.slice.injEq, and_true] at hc
    obtain ⟨rfl, rfl, rfl⟩ := hc
    obtain ⟨hr, _⟩ := hS rfl
    right
    have one : ∀ i, i < len → ∃ r : List Value × (DataW H × List MemPlace), r.1.length = sz ∧ (∀ q v, r.1[q]? = some v → W.cell? (b.add (i * sz + q)) = some v) ∧ DataW.trod enc P W 0 (fun _ => true) true n e r.1 = some r.2 ∧ elems[i]? = some r.2 := by
      intro i hi
      have h1 := hE i hi
      have h2 : elems[i]? = some elems[i] := List.getElem?_eq_getElem (by omega)
      rw [h2] at h1
      obtain ⟨cs, h3, h4⟩ := Option.bind_eq_some_iff.1 h1
      obtain ⟨_, h5, h6⟩ := World.cells?_some h3
      rw [hsz] at h5 h6
      refine ⟨(cs, elems[i]), h5, fun q v hq => ?_, h4, h2⟩
      have hq2 : q < sz := by rw [← h5]; exact (List.getElem?_eq_some_iff.1 hq).1
      have h7 := h6 q hq2
      rw [Addr.add_add] at h7
      rw [h7]
      exact hq
    classical
    obtain ⟨F, hF⟩ : ∃ F : Nat → List Value × (DataW H × List MemPlace), ∀ i, i < len → (F i).1.length = sz ∧ (∀ q v, (F i).1[q]? = some v → W.cell? (b.add (i * sz + q)) = some v) ∧ DataW.trod enc P W 0 (fun _ => true) true n e (F i).1 = some (F i).2 ∧ elems[i]? = some (F i).2 :=
      ⟨fun i => if hi : i < len then Classical.choose (one i hi) else ([], (.nil, [])), fun i hi => by
        simp only [dif_pos hi]
        exact Classical.choose_spec (one i hi)⟩
    refine ⟨b, n, fun i => (F i).2, fun i => (F i).1, rest.map (·.1), rfl, hl, hm, ?_, by rw [List.length_map, hr]; omega, fun i hi => ⟨(hF i hi).1, (hF i hi).2.1, (hF i hi).2.2.1⟩⟩
    show DataW.slice (elems.map (·.1)) (rest.map (·.1)) = _
    congr 1
    apply List.ext_getElem?
    intro i
    by_cases hi : i < len
    · rw [List.getElem?_map, List.getElem?_map, (hF i hi).2.2.2, List.getElem?_range hi]
      rfl
    · rw [List.getElem?_eq_none (by rw [List.length_map]; omega), List.getElem?_eq_none (by simp; omega)]
end
end Go.Proofs.Ytnkmpcepdjjopaa
