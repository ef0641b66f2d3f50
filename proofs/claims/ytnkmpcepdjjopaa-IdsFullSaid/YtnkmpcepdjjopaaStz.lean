/-
  Lists of texts that are read as data: how great each is. No program is named here.
-/
import Derived.Test.YtnkmpcepdjjopaaRow
namespace Go.Proofs.Ytnkmpcepdjjopaa
set_option linter.unusedSimpArgs false
set_option linter.unusedVariables false
open Go.ChangeShapes Go.WideShapes Go.ChangeAt Go.RowKit

/-- The reach, of each text of a list. -/
theorem strs_reach {H : Type} {P : Program} {ts : List TypeId} {ds : List (DataW H)} (h : (DataW.weightsEach P ts ds).all (· ≤ reachBytes) = true) {j : Nat} {t e : TypeId} {d : DataW H} {ss : List ByteArray} {len cap : Nat} (ht : ts[j]? = some t) (hd : ds[j]? = some d)
    (hu : P.underlying t = some (.slice e)) (hl : ss.length = len)
    (K : (d = .nil ∧ len = 0 ∧ cap = 0) ∨ ∃ sp, d = .slice (strs ss) sp ∧ ss.length = len ∧ ss.length + sp.length = cap) : ∀ s ∈ ss, s.size ≤ 140737488351232 := by
  intro s hs
  rcases K with ⟨_, h1, _⟩ | ⟨sp, rfl, _, _⟩
  · rw [h1] at hl
    rw [List.length_eq_zero_iff.1 hl] at hs
    cases hs
  · have hm : s.size ∈ (DataW.slice (strs ss) sp : DataW H).weights P t := by
      rw [DataW.weights, hu]
      refine List.mem_cons_of_mem _ (List.mem_append_left _ (weights_all (d := .lit (.string s.data.toList)) (List.mem_map.2 ⟨s, hs, rfl⟩) ?_))
      rw [DataW.weights]
      exact List.mem_singleton.2 (by rw [Array.length_toList]; rfl)
    have h2 := List.all_eq_true.1 h _ (DataW.weights_mem_each ht hd _ hm)
    exact of_decide_eq_true h2
end Go.Proofs.Ytnkmpcepdjjopaa
