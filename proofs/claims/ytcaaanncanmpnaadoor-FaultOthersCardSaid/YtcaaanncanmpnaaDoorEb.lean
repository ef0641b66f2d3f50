/-
  Layer 4: (Value).Set at a struct of two cells.
-/
import Derived.Test.YtcaaanncanmpnaaDoorEa
namespace Go.Proofs.YtcaaanncanmpnaaDoor
open Go.RowKit Go.Extern.Stop Go.Stop Go.Extern

theorem setF (g b : Nat) (s v o0 o1 : Value) (W : World) (hs : s.oneCell' = true) (hv : v.oneCell' = true) (b0 : W.cell? ⟨b, 0, none⟩ = some s) (b1 : W.cell? ⟨b, 1, none⟩ = some v)
    (ht : Blk W g 37 #[o0, o1]) :
    (ReflectliteValue.set #[.agg #[.pointer (some ⟨1, 37, none⟩), .pointer (some ⟨g, 0, none⟩), .int .u64 409], .agg #[.pointer (some ⟨1, 37, none⟩), .pointer (some ⟨b, 0, none⟩), .int .u64 153]]).run Tryd.prog W
      = .ok (.tuple #[]) ((W.setCell ⟨g, 0, none⟩ s).setCell ⟨g, 1, none⟩ v) := by
  have hsz : ∀ w : World, (sizeOf 37).run Tryd.prog w = .ok 2 w := fun w => by kernel_rfl
  have c1 : W.cell? ⟨g, 0, none⟩ = some o0 := ht.cell 0
  have c2 : (W.setCell ⟨g, 0, none⟩ s).cell? ⟨g, 1, none⟩ = some o1 := (ht.set_ 0 s).cell 1
  have f1 := ht.frozen 0
  have f2 := (ht.set_ 0 s).frozen 1
  have hl : (loadCells ⟨b, 0, none⟩ 2).run Tryd.prog W = .ok #[s, v] W := run_loadCells_list W ⟨b, 0, none⟩ [s, v] (fun j u hj => by
    rw [add_flat]
    rcases j with _ | _ | j
    · simp at hj; subst hj; exact b0
    · simp at hj; subst hj; exact b1
    · simp at hj)
  refine set_run (u := .agg #[s, v]) (partsAF ⟨g, 0, none⟩ W) (partsVF ⟨b, 0, none⟩ W) (by rfl) (directF W) ?_ ?_
  · simp [loadVar, isAgg, underlying, Tryd.underlying37, Result.andThen, hsz, hl]
  · simp [storeVar, Value.cells, storeCells, Addr.add, hsz]
    rw [run_store Tryd.prog W ⟨g, 0, none⟩ _ _ hs]
    simp only [c1, f1, Bool.false_eq_true, if_false, Result.andThen_ok]
    rw [run_store Tryd.prog _ ⟨g, 1, none⟩ _ _ hv]
    simp [c2, f2]
end Go.Proofs.YtcaaanncanmpnaaDoor
