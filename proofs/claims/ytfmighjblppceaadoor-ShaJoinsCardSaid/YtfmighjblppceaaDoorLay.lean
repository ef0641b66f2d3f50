/-
  What the package variables of layer 3 hold where a call begins, out of the row's list; and a world that holds them.
-/
import Derived.Test.YtfmighjblppceaaDoorRows
import Derived.Test.YtfmighjblppceaaDoorFrm
import Derived.Test.YtfmighjblppceaaDoorSc
import Derived.WalkKit
import Derived.ProofKit
import Derived.OpenShut
import Derived.Deep.DeepHandedRow
import Derived.Lib.LaidTab
namespace Go.Proofs.YtfmighjblppceaaDoor
open Go.ChangeShapes Go.WideShapes Go.ChangeAt Go.RowKit

theorem laid_start : (Rows.laid_suffragan_sha_start : DataW Unit) = Lib.tabData .u32 (sStart.list.map cV) := by kernel_rfl
theorem laid_keys : (Rows.laid_suffragan_sha_keys : DataW Unit) = Lib.tabData .u32 (sKeys.map cV) := by kernel_rfl

theorem tab_at {l : List (BitVec 32)} {i : Nat} {s : BitVec 32} (h : l[i]? = some s) : i < (l.map cV).length ∧ (l.map cV).getD i 0 = cV s := by
  have hi := (List.getElem?_eq_some_iff.1 h).1
  refine ⟨by simpa using hi, ?_⟩
  rw [List.getD_eq_getElem?_getD, List.getElem?_map, h]
  rfl

theorem lay_of {W : World} (h : laidMetH Tryd.prog Rows.shaSumsRow.laid W) : Laid W := by
  have h' : laidMet Tryd.prog [("suffragan/sha.start", Rows.laid_suffragan_sha_start), ("suffragan/sha.keys", Rows.laid_suffragan_sha_keys)] W := h
  rw [laid_start, laid_keys] at h'
  obtain ⟨ps, ⟨g0, t0, cs0, f0, p0, q0, hg0, ht0, hv0, hd0, ⟨g1, t1, cs1, f1, p1, q1, hg1, ht1, hv1, hd1, _, _⟩, _⟩, _, _⟩ := h'
  have n0 : Tryd.prog.globalNamed "suffragan/sha.start" = some 0 := by kernel_rfl
  have n1 : Tryd.prog.globalNamed "suffragan/sha.keys" = some 1 := by kernel_rfl
  obtain rfl := Option.some.inj (n0.symm.trans hg0)
  obtain rfl := Option.some.inj (n1.symm.trans hg1)
  obtain rfl := Option.some.inj ((show (Tryd.prog.globals[0]?).map (·.type) = some 46 by kernel_rfl).symm.trans ht0)
  obtain rfl := Option.some.inj ((show (Tryd.prog.globals[1]?).map (·.type) = some 51 by kernel_rfl).symm.trans ht1)
  have T0 : Lib.TabIs Tryd.prog W "suffragan/sha.start" .u32 (sStart.list.map cV) := by
    unfold Lib.TabIs
    rw [hv0, ← Lib.cells_of_tab Tryd.underlying46 Tryd.underlying44 (by kernel_rfl) (by kernel_rfl) hd0]
  have T1 : Lib.TabIs Tryd.prog W "suffragan/sha.keys" .u32 (sKeys.map cV) := by
    unfold Lib.TabIs
    rw [hv1, ← Lib.cells_of_tab Tryd.underlying51 Tryd.underlying44 (by kernel_rfl) (by kernel_rfl) hd1]
  have a0 : ∀ i s, sStart.list[i]? = some s → W.cell? ⟨0, i, none⟩ = some (.int .u32 (cV s)) := fun i s hi => by
    have h := T0.cell n0 i (tab_at hi).1
    rw [(tab_at hi).2] at h
    exact h
  have a1 : ∀ i s, sKeys[i]? = some s → W.cell? ⟨1, i, none⟩ = some (.int .u32 (cV s)) := fun i s hi => by
    have h := T1.cell n1 i (tab_at hi).1
    rw [(tab_at hi).2] at h
    exact h
  have z := World.block_lt_of_cell? W _ (a1 0 _ rfl)
  exact ⟨z, a0, a1⟩

/-- A world for the witness: the variables' cells as the program lays them. -/
def laidRow (cs : List Value) : Obj → Obj
  | .cells _ t frozen => .cells cs.toArray t frozen
  | o => o
noncomputable def laidWorld (os : Os) : World :=
  { World.holding Tryd.prog os ⟨#[], #[], []⟩ with heap := ((World.holding Tryd.prog os ⟨#[], #[], []⟩).heap.modify 0 (laidRow (cvs sStart.list))).modify 1 (laidRow (cvs sKeys)) }
theorem laid_met (os : Os) (args : Array Value) : laidMet Tryd.prog Rows.shaSumsRow.laid ((laidWorld os).forCall (fun _ _ => 0) ⟨#[], args, []⟩).memory :=
  laidMet_of_run' 8 (by kernel_rfl) (by kernel_rfl)
end Go.Proofs.YtfmighjblppceaaDoor
