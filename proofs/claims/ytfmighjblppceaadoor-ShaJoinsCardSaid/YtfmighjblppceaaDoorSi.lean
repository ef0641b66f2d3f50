/-
  Layer 3: the loops of the document's hash, by name.
-/
import Derived.Test.YtfmighjblppceaaDoorSr
namespace Go.Proofs.YtfmighjblppceaaDoor
open Go.RowKit

/-- the loops of a code that stand in no other loop -/
def loopsOf : Code → List Code
  | .seq a b => loopsOf a ++ loopsOf b
  | .cond _ a b => loopsOf a ++ loopsOf b
  | .block _ b => loopsOf b
  | .scope b => loopsOf b
  | .loop b => [.loop b]
  | _ => []

def inLoop : Code → Code
  | .loop b => b
  | c => c

/-- the hash's outer loops -/
noncomputable def sumL (k : Nat) : Code := ((Tryd.f10.body.map loopsOf).getD []).getD k .skip

/-- the loops of the hash's loop over the blocks -/
noncomputable def sumM (k : Nat) : Code := (loopsOf (inLoop (sumL 2))).getD k .skip

end Go.Proofs.YtfmighjblppceaaDoor
