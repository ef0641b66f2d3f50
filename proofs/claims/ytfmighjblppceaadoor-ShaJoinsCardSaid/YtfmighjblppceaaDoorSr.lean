/-
  Layer 3: the document's own numbers, and its hash (contracts).
-/
import Derived.Test.YtfmighjblppceaaDoorSh
namespace Go.Proofs.YtfmighjblppceaaDoor
open Go.RowKit

set_option maxRecDepth 100000 in
set_option maxHeartbeats 1600000 in
theorem rwords_any (w : World) : Calls Tryd.prog 18 #[] w fun e w' => ∃ g, e = .returned (.slice (some ⟨g, 0, none⟩) 8 8) ∧ w.heap.size ≤ g ∧ Blk w' g 44 (cvs sStart.list).toArray ∧ Turn w w' none := by
  go_enter Tryd.func18, Tryd.ntmps18
  go_wp2_with fail
  go_ret
  exact ⟨_, rfl, Nat.le_refl _, Blk.new w 44 (cvs sStart.list).toArray, (Turn.refl w none).alloc _⟩
set_option maxRecDepth 100000 in
set_option maxHeartbeats 1600000 in
theorem rroots_any (w : World) : Calls Tryd.prog 19 #[] w fun e w' => ∃ g, e = .returned (.slice (some ⟨g, 0, none⟩) 64 64) ∧ w.heap.size ≤ g ∧ Blk w' g 44 (cvs sKeys).toArray ∧ Turn w w' none := by
  go_enter Tryd.func19, Tryd.ntmps19
  go_wp2_with fail
  go_ret
  exact ⟨_, rfl, Nat.le_refl _, Blk.new w 44 (cvs sKeys).toArray, (Turn.refl w none).alloc _⟩
end Go.Proofs.YtfmighjblppceaaDoor
