/-
  Layer 3: the walk of ShaSums.
-/
import Derived.Test.YtfmighjblppceaaDoorSs
import Derived.Test.YtfmighjblppceaaDoorSo
namespace Go.Proofs.YtfmighjblppceaaDoor
open Go.RowKit

set_option maxRecDepth 100000 in
set_option maxHeartbeats 1600000 in
theorem sums_walk (A : Option Addr) (n c : Nat) (l : List UInt8) (w : World) (hL : Laid w) (hr : Rd w w.heap.size 1 A n (vbs l)) (hnc : n ≤ c) (hc : c ≤ maxLen) :
    Calls Tryd.prog 3 #[.slice A n c] w fun e w' => e = .returned (.bool true) ∧ Turn w w' none := by
  have hT := Turn.refl w none
  obtain ⟨X, hX⟩ : ∃ X, X = vbs (sHash l) := ⟨_, rfl⟩
  have heq : ∀ W : World, (Op.equalIn 10000 25 (.agg X.toArray) (.agg X.toArray)).run Tryd.prog W = .ok true W := fun W => by rw [hX]; exact eq32 _ (sHash_len l) W
  have HX := hid hX
  clear hX
  by_cases hn : n ≤ 4000
  · go_enter Tryd.func3, Tryd.ntmps3
    go_wp2_with (first
      | (go_at_call 9; refine (own_any _ _ _ l w.heap.size _ (hr.turn0 hT (Nat.le_refl _)) hT.size (by omega)).mono ?_; rintro e w1 ⟨A1, c1, rfl, ho1, ht1⟩; have hT := hT.trans ht1)
      | (go_at_call 8; refine (ssum_any _ _ _ l _ _ (hL.turn hT (by simp)) ho1.rd (Nat.le_refl _) ho1.cap.1 ho1.cap.2 (by omega)).mono ?_; rintro e w2 ⟨rfl, ht2⟩; have hT := hT.trans ht2; rw [← HX.out])
      | (go_at_call 10; refine (rsum_any _ _ _ l w.heap.size _ (hr.turn0 hT (Nat.le_refl _)) hT.size (by omega)).mono ?_; rintro e w3 ⟨rfl, ht3⟩; have hT := hT.trans ht3; rw [← HX.out]))
    refine (lives_any _ (hL.turn hT (by simp))).mono ?_
    rintro e w4 ⟨rfl, ht4⟩
    go_wp2_with fail
    go_ret
    exact ⟨rfl, hT.trans ht4⟩
  · have hn2 : ¬ ((n : Int) ≤ 4000) := by omega
    go_enter Tryd.func3, Tryd.ntmps3
    go_wp2_with (go_at_call 7; refine (lives_any _ hL).mono ?_; rintro e w4 ⟨rfl, ht4⟩)
    go_ret
    exact ⟨rfl, ht4⟩
end Go.Proofs.YtfmighjblppceaaDoor
