/-
  Layer 5: the walk of FramePuts.
-/
import Derived.Test.YtgmmmeghhfdlfaaFg
namespace Go.Proofs.Ytgmmmeghhfdlfaa
open Go.RowKit

set_option maxRecDepth 100000 in
set_option maxHeartbeats 800000 in
theorem fputs_walk (A : Option Addr) (n c : Nat) (l : List UInt8) (A2 : Option Addr) (n2 c2 : Nat) (x : List UInt8) (m : Int) (w : World) (hr : Rd w w.heap.size 1 A n (vbs l)) (hr2 : Rd w w.heap.size 1 A2 n2 (vbs x))
    (hn : n ≤ 140737488351232) (hn2 : n2 ≤ 140737488355328) (h0 : -9223372036854775808 ≤ m) (h1 : m ≤ 9223372036854775807) :
    Calls Try.prog 3 #[.slice A n c, .slice A2 n2 c2, .int .i64 m] w fun e w' => e = .returned (.bool true) ∧ Turn w w' none := by
  obtain ⟨y, hy⟩ : ∃ y, y = (fPut l x).1 := ⟨_, rfl⟩
  obtain ⟨e0, he0⟩ : ∃ e0, e0 = (fPut l x).2 := ⟨_, rfl⟩
  have HY := hid hy
  have HE := hid he0
  have hb : ((txt y).toList == (txt y).toList) = true := by simp
  have hb2 : ((e0 : Int) == (e0 : Int)) = true := by simp
  clear hy he0
  have hz : (0 ≤ m ∧ m ≤ 1048576 ∧ ∃ q : Nat, q ≤ 8 ∧ Hid (pSize m.toNat = q) ∧ Hid (zSize m = m + 4 + q)) ∨ (m < 0 ∧ Hid (zSize m = 0)) ∨ (0 ≤ m ∧ 1048576 < m ∧ Hid (zSize m = 0)) := by
    by_cases hm : 0 ≤ m ∧ m ≤ 1048576
    · exact .inl ⟨hm.1, hm.2, pSize m.toNat, pSize_le _, hid rfl, hid (by unfold zSize fSize; rw [if_pos hm]; omega)⟩
    · have hz : zSize m = 0 := if_neg hm
      rcases Int.lt_or_le m 0 with h | h
      · exact .inr (.inl ⟨h, hid hz⟩)
      · exact .inr (.inr ⟨h, by omega, hid hz⟩)
  rcases hz with ⟨hm0, hm1, q, hq8, HQ, HZ⟩ | ⟨hm0, HZ⟩ | ⟨hm0, hm1, HZ⟩
  all_goals
    go_enter Try.func3, Try.ntmps3
    go_wp2_with (first
      | (go_at_call_of 9 n; refine (own_any _ _ _ l _ _ hr (Nat.le_refl _) (by omega)).mono ?_; rintro e w1 ⟨X1, c3, rfl, ho1, ht1⟩; have hr3 := hr2.turn0 ht1 (Nat.le_refl _))
      | (go_at_call_of 9 n2; refine (own_any _ _ _ x _ _ hr3 ht1.size (by omega)).mono ?_; rintro e w2 ⟨X2, c4, rfl, ho2, ht2⟩; have hT2 := ht1.trans ht2)
      | (go_at_call 8; refine (fput_any _ _ _ l _ _ _ x _ _ ((ho1.turn0 ht2).rd) ho2.rd (Nat.le_refl _) ho1.cap ho2.cap (by omega) (by omega)).mono ?_; rintro e w3 ⟨X3, c5, rfl, ho3, ht3⟩; rw [← HY.out] at ho3; rw [← HY.out, ← HE.out]; have hT3 := hT2.trans ht3)
      | (go_at_call 10; refine (rfput_any _ _ _ l _ _ _ x _ _ (hr.turn0 hT3 (Nat.le_refl _)) (hr2.turn0 hT3 (Nat.le_refl _)) hT3.size (by omega) (by omega)).mono ?_; rintro e w4 ⟨X4, c6, rfl, ho4, ht4⟩; rw [← HY.out] at ho4; rw [← HY.out, ← HE.out]; have hT4 := hT3.trans ht4; have hs3 := str_run w4 (c := c5) (ho3.turn0 ht4).rd; have hs4 := str_run w4 (c := c6) ho4.rd)
      | (go_at_call 11; refine (rsize_any _ _ (by omega) (by omega)).mono ?_; rintro e w' ⟨rfl, rfl⟩; rw [HQ.out])
      | (go_at_call 12; refine (fsize_any _ _ (by omega) (by omega)).mono ?_; rintro e w' ⟨rfl, rfl⟩; rw [HZ.out])
      | (go_at_call 13; refine (lives_any _).mono ?_; rintro e w5 ⟨rfl, ht5⟩))
    go_ret
    exact ⟨rfl, hT4.trans ht5⟩
end Go.Proofs.Ytgmmmeghhfdlfaa
