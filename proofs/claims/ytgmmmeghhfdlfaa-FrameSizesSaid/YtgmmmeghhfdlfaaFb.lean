/-
  Layer 5: what frame.Size and frame.Put do.
-/
import Derived.Test.YtgmmmeghhfdlfaaFa
import Derived.Test.YtgmmmeghhfdlfaaKp
import Derived.Test.YtgmmmeghhfdlfaaKd
import Derived.Test.YtgmmmeghhfdlfaaFrP
namespace Go.Proofs.Ytgmmmeghhfdlfaa
open Go.RowKit

/-- The size that the program tells of a number of bytes. -/
def zSize (m : Int) : Int := if 0 ≤ m ∧ m ≤ 1048576 then (fSize m.toNat : Nat) else 0

set_option maxHeartbeats 400000 in
theorem fsize_any (m : Int) (w : World) (h0 : -9223372036854775808 ≤ m) (h1 : m ≤ 9223372036854775807) :
    Calls Try.prog 12 #[.int .i64 m] w fun e w' => e = .returned (.int .i64 (zSize m)) ∧ w = w' := by
  by_cases hm : 0 ≤ m ∧ m ≤ 1048576
  · have hz : zSize m = (fSize m.toNat : Nat) := if_pos hm
    have hf : (fSize m.toNat : Int) = (pSize m.toNat : Int) + m + 4 := by unfold fSize; omega
    have hp := pSize_le m.toNat
    obtain ⟨hm0, hm1⟩ := hm
    go_enter Try.func12, Try.ntmps12
    go_wp2_with (go_at_call 30; refine (size_any _ _ (by omega) (by omega)).mono ?_; rintro e w' ⟨rfl, rfl⟩)
    go_ret
    exact ⟨by rw [hz, hf]; rfl, rfl⟩
  · have hz : zSize m = 0 := if_neg hm
    go_enter Try.func12, Try.ntmps12
    rcases Int.lt_or_le m 0 with hlt | hge
    · go_wp2
      go_ret
      exact ⟨by rw [hz]; rfl, rfl⟩
    · have h2 : 1048576 < m := by omega
      go_wp2
      go_ret
      exact ⟨by rw [hz]; rfl, rfl⟩

/-- What Put makes of bytes and a frame's. -/
def fPut (l x : List UInt8) : List UInt8 × Nat := if 1048576 < x.length then (l, 2) else (l ++ fBytes x, 0)

set_option maxHeartbeats 400000 in
theorem fput_any (A : Option Addr) (n c : Nat) (l : List UInt8) (A2 : Option Addr) (n2 c2 : Nat) (x : List UInt8) (B : Nat) (w : World) (hr : Rd w B 1 A n (vbs l)) (hr2 : Rd w B 1 A2 n2 (vbs x)) (hB : B ≤ w.heap.size)
    (hc : n ≤ c ∧ c ≤ maxLen) (hc2 : n2 ≤ c2 ∧ c2 ≤ maxLen) (hn : n ≤ 140737488351232) (hn2 : n2 ≤ 140737488355328) :
    Calls Try.prog 8 #[.slice A n c, .slice A2 n2 c2] w fun e w' =>
      ∃ A' c', e = .returned (.tuple #[.slice A' (fPut l x).1.length c', .int .i64 ((fPut l x).2 : Nat)]) ∧ Own w' w.heap.size 5 1 A' (fPut l x).1.length c' (vbs (fPut l x).1) ∧ Turn w w' none := by
  have hl := hr.len
  have hx := hr2.len
  rw [vbs_len] at hl hx
  by_cases hlong : 1048576 < n2
  · have hf : fPut l x = (l, 2) := if_pos (by omega)
    have hlongi : (1048576 : Int) < n2 := by omega
    go_enter Try.func8, Try.ntmps8
    go_wp2_with (go_at_call 21; refine (clone_any _ _ _ l B _ hr hB (by omega)).mono ?_; rintro e w1 ⟨A1, c1, rfl, ho1, ht1⟩)
    go_ret2
    exact ⟨A1, c1, by rw [hf]; simp only [hl]; rfl, by rw [hf]; simp only [hl]; exact ho1, ht1⟩
  · have hf : fPut l x = (l ++ fBytes x, 0) := if_neg (by omega)
    have hlongi : (n2 : Int) ≤ 1048576 := by omega
    have hp := pSize_small4 (n := n2) (by omega)
    have hnil : Rd w B 1 none 0 (vbs []) := Rd.none_ w _ 1 0
    have hflat : [l, pPut n2, x, cBs (cGo (cSum (pPut n2)) x)].flatten = l ++ fBytes x := by
      have e : cGo (cSum (pPut n2)) x = cSum (pPut n2 ++ x) := by unfold cSum; rw [cGo_app]
      rw [e, fBytes, fHead, hx]
      simp
    go_enter Try.func8, Try.ntmps8
    go_wp2_with (first
      | (go_at_call 22; refine (put_any _ _ _ _ [] _ _ hnil hB (by omega) (by omega) (by omega)).mono ?_; rintro e w1 ⟨A1, c1, rfl, ho1, ht1⟩; simp only [Int.toNat_natCast, List.nil_append, Nat.zero_add] at ho1 ⊢)
      | (go_at_call 24; refine (sum_any _ _ _ (pPut n2) _ _ ho1.rd (Nat.le_refl _) (by omega)).mono ?_; rintro e w2 ⟨rfl, ht2⟩; have hT2 := ht1.trans ht2; have hr3 := hr2.turn0 hT2 hB)
      | (go_at_call 23; refine (go_of _ _ _ _ _ x B _ rfl hr3 (Nat.le_trans hB hT2.size) (by omega)).mono ?_; rintro e w3 ⟨rfl, ht3⟩; have hT3 := hT2.trans ht3)
      | (go_at_call 26; refine (bytes_any _ _).mono ?_; rintro e w4 ⟨A4, rfl, ho4, ht4⟩; have hT4 := hT3.trans ht4; have hRw := (RowsAt.cons (c := c) ((hr.turn0 hT4 hB).mono (Nat.le_trans hB hT4.size)) hc.1 hc.2 (RowsAt.cons (c := c1) ((ho1.turn0 ((ht2.trans ht3).trans ht4)).rd) ho1.cap.1 ho1.cap.2 (RowsAt.cons (c := c2) ((hr2.turn0 hT4 hB).mono (Nat.le_trans hB hT4.size)) hc2.1 hc2.2 (RowsAt.cons (c := 4) ho4.rd (by decide) (by decide) (RowsAt.nil _ _))))).lit (Nat.le_refl _) 22)
      | (go_at_call 25; refine (concat_any _ 4 4 _ _ _ _ hRw (by show _ ≤ (w4.heap.push _).size; rw [Array.size_push]; exact Nat.le_refl _) (by rw [hflat, List.length_append, fBytes_len, hl, hx]; unfold fSize; omega) (by decide)).mono ?_; rintro e w5 ⟨A5, c5, rfl, ho5, ht5⟩; rw [hflat] at ho5 ⊢))
    go_ret2
    exact ⟨A5, c5, by rw [hf]; simp only [List.length_append, hl]; rfl, by rw [hf]; exact ho5.mono (hT4.alloc _).size, (hT4.alloc _).trans ht5⟩
end Go.Proofs.Ytgmmmeghhfdlfaa
