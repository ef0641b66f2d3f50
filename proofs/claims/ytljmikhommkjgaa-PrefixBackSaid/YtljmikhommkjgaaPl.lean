/-
  Layer 1: the walks of the statements PrefixPuts, PrefixBack, PrefixOrder.
-/
import Derived.Test.YtljmikhommkjgaaPr
namespace Go.Proofs.Ytljmikhommkjgaa
open Go.RowKit

theorem txt_eq (l : List UInt8) : (txt l).toList = l := ByteArray.toList_mk l

/-- string(b) in the walk: a rule for one world. -/
theorem str_run (w : World) {B : Nat} {A : Option Addr} {n c : Nat} {l : List UInt8} (h : Rd w B 1 A n (vbs l)) : (convert 22 9 (.slice A n c)).run Try.prog w = .ok (.string (txt l)) w :=
  run_txt w B _ _ 5 A n c l Try.underlying22 Try.underlying5 Try.underlying9 h

set_option maxHeartbeats 400000 in
theorem lives_any (w : World) : Calls Try.prog 15 #[] w fun e w' => e = .returned (.bool true) ∧ Turn w w' none := by
  have hr : Rd w w.heap.size 1 none 0 (vbs []) := Rd.none_ w _ 1 0
  have e1 := hid (show [] ++ pPut (64 : Int).toNat = [64, 64] by decide)
  have e2 := hid (show pSize (64 : Int).toNat = 2 by decide)
  have e3 := hid (show pErr (64 : Int).toNat = 0 by decide)
  have e4 : ((txt [64, 64]).toList == [64, 64]) = true := by rw [txt_eq]; decide
  go_enter Try.func15, Try.ntmps15
  go_wp2_with (first
    | (go_at_call 10; refine (put_any _ _ _ _ [] _ _ hr (Nat.le_refl _) (by omega) (by omega) (by omega)).mono ?_; rintro e w1 ⟨A1, c1, rfl, hown, ht⟩; rw [e1.out] at hown; rw [e2.out, e3.out]; have hs := str_run w1 (c := c1) hown.rd; rw [e2.out] at hs)
    | (go_at_call 13; refine (size_any _ _ (by omega) (by omega)).mono ?_; rintro e w' ⟨rfl, rfl⟩; rw [e2.out]))
  go_ret
  exact ⟨rfl, ht⟩

set_option maxHeartbeats 400000 in
theorem puts_walk (A : Option Addr) (n c : Nat) (m : Int) (l : List UInt8) (w : World) (hr : Rd w w.heap.size 1 A n (vbs l)) (h0 : 0 ≤ m) (h1 : m ≤ 18446744073709551615) (hn : n + 8 ≤ 140737488355328) :
    Calls Try.prog 3 #[.slice A n c, .int .u64 m] w fun e w' => e = .returned (.bool true) ∧ Turn w w' none := by
  obtain ⟨l', hl'⟩ : ∃ l', l' = l ++ pPut m.toNat := ⟨_, rfl⟩
  have HL := hid hl'
  clear hl'
  have e4 : ((txt l').toList == (txt l').toList) = true := by simp
  have e5 : (pErr m.toNat == pErr m.toNat) = true := by simp
  have e6 : (((pSize m.toNat : Nat) : Int) == ((pSize m.toNat : Nat) : Int)) = true := by simp
  go_enter Try.func3, Try.ntmps3
  go_wp2_with (first
    | (go_at_call 11; refine (own_any _ _ _ l _ _ hr (Nat.le_refl _) (by omega)).mono ?_; rintro e w1 ⟨A1, c1, rfl, ho1, ht1⟩)
    | (go_at_call 10; refine (put_any _ _ _ _ l _ _ ho1.rd (Nat.le_refl _) (by omega) (by omega) (by omega)).mono ?_; rintro e w2 ⟨A2, c2, rfl, ho2, ht2⟩; rw [← HL.out] at ho2)
    | (go_at_call 12; refine (rput_any _ _ _ _ l _ _ (hr.turn0 (ht1.trans ht2) (Nat.le_refl _)) (ht1.trans ht2).size (by omega) (by omega) (by omega)).mono ?_; rintro e w3 ⟨A3, c3, rfl, ho3, ht3⟩; rw [← HL.out] at ho3; have hs2 := str_run w3 (c := c2) (ho2.turn0 ht3).rd; have hs3 := str_run w3 (c := c3) ho3.rd)
    | (go_at_call 13; refine (size_any _ _ (by omega) (by omega)).mono ?_; rintro e w' ⟨rfl, rfl⟩)
    | (go_at_call 14; refine (rsize_any _ _ (by omega) (by omega)).mono ?_; rintro e w' ⟨rfl, rfl⟩)
    | (go_at_call 15; refine (lives_any _).mono ?_; rintro e w4 ⟨rfl, ht4⟩))
  go_ret
  exact ⟨rfl, ((ht1.trans ht2).trans ht3).trans ht4⟩
end Go.Proofs.Ytljmikhommkjgaa
