/-
  Layer 6: the walks of LexOrder and LexBlanks, whole, over the contract of the code's Words.
-/
import Derived.Test.YtkljkiambjlnaaaLc
import Derived.Test.YtkljkiambjlnaaaLd
namespace Go.Proofs.Ytkljkiambjlnaaa
open Go.RowKit

set_option maxRecDepth 100000 in
set_option maxHeartbeats 800000 in
theorem order_no (D : LexDone) (s : ByteArray) (l : List UInt8) (w : World) (hs : Tx s l) (hl : l.length ≤ 140737488355328) {x : Nat × Nat} (hw : wWords l = .error x) : Calls Try.prog 4 #[.string s] w fun e w' => e = .returned (.bool true) ∧ Turn w w' none := by
  go_enter Try.func4, Try.ntmps4
  go_wp2_with (first
    | (go_at_call 11; refine (words_no D s l _ hs hl hw).mono ?_; rintro e w1 ⟨p, er, rfl, her, ht1⟩; have her2 : ((er : Int) == 0) = false := (by rw [beq_eq_false_iff_ne]; omega); have her3 : ((er : Int) != 0) = true := (by rw [bne, her2]; rfl))
    | (go_at_call 10; refine (xlives_any D _).mono ?_; rintro e w3 ⟨rfl, ht3⟩))
  go_ret
  exact ⟨rfl, ht1.trans ht3⟩
theorem order_walk (D : LexDone) (s : ByteArray) (l : List UInt8) (w : World) (hs : Tx s l) (hl : l.length ≤ 140737488355328) : Calls Try.prog 4 #[.string s] w fun e w' => e = .returned (.bool true) ∧ Turn w w' none := by
  cases hw : wWords l with
  | ok ts => exact order_ok D s l w hs hl hw
  | error x => exact order_no D s l w hs hl hw

set_option maxRecDepth 100000 in
set_option maxHeartbeats 800000 in
theorem blanks_no (D : LexDone) (s : ByteArray) (l : List UInt8) (which : Int) (w : World) (hs : Tx s l) (hl : l.length ≤ 140737488355328) {x : Nat × Nat} (hw : wWords l = .error x) : Calls Try.prog 5 #[.string s, .int .u16 which] w fun e w' => e = .returned (.bool true) ∧ Turn w w' none := by
  go_enter Try.func5, Try.ntmps5
  go_wp2_with (first
    | (go_at_call 11; refine (words_no D s l _ hs hl hw).mono ?_; rintro e w1 ⟨p, er, rfl, her, ht1⟩; have her2 : ((er : Int) == 0) = false := (by rw [beq_eq_false_iff_ne]; omega); have her3 : ((er : Int) != 0) = true := (by rw [bne, her2]; rfl))
    | (go_at_call 10; refine (xlives_any D _).mono ?_; rintro e w3 ⟨rfl, ht3⟩))
  go_ret
  exact ⟨rfl, ht1.trans ht3⟩
set_option maxRecDepth 100000 in
set_option maxHeartbeats 800000 in
theorem blanks_big (D : LexDone) (s : ByteArray) (l : List UInt8) (which : Int) (w : World) (hs : Tx s l) (hl : l.length ≤ 140737488355328) (h4 : 4096 ≤ l.length) {ts : List Tok} (hw : wWords l = .ok ts) : Calls Try.prog 5 #[.string s, .int .u16 which] w fun e w' => e = .returned (.bool true) ∧ Turn w w' none := by
  obtain ⟨L, hL⟩ : ∃ L, l.length = L := ⟨_, rfl⟩
  have hsz : s.size = L := hs.size.trans hL
  have h4i : (4096 : Int) ≤ L := by omega
  obtain ⟨N, hN⟩ : ∃ N, ts.length = N := ⟨_, rfl⟩
  have hN0 : ((N : Int) == 0) = false := by
    rw [beq_eq_false_iff_ne]
    have := (wWords_ord hw).2.1
    cases ts with
    | nil => exact absurd rfl this
    | cons t r => rw [← hN]; simp only [List.length_cons]; omega
  have HN := hid hN
  have HL := hid hL
  clear hN hL
  go_enter Try.func5, Try.ntmps5
  go_wp2_with (first
    | (go_at_call 11; refine (words_ok D s l _ hs hl hw).mono ?_; rintro e w1 ⟨g, c, rfl, ho, ht1⟩; rw [HN.out] at ho; rw [HN.out])
    | (go_at_call 10; refine (xlives_any D _).mono ?_; rintro e w3 ⟨rfl, ht3⟩))
  go_ret
  exact ⟨rfl, ht1.trans ht3⟩
theorem blanks_walk (D : LexDone) (s : ByteArray) (l : List UInt8) (which : Int) (w : World) (hs : Tx s l) (hl : l.length ≤ 140737488355328) (h0 : 0 ≤ which) (h1 : which ≤ 65535) : Calls Try.prog 5 #[.string s, .int .u16 which] w fun e w' => e = .returned (.bool true) ∧ Turn w w' none := by
  cases hw : wWords l with
  | error x => exact blanks_no D s l which w hs hl hw
  | ok ts =>
    by_cases h4 : l.length < 4096
    · have hp : 0 < ts.length := by
        have := (wWords_ord hw).2.1
        cases ts with
        | nil => exact absurd rfl this
        | cons t r => simp
      have hkp := Int.emod_lt_of_pos which (show (0 : Int) < (ts.length : Int) by omega)
      obtain ⟨k, hk⟩ : ∃ k : Nat, which % (ts.length : Int) = (k : Int) := ⟨(which % (ts.length : Int)).toNat, by rw [Int.toNat_of_nonneg (Int.emod_nonneg _ (by omega))]⟩
      exact blanks_ok D s l which w hs h4 h0 h1 hw k hk (by omega)
    · exact blanks_big D s l which w hs hl (by omega) hw
end Go.Proofs.Ytkljkiambjlnaaa
