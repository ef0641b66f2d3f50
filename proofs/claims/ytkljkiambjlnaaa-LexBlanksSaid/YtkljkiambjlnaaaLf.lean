/-
  Layer 6: the code's sorts of bytes.
-/
import Derived.Test.YtkljkiambjlnaaaLa
import Derived.Lib.Bytealg
namespace Go.Proofs.Ytkljkiambjlnaaa
open Go.RowKit

set_option maxHeartbeats 400000 in
theorem letter_any (c : UInt8) (w : World) : Calls Try.prog 15 #[.int .u8 (c.toNat : Int)] w fun e w' => e = .returned (.bool (wLow c)) ∧ w = w' := by
  rcases wLow_cases c with ⟨h1, h⟩ | ⟨h1, h2, h⟩ | ⟨h0, h1, h⟩
  all_goals
    have H := hid h
    clear h
    go_enter Try.func15, Try.ntmps15
    go_wp2
    all_goals go_ret
    all_goals exact ⟨by rw [H.out]; first | rfl | (refine congrArg (fun b => Ending.returned (.bool b)) ?_; exact decide_eq_false (by omega)), rfl⟩
set_option maxHeartbeats 400000 in
theorem digit_any (c : UInt8) (w : World) : Calls Try.prog 13 #[.int .u8 (c.toNat : Int)] w fun e w' => e = .returned (.bool (wNum c)) ∧ w = w' := by
  rcases wNum_cases c with ⟨h1, h⟩ | ⟨h1, h2, h⟩ | ⟨h0, h1, h⟩
  all_goals
    have H := hid h
    clear h
    go_enter Try.func13, Try.ntmps13
    go_wp2
    all_goals go_ret
    all_goals exact ⟨by rw [H.out]; first | rfl | (refine congrArg (fun b => Ending.returned (.bool b)) ?_; exact decide_eq_false (by omega)), rfl⟩
set_option maxHeartbeats 400000 in
theorem inName_any (c : UInt8) (w : World) : Calls Try.prog 16 #[.int .u8 (c.toNat : Int)] w fun e w' => e = .returned (.bool (wIn c)) ∧ w = w' := by
  have H := hid (show wIn c = (wLow c || wNum c || decide (c.toNat = 95)) from rfl)
  have e95 : ((c.toNat : Int) == 95) = decide (c.toNat = 95) := by
    by_cases h : c.toNat = 95
    · rw [h]; rfl
    · rw [decide_eq_false h, beq_eq_false_iff_ne]; omega
  have E95 := hid e95
  clear e95
  cases h1 : wLow c with
  | true =>
    have H1 := hid h1
    clear h1
    go_enter Try.func16, Try.ntmps16
    go_wp2_with (go_at_call 15; refine (letter_any c _).mono ?_; rintro e w' ⟨rfl, rfl⟩; rw [H1.out])
    go_ret
    exact ⟨by rw [H.out, H1.out]; rfl, rfl⟩
  | false =>
    have H1 := hid h1
    clear h1
    cases h2 : wNum c with
    | true =>
      have H2 := hid h2
      clear h2
      go_enter Try.func16, Try.ntmps16
      go_wp2_with (first | (go_at_call 15; refine (letter_any c _).mono ?_; rintro e w' ⟨rfl, rfl⟩; rw [H1.out]) | (go_at_call 13; refine (digit_any c _).mono ?_; rintro e w' ⟨rfl, rfl⟩; rw [H2.out]))
      go_ret
      exact ⟨by rw [H.out, H1.out, H2.out]; rfl, rfl⟩
    | false =>
      have H2 := hid h2
      clear h2
      go_enter Try.func16, Try.ntmps16
      go_wp2_with (first | (go_at_call 15; refine (letter_any c _).mono ?_; rintro e w' ⟨rfl, rfl⟩; rw [H1.out]) | (go_at_call 13; refine (digit_any c _).mono ?_; rintro e w' ⟨rfl, rfl⟩; rw [H2.out]))
      go_ret
      exact ⟨by rw [H.out, H1.out, H2.out, E95.out]; simp, rfl⟩
theorem wBlank_cases (c : UInt8) : (c.toNat = 32 ∧ wBlank c = true) ∨ (c.toNat ≠ 32 ∧ c.toNat = 9 ∧ wBlank c = true) ∨ (c.toNat ≠ 32 ∧ c.toNat ≠ 9 ∧ c.toNat = 10 ∧ wBlank c = true) ∨ (c.toNat ≠ 32 ∧ c.toNat ≠ 9 ∧ c.toNat ≠ 10 ∧ c.toNat = 13 ∧ wBlank c = true) ∨ (c.toNat ≠ 32 ∧ c.toNat ≠ 9 ∧ c.toNat ≠ 10 ∧ c.toNat ≠ 13 ∧ wBlank c = false) := by
  unfold wBlank
  by_cases h1 : c.toNat = 32
  · exact .inl ⟨h1, decide_eq_true (by omega)⟩
  by_cases h2 : c.toNat = 9
  · exact .inr (.inl ⟨h1, h2, decide_eq_true (by omega)⟩)
  by_cases h3 : c.toNat = 10
  · exact .inr (.inr (.inl ⟨h1, h2, h3, decide_eq_true (by omega)⟩))
  by_cases h4 : c.toNat = 13
  · exact .inr (.inr (.inr (.inl ⟨h1, h2, h3, h4, decide_eq_true (by omega)⟩)))
  · exact .inr (.inr (.inr (.inr ⟨h1, h2, h3, h4, decide_eq_false (by omega)⟩)))
theorem beq_no {a b : Nat} (h : a ≠ b) : ((a : Int) == (b : Int)) = false := by rw [beq_eq_false_iff_ne]; omega
set_option maxHeartbeats 400000 in
theorem blank_any (c : UInt8) (w : World) : Calls Try.prog 25 #[.int .u8 (c.toNat : Int)] w fun e w' => e = .returned (.bool (wBlank c)) ∧ w = w' := by
  rcases wBlank_cases c with ⟨h1, h⟩ | ⟨h1, h2, h⟩ | ⟨h1, h2, h3, h⟩ | ⟨h1, h2, h3, h4, h⟩ | ⟨h1, h2, h3, h4, h⟩
  all_goals
    have H := hid h
    clear h
    try have b1 : ((c.toNat : Int) == 32) = false := beq_no h1
    try have b2 : ((c.toNat : Int) == 9) = false := beq_no h2
    try have b3 : ((c.toNat : Int) == 10) = false := beq_no h3
    try have b4 : ((c.toNat : Int) == 13) = false := beq_no h4
    go_enter Try.func25, Try.ntmps25
    go_wp2
    all_goals go_ret
    all_goals exact ⟨by rw [H.out]; rfl, rfl⟩
/-- A byte of a line. -/
def wLine (c : UInt8) : Bool := decide (c.toNat ≠ 10)
set_option maxHeartbeats 400000 in
theorem inLine_any (c : UInt8) (w : World) : Calls Try.prog 26 #[.int .u8 (c.toNat : Int)] w fun e w' => e = .returned (.bool (wLine c)) ∧ w = w' := by
  by_cases h : c.toNat = 10
  · have H := hid (show wLine c = false from decide_eq_false (by omega))
    go_enter Try.func26, Try.ntmps26
    go_wp2
    all_goals go_ret
    all_goals exact ⟨by rw [H.out]; rfl, rfl⟩
  · have H := hid (show wLine c = true from decide_eq_true h)
    have b1 : ((c.toNat : Int) != 10) = true := by show (!((c.toNat : Int) == ((10 : Nat) : Int))) = true; rw [beq_no h]; rfl
    go_enter Try.func26, Try.ntmps26
    go_wp2
    all_goals go_ret
    all_goals exact ⟨by rw [H.out]; rfl, rfl⟩
/-- The signs' texts. -/
def wSigns : List UInt8 := [40, 41, 91, 93, 123, 125, 60, 62, 124, 58, 59, 44, 63]
theorem wSign_at (c : UInt8) : decide (0 ≤ Lib.indexByte wSigns c) = wSign c := by
  have key : ∀ n : Nat, n < 256 → decide (0 ≤ Lib.indexByte wSigns (UInt8.ofNat n)) = wSign (UInt8.ofNat n) := by decide +kernel
  have := key c.toNat c.toNat_lt
  simpa using this
set_option maxHeartbeats 400000 in
theorem slIndex_any (s : ByteArray) (c : Int) (w : World) : Calls Try.prog 29 #[.string s, .int .u8 c] w fun e w' => e = .returned (.int .i64 (Lib.indexByte s.data.toList c.toNat.toUInt8)) ∧ w = w' := by
  go_enter Try.func29, Try.ntmps29
  go_wp2
  rw [run_callFunc_extern Try.func30 (by kernel_rfl) (by kernel_rfl) (by kernel_rfl) (e := Extern.BytealgIndexByte.indexByte) (by kernel_rfl), Lib.run_indexByteString]
  simp only [Result.andThen]
  rw [Oper.upon_value]
  go_wp2
  go_ret
  exact ⟨rfl, rfl⟩
set_option maxHeartbeats 400000 in
theorem index_any (s : ByteArray) (c : Int) (w : World) : Calls Try.prog 28 #[.string s, .int .u8 c] w fun e w' => e = .returned (.int .i64 (Lib.indexByte s.data.toList c.toNat.toUInt8)) ∧ w = w' := by
  go_enter Try.func28, Try.ntmps28
  go_wp2_with (go_at_call 29; refine (slIndex_any s c _).mono ?_; rintro e w' ⟨rfl, rfl⟩)
  go_ret
  exact ⟨rfl, rfl⟩
set_option maxHeartbeats 400000 in
theorem sign_any (c : UInt8) (w : World) : Calls Try.prog 27 #[.int .u8 (c.toNat : Int)] w fun e w' => e = .returned (.bool (wSign c)) ∧ w = w' := by
  obtain ⟨x, hx⟩ : ∃ x, Lib.indexByte wSigns c = x := ⟨_, rfl⟩
  have H := hid (wSign_at c)
  have HX := hid hx
  clear hx
  have hc : ((c.toNat : Int)).toNat.toUInt8 = c := by simp
  have HC := hid hc
  clear hc
  go_enter Try.func27, Try.ntmps27
  go_wp2_with (go_at_call 28; refine (index_any _ _ _).mono ?_; rintro e w' ⟨he, rfl⟩; obtain rfl : e = .returned (.int .i64 x) := he.trans (by rw [HC.out]; exact congrArg (fun q => Ending.returned (.int .i64 q)) HX.out); clear he)
  go_ret
  exact ⟨by rw [← H.out, HX.out]; rfl, rfl⟩
end Go.Proofs.Ytkljkiambjlnaaa
