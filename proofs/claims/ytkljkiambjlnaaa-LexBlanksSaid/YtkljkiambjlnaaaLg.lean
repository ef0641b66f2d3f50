/-
  Layer 6: the code's past, between, token, whole, Name, Number.
-/
import Derived.Test.YtkljkiambjlnaaaLf
import Derived.Test.YtkljkiambjlnaaaLexQ
namespace Go.Proofs.Ytkljkiambjlnaaa
open Go.RowKit

/-- A sort of bytes, as a function that is handed on. -/
def Srt (k : Nat) (p : UInt8 → Bool) : Prop := (k = 16 ∨ k = 13 ∨ k = 25 ∨ k = 26) ∧
  ∀ (c : UInt8) (w : World), Calls Try.prog k #[.int .u8 (c.toNat : Int)] w fun e w' => e = .returned (.bool (p c)) ∧ w = w'
theorem sort_in : Srt 16 wIn := ⟨.inl rfl, inName_any⟩
theorem sort_digit : Srt 13 wNum := ⟨.inr (.inl rfl), digit_any⟩
theorem sort_blank : Srt 25 wBlank := ⟨.inr (.inr (.inl rfl)), blank_any⟩
theorem sort_line : Srt 26 wLine := ⟨.inr (.inr (.inr rfl)), inLine_any⟩

set_option maxRecDepth 100000 in
set_option maxHeartbeats 1600000 in
theorem past_any {k : Nat} {p : UInt8 → Bool} (hk : Srt k p) (s : ByteArray) (l : List UInt8) (a : Nat) (w : World) (hs : Tx s l) (hl : l.length ≤ 140737488355328) (ha : a ≤ l.length) :
    Calls Try.prog 20 #[.string s, .int .i64 (a : Int), .func (.func k) #[] #[]] w fun e w' => e = .returned (.int .i64 ((a + wRun p l a : Nat) : Int)) ∧ w = w' := by
  obtain ⟨n, hn⟩ : ∃ n, l.length = n := ⟨_, rfl⟩
  have hsz : s.size = n := hs.size.trans hn
  obtain ⟨E, hE⟩ : ∃ E, E = a + wRun p l a := ⟨_, rfl⟩
  have HE := hid hE
  rw [← hE]
  clear hE
  rw [hn] at ha hl
  have HN := hid hn
  clear hn
  obtain ⟨hk, hp⟩ := hk
  rcases hk with rfl | rfl | rfl | rfl
  all_goals
    go_enter Try.func20, Try.ntmps20
    go_wp2
    go_loopw [1] (fun i wr => ∃ j : Nat, j ≤ n ∧ i = .int .i64 (j : Int) ∧ Hid (j + wRun p l j = E) ∧ w = wr) (fun i _ => (n - intOf i).toNat)
    case atStart => exact ⟨a, by omega, rfl, hid HE.out.symm, rfl⟩
    case round =>
      obtain ⟨j, hj, rfl, HJ, rfl⟩ := hrel
      by_cases hjn : j < n
      · obtain ⟨c, hc⟩ : ∃ c, l[j]? = some c := ⟨l[j]'(by have := HN.out; omega), List.getElem?_eq_getElem (by have := HN.out; omega)⟩
        have hcj := hs.at_ hc
        have hc256 := c.toNat_lt
        have HC := hid hc
        clear hc
        have hjni : (j : Int) < n := by omega
        cases hpc : p c with
        | true =>
          have HP := hid hpc
          clear hpc
          go_wp2_with (first | (go_at_call 16; refine (hp c _).mono ?_; rintro e w' ⟨rfl, rfl⟩; rw [HP.out]) | (go_at_call 13; refine (hp c _).mono ?_; rintro e w' ⟨rfl, rfl⟩; rw [HP.out]) | (go_at_call 25; refine (hp c _).mono ?_; rintro e w' ⟨rfl, rfl⟩; rw [HP.out]) | (go_at_call 26; refine (hp c _).mono ?_; rintro e w' ⟨rfl, rfl⟩; rw [HP.out]))
          refine ⟨⟨j + 1, by omega, by go_num, hid (by have := HJ.out; rw [wRun_in HC.out HP.out] at this; omega), trivial⟩, ?_⟩
          simp [intOf]; omega
        | false =>
          have HP := hid hpc
          clear hpc
          have hEj : E = j := by have := HJ.out; rw [wRun_out HC.out HP.out] at this; omega
          have HEj := hid hEj
          clear hEj
          go_wp2_with (first | (go_at_call 16; refine (hp c _).mono ?_; rintro e w' ⟨rfl, rfl⟩; rw [HP.out]) | (go_at_call 13; refine (hp c _).mono ?_; rintro e w' ⟨rfl, rfl⟩; rw [HP.out]) | (go_at_call 25; refine (hp c _).mono ?_; rintro e w' ⟨rfl, rfl⟩; rw [HP.out]) | (go_at_call 26; refine (hp c _).mono ?_; rintro e w' ⟨rfl, rfl⟩; rw [HP.out]))
          go_ret
          exact ⟨by rw [HEj.out]; rfl, rfl⟩
      · obtain rfl : j = n := by omega
        have hEj : E = j := by have := HJ.out; rw [wRun_end (by have := HN.out; omega)] at this; omega
        have HEj := hid hEj
        clear hEj
        go_wp2_with fail
        go_ret
        exact ⟨by rw [HEj.out]; rfl, rfl⟩
end Go.Proofs.Ytkljkiambjlnaaa
