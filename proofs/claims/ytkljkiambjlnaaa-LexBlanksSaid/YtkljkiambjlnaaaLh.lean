/-
  Layer 6: the code's between and token.
-/
import Derived.Test.YtkljkiambjlnaaaLg
namespace Go.Proofs.Ytkljkiambjlnaaa
open Go.RowKit

theorem skip_blank : ∀ l : List UInt8, wSkip false l = (l.takeWhile wBlank).length + wSkip false (l.drop (l.takeWhile wBlank).length)
  | [] => rfl
  | c :: r => by
    cases hb : wBlank c with
    | false => rw [List.takeWhile_cons, hb]; simp
    | true =>
      have h35 : c.toNat ≠ 35 := by
        intro e
        unfold wBlank at hb
        rw [decide_eq_true_iff] at hb
        omega
      rw [List.takeWhile_cons, hb, if_pos rfl, List.length_cons, List.drop_succ_cons, wSkip, if_pos (pass_blank hb), note_blank h35, skip_blank r]
      omega
theorem skip_note : ∀ l : List UInt8, wSkip true l = (l.takeWhile wLine).length + wSkip false (l.drop (l.takeWhile wLine).length)
  | [] => rfl
  | c :: r => by
    by_cases h : c.toNat = 10
    · have hl : wLine c = false := decide_eq_false (by omega)
      have h1 := pass_lf (note := true) h
      have h2 := pass_lf (note := false) h
      rw [List.takeWhile_cons, hl, wSkip, if_pos h1.1, h1.2]
      show _ = 0 + wSkip false (c :: r)
      rw [wSkip, if_pos h2.1, h2.2]
      omega
    · have hl : wLine c = true := decide_eq_true h
      have h1 := pass_in h
      rw [List.takeWhile_cons, hl, if_pos rfl, List.length_cons, List.drop_succ_cons, wSkip, if_pos h1.1, h1.2, skip_note r]
      omega
theorem over_blank (l : List UInt8) (a : Nat) : wOver false l a = wRun wBlank l a + wOver false l (a + wRun wBlank l a) := by
  unfold wOver wRun
  rw [skip_blank, List.drop_drop]
theorem over_note {l : List UInt8} {a : Nat} {c : UInt8} (h : l[a]? = some c) (h35 : c.toNat = 35) : wOver false l a = wRun wLine l a + wOver false l (a + wRun wLine l a) := by
  have hl : wLine c = true := decide_eq_true (by omega)
  have h1 := pass_sign h35
  rw [wOver_in h h1.1, h1.2, wRun_in h hl, show a + (wRun wLine l (a + 1) + 1) = a + 1 + wRun wLine l (a + 1) by omega]
  unfold wOver wRun
  rw [skip_note, List.drop_drop]
  omega
theorem wRun_stop {p : UInt8 → Bool} {l : List UInt8} {a : Nat} {c : UInt8} (h : l[a + wRun p l a]? = some c) : p c = false := by
  unfold wRun at h
  have hd := drop_at h
  rw [← List.drop_drop] at hd
  exact takeWhile_next (p := p) (l.drop a) c _ hd

set_option maxRecDepth 100000 in
set_option maxHeartbeats 1600000 in
theorem between_any (s : ByteArray) (l : List UInt8) (a : Nat) (w : World) (hs : Tx s l) (hl : l.length ≤ 140737488355328) (ha : a ≤ l.length) :
    Calls Try.prog 22 #[.string s, .int .i64 (a : Int)] w fun e w' => e = .returned (.int .i64 ((a + wOver false l a : Nat) : Int)) ∧ w = w' := by
  obtain ⟨n, hn⟩ : ∃ n, l.length = n := ⟨_, rfl⟩
  have hsz : s.size = n := hs.size.trans hn
  obtain ⟨E, hE⟩ : ∃ E, E = a + wOver false l a := ⟨_, rfl⟩
  have HE := hid hE
  rw [← hE]
  clear hE
  have HL := hid hl
  have HA := hid ha
  rw [hn] at ha hl
  have HN := hid hn
  clear hn
  obtain ⟨b, hb⟩ : ∃ b, b = a + wRun wBlank l a := ⟨_, rfl⟩
  have hbn : b ≤ n := by have := wRun_le wBlank l a; have := HN.out; omega
  have HB := hid hb
  clear hb
  go_enter Try.func22, Try.ntmps22
  go_wp2_with (go_at_call 20; refine (past_any sort_blank s l a _ hs HL.out HA.out).mono ?_; rintro e w' ⟨rfl, rfl⟩; rw [← HB.out])
  go_loopw [1] (fun i wr => ∃ j : Nat, j ≤ n ∧ i = .int .i64 (j : Int) ∧ Hid (j + wOver false l j = E) ∧ Hid (∀ c, l[j]? = some c → wBlank c = false) ∧ w = wr) (fun i _ => (n - intOf i).toNat)
  case atStart =>
    refine ⟨b, hbn, rfl, hid ?_, hid ?_, rfl⟩
    · have := HE.out; rw [over_blank, ← HB.out] at this; have := HB.out; omega
    · intro c hc; rw [HB.out] at hc; exact wRun_stop hc
  case round =>
    obtain ⟨j, hj, rfl, HJ, HK, rfl⟩ := hrel
    by_cases hjn : j < n
    · obtain ⟨c, hc⟩ : ∃ c, l[j]? = some c := ⟨l[j]'(by have := HN.out; omega), List.getElem?_eq_getElem (by have := HN.out; omega)⟩
      have hcj := hs.at_ hc
      have hc256 := c.toNat_lt
      have HC := hid hc
      clear hc
      have hjni : (j : Int) < n := by omega
      by_cases h35 : c.toNat = 35
      · have e35 : ((c.toNat : Int) == 35) = true := by rw [h35]; rfl
        have H35 := hid h35
        clear h35
        obtain ⟨b1, hb1⟩ : ∃ b1, b1 = j + wRun wLine l j := ⟨_, rfl⟩
        have hb1n : b1 ≤ n := by have := wRun_le wLine l j; have := HN.out; omega
        have hb1j : j < b1 := by
          have := wRun_in HC.out (p := wLine) (decide_eq_true (by have := H35.out; omega))
          omega
        obtain ⟨b2, hb2⟩ : ∃ b2, b2 = b1 + wRun wBlank l b1 := ⟨_, rfl⟩
        have hb2n : b2 ≤ n := by have := wRun_le wBlank l b1; have := HN.out; omega
        have hb2j : j < b2 := by omega
        have HB1 := hid hb1
        have HB2 := hid hb2
        clear hb1 hb2
        go_wp2_with (first
          | (go_at_call_of 20 j; refine (past_any sort_line s l j _ hs HL.out (by have := HN.out; omega)).mono ?_; rintro e w' ⟨rfl, rfl⟩; rw [← HB1.out])
          | (go_at_call_of 20 b1; refine (past_any sort_blank s l b1 _ hs HL.out (by have := HN.out; omega)).mono ?_; rintro e w' ⟨rfl, rfl⟩; rw [← HB2.out]))
        refine ⟨⟨b2, hb2n, rfl, hid ?_, hid ?_, trivial⟩, ?_⟩
        · have := HJ.out
          rw [over_note HC.out H35.out, ← HB1.out, over_blank, ← HB2.out] at this
          have := HB1.out
          have := HB2.out
          omega
        · intro c hc; rw [HB2.out] at hc; exact wRun_stop hc
        · simp [intOf]; omega
      · have e35 : ((c.toNat : Int) == 35) = false := beq_no h35
        have hE0 : E = j := by have := HJ.out; rw [wOver_out HC.out (pass_no h35 (HK.out c HC.out))] at this; omega
        have HE0 := hid hE0
        clear hE0 h35
        go_wp2_with fail
        go_ret
        exact ⟨by rw [HE0.out]; rfl, rfl⟩
    · obtain rfl : j = n := by omega
      have hE0 : E = j := by have := HJ.out; rw [wOver_end (by have := HN.out; omega)] at this; omega
      have HE0 := hid hE0
      clear hE0
      go_wp2_with fail
      go_ret
      exact ⟨by rw [HE0.out]; rfl, rfl⟩

/-- What token answers: the kind, and the place behind. -/
def wTk (l : List UInt8) (a : Nat) (c : UInt8) : Nat × Nat := if wBegins c then (wKind c, a + wLen l a) else (3, a)
theorem wTk_in {l : List UInt8} {a : Nat} {c : UInt8} (h : wBegins c = true) : wTk l a c = (wKind c, a + wLen l a) := by unfold wTk; rw [if_pos h]
theorem wTk_no {l : List UInt8} {a : Nat} {c : UInt8} (h : wBegins c = false) : wTk l a c = (3, a) := by unfold wTk; rw [if_neg (by rw [h]; simp)]
set_option maxRecDepth 100000 in
set_option maxHeartbeats 1600000 in
theorem token_any (s : ByteArray) (l : List UInt8) (a : Nat) (c : UInt8) (w : World) (hs : Tx s l) (hl : l.length ≤ 140737488355328) (hc : l[a]? = some c) :
    Calls Try.prog 23 #[.string s, .int .i64 (a : Int)] w fun e w' => e = .returned (.tuple #[.int .i64 ((wTk l a c).1 : Int), .int .i64 ((wTk l a c).2 : Int)]) ∧ w = w' := by
  obtain ⟨n, hn⟩ : ∃ n, l.length = n := ⟨_, rfl⟩
  have hsz : s.size = n := hs.size.trans hn
  have HL := hid hl
  have hcj := hs.at_ hc
  have han : a < n := by have := (List.getElem?_eq_some_iff.1 hc).1; omega
  have HA := hid (show a ≤ l.length by omega)
  rw [hn] at hl
  have HC := hid hc
  clear hn hc
  have hani : (a : Int) < n := by omega
  cases h1 : wLow c with
  | true =>
    have hin : wIn c = true := by unfold wIn; rw [h1]; rfl
    have HB := hid (wTk_in (l := l) (a := a) (c := c) (by unfold wBegins; rw [h1]; rfl))
    have HK := hid (show wKind c = 0 by unfold wKind; rw [h1]; rfl)
    have HW := hid (show a + wRun wIn l a = a + wLen l a by rw [wLen_name HC.out h1, wRun_in HC.out hin]; omega)
    have H1 := hid h1
    clear h1 hin
    go_enter Try.func23, Try.ntmps23
    go_wp2_with (first
      | (go_at_call 15; refine (letter_any c _).mono ?_; rintro e w' ⟨rfl, rfl⟩; rw [H1.out])
      | (go_at_call 20; refine (past_any sort_in s l a _ hs HL.out HA.out).mono ?_; rintro e w' ⟨rfl, rfl⟩; rw [HW.out]))
    go_ret2
    exact ⟨by rw [HB.out, HK.out]; rfl, rfl⟩
  | false =>
    have H1 := hid h1
    cases h2 : wNum c with
    | true =>
      have HB := hid (wTk_in (l := l) (a := a) (c := c) (by unfold wBegins; rw [h1, h2]; rfl))
      have HK := hid (show wKind c = 1 by unfold wKind; rw [h1, h2]; rfl)
      have HW := hid (show a + wRun wNum l a = a + wLen l a by rw [wLen_num HC.out h1 h2, wRun_in HC.out h2]; omega)
      have H2 := hid h2
      clear h1 h2
      go_enter Try.func23, Try.ntmps23
      go_wp2_with (first
        | (go_at_call 15; refine (letter_any c _).mono ?_; rintro e w' ⟨rfl, rfl⟩; rw [H1.out])
        | (go_at_call 13; refine (digit_any c _).mono ?_; rintro e w' ⟨rfl, rfl⟩; rw [H2.out])
        | (go_at_call 20; refine (past_any sort_digit s l a _ hs HL.out HA.out).mono ?_; rintro e w' ⟨rfl, rfl⟩; rw [HW.out]))
      go_ret2
      exact ⟨by rw [HB.out, HK.out]; rfl, rfl⟩
    | false =>
      have H2 := hid h2
      cases h3 : wSign c with
      | true =>
        have HB := hid (wTk_in (l := l) (a := a) (c := c) (by unfold wBegins; rw [h1, h2, h3]; rfl))
        have HK := hid (show wKind c = 2 by unfold wKind; rw [h1, h2]; rfl)
        have HW := hid (show a + wLen l a = a + 1 by rw [wLen_sign HC.out h1 h2])
        have H3 := hid h3
        clear h1 h2 h3
        go_enter Try.func23, Try.ntmps23
        go_wp2_with (first
          | (go_at_call 15; refine (letter_any c _).mono ?_; rintro e w' ⟨rfl, rfl⟩; rw [H1.out])
          | (go_at_call 13; refine (digit_any c _).mono ?_; rintro e w' ⟨rfl, rfl⟩; rw [H2.out])
          | (go_at_call 27; refine (sign_any c _).mono ?_; rintro e w' ⟨rfl, rfl⟩; rw [H3.out]))
        go_ret2
        exact ⟨by rw [HB.out, HK.out, HW.out]; rfl, rfl⟩
      | false =>
        have HB := hid (wTk_no (l := l) (a := a) (c := c) (by unfold wBegins; rw [h1, h2, h3]; rfl))
        have H3 := hid h3
        clear h1 h2 h3
        go_enter Try.func23, Try.ntmps23
        go_wp2_with (first
          | (go_at_call 15; refine (letter_any c _).mono ?_; rintro e w' ⟨rfl, rfl⟩; rw [H1.out])
          | (go_at_call 13; refine (digit_any c _).mono ?_; rintro e w' ⟨rfl, rfl⟩; rw [H2.out])
          | (go_at_call 27; refine (sign_any c _).mono ?_; rintro e w' ⟨rfl, rfl⟩; rw [H3.out]))
        go_ret2
        exact ⟨by rw [HB.out]; rfl, rfl⟩
end Go.Proofs.Ytkljkiambjlnaaa
