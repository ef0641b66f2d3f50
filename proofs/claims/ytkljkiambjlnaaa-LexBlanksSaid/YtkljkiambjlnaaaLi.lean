/-
  Layer 6: the code's whole, Name, Number.
-/
import Derived.Test.YtkljkiambjlnaaaLg
namespace Go.Proofs.Ytkljkiambjlnaaa
open Go.RowKit

/-- One byte of the sort p, and else such of the sort q alone. -/
def wWhole (p q : UInt8 → Bool) (l : List UInt8) : Bool := match l with
  | [] => false
  | c :: r => p c && r.all q
theorem tw_all {q : UInt8 → Bool} : ∀ r : List UInt8, r.all q = true → r.takeWhile q = r
  | [], _ => rfl
  | c :: r, h => by
    rw [List.all_cons, Bool.and_eq_true] at h
    rw [List.takeWhile_cons, h.1, if_pos rfl, tw_all r h.2]
theorem run_all {q : UInt8 → Bool} (c : UInt8) (r : List UInt8) : 1 + wRun q (c :: r) 1 = (c :: r).length ↔ r.all q = true := by
  unfold wRun
  rw [List.drop_succ_cons, List.drop_zero, List.length_cons]
  constructor
  · intro h
    have hl : (r.takeWhile q).length = r.length := by omega
    have := List.takeWhile_prefix q (l := r)
    have he := this.eq_of_length hl
    rw [← he]
    exact List.all_takeWhile
  · intro h
    rw [tw_all r h]
    omega
/-- A first sort, as a function that is handed on. -/
def Fst_ (k : Nat) (p : UInt8 → Bool) : Prop := (k = 15 ∨ k = 13) ∧
  ∀ (c : UInt8) (w : World), Calls Try.prog k #[.int .u8 (c.toNat : Int)] w fun e w' => e = .returned (.bool (p c)) ∧ w = w'

set_option maxRecDepth 100000 in
set_option maxHeartbeats 1600000 in
theorem whole_any {k m : Nat} {p q : UInt8 → Bool} (hk : Fst_ k p) (hm : Srt m q) (s : ByteArray) (l : List UInt8) (w : World) (hs : Tx s l) (hl : l.length ≤ 140737488355328) :
    Calls Try.prog 12 #[.string s, .func (.func k) #[] #[], .func (.func m) #[] #[]] w fun e w' => e = .returned (.bool (wWhole p q l)) ∧ w = w' := by
  have hli := hs.list
  cases l with
  | nil =>
    have h1 : s.toList = [] := hli
    obtain rfl : s = ⟨#[]⟩ := hs
    clear hli h1
    go_enter Try.func12, Try.ntmps12
    go_wp2_with fail
    go_ret
    exact ⟨rfl, rfl⟩
  | cons c r =>
    obtain ⟨l, hl2⟩ : ∃ l, l = c :: r := ⟨_, rfl⟩
    have e0 : s.toList.isEmpty = false := by rw [hli]; rfl
    have e1 : ¬ s.toList = [] := by rw [hli]; simp
    have hc0 := hs.at_ (i := 0) (c := c) rfl
    have hR := run_all (q := q) c r
    have hW : wWhole p q (c :: r) = (p c && r.all q) := rfl
    rw [← hl2] at hs hl hR hW
    rw [← hl2]
    obtain ⟨n, hn⟩ : ∃ n, l.length = n := ⟨_, rfl⟩
    have hsz : s.size = n := hs.size.trans hn
    have hn1 : 1 ≤ n := by rw [← hn, hl2]; simp
    have HL := hid hl
    have H1 := hid (show 1 ≤ l.length by omega)
    rw [hn] at hl
    obtain ⟨v, hv⟩ : ∃ v, v = 1 + wRun q l 1 := ⟨_, rfl⟩
    rw [← hv, hn] at hR
    have HV := hid hv
    have HR := hid hR
    have HW := hid hW
    clear hv hR hW hli hl2 hn
    obtain ⟨hk, hp⟩ := hk
    cases hpc : p c with
    | false =>
      have HP := hid hpc
      clear hpc
      rcases hk with rfl | rfl
      all_goals
        go_enter Try.func12, Try.ntmps12
        go_wp2_with (first
          | (go_at_call 15; refine (hp c _).mono ?_; rintro e w' ⟨rfl, rfl⟩; rw [HP.out])
          | (go_at_call 13; refine (hp c _).mono ?_; rintro e w' ⟨rfl, rfl⟩; rw [HP.out]))
        go_ret
        exact ⟨by rw [HW.out, HP.out]; rfl, rfl⟩
    | true =>
      have HP := hid hpc
      clear hpc
      have hvn : ((v : Int) == (n : Int)) = r.all q := by
        cases ha : r.all q with
        | true => rw [HR.out.2 ha]; simp
        | false =>
          refine beq_no fun e => ?_
          rw [HR.out.1 e] at ha
          cases ha
      have HVN := hid hvn
      clear hvn
      rcases hk with rfl | rfl
      all_goals
        go_enter Try.func12, Try.ntmps12
        go_wp2_with (first
          | (go_at_call 15; refine (hp c _).mono ?_; rintro e w' ⟨rfl, rfl⟩; rw [HP.out])
          | (go_at_call 13; refine (hp c _).mono ?_; rintro e w' ⟨rfl, rfl⟩; rw [HP.out])
          | (go_at_call 20; refine (past_any hm s l 1 _ hs HL.out H1.out).mono ?_; rintro e w' ⟨rfl, rfl⟩; rw [← HV.out]))
        go_ret
        exact ⟨by rw [HW.out, HP.out, ← HVN.out]; rfl, rfl⟩

theorem fst_letter : Fst_ 15 wLow := ⟨.inl rfl, letter_any⟩
theorem fst_digit : Fst_ 13 wNum := ⟨.inr rfl, digit_any⟩

set_option maxRecDepth 100000 in
set_option maxHeartbeats 1600000 in
theorem name_any (s : ByteArray) (l : List UInt8) (w : World) (hs : Tx s l) (hl : l.length ≤ 140737488355328) :
    Calls Try.prog 8 #[.string s] w fun e w' => e = .returned (.bool (wName l)) ∧ Turn w w' none := by
  obtain ⟨n, hn⟩ : ∃ n, l.length = n := ⟨_, rfl⟩
  have hsz : s.size = n := hs.size.trans hn
  have HL := hid hl
  by_cases h40 : n ≤ 40
  · have h : wWhole wLow wIn l = wName l := by
      cases l with
      | nil => rfl
      | cons c r =>
        rw [List.length_cons] at hn
        have : decide (r.length ≤ 39) = true := decide_eq_true (by omega)
        simp [wWhole, wName, this]
    have h40i : (n : Int) ≤ 40 := by omega
    have H := hid h
    clear h hn
    go_enter Try.func8, Try.ntmps8
    go_wp2_with (go_at_call 12; refine (whole_any fst_letter sort_in s l _ hs HL.out).mono ?_; rintro e w' ⟨rfl, rfl⟩; rw [H.out])
    go_ret
    exact ⟨rfl, Turn.refl _ _⟩
  · have h40i : (40 : Int) < n := by omega
    have H := hid (wName_long (l := l) (by omega))
    clear hn
    go_enter Try.func8, Try.ntmps8
    go_wp2_with fail
    go_ret
    exact ⟨by rw [H.out]; rfl, Turn.refl _ _⟩

set_option maxRecDepth 100000 in
set_option maxHeartbeats 1600000 in
theorem number_any (s : ByteArray) (l : List UInt8) (w : World) (hs : Tx s l) (hl : l.length ≤ 140737488355328) :
    Calls Try.prog 6 #[.string s] w (NmPost l w) := by
  obtain ⟨n, hn⟩ : ∃ n, l.length = n := ⟨_, rfl⟩
  have hsz : s.size = n := hs.size.trans hn
  have HL := hid hl
  rw [hn] at hl
  have HN := hid hn
  have hW : wWhole wNum wNum l = (!l.isEmpty && l.all wNum) := by
    cases l with
    | nil => rfl
    | cons c r => simp [wWhole]
  clear hn
  cases hb : wWhole wNum wNum l with
  | false =>
    have HB := hid hb
    have HO := hid (show wOk l = false by unfold wOk; rw [← hW, hb]; rfl)
    clear hb hW
    go_enter Try.func6, Try.ntmps6
    go_wp2_with (go_at_call 12; refine (whole_any fst_digit sort_digit s l _ hs HL.out).mono ?_; rintro e w' ⟨rfl, rfl⟩; rw [HB.out])
    go_ret2
    exact nm_no HO.out
  | true =>
    rw [hb] at hW
    have hall : l.all wNum = true := by
      cases h : l.all wNum with
      | true => rfl
      | false => rw [h] at hW; simp at hW
    have hne : l ≠ [] := by rintro rfl; simp at hW
    have HB := hid hb
    have HALL := hid hall
    have HNE := hid hne
    clear hb hW hall hne
    have hn0 : 1 ≤ n := by
      have h0 := HNE.out
      have h1 := HN.out
      cases l with
      | nil => exact absurd rfl h0
      | cons c r => rw [List.length_cons] at h1; omega
    obtain ⟨c, hc⟩ : ∃ c, l[0]? = some c := ⟨l[0]'(by have := HN.out; omega), List.getElem?_eq_getElem (by have := HN.out; omega)⟩
    have hcj := hs.at_ hc
    have HC := hid hc
    clear hc
    -- the loop, whatever the nought's test came to
    by_cases hz : 1 < n ∧ c.toNat = 48
    · obtain ⟨hz1, hz2⟩ := hz
      have hz1i : (1 : Int) < n := by omega
      have e48 : ((c.toNat : Int) == 48) = true := by rw [hz2]; rfl
      have HO := hid (wOk_nought (l := l) (by rw [HC.out]; congr 1; exact UInt8.toNat_inj.1 hz2) (by have := HN.out; omega))
      clear hz2
      go_enter Try.func6, Try.ntmps6
      go_wp2_with (go_at_call 12; refine (whole_any fst_digit sort_digit s l _ hs HL.out).mono ?_; rintro e w' ⟨rfl, rfl⟩; rw [HB.out])
      go_ret2
      exact nm_no HO.out
    · have hh : l.length ≤ 1 ∨ l[0]? ≠ some 48 := by
        rcases Nat.lt_or_ge 1 n with h | h
        · refine .inr fun e => hz ⟨h, ?_⟩
          rw [HC.out] at e
          injection e with e
          rw [e]
          rfl
        · exact .inl (by have := HN.out; omega)
      have hzb : (n : Int) ≤ 1 ∨ ((1 : Int) < n ∧ ((c.toNat : Int) == 48) = false) := by
        rcases Nat.lt_or_ge 1 n with h | h
        · exact .inr ⟨by omega, beq_no fun e => hz ⟨h, e⟩⟩
        · exact .inl (by omega)
      have HH := hid hh
      clear hh hz
      rcases hzb with hz1 | ⟨hz1, hz2⟩
      all_goals
        go_enter Try.func6, Try.ntmps6
        go_wp2_with (go_at_call 12; refine (whole_any fst_digit sort_digit s l _ hs HL.out).mono ?_; rintro e w' ⟨rfl, rfl⟩; rw [HB.out])
        go_loopw [4, 21] (fun v i wr => ∃ j m : Nat, j ≤ n ∧ i = .int .i64 (j : Int) ∧ v = .int .i64 (m : Int) ∧ Hid (wNumAt (l.take j) = m) ∧ m ≤ 4096 ∧ w = wr) (fun _ i _ => (n - intOf i).toNat)
        case atStart => exact ⟨0, 0, by omega, rfl, rfl, hid rfl, by omega, rfl⟩
        case round =>
          obtain ⟨j, m, hj, rfl, rfl, HM, hm, rfl⟩ := hrel
          by_cases hjn : j < n
          · obtain ⟨d, hd⟩ : ∃ d, l[j]? = some d := ⟨l[j]'(by have := HN.out; omega), List.getElem?_eq_getElem (by have := HN.out; omega)⟩
            have hdj := hs.at_ hd
            have hd2 : wNum d = true := by
              have := List.all_eq_true.1 HALL.out d (List.mem_of_getElem? hd)
              exact this
            unfold wNum at hd2
            rw [decide_eq_true_iff] at hd2
            have hd48 : (48 : Int) ≤ d.toNat := by omega
            have hd57 : (d.toNat : Int) ≤ 57 := by omega
            have HD := hid hd
            clear hd hd2
            have hjni : (j : Int) < n := by omega
            obtain ⟨m2, hm2⟩ : ∃ m2, m2 = m * 10 + (d.toNat - 48) := ⟨_, rfl⟩
            have hm2i : (m : Int) * 10 + ((d.toNat : Int) - 48) = m2 := by omega
            have HM2 := hid (show wNumAt (l.take (j + 1)) = m2 by rw [wNumAt_next HD.out, HM.out, hm2])
            by_cases h4 : 4096 < m2
            · have h4i : (4096 : Int) < m2 := by omega
              have HO := hid (wOk_great (l := l) (j := j + 1) (by rw [HM2.out]; exact h4))
              clear hm2
              go_wp2_with fail
              go_ret2
              exact nm_no HO.out
            · have h4i : (m2 : Int) ≤ 4096 := by omega
              clear hm2
              go_wp2_with fail
              refine ⟨⟨j + 1, m2, by omega, by go_num, by go_num, HM2, by omega, trivial⟩, ?_⟩
              simp [intOf]; omega
          · obtain rfl : j = n := by omega
            have HO := hid (wOk_yes (l := l) HNE.out HALL.out HH.out (by have := HM.out; rw [List.take_of_length_le (by have := HN.out; omega)] at this; omega))
            have HV := hid (show wNumAt l = m by have := HM.out; rwa [List.take_of_length_le (by have := HN.out; omega)] at this)
            go_wp2_with fail
            go_ret2
            exact ⟨by rw [HO.out, HV.out]; rfl, rfl⟩
end Go.Proofs.Ytkljkiambjlnaaa
