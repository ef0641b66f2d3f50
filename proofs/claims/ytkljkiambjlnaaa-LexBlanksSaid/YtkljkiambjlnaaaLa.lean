/-
  Layer 6: what the document's own Name and Number do.
-/
import Derived.Test.YtkljkiambjlnaaaLaw
import Derived.Test.YtkljkiambjlnaaaLexN
import Derived.Lib.Strings
namespace Go.Proofs.Ytkljkiambjlnaaa
open Go.RowKit

set_option maxHeartbeats 400000 in
theorem rlow_any (c : UInt8) (w : World) : Calls Try.prog 17 #[.int .u8 (c.toNat : Int)] w fun e w' => e = .returned (.bool (wLow c)) ∧ w = w' := by
  rcases wLow_cases c with ⟨h1, h⟩ | ⟨h1, h2, h⟩ | ⟨h0, h1, h⟩
  all_goals
    have H := hid h
    clear h
    go_enter Try.func17, Try.ntmps17
    go_wp2
    all_goals go_ret
    all_goals exact ⟨by rw [H.out]; first | rfl | (refine congrArg (fun b => Ending.returned (.bool b)) ?_; exact decide_eq_false (by omega)), rfl⟩
set_option maxHeartbeats 400000 in
theorem rnum_any (c : UInt8) (w : World) : Calls Try.prog 14 #[.int .u8 (c.toNat : Int)] w fun e w' => e = .returned (.bool (wNum c)) ∧ w = w' := by
  rcases wNum_cases c with ⟨h1, h⟩ | ⟨h1, h2, h⟩ | ⟨h0, h1, h⟩
  all_goals
    have H := hid h
    clear h
    go_enter Try.func14, Try.ntmps14
    go_wp2
    all_goals go_ret
    all_goals exact ⟨by rw [H.out]; first | rfl | (refine congrArg (fun b => Ending.returned (.bool b)) ?_; exact decide_eq_false (by omega)), rfl⟩
set_option maxRecDepth 100000 in
set_option maxHeartbeats 800000 in
theorem rname_any (s : ByteArray) (l : List UInt8) (w : World) (hs : Tx s l) : Calls Try.prog 9 #[.string s] w fun e w' => e = .returned (.bool (wName l)) ∧ w = w' := by
  obtain ⟨n, hn⟩ : ∃ n, l.length = n := ⟨_, rfl⟩
  have hsz : s.size = n := hs.size.trans hn
  have hli := hs.list
  cases l with
  | nil =>
    have h0 : s.toList.isEmpty = true := by rw [hli]; rfl
    have h1 : s.toList = [] := hli
    clear hli
    go_enter Try.func9, Try.ntmps9
    go_wp2_with fail
    go_ret
    exact ⟨rfl, rfl⟩
  | cons c r =>
    have h0 : s.toList.isEmpty = false := by rw [hli]; rfl
    have h1 : ¬ s.toList = [] := by rw [hli]; simp
    have hc0 := hs.at_ (i := 0) (c := c) rfl
    have hnp : 0 < n := by rw [← hn]; simp
    obtain ⟨l, hl⟩ : ∃ l, l = c :: r := ⟨_, rfl⟩
    have hl0 : l[0]? = some c := by rw [hl]; rfl
    rw [← hl] at hs hn hli
    rw [← hl]
    clear hl hli
    by_cases hlong : 40 < n
    · have H := hid (wName_long (l := l) (by omega))
      have hlong2 : (40 : Int) < n := by omega
      go_enter Try.func9, Try.ntmps9
      go_wp2_with fail
      go_ret
      exact ⟨by rw [H.out]; rfl, rfl⟩
    · have hlong2 : (n : Int) ≤ 40 := by omega
      cases hlow : wLow c with
      | false =>
        have H := hid (wName_first hl0 hlow)
        have HL := hid hlow
        clear hlow
        go_enter Try.func9, Try.ntmps9
        go_wp2_with (go_at_call 17; refine (rlow_any c _).mono ?_; rintro e w' ⟨rfl, rfl⟩; rw [HL.out])
        go_ret
        exact ⟨by rw [H.out]; rfl, rfl⟩
      | true =>
        have H := hid (wName_in hl0 hlow (by omega))
        have HL := hid hlow
        clear hlow
        go_enter Try.func9, Try.ntmps9
        go_wp2_with (go_at_call 17; refine (rlow_any c _).mono ?_; rintro e w' ⟨rfl, rfl⟩; rw [HL.out])
        go_loopw [3] (fun i wr => ∃ j : Nat, j ≤ n ∧ i = .int .i64 (j : Int) ∧ (l.take j).all wIn = true ∧ w = wr) (fun i _ => (n - intOf i).toNat)
        case atStart => exact ⟨0, by omega, rfl, by simp, rfl⟩
        case round =>
          obtain ⟨j, hj, rfl, hall, rfl⟩ := hrel
          by_cases hjn : j < n
          · obtain ⟨d, hd⟩ : ∃ d, l[j]? = some d := ⟨l[j]'(by omega), List.getElem?_eq_getElem (by omega)⟩
            have hcj := hs.at_ hd
            have hin := all_next (p := wIn) hd
            rw [hall, Bool.true_and] at hin
            have hno := all_not (p := wIn) hd
            have HI := hid hin
            have HNO := hid hno
            clear hin hno hall
            have hd256 := d.toNat_lt
            have hw : wIn d = (wLow d || wNum d || decide (d.toNat = 95)) := rfl
            cases h1 : wLow d with
            | true =>
              rw [h1, Bool.true_or, Bool.true_or] at hw
              have H1 := hid h1
              have HW := hid hw
              clear h1 hw
              go_wp2_with (go_at_call 17; refine (rlow_any d _).mono ?_; rintro e w' ⟨rfl, rfl⟩; rw [H1.out])
              refine ⟨⟨j + 1, by omega, by go_num, by rw [HI.out, HW.out], trivial⟩, ?_⟩
              simp [intOf]; omega
            | false =>
              cases h2 : wNum d with
              | true =>
                rw [h1, h2, Bool.false_or, Bool.true_or] at hw
                have H1 := hid h1
                have H2 := hid h2
                have HW := hid hw
                clear h1 h2 hw
                go_wp2_with (first | (go_at_call 17; refine (rlow_any d _).mono ?_; rintro e w' ⟨rfl, rfl⟩; rw [H1.out]) | (go_at_call 14; refine (rnum_any d _).mono ?_; rintro e w' ⟨rfl, rfl⟩; rw [H2.out]))
                refine ⟨⟨j + 1, by omega, by go_num, by rw [HI.out, HW.out], trivial⟩, ?_⟩
                simp [intOf]; omega
              | false =>
                rw [h1, h2, Bool.false_or, Bool.false_or] at hw
                have H1 := hid h1
                have H2 := hid h2
                have HW := hid hw
                clear h1 h2 hw
                by_cases h95 : d.toNat = 95
                · have e1 : ((d.toNat : Int) != 95) = false := by rw [h95]; rfl
                  have e2 : ((d.toNat : Int) == 95) = true := by rw [h95]; rfl
                  have HT : Hid (decide (d.toNat = 95) = true) := hid (decide_eq_true h95)
                  clear h95
                  go_wp2_with (first | (go_at_call 17; refine (rlow_any d _).mono ?_; rintro e w' ⟨rfl, rfl⟩; rw [H1.out]) | (go_at_call 14; refine (rnum_any d _).mono ?_; rintro e w' ⟨rfl, rfl⟩; rw [H2.out]))
                  refine ⟨⟨j + 1, by omega, by go_num, by rw [HI.out, HW.out, HT.out], trivial⟩, ?_⟩
                  simp [intOf]; omega
                · have e1 : ((d.toNat : Int) != 95) = true := by rw [bne_iff_ne]; omega
                  have e2 : ((d.toNat : Int) == 95) = false := by rw [beq_eq_false_iff_ne]; omega
                  have HF := hid (HNO.out (by rw [HW.out]; exact decide_eq_false h95))
                  clear h95
                  go_wp2_with (first | (go_at_call 17; refine (rlow_any d _).mono ?_; rintro e w' ⟨rfl, rfl⟩; rw [H1.out]) | (go_at_call 14; refine (rnum_any d _).mono ?_; rintro e w' ⟨rfl, rfl⟩; rw [H2.out]))
                  go_ret
                  exact ⟨by rw [H.out, HF.out]; rfl, rfl⟩
          · obtain rfl : j = n := by omega
            rw [List.take_of_length_le (by omega)] at hall
            have HA := hid hall
            clear hall
            go_wp2
            go_ret
            exact ⟨by rw [H.out, HA.out]; rfl, rfl⟩
/-- What Number answers. -/
def NmPost (l : List UInt8) (w : World) (e : Ending) (w' : World) : Prop := e = .returned (.tuple #[.int .i64 ((if wOk l then wNumAt l else 0 : Nat) : Int), .bool (wOk l)]) ∧ w = w'
theorem nm_no {l : List UInt8} {w : World} (h : wOk l = false) : NmPost l w (.returned (.tuple #[.int .i64 0, .bool false])) w := ⟨by rw [h]; rfl, rfl⟩
set_option maxRecDepth 100000 in
set_option maxHeartbeats 800000 in
theorem rnumber_any (s : ByteArray) (l : List UInt8) (w : World) (hs : Tx s l) (hb : s.size ≤ 140737488355328) : Calls Try.prog 7 #[.string s] w (NmPost l w) := by
  obtain ⟨n, hn⟩ : ∃ n, l.length = n := ⟨_, rfl⟩
  have hsz : s.size = n := hs.size.trans hn
  rw [hsz] at hb
  have HLI := hid hs.list
  go_enter Try.func7, Try.ntmps7
  go_wp2
  go_loopw [4, 5] (fun v i wr => ∃ j m : Nat, j ≤ n ∧ i = .int .i64 (j : Int) ∧ v = .int .i64 (m : Int) ∧ Hid (wNumAt (l.take j) = m) ∧ m ≤ 40969 ∧ Hid ((l.take j).all wNum = true) ∧ (j ≤ 1 ∨ l[0]? ≠ some 48) ∧ w = wr) (fun _ i _ => (n - intOf i).toNat)
  case atStart => exact ⟨0, 0, by omega, rfl, rfl, hid rfl, by omega, hid (by simp), .inl (by omega), rfl⟩
  case round =>
    obtain ⟨j, m, hj, rfl, rfl, HM, hm, HA, hh, rfl⟩ := hrel
    by_cases hjn : j < n
    · obtain ⟨d, hd⟩ : ∃ d, l[j]? = some d := ⟨l[j]'(by omega), List.getElem?_eq_getElem (by omega)⟩
      have hcj := hs.at_ hd
      have HD := hid hd
      clear hd
      rcases wNum_cases d with ⟨d1, h2⟩ | ⟨d1, d2, h2⟩ | ⟨d1, d2, h2⟩
      case inl =>
        have H2 := hid h2
        clear h2
        go_wp2_with (go_at_call 14; refine (rnum_any d _).mono ?_; rintro e w' ⟨rfl, rfl⟩; rw [H2.out])
        go_ret2
        exact nm_no (wOk_not HD.out H2.out)
      case inr.inr =>
        have H2 := hid h2
        clear h2
        go_wp2_with (go_at_call 14; refine (rnum_any d _).mono ?_; rintro e w' ⟨rfl, rfl⟩; rw [H2.out])
        go_ret2
        exact nm_no (wOk_not HD.out H2.out)
      case inr.inl =>
        have H2 := hid h2
        clear h2
        by_cases hm4 : 4096 < m
        · have hm4i : (4096 : Int) < m := by omega
          go_wp2_with (go_at_call 14; refine (rnum_any d _).mono ?_; rintro e w' ⟨rfl, rfl⟩; rw [H2.out])
          go_ret2
          exact nm_no (wOk_great (j := j) (by rw [HM.out]; exact hm4))
        · have hm4i : (m : Int) ≤ 4096 := by omega
          by_cases hz : j = 1 ∧ m = 0
          · obtain ⟨rfl, rfl⟩ := hz
            go_wp2_with (go_at_call 14; refine (rnum_any d _).mono ?_; rintro e w' ⟨rfl, rfl⟩; rw [H2.out])
            go_ret2
            refine nm_no (wOk_nought ?_ (by omega))
            obtain ⟨c, hc⟩ : ∃ c, l[0]? = some c := ⟨l[0]'(by omega), List.getElem?_eq_getElem (by omega)⟩
            have h1 := HM.out
            have h3 := HA.out
            rw [wNumAt_next hc] at h1
            rw [all_next hc, Bool.and_eq_true] at h3
            have h4 := h3.2
            unfold wNum at h4
            rw [decide_eq_true_iff] at h4
            simp only [List.take_zero, wNumAt, List.foldl_nil, Nat.zero_mul, Nat.zero_add] at h1
            rw [hc]
            congr 1
            apply UInt8.toNat_inj.1
            show c.toNat = 48
            omega
          · have hh2 : j + 1 ≤ 1 ∨ l[0]? ≠ some 48 := by
              rcases Nat.lt_or_ge j 1 with h | h
              · exact .inl (by omega)
              · rcases hh with hh | hh
                · obtain rfl : j = 1 := by omega
                  have hm0 : m ≠ 0 := fun e => hz ⟨rfl, e⟩
                  refine .inr fun e => hm0 ?_
                  have h1 := HM.out
                  rw [wNumAt_next e] at h1
                  rw [← h1]
                  rfl
                · exact .inr hh
            have hzb : ((j : Int) == 1) = false ∨ (((j : Int) == 1) = true ∧ ((m : Int) == 0) = false) := by
              by_cases h1 : j = 1
              · right
                refine ⟨by rw [h1]; rfl, ?_⟩
                rw [beq_eq_false_iff_ne]
                intro e
                exact hz ⟨h1, by omega⟩
              · left
                rw [beq_eq_false_iff_ne]
                omega
            clear hz hh
            have HH := hid hh2
            clear hh2
            rcases hzb with hz1 | ⟨hz1, hz2⟩
            all_goals
              go_wp2_with (go_at_call 14; refine (rnum_any d _).mono ?_; rintro e w' ⟨rfl, rfl⟩; rw [H2.out])
              refine ⟨⟨j + 1, m * 10 + (d.toNat - 48), by omega, by go_num, by go_num, hid (by rw [wNumAt_next HD.out, HM.out]), by omega, hid (by rw [all_next HD.out, HA.out, H2.out]; rfl), HH.out, trivial⟩, ?_⟩
              simp [intOf]; omega
    · obtain rfl : j = n := by omega
      have hfull : l.take j = l := List.take_of_length_le (by omega)
      by_cases hj0 : j = 0
      · have hl0 : l = [] := List.eq_nil_of_length_eq_zero (by omega)
        have e0 : s.toList.isEmpty = true := by rw [HLI.out, hl0]; rfl
        have e1 : s.toList = [] := by rw [HLI.out, hl0]
        have HO := hid (show wOk l = false by rw [hl0]; rfl)
        clear hl0 hfull hj0
        go_wp2
        go_ret2
        exact nm_no HO.out
      · have hl0 : l ≠ [] := fun e => hj0 (by rw [← hn, e]; rfl)
        have e0 : s.toList.isEmpty = false := by
          rw [HLI.out]
          cases l with
          | nil => exact absurd rfl hl0
          | cons c r => rfl
        have e1 : ¬ s.toList = [] := by rw [HLI.out]; exact hl0
        by_cases hm4 : 4096 < m
        · have hm4i : (4096 : Int) < m := by omega
          have HO := hid (wOk_great (l := l) (j := j) (by rw [HM.out]; exact hm4))
          clear hl0 hfull
          go_wp2
          go_ret2
          exact nm_no HO.out
        · have hm4i : (m : Int) ≤ 4096 := by omega
          have h1 := HM.out
          have h2 := HA.out
          rw [hfull] at h1 h2
          have HO := hid (wOk_yes hl0 h2 (hh.imp (fun h => by omega) id) (by omega))
          have H1 := hid h1
          clear hl0 hfull h1 h2 hh
          go_wp2
          go_ret2
          exact ⟨by rw [HO.out, H1.out]; rfl, rfl⟩
end Go.Proofs.Ytkljkiambjlnaaa
