import Derived.Test.YtjjdhdieihmnnaaGreatDoorG4
import Derived.Test.YtjjdhdieihmnnaaGreatDoorG2
import Derived.Test.YtjjdhdieihmnnaaGreatDoorG5
import Derived.OwnWalk
import Derived.Test.YtjjdhdieihmnnaaGreatDoorG3
import Derived.Test.YtjjdhdieihmnnaaGreatDoorG12
import Derived.BigFrame
set_option linter.unusedSimpArgs false
set_option linter.unusedVariables false
set_option linter.unusedSectionVars false
/-
  Layer 6: what the document's own Name and Number do.
-/
namespace Go.Proofs.YtjjdhdieihmnnaaGreatDoor
open Go.RowKit

set_option maxHeartbeats 400000 in
theorem rlow_any (c : UInt8) (w : World) : Calls Tryz.prog 44 #[.int .u8 (c.toNat : Int)] w fun e w' => e = .returned (.bool (wLow c)) ∧ w = w' := by
  rcases wLow_cases c with ⟨h1, h⟩ | ⟨h1, h2, h⟩ | ⟨h0, h1, h⟩
  all_goals
    have H := hid h
    clear h
    go_enter Tryz.func44, Tryz.ntmps44
    go_wp2
    all_goals go_ret
    all_goals exact ⟨by rw [H.out]; first | rfl | (refine congrArg (fun b => Ending.returned (.bool b)) ?_; exact decide_eq_false (by omega)), rfl⟩
set_option maxHeartbeats 400000 in
theorem rnum_any (c : UInt8) (w : World) : Calls Tryz.prog 45 #[.int .u8 (c.toNat : Int)] w fun e w' => e = .returned (.bool (wNum c)) ∧ w = w' := by
  rcases wNum_cases c with ⟨h1, h⟩ | ⟨h1, h2, h⟩ | ⟨h0, h1, h⟩
  all_goals
    have H := hid h
    clear h
    go_enter Tryz.func45, Tryz.ntmps45
    go_wp2
    all_goals go_ret
    all_goals exact ⟨by rw [H.out]; first | rfl | (refine congrArg (fun b => Ending.returned (.bool b)) ?_; exact decide_eq_false (by omega)), rfl⟩
set_option maxRecDepth 100000 in
set_option maxHeartbeats 800000 in
theorem rname_any (s : ByteArray) (l : List UInt8) (w : World) (hs : Tx s l) : Calls Tryz.prog 91 #[.string s] w fun e w' => e = .returned (.bool (wName l)) ∧ w = w' := by
  obtain ⟨n, hn⟩ : ∃ n, l.length = n := ⟨_, rfl⟩
  have hsz : s.size = n := hs.size.trans hn
  have hli := hs.list
  cases l with
  | nil =>
    have h0 : s.toList.isEmpty = true := by rw [hli]; rfl
    have h1 : s.toList = [] := hli
    clear hli
    go_enter Tryz.func91, Tryz.ntmps91
    go_wp2_with fail
    go_ret
    exact ⟨rfl, rfl⟩
  | cons c r =>
    have h0 : s.toList.isEmpty = false := by rw [hli]; rfl
    have h1 : ¬ s.toList = [] := by rw [hli]; simp
    have hc0 := hs.at_ (i := 0) (c := c) rfl
    have hnp : 0 < n := by rw [← hn]; simp
    obtain ⟨l, hl⟩ : ∃ l, l = c :: r := ⟨_, rfl⟩
    have hl0 : l[0]? = some c := by rw [hl]; rfl
    rw [← hl] at hs hn hli
    rw [← hl]
    clear hl hli
    by_cases hlong : 40 < n
    · have H := hid (wName_long (l := l) (by omega))
      have hlong2 : (40 : Int) < n := by omega
      go_enter Tryz.func91, Tryz.ntmps91
      go_wp2_with fail
      go_ret
      exact ⟨by rw [H.out]; rfl, rfl⟩
    · have hlong2 : (n : Int) ≤ 40 := by omega
      cases hlow : wLow c with
      | false =>
        have H := hid (wName_first hl0 hlow)
        have HL := hid hlow
        clear hlow
        go_enter Tryz.func91, Tryz.ntmps91
        go_wp2_with (go_at_call 44; refine (rlow_any c _).mono ?_; rintro e w' ⟨rfl, rfl⟩; rw [HL.out])
        go_ret
        exact ⟨by rw [H.out]; rfl, rfl⟩
      | true =>
        have H := hid (wName_in hl0 hlow (by omega))
        have HL := hid hlow
        clear hlow
        go_enter Tryz.func91, Tryz.ntmps91
        go_wp2_with (go_at_call 44; refine (rlow_any c _).mono ?_; rintro e w' ⟨rfl, rfl⟩; rw [HL.out])
        go_loopw [3] (fun i wr => ∃ j : Nat, j ≤ n ∧ i = .int .i64 (j : Int) ∧ (l.take j).all wIn = true ∧ w = wr) (fun i _ => (n - intOf i).toNat)
        case atStart => exact ⟨0, by omega, rfl, by simp, rfl⟩
        case round =>
          obtain ⟨j, hj, rfl, hall, rfl⟩ := hrel
          by_cases hjn : j < n
          · obtain ⟨d, hd⟩ : ∃ d, l[j]? = some d := ⟨l[j]'(by omega), List.getElem?_eq_getElem (by omega)⟩
            have hcj := hs.at_ hd
            have hin := all_next (p := wIn) hd
            rw [hall, Bool.true_and] at hin
            have hno := all_not (p := wIn) hd
            have HI := hid hin
            have HNO := hid hno
            clear hin hno hall
            have hd256 := d.toNat_lt
            have hw : wIn d = (wLow d || wNum d || decide (d.toNat = 95)) := rfl
            cases h1 : wLow d with
            | true =>
              rw [h1, Bool.true_or, Bool.true_or] at hw
              have H1 := hid h1
              have HW := hid hw
              clear h1 hw
              go_wp2_with (go_at_call 44; refine (rlow_any d _).mono ?_; rintro e w' ⟨rfl, rfl⟩; rw [H1.out])
              refine ⟨⟨j + 1, by omega, by go_num, by rw [HI.out, HW.out], trivial⟩, ?_⟩
              simp [intOf]; omega
            | false =>
              cases h2 : wNum d with
              | true =>
                rw [h1, h2, Bool.false_or, Bool.true_or] at hw
                have H1 := hid h1
                have H2 := hid h2
                have HW := hid hw
                clear h1 h2 hw
                go_wp2_with (first | (go_at_call 44; refine (rlow_any d _).mono ?_; rintro e w' ⟨rfl, rfl⟩; rw [H1.out]) | (go_at_call 45; refine (rnum_any d _).mono ?_; rintro e w' ⟨rfl, rfl⟩; rw [H2.out]))
                refine ⟨⟨j + 1, by omega, by go_num, by rw [HI.out, HW.out], trivial⟩, ?_⟩
                simp [intOf]; omega
              | false =>
                rw [h1, h2, Bool.false_or, Bool.false_or] at hw
                have H1 := hid h1
                have H2 := hid h2
                have HW := hid hw
                clear h1 h2 hw
                by_cases h95 : d.toNat = 95
                · have e1 : ((d.toNat : Int) != 95) = false := by rw [h95]; rfl
                  have e2 : ((d.toNat : Int) == 95) = true := by rw [h95]; rfl
                  have HT : Hid (decide (d.toNat = 95) = true) := hid (decide_eq_true h95)
                  clear h95
                  go_wp2_with (first | (go_at_call 44; refine (rlow_any d _).mono ?_; rintro e w' ⟨rfl, rfl⟩; rw [H1.out]) | (go_at_call 45; refine (rnum_any d _).mono ?_; rintro e w' ⟨rfl, rfl⟩; rw [H2.out]))
                  refine ⟨⟨j + 1, by omega, by go_num, by rw [HI.out, HW.out, HT.out], trivial⟩, ?_⟩
                  simp [intOf]; omega
                · have e1 : ((d.toNat : Int) != 95) = true := by rw [bne_iff_ne]; omega
                  have e2 : ((d.toNat : Int) == 95) = false := by rw [beq_eq_false_iff_ne]; omega
                  have HF := hid (HNO.out (by rw [HW.out]; exact decide_eq_false h95))
                  clear h95
                  go_wp2_with (first | (go_at_call 44; refine (rlow_any d _).mono ?_; rintro e w' ⟨rfl, rfl⟩; rw [H1.out]) | (go_at_call 45; refine (rnum_any d _).mono ?_; rintro e w' ⟨rfl, rfl⟩; rw [H2.out]))
                  go_ret
                  exact ⟨by rw [H.out, HF.out]; rfl, rfl⟩
          · obtain rfl : j = n := by omega
            rw [List.take_of_length_le (by omega)] at hall
            have HA := hid hall
            clear hall
            go_wp2
            go_ret
            exact ⟨by rw [H.out, HA.out]; rfl, rfl⟩
set_option maxRecDepth 100000 in
set_option maxHeartbeats 800000 in
theorem rnumber_any (s : ByteArray) (l : List UInt8) (w : World) (hs : Tx s l) (hb : s.size ≤ 140737488355328) : Calls Tryz.prog 94 #[.string s] w (NmPost l w) := by
  obtain ⟨n, hn⟩ : ∃ n, l.length = n := ⟨_, rfl⟩
  have hsz : s.size = n := hs.size.trans hn
  rw [hsz] at hb
  have HLI := hid hs.list
  go_enter Tryz.func94, Tryz.ntmps94
  go_wp2
  go_loopw [4, 5] (fun v i wr => ∃ j m : Nat, j ≤ n ∧ i = .int .i64 (j : Int) ∧ v = .int .i64 (m : Int) ∧ Hid (wNumAt (l.take j) = m) ∧ m ≤ 40969 ∧ Hid ((l.take j).all wNum = true) ∧ (j ≤ 1 ∨ l[0]? ≠ some 48) ∧ w = wr) (fun _ i _ => (n - intOf i).toNat)
  case atStart => exact ⟨0, 0, by omega, rfl, rfl, hid rfl, by omega, hid (by simp), .inl (by omega), rfl⟩
  case round =>
    obtain ⟨j, m, hj, rfl, rfl, HM, hm, HA, hh, rfl⟩ := hrel
    by_cases hjn : j < n
    · obtain ⟨d, hd⟩ : ∃ d, l[j]? = some d := ⟨l[j]'(by omega), List.getElem?_eq_getElem (by omega)⟩
      have hcj := hs.at_ hd
      have HD := hid hd
      clear hd
      rcases wNum_cases d with ⟨d1, h2⟩ | ⟨d1, d2, h2⟩ | ⟨d1, d2, h2⟩
      case inl =>
        have H2 := hid h2
        clear h2
        go_wp2_with (go_at_call 45; refine (rnum_any d _).mono ?_; rintro e w' ⟨rfl, rfl⟩; rw [H2.out])
        go_ret2
        exact nm_no (wOk_not HD.out H2.out)
      case inr.inr =>
        have H2 := hid h2
        clear h2
        go_wp2_with (go_at_call 45; refine (rnum_any d _).mono ?_; rintro e w' ⟨rfl, rfl⟩; rw [H2.out])
        go_ret2
        exact nm_no (wOk_not HD.out H2.out)
      case inr.inl =>
        have H2 := hid h2
        clear h2
        by_cases hm4 : 4096 < m
        · have hm4i : (4096 : Int) < m := by omega
          go_wp2_with (go_at_call 45; refine (rnum_any d _).mono ?_; rintro e w' ⟨rfl, rfl⟩; rw [H2.out])
          go_ret2
          exact nm_no (wOk_great (j := j) (by rw [HM.out]; exact hm4))
        · have hm4i : (m : Int) ≤ 4096 := by omega
          by_cases hz : j = 1 ∧ m = 0
          · obtain ⟨rfl, rfl⟩ := hz
            go_wp2_with (go_at_call 45; refine (rnum_any d _).mono ?_; rintro e w' ⟨rfl, rfl⟩; rw [H2.out])
            go_ret2
            refine nm_no (wOk_nought ?_ (by omega))
            obtain ⟨c, hc⟩ : ∃ c, l[0]? = some c := ⟨l[0]'(by omega), List.getElem?_eq_getElem (by omega)⟩
            have h1 := HM.out
            have h3 := HA.out
            rw [wNumAt_next hc] at h1
            rw [all_next hc, Bool.and_eq_true] at h3
            have h4 := h3.2
            unfold wNum at h4
            rw [decide_eq_true_iff] at h4
            simp only [List.take_zero, wNumAt, List.foldl_nil, Nat.zero_mul, Nat.zero_add] at h1
            rw [hc]
            congr 1
            apply UInt8.toNat_inj.1
            show c.toNat = 48
            omega
          · have hh2 : j + 1 ≤ 1 ∨ l[0]? ≠ some 48 := by
              rcases Nat.lt_or_ge j 1 with h | h
              · exact .inl (by omega)
              · rcases hh with hh | hh
                · obtain rfl : j = 1 := by omega
                  have hm0 : m ≠ 0 := fun e => hz ⟨rfl, e⟩
                  refine .inr fun e => hm0 ?_
                  have h1 := HM.out
                  rw [wNumAt_next e] at h1
                  rw [← h1]
                  rfl
                · exact .inr hh
            have hzb : ((j : Int) == 1) = false ∨ (((j : Int) == 1) = true ∧ ((m : Int) == 0) = false) := by
              by_cases h1 : j = 1
              · right
                refine ⟨by rw [h1]; rfl, ?_⟩
                rw [beq_eq_false_iff_ne]
                intro e
                exact hz ⟨h1, by omega⟩
              · left
                rw [beq_eq_false_iff_ne]
                omega
            clear hz hh
            have HH := hid hh2
            clear hh2
            rcases hzb with hz1 | ⟨hz1, hz2⟩
            all_goals
              go_wp2_with (go_at_call 45; refine (rnum_any d _).mono ?_; rintro e w' ⟨rfl, rfl⟩; rw [H2.out])
              refine ⟨⟨j + 1, m * 10 + (d.toNat - 48), by omega, by go_num, by go_num, hid (by rw [wNumAt_next HD.out, HM.out]), by omega, hid (by rw [all_next HD.out, HA.out, H2.out]; rfl), HH.out, trivial⟩, ?_⟩
              simp [intOf]; omega
    · obtain rfl : j = n := by omega
      have hfull : l.take j = l := List.take_of_length_le (by omega)
      by_cases hj0 : j = 0
      · have hl0 : l = [] := List.eq_nil_of_length_eq_zero (by omega)
        have e0 : s.toList.isEmpty = true := by rw [HLI.out, hl0]; rfl
        have e1 : s.toList = [] := by rw [HLI.out, hl0]
        have HO := hid (show wOk l = false by rw [hl0]; rfl)
        clear hl0 hfull hj0
        go_wp2
        go_ret2
        exact nm_no HO.out
      · have hl0 : l ≠ [] := fun e => hj0 (by rw [← hn, e]; rfl)
        have e0 : s.toList.isEmpty = false := by
          rw [HLI.out]
          cases l with
          | nil => exact absurd rfl hl0
          | cons c r => rfl
        have e1 : ¬ s.toList = [] := by rw [HLI.out]; exact hl0
        by_cases hm4 : 4096 < m
        · have hm4i : (4096 : Int) < m := by omega
          have HO := hid (wOk_great (l := l) (j := j) (by rw [HM.out]; exact hm4))
          clear hl0 hfull
          go_wp2
          go_ret2
          exact nm_no HO.out
        · have hm4i : (m : Int) ≤ 4096 := by omega
          have h1 := HM.out
          have h2 := HA.out
          rw [hfull] at h1 h2
          have HO := hid (wOk_yes hl0 h2 (hh.imp (fun h => by omega) id) (by omega))
          have H1 := hid h1
          clear hl0 hfull h1 h2 hh
          go_wp2
          go_ret2
          exact ⟨by rw [HO.out, H1.out]; rfl, rfl⟩
end Go.Proofs.YtjjdhdieihmnnaaGreatDoor
/-
  Layer 6: what the document's own Words does.
-/
namespace Go.Proofs.YtjjdhdieihmnnaaGreatDoor
open Go.RowKit

theorem txt_sub (l : List UInt8) (a m : Nat) : (txt l).extract a (a + m) = txt ((l.drop a).take m) := by
  apply ByteArray.ext
  rw [ByteArray.data_extract]
  simp [txt]
theorem elT0 : El Tryz.prog 46 50 3 32 := El.mk_ Tryz.underlying46 (z := .agg #[.int .i64 0, .string .empty, .int .i64 0]) (by kernel_rfl) rfl (by decide)
def SL : List UInt8 := [40, 41, 91, 93, 123, 125, 60, 62, 124, 58, 59, 44, 63]
theorem sign_is (c : UInt8) : wSign c = SL.contains c := by
  have key : ∀ n : Nat, n < 256 → wSign (UInt8.ofNat n) = SL.contains (UInt8.ofNat n) := by decide +kernel
  have := key c.toNat c.toNat_lt
  simpa using this
set_option maxRecDepth 100000 in
set_option maxHeartbeats 800000 in
theorem rsign_any (c : UInt8) (w : World) : Calls Tryz.prog 46 #[.int .u8 (c.toNat : Int)] w fun e w' => e = .returned (.bool (wSign c)) ∧ w = w' := by
  rw [sign_is]
  have hs : Tx { data := #[40, 41, 91, 93, 123, 125, 60, 62, 124, 58, 59, 44, 63] } SL := rfl
  obtain ⟨S, hS⟩ : ∃ S : ByteArray, S = { data := #[40, 41, 91, 93, 123, 125, 60, 62, 124, 58, 59, 44, 63] } := ⟨_, rfl⟩
  have hsz : S.size = 13 := by rw [hS]; rfl
  have hs : Tx S SL := by rw [hS]; rfl
  go_enter Tryz.func46, Tryz.ntmps46
  rw [← hS]
  clear hS
  go_wp2
  go_loopw [4] (fun i wr => ∃ j : Nat, j ≤ 13 ∧ i = .int .i64 (j : Int) ∧ Hid (∀ m z, m < j → SL[m]? = some z → z ≠ c) ∧ wr = w) (fun i _ => (13 - intOf i).toNat)
  case atStart => exact ⟨0, by omega, rfl, hid (fun m x h => absurd h (Nat.not_lt_zero m)), rfl⟩
  case round =>
    obtain ⟨j, hj, rfl, HNO, rfl⟩ := hrel
    by_cases hjn : j < 13
    · obtain ⟨y, hy⟩ : ∃ y, SL[j]? = some y := ⟨SL[j]'(by have : SL.length = 13 := rfl; omega), List.getElem?_eq_getElem _⟩
      have hcj := hs.at_ hy
      have HY := hid hy
      clear hy
      by_cases hyc : y = c
      · have e1 : ((y.toNat : Int) == (c.toNat : Int)) = true := by rw [hyc]; exact beq_self_eq_true _
        have H := hid (show SL.contains c = true by rw [List.contains_iff_mem, ← hyc]; exact List.mem_of_getElem? HY.out)
        clear hyc
        go_wp2
        go_ret
        exact ⟨by rw [H.out]; rfl, rfl⟩
      · have e1 : ((y.toNat : Int) == (c.toNat : Int)) = false := by
          rw [beq_eq_false_iff_ne]
          intro q
          have : y.toNat = c.toNat := by omega
          exact hyc (UInt8.toNat_inj.1 this)
        have HX := hid hyc
        clear hyc
        go_wp2
        refine ⟨⟨j + 1, by omega, by go_num, hid (fun m z hm hz => ?_), ?_⟩, by simp [intOf]; omega⟩
        · rcases Nat.lt_or_ge m j with h | h
          · exact HNO.out m z h hz
          · obtain rfl : m = j := by omega
            rw [HY.out, Option.some.injEq] at hz
            rw [← hz]
            exact HX.out
        · first | rfl | trivial
    · obtain rfl : j = 13 := by omega
      have H := hid (show SL.contains c = false by
        rw [← Bool.not_eq_true, List.contains_iff_mem]
        intro hm
        obtain ⟨m, hml, e⟩ := List.mem_iff_getElem.1 hm
        exact HNO.out m SL[m] hml (List.getElem?_eq_getElem hml) e)
      go_wp2
      go_ret
      exact ⟨by rw [H.out]; rfl, rfl⟩
set_option maxRecDepth 100000 in
set_option maxHeartbeats 1600000 in
theorem rskip_any (s : ByteArray) (l : List UInt8) (a : Nat) (w : World) (hs : Tx s l) (hl : l.length ≤ 4096) (ha : a ≤ l.length) :
    Calls Tryz.prog 43 #[.string s, .int .i64 (a : Int)] w fun e w' => e = .returned (.int .i64 ((a + wOver false l a : Nat) : Int)) ∧ w = w' := by
  obtain ⟨n, hn⟩ : ∃ n, l.length = n := ⟨_, rfl⟩
  have hsz : s.size = n := hs.size.trans hn
  obtain ⟨E, hE⟩ : ∃ E, a + wOver false l a = E := ⟨_, rfl⟩
  rw [hE]
  have HE := hid hE
  clear hE
  go_enter Tryz.func43, Tryz.ntmps43
  go_wp2
  go_loopw [1, 5, 6] (fun i b _ wr => ∃ (j : Nat) (note : Bool), j ≤ n ∧ i = .int .i64 (j : Int) ∧ b = .bool note ∧ Hid (j + wOver note l j = E) ∧ wr = w) (fun i _ _ _ => (n - intOf i).toNat)
  case atStart => exact ⟨a, false, by omega, rfl, rfl, HE, rfl⟩
  case round =>
    obtain ⟨j, note, hj, rfl, rfl, HJ, rfl⟩ := hrel
    by_cases hjn : j < n
    · obtain ⟨c, hc⟩ : ∃ c, l[j]? = some c := ⟨l[j]'(by omega), List.getElem?_eq_getElem (by omega)⟩
      have hcj := hs.at_ hc
      have hin := fun {nt : Bool} (hp : wPass note c = true) (hq : wNote note c = nt) => hid (show j + 1 + wOver nt l (j + 1) = E by
        have h1 := wOver_in hc hp
        rw [hq] at h1
        rw [← HJ.out, h1]
        omega)
      have hout := fun (hp : wPass note c = false) => hid (show j = E by
        have h1 := wOver_out hc hp
        rw [← HJ.out, h1]; rfl)
      have HIN := fun {nt : Bool} => hid (@hin nt)
      have HOUT := hid hout
      clear hin hout hc
      by_cases h35 : c.toNat = 35
      · have e35 : ((c.toNat : Int) == 35) = true := by rw [beq_iff_eq]; omega
        have e10 : ((c.toNat : Int) == 10) = false := by rw [beq_eq_false_iff_ne]; omega
        have hq : wNote note c = true := by unfold wNote; rw [if_neg (by omega), if_pos h35]
        have HX := HIN.out (by unfold wPass; rw [hq]; rfl) hq
        clear hq h35
        go_wp2
        refine ⟨⟨j + 1, true, by omega, by go_num, rfl, HX, ?_⟩, by simp [intOf]; omega⟩; first | rfl | trivial
      · have e35 : ((c.toNat : Int) == 35) = false := by rw [beq_eq_false_iff_ne]; omega
        by_cases h10 : c.toNat = 10
        · have e10 : ((c.toNat : Int) == 10) = true := by rw [beq_iff_eq]; omega
          have e32 : ((c.toNat : Int) != 32) = true := by rw [bne_iff_ne]; omega
          have e9 : ((c.toNat : Int) != 9) = true := by rw [bne_iff_ne]; omega
          have n10 : ((c.toNat : Int) != 10) = false := by rw [bne_eq_false_iff_eq]; omega
          have HX := HIN.out (pass_lf (note := note) h10).1 (pass_lf (note := note) h10).2
          clear h10 h35
          go_wp2
          refine ⟨⟨j + 1, false, by omega, by go_num, rfl, HX, ?_⟩, by simp [intOf]; omega⟩; first | rfl | trivial
        · have e10 : ((c.toNat : Int) == 10) = false := by rw [beq_eq_false_iff_ne]; omega
          have n10 : ((c.toNat : Int) != 10) = true := by rw [bne_iff_ne]; omega
          have hq : wNote note c = note := by unfold wNote; rw [if_neg h10, if_neg h35]
          cases note with
          | true =>
            have HX := HIN.out (by unfold wPass; rw [hq]; rfl) hq
            clear hq h10 h35
            go_wp2
            refine ⟨⟨j + 1, true, by omega, by go_num, rfl, HX, ?_⟩, by simp [intOf]; omega⟩; first | rfl | trivial
          | false =>
            by_cases h32 : c.toNat = 32
            · have e32 : ((c.toNat : Int) != 32) = false := by rw [bne_eq_false_iff_eq]; omega
              have HX := HIN.out (by unfold wPass wBlank; rw [decide_eq_true (by omega), Bool.or_true]) hq
              clear hq h10 h35 h32
              go_wp2
              refine ⟨⟨j + 1, false, by omega, by go_num, rfl, HX, ?_⟩, by simp [intOf]; omega⟩; first | rfl | trivial
            · have e32 : ((c.toNat : Int) != 32) = true := by rw [bne_iff_ne]; omega
              by_cases h9 : c.toNat = 9
              · have e9 : ((c.toNat : Int) != 9) = false := by rw [bne_eq_false_iff_eq]; omega
                have HX := HIN.out (by unfold wPass wBlank; rw [decide_eq_true (by omega), Bool.or_true]) hq
                clear hq h10 h35 h32 h9
                go_wp2
                refine ⟨⟨j + 1, false, by omega, by go_num, rfl, HX, ?_⟩, by simp [intOf]; omega⟩; first | rfl | trivial
              · have e9 : ((c.toNat : Int) != 9) = true := by rw [bne_iff_ne]; omega
                by_cases h13 : c.toNat = 13
                · have e13 : ((c.toNat : Int) != 13) = false := by rw [bne_eq_false_iff_eq]; omega
                  have HX := HIN.out (by unfold wPass wBlank; rw [decide_eq_true (by omega), Bool.or_true]) hq
                  clear hq h10 h35 h32 h9 h13
                  go_wp2
                  refine ⟨⟨j + 1, false, by omega, by go_num, rfl, HX, ?_⟩, by simp [intOf]; omega⟩; first | rfl | trivial
                · have e13 : ((c.toNat : Int) != 13) = true := by rw [bne_iff_ne]; omega
                  have HX := HOUT.out (by unfold wPass wBlank; rw [hq, decide_eq_false (by omega)]; rfl)
                  clear hq h10 h35 h32 h9 h13
                  go_wp2
                  go_ret
                  exact ⟨by rw [HX.out]; rfl, rfl⟩
    · obtain rfl : j = n := by omega
      have HX := hid (show j = E by rw [← HJ.out, wOver_end (by omega)]; rfl)
      go_wp2
      go_ret
      exact ⟨by rw [HX.out]; rfl, rfl⟩
def tz0 : List Value := [.int .i64 0, .string ⟨#[]⟩, .int .i64 0]
theorem zTok0 : ∀ w, (zeroValue 50).run Tryz.prog w = .ok (.agg tz0.toArray) w := zero_at (by kernel_rfl)
theorem szTok0 : (Tryz.prog.info? 50).map (·.size) = some 3 := by kernel_rfl
set_option maxRecDepth 100000 in
set_option maxHeartbeats 3200000 in
theorem rwords_any (s : ByteArray) (l : List UInt8) (w : World) (hs : Tx s l) : Calls Tryz.prog 27 #[.string s] w (WdPost l w) := by
  obtain ⟨n, hn⟩ : ∃ n, l.length = n := ⟨_, rfl⟩
  have hsz : s.size = n := hs.size.trans hn
  by_cases hlong : 4096 < n
  · have hli : (4096 : Int) < (n : Int) := by omega
    have HW := hid (wWords_long (l := l) (by omega))
    clear hlong
    go_enter Tryz.func27, Tryz.ntmps27
    go_wp2
    go_ret3
    exact .inr ⟨0, 2, HW.out, by decide, rfl, Turn.refl w none⟩
  have hl4 : l.length ≤ 4096 := by omega
  have hn4 : (n : Int) ≤ 4096 := by omega
  have hnl : ¬((4096 : Int) < (n : Int)) := by omega
  clear hlong
  obtain ⟨E, hE⟩ : ∃ E, 0 + wOver false l 0 = E := ⟨_, rfl⟩
  have HE := hid hE
  have hEn : E ≤ n := by have := wOver_le false l 0; omega
  clear hE
  go_enter Tryz.func27, Tryz.ntmps27
  go_wp2_with (go_at_call 43; refine (rskip_any s l 0 _ hs hl4 (by omega)).mono ?_; rintro e w' ⟨rfl, rfl⟩; rw [HE.out])
  have hA0 : Own (w.alloc (.cells #[] 50)) w.heap.size 50 3 (some ⟨w.heap.size, 0, none⟩) 0 0 (tcs []) := Own.made w _ _ 3 0 #[] (Nat.le_refl _) (by decide) rfl
  have hTA : Turn w (w.alloc (.cells #[] 50)) none := (Turn.refl w none).alloc _
  go_loopw [5, 6] (fun v i wr => ∃ (j e0 N c : Nat) (A : Option Addr) (ts : List Tok), j ≤ n ∧ e0 ≤ n ∧ i = .int .i64 (e0 : Int) ∧ Hid (j + wOver false l j = e0) ∧ v = .slice A N c ∧ N ≤ 1500 ∧ Hid (ts.length = N) ∧ Own wr w.heap.size 50 3 A N c (tcs ts) ∧ Turn w wr none ∧ Hid (WdAt l ts j)) (fun _ i _ => (n - intOf i).toNat)
  case atStart => exact ⟨0, E, 0, 0, _, [], by omega, hEn, rfl, HE, rfl, by omega, hid rfl, hA0, hTA, hid (WdAt.zero hl4)⟩
  case round =>
    obtain ⟨j, e0, N, cc, A, ts, hj, he0, rfl, HJ, rfl, hN, HN, ho, htr, HAT⟩ := hrel
    clear hA0 hTA
    by_cases hjn : e0 < n
    · obtain ⟨c, hc⟩ : ∃ c, l[e0]? = some c := ⟨l[e0]'(by omega), List.getElem?_eq_getElem (by omega)⟩
      have hcj := hs.at_ hc
      have HC := hid hc
      clear hc
      obtain ⟨E1, hE1⟩ : ∃ E1, e0 + wLen l e0 = E1 := ⟨_, rfl⟩
      have hlt : e0 < E1 := by rw [← hE1]; unfold wLen; rw [drop_at HC.out]; simp only; omega
      have hE1n : E1 ≤ l.length := by have := wLen_le (l := l) (a := e0) (by omega); omega
      have HE1 := hid hE1
      clear hE1
      go_upto_region 8 with (refine wp_var rfl rfl 50 _ _ rfl rfl rfl rfl zTok0 (fun _ => rfl) (xs := [.int .i64 0, .string ⟨#[]⟩, .int .i64 (e0 : Int)]) (fun _ => rfl) rfl szTok0 (ones_cons rfl (ones_cons rfl (ones_cons rfl ones_nil))) ?_; intro g1 w2 hg1 hb2 ht2)
      have T2 : Turn w w2 none := (htr.trans ht2)
      have lg1 := hb2.lt
      have hnw : w.heap.size ≤ g1 := by have := htr.size; omega
      have hne : blk A ≠ some g1 := by intro e; have := (ho.block g1 e).2; omega
      cases h1 : wLow c with
      | true =>
        have HB := hid (show wBegins c = true by unfold wBegins; rw [h1]; rfl)
        have HK := hid (show wKind c = 0 by unfold wKind; rw [h1]; rfl)
        have HL := hid (wLen_name HC.out h1)
        have H1 := hid h1
        clear h1
        go_upto_region 9 with (go_at_call 44; refine (rlow_any c _).mono ?_; rintro e w' ⟨rfl, rfl⟩; rw [H1.out])
        have hbK := hb2.sets 0 (.int .i64 0)
        have f0 := hb2.frozen 0
        have cc0 : w2.cell? ⟨g1, 0, none⟩ = some (.int .i64 0) := hb2.ats rfl
        have TK := T2.new (Blk.setTurn w2 g1 0 (.int .i64 0)) (fun q e => by injection e with e; omega)
        have hoK := Own.turn (ho.turn0 ht2) (Blk.setTurn w2 g1 0 (.int .i64 0)) (.inr hne)
        obtain ⟨wK, hwK⟩ : ∃ wK, wK = w2.setCell ⟨g1, 0, none⟩ (.int .i64 0) := ⟨_, rfl⟩
        rw [← hwK] at hbK TK hoK
        have HW := hid hwK
        clear hwK
        have htr2 := TK
        go_wp2_with (fail)
        rw [← HW.out]
        clear hcj
        go_loopw [8] (fun i wr => ∃ q : Nat, q ≤ n ∧ i = .int .i64 (q : Int) ∧ Hid (q + wRun wIn l q = E1) ∧ wK = wr) (fun i _ => (n - intOf i).toNat)
        case atStart => exact ⟨e0 + 1, by omega, by go_num, hid (by rw [← HE1.out, HL.out]; omega), rfl⟩
        case round =>
          obtain ⟨q, hq, rfl, HQ, rfl⟩ := hrel
          by_cases hqn : q < n
          · obtain ⟨d, hd⟩ : ∃ d, l[q]? = some d := ⟨l[q]'(by omega), List.getElem?_eq_getElem (by omega)⟩
            have hdj := hs.at_ hd
            have hin := fun (hp : wIn d = true) => hid (show q + 1 + wRun wIn l (q + 1) = E1 by rw [← HQ.out, wRun_in hd hp]; omega)
            have hout := fun (hp : wIn d = false) => (show q = E1 by rw [← HQ.out, wRun_out hd hp]; rfl)
            have HIN := hid hin
            have HOUT := hid hout
            clear hin hout hd
            have hd256 := d.toNat_lt
            have hw : wIn d = (wLow d || wNum d || decide (d.toNat = 95)) := rfl
            cases d1 : wLow d with
            | true =>
              rw [d1, Bool.true_or, Bool.true_or] at hw
              have HX := HIN.out hw
              have D1 := hid d1
              clear d1 hw
              go_wp2_with (go_at_call 44; refine (rlow_any d _).mono ?_; rintro e w' ⟨rfl, rfl⟩; rw [D1.out])
              refine ⟨⟨q + 1, by omega, by go_num, HX, ?_⟩, by simp [intOf]; omega⟩; first | rfl | trivial
            | false =>
              cases d2 : wNum d with
              | true =>
                rw [d1, d2, Bool.false_or, Bool.true_or] at hw
                have HX := HIN.out hw
                have D1 := hid d1
                have D2 := hid d2
                clear d1 d2 hw
                go_wp2_with (first | (go_at_call 44; refine (rlow_any d _).mono ?_; rintro e w' ⟨rfl, rfl⟩; rw [D1.out]) | (go_at_call 45; refine (rnum_any d _).mono ?_; rintro e w' ⟨rfl, rfl⟩; rw [D2.out]))
                refine ⟨⟨q + 1, by omega, by go_num, HX, ?_⟩, by simp [intOf]; omega⟩; first | rfl | trivial
              | false =>
                rw [d1, d2, Bool.false_or, Bool.false_or] at hw
                have D1 := hid d1
                have D2 := hid d2
                clear d1 d2
                by_cases h95 : d.toNat = 95
                · have HX := HIN.out (hw.trans (decide_eq_true h95))
                  have e2 : ((d.toNat : Int) == 95) = true := by rw [h95]; rfl
                  clear h95 hw
                  go_wp2_with (first | (go_at_call 44; refine (rlow_any d _).mono ?_; rintro e w' ⟨rfl, rfl⟩; rw [D1.out]) | (go_at_call 45; refine (rnum_any d _).mono ?_; rintro e w' ⟨rfl, rfl⟩; rw [D2.out]))
                  refine ⟨⟨q + 1, by omega, by go_num, HX, ?_⟩, by simp [intOf]; omega⟩; first | rfl | trivial
                · have hqE := (HOUT.out (hw.trans (decide_eq_false h95))).symm
                  subst hqE
                  have e2 : ((d.toNat : Int) == 95) = false := by rw [beq_eq_false_iff_ne]; omega
                  clear h95 hw HIN HOUT HQ
                  go_upto_region 19 with (first | (go_at_call 44; refine (rlow_any d _).mono ?_; rintro e w' ⟨rfl, rfl⟩; rw [D1.out]) | (go_at_call 45; refine (rnum_any d _).mono ?_; rintro e w' ⟨rfl, rfl⟩; rw [D2.out]))
                  by_cases h15 : N = 1500
                  · have h15i : ((N : Int) == 1500) = true := by rw [beq_iff_eq]; omega
                    have HE := hid (HAT.out.many (by rw [HJ.out]; exact HC.out) HB.out (by rw [HN.out]; exact h15))
                    clear h15
                    go_wp2
                    go_ret3
                    exact .inr ⟨4096, 2, HE.out, by decide, rfl, htr2⟩
                  · have h15i : ((N : Int) == 1500) = false := by rw [beq_eq_false_iff_ne]; omega
                    have HX := hid (HAT.out.next (by rw [HJ.out]; exact HC.out) HB.out (by rw [HN.out]; exact h15))
                    have hN2 : N < 1500 := by omega
                    clear h15
                    have hb4 := hbK.sets 1 (.string (s.extract e0 E1))
                    have f1 := hbK.frozen 1
                    have cc1 : wK.cell? ⟨g1, 1, none⟩ = some (.string ⟨#[]⟩) := hbK.ats rfl
                    go_upto_region 22 with (fail)
                    have T4 := htr2.new (Blk.setTurn wK g1 1 (.string (s.extract e0 E1))) (fun q e => by injection e with e; omega)
                    obtain ⟨w4, hw4⟩ : ∃ w4, w4 = wK.setCell ⟨g1, 1, none⟩ (.string (s.extract e0 E1)) := ⟨_, rfl⟩
                    rw [← hw4] at hb4 T4 ⊢
                    have ho4 : Own w4 w.heap.size 50 3 A N cc (tcs ts) := by rw [hw4]; exact Own.turn hoK (Blk.setTurn wK g1 1 _) (.inr hne)
                    have cat := hb4
                    have HS := hid (show s.extract e0 E1 = txt ((l.drop e0).take (wLen l e0)) by rw [hs, ← HE1.out]; exact txt_sub l e0 (wLen l e0))
                    clear hw4 hoK hbK
                    go_wp2_with (first
                      | (refine wp_ld rfl 50 _ rfl rfl hb4 (Sub.all _) Tryz.underlying50 rfl szTok0 ?_)
                      | (at_builtin; refine wp_app rfl _ _ _ rfl elT0 rfl rfl (ho4.alloc _) (Rd.litS _ _ 3 1 _ rfl) (by repeat (first | exact ones_nil | refine ones_cons rfl ?_)) (by unfold maxLen; first | omega | (simp; done) | (simp; omega)) (by first | omega | (simp; done) | (simp; omega)) (by have := T4.size; first | omega | (simp; omega)) ?_; intro A3 c3 w3 ho3 ht3 hb3)
                      | (go_at_call 43; refine (rskip_any s l E1 _ hs hl4 hE1n).mono ?_; rintro e w' ⟨rfl, rfl⟩))
                    have hTs := T4.size
                    have T3 : Turn w w3 none := (T4.alloc _).new ht3 (fun g' hg' => (ho4.block g' hg').1)
                    rw [HJ.out] at HX
                    have HX2 := hid (HX.out)
                    refine ⟨⟨E1, E1 + wOver false l E1, N + 1, c3, A3, ts ++ [⟨wKind c, (l.drop e0).take (wLen l e0), e0⟩], by omega, by have := wOver_le false l E1; omega, by go_num, hid rfl, rfl, by omega, hid (by rw [List.length_append, HN.out]; rfl), ?_, T3, ?_⟩, ?_⟩
                    · rw [tcs_app]
                      have e2 : tcs [(⟨wKind c, (l.drop e0).take (wLen l e0), e0⟩ : Tok)] = [.int .i64 (0 : Int), .string (s.extract e0 E1), .int .i64 (e0 : Int)] := by rw [HS.out]; show [Value.int .i64 ((wKind c : Nat) : Int), _, _] = _; rw [HK.out]; rfl
                      rw [e2]
                      exact ho3
                    · rw [← HE1.out]; exact HX2.out
                    · simp [intOf]; omega
          · have hqn2 : q = n := by omega
            have hqE : E1 = q := by rw [← HQ.out, wRun_end (by omega)]; rfl
            subst hqE
            have l1 : ¬((E1 : Int) < (n : Int)) := by omega
            clear hqn2 HQ
            go_upto_region 19 with (fail)
            by_cases h15 : N = 1500
            · have h15i : ((N : Int) == 1500) = true := by rw [beq_iff_eq]; omega
              have HE := hid (HAT.out.many (by rw [HJ.out]; exact HC.out) HB.out (by rw [HN.out]; exact h15))
              clear h15
              go_wp2
              go_ret3
              exact .inr ⟨4096, 2, HE.out, by decide, rfl, htr2⟩
            · have h15i : ((N : Int) == 1500) = false := by rw [beq_eq_false_iff_ne]; omega
              have HX := hid (HAT.out.next (by rw [HJ.out]; exact HC.out) HB.out (by rw [HN.out]; exact h15))
              have hN2 : N < 1500 := by omega
              clear h15
              have hb4 := hbK.sets 1 (.string (s.extract e0 E1))
              have f1 := hbK.frozen 1
              have cc1 : wK.cell? ⟨g1, 1, none⟩ = some (.string ⟨#[]⟩) := hbK.ats rfl
              go_upto_region 22 with (fail)
              have T4 := htr2.new (Blk.setTurn wK g1 1 (.string (s.extract e0 E1))) (fun q e => by injection e with e; omega)
              obtain ⟨w4, hw4⟩ : ∃ w4, w4 = wK.setCell ⟨g1, 1, none⟩ (.string (s.extract e0 E1)) := ⟨_, rfl⟩
              rw [← hw4] at hb4 T4 ⊢
              have ho4 : Own w4 w.heap.size 50 3 A N cc (tcs ts) := by rw [hw4]; exact Own.turn hoK (Blk.setTurn wK g1 1 _) (.inr hne)
              have cat := hb4
              have HS := hid (show s.extract e0 E1 = txt ((l.drop e0).take (wLen l e0)) by rw [hs, ← HE1.out]; exact txt_sub l e0 (wLen l e0))
              clear hw4 hoK hbK
              go_wp2_with (first
                | (refine wp_ld rfl 50 _ rfl rfl hb4 (Sub.all _) Tryz.underlying50 rfl szTok0 ?_)
                | (at_builtin; refine wp_app rfl _ _ _ rfl elT0 rfl rfl (ho4.alloc _) (Rd.litS _ _ 3 1 _ rfl) (by repeat (first | exact ones_nil | refine ones_cons rfl ?_)) (by unfold maxLen; first | omega | (simp; done) | (simp; omega)) (by first | omega | (simp; done) | (simp; omega)) (by have := T4.size; first | omega | (simp; omega)) ?_; intro A3 c3 w3 ho3 ht3 hb3)
                | (go_at_call 43; refine (rskip_any s l E1 _ hs hl4 hE1n).mono ?_; rintro e w' ⟨rfl, rfl⟩))
              have hTs := T4.size
              have T3 : Turn w w3 none := (T4.alloc _).new ht3 (fun g' hg' => (ho4.block g' hg').1)
              rw [HJ.out] at HX
              have HX2 := hid (HX.out)
              refine ⟨⟨E1, E1 + wOver false l E1, N + 1, c3, A3, ts ++ [⟨wKind c, (l.drop e0).take (wLen l e0), e0⟩], by omega, by have := wOver_le false l E1; omega, by go_num, hid rfl, rfl, by omega, hid (by rw [List.length_append, HN.out]; rfl), ?_, T3, ?_⟩, ?_⟩
              · rw [tcs_app]
                have e2 : tcs [(⟨wKind c, (l.drop e0).take (wLen l e0), e0⟩ : Tok)] = [.int .i64 (0 : Int), .string (s.extract e0 E1), .int .i64 (e0 : Int)] := by rw [HS.out]; show [Value.int .i64 ((wKind c : Nat) : Int), _, _] = _; rw [HK.out]; rfl
                rw [e2]
                exact ho3
              · rw [← HE1.out]; exact HX2.out
              · simp [intOf]; omega
      | false =>
        have H1 := hid h1
        cases h2 : wNum c with
        | true =>
          have HB := hid (show wBegins c = true by unfold wBegins; rw [h1, h2]; rfl)
          have HK := hid (show wKind c = 1 by unfold wKind; rw [h1, h2]; rfl)
          have HL := hid (wLen_num HC.out h1 h2)
          have H2 := hid h2
          clear h1 h2
          go_upto_region 13 with (first | (go_at_call 44; refine (rlow_any c _).mono ?_; rintro e w' ⟨rfl, rfl⟩; rw [H1.out]) | (go_at_call 45; refine (rnum_any c _).mono ?_; rintro e w' ⟨rfl, rfl⟩; rw [H2.out]))
          have hbK := hb2.sets 0 (.int .i64 1)
          have f0 := hb2.frozen 0
          have cc0 : w2.cell? ⟨g1, 0, none⟩ = some (.int .i64 0) := hb2.ats rfl
          have TK := T2.new (Blk.setTurn w2 g1 0 (.int .i64 1)) (fun q e => by injection e with e; omega)
          have hoK := Own.turn (ho.turn0 ht2) (Blk.setTurn w2 g1 0 (.int .i64 1)) (.inr hne)
          obtain ⟨wK, hwK⟩ : ∃ wK, wK = w2.setCell ⟨g1, 0, none⟩ (.int .i64 1) := ⟨_, rfl⟩
          rw [← hwK] at hbK TK hoK
          have HW := hid hwK
          clear hwK
          have htr2 := TK
          go_wp2_with (fail)
          rw [← HW.out]
          clear hcj
          go_loopw [8] (fun i wr => ∃ q : Nat, q ≤ n ∧ i = .int .i64 (q : Int) ∧ Hid (q + wRun wNum l q = E1) ∧ wK = wr) (fun i _ => (n - intOf i).toNat)
          case atStart => exact ⟨e0 + 1, by omega, by go_num, hid (by rw [← HE1.out, HL.out]; omega), rfl⟩
          case round =>
            obtain ⟨q, hq, rfl, HQ, rfl⟩ := hrel
            by_cases hqn : q < n
            · obtain ⟨d, hd⟩ : ∃ d, l[q]? = some d := ⟨l[q]'(by omega), List.getElem?_eq_getElem (by omega)⟩
              have hdj := hs.at_ hd
              have hin := fun (hp : wNum d = true) => hid (show q + 1 + wRun wNum l (q + 1) = E1 by rw [← HQ.out, wRun_in hd hp]; omega)
              have hout := fun (hp : wNum d = false) => (show q = E1 by rw [← HQ.out, wRun_out hd hp]; rfl)
              have HIN := hid hin
              have HOUT := hid hout
              clear hin hout hd
              cases d2 : wNum d with
              | true =>
                have HX := HIN.out d2
                have D2 := hid d2
                clear d2
                go_wp2_with (go_at_call 45; refine (rnum_any d _).mono ?_; rintro e w' ⟨rfl, rfl⟩; rw [D2.out])
                refine ⟨⟨q + 1, by omega, by go_num, HX, ?_⟩, by simp [intOf]; omega⟩; first | rfl | trivial
              | false =>
                have hqE := (HOUT.out d2).symm
                subst hqE
                have D2 := hid d2
                clear d2 HIN HOUT HQ
                go_upto_region 19 with (go_at_call 45; refine (rnum_any d _).mono ?_; rintro e w' ⟨rfl, rfl⟩; rw [D2.out])
                by_cases h15 : N = 1500
                · have h15i : ((N : Int) == 1500) = true := by rw [beq_iff_eq]; omega
                  have HE := hid (HAT.out.many (by rw [HJ.out]; exact HC.out) HB.out (by rw [HN.out]; exact h15))
                  clear h15
                  go_wp2
                  go_ret3
                  exact .inr ⟨4096, 2, HE.out, by decide, rfl, htr2⟩
                · have h15i : ((N : Int) == 1500) = false := by rw [beq_eq_false_iff_ne]; omega
                  have HX := hid (HAT.out.next (by rw [HJ.out]; exact HC.out) HB.out (by rw [HN.out]; exact h15))
                  have hN2 : N < 1500 := by omega
                  clear h15
                  have hb4 := hbK.sets 1 (.string (s.extract e0 E1))
                  have f1 := hbK.frozen 1
                  have cc1 : wK.cell? ⟨g1, 1, none⟩ = some (.string ⟨#[]⟩) := hbK.ats rfl
                  go_upto_region 22 with (fail)
                  have T4 := htr2.new (Blk.setTurn wK g1 1 (.string (s.extract e0 E1))) (fun q e => by injection e with e; omega)
                  obtain ⟨w4, hw4⟩ : ∃ w4, w4 = wK.setCell ⟨g1, 1, none⟩ (.string (s.extract e0 E1)) := ⟨_, rfl⟩
                  rw [← hw4] at hb4 T4 ⊢
                  have ho4 : Own w4 w.heap.size 50 3 A N cc (tcs ts) := by rw [hw4]; exact Own.turn hoK (Blk.setTurn wK g1 1 _) (.inr hne)
                  have cat := hb4
                  have HS := hid (show s.extract e0 E1 = txt ((l.drop e0).take (wLen l e0)) by rw [hs, ← HE1.out]; exact txt_sub l e0 (wLen l e0))
                  clear hw4 hoK hbK
                  go_wp2_with (first
                    | (refine wp_ld rfl 50 _ rfl rfl hb4 (Sub.all _) Tryz.underlying50 rfl szTok0 ?_)
                    | (at_builtin; refine wp_app rfl _ _ _ rfl elT0 rfl rfl (ho4.alloc _) (Rd.litS _ _ 3 1 _ rfl) (by repeat (first | exact ones_nil | refine ones_cons rfl ?_)) (by unfold maxLen; first | omega | (simp; done) | (simp; omega)) (by first | omega | (simp; done) | (simp; omega)) (by have := T4.size; first | omega | (simp; omega)) ?_; intro A3 c3 w3 ho3 ht3 hb3)
                    | (go_at_call 43; refine (rskip_any s l E1 _ hs hl4 hE1n).mono ?_; rintro e w' ⟨rfl, rfl⟩))
                  have hTs := T4.size
                  have T3 : Turn w w3 none := (T4.alloc _).new ht3 (fun g' hg' => (ho4.block g' hg').1)
                  rw [HJ.out] at HX
                  have HX2 := hid (HX.out)
                  refine ⟨⟨E1, E1 + wOver false l E1, N + 1, c3, A3, ts ++ [⟨wKind c, (l.drop e0).take (wLen l e0), e0⟩], by omega, by have := wOver_le false l E1; omega, by go_num, hid rfl, rfl, by omega, hid (by rw [List.length_append, HN.out]; rfl), ?_, T3, ?_⟩, ?_⟩
                  · rw [tcs_app]
                    have e2 : tcs [(⟨wKind c, (l.drop e0).take (wLen l e0), e0⟩ : Tok)] = [.int .i64 (1 : Int), .string (s.extract e0 E1), .int .i64 (e0 : Int)] := by rw [HS.out]; show [Value.int .i64 ((wKind c : Nat) : Int), _, _] = _; rw [HK.out]; rfl
                    rw [e2]
                    exact ho3
                  · rw [← HE1.out]; exact HX2.out
                  · simp [intOf]; omega
            · have hqn2 : q = n := by omega
              have hqE : E1 = q := by rw [← HQ.out, wRun_end (by omega)]; rfl
              subst hqE
              have l1 : ¬((E1 : Int) < (n : Int)) := by omega
              clear hqn2 HQ
              go_upto_region 19 with (fail)
              by_cases h15 : N = 1500
              · have h15i : ((N : Int) == 1500) = true := by rw [beq_iff_eq]; omega
                have HE := hid (HAT.out.many (by rw [HJ.out]; exact HC.out) HB.out (by rw [HN.out]; exact h15))
                clear h15
                go_wp2
                go_ret3
                exact .inr ⟨4096, 2, HE.out, by decide, rfl, htr2⟩
              · have h15i : ((N : Int) == 1500) = false := by rw [beq_eq_false_iff_ne]; omega
                have HX := hid (HAT.out.next (by rw [HJ.out]; exact HC.out) HB.out (by rw [HN.out]; exact h15))
                have hN2 : N < 1500 := by omega
                clear h15
                have hb4 := hbK.sets 1 (.string (s.extract e0 E1))
                have f1 := hbK.frozen 1
                have cc1 : wK.cell? ⟨g1, 1, none⟩ = some (.string ⟨#[]⟩) := hbK.ats rfl
                go_upto_region 22 with (fail)
                have T4 := htr2.new (Blk.setTurn wK g1 1 (.string (s.extract e0 E1))) (fun q e => by injection e with e; omega)
                obtain ⟨w4, hw4⟩ : ∃ w4, w4 = wK.setCell ⟨g1, 1, none⟩ (.string (s.extract e0 E1)) := ⟨_, rfl⟩
                rw [← hw4] at hb4 T4 ⊢
                have ho4 : Own w4 w.heap.size 50 3 A N cc (tcs ts) := by rw [hw4]; exact Own.turn hoK (Blk.setTurn wK g1 1 _) (.inr hne)
                have cat := hb4
                have HS := hid (show s.extract e0 E1 = txt ((l.drop e0).take (wLen l e0)) by rw [hs, ← HE1.out]; exact txt_sub l e0 (wLen l e0))
                clear hw4 hoK hbK
                go_wp2_with (first
                  | (refine wp_ld rfl 50 _ rfl rfl hb4 (Sub.all _) Tryz.underlying50 rfl szTok0 ?_)
                  | (at_builtin; refine wp_app rfl _ _ _ rfl elT0 rfl rfl (ho4.alloc _) (Rd.litS _ _ 3 1 _ rfl) (by repeat (first | exact ones_nil | refine ones_cons rfl ?_)) (by unfold maxLen; first | omega | (simp; done) | (simp; omega)) (by first | omega | (simp; done) | (simp; omega)) (by have := T4.size; first | omega | (simp; omega)) ?_; intro A3 c3 w3 ho3 ht3 hb3)
                  | (go_at_call 43; refine (rskip_any s l E1 _ hs hl4 hE1n).mono ?_; rintro e w' ⟨rfl, rfl⟩))
                have hTs := T4.size
                have T3 : Turn w w3 none := (T4.alloc _).new ht3 (fun g' hg' => (ho4.block g' hg').1)
                rw [HJ.out] at HX
                have HX2 := hid (HX.out)
                refine ⟨⟨E1, E1 + wOver false l E1, N + 1, c3, A3, ts ++ [⟨wKind c, (l.drop e0).take (wLen l e0), e0⟩], by omega, by have := wOver_le false l E1; omega, by go_num, hid rfl, rfl, by omega, hid (by rw [List.length_append, HN.out]; rfl), ?_, T3, ?_⟩, ?_⟩
                · rw [tcs_app]
                  have e2 : tcs [(⟨wKind c, (l.drop e0).take (wLen l e0), e0⟩ : Tok)] = [.int .i64 (1 : Int), .string (s.extract e0 E1), .int .i64 (e0 : Int)] := by rw [HS.out]; show [Value.int .i64 ((wKind c : Nat) : Int), _, _] = _; rw [HK.out]; rfl
                  rw [e2]
                  exact ho3
                · rw [← HE1.out]; exact HX2.out
                · simp [intOf]; omega
        | false =>
          have H2 := hid h2
          cases h3 : wSign c with
          | true =>
            have HB := hid (show wBegins c = true by unfold wBegins; rw [h1, h2, h3]; rfl)
            have HK := hid (show wKind c = 2 by unfold wKind; rw [h1, h2]; rfl)
            have hqE : E1 = e0 + 1 := by rw [← HE1.out, wLen_sign HC.out h1 h2]
            have hqI : (e0 : Int) + 1 = (E1 : Int) := by omega
            have H3 := hid h3
            have HQE := hid hqE
            clear h1 h2 h3 hqE
            rw [hqI]
            clear hqI
            go_upto_region 17 with (first | (go_at_call 44; refine (rlow_any c _).mono ?_; rintro e w' ⟨rfl, rfl⟩; rw [H1.out]) | (go_at_call 45; refine (rnum_any c _).mono ?_; rintro e w' ⟨rfl, rfl⟩; rw [H2.out]) | (go_at_call 46; refine (rsign_any c _).mono ?_; rintro e w' ⟨rfl, rfl⟩; rw [H3.out]))
            have hbK := hb2.sets 0 (.int .i64 2)
            have f0 := hb2.frozen 0
            have cc0 : w2.cell? ⟨g1, 0, none⟩ = some (.int .i64 0) := hb2.ats rfl
            have TK := T2.new (Blk.setTurn w2 g1 0 (.int .i64 2)) (fun q e => by injection e with e; omega)
            have hoK := Own.turn (ho.turn0 ht2) (Blk.setTurn w2 g1 0 (.int .i64 2)) (.inr hne)
            obtain ⟨wK, hwK⟩ : ∃ wK, wK = w2.setCell ⟨g1, 0, none⟩ (.int .i64 2) := ⟨_, rfl⟩
            rw [← hwK] at hbK TK hoK
            have HW := hid hwK
            clear hwK
            have htr2 := TK
            go_upto_region 19 with (fail)
            rw [← HW.out]
            clear hcj
            by_cases h15 : N = 1500
            · have h15i : ((N : Int) == 1500) = true := by rw [beq_iff_eq]; omega
              have HE := hid (HAT.out.many (by rw [HJ.out]; exact HC.out) HB.out (by rw [HN.out]; exact h15))
              clear h15
              go_wp2
              go_ret3
              exact .inr ⟨4096, 2, HE.out, by decide, rfl, htr2⟩
            · have h15i : ((N : Int) == 1500) = false := by rw [beq_eq_false_iff_ne]; omega
              have HX := hid (HAT.out.next (by rw [HJ.out]; exact HC.out) HB.out (by rw [HN.out]; exact h15))
              have hN2 : N < 1500 := by omega
              clear h15
              have hb4 := hbK.sets 1 (.string (s.extract e0 E1))
              have f1 := hbK.frozen 1
              have cc1 : wK.cell? ⟨g1, 1, none⟩ = some (.string ⟨#[]⟩) := hbK.ats rfl
              go_upto_region 22 with (fail)
              have T4 := htr2.new (Blk.setTurn wK g1 1 (.string (s.extract e0 E1))) (fun q e => by injection e with e; omega)
              obtain ⟨w4, hw4⟩ : ∃ w4, w4 = wK.setCell ⟨g1, 1, none⟩ (.string (s.extract e0 E1)) := ⟨_, rfl⟩
              rw [← hw4] at hb4 T4 ⊢
              have ho4 : Own w4 w.heap.size 50 3 A N cc (tcs ts) := by rw [hw4]; exact Own.turn hoK (Blk.setTurn wK g1 1 _) (.inr hne)
              have cat := hb4
              have HS := hid (show s.extract e0 E1 = txt ((l.drop e0).take (wLen l e0)) by rw [hs, ← HE1.out]; exact txt_sub l e0 (wLen l e0))
              clear hw4 hoK hbK
              go_wp2_with (first
                | (refine wp_ld rfl 50 _ rfl rfl hb4 (Sub.all _) Tryz.underlying50 rfl szTok0 ?_)
                | (at_builtin; refine wp_app rfl _ _ _ rfl elT0 rfl rfl (ho4.alloc _) (Rd.litS _ _ 3 1 _ rfl) (by repeat (first | exact ones_nil | refine ones_cons rfl ?_)) (by unfold maxLen; first | omega | (simp; done) | (simp; omega)) (by first | omega | (simp; done) | (simp; omega)) (by have := T4.size; first | omega | (simp; omega)) ?_; intro A3 c3 w3 ho3 ht3 hb3)
                | (go_at_call 43; refine (rskip_any s l E1 _ hs hl4 hE1n).mono ?_; rintro e w' ⟨rfl, rfl⟩))
              have hTs := T4.size
              have T3 : Turn w w3 none := (T4.alloc _).new ht3 (fun g' hg' => (ho4.block g' hg').1)
              rw [HJ.out] at HX
              have HX2 := hid (HX.out)
              refine ⟨⟨E1, E1 + wOver false l E1, N + 1, c3, A3, ts ++ [⟨wKind c, (l.drop e0).take (wLen l e0), e0⟩], by omega, by have := wOver_le false l E1; omega, by go_num, hid rfl, rfl, by omega, hid (by rw [List.length_append, HN.out]; rfl), ?_, T3, ?_⟩, ?_⟩
              · rw [tcs_app]
                have e2 : tcs [(⟨wKind c, (l.drop e0).take (wLen l e0), e0⟩ : Tok)] = [.int .i64 (2 : Int), .string (s.extract e0 E1), .int .i64 (e0 : Int)] := by rw [HS.out]; show [Value.int .i64 ((wKind c : Nat) : Int), _, _] = _; rw [HK.out]; rfl
                rw [e2]
                exact ho3
              · rw [← HE1.out]; exact HX2.out
              · simp [intOf]; omega
          | false =>
            have HX := hid (HAT.out.form (by rw [HJ.out]; exact HC.out) (show wBegins c = false by unfold wBegins; rw [h1, h2, h3]; rfl))
            have H3 := hid h3
            clear h1 h2 h3
            go_wp2_with (first | (go_at_call 44; refine (rlow_any c _).mono ?_; rintro e w' ⟨rfl, rfl⟩; rw [H1.out]) | (go_at_call 45; refine (rnum_any c _).mono ?_; rintro e w' ⟨rfl, rfl⟩; rw [H2.out]) | (go_at_call 46; refine (rsign_any c _).mono ?_; rintro e w' ⟨rfl, rfl⟩; rw [H3.out]))
            go_ret3
            rw [HJ.out] at HX
            exact .inr ⟨e0, 4, HX.out, by decide, rfl, T2⟩
    · have he : e0 = n := by omega
      have HST := hid (HAT.out.stop (by rw [HJ.out]; omega))
      have l1 : ¬((e0 : Int) < (n : Int)) := by omega
      clear he hjn
      by_cases h15 : N = 1500
      · have h15i : ((N : Int) == 1500) = true := by rw [beq_iff_eq]; omega
        have HX := hid (HST.out.trans (if_pos (by rw [HN.out]; exact h15)))
        clear h15
        go_wp2
        go_ret3
        exact .inr ⟨4096, 2, HX.out, by decide, rfl, htr⟩
      · have h15i : ((N : Int) == 1500) = false := by rw [beq_eq_false_iff_ne]; omega
        have HX := hid (HST.out.trans (if_neg (by rw [HN.out]; exact h15)))
        have hN2 : N < 1500 := by omega
        clear h15
        go_wp2_with (at_builtin; refine wp_app rfl _ _ _ rfl elT0 rfl rfl (ho.alloc _) (Rd.litS _ _ 3 1 _ rfl) (by repeat (first | exact ones_nil | refine ones_cons rfl ?_)) (by unfold maxLen; first | omega | (simp; done) | (simp; omega)) (by first | omega | (simp; done) | (simp; omega)) (by have := htr.size; first | omega | (simp; omega)) ?_; intro A3 c3 w3 ho3 ht3 hb3)
        go_ret3
        refine .inl ⟨ts ++ [⟨3, [], l.length⟩], A3, N + 1, c3, HX.out, rfl, ?_, (htr.alloc _).new ht3 (fun g' hg' => (ho.block g' hg').1)⟩
        rw [tcs_app]
        have e2 : tcs [(⟨3, [], l.length⟩ : Tok)] = [.int .i64 3, .string ⟨#[]⟩, .int .i64 (n : Int)] := by rw [hn]; rfl
        rw [e2]
        exact ho3
end Go.Proofs.YtjjdhdieihmnnaaGreatDoor
/-
  Layer 8, its pure side: a gap (blanks, remarks) ahead of a token changes no token but its place.
-/
namespace Go.Proofs.YtjjdhdieihmnnaaGreatDoor

/-- Bytes that are passed over whatever was ahead of them, begin with none of a word's, and end outside of a remark. -/
structure Gap (p : List UInt8) : Prop where
  ne : p ≠ []
  first : ∀ d q, p = d :: q → wIn d = false
  all : ∀ note, wAll note p = true
  state : ∀ note, wState note p = false
theorem Gap.pos {p : List UInt8} (h : Gap p) : 0 < p.length := List.length_pos_iff.2 h.ne
theorem Gap.head {p x : List UInt8} (h : Gap p) {d : UInt8} {q : List UInt8} (e : p ++ x = d :: q) : wIn d = false := by
  cases p with
  | nil => exact absurd rfl h.ne
  | cons c r =>
    rw [List.cons_append, List.cons.injEq] at e
    rw [← e.1]
    exact h.first c r rfl
def Tok.ups (m : Nat) (t : Tok) : Tok := ⟨t.k, t.s, t.at_ + m⟩
theorem ups_tt (m : Nat) (t : Tok) : (t.ups m).tt = t.tt := rfl
theorem wGo_ups : ∀ (m f n at_ : Nat) (l : List UInt8) (ts : List Tok), wGo f n at_ l = .ok ts → wGo f n (at_ + m) l = .ok (ts.map (Tok.ups m))
  | 0, f, n, at_, l, ts, h => by
    have : Tok.ups 0 = id := rfl
    rw [this, List.map_id]
    exact h
  | m + 1, f, n, at_, l, ts, h => by
    have h1 := wGo_up f n (at_ + m) l _ (wGo_ups m f n at_ l ts h)
    rw [List.map_map] at h1
    exact h1
theorem wIn_num {d : UInt8} (h : wIn d = false) : wNum d = false := by
  unfold wIn at h
  rw [Bool.or_eq_false_iff, Bool.or_eq_false_iff] at h
  exact h.1.2
theorem wMore_gap (c : UInt8) (r q : List UInt8) (h : ∀ d q', q = d :: q' → wIn d = false ∨ ∃ q2, r.drop (wMore c r) = d :: q2) : wMore c (r.take (wMore c r) ++ q) = wMore c r := by
  unfold wMore at h ⊢
  split
  · rename_i hc
    rw [if_pos hc] at h
    rw [takeWhile_same r q fun d q' e => ?_]
    rcases h d q' e with h1 | ⟨q2, h2⟩
    · exact h1
    · exact takeWhile_next r d q2 h2
  · rename_i hc
    rw [if_neg hc] at h
    split
    · rename_i hc2
      rw [if_pos hc2] at h
      rw [takeWhile_same r q fun d q' e => ?_]
      rcases h d q' e with h1 | ⟨q2, h2⟩
      · exact wIn_num h1
      · exact takeWhile_next r d q2 h2
    · rfl
/-- (P8.4) A gap ahead of token k. -/
theorem wGo_gap {p : List UInt8} (hp : Gap p) : ∀ (f n at_ : Nat) (l : List UInt8) (ts : List Tok), wGo f n at_ l = .ok ts → ∀ (k : Nat) (t : Tok), ts[k]? = some t → at_ ≤ t.at_ ∧ t.at_ ≤ at_ + l.length ∧
    ∀ g, l.length + p.length < g → wGo g n at_ (l.take (t.at_ - at_) ++ (p ++ l.drop (t.at_ - at_))) = .ok (ts.take k ++ (ts.drop k).map (Tok.ups p.length))
  | 0, _, _, _, _, h => by simp [wGo] at h
  | f + 1, n, at_, l, ts, h => by
    intro k t hk
    have hs := wSkip_le false l
    have hall := wAll_take false l
    have hl : l = l.take (wSkip false l) ++ l.drop (wSkip false l) := (List.take_append_drop _ _).symm
    have hpl : (l.take (wSkip false l)).length = wSkip false l := by rw [List.length_take]; omega
    -- the first token
    have first : ∀ t0 : Tok, t0.at_ = at_ + wSkip false l → at_ ≤ t0.at_ ∧ t0.at_ ≤ at_ + l.length ∧
        ∀ g, l.length + p.length < g → wGo g n at_ (l.take (t0.at_ - at_) ++ (p ++ l.drop (t0.at_ - at_))) = .ok (ts.map (Tok.ups p.length)) := by
      intro t0 h0
      refine ⟨by omega, by omega, fun g hg => ?_⟩
      obtain ⟨g', rfl⟩ : ∃ g', g = g' + 1 := ⟨g - 1, by omega⟩
      have e0 : t0.at_ - at_ = wSkip false l := by omega
      rw [e0]
      have hz : wSkip false (l.drop (wSkip false l)) = 0 := by
        cases hd : l.drop (wSkip false l) with
        | nil => rfl
        | cons c r => exact wSkip_here (wSkip_stop false l c r hd)
      have e1 : wSkip false (l.take (wSkip false l) ++ (p ++ l.drop (wSkip false l))) = wSkip false l + p.length := by
        rw [wSkip_app _ _ _ hall, wSkip_app _ _ _ (hp.all _), hp.state, hz, hpl, Nat.add_zero]
      have e2 : (l.take (wSkip false l) ++ (p ++ l.drop (wSkip false l))).drop (wSkip false l + p.length) = l.drop (wSkip false l) := by
        rw [← List.append_assoc, List.drop_left' (by rw [List.length_append, hpl])]
      have h2 := wGo_ups p.length (f + 1) n at_ l ts h
      have hpos := hp.pos
      have h2 := wGo_ok (f + 1) (g' + 1) n _ l _ h2 (by omega)
      rw [← h2]
      conv => lhs; unfold wGo
      conv => rhs; unfold wGo
      rw [e1, e2, show at_ + (wSkip false l + p.length) = at_ + p.length + wSkip false l by omega]
    unfold wGo at h
    cases hd : l.drop (wSkip false l) with
    | nil =>
      rw [hd] at h
      simp only at h
      split at h
      · cases h
      · injection h with h
        subst h
        cases k with
        | zero =>
          obtain rfl : (⟨3, [], at_ + wSkip false l⟩ : Tok) = t := by simpa using hk
          exact first _ rfl
        | succ k => simp at hk
    | cons c r =>
      rw [hd] at h
      simp only at h
      have hl1 : r.length + 1 = l.length - wSkip false l := by rw [← List.length_drop, hd]; rfl
      have hm := wMore_le c r
      have hr : (r.drop (wMore c r)).length = r.length - wMore c r := List.length_drop
      split at h
      · rename_i hb
        split at h
        · cases h
        · rename_i hn
          cases hg : wGo f (n + 1) (at_ + wSkip false l + 1 + wMore c r) (r.drop (wMore c r)) with
          | error e => rw [hg] at h; cases h
          | ok us =>
            rw [hg] at h
            injection h with h
            cases k with
            | zero =>
              subst h
              obtain rfl : (⟨wKind c, c :: r.take (wMore c r), at_ + wSkip false l⟩ : Tok) = t := by simpa using hk
              exact first _ rfl
            | succ k =>
              clear first
              subst h
              have hk' : us[k]? = some t := by simpa using hk
              obtain ⟨i1, i2, i3⟩ := wGo_gap hp f (n + 1) _ _ us hg k t hk'
              refine ⟨by omega, by omega, fun g hg2 => ?_⟩
              obtain ⟨g', rfl⟩ : ∃ g', g = g' + 1 := ⟨g - 1, by omega⟩
              obtain ⟨b, hb2⟩ : ∃ b, b = t.at_ - (at_ + wSkip false l + 1 + wMore c r) := ⟨_, rfl⟩
              have ea : t.at_ - at_ = wSkip false l + (1 + (wMore c r + b)) := by omega
              have i4 := i3 g' (by omega)
              rw [← hb2] at i4
              -- the bytes, cut
              have e1 : l.take (t.at_ - at_) ++ (p ++ l.drop (t.at_ - at_)) = l.take (wSkip false l) ++ (c :: (r.take (wMore c r) ++ ((r.drop (wMore c r)).take b ++ (p ++ (r.drop (wMore c r)).drop b)))) := by
                rw [ea]
                have x1 : l.take (wSkip false l + (1 + (wMore c r + b))) = l.take (wSkip false l) ++ (c :: (r.take (wMore c r) ++ (r.drop (wMore c r)).take b)) := by
                  rw [List.take_add, hd, Nat.add_comm 1, List.take_succ_cons, List.take_add]
                have x2 : l.drop (wSkip false l + (1 + (wMore c r + b))) = (r.drop (wMore c r)).drop b := by
                  rw [← List.drop_drop, hd, Nat.add_comm 1, List.drop_succ_cons, List.drop_drop]
                rw [x1, x2]
                simp
              obtain ⟨q, hq⟩ : ∃ q, q = (r.drop (wMore c r)).take b ++ (p ++ (r.drop (wMore c r)).drop b) := ⟨_, rfl⟩
              rw [← hq] at e1 i4
              have hm2 : wMore c (r.take (wMore c r) ++ q) = wMore c r := wMore_gap c r q (fun d q' e => by
                rw [hq] at e
                cases b with
                | zero =>
                  rw [List.take_zero, List.nil_append] at e
                  exact .inl (hp.head e)
                | succ b =>
                  cases hx : r.drop (wMore c r) with
                  | nil =>
                    rw [hx, List.take_nil, List.nil_append] at e
                    exact .inl (hp.head e)
                  | cons d2 q2 =>
                    rw [hx, List.take_succ_cons, List.cons_append] at e
                    injection e with e _
                    subst e
                    exact .inr ⟨q2, rfl⟩)
              have hz : wSkip (wState false (l.take (wSkip false l))) (c :: r) = 0 := by
                have := wSkip_app false (l.take (wSkip false l)) (c :: r) hall
                rw [← hd, ← hl, hpl] at this
                rw [← hd]
                omega
              have e2 : wSkip false (l.take (wSkip false l) ++ (c :: (r.take (wMore c r) ++ q))) = wSkip false l := by
                rw [wSkip_app _ _ _ hall, wSkip_head hz, hpl, Nat.add_zero]
              have e3 : (l.take (wSkip false l) ++ (c :: (r.take (wMore c r) ++ q))).drop (wSkip false l) = c :: (r.take (wMore c r) ++ q) := by
                rw [List.drop_append_of_le_length (by omega), List.drop_of_length_le (by omega), List.nil_append]
              have e4 : (r.take (wMore c r) ++ q).drop (wMore c r) = q := by
                rw [List.drop_append_of_le_length (by rw [List.length_take]; omega), List.drop_of_length_le (by rw [List.length_take]; omega), List.nil_append]
              have e5 : (r.take (wMore c r) ++ q).take (wMore c r) = r.take (wMore c r) := by
                rw [List.take_append_of_le_length (by rw [List.length_take]; omega), List.take_of_length_le (by rw [List.length_take]; omega)]
              rw [e1]
              unfold wGo
              rw [e2, e3]
              simp only
              rw [if_pos hb, if_neg hn, hm2, e4, e5, i4]
              simp
      · cases h
theorem wWords_gap {p l : List UInt8} (hp : Gap p) {ts : List Tok} (h : wWords l = .ok ts) (hl : l.length + p.length ≤ 4096) {k : Nat} {t : Tok} (hk : ts[k]? = some t) :
    t.at_ ≤ l.length ∧ wWords (l.take t.at_ ++ (p ++ l.drop t.at_)) = .ok (ts.take k ++ (ts.drop k).map (Tok.ups p.length)) := by
  unfold wWords at h ⊢
  rw [if_neg (by omega)] at h
  obtain ⟨h1, h2, h3⟩ := wGo_gap hp _ 0 0 l ts h k t hk
  have hlen : (l.take t.at_ ++ (p ++ l.drop t.at_)).length = l.length + p.length := by
    rw [List.length_append, List.length_append, List.length_take, List.length_drop]; omega
  refine ⟨by omega, ?_⟩
  rw [hlen, if_neg (by omega)]
  exact h3 (l.length + p.length + 1) (by omega)
/-- (P8.4) A gap ahead of a token changes no schema. -/
theorem pRead_gap {p l : List UInt8} (hp : Gap p) {ts : List Tok} (h : wWords l = .ok ts) (hl : l.length + p.length ≤ 4096) {k : Nat} {t : Tok} (hk : ts[k]? = some t) : pRead (l.take t.at_ ++ (p ++ l.drop t.at_)) = pRead l := by
  unfold pRead
  rw [(wWords_gap hp h hl hk).2, h]
  simp only
  have e : (Tok.tt ∘ Tok.ups p.length) = Tok.tt := rfl
  rw [List.map_append, List.map_map, e, ← List.map_append, List.take_append_drop]
theorem all_note : ∀ (r q : List UInt8), (∀ c ∈ r, c.toNat ≠ 10) → wAll true (r ++ 10 :: q) = wAll false q ∧ wState true (r ++ 10 :: q) = wState false q
  | [], q, _ => by
    have h1 : wNote true 10 = false := by decide
    have h2 : wPass true 10 = true := by decide
    simp only [List.nil_append, wAll, wState, h1, h2, Bool.true_and, and_self]
  | c :: r, q, h => by
    have hc := h c (List.mem_cons_self ..)
    obtain ⟨h1, h2⟩ := pass_in hc
    obtain ⟨i1, i2⟩ := all_note r q (fun d hd => h d (List.mem_cons_of_mem _ hd))
    rw [List.cons_append, wAll, wState, h1, h2, i1, i2]
    exact ⟨Bool.true_and _, rfl⟩
/-- A blank, a remark, a line feed, a tab: a gap. -/
theorem gap_remark {r : List UInt8} (h : ∀ c ∈ r, c.toNat ≠ 10) : Gap (32 :: 35 :: (r ++ [10, 9])) := by
  have hn := all_note r [9] h
  have hx : ∀ note, wAll note (32 :: 35 :: (r ++ [10, 9])) = true ∧ wState note (32 :: 35 :: (r ++ [10, 9])) = false := by
    intro note
    cases note with
    | false =>
      have a1 : wPass false 32 = true := by decide
      have a2 : wNote false 32 = false := by decide
      have a3 : wPass false 35 = true := by decide
      have a4 : wNote false 35 = true := by decide
      rw [wAll, wState, a1, a2, wAll, wState, a3, a4, hn.1, hn.2]
      decide
    | true =>
      have a1 : wPass true 32 = true := by decide
      have a2 : wNote true 32 = true := by decide
      have a3 : wPass true 35 = true := by decide
      have a4 : wNote true 35 = true := by decide
      rw [wAll, wState, a1, a2, wAll, wState, a3, a4, hn.1, hn.2]
      decide
  exact ⟨by simp, fun d q e => by rw [List.cons.injEq] at e; rw [← e.1]; decide, fun n => (hx n).1, fun n => (hx n).2⟩
end Go.Proofs.YtjjdhdieihmnnaaGreatDoor
/-
  Layer 8: the walk of CanonBlanks.
-/
namespace Go.Proofs.YtjjdhdieihmnnaaGreatDoor
open Go.RowKit

/-- What is put ahead of a token. -/
def gapOf (r : List UInt8) : List UInt8 := 32 :: 35 :: (r ++ [10, 9])
/-- Blanks and a remark ahead of a token: the same form. -/
theorem form_gap {l r t : List UInt8} {ts : List Tok} (h : cForm l = .ok t) (hw : wWords l = .ok ts) (hr : ∀ c ∈ r, c.toNat ≠ 10) (hl : l.length + r.length ≤ 3000) {k : Nat} {x : Tok} (hk : ts[k]? = some x) :
    x.at_ ≤ l.length ∧ cForm (l.take x.at_ ++ (gapOf r ++ l.drop x.at_)) = .ok t := by
  obtain ⟨N, d, h1, h2⟩ := form_ok h
  have hg : Gap (gapOf r) := gap_remark hr
  have hlen : l.length + (gapOf r).length ≤ 4096 := by unfold gapOf; simp; omega
  refine ⟨(wWords_gap hg hw hlen hk).1, ?_⟩
  have e := pRead_gap hg hw hlen hk
  rw [(eRead_is _ _).1 h1] at e
  have e2 := (eRead_is _ _).2 e
  unfold cForm
  rw [e2]
  simp only
  rw [h2]
theorem words_of {l t : List UInt8} (h : cForm l = .ok t) : ∃ ts, wWords l = .ok ts ∧ 0 < ts.length := by
  obtain ⟨N, d, h1, _⟩ := form_ok h
  cases hw : wWords l with
  | error p => rw [eRead_no hw] at h1; cases h1
  | ok ts =>
    refine ⟨ts, rfl, ?_⟩
    have := (wWords_ord hw).2.1
    cases ts with
    | nil => exact absurd rfl this
    | cons t r => simp
theorem rwords_ok (s : ByteArray) (l : List UInt8) (w : World) (hs : Tx s l) {ts : List Tok} (h : wWords l = .ok ts) :
    Calls Tryz.prog 27 #[.string s] w fun e w' => ∃ g c, e = .returned (.tuple #[.slice (some ⟨g, 0, none⟩) ts.length c, .int .i64 0, .int .i64 0]) ∧ Own w' w.heap.size 50 3 (some ⟨g, 0, none⟩) ts.length c (tcs ts) ∧ Turn w w' none := by
  refine (rwords_any s l w hs).mono ?_
  rintro e w' (⟨us, A, n, c, h1, rfl, ho, ht⟩ | ⟨p, er, h1, _⟩)
  · rw [h] at h1
    injection h1 with h1
    subst h1
    have hn := ho.len_
    rw [tcs_len] at hn
    obtain rfl : n = ts.length := by omega
    have hp : 0 < ts.length := by
      have := (wWords_ord h).2.1
      cases ts with
      | nil => exact absurd rfl this
      | cons t r => simp
    obtain ⟨g, rfl, _, _⟩ := ho.head hp
    exact ⟨g, c, rfl, ho, ht⟩
  · rw [h] at h1; cases h1
theorem txt_app (a b : List UInt8) : txt a ++ txt b = txt (a ++ b) := by
  apply ByteArray.ext
  simp [txt]
section
variable {P : Program} {ops : Array Oper} {rest : List Oper} {a : Act} {w : World} {Q : Exit → Act → World → Prop} {o : Oper} {g off : Nat} {t : TypeId} {cs : Array Value} {xs : List Value} {d : TypeDesc}
/-- An array or a struct that is read whole, under a guard that says yes. -/
theorem wp_ldG (hw : Region.wanted o (yielded ops a.tmps) = true) (ty : TypeId) (x : Operand) (ho : o.op = .load ty x) (hx : a.eval x = .pointer (some ⟨g, off, none⟩)) (h : Blk w g t cs) (hs : Sub cs off xs)
    (hu : P.underlying ty = some d) (hd : d.isRow = true) (hi : (P.info? ty).map (·.size) = some xs.length) (hK : wpList P ops Q rest (a.put o.dst (.agg xs.toArray)) w) : wpList P ops Q (o :: rest) a w :=
  BigFrame.wpList_want hw fun _ hK2 => wp_load_mid ty x ho g off hx xs d (h.range hs) hu hd hi (hK2 _ _ hK)
end
theorem take_nxt0 {l : List UInt8} {j : Nat} {b : UInt8} (h : l[j]? = some b) : l.take (j + 1) = l.take j ++ [b] := by
  rw [List.take_add_one, h]; rfl
section
variable {w : World} {l r : List UInt8} {k : Int}
set_option maxRecDepth 100000 in
set_option maxHeartbeats 3200000 in
theorem blanks_no {p : PE} (h : cForm l = .error p) (hC : CT w) (hl : l.length ≤ 140737488355328) : Calls Tryz.prog 6 #[.string (txt l), .int .u16 k, .string (txt r)] w fun e w' => e = .returned (.bool true) ∧ Turn w w' none := by
  obtain ⟨p, er⟩ := p
  have tx := text_no h w hC.lt hl
  have wd := fun (w1 : World) => rwords_any (txt l) l w1 rfl
  have lv := fun {w1 : World} (t : Turn w w1 none) => clives_any w1 (hC.turn t)
  clear h
  go_enter Tryz.func6, Tryz.ntmps6
  go_upto_region 2 with (go_at_call 16; refine tx.mono ?_; rintro e w1 ⟨rfl, hne, ht1⟩)
  go_upto_region 3 with (fail)
  refine (wd _).mono ?_
  rintro e w2 (⟨ts, A, n, c, _, rfl, _, ht2⟩ | ⟨p2, er2, _, _, rfl, ht2⟩)
  · go_wp2_with (go_at_call 21; refine (lv (ht1.trans ht2)).mono ?_; rintro e w3 ⟨rfl, ht3⟩)
    go_ret
    exact ⟨rfl, (ht1.trans ht2).trans ht3⟩
  · go_wp2_with (go_at_call 21; refine (lv (ht1.trans ht2)).mono ?_; rintro e w3 ⟨rfl, ht3⟩)
    go_ret
    exact ⟨rfl, (ht1.trans ht2).trans ht3⟩
set_option maxRecDepth 100000 in
set_option maxHeartbeats 6400000 in
theorem blanks_yes {t : List UInt8} (h : cForm l = .ok t) (hC : CT w) (hl : l.length ≤ 140737488355328) (hr : r.length ≤ 140737488355328) (hk0 : 0 ≤ k) (hk1 : k ≤ 65535) :
    Calls Tryz.prog 6 #[.string (txt l), .int .u16 k, .string (txt r)] w fun e w' => e = .returned (.bool true) ∧ Turn w w' none := by
  obtain ⟨ts, hw, hpos⟩ := words_of h
  have tx := text_ok h w hC.lt hl
  have wd := fun (w1 : World) => rwords_ok (txt l) l w1 rfl hw
  have lv := fun {w1 : World} (t : Turn w w1 none) => clives_any w1 (hC.turn t)
  have z1 : (txt l).size = l.length := txt_size l
  have z2 : (txt r).size = r.length := txt_size r
  have HW := hid hw
  have HF := hid h
  obtain ⟨n, hn⟩ : ∃ n, n = l.length := ⟨_, rfl⟩
  obtain ⟨m, hm⟩ : ∃ m, m = r.length := ⟨_, rfl⟩
  rw [← hn] at hl z1
  rw [← hm] at hr z2
  obtain ⟨S, hS⟩ : ∃ S, S = txt l := ⟨_, rfl⟩
  obtain ⟨Rm, hRm⟩ : ∃ R, R = txt r := ⟨_, rfl⟩
  rw [← hS] at tx wd z1 ⊢
  rw [← hRm] at z2 ⊢
  have HS := hid (And.intro hS hRm)
  have hx : Tx Rm r := hRm
  have HN := hid (And.intro hn hm)
  clear hw h hS hRm hn hm
  go_enter Tryz.func6, Tryz.ntmps6
  go_upto_region 2 with (go_at_call 16; refine tx.mono ?_; rintro e w1 ⟨rfl, ht1⟩)
  go_upto_region 3 with (go_at_call 27; refine (wd _).mono ?_; rintro e w2 ⟨ga, c, rfl, ho, ht2⟩)
  have T2 := ht1.trans ht2
  obtain ⟨N, hN⟩ : ∃ N, N = ts.length := ⟨_, rfl⟩
  rw [← hN] at ho hpos ⊢
  have HNT := hid hN
  have hN0 : ((N : Int) == 0) = false := by rw [beq_eq_false_iff_ne]; omega
  clear hN wd tx
  by_cases hlong : 3000 < n + m
  · have l1 : (3000 : Int) < (n : Int) + (m : Int) := by omega
    clear hlong
    go_wp2_with (go_at_call 21; refine (lv T2).mono ?_; rintro e w3 ⟨rfl, ht3⟩)
    go_ret
    exact ⟨rfl, T2.trans ht3⟩
  · have l1 : ¬((3000 : Int) < (n : Int) + (m : Int)) := by omega
    have hnm : n + m ≤ 3000 := by omega
    clear hlong
    go_wp2
    go_loopw [13] (fun i wr => ∃ j : Nat, j ≤ m ∧ i = .int .i64 (j : Int) ∧ Hid (∀ c ∈ r.take j, c.toNat ≠ 10) ∧ wr = w2) (fun i _ => (m - intOf i).toNat)
    case atStart => exact ⟨0, by omega, rfl, hid (by simp), rfl⟩
    case round =>
      obtain ⟨j, hj, rfl, HR, hwr⟩ := hrel
      by_cases hjm : j < m
      · obtain ⟨d, hd⟩ : ∃ d, r[j]? = some d := ⟨r[j]'(by have := HN.out.2; omega), List.getElem?_eq_getElem (by have := HN.out.2; omega)⟩
        have hdj := hx.at_ hd
        have HD := hid (take_nxt0 hd)
        clear hd
        subst hwr
        by_cases h10 : d.toNat = 10
        · have e1 : ((d.toNat : Int) == 10) = true := by rw [beq_iff_eq]; omega
          clear h10
          go_wp2_with (go_at_call 21; refine (lv T2).mono ?_; rintro e w3 ⟨rfl, ht3⟩)
          go_ret
          exact ⟨rfl, T2.trans ht3⟩
        · have e1 : ((d.toNat : Int) == 10) = false := by rw [beq_eq_false_iff_ne]; omega
          have HX := hid h10
          clear h10
          go_wp2
          refine ⟨⟨j + 1, by omega, by go_num, hid (fun c hc => ?_), ?_⟩, by simp [intOf]; omega⟩
          · rw [HD.out] at hc
            rcases List.mem_append.1 hc with hc | hc
            · exact HR.out c hc
            · obtain rfl : c = d := by simpa using hc
              exact HX.out
          · first | rfl | trivial
      · have hjm2 : j = m := by omega
        have hall : ∀ c ∈ r, c.toNat ≠ 10 := by
          have h1 := HR.out
          rw [List.take_of_length_le (by have := HN.out.2; omega)] at h1
          exact h1
        subst hwr
        have l2 : ¬((j : Int) < (m : Int)) := by omega
        clear hjm hjm2 HR
        obtain ⟨q, hq⟩ : ∃ q : Nat, q = k.toNat % N := ⟨_, rfl⟩
        have hqN : q < N := by rw [hq]; exact Nat.mod_lt _ (by omega)
        have htm : Int.tmod k (N : Int) = (q : Int) := by
          rw [Int.tmod_eq_emod_of_nonneg hk0, hq, Int.natCast_emod, Int.toNat_of_nonneg hk0]
        have hwr : IntKind.i64.wrap k = k := by rw [IntKind.wrap_i64]; omega
        clear hq
        obtain ⟨x, hxq⟩ : ∃ x, ts[q]? = some x := ⟨ts[q]'(by have := HNT.out; omega), List.getElem?_eq_getElem (by have := HNT.out; omega)⟩
        obtain ⟨hat, hfg⟩ := form_gap HF.out HW.out hall (by have := HN.out; omega) hxq
        have c2 := (ho.cell (i := q * 3 + 2) (by omega)).trans (tcs_at hxq).2.2
        obtain ⟨a, ha⟩ : ∃ a, a = x.at_ := ⟨_, rfl⟩
        rw [← ha] at hat hfg c2
        have han : a ≤ n := by have := HN.out.1; omega
        clear hxq ha hat
        have b1 : ¬ 9223372036854775807 < a + 2 := by omega
        have b2 : ¬ 9223372036854775807 < a + 2 + m := by omega
        have b3 : ¬ 9223372036854775807 < a + 2 + m + 2 := by omega
        have b4 : ¬ 9223372036854775807 < a + 2 + m + 2 + (n - a) := by omega
        go_wp2
        refine wp_region_noPanic ?_
        refine wp_region_held_drew (S := fun _ => True) (by kernel_rfl) trivial (fun hHeld => ?_)
        (first | (refine wpAnyH_take (i := 0) (v := undef) rfl (by kernel_rfl) (by kernel_rfl) (by kernel_rfl) (fun _ _ _ h => h) (Or.inr ⟨rfl, rfl⟩) (by assumption) ?_) | (refine wpAnyH_take (i := 0) (v := ?_) rfl (by kernel_rfl) (by kernel_rfl) (by kernel_rfl) (fun _ _ _ h => h) (Or.inl ⟨rfl, ?_⟩) (by assumption) ?_; rotate_left 1; · (intro w hSw; (try dsimp only at hSw); go_simp; (try with_reducible rfl)))); (try simp only [Act.put, List.getElem_toArray, List.getElem_cons_zero, List.getElem_cons_succ, List.setIfInBounds_toArray, List.set_cons_zero, List.set_cons_succ])
        (first | (refine wpAnyH_take (i := 1) (v := undef) rfl (by kernel_rfl) (by kernel_rfl) (by kernel_rfl) (fun _ _ _ h => h) (Or.inr ⟨rfl, rfl⟩) (by assumption) ?_) | (refine wpAnyH_take (i := 1) (v := ?_) rfl (by kernel_rfl) (by kernel_rfl) (by kernel_rfl) (fun _ _ _ h => h) (Or.inl ⟨rfl, ?_⟩) (by assumption) ?_; rotate_left 1; · (intro w hSw; (try dsimp only at hSw); go_simp; (try with_reducible rfl)))); (try simp only [Act.put, List.getElem_toArray, List.getElem_cons_zero, List.getElem_cons_succ, List.setIfInBounds_toArray, List.set_cons_zero, List.set_cons_succ])
        (first | (refine wpAnyH_take (i := 2) (v := undef) rfl (by kernel_rfl) (by kernel_rfl) (by kernel_rfl) (fun _ _ _ h => h) (Or.inr ⟨rfl, rfl⟩) (by assumption) ?_) | (refine wpAnyH_take (i := 2) (v := ?_) rfl (by kernel_rfl) (by kernel_rfl) (by kernel_rfl) (fun _ _ _ h => h) (Or.inl ⟨rfl, ?_⟩) (by assumption) ?_; rotate_left 1; · (intro w hSw; (try dsimp only at hSw); go_simp; (try with_reducible rfl)))); (try simp only [Act.put, List.getElem_toArray, List.getElem_cons_zero, List.getElem_cons_succ, List.setIfInBounds_toArray, List.set_cons_zero, List.set_cons_succ])
        (first | (refine wpAnyH_take (i := 3) (v := undef) rfl (by kernel_rfl) (by kernel_rfl) (by kernel_rfl) (fun _ _ _ h => h) (Or.inr ⟨rfl, rfl⟩) (by assumption) ?_) | (refine wpAnyH_take (i := 3) (v := ?_) rfl (by kernel_rfl) (by kernel_rfl) (by kernel_rfl) (fun _ _ _ h => h) (Or.inl ⟨rfl, ?_⟩) (by assumption) ?_; rotate_left 1; · (intro w hSw; (try dsimp only at hSw); go_simp; (try with_reducible rfl)))); (try simp only [Act.put, List.getElem_toArray, List.getElem_cons_zero, List.getElem_cons_succ, List.setIfInBounds_toArray, List.set_cons_zero, List.set_cons_succ])
        (first | (refine wpAnyH_take (i := 4) (v := undef) rfl (by kernel_rfl) (by kernel_rfl) (by kernel_rfl) (fun _ _ _ h => h) (Or.inr ⟨rfl, rfl⟩) (by assumption) ?_) | (refine wpAnyH_take (i := 4) (v := ?_) rfl (by kernel_rfl) (by kernel_rfl) (by kernel_rfl) (fun _ _ _ h => h) (Or.inl ⟨rfl, ?_⟩) (by assumption) ?_; rotate_left 1; · (intro w hSw; (try dsimp only at hSw); go_simp; (try with_reducible rfl)))); (try simp only [Act.put, List.getElem_toArray, List.getElem_cons_zero, List.getElem_cons_succ, List.setIfInBounds_toArray, List.set_cons_zero, List.set_cons_succ])
        (first | (refine wpAnyH_take (i := 5) (v := undef) rfl (by kernel_rfl) (by kernel_rfl) (by kernel_rfl) (fun _ _ _ h => h) (Or.inr ⟨rfl, rfl⟩) (by assumption) ?_) | (refine wpAnyH_take (i := 5) (v := ?_) rfl (by kernel_rfl) (by kernel_rfl) (by kernel_rfl) (fun _ _ _ h => h) (Or.inl ⟨rfl, ?_⟩) (by assumption) ?_; rotate_left 1; · (intro w hSw; (try dsimp only at hSw); go_simp; (try with_reducible rfl)))); (try simp only [Act.put, List.getElem_toArray, List.getElem_cons_zero, List.getElem_cons_succ, List.setIfInBounds_toArray, List.set_cons_zero, List.set_cons_succ])
        (first | (refine wpAnyH_take (i := 6) (v := undef) rfl (by kernel_rfl) (by kernel_rfl) (by kernel_rfl) (fun _ _ _ h => h) (Or.inr ⟨rfl, rfl⟩) (by assumption) ?_) | (refine wpAnyH_take (i := 6) (v := ?_) rfl (by kernel_rfl) (by kernel_rfl) (by kernel_rfl) (fun _ _ _ h => h) (Or.inl ⟨rfl, ?_⟩) (by assumption) ?_; rotate_left 1; · (intro w hSw; (try dsimp only at hSw); go_simp; (try with_reducible rfl)))); (try simp only [Act.put, List.getElem_toArray, List.getElem_cons_zero, List.getElem_cons_succ, List.setIfInBounds_toArray, List.set_cons_zero, List.set_cons_succ])
        (first | (refine wpAnyH_take (i := 7) (v := undef) rfl (by kernel_rfl) (by kernel_rfl) (by kernel_rfl) (fun _ _ _ h => h) (Or.inr ⟨rfl, rfl⟩) (by assumption) ?_) | (refine wpAnyH_take (i := 7) (v := ?_) rfl (by kernel_rfl) (by kernel_rfl) (by kernel_rfl) (fun _ _ _ h => h) (Or.inl ⟨rfl, ?_⟩) (by assumption) ?_; rotate_left 1; · (intro w hSw; (try dsimp only at hSw); go_simp; (try with_reducible rfl)))); (try simp only [Act.put, List.getElem_toArray, List.getElem_cons_zero, List.getElem_cons_succ, List.setIfInBounds_toArray, List.set_cons_zero, List.set_cons_succ])
        (first | (refine wpAnyH_take (i := 8) (v := undef) rfl (by kernel_rfl) (by kernel_rfl) (by kernel_rfl) (fun _ _ _ h => h) (Or.inr ⟨rfl, rfl⟩) (by assumption) ?_) | (refine wpAnyH_take (i := 8) (v := ?_) rfl (by kernel_rfl) (by kernel_rfl) (by kernel_rfl) (fun _ _ _ h => h) (Or.inl ⟨rfl, ?_⟩) (by assumption) ?_; rotate_left 1; · (intro w hSw; (try dsimp only at hSw); go_simp; (try with_reducible rfl)))); (try simp only [Act.put, List.getElem_toArray, List.getElem_cons_zero, List.getElem_cons_succ, List.setIfInBounds_toArray, List.set_cons_zero, List.set_cons_succ])
        (first | (refine wpAnyH_take (i := 9) (v := undef) rfl (by kernel_rfl) (by kernel_rfl) (by kernel_rfl) (fun _ _ _ h => h) (Or.inr ⟨rfl, rfl⟩) (by assumption) ?_) | (refine wpAnyH_take (i := 9) (v := ?_) rfl (by kernel_rfl) (by kernel_rfl) (by kernel_rfl) (fun _ _ _ h => h) (Or.inl ⟨rfl, ?_⟩) (by assumption) ?_; rotate_left 1; · (intro w hSw; (try dsimp only at hSw); go_simp; (try with_reducible rfl)))); (try simp only [Act.put, List.getElem_toArray, List.getElem_cons_zero, List.getElem_cons_succ, List.setIfInBounds_toArray, List.set_cons_zero, List.set_cons_succ])
        (first | (refine wpAnyH_take (i := 10) (v := undef) rfl (by kernel_rfl) (by kernel_rfl) (by kernel_rfl) (fun _ _ _ h => h) (Or.inr ⟨rfl, rfl⟩) (by assumption) ?_) | (refine wpAnyH_take (i := 10) (v := ?_) rfl (by kernel_rfl) (by kernel_rfl) (by kernel_rfl) (fun _ _ _ h => h) (Or.inl ⟨rfl, ?_⟩) (by assumption) ?_; rotate_left 1; · (intro w hSw; (try dsimp only at hSw); go_simp; (try with_reducible rfl)))); (try simp only [Act.put, List.getElem_toArray, List.getElem_cons_zero, List.getElem_cons_succ, List.setIfInBounds_toArray, List.set_cons_zero, List.set_cons_succ])
        (first | (refine wpAnyH_take (i := 11) (v := undef) rfl (by kernel_rfl) (by kernel_rfl) (by kernel_rfl) (fun _ _ _ h => h) (Or.inr ⟨rfl, rfl⟩) (by assumption) ?_) | (refine wpAnyH_take (i := 11) (v := ?_) rfl (by kernel_rfl) (by kernel_rfl) (by kernel_rfl) (fun _ _ _ h => h) (Or.inl ⟨rfl, ?_⟩) (by assumption) ?_; rotate_left 1; · (intro w hSw; (try dsimp only at hSw); go_simp; (try with_reducible rfl)))); (try simp only [Act.put, List.getElem_toArray, List.getElem_cons_zero, List.getElem_cons_succ, List.setIfInBounds_toArray, List.set_cons_zero, List.set_cons_succ])
        refine wpAnyH_done (by kernel_rfl) ?_ _
        refine NoPanic.normal ?_
        clear hHeld
        have hX2 : S.extract 0 a ++ { data := #[32, 35] } ++ Rm ++ { data := #[10, 9] } ++ S.extract a n = txt (l.take a ++ (gapOf r ++ l.drop a)) := by
          have e1 := txt_cut l 0 a
          have e2 := txt_cut l a (n - a)
          rw [List.drop_zero, Nat.zero_add] at e1
          rw [show a + (n - a) = n by omega, List.take_of_length_le (by rw [List.length_drop]; have := HN.out.1; omega)] at e2
          rw [HS.out.1, HS.out.2, e1, e2]
          show txt (l.take a) ++ txt [32, 35] ++ txt r ++ txt [10, 9] ++ txt (l.drop a) = _
          rw [txt_app, txt_app, txt_app, txt_app]
          congr 1
          unfold gapOf
          simp
        obtain ⟨X, hX⟩ : ∃ X, X = S.extract 0 a ++ { data := #[32, 35] } ++ Rm ++ { data := #[10, 9] } ++ S.extract a n := ⟨_, rfl⟩
        rw [← hX] at hX2 ⊢
        have hLl : (l.take a ++ (gapOf r ++ l.drop a)).length ≤ 140737488355328 := by
          unfold gapOf
          have := HN.out
          simp
          omega
        have tl := fun {w1 : World} (t : Turn w w1 none) => text_ok hfg w1 (hC.turn t).lt hLl
        have pl := fun {w1 : World} (t : Turn w w1 none) => print_ok hfg w1 (hC.turn t) hLl
        have ps := fun {w1 : World} (t : Turn w w1 none) => print_ok HF.out w1 (hC.turn t) (by have := HN.out; omega)
        obtain ⟨Nn, dd, hf1, _⟩ := form_ok HF.out
        obtain ⟨t', hf2, _, hf3, _, hf4⟩ := form_back hf1
        rw [HF.out] at hf2
        injection hf2 with hf2
        subst hf2
        have tt := fun {w1 : World} (q : Turn w w1 none) => text_ok hf3 w1 (hC.turn q).lt (by omega)
        rw [← hX2] at tl pl
        rw [← HS.out.1] at ps
        obtain ⟨Y, hY⟩ : ∃ Y, Y = vbs (Sha.sHash t) := ⟨_, rfl⟩
        have heq : ∀ W : World, (Op.equalIn 10000 41 (.agg Y.toArray) (.agg Y.toArray)).run Tryz.prog W = .ok true W := fun W => by rw [hY]; exact Sha.eq32 _ (Sha.sHash_len _) W
        have hY1 : Y.length = 32 := by rw [hY, vbs_len, Sha.sHash_len]
        have hY2 : ∀ u ∈ Y, u.oneCell' = true := by rw [hY]; exact vbs_one _
        rw [← hY] at ps pl
        have e1 : ((txt t).toList == (txt t).toList) = true := by simp
        have T3 : Turn w wr.drew none := T2.drew
        clear hX hX2 hLl hfg hf1 hf3 hf4 hall hY b1 b2 b3 b4 c2 ho
        obtain ⟨w3, hw3⟩ : ∃ w3, w3 = wr.drew := ⟨_, rfl⟩
        rw [← hw3] at T3 ⊢
        clear hw3
        go_upto_region 13 with (go_at_call 16; refine (tl T3).mono ?_; rintro e w4 ⟨rfl, ht4⟩)
        have T4 := T3.trans ht4
        go_upto_region 14 with (first
          | (go_at_call 24; refine (ps T4).mono ?_; rintro e w5 ⟨rfl, ht5⟩)
          | (refine wp_var rfl rfl 41 _ _ rfl rfl rfl rfl Sha.nul32 (fun _ => rfl) (xs := Y) (fun _ => rfl) (by rw [vbs_len, hY1]; rfl) (Sha.sz32 hY1) hY2 ?_; intro g6 w6 hg6 hb6 ht6))
        have T6 := (T4.trans ht5).trans ht6
        go_upto_region 15 with (first
          | (go_at_call 24; refine (pl T6).mono ?_; rintro e w7 ⟨rfl, ht7⟩)
          | (refine wp_var rfl rfl 41 _ _ rfl rfl rfl rfl Sha.nul32 (fun _ => rfl) (xs := Y) (fun _ => rfl) (by rw [vbs_len, hY1]; rfl) (Sha.sz32 hY1) hY2 ?_; intro g8 w8 hg8 hb8 ht8))
        have T8 := (T6.trans ht7).trans ht8
        go_upto_region 16 with (go_at_call 16; refine (tt T8).mono ?_; rintro e w9 ⟨rfl, ht9⟩)
        have T9 := T8.trans ht9
        have hb69 := ((hb6.turn0 ht7).turn0 ht8).turn0 ht9
        have hb89 := hb8.turn0 ht9
        clear tl pl ps tt hb6 hb8
        go_wp2_with (first
          | (refine wp_ldG (by rfl) 41 _ rfl rfl hb69 (Sub.all Y) Tryz.underlying41 rfl (Sha.sz32 hY1) ?_)
          | (refine wp_ldG (by rfl) 41 _ rfl rfl hb89 (Sub.all Y) Tryz.underlying41 rfl (Sha.sz32 hY1) ?_)
          | (go_at_call 21; refine (lv T9).mono ?_; rintro e w10 ⟨rfl, ht10⟩))
        go_ret
        exact ⟨rfl, T9.trans ht10⟩
end
theorem blanks_walk (s : ByteArray) (k : Int) (r : ByteArray) (w : World) (hC : CT w) (hs : s.size ≤ 140737488355328) (hr : r.size ≤ 140737488355328) (hk0 : 0 ≤ k) (hk1 : k ≤ 65535) :
    Calls Tryz.prog 6 #[.string s, .int .u16 k, .string r] w fun e w' => e = .returned (.bool true) ∧ Turn w w' none := by
  obtain ⟨l, rfl⟩ : ∃ l, s = txt l := ⟨s.data.toList, (txt_of s).symm⟩
  obtain ⟨q, rfl⟩ : ∃ l, r = txt l := ⟨r.data.toList, (txt_of r).symm⟩
  rw [txt_size] at hs hr
  cases h : cForm l with
  | error p => exact blanks_no h hC hs
  | ok t => exact blanks_yes h hC hs hr hk0 hk1
end Go.Proofs.YtjjdhdieihmnnaaGreatDoor
