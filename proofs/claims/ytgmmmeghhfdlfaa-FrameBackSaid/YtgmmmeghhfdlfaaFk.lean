/-
  Layer 5: the walk of FrameBack.
-/
import Derived.Test.YtgmmmeghhfdlfaaFj
namespace Go.Proofs.Ytgmmmeghhfdlfaa
open Go.RowKit

/-- Of a beginning of frames: all of them, or a next one that is not whole. -/
theorem torn_facts (rows : List (List UInt8)) (hl : ∀ x ∈ rows, x.length ≤ 1048576) (q : Nat) (hq : q ≤ (fAll rows).length) :
    fScan ((fAll rows).take q) = (rows, q, 0) ∨ ∃ k x P E1, rows[k]? = some x ∧ fScan ((fAll rows).take q) = (rows.take k, P, E1) ∧ q < P + fSize x.length ∧ (P = q ∧ E1 = 0 ∨ P < q ∧ E1 = 3) := by
  obtain ⟨k, h1, h2, h3, h4⟩ := fScan_torn rows hl q hq
  rcases h4 with h4 | ⟨x, h5, h6⟩
  · subst h4
    left
    rw [List.take_of_length_le (Nat.le_refl _)] at h2 h3
    have e : (fAll rows).length = q := by omega
    rw [h3, if_pos e, e]
  · refine .inr ⟨k, x, _, _, h5, h3, h6, ?_⟩
    by_cases h : (fAll (rows.take k)).length = q
    · exact .inl ⟨h, if_pos h⟩
    · exact .inr ⟨by omega, if_neg h⟩

/-- The next one, in memory. -/
theorem x_facts {w : World} {B n k : Nat} {A : Option Addr} {vs : List Value} {rows : List (List UInt8)} (hr : Rw w B A n vs rows) (hsm : Small rows) {x : List UInt8} {q P : Nat} (hx : rows[k]? = some x) (hq : q < P + fSize x.length) :
    ∃ b0 off a m kk F, A = some ⟨b0, off, none⟩ ∧ b0 < B ∧ w.cell? ⟨b0, off + k, none⟩ = some (.slice a m kk) ∧ (k : Int) < n ∧ ((k : Int) == (n : Int)) = false ∧ m ≤ 20000 ∧ Hid (zSize (m : Int) = ((F : Nat) : Int)) ∧ (q : Int) < (P : Int) + (F : Int) ∧ (F : Int) ≤ 20012 := by
  have hk := (List.getElem?_eq_some_iff.1 hx).1
  have hl := hr.len
  obtain ⟨a, m, kk, hv, hrx, _, _⟩ := hr.2.2 k x hx
  obtain ⟨b0, off, rfl, hb, hcells⟩ := hr.1.head (by omega)
  have hm := hrx.len
  rw [vbs_len] at hm
  have hml := hsm.one x (List.mem_of_getElem? hx)
  rw [hm] at hml hq
  have h8 := pSize_le m
  exact ⟨b0, off, a, m, kk, fSize m, rfl, hb, hcells k _ hv, by omega, by rw [beq_eq_false_iff_ne]; omega, hml, hid (by unfold zSize; rw [if_pos (by omega), Int.toNat_natCast]), by omega, by unfold fSize; omega⟩

set_option maxRecDepth 100000 in
set_option maxHeartbeats 800000 in
theorem fback_all (A : Option Addr) (n c : Nat) (vs : List Value) (rows : List (List UInt8)) (cut : Int) (w : World) (hr : Rw w w.heap.size A n vs rows) (hnc : n ≤ c) (hc : c ≤ maxLen) (hn : n ≤ 140737488355328) (hx : ∀ x ∈ rows, x.length ≤ 140737488355328)
    (hc0 : 0 ≤ cut) (hc1 : cut ≤ 4294967295) (hsm0 : Small rows) (N q : Nat) (HN : Hid ((fAll rows).length = N)) (hall : N ≤ 22400) (hq : cut % ((N : Int) + 1) = (q : Int)) (hqN : q ≤ N) (HL : Hid (rows.length = n)) (HB : Hid (∀ x ∈ rows, x.length ≤ 1048576)) (HSB : Hid (fScan (fAll rows) = (rows, N, 0)))
    (HST : Hid (fScan ((fAll rows).take q) = (rows, q, 0))) :
    Calls Try.prog 5 #[.slice A n c, .int .u32 cut] w fun e w' => e = .returned (.bool true) ∧ Turn w w' none := by
  have hqNi : (q : Int) ≤ N := by omega
  go_enter Try.func5, Try.ntmps5
  go_wp2_with (first
    | (go_at_call 19; refine (small_or _ _ _ vs rows _ _ hr hn hx).mono ?_; rintro e w' ⟨⟨rfl, hsm⟩ | rfl, rfl⟩)
    | (go_at_call 13; refine (lives_any _).mono ?_; rintro e w8 ⟨rfl, ht8⟩)
    | (go_at_call 20; refine (lput_any _ _ _ vs rows _ _ hr (Nat.le_refl _) (by omega) HB.out (by have := HN.out; omega)).mono ?_; rintro e w1 ⟨A1, c1, rfl, ho1, ht1⟩; rw [HN.out] at ho1; rw [HN.out]; have hcc := ho1.cap; have hqc : q ≤ c1 := (by omega))
    | (go_at_call_of 9 q; refine (own_any _ _ _ ((fAll rows).take q) _ _ (((ho1.turn0 ((ht2.trans ht3).trans ht4)).rd).takeB hqN) (Nat.le_refl _) (by omega)).mono ?_; rintro e w5 ⟨A5, c5, rfl, ho5, ht5⟩; have hT5 := hT4.trans ht5)
    | (go_at_call_of 9 N; refine (own_any _ _ _ (fAll rows) _ _ ho1.rd (Nat.le_refl _) (by omega)).mono ?_; rintro e w2 ⟨A2, c2, rfl, ho2, ht2⟩; have hT2 := ht1.trans ht2)
    | (go_at_call 16; refine (fscan_any _ _ _ ((fAll rows).take q) _ _ ho5.rd (Nat.le_refl _) (by omega)).mono ?_; rintro e w6 ⟨L6, n6, c6, vs6, rfl, how6, ht6⟩; rw [HST.out] at how6; rw [HST.out]; have hT6 := hT5.trans ht6; have hn6 := how6.rw_.len; rw [HL.out] at hn6; subst n6)
    | (go_at_call 16; refine (fscan_any _ _ _ (fAll rows) _ _ ho2.rd (Nat.le_refl _) (by omega)).mono ?_; rintro e w3 ⟨L3, n3, c3, vs3, rfl, how3, ht3⟩; rw [HSB.out] at how3; rw [HSB.out]; have hT3 := hT2.trans ht3; have hn3 := how3.rw_.len; rw [HL.out] at hn3; subst n3)
    | (go_at_call 18; refine (same_self _ _ _ _ _ _ _ _ _ _ _ how6.rw_ ((hr.turn0 hT6 (Nat.le_refl _)).mono hT6.size) (Nat.le_refl _) (by omega)).mono ?_; rintro e w7 ⟨rfl, ht7⟩; have hT7 := hT6.trans ht7)
    | (go_at_call 18; refine (same_self _ _ _ _ rows _ _ _ _ _ _ how3.rw_ ((hr.turn0 hT3 (Nat.le_refl _)).mono hT3.size) (Nat.le_refl _) (by omega)).mono ?_; rintro e w4 ⟨rfl, ht4⟩; have hT4 := hT3.trans ht4))
  · go_ret
    exact ⟨rfl, hT7.trans ht8⟩
  · go_ret
    exact ⟨rfl, ht8⟩

set_option maxRecDepth 100000 in
set_option maxHeartbeats 800000 in
theorem fback_even (A : Option Addr) (n c : Nat) (vs : List Value) (rows : List (List UInt8)) (cut : Int) (w : World) (hr : Rw w w.heap.size A n vs rows) (hnc : n ≤ c) (hc : c ≤ maxLen) (hn : n ≤ 140737488355328) (hx : ∀ x ∈ rows, x.length ≤ 140737488355328)
    (hc0 : 0 ≤ cut) (hc1 : cut ≤ 4294967295) (hsm0 : Small rows) (N q : Nat) (HN : Hid ((fAll rows).length = N)) (hall : N ≤ 22400) (hq : cut % ((N : Int) + 1) = (q : Int)) (hqN : q ≤ N) (HL : Hid (rows.length = n)) (HB : Hid (∀ x ∈ rows, x.length ≤ 1048576)) (HSB : Hid (fScan (fAll rows) = (rows, N, 0)))
    (k : Nat) (x : List UInt8) (hk8 : rows[k]? = some x) (hxq : q < q + fSize x.length) (HST : Hid (fScan ((fAll rows).take q) = (rows.take k, q, 0))) :
    Calls Try.prog 5 #[.slice A n c, .int .u32 cut] w fun e w' => e = .returned (.bool true) ∧ Turn w w' none := by
  have hkn := (x_facts hr hsm0 hk8 hxq)
  obtain ⟨b0, off, a, m, kk, F, rfl, hb0, hcell, hkn, hkb, hm20, HZ, hxF, hFb⟩ := hkn
  have hk8' := hid hk8
  have hkr := (List.getElem?_eq_some_iff.1 hk8).1
  rw [HL.out] at hkr
  clear hk8 hxq
  have hqNi : (q : Int) ≤ N := by omega
  go_enter Try.func5, Try.ntmps5
  go_wp2_with (first
    | (go_at_call 19; refine (small_or _ _ _ vs rows _ _ hr hn hx).mono ?_; rintro e w' ⟨⟨rfl, hsm⟩ | rfl, rfl⟩)
    | (go_at_call 13; refine (lives_any _).mono ?_; rintro e w8 ⟨rfl, ht8⟩)
    | (go_at_call 20; refine (lput_any _ _ _ vs rows _ _ hr (Nat.le_refl _) (by omega) HB.out (by have := HN.out; omega)).mono ?_; rintro e w1 ⟨A1, c1, rfl, ho1, ht1⟩; rw [HN.out] at ho1; rw [HN.out]; have hcc := ho1.cap; have hqc : q ≤ c1 := (by omega))
    | (go_at_call_of 9 q; refine (own_any _ _ _ ((fAll rows).take q) _ _ (((ho1.turn0 ((ht2.trans ht3).trans ht4)).rd).takeB hqN) (Nat.le_refl _) (by omega)).mono ?_; rintro e w5 ⟨A5, c5, rfl, ho5, ht5⟩; have hT5 := hT4.trans ht5)
    | (go_at_call_of 9 N; refine (own_any _ _ _ (fAll rows) _ _ ho1.rd (Nat.le_refl _) (by omega)).mono ?_; rintro e w2 ⟨A2, c2, rfl, ho2, ht2⟩; have hT2 := ht1.trans ht2)
    | (go_at_call 16; refine (fscan_any _ _ _ ((fAll rows).take q) _ _ ho5.rd (Nat.le_refl _) (by omega)).mono ?_; rintro e w6 ⟨L6, n6, c6, vs6, rfl, how6, ht6⟩; rw [HST.out] at how6; rw [HST.out]; have hT6 := hT5.trans ht6; have hn6 := how6.rw_.len; rw [List.length_take, HL.out, Nat.min_eq_left (by omega)] at hn6; obtain rfl : n6 = k := hn6.symm; clear hn6)
    | (go_at_call 16; refine (fscan_any _ _ _ (fAll rows) _ _ ho2.rd (Nat.le_refl _) (by omega)).mono ?_; rintro e w3 ⟨L3, n3, c3, vs3, rfl, how3, ht3⟩; rw [HSB.out] at how3; rw [HSB.out]; have hT3 := hT2.trans ht3; have hn3 := how3.rw_.len; rw [HL.out] at hn3; subst n3)
    | (go_at_call 18; refine (same_self _ _ _ _ _ _ _ _ _ _ _ how6.rw_ (((hr.turn0 hT6 (Nat.le_refl _)).mono hT6.size).take (by omega)) (Nat.le_refl _) (by omega)).mono ?_; rintro e w7 ⟨rfl, ht7⟩; have hT7 := hT6.trans ht7; have hcell7 := (hT7.cell hb0 (by simp)).trans hcell)
    | (go_at_call 18; refine (same_self _ _ _ _ rows _ _ _ _ _ _ how3.rw_ ((hr.turn0 hT3 (Nat.le_refl _)).mono hT3.size) (Nat.le_refl _) (by omega)).mono ?_; rintro e w4 ⟨rfl, ht4⟩; have hT4 := hT3.trans ht4)
    | (go_at_call 12; refine (fsize_any _ _ (by omega) (by omega)).mono ?_; rintro e w' ⟨rfl, rfl⟩; rw [HZ.out]))
  · go_ret
    exact ⟨rfl, hT7.trans ht8⟩
  · go_ret
    exact ⟨rfl, ht8⟩

set_option maxRecDepth 100000 in
set_option maxHeartbeats 800000 in
theorem fback_torn (A : Option Addr) (n c : Nat) (vs : List Value) (rows : List (List UInt8)) (cut : Int) (w : World) (hr : Rw w w.heap.size A n vs rows) (hnc : n ≤ c) (hc : c ≤ maxLen) (hn : n ≤ 140737488355328) (hx : ∀ x ∈ rows, x.length ≤ 140737488355328)
    (hc0 : 0 ≤ cut) (hc1 : cut ≤ 4294967295) (hsm0 : Small rows) (N q : Nat) (HN : Hid ((fAll rows).length = N)) (hall : N ≤ 22400) (hq : cut % ((N : Int) + 1) = (q : Int)) (hqN : q ≤ N) (HL : Hid (rows.length = n)) (HB : Hid (∀ x ∈ rows, x.length ≤ 1048576)) (HSB : Hid (fScan (fAll rows) = (rows, N, 0)))
    (k P : Nat) (x : List UInt8) (hk8 : rows[k]? = some x) (hxq : q < P + fSize x.length) (hPq : (P : Int) < q) (HST : Hid (fScan ((fAll rows).take q) = (rows.take k, P, 3))) :
    Calls Try.prog 5 #[.slice A n c, .int .u32 cut] w fun e w' => e = .returned (.bool true) ∧ Turn w w' none := by
  have hkn := (x_facts hr hsm0 hk8 hxq)
  obtain ⟨b0, off, a, m, kk, F, rfl, hb0, hcell, hkn, hkb, hm20, HZ, hxF, hFb⟩ := hkn
  have hk8' := hid hk8
  have hkr := (List.getElem?_eq_some_iff.1 hk8).1
  rw [HL.out] at hkr
  clear hk8 hxq
  have hPb : ((P : Int) == (q : Int)) = false := by rw [beq_eq_false_iff_ne]; omega
  have hqNi : (q : Int) ≤ N := by omega
  go_enter Try.func5, Try.ntmps5
  go_wp2_with (first
    | (go_at_call 19; refine (small_or _ _ _ vs rows _ _ hr hn hx).mono ?_; rintro e w' ⟨⟨rfl, hsm⟩ | rfl, rfl⟩)
    | (go_at_call 13; refine (lives_any _).mono ?_; rintro e w8 ⟨rfl, ht8⟩)
    | (go_at_call 20; refine (lput_any _ _ _ vs rows _ _ hr (Nat.le_refl _) (by omega) HB.out (by have := HN.out; omega)).mono ?_; rintro e w1 ⟨A1, c1, rfl, ho1, ht1⟩; rw [HN.out] at ho1; rw [HN.out]; have hcc := ho1.cap; have hqc : q ≤ c1 := (by omega))
    | (go_at_call_of 9 q; refine (own_any _ _ _ ((fAll rows).take q) _ _ (((ho1.turn0 ((ht2.trans ht3).trans ht4)).rd).takeB hqN) (Nat.le_refl _) (by omega)).mono ?_; rintro e w5 ⟨A5, c5, rfl, ho5, ht5⟩; have hT5 := hT4.trans ht5)
    | (go_at_call_of 9 N; refine (own_any _ _ _ (fAll rows) _ _ ho1.rd (Nat.le_refl _) (by omega)).mono ?_; rintro e w2 ⟨A2, c2, rfl, ho2, ht2⟩; have hT2 := ht1.trans ht2)
    | (go_at_call 16; refine (fscan_any _ _ _ ((fAll rows).take q) _ _ ho5.rd (Nat.le_refl _) (by omega)).mono ?_; rintro e w6 ⟨L6, n6, c6, vs6, rfl, how6, ht6⟩; rw [HST.out] at how6; rw [HST.out]; have hT6 := hT5.trans ht6; have hn6 := how6.rw_.len; rw [List.length_take, HL.out, Nat.min_eq_left (by omega)] at hn6; obtain rfl : n6 = k := hn6.symm; clear hn6)
    | (go_at_call 16; refine (fscan_any _ _ _ (fAll rows) _ _ ho2.rd (Nat.le_refl _) (by omega)).mono ?_; rintro e w3 ⟨L3, n3, c3, vs3, rfl, how3, ht3⟩; rw [HSB.out] at how3; rw [HSB.out]; have hT3 := hT2.trans ht3; have hn3 := how3.rw_.len; rw [HL.out] at hn3; subst n3)
    | (go_at_call 18; refine (same_self _ _ _ _ _ _ _ _ _ _ _ how6.rw_ (((hr.turn0 hT6 (Nat.le_refl _)).mono hT6.size).take (by omega)) (Nat.le_refl _) (by omega)).mono ?_; rintro e w7 ⟨rfl, ht7⟩; have hT7 := hT6.trans ht7; have hcell7 := (hT7.cell hb0 (by simp)).trans hcell)
    | (go_at_call 18; refine (same_self _ _ _ _ rows _ _ _ _ _ _ how3.rw_ ((hr.turn0 hT3 (Nat.le_refl _)).mono hT3.size) (Nat.le_refl _) (by omega)).mono ?_; rintro e w4 ⟨rfl, ht4⟩; have hT4 := hT3.trans ht4)
    | (go_at_call 12; refine (fsize_any _ _ (by omega) (by omega)).mono ?_; rintro e w' ⟨rfl, rfl⟩; rw [HZ.out]))
  · go_ret
    exact ⟨rfl, hT7.trans ht8⟩
  · go_ret
    exact ⟨rfl, ht8⟩

set_option maxRecDepth 100000 in
set_option maxHeartbeats 800000 in
theorem fback_big (A : Option Addr) (n c : Nat) (vs : List Value) (rows : List (List UInt8)) (cut : Int) (w : World) (hr : Rw w w.heap.size A n vs rows) (hn : n ≤ 140737488355328) (hx : ∀ x ∈ rows, x.length ≤ 140737488355328) (hns : ¬ Small rows) :
    Calls Try.prog 5 #[.slice A n c, .int .u32 cut] w fun e w' => e = .returned (.bool true) ∧ Turn w w' none := by
  go_enter Try.func5, Try.ntmps5
  go_wp2_with (first
    | (go_at_call 19; refine (small_or _ _ _ vs rows _ _ hr hn hx).mono ?_; rintro e w' ⟨⟨rfl, hsm⟩ | rfl, rfl⟩; exact absurd hsm hns)
    | (go_at_call 13; refine (lives_any _).mono ?_; rintro e w8 ⟨rfl, ht8⟩))
  go_ret
  exact ⟨rfl, ht8⟩

theorem fback_walk (A : Option Addr) (n c : Nat) (vs : List Value) (rows : List (List UInt8)) (cut : Int) (w : World) (hr : Rw w w.heap.size A n vs rows) (hnc : n ≤ c) (hc : c ≤ maxLen) (hn : n ≤ 140737488355328) (hx : ∀ x ∈ rows, x.length ≤ 140737488355328)
    (hc0 : 0 ≤ cut) (hc1 : cut ≤ 4294967295) :
    Calls Try.prog 5 #[.slice A n c, .int .u32 cut] w fun e w' => e = .returned (.bool true) ∧ Turn w w' none := by
  by_cases hsm : Small rows
  · have HB : ∀ x ∈ rows, x.length ≤ 1048576 := fun x hx => Nat.le_trans (hsm.one x hx) (by omega)
    obtain ⟨N, hN⟩ : ∃ N, (fAll rows).length = N := ⟨_, rfl⟩
    have hsb := fScan_back rows HB
    rw [hN] at hsb
    have hall := hsm.all
    rw [hN] at hall
    obtain ⟨q, hq⟩ : ∃ q : Nat, cut % ((N : Int) + 1) = (q : Int) := ⟨(cut % ((N : Int) + 1)).toNat, by rw [Int.toNat_of_nonneg (Int.emod_nonneg _ (by omega))]⟩
    have hqN : q ≤ N := by have := Int.emod_lt_of_pos cut (show (0 : Int) < (N : Int) + 1 by omega); omega
    rcases torn_facts rows HB q (by omega) with h | ⟨k, x, P, E1, h1, h2, h3, ⟨rfl, rfl⟩ | ⟨h4, rfl⟩⟩
    · exact fback_all A n c vs rows cut w hr hnc hc hn hx hc0 hc1 hsm N q (hid hN) hall hq hqN (hid hr.len) (hid HB) (hid hsb) (hid h)
    · exact fback_even A n c vs rows cut w hr hnc hc hn hx hc0 hc1 hsm N P (hid hN) hall hq hqN (hid hr.len) (hid HB) (hid hsb) k x h1 h3 (hid h2)
    · exact fback_torn A n c vs rows cut w hr hnc hc hn hx hc0 hc1 hsm N q (hid hN) hall hq hqN (hid hr.len) (hid HB) (hid hsb) k P x h1 h3 (by omega) (hid h2)
  · exact fback_big A n c vs rows cut w hr hn hx hsm
end Go.Proofs.Ytgmmmeghhfdlfaa
