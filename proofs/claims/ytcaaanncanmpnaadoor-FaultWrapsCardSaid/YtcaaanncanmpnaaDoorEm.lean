/-
  Layer 4: the walk of FaultWraps.
-/
import Derived.Test.YtcaaanncanmpnaaDoorEl
namespace Go.Proofs.YtcaaanncanmpnaaDoor
open Go.RowKit Go.Extern.Stop Go.Stop Go.Extern

set_option maxRecDepth 100000 in
set_option maxHeartbeats 8000000 in
theorem wraps_zero (A : Option Addr) (m c : Nat) (l : List ByteArray) (w : World) (hH : Hnd w) (hr : Rd w w.heap.size 1 A m (svs l)) (hmc : m ≤ c) (hc : c ≤ maxLen) :
    Calls Tryd.prog 3 #[.int .i64 0, .slice A m c] w fun e w' => e = .returned (.bool true) ∧ Turn w w' none := by
  have hR60 : Rd w w.heap.size 1 A (cut60 m) (svs (l.take 60)) := few_rd hr
  have hl60 := hR60.len
  rw [svs_len] at hl60
  have kF := few_any A m c w hmc hc
  have hk := cut_le m
  generalize cut60 m = k at *
  have kW := wrap_any 0 A k c _ _ w hH hR60 (Nat.le_refl _) (by omega)
  rw [take2] at kW
  have k3 := fun w1 ht => lives_any w1 (hH.turn0 (w' := w1) ht)
  by_cases h0 : l.take 60 = []
  · rw [h0] at kW hl60
    obtain rfl : k = 0 := hl60.symm
    have k1 := fun w1 ht => whyE_any (wrapE 0 []) w1 (hH.turn0 (w' := w1) ht)
    have k2 := fun w1 ht => wayE_any (wrapE 0 []) w1 (hH.turn0 (w' := w1) ht) (by simp [wrapE, Er.way])
    rw [wrapE_why] at k1
    have e0 : (wrapE 0 []).way = [] := rfl
    rw [e0] at k2
    rw [wrapE_nil] at kW k1 k2
    rw [List.length_nil] at k2
    clear e0 h0 hl60 hR60 hr hmc hc hk
    go_enter Tryd.func3, Tryd.ntmps3
    go_wp2_with (first
      | (go_at_call 9; refine kF.mono ?_; rintro e w1 ⟨rfl, rfl⟩)
      | (go_at_call 10; refine kW.mono ?_; rintro e w1 ⟨rfl, h1⟩)
      | (go_at_call 11; refine (k1 _ h1).mono ?_; rintro e w2 ⟨rfl, h2⟩; have hT2 := h1.trans h2)
      | (go_at_call 12; refine (k2 _ hT2).mono ?_; rintro e w3 ⟨A3, c3, rfl, hr3, h3⟩; have hT3 := hT2.trans h3)
      | (go_at_call 13; refine (k3 _ hT3).mono ?_; rintro e w4 ⟨rfl, h4⟩))
    go_ret
    exact ⟨rfl, hT3.trans h4⟩
  · rw [wrapE_0 _ h0] at kW
    have hk0 : ¬ (k : Int) = 0 := by
      intro e
      exact h0 (List.eq_nil_of_length_eq_zero (by omega))
    have k1 := fun (w1 : World) (ht : Turn w w1 none) => why_nil w1
    have k2 := fun (w1 : World) (ht : Turn w w1 none) => way_nil w1
    have e0 : Er.no.val = .nilIface := rfl
    rw [e0] at kW
    clear e0 h0 hl60 hR60 hr hmc hc
    go_enter Tryd.func3, Tryd.ntmps3
    go_wp2_with (first
      | (go_at_call 9; refine kF.mono ?_; rintro e w1 ⟨rfl, rfl⟩)
      | (go_at_call 10; refine kW.mono ?_; rintro e w1 ⟨rfl, h1⟩)
      | (go_at_call 11; refine (k1 _ h1).mono ?_; rintro e w2 ⟨rfl, h2⟩; have hT2 := h1.trans h2)
      | (go_at_call 12; refine (k2 _ hT2).mono ?_; rintro e w3 ⟨rfl, h3⟩; have hT3 := hT2.trans h3)
      | (go_at_call 13; refine (k3 _ hT3).mono ?_; rintro e w4 ⟨rfl, h4⟩))
    go_ret
    exact ⟨rfl, hT3.trans h4⟩

set_option maxRecDepth 100000 in
set_option maxHeartbeats 8000000 in
theorem wraps_some (n : Int) (A : Option Addr) (m c : Nat) (l : List ByteArray) (w : World) (hH : Hnd w) (hr : Rd w w.heap.size 1 A m (svs l)) (hmc : m ≤ c) (hc : c ≤ maxLen) (hn : n ≠ 0) :
    Calls Tryd.prog 3 #[.int .i64 n, .slice A m c] w fun e w' => e = .returned (.bool true) ∧ Turn w w' none := by
  have hR60 : Rd w w.heap.size 1 A (cut60 m) (svs (l.take 60)) := few_rd hr
  have hl60 := hR60.len
  rw [svs_len] at hl60
  have kF := few_any A m c w hmc hc
  have hk := cut_le m
  generalize cut60 m = k at *
  have kW := wrap_any n A k c _ _ w hH hR60 (Nat.le_refl _) (by omega)
  rw [take2, wrapE_ne n _ hn] at kW
  generalize l.take 60 = ls at *
  have hn0 : ¬ n = 0 := hn
  have hb0 : (n == 0) = false := by simpa using hn
  have HLS := hid hl60
  have kL := fun w1 ht => lives_any w1 (hH.turn0 (w' := w1) ht)
  have kI := fun (w1 : World) (ht : Turn w w1 none) => Is_any (.num n) (.num n) trivial ls.reverse w1
  have kY := fun w1 ht => why_any (.num n) ls.reverse w1 (hH.turn0 (w' := w1) ht)
  have kJ := fun w1 ht => isF_any (.num n) ls.reverse n w1 (hH.turn0 (w' := w1) ht)
  have kZ := fun w1 ht => isF_any (.num n) ls.reverse 0 w1 (hH.turn0 (w' := w1) ht)
  have kA := fun w1 ht => way_any (.num n) ls.reverse w1 (hH.turn0 (w' := w1) ht) (by rw [List.length_reverse]; omega)
  have eI : finds (.num n) (.num n) = true := by simp [finds]
  have eZ : ((Rt.num n).why == 0) = false := by simpa [Rt.why] using hn
  rw [eI] at kI
  simp only [if_neg hn, eI] at kJ
  simp only [if_true, eZ] at kZ
  simp only [Rt.why] at kY
  simp only [Rt.val] at kI
  rw [List.length_reverse, hl60] at kA
  have eV : (Er.an (.num n) ls.reverse).val = ev (.num n) ls.reverse := rfl
  rw [eV] at kW
  obtain ⟨T, u, hT⟩ := ev_iface (.num n) ls.reverse
  rw [hT] at kW kI kY kJ kZ kA
  clear hT eV eI eZ hl60 hr hmc hc hn
  go_enter Tryd.func3, Tryd.ntmps3
  go_wp2_with (first
    | (go_at_call 9; refine kF.mono ?_; rintro e w1 ⟨rfl, rfl⟩)
    | (go_at_call 10; refine kW.mono ?_; rintro e w1 ⟨rfl, h1⟩))
  have hO : Own (w1.alloc (.cells #[] 9)) w.heap.size 9 1 (some ⟨w1.heap.size, 0, none⟩) 0 0 [] := (Own.made w1 w1.heap.size 9 1 0 #[] (Nat.le_refl _) (by decide) rfl).mono h1.size
  go_loopw [7, 8] (fun way i wr => ∃ (j : Nat) (A2 : Option Addr) (c2 : Nat), j ≤ k ∧ i = .int .i64 ((k : Int) - 1 - j) ∧ way = .slice A2 j c2 ∧ Own wr w.heap.size 9 1 A2 j c2 (svs (ls.reverse.take j)) ∧ Turn w wr none) (fun _ i _ => (intOf i + 1).toNat)
  case atStart => exact ⟨0, _, 0, Nat.zero_le _, by simp, rfl, by rw [List.take_zero]; exact hO, h1.alloc _⟩
  case round =>
    clear hO
    obtain ⟨j, A2, c2, hj, rfl, rfl, hown, ht⟩ := hrel
    by_cases hlt : j < k
    · obtain ⟨t, htj⟩ : ∃ t, ls[k - 1 - j]? = some t := ⟨ls[k - 1 - j]'(by rw [HLS.out]; omega), List.getElem?_eq_getElem _⟩
      have hv : (svs ls)[k - 1 - j]? = some (.string t) := by simp [svs, htj]
      obtain ⟨b1, o1, rfl, _, hc1⟩ := (hR60.turn0 ht (Nat.le_refl _)).head (by omega)
      have g1 := hc1 (k - 1 - j) _ hv
      have hrev : ls.reverse.take (j + 1) = ls.reverse.take j ++ [t] := by
        rw [List.take_add_one, List.getElem?_reverse (by rw [HLS.out]; exact hlt), HLS.out, htj]
        rfl
      have HREV := hid hrev
      obtain ⟨q, hq⟩ : ∃ q : Nat, q = k - 1 - j := ⟨_, rfl⟩
      have hqi : ((k : Int) - 1 - j) = (q : Int) := by omega
      have hqk : (q : Int) < k := by omega
      have hqk2 : q < k := by omega
      rw [← hq] at g1
      rw [hqi]
      have HQ := hid hq
      have HQI := hid hqi
      clear hc1 htj hrev hq hqi
      go_wp2_with (at_builtin; refine wp_app rfl _ _ _ rfl elS rfl rfl (hown.alloc (.cells #[.string t] 9)) (Rd.lit wr 9 [.string t]) (by repeat (first | exact ones_nil | refine ones_cons rfl ?_)) (by unfold maxLen; first | omega | (simp; done) | (simp; omega)) (by first | omega | (simp; done) | (simp; omega)) (by have := ht.size; simp; omega) ?_; intro A3 c3 w3 ho3 ht3 hA3)
      go_roundw
      case measure => simp [intOf]
      case rel =>
        refine ⟨j + 1, A3, c3, by omega, ?_, rfl, ?_, (ht.alloc _).new ht3 (fun g hg => (hown.block g hg).1)⟩
        · have := HQ.out
          go_num
        · rw [HREV.out, svs_app]; exact ho3
    · obtain rfl : j = k := by omega
      have hj0 : ¬ (0 : Int) ≤ (j : Int) - 1 - j := by omega
      have hrr : ls.reverse.take j = ls.reverse := List.take_of_length_le (by rw [List.length_reverse, HLS.out]; omega)
      rw [hrr] at hown
      clear hrr hlt
      go_wp2_with (first
        | (go_at_call 14; refine (kI _ ht).mono ?_; rintro e w2 ⟨rfl, h2⟩; have hT2 := ht.trans h2)
        | (go_at_call 11; refine (kY _ hT2).mono ?_; rintro e w3 ⟨rfl, h3⟩; have hT3 := hT2.trans h3)
        | (go_at_call_of 15 (Value.int .i64 n); refine (kJ _ hT3).mono ?_; rintro e w4 ⟨rfl, h4⟩; have hT4 := hT3.trans h4)
        | (go_at_call 15; refine (kZ _ hT4).mono ?_; rintro e w5 ⟨rfl, h5⟩; have hT5 := hT4.trans h5)
        | (go_at_call 12; refine (kA _ hT5).mono ?_; rintro e w6 ⟨A6, c6, rfl, hr6, h6⟩; have hT6 := hT5.trans h6)
        | (go_at_call 16; refine (same_any _ _ _ _ _ ls.reverse _ _ _ hr6 (hown.turn0 ((((h2.trans h3).trans h4).trans h5).trans h6)).rd (by omega)).mono ?_; rintro e w7 ⟨rfl, h7⟩; have hT7 := hT6.trans h7)
        | (go_at_call 13; refine (kL _ hT7).mono ?_; rintro e w8 ⟨rfl, h8⟩))
      go_ret
      exact ⟨rfl, hT7.trans h8⟩
theorem wraps_walk (n : Int) (A : Option Addr) (m c : Nat) (l : List ByteArray) (w : World) (hH : Hnd w) (hr : Rd w w.heap.size 1 A m (svs l)) (hmc : m ≤ c) (hc : c ≤ maxLen) :
    Calls Tryd.prog 3 #[.int .i64 n, .slice A m c] w fun e w' => e = .returned (.bool true) ∧ Turn w w' none := by
  by_cases hn : n = 0
  · subst hn; exact wraps_zero A m c l w hH hr hmc hc
  · exact wraps_some n A m c l w hH hr hmc hc hn
end Go.Proofs.YtcaaanncanmpnaaDoor
