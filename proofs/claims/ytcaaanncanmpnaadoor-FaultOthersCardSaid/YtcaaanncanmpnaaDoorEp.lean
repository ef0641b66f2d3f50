/-
  Layer 4: the walk of FaultOthers.
-/
import Derived.Test.YtcaaanncanmpnaaDoorEl
namespace Go.Proofs.YtcaaanncanmpnaaDoor
open Go.RowKit Go.Extern.Stop Go.Stop Go.Extern

theorem new_any (s : ByteArray) (w : World) : Calls Tryd.prog 20 #[.string s] w fun e w' => e = .returned (.iface 68 (.pointer (some ⟨w.heap.size, 0, none⟩))) ∧ Turn w w' none := by
  go_enter Tryd.func20, Tryd.ntmps20
  go_wp2_with fail
  go_ret
  exact ⟨rfl, (Turn.refl w none).alloc _⟩

set_option maxRecDepth 100000 in
set_option maxHeartbeats 8000000 in
theorem others_walk (s : ByteArray) (A : Option Addr) (m c : Nat) (l : List ByteArray) (w : World) (hH : Hnd w) (hr : Rd w w.heap.size 1 A m (svs l)) (hmc : m ≤ c) (hc : c ≤ maxLen) :
    Calls Tryd.prog 6 #[.string s, .slice A m c] w fun e w' => e = .returned (.bool true) ∧ Turn w w' none := by
  have hR60 : Rd w w.heap.size 1 A (cut60 m) (svs (l.take 60)) := few_rd hr
  have hl60 := hR60.len
  rw [svs_len] at hl60
  have kF := few_any A m c w hmc hc
  have hk := cut_le m
  generalize cut60 m = k at *
  generalize l.take 60 = ls at *
  have HLS := hid hl60
  have kN := new_any s w
  obtain ⟨a, ha⟩ : ∃ a : Addr, a = ⟨w.heap.size, 0, none⟩ := ⟨_, rfl⟩
  rw [← ha] at kN
  have kA := fun l w1 (ht : Turn w w1 none) t => at_ne t (.oth a) l w1 (hH.turn0 ht) (by simp [Rt.why])
  have kL := fun w1 ht => lives_any w1 (hH.turn0 (w' := w1) ht)
  have kI := fun (w1 : World) (ht : Turn w w1 none) => Is_any (.oth a) (.oth a) rfl ls.reverse w1
  have kY := fun w1 ht => why_any (.oth a) ls.reverse w1 (hH.turn0 (w' := w1) ht)
  have kJ := fun w1 ht => isF_any (.oth a) ls.reverse 7 w1 (hH.turn0 (w' := w1) ht)
  have kW := fun w1 ht => way_any (.oth a) ls.reverse w1 (hH.turn0 (w' := w1) ht) (by rw [List.length_reverse]; omega)
  have eI : finds (.oth a) (.oth a) = true := rfl
  have eJ : (if (7 : Int) = 0 then (Rt.oth a).why == 0 else finds (.oth a) (.num 7)) = false := rfl
  rw [eI] at kI
  rw [eJ] at kJ
  simp only [Rt.why] at kY
  simp only [Rt.val] at kI
  rw [List.length_reverse, hl60] at kW
  have HA := hid ha
  clear eI eJ hl60 hr hmc hc ha
  go_enter Tryd.func6, Tryd.ntmps6
  go_wp2_with (first
    | (go_at_call 9; refine kF.mono ?_; rintro e w1 ⟨rfl, rfl⟩)
    | (go_at_call 20; refine kN.mono ?_; rintro e w1 ⟨rfl, h1⟩))
  go_loopw [6, 7] (fun e i wr => ∃ j : Nat, j ≤ k ∧ i = .int .i64 j ∧ e = ev (.oth a) (ls.take j).reverse ∧ Turn w wr none) (fun _ i _ => k - (intOf i).toNat)
  case atStart => exact ⟨0, Nat.zero_le _, rfl, by rw [List.take_zero]; rfl, h1⟩
  case round =>
    obtain ⟨j, hj, rfl, rfl, ht⟩ := hrel
    by_cases hlt : j < k
    · obtain ⟨t, htj⟩ : ∃ t, ls[j]? = some t := ⟨ls[j]'(by rw [HLS.out]; exact hlt), List.getElem?_eq_getElem _⟩
      have hv : (svs ls)[j]? = some (.string t) := by simp [svs, htj]
      obtain ⟨b1, o1, rfl, _, hc1⟩ := (hR60.turn0 ht (Nat.le_refl _)).head (by omega)
      have g1 := hc1 j _ hv
      have hji : (j : Int) < k := by omega
      have hs : (ls.take (j + 1)).reverse = t :: (ls.take j).reverse := by
        rw [List.take_add_one, htj]; simp
      have HS := hid hs
      have kT := kA (ls.take j).reverse wr ht t
      rw [← hs] at kT
      generalize ev (.oth a) (ls.take j).reverse = v at *
      clear hc1 htj hs
      go_wp2_with (go_at_call 17; refine kT.mono ?_; rintro e w2 ⟨rfl, h2⟩)
      go_roundw
      case measure => simp [intOf]; omega
      case rel => exact ⟨j + 1, by omega, by go_num, rfl, ht.trans h2⟩
    · have hs : ls.take j = ls := List.take_of_length_le (by have := HLS.out; omega)
      rw [hs]
      have hji : ¬ (j : Int) < k := by omega
      obtain ⟨T, u, hT⟩ := ev_iface (.oth a) ls.reverse
      rw [hT] at kI kY kJ kW ⊢
      clear hs hT
      go_wp2_with (first
        | (go_at_call 11; refine (kY _ ht).mono ?_; rintro e w2 ⟨rfl, h2⟩; have hT2 := ht.trans h2)
        | (go_at_call 14; refine (kI _ hT2).mono ?_; rintro e w3 ⟨rfl, h3⟩; have hT3 := hT2.trans h3)
        | (go_at_call 12; refine (kW _ hT3).mono ?_; rintro e w4 ⟨A4, c4, rfl, hr4, h4⟩; have hT4 := hT3.trans h4)
        | (go_at_call 15; refine (kJ _ hT4).mono ?_; rintro e w5 ⟨rfl, h5⟩; have hT5 := hT4.trans h5)
        | (go_at_call 13; refine (kL _ hT5).mono ?_; rintro e w6 ⟨rfl, h6⟩))
      go_ret
      exact ⟨rfl, hT5.trans h6⟩
end Go.Proofs.YtcaaanncanmpnaaDoor
