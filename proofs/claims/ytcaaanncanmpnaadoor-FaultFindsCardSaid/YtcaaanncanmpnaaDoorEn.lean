/-
  Layer 4: the walk of FaultFinds.
-/
import Derived.Test.YtcaaanncanmpnaaDoorEl
namespace Go.Proofs.YtcaaanncanmpnaaDoor
open Go.RowKit Go.Extern.Stop Go.Stop Go.Extern

set_option maxRecDepth 100000 in
set_option maxHeartbeats 8000000 in
theorem finds_walk (n : Int) (A : Option Addr) (m c : Nat) (l : List ByteArray) (s : ByteArray) (w : World) (hH : Hnd w) (hr : Rd w w.heap.size 1 A m (svs l)) (hmc : m ≤ c) (hc : c ≤ maxLen) :
    Calls Tryd.prog 4 #[.int .i64 n, .slice A m c, .string s] w fun e w' => e = .returned (.bool true) ∧ Turn w w' none := by
  have hR60 : Rd w w.heap.size 1 A (cut60 m) (svs (l.take 60)) := few_rd hr
  have hl60 := hR60.len
  rw [svs_len] at hl60
  have kF := few_any A m c w hmc hc
  have hk := cut_le m
  generalize cut60 m = k at *
  have kW := wrap_any n A k c _ _ w hH hR60 (Nat.le_refl _) (by omega)
  rw [take2] at kW
  generalize l.take 60 = ls at *
  have kL := fun w1 ht => lives_any w1 (hH.turn0 (w' := w1) ht)
  have kT := fun w1 ht => atE_any s (wrapE n ls) w1 (hH.turn0 (w' := w1) ht)
  by_cases hn : n = 0
  · subst hn
    have e0 : (atE s (wrapE 0 ls)).val = .nilIface := by
      by_cases h : ls = []
      · rw [h, wrapE_00]; rfl
      · rw [wrapE_0 _ h]; rfl
    rw [e0] at kT
    generalize (wrapE 0 ls).val = v at *
    clear e0 hl60 hr hmc hc
    go_enter Tryd.func4, Tryd.ntmps4
    go_wp2_with (first
      | (go_at_call 9; refine kF.mono ?_; rintro e w1 ⟨rfl, rfl⟩)
      | (go_at_call 10; refine kW.mono ?_; rintro e w1 ⟨rfl, h1⟩)
      | (go_at_call 17; refine (kT _ h1).mono ?_; rintro e w2 ⟨rfl, h2⟩; have hT2 := h1.trans h2)
      | (go_at_call 13; refine (kL _ hT2).mono ?_; rintro e w4 ⟨rfl, h4⟩))
    go_ret
    exact ⟨rfl, hT2.trans h4⟩
  · have e0 : (atE s (wrapE n ls)).val = ev (.num n) (s :: ls.reverse) := by rw [wrapE_ne n _ hn]; simp [atE, Rt.why, hn, Er.val]
    rw [e0] at kT
    generalize (wrapE n ls).val = v at *
    have hb0 : (n == 0) = false := by simpa using hn
    have kX := fun w1 g hH hg => AsF_any (.num n) (s :: ls.reverse) g (.string ⟨#[]⟩) .nilIface w1 hH hg
    have kY := fun w1 ht => why_any (.num n) ls.reverse w1 (hH.turn0 (w' := w1) ht)
    have kZ := fun w1 ht => way_any (.num n) ls.reverse w1 (hH.turn0 (w' := w1) ht) (by rw [List.length_reverse]; omega)
    simp only [Rt.why] at kY
    rw [List.length_reverse, hl60] at kZ
    obtain ⟨T, u, hT⟩ := ev_iface (.num n) ls.reverse
    obtain ⟨T2, u2, hT2⟩ := ev_iface (.num n) (s :: ls.reverse)
    rw [hT] at kY kZ
    rw [hT2] at kT kX
    have HT := hid hT
    clear e0 hl60 hr hmc hc hn hT hT2
    go_enter Tryd.func4, Tryd.ntmps4
    go_wp2_with (first
      | (go_at_call 9; refine kF.mono ?_; rintro e w1 ⟨rfl, rfl⟩)
      | (go_at_call 10; refine kW.mono ?_; rintro e w1 ⟨rfl, h1⟩)
      | (go_at_call 17; refine (kT _ h1).mono ?_; rintro e w2 ⟨rfl, h2⟩; have hT2 := h1.trans h2)
      | (go_at_call 18; refine (kX _ w2.heap.size ((hH.turn0 hT2).turn0 ((Turn.refl _ none).alloc _)) (Blk.new w2 37 _)).mono ?_; rintro e w3 ⟨rfl, hb3, h3⟩; rw [HT.out] at hb3; obtain ⟨c0, c1⟩ := cell2 hb3; have hT3 : Turn w w3 none := (hT2.alloc _).new h3 (fun g hg => by injection hg with hg; have := hT2.size; omega))
      | (go_at_call 11; refine (kY _ hT3).mono ?_; rintro e w4 ⟨rfl, h4⟩; have hT4 := hT3.trans h4; obtain ⟨d0, d1⟩ := cell2 (hb3.turn0 h4))
      | (go_at_call 12; refine (kZ _ hT4).mono ?_; rintro e w5 ⟨A5, c5, rfl, hr5, h5⟩; have hT5 := hT4.trans h5)
      | (go_at_call 13; refine (kL _ hT5).mono ?_; rintro e w6 ⟨rfl, h6⟩))
    go_ret
    exact ⟨rfl, hT5.trans h6⟩
end Go.Proofs.YtcaaanncanmpnaaDoor
