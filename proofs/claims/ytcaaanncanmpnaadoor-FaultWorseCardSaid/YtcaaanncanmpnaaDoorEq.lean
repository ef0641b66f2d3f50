/-
  Layer 4: the walk of FaultWorse.
-/
import Derived.Test.YtcaaanncanmpnaaDoorEl
namespace Go.Proofs.YtcaaanncanmpnaaDoor
open Go.RowKit Go.Extern.Stop Go.Stop Go.Extern

set_option maxRecDepth 100000 in
set_option maxHeartbeats 8000000 in
theorem worse_walk (x y : Int) (A : Option Addr) (m c : Nat) (l : List ByteArray) (w : World) (hH : Hnd w) (hr : Rd w w.heap.size 1 A m (svs l)) (hmc : m ≤ c) (hc : c ≤ maxLen) :
    Calls Tryd.prog 7 #[.int .i64 x, .int .i64 y, .slice A m c] w fun e w' => e = .returned (.bool true) ∧ Turn w w' none := by
  have hR60 : Rd w w.heap.size 1 A (cut60 m) (svs (l.take 60)) := few_rd hr
  have hl60 := hR60.len
  rw [svs_len] at hl60
  have kF := few_any A m c w hmc hc
  have hk := cut_le m
  generalize cut60 m = k at *
  have kW := wrap_any x A k c _ _ w hH hR60 (Nat.le_refl _) (by omega)
  have kV := fun w1 ht => wrap_any y none 0 0 w1.heap.size [] w1 (hH.turn0 (w' := w1) ht) (Rd.none_ _ _ _ 0) (Nat.le_refl _) (by omega)
  rw [take2] at kW
  have kL := fun w1 ht => lives_any w1 (hH.turn0 (w' := w1) ht)
  generalize l.take 60 = ls at *
  have kO := fun w1 ht => worse_any (wrapE x ls) (wrapE y []) w1 (hH.turn0 (w' := w1) ht)
  rw [wrapE_why, wrapE_why] at kO
  have gx := fun w => grave_any x w
  have gy := fun w => grave_any y w
  have ex := fun w => weight_any x w
  have ey := fun w => weight_any y w
  have kX := fun w1 ht => whyE_any (wrapE x ls) w1 (hH.turn0 (w' := w1) ht)
  have kY := fun w1 ht => whyE_any (wrapE y []) w1 (hH.turn0 (w' := w1) ht)
  rw [wrapE_why] at kX kY
  simp only [List.take_nil] at kV
  obtain ⟨p, hp⟩ : ∃ p, gv x = p := ⟨_, rfl⟩
  obtain ⟨q, hq⟩ : ∃ q, gv y = q := ⟨_, rfl⟩
  rw [hp] at kO gx ex
  rw [hq] at kO gy ey
  generalize (wrapE x ls).val = vx at *
  generalize (wrapE y []).val = vy at *
  have hgx : ∀ w, Calls Tryd.prog 21 #[.int .i64 x] w fun e w' => e = .returned (.int .i64 p) ∧ w = w' := gx
  by_cases hxy : x = y
  · subst hxy
    obtain rfl : p = q := hp.symm.trans hq
    have hpp : ¬ p < p := by omega
    simp only [if_neg hpp] at kO
    clear hp hq hl60 hr hmc hc kY gy ey
    go_enter Tryd.func7, Tryd.ntmps7
    go_wp2_with (first
      | (go_at_call 21; refine (gx _).mono ?_; rintro e w1 ⟨rfl, rfl⟩)
      | (go_at_call 22; refine (ex _).mono ?_; rintro e w1 ⟨rfl, rfl⟩)
      | (go_at_call 9; refine kF.mono ?_; rintro e w1 ⟨rfl, rfl⟩)
      | (go_at_call_of 10 (Value.slice A k c); refine kW.mono ?_; rintro e w1 ⟨rfl, h1⟩)
      | (go_at_call 10; refine (kV _ h1).mono ?_; rintro e w2 ⟨rfl, h2⟩; have hT2 := h1.trans h2)
      | (go_at_call 23; refine (kO _ hT2).mono ?_; rintro e w3 ⟨rfl, h3⟩; have hT3 := hT2.trans h3)
      | (go_at_call 11; refine (kX _ hT3).mono ?_; rintro e w4 ⟨rfl, h4⟩; have hT4 := hT3.trans h4)
      | (go_at_call 13; refine (kL _ hT4).mono ?_; rintro e w5 ⟨rfl, h5⟩))
    go_ret
    exact ⟨rfl, hT4.trans h5⟩
  · have HP := hid hp
    have HQ := hid hq
    clear hp hq hl60 hr hmc hc
    by_cases hpq : p < q
    · simp only [if_pos hpq] at kO
      go_enter Tryd.func7, Tryd.ntmps7
      go_wp2_with (first
        | (go_at_call_of 21 (Value.int .i64 x); refine (gx _).mono ?_; rintro e w1 ⟨rfl, rfl⟩)
        | (go_at_call_of 21 (Value.int .i64 y); refine (gy _).mono ?_; rintro e w1 ⟨rfl, rfl⟩)
        | (go_at_call_of 22 (Value.int .i64 x); refine (ex _).mono ?_; rintro e w1 ⟨rfl, rfl⟩)
        | (go_at_call_of 22 (Value.int .i64 y); refine (ey _).mono ?_; rintro e w1 ⟨rfl, rfl⟩)
        | (go_at_call 9; refine kF.mono ?_; rintro e w1 ⟨rfl, rfl⟩)
        | (go_at_call_of 10 (Value.slice A k c); refine kW.mono ?_; rintro e w1 ⟨rfl, h1⟩)
        | (go_at_call 10; refine (kV _ h1).mono ?_; rintro e w2 ⟨rfl, h2⟩; have hT2 := h1.trans h2)
        | (go_at_call 23; refine (kO _ hT2).mono ?_; rintro e w3 ⟨rfl, h3⟩; have hT3 := hT2.trans h3)
        | (go_at_call 11; refine (kY _ hT3).mono ?_; rintro e w4 ⟨rfl, h4⟩; have hT4 := hT3.trans h4)
        | (go_at_call 13; refine (kL _ hT4).mono ?_; rintro e w5 ⟨rfl, h5⟩))
      go_ret
      exact ⟨rfl, hT4.trans h5⟩
    · simp only [if_neg hpq] at kO
      go_enter Tryd.func7, Tryd.ntmps7
      go_wp2_with (first
        | (go_at_call_of 21 (Value.int .i64 x); refine (gx _).mono ?_; rintro e w1 ⟨rfl, rfl⟩)
        | (go_at_call_of 21 (Value.int .i64 y); refine (gy _).mono ?_; rintro e w1 ⟨rfl, rfl⟩)
        | (go_at_call_of 22 (Value.int .i64 x); refine (ex _).mono ?_; rintro e w1 ⟨rfl, rfl⟩)
        | (go_at_call_of 22 (Value.int .i64 y); refine (ey _).mono ?_; rintro e w1 ⟨rfl, rfl⟩)
        | (go_at_call 9; refine kF.mono ?_; rintro e w1 ⟨rfl, rfl⟩)
        | (go_at_call_of 10 (Value.slice A k c); refine kW.mono ?_; rintro e w1 ⟨rfl, h1⟩)
        | (go_at_call 10; refine (kV _ h1).mono ?_; rintro e w2 ⟨rfl, h2⟩; have hT2 := h1.trans h2)
        | (go_at_call 23; refine (kO _ hT2).mono ?_; rintro e w3 ⟨rfl, h3⟩; have hT3 := hT2.trans h3)
        | (go_at_call 11; refine (kX _ hT3).mono ?_; rintro e w4 ⟨rfl, h4⟩; have hT4 := hT3.trans h4)
        | (go_at_call 13; refine (kL _ hT4).mono ?_; rintro e w5 ⟨rfl, h5⟩))
      go_ret
      exact ⟨rfl, hT4.trans h5⟩
end Go.Proofs.YtcaaanncanmpnaaDoor
