/-
  Layer 4: the walk of FaultRoots.
-/
import Derived.Test.YtcaaanncanmpnaaDoorEl
namespace Go.Proofs.YtcaaanncanmpnaaDoor
open Go.RowKit Go.Extern.Stop Go.Stop Go.Extern

set_option maxRecDepth 100000 in
set_option maxHeartbeats 8000000 in
theorem roots_walk (n : Int) (A : Option Addr) (m c : Nat) (l : List ByteArray) (w : World) (hH : Hnd w) (hr : Rd w w.heap.size 1 A m (svs l)) (hmc : m ≤ c) (hc : c ≤ maxLen) :
    Calls Tryd.prog 5 #[.int .i64 n, .slice A m c] w fun e w' => e = .returned (.bool true) ∧ Turn w w' none := by
  have hR60 : Rd w w.heap.size 1 A (cut60 m) (svs (l.take 60)) := few_rd hr
  have hl60 := hR60.len
  rw [svs_len] at hl60
  have kF := few_any A m c w hmc hc
  have hk := cut_le m
  generalize cut60 m = k at *
  have kW := wrap_any n A k c _ _ w hH hR60 (Nat.le_refl _) (by omega)
  rw [take2] at kW
  generalize l.take 60 = ls at *
  have kL := fun w1 ht => lives_any w1 (hH.turn0 (w' := w1) ht)
  have kR := fun w1 ht => rootE_any (wrapE n ls) w1 (hH.turn0 (w' := w1) ht)
  have kN := fun (w1 : World) (ht : Turn w w1 none) => root_nil w1
  by_cases hn : n = 0
  · subst hn
    obtain ⟨x, hx, hx2⟩ : ∃ x : Er, (wrapE 0 ls).root = x ∧ x.why = 0 := by
      by_cases h : ls = []
      · rw [h, wrapE_00]; exact ⟨_, rfl, rfl⟩
      · rw [wrapE_0 _ h]; exact ⟨_, rfl, rfl⟩
    rw [hx] at kR
    have kY := fun w1 ht => whyE_any x w1 (hH.turn0 (w' := w1) ht)
    rw [hx2] at kY
    generalize (wrapE 0 ls).val = v at *
    generalize x.val = v2 at *
    clear hx hx2 hl60 hr hmc hc kN
    go_enter Tryd.func5, Tryd.ntmps5
    go_wp2_with (first
      | (go_at_call 9; refine kF.mono ?_; rintro e w1 ⟨rfl, rfl⟩)
      | (go_at_call 10; refine kW.mono ?_; rintro e w1 ⟨rfl, h1⟩)
      | (go_at_call 19; refine (kR _ h1).mono ?_; rintro e w2 ⟨rfl, h2⟩; have hT2 := h1.trans h2)
      | (go_at_call 11; refine (kY _ hT2).mono ?_; rintro e w3 ⟨rfl, h3⟩; have hT3 := hT2.trans h3)
      | (go_at_call 13; refine (kL _ hT3).mono ?_; rintro e w4 ⟨rfl, h4⟩))
    go_ret
    exact ⟨rfl, hT3.trans h4⟩
  · have hb0 : (n == 0) = false := by simpa using hn
    have kR : ∀ w1, Turn w w1 none → Calls Tryd.prog 19 #[(wrapE n ls).val] w1 fun e w' => e = .returned (.iface 24 (.int .i64 n)) ∧ Turn w1 w' none := fun w1 ht => by
      have h := kR w1 ht
      rw [wrapE_ne n _ hn] at h ⊢
      exact h
    have tA : ∀ (v : Value) (w : World), (Instr.typeAssert (.iface 24 v) 26 24 true).run Tryd.prog w = .ok (.tuple #[v, .bool true]) w := fun v w => by kernel_rfl
    generalize (wrapE n ls).val = v at *
    clear hl60 hr hmc hc
    go_enter Tryd.func5, Tryd.ntmps5
    go_wp2_with (first
      | (go_at_call 9; refine kF.mono ?_; rintro e w1 ⟨rfl, rfl⟩)
      | (go_at_call 10; refine kW.mono ?_; rintro e w1 ⟨rfl, h1⟩)
      | (go_at_call_of 19 v; refine (kR _ h1).mono ?_; rintro e w2 ⟨rfl, h2⟩; have hT2 := h1.trans h2)
      | (go_at_call 19; refine (kN _ hT2).mono ?_; rintro e w3 ⟨rfl, h3⟩; have hT3 := hT2.trans h3)
      | (go_at_call 13; refine (kL _ hT3).mono ?_; rintro e w4 ⟨rfl, h4⟩))
    go_ret
    exact ⟨rfl, hT3.trans h4⟩
end Go.Proofs.YtcaaanncanmpnaaDoor
