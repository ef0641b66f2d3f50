/-
  Layer 4: safely, and the closures that it is handed (contracts).
-/
import Derived.Test.YtcaaanncanmpnaaDoorEe
import Derived.Test.YtcaaanncanmpnaaDoorEf
import Derived.Defers
import Derived.Recover
namespace Go.Proofs.YtcaaanncanmpnaaDoor
open Go.RowKit Go.Extern.Stop Go.Stop Go.Extern

/-- The deferred closure, of a frame that returns: recover finds nothing. -/
theorem idle_any (w : World) : CallsD Tryd.prog 34 #[] .returning w fun e u' w' => e = .returned (.tuple #[]) ∧ u' = .returning ∧ w' = w := by
  refine callsD_of_wpS Tryd.func34 rfl fun c₀ cs hu => ?_
  apply wpS_region
  cases c₀
  simp_all [wpOpsS, go_sem, recoverD, Tryd.ntmps34, Exit.thenS, bodyPostS, results, Tryd.results34]

theorem safelyW (a b : Value) (v : Bool) (w : World) (R : World → Prop) (h : Calls Tryd.prog 25 #[a, b] w fun e w' => e = .returned (.bool v) ∧ R w') :
    Calls Tryd.prog 24 #[.func (.func 25) #[] #[a, b]] w fun e w' => e = .returned (.bool v) ∧ R w' := by
  go_enter_defers Tryd.func24, Tryd.ntmps24
  go_wp2_with (go_at_call 25; refine h.mono ?_; rintro e w1 ⟨rfl, hR⟩)
  refine leaves_cons (f := 34) (args := #[]) (by simp) (by simp [go_sem]) ?_
  refine (idle_any _).mono ?_
  rintro e u' w'' ⟨rfl, rfl, rfl⟩
  exact ⟨_, results_tmp rfl _ _ _, rfl, hR⟩

theorem safelyI (a b : Value) (v : Bool) (w : World) (R : World → Prop) (h : Calls Tryd.prog 29 #[a, b] w fun e w' => e = .returned (.bool v) ∧ R w') :
    Calls Tryd.prog 24 #[.func (.func 29) #[] #[a, b]] w fun e w' => e = .returned (.bool v) ∧ R w' := by
  go_enter_defers Tryd.func24, Tryd.ntmps24
  go_wp2_with (go_at_call 29; refine h.mono ?_; rintro e w1 ⟨rfl, hR⟩)
  refine leaves_cons (f := 34) (args := #[]) (by simp) (by simp [go_sem]) ?_
  refine (idle_any _).mono ?_
  rintro e u' w'' ⟨rfl, rfl, rfl⟩
  exact ⟨_, results_tmp rfl _ _ _, rfl, hR⟩

theorem safelyO (a b : Value) (v : Bool) (w : World) (R : World → Prop) (h : Calls Tryd.prog 35 #[a, b] w fun e w' => e = .returned (.bool v) ∧ R w') :
    Calls Tryd.prog 24 #[.func (.func 35) #[] #[a, b]] w fun e w' => e = .returned (.bool v) ∧ R w' := by
  go_enter_defers Tryd.func24, Tryd.ntmps24
  go_wp2_with (go_at_call 35; refine h.mono ?_; rintro e w1 ⟨rfl, hR⟩)
  refine leaves_cons (f := 34) (args := #[]) (by simp) (by simp [go_sem]) ?_
  refine (idle_any _).mono ?_
  rintro e u' w'' ⟨rfl, rfl, rfl⟩
  exact ⟨_, results_tmp rfl _ _ _, rfl, hR⟩

/-! ### The closures -/
set_option maxHeartbeats 800000 in
theorem whyC_any (r : Rt) (l : List ByteArray) (pe g : Nat) (w : World) (hH : Hnd w) (he : w.cell? ⟨pe, 0, none⟩ = some (ev r l)) (hg : Blk w g 24 #[.int .i64 0]) :
    Calls Tryd.prog 25 #[.pointer (some ⟨pe, 0, none⟩), .pointer (some ⟨g, 0, none⟩)] w fun e w' => AsN g r w w' e := by
  have key := AsN_any r l g w hH hg
  obtain ⟨T, u, hT⟩ := ev_iface r l
  rw [hT] at key he
  clear hT
  go_enter Tryd.func25, Tryd.ntmps25
  cases r with
  | num n =>
    go_wp2_with (go_at_call 18; refine key.mono ?_; rintro e w1 ⟨rfl, h1, h2⟩)
    go_ret
    exact ⟨rfl, h1, h2⟩
  | oth a =>
    go_wp2_with (go_at_call 18; refine key.mono ?_; rintro e w1 ⟨rfl, h1, h2⟩)
    go_ret
    exact ⟨rfl, h1, h2⟩

set_option maxHeartbeats 800000 in
theorem outC_any (r : Rt) (l : List ByteArray) (pe g : Nat) (o0 o1 : Value) (w : World) (hH : Hnd w) (he : w.cell? ⟨pe, 0, none⟩ = some (ev r l)) (hg : Blk w g 37 #[o0, o1]) :
    Calls Tryd.prog 35 #[.pointer (some ⟨pe, 0, none⟩), .pointer (some ⟨g, 0, none⟩)] w fun e w' => AsF g o0 o1 r l w w' e := by
  have key := AsF_any r l g o0 o1 w hH hg
  obtain ⟨T, u, hT⟩ := ev_iface r l
  rw [hT] at key he
  clear hT
  go_enter Tryd.func35, Tryd.ntmps35
  cases l with
  | nil =>
    go_wp2_with (go_at_call 18; refine key.mono ?_; rintro e w1 ⟨rfl, h1, h2⟩)
    go_ret
    exact ⟨rfl, h1, h2⟩
  | cons s l2 =>
    go_wp2_with (go_at_call 18; refine key.mono ?_; rintro e w1 ⟨rfl, h1, h2⟩)
    go_ret
    exact ⟨rfl, h1, h2⟩
theorem outC_nil (pe : Nat) (p : Value) (w : World) (he : w.cell? ⟨pe, 0, none⟩ = some .nilIface) :
    Calls Tryd.prog 35 #[.pointer (some ⟨pe, 0, none⟩), p] w fun e w' => e = .returned (.bool false) ∧ w' = w := by
  go_enter Tryd.func35, Tryd.ntmps35
  go_wp2_with (go_at_call 18; refine (As_nil _ _).mono ?_; rintro e w1 ⟨rfl, rfl⟩)
  go_ret
  exact ⟨rfl, rfl⟩

set_option maxHeartbeats 800000 in
theorem isC_any (r : Rt) (l : List ByteArray) (m : Int) (pe g : Nat) (w : World) (he : w.cell? ⟨pe, 0, none⟩ = some (ev r l)) (hg : w.cell? ⟨g, 0, none⟩ = some (.int .i64 m)) :
    Calls Tryd.prog 29 #[.pointer (some ⟨pe, 0, none⟩), .pointer (some ⟨g, 0, none⟩)] w fun e w' => e = .returned (.bool (finds r (.num m))) ∧ Turn w w' none := by
  have key := Is_any r (.num m) (by cases r <;> trivial) l w
  obtain ⟨T, u, hT⟩ := ev_iface r l
  rw [hT] at key he
  clear hT
  simp only [Rt.val] at key
  go_enter Tryd.func29, Tryd.ntmps29
  go_wp2_with (go_at_call 14; refine key.mono ?_; rintro e w1 ⟨rfl, h1⟩)
  go_ret
  exact ⟨rfl, h1⟩
end Go.Proofs.YtcaaanncanmpnaaDoor
