/-
  Layer 4: errors.Is (contracts).
-/
import Derived.Test.YtcaaanncanmpnaaDoorEc
namespace Go.Proofs.YtcaaanncanmpnaaDoor
open Go.RowKit Go.Extern.Stop Go.Stop Go.Extern

/-- Whether errors.Is finds the root t in an error whose root is r (two other errors: only where they are one). -/
def finds (r t : Rt) : Bool :=
  match r, t with
  | .num n, .num m => n == m
  | .oth _, .oth _ => true
  | _, _ => false
/-- The pairs that are asked for. -/
def asked (r t : Rt) : Prop :=
  match r, t with
  | .oth a, .oth b => a = b
  | .num _, .oth _ => False
  | _, _ => True

set_option maxRecDepth 100000 in
set_option maxHeartbeats 4000000 in
theorem is_any (r t : Rt) (hrt : asked r t) (l : List ByteArray) (w : World) :
    Calls Tryd.prog 28 #[ev r l, t.val, .bool true] w fun e w' => e = .returned (.bool (finds r t)) ∧ Turn w w' none := by
  obtain ⟨T, u, hT⟩ := ev_iface r l
  have HT := hid hT
  rw [hT]
  clear hT
  go_enter Tryd.func28, Tryd.ntmps28
  go_wp2_with fail
  go_loopg [0] l.length (fun k e wr => ∃ l' : List ByteArray, l'.length = k ∧ e = ev r l' ∧ Turn w wr none)
  case atStart => exact ⟨l, rfl, HT.out.symm, Turn.refl w none⟩
  case round =>
    obtain ⟨l', hk, rfl, ht⟩ := hrel
    have HK := hid hk
    clear hk
    rcases l' with _ | ⟨s, l2⟩
    · rw [ev_nil] at *
      rcases r with n | a
      · rcases t with m | b
        · have nA := noIsN
          have nU := noUnwrapN
          have nV := noUnwrapsN
          have heq := Lib.run_eql_iface_int (P := Tryd.prog) wr n m (k := .i64) Tryd.underlying26 (show (Tryd.prog.info? 24).map (·.comparable) = some true by kernel_rfl) Tryd.underlying24
          by_cases hnm : n = m
          · subst hnm
            rw [beq_self_eq_true] at heq
            simp only [Rt.val]
            go_wp2_with fail
            go_ret
            exact ⟨by simp [finds], ht⟩
          · have hb : (n == m) = false := by simpa using hnm
            rw [hb] at heq
            simp only [Rt.val]
            go_wp2_with fail
            go_ret
            exact ⟨by simp [finds, hb], ht⟩
        · exact hrt.elim
      · rcases t with m | b
        · have nA := noIsS
          have nU := noUnwrapS
          have nV := noUnwrapsS
          have hty := run_eql_iface_types (P := Tryd.prog) 68 24 (.pointer (some a)) (.int .i64 m) Tryd.underlying26 (by decide)
          simp only [Rt.val]
          go_wp2_with fail
          go_ret
          exact ⟨rfl, ht⟩
        · obtain rfl : a = b := hrt
          obtain ⟨i, hi, hcmp⟩ := Option.map_eq_some_iff.1 (show (Tryd.prog.info? 68).map (·.comparable) = some true by kernel_rfl)
          obtain ⟨j, hj, hjs⟩ := Option.map_eq_some_iff.1 (show (Tryd.prog.info? 70).map (·.size) = some 1 by kernel_rfl)
          have heq := run_eql_iface_ptr_same (P := Tryd.prog) wr a Tryd.underlying26 Tryd.underlying68 hi hcmp hj
          simp only [Rt.val]
          go_wp2_with fail
          go_ret
          exact ⟨rfl, ht⟩
    · have nA := noIsF
      have hU := hasUnwrapF
      have mU := mUnwrap
      obtain ⟨T2, u2, hT2⟩ := ev_iface r l2
      have HT2 := hid hT2
      rw [ev_cons, hT2]
      clear hT2
      obtain ⟨T3, u3, hT3, hne⟩ : ∃ T3 u3, t.val = .iface T3 u3 ∧ 37 ≠ T3 := by cases t <;> exact ⟨_, _, rfl, by decide⟩
      have HT3 := hid hT3
      rw [hT3]
      clear hT3
      have hty := run_eql_iface_types (P := Tryd.prog) 37 T3 (.agg #[.string s, .iface T2 u2]) u3 Tryd.underlying26 hne
      go_wp2_with (go_at_call 57; refine (unwrap_any _ _ _).mono ?_; rintro e w1 ⟨rfl, ht1⟩)
      rw [← HT3.out]
      go_roundg l2.length
      case measure => have := HK.out; simp at this; omega
      case rel => exact ⟨l2, rfl, HT2.out.symm, ht.trans ht1⟩

set_option maxRecDepth 100000 in
set_option maxHeartbeats 4000000 in
theorem Is_any (r t : Rt) (hrt : asked r t) (l : List ByteArray) (w : World) :
    Calls Tryd.prog 14 #[ev r l, t.val] w fun e w' => e = .returned (.bool (finds r t)) ∧ Turn w w' none := by
  have hTO := @run_callFunc_extern Tryd.prog 27 _ ReflectliteType.typeOf Tryd.func27 (by kernel_rfl) (by kernel_rfl) (by kernel_rfl) (by kernel_rfl)
  have hCO := @run_callFunc_extern Tryd.prog 64 _ cmpE Tryd.func64 (by kernel_rfl) (by kernel_rfl) (by kernel_rfl) (by kernel_rfl)
  have mC := mComparable
  have tN := typeOfN
  have tS := typeOfS
  have cN := comparableN
  have cS := comparableS
  have key := is_any r t hrt l
  obtain ⟨T, u, hT⟩ := ev_iface r l
  rw [hT] at key ⊢
  clear hT
  rcases t with m | b
  · simp only [Rt.val] at key ⊢
    go_enter Tryd.func14, Tryd.ntmps14
    go_wp2_with (go_at_call 28; refine (key _).mono ?_; rintro e w1 ⟨rfl, ht1⟩)
    go_ret
    exact ⟨rfl, ht1⟩
  · simp only [Rt.val] at key ⊢
    go_enter Tryd.func14, Tryd.ntmps14
    go_wp2_with (go_at_call 28; refine (key _).mono ?_; rintro e w1 ⟨rfl, ht1⟩)
    go_ret
    exact ⟨rfl, ht1⟩
end Go.Proofs.YtcaaanncanmpnaaDoor
