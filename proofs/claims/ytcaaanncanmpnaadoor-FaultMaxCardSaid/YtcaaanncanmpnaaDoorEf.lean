/-
  Layer 4: errors.As, at both targets (contracts).
-/
import Derived.Test.YtcaaanncanmpnaaDoorEc
import Derived.Test.YtcaaanncanmpnaaDoorEd
namespace Go.Proofs.YtcaaanncanmpnaaDoor
open Go.RowKit Go.Extern.Stop Go.Stop Go.Extern

theorem As_nil (t : Value) (w : World) : Calls Tryd.prog 18 #[.nilIface, t] w fun e w' => e = .returned (.bool false) ∧ w' = w := by
  go_enter Tryd.func18, Tryd.ntmps18
  go_wp2_with fail
  go_ret
  exact ⟨rfl, rfl⟩

set_option maxRecDepth 100000 in
set_option maxHeartbeats 4000000 in
theorem AsN_of (T : TypeId) (u : Value) (g : Nat) (w : World) (hH : Hnd w) (hg : g < w.heap.size) (R : Value → World → Prop)
    (h : ∀ w1 b, Turn w w1 none → w1.cell? ⟨b, 0, none⟩ = some (.pointer (some ⟨g, 0, none⟩)) →
      Calls Tryd.prog 33 #[.iface T u, .iface 51 (.pointer (some ⟨g, 0, none⟩)), .agg #[.pointer (some ⟨1, 51, none⟩), .pointer (some ⟨b, 0, none⟩), .int .u64 150], .iface 72 (.agg #[.pointer (some ⟨1, 24, none⟩)])] w1
        fun e w' => ∃ v, e = .returned v ∧ R v w') :
    Calls Tryd.prog 18 #[.iface T u, .iface 51 (.pointer (some ⟨g, 0, none⟩))] w fun e w' => ∃ v, e = .returned v ∧ R v w' := by
  have hVO := @run_callFunc_extern Tryd.prog 30 _ (fun args => ReflectliteValue.unpack (args.getD 0 (.tuple #[]))) Tryd.func30 (by kernel_rfl) (by kernel_rfl) (by kernel_rfl) (by kernel_rfl)
  have hTY := @run_callFunc_extern Tryd.prog 31 _ (ReflectliteValue.methodAny (ReflectliteValue.valueError "reflectlite.Value.Type" 0) (fun t _ _ _ => ReflectliteType.toType t)) Tryd.func31 (by kernel_rfl) (by kernel_rfl) (by kernel_rfl) (by kernel_rfl)
  have hNI := @run_callFunc_extern Tryd.prog 32 _ (ReflectliteValue.method (ReflectliteValue.valueError "reflectlite.Value.IsNil" 0) ReflectliteValue.isNil) Tryd.func32 (by kernel_rfl) (by kernel_rfl) (by kernel_rfl) (by kernel_rfl)
  have hKI := @run_callFunc_extern Tryd.prog 52 _ (ReflectliteType.abiMethod fun t => do pure (.int .u8 (← Rtype.kind t))) Tryd.func52 (by kernel_rfl) (by kernel_rfl) (by kernel_rfl) (by kernel_rfl)
  have hEL := @run_callFunc_extern Tryd.prog 65 _ (ReflectliteType.method ReflectliteType.elem) Tryd.func65 (by kernel_rfl) (by kernel_rfl) (by kernel_rfl) (by kernel_rfl)
  have hIM := @run_callFunc_extern Tryd.prog 66 _ (ReflectliteType.relation "Implements" ReflectliteType.implements_) Tryd.func66 (by kernel_rfl) (by kernel_rfl) (by kernel_rfl) (by kernel_rfl)
  have vO := valueOfN
  have tY := typeN
  have mK := mKind
  have mE := mElem
  have mI := mImplements
  have kP := kindPN
  have kE := kindN
  have eL := elemN
  have iM := implementsN
  have n8 := isNilN ⟨w.heap.size, 0, none⟩ ⟨g, 0, none⟩ ((w.alloc (.cells #[.pointer (some ⟨g, 0, none⟩)] 51)).alloc (.cells #[.pointer (some ⟨1, 51, none⟩), .pointer (some ⟨w.heap.size, 0, none⟩), .int .u64 150] 61)) (by simp)
  have hT2 : Turn w ((w.alloc (.cells #[.pointer (some ⟨g, 0, none⟩)] 51)).alloc (.cells #[.pointer (some ⟨1, 51, none⟩), .pointer (some ⟨w.heap.size, 0, none⟩), .int .u64 150] 61)) none := ((Turn.refl w none).alloc _).alloc _
  have hg2 := hH.turn0 hT2
  have hc2 : ((w.alloc (.cells #[.pointer (some ⟨g, 0, none⟩)] 51)).alloc (.cells #[.pointer (some ⟨1, 51, none⟩), .pointer (some ⟨w.heap.size, 0, none⟩), .int .u64 150] 61)).cell? ⟨w.heap.size, 0, none⟩ = some (.pointer (some ⟨g, 0, none⟩)) := by simp
  have h2 := h _ _ hT2 hc2
  unfold Hnd at hg2
  clear hc2 h
  go_enter Tryd.func18, Tryd.ntmps18
  go_wp2_with (go_at_call 33; refine h2.mono ?_; rintro e w1 ⟨v, rfl, hR⟩)
  go_ret
  exact ⟨v, rfl, hR⟩

set_option maxRecDepth 100000 in
set_option maxHeartbeats 4000000 in
theorem AsF_of (T : TypeId) (u : Value) (g : Nat) (w : World) (hH : Hnd w) (hg : g < w.heap.size) (R : Value → World → Prop)
    (h : ∀ w1 b, Turn w w1 none → w1.cell? ⟨b, 0, none⟩ = some (.pointer (some ⟨g, 0, none⟩)) →
      Calls Tryd.prog 33 #[.iface T u, .iface 39 (.pointer (some ⟨g, 0, none⟩)), .agg #[.pointer (some ⟨1, 39, none⟩), .pointer (some ⟨b, 0, none⟩), .int .u64 150], .iface 72 (.agg #[.pointer (some ⟨1, 37, none⟩)])] w1
        fun e w' => ∃ v, e = .returned v ∧ R v w') :
    Calls Tryd.prog 18 #[.iface T u, .iface 39 (.pointer (some ⟨g, 0, none⟩))] w fun e w' => ∃ v, e = .returned v ∧ R v w' := by
  have hVO := @run_callFunc_extern Tryd.prog 30 _ (fun args => ReflectliteValue.unpack (args.getD 0 (.tuple #[]))) Tryd.func30 (by kernel_rfl) (by kernel_rfl) (by kernel_rfl) (by kernel_rfl)
  have hTY := @run_callFunc_extern Tryd.prog 31 _ (ReflectliteValue.methodAny (ReflectliteValue.valueError "reflectlite.Value.Type" 0) (fun t _ _ _ => ReflectliteType.toType t)) Tryd.func31 (by kernel_rfl) (by kernel_rfl) (by kernel_rfl) (by kernel_rfl)
  have hNI := @run_callFunc_extern Tryd.prog 32 _ (ReflectliteValue.method (ReflectliteValue.valueError "reflectlite.Value.IsNil" 0) ReflectliteValue.isNil) Tryd.func32 (by kernel_rfl) (by kernel_rfl) (by kernel_rfl) (by kernel_rfl)
  have hKI := @run_callFunc_extern Tryd.prog 52 _ (ReflectliteType.abiMethod fun t => do pure (.int .u8 (← Rtype.kind t))) Tryd.func52 (by kernel_rfl) (by kernel_rfl) (by kernel_rfl) (by kernel_rfl)
  have hEL := @run_callFunc_extern Tryd.prog 65 _ (ReflectliteType.method ReflectliteType.elem) Tryd.func65 (by kernel_rfl) (by kernel_rfl) (by kernel_rfl) (by kernel_rfl)
  have hIM := @run_callFunc_extern Tryd.prog 66 _ (ReflectliteType.relation "Implements" ReflectliteType.implements_) Tryd.func66 (by kernel_rfl) (by kernel_rfl) (by kernel_rfl) (by kernel_rfl)
  have vO := valueOfF
  have tY := typeF
  have mK := mKind
  have mE := mElem
  have mI := mImplements
  have kP := kindPF
  have kE := kindF
  have eL := elemF
  have iM := implementsF
  have n8 := isNilF ⟨w.heap.size, 0, none⟩ ⟨g, 0, none⟩ ((w.alloc (.cells #[.pointer (some ⟨g, 0, none⟩)] 39)).alloc (.cells #[.pointer (some ⟨1, 39, none⟩), .pointer (some ⟨w.heap.size, 0, none⟩), .int .u64 150] 61)) (by simp)
  have hT2 : Turn w ((w.alloc (.cells #[.pointer (some ⟨g, 0, none⟩)] 39)).alloc (.cells #[.pointer (some ⟨1, 39, none⟩), .pointer (some ⟨w.heap.size, 0, none⟩), .int .u64 150] 61)) none := ((Turn.refl w none).alloc _).alloc _
  have hg2 := hH.turn0 hT2
  have hc2 : ((w.alloc (.cells #[.pointer (some ⟨g, 0, none⟩)] 39)).alloc (.cells #[.pointer (some ⟨1, 39, none⟩), .pointer (some ⟨w.heap.size, 0, none⟩), .int .u64 150] 61)).cell? ⟨w.heap.size, 0, none⟩ = some (.pointer (some ⟨g, 0, none⟩)) := by simp
  have h2 := h _ _ hT2 hc2
  unfold Hnd at hg2
  clear hc2 h
  go_enter Tryd.func18, Tryd.ntmps18
  go_wp2_with (go_at_call 33; refine h2.mono ?_; rintro e w1 ⟨v, rfl, hR⟩)
  go_ret
  exact ⟨v, rfl, hR⟩

/-- What errors.As answers, and does to the variable at block g, at the target of a number. -/
theorem AsN_any (r : Rt) (l : List ByteArray) (g : Nat) (w : World) (hH : Hnd w) (hg : Blk w g 24 #[.int .i64 0]) :
    Calls Tryd.prog 18 #[ev r l, .iface 51 (.pointer (some ⟨g, 0, none⟩))] w fun e w' => AsN g r w w' e := by
  have key := fun w1 b (ht : Turn w w1 none) hc => asN_any r l g b w1 hc (hg.turn0 ht)
  obtain ⟨T, u, hT⟩ := ev_iface r l
  rw [hT] at key ⊢
  refine (AsN_of T u g w hH hg.lt (fun v w' => AsN g r w w' (.returned v)) fun w1 b ht hc => (key w1 b ht hc).mono fun e w' h => ?_).mono fun e w' h => ?_
  · cases r with
    | num n => exact ⟨_, h.1, rfl, h.2.1, (ht.any _).trans h.2.2⟩
    | oth a => exact ⟨_, h.1, rfl, h.2.1, ht.trans h.2.2⟩
  · obtain ⟨v, rfl, h⟩ := h
    exact h
/-- The same at the target of a fault. -/
theorem AsF_any (r : Rt) (l : List ByteArray) (g : Nat) (o0 o1 : Value) (w : World) (hH : Hnd w) (hg : Blk w g 37 #[o0, o1]) :
    Calls Tryd.prog 18 #[ev r l, .iface 39 (.pointer (some ⟨g, 0, none⟩))] w fun e w' => AsF g o0 o1 r l w w' e := by
  have key := fun w1 b (ht : Turn w w1 none) hc => asF_any r l g b o0 o1 w1 hc (hg.turn0 ht)
  obtain ⟨T, u, hT⟩ := ev_iface r l
  rw [hT] at key ⊢
  refine (AsF_of T u g w hH hg.lt (fun v w' => AsF g o0 o1 r l w w' (.returned v)) fun w1 b ht hc => (key w1 b ht hc).mono fun e w' h => ?_).mono fun e w' h => ?_
  · cases l with
    | nil => exact ⟨_, h.1, rfl, h.2.1, ht.trans h.2.2⟩
    | cons s l2 => exact ⟨_, h.1, rfl, h.2.1, (ht.any _).trans h.2.2⟩
  · obtain ⟨v, rfl, h⟩ := h
    exact h
end Go.Proofs.YtcaaanncanmpnaaDoor
