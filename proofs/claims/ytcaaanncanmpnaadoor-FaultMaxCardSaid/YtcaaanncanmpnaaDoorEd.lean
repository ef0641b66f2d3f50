/-
  Layer 4: errors.as, at the target of a fault (contracts).
-/
import Derived.Test.YtcaaanncanmpnaaDoorEb
namespace Go.Proofs.YtcaaanncanmpnaaDoor
open Go.RowKit Go.Extern.Stop Go.Stop Go.Extern

/-- What errors.as does to the variable at block g, at the target of a fault. -/
def AsF (g : Nat) (o0 o1 : Value) (r : Rt) (l : List ByteArray) (w w' : World) (e : Ending) : Prop :=
  match l with
  | [] => e = .returned (.bool false) ∧ Blk w' g 37 #[o0, o1] ∧ Turn w w' none
  | s :: l2 => e = .returned (.bool true) ∧ Blk w' g 37 #[.string s, ev r l2] ∧ Turn w w' (some g)

set_option maxRecDepth 100000 in
set_option maxHeartbeats 4000000 in
theorem asF_any (r : Rt) (l : List ByteArray) (g b : Nat) (o0 o1 : Value) (w : World) (hb : w.cell? ⟨b, 0, none⟩ = some (.pointer (some ⟨g, 0, none⟩))) (hg : Blk w g 37 #[o0, o1]) :
    Calls Tryd.prog 33 #[ev r l, .iface 39 (.pointer (some ⟨g, 0, none⟩)), .agg #[.pointer (some ⟨1, 39, none⟩), .pointer (some ⟨b, 0, none⟩), .int .u64 150], .iface 72 (.agg #[.pointer (some ⟨1, 37, none⟩)])] w
      fun e w' => AsF g o0 o1 r l w w' e := by
  have hTO := @run_callFunc_extern Tryd.prog 27 _ ReflectliteType.typeOf Tryd.func27 (by kernel_rfl) (by kernel_rfl) (by kernel_rfl) (by kernel_rfl)
  have hAT := @run_callFunc_extern Tryd.prog 63 _ (ReflectliteType.relation "AssignableTo" ReflectliteType.assignableTo) Tryd.func63 (by kernel_rfl) (by kernel_rfl) (by kernel_rfl) (by kernel_rfl)
  have hVO := @run_callFunc_extern Tryd.prog 30 _ (fun args => ReflectliteValue.unpack (args.getD 0 (.tuple #[]))) Tryd.func30 (by kernel_rfl) (by kernel_rfl) (by kernel_rfl) (by kernel_rfl)
  have hEL := @run_callFunc_extern Tryd.prog 36 _ (ReflectliteValue.method (ReflectliteValue.valueError "reflectlite.Value.Elem" 0) ReflectliteValue.elem) Tryd.func36 (by kernel_rfl) (by kernel_rfl) (by kernel_rfl) (by kernel_rfl)
  have hST := @run_callFunc_extern Tryd.prog 37 _ ReflectliteValue.set Tryd.func37 (by kernel_rfl) (by kernel_rfl) (by kernel_rfl) (by kernel_rfl)
  have mA := mAssignableTo
  have hb1 := World.block_lt_of_cell? w _ hb
  obtain ⟨wb, hwb⟩ : ∃ wb, wb = w.alloc (.cells #[.pointer (some ⟨1, 39, none⟩), .pointer (some ⟨b, 0, none⟩), .int .u64 150] 61) := ⟨_, rfl⟩
  obtain ⟨x, hx⟩ : ∃ x, x = w.heap.size := ⟨_, rfl⟩
  have hbox : Blk wb x 61 #[.pointer (some ⟨1, 39, none⟩), .pointer (some ⟨b, 0, none⟩), .int .u64 150] := by rw [hwb, hx]; exact Blk.new w _ _
  have hT0 : Turn w wb none := by rw [hwb]; exact (Turn.refl w none).alloc _
  have HWB := hid hwb
  have HX := hid hx
  clear hwb hx
  have b0 := hbox.cell 0
  have b1 := hbox.cell 1
  have b2 := hbox.cell 2
  simp only [List.getElem?_toArray, List.getElem?_cons_zero, List.getElem?_cons_succ] at b0 b1 b2
  have hbw : wb.cell? ⟨b, 0, none⟩ = some (.pointer (some ⟨g, 0, none⟩)) := by
    rw [hT0.cell (by simpa using hb1) (by simp)]; exact hb
  have hgb := hg.turn0 hT0
  rcases l with _ | ⟨s, l2⟩
  · rcases r with n | a
    · have tO := typeOfN
      have aS := assignNF
      have nA := noAsN
      have nU := noUnwrapN
      have nV := noUnwrapsN
      simp only [ev_nil, Rt.val]
      go_enter Tryd.func33, Tryd.ntmps33
      go_wp2_with fail
      refine wp_loop_rounds 1 ?_
      rw [rounds_succ]
      rw [← HWB.out, ← HX.out]
      go_wp2_with fail
      go_ret
      exact ⟨rfl, hgb, hT0⟩
    · have tO := typeOfS
      have aS := assignSF
      have nA := noAsS
      have nU := noUnwrapS
      have nV := noUnwrapsS
      simp only [ev_nil, Rt.val]
      go_enter Tryd.func33, Tryd.ntmps33
      go_wp2_with fail
      refine wp_loop_rounds 1 ?_
      rw [rounds_succ]
      rw [← HWB.out, ← HX.out]
      go_wp2_with fail
      go_ret
      exact ⟨rfl, hgb, hT0⟩
  · have tO := typeOfF
    have aS := assignFF
    have vO := valueF
    have eV := elemVF ⟨b, 0, none⟩ ⟨g, 0, none⟩ wb hbw
    obtain ⟨T2, u2, hT2⟩ := ev_iface r l2
    have HT2 := hid hT2
    rw [ev_cons, hT2]
    clear hT2
    have hg2 := hgb.alloc (.cells #[.string s, .iface T2 u2] 37)
    have n0 := Blk.new wb 37 #[.string s, .iface T2 u2]
    have sT := setF g wb.heap.size (.string s) (.iface T2 u2) o0 o1 (wb.alloc (.cells #[.string s, .iface T2 u2] 37)) rfl rfl (n0.cell 0) (n0.cell 1) hg2
    go_enter Tryd.func33, Tryd.ntmps33
    go_wp2_with fail
    refine wp_loop_rounds 1 ?_
    rw [rounds_succ]
    rw [← HWB.out, ← HX.out]
    go_wp2_with fail
    go_ret
    refine ⟨rfl, ?_, ((hT0.alloc _).any _).trans ((Blk.setTurn _ g 0 _).trans (Blk.setTurn _ g 1 _))⟩
    rw [HT2.out]
    simpa using (hg2.set_ 0 (.string s)).set_ 1 (.iface T2 u2)
end Go.Proofs.YtcaaanncanmpnaaDoor
