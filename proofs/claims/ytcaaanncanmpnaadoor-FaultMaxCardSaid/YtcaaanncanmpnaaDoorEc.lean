/-
  Layer 4: errors.as, at the target of a number (contracts).
-/
import Derived.Test.YtcaaanncanmpnaaDoorEb
import Derived.Deep.LoopGhost
namespace Go.Proofs.YtcaaanncanmpnaaDoor
open Go.RowKit Go.Extern.Stop Go.Stop Go.Extern

theorem unwrap_any (s v : Value) (w : World) : Calls Tryd.prog 57 #[.agg #[s, v]] w fun e w' => e = .returned v ∧ Turn w w' none := by
  go_enter Tryd.func57, Tryd.ntmps57
  go_wp2_with fail
  go_ret
  exact ⟨rfl, (Turn.refl w none).alloc _⟩

/-- What errors.as does to the variable at block g, at the target of a number. -/
def AsN (g : Nat) (r : Rt) (w w' : World) (e : Ending) : Prop :=
  match r with
  | .num n => e = .returned (.bool true) ∧ Blk w' g 24 #[.int .i64 n] ∧ Turn w w' (some g)
  | .oth _ => e = .returned (.bool false) ∧ Blk w' g 24 #[.int .i64 0] ∧ Turn w w' none

set_option maxRecDepth 100000 in
set_option maxHeartbeats 4000000 in
theorem asN_any (r : Rt) (l : List ByteArray) (g b : Nat) (w : World) (hb : w.cell? ⟨b, 0, none⟩ = some (.pointer (some ⟨g, 0, none⟩))) (hg : Blk w g 24 #[.int .i64 0]) :
    Calls Tryd.prog 33 #[ev r l, .iface 51 (.pointer (some ⟨g, 0, none⟩)), .agg #[.pointer (some ⟨1, 51, none⟩), .pointer (some ⟨b, 0, none⟩), .int .u64 150], .iface 72 (.agg #[.pointer (some ⟨1, 24, none⟩)])] w
      fun e w' => AsN g r w w' e := by
  have hTO := @run_callFunc_extern Tryd.prog 27 _ ReflectliteType.typeOf Tryd.func27 (by kernel_rfl) (by kernel_rfl) (by kernel_rfl) (by kernel_rfl)
  have hAT := @run_callFunc_extern Tryd.prog 63 _ (ReflectliteType.relation "AssignableTo" ReflectliteType.assignableTo) Tryd.func63 (by kernel_rfl) (by kernel_rfl) (by kernel_rfl) (by kernel_rfl)
  have hVO := @run_callFunc_extern Tryd.prog 30 _ (fun args => ReflectliteValue.unpack (args.getD 0 (.tuple #[]))) Tryd.func30 (by kernel_rfl) (by kernel_rfl) (by kernel_rfl) (by kernel_rfl)
  have hEL := @run_callFunc_extern Tryd.prog 36 _ (ReflectliteValue.method (ReflectliteValue.valueError "reflectlite.Value.Elem" 0) ReflectliteValue.elem) Tryd.func36 (by kernel_rfl) (by kernel_rfl) (by kernel_rfl) (by kernel_rfl)
  have hST := @run_callFunc_extern Tryd.prog 37 _ ReflectliteValue.set Tryd.func37 (by kernel_rfl) (by kernel_rfl) (by kernel_rfl) (by kernel_rfl)
  have mA := mAssignableTo
  obtain ⟨T, u, hT⟩ := ev_iface r l
  have HT := hid hT
  rw [hT]
  clear hT
  have hb1 := World.block_lt_of_cell? w _ hb
  have hg1 := hg.lt
  go_enter Tryd.func33, Tryd.ntmps33
  go_wp2_with fail
  obtain ⟨wb, hwb⟩ : ∃ wb, wb = w.alloc (.cells #[.pointer (some ⟨1, 51, none⟩), .pointer (some ⟨b, 0, none⟩), .int .u64 150] 61) := ⟨_, rfl⟩
  obtain ⟨x, hx⟩ : ∃ x, x = w.heap.size := ⟨_, rfl⟩
  have hbox : Blk wb x 61 #[.pointer (some ⟨1, 51, none⟩), .pointer (some ⟨b, 0, none⟩), .int .u64 150] := by rw [hwb, hx]; exact Blk.new w _ _
  have hT0 : Turn w wb none := by rw [hwb]; exact (Turn.refl w none).alloc _
  rw [← hwb, ← hx]
  clear hwb
  have HX := hid hx
  clear hx
  go_loopg [0] l.length (fun k e wr => ∃ l' : List ByteArray, l'.length = k ∧ e = ev r l' ∧ Turn wb wr none)
  case atStart => exact ⟨l, rfl, HT.out.symm, Turn.refl wb none⟩
  case round =>
    obtain ⟨l', hk, rfl, ht⟩ := hrel
    have HK := hid hk
    clear hk
    have hbr := hbox.turn0 ht
    have b0 := hbr.cell 0
    have b1 := hbr.cell 1
    have b2 := hbr.cell 2
    simp only [List.getElem?_toArray, List.getElem?_cons_zero, List.getElem?_cons_succ] at b0 b1 b2
    have hbw : wr.cell? ⟨b, 0, none⟩ = some (.pointer (some ⟨g, 0, none⟩)) := by
      rw [(hT0.trans ht).cell (by simpa using hb1) (by simp)]; exact hb
    have hgr := hg.turn0 (hT0.trans ht)
    rcases l' with _ | ⟨s, l2⟩
    · rw [ev_nil] at *
      rcases r with n | a
      · have tO := typeOfN
        have aS := assignNN
        have vO := valueN
        have eV := elemVN ⟨b, 0, none⟩ ⟨g, 0, none⟩ wr hbw
        have hg2 := hgr.alloc (.cells #[.int .i64 n] 24)
        have sT := setN ⟨g, 0, none⟩ ⟨wr.heap.size, 0, none⟩ n (.int .i64 0) (wr.alloc (.cells #[.int .i64 n] 24)) (by simp) (hg2.cell 0) (hg2.frozen 0)
        simp only [Rt.val]
        go_wp2_with fail
        go_ret
        exact ⟨rfl, by simpa using hg2.set_ 0 (.int .i64 n), ((hT0.trans ht).alloc _).any _ |>.trans (Blk.setTurn _ g 0 _)⟩
      · have tO := typeOfS
        have aS := assignSN
        have nA := noAsS
        have nU := noUnwrapS
        have nV := noUnwrapsS
        simp only [Rt.val]
        go_wp2_with fail
        go_ret
        exact ⟨rfl, hgr, hT0.trans ht⟩
    · have tO := typeOfF
      have aS := assignFN
      have nA := noAsF
      have hU := hasUnwrapF
      have mU := mUnwrap
      obtain ⟨T2, u2, hT2⟩ := ev_iface r l2
      have HT2 := hid hT2
      rw [ev_cons, hT2]
      clear hT2
      go_wp2_with (go_at_call 57; refine (unwrap_any _ _ _).mono ?_; rintro e w1 ⟨rfl, ht1⟩)
      go_roundg l2.length
      case measure => have := HK.out; simp at this; omega
      case rel => exact ⟨l2, rfl, HT2.out.symm, ht.trans ht1⟩
end Go.Proofs.YtcaaanncanmpnaaDoor
