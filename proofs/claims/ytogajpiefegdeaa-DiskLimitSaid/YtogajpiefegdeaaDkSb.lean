/-
  Layer 14: what the laws ask of both disks besides.
-/
import Derived.Test.YtogajpiefegdeaaDkQ
import Derived.Test.YtogajpiefegdeaaDkR
namespace Go.Proofs.Ytogajpiefegdeaa
set_option linter.unusedSimpArgs false
set_option linter.unusedVariables false
open Go.RowKit

theorem rsize_rk {w : World} {r : Nat} {T : Nat → Prop} {D : Dsk} (h : Rk w r T D) :
    Calls Try.prog 13 #[.pointer (some ⟨r, 0, none⟩)] w fun e w' => e = .returned (.int .i64 (D.size : Int)) ∧ Turn w w' none := by
  obtain ⟨R, x, y, z, lv, hp, hT⟩ := h
  exact rsize_any hp
theorem rdead_rk {w : World} {r : Nat} {T : Nat → Prop} {D : Dsk} (h : Rk w r T D) : w.cell? ⟨r, 11, none⟩ = some (.bool D.dead) := by
  obtain ⟨R, x, y, z, lv, hp, hT⟩ := h
  exact hp.b.ats (j := 11) rfl
theorem rnew_bp {w0 w : World} {g : Nat} {R : Nat → Prop} {D : Dsk} (h : Bo w0 w g R D) (lim : Int) :
    Calls Try.prog 9 #[.int .i64 lim] w fun e w' => ∃ r T, e = .returned (.pointer (some ⟨r, 0, none⟩)) ∧ Bp w0 w' g r R T D (newD lim) :=
  (rnew_any lim w).mono fun e w' ⟨r, hg, he, hp, ht⟩ => ⟨r, fun k => k = r ∨ False, he, by
    have h2 := h.turn0 ht
    have s0 := h.tw.size
    refine ⟨h2.p, ⟨_, _, _, _, _, hp, fun k => Iff.rfl⟩, fun k h1 h3 => ?_, h2.r0, fun k h3 => ?_, h2.tw⟩
    · rcases h3 with rfl | h3
      · have := h.p.lt h1; omega
      · exact h3
    · rcases h3 with rfl | h3
      · omega
      · exact h3.elim⟩

end Go.Proofs.Ytogajpiefegdeaa
