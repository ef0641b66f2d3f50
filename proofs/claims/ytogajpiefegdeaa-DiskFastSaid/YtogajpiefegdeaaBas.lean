/-
  Facts on slices of bytes that the contracts of several layers share.
-/
import Derived.Test.YtogajpiefegdeaaLaw
namespace Go.Proofs.Ytogajpiefegdeaa
set_option linter.unusedSimpArgs false
set_option linter.unusedVariables false
open Go.RowKit

theorem elB : El Try.prog 28 5 1 1 := El.mk_ Try.underlying28 (z := .int .u8 0) (by kernel_rfl) rfl (by decide)
theorem take_next {l : List UInt8} {j : Nat} {b : UInt8} (h : l[j]? = some b) : l.take (j + 1) = l.take j ++ [b] := by
  rw [List.take_add_one, h]; rfl
theorem txt_eq (l : List UInt8) : (txt l).toList = l := ByteArray.toList_mk l
theorem wrapSmall (m : Nat) (h : m ≤ 140737488355328) : IntKind.i64.wrap (m : Int) = (m : Int) := by
  rw [IntKind.wrap_i64]
  omega
theorem str_run (w : World) {B : Nat} {A : Option Addr} {n c : Nat} {l : List UInt8} (h : Rd w B 1 A n (vbs l)) : (convert 28 9 (.slice A n c)).run Try.prog w = .ok (.string (txt l)) w :=
  run_txt w B _ _ 5 A n c l Try.underlying28 Try.underlying5 Try.underlying9 h
end Go.Proofs.Ytogajpiefegdeaa
