/-
  Layer 4: what errors are as values: a root (a number, or another error), wrapped at places, the outermost first.
-/
import Derived.Test.YtcaaanncanmpnaaDoorLaw
namespace Go.Proofs.YtcaaanncanmpnaaDoor
open Go.RowKit

/-- What an error was at first: a number, or another error. -/
inductive Rt where
  | num (n : Int)
  | oth (a : Addr)

/-- Its value. -/
def Rt.val : Rt → Value
  | .num n => .iface 24 (.int .i64 n)
  | .oth a => .iface 68 (.pointer (some a))
/-- Its reason. -/
def Rt.why : Rt → Int
  | .num n => n
  | .oth _ => 7

/-- An error, wrapped at these places, the outermost first. -/
def ev (r : Rt) : List ByteArray → Value
  | [] => r.val
  | s :: l => .iface 37 (.agg #[.string s, ev r l])

theorem ev_iface (r : Rt) (l : List ByteArray) : ∃ T u, ev r l = .iface T u := by
  cases l with
  | nil => cases r <;> exact ⟨_, _, rfl⟩
  | cons s l => exact ⟨_, _, rfl⟩
theorem ev_nil (r : Rt) : ev r [] = r.val := rfl
theorem ev_cons (r : Rt) (s : ByteArray) (l : List ByteArray) : ev r (s :: l) = .iface 37 (.agg #[.string s, ev r l]) := rfl

/-- The variable errors.errorType holds the handle of the type error. -/
def Hnd (w : World) : Prop := w.cell? ⟨0, 0, none⟩ = some (.iface 72 (.agg #[.pointer (some ⟨1, 26, none⟩)]))
theorem Hnd.lt {w : World} (h : Hnd w) : 0 < w.heap.size := by
  rcases Nat.eq_zero_or_pos w.heap.size with h0 | h1
  · simp [Hnd, World.cell?, h0] at h
  · exact h1
theorem Hnd.turn {w w' : World} {row : Option Nat} (h : Hnd w) (ht : Turn w w' row) (hr : row ≠ some 0) : Hnd w' := by
  unfold Hnd
  rw [ht.cell (a := ⟨0, 0, none⟩) h.lt (fun e => hr e.symm)]
  exact h
theorem Hnd.turn0 {w w' : World} (h : Hnd w) (ht : Turn w w' none) : Hnd w' := h.turn ht (by simp)

/-- How grave a reason is. -/
def gv (n : Int) : Int :=
  if n = 0 then 0 else if n = 6 then 1 else if n = 5 then 2 else if n = 7 then 2 else if n = 1 then 3 else if n = 3 then 3 else if n = 4 then 3 else if n = 2 then 4 else if n = 8 then 4 else 5
theorem gv_0 : gv 0 = 0 := rfl
theorem gv_bd (n : Int) : 0 ≤ gv n ∧ gv n ≤ 5 := by
  unfold gv
  repeat' split
  all_goals omega
theorem gv_zero (n : Int) : gv n = 0 ↔ n = 0 := by
  unfold gv
  constructor
  · intro h
    repeat' split at h
    all_goals first | assumption | omega
  · intro h
    rw [if_pos h]
end Go.Proofs.YtcaaanncanmpnaaDoor
