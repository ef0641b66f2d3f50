/-
  Layer 16, the document's table in memory: Bind, where a bound is put.
-/
import Derived.Test.YtnkmpcepdjjopaaIdS
namespace Go.Proofs.Ytnkmpcepdjjopaa
set_option linter.unusedSimpArgs false
set_option linter.unusedVariables false
open Go.RowKit

/-- What the second loop has at its j-th turn, where the new bound stands behind k. -/
def outAt (B : List (Nat × Nat)) (k j : Nat) (p : Nat × Nat) : List (Nat × Nat) := if j ≤ k then B.take j else B.take k ++ p :: (B.drop k).take (j - k)
theorem outAt_zero (B : List (Nat × Nat)) (k : Nat) (p : Nat × Nat) : outAt B k 0 p = [] := by simp [outAt]
theorem outAt_put {B : List (Nat × Nat)} {k j : Nat} {p b : Nat × Nat} (hb : B[j]? = some b) (h : j ≠ k) : outAt B k (j + 1) p = outAt B k j p ++ [b] := by
  unfold outAt
  rcases Nat.lt_or_ge j k with c | c
  · rw [if_pos (by omega), if_pos (by omega), List.take_add_one, hb]
    rfl
  · rw [if_neg (by omega), if_neg (by omega), show j + 1 - k = (j - k) + 1 by omega, List.take_add_one, List.getElem?_drop, show k + (j - k) = j by omega, hb]
    simp
theorem outAt_both {B : List (Nat × Nat)} {k : Nat} {p b : Nat × Nat} (hb : B[k]? = some b) : outAt B k (k + 1) p = outAt B k k p ++ [p] ++ [b] := by
  unfold outAt
  rw [if_neg (by omega), if_pos (Nat.le_refl _), show k + 1 - k = 0 + 1 by omega, List.take_add_one, List.getElem?_drop, Nat.add_zero, hb]
  simp
theorem outAt_len {B : List (Nat × Nat)} {k j : Nat} {p : Nat × Nat} (hj : j ≤ B.length) : (outAt B k j p).length ≤ j + 1 := by
  unfold outAt
  split
  · rw [List.length_take]; omega
  · rw [List.length_append, List.length_cons, List.length_take, List.length_take]; omega
theorem pLit (w : World) (a b : Int) : Rd (w.alloc (.cells #[.int .u64 a, .int .u64 b] 50)) (w.heap.size + 1) 2 (some ⟨w.heap.size, 0, none⟩) 1 [.int .u64 a, .int .u64 b] :=
  ⟨rfl, fun k u hu => ⟨_, rfl, Nat.lt_succ_self _, by
    rw [add_flat, Nat.zero_add]
    have h := (Blk.new w 50 #[.int .u64 a, .int .u64 b]).cell k
    rw [h]
    simpa using hu⟩⟩
end Go.Proofs.Ytnkmpcepdjjopaa
