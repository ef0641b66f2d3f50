/-
  Layer 4: few's answer; what a wrapped number is.
-/
import Derived.Test.YtcaaanncanmpnaaDoorEk
namespace Go.Proofs.YtcaaanncanmpnaaDoor
open Go.RowKit Go.Extern.Stop Go.Stop Go.Extern

theorem few_rd {w : World} {B m : Nat} {A : Option Addr} {l : List ByteArray} (h : Rd w B 1 A m (svs l)) : Rd w B 1 A (cut60 m) (svs (l.take 60)) := by
  have hl := h.len
  rw [svs_len] at hl
  unfold cut60
  split
  · rename_i h60
    have h2 := h.take (k := 60) (by omega)
    rw [Nat.mul_one] at h2
    simpa [svs] using h2
  · rw [List.take_of_length_le (by omega)]
    exact h
theorem cut_le (m : Nat) : cut60 m ≤ 60 := by unfold cut60; split <;> omega
theorem take2 (l : List ByteArray) : (l.take 60).take 60 = l.take 60 := by rw [List.take_take]; simp
theorem wrapE_why (n : Int) (l : List ByteArray) : (wrapE n l).why = n := by
  unfold wrapE
  split
  · rename_i h; rw [h.1]; rfl
  · rfl
theorem wrapE_ne (n : Int) (l : List ByteArray) (h : n ≠ 0) : wrapE n l = .an (.num n) l.reverse := by simp [wrapE, h]
theorem wrapE_0 (l : List ByteArray) (h : l ≠ []) : wrapE 0 l = .no := by simp [wrapE, h]
theorem wrapE_00 : wrapE 0 [] = .an (.num 0) [] := by simp [wrapE]

/-- Way of an error, or of none. -/
def Er.way : Er → List ByteArray
  | .no => []
  | .an _ l => l
theorem wayE_any (x : Er) (w : World) (hH : Hnd w) (hl : x.way.length ≤ 1000) :
    Calls Tryd.prog 12 #[x.val] w fun e w' => ∃ A c, e = .returned (.slice A x.way.length c) ∧ Rd w' w'.heap.size 1 A x.way.length (svs x.way) ∧ Turn w w' none := by
  cases x with
  | no => exact (way_nil w).mono fun e w' ⟨h1, h2⟩ => ⟨none, 0, h1, Rd.none_ _ _ _ 0, h2⟩
  | an r l => exact way_any r l w hH hl
/-- Root of an error, or of none. -/
def Er.root : Er → Er
  | .no => .no
  | .an r _ => .an r []
theorem rootE_any (x : Er) (w : World) (hH : Hnd w) :
    Calls Tryd.prog 19 #[x.val] w fun e w' => e = .returned x.root.val ∧ Turn w w' none := by
  cases x with
  | no => exact root_nil w
  | an r l => exact root_any r l w hH
end Go.Proofs.YtcaaanncanmpnaaDoor
