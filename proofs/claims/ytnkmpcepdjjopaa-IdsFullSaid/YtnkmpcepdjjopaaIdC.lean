/-
  Layer 16, the code: a text is copied; it gets the next id; Make.
-/
import Derived.Test.YtnkmpcepdjjopaaIdB
import Derived.Lib.BufferWrite
import Derived.Lib.UnsafeStr
import Derived.Laws.MakeOwn
namespace Go.Proofs.Ytnkmpcepdjjopaa
set_option linter.unusedSimpArgs false
set_option linter.unusedVariables false
open Go.RowKit

/-- Marking a block's bytes turns that block alone. -/
theorem mark_turn (w : World) (g n : Nat) : Turn w (w.freeze ⟨g, 0, none⟩ n) (some g) := by
  unfold World.freeze
  split
  · exact Turn.refl _ _
  · refine ⟨rfl, rfl, rfl, by simp, fun k _ hk => ?_⟩
    rw [Array.getElem?_modify]
    rw [if_neg (fun e => hk (by rw [← e]))]

set_option maxRecDepth 100000 in
set_option maxHeartbeats 1600000 in
theorem clone16_any (l : List UInt8) (w : World) (hl : l.length ≤ 140737488355328) :
    Calls Try.prog 31 #[.string (txt l)] w fun e w' => e = .returned (.string (txt l)) ∧ Turn w w' none := by
  by_cases h0 : l = []
  · subst h0
    have e0 : txt [] = ⟨#[]⟩ := rfl
    go_enter Try.func31, Try.ntmps31
    go_wp2
    go_ret
    exact ⟨rfl, Turn.refl _ _⟩
  · have hpos : 0 < l.length := List.length_pos_iff.2 h0
    obtain ⟨hu, i, z, hi, hz, hsz, hby, hzs, _⟩ := (El.mk_ Try.underlying68 (z := .int .u8 0) (by kernel_rfl) rfl (by decide) : El Try.prog 68 5 1 1)
    have hco : Try.prog.cellsOf 5 = 1 := by simp [Program.cellsOf, hi, hsz]
    obtain ⟨n, hn⟩ : ∃ n, n = l.length := ⟨_, rfl⟩
    have hts : (txt l).size = n := by rw [txt_size, hn]
    obtain ⟨M, hM⟩ : ∃ M, M = madeCells z.cells (((n : Nat) : Int).toNat * i.size) := ⟨_, rfl⟩
    have hMs : M.size = n := by rw [hM, size_madeCells, hsz]; simp
    have hmk : (Instr.makeSlice 68 (.int .i64 (n : Int)) (.int .i64 (n : Int))).run Try.prog w = .ok (.slice (some ⟨w.heap.size, 0, none⟩) n n) (w.alloc (.cells M 5)) := by
      have h := run_make (P := Try.prog) w 68 5 i z hu hi hz .i64 .i64 (n : Int) (n : Int) (by omega) (Int.le_refl _) (by rw [hby]; omega) (by omega)
      rw [← hM] at h
      simpa using h
    obtain ⟨w1, hw1⟩ : ∃ w1, w1 = w.alloc (.cells M 5) := ⟨_, rfl⟩
    have hb1 : Blk w1 w.heap.size 5 M := by rw [hw1]; exact Blk.new w _ M
    have t1 : Turn w w1 none := by rw [hw1]; exact (Turn.refl w none).alloc _
    rw [← hw1] at hmk
    have hcp := Lib.run_copy_row_string (P := Try.prog) w1 68 9 3 5 w.heap.size 0 n n (txt l) M 5 hu (by rw [hi]; simp [hsz]) hb1 (by omega) (by omega)
    obtain ⟨w2, hw2⟩ : ∃ w2, w2 = w1.setRow w.heap.size (M.toList.take 0 ++ Lib.byteCells (txt l).data.toList ++ M.toList.drop (0 + (txt l).size)).toArray := ⟨_, rfl⟩
    rw [← hw2, hts] at hcp
    have hb2 : Blk w2 w.heap.size 5 (vbs l).toArray := by
      have h := setRow_heap w1 w.heap.size M (M.toList.take 0 ++ Lib.byteCells (txt l).data.toList ++ M.toList.drop (0 + (txt l).size)).toArray 5 (0, 0) hb1
      rw [← hw2] at h
      have e : M.toList.take 0 ++ Lib.byteCells (txt l).data.toList ++ M.toList.drop (0 + (txt l).size) = vbs l := by
        rw [List.take_zero, List.nil_append, List.drop_of_length_le (by rw [Array.length_toList]; omega), List.append_nil, txt_toList]
        rfl
      rw [e] at h
      exact h
    have t2 : Turn w1 w2 (some w.heap.size) := by rw [hw2]; exact Turn.setRow w1 _ _
    have hus := Lib.run_unsafeString_row (P := Try.prog) (ty := 9) w2 69 3 5 Try.underlying69 hco w.heap.size n (by unfold World.shape?; rw [show w2.heap[w.heap.size]? = _ from hb2]; simp [vbs_len, hn]) l h0 (by omega) (by omega) (fun j x hx => by
      rw [add_flat, Nat.zero_add, hb2.cell j]
      simp [vbs, vb, hx])
    rw [← hn] at hus
    have hus2 : (Builtin.unsafeString_ #[69, 3] 9 #[.pointer (some ⟨w.heap.size, 0, none⟩), .int .i64 (n : Int)]).run Try.prog w2 = .ok (.string (txt l)) (w2.freeze ⟨w.heap.size, 0, none⟩ n) := hus
    have TT : Turn w (w2.freeze ⟨w.heap.size, 0, none⟩ n) none := (t1.new t2 (fun g e => by injection e with e; omega)).new (mark_turn w2 _ n) (fun g e => by injection e with e; omega)
    have hpn : 0 < n := by omega
    clear hn hM hw1 hw2 hus t1 t2 hb1 hb2
    have hn0 : ¬ ((n : Int) = 0) := by omega
    go_enter Try.func31, Try.ntmps31
    go_wp2
    go_ret
    exact ⟨rfl, TT⟩
set_option maxRecDepth 100000 in
theorem sclone16_any (l : List UInt8) (w : World) (hl : l.length ≤ 140737488355328) :
    Calls Try.prog 26 #[.string (txt l)] w fun e w' => e = .returned (.string (txt l)) ∧ Turn w w' none := by
  have k := clone16_any l w hl
  go_enter Try.func26, Try.ntmps26
  go_wp2_with (go_at_call 31; refine k.mono ?_; rintro e w1 ⟨rfl, ht⟩)
  go_ret
  exact ⟨rfl, ht⟩
end Go.Proofs.Ytnkmpcepdjjopaa
