/-
  Layer 3: what the statements share.
-/
import Derived.Test.YtfmighjblppceaaDoorSh
import Derived.Lib.SlBytesConst
import Derived.ChangeKeysEq
namespace Go.Proofs.YtfmighjblppceaaDoor
open Go.RowKit

set_option maxHeartbeats 400000 in
theorem own_any (A : Option Addr) (n c : Nat) (l : List UInt8) (B : Nat) (w : World) (hr : Rd w B 1 A n (vbs l)) (hB : B ≤ w.heap.size) (hn : n ≤ 140737488355328) :
    Calls Tryd.prog 9 #[.slice A n c] w fun e w' =>
      ∃ A' c', e = .returned (.slice A' n c') ∧ Own w' w.heap.size 5 1 A' n c' (vbs l) ∧ Turn w w' none := by
  have h0 : Own (w.alloc (.cells #[] 5)) w.heap.size 5 1 (some ⟨w.heap.size, 0, none⟩) 0 0 [] := Own.made w _ _ 1 0 #[] (Nat.le_refl _) (by decide) rfl
  have hr1 := hr.alloc hB (.cells #[] 5)
  go_enter Tryd.func9, Tryd.ntmps9
  go_wp2_with (at_builtin; refine wp_app rfl _ _ _ rfl elB rfl rfl h0 hr1 (vbs_one l) (by unfold maxLen; first | omega | (simp; done) | (simp; omega)) (by first | omega | (simp; done) | (simp; omega)) (by first | omega | (simp; done) | (simp; omega)) ?_; intro A1 c1 w1 hown ht hb)
  go_ret
  refine ⟨A1, c1, ?_, ?_, (Turn.alloc (Turn.refl w none) _).new ht (fun g hg => by simp [blk] at hg; omega)⟩
  · simp
  · simpa using hown


theorem part_byte {cs : Array Value} {j : Nat} {v : Value} (hv : cs[j]? = some v) (w : World) : (part 5 cs j).run Tryd.prog w = .ok v w := by
  have hag : (isAgg 5).run Tryd.prog w = .ok false w := by
    unfold isAgg
    rw [Sem.run_bind, run_underlying Tryd.underlying5 w]
    rfl
  simp [part, hag, hv]
theorem eqItems_same (l : List UInt8) (w : World) : ∀ is : List Nat, (∀ i ∈ is, i < l.length) → (Op.eqItems 9999 5 1 (vbs l).toArray (vbs l).toArray is).run Tryd.prog w = .ok true w
  | [], _ => by simp [Op.eqItems]
  | i :: is, h => by
    have hi := h i (by simp)
    have hv : (vbs l).toArray[i * 1]? = some (.int .u8 ((l[i]'hi).toNat : Int)) := by
      rw [Nat.mul_one, List.getElem?_toArray, vbs, List.getElem?_map, List.getElem?_eq_getElem hi]
      rfl
    have ih := eqItems_same l w is (fun j hj => h j (by simp [hj]))
    simp only [Op.eqItems, Sem.run_bind, part_byte hv, Result.andThen_ok, run_equalIn_int w 9998 5 .u8 .u8 _ _ Tryd.underlying5, beq_self_eq_true, Bool.not_true, Bool.false_eq_true, if_false]
    exact ih
theorem eq32 (l : List UInt8) (h : l.length = 32) (w : World) : (Op.equalIn 10000 25 (.agg (vbs l).toArray) (.agg (vbs l).toArray)).run Tryd.prog w = .ok true w := by
  obtain ⟨i, hi⟩ : ∃ i, Tryd.prog.info? 5 = some i := by
    obtain ⟨_, i, z, hi, _⟩ := elB
    exact ⟨i, hi⟩
  rw [run_equalIn_array w 9999 _ _ Tryd.underlying25 hi]
  have hc : Tryd.prog.cellsOf 5 = 1 := by kernel_rfl
  rw [hc]
  exact eqItems_same l w _ (fun j hj => by rw [h]; simpa using hj)

theorem abc0 : (sHash [97, 98, 99])[0]? = some 186 := by decide +kernel
theorem abc1 : (sHash [97, 98, 99])[1]? = some 120 := by decide +kernel
theorem abc31 : (sHash [97, 98, 99])[31]? = some 173 := by decide +kernel

set_option maxRecDepth 100000 in
set_option maxHeartbeats 1600000 in
theorem lives_any (w : World) (hL : Laid w) : Calls Tryd.prog 7 #[] w fun e w' => e = .returned (.bool true) ∧ Turn w w' none := by
  have hr : Rd (w.alloc (.cells #[.int .u8 97, .int .u8 98, .int .u8 99] 5 (3, 4))) (w.heap.size + 1) 1 (some ⟨w.heap.size, 0, none⟩) 3 (vbs [97, 98, 99]) := Rd.litF w 5 (3, 4) (vbs [97, 98, 99])
  have hB : w.heap.size + 1 ≤ (w.alloc (.cells #[.int .u8 97, .int .u8 98, .int .u8 99] 5 (3, 4))).heap.size := Nat.le_of_eq (Array.size_push ..).symm
  have kc := fun (w : World) (C : Array Value) (n c : Nat) => Lib.run_convert_bytes_const (P := Tryd.prog) w 22 5 C n c Tryd.underlying22 Tryd.underlying5
  have hT0 : Turn w (w.alloc (.cells #[.int .u8 97, .int .u8 98, .int .u8 99] 5 (3, 4))) none := (Turn.refl w none).alloc _
  have hLa := hL.turn hT0 (by simp)
  obtain ⟨X, hX⟩ : ∃ X, X = vbs (sHash [97, 98, 99]) := ⟨_, rfl⟩
  have hX1 : X.length = 32 := by rw [hX, vbs_len, sHash_len]
  have hX2 : ∀ u ∈ X, u.oneCell' = true := by rw [hX]; exact vbs_one _
  have x0 : X[0]? = some (.int .u8 186) := by rw [hX, vbs, List.getElem?_map, abc0]; rfl
  have x1 : X[1]? = some (.int .u8 120) := by rw [hX, vbs, List.getElem?_map, abc1]; rfl
  have x31 : X[31]? = some (.int .u8 173) := by rw [hX, vbs, List.getElem?_map, abc31]; rfl
  have HX := hid hX
  clear hX
  go_enter Tryd.func7, Tryd.ntmps7
  go_wp2_with (first
    | (go_at_call 8; refine (ssum_any _ _ _ [97, 98, 99] (w.heap.size + 1) _ hLa hr hB (by omega) (by unfold maxLen; omega) (by omega)).mono ?_; rintro e w1 ⟨rfl, ht1⟩; rw [← HX.out])
    | (refine wp_al rfl 25 rfl _ nul32 ?_; intro g w2 hg hb ht2; rw [cells_agg] at hb)
    | (refine wp_st (xs := X) rfl 25 _ _ rfl rfl rfl hb (by rw [List.size_toArray, vbs_len, hX1]; rfl) (sz32 hX1) hX2 ?_; intro w3 hb3 ht3; have c0 := hb3.ats x0; have c1 := hb3.ats x1; have c31 := hb3.ats x31; have hsz := ht1.size; have hs0 := hT0.size; clear x0 x1 x31))
  go_ret
  exact ⟨rfl, ((hT0.trans ht1).trans ht2).new ht3 (by simp; omega)⟩

end Go.Proofs.YtfmighjblppceaaDoor
