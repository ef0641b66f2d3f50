/-
  Layer 3: a hash as digits (contract).
-/
import Derived.Test.YtfmighjblppceaaDoorSg
namespace Go.Proofs.YtfmighjblppceaaDoor
open Go.RowKit

/-- A digit of sixteen. -/
def sDig (n : Nat) : UInt8 := ([48, 49, 50, 51, 52, 53, 54, 55, 56, 57, 97, 98, 99, 100, 101, 102] : List UInt8).getD n 0
/-- The digits of bytes. -/
def sHex (l : List UInt8) : List UInt8 := l.flatMap fun b => [sDig (b.toNat / 16), sDig (b.toNat % 16)]
theorem sHex_len (l : List UInt8) : (sHex l).length = 2 * l.length := by
  induction l with
  | nil => rfl
  | cons b r ih => simp only [sHex, List.flatMap_cons, List.length_append, List.length_cons, List.length_nil] at ih ⊢; omega
theorem sHex_last (l : List UInt8) (b : UInt8) : sHex (l ++ [b]) = sHex l ++ [sDig (b.toNat / 16), sDig (b.toNat % 16)] := by simp [sHex]

theorem str_run (w : World) {B : Nat} {A : Option Addr} {n c : Nat} {l : List UInt8} (h : Rd w B 1 A n (vbs l)) : (convert 22 9 (.slice A n c)).run Tryd.prog w = .ok (.string (txt l)) w :=
  run_txt w B _ _ 5 A n c l Tryd.underlying22 Tryd.underlying5 Tryd.underlying9 h
theorem dig_at (n : Nat) (hn : n < 16) (h : n < ({ data := #[48, 49, 50, 51, 52, 53, 54, 55, 56, 57, 97, 98, 99, 100, 101, 102] } : ByteArray).size) : (({ data := #[48, 49, 50, 51, 52, 53, 54, 55, 56, 57, 97, 98, 99, 100, 101, 102] } : ByteArray)[n]'h) = sDig n := by
  have : n = 0 ∨ n = 1 ∨ n = 2 ∨ n = 3 ∨ n = 4 ∨ n = 5 ∨ n = 6 ∨ n = 7 ∨ n = 8 ∨ n = 9 ∨ n = 10 ∨ n = 11 ∨ n = 12 ∨ n = 13 ∨ n = 14 ∨ n = 15 := by omega
  rcases this with rfl | rfl | rfl | rfl | rfl | rfl | rfl | rfl | rfl | rfl | rfl | rfl | rfl | rfl | rfl | rfl <;> rfl
theorem and15 : ∀ n : Nat, n < 256 → bits .and .u8 (n : Int) 15 = ((n % 16 : Nat) : Int) := by decide +kernel

set_option maxRecDepth 100000 in
set_option maxHeartbeats 1600000 in
theorem hex_any (Y : List UInt8) (hY : Y.length = 32) (w : World) :
    Calls Tryd.prog 17 #[.agg (vbs Y).toArray] w fun e w' => e = .returned (.string (txt (sHex Y))) ∧ Turn w w' none := by
  have hT := Turn.refl w none
  go_enter Tryd.func17, Tryd.ntmps17
  go_wp2_with (first
    | (refine wp_bx rfl 25 _ rfl rfl ?_; intro g1 w1 hg1 hb1 ht1; have hT := hT.trans ht1)
    | (refine wp_ld rfl 25 _ rfl rfl hb1 (Sub.all _) Tryd.underlying25 rfl (sz32 (by rw [vbs_len, hY])) ?_))
  go_loopw [3, 7] (fun b i wr => ∃ (j : Nat) (A : Option Addr) (c : Nat), j ≤ 32 ∧ i = .int .i64 (j : Int) ∧ b = .slice A (2 * j) c ∧ Own wr w.heap.size 5 1 A (2 * j) c (vbs (sHex (Y.take j))) ∧ Turn w wr none) (fun _ i _ => (32 - intOf i).toNat)
  case atStart => exact ⟨0, none, 0, by omega, rfl, rfl, Own.nil _ _ _ _, hT⟩
  case round =>
    obtain ⟨j, A, c, hj, rfl, rfl, ho, hT⟩ := hrel
    have hTs := hT.size
    by_cases hj32 : j < 32
    · obtain ⟨b, hb⟩ : ∃ b, Y[j]? = some b := ⟨Y[j]'(by omega), List.getElem?_eq_getElem (by omega)⟩
      have hix := fun W : World => run_ix (P := Tryd.prog) (w := W) Tryd.underlying25 Tryd.underlying5 (by kernel_rfl) hj32 (show (vbs Y).toArray[j]? = some (.int .u8 (b.toNat : Int)) by rw [List.getElem?_toArray, vbs, List.getElem?_map, hb]; rfl)
      have hb256 := b.toNat_lt
      obtain ⟨n1, hn1⟩ : ∃ n1, n1 = b.toNat / 16 := ⟨_, rfl⟩
      obtain ⟨n2, hn2⟩ : ∃ n2, n2 = b.toNat % 16 := ⟨_, rfl⟩
      have e1 : (b.toNat : Int) / 16 = (n1 : Int) := by omega
      have e2 : bits .and .u8 (b.toNat : Int) 15 = (n2 : Int) := by rw [and15 _ hb256, hn2]
      have l1 : n1 < 16 := by omega
      have l2 : n2 < 16 := by omega
      have l1' : (n1 : Int) < 16 := by omega
      have l2' : (n2 : Int) < 16 := by omega
      have d1 := dig_at n1 l1
      have d2 := dig_at n2 l2
      have hcat : sHex (Y.take j) ++ [sDig n1, sDig n2] = sHex (Y.take (j + 1)) := by rw [take_nxt hb, sHex_last, hn1, hn2]
      have HC := hid hcat
      clear hcat hn1 hn2
      go_wp2_with fail
      refine wp_region_noPanic ?_
      refine wp_region_held_drew (S := fun _ => True) (by kernel_rfl) trivial (fun hHeld => ?_)
      (first | (refine wpAnyH_take (i := 0) (v := undef) rfl (by kernel_rfl) (by kernel_rfl) (by kernel_rfl) (fun _ _ _ h => h) (Or.inr ⟨rfl, rfl⟩) (by assumption) ?_) | (refine wpAnyH_take (i := 0) (v := ?_) rfl (by kernel_rfl) (by kernel_rfl) (by kernel_rfl) (fun _ _ _ h => h) (Or.inl ⟨rfl, ?_⟩) (by assumption) ?_; rotate_left 1; · (intro w hSw; (try dsimp only at hSw); go_simp; (try with_reducible rfl)))); (try simp only [Act.put, List.getElem_toArray, List.getElem_cons_zero, List.getElem_cons_succ, List.setIfInBounds_toArray, List.set_cons_zero, List.set_cons_succ])
      (first | (refine wpAnyH_take (i := 1) (v := undef) rfl (by kernel_rfl) (by kernel_rfl) (by kernel_rfl) (fun _ _ _ h => h) (Or.inr ⟨rfl, rfl⟩) (by assumption) ?_) | (refine wpAnyH_take (i := 1) (v := ?_) rfl (by kernel_rfl) (by kernel_rfl) (by kernel_rfl) (fun _ _ _ h => h) (Or.inl ⟨rfl, ?_⟩) (by assumption) ?_; rotate_left 1; · (intro w hSw; (try dsimp only at hSw); go_simp; (try with_reducible rfl)))); (try simp only [Act.put, List.getElem_toArray, List.getElem_cons_zero, List.getElem_cons_succ, List.setIfInBounds_toArray, List.set_cons_zero, List.set_cons_succ])
      (first | (refine wpAnyH_take (i := 2) (v := undef) rfl (by kernel_rfl) (by kernel_rfl) (by kernel_rfl) (fun _ _ _ h => h) (Or.inr ⟨rfl, rfl⟩) (by assumption) ?_) | (refine wpAnyH_take (i := 2) (v := ?_) rfl (by kernel_rfl) (by kernel_rfl) (by kernel_rfl) (fun _ _ _ h => h) (Or.inl ⟨rfl, ?_⟩) (by assumption) ?_; rotate_left 1; · (intro w hSw; (try dsimp only at hSw); go_simp; (try with_reducible rfl)))); (try simp only [Act.put, List.getElem_toArray, List.getElem_cons_zero, List.getElem_cons_succ, List.setIfInBounds_toArray, List.set_cons_zero, List.set_cons_succ])
      (first | (refine wpAnyH_take (i := 3) (v := undef) rfl (by kernel_rfl) (by kernel_rfl) (by kernel_rfl) (fun _ _ _ h => h) (Or.inr ⟨rfl, rfl⟩) (by assumption) ?_) | (refine wpAnyH_take (i := 3) (v := ?_) rfl (by kernel_rfl) (by kernel_rfl) (by kernel_rfl) (fun _ _ _ h => h) (Or.inl ⟨rfl, ?_⟩) (by assumption) ?_; rotate_left 1; · (intro w hSw; (try dsimp only at hSw); go_simp; (try with_reducible rfl)))); (try simp only [Act.put, List.getElem_toArray, List.getElem_cons_zero, List.getElem_cons_succ, List.setIfInBounds_toArray, List.set_cons_zero, List.set_cons_succ])
      (first | (refine wpAnyH_take (i := 4) (v := undef) rfl (by kernel_rfl) (by kernel_rfl) (by kernel_rfl) (fun _ _ _ h => h) (Or.inr ⟨rfl, rfl⟩) (by assumption) ?_) | (refine wpAnyH_take (i := 4) (v := ?_) rfl (by kernel_rfl) (by kernel_rfl) (by kernel_rfl) (fun _ _ _ h => h) (Or.inl ⟨rfl, ?_⟩) (by assumption) ?_; rotate_left 1; · (intro w hSw; (try dsimp only at hSw); go_simp; (try with_reducible rfl)))); (try simp only [Act.put, List.getElem_toArray, List.getElem_cons_zero, List.getElem_cons_succ, List.setIfInBounds_toArray, List.set_cons_zero, List.set_cons_succ])
      (first | (refine wpAnyH_take (i := 5) (v := undef) rfl (by kernel_rfl) (by kernel_rfl) (by kernel_rfl) (fun _ _ _ h => h) (Or.inr ⟨rfl, rfl⟩) (by assumption) ?_) | (refine wpAnyH_take (i := 5) (v := ?_) rfl (by kernel_rfl) (by kernel_rfl) (by kernel_rfl) (fun _ _ _ h => h) (Or.inl ⟨rfl, ?_⟩) (by assumption) ?_; rotate_left 1; · (intro w hSw; (try dsimp only at hSw); go_simp; (try with_reducible rfl)))); (try simp only [Act.put, List.getElem_toArray, List.getElem_cons_zero, List.getElem_cons_succ, List.setIfInBounds_toArray, List.set_cons_zero, List.set_cons_succ])
      (first | (refine wpAnyH_take (i := 6) (v := undef) rfl (by kernel_rfl) (by kernel_rfl) (by kernel_rfl) (fun _ _ _ h => h) (Or.inr ⟨rfl, rfl⟩) (by assumption) ?_) | (refine wpAnyH_take (i := 6) (v := ?_) rfl (by kernel_rfl) (by kernel_rfl) (by kernel_rfl) (fun _ _ _ h => h) (Or.inl ⟨rfl, ?_⟩) (by assumption) ?_; rotate_left 1; · (intro w hSw; (try dsimp only at hSw); go_simp; (try with_reducible rfl)))); (try simp only [Act.put, List.getElem_toArray, List.getElem_cons_zero, List.getElem_cons_succ, List.setIfInBounds_toArray, List.set_cons_zero, List.set_cons_succ])
      refine wpAnyH_ready (rs := [7]) (by kernel_rfl) (by simp) ?_
      refine AllReadyH.cons rfl (fun K hK => ?_) AllReadyH.nil
      go_simp
      refine hK.out _ _ trivial (fun hHeld => ?_)
      clear hK K
      (try simp only [Act.put, List.getElem_toArray, List.getElem_cons_zero, List.getElem_cons_succ, List.setIfInBounds_toArray, List.set_cons_zero, List.set_cons_succ])
      refine wpAnyH_ready (rs := [8]) (by kernel_rfl) (by simp) ?_
      refine AllReadyH.cons rfl (fun K hK => ?_) AllReadyH.nil
      refine st_app rfl _ _ _ rfl elB rfl rfl (ho.alloc _).drew (Rd.lit wr _ [_, _]).drew (by repeat (first | exact ones_nil | refine ones_cons rfl ?_)) (by unfold maxLen; first | omega | (simp; done) | (simp; omega)) (by first | omega | (simp; done) | (simp; omega)) (Nat.le_trans hTs (by show wr.heap.size ≤ (wr.heap.push _).size; rw [Array.size_push]; omega)) ?_
      intro A1 c1 w2 ho2 ht2 hb2
      refine hK.out _ _ trivial (fun hHeld => ?_)
      clear hK K
      (try simp only [Act.put, List.getElem_toArray, List.getElem_cons_zero, List.getElem_cons_succ, List.setIfInBounds_toArray, List.set_cons_zero, List.set_cons_succ])
      (first | (refine wpAnyH_take (i := 9) (v := undef) rfl (by kernel_rfl) (by kernel_rfl) (by kernel_rfl) (fun _ _ _ h => h) (Or.inr ⟨rfl, rfl⟩) (by assumption) ?_) | (refine wpAnyH_take (i := 9) (v := ?_) rfl (by kernel_rfl) (by kernel_rfl) (by kernel_rfl) (fun _ _ _ h => h) (Or.inl ⟨rfl, ?_⟩) (by assumption) ?_; rotate_left 1; · (intro w hSw; (try dsimp only at hSw); go_simp; (try with_reducible rfl)))); (try simp only [Act.put, List.getElem_toArray, List.getElem_cons_zero, List.getElem_cons_succ, List.setIfInBounds_toArray, List.set_cons_zero, List.set_cons_succ])
      refine wpAnyH_done (by kernel_rfl) ?_ _
      refine NoPanic.normal ?_
      clear hHeld
      have e3 : vbs (sHex (Y.take j)) ++ [Value.int .u8 ((sDig n1).toNat : Int), Value.int .u8 ((sDig n2).toNat : Int)] = vbs (sHex (Y.take (j + 1))) := by
        rw [← HC.out, vbs_append]
        rfl
      rw [e3] at ho2
      have hT2 : Turn w w2 none := ((hT.alloc _).drew).new ht2 (fun g' hg' => (ho.block g' hg').1)
      clear ho
      go_wp2_with fail
      refine ⟨⟨j + 1, A1, c1, by omega, rfl, rfl, ho2, hT2⟩, ?_⟩
      simp [intOf]; omega
    · have hjj : j = 32 := by omega
      have hYY : Y.take j = Y := List.take_of_length_le (by omega)
      rw [hYY] at ho
      clear hjj hYY
      have s1 := str_run wr (c := c) ho.rd
      go_wp2_with fail
      go_ret
      exact ⟨rfl, hT⟩
end Go.Proofs.YtfmighjblppceaaDoor
