/-
  Layer 3: what goes behind all that was written (contract).
-/
import Derived.Test.YtfmighjblppceaaDoorSc
namespace Go.Proofs.YtfmighjblppceaaDoor
open Go.RowKit

theorem vbs_zeros (n : Nat) : vbs (List.replicate n 0) = List.replicate n (.int .u8 0) := by
  unfold vbs
  rw [List.map_replicate]
  rfl
theorem sLen_at (N q k : Nat) (hq : q < 8) (hk : k + 8 * q = 56) : (sLen N)[q]? = some (UInt8.ofNat (N * 8 / 2 ^ k)) := by
  have : q = 0 ∨ q = 1 ∨ q = 2 ∨ q = 3 ∨ q = 4 ∨ q = 5 ∨ q = 6 ∨ q = 7 := by omega
  rcases this with rfl | rfl | rfl | rfl | rfl | rfl | rfl | rfl
  · obtain rfl : k = 56 := by omega
    rfl
  · obtain rfl : k = 48 := by omega
    rfl
  · obtain rfl : k = 40 := by omega
    rfl
  · obtain rfl : k = 32 := by omega
    rfl
  · obtain rfl : k = 24 := by omega
    rfl
  · obtain rfl : k = 16 := by omega
    rfl
  · obtain rfl : k = 8 := by omega
    rfl
  · obtain rfl : k = 0 := by omega
    show _ = some (UInt8.ofNat (N * 8 / 1))
    rw [Nat.div_one]; try rfl
theorem vb_ofNat (n : Nat) : vb (UInt8.ofNat n) = .int .u8 ((n : Int) % 256) := by
  unfold vb
  congr 1
theorem sLen_len (N : Nat) : (sLen N).length = 8 := rfl
theorem take_nxt {l : List UInt8} {j : Nat} {b : UInt8} (h : l[j]? = some b) : l.take (j + 1) = l.take j ++ [b] := by
  rw [List.take_add_one, h]; rfl

set_option maxRecDepth 100000 in
set_option maxHeartbeats 1600000 in
theorem padding_any (s : W8) (blk : List UInt8) (N : Nat) (g : Nat) (w : World) (h : HS w g s blk (N : Int)) (hN : N ≤ 281474976710656) :
    Calls Tryd.prog 22 #[.pointer (some ⟨g, 0, none⟩)] w fun e w' => ∃ A c, e = .returned (.slice A (sZeros N + 9) c) ∧ Own w' w.heap.size 5 1 A (sZeros N + 9) c (vbs (sEnd N)) ∧ Turn w w' none := by
  obtain ⟨hbl, hb⟩ := h
  have hT := Turn.refl w none
  obtain ⟨z, hz⟩ : ∃ z, z = sZeros N := ⟨_, rfl⟩
  have hz64 : z < 64 := by rw [hz]; exact sZeros_lt N
  have hzz : (119 - (N : Int) % 64) % 64 = (z : Int) := by rw [hz]; unfold sZeros; omega
  have hzu := hid hz
  have hw := hb.ats (j := 72) (hsCells_last s (N : Int) hbl)
  clear hz
  go_enter Tryd.func22, Tryd.ntmps22
  go_wp2_with (at_make; refine wp_mk0 rfl _ _ _ rfl elB (z0 := .int .u8 0) (by kernel_rfl) rfl rfl rfl (1 + z) 72 (by omega) rfl (by omega) (by omega) (by unfold maxLen; omega) ?_; intro w8 ho ht8; rw [← vbs_zeros] at ho; have gne : w.heap.size ≠ g := (by have := hb.lt; omega); have hw8 := (hb.turn0 ht8).ats (j := 72) (hsCells_last s (N : Int) hbl); have c0 : w8.cell? ⟨w.heap.size, 0, none⟩ = some (.int .u8 0) := (by rw [ho.cell (by omega), vbs_zeros, List.getElem?_replicate, if_pos (by omega)]); have f0 := ho.frozen 0)
  have ho1 := ho.store 0 (.int .u8 128)
  have e1 : (vbs (List.replicate (1 + z) 0)).set 0 (.int .u8 128) = vbs (128 :: List.replicate z 0 ++ (sLen N).take 0) := by
    rw [Nat.add_comm]; simp [vbs, List.replicate_succ, vb]
  rw [e1] at ho1
  have hT1 : Turn w (w8.setCell ⟨w.heap.size, 0, none⟩ (.int .u8 128)) none := ht8.new (Blk.setTurn _ _ _ _) (by simp)
  generalize w8.setCell ⟨w.heap.size, 0, none⟩ (.int .u8 128) = w9 at *
  clear ho c0 f0 hw8 ht8 hzz hw hb hT e1
  go_loopw [4, 6] (fun b v wr => ∃ (q : Nat) (A : Option Addr) (c : Nat), q ≤ 8 ∧ b = .slice A (1 + z + q) c ∧ v = .int .i64 (56 - 8 * (q : Int)) ∧ Own wr w.heap.size 5 1 A (1 + z + q) c (vbs (128 :: List.replicate z 0 ++ (sLen N).take q)) ∧ Turn w wr none) (fun _ v _ => (intOf v + 8).toNat)
  case atStart => exact ⟨0, _, _, by omega, rfl, rfl, ho1, hT1⟩
  case round =>
    obtain ⟨q, A, c, hq, rfl, rfl, ho, hT⟩ := hrel
    clear ho1 hT1
    by_cases hq8 : q < 8
    · obtain ⟨k, hk⟩ : ∃ k, k + 8 * q = 56 := ⟨56 - 8 * q, by omega⟩
      have hks : (56 - 8 * (q : Int)) = (k : Int) := by omega
      have hkn : (k : Int) - 8 = 56 - 8 * ((q + 1 : Nat) : Int) := by omega
      have hk64 : k < 64 := by omega
      have hat := hid (sLen_at N q k hq8 hk)
      rw [hks]
      clear hks
      have hkn2 := hid hkn
      have hTs := hT.size
      clear hkn
      go_wp2_with (at_builtin; refine wp_app rfl _ _ _ rfl elB rfl rfl (ho.alloc _) (Rd.lit _ _ _) (by repeat (first | exact ones_nil | refine ones_cons rfl ?_)) (by unfold maxLen; first | omega | (simp; done) | (simp; omega)) (by first | omega | (simp; done) | (simp; omega)) (by first | omega | (simp; done) | (simp; omega)) ?_; intro A1 c1 w1 ho2 ht2 hb2)
      rw [hkn2.out]
      have hT2 : Turn w w1 none := (hT.alloc _).new ht2 (fun g' hg' => (ho.block g' hg').1)
      have e2 : vbs (128 :: List.replicate z 0 ++ (sLen N).take q) ++ [Value.int .u8 ((N : Int) * 8 / 2 ^ k % 256)] = vbs (128 :: List.replicate z 0 ++ (sLen N).take (q + 1)) := by
        rw [take_nxt hat.out, ← List.append_assoc, vbs_append _ [_]]
        congr 1
      rw [e2] at ho2
      refine ⟨⟨q + 1, A1, c1, by omega, rfl, rfl, ho2, hT2⟩, ?_⟩
      simp [intOf]; omega
    · have hqq : q = 8 := by omega
      have hneg : (56 - 8 * (q : Int)) = -8 := by omega
      rw [hneg]
      clear hneg
      go_wp2_with fail
      go_ret
      refine ⟨A, c, ?_, ?_, hT⟩
      · rw [hqq, ← hzu.out]
        have : 1 + z + 8 = z + 9 := by omega
        rw [this]
        rfl
      · have e3 : 128 :: List.replicate z 0 ++ (sLen N).take q = sEnd N := by rw [hqq, hzu.out]; rfl
        rw [e3] at ho
        rw [← hzu.out]
        have : z + 9 = 1 + z + q := by omega
        rw [this]
        exact ho
end Go.Proofs.YtfmighjblppceaaDoor
