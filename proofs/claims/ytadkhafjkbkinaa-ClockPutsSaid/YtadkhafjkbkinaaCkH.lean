/-
  Layer 13: Take of what Put makes (contracts).
-/
import Derived.Test.YtadkhafjkbkinaaCkE
import Derived.Test.YtadkhafjkbkinaaKqa
namespace Go.Proofs.Ytadkhafjkbkinaa
open Go.RowKit

theorem pTake_cut {x : Nat} (h : pSize x ≠ 0) (r : List UInt8) {k : Nat} (hk : pSize x ≤ k) : pTake ((pPut x ++ r).take k) = (x, pSize x, 0) := by
  have hl := pPut_len x
  rw [List.take_append, List.take_of_length_le (by omega)]
  exact pTake_put h _
theorem rd_eq {w : World} {B sz n m : Nat} {A R : Option Addr} {xs ys : List Value} (h : Rd w B sz A n xs) (hA : R = A) (hn : m = n) (hx : ys = xs) : Rd w B sz R m ys := by subst hA; subst hn; subst hx; exact h
set_option maxRecDepth 100000 in
set_option maxHeartbeats 800000 in
theorem ctake_any (A : Option Addr) (n d : Nat) (x : Int) (r : List UInt8) (B : Nat) (w : World) (hr : Rd w B 1 A n (vbs (pPut x.toNat ++ r))) (hB : B ≤ w.heap.size) (hnd : n ≤ d) (hd : d ≤ maxLen) (h0 : 0 < x) (h1 : x ≤ 4611686018427387903) (hn : n ≤ 140737488355328) :
    Calls Try.prog 24 #[.slice A n d] w fun e w' =>
      ∃ R d', e = .returned (.tuple #[.int .u64 x, .slice R r.length d', .int .i64 0]) ∧ Rd w' B 1 R r.length (vbs r) ∧ r.length ≤ d' ∧ d' ≤ maxLen ∧ Turn w w' none := by
  have hs := pSize_ok (by omega) h1
  have hs8 := pSize_le x.toNat
  have hlen := hr.len
  rw [vbs_len, List.length_append, pPut_len] at hlen
  have hsz : ∀ W : World, Calls Try.prog 25 #[.int .u64 x] W fun e w' => e = .returned (.int .i64 (pSize x.toNat : Nat)) ∧ W = w' := fun W => size_any x W (by omega) (by omega)
  obtain ⟨k, hk⟩ : ∃ k, k = if 8 < n then 8 else n := ⟨_, rfl⟩
  have hkn : k ≤ n := by rw [hk]; split <;> omega
  have hks : pSize x.toNat ≤ k := by rw [hk]; split <;> omega
  have hT := pTake_cut hs r hks
  have hrk := hr.takeB hkn
  have hz : pSize (4611686018427387903 : Int).toNat = 8 := by decide
  have hx0 : (x == 0) = false := by rw [beq_eq_false_iff_ne]; omega
  have HT := hid hT
  have hxt : ((x.toNat : Nat) : Int) = x := Int.toNat_of_nonneg (by omega)
  obtain ⟨bb, off, rfl, hbb, _⟩ := hr.head (by omega)
  have hcut := hr.cut (k := pSize x.toNat) (c := d) (by omega) hnd
  have hpd : (vbs (pPut x.toNat ++ r)).drop (pSize x.toNat) = vbs r := by rw [vbs_drop, ← pPut_len, List.drop_left]
  rw [Nat.mul_one, hpd] at hcut
  generalize pSize x.toNat = s at *
  have hrl : r.length = n - s := by omega
  have HK := hid hk
  have HL := hid hlen
  have HR := hid hrl
  have HC := hid hcut
  clear hk hlen hT hrl hcut hpd
  unfold maxLen at hd
  by_cases hds : d = s
  · have hns : n = s := by omega
    subst hds
    subst hns
    have hkk : k = n := by omega
    subst hkk
    by_cases hn8 : k < 8
    all_goals
      have hk8 : k = 8 ∨ k < 8 := by omega
      go_enter Try.func24, Try.ntmps24
      go_wp2_with (first
        | (go_at_call_of 25 (Value.int .u64 4611686018427387903); refine (size_any _ _ (by omega) (by omega)).mono ?_; rintro e w' ⟨rfl, rfl⟩; rw [hz])
        | (go_at_call 30; refine (take_any _ _ _ _ B _ hrk hB (by omega) (by unfold maxLen; omega) (by omega)).mono ?_; rw [HT.out]; rintro e w1 ⟨R1, m1, c1, rfl, ho1, ht1⟩; rw [hxt]))
      go_quiet ((go_at_call 25; exact gd_quiet (hsz _)))
      all_goals go_wp2
      all_goals go_ret3
      all_goals
        have e0 := HR.out
        rw [Nat.sub_self] at e0
        obtain rfl : r = [] := List.eq_nil_of_length_eq_zero e0
        exact ⟨some ⟨bb, off, none⟩, 0, rfl, Rd.none_ _ _ _ 0, Nat.le_refl _, Nat.zero_le _, ht1.drewN _⟩
  · have hsn : (s : Int) ≤ n := by omega
    have hsd : (s : Int) ≤ d := by omega
    have hds2 : ¬ (d : Int) = s := by omega
    have hb1 : k = n ∨ k = 8 := by rw [HK.out]; split <;> simp
    by_cases hn8 : ¬ 8 < n
    · obtain rfl : k = n := by rw [HK.out, if_neg hn8]
      have hn8i : ¬ (8 : Int) < k := by omega
      clear hb1
      go_enter Try.func24, Try.ntmps24
      go_wp2_with (first
        | (go_at_call_of 25 (Value.int .u64 4611686018427387903); refine (size_any _ _ (by omega) (by omega)).mono ?_; rintro e w' ⟨rfl, rfl⟩; rw [hz])
        | (go_at_call 30; refine (take_any _ _ _ _ B _ hrk hB (by omega) (by unfold maxLen; omega) (by omega)).mono ?_; rw [HT.out]; rintro e w1 ⟨R1, m1, c1, rfl, ho1, ht1⟩; rw [hxt]))
      go_quiet ((go_at_call 25; exact gd_quiet (hsz _)))
      all_goals go_wp2
      all_goals go_ret3
      all_goals
        have hC := HC.out
        rw [if_neg hds, Option.map_some, add_flat] at hC
        exact ⟨some ⟨bb, off + s, none⟩, d - s, by rw [HR.out]; rfl, by rw [HR.out]; exact (hC.turn0 ht1 hB).drewN _, by rw [HR.out]; omega, by unfold maxLen; omega, ht1.drewN _⟩
    · have hn8' : 8 < n := by omega
      obtain rfl : k = 8 := by rw [HK.out, if_pos hn8']
      clear hb1
      have hn8i : (8 : Int) < n := by omega
      have hn9 : (if (8 : Int) < (n : Int) then (8 : Int) else (n : Int)) = 8 := if_pos hn8i
      go_enter Try.func24, Try.ntmps24
      go_wp2_with (first
        | (go_at_call_of 25 (Value.int .u64 4611686018427387903); refine (size_any _ _ (by omega) (by omega)).mono ?_; rintro e w' ⟨rfl, rfl⟩; rw [hz])
        | (go_at_call 30; refine (take_any _ _ _ _ B _ hrk hB (by omega) (by unfold maxLen; omega) (by omega)).mono ?_; rw [HT.out]; rintro e w1 ⟨R1, m1, c1, rfl, ho1, ht1⟩; rw [hxt]))
      go_quiet ((go_at_call 25; exact gd_quiet (hsz _)))
      all_goals go_wp2
      all_goals go_ret3
      all_goals
        have hC := HC.out
        rw [if_neg hds, Option.map_some, add_flat] at hC
        exact ⟨some ⟨bb, off + s, none⟩, d - s, by rw [HR.out]; rfl, by rw [HR.out]; exact (hC.turn0 ht1 hB).drewN _, by rw [HR.out]; omega, by unfold maxLen; omega, ht1.drewN _⟩
end Go.Proofs.Ytadkhafjkbkinaa
