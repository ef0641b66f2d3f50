/-
  Layer 13: the walk of ClockAny.
-/
import Derived.Test.YtadkhafjkbkinaaCkC
import Derived.Test.YtadkhafjkbkinaaCkF
namespace Go.Proofs.Ytadkhafjkbkinaa
open Go.RowKit

set_option maxRecDepth 100000 in
set_option maxHeartbeats 3200000 in
theorem any_walk (A : Option Addr) (n d : Nat) (rows : List (List Int)) (O : Option Addr) (m p : Nat) (lo : List UInt8) (w : World) (hr : Rc w w.heap.size A n rows) (hn : n ≤ 140737488351232) (ho : Rd w w.heap.size 1 O m (vbs lo)) (hm : m ≤ 140737488351232) :
    Calls Try.prog 6 #[.slice A n d, .slice O m p] w fun e w' => e = .returned (.bool true) ∧ Turn w w' none := by
  have hT := Turn.refl w none
  have hn8 := nul8_ok
  go_enter Try.func6, Try.ntmps6
  go_wp2_with (first
    | (have q9 := hb1; refine wp_al rfl 24 rfl _ nulCk ?_; intro g2 w2 hg2 hb2 ht2; have n12 : g1 < g2 := hg2 ▸ hb1.lt; have hT := hT.trans ht2; rw [cells_agg] at hb2; have hb1 := hb1.turn0 ht2; clear q9)
    | (refine wp_al rfl 24 rfl _ nulCk ?_; intro g1 w1 hg1 hb1 ht1; have hT := hT.trans ht1; rw [cells_agg] at hb1)
    | (refine wp_bd rfl 24 _ rfl _ rfl _ nulBd ?_)
    | (refine wp_st (xs := ck nul8) rfl 24 _ _ rfl rfl rfl hb1 (ckSz rfl hn8.1) (szCk hn8.1) (ck_one _) ?_; intro w3 hb1 ht3; have hb2 := hb2.turn ht3 (by simp; omega); have hT := hT.new ht3 (by simp; omega))
    | (refine wp_st (xs := ck nul8) rfl 24 _ _ rfl rfl rfl hb2 (ckSz rfl hn8.1) (szCk hn8.1) (ck_one _) ?_; intro w4 hb2 ht4; have hb1 := hb1.turn ht4 (by simp; omega); have hT := hT.new ht4 (by simp; have := ht1.size; omega)))
  have hr4 := hr.turn0 hT (Nat.le_refl _)
  have hw1 : w.heap.size ≤ g1 := by omega
  have hw2 : w.heap.size ≤ g2 := by omega
  have l1 := hb1.lt
  have l2 := hb2.lt
  have k1 := hb1
  go_loopw [7] (fun i wr => ∃ k : Nat, k ≤ n ∧ i = .int .i64 (k : Int) ∧ Blk wr g1 24 (ck (cAll nul8 (rows.take k))).toArray ∧ Turn w4 wr (some g1)) (fun i _ => (n - intOf i).toNat)
  case atStart => exact ⟨0, by omega, rfl, k1, Turn.refl w4 _⟩
  case round =>
    obtain ⟨k, hk, rfl, h1, ht⟩ := hrel
    have hTr := hT.new ht (by simp; omega)
    by_cases hkn : k < n
    · obtain ⟨b, off, y, rfl, hb', hy, hy8, hry⟩ := (hr.turn0 hTr (Nat.le_refl _)).at_ hkn
      have hA8 : Ok8 (cAll nul8 (rows.take k)) := cAll_ok hn8 fun r hr' => hr.2.2 r (List.mem_of_mem_take hr')
      have hnx := cAll_next nul8 (rows.take k) y
      rw [← take_nxtC hy] at hnx
      have hbl : b < wr.heap.size := by have := hTr.size; omega
      generalize cAll nul8 (rows.take k) = L at *
      have HN := hid hnx
      have hM8 := cMax_ok hA8 hy8
      go_wp2_with fail
      refine wp_region_noPanic ?_
      refine wp_region_held_drew (S := (fun W => W.rangeAt b (off + k * 8) (ck y))) (by kernel_rfl) (hry) (fun hHeld => ?_)
      (first | (refine wpAnyH_take (i := 1) (v := undef) rfl (by kernel_rfl) (by kernel_rfl) (by kernel_rfl) (fun _ _ _ h => h) (Or.inr ⟨rfl, rfl⟩) (by assumption) ?_) | (refine wpAnyH_take (i := 1) (v := ?_) rfl (by kernel_rfl) (by kernel_rfl) (by kernel_rfl) (fun _ _ _ h => h) (Or.inl ⟨rfl, ?_⟩) (by assumption) ?_; rotate_left 1; · (intro w hSw; (try dsimp only at hSw); go_simp; (try with_reducible rfl)))); (try simp only [Act.put, List.getElem_toArray, List.getElem_cons_zero, List.getElem_cons_succ, List.setIfInBounds_toArray, List.set_cons_zero, List.set_cons_succ])
      (first | (refine wpAnyH_take (i := 2) (v := undef) rfl (by kernel_rfl) (by kernel_rfl) (by kernel_rfl) (fun _ _ _ h => h) (Or.inr ⟨rfl, rfl⟩) (by assumption) ?_) | (refine wpAnyH_take (i := 2) (v := ?_) rfl (by kernel_rfl) (by kernel_rfl) (by kernel_rfl) (fun _ _ _ h => h) (Or.inl ⟨rfl, ?_⟩) (by assumption) ?_; rotate_left 1; · (intro w hSw; (try dsimp only at hSw); go_simp; (try with_reducible rfl)))); (try simp only [Act.put, List.getElem_toArray, List.getElem_cons_zero, List.getElem_cons_succ, List.setIfInBounds_toArray, List.set_cons_zero, List.set_cons_succ])
      (first | (refine wpAnyH_take (i := 3) (v := undef) rfl (by kernel_rfl) (by kernel_rfl) (by kernel_rfl) (fun _ _ _ h => h) (Or.inr ⟨rfl, rfl⟩) (by assumption) ?_) | (refine wpAnyH_take (i := 3) (v := ?_) rfl (by kernel_rfl) (by kernel_rfl) (by kernel_rfl) (fun _ _ _ h => h) (Or.inl ⟨rfl, ?_⟩) (by assumption) ?_; rotate_left 1; · (intro w hSw; (try dsimp only at hSw); go_simp; (try with_reducible rfl)))); (try simp only [Act.put, List.getElem_toArray, List.getElem_cons_zero, List.getElem_cons_succ, List.setIfInBounds_toArray, List.set_cons_zero, List.set_cons_succ])
      refine wpAnyH_take (i := 4) rfl (by kernel_rfl) (by kernel_rfl) (by kernel_rfl) (fun _ _ _ h => h) (yieldsIf_load_mid (by rfl) 24 _ rfl b (off + k * 8) rfl (ck (y)) _ ((fun W h => h)) Try.underlying24 rfl (szCk hy8.1)) (by assumption) ?_; (try simp only [Act.put, List.getElem_toArray, List.getElem_cons_zero, List.getElem_cons_succ, List.setIfInBounds_toArray, List.set_cons_zero, List.set_cons_succ])
      refine wpAnyH_ready (rs := [0]) (by kernel_rfl) (by simp) ?_; refine AllReadyH.cons rfl (fun K hK => ?_) AllReadyH.nil
      refine gd_dld (by rfl) 24 _ rfl rfl (h1.drew.range (Sub.all _)) Try.underlying24 rfl (szCk hA8.1) ?_
      refine hK.out _ _ hry (fun hHeld => ?_); clear hK K; (try simp only [Act.put, List.getElem_toArray, List.getElem_cons_zero, List.getElem_cons_succ, List.setIfInBounds_toArray, List.set_cons_zero, List.set_cons_succ])
      refine wpAnyH_ready (rs := [5]) (by kernel_rfl) (by simp) ?_; refine AllReadyH.cons rfl (fun K hK => ?_) AllReadyH.nil
      go_simp
      refine (merge_any L y hA8 hy8 _).mono ?_
      rintro e w5 ⟨rfl, ht5⟩
      have h5 := h1.drew.turn0 ht5
      have hry5 := range_turn (row := none) hry ht5.undrew hbl (by simp)
      refine hK.out _ _ hry5 (fun hHeld => ?_); clear hK K; (try simp only [Act.put, List.getElem_toArray, List.getElem_cons_zero, List.getElem_cons_succ, List.setIfInBounds_toArray, List.set_cons_zero, List.set_cons_succ])
      refine wpAnyH_ready (rs := [6]) (by kernel_rfl) (by simp) ?_; refine AllReadyH.cons rfl (fun K hK => ?_) AllReadyH.nil
      refine gd_dst (xs := ck (cMax L y)) rfl 24 _ _ rfl rfl rfl h5 (ckSz hA8.1 hM8.1) (szCk hM8.1) (ck_one _) ?_
      intro w6 h6 ht6
      refine hK.out _ _ (range_turn hry5 ht6 (Nat.lt_of_lt_of_le hbl ht5.size) (by simp; omega)) (fun hHeld => ?_); clear hK K; (try simp only [Act.put, List.getElem_toArray, List.getElem_cons_zero, List.getElem_cons_succ, List.setIfInBounds_toArray, List.set_cons_zero, List.set_cons_succ])
      refine wpAnyH_done (by kernel_rfl) ?_ _
      refine NoPanic.normal ?_
      clear hHeld
      go_wp2_with fail
      refine ⟨⟨k + 1, by omega, rfl, by rw [HN.out]; exact h6, (ht.drew.trans (ht5.any _)).trans ht6⟩, ?_⟩
      simp [intOf]; omega
    · obtain rfl : k = n := by omega
      rw [List.take_of_length_le (by rw [hr.2.1]; exact Nat.le_refl _)] at h1
      have k2 := hb2.turn ht (by simp; omega)
      clear hb1 hb2 k1 hr4
      obtain ⟨wo, rfl⟩ : ∃ wo : World, wo = wr := ⟨_, rfl⟩
      have lo2 : g2 < wo.heap.size := k2.lt
      have lo1 : g1 < wo.heap.size := h1.lt
      go_wp2_with fail
      go_loopw [8] (fun i w5 => ∃ (j : Nat) (ms : List (List Int)), j ≤ m ∧ i = .int .i64 (j : Int) ∧ (∀ x ∈ ms, x ∈ rows) ∧ Blk w5 g2 24 (ck (cAll nul8 ms)).toArray ∧ Turn wo w5 (some g2)) (fun i _ => (m - intOf i).toNat)
      case atStart => exact ⟨0, [], by omega, rfl, by simp, k2, Turn.refl wo _⟩
      case round =>
        obtain ⟨w5, rfl⟩ : ∃ w5 : World, w5 = wr := ⟨_, rfl⟩
        obtain ⟨j, ms, hj, rfl, hms, h2, ht5⟩ := hrel
        clear k2
        have hT5 := hTr.new ht5 (by simp; omega)
        have hms8 : ∀ x ∈ ms, Ok8 x := fun x hx => hr.2.2 x (hms x hx)
        have HMS := hid hms
        clear hms
        by_cases hjm : j < m ∧ 0 < k
        · obtain ⟨hjm, hkp⟩ := hjm
          obtain ⟨bo, oo, rfl, hbo, hoc⟩ := (ho.turn0 hT5 (Nat.le_refl _)).head (by omega)
          have hol := ho.len
          rw [vbs_len] at hol
          obtain ⟨u, hu⟩ : ∃ u, lo[j]? = some u := ⟨lo[j]'(by omega), List.getElem?_eq_getElem (by omega)⟩
          have hcu := hoc j (.int .u8 (u.toNat : Int)) (by rw [vbs, List.getElem?_map, hu]; rfl)
          have hu256 := u.toNat_lt
          have hHm := Nat.mod_lt u.toNat hkp
          obtain ⟨q, hq⟩ : ∃ q, q = u.toNat % k := ⟨_, rfl⟩
          rw [← hq] at hHm
          obtain ⟨b, off, y, rfl, hb', hy, hy8, hry⟩ := (hr.turn0 hT5 (Nat.le_refl _)).at_ hHm
          have hmod : Int.tmod (u.toNat : Int) (k : Int) = (q : Int) := by rw [hq]; rfl
          have hA8 : Ok8 (cAll nul8 ms) := cAll_ok hn8 hms8
          have hnx := cAll_next nul8 ms y
          have hmem : y ∈ rows := List.mem_of_getElem? hy
          have hbl : b < w5.heap.size := by have := hT5.size; omega
          have hbol : bo < w5.heap.size := by have := hT5.size; omega
          have hk0i : (0 : Int) < k := by omega
          have hk0n : ¬ k = 0 := by omega
          have hwr := wrapSmall u.toNat (by omega)
          generalize cAll nul8 ms = L at *
          have HN := hid hnx
          have HQ := hid hq
          have hM8 := cMax_ok hA8 hy8
          clear hoc hq hu hol
          generalize hU : u.toNat = U at *
          clear hU
          go_wp2_with fail
          refine wp_region_noPanic ?_
          refine wp_region_held_drew (S := (fun W => W.rangeAt b (off + q * 8) (ck y) ∧ W.cell? ⟨bo, oo + j, none⟩ = some (.int .u8 (U : Int)))) (by kernel_rfl) (⟨hry, hcu⟩) (fun hHeld => ?_)
          (first | (refine wpAnyH_take (i := 1) (v := undef) rfl (by kernel_rfl) (by kernel_rfl) (by kernel_rfl) (fun _ _ _ h => h) (Or.inr ⟨rfl, rfl⟩) (by assumption) ?_) | (refine wpAnyH_take (i := 1) (v := ?_) rfl (by kernel_rfl) (by kernel_rfl) (by kernel_rfl) (fun _ _ _ h => h) (Or.inl ⟨rfl, ?_⟩) (by assumption) ?_; rotate_left 1; · (intro w hSw; (try dsimp only at hSw); go_simp; (try with_reducible rfl)))); (try simp only [Act.put, List.getElem_toArray, List.getElem_cons_zero, List.getElem_cons_succ, List.setIfInBounds_toArray, List.set_cons_zero, List.set_cons_succ])
          (first | (refine wpAnyH_take (i := 2) (v := undef) rfl (by kernel_rfl) (by kernel_rfl) (by kernel_rfl) (fun _ _ _ h => h) (Or.inr ⟨rfl, rfl⟩) (by assumption) ?_) | (refine wpAnyH_take (i := 2) (v := ?_) rfl (by kernel_rfl) (by kernel_rfl) (by kernel_rfl) (fun _ _ _ h => h) (Or.inl ⟨rfl, ?_⟩) (by assumption) ?_; rotate_left 1; · (intro w hSw; (try dsimp only at hSw); go_simp; (try with_reducible rfl)))); (try simp only [Act.put, List.getElem_toArray, List.getElem_cons_zero, List.getElem_cons_succ, List.setIfInBounds_toArray, List.set_cons_zero, List.set_cons_succ])
          (first | (refine wpAnyH_take (i := 3) (v := undef) rfl (by kernel_rfl) (by kernel_rfl) (by kernel_rfl) (fun _ _ _ h => h) (Or.inr ⟨rfl, rfl⟩) (by assumption) ?_) | (refine wpAnyH_take (i := 3) (v := ?_) rfl (by kernel_rfl) (by kernel_rfl) (by kernel_rfl) (fun _ _ _ h => h) (Or.inl ⟨rfl, ?_⟩) (by assumption) ?_; rotate_left 1; · (intro w hSw; (try dsimp only at hSw); go_simp; (try with_reducible rfl)))); (try simp only [Act.put, List.getElem_toArray, List.getElem_cons_zero, List.getElem_cons_succ, List.setIfInBounds_toArray, List.set_cons_zero, List.set_cons_succ])
          (first | (refine wpAnyH_take (i := 4) (v := undef) rfl (by kernel_rfl) (by kernel_rfl) (by kernel_rfl) (fun _ _ _ h => h) (Or.inr ⟨rfl, rfl⟩) (by assumption) ?_) | (refine wpAnyH_take (i := 4) (v := ?_) rfl (by kernel_rfl) (by kernel_rfl) (by kernel_rfl) (fun _ _ _ h => h) (Or.inl ⟨rfl, ?_⟩) (by assumption) ?_; rotate_left 1; · (intro w hSw; (try dsimp only at hSw); go_simp; (try with_reducible rfl)))); (try simp only [Act.put, List.getElem_toArray, List.getElem_cons_zero, List.getElem_cons_succ, List.setIfInBounds_toArray, List.set_cons_zero, List.set_cons_succ])
          (first | (refine wpAnyH_take (i := 5) (v := undef) rfl (by kernel_rfl) (by kernel_rfl) (by kernel_rfl) (fun _ _ _ h => h) (Or.inr ⟨rfl, rfl⟩) (by assumption) ?_) | (refine wpAnyH_take (i := 5) (v := ?_) rfl (by kernel_rfl) (by kernel_rfl) (by kernel_rfl) (fun _ _ _ h => h) (Or.inl ⟨rfl, ?_⟩) (by assumption) ?_; rotate_left 1; · (intro w hSw; (try dsimp only at hSw); go_simp; (try with_reducible rfl)))); (try simp only [Act.put, List.getElem_toArray, List.getElem_cons_zero, List.getElem_cons_succ, List.setIfInBounds_toArray, List.set_cons_zero, List.set_cons_succ])
          (first | (refine wpAnyH_take (i := 6) (v := undef) rfl (by kernel_rfl) (by kernel_rfl) (by kernel_rfl) (fun _ _ _ h => h) (Or.inr ⟨rfl, rfl⟩) (by assumption) ?_) | (refine wpAnyH_take (i := 6) (v := ?_) rfl (by kernel_rfl) (by kernel_rfl) (by kernel_rfl) (fun _ _ _ h => h) (Or.inl ⟨rfl, ?_⟩) (by assumption) ?_; rotate_left 1; · (intro w hSw; (try dsimp only at hSw); go_simp; (try with_reducible rfl)))); (try simp only [Act.put, List.getElem_toArray, List.getElem_cons_zero, List.getElem_cons_succ, List.setIfInBounds_toArray, List.set_cons_zero, List.set_cons_succ])
          (first | (refine wpAnyH_take (i := 7) (v := undef) rfl (by kernel_rfl) (by kernel_rfl) (by kernel_rfl) (fun _ _ _ h => h) (Or.inr ⟨rfl, rfl⟩) (by assumption) ?_) | (refine wpAnyH_take (i := 7) (v := ?_) rfl (by kernel_rfl) (by kernel_rfl) (by kernel_rfl) (fun _ _ _ h => h) (Or.inl ⟨rfl, ?_⟩) (by assumption) ?_; rotate_left 1; · (intro w hSw; (try dsimp only at hSw); go_simp; (try with_reducible rfl)))); (try simp only [Act.put, List.getElem_toArray, List.getElem_cons_zero, List.getElem_cons_succ, List.setIfInBounds_toArray, List.set_cons_zero, List.set_cons_succ])
          (first | (refine wpAnyH_take (i := 8) (v := undef) rfl (by kernel_rfl) (by kernel_rfl) (by kernel_rfl) (fun _ _ _ h => h) (Or.inr ⟨rfl, rfl⟩) (by assumption) ?_) | (refine wpAnyH_take (i := 8) (v := ?_) rfl (by kernel_rfl) (by kernel_rfl) (by kernel_rfl) (fun _ _ _ h => h) (Or.inl ⟨rfl, ?_⟩) (by assumption) ?_; rotate_left 1; · (intro w hSw; (try dsimp only at hSw); go_simp; (try with_reducible rfl)))); (try simp only [Act.put, List.getElem_toArray, List.getElem_cons_zero, List.getElem_cons_succ, List.setIfInBounds_toArray, List.set_cons_zero, List.set_cons_succ])
          (first | (refine wpAnyH_take (i := 9) (v := undef) rfl (by kernel_rfl) (by kernel_rfl) (by kernel_rfl) (fun _ _ _ h => h) (Or.inr ⟨rfl, rfl⟩) (by assumption) ?_) | (refine wpAnyH_take (i := 9) (v := ?_) rfl (by kernel_rfl) (by kernel_rfl) (by kernel_rfl) (fun _ _ _ h => h) (Or.inl ⟨rfl, ?_⟩) (by assumption) ?_; rotate_left 1; · (intro w hSw; (try dsimp only at hSw); go_simp; (try with_reducible rfl)))); (try simp only [Act.put, List.getElem_toArray, List.getElem_cons_zero, List.getElem_cons_succ, List.setIfInBounds_toArray, List.set_cons_zero, List.set_cons_succ])
          (first | (refine wpAnyH_take (i := 10) (v := undef) rfl (by kernel_rfl) (by kernel_rfl) (by kernel_rfl) (fun _ _ _ h => h) (Or.inr ⟨rfl, rfl⟩) (by assumption) ?_) | (refine wpAnyH_take (i := 10) (v := ?_) rfl (by kernel_rfl) (by kernel_rfl) (by kernel_rfl) (fun _ _ _ h => h) (Or.inl ⟨rfl, ?_⟩) (by assumption) ?_; rotate_left 1; · (intro w hSw; (try dsimp only at hSw); go_simp; (try with_reducible rfl)))); (try simp only [Act.put, List.getElem_toArray, List.getElem_cons_zero, List.getElem_cons_succ, List.setIfInBounds_toArray, List.set_cons_zero, List.set_cons_succ])
          refine wpAnyH_take (i := 11) rfl (by kernel_rfl) (by kernel_rfl) (by kernel_rfl) (fun _ _ _ h => h) (yieldsIf_load_mid (by rfl) 24 _ rfl b (off + q * 8) rfl (ck (y)) _ ((fun W h => h.1)) Try.underlying24 rfl (szCk hy8.1)) (by assumption) ?_; (try simp only [Act.put, List.getElem_toArray, List.getElem_cons_zero, List.getElem_cons_succ, List.setIfInBounds_toArray, List.set_cons_zero, List.set_cons_succ])
          refine wpAnyH_ready (rs := [0]) (by kernel_rfl) (by simp) ?_; refine AllReadyH.cons rfl (fun K hK => ?_) AllReadyH.nil
          refine gd_dld (by rfl) 24 _ rfl rfl (h2.drew.range (Sub.all _)) Try.underlying24 rfl (szCk hA8.1) ?_
          refine hK.out _ _ ⟨hry, hcu⟩ (fun hHeld => ?_); clear hK K; (try simp only [Act.put, List.getElem_toArray, List.getElem_cons_zero, List.getElem_cons_succ, List.setIfInBounds_toArray, List.set_cons_zero, List.set_cons_succ])
          refine wpAnyH_ready (rs := [12]) (by kernel_rfl) (by simp) ?_; refine AllReadyH.cons rfl (fun K hK => ?_) AllReadyH.nil
          go_simp
          refine (merge_any L y hA8 hy8 _).mono ?_
          rintro e w6 ⟨rfl, ht6⟩
          have h6 := h2.drew.turn0 ht6
          have hry6 := range_turn (row := none) hry ht6.undrew hbl (by simp)
          have hcu6 : w6.cell? ⟨bo, oo + j, none⟩ = some (.int .u8 (U : Int)) := (ht6.undrew.cell (a := ⟨bo, oo + j, none⟩) hbol (by simp)).trans hcu
          refine hK.out _ _ ⟨hry6, hcu6⟩ (fun hHeld => ?_); clear hK K; (try simp only [Act.put, List.getElem_toArray, List.getElem_cons_zero, List.getElem_cons_succ, List.setIfInBounds_toArray, List.set_cons_zero, List.set_cons_succ])
          refine wpAnyH_ready (rs := [13]) (by kernel_rfl) (by simp) ?_; refine AllReadyH.cons rfl (fun K hK => ?_) AllReadyH.nil
          refine gd_dst (xs := ck (cMax L y)) rfl 24 _ _ rfl rfl rfl h6 (ckSz hA8.1 hM8.1) (szCk hM8.1) (ck_one _) ?_
          intro w7 h7 ht7
          refine hK.out _ _ ⟨range_turn hry6 ht7 (Nat.lt_of_lt_of_le hbl ht6.size) (by simp; omega), (ht7.cell (a := ⟨bo, oo + j, none⟩) (Nat.lt_of_lt_of_le hbol ht6.size) (by simp; omega)).trans hcu6⟩ (fun hHeld => ?_); clear hK K; (try simp only [Act.put, List.getElem_toArray, List.getElem_cons_zero, List.getElem_cons_succ, List.setIfInBounds_toArray, List.set_cons_zero, List.set_cons_succ])
          refine wpAnyH_done (by kernel_rfl) ?_ _
          refine NoPanic.normal ?_
          clear hHeld
          go_wp2_with fail
          refine ⟨⟨j + 1, ms ++ [y], by omega, rfl, fun x hx => ?_, by rw [HN.out]; exact h7, (ht5.drew.trans (ht6.any _)).trans ht7⟩, ?_⟩
          · rcases List.mem_append.1 hx with h | h
            · exact HMS.out x h
            · rw [List.mem_singleton] at h; rw [h]; exact hmem
          · simp [intOf]; omega
        · have hcase : ¬ j < m ∨ (j < m ∧ ¬ 0 < k) := by omega
          have h1' := h1.turn ht5 (by simp; omega)
          have lw2 : g2 < w5.heap.size := h2.lt
          have lw1 : g1 < w5.heap.size := h1'.lt
          rcases hcase with hc | ⟨hc, hk0⟩
          all_goals
            go_wp2_with fail
            go_loopw [9] (fun i w6 => ∃ q : Nat, q ≤ k ∧ i = .int .i64 ((q : Int) - 1) ∧ Blk w6 g2 24 (ck (cAll nul8 (ms ++ (rows.drop q).reverse))).toArray ∧ Turn w5 w6 (some g2)) (fun i _ => (intOf i + 1).toNat)
            case atStart => exact ⟨k, by omega, rfl, by rw [List.drop_of_length_le (by rw [hr.2.1]; exact Nat.le_refl _)]; simpa using h2, Turn.refl w5 _⟩
            case round =>
              obtain ⟨w6, rfl⟩ : ∃ w6 : World, w6 = wr := ⟨_, rfl⟩
              obtain ⟨q, hq, rfl, h3, ht6⟩ := hrel
              clear h2
              have hT6 := hT5.new ht6 (by simp; omega)
              cases q with
              | zero =>
                have e1 : (((0 : Nat) : Int) - 1) = -1 := by omega
                rw [e1]
                rw [List.drop_zero] at h3
                have h1'' := h1'.turn ht6 (by simp; omega)
                have hsame : cAll nul8 rows = cAll nul8 (ms ++ rows.reverse) := cAll_same hn8 hr.2.2 (fun x hx => by simp [hx]) (fun x hx => by
                  rcases List.mem_append.1 hx with h | h
                  · exact HMS.out x h
                  · exact List.mem_reverse.1 h)
                rw [← hsame] at h3
                clear hsame
                have hF8 : Ok8 (cAll nul8 rows) := cAll_ok hn8 hr.2.2
                have eqF := eq8t hF8 hF8 rfl
                generalize cAll nul8 rows = F at *
                go_wp2_with (first
                  | (refine gd_ld (by rfl) 24 _ rfl rfl h1'' (Sub.all (ck (F))) Try.underlying24 rfl (szCk hF8.1) ?_)
                  | (refine gd_ld (by rfl) 24 _ rfl rfl h3 (Sub.all (ck (F))) Try.underlying24 rfl (szCk hF8.1) ?_)
                  | (go_at_call 9; refine (klives_any _).mono ?_; rintro e w9 ⟨rfl, ht9⟩; have hT9 := hT6.trans ht9))
                go_ret
                exact ⟨rfl, hT9⟩
              | succ s =>
                have e1 : (((s + 1 : Nat) : Int) - 1) = (s : Int) := by omega
                rw [e1]
                have hsk : s < k := by omega
                obtain ⟨b, off, y, rfl, hb', hy, hy8, hry⟩ := (hr.turn0 hT6 (Nat.le_refl _)).at_ hsk
                have hdr : (rows.drop s).reverse = (rows.drop (s + 1)).reverse ++ [y] := by
                  obtain ⟨hs2, rfl⟩ := List.getElem?_eq_some_iff.1 hy
                  rw [List.drop_eq_getElem_cons hs2, List.reverse_cons]
                have hA8 : Ok8 (cAll nul8 (ms ++ (rows.drop (s + 1)).reverse)) := cAll_ok hn8 fun x hx => by
                  rcases List.mem_append.1 hx with h | h
                  · exact hms8 x h
                  · exact hr.2.2 x (List.mem_of_mem_drop (List.mem_reverse.1 h))
                have hnx := cAll_next nul8 (ms ++ (rows.drop (s + 1)).reverse) y
                rw [List.append_assoc, ← hdr] at hnx
                have hbl : b < w6.heap.size := by have := hT6.size; omega
                generalize cAll nul8 (ms ++ (rows.drop (s + 1)).reverse) = L at *
                have HN := hid hnx
                have hM8 := cMax_ok hA8 hy8
                clear hdr hnx
                go_wp2_with fail
                refine wp_region_noPanic ?_
                refine wp_region_held_drew (S := (fun W => W.rangeAt b (off + s * 8) (ck y))) (by kernel_rfl) (hry) (fun hHeld => ?_)
                (first | (refine wpAnyH_take (i := 1) (v := undef) rfl (by kernel_rfl) (by kernel_rfl) (by kernel_rfl) (fun _ _ _ h => h) (Or.inr ⟨rfl, rfl⟩) (by assumption) ?_) | (refine wpAnyH_take (i := 1) (v := ?_) rfl (by kernel_rfl) (by kernel_rfl) (by kernel_rfl) (fun _ _ _ h => h) (Or.inl ⟨rfl, ?_⟩) (by assumption) ?_; rotate_left 1; · (intro w hSw; (try dsimp only at hSw); go_simp; (try with_reducible rfl)))); (try simp only [Act.put, List.getElem_toArray, List.getElem_cons_zero, List.getElem_cons_succ, List.setIfInBounds_toArray, List.set_cons_zero, List.set_cons_succ])
                (first | (refine wpAnyH_take (i := 2) (v := undef) rfl (by kernel_rfl) (by kernel_rfl) (by kernel_rfl) (fun _ _ _ h => h) (Or.inr ⟨rfl, rfl⟩) (by assumption) ?_) | (refine wpAnyH_take (i := 2) (v := ?_) rfl (by kernel_rfl) (by kernel_rfl) (by kernel_rfl) (fun _ _ _ h => h) (Or.inl ⟨rfl, ?_⟩) (by assumption) ?_; rotate_left 1; · (intro w hSw; (try dsimp only at hSw); go_simp; (try with_reducible rfl)))); (try simp only [Act.put, List.getElem_toArray, List.getElem_cons_zero, List.getElem_cons_succ, List.setIfInBounds_toArray, List.set_cons_zero, List.set_cons_succ])
                (first | (refine wpAnyH_take (i := 3) (v := undef) rfl (by kernel_rfl) (by kernel_rfl) (by kernel_rfl) (fun _ _ _ h => h) (Or.inr ⟨rfl, rfl⟩) (by assumption) ?_) | (refine wpAnyH_take (i := 3) (v := ?_) rfl (by kernel_rfl) (by kernel_rfl) (by kernel_rfl) (fun _ _ _ h => h) (Or.inl ⟨rfl, ?_⟩) (by assumption) ?_; rotate_left 1; · (intro w hSw; (try dsimp only at hSw); go_simp; (try with_reducible rfl)))); (try simp only [Act.put, List.getElem_toArray, List.getElem_cons_zero, List.getElem_cons_succ, List.setIfInBounds_toArray, List.set_cons_zero, List.set_cons_succ])
                refine wpAnyH_take (i := 4) rfl (by kernel_rfl) (by kernel_rfl) (by kernel_rfl) (fun _ _ _ h => h) (yieldsIf_load_mid (by rfl) 24 _ rfl b (off + s * 8) rfl (ck (y)) _ ((fun W h => h)) Try.underlying24 rfl (szCk hy8.1)) (by assumption) ?_; (try simp only [Act.put, List.getElem_toArray, List.getElem_cons_zero, List.getElem_cons_succ, List.setIfInBounds_toArray, List.set_cons_zero, List.set_cons_succ])
                refine wpAnyH_ready (rs := [0]) (by kernel_rfl) (by simp) ?_; refine AllReadyH.cons rfl (fun K hK => ?_) AllReadyH.nil
                refine gd_dld (by rfl) 24 _ rfl rfl (h3.drew.range (Sub.all _)) Try.underlying24 rfl (szCk hA8.1) ?_
                refine hK.out _ _ hry (fun hHeld => ?_); clear hK K; (try simp only [Act.put, List.getElem_toArray, List.getElem_cons_zero, List.getElem_cons_succ, List.setIfInBounds_toArray, List.set_cons_zero, List.set_cons_succ])
                refine wpAnyH_ready (rs := [5]) (by kernel_rfl) (by simp) ?_; refine AllReadyH.cons rfl (fun K hK => ?_) AllReadyH.nil
                go_simp
                refine (merge_any L y hA8 hy8 _).mono ?_
                rintro e w7 ⟨rfl, ht7⟩
                have h7 := h3.drew.turn0 ht7
                have hry7 := range_turn (row := none) hry ht7.undrew hbl (by simp)
                refine hK.out _ _ hry7 (fun hHeld => ?_); clear hK K; (try simp only [Act.put, List.getElem_toArray, List.getElem_cons_zero, List.getElem_cons_succ, List.setIfInBounds_toArray, List.set_cons_zero, List.set_cons_succ])
                refine wpAnyH_ready (rs := [6]) (by kernel_rfl) (by simp) ?_; refine AllReadyH.cons rfl (fun K hK => ?_) AllReadyH.nil
                refine gd_dst (xs := ck (cMax L y)) rfl 24 _ _ rfl rfl rfl h7 (ckSz hA8.1 hM8.1) (szCk hM8.1) (ck_one _) ?_
                intro w8 h8 ht8
                refine hK.out _ _ (range_turn hry7 ht8 (Nat.lt_of_lt_of_le hbl ht7.size) (by simp; omega)) (fun hHeld => ?_); clear hK K; (try simp only [Act.put, List.getElem_toArray, List.getElem_cons_zero, List.getElem_cons_succ, List.setIfInBounds_toArray, List.set_cons_zero, List.set_cons_succ])
                refine wpAnyH_done (by kernel_rfl) ?_ _
                refine NoPanic.normal ?_
                clear hHeld
                go_wp2_with fail
                refine ⟨⟨s, by omega, rfl, by rw [HN.out]; exact h8, (ht6.drew.trans (ht7.any _)).trans ht8⟩, ?_⟩
                simp [intOf]; try omega
end Go.Proofs.Ytadkhafjkbkinaa
