/-
  Layer 13: Take of what Put makes (contract).
-/
import Derived.Test.YtadkhafjkbkinaaCkH
import Derived.Test.YtadkhafjkbkinaaCkD
namespace Go.Proofs.Ytadkhafjkbkinaa
open Go.RowKit

theorem shift_and (t j : Nat) (ht : t < 256) : bits .and .u8 ((t : Int) / (2 : Int) ^ j) 1 = ((t / 2 ^ j % 2 : Nat) : Int) := by
  have e : (t : Int) / (2 : Int) ^ j = ((t / 2 ^ j : Nat) : Int) := by
    rw [Int.natCast_ediv, Int.natCast_pow]; rfl
  rw [e]
  exact and_one _ (Nat.lt_of_le_of_lt (Nat.div_le_self _ _) ht)
set_option maxRecDepth 100000 in
set_option maxHeartbeats 1600000 in
theorem cktake_any (A : Option Addr) (n d : Nat) (c : List Int) (r : List UInt8) (B : Nat) (w : World) (hr : Rd w B 1 A n (vbs (cRaw c ++ r))) (hB : B ≤ w.heap.size) (hnd : n ≤ d) (hd : d ≤ maxLen) (hc : Ok8 c) (hbad : cBad c = false) (hn : n ≤ 140737488355328) :
    Calls Try.prog 19 #[.slice A n d] w fun e w' =>
      ∃ R d', e = .returned (.tuple #[.agg (ck c).toArray, .slice R r.length d', .int .i64 0]) ∧ Own w' w.heap.size 5 1 R r.length d' (vbs r) ∧ Turn w w' none := by
  have hT := Turn.refl w none
  have hlen := hr.len
  rw [vbs_len, List.length_append, cRaw, List.length_cons] at hlen
  have hnp : 0 < n := by omega
  have hn0 : ((n : Int) == 0) = false := by rw [beq_eq_false_iff_ne]; omega
  have hnpi : (0 : Int) < n := by omega
  obtain ⟨bb, off, rfl, hbb, hcells⟩ := hr.head (by omega)
  have hb8 := cBits_lt c
  rw [hc.1] at hb8
  obtain ⟨t, ht⟩ : ∃ t, t = cBits c := ⟨_, rfl⟩
  have hc0 : w.cell? ⟨bb, off, none⟩ = some (.int .u8 (t : Int)) := by
    have h := hcells 0 (.int .u8 (t : Int)) (by rw [cRaw, List.cons_append, vbs, List.map_cons, List.getElem?_cons_zero, vb_of, Nat.mod_eq_of_lt (by omega), ht])
    exact h
  have ht256 : t < 256 := by omega
  have hcut := hr.cut (k := 1) (c := d) (by omega) hnd
  have hpd : (vbs (cRaw c ++ r)).drop (1 * 1) = vbs (cNums c ++ r) := rfl
  rw [hpd] at hcut
  have HL := hid hlen
  have HT := hid ht
  have HC := hid hcut
  clear hlen hcells hpd ht hb8 hcut
  unfold maxLen at hd
  have hcb := fun j x (hx : c[j]? = some x) => cBits_bit c j x hx
  rw [← HT.out] at hcb
  by_cases hd1 : d = 1
  · have e : n = 1 := by omega
    subst e
    subst hd1
    have HC2 := HC.out
    rw [if_pos rfl, Nat.sub_self] at HC2
    have HC2 := hid HC2
    go_enter Try.func19, Try.ntmps19
    go_wp2_with (first
      | (have q9 := hb1; refine wp_al rfl 24 rfl _ nulCk ?_; intro g2 w2 hg2 hb2 ht2; have n12 : g1 < g2 := hg2 ▸ hb1.lt; have hT := hT.trans ht2; rw [cells_agg] at hb2; have hb1 := hb1.turn0 ht2; have hc0 := (ht2.cell (a := ⟨bb, off, none⟩) (by have := ht1.size; show bb < _; omega) (by simp)).trans hc0; clear q9)
      | (refine wp_al rfl 24 rfl _ nulCk ?_; intro g1 w1 hg1 hb1 ht1; have hT := hT.trans ht1; rw [cells_agg] at hb1; have hc0 := (ht1.cell (a := ⟨bb, off, none⟩) (by show bb < _; omega) (by simp)).trans hc0))
    go_quiet (fail)
    all_goals go_wp2
    have hbg : B ≤ g2 := by omega
    have hg2s : g2 < w2.heap.size := hb2.lt
    go_loopw [7, 19] (fun v i wr => ∃ (j : Nat) (R : Option Addr) (L d' : Nat), j ≤ 8 ∧ i = .int .i64 (j : Int) ∧ v = .slice R L d' ∧ Rd wr B 1 R L (vbs (cNums (c.drop j) ++ r)) ∧ L ≤ d' ∧ d' ≤ 9223372036854775807 ∧ L ≤ 140737488355328 ∧ Blk wr g2 24 (ck (part8 c nul8 j)).toArray ∧ Turn w2 wr (some g2)) (fun _ i _ => (8 - intOf i).toNat)
    case atStart => exact ⟨0, _, _, _, by omega, rfl, rfl, (HC2.out.turn0 hT hB).drewN _, by omega, by omega, by omega, by rw [part8_zero]; exact hb2.drewN _, (Turn.refl w2 _).drewN _⟩
    case round =>
      obtain ⟨j, R, L, d', hj, rfl, rfl, hR, hLd, hd', hL, h2, htr⟩ := hrel
      clear hc0
      (try clear hdl hd1i hn1i)
      clear hd hnd hnp hn0 hnpi
      by_cases hj8 : j < 8
      · obtain ⟨x, hx, hx0, hx1⟩ := hc.at_ hj8
        have hbit := hcb j x hx
        have hsa := shift_and t j ht256
        rw [hbit] at hsa
        rw [cNums_drop c j x hx] at hR
        have hnx := nul8_at hj8
        rcases Int.lt_or_le 0 x with hxp | hxz
        · rw [if_pos hxp] at hR hsa
          rw [List.append_assoc] at hR
          have hBr : B ≤ wr.heap.size := by have := hT.size; have := htr.size; omega
          have hlR := hR.len
          rw [vbs_len, List.length_append, pPut_len] at hlR
          obtain ⟨l2, hl2⟩ : ∃ l2, l2 = cNums (c.drop (j + 1)) ++ r := ⟨_, rfl⟩
          rw [← hl2] at hR hlR
          obtain ⟨L2, hL2⟩ : ∃ L2, L2 = l2.length := ⟨_, rfl⟩
          have hL2b : L2 ≤ 140737488355328 := by omega
          have HL2 := hid hl2
          have HLL := hid hL2
          have HHL := hid hlR
          clear hl2 hL2 hlR
          have tk := ctake_any _ _ _ x _ B _ hR hBr hLd hd' hxp (cBad_no hbad hx) hL
          rw [← HLL.out] at tk
          go_wp2_with (first
            | (go_at_call 24; refine tk.mono ?_; rintro e w5 ⟨R5, d5, rfl, hR5, hLd5, hd5, ht5⟩; have h5 := h2.turn0 ht5; have hcell := h5.ats (ck_at (part8_at hc.1 hj8 hnx)); have hfr := h5.frozen j))
          refine ⟨⟨j + 1, R5, L2, d5, by omega, rfl, rfl, ?_, hLd5, hd5, hL2b, ?_, (htr.trans (ht5.any _)).trans (Blk.setTurn _ g2 _ _)⟩, ?_⟩
          · rw [← HL2.out]
            exact hR5.turn (Blk.setTurn _ g2 _ _) (Nat.le_trans hBr ht5.size) (by simp; omega)
          · rw [← part8_next hc.1 rfl hj8 hx, ← ck_set]
            exact h5.sets _ _
          · simp [intOf]; omega
        · obtain rfl : x = 0 := by omega
          rw [if_neg (by omega)] at hR hsa
          rw [List.nil_append] at hR
          go_wp2_with fail
          refine ⟨⟨j + 1, R, L, d', by omega, rfl, rfl, hR, hLd, hd', hL, by rw [part8_stay hc.1 rfl hj8 hx hnx]; exact h2, htr⟩, ?_⟩
          simp [intOf]; omega
      · obtain rfl : j = 8 := by omega
        rw [part8_all hc.1 rfl] at h2
        rw [List.drop_of_length_le (Nat.le_of_eq hc.1)] at hR
        have hR : Rd wr B 1 R L (vbs r) := hR
        have hBr : B ≤ wr.heap.size := by have := hT.size; have := htr.size; omega
        have hlR := hR.len
        rw [vbs_len] at hlR
        have b1r := hb1.turn htr (by simp; omega)
        go_wp2_with fail
        refine wp_region_noPanic ?_
        refine wp_region_held_drew (S := (fun W => Turn wr W (some g1))) (by kernel_rfl) (((Turn.refl wr _).drew)) (fun hHeld => ?_)
        refine wpAnyH_take (i := 0) rfl (by kernel_rfl) (by kernel_rfl) (by kernel_rfl) (fun _ _ _ h => h) (yieldsIf_load_mid (by rfl) 24 _ rfl g2 0 rfl (ck c) _ (fun W hW => range_turn (h2.range (Sub.all (ck c))) hW (by have := htr.size; omega) (by simp; omega)) Try.underlying24 rfl (szCk hc.1)) (by assumption) ?_
        (try simp only [Act.put, List.getElem_toArray, List.getElem_cons_zero, List.getElem_cons_succ, List.setIfInBounds_toArray, List.set_cons_zero, List.set_cons_succ])
        (first | (refine wpAnyH_take (i := 1) (v := undef) rfl (by kernel_rfl) (by kernel_rfl) (by kernel_rfl) (fun _ _ _ h => h) (Or.inr ⟨rfl, rfl⟩) (by assumption) ?_) | (refine wpAnyH_take (i := 1) (v := ?_) rfl (by kernel_rfl) (by kernel_rfl) (by kernel_rfl) (fun _ _ _ h => h) (Or.inl ⟨rfl, ?_⟩) (by assumption) ?_; rotate_left 1; · (intro w hSw; (try dsimp only at hSw); go_simp; (try with_reducible rfl)))); (try simp only [Act.put, List.getElem_toArray, List.getElem_cons_zero, List.getElem_cons_succ, List.setIfInBounds_toArray, List.set_cons_zero, List.set_cons_succ])
        refine wpAnyH_ready (rs := [2]) (by kernel_rfl) (by simp) ?_
        refine AllReadyH.cons rfl (fun K hK => ?_) AllReadyH.nil
        go_simp
        refine (clone_any _ _ _ r B _ hR.drew hBr hL).mono ?_
        rintro e w6 ⟨A6, c6, rfl, ho6, ht6⟩
        have t6 : Turn wr w6 none := ht6.undrew
        refine hK.out _ _ (t6.any _) (fun hHeld => ?_); clear hK K; (try simp only [Act.put, List.getElem_toArray, List.getElem_cons_zero, List.getElem_cons_succ, List.setIfInBounds_toArray, List.set_cons_zero, List.set_cons_succ])
        refine wpAnyH_ready (rs := [3]) (by kernel_rfl) (by simp) ?_; refine AllReadyH.cons rfl (fun K hK => ?_) AllReadyH.nil
        refine gd_dst (xs := ck c) rfl 24 _ _ rfl rfl rfl (b1r.turn0 t6) (ckSz rfl hc.1) (szCk hc.1) (ck_one _) ?_
        intro w7 h7 ht7
        refine hK.out _ _ ((t6.any _).trans ht7) (fun hHeld => ?_); clear hK K; (try simp only [Act.put, List.getElem_toArray, List.getElem_cons_zero, List.getElem_cons_succ, List.setIfInBounds_toArray, List.set_cons_zero, List.set_cons_succ])
        (first | (refine wpAnyH_take (i := 4) (v := undef) rfl (by kernel_rfl) (by kernel_rfl) (by kernel_rfl) (fun _ _ _ h => h) (Or.inr ⟨rfl, rfl⟩) (by assumption) ?_) | (refine wpAnyH_take (i := 4) (v := ?_) rfl (by kernel_rfl) (by kernel_rfl) (by kernel_rfl) (fun _ _ _ h => h) (Or.inl ⟨rfl, ?_⟩) (by assumption) ?_; rotate_left 1; · (intro w hSw; (try dsimp only at hSw); go_simp; (try with_reducible rfl)))); (try simp only [Act.put, List.getElem_toArray, List.getElem_cons_zero, List.getElem_cons_succ, List.setIfInBounds_toArray, List.set_cons_zero, List.set_cons_succ])
        (first | (refine wpAnyH_take (i := 5) (v := undef) rfl (by kernel_rfl) (by kernel_rfl) (by kernel_rfl) (fun _ _ _ h => h) (Or.inr ⟨rfl, rfl⟩) (by assumption) ?_) | (refine wpAnyH_take (i := 5) (v := ?_) rfl (by kernel_rfl) (by kernel_rfl) (by kernel_rfl) (fun _ _ _ h => h) (Or.inl ⟨rfl, ?_⟩) (by assumption) ?_; rotate_left 1; · (intro w hSw; (try dsimp only at hSw); go_simp; (try with_reducible rfl)))); (try simp only [Act.put, List.getElem_toArray, List.getElem_cons_zero, List.getElem_cons_succ, List.setIfInBounds_toArray, List.set_cons_zero, List.set_cons_succ])
        refine wpAnyH_done (by kernel_rfl) ?_ _
        refine NoPanic.normal ?_
        clear hHeld
        go_wp2_with fail
        refine ret_ctt rfl rfl rfl rfl rfl h7 Try.underlying24 rfl (szCk hc.1) ?_
        have hTw := hT.new htr (by simp; omega)
        refine ⟨A6, c6, by rw [hlR]; rfl, ?_, (hTw.trans t6).new ht7 (by simp; omega)⟩
        rw [hlR]
        have hz : g1 < wr.heap.size := by have := htr.size; omega
        have h9 := (ho6.turn ht7 (.inr (fun e => by have h := (ho6.block g1 e).1; exact absurd hz (Nat.not_lt.2 h)))).mono (B := w.heap.size) hTw.size
        exact h9
  · have hd1i : ¬ (d : Int) = 1 := by omega
    have hn1 : 1 ≤ n := hnp
    have hn1i : (1 : Int) ≤ n := by omega
    have hdl : (d : Int) < 9223372036854775808 := by omega
    have HC2 := HC.out
    rw [if_neg hd1, Option.map_some, add_flat] at HC2
    have HC2 := hid HC2
    go_enter Try.func19, Try.ntmps19
    go_wp2_with (first
      | (have q9 := hb1; refine wp_al rfl 24 rfl _ nulCk ?_; intro g2 w2 hg2 hb2 ht2; have n12 : g1 < g2 := hg2 ▸ hb1.lt; have hT := hT.trans ht2; rw [cells_agg] at hb2; have hb1 := hb1.turn0 ht2; have hc0 := (ht2.cell (a := ⟨bb, off, none⟩) (by have := ht1.size; show bb < _; omega) (by simp)).trans hc0; clear q9)
      | (refine wp_al rfl 24 rfl _ nulCk ?_; intro g1 w1 hg1 hb1 ht1; have hT := hT.trans ht1; rw [cells_agg] at hb1; have hc0 := (ht1.cell (a := ⟨bb, off, none⟩) (by show bb < _; omega) (by simp)).trans hc0))
    go_quiet (fail)
    all_goals go_wp2
    have hbg : B ≤ g2 := by omega
    have hg2s : g2 < w2.heap.size := hb2.lt
    go_loopw [7, 19] (fun v i wr => ∃ (j : Nat) (R : Option Addr) (L d' : Nat), j ≤ 8 ∧ i = .int .i64 (j : Int) ∧ v = .slice R L d' ∧ Rd wr B 1 R L (vbs (cNums (c.drop j) ++ r)) ∧ L ≤ d' ∧ d' ≤ 9223372036854775807 ∧ L ≤ 140737488355328 ∧ Blk wr g2 24 (ck (part8 c nul8 j)).toArray ∧ Turn w2 wr (some g2)) (fun _ i _ => (8 - intOf i).toNat)
    case atStart => exact ⟨0, _, _, _, by omega, rfl, rfl, (HC2.out.turn0 hT hB).drewN _, by omega, by omega, by omega, by rw [part8_zero]; exact hb2.drewN _, (Turn.refl w2 _).drewN _⟩
    case round =>
      obtain ⟨j, R, L, d', hj, rfl, rfl, hR, hLd, hd', hL, h2, htr⟩ := hrel
      clear hc0
      (try clear hdl hd1i hn1i)
      clear hd hnd hnp hn0 hnpi
      by_cases hj8 : j < 8
      · obtain ⟨x, hx, hx0, hx1⟩ := hc.at_ hj8
        have hbit := hcb j x hx
        have hsa := shift_and t j ht256
        rw [hbit] at hsa
        rw [cNums_drop c j x hx] at hR
        have hnx := nul8_at hj8
        rcases Int.lt_or_le 0 x with hxp | hxz
        · rw [if_pos hxp] at hR hsa
          rw [List.append_assoc] at hR
          have hBr : B ≤ wr.heap.size := by have := hT.size; have := htr.size; omega
          have hlR := hR.len
          rw [vbs_len, List.length_append, pPut_len] at hlR
          obtain ⟨l2, hl2⟩ : ∃ l2, l2 = cNums (c.drop (j + 1)) ++ r := ⟨_, rfl⟩
          rw [← hl2] at hR hlR
          obtain ⟨L2, hL2⟩ : ∃ L2, L2 = l2.length := ⟨_, rfl⟩
          have hL2b : L2 ≤ 140737488355328 := by omega
          have HL2 := hid hl2
          have HLL := hid hL2
          have HHL := hid hlR
          clear hl2 hL2 hlR
          have tk := ctake_any _ _ _ x _ B _ hR hBr hLd hd' hxp (cBad_no hbad hx) hL
          rw [← HLL.out] at tk
          go_wp2_with (first
            | (go_at_call 24; refine tk.mono ?_; rintro e w5 ⟨R5, d5, rfl, hR5, hLd5, hd5, ht5⟩; have h5 := h2.turn0 ht5; have hcell := h5.ats (ck_at (part8_at hc.1 hj8 hnx)); have hfr := h5.frozen j))
          refine ⟨⟨j + 1, R5, L2, d5, by omega, rfl, rfl, ?_, hLd5, hd5, hL2b, ?_, (htr.trans (ht5.any _)).trans (Blk.setTurn _ g2 _ _)⟩, ?_⟩
          · rw [← HL2.out]
            exact hR5.turn (Blk.setTurn _ g2 _ _) (Nat.le_trans hBr ht5.size) (by simp; omega)
          · rw [← part8_next hc.1 rfl hj8 hx, ← ck_set]
            exact h5.sets _ _
          · simp [intOf]; omega
        · obtain rfl : x = 0 := by omega
          rw [if_neg (by omega)] at hR hsa
          rw [List.nil_append] at hR
          go_wp2_with fail
          refine ⟨⟨j + 1, R, L, d', by omega, rfl, rfl, hR, hLd, hd', hL, by rw [part8_stay hc.1 rfl hj8 hx hnx]; exact h2, htr⟩, ?_⟩
          simp [intOf]; omega
      · obtain rfl : j = 8 := by omega
        rw [part8_all hc.1 rfl] at h2
        rw [List.drop_of_length_le (Nat.le_of_eq hc.1)] at hR
        have hR : Rd wr B 1 R L (vbs r) := hR
        have hBr : B ≤ wr.heap.size := by have := hT.size; have := htr.size; omega
        have hlR := hR.len
        rw [vbs_len] at hlR
        have b1r := hb1.turn htr (by simp; omega)
        go_wp2_with fail
        refine wp_region_noPanic ?_
        refine wp_region_held_drew (S := (fun W => Turn wr W (some g1))) (by kernel_rfl) (((Turn.refl wr _).drew)) (fun hHeld => ?_)
        refine wpAnyH_take (i := 0) rfl (by kernel_rfl) (by kernel_rfl) (by kernel_rfl) (fun _ _ _ h => h) (yieldsIf_load_mid (by rfl) 24 _ rfl g2 0 rfl (ck c) _ (fun W hW => range_turn (h2.range (Sub.all (ck c))) hW (by have := htr.size; omega) (by simp; omega)) Try.underlying24 rfl (szCk hc.1)) (by assumption) ?_
        (try simp only [Act.put, List.getElem_toArray, List.getElem_cons_zero, List.getElem_cons_succ, List.setIfInBounds_toArray, List.set_cons_zero, List.set_cons_succ])
        (first | (refine wpAnyH_take (i := 1) (v := undef) rfl (by kernel_rfl) (by kernel_rfl) (by kernel_rfl) (fun _ _ _ h => h) (Or.inr ⟨rfl, rfl⟩) (by assumption) ?_) | (refine wpAnyH_take (i := 1) (v := ?_) rfl (by kernel_rfl) (by kernel_rfl) (by kernel_rfl) (fun _ _ _ h => h) (Or.inl ⟨rfl, ?_⟩) (by assumption) ?_; rotate_left 1; · (intro w hSw; (try dsimp only at hSw); go_simp; (try with_reducible rfl)))); (try simp only [Act.put, List.getElem_toArray, List.getElem_cons_zero, List.getElem_cons_succ, List.setIfInBounds_toArray, List.set_cons_zero, List.set_cons_succ])
        refine wpAnyH_ready (rs := [2]) (by kernel_rfl) (by simp) ?_
        refine AllReadyH.cons rfl (fun K hK => ?_) AllReadyH.nil
        go_simp
        refine (clone_any _ _ _ r B _ hR.drew hBr hL).mono ?_
        rintro e w6 ⟨A6, c6, rfl, ho6, ht6⟩
        have t6 : Turn wr w6 none := ht6.undrew
        refine hK.out _ _ (t6.any _) (fun hHeld => ?_); clear hK K; (try simp only [Act.put, List.getElem_toArray, List.getElem_cons_zero, List.getElem_cons_succ, List.setIfInBounds_toArray, List.set_cons_zero, List.set_cons_succ])
        refine wpAnyH_ready (rs := [3]) (by kernel_rfl) (by simp) ?_; refine AllReadyH.cons rfl (fun K hK => ?_) AllReadyH.nil
        refine gd_dst (xs := ck c) rfl 24 _ _ rfl rfl rfl (b1r.turn0 t6) (ckSz rfl hc.1) (szCk hc.1) (ck_one _) ?_
        intro w7 h7 ht7
        refine hK.out _ _ ((t6.any _).trans ht7) (fun hHeld => ?_); clear hK K; (try simp only [Act.put, List.getElem_toArray, List.getElem_cons_zero, List.getElem_cons_succ, List.setIfInBounds_toArray, List.set_cons_zero, List.set_cons_succ])
        (first | (refine wpAnyH_take (i := 4) (v := undef) rfl (by kernel_rfl) (by kernel_rfl) (by kernel_rfl) (fun _ _ _ h => h) (Or.inr ⟨rfl, rfl⟩) (by assumption) ?_) | (refine wpAnyH_take (i := 4) (v := ?_) rfl (by kernel_rfl) (by kernel_rfl) (by kernel_rfl) (fun _ _ _ h => h) (Or.inl ⟨rfl, ?_⟩) (by assumption) ?_; rotate_left 1; · (intro w hSw; (try dsimp only at hSw); go_simp; (try with_reducible rfl)))); (try simp only [Act.put, List.getElem_toArray, List.getElem_cons_zero, List.getElem_cons_succ, List.setIfInBounds_toArray, List.set_cons_zero, List.set_cons_succ])
        (first | (refine wpAnyH_take (i := 5) (v := undef) rfl (by kernel_rfl) (by kernel_rfl) (by kernel_rfl) (fun _ _ _ h => h) (Or.inr ⟨rfl, rfl⟩) (by assumption) ?_) | (refine wpAnyH_take (i := 5) (v := ?_) rfl (by kernel_rfl) (by kernel_rfl) (by kernel_rfl) (fun _ _ _ h => h) (Or.inl ⟨rfl, ?_⟩) (by assumption) ?_; rotate_left 1; · (intro w hSw; (try dsimp only at hSw); go_simp; (try with_reducible rfl)))); (try simp only [Act.put, List.getElem_toArray, List.getElem_cons_zero, List.getElem_cons_succ, List.setIfInBounds_toArray, List.set_cons_zero, List.set_cons_succ])
        refine wpAnyH_done (by kernel_rfl) ?_ _
        refine NoPanic.normal ?_
        clear hHeld
        go_wp2_with fail
        refine ret_ctt rfl rfl rfl rfl rfl h7 Try.underlying24 rfl (szCk hc.1) ?_
        have hTw := hT.new htr (by simp; omega)
        refine ⟨A6, c6, by rw [hlR]; rfl, ?_, (hTw.trans t6).new ht7 (by simp; omega)⟩
        rw [hlR]
        have hz : g1 < wr.heap.size := by have := htr.size; omega
        have h9 := (ho6.turn ht7 (.inr (fun e => by have h := (ho6.block g1 e).1; exact absurd hz (Nat.not_lt.2 h)))).mono (B := w.heap.size) hTw.size
        exact h9
end Go.Proofs.Ytadkhafjkbkinaa
