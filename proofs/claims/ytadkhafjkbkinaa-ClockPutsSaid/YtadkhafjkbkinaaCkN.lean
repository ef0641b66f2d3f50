/-
  Layer 13: the walk of ClockPuts.
-/
import Derived.Test.YtadkhafjkbkinaaCkI
import Derived.Test.YtadkhafjkbkinaaCkL
namespace Go.Proofs.Ytadkhafjkbkinaa
open Go.RowKit

set_option maxRecDepth 100000 in
set_option maxHeartbeats 3200000 in
theorem cputs_walk (A : Option Addr) (n d : Nat) (l : List UInt8) (c : List Int) (w : World) (hr : Rd w w.heap.size 1 A n (vbs l)) (hnd : n ≤ d ∧ d ≤ maxLen) (hc : Ok8 c) (hn : n ≤ 140737488351232) :
    Calls Try.prog 7 #[.slice A n d, .agg (ck c).toArray] w fun e w' => e = .returned (.bool true) ∧ Turn w w' none := by
  have hT := Turn.refl w none
  have eqc := eq8t hc hc rfl
  have hP65 : (cPut c).length ≤ 65 := by
    unfold cPut
    split
    · simp
    · have := cRaw_len c
      rw [hc.1] at this
      exact this
  have hce : cErr c = 0 ∨ cErr c = 1 := by unfold cErr; split <;> simp
  have hcr : cErr c = 0 → cPut c = cRaw c ∧ cBad c = false := by
    unfold cErr cPut
    intro h
    cases hb : cBad c with
    | true => rw [hb] at h; simp at h
    | false => exact ⟨rfl, rfl⟩
  have hln := hr.len
  rw [vbs_len] at hln
  have hcp := fun {W : World} (hW : Turn w W none) {A1 : Option Addr} {d1 : Nat} {W0 : Nat} (q : Rd W W0 1 A1 n (vbs l)) (hB : W0 ≤ W.heap.size) (hd : n ≤ d1 ∧ d1 ≤ maxLen) => cput_any A1 n d1 l c W0 W q hB hd hc (by omega)
  have hrp := fun {W : World} (hW : Turn w W none) => rcput_any A n d l c w.heap.size W (hr.turn0 hW (Nat.le_refl _)) hW.size hc (by omega)
  have hnp := fun (W : World) => cput_any none 0 0 [] c W.heap.size W (Rd.none_ W _ 1 0) (Nat.le_refl _) ⟨Nat.le_refl _, Nat.zero_le _⟩ hc (by omega)
  obtain ⟨P, hP⟩ : ∃ P, P = cPut c := ⟨_, rfl⟩
  obtain ⟨E, hE⟩ : ∃ E, E = cErr c := ⟨_, rfl⟩
  simp only [← hP, ← hE] at hcp hrp hnp hP65 hce hcr
  obtain ⟨N, hN⟩ : ∃ N, N = P.length := ⟨_, rfl⟩
  simp only [← hN] at hcp hrp hnp hP65
  have HN := hid hN
  have HLN := hid hln
  clear hP hE hN hln
  have hCR := hid hcr
  clear hcr
  go_enter Try.func7, Try.ntmps7
  go_wp2_with (first
    | (refine wp_bx rfl 24 _ rfl rfl ?_; intro g1 w1 hg1 hb1 ht1; have hT := hT.trans ht1; skip))
  have rg1 : ∀ W, Turn (World.drew w1) W none → W.rangeAt g1 0 (ck c) := fun W h => range_turn (row := none) (hb1.drew.range (Sub.all _)) h hb1.lt (by simp)
  refine wp_region_noPanic ?_
  refine wp_region_held_drew (S := fun W => Turn w1 W none) (by kernel_rfl) (Turn.refl _ none).drew (fun hHeld => ?_)
  refine wpAnyH_more (S' := fun W => Turn (World.drew w1) W none) (fun W h => (Turn.refl _ none).drew.trans h) _ _ _ _ ?_
  clear hHeld
  have hHeld : (fun W => Turn (World.drew w1) W none) (World.drew w1) := Turn.refl _ none
  (first | (refine wpAnyH_take (i := 1) (v := undef) rfl (by kernel_rfl) (by kernel_rfl) (by kernel_rfl) (fun _ _ _ h => h) (Or.inr ⟨rfl, rfl⟩) (by assumption) ?_) | (refine wpAnyH_take (i := 1) (v := ?_) rfl (by kernel_rfl) (by kernel_rfl) (by kernel_rfl) (fun _ _ _ h => h) (Or.inl ⟨rfl, ?_⟩) (by assumption) ?_; rotate_left 1; · (intro w hSw; (try dsimp only at hSw); go_simp; (try with_reducible rfl)))); (try simp only [Act.put, List.getElem_toArray, List.getElem_cons_zero, List.getElem_cons_succ, List.setIfInBounds_toArray, List.set_cons_zero, List.set_cons_succ])
  refine wpAnyH_take (i := 3) rfl (by kernel_rfl) (by kernel_rfl) (by kernel_rfl) (fun _ _ _ h => h) (yieldsIf_load_mid (by rfl) 24 _ rfl g1 0 rfl (ck (c)) _ (rg1) Try.underlying24 rfl (szCk hc.1)) (by assumption) ?_; (try simp only [Act.put, List.getElem_toArray, List.getElem_cons_zero, List.getElem_cons_succ, List.setIfInBounds_toArray, List.set_cons_zero, List.set_cons_succ])
  refine wpAnyH_ready (rs := [0]) (by kernel_rfl) (by simp) ?_; refine AllReadyH.cons rfl (fun K hK => ?_) AllReadyH.nil
  go_simp
  refine hK.out _ _ ((Turn.refl (World.drew w1) none).alloc (.cells #[] 5)) (fun hHeld => ?_); clear hK K; (try simp only [Act.put, List.getElem_toArray, List.getElem_cons_zero, List.getElem_cons_succ, List.setIfInBounds_toArray, List.set_cons_zero, List.set_cons_succ])
  have h00 : Own ((World.drew w1).alloc (.cells #[] 5)) w1.heap.size 5 1 (some ⟨w1.heap.size, 0, none⟩) 0 0 [] := Own.made (World.drew w1) _ _ 1 0 #[] (Nat.le_refl _) (by decide) rfl
  have hr1 : Rd ((World.drew w1).alloc (.cells #[] 5)) w.heap.size 1 A n (vbs l) := ((hr.turn0 ht1 (Nat.le_refl _)).drew).alloc ht1.size (.cells #[] 5)
  refine wpAnyH_ready (rs := [2]) (by kernel_rfl) (by simp) ?_; refine AllReadyH.cons rfl (fun K hK => ?_) AllReadyH.nil
  refine gd_dapp (by rfl) _ _ _ rfl elB rfl rfl h00 hr1 (vbs_one l) (by unfold maxLen; omega) (by omega) (by show _ ≤ (w1.heap.push _).size; rw [Array.size_push]; omega) ?_
  intro A2 c2 w2 ho2 ht2 hb2
  have tw2 : Turn (World.drew w1) w2 none := ((Turn.refl (World.drew w1) none).alloc _).new ht2 (fun g hg => by simp [blk] at hg; subst hg; exact Nat.le_refl _)
  simp only [Nat.zero_add, List.nil_append] at ho2 ⊢
  refine hK.out _ _ tw2 (fun hHeld => ?_); clear hK K; (try simp only [Act.put, List.getElem_toArray, List.getElem_cons_zero, List.getElem_cons_succ, List.setIfInBounds_toArray, List.set_cons_zero, List.set_cons_succ])
  refine wpAnyH_ready (rs := [4]) (by kernel_rfl) (by simp) ?_
  refine AllReadyH.cons rfl (fun K hK => ?_) AllReadyH.nil
  go_simp
  have T2 : Turn w w2 none := ht1.trans tw2.undrew
  refine (hcp T2 ho2.rd (Nat.le_refl _) ho2.cap).mono ?_
  rintro e w3 ⟨A3, c3, rfl, ho3, ht3⟩
  refine hK.out _ _ (tw2.trans ht3) (fun hHeld => ?_); clear hK K; (try simp only [Act.put, List.getElem_toArray, List.getElem_cons_zero, List.getElem_cons_succ, List.setIfInBounds_toArray, List.set_cons_zero, List.set_cons_succ])
  (first | (refine wpAnyH_take (i := 5) (v := undef) rfl (by kernel_rfl) (by kernel_rfl) (by kernel_rfl) (fun _ _ _ h => h) (Or.inr ⟨rfl, rfl⟩) (by assumption) ?_) | (refine wpAnyH_take (i := 5) (v := ?_) rfl (by kernel_rfl) (by kernel_rfl) (by kernel_rfl) (fun _ _ _ h => h) (Or.inl ⟨rfl, ?_⟩) (by assumption) ?_; rotate_left 1; · (intro w hSw; (try dsimp only at hSw); go_simp; (try with_reducible rfl)))); (try simp only [Act.put, List.getElem_toArray, List.getElem_cons_zero, List.getElem_cons_succ, List.setIfInBounds_toArray, List.set_cons_zero, List.set_cons_succ])
  (first | (refine wpAnyH_take (i := 6) (v := undef) rfl (by kernel_rfl) (by kernel_rfl) (by kernel_rfl) (fun _ _ _ h => h) (Or.inr ⟨rfl, rfl⟩) (by assumption) ?_) | (refine wpAnyH_take (i := 6) (v := ?_) rfl (by kernel_rfl) (by kernel_rfl) (by kernel_rfl) (fun _ _ _ h => h) (Or.inl ⟨rfl, ?_⟩) (by assumption) ?_; rotate_left 1; · (intro w hSw; (try dsimp only at hSw); go_simp; (try with_reducible rfl)))); (try simp only [Act.put, List.getElem_toArray, List.getElem_cons_zero, List.getElem_cons_succ, List.setIfInBounds_toArray, List.set_cons_zero, List.set_cons_succ])
  (first | (refine wpAnyH_take (i := 7) (v := undef) rfl (by kernel_rfl) (by kernel_rfl) (by kernel_rfl) (fun _ _ _ h => h) (Or.inr ⟨rfl, rfl⟩) (by assumption) ?_) | (refine wpAnyH_take (i := 7) (v := ?_) rfl (by kernel_rfl) (by kernel_rfl) (by kernel_rfl) (fun _ _ _ h => h) (Or.inl ⟨rfl, ?_⟩) (by assumption) ?_; rotate_left 1; · (intro w hSw; (try dsimp only at hSw); go_simp; (try with_reducible rfl)))); (try simp only [Act.put, List.getElem_toArray, List.getElem_cons_zero, List.getElem_cons_succ, List.setIfInBounds_toArray, List.set_cons_zero, List.set_cons_succ])
  (first | (refine wpAnyH_take (i := 8) (v := undef) rfl (by kernel_rfl) (by kernel_rfl) (by kernel_rfl) (fun _ _ _ h => h) (Or.inr ⟨rfl, rfl⟩) (by assumption) ?_) | (refine wpAnyH_take (i := 8) (v := ?_) rfl (by kernel_rfl) (by kernel_rfl) (by kernel_rfl) (fun _ _ _ h => h) (Or.inl ⟨rfl, ?_⟩) (by assumption) ?_; rotate_left 1; · (intro w hSw; (try dsimp only at hSw); go_simp; (try with_reducible rfl)))); (try simp only [Act.put, List.getElem_toArray, List.getElem_cons_zero, List.getElem_cons_succ, List.setIfInBounds_toArray, List.set_cons_zero, List.set_cons_succ])
  (first | (refine wpAnyH_take (i := 9) (v := undef) rfl (by kernel_rfl) (by kernel_rfl) (by kernel_rfl) (fun _ _ _ h => h) (Or.inr ⟨rfl, rfl⟩) (by assumption) ?_) | (refine wpAnyH_take (i := 9) (v := ?_) rfl (by kernel_rfl) (by kernel_rfl) (by kernel_rfl) (fun _ _ _ h => h) (Or.inl ⟨rfl, ?_⟩) (by assumption) ?_; rotate_left 1; · (intro w hSw; (try dsimp only at hSw); go_simp; (try with_reducible rfl)))); (try simp only [Act.put, List.getElem_toArray, List.getElem_cons_zero, List.getElem_cons_succ, List.setIfInBounds_toArray, List.set_cons_zero, List.set_cons_succ])
  refine wpAnyH_done (by kernel_rfl) ?_ _
  refine NoPanic.normal ?_
  clear hHeld
  have T3 := T2.trans ht3
  have hb1 := hb1.turn0 (tw2.undrew.trans ht3)
  obtain ⟨X, hX⟩ : ∃ X, X = txt (l ++ P) := ⟨_, rfl⟩
  have HX := hid hX
  clear hX
  rcases hce with rfl | rfl
  · obtain ⟨hPc, hbad⟩ := hCR.out rfl
    have HPc := hid hPc
    clear hPc
    have hxl : ∀ W : World, Turn w W none → (convert 37 9 (.slice A n d)).run Try.prog W = .ok (.string (txt l)) W := fun W h => str_run W (hr.turn0 h (Nat.le_refl _))
    go_upto_region 3 with (first
      | (refine gd_ld (by rfl) 24 _ rfl rfl hb1 (Sub.all (ck (c))) Try.underlying24 rfl (szCk hc.1) ?_)
      | (go_at_call 18; refine (hrp T3).mono ?_; rintro e w4 ⟨A4, c4, rfl, ho4, ht4⟩; have T4 := T3.trans ht4; have hb1 := hb1.turn0 ht4; have hx4 := str_run w4 (c := c3) (ho3.turn0 ht4).rd; have hy4 := str_run w4 (c := c4) ho4.rd; rw [← HX.out] at hx4 hy4))
    go_upto_region 8 with (first
      | (refine gd_ld (by rfl) 24 _ rfl rfl hb1 (Sub.all (ck (c))) Try.underlying24 rfl (szCk hc.1) ?_)
      | (go_at_call 17; refine (hnp _).mono ?_; rintro e w5 ⟨A5, c5, rfl, ho5, ht5⟩; simp only [Nat.zero_add, List.nil_append] at ho5 ⊢; have T5 := T4.trans ht5; have hb1 := hb1.turn0 ht5))
    have h0 : Own (w5.alloc (.cells #[] 5)) w5.heap.size 5 1 (some ⟨w5.heap.size, 0, none⟩) 0 0 [] := Own.made w5 _ _ 1 0 #[] (Nat.le_refl _) (by decide) rfl
    have hr5 := ho5.rd.alloc (Nat.le_refl _) (.cells #[] 5)
    go_wp2_with (first
      | (have q9 := ho6; at_builtin; refine wp_appW rfl _ _ _ rfl elB rfl rfl ho6 hr6 (vbs_one l) (by unfold maxLen; first | omega | (simp; done) | (simp; omega)) (by first | omega | (simp; done) | (simp; omega)) (by have := T6.size; omega) ?_; intro A7 c7 w7 ho7 ht7 hb7; have T7 : Turn w5 w7 none := T6.new ht7 (fun g hg => (ho6.block g hg).1); have hb1 := hb1.turn0 T7; have ho7 : Own w7 w5.heap.size 5 1 A7 (N + n) c7 (vbs (cRaw c ++ l)) := (by rw [vbs_append, ← HPc.out]; exact ho7))
      | (at_builtin; refine wp_appW rfl _ _ _ rfl elB rfl rfl h0 hr5 (vbs_one P) (by unfold maxLen; first | omega | (simp; done) | (simp; omega)) (by first | omega | (simp; done) | (simp; omega)) (by show _ ≤ (w5.heap.push _).size; rw [Array.size_push]; omega) ?_; intro A6 c6 w6 ho6 ht6 hb6; have T6 : Turn w5 w6 none := ((Turn.refl w5 none).alloc _).new ht6 (fun g hg => by simp [blk] at hg; omega); simp only [Nat.zero_add, List.nil_append] at ho6 ⊢; have hr6 := hr.turn0 (T5.trans T6) (Nat.le_refl _))
      | (go_at_call 19; refine (cktake_any _ _ _ c l _ _ ho7.rd (Nat.le_refl _) ho7.cap.1 ho7.cap.2 hc hbad (by omega)).mono ?_; rw [HLN.out]; rintro e w8 ⟨R8, d8, rfl, ho8, ht8⟩; have T8 := (T5.trans T7).trans ht8; have hb1 := hb1.turn0 ht8)
      | (refine wp_al rfl 24 rfl _ nulCk ?_; intro g9 w9 hg9 hb9 ht9; have n19 : g1 < g9 := hg9 ▸ hb1.lt; have hb1 := hb1.turn0 ht9; rw [cells_agg] at hb9)
      | (refine wp_st (xs := ck c) rfl 24 _ _ rfl rfl rfl hb9 (ckSz rfl hc.1) (szCk hc.1) (ck_one _) ?_; intro w10 hb9 ht10; have hb1 := hb1.turn ht10 (by simp; omega); have T10 : Turn w w10 none := (T8.trans ht9).new ht10 (by simp; have := T8.size; omega); have T810 : Turn w8 w10 none := ht9.new ht10 (by simp; omega); have hz1 := hxl w10 T10; have hz2 := str_run w10 (c := d8) (ho8.turn0 T810).rd)
      | (refine gd_ld (by rfl) 24 _ rfl rfl hb1 (Sub.all (ck (c))) Try.underlying24 rfl (szCk hc.1) ?_)
      | (refine gd_ld (by rfl) 24 _ rfl rfl hb9 (Sub.all (ck (c))) Try.underlying24 rfl (szCk hc.1) ?_)
      | (go_at_call 9; refine (klives_any _).mono ?_; rintro e w11 ⟨rfl, ht11⟩; have T11 := T10.trans ht11))
    go_ret
    exact ⟨rfl, T11⟩
  · go_wp2_with (first
      | (refine gd_ld (by rfl) 24 _ rfl rfl hb1 (Sub.all (ck (c))) Try.underlying24 rfl (szCk hc.1) ?_)
      | (go_at_call 18; refine (hrp T3).mono ?_; rintro e w4 ⟨A4, c4, rfl, ho4, ht4⟩; have T4 := T3.trans ht4; have hb1 := hb1.turn0 ht4; have hx4 := str_run w4 (c := c3) (ho3.turn0 ht4).rd; have hy4 := str_run w4 (c := c4) ho4.rd; rw [← HX.out] at hx4 hy4)
      | (go_at_call 9; refine (klives_any _).mono ?_; rintro e w9 ⟨rfl, ht9⟩; have hT9 := T4.trans ht9))
    go_ret
    exact ⟨rfl, hT9⟩
end Go.Proofs.Ytadkhafjkbkinaa
