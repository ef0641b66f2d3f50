/-
  Layer 13: the walks of ClockTicks and ClockAbove.
-/
import Derived.Test.YtadkhafjkbkinaaCkF
import Derived.Test.YtadkhafjkbkinaaCkB
namespace Go.Proofs.Ytadkhafjkbkinaa
open Go.RowKit

theorem tick_ord {c : List Int} (hc : Ok8 c) {j : Nat} {x : Int} (hj : j < 8) (hx : c[j]? = some x) (hD : Ok8 (c.set j (x + 1))) : cOrd c (c.set j (x + 1)) = 1 := by
  have hjl : j < c.length := by rw [hc.1]; exact hj
  have hne : c ≠ c.set j (x + 1) := by
    intro e
    have h : (c.set j (x + 1))[j]? = some (x + 1) := by rw [List.getElem?_set, if_pos rfl, if_pos hjl]
    rw [← e, hx] at h
    injection h with h
    omega
  have hup : cUp c (c.set j (x + 1)) = true := by
    rw [cUp_iff hc hD]
    intro k y z hk hy hz
    rw [List.getElem?_set] at hz
    by_cases e : j = k
    · subst e
      rw [if_pos rfl, if_pos hjl] at hz
      rw [hx] at hy
      injection hy with hy
      injection hz with hz
      omega
    · rw [if_neg e, hy] at hz
      injection hz with hz
      omega
  rw [cOrd, if_neg hne, if_pos hup]
set_option maxRecDepth 100000 in
set_option maxHeartbeats 1600000 in
theorem ticks_walk (c : List Int) (i : Int) (hc : Ok8 c) (i0 : -9223372036854775808 ≤ i) (i1 : i ≤ 9223372036854775807) (w : World) :
    Calls Try.prog 3 #[.agg (ck c).toArray, .int .i64 i] w fun e w' => e = .returned (.bool true) ∧ Turn w w' none := by
  have hT := Turn.refl w none
  have tk := fun W => tick_any c i hc i0 i1 W
  by_cases hi : 0 ≤ i ∧ i < 8
  · obtain ⟨j, rfl⟩ := Int.eq_ofNat_of_zero_le hi.1
    have hj : j < 8 := by omega
    obtain ⟨x, hx, hx0, hx1⟩ := hc.at_ hj
    by_cases hm : x < 4611686018427387903
    · have e1 : tkErr c j = 0 := by simp only [tkErr, if_pos hi, Int.toNat_natCast, hx, Option.getD_some, if_pos hm]
      have e2 : tkNext c j = c.set j (x + 1) := by simp only [tkNext, e1, Int.toNat_natCast, hx, Option.getD_some, if_true]
      rw [e1, e2] at tk
      have hs := set_ok hc j (x := x + 1) (by omega) (by omega)
      have hord := tick_ord hc hj hx hs
      have od := fun W => order_any c (c.set j (x + 1)) hc hs W
      rw [hord] at od
      obtain ⟨D, hD⟩ : ∃ D, D = c.set j (x + 1) := ⟨_, rfl⟩
      rw [← hD] at tk hs od
      have HD := hid hD
      have eq1 := eq8t hs hs rfl
      have hm2 : ¬ 4611686018427387902 < x := by omega
      clear e1 e2 hi hD hord
      go_enter Try.func3, Try.ntmps3
      go_upto_region 7 with (first
        | (go_at_call 8; refine (tk _).mono ?_; rintro e w2 ⟨rfl, ht2⟩; have hT := hT.trans ht2; have hb1 := hb1.turn0 ht2)
        | (have q9 := hb3; refine wp_al rfl 24 rfl _ nulCk ?_; intro g4 w5 hg4 hb4 ht5; have n34 : g3 < g4 := hg4 ▸ hb3.lt; have hT := hT.trans ht5; have hb1 := hb1.turn0 ht5; have hb3 := hb3.turn0 ht5; rw [cells_agg] at hb4; clear q9)
        | (have q9 := ht2; refine wp_al rfl 24 rfl _ nulCk ?_; intro g3 w3 hg3 hb3 ht3; have n13 : g1 < g3 := hg3 ▸ hb1.lt; have hT := hT.trans ht3; have hb1 := hb1.turn0 ht3; rw [cells_agg] at hb3; clear q9)
        | (refine wp_bx rfl 24 _ rfl rfl ?_; intro g1 w1 hg1 hb1 ht1; have hT := hT.trans ht1; skip)
        | (have q9 := hb4; refine wp_st (xs := ck c) rfl 24 _ _ rfl rfl rfl hb4 (ckSz rfl hc.1) (szCk hc.1) (ck_one _) ?_; intro w6 hb6 ht6; have hT := hT.new ht6 (by simp; have := ht2.size; have := ht1.size; omega); have hb1 := hb1.turn ht6 (by simp; omega); have hb3 := hb3.turn ht6 (by simp; omega); have hcell := hb6.ats (ck_at hx); have hfr := hb6.frozen j)
        | (refine wp_st (xs := ck D) rfl 24 _ _ rfl rfl rfl hb3 (ckSz rfl hs.1) (szCk hs.1) (ck_one _) ?_; intro w4 hb3 ht4; have hT := hT.new ht4 (by simp; have := ht2.size; have := ht1.size; omega); have hb1 := hb1.turn ht4 (by simp; omega); have hcell := hb1.ats (ck_at hx))
        | (refine gd_ld (by rfl) 24 _ rfl rfl hb1 (Sub.all (ck (c))) Try.underlying24 rfl (szCk hc.1) ?_))
      go_upto_region 8 with fail
      have h4 := hb6.sets j (.int .u64 (x + 1))
      have tu := Blk.setTurn w6 g4 j (.int .u64 (x + 1))
      rw [ck_set, ← HD.out] at h4
      have hb1 := hb1.turn tu (by simp; omega)
      have hb3 := hb3.turn tu (by simp; omega)
      have hT := hT.new tu (by simp; have := ht2.size; have := ht1.size; omega)
      clear hb4 hb6 hcell hfr
      generalize w6.setCell ⟨g4, j, none⟩ (.int .u64 (x + 1)) = w7 at *
      go_wp2_with (first
        | (refine gd_ld (by rfl) 24 _ rfl rfl h4 (Sub.all (ck (D))) Try.underlying24 rfl (szCk hs.1) ?_)
        | (refine gd_ld (by rfl) 24 _ rfl rfl hb3 (Sub.all (ck (D))) Try.underlying24 rfl (szCk hs.1) ?_)
        | (refine gd_ld (by rfl) 24 _ rfl rfl hb1 (Sub.all (ck (c))) Try.underlying24 rfl (szCk hc.1) ?_)
        | (go_at_call 10; refine (od _).mono ?_; rintro e w8 ⟨rfl, ht8⟩; have hT := hT.trans ht8)
        | (go_at_call 9; refine (klives_any _).mono ?_; rintro e w9 ⟨rfl, ht9⟩; have hT := hT.trans ht9))
      go_ret
      exact ⟨rfl, hT⟩
    · have e1 : tkErr c j = 8 := by simp only [tkErr, if_pos hi, Int.toNat_natCast, hx, Option.getD_some, if_neg hm]
      have e2 : tkNext c j = c := by simp [tkNext, e1]
      rw [e1, e2] at tk
      have eq1 := eq8t hc hc rfl
      have hm2 : 4611686018427387902 < x := by omega
      clear e1 e2 hi hm
      go_enter Try.func3, Try.ntmps3
      go_wp2_with (first
        | (go_at_call 8; refine (tk _).mono ?_; rintro e w2 ⟨rfl, ht2⟩; have hT := hT.trans ht2; have hb1 := hb1.turn0 ht2)
        | (have q9 := ht2; refine wp_al rfl 24 rfl _ nulCk ?_; intro g3 w3 hg3 hb3 ht3; have n13 : g1 < g3 := hg3 ▸ hb1.lt; have hT := hT.trans ht3; have hb1 := hb1.turn0 ht3; rw [cells_agg] at hb3; clear q9)
        | (refine wp_bx rfl 24 _ rfl rfl ?_; intro g1 w1 hg1 hb1 ht1; have hT := hT.trans ht1; skip)
        | (refine wp_st (xs := ck c) rfl 24 _ _ rfl rfl rfl hb3 (ckSz rfl hc.1) (szCk hc.1) (ck_one _) ?_; intro w4 hb3 ht4; have hT := hT.new ht4 (by simp; have := ht2.size; have := ht1.size; omega); have hb1 := hb1.turn ht4 (by simp; omega); have hcell := hb1.ats (ck_at hx))
        | (refine gd_ld (by rfl) 24 _ rfl rfl hb1 (Sub.all (ck (c))) Try.underlying24 rfl (szCk hc.1) ?_)
        | (refine gd_ld (by rfl) 24 _ rfl rfl hb3 (Sub.all (ck (c))) Try.underlying24 rfl (szCk hc.1) ?_)
        | (go_at_call 9; refine (klives_any _).mono ?_; rintro e w9 ⟨rfl, ht9⟩; have hT := hT.trans ht9))
      go_ret
      exact ⟨rfl, hT⟩
  · have e1 : tkErr c i = 1 := by simp only [tkErr, if_neg hi]
    have e2 : tkNext c i = c := by simp [tkNext, e1]
    rw [e1, e2] at tk
    have eq1 := eq8t hc hc rfl
    clear e1 e2
    have hq : i < 0 ∨ (¬ i < 0 ∧ 7 < i) := by omega
    rcases hq with hq | ⟨hq, hq2⟩
    all_goals
      clear hi
      go_enter Try.func3, Try.ntmps3
      go_wp2_with (first
        | (go_at_call 8; refine (tk _).mono ?_; rintro e w2 ⟨rfl, ht2⟩; have hT := hT.trans ht2; have hb1 := hb1.turn0 ht2)
        | (have q9 := ht2; refine wp_al rfl 24 rfl _ nulCk ?_; intro g3 w3 hg3 hb3 ht3; have n13 : g1 < g3 := hg3 ▸ hb1.lt; have hT := hT.trans ht3; have hb1 := hb1.turn0 ht3; rw [cells_agg] at hb3; clear q9)
        | (refine wp_bx rfl 24 _ rfl rfl ?_; intro g1 w1 hg1 hb1 ht1; have hT := hT.trans ht1; skip)
        | (refine wp_st (xs := ck c) rfl 24 _ _ rfl rfl rfl hb3 (ckSz rfl hc.1) (szCk hc.1) (ck_one _) ?_; intro w4 hb3 ht4; have hT := hT.new ht4 (by simp; have := ht2.size; have := ht1.size; omega); have hb1 := hb1.turn ht4 (by simp; omega))
        | (refine gd_ld (by rfl) 24 _ rfl rfl hb1 (Sub.all (ck (c))) Try.underlying24 rfl (szCk hc.1) ?_)
        | (refine gd_ld (by rfl) 24 _ rfl rfl hb3 (Sub.all (ck (c))) Try.underlying24 rfl (szCk hc.1) ?_)
        | (go_at_call 9; refine (klives_any _).mono ?_; rintro e w9 ⟨rfl, ht9⟩; have hT := hT.trans ht9))
      go_ret
      exact ⟨rfl, hT⟩

end Go.Proofs.Ytadkhafjkbkinaa
