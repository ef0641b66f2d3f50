/-
  Layer 13: the walk of ClockAbove.
-/
import Derived.Test.YtadkhafjkbkinaaCkF
import Derived.Test.YtadkhafjkbkinaaCkB
namespace Go.Proofs.Ytadkhafjkbkinaa
open Go.RowKit

set_option maxRecDepth 100000 in
set_option maxHeartbeats 1600000 in
theorem above_walk (a b c : List Int) (ha : Ok8 a) (hb : Ok8 b) (hc : Ok8 c) (w : World) :
    Calls Try.prog 5 #[.agg (ck a).toArray, .agg (ck b).toArray, .agg (ck c).toArray] w fun e w' => e = .returned (.bool true) ∧ Turn w w' none := by
  have hT := Turn.refl w none
  have hm := cMax_ok ha hb
  have mg := fun W => merge_any a b ha hb W
  have u1 := cUp_max_l ha hb
  have u2 := cUp_max_r ha hb
  have u3 := cUp_max_le ha hb hc
  have od := fun W => order_any a (cMax a b) ha hm W
  have on := cOrd_up u1
  have ob := cOrd_bd a (cMax a b)
  generalize cMax a b = m at *
  generalize cOrd a m = om at *
  obtain ⟨p, hp⟩ : ∃ p, cUp a c = p := ⟨_, rfl⟩
  obtain ⟨q, hq⟩ : ∃ q, cUp b c = q := ⟨_, rfl⟩
  obtain ⟨s, hs⟩ : ∃ s, cUp m c = s := ⟨_, rfl⟩
  rw [hp, hq, hs] at u3
  have onn : (om != 2) = true := by rw [bne_iff_ne]; exact on
  clear on ob
  cases p
  all_goals cases q
  all_goals cases s
  all_goals first
    | exact absurd (u3 rfl rfl) (by decide)
    | (clear u3
       go_enter Try.func5, Try.ntmps5
       go_wp2_with (first
        | (go_at_call 11; refine (mg _).mono ?_; rintro e w4 ⟨rfl, ht4⟩; have hT := hT.trans ht4; have hb1 := hb1.turn0 ht4; have hb2 := hb2.turn0 ht4; have hb3 := hb3.turn0 ht4)
        | (have q9 := ht4; refine wp_al rfl 24 rfl _ nulCk ?_; intro g5 w5 hg5 hb5 ht5; have n35 : g3 < g5 := hg5 ▸ hb3.lt; have hT := hT.trans ht5; have hb1 := hb1.turn0 ht5; have hb2 := hb2.turn0 ht5; have hb3 := hb3.turn0 ht5; rw [cells_agg] at hb5; clear q9)
        | (have q9 := hb2;refine wp_bx rfl 24 _ rfl rfl ?_; intro g3 w3 hg3 hb3 ht3; have hT := hT.trans ht3; have n23 : g2 < g3 := hg3 ▸ hb2.lt; have hb1 := hb1.turn0 ht3; have hb2 := hb2.turn0 ht3; clear q9)
        | (have q9 := hb1;refine wp_bx rfl 24 _ rfl rfl ?_; intro g2 w2 hg2 hb2 ht2; have hT := hT.trans ht2; have n12 : g1 < g2 := hg2 ▸ hb1.lt; have hb1 := hb1.turn0 ht2; clear q9)
        | (refine wp_bx rfl 24 _ rfl rfl ?_; intro g1 w1 hg1 hb1 ht1; have hT := hT.trans ht1; skip)
        | (refine wp_st (xs := ck m) rfl 24 _ _ rfl rfl rfl hb5 (ckSz rfl hm.1) (szCk hm.1) (ck_one _) ?_; intro w6 hb5 ht6; have hT := hT.new ht6 (by simp; have := ht4.size; have := ht1.size; omega); have hb1 := hb1.turn ht6 (by simp; omega); have hb2 := hb2.turn ht6 (by simp; omega); have hb3 := hb3.turn ht6 (by simp; omega))
        | (refine gd_ld (by rfl) 24 _ rfl rfl hb1 (Sub.all (ck (a))) Try.underlying24 rfl (szCk ha.1) ?_)
        | (refine gd_ld (by rfl) 24 _ rfl rfl hb2 (Sub.all (ck (b))) Try.underlying24 rfl (szCk hb.1) ?_)
        | (refine gd_ld (by rfl) 24 _ rfl rfl hb3 (Sub.all (ck (c))) Try.underlying24 rfl (szCk hc.1) ?_)
        | (refine gd_ld (by rfl) 24 _ rfl rfl hb5 (Sub.all (ck (m))) Try.underlying24 rfl (szCk hm.1) ?_)
        | (go_at_call 16; refine (rupto_any _ _ (by assumption) (by assumption) _).mono ?_; simp only [u1, u2, hp, hq, hs]; rintro e v1 ⟨rfl, hv1⟩; have hT := hT.trans hv1; have hb1 := hb1.turn0 hv1; have hb2 := hb2.turn0 hv1; have hb3 := hb3.turn0 hv1; have hb5 := hb5.turn0 hv1)
        | (go_at_call 10; refine (od _).mono ?_; rintro e w8 ⟨rfl, ht8⟩; have hT := hT.trans ht8)
        | (go_at_call 9; refine (klives_any _).mono ?_; rintro e w9 ⟨rfl, ht9⟩; have hT := hT.trans ht9))
       go_ret
       exact ⟨rfl, hT⟩)
end Go.Proofs.Ytadkhafjkbkinaa
