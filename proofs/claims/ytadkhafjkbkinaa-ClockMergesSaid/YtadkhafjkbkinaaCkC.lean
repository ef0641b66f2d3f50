/-
  Layer 13: Least, the code's and the document's (contracts).
-/
import Derived.Test.YtadkhafjkbkinaaCkB
namespace Go.Proofs.Ytadkhafjkbkinaa
open Go.RowKit

theorem range_turn {w w' : World} {b o : Nat} {xs : List Value} {row : Option Nat} (h : w.rangeAt b o xs) (ht : Turn w w' row) (hb : b < w.heap.size) (hr : some b ≠ row) : w'.rangeAt b o xs := fun j v hv => (ht.cell (a := ⟨b, o + j, none⟩) hb hr).trans (h j v hv)
theorem take_nxtC {α : Type} {l : List α} {j : Nat} {b : α} (h : l[j]? = some b) : l.take (j + 1) = l.take j ++ [b] := by
  rw [List.take_add_one, h]; rfl
theorem Rc.tail {w : World} {B n c b off : Nat} {rows : List (List Int)} (h : Rc w B (some ⟨b, off, none⟩) n rows) (hp : 0 < n) (hnc : n ≤ c) (hc : ¬ c = 1) : Rc w B (some ⟨b, off + 8, none⟩) (n - 1) (rows.drop 1) := by
  have h1 := h.1.cut (k := 1) (c := c) hp hnc
  rw [if_neg hc, Option.map_some, add_flat, Nat.one_mul] at h1
  obtain ⟨_, h2, h3⟩ := h
  cases rows with
  | nil => simp at h2; omega
  | cons r rs =>
    have hl : (ck r).length = 8 := by rw [ck_len]; exact (h3 r (by simp)).1
    rw [List.flatMap_cons, ← hl, List.drop_left] at h1
    rw [hl] at h1
    exact ⟨h1, by simp at h2 ⊢; omega, fun x hx => h3 x (by simpa using .inr hx)⟩

set_option maxRecDepth 100000 in
set_option maxHeartbeats 800000 in
theorem least_any (A : Option Addr) (n c : Nat) (rows : List (List Int)) (B : Nat) (w : World) (hr : Rc w B A n rows) (hB : B ≤ w.heap.size) (hnc : n ≤ c) (hn : n ≤ 140737488355328) :
    Calls Try.prog 14 #[.slice A n c] w fun e w' => e = .returned (.agg (ck (cLeast rows)).toArray) ∧ Turn w w' none := by
  have hT := Turn.refl w none
  have hl8 := cLeast_ok rows hr.2.2
  rcases Nat.eq_zero_or_pos n with rfl | hp
  · obtain rfl : rows = [] := List.eq_nil_of_length_eq_zero hr.2.1
    have hn8 := nul8_ok
    go_enter Try.func14, Try.ntmps14
    go_wp2_with (first
      | (refine wp_al rfl 24 rfl _ nulCk ?_; intro g1 w1 hg1 hb1 ht1; have hT := hT.trans ht1; rw [cells_agg] at hb1)
      | (refine wp_bd rfl 24 _ rfl _ rfl _ nulBd ?_)
      | (refine wp_st (xs := ck (nul8)) rfl 24 _ _ rfl rfl rfl hb1 (ckSz rfl hn8.1) (szCk hn8.1) (ck_one _) ?_; intro w3 hb3 ht3))
    (refine ret_cell rfl rfl rfl hb3 Try.underlying24 rfl (szCk hn8.1) ?_)
    exact ⟨rfl, hT.new ht3 (by simp; omega)⟩
  · obtain ⟨b, off, x, rfl, hb, hx, hx8, hrg⟩ := hr.at_ hp
    rw [Nat.zero_mul, Nat.add_zero] at hrg
    obtain ⟨m, rfl⟩ : ∃ m, n = m + 1 := ⟨n - 1, by omega⟩
    have e1 : rows.take 1 = [x] := by
      cases rows with
      | nil => simp at hx
      | cons r rs => simp at hx; simp [hx]
    by_cases hc1 : c = 1
    · subst hc1
      obtain rfl : m = 0 := by omega
      have e0 : rows = [x] := by rw [← e1, List.take_of_length_le (by rw [hr.2.1]; exact Nat.le_refl _)]
      have E0 := hid e0
      clear e0 e1
      go_enter Try.func14, Try.ntmps14
      go_wp2_with (first
        | (have q9 := hb1; refine wp_al rfl 24 rfl _ nulCk ?_; intro g2 w2 hg2 hb2 ht2; have n12 : g1 < g2 := hg2 ▸ hb1.lt; have hT := hT.trans ht2; rw [cells_agg] at hb2; have hb1 := hb1.turn0 ht2; have hrg := range_turn hrg ht2 (by have := ht1.size; omega) (by simp); clear q9)
        | (refine wp_al rfl 24 rfl _ nulCk ?_; intro g1 w1 hg1 hb1 ht1; have hT := hT.trans ht1; rw [cells_agg] at hb1; have hrg := range_turn hrg ht1 (by omega) (by simp))
        | (refine gd_ldR rfl 24 _ rfl rfl hrg Try.underlying24 rfl (szCk hx8.1) ?_)
        | (refine wp_st (xs := ck (x)) rfl 24 _ _ rfl rfl rfl hb2 (ckSz rfl hx8.1) (szCk hx8.1) (ck_one _) ?_; intro w3 hb3 ht3))
      go_loopw [18] (fun i wr => i = .int .i64 0 ∧ wr = w3) (fun i _ => (8 - intOf i).toNat)
      case atStart => exact ⟨rfl, rfl⟩
      case round =>
        obtain ⟨rfl, rfl⟩ := hrel
        go_wp2_with (first
          | (refine wp_ld rfl 24 _ rfl rfl hb3 (Sub.all (ck (x))) Try.underlying24 rfl (szCk hx8.1) ?_)
          | (refine wp_st (xs := ck (x)) rfl 24 _ _ rfl rfl rfl (hb1.turn ht3 (by simp; omega)) (ckSz rfl hx8.1) (szCk hx8.1) (ck_one _) ?_; intro w9 hb9 ht9))
        (refine ret_cell rfl rfl rfl hb9 Try.underlying24 rfl (szCk hx8.1) ?_)
        exact ⟨by rw [E0.out]; rfl, (hT.new ht3 (by simp; omega)).new ht9 (by simp; omega)⟩
    · have htl := hr.tail hp hnc hc1
      rw [Nat.add_sub_cancel] at htl
      go_enter Try.func14, Try.ntmps14
      go_wp2_with (first
        | (have q9 := hb1; refine wp_al rfl 24 rfl _ nulCk ?_; intro g2 w2 hg2 hb2 ht2; have n12 : g1 < g2 := hg2 ▸ hb1.lt; have hT := hT.trans ht2; rw [cells_agg] at hb2; have hb1 := hb1.turn0 ht2; have hrg := range_turn hrg ht2 (by have := ht1.size; omega) (by simp); clear q9)
        | (refine wp_al rfl 24 rfl _ nulCk ?_; intro g1 w1 hg1 hb1 ht1; have hT := hT.trans ht1; rw [cells_agg] at hb1; have hrg := range_turn hrg ht1 (by omega) (by simp))
        | (refine gd_ldR rfl 24 _ rfl rfl hrg Try.underlying24 rfl (szCk hx8.1) ?_)
        | (refine wp_st (xs := ck (x)) rfl 24 _ _ rfl rfl rfl hb2 (ckSz rfl hx8.1) (szCk hx8.1) (ck_one _) ?_; intro w3 hb3 ht3))
      have hbg : B ≤ g2 := by omega
      have hg2s : g2 < w3.heap.size := hb3.lt
      have ht3' := hT.new ht3 (by simp; omega)
      have k1 := hb1.turn ht3 (by simp; omega)
      go_loopw [18] (fun i wr => ∃ k : Nat, k ≤ m ∧ i = .int .i64 (k : Int) ∧ Blk wr g2 24 (ck (cLeast (rows.take (k + 1)))).toArray ∧ Turn w3 wr (some g2)) (fun i _ => (m - intOf i).toNat)
      case atStart => exact ⟨0, by omega, rfl, by rw [Nat.zero_add, e1]; exact hb3, Turn.refl w3 _⟩
      case round =>
        obtain ⟨k, hk, rfl, h2, ht⟩ := hrel
        clear hb3 e1
        by_cases hkm : k < m
        · obtain ⟨b', off', y, hbo, hb', hy, hy8, hry⟩ := (htl.turn0 ht3' hB).at_ hkm
          injection hbo with hbo
          injection hbo with hb1' hb2'
          subst hb1'
          subst hb2'
          have hry := range_turn hry ht (by have := ht3'.size; omega) (by simp; omega)
          have hy2 : rows[k + 1]? = some y := by rw [List.getElem?_drop, Nat.add_comm] at hy; exact hy
          have hne : rows.take (k + 1) ≠ [] := by
            intro e
            have := congrArg List.length e
            rw [List.length_take, hr.2.1] at this
            simp at this
          have hnx := cLeast_next _ y hne
          rw [← take_nxtC hy2] at hnx
          have hL8 : Ok8 (cLeast (rows.take (k + 1))) := cLeast_ok _ fun r hr' => hr.2.2 r (List.mem_of_mem_take hr')
          generalize cLeast (rows.take (k + 1)) = L at *
          have hm8 := cMin_ok hL8 hy8
          go_wp2_with (first
            | (refine gd_ldR rfl 24 _ rfl rfl hry Try.underlying24 rfl (szCk hy8.1) ?_)
            | (refine wp_al rfl 24 rfl _ nulCk ?_; intro g4 w4 hg4 hb4 ht4; rw [cells_agg] at hb4; have n24 : g2 < g4 := hg4 ▸ h2.lt; have h2 := h2.turn0 ht4)
            | (refine wp_st (xs := ck y) rfl 24 _ _ rfl rfl rfl hb4 (ckSz rfl hy8.1) (szCk hy8.1) (ck_one _) ?_; intro w5 hb5 ht5; have h2 := h2.turn ht5 (by simp; omega))
            | (refine wp_ld rfl 24 _ rfl rfl hb5 (Sub.all (ck (y))) Try.underlying24 rfl (szCk hy8.1) ?_))
          have ht45 : Turn w3 w5 (some g2) := (ht.trans (ht4.any _)).new ht5 (by have := ht.size; simp; omega)
          go_loopw [23] (fun i wr2 => ∃ j : Nat, j ≤ 8 ∧ i = .int .i64 (j : Int) ∧ Blk wr2 g2 24 (ck (part8 (cMin L y) L j)).toArray ∧ Turn w5 wr2 (some g2)) (fun i _ => (8 - intOf i).toNat)
          case atStart => exact ⟨0, by omega, rfl, by rw [part8_zero]; exact h2, Turn.refl w5 _⟩
          case round =>
            obtain ⟨j, hj, rfl, h1, ht6⟩ := hrel
            clear h2
            by_cases hj8 : j < 8
            · obtain ⟨u, hu, hu0, hu1⟩ := hL8.at_ hj8
              obtain ⟨v, hv, hv0, hv1⟩ := hy8.at_ hj8
              have hix := ix8 hj8 hv
              have hcell := h1.ats (ck_at (part8_at hm8.1 hj8 hu))
              have hfr := h1.frozen j
              go_wp2_with fail
              refine ⟨⟨j + 1, by omega, rfl, ?_, ht6.trans (Blk.setTurn _ g2 _ _)⟩, ?_⟩
              · rw [← part8_next hm8.1 hL8.1 hj8 (cMin_at hu hv), ← ck_set]
                exact h1.sets _ _
              · simp [intOf]; omega
            · obtain rfl : j = 8 := by omega
              rw [part8_all hm8.1 hL8.1, ← hnx] at h1
              go_wp2_with fail
              refine ⟨⟨k + 1, by omega, rfl, h1, ht45.trans ht6⟩, ?_⟩
              simp [intOf]; omega
        · obtain rfl : k = m := by omega
          rw [List.take_of_length_le (by rw [hr.2.1]; exact Nat.le_refl _)] at h2
          go_wp2_with (first
            | (refine wp_ld rfl 24 _ rfl rfl h2 (Sub.all (ck (cLeast rows))) Try.underlying24 rfl (szCk hl8.1) ?_)
            | (refine wp_st (xs := ck (cLeast rows)) rfl 24 _ _ rfl rfl rfl (k1.turn ht (by simp; omega)) (ckSz rfl hl8.1) (szCk hl8.1) (ck_one _) ?_; intro w9 hb9 ht9))
          (refine ret_cell rfl rfl rfl hb9 Try.underlying24 rfl (szCk hl8.1) ?_)
          exact ⟨rfl, (ht3'.new ht (by simp; omega)).new ht9 (by simp; omega)⟩
end Go.Proofs.Ytadkhafjkbkinaa
