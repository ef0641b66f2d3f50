/-
  Layer 13: Tick and Least, the code's and the document's (contracts).
-/
import Derived.Test.YtadkhafjkbkinaaCkA
import Derived.Test.YtadkhafjkbkinaaGd
namespace Go.Proofs.Ytadkhafjkbkinaa
open Go.RowKit

/-- A clock's next, or why there is none. -/
def tkErr (c : List Int) (i : Int) : Int := if 0 ≤ i ∧ i < 8 then (if (c[i.toNat]?).getD 0 < 4611686018427387903 then 0 else 8) else 1
def tkNext (c : List Int) (i : Int) : List Int := if tkErr c i = 0 then c.set i.toNat ((c[i.toNat]?).getD 0 + 1) else c
theorem set_ok {c : List Int} (h : Ok8 c) (i : Nat) {x : Int} (h0 : 0 ≤ x) (h1 : x ≤ 18446744073709551615) : Ok8 (c.set i x) :=
  ⟨by rw [List.length_set]; exact h.1, fun y hy => by
    rcases List.mem_or_eq_of_mem_set hy with h2 | h2
    · exact h.2 y h2
    · subst h2; exact ⟨h0, h1⟩⟩

set_option maxRecDepth 100000 in
set_option maxHeartbeats 800000 in
theorem tick_any (c : List Int) (i : Int) (hc : Ok8 c) (i0 : -9223372036854775808 ≤ i) (i1 : i ≤ 9223372036854775807) (w : World) :
    Calls Try.prog 8 #[.agg (ck c).toArray, .int .i64 i] w fun e w' => e = .returned (.tuple #[.agg (ck (tkNext c i)).toArray, .int .i64 (tkErr c i)]) ∧ Turn w w' none := by
  have hT := Turn.refl w none
  by_cases hi : 0 ≤ i ∧ i < 8
  · obtain ⟨j, rfl⟩ := Int.eq_ofNat_of_zero_le hi.1
    have hj : j < 8 := by omega
    obtain ⟨x, hx, hx0, hx1⟩ := hc.at_ hj
    by_cases hm : x < 4611686018427387903
    · have e1 : tkErr c j = 0 := by simp only [tkErr, if_pos hi, Int.toNat_natCast, hx, Option.getD_some, if_pos hm]
      have e2 : tkNext c j = c.set j (x + 1) := by simp only [tkNext, e1, Int.toNat_natCast, hx, Option.getD_some, if_true]
      have E1 := hid e1
      have E2 := hid e2
      have hs := set_ok hc j (x := x + 1) (by omega) (by omega)
      clear e1 e2 hi
      go_enter Try.func8, Try.ntmps8
      go_wp2_with (first
        | (refine wp_al rfl 24 rfl _ nulCk ?_; intro g2 w2 hg2 hb2 ht2; have n12 : g1 < g2 := hg2 ▸ hb1.lt; have hT := hT.trans ht2; have hb1 := hb1.turn0 ht2; rw [cells_agg] at hb2; have hcell := hb1.ats (ck_at hx); have hfr := hb1.frozen j)
        | (refine wp_bx rfl 24 _ rfl rfl ?_; intro g1 w1 hg1 hb1 ht1; have hT := hT.trans ht1; skip)
        | (refine wp_ld rfl 24 _ rfl rfl (by have h := hb1.sets j (.int .u64 (x + 1)); rw [ck_set] at h; exact h) (Sub.all (ck (c.set j (x + 1)))) Try.underlying24 rfl (szCk hs.1) ?_)
        | (refine wp_st (xs := ck (c.set j (x + 1))) rfl 24 _ _ rfl rfl rfl (hb2.turn (Blk.setTurn _ g1 j _) (by simp; omega)) (ckSz rfl hs.1) (szCk hs.1) (ck_one _) ?_; intro w3 hb3 ht3))
      refine ret_ct rfl rfl rfl rfl hb3 Try.underlying24 rfl (szCk hs.1) ?_
      exact ⟨by rw [E1.out, E2.out]; rfl, (hT.new (Blk.setTurn _ g1 j _) (by simp; omega)).new ht3 (by simp; omega)⟩
    · have e1 : tkErr c j = 8 := by simp only [tkErr, if_pos hi, Int.toNat_natCast, hx, Option.getD_some, if_neg hm]
      have e2 : tkNext c j = c := by simp [tkNext, e1]
      have E1 := hid e1
      have E2 := hid e2
      clear e1 e2 hi
      go_enter Try.func8, Try.ntmps8
      go_wp2_with (first
        | (refine wp_al rfl 24 rfl _ nulCk ?_; intro g2 w2 hg2 hb2 ht2; have n12 : g1 < g2 := hg2 ▸ hb1.lt; have hT := hT.trans ht2; have hb1 := hb1.turn0 ht2; rw [cells_agg] at hb2; have hcell := hb1.ats (ck_at hx))
        | (refine wp_bx rfl 24 _ rfl rfl ?_; intro g1 w1 hg1 hb1 ht1; have hT := hT.trans ht1; skip)
        | (refine wp_ld rfl 24 _ rfl rfl hb1 (Sub.all (ck (c))) Try.underlying24 rfl (szCk hc.1) ?_)
        | (refine wp_st (xs := ck (c)) rfl 24 _ _ rfl rfl rfl hb2 (ckSz rfl hc.1) (szCk hc.1) (ck_one _) ?_; intro w3 hb3 ht3))
      refine ret_ct rfl rfl rfl rfl hb3 Try.underlying24 rfl (szCk hc.1) ?_
      exact ⟨by rw [E1.out, E2.out]; rfl, hT.new ht3 (by simp; omega)⟩
  · have e1 : tkErr c i = 1 := by simp only [tkErr, if_neg hi]
    have e2 : tkNext c i = c := by simp [tkNext, e1]
    have E1 := hid e1
    have E2 := hid e2
    clear e1 e2
    have hq : i < 0 ∨ (¬ i < 0 ∧ 8 ≤ i) := by omega
    rcases hq with hq | ⟨hq, hq2⟩
    all_goals
      clear hi
      go_enter Try.func8, Try.ntmps8
      go_wp2_with (first
        | (refine wp_al rfl 24 rfl _ nulCk ?_; intro g2 w2 hg2 hb2 ht2; have n12 : g1 < g2 := hg2 ▸ hb1.lt; have hT := hT.trans ht2; have hb1 := hb1.turn0 ht2; rw [cells_agg] at hb2)
        | (refine wp_bx rfl 24 _ rfl rfl ?_; intro g1 w1 hg1 hb1 ht1; have hT := hT.trans ht1; skip)
        | (refine wp_ld rfl 24 _ rfl rfl hb1 (Sub.all (ck (c))) Try.underlying24 rfl (szCk hc.1) ?_)
        | (refine wp_st (xs := ck (c)) rfl 24 _ _ rfl rfl rfl hb2 (ckSz rfl hc.1) (szCk hc.1) (ck_one _) ?_; intro w3 hb3 ht3))
      refine ret_ct rfl rfl rfl rfl hb3 Try.underlying24 rfl (szCk hc.1) ?_
      exact ⟨by rw [E1.out, E2.out]; rfl, hT.new ht3 (by simp; omega)⟩

/-- Clocks that are seen through a slice value. -/
def Rc (w : World) (B : Nat) (A : Option Addr) (n : Nat) (rows : List (List Int)) : Prop := Rd w B 8 A n (rows.flatMap ck) ∧ rows.length = n ∧ ∀ r ∈ rows, Ok8 r
theorem Rc.turn0 {w w' : World} {B n : Nat} {A : Option Addr} {rows : List (List Int)} (h : Rc w B A n rows) (ht : Turn w w' none) (hB : B ≤ w.heap.size) : Rc w' B A n rows := ⟨h.1.turn0 ht hB, h.2⟩
theorem Rc.turn {w w' : World} {B n : Nat} {A : Option Addr} {rows : List (List Int)} {row : Option Nat} (h : Rc w B A n rows) (ht : Turn w w' row) (hB : B ≤ w.heap.size) (hr : ∀ g, row = some g → B ≤ g) : Rc w' B A n rows := ⟨h.1.turn ht hB hr, h.2⟩
theorem rows_at : ∀ (rows : List (List Int)), (∀ r ∈ rows, Ok8 r) → ∀ (i q : Nat) (c : List Int), rows[i]? = some c → q < 8 → (rows.flatMap ck)[i * 8 + q]? = (ck c)[q]?
  | [], _, i, q, c, h, _ => by simp at h
  | r :: rs, h8, i, q, c, h, hq => by
    have hr := h8 r (by simp)
    have hl : (ck r).length = 8 := by rw [ck_len]; exact hr.1
    cases i with
    | zero =>
      obtain rfl : r = c := by simpa using h
      rw [List.flatMap_cons, Nat.zero_mul, Nat.zero_add, List.getElem?_append_left (by omega)]
    | succ i =>
      rw [List.flatMap_cons, List.getElem?_append_right (by omega), hl]
      have e : (i + 1) * 8 + q - 8 = i * 8 + q := by omega
      rw [e]
      exact rows_at rs (fun x hx => h8 x (by simp [hx])) i q c (by simpa using h) hq
theorem Rc.at_ {w : World} {B n : Nat} {A : Option Addr} {rows : List (List Int)} (h : Rc w B A n rows) {i : Nat} (hi : i < n) :
    ∃ b off c, A = some ⟨b, off, none⟩ ∧ b < B ∧ rows[i]? = some c ∧ Ok8 c ∧ w.rangeAt b (off + i * 8) (ck c) := by
  have hl : i < rows.length := by rw [h.2.1]; exact hi
  have hc : rows[i]? = some rows[i] := List.getElem?_eq_getElem hl
  have h8 := h.2.2 _ (List.getElem_mem hl)
  obtain ⟨b, off, rfl, hb, hcell⟩ := h.1.head (by omega)
  refine ⟨b, off, _, rfl, hb, hc, h8, fun q v hv => ?_⟩
  have hq : q < 8 := by
    have := (List.getElem?_eq_some_iff.1 hv).1
    rw [ck_len, h8.1] at this
    exact this
  have := hcell (i * 8 + q) v (by rw [rows_at rows h.2.2 i q _ hc hq]; exact hv)
  rw [← Nat.add_assoc] at this
  exact this
theorem nulBd : Try.prog.built 24 [] = some (ck nul8).toArray := by kernel_rfl
end Go.Proofs.Ytadkhafjkbkinaa
