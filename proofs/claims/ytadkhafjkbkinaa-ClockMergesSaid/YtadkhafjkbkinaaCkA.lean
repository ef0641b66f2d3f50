/-
  Layer 13: Merge and Order, the code's and the document's (contracts).
-/
import Derived.Test.YtadkhafjkbkinaaCkP
import Derived.Test.YtadkhafjkbkinaaArr
import Derived.ChangeKeysEq
namespace Go.Proofs.Ytadkhafjkbkinaa
open Go.RowKit

theorem szCk {l : List Int} (h : l.length = 8) : (Try.prog.info? 24).map (·.size) = some (ck l).length := by rw [ck_len, h]; kernel_rfl
theorem ckSz {z l : List Int} (h : z.length = 8) (k : l.length = 8) : (ck z).toArray.size = (ck l).length := by rw [List.size_toArray, ck_len, ck_len, h, k]
theorem nulCk : ∀ w, (zeroValue 24).run Try.prog w = .ok (.agg (ck nul8).toArray) w := zero_at (by kernel_rfl)
theorem cells_agg (cs : Array Value) : (Value.agg cs).cells = cs := rfl
theorem ix8 {l : List Int} {j : Nat} {x : Int} (hj : j < 8) (h : l[j]? = some x) (W : World) : (Instr.index 24 (.agg (ck l).toArray) (.int .i64 (j : Int))).run Try.prog W = .ok (.int .u64 x) W :=
  run_ix (P := Try.prog) (w := W) Try.underlying24 Try.underlying22 (by kernel_rfl) hj (by rw [List.getElem?_toArray]; exact ck_at h)

theorem part_u64 {cs : Array Value} {j : Nat} {v : Value} (hv : cs[j]? = some v) (w : World) : (part 22 cs j).run Try.prog w = .ok v w := by
  have hag : (isAgg 22).run Try.prog w = .ok false w := by
    unfold isAgg
    rw [Sem.run_bind, run_underlying Try.underlying22 w]
    rfl
  simp [part, hag, hv]
theorem eqItems_ck {a b : List Int} (ha : Ok8 a) (hb : Ok8 b) (w : World) : ∀ is : List Nat, (∀ i ∈ is, i < 8) →
    (Op.eqItems 9999 22 1 (ck a).toArray (ck b).toArray is).run Try.prog w = .ok (is.all fun i => decide (a[i]? = b[i]?)) w
  | [], _ => by simp [Op.eqItems]
  | i :: is, h => by
    obtain ⟨x, hx, _⟩ := ha.at_ (h i (by simp))
    obtain ⟨y, hy, _⟩ := hb.at_ (h i (by simp))
    have hv : (ck a).toArray[i * 1]? = some (.int .u64 x) := by rw [Nat.mul_one, List.getElem?_toArray]; exact ck_at hx
    have hu : (ck b).toArray[i * 1]? = some (.int .u64 y) := by rw [Nat.mul_one, List.getElem?_toArray]; exact ck_at hy
    have ih := eqItems_ck ha hb w is (fun j hj => h j (by simp [hj]))
    simp only [Op.eqItems, Sem.run_bind, part_u64 hv, part_u64 hu, Result.andThen_ok, run_equalIn_int w 9998 22 .u64 .u64 _ _ Try.underlying22, List.all_cons, hx, hy]
    by_cases hxy : x = y
    · subst hxy
      simpa using ih
    · simp [hxy]
theorem eq8 {a b : List Int} (ha : Ok8 a) (hb : Ok8 b) (w : World) : (Op.equalIn 10000 24 (.agg (ck a).toArray) (.agg (ck b).toArray)).run Try.prog w = .ok (decide (a = b)) w := by
  obtain ⟨i, hi⟩ : ∃ i, Try.prog.info? 22 = some i := ⟨_, rfl⟩
  rw [run_equalIn_array w 9999 _ _ Try.underlying24 hi]
  have hc : Try.prog.cellsOf 22 = 1 := by kernel_rfl
  rw [hc, eqItems_ck ha hb w _ (fun j hj => by simpa using hj)]
  congr 1
  by_cases h : a = b
  · subst h; simp
  · rw [decide_eq_false h]
    cases hu : (List.range 8).all (fun i => decide (a[i]? = b[i]?)) with
    | false => rfl
    | true =>
      exfalso
      simp only [List.all_eq_true, List.mem_range, decide_eq_true_eq] at hu
      refine h (ext8 ha hb fun j x y hj hx hy => ?_)
      have := hu j hj
      rw [hx, hy] at this
      injection this
theorem eq8t {a b : List Int} (ha : Ok8 a) (hb : Ok8 b) (h : a = b) (w : World) : (Op.equalIn 10000 24 (.agg (ck a).toArray) (.agg (ck b).toArray)).run Try.prog w = .ok true w := by
  rw [eq8 ha hb, decide_eq_true h]
theorem eq8f {a b : List Int} (ha : Ok8 a) (hb : Ok8 b) (h : a ≠ b) (w : World) : (Op.equalIn 10000 24 (.agg (ck a).toArray) (.agg (ck b).toArray)).run Try.prog w = .ok false w := by
  rw [eq8 ha hb, decide_eq_false h]

set_option maxRecDepth 100000 in
set_option maxHeartbeats 800000 in
theorem merge_any (a b : List Int) (ha : Ok8 a) (hb : Ok8 b) (w : World) :
    Calls Try.prog 11 #[.agg (ck a).toArray, .agg (ck b).toArray] w fun e w' => e = .returned (.agg (ck (cMax a b)).toArray) ∧ Turn w w' none := by
  have hT := Turn.refl w none
  have hm := cMax_ok ha hb
  go_enter Try.func11, Try.ntmps11
  go_wp2_with (first
    | (refine wp_al rfl 24 rfl _ nulCk ?_; intro g3 w3 hg3 hb3 ht3; have n13 : g1 < g3 := hg3 ▸ hb1.lt; have hT := hT.trans ht3; have hb1 := hb1.turn0 ht3; have hb2 := hb2.turn0 ht3; rw [cells_agg] at hb3)
    | (have q9 := hb1;refine wp_bx rfl 24 _ rfl rfl ?_; intro g2 w2 hg2 hb2 ht2; have hT := hT.trans ht2; have hb1 := hb1.turn0 ht2; clear q9)
    | (refine wp_bx rfl 24 _ rfl rfl ?_; intro g1 w1 hg1 hb1 ht1; have hT := hT.trans ht1; skip)
    | (refine wp_ld rfl 24 _ rfl rfl hb2 (Sub.all (ck (b))) Try.underlying24 rfl (szCk hb.1) ?_))
  go_loopw [8] (fun i wr => ∃ j : Nat, j ≤ 8 ∧ i = .int .i64 (j : Int) ∧ Blk wr g1 24 (ck (part8 (cMax a b) a j)).toArray ∧ Turn w3 wr (some g1)) (fun i _ => (8 - intOf i).toNat)
  case atStart => exact ⟨0, by omega, rfl, by rw [part8_zero]; exact hb1, Turn.refl w3 _⟩
  case round =>
    obtain ⟨j, hj, rfl, h1, ht⟩ := hrel
    clear hb1
    by_cases hj8 : j < 8
    · obtain ⟨x, hx, hx0, hx1⟩ := ha.at_ hj8
      obtain ⟨y, hy, hy0, hy1⟩ := hb.at_ hj8
      have hix := ix8 hj8 hy
      have hcell := h1.ats (ck_at (part8_at hm.1 hj8 hx))
      have hfr := h1.frozen j
      go_wp2_with fail
      refine ⟨⟨j + 1, by omega, rfl, ?_, ht.trans (Blk.setTurn wr g1 _ _)⟩, ?_⟩
      · rw [← part8_next hm.1 ha.1 hj8 (cMax_at hx hy), ← ck_set]
        exact h1.sets _ _
      · simp [intOf]; omega
    · obtain rfl : j = 8 := by omega
      rw [part8_all hm.1 ha.1] at h1
      go_wp2_with (first
        | (refine wp_ld rfl 24 _ rfl rfl h1 (Sub.all (ck (cMax a b))) Try.underlying24 rfl (szCk hm.1) ?_)
        | (refine wp_st (xs := ck (cMax a b)) rfl 24 _ _ rfl rfl rfl (hb3.turn ht (by simp; omega)) (ckSz rfl hm.1) (szCk hm.1) (ck_one _) ?_; intro w9 hb9 ht9))
      (refine ret_cell rfl rfl rfl hb9 Try.underlying24 rfl (szCk hm.1) ?_)
      exact ⟨rfl, (hT.new ht (by simp; omega)).new ht9 (by simp; omega)⟩

set_option maxRecDepth 100000 in
set_option maxHeartbeats 800000 in
theorem rmerge_any (a b : List Int) (ha : Ok8 a) (hb : Ok8 b) (w : World) :
    Calls Try.prog 12 #[.agg (ck a).toArray, .agg (ck b).toArray] w fun e w' => e = .returned (.agg (ck (cMax a b)).toArray) ∧ Turn w w' none := by
  have hT := Turn.refl w none
  have hm := cMax_ok ha hb
  have hbd : Try.prog.built 24 [] = some (ck nul8).toArray := by kernel_rfl
  go_enter Try.func12, Try.ntmps12
  go_wp2_with (first
    | (have q9 := hb3; refine wp_al rfl 24 rfl _ nulCk ?_; intro g4 w4 hg4 hb4 ht4; have n34 : g3 < g4 := hg4 ▸ hb3.lt; have hT := hT.trans ht4; have hb1 := hb1.turn0 ht4; have hb2 := hb2.turn0 ht4; have hb3 := hb3.turn0 ht4; rw [cells_agg] at hb4; clear q9)
    | (refine wp_al rfl 24 rfl _ nulCk ?_; intro g3 w3 hg3 hb3 ht3; have n23 : g2 < g3 := hg3 ▸ hb2.lt; have hT := hT.trans ht3; have hb1 := hb1.turn0 ht3; have hb2 := hb2.turn0 ht3; rw [cells_agg] at hb3)
    | (have q9 := hb1;refine wp_bx rfl 24 _ rfl rfl ?_; intro g2 w2 hg2 hb2 ht2; have hT := hT.trans ht2; have n12 : g1 < g2 := hg2 ▸ hb1.lt; have hb1 := hb1.turn0 ht2; clear q9)
    | (refine wp_bx rfl 24 _ rfl rfl ?_; intro g1 w1 hg1 hb1 ht1; have hT := hT.trans ht1; skip)
    | (refine wp_bd rfl 24 _ rfl _ rfl _ hbd ?_)
    | (refine wp_st (xs := ck (nul8)) rfl 24 _ _ rfl rfl rfl hb4 (ckSz rfl nul8_ok.1) (szCk nul8_ok.1) (ck_one _) ?_; intro w5 hb5 ht5))
  go_loopw [6] (fun i wr => ∃ j : Nat, j ≤ 8 ∧ i = .int .i64 (j : Int) ∧ Blk wr g4 24 (ck (part8 (cMax a b) nul8 j)).toArray ∧ Turn w4 wr (some g4)) (fun i _ => (8 - intOf i).toNat)
  case atStart => exact ⟨0, by omega, rfl, by rw [part8_zero]; exact hb5, ht5⟩
  case round =>
    obtain ⟨j, hj, rfl, h1, ht⟩ := hrel
    clear hb5 ht5
    have k1 := hb1.turn ht (by simp; omega)
    have k2 := hb2.turn ht (by simp; omega)
    by_cases hj8 : j < 8
    · obtain ⟨x, hx, hx0, hx1⟩ := ha.at_ hj8
      obtain ⟨y, hy, hy0, hy1⟩ := hb.at_ hj8
      have c1 := k1.ats (ck_at hx)
      have c2 := k2.ats (ck_at hy)
      have c4 := h1.ats (ck_at (part8_at hm.1 hj8 (nul8_at hj8)))
      have hfr := h1.frozen j
      have s1 := h1.sets j (.int .u64 x)
      have hfs := s1.frozen j
      rw [ck_set] at s1
      have tu := Blk.setTurn wr g4 j (.int .u64 x)
      have d1 := (k1.turn tu (by simp; omega)).ats (ck_at hx)
      have d2 := (k2.turn tu (by simp; omega)).ats (ck_at hy)
      by_cases hxy : x < y
      · have hmx := cMax_at hx hy
        rw [if_pos hxy] at hmx
        go_wp2_with fail
        go_quiet (fail)
        go_wp2_with fail
        refine ⟨⟨j + 1, by omega, rfl, ?_, (((ht.trans tu).drewN _).trans (Blk.setTurn _ g4 _ _))⟩, ?_⟩
        · rw [← part8_set2 (u := x) hm.1 rfl hj8 hmx, ← ck_set]
          exact (s1.drewN _).sets _ _
        · simp [intOf]; omega
      · have hmx := cMax_at hx hy
        rw [if_neg hxy] at hmx
        go_wp2_with fail
        go_quiet (fail)
        go_wp2_with fail
        refine ⟨⟨j + 1, by omega, rfl, ?_, (ht.trans tu).drewN _⟩, ?_⟩
        · rw [← part8_next hm.1 rfl hj8 hmx]
          exact s1.drewN _
        · simp [intOf]; omega
    · obtain rfl : j = 8 := by omega
      rw [part8_all hm.1 rfl] at h1
      go_wp2_with (first
        | (refine wp_ld rfl 24 _ rfl rfl h1 (Sub.all (ck (cMax a b))) Try.underlying24 rfl (szCk hm.1) ?_)
        | (refine wp_st (xs := ck (cMax a b)) rfl 24 _ _ rfl rfl rfl (hb3.turn ht (by simp; omega)) (ckSz rfl hm.1) (szCk hm.1) (ck_one _) ?_; intro w9 hb9 ht9))
      (refine ret_cell rfl rfl rfl hb9 Try.underlying24 rfl (szCk hm.1) ?_)
      exact ⟨rfl, (hT.new ht (by simp; omega)).new ht9 (by simp; omega)⟩

set_option maxRecDepth 100000 in
set_option maxHeartbeats 800000 in
theorem rupto_any (a b : List Int) (ha : Ok8 a) (hb : Ok8 b) (w : World) :
    Calls Try.prog 16 #[.agg (ck a).toArray, .agg (ck b).toArray] w fun e w' => e = .returned (.bool (cUp a b)) ∧ Turn w w' none := by
  have hT := Turn.refl w none
  go_enter Try.func16, Try.ntmps16
  go_wp2_with (first
    | (have q9 := hb1;refine wp_bx rfl 24 _ rfl rfl ?_; intro g2 w2 hg2 hb2 ht2; have hT := hT.trans ht2; have hb1 := hb1.turn0 ht2; clear q9)
    | (refine wp_bx rfl 24 _ rfl rfl ?_; intro g1 w1 hg1 hb1 ht1; have hT := hT.trans ht1; skip))
  go_loopw [5] (fun i wr => ∃ j : Nat, j ≤ 8 ∧ i = .int .i64 (j : Int) ∧ (∀ k x y, k < j → a[k]? = some x → b[k]? = some y → x ≤ y) ∧ Turn w2 wr none) (fun i _ => (8 - intOf i).toNat)
  case atStart => exact ⟨0, by omega, rfl, fun k _ _ hk => by omega, Turn.refl w2 _⟩
  case round =>
    obtain ⟨j, hj, rfl, hall, ht⟩ := hrel
    have hall := hid hall
    have k1 := hb1.turn0 ht
    have k2 := hb2.turn0 ht
    by_cases hj8 : j < 8
    · obtain ⟨x, hx, hx0, hx1⟩ := ha.at_ hj8
      obtain ⟨y, hy, hy0, hy1⟩ := hb.at_ hj8
      have c1 := k1.ats (ck_at hx)
      have c2 := k2.ats (ck_at hy)
      by_cases hxy : y < x
      · have hno := hid (cUp_no hj8 hx hy hxy)
        go_wp2_with fail
        go_quiet (fail)
        go_wp2_with fail
        go_ret
        exact ⟨by rw [hno.out]; rfl, (hT.trans ht).drewN _⟩
      · go_wp2_with fail
        go_quiet (fail)
        go_wp2_with fail
        refine ⟨⟨j + 1, by omega, rfl, fun k x2 y2 hk h1 h2 => ?_, ht.drewN _⟩, ?_⟩
        · by_cases hkj : k < j
          · exact hall.out k x2 y2 hkj h1 h2
          · obtain rfl : k = j := by omega
            rw [hx] at h1; rw [hy] at h2
            injection h1 with h1; injection h2 with h2
            omega
        · simp [intOf]; omega
    · obtain rfl : j = 8 := by omega
      have hyes := hid ((cUp_iff ha hb).2 hall.out)
      go_wp2_with fail
      go_ret
      exact ⟨by rw [hyes.out]; rfl, hT.trans ht⟩

set_option maxRecDepth 100000 in
set_option maxHeartbeats 800000 in
theorem order_any (a b : List Int) (ha : Ok8 a) (hb : Ok8 b) (w : World) :
    Calls Try.prog 10 #[.agg (ck a).toArray, .agg (ck b).toArray] w fun e w' => e = .returned (.int .i64 (cOrd a b)) ∧ Turn w w' none := by
  have hT := Turn.refl w none
  obtain ⟨m, hm, hmo⟩ : ∃ m, m = cMax a b ∧ Ok8 m := ⟨_, rfl, cMax_ok ha hb⟩
  have HM := hid hm
  have key : ∀ (p q r : Bool), (∀ W, (Op.equalIn 10000 24 (.agg (ck a).toArray) (.agg (ck b).toArray)).run Try.prog W = .ok p W) → (∀ W, (Op.equalIn 10000 24 (.agg (ck m).toArray) (.agg (ck b).toArray)).run Try.prog W = .ok q W) →
      (∀ W, (Op.equalIn 10000 24 (.agg (ck m).toArray) (.agg (ck a).toArray)).run Try.prog W = .ok r W) →
      Calls Try.prog 10 #[.agg (ck a).toArray, .agg (ck b).toArray] w fun e w' => e = .returned (.int .i64 (if p = true then 0 else if q = true then 1 else if r = true then 2 else 3)) ∧ Turn w w' none := by
    intro p q r h1 h2 h3
    clear hm
    cases p
    all_goals cases q
    all_goals cases r
    all_goals
      go_enter Try.func10, Try.ntmps10
      go_wp2_with (first
        | (refine wp_al rfl 24 rfl _ nulCk ?_; intro g3 w4 hg3 hb3 ht4; have hT := hT.trans ht4; have hb1 := hb1.turn0 ht4; have hb2 := hb2.turn0 ht4; rw [cells_agg] at hb3)
        | (have q9 := hb1;refine wp_bx rfl 24 _ rfl rfl ?_; intro g2 w2 hg2 hb2 ht2; have hT := hT.trans ht2; have n12 : g1 < g2 := hg2 ▸ hb1.lt; have hb1 := hb1.turn0 ht2; clear q9)
        | (refine wp_bx rfl 24 _ rfl rfl ?_; intro g1 w1 hg1 hb1 ht1; have hT := hT.trans ht1; skip)
        | (refine wp_ld rfl 24 _ rfl rfl hb1 (Sub.all (ck (a))) Try.underlying24 rfl (szCk ha.1) ?_)
        | (refine wp_ld rfl 24 _ rfl rfl hb2 (Sub.all (ck (b))) Try.underlying24 rfl (szCk hb.1) ?_)
        | (go_at_call 11; refine (merge_any a b ha hb _).mono ?_; rw [← HM.out]; rintro e w3 ⟨rfl, ht3⟩; have hT := hT.trans ht3; have n23 : g2 < w3.heap.size := Nat.lt_of_lt_of_le hb2.lt ht3.size; have hb1 := hb1.turn0 ht3; have hb2 := hb2.turn0 ht3)
        | (refine wp_st (xs := ck m) rfl 24 _ _ rfl rfl rfl hb3 (ckSz rfl hmo.1) (szCk hmo.1) (ck_one _) ?_; intro w5 hb5 ht5; have hb1 := hb1.turn ht5 (by simp; omega); have hb2 := hb2.turn ht5 (by simp; omega); have hT := hT.new ht5 (by simp; have := hT.size; have := ht4.size; omega))
        | (refine wp_ld rfl 24 _ rfl rfl hb5 (Sub.all (ck (m))) Try.underlying24 rfl (szCk hmo.1) ?_))
      go_ret
      exact ⟨rfl, hT⟩
  have h := key _ _ _ (eq8 ha hb) (eq8 hmo hb) (eq8 hmo ha)
  refine h.mono ?_
  rintro e w' ⟨rfl, ht⟩
  refine ⟨?_, ht⟩
  simp only [decide_eq_true_eq]
  rw [HM.out]
  simp only [cMax_r ha hb, cMax_l ha hb]
  rfl

set_option maxRecDepth 100000 in
set_option maxHeartbeats 800000 in
theorem rorder_any (a b : List Int) (ha : Ok8 a) (hb : Ok8 b) (w : World) :
    Calls Try.prog 13 #[.agg (ck a).toArray, .agg (ck b).toArray] w fun e w' => e = .returned (.int .i64 (cOrd a b)) ∧ Turn w w' none := by
  have hT := Turn.refl w none
  have key : ∀ (p q r : Bool), (∀ W, (Op.equalIn 10000 24 (.agg (ck a).toArray) (.agg (ck b).toArray)).run Try.prog W = .ok p W) → cUp a b = q → cUp b a = r →
      Calls Try.prog 13 #[.agg (ck a).toArray, .agg (ck b).toArray] w fun e w' => e = .returned (.int .i64 (if p = true then 0 else if q = true then 1 else if r = true then 2 else 3)) ∧ Turn w w' none := by
    intro p q r h1 h2 h3
    have H2 := hid h2
    have H3 := hid h3
    clear h2 h3
    cases p
    all_goals cases q
    all_goals cases r
    all_goals
      go_enter Try.func13, Try.ntmps13
      go_wp2_with (first
        | (have q9 := hb1;refine wp_bx rfl 24 _ rfl rfl ?_; intro g2 w2 hg2 hb2 ht2; have hT := hT.trans ht2; have hb1 := hb1.turn0 ht2; clear q9)
        | (refine wp_bx rfl 24 _ rfl rfl ?_; intro g1 w1 hg1 hb1 ht1; have hT := hT.trans ht1; skip)
        | (refine wp_ld rfl 24 _ rfl rfl hb1 (Sub.all (ck (a))) Try.underlying24 rfl (szCk ha.1) ?_)
        | (refine wp_ld rfl 24 _ rfl rfl hb2 (Sub.all (ck (b))) Try.underlying24 rfl (szCk hb.1) ?_)
        | (go_at_call 16; have q9 := ht3; refine (rupto_any b a hb ha _).mono ?_; rw [H3.out]; rintro e w4 ⟨rfl, ht4⟩; have hT := hT.trans ht4; have hb1 := hb1.turn0 ht4; have hb2 := hb2.turn0 ht4; clear q9)
        | (go_at_call 16; refine (rupto_any a b ha hb _).mono ?_; rw [H2.out]; rintro e w3 ⟨rfl, ht3⟩; have hT := hT.trans ht3; have hb1 := hb1.turn0 ht3; have hb2 := hb2.turn0 ht3))
      go_ret
      exact ⟨rfl, hT⟩
  have h := key _ _ _ (eq8 ha hb) rfl rfl
  refine h.mono ?_
  rintro e w' ⟨rfl, ht⟩
  refine ⟨?_, ht⟩
  simp only [decide_eq_true_eq]
  rfl
end Go.Proofs.Ytadkhafjkbkinaa
