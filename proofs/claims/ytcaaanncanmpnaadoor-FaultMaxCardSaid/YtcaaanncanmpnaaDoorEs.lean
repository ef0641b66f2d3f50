/-
  Layer 4: the walk of FaultMax.
-/
import Derived.Test.YtcaaanncanmpnaaDoorEl
namespace Go.Proofs.YtcaaanncanmpnaaDoor
open Go.RowKit Go.Extern.Stop Go.Stop Go.Extern

/-- Numbers as cells. -/
def ivs (l : List Int) : List Value := l.map (Value.int .i64)
theorem ivs_len (l : List Int) : (ivs l).length = l.length := by simp [ivs]
/-- The gravest reason's weight. -/
def gmax : List Int → Int
  | [] => 0
  | x :: l => max (gv x) (gmax l)
theorem gmax_nn (l : List Int) : 0 ≤ gmax l := by
  induction l with
  | nil => exact Int.le_refl _
  | cons x l ih => exact Int.le_trans ih (Int.le_max_right _ _)
theorem gmax_app (l m : List Int) : gmax (l ++ m) = max (gmax l) (gmax m) := by
  induction l with
  | nil => have := gmax_nn m; simp only [List.nil_append, gmax]; omega
  | cons x l ih => simp only [List.cons_append, gmax, ih]; omega
theorem gmax_snoc (l : List Int) (x : Int) : gmax (l ++ [x]) = max (gmax l) (gv x) := by
  rw [gmax_app]
  have := (gv_bd x).1
  simp only [gmax]
  omega
theorem gmax_rev (l : List Int) : gmax l.reverse = gmax l := by
  induction l with
  | nil => rfl
  | cons x l ih => rw [List.reverse_cons, gmax_snoc, ih, gmax]; omega
theorem atE_why (s : ByteArray) (x : Int) : (atE s (.an (.num x) [])).why = x := by
  by_cases h : x = 0
  · simp [atE, Rt.why, h, Er.why]
  · simp [atE, Rt.why, h, Er.why]
/-- The worse one of two. -/
def worseE (a b : Er) : Er := if gv a.why < gv b.why then b else a
theorem worseE_why (a b : Er) : gv (worseE a b).why = max (gv a.why) (gv b.why) := by
  unfold worseE
  split <;> omega
theorem worseE_any (a b : Er) (w : World) (hH : Hnd w) : Calls Tryd.prog 23 #[a.val, b.val] w fun e w' => e = .returned (worseE a b).val ∧ Turn w w' none := by
  have k := worse_any a b w hH
  unfold worseE
  split
  · rename_i h; rw [if_pos h] at k; exact k
  · rename_i h; rw [if_neg h] at k; exact k
theorem cell_keep {w w' : World} {g i : Nat} {v : Value} (h : w.cell? ⟨g, i, none⟩ = some v) (ht : Turn w w' none) : w'.cell? ⟨g, i, none⟩ = some v := by
  rw [ht.cell (World.block_lt_of_cell? w _ h) (by simp)]
  exact h

set_option maxRecDepth 100000 in
set_option maxHeartbeats 8000000 in
theorem max_few (A : Option Addr) (k c : Nat) (ls : List Int) (s : ByteArray) (w : World) (hH : Hnd w) (hR60 : Rd w w.heap.size 1 A k (ivs ls)) (hk : k ≤ 60) :
    Calls Tryd.prog 8 #[.slice A k c, .string s] w fun e w' => e = .returned (.bool true) ∧ Turn w w' none := by
  have hl60 := hR60.len
  rw [ivs_len] at hl60
  have HLS := hid hl60
  have kL := fun w1 ht => lives_any w1 (hH.turn0 (w' := w1) ht)
  have hk2 : ¬ (60 : Int) < k := by omega
  clear hl60
  go_enter Tryd.func8, Tryd.ntmps8
  go_wp2_with fail
  go_loopw [5, 6, 7, 8] (fun a b mo i wr => ∃ (j : Nat) (ea eb : Er), j ≤ k ∧ i = .int .i64 j ∧ a = ea.val ∧ b = eb.val ∧ mo = .int .i64 (gmax (ls.take j)) ∧ gv ea.why = gmax (ls.take j) ∧ gv eb.why = gmax (ls.reverse.take j) ∧ Turn w wr none) (fun _ _ _ i _ => k - (intOf i).toNat)
  case atStart => exact ⟨0, .no, .no, Nat.zero_le _, rfl, rfl, rfl, rfl, rfl, rfl, Turn.refl w none⟩
  case round =>
    obtain ⟨j, ea, eb, hj, rfl, rfl, rfl, rfl, hea, heb, ht⟩ := hrel
    have HEA := hid hea
    have HEB := hid heb
    clear hea heb
    by_cases hlt : j < k
    · obtain ⟨x, hx⟩ : ∃ x, ls[j]? = some x := ⟨ls[j]'(by rw [HLS.out]; exact hlt), List.getElem?_eq_getElem _⟩
      obtain ⟨y, hy⟩ : ∃ y, ls[k - 1 - j]? = some y := ⟨ls[k - 1 - j]'(by rw [HLS.out]; omega), List.getElem?_eq_getElem _⟩
      obtain ⟨q, hq⟩ : ∃ q : Nat, q = k - 1 - j := ⟨_, rfl⟩
      rw [← hq] at hy
      have hvx : (ivs ls)[j]? = some (.int .i64 x) := by simp [ivs, hx]
      have hvy : (ivs ls)[q]? = some (.int .i64 y) := by simp [ivs, hy]
      obtain ⟨b1, o1, rfl, _, hc1⟩ := (hR60.turn0 ht (Nat.le_refl _)).head (by omega)
      have HC := hid hc1
      clear hc1
      have hqi : ((k : Int) - 1 - j) = (q : Int) := by omega
      have hqk : (q : Int) < k := by omega
      have hqk2 : q < k := by omega
      have hji : (j : Int) < k := by omega
      have f1 : gmax (ls.take (j + 1)) = max (gmax (ls.take j)) (gv x) := by
        rw [List.take_add_one, hx]; exact gmax_snoc _ _
      have f2 : gmax (ls.reverse.take (j + 1)) = max (gmax (ls.reverse.take j)) (gv y) := by
        rw [List.take_add_one, List.getElem?_reverse (by rw [HLS.out]; exact hlt), HLS.out, ← hq, hy]; exact gmax_snoc _ _
      have F1 := hid f1
      have F2 := hid f2
      have HQ := hid hq
      clear hx hy hq f1 f2
      have kTx := fun w1 ht => atE_any s (.an (.num x) []) w1 (hH.turn0 (w' := w1) ht)
      have kTy := fun w1 ht => atE_any s (.an (.num y) []) w1 (hH.turn0 (w' := w1) ht)
      have ex : (Er.an (.num x) []).val = .iface 24 (.int .i64 x) := rfl
      have ey : (Er.an (.num y) []).val = .iface 24 (.int .i64 y) := rfl
      rw [ex] at kTx
      rw [ey] at kTy
      have WX : Hid ((atE s (.an (.num x) [])).why = x) := hid (atE_why s x)
      have WY : Hid ((atE s (.an (.num y) [])).why = y) := hid (atE_why s y)
      clear ex ey
      generalize atE s (.an (.num x) []) = X at *
      generalize atE s (.an (.num y) []) = Y at *
      have kOx := fun w1 ht => worseE_any ea X w1 (hH.turn0 (w' := w1) ht)
      have kOy := fun w1 ht => worseE_any Y eb w1 (hH.turn0 (w' := w1) ht)
      have VX : Hid (gv (worseE ea X).why = gmax (ls.take (j + 1))) := hid (by rw [worseE_why, HEA.out, WX.out, F1.out])
      have VY : Hid (gv (worseE Y eb).why = gmax (ls.reverse.take (j + 1))) := hid (by rw [worseE_why, HEB.out, WY.out, F2.out]; exact Int.max_comm _ _)
      generalize worseE ea X = ea2 at *
      generalize worseE Y eb = eb2 at *
      generalize ea.val = va at *
      generalize eb.val = vb at *
      generalize hva2 : ea2.val = va2 at *
      generalize hvb2 : eb2.val = vb2 at *
      have HV1 := hid hva2
      have HV2 := hid hvb2
      have kG := fun w => weight_any x w
      obtain ⟨p, hp⟩ : ∃ p, gmax (ls.take j) = p := ⟨_, rfl⟩
      obtain ⟨r, hr'⟩ : ∃ r, gv x = r := ⟨_, rfl⟩
      rw [hr'] at kG F1
      rw [hp] at F1 ⊢
      have HP := hid hp
      clear hva2 hvb2 hp hr'
      have g1 := HC.out j _ hvx
      have g2 := HC.out q _ hvy
      clear hvx hvy
      by_cases hpr : p < r
      · go_wp2_with (first
          | (go_at_call_of 17 x; refine (kTx _ ht).mono ?_; rintro e w2 ⟨rfl, h2⟩; have hT2 := ht.trans h2)
          | (go_at_call_of 23 va; refine (kOx _ hT2).mono ?_; rintro e w3 ⟨rfl, h3⟩; have hT3 := hT2.trans h3; have g3 := cell_keep g2 (h2.trans h3))
          | (go_at_call_of 17 y; refine (kTy _ hT3).mono ?_; rintro e w4 ⟨rfl, h4⟩; have hT4 := hT3.trans h4)
          | (go_at_call_of 23 vb; refine (kOy _ hT4).mono ?_; rintro e w5 ⟨rfl, h5⟩; have hT5 := hT4.trans h5; have g5 := cell_keep g1 (((h2.trans h3).trans h4).trans h5))
          | (go_at_call 22; refine (kG _).mono ?_; rintro e w6 ⟨rfl, rfl⟩))
        go_roundw
        case measure => simp [intOf]; omega
        case rel => exact ⟨j + 1, ea2, eb2, by omega, by go_num, HV1.out.symm, HV2.out.symm, by rw [F1.out, Int.max_eq_right (by omega)], VX.out, VY.out, hT5⟩
      · go_wp2_with (first
          | (go_at_call_of 17 x; refine (kTx _ ht).mono ?_; rintro e w2 ⟨rfl, h2⟩; have hT2 := ht.trans h2)
          | (go_at_call_of 23 va; refine (kOx _ hT2).mono ?_; rintro e w3 ⟨rfl, h3⟩; have hT3 := hT2.trans h3; have g3 := cell_keep g2 (h2.trans h3))
          | (go_at_call_of 17 y; refine (kTy _ hT3).mono ?_; rintro e w4 ⟨rfl, h4⟩; have hT4 := hT3.trans h4)
          | (go_at_call_of 23 vb; refine (kOy _ hT4).mono ?_; rintro e w5 ⟨rfl, h5⟩; have hT5 := hT4.trans h5; have g5 := cell_keep g1 (((h2.trans h3).trans h4).trans h5))
          | (go_at_call 22; refine (kG _).mono ?_; rintro e w6 ⟨rfl, rfl⟩))
        go_roundw
        case measure => simp [intOf]; omega
        case rel => exact ⟨j + 1, ea2, eb2, by omega, by go_num, HV1.out.symm, HV2.out.symm, by rw [F1.out, Int.max_eq_left (by omega)], VX.out, VY.out, hT5⟩
    · obtain rfl : j = k := by omega
      have e1 : ls.take j = ls := List.take_of_length_le (by have := HLS.out; omega)
      have e2 : ls.reverse.take j = ls.reverse := List.take_of_length_le (by rw [List.length_reverse]; have := HLS.out; omega)
      obtain ⟨p, hp⟩ : ∃ p, gmax ls = p := ⟨_, rfl⟩
      have HEA2 : gv ea.why = p := by rw [HEA.out, e1]; exact hp
      have HEB2 : gv eb.why = p := by rw [HEB.out, e2, gmax_rev]; exact hp
      rw [e1, hp]
      have ka := fun w1 ht => whyE_any ea w1 (hH.turn0 (w' := w1) ht)
      have kb := fun w1 ht => whyE_any eb w1 (hH.turn0 (w' := w1) ht)
      have ga := fun w => grave_any ea.why w
      have gb := fun w => grave_any eb.why w
      rw [HEA2] at ga
      rw [HEB2] at gb
      clear HEA HEB HEA2 HEB2 e1 e2 hp
      generalize ea.val = va at *
      generalize eb.val = vb at *
      generalize ea.why = na at *
      generalize eb.why = nb at *
      go_wp2_with (first
        | (go_at_call_of 11 va; refine (ka _ ht).mono ?_; rintro e w2 ⟨rfl, h2⟩; have hT2 := ht.trans h2)
        | (go_at_call_of 21 na; refine (ga _).mono ?_; rintro e w3 ⟨rfl, rfl⟩)
        | (go_at_call_of 11 vb; refine (kb _ hT2).mono ?_; rintro e w4 ⟨rfl, h4⟩; have hT4 := hT2.trans h4)
        | (go_at_call_of 21 nb; refine (gb _).mono ?_; rintro e w5 ⟨rfl, rfl⟩)
        | (go_at_call 13; refine (kL _ hT4).mono ?_; rintro e w6 ⟨rfl, h6⟩))
      go_ret
      exact ⟨rfl, hT4.trans h6⟩

set_option maxRecDepth 100000 in
set_option maxHeartbeats 8000000 in
theorem max_many (A : Option Addr) (m c : Nat) (ls : List Int) (s : ByteArray) (w : World) (hH : Hnd w) (hR60 : Rd w w.heap.size 1 A 60 (ivs ls)) (hm : 60 < m) (hmc : m ≤ c) (hc : c ≤ maxLen) :
    Calls Tryd.prog 8 #[.slice A m c, .string s] w fun e w' => e = .returned (.bool true) ∧ Turn w w' none := by
  unfold maxLen at hc
  obtain ⟨k, hk60⟩ : ∃ k : Nat, k = 60 := ⟨_, rfl⟩
  have hl60 := hR60.len
  rw [ivs_len] at hl60
  rw [← hk60] at hR60 hl60
  have HLS := hid hl60
  have HK := hid hk60
  have hk : k ≤ 60 := by omega
  have kL := fun w1 ht => lives_any w1 (hH.turn0 (w' := w1) ht)
  have hk2 : (60 : Int) < m := by omega
  have hk3 : (60 : Int) ≤ c := by omega
  have hk4 : 60 ≤ c := by omega
  clear hl60 hk60
  go_enter Tryd.func8, Tryd.ntmps8
  go_wp2_with fail
  rw [← HK.out]
  go_loopw [5, 6, 7, 8] (fun a b mo i wr => ∃ (j : Nat) (ea eb : Er), j ≤ k ∧ i = .int .i64 j ∧ a = ea.val ∧ b = eb.val ∧ mo = .int .i64 (gmax (ls.take j)) ∧ gv ea.why = gmax (ls.take j) ∧ gv eb.why = gmax (ls.reverse.take j) ∧ Turn w wr none) (fun _ _ _ i _ => k - (intOf i).toNat)
  case atStart => exact ⟨0, .no, .no, Nat.zero_le _, rfl, rfl, rfl, rfl, rfl, rfl, Turn.refl w none⟩
  case round =>
    obtain ⟨j, ea, eb, hj, rfl, rfl, rfl, rfl, hea, heb, ht⟩ := hrel
    have HEA := hid hea
    have HEB := hid heb
    clear hea heb
    by_cases hlt : j < k
    · obtain ⟨x, hx⟩ : ∃ x, ls[j]? = some x := ⟨ls[j]'(by rw [HLS.out]; exact hlt), List.getElem?_eq_getElem _⟩
      obtain ⟨y, hy⟩ : ∃ y, ls[k - 1 - j]? = some y := ⟨ls[k - 1 - j]'(by rw [HLS.out]; omega), List.getElem?_eq_getElem _⟩
      obtain ⟨q, hq⟩ : ∃ q : Nat, q = k - 1 - j := ⟨_, rfl⟩
      rw [← hq] at hy
      have hvx : (ivs ls)[j]? = some (.int .i64 x) := by simp [ivs, hx]
      have hvy : (ivs ls)[q]? = some (.int .i64 y) := by simp [ivs, hy]
      obtain ⟨b1, o1, rfl, _, hc1⟩ := (hR60.turn0 ht (Nat.le_refl _)).head (by omega)
      have HC := hid hc1
      clear hc1
      have hqi : ((k : Int) - 1 - j) = (q : Int) := by omega
      have hqk : (q : Int) < k := by omega
      have hqk2 : q < k := by omega
      have hji : (j : Int) < k := by omega
      have f1 : gmax (ls.take (j + 1)) = max (gmax (ls.take j)) (gv x) := by
        rw [List.take_add_one, hx]; exact gmax_snoc _ _
      have f2 : gmax (ls.reverse.take (j + 1)) = max (gmax (ls.reverse.take j)) (gv y) := by
        rw [List.take_add_one, List.getElem?_reverse (by rw [HLS.out]; exact hlt), HLS.out, ← hq, hy]; exact gmax_snoc _ _
      have F1 := hid f1
      have F2 := hid f2
      have HQ := hid hq
      clear hx hy hq f1 f2
      have kTx := fun w1 ht => atE_any s (.an (.num x) []) w1 (hH.turn0 (w' := w1) ht)
      have kTy := fun w1 ht => atE_any s (.an (.num y) []) w1 (hH.turn0 (w' := w1) ht)
      have ex : (Er.an (.num x) []).val = .iface 24 (.int .i64 x) := rfl
      have ey : (Er.an (.num y) []).val = .iface 24 (.int .i64 y) := rfl
      rw [ex] at kTx
      rw [ey] at kTy
      have WX : Hid ((atE s (.an (.num x) [])).why = x) := hid (atE_why s x)
      have WY : Hid ((atE s (.an (.num y) [])).why = y) := hid (atE_why s y)
      clear ex ey
      generalize atE s (.an (.num x) []) = X at *
      generalize atE s (.an (.num y) []) = Y at *
      have kOx := fun w1 ht => worseE_any ea X w1 (hH.turn0 (w' := w1) ht)
      have kOy := fun w1 ht => worseE_any Y eb w1 (hH.turn0 (w' := w1) ht)
      have VX : Hid (gv (worseE ea X).why = gmax (ls.take (j + 1))) := hid (by rw [worseE_why, HEA.out, WX.out, F1.out])
      have VY : Hid (gv (worseE Y eb).why = gmax (ls.reverse.take (j + 1))) := hid (by rw [worseE_why, HEB.out, WY.out, F2.out]; exact Int.max_comm _ _)
      generalize worseE ea X = ea2 at *
      generalize worseE Y eb = eb2 at *
      generalize ea.val = va at *
      generalize eb.val = vb at *
      generalize hva2 : ea2.val = va2 at *
      generalize hvb2 : eb2.val = vb2 at *
      have HV1 := hid hva2
      have HV2 := hid hvb2
      have kG := fun w => weight_any x w
      obtain ⟨p, hp⟩ : ∃ p, gmax (ls.take j) = p := ⟨_, rfl⟩
      obtain ⟨r, hr'⟩ : ∃ r, gv x = r := ⟨_, rfl⟩
      rw [hr'] at kG F1
      rw [hp] at F1 ⊢
      have HP := hid hp
      clear hva2 hvb2 hp hr'
      have g1 := HC.out j _ hvx
      have g2 := HC.out q _ hvy
      clear hvx hvy
      by_cases hpr : p < r
      · go_wp2_with (first
          | (go_at_call_of 17 x; refine (kTx _ ht).mono ?_; rintro e w2 ⟨rfl, h2⟩; have hT2 := ht.trans h2)
          | (go_at_call_of 23 va; refine (kOx _ hT2).mono ?_; rintro e w3 ⟨rfl, h3⟩; have hT3 := hT2.trans h3; have g3 := cell_keep g2 (h2.trans h3))
          | (go_at_call_of 17 y; refine (kTy _ hT3).mono ?_; rintro e w4 ⟨rfl, h4⟩; have hT4 := hT3.trans h4)
          | (go_at_call_of 23 vb; refine (kOy _ hT4).mono ?_; rintro e w5 ⟨rfl, h5⟩; have hT5 := hT4.trans h5; have g5 := cell_keep g1 (((h2.trans h3).trans h4).trans h5))
          | (go_at_call 22; refine (kG _).mono ?_; rintro e w6 ⟨rfl, rfl⟩))
        go_roundw
        case measure => simp [intOf]; omega
        case rel => exact ⟨j + 1, ea2, eb2, by omega, by go_num, HV1.out.symm, HV2.out.symm, by rw [F1.out, Int.max_eq_right (by omega)], VX.out, VY.out, hT5⟩
      · go_wp2_with (first
          | (go_at_call_of 17 x; refine (kTx _ ht).mono ?_; rintro e w2 ⟨rfl, h2⟩; have hT2 := ht.trans h2)
          | (go_at_call_of 23 va; refine (kOx _ hT2).mono ?_; rintro e w3 ⟨rfl, h3⟩; have hT3 := hT2.trans h3; have g3 := cell_keep g2 (h2.trans h3))
          | (go_at_call_of 17 y; refine (kTy _ hT3).mono ?_; rintro e w4 ⟨rfl, h4⟩; have hT4 := hT3.trans h4)
          | (go_at_call_of 23 vb; refine (kOy _ hT4).mono ?_; rintro e w5 ⟨rfl, h5⟩; have hT5 := hT4.trans h5; have g5 := cell_keep g1 (((h2.trans h3).trans h4).trans h5))
          | (go_at_call 22; refine (kG _).mono ?_; rintro e w6 ⟨rfl, rfl⟩))
        go_roundw
        case measure => simp [intOf]; omega
        case rel => exact ⟨j + 1, ea2, eb2, by omega, by go_num, HV1.out.symm, HV2.out.symm, by rw [F1.out, Int.max_eq_left (by omega)], VX.out, VY.out, hT5⟩
    · obtain rfl : j = k := by omega
      have e1 : ls.take j = ls := List.take_of_length_le (by have := HLS.out; omega)
      have e2 : ls.reverse.take j = ls.reverse := List.take_of_length_le (by rw [List.length_reverse]; have := HLS.out; omega)
      obtain ⟨p, hp⟩ : ∃ p, gmax ls = p := ⟨_, rfl⟩
      have HEA2 : gv ea.why = p := by rw [HEA.out, e1]; exact hp
      have HEB2 : gv eb.why = p := by rw [HEB.out, e2, gmax_rev]; exact hp
      rw [e1, hp]
      have ka := fun w1 ht => whyE_any ea w1 (hH.turn0 (w' := w1) ht)
      have kb := fun w1 ht => whyE_any eb w1 (hH.turn0 (w' := w1) ht)
      have ga := fun w => grave_any ea.why w
      have gb := fun w => grave_any eb.why w
      rw [HEA2] at ga
      rw [HEB2] at gb
      clear HEA HEB HEA2 HEB2 e1 e2 hp
      generalize ea.val = va at *
      generalize eb.val = vb at *
      generalize ea.why = na at *
      generalize eb.why = nb at *
      go_wp2_with (first
        | (go_at_call_of 11 va; refine (ka _ ht).mono ?_; rintro e w2 ⟨rfl, h2⟩; have hT2 := ht.trans h2)
        | (go_at_call_of 21 na; refine (ga _).mono ?_; rintro e w3 ⟨rfl, rfl⟩)
        | (go_at_call_of 11 vb; refine (kb _ hT2).mono ?_; rintro e w4 ⟨rfl, h4⟩; have hT4 := hT2.trans h4)
        | (go_at_call_of 21 nb; refine (gb _).mono ?_; rintro e w5 ⟨rfl, rfl⟩)
        | (go_at_call 13; refine (kL _ hT4).mono ?_; rintro e w6 ⟨rfl, h6⟩))
      go_ret
      exact ⟨rfl, hT4.trans h6⟩

theorem max_walk (A : Option Addr) (m c : Nat) (ls : List Int) (s : ByteArray) (w : World) (hH : Hnd w) (hr : Rd w w.heap.size 1 A m (ivs ls)) (hmc : m ≤ c) (hc : c ≤ maxLen) :
    Calls Tryd.prog 8 #[.slice A m c, .string s] w fun e w' => e = .returned (.bool true) ∧ Turn w w' none := by
  by_cases h : 60 < m
  · have h2 := hr.take (k := 60) (by omega)
    rw [Nat.mul_one] at h2
    exact max_many A m c (ls.take 60) s w hH (by simpa [ivs] using h2) h hmc hc
  · exact max_few A m c ls s w hH hr (by omega)
end Go.Proofs.YtcaaanncanmpnaaDoor
