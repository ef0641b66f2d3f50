/-
  Layer 6: the walk of LexBlanks, over the contract of the code's Words.
-/
import Derived.Test.YtkljkiambjlnaaaLb
namespace Go.Proofs.Ytkljkiambjlnaaa
open Go.RowKit

theorem tok_up_len (ts : List Tok) (k : Nat) : (ts.take k ++ (ts.drop k).map Tok.up).length = ts.length := by
  rw [List.length_append, List.length_map, ← List.length_append, List.take_append_drop]
theorem tok_up_at {ts : List Tok} {k j : Nat} {t : Tok} (h : ts[j]? = some t) : (ts.take k ++ (ts.drop k).map Tok.up)[j]? = some (if k ≤ j then t.up else t) := by
  obtain ⟨hj, rfl⟩ := List.getElem?_eq_some_iff.1 h
  by_cases hk : k ≤ j
  · rw [if_pos hk, List.getElem?_append_right (by rw [List.length_take]; omega), List.getElem?_map, List.getElem?_drop, List.length_take]
    rw [show k + (j - min k ts.length) = j by omega, List.getElem?_eq_getElem hj]
    rfl
  · rw [if_neg hk, List.getElem?_append_left (by rw [List.length_take]; omega), List.getElem?_take, if_pos (by omega), List.getElem?_eq_getElem hj]
theorem txt_cut (l : List UInt8) (a L : Nat) (hL : l.length = L) : (txt l).extract 0 a ++ (⟨#[10]⟩ : ByteArray) ++ (txt l).extract a L = txt (l.take a ++ 10 :: l.drop a) := by
  apply ByteArray.ext
  rw [ByteArray.data_append, ByteArray.data_append, ByteArray.data_extract, ByteArray.data_extract]
  simp [txt]
  rw [List.take_of_length_le (by rw [List.length_drop]; omega)]

set_option maxRecDepth 100000 in
set_option maxHeartbeats 800000 in
theorem blanks_ok (D : LexDone) (s : ByteArray) (l : List UInt8) (which : Int) (w : World) (hs : Tx s l) (hl : l.length < 4096) (h0 : 0 ≤ which) (h1 : which ≤ 65535) {ts : List Tok} (hw : wWords l = .ok ts)
    (k : Nat) (hk : which % (ts.length : Int) = (k : Int)) (hkn : k < ts.length) : Calls Try.prog 5 #[.string s, .int .u16 which] w fun e w' => e = .returned (.bool true) ∧ Turn w w' none := by
  obtain ⟨tk, htk⟩ : ∃ t, ts[k]? = some t := ⟨ts[k], List.getElem?_eq_getElem hkn⟩
  obtain ⟨ha, hw2⟩ := wWords_lf hw hl htk
  obtain ⟨L, hL⟩ : ∃ L, l.length = L := ⟨_, rfl⟩
  have hcut := txt_cut l tk.at_ L hL
  rw [← show s = txt l from hs] at hcut
  have hsz : s.size = L := hs.size.trans hL
  have htat := (tcs_at htk).2.2
  obtain ⟨a, haa⟩ : ∃ a, tk.at_ = a := ⟨_, rfl⟩
  rw [haa] at ha hw2 hcut htat
  rw [hL] at ha hl
  obtain ⟨N, hN⟩ : ∃ N, ts.length = N := ⟨_, rfl⟩
  rw [hN] at hk hkn
  have hkni : (k : Int) < N := by omega
  have htm : which.tmod (N : Int) = (k : Int) := by rw [Int.tmod_eq_emod_of_nonneg h0]; exact hk
  have hN0 : ((N : Int) == 0) = false := by rw [beq_eq_false_iff_ne]; omega
  have hL4 : (L : Int) < 4096 := by omega
  have ha2 : (a : Int) ≤ L := by omega
  have hN4 : (N : Int) ≤ 1500 := by
    have h := hw
    unfold wWords at h
    split at h
    · cases h
    · have := wGo_few _ 0 0 l ts h (by omega); omega
  have HL := hid hL
  have HN := hid hN
  have HTS := hid (tok_up_len ts k)
  clear hL hN haa htk
  go_enter Try.func5, Try.ntmps5
  go_upto_region 8 with (first
    | (go_at_call 11; refine (words_ok D s l _ hs (by have := HL.out; omega) hw).mono ?_; rintro e w1 ⟨g, c, rfl, ho, ht1⟩; rw [HN.out] at ho; rw [HN.out]; have hcap := ho.cap; have hcat := (ho.cell (i := k * 3 + 2) (by omega)).trans htat))
  have f1 : (0 : Int) ≤ (a : Int) := by omega
  have f2 : a ≤ L := ha
  have f3 : 0 ≤ a := Nat.zero_le _
  have f4 : ¬ 9223372036854775807 < a + 1 := by omega
  have f5 : ¬ 9223372036854775807 < a + 1 + (L - a) := by omega
  refine wp_region_noPanic ?_
  refine wp_region_held_drew (S := fun W => Turn w1 W none) (by kernel_rfl) (Turn.refl _ none).drew (fun hHeld => ?_)
  refine wpAnyH_more (S' := fun W => Turn (World.drew w1) W none) (fun W h => (Turn.refl _ none).drew.trans h) _ _ _ _ ?_
  clear hHeld
  have hHeld : (fun W => Turn (World.drew w1) W none) (World.drew w1) := Turn.refl _ none
  (first | (refine wpAnyH_take (i := 0) (v := undef) rfl (by kernel_rfl) (by kernel_rfl) (by kernel_rfl) (fun _ _ _ h => h) (Or.inr ⟨rfl, rfl⟩) (by assumption) ?_) | (refine wpAnyH_take (i := 0) (v := ?_) rfl (by kernel_rfl) (by kernel_rfl) (by kernel_rfl) (fun _ _ _ h => h) (Or.inl ⟨rfl, ?_⟩) (by assumption) ?_; rotate_left 1; · (intro w hSw; (try dsimp only at hSw); go_simp; (try with_reducible rfl)))); (try simp only [Act.put, List.getElem_toArray, List.getElem_cons_zero, List.getElem_cons_succ, List.setIfInBounds_toArray, List.set_cons_zero, List.set_cons_succ])
  (first | (refine wpAnyH_take (i := 1) (v := undef) rfl (by kernel_rfl) (by kernel_rfl) (by kernel_rfl) (fun _ _ _ h => h) (Or.inr ⟨rfl, rfl⟩) (by assumption) ?_) | (refine wpAnyH_take (i := 1) (v := ?_) rfl (by kernel_rfl) (by kernel_rfl) (by kernel_rfl) (fun _ _ _ h => h) (Or.inl ⟨rfl, ?_⟩) (by assumption) ?_; rotate_left 1; · (intro w hSw; (try dsimp only at hSw); go_simp; (try with_reducible rfl)))); (try simp only [Act.put, List.getElem_toArray, List.getElem_cons_zero, List.getElem_cons_succ, List.setIfInBounds_toArray, List.set_cons_zero, List.set_cons_succ])
  (first | (refine wpAnyH_take (i := 2) (v := undef) rfl (by kernel_rfl) (by kernel_rfl) (by kernel_rfl) (fun _ _ _ h => h) (Or.inr ⟨rfl, rfl⟩) (by assumption) ?_) | (refine wpAnyH_take (i := 2) (v := ?_) rfl (by kernel_rfl) (by kernel_rfl) (by kernel_rfl) (fun _ _ _ h => h) (Or.inl ⟨rfl, ?_⟩) (by assumption) ?_; rotate_left 1; · (intro w hSw; (try dsimp only at hSw); go_simp; (try with_reducible rfl)))); (try simp only [Act.put, List.getElem_toArray, List.getElem_cons_zero, List.getElem_cons_succ, List.setIfInBounds_toArray, List.set_cons_zero, List.set_cons_succ])
  (first | (refine wpAnyH_take (i := 3) (v := undef) rfl (by kernel_rfl) (by kernel_rfl) (by kernel_rfl) (fun _ _ _ h => h) (Or.inr ⟨rfl, rfl⟩) (by assumption) ?_) | (refine wpAnyH_take (i := 3) (v := ?_) rfl (by kernel_rfl) (by kernel_rfl) (by kernel_rfl) (fun _ _ _ h => h) (Or.inl ⟨rfl, ?_⟩) (by assumption) ?_; rotate_left 1; · (intro w hSw; (try dsimp only at hSw); go_simp; (try with_reducible rfl)))); (try simp only [Act.put, List.getElem_toArray, List.getElem_cons_zero, List.getElem_cons_succ, List.setIfInBounds_toArray, List.set_cons_zero, List.set_cons_succ])
  (first | (refine wpAnyH_take (i := 4) (v := undef) rfl (by kernel_rfl) (by kernel_rfl) (by kernel_rfl) (fun _ _ _ h => h) (Or.inr ⟨rfl, rfl⟩) (by assumption) ?_) | (refine wpAnyH_take (i := 4) (v := ?_) rfl (by kernel_rfl) (by kernel_rfl) (by kernel_rfl) (fun _ _ _ h => h) (Or.inl ⟨rfl, ?_⟩) (by assumption) ?_; rotate_left 1; · (intro w hSw; (try dsimp only at hSw); go_simp; (try with_reducible rfl)))); (try simp only [Act.put, List.getElem_toArray, List.getElem_cons_zero, List.getElem_cons_succ, List.setIfInBounds_toArray, List.set_cons_zero, List.set_cons_succ])
  (first | (refine wpAnyH_take (i := 5) (v := undef) rfl (by kernel_rfl) (by kernel_rfl) (by kernel_rfl) (fun _ _ _ h => h) (Or.inr ⟨rfl, rfl⟩) (by assumption) ?_) | (refine wpAnyH_take (i := 5) (v := ?_) rfl (by kernel_rfl) (by kernel_rfl) (by kernel_rfl) (fun _ _ _ h => h) (Or.inl ⟨rfl, ?_⟩) (by assumption) ?_; rotate_left 1; · (intro w hSw; (try dsimp only at hSw); go_simp; (try with_reducible rfl)))); (try simp only [Act.put, List.getElem_toArray, List.getElem_cons_zero, List.getElem_cons_succ, List.setIfInBounds_toArray, List.set_cons_zero, List.set_cons_succ])
  (first | (refine wpAnyH_take (i := 6) (v := undef) rfl (by kernel_rfl) (by kernel_rfl) (by kernel_rfl) (fun _ _ _ h => h) (Or.inr ⟨rfl, rfl⟩) (by assumption) ?_) | (refine wpAnyH_take (i := 6) (v := ?_) rfl (by kernel_rfl) (by kernel_rfl) (by kernel_rfl) (fun _ _ _ h => h) (Or.inl ⟨rfl, ?_⟩) (by assumption) ?_; rotate_left 1; · (intro w hSw; (try dsimp only at hSw); go_simp; (try with_reducible rfl)))); (try simp only [Act.put, List.getElem_toArray, List.getElem_cons_zero, List.getElem_cons_succ, List.setIfInBounds_toArray, List.set_cons_zero, List.set_cons_succ])
  (first | (refine wpAnyH_take (i := 7) (v := undef) rfl (by kernel_rfl) (by kernel_rfl) (by kernel_rfl) (fun _ _ _ h => h) (Or.inr ⟨rfl, rfl⟩) (by assumption) ?_) | (refine wpAnyH_take (i := 7) (v := ?_) rfl (by kernel_rfl) (by kernel_rfl) (by kernel_rfl) (fun _ _ _ h => h) (Or.inl ⟨rfl, ?_⟩) (by assumption) ?_; rotate_left 1; · (intro w hSw; (try dsimp only at hSw); go_simp; (try with_reducible rfl)))); (try simp only [Act.put, List.getElem_toArray, List.getElem_cons_zero, List.getElem_cons_succ, List.setIfInBounds_toArray, List.set_cons_zero, List.set_cons_succ])
  refine wpAnyH_ready (rs := [8]) (by kernel_rfl) (by simp) ?_
  refine AllReadyH.cons rfl (fun K hK => ?_) AllReadyH.nil
  go_simp
  refine (words_ok D _ (l.take a ++ 10 :: l.drop a) _ rfl (by rw [List.length_append, List.length_take, List.length_cons, List.length_drop, HL.out]; omega) hw2).mono ?_
  rintro e w2 ⟨g2, c2, rfl, ho2, ht2⟩
  rw [HTS.out, HN.out] at ho2
  rw [HTS.out, HN.out]
  refine hK.out _ _ (show Turn _ _ none from ht2) (fun hHeld => ?_)
  clear hK K
  (try simp only [Act.put, List.getElem_toArray, List.getElem_cons_zero, List.getElem_cons_succ, List.setIfInBounds_toArray, List.set_cons_zero, List.set_cons_succ])
  refine wpAnyH_more (S' := fun W => Turn w2 W none) (fun W h => Turn.trans ht2 h) _ _ _ _ ?_
  clear hHeld
  have hHeld : (fun W => Turn w2 W none) w2 := Turn.refl w2 none
  (first | (refine wpAnyH_take (i := 9) (v := undef) rfl (by kernel_rfl) (by kernel_rfl) (by kernel_rfl) (fun _ _ _ h => h) (Or.inr ⟨rfl, rfl⟩) (by assumption) ?_) | (refine wpAnyH_take (i := 9) (v := ?_) rfl (by kernel_rfl) (by kernel_rfl) (by kernel_rfl) (fun _ _ _ h => h) (Or.inl ⟨rfl, ?_⟩) (by assumption) ?_; rotate_left 1; · (intro w hSw; (try dsimp only at hSw); go_simp; (try with_reducible rfl)))); (try simp only [Act.put, List.getElem_toArray, List.getElem_cons_zero, List.getElem_cons_succ, List.setIfInBounds_toArray, List.set_cons_zero, List.set_cons_succ])
  (first | (refine wpAnyH_take (i := 10) (v := undef) rfl (by kernel_rfl) (by kernel_rfl) (by kernel_rfl) (fun _ _ _ h => h) (Or.inr ⟨rfl, rfl⟩) (by assumption) ?_) | (refine wpAnyH_take (i := 10) (v := ?_) rfl (by kernel_rfl) (by kernel_rfl) (by kernel_rfl) (fun _ _ _ h => h) (Or.inl ⟨rfl, ?_⟩) (by assumption) ?_; rotate_left 1; · (intro w hSw; (try dsimp only at hSw); go_simp; (try with_reducible rfl)))); (try simp only [Act.put, List.getElem_toArray, List.getElem_cons_zero, List.getElem_cons_succ, List.setIfInBounds_toArray, List.set_cons_zero, List.set_cons_succ])
  (first | (refine wpAnyH_take (i := 11) (v := undef) rfl (by kernel_rfl) (by kernel_rfl) (by kernel_rfl) (fun _ _ _ h => h) (Or.inr ⟨rfl, rfl⟩) (by assumption) ?_) | (refine wpAnyH_take (i := 11) (v := ?_) rfl (by kernel_rfl) (by kernel_rfl) (by kernel_rfl) (fun _ _ _ h => h) (Or.inl ⟨rfl, ?_⟩) (by assumption) ?_; rotate_left 1; · (intro w hSw; (try dsimp only at hSw); go_simp; (try with_reducible rfl)))); (try simp only [Act.put, List.getElem_toArray, List.getElem_cons_zero, List.getElem_cons_succ, List.setIfInBounds_toArray, List.set_cons_zero, List.set_cons_succ])
  (first | (refine wpAnyH_take (i := 12) (v := undef) rfl (by kernel_rfl) (by kernel_rfl) (by kernel_rfl) (fun _ _ _ h => h) (Or.inr ⟨rfl, rfl⟩) (by assumption) ?_) | (refine wpAnyH_take (i := 12) (v := ?_) rfl (by kernel_rfl) (by kernel_rfl) (by kernel_rfl) (fun _ _ _ h => h) (Or.inl ⟨rfl, ?_⟩) (by assumption) ?_; rotate_left 1; · (intro w hSw; (try dsimp only at hSw); go_simp; (try with_reducible rfl)))); (try simp only [Act.put, List.getElem_toArray, List.getElem_cons_zero, List.getElem_cons_succ, List.setIfInBounds_toArray, List.set_cons_zero, List.set_cons_succ])
  (first | (refine wpAnyH_take (i := 13) (v := undef) rfl (by kernel_rfl) (by kernel_rfl) (by kernel_rfl) (fun _ _ _ h => h) (Or.inr ⟨rfl, rfl⟩) (by assumption) ?_) | (refine wpAnyH_take (i := 13) (v := ?_) rfl (by kernel_rfl) (by kernel_rfl) (by kernel_rfl) (fun _ _ _ h => h) (Or.inl ⟨rfl, ?_⟩) (by assumption) ?_; rotate_left 1; · (intro w hSw; (try dsimp only at hSw); go_simp; (try with_reducible rfl)))); (try simp only [Act.put, List.getElem_toArray, List.getElem_cons_zero, List.getElem_cons_succ, List.setIfInBounds_toArray, List.set_cons_zero, List.set_cons_succ])
  (first | (refine wpAnyH_take (i := 14) (v := undef) rfl (by kernel_rfl) (by kernel_rfl) (by kernel_rfl) (fun _ _ _ h => h) (Or.inr ⟨rfl, rfl⟩) (by assumption) ?_) | (refine wpAnyH_take (i := 14) (v := ?_) rfl (by kernel_rfl) (by kernel_rfl) (by kernel_rfl) (fun _ _ _ h => h) (Or.inl ⟨rfl, ?_⟩) (by assumption) ?_; rotate_left 1; · (intro w hSw; (try dsimp only at hSw); go_simp; (try with_reducible rfl)))); (try simp only [Act.put, List.getElem_toArray, List.getElem_cons_zero, List.getElem_cons_succ, List.setIfInBounds_toArray, List.set_cons_zero, List.set_cons_succ])
  (first | (refine wpAnyH_take (i := 15) (v := undef) rfl (by kernel_rfl) (by kernel_rfl) (by kernel_rfl) (fun _ _ _ h => h) (Or.inr ⟨rfl, rfl⟩) (by assumption) ?_) | (refine wpAnyH_take (i := 15) (v := ?_) rfl (by kernel_rfl) (by kernel_rfl) (by kernel_rfl) (fun _ _ _ h => h) (Or.inl ⟨rfl, ?_⟩) (by assumption) ?_; rotate_left 1; · (intro w hSw; (try dsimp only at hSw); go_simp; (try with_reducible rfl)))); (try simp only [Act.put, List.getElem_toArray, List.getElem_cons_zero, List.getElem_cons_succ, List.setIfInBounds_toArray, List.set_cons_zero, List.set_cons_succ])
  refine wpAnyH_done (by kernel_rfl) ?_ _
  refine NoPanic.normal ?_
  clear hHeld
  have ho1 := ho.turn0 ht2.undrew
  have hT2 := ht1.trans ht2.undrew
  have hcap2 := ho2.cap
  go_wp2_with fail
  go_loopw [13] (fun i wr => ∃ j : Nat, j ≤ N ∧ i = .int .i64 (j : Int) ∧ Turn w2 wr none) (fun i _ => (N - intOf i).toNat)
  case atStart => exact ⟨0, by omega, rfl, Turn.refl w2 none⟩
  case round =>
    obtain ⟨j, hj, rfl, htr⟩ := hrel
    by_cases hjn : j < N
    · obtain ⟨t, ht⟩ : ∃ t, ts[j]? = some t := ⟨ts[j]'(by have := HN.out; omega), List.getElem?_eq_getElem _⟩
      have hji : (j : Int) < N := by omega
      obtain ⟨x1, x2, x3⟩ := tcs_at ht
      obtain ⟨y1, y2, y3⟩ := tcs_at (tok_up_at (k := k) ht)
      have how := ho1.turn0 htr
      have how2 := ho2.turn0 htr
      have d1 := (how.cell (i := j * 3) (by omega)).trans x1
      have d2 := (how.cell (i := j * 3 + 1) (by omega)).trans x2
      have d3 := (how.cell (i := j * 3 + 2) (by omega)).trans x3
      clear x1 x2 x3
      have hat : t.at_ ≤ 4096 := by
        have := ((wWords_ord hw).2.2 j t ht).1
        have := (wWords_ord hw).1
        omega
      obtain ⟨tk, tS, ta⟩ := t
      by_cases hkj : k ≤ j
      · simp only [if_pos hkj, Tok.up, Int.natCast_add, Int.cast_ofNat_Int] at d1 d2 d3 y1 y2 y3 hat
        have hkji : (k : Int) ≤ (j : Int) := by omega
        clear hkj
        go_wp2_with fail
        have hb := Blk.new wr 31 #[.int .i64 (tk : Int), .string (txt tS), .int .i64 ((ta : Int) + 1)]
        have ht9 := (Turn.refl wr none).alloc (.cells #[.int .i64 (tk : Int), .string (txt tS), .int .i64 ((ta : Int) + 1)] 31)
        generalize wr.alloc (.cells #[.int .i64 (tk : Int), .string (txt tS), .int .i64 ((ta : Int) + 1)] 31) = w9 at *
        generalize wr.heap.size = G at *
        have how9 := how2.turn0 ht9
        have v1 : w9.cell? ⟨G, 0, none⟩ = some (.int .i64 (tk : Int)) := hb.cell 0
        have v2 : w9.cell? ⟨G, 1, none⟩ = some (.string (txt tS)) := hb.cell 1
        have v3 : w9.cell? ⟨G, 2, none⟩ = some (.int .i64 ((ta : Int) + 1)) := hb.cell 2
        have z1 := (how9.cell (i := j * 3) (by omega)).trans y1
        have z2 := (how9.cell (i := j * 3 + 1) (by omega)).trans y2
        have z3 := (how9.cell (i := j * 3 + 2) (by omega)).trans y3
        clear how how2 how9 d1 d2 d3 y1 y2 y3
        go_quiet (fail)
        go_wp2
        refine ⟨⟨j + 1, by omega, by go_num, (htr.trans ht9).drewN _⟩, ?_⟩
        simp [intOf]; omega
      · simp only [if_neg hkj] at d1 d2 d3 y1 y2 y3 hat
        have hkji : (j : Int) < (k : Int) := by omega
        clear hkj
        go_wp2_with fail
        have hb := Blk.new wr 31 #[.int .i64 (tk : Int), .string (txt tS), .int .i64 (ta : Int)]
        have ht9 := (Turn.refl wr none).alloc (.cells #[.int .i64 (tk : Int), .string (txt tS), .int .i64 (ta : Int)] 31)
        generalize wr.alloc (.cells #[.int .i64 (tk : Int), .string (txt tS), .int .i64 (ta : Int)] 31) = w9 at *
        generalize wr.heap.size = G at *
        have how9 := how2.turn0 ht9
        have v1 : w9.cell? ⟨G, 0, none⟩ = some (.int .i64 (tk : Int)) := hb.cell 0
        have v2 : w9.cell? ⟨G, 1, none⟩ = some (.string (txt tS)) := hb.cell 1
        have v3 : w9.cell? ⟨G, 2, none⟩ = some (.int .i64 (ta : Int)) := hb.cell 2
        have z1 := (how9.cell (i := j * 3) (by omega)).trans y1
        have z2 := (how9.cell (i := j * 3 + 1) (by omega)).trans y2
        have z3 := (how9.cell (i := j * 3 + 2) (by omega)).trans y3
        clear how how2 how9 d1 d2 d3 y1 y2 y3
        go_quiet (fail)
        go_wp2
        refine ⟨⟨j + 1, by omega, by go_num, (htr.trans ht9).drewN _⟩, ?_⟩
        simp [intOf]; omega
    · obtain rfl : j = N := by omega
      go_wp2_with (go_at_call 10; refine (xlives_any D _).mono ?_; rintro e w3 ⟨rfl, ht3⟩)
      go_ret
      exact ⟨rfl, (hT2.trans htr).trans ht3⟩
end Go.Proofs.Ytkljkiambjlnaaa
