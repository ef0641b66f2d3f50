/-
  Layer 5: the statements' helpers own, lives, put, small.
-/
import Derived.Test.YtgmmmeghhfdlfaaFf
namespace Go.Proofs.Ytgmmmeghhfdlfaa
open Go.RowKit

set_option maxHeartbeats 400000 in
theorem own_any (A : Option Addr) (n c : Nat) (l : List UInt8) (B : Nat) (w : World) (hr : Rd w B 1 A n (vbs l)) (hB : B ≤ w.heap.size) (hn : n ≤ 140737488355328) :
    Calls Try.prog 9 #[.slice A n c] w fun e w' =>
      ∃ A' c', e = .returned (.slice A' n c') ∧ Own w' w.heap.size 5 1 A' n c' (vbs l) ∧ Turn w w' none := by
  have h0 : Own (w.alloc (.cells #[] 5)) w.heap.size 5 1 (some ⟨w.heap.size, 0, none⟩) 0 0 [] := Own.made w _ _ 1 0 #[] (Nat.le_refl _) (by decide) rfl
  have hr1 := hr.alloc hB (.cells #[] 5)
  go_enter Try.func9, Try.ntmps9
  go_wp2_with (at_builtin; refine wp_app rfl _ _ _ rfl elB rfl rfl h0 hr1 (vbs_one l) (by unfold maxLen; first | omega | (simp; done) | (simp; omega)) (by first | omega | (simp; done) | (simp; omega)) (by first | omega | (simp; done) | (simp; omega)) ?_; intro A1 c1 w1 hown ht hb)
  go_ret
  refine ⟨A1, c1, ?_, ?_, (Turn.alloc (Turn.refl w none) _).new ht (fun g hg => by simp [blk] at hg; omega)⟩
  · simp
  · simpa using hown

set_option maxHeartbeats 400000 in
theorem lives_any (w : World) : Calls Try.prog 13 #[] w fun e w' => e = .returned (.bool true) ∧ Turn w w' none := by
  have hr : Rd w w.heap.size 1 none 0 (vbs []) := Rd.none_ w _ 1 0
  have e1 := hid (show fPut [] [] = ([0, 78, 8, 191, 180], 0) by decide +kernel)
  have e4 : ((txt [0, 78, 8, 191, 180]).toList == [0, 78, 8, 191, 180]) = true := by rw [txt_eq]; decide
  have e5 := hid (show zSize 0 = 5 by decide)
  go_enter Try.func13, Try.ntmps13
  go_wp2_with (first
    | (go_at_call 8; refine (fput_any _ _ _ [] _ _ _ [] _ _ hr hr (Nat.le_refl _) ⟨Nat.le_refl _, Nat.zero_le _⟩ ⟨Nat.le_refl _, Nat.zero_le _⟩ (by omega) (by omega)).mono ?_; rintro e w1 ⟨A1, c1, rfl, hown, ht⟩; rw [e1.out] at hown; rw [e1.out]; have hs := str_run w1 (n := 5) (c := c1) hown.rd)
    | (go_at_call 12; refine (fsize_any _ _ (by omega) (by omega)).mono ?_; rintro e w' ⟨rfl, rfl⟩; rw [e5.out]))
  go_ret
  exact ⟨rfl, ht⟩

theorem same_self (A : Option Addr) (n c : Nat) (vs : List Value) (rows : List (List UInt8)) (A2 : Option Addr) (n2 c2 : Nat) (us : List Value) (B : Nat) (w : World) (hr : Rw w B A n vs rows) (hr2 : Rw w B A2 n2 us rows) (hB : B ≤ w.heap.size) (hn : n ≤ 140737488355328) :
    Calls Try.prog 18 #[.slice A n c, .slice A2 n2 c2] w fun e w' => e = .returned (.bool true) ∧ Turn w w' none :=
  (same_any A n c vs rows A2 n2 c2 us rows B w hr hr2 hB hn).mono fun e w' ⟨h1, h2⟩ => ⟨by rw [h1, decide_eq_true rfl], h2⟩

theorem fAll_next {rows : List (List UInt8)} {j : Nat} {l : List UInt8} (h : rows[j]? = some l) : fAll (rows.take (j + 1)) = fAll (rows.take j) ++ fBytes l := by
  rw [List.take_add_one, h, fAll_app]; simp [fAll]
theorem fAll_le (rows : List (List UInt8)) (j : Nat) : (fAll (rows.take j)).length ≤ (fAll rows).length := by
  have h := congrArg (fun r => (fAll r).length) (List.take_append_drop j rows)
  simp only [fAll_app, List.length_append] at h
  omega

set_option maxRecDepth 100000 in
set_option maxHeartbeats 800000 in
theorem lput_any (A : Option Addr) (n c : Nat) (vs : List Value) (rows : List (List UInt8)) (B : Nat) (w : World) (hr : Rw w B A n vs rows) (hB : B ≤ w.heap.size) (hn : n ≤ 140737488355328) (hx : ∀ x ∈ rows, x.length ≤ 1048576) (hs : (fAll rows).length ≤ 1099511627776) :
    Calls Try.prog 20 #[.slice A n c] w fun e w' =>
      ∃ A' c', e = .returned (.tuple #[.slice A' (fAll rows).length c', .bool true]) ∧ Own w' w.heap.size 5 1 A' (fAll rows).length c' (vbs (fAll rows)) ∧ Turn w w' none := by
  have hl := hr.len
  have h0 : Own (w.alloc (.cells #[] 5)) w.heap.size 5 1 (some ⟨w.heap.size, 0, none⟩) 0 0 [] := Own.made w _ _ 1 0 #[] (Nat.le_refl _) (by decide) rfl
  have hT0 : Turn w (w.alloc (.cells #[] 5)) none := (Turn.refl w none).alloc _
  go_enter Try.func20, Try.ntmps20
  go_wp2
  go_loopw [4, 5] (fun v i wr => ∃ (j : Nat) (A2 : Option Addr) (c2 : Nat), j ≤ n ∧ i = .int .i64 (j : Int) ∧ v = .slice A2 (fAll (rows.take j)).length c2 ∧ Own wr w.heap.size 5 1 A2 (fAll (rows.take j)).length c2 (vbs (fAll (rows.take j))) ∧ Turn w wr none) (fun _ i _ => (n - intOf i).toNat)
  case atStart => exact ⟨0, _, 0, by omega, rfl, rfl, h0, hT0⟩
  case round =>
    obtain ⟨j, A2, c2, hj, rfl, rfl, ho, htr⟩ := hrel
    clear h0 hT0
    by_cases hjn : j < n
    · obtain ⟨x, hx8⟩ : ∃ x, rows[j]? = some x := ⟨rows[j]'(by omega), List.getElem?_eq_getElem (by omega)⟩
      have hw := hr.turn0 htr hB
      obtain ⟨a, m, k, hv, hrx, hmk, hk⟩ := hw.2.2 j x hx8
      obtain ⟨b0, off, rfl, _, hcells⟩ := hw.1.head (by omega)
      have hcell := hcells j _ hv
      have hxl := hx x (List.mem_of_getElem? hx8)
      have hm : x.length = m := by have := hrx.len; rwa [vbs_len] at this
      have hB1 := Nat.le_trans hB htr.size
      have hf2 := fAll_le rows j
      have hf := hid (show fPut (fAll (rows.take j)) x = (fAll (rows.take (j + 1)), 0) by rw [fAll_next hx8]; exact if_neg (by omega))
      have HL := hid (show (fAll (rows.take j)).length ≤ 1099511627776 from Nat.le_trans hf2 hs)
      generalize hS : (fAll (rows.take j)).length = S at *
      have hSb : S ≤ 1099511627776 := HL.out
      clear hcells HL hf2
      go_wp2_with (first
        | (go_at_call 9; refine (own_any _ _ _ x B _ hrx hB1 (by omega)).mono ?_; rintro e w2 ⟨X, c3, rfl, hoX, ht2⟩; have hcx := hoX.cap; have hoc := ho.cap)
        | (go_at_call 8; refine (fput_any _ _ _ (fAll (rows.take j)) _ _ _ x w2.heap.size _ ((ho.turn0 ht2).rd) hoX.rd (Nat.le_refl _) hoc hcx (by omega) (by omega)).mono ?_; rintro e w3 ⟨Y, c4, rfl, hoY, ht3⟩; rw [hf.out] at hoY; rw [hf.out]))
      refine ⟨⟨j + 1, Y, c4, by omega, by go_num, rfl, hoY.mono (Nat.le_trans htr.size ht2.size), (htr.trans ht2).trans ht3⟩, ?_⟩
      simp [intOf]; omega
    · obtain rfl : j = n := by omega
      rw [List.take_of_length_le (by omega)] at ho
      rw [List.take_of_length_le (by omega)]
      go_wp2
      go_ret2
      exact ⟨A2, c2, rfl, ho, htr⟩

/-- What small says of great ones does not matter. -/
def SmPost (rows : List (List UInt8)) (w : World) (e : Ending) (w' : World) : Prop := ∃ v, e = .returned (.bool v) ∧ (v = true → rows.flatten.length ≤ 20000 ∧ rows.length ≤ 200) ∧ w = w'
set_option maxRecDepth 100000 in
set_option maxHeartbeats 800000 in
theorem small_any (A : Option Addr) (n c : Nat) (vs : List Value) (rows : List (List UInt8)) (B : Nat) (w : World) (hr : Rw w B A n vs rows) (hn : n ≤ 140737488355328) (hx : ∀ x ∈ rows, x.length ≤ 140737488355328) :
    Calls Try.prog 19 #[.slice A n c] w (SmPost rows w) := by
  have hl := hr.len
  go_enter Try.func19, Try.ntmps19
  go_wp2
  go_loopw [3, 4] (fun s i wr => ∃ j : Nat, j ≤ n ∧ i = .int .i64 (j : Int) ∧ s = .int .i64 ((rows.take j).flatten.length : Int) ∧ (rows.take j).flatten.length ≤ 140737488375328 ∧ w = wr) (fun _ i _ => (n - intOf i).toNat)
  case atStart => exact ⟨0, by omega, rfl, rfl, by simp, rfl⟩
  case round =>
    obtain ⟨j, hj, rfl, rfl, hS0, rfl⟩ := hrel
    have hle := flat_le rows j
    by_cases hjn : j < n
    · by_cases hbig : (rows.take j).flatten.length ≤ 20000
      · obtain ⟨l, hl8⟩ : ∃ l, rows[j]? = some l := ⟨rows[j]'(by omega), List.getElem?_eq_getElem (by omega)⟩
        obtain ⟨a, m, k, hv, hrl, hmk, hk⟩ := hr.2.2 j l hl8
        obtain ⟨b0, off, rfl, _, hcells⟩ := hr.1.head (by omega)
        have hcell := hcells j _ hv
        have hf1 := hid (flat_take hl8)
        have hm : l.length = m := by have := hrl.len; rwa [vbs_len] at this
        have hlx := hx l (List.mem_of_getElem? hl8)
        generalize hS : (rows.take j).flatten.length = S at *
        have hbig2 : (S : Int) ≤ 20000 := by omega
        clear hcells
        go_wp2
        refine ⟨⟨j + 1, by omega, by go_num, by rw [hf1.out, List.length_append, hS, hm]; rfl, by rw [hf1.out, List.length_append, hS, hm]; omega, trivial⟩, ?_⟩
        simp [intOf]; omega
      · generalize hS : (rows.take j).flatten.length = S at *
        have hbig2 : (20000 : Int) < S := by omega
        go_wp2
        go_ret
        exact ⟨false, rfl, (fun e => by cases e), rfl⟩
    · obtain rfl : j = n := by omega
      rw [List.take_of_length_le (by omega)] at hS0 hle
      rw [List.take_of_length_le (by omega)]
      generalize hS : rows.flatten.length = S at *
      go_wp2
      all_goals go_ret
      all_goals exact ⟨_, rfl, (fun e => by first | (cases e; done) | exact ⟨by omega, by have := of_decide_eq_true e; omega⟩), rfl⟩
end Go.Proofs.Ytgmmmeghhfdlfaa
