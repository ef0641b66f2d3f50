/-
  Layer 2 in a seat of a later layer: sums, their bytes, and what ends with its sum.
-/
import Derived.Test.YtgmmmeghhfdlfaaKc
import Derived.Lib.SlBytesConst
namespace Go.Proofs.Ytgmmmeghhfdlfaa
open Go.RowKit

theorem cBs_vals (s : BitVec 32) : vbs (cBs s) = [.int .u8 (cV s / (16777216 : Int) % (256 : Int)), .int .u8 (cV s / (65536 : Int) % (256 : Int)), .int .u8 (cV s / (256 : Int) % (256 : Int)), .int .u8 (cV s % (256 : Int))] := by
  unfold cBs cV vbs
  simp only [List.map_cons, List.map_nil, vb, UInt8.toNat_ofNat']
  congr 3
theorem cTop_div (s : BitVec 32) : cV s / (16777216 : Int) % (256 : Int) = cV s / (16777216 : Int) := by
  have h := cV_bd s
  generalize cV s = x at h ⊢
  omega
theorem own_four (w : World) (s : BitVec 32) : Own (w.alloc (.cells #[.int .u8 (cV s / (16777216 : Int)), .int .u8 (cV s / (65536 : Int) % (256 : Int)), .int .u8 (cV s / (256 : Int) % (256 : Int)), .int .u8 (cV s % (256 : Int))] 5)) w.heap.size 5 1
    (some ⟨w.heap.size, 0, none⟩) 4 4 (vbs (cBs s)) := by
  have h := Own.full w w.heap.size 5 1 4 4 #[.int .u8 (cV s / (16777216 : Int)), .int .u8 (cV s / (65536 : Int) % (256 : Int)), .int .u8 (cV s / (256 : Int) % (256 : Int)), .int .u8 (cV s % (256 : Int))] (Nat.le_refl _) (by decide) (Nat.le_refl _) rfl
  rw [cBs_vals, cTop_div]
  exact h
theorem rgo_of (x : Int) (s : BitVec 32) (A : Option Addr) (n c : Nat) (l : List UInt8) (B : Nat) (w : World) (h : x = cV s) (hr : Rd w B 1 A n (vbs l)) (hn : n ≤ 140737488355328) :
    Calls Try.prog 38 #[.int .u32 x, .slice A n c] w fun e w' => e = .returned (.int .u32 (cV (cGo s l))) ∧ w = w' := by
  subst h; exact rgo_any s A n c l B w hr hn
set_option maxHeartbeats 400000 in
theorem rsum_any (A : Option Addr) (n c : Nat) (l : List UInt8) (B : Nat) (w : World) (hr : Rd w B 1 A n (vbs l)) (hn : n ≤ 140737488355328) :
    Calls Try.prog 29 #[.slice A n c] w fun e w' => e = .returned (.int .u32 (cV (cSum l))) ∧ w = w' := by
  have h1 : (4294967295 : Int) = cV 0xffffffff#32 := by decide
  go_enter Try.func29, Try.ntmps29
  go_wp2_with (go_at_call 38; refine (rgo_of _ _ _ _ _ l B _ h1 hr hn).mono ?_; rintro e w1 ⟨rfl, rfl⟩)
  go_ret
  exact ⟨rfl, rfl⟩
set_option maxHeartbeats 400000 in
theorem bytes_any (s : BitVec 32) (w : World) :
    Calls Try.prog 26 #[.int .u32 (cV s)] w fun e w' => ∃ A', e = .returned (.slice A' 4 4) ∧ Own w' w.heap.size 5 1 A' 4 4 (vbs (cBs s)) ∧ Turn w w' none := by
  have hs := cV_bd s
  go_enter Try.func26, Try.ntmps26
  go_wp2
  go_ret
  exact ⟨_, rfl, own_four w s, (Turn.refl w none).alloc _⟩
set_option maxHeartbeats 400000 in
theorem rbytes_any (s : BitVec 32) (w : World) :
    Calls Try.prog 28 #[.int .u32 (cV s)] w fun e w' => ∃ A', e = .returned (.slice A' 4 4) ∧ Own w' w.heap.size 5 1 A' 4 4 (vbs (cBs s)) ∧ Turn w w' none := by
  have hs := cV_bd s
  go_enter Try.func28, Try.ntmps28
  go_wp2
  go_ret
  exact ⟨_, rfl, own_four w s, (Turn.refl w none).alloc _⟩
set_option maxRecDepth 100000 in
set_option maxHeartbeats 800000 in
theorem of_any (A : Option Addr) (n c : Nat) (l : List UInt8) (B : Nat) (w : World) (hr : Rd w B 1 A n (vbs l)) (hnc : n ≤ c) (hc : c ≤ maxLen) (hn : n ≤ 140737488355328) :
    Calls Try.prog 42 #[.slice A n c] w fun e w' => e = .returned (.tuple #[.int .u32 (if n < 4 then 0 else cV (cOf (l.drop (n - 4)))), .bool (decide (4 ≤ n))]) ∧ w = w' := by
  have hl := hr.len
  rw [vbs_len] at hl
  unfold maxLen at hc
  by_cases hn4 : n < 4
  · go_enter Try.func42, Try.ntmps42
    go_wp2
    go_ret2
    refine ⟨?_, rfl⟩
    rw [decide_eq_false (by omega)]
    rfl
  · obtain ⟨m, rfl⟩ : ∃ m, n = m + 4 := ⟨n - 4, by omega⟩
    obtain ⟨b0, off, rfl, _, hcells⟩ := hr.head (by omega)
    have hfin : ((l.drop m).take 4) = l.drop m := List.take_of_length_le (by rw [List.length_drop]; omega)
    go_enter Try.func42, Try.ntmps42
    go_wp2
    go_loopw [4, 16] (fun v i wr => ∃ j : Nat, j ≤ 4 ∧ i = .int .i64 (j : Int) ∧ v = .int .u32 (cV (cOf ((l.drop m).take j))) ∧ w = wr) (fun _ i _ => (4 - intOf i).toNat)
    case atStart => exact ⟨0, by omega, rfl, by simp [cOf, cV], rfl⟩
    case round =>
      obtain ⟨j, hj, rfl, rfl, rfl⟩ := hrel
      by_cases hj4 : j < 4
      · obtain ⟨b, hb8⟩ : ∃ b, l[m + j]? = some b := ⟨l[m + j]'(by omega), List.getElem?_eq_getElem (by omega)⟩
        have hcell := hcells (m + j) (.int .u8 (b.toNat : Int)) (by rw [vbs, List.getElem?_map, hb8]; rfl)
        rw [← Nat.add_assoc] at hcell
        have hb256 := b.toNat_lt
        have hx := cV_bd (cOf ((l.drop m).take j))
        clear hcells
        go_wp2
        rw [cOr_code, ← cOf_last, ← take_next (by rw [List.getElem?_drop]; exact hb8)]
        refine ⟨⟨j + 1, by omega, rfl, rfl, trivial⟩, ?_⟩
        simp [intOf]; omega
      · obtain rfl : j = 4 := by omega
        go_wp2
        go_ret2
        exact ⟨rfl, rfl⟩
theorem cV_beq (s t : BitVec 32) : (cV s == cV t) = (s == t) := by
  by_cases h : s = t
  · subst h; simp
  · have h2 : ¬ cV s = cV t := fun e => h (cV_inj e)
    rw [beq_eq_false_iff_ne.2 h, beq_eq_false_iff_ne.2 h2]
set_option maxRecDepth 100000 in
set_option maxHeartbeats 800000 in
theorem good_any (A : Option Addr) (n c : Nat) (l : List UInt8) (B : Nat) (w : World) (hr : Rd w B 1 A n (vbs l)) (hB : B ≤ w.heap.size) (hnc : n ≤ c) (hc : c ≤ maxLen) (hn : n ≤ 140737488355328) :
    Calls Try.prog 40 #[.slice A n c] w fun e w' => e = .returned (.bool (cGood l)) ∧ Turn w w' none := by
  have hl := hr.len
  rw [vbs_len] at hl
  by_cases hn4 : n < 4
  · have hg : cGood l = false := by unfold cGood; rw [decide_eq_false (by omega)]; rfl
    have hd : decide (4 ≤ n) = false := decide_eq_false (by omega)
    go_enter Try.func40, Try.ntmps40
    go_wp2_with (go_at_call 42; refine (of_any _ _ _ l B _ hr hnc hc hn).mono ?_; rintro e w1 ⟨rfl, rfl⟩; rw [hd, if_pos hn4])
    go_ret
    exact ⟨by rw [hg]; rfl, Turn.refl w none⟩
  · obtain ⟨m, rfl⟩ : ∃ m, n = m + 4 := ⟨n - 4, by omega⟩
    have hg : cGood l = (cOf (l.drop m) == cSum (l.take m)) := by
      rw [cGood_of (by omega)]
      have e : l.length - 4 = m := by omega
      rw [e]
    have hd : decide (4 ≤ m + 4) = true := decide_eq_true (by omega)
    have hr1 : Rd w B 1 A m (vbs (l.take m)) := hr.takeB (by omega)
    unfold maxLen at hc
    have hof := hid (of_any A (m + 4) c l B w hr hnc hc hn)
    rw [if_neg hn4, hd, Nat.add_sub_cancel] at hof
    go_enter Try.func40, Try.ntmps40
    go_wp2_with (first
      | (go_at_call 42; refine hof.out.mono ?_; rintro e w1 ⟨rfl, rfl⟩)
      | (go_at_call 24; refine (sum_any _ _ _ (l.take m) B _ hr1 hB (by omega)).mono ?_; rintro e w2 ⟨rfl, ht2⟩))
    rw [cV_beq, ← hg]
    go_ret
    exact ⟨rfl, ht2⟩
set_option maxRecDepth 100000 in
set_option maxHeartbeats 800000 in
theorem rgood_any (A : Option Addr) (n c : Nat) (l : List UInt8) (B : Nat) (w : World) (hr : Rd w B 1 A n (vbs l)) (hB : B ≤ w.heap.size) (hnc : n ≤ c) (hc : c ≤ maxLen) (hn : n ≤ 140737488355328) :
    Calls Try.prog 33 #[.slice A n c] w fun e w' => e = .returned (.bool (cGood l)) ∧ Turn w w' none := by
  have hl := hr.len
  rw [vbs_len] at hl
  by_cases hn4 : n < 4
  · have hg : cGood l = false := by unfold cGood; rw [decide_eq_false (by omega)]; rfl
    have hd : decide (4 ≤ n) = false := decide_eq_false (by omega)
    go_enter Try.func33, Try.ntmps33
    have hz : decide ((4 : Int) ≤ (n : Int)) = false := decide_eq_false (by omega)
    go_wp2_with fail
    go_quiet (fail)
    go_wp2_with fail
    go_ret
    exact ⟨by rw [hg]; rfl, (Turn.refl w none).drewN nq⟩
  · obtain ⟨m, rfl⟩ : ∃ m, n = m + 4 := ⟨n - 4, by omega⟩
    have hg : cGood l = (cBs (cSum (l.take m)) == l.drop m) := by
      unfold cGood
      rw [decide_eq_true (by omega)]
      have e : l.length - 4 = m := by omega
      rw [e]
      rfl
    have hr1 : Rd w B 1 A m (vbs (l.take m)) := hr.takeB (by omega)
    unfold maxLen at hc
    obtain ⟨b0, off, rfl, _, _⟩ := hr.head (by omega)
    have hr2 := hr.tailB (c := c) (k := m) (by omega) hnc (by omega)
    rw [Nat.add_sub_cancel_left] at hr2
    go_enter Try.func33, Try.ntmps33
    have hz : decide ((4 : Int) ≤ ((m + 4 : Nat) : Int)) = true := decide_eq_true (by omega)
    have hz2 : decide ((4 : Int) ≤ (m : Int) + 4) = true := decide_eq_true (by omega)
    have f1 : IntKind.i64.wrap (m : Int) = (m : Int) := wrapSmall m (by omega)
    have f3 : ¬ c = m := by omega
    have f5 : (m : Int) ≤ (m : Int) + 4 := by omega
    have f6 : m ≤ c := by omega
    have s1 := fun (W : World) (h : Turn w.drew W none) => str_run W (c := c - m) (hr2.drew.turn0 h hB)
    go_wp2_with fail
    refine wp_region_noPanic ?_
    refine wp_region_held_drew (S := fun W => Turn w W none) (by kernel_rfl) (Turn.refl _ none).drew (fun hHeld => ?_)
    refine wpAnyH_more (S' := fun W => Turn (World.drew w) W none) (fun W h => (Turn.refl _ none).drew.trans h) _ _ _ _ ?_
    clear hHeld
    have hHeld : (fun W => Turn (World.drew w) W none) (World.drew w) := Turn.refl _ none
    (first | (refine wpAnyH_take (i := 0) (v := undef) rfl (by kernel_rfl) (by kernel_rfl) (by kernel_rfl) (fun _ _ _ h => h) (Or.inr ⟨rfl, rfl⟩) (by assumption) ?_) | (refine wpAnyH_take (i := 0) (v := ?_) rfl (by kernel_rfl) (by kernel_rfl) (by kernel_rfl) (fun _ _ _ h => h) (Or.inl ⟨rfl, ?_⟩) (by assumption) ?_; rotate_left 1; · (intro w hSw; (try dsimp only at hSw); go_simp; (try with_reducible rfl)))); (try simp only [Act.put, List.getElem_toArray, List.getElem_cons_zero, List.getElem_cons_succ, List.setIfInBounds_toArray, List.set_cons_zero, List.set_cons_succ])
    (first | (refine wpAnyH_take (i := 1) (v := undef) rfl (by kernel_rfl) (by kernel_rfl) (by kernel_rfl) (fun _ _ _ h => h) (Or.inr ⟨rfl, rfl⟩) (by assumption) ?_) | (refine wpAnyH_take (i := 1) (v := ?_) rfl (by kernel_rfl) (by kernel_rfl) (by kernel_rfl) (fun _ _ _ h => h) (Or.inl ⟨rfl, ?_⟩) (by assumption) ?_; rotate_left 1; · (intro w hSw; (try dsimp only at hSw); go_simp; (try with_reducible rfl)))); (try simp only [Act.put, List.getElem_toArray, List.getElem_cons_zero, List.getElem_cons_succ, List.setIfInBounds_toArray, List.set_cons_zero, List.set_cons_succ])
    (first | (refine wpAnyH_take (i := 2) (v := undef) rfl (by kernel_rfl) (by kernel_rfl) (by kernel_rfl) (fun _ _ _ h => h) (Or.inr ⟨rfl, rfl⟩) (by assumption) ?_) | (refine wpAnyH_take (i := 2) (v := ?_) rfl (by kernel_rfl) (by kernel_rfl) (by kernel_rfl) (fun _ _ _ h => h) (Or.inl ⟨rfl, ?_⟩) (by assumption) ?_; rotate_left 1; · (intro w hSw; (try dsimp only at hSw); go_simp; (try with_reducible rfl)))); (try simp only [Act.put, List.getElem_toArray, List.getElem_cons_zero, List.getElem_cons_succ, List.setIfInBounds_toArray, List.set_cons_zero, List.set_cons_succ])
    (first | (refine wpAnyH_take (i := 3) (v := undef) rfl (by kernel_rfl) (by kernel_rfl) (by kernel_rfl) (fun _ _ _ h => h) (Or.inr ⟨rfl, rfl⟩) (by assumption) ?_) | (refine wpAnyH_take (i := 3) (v := ?_) rfl (by kernel_rfl) (by kernel_rfl) (by kernel_rfl) (fun _ _ _ h => h) (Or.inl ⟨rfl, ?_⟩) (by assumption) ?_; rotate_left 1; · (intro w hSw; (try dsimp only at hSw); go_simp; (try with_reducible rfl)))); (try simp only [Act.put, List.getElem_toArray, List.getElem_cons_zero, List.getElem_cons_succ, List.setIfInBounds_toArray, List.set_cons_zero, List.set_cons_succ])
    (first | (refine wpAnyH_take (i := 4) (v := undef) rfl (by kernel_rfl) (by kernel_rfl) (by kernel_rfl) (fun _ _ _ h => h) (Or.inr ⟨rfl, rfl⟩) (by assumption) ?_) | (refine wpAnyH_take (i := 4) (v := ?_) rfl (by kernel_rfl) (by kernel_rfl) (by kernel_rfl) (fun _ _ _ h => h) (Or.inl ⟨rfl, ?_⟩) (by assumption) ?_; rotate_left 1; · (intro w hSw; (try dsimp only at hSw); go_simp; (try with_reducible rfl)))); (try simp only [Act.put, List.getElem_toArray, List.getElem_cons_zero, List.getElem_cons_succ, List.setIfInBounds_toArray, List.set_cons_zero, List.set_cons_succ])
    (first | (refine wpAnyH_take (i := 5) (v := undef) rfl (by kernel_rfl) (by kernel_rfl) (by kernel_rfl) (fun _ _ _ h => h) (Or.inr ⟨rfl, rfl⟩) (by assumption) ?_) | (refine wpAnyH_take (i := 5) (v := ?_) rfl (by kernel_rfl) (by kernel_rfl) (by kernel_rfl) (fun _ _ _ h => h) (Or.inl ⟨rfl, ?_⟩) (by assumption) ?_; rotate_left 1; · (intro w hSw; (try dsimp only at hSw); go_simp; (try with_reducible rfl)))); (try simp only [Act.put, List.getElem_toArray, List.getElem_cons_zero, List.getElem_cons_succ, List.setIfInBounds_toArray, List.set_cons_zero, List.set_cons_succ])
    (first | (refine wpAnyH_take (i := 6) (v := undef) rfl (by kernel_rfl) (by kernel_rfl) (by kernel_rfl) (fun _ _ _ h => h) (Or.inr ⟨rfl, rfl⟩) (by assumption) ?_) | (refine wpAnyH_take (i := 6) (v := ?_) rfl (by kernel_rfl) (by kernel_rfl) (by kernel_rfl) (fun _ _ _ h => h) (Or.inl ⟨rfl, ?_⟩) (by assumption) ?_; rotate_left 1; · (intro w hSw; (try dsimp only at hSw); go_simp; (try with_reducible rfl)))); (try simp only [Act.put, List.getElem_toArray, List.getElem_cons_zero, List.getElem_cons_succ, List.setIfInBounds_toArray, List.set_cons_zero, List.set_cons_succ])
    (first | (refine wpAnyH_take (i := 7) (v := undef) rfl (by kernel_rfl) (by kernel_rfl) (by kernel_rfl) (fun _ _ _ h => h) (Or.inr ⟨rfl, rfl⟩) (by assumption) ?_) | (refine wpAnyH_take (i := 7) (v := ?_) rfl (by kernel_rfl) (by kernel_rfl) (by kernel_rfl) (fun _ _ _ h => h) (Or.inl ⟨rfl, ?_⟩) (by assumption) ?_; rotate_left 1; · (intro w hSw; (try dsimp only at hSw); go_simp; (try with_reducible rfl)))); (try simp only [Act.put, List.getElem_toArray, List.getElem_cons_zero, List.getElem_cons_succ, List.setIfInBounds_toArray, List.set_cons_zero, List.set_cons_succ])
    (first | (refine wpAnyH_take (i := 8) (v := undef) rfl (by kernel_rfl) (by kernel_rfl) (by kernel_rfl) (fun _ _ _ h => h) (Or.inr ⟨rfl, rfl⟩) (by assumption) ?_) | (refine wpAnyH_take (i := 8) (v := ?_) rfl (by kernel_rfl) (by kernel_rfl) (by kernel_rfl) (fun _ _ _ h => h) (Or.inl ⟨rfl, ?_⟩) (by assumption) ?_; rotate_left 1; · (intro w hSw; (try dsimp only at hSw); go_simp; (try with_reducible rfl)))); (try simp only [Act.put, List.getElem_toArray, List.getElem_cons_zero, List.getElem_cons_succ, List.setIfInBounds_toArray, List.set_cons_zero, List.set_cons_succ])
    (first | (refine wpAnyH_take (i := 9) (v := undef) rfl (by kernel_rfl) (by kernel_rfl) (by kernel_rfl) (fun _ _ _ h => h) (Or.inr ⟨rfl, rfl⟩) (by assumption) ?_) | (refine wpAnyH_take (i := 9) (v := ?_) rfl (by kernel_rfl) (by kernel_rfl) (by kernel_rfl) (fun _ _ _ h => h) (Or.inl ⟨rfl, ?_⟩) (by assumption) ?_; rotate_left 1; · (intro w hSw; (try dsimp only at hSw); go_simp; (try with_reducible rfl)))); (try simp only [Act.put, List.getElem_toArray, List.getElem_cons_zero, List.getElem_cons_succ, List.setIfInBounds_toArray, List.set_cons_zero, List.set_cons_succ])
    (first | (refine wpAnyH_take (i := 10) (v := undef) rfl (by kernel_rfl) (by kernel_rfl) (by kernel_rfl) (fun _ _ _ h => h) (Or.inr ⟨rfl, rfl⟩) (by assumption) ?_) | (refine wpAnyH_take (i := 10) (v := ?_) rfl (by kernel_rfl) (by kernel_rfl) (by kernel_rfl) (fun _ _ _ h => h) (Or.inl ⟨rfl, ?_⟩) (by assumption) ?_; rotate_left 1; · (intro w hSw; (try dsimp only at hSw); go_simp; (try with_reducible rfl)))); (try simp only [Act.put, List.getElem_toArray, List.getElem_cons_zero, List.getElem_cons_succ, List.setIfInBounds_toArray, List.set_cons_zero, List.set_cons_succ])
    (first | (refine wpAnyH_take (i := 11) (v := undef) rfl (by kernel_rfl) (by kernel_rfl) (by kernel_rfl) (fun _ _ _ h => h) (Or.inr ⟨rfl, rfl⟩) (by assumption) ?_) | (refine wpAnyH_take (i := 11) (v := ?_) rfl (by kernel_rfl) (by kernel_rfl) (by kernel_rfl) (fun _ _ _ h => h) (Or.inl ⟨rfl, ?_⟩) (by assumption) ?_; rotate_left 1; · (intro w hSw; (try dsimp only at hSw); go_simp; (try with_reducible rfl)))); (try simp only [Act.put, List.getElem_toArray, List.getElem_cons_zero, List.getElem_cons_succ, List.setIfInBounds_toArray, List.set_cons_zero, List.set_cons_succ])
    (first | (refine wpAnyH_take (i := 12) (v := undef) rfl (by kernel_rfl) (by kernel_rfl) (by kernel_rfl) (fun _ _ _ h => h) (Or.inr ⟨rfl, rfl⟩) (by assumption) ?_) | (refine wpAnyH_take (i := 12) (v := ?_) rfl (by kernel_rfl) (by kernel_rfl) (by kernel_rfl) (fun _ _ _ h => h) (Or.inl ⟨rfl, ?_⟩) (by assumption) ?_; rotate_left 1; · (intro w hSw; (try dsimp only at hSw); go_simp; (try with_reducible rfl)))); (try simp only [Act.put, List.getElem_toArray, List.getElem_cons_zero, List.getElem_cons_succ, List.setIfInBounds_toArray, List.set_cons_zero, List.set_cons_succ])
    (first | (refine wpAnyH_take (i := 13) (v := undef) rfl (by kernel_rfl) (by kernel_rfl) (by kernel_rfl) (fun _ _ _ h => h) (Or.inr ⟨rfl, rfl⟩) (by assumption) ?_) | (refine wpAnyH_take (i := 13) (v := ?_) rfl (by kernel_rfl) (by kernel_rfl) (by kernel_rfl) (fun _ _ _ h => h) (Or.inl ⟨rfl, ?_⟩) (by assumption) ?_; rotate_left 1; · (intro w hSw; (try dsimp only at hSw); go_simp; (try with_reducible rfl)))); (try simp only [Act.put, List.getElem_toArray, List.getElem_cons_zero, List.getElem_cons_succ, List.setIfInBounds_toArray, List.set_cons_zero, List.set_cons_succ])
    (first | (refine wpAnyH_take (i := 14) (v := undef) rfl (by kernel_rfl) (by kernel_rfl) (by kernel_rfl) (fun _ _ _ h => h) (Or.inr ⟨rfl, rfl⟩) (by assumption) ?_) | (refine wpAnyH_take (i := 14) (v := ?_) rfl (by kernel_rfl) (by kernel_rfl) (by kernel_rfl) (fun _ _ _ h => h) (Or.inl ⟨rfl, ?_⟩) (by assumption) ?_; rotate_left 1; · (intro w hSw; (try dsimp only at hSw); go_simp; (try with_reducible rfl)))); (try simp only [Act.put, List.getElem_toArray, List.getElem_cons_zero, List.getElem_cons_succ, List.setIfInBounds_toArray, List.set_cons_zero, List.set_cons_succ])
    clear s1
    refine wpAnyH_ready (rs := [15]) (by kernel_rfl) (by simp) ?_
    refine AllReadyH.cons rfl (fun K hK => ?_) AllReadyH.nil
    go_simp
    refine (rsum_any _ _ _ (l.take m) B _ hr1.drew (by omega)).mono ?_
    rintro e w' ⟨rfl, rfl⟩
    refine hK.out _ _ hHeld (fun hHeld => ?_)
    clear hK K
    (try simp only [Act.put, List.getElem_toArray, List.getElem_cons_zero, List.getElem_cons_succ, List.setIfInBounds_toArray, List.set_cons_zero, List.set_cons_succ])
    refine wpAnyH_ready (rs := [16]) (by kernel_rfl) (by simp) ?_
    refine AllReadyH.cons rfl (fun K hK => ?_) AllReadyH.nil
    go_simp
    refine (rbytes_any _ _).mono ?_
    rintro e w1 ⟨A1, rfl, ho1, ht1⟩
    refine hK.out _ _ (show Turn _ _ none from ht1) (fun hHeld => ?_)
    clear hK K
    (try simp only [Act.put, List.getElem_toArray, List.getElem_cons_zero, List.getElem_cons_succ, List.setIfInBounds_toArray, List.set_cons_zero, List.set_cons_succ])
    refine wpAnyH_more (S' := fun W => Turn w1 W none) (fun W h => Turn.trans ht1 h) _ _ _ _ ?_
    clear hHeld
    have hHeld : (fun W => Turn w1 W none) w1 := Turn.refl w1 none
    have s2 := fun (W : World) (h : Turn w1 W none) => str_run W (c := 4) (ho1.turn0 h).rd
    (first | (refine wpAnyH_take (i := 17) (v := undef) rfl (by kernel_rfl) (by kernel_rfl) (by kernel_rfl) (fun _ _ _ h => h) (Or.inr ⟨rfl, rfl⟩) (by assumption) ?_) | (refine wpAnyH_take (i := 17) (v := ?_) rfl (by kernel_rfl) (by kernel_rfl) (by kernel_rfl) (fun _ _ _ h => h) (Or.inl ⟨rfl, ?_⟩) (by assumption) ?_; rotate_left 1; · (intro w hSw; (try dsimp only at hSw); go_simp; (try with_reducible rfl)))); (try simp only [Act.put, List.getElem_toArray, List.getElem_cons_zero, List.getElem_cons_succ, List.setIfInBounds_toArray, List.set_cons_zero, List.set_cons_succ])
    (first | (refine wpAnyH_take (i := 18) (v := undef) rfl (by kernel_rfl) (by kernel_rfl) (by kernel_rfl) (fun _ _ _ h => h) (Or.inr ⟨rfl, rfl⟩) (by assumption) ?_) | (refine wpAnyH_take (i := 18) (v := ?_) rfl (by kernel_rfl) (by kernel_rfl) (by kernel_rfl) (fun _ _ _ h => h) (Or.inl ⟨rfl, ?_⟩) (by assumption) ?_; rotate_left 1; · (intro w hSw; (try dsimp only at hSw); go_simp; (try with_reducible rfl)))); (try simp only [Act.put, List.getElem_toArray, List.getElem_cons_zero, List.getElem_cons_succ, List.setIfInBounds_toArray, List.set_cons_zero, List.set_cons_succ])
    (first | (refine wpAnyH_take (i := 19) (v := undef) rfl (by kernel_rfl) (by kernel_rfl) (by kernel_rfl) (fun _ _ _ h => h) (Or.inr ⟨rfl, rfl⟩) (by assumption) ?_) | (refine wpAnyH_take (i := 19) (v := ?_) rfl (by kernel_rfl) (by kernel_rfl) (by kernel_rfl) (fun _ _ _ h => h) (Or.inl ⟨rfl, ?_⟩) (by assumption) ?_; rotate_left 1; · (intro w hSw; (try dsimp only at hSw); go_simp; (try with_reducible rfl)))); (try simp only [Act.put, List.getElem_toArray, List.getElem_cons_zero, List.getElem_cons_succ, List.setIfInBounds_toArray, List.set_cons_zero, List.set_cons_succ])
    (first | (refine wpAnyH_take (i := 20) (v := undef) rfl (by kernel_rfl) (by kernel_rfl) (by kernel_rfl) (fun _ _ _ h => h) (Or.inr ⟨rfl, rfl⟩) (by assumption) ?_) | (refine wpAnyH_take (i := 20) (v := ?_) rfl (by kernel_rfl) (by kernel_rfl) (by kernel_rfl) (fun _ _ _ h => h) (Or.inl ⟨rfl, ?_⟩) (by assumption) ?_; rotate_left 1; · (intro w hSw; (try dsimp only at hSw); go_simp; (try with_reducible rfl)))); (try simp only [Act.put, List.getElem_toArray, List.getElem_cons_zero, List.getElem_cons_succ, List.setIfInBounds_toArray, List.set_cons_zero, List.set_cons_succ])
    clear s2
    refine wpAnyH_done (by kernel_rfl) ?_ _
    refine NoPanic.normal ?_
    clear hHeld
    go_wp2_with fail
    go_ret
    refine ⟨?_, ((Turn.refl w none).drew).trans ht1⟩
    rw [txt_eq, txt_eq, BEq.comm]
    rfl
end Go.Proofs.Ytgmmmeghhfdlfaa
