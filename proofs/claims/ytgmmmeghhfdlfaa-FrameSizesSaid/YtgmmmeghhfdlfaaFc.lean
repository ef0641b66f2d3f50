/-
  Layer 5: what frame.cut and frame.Take do.
-/
import Derived.Test.YtgmmmeghhfdlfaaFb
import Derived.Test.YtgmmmeghhfdlfaaKq
namespace Go.Proofs.Ytgmmmeghhfdlfaa
open Go.RowKit

/-- The number is in the first eight bytes. -/
theorem pTake_most (l : List UInt8) : pTake (l.take (min l.length 8)) = pTake l := by
  cases l with
  | nil => rfl
  | cons b r =>
    have h8 := pLen_le b
    have hp := pLen_pos b
    have e : (b :: r).take (min (b :: r).length 8) = b :: r.take (min r.length 7) := by
      rw [List.length_cons, show min (r.length + 1) 8 = min r.length 7 + 1 by omega, List.take_succ_cons]
    have e2 : (r.take (min r.length 7)).length = min r.length 7 := by rw [List.length_take]; omega
    rw [e, pTake, pTake, e2, List.take_take]
    by_cases h : r.length + 1 < pLen b
    · rw [if_pos h, if_pos (by omega)]
    · rw [if_neg h, if_neg (by omega), show min (pLen b - 1) (min r.length 7) = pLen b - 1 by omega]
theorem fTake_err {l : List UInt8} {n k e : Nat} (h : pTake l = (n, k, e)) (he : e ≠ 0) : fTake l = ([], 0, e) := by
  unfold fTake; rw [h]; simp [he]
theorem fTake_long {l : List UInt8} {n k : Nat} (h : pTake l = (n, k, 0)) (hn : 1048576 < n) : fTake l = ([], 0, 2) := by
  unfold fTake; rw [h]; simp [hn]
theorem fTake_few {l : List UInt8} {n k : Nat} (h : pTake l = (n, k, 0)) (hn : n ≤ 1048576) (hl : l.length < n + 4 + k) : fTake l = ([], 0, 3) := by
  unfold fTake; rw [h]
  simp only [ne_eq, not_true_eq_false, if_false]
  rw [if_neg (by omega), if_pos (by omega)]
theorem fTake_fine {l : List UInt8} {n k : Nat} (h : pTake l = (n, k, 0)) (hn : n ≤ 1048576) (hl : n + 4 + k ≤ l.length) : fTake l = if cGood (l.take (n + 4 + k)) then ((l.drop k).take n, n + 4 + k, 0) else ([], 0, 50) := by
  unfold fTake; rw [h]
  simp only [ne_eq, not_true_eq_false, if_false]
  rw [if_neg (by omega), if_neg (by omega), show k + n + 4 = n + 4 + k by omega]

/-- What cut leaves. -/
def CutPost (A : Option Addr) (l : List UInt8) (B : Nat) (w : World) (e : Ending) (w' : World) : Prop :=
  ∃ R m c', e = .returned (.tuple #[.slice R m c', .int .i64 ((fTake l).2.1 : Nat), .int .i64 ((fTake l).2.2 : Nat)]) ∧ Rd w' B 1 R m (vbs (fTake l).1) ∧ m ≤ c' ∧ c' ≤ maxLen ∧ (∀ g, blk R = some g → blk A = some g) ∧ Turn w w' none
theorem cut_no {A : Option Addr} {l : List UInt8} {B : Nat} {w w' : World} {e : Nat} (h : fTake l = ([], 0, e)) (ht : Turn w w' none) : CutPost A l B w (.returned (.tuple #[.slice none 0 0, .int .i64 0, .int .i64 (e : Int)])) w' :=
  ⟨none, 0, 0, by rw [h]; rfl, by rw [h]; exact Rd.none_ _ B 1 0, Nat.le_refl _, Nat.zero_le _, (fun g hg => by simp [blk] at hg), ht⟩

theorem cut_yes {l : List UInt8} {B n b0 off S n0 k0 : Nat} {w w' : World} {R : Option Addr} (hr : Rd w B 1 (some ⟨b0, off, none⟩) n (vbs l)) (hB : B ≤ w.heap.size) (hS : S ≤ n) (hm : n ≤ 140737488355328) (HF : fTake l = ((l.drop k0).take n0, S, 0))
    (HS : S = n0 + 4 + k0) (ht : Turn w w' none) (hR : R = if S - 4 = k0 then some ⟨b0, off, none⟩ else some ⟨b0, off + k0, none⟩) {q : Nat} (hq : q = S - 4 - k0) :
    CutPost (some ⟨b0, off, none⟩) l B w (.returned (.tuple #[.slice R q q, .int .i64 (S : Int), .int .i64 0])) w' := by
  obtain rfl : q = n0 := by omega
  clear hq
  refine ⟨R, q, q, by rw [HF]; rfl, ?_, Nat.le_refl _, by unfold maxLen; omega, ?_, ht⟩
  · rw [HF]
    by_cases h : q = 0
    · subst h
      rw [List.take_zero]
      exact Rd.none_ _ B 1 0
    · rw [hR, if_neg (by omega)]
      exact ((hr.turn0 ht hB).tailB (c := n + 1) (by omega) (by omega) (by omega)).takeB (by omega)
  · intro g hg
    rw [hR] at hg
    split at hg <;> exact hg

set_option maxRecDepth 100000 in
set_option maxHeartbeats 800000 in
theorem cut_any (A : Option Addr) (n c : Nat) (l : List UInt8) (B : Nat) (w : World) (hr : Rd w B 1 A n (vbs l)) (hB : B ≤ w.heap.size) (hnc : n ≤ c) (hc : c ≤ maxLen) (hn : n ≤ 140737488355328) :
    Calls Try.prog 31 #[.slice A n c] w (CutPost A l B w) := by
  have hl := hr.len
  rw [vbs_len] at hl
  have hS8 := hid (show pSize (4611686018427387903 : Int).toNat = 8 by decide)
  obtain ⟨n0, k0, e0, hp⟩ : ∃ n0 k0 e0, pTake l = (n0, k0, e0) := ⟨_, _, _, rfl⟩
  have hcase : (8 < (n : Int) ∧ Rd w B 1 A 8 (vbs (l.take 8)) ∧ Hid (pTake (l.take 8) = (n0, k0, e0))) ∨ ((n : Int) ≤ 8 ∧ Rd w B 1 A n (vbs l) ∧ Hid (pTake l = (n0, k0, e0))) := by
    rcases Nat.lt_or_ge 8 n with h | h
    · refine .inl ⟨by omega, hr.takeB (by omega), hid ?_⟩
      have := pTake_most l
      rw [hl, Nat.min_eq_right (by omega), hp] at this
      exact this
    · exact .inr ⟨by omega, hr, hid hp⟩
  unfold maxLen at hc
  by_cases he : e0 = 0
  · subst he
    obtain ⟨hk, hk0, hkl, _⟩ := pTake_ok hp
    have hk8 := pSize_le n0
    by_cases hlong : 1048576 < n0
    · have hlong2 : (1048576 : Int) < n0 := by omega
      have hn62 : n0 < 4611686018427387904 := by rcases pSize_cases n0 with h | h | h | h | h <;> omega
      have HF := hid (fTake_long hp hlong)
      rcases hcase with ⟨hn8, hrm, HPM⟩ | ⟨hn8, hrm, HPM⟩
      all_goals
        go_enter Try.func31, Try.ntmps31
        go_wp2_with (first
          | (go_at_call 30; refine (size_any _ _ (by omega) (by omega)).mono ?_; rintro e w' ⟨rfl, rfl⟩; rw [hS8.out])
          | (go_at_call 39; refine (take_any _ _ _ _ B _ hrm hB (by omega) (by unfold maxLen; omega) (by omega)).mono ?_; rintro e w1 ⟨R, m, c1, rfl, ho1, ht1⟩; rw [HPM.out]))
        go_ret3
        exact cut_no HF.out ht1
    · have hlong2 : (n0 : Int) ≤ 1048576 := by omega
      obtain ⟨S, hS⟩ : ∃ S, S = n0 + 4 + k0 := ⟨_, rfl⟩
      have HZ := hid (show zSize (n0 : Int) = (S : Int) by unfold zSize fSize; rw [if_pos (by omega), Int.toNat_natCast, hk, ← hS])
      have HK := hid (show pSize (n0 : Int).toNat = k0 by rw [Int.toNat_natCast, hk])
      by_cases hfew : n < S
      · have HF := hid (fTake_few hp (by omega) (by omega))
        have hfew2 : (n : Int) < S := by omega
        rcases hcase with ⟨hn8, hrm, HPM⟩ | ⟨hn8, hrm, HPM⟩
        all_goals
          go_enter Try.func31, Try.ntmps31
          go_wp2_with (first
            | (go_at_call 30; refine (size_any _ _ (by omega) (by omega)).mono ?_; rintro e w' ⟨rfl, rfl⟩; rw [hS8.out])
            | (go_at_call 39; refine (take_any _ _ _ _ B _ hrm hB (by omega) (by unfold maxLen; omega) (by omega)).mono ?_; rintro e w1 ⟨R, m, c1, rfl, ho1, ht1⟩; rw [HPM.out])
            | (go_at_call 12; refine (fsize_any _ _ (by omega) (by omega)).mono ?_; rintro e w' ⟨rfl, rfl⟩; rw [HZ.out]))
          go_ret3
          exact cut_no HF.out ht1
      · have hfew2 : (S : Int) ≤ n := by omega
        have hff := fTake_fine hp (by omega) (by omega)
        rw [← hS] at hff
        have hrS : Rd w B 1 A S (vbs (l.take S)) := hr.takeB (by omega)
        have HS := hid hS
        have hS4 : 4 + (k0 : Int) ≤ S := by omega
        clear hS
        by_cases hg : cGood (l.take S) = true
        · have HF := hid (hff.trans (if_pos hg))
          have HG := hid hg
          clear hff hg
          obtain ⟨b0, off, rfl, _, _⟩ := hr.head (by omega)
          rcases hcase with ⟨hn8, hrm, HPM⟩ | ⟨hn8, hrm, HPM⟩
          all_goals
            go_enter Try.func31, Try.ntmps31
            go_wp2_with (first
              | (go_at_call_of 30 n0; refine (size_any _ _ (by omega) (by omega)).mono ?_; rintro e w' ⟨rfl, rfl⟩; rw [HK.out])
              | (go_at_call 30; refine (size_any _ _ (by omega) (by omega)).mono ?_; rintro e w' ⟨rfl, rfl⟩; rw [hS8.out])
              | (go_at_call 39; refine (take_any _ _ _ _ B _ hrm hB (by omega) (by unfold maxLen; omega) (by omega)).mono ?_; rintro e w1 ⟨R, m, c1, rfl, ho1, ht1⟩; rw [HPM.out])
              | (go_at_call 12; refine (fsize_any _ _ (by omega) (by omega)).mono ?_; rintro e w' ⟨rfl, rfl⟩; rw [HZ.out])
              | (go_at_call 40; refine (good_any _ _ _ (l.take S) B _ (hrS.turn0 ht1 hB) (Nat.le_trans hB ht1.size) (by omega) (by unfold maxLen; omega) (by omega)).mono ?_; rintro e w2 ⟨rfl, ht2⟩; rw [HG.out]))
            all_goals go_ret3
            all_goals exact cut_yes hr hB (by omega) (by omega) HF.out HS.out (ht1.trans ht2) (by first | (rw [if_pos (by assumption)]; done) | (rw [if_neg (by assumption)]; done)) (by first | rfl | omega)
        · have HF := hid (hff.trans (if_neg hg))
          have HG := hid (show cGood (l.take S) = false by simpa using hg)
          clear hff hg
          rcases hcase with ⟨hn8, hrm, HPM⟩ | ⟨hn8, hrm, HPM⟩
          all_goals
            go_enter Try.func31, Try.ntmps31
            go_wp2_with (first
              | (go_at_call 30; refine (size_any _ _ (by omega) (by omega)).mono ?_; rintro e w' ⟨rfl, rfl⟩; rw [hS8.out])
              | (go_at_call 39; refine (take_any _ _ _ _ B _ hrm hB (by omega) (by unfold maxLen; omega) (by omega)).mono ?_; rintro e w1 ⟨R, m, c1, rfl, ho1, ht1⟩; rw [HPM.out])
              | (go_at_call 12; refine (fsize_any _ _ (by omega) (by omega)).mono ?_; rintro e w' ⟨rfl, rfl⟩; rw [HZ.out])
              | (go_at_call 40; refine (good_any _ _ _ (l.take S) B _ (hrS.turn0 ht1 hB) (Nat.le_trans hB ht1.size) (by omega) (by unfold maxLen; omega) (by omega)).mono ?_; rintro e w2 ⟨rfl, ht2⟩; rw [HG.out]))
            go_ret3
            exact cut_no HF.out (ht1.trans ht2)
  · have he2 : ((e0 : Int) == 0) = false := by rw [beq_eq_false_iff_ne]; omega
    have HF := hid (fTake_err hp he)
    rcases hcase with ⟨hn8, hrm, HPM⟩ | ⟨hn8, hrm, HPM⟩
    all_goals
      go_enter Try.func31, Try.ntmps31
      go_wp2_with (first
        | (go_at_call 30; refine (size_any _ _ (by omega) (by omega)).mono ?_; rintro e w' ⟨rfl, rfl⟩; rw [hS8.out])
        | (go_at_call 39; refine (take_any _ _ _ _ B _ hrm hB (by omega) (by unfold maxLen; omega) (by omega)).mono ?_; rintro e w1 ⟨R, m, c1, rfl, ho1, ht1⟩; rw [HPM.out]))
      go_ret3
      exact cut_no HF.out ht1

theorem fTake_none {l x : List UInt8} {k e : Nat} (h : fTake l = (x, k, e)) (he : e ≠ 0) : x = [] := by
  unfold fTake at h
  split at h
  · simp only [Prod.mk.injEq] at h; exact h.1.symm
  split at h
  · simp only [Prod.mk.injEq] at h; exact h.1.symm
  split at h
  · simp only [Prod.mk.injEq] at h; exact h.1.symm
  split at h
  · simp only [Prod.mk.injEq] at h; omega
  · simp only [Prod.mk.injEq] at h; exact h.1.symm
/-- What is behind the frame. -/
def fRest (l : List UInt8) : List UInt8 := if (fTake l).2.2 = 0 then l.drop (fTake l).2.1 else []

/-- What Take leaves. -/
def TkPost (l : List UInt8) (w : World) (e : Ending) (w' : World) : Prop :=
  ∃ X m1 c1 R m2 c2, e = .returned (.tuple #[.slice X m1 c1, .slice R m2 c2, .int .i64 ((fTake l).2.2 : Nat)]) ∧ Rd w' w'.heap.size 1 X m1 (vbs (fTake l).1) ∧ Rd w' w'.heap.size 1 R m2 (vbs (fRest l)) ∧ Turn w w' none

set_option maxRecDepth 100000 in
set_option maxHeartbeats 800000 in
theorem ftake_any (A : Option Addr) (n c : Nat) (l : List UInt8) (B : Nat) (w : World) (hr : Rd w B 1 A n (vbs l)) (hB : B ≤ w.heap.size) (hnc : n ≤ c) (hc : c ≤ maxLen) (hn : n ≤ 140737488355328) :
    Calls Try.prog 14 #[.slice A n c] w (TkPost l w) := by
  have hl := hr.len
  rw [vbs_len] at hl
  obtain ⟨x, k, e0, hp⟩ : ∃ x k e0, fTake l = (x, k, e0) := ⟨_, _, _, rfl⟩
  have hpost : ∀ {e : Ending} {w' : World}, CutPost A l B w e w' → ∃ R m c', e = .returned (.tuple #[.slice R m c', .int .i64 (k : Int), .int .i64 (e0 : Int)]) ∧ Rd w' B 1 R m (vbs x) ∧ m ≤ c' ∧ c' ≤ maxLen ∧ Turn w w' none := by
    rintro e w' ⟨R, m, c', h1, h2, h3, h4, _, h5⟩
    rw [hp] at h1 h2
    exact ⟨R, m, c', h1, h2, h3, h4, h5⟩
  by_cases he : e0 = 0
  · subst he
    obtain ⟨h5, hkn, _, _⟩ := fTake_ok hp
    have hx : x.length ≤ 1048576 := (fTake_ok hp).2.2.2
    have hrest : fRest l = l.drop k := by unfold fRest; rw [hp]; rfl
    have HP := hid hp
    have HR := hid hrest
    clear hp hrest
    have hkn2 : (k : Int) ≤ n := by omega
    unfold maxLen at hc
    obtain ⟨b0, off, rfl, _, _⟩ := hr.head (by omega)
    have hkc : k ≤ c := by omega
    have hrc := hr.cutB (c := c) (k := k) (by omega) hnc
    rw [Option.map_some, add_flat] at hrc
    have hlk : (l.drop k).length = n - k := by rw [List.length_drop, hl]
    by_cases hck : c = k
    all_goals
      first | (rw [if_pos hck] at hrc; subst c; have h0 : n - k = 0 := (by omega); rw [h0] at hrc) | rw [if_neg hck] at hrc
      go_enter Try.func14, Try.ntmps14
      go_upto_region 4 with (go_at_call 31; refine (cut_any _ _ _ l B _ hr hB hnc (by unfold maxLen; omega) hn).mono ?_; intro e w1 hC; obtain ⟨R, m, c', rfl, hR, hm, hcm, ht1⟩ := hpost hC; have hml := hR.len; rw [vbs_len] at hml; have hml := hid hml)
      have hrc1 := hrc.turn0 ht1 hB
      have hB1 := Nat.le_trans hB ht1.size
      refine wp_region_noPanic ?_
      refine wp_region_held_drew (S := fun W => Turn w1 W none) (by kernel_rfl) (Turn.refl _ none).drew (fun hHeld => ?_)
      refine wpAnyH_more (S' := fun W => Turn (World.drew w1) W none) (fun W h => (Turn.refl _ none).drew.trans h) _ _ _ _ ?_
      clear hHeld
      have hHeld : (fun W => Turn (World.drew w1) W none) (World.drew w1) := Turn.refl _ none
      (first | (refine wpAnyH_take (i := 0) (v := undef) rfl (by kernel_rfl) (by kernel_rfl) (by kernel_rfl) (fun _ _ _ h => h) (Or.inr ⟨rfl, rfl⟩) (by assumption) ?_) | (refine wpAnyH_take (i := 0) (v := ?_) rfl (by kernel_rfl) (by kernel_rfl) (by kernel_rfl) (fun _ _ _ h => h) (Or.inl ⟨rfl, ?_⟩) (by assumption) ?_; rotate_left 1; · (intro w hSw; (try dsimp only at hSw); go_simp; (try with_reducible rfl)))); (try simp only [Act.put, List.getElem_toArray, List.getElem_cons_zero, List.getElem_cons_succ, List.setIfInBounds_toArray, List.set_cons_zero, List.set_cons_succ])
      (first | (refine wpAnyH_take (i := 2) (v := undef) rfl (by kernel_rfl) (by kernel_rfl) (by kernel_rfl) (fun _ _ _ h => h) (Or.inr ⟨rfl, rfl⟩) (by assumption) ?_) | (refine wpAnyH_take (i := 2) (v := ?_) rfl (by kernel_rfl) (by kernel_rfl) (by kernel_rfl) (fun _ _ _ h => h) (Or.inl ⟨rfl, ?_⟩) (by assumption) ?_; rotate_left 1; · (intro w hSw; (try dsimp only at hSw); go_simp; (try with_reducible rfl)))); (try simp only [Act.put, List.getElem_toArray, List.getElem_cons_zero, List.getElem_cons_succ, List.setIfInBounds_toArray, List.set_cons_zero, List.set_cons_succ])
      (first | (refine wpAnyH_take (i := 3) (v := undef) rfl (by kernel_rfl) (by kernel_rfl) (by kernel_rfl) (fun _ _ _ h => h) (Or.inr ⟨rfl, rfl⟩) (by assumption) ?_) | (refine wpAnyH_take (i := 3) (v := ?_) rfl (by kernel_rfl) (by kernel_rfl) (by kernel_rfl) (fun _ _ _ h => h) (Or.inl ⟨rfl, ?_⟩) (by assumption) ?_; rotate_left 1; · (intro w hSw; (try dsimp only at hSw); go_simp; (try with_reducible rfl)))); (try simp only [Act.put, List.getElem_toArray, List.getElem_cons_zero, List.getElem_cons_succ, List.setIfInBounds_toArray, List.set_cons_zero, List.set_cons_succ])
      (first | (refine wpAnyH_take (i := 4) (v := undef) rfl (by kernel_rfl) (by kernel_rfl) (by kernel_rfl) (fun _ _ _ h => h) (Or.inr ⟨rfl, rfl⟩) (by assumption) ?_) | (refine wpAnyH_take (i := 4) (v := ?_) rfl (by kernel_rfl) (by kernel_rfl) (by kernel_rfl) (fun _ _ _ h => h) (Or.inl ⟨rfl, ?_⟩) (by assumption) ?_; rotate_left 1; · (intro w hSw; (try dsimp only at hSw); go_simp; (try with_reducible rfl)))); (try simp only [Act.put, List.getElem_toArray, List.getElem_cons_zero, List.getElem_cons_succ, List.setIfInBounds_toArray, List.set_cons_zero, List.set_cons_succ])
      refine wpAnyH_ready (rs := [1]) (by kernel_rfl) (by simp) ?_
      refine AllReadyH.cons rfl (fun K hK => ?_) AllReadyH.nil
      go_simp
      refine (clone_any _ _ _ x B _ hR.drew hB1 (by have := hml.out; omega)).mono ?_
      rintro e w2 ⟨X, c1, rfl, hoX, ht2⟩
      refine hK.out _ _ (show Turn _ _ none from ht2) (fun hHeld => ?_)
      clear hK K
      (try simp only [Act.put, List.getElem_toArray, List.getElem_cons_zero, List.getElem_cons_succ, List.setIfInBounds_toArray, List.set_cons_zero, List.set_cons_succ])
      refine wpAnyH_more (S' := fun W => Turn w2 W none) (fun W h => Turn.trans ht2 h) _ _ _ _ ?_
      clear hHeld
      have hHeld : (fun W => Turn w2 W none) w2 := Turn.refl w2 none
      refine wpAnyH_ready (rs := [5]) (by kernel_rfl) (by simp) ?_
      refine AllReadyH.cons rfl (fun K hK => ?_) AllReadyH.nil
      go_simp
      refine (clone_any _ _ _ (l.drop k) B _ ((hrc1.drew).turn0 ht2 hB1) (Nat.le_trans hB1 ht2.size) (by omega)).mono ?_
      rintro e w3 ⟨Y, c2, rfl, hoY, ht3⟩
      refine hK.out _ _ (show Turn _ _ none from ht3) (fun hHeld => ?_)
      clear hK K
      (try simp only [Act.put, List.getElem_toArray, List.getElem_cons_zero, List.getElem_cons_succ, List.setIfInBounds_toArray, List.set_cons_zero, List.set_cons_succ])
      refine wpAnyH_more (S' := fun W => Turn w3 W none) (fun W h => Turn.trans ht3 h) _ _ _ _ ?_
      clear hHeld
      have hHeld : (fun W => Turn w3 W none) w3 := Turn.refl w3 none
      (first | (refine wpAnyH_take (i := 6) (v := undef) rfl (by kernel_rfl) (by kernel_rfl) (by kernel_rfl) (fun _ _ _ h => h) (Or.inr ⟨rfl, rfl⟩) (by assumption) ?_) | (refine wpAnyH_take (i := 6) (v := ?_) rfl (by kernel_rfl) (by kernel_rfl) (by kernel_rfl) (fun _ _ _ h => h) (Or.inl ⟨rfl, ?_⟩) (by assumption) ?_; rotate_left 1; · (intro w hSw; (try dsimp only at hSw); go_simp; (try with_reducible rfl)))); (try simp only [Act.put, List.getElem_toArray, List.getElem_cons_zero, List.getElem_cons_succ, List.setIfInBounds_toArray, List.set_cons_zero, List.set_cons_succ])
      (first | (refine wpAnyH_take (i := 7) (v := undef) rfl (by kernel_rfl) (by kernel_rfl) (by kernel_rfl) (fun _ _ _ h => h) (Or.inr ⟨rfl, rfl⟩) (by assumption) ?_) | (refine wpAnyH_take (i := 7) (v := ?_) rfl (by kernel_rfl) (by kernel_rfl) (by kernel_rfl) (fun _ _ _ h => h) (Or.inl ⟨rfl, ?_⟩) (by assumption) ?_; rotate_left 1; · (intro w hSw; (try dsimp only at hSw); go_simp; (try with_reducible rfl)))); (try simp only [Act.put, List.getElem_toArray, List.getElem_cons_zero, List.getElem_cons_succ, List.setIfInBounds_toArray, List.set_cons_zero, List.set_cons_succ])
      (first | (refine wpAnyH_take (i := 8) (v := undef) rfl (by kernel_rfl) (by kernel_rfl) (by kernel_rfl) (fun _ _ _ h => h) (Or.inr ⟨rfl, rfl⟩) (by assumption) ?_) | (refine wpAnyH_take (i := 8) (v := ?_) rfl (by kernel_rfl) (by kernel_rfl) (by kernel_rfl) (fun _ _ _ h => h) (Or.inl ⟨rfl, ?_⟩) (by assumption) ?_; rotate_left 1; · (intro w hSw; (try dsimp only at hSw); go_simp; (try with_reducible rfl)))); (try simp only [Act.put, List.getElem_toArray, List.getElem_cons_zero, List.getElem_cons_succ, List.setIfInBounds_toArray, List.set_cons_zero, List.set_cons_succ])
      refine wpAnyH_done (by kernel_rfl) ?_ _
      refine NoPanic.normal ?_
      clear hHeld
      go_wp2
      go_ret3
      have hRR := hoY.rd
      rw [← HR.out] at hRR
      have hXX := (hoX.turn0 ht3).rd
      refine ⟨X, m, c1, Y, _, c2, ?_, ?_, hRR, (ht1.trans ht2.undrew).trans ht3⟩
      · rw [HP.out]; rfl
      · rw [HP.out]; exact hXX
  · have he2 : ((e0 : Int) == 0) = false := by rw [beq_eq_false_iff_ne]; omega
    have hx : fRest l = [] := by unfold fRest; rw [hp]; exact if_neg he
    have HP := hid hp
    have HX := hid hx
    clear hp hx
    have h0 : x = [] := fTake_none HP.out he
    go_enter Try.func14, Try.ntmps14
    go_wp2_with (go_at_call 31; refine (cut_any _ _ _ l B _ hr hB hnc hc hn).mono ?_; intro e w1 hC; obtain ⟨R, m, c', rfl, hR, hm, hcm, ht1⟩ := hpost hC)
    go_ret3
    exact ⟨none, 0, 0, none, 0, 0, by rw [HP.out]; rfl, by rw [HP.out, h0]; exact Rd.none_ _ _ 1 0, by rw [HX.out]; exact Rd.none_ _ _ 1 0, ht1⟩
end Go.Proofs.Ytgmmmeghhfdlfaa
