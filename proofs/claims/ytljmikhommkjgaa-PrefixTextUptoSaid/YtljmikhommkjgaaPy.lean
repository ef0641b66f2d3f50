/-
  Layer 1: TakeText of package prefix and of the document's own answers; the walk of PrefixText.
-/
import Derived.Test.YtljmikhommkjgaaPx
namespace Go.Proofs.Ytljmikhommkjgaa
open Go.RowKit

set_option maxHeartbeats 400000 in
theorem takeTextX_any (A : Option Addr) (n c : Nat) (most : Int) (l : List UInt8) (B : Nat) (w : World) (hr : Rd w B 1 A n (vbs l)) (hB : B ≤ w.heap.size) (hnc : n ≤ c) (hc : c ≤ maxLen) (hn : n ≤ 140737488355328)
    (h2 : -9223372036854775808 ≤ most) (h3 : most ≤ 9223372036854775807) :
    Calls Try.prog 20 #[.slice A n c, .int .i64 most] w fun e w' =>
      ∃ R m c', e = .returned (.tuple #[.string (txt (pTakeText l most).1), .slice R m c', .int .i64 ((pTakeText l most).2.2 : Nat)]) ∧ Own w' w.heap.size 5 1 R m c' (vbs (pRestText l most)) ∧ Turn w w' none := by
  have hl := hr.len
  rw [vbs_len] at hl
  have hlr := pRestText_len l most
  rw [hl] at hlr
  have hl := hid hl
  go_enter Try.func20, Try.ntmps20
  go_wp2_with (first
    | (go_at_call 31; refine (takeText_any _ _ _ _ l B _ hr hnc hc h2 h3).mono ?_; rintro e w1 ⟨R, m, c1, q, rfl, hR, hm, hcm, rfl⟩; have hml := hR.len; rw [vbs_len] at hml; have hmn : m ≤ n := (by omega); have hml := hid hml)
    | (go_at_call 27; refine (fresh_any _ _ _ _ (pRestText l most) B _ (hR.drewN q) (by omega) (by omega) hB).mono ?_; rintro e w2 ⟨A2, c2, rfl, ho, ht⟩))
  go_ret3
  exact ⟨A2, m, c2, rfl, ho, ⟨ht.os, ht.tape, ht.output, ht.size, ht.block⟩⟩

set_option maxRecDepth 100000 in
set_option maxHeartbeats 800000 in
theorem rtakeText_any (A : Option Addr) (n c : Nat) (most : Int) (l : List UInt8) (B : Nat) (w : World) (hr : Rd w B 1 A n (vbs l)) (hnc : n ≤ c) (hc : c ≤ maxLen) (hn : n ≤ 140737488355328)
    (h2 : -9223372036854775808 ≤ most) (h3 : most ≤ 9223372036854775807) :
    Calls Try.prog 21 #[.slice A n c, .int .i64 most] w fun e w' =>
      e = .returned (.tuple #[.string (txt (pTakeText l most).1), .int .i64 ((pTakeText l most).2.1 : Nat), .int .i64 ((pTakeText l most).2.2 : Nat)]) ∧ w = w' := by
  obtain ⟨x, k, f, ht⟩ : ∃ x k f, pTake l = (x, k, f) := ⟨_, _, _, rfl⟩
  have HT := hid ht
  have hl := hr.len
  rw [vbs_len] at hl
  have HL := hid hl
  unfold maxLen at hc
  by_cases hf : f = 0
  · subst hf
    obtain ⟨p1, p2, p3, p4⟩ := pTake_ok ht
    have hx62 := pTake_small ht
    obtain ⟨xi, hxi⟩ : ∃ xi : Int, xi = x := ⟨_, rfl⟩
    have hx0 : 0 ≤ xi := by omega
    have hx1 : xi < 4611686018427387904 := by omega
    have HX := hid hxi
    have hkn : k ≤ n := by omega
    have hk0 : 0 < k := p2
    by_cases a1 : most < 0
    · have e1 := hid (show pTakeText l most = ([], 0, 2) by
        unfold pTakeText; rw [ht]; simp only [ne_eq, not_true_eq_false, if_false]; rw [if_pos (.inl a1)])
      have d1 : decide (most < 0) = true := by simpa using a1
      clear ht p1 p2 p3 p4 hxi hx62 hl
      go_enter Try.func21, Try.ntmps21
      go_wp2_with (go_at_call 17; refine (rtake_any _ _ _ l B _ hr hn).mono ?_; rintro e w' ⟨rfl, rfl⟩; rw [HT.out]; simp only [← HX.out])
      go_ret3
      exact ⟨by rw [e1.out]; rfl, rfl⟩
    have d1 : decide (most < 0) = false := by simpa using a1
    by_cases a2 : most < xi
    · have e1 := hid (show pTakeText l most = ([], 0, 2) by
        unfold pTakeText; rw [ht]; simp only [ne_eq, not_true_eq_false, if_false]; rw [if_pos (.inr (by rw [← hxi]; exact a2))])
      clear ht p1 p2 p3 p4 hxi hx62 hl
      go_enter Try.func21, Try.ntmps21
      go_wp2_with (go_at_call 17; refine (rtake_any _ _ _ l B _ hr hn).mono ?_; rintro e w' ⟨rfl, rfl⟩; rw [HT.out]; simp only [← HX.out])
      go_ret3
      exact ⟨by rw [e1.out]; rfl, rfl⟩
    by_cases a3 : (n : Int) - k < xi
    · have e1 := hid (show pTakeText l most = ([], 0, 3) by
        unfold pTakeText; rw [ht]; simp only [ne_eq, not_true_eq_false, if_false]; rw [if_neg (by omega), if_pos (by omega)])
      clear ht p1 p2 p3 p4 hxi hx62 hl
      go_enter Try.func21, Try.ntmps21
      go_wp2_with (go_at_call 17; refine (rtake_any _ _ _ l B _ hr hn).mono ?_; rintro e w' ⟨rfl, rfl⟩; rw [HT.out]; simp only [← HX.out])
      go_ret3
      exact ⟨by rw [e1.out]; rfl, rfl⟩
    · have e1 := hid (show pTakeText l most = ((l.drop k).take x, k + x, 0) by
        unfold pTakeText; rw [ht]; simp only [ne_eq, not_true_eq_false, if_false]; rw [if_neg (by omega), if_neg (by omega)])
      have hxt : ((k : Int) + xi).toNat - k = x := by omega
      have hxs : (k : Int) + xi = ((k + x : Nat) : Int) := by omega
      have hRt : Rd w B 1 (if c = k then A else A.map (·.add k)) (((k : Int) + xi).toNat - k) (vbs ((l.drop k).take x)) := by
        have h := (hr.cut (c := c) hkn hnc).take (k := x) (by omega)
        rw [Nat.mul_one, Nat.mul_one, vbs_drop, vbs_take] at h
        rw [hxt]
        exact h
      have hb1 : (k : Int) + xi ≤ c := by omega
      have HXS := hid hxs
      clear ht p1 p2 p3 p4 hxi hx62 hl hxt hxs
      by_cases hck : c = k
      · rw [if_pos hck, show ((k : Int) + xi).toNat - k = 0 by omega] at hRt
        have s1 := str_run w (c := 0) hRt
        subst hck
        go_enter Try.func21, Try.ntmps21
        go_wp2_with (go_at_call 17; refine (rtake_any _ _ _ l B _ hr hn).mono ?_; rintro e w' ⟨rfl, rfl⟩; rw [HT.out]; simp only [← HX.out])
        go_ret3
        exact ⟨by rw [e1.out, ← HXS.out]; rfl, rfl⟩
      · rw [if_neg hck] at hRt
        have s1 := str_run w (c := c - k) hRt
        go_enter Try.func21, Try.ntmps21
        go_wp2_with (go_at_call 17; refine (rtake_any _ _ _ l B _ hr hn).mono ?_; rintro e w' ⟨rfl, rfl⟩; rw [HT.out]; simp only [← HX.out])
        go_ret3
        exact ⟨by rw [e1.out, ← HXS.out]; rfl, rfl⟩
  · have hz := pTake_err l (by rw [ht]; exact hf)
    rw [ht] at hz
    obtain ⟨hz1, hz2, hz3⟩ := hz
    simp only at hz1 hz2 hz3
    subst hz1; subst hz2
    have e1 := hid (show pTakeText l most = ([], 0, f) by unfold pTakeText; rw [ht]; simp only [ne_eq]; rw [if_pos hf])
    have hfz : ((f : Int) != 0) = true := by rw [bne_iff_ne]; omega
    clear ht hl hz3 hf
    go_enter Try.func21, Try.ntmps21
    go_wp2_with (go_at_call 17; refine (rtake_any _ _ _ l B _ hr hn).mono ?_; rintro e w' ⟨rfl, rfl⟩; rw [HT.out])
    go_ret3
    exact ⟨by rw [e1.out]; rfl, rfl⟩
end Go.Proofs.Ytljmikhommkjgaa
