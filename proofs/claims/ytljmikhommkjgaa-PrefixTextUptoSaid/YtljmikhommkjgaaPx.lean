/-
  Layer 1: texts: as plain functions, and what the calls on one text do.
-/
import Derived.Test.YtljmikhommkjgaaPb
namespace Go.Proofs.Ytljmikhommkjgaa
open Go.RowKit

/-! ### Plain functions -/
def pText (s : List UInt8) : List UInt8 := pPut s.length ++ s
/-- The text with which bytes begin, how many bytes that is in all, and the error. -/
def pTakeText (l : List UInt8) (most : Int) : List UInt8 × Nat × Nat :=
  if (pTake l).2.2 ≠ 0 then ([], 0, (pTake l).2.2)
  else if most < 0 ∨ most < ((pTake l).1 : Int) then ([], 0, 2)
  else if l.length - (pTake l).2.1 < (pTake l).1 then ([], 0, 3)
  else ((l.drop (pTake l).2.1).take (pTake l).1, (pTake l).2.1 + (pTake l).1, 0)
def pRestText (l : List UInt8) (most : Int) : List UInt8 := if (pTakeText l most).2.2 = 0 then l.drop (pTakeText l most).2.1 else []

theorem pText_len (s : List UInt8) : (pText s).length = pSize s.length + s.length := by rw [pText, List.length_append, pPut_len]
theorem pSize_small {n : Nat} (h : n < 4611686018427387904) : pSize n ≠ 0 := by rcases pSize_cases n with h1 | h1 | h1 | h1 | h1 <;> omega

theorem pTakeText_put (s r : List UInt8) (h : s.length < 4611686018427387904) : pTakeText (pText s ++ r) (s.length : Int) = (s, pSize s.length + s.length, 0) := by
  have h0 := pSize_small h
  have h1 : pTake (pText s ++ r) = (s.length, pSize s.length, 0) := by rw [pText, List.append_assoc]; exact pTake_beh rfl h0 (s ++ r)
  unfold pTakeText
  rw [h1]
  simp only [ne_eq, not_true_eq_false, if_false]
  rw [if_neg (by omega), if_neg (by rw [List.length_append, pText_len]; omega)]
  have h2 : (pText s ++ r).drop (pSize s.length) = s ++ r := by
    rw [pText, List.append_assoc]
    have := pPut_len s.length
    rw [List.drop_append_of_le_length (by omega), List.drop_of_length_le (by omega), List.nil_append]
  rw [h2, List.take_left' rfl]
theorem pRestText_put (s r : List UInt8) (h : s.length < 4611686018427387904) : pRestText (pText s ++ r) (s.length : Int) = r := by
  unfold pRestText
  rw [pTakeText_put s r h, if_pos rfl]
  have := pText_len s
  simp only []
  rw [List.drop_append_of_le_length (by omega), List.drop_of_length_le (by omega), List.nil_append]
/-- What is taken lies in what was there. -/
theorem pTakeText_ok {l : List UInt8} {most : Int} (h : (pTakeText l most).2.2 = 0) : (pTakeText l most).2.1 ≤ l.length ∧ (pTakeText l most).1.length ≤ l.length := by
  unfold pTakeText at *
  split
  · simp
  split
  · simp
  split
  · simp
  · rename_i h1 h2 h3
    have h1' : (pTake l).2.2 = 0 := by omega
    obtain ⟨n, k, e, ht⟩ : ∃ n k e, pTake l = (n, k, e) := ⟨_, _, _, rfl⟩
    rw [ht] at h1' h3 ⊢
    simp only at h1' h3 ⊢
    subst h1'
    obtain ⟨_, _, h4, _⟩ := pTake_ok ht
    refine ⟨by omega, ?_⟩
    rw [List.length_take, List.length_drop]
    omega
theorem pRestText_len (l : List UInt8) (most : Int) : (pRestText l most).length ≤ l.length := by
  unfold pRestText
  split
  · rw [List.length_drop]; omega
  · simp
theorem pTake_err (l : List UInt8) (h : (pTake l).2.2 ≠ 0) : (pTake l).1 = 0 ∧ (pTake l).2.1 = 0 ∧ ((pTake l).2.2 = 3 ∨ (pTake l).2.2 = 4) := by
  cases l with
  | nil => simp [pTake] at h ⊢
  | cons b r =>
    rw [pTake] at h ⊢
    split
    · simp
    split
    · rename_i h1 h2
      rw [if_neg h1, if_pos h2] at h
      simp at h
    · simp
theorem pTake_small {l : List UInt8} {n k : Nat} (h : pTake l = (n, k, 0)) : n < 4611686018427387904 := by
  obtain ⟨h1, h2, _⟩ := pTake_ok h
  rcases pSize_cases n with h3 | h3 | h3 | h3 | h3 <;> omega

/-- Is n above the most? -/
def aboveB (n m : Int) : Bool := decide (m < 0) || decide (m < n)
theorem aboveB_true {n m : Int} : aboveB n m = true ↔ m < 0 ∨ m < n := by simp [aboveB]
theorem aboveB_false {n m : Int} : aboveB n m = false ↔ 0 ≤ m ∧ n ≤ m := by simp [aboveB]

/-! ### The calls -/
set_option maxHeartbeats 400000 in
theorem above_any (n m : Int) (w : World) (h0 : 0 ≤ n) (h1 : n ≤ 18446744073709551615) (h2 : -9223372036854775808 ≤ m) (h3 : m ≤ 9223372036854775807) :
    Calls Try.prog 32 #[.int .u64 n, .int .i64 m] w fun e w' => e = .returned (.bool (aboveB n m)) ∧ w = w' := by
  by_cases c1 : m < 0
  · have e := hid (aboveB_true.2 (.inl c1) : aboveB n m = true)
    have d1 : decide (m < 0) = true := by simpa using c1
    go_enter Try.func32, Try.ntmps32
    go_wp2
    all_goals go_ret
    all_goals exact ⟨by rw [e.out]; rfl, rfl⟩
  · have d1 : decide (m < 0) = false := by simpa using c1
    by_cases c2 : m < n
    · have e := hid (aboveB_true.2 (.inr c2) : aboveB n m = true)
      go_enter Try.func32, Try.ntmps32
      go_wp2
      all_goals go_ret
      all_goals exact ⟨by rw [e.out]; rfl, rfl⟩
    · have e := hid (aboveB_false.2 ⟨by omega, by omega⟩ : aboveB n m = false)
      go_enter Try.func32, Try.ntmps32
      go_wp2
      all_goals go_ret
      all_goals exact ⟨by rw [e.out]; rfl, rfl⟩

theorem infoB : (Try.prog.info? 5).map (fun i => (i.zero, i.size, i.bytes)) = some (some (.int .u8 0), 1, 1) := by kernel_rfl

set_option maxHeartbeats 400000 in
theorem putText_any (A : Option Addr) (n c : Nat) (s : ByteArray) (l : List UInt8) (base : Nat) (w : World) (hown : Own w base 5 1 A n c (vbs l)) (hn : n + 8 + s.size ≤ 140737488355328) (hb : base ≤ w.heap.size) :
    Calls Try.prog 30 #[.slice A n c, .string s] w fun e w' =>
      ∃ A' c', e = .returned (.slice A' (n + pSize s.size + s.size) c') ∧ Own w' base 5 1 A' (n + pSize s.size + s.size) c' (vbs (l ++ pText s.data.toList)) ∧ Grow w w' A A' := by
  have hk := pSize_le s.size
  have hs2 : (s.size : Int) ≤ 140737488355328 := by omega
  go_enter Try.func30, Try.ntmps30
  go_wp2_with (first
    | (go_at_call 28; refine (putNumber_any _ _ _ _ l _ _ hown (by omega) (by omega) (by omega) hb).mono ?_; rintro e w1 ⟨A1, c1, rfl, ho1, hG1⟩; rw [Int.toNat_natCast]; rw [Int.toNat_natCast] at ho1; have hz := hG1.1.size)
    | (at_builtin; refine wp_apps rfl _ _ _ _ rfl Try.underlying22 Try.underlying9 infoB rfl rfl ho1 (by unfold maxLen; first | omega | (simp; done) | (simp; omega)) (by first | omega | (simp; done) | (simp; omega)) (by first | omega | (simp; done) | (simp; omega)) ?_; intro A2 c2 w2 ho2 ht2 hb2))
  go_ret
  refine ⟨A2, c2, rfl, ?_, hG1.step ht2 hb2⟩
  rw [← vbs_append, List.append_assoc] at ho2
  have e : pText s.data.toList = pPut s.size ++ s.data.toList := by unfold pText; rw [Array.length_toList]; rfl
  rw [e]
  exact ho2
theorem pText_eq (s : ByteArray) : pText s.data.toList = pPut s.size ++ s.data.toList := by unfold pText; rw [Array.length_toList]; rfl

set_option maxHeartbeats 400000 in
theorem putTextX_any (A : Option Addr) (n c : Nat) (s : ByteArray) (l : List UInt8) (B : Nat) (w : World) (hr : Rd w B 1 A n (vbs l)) (hB : B ≤ w.heap.size) (hn : n + 8 + s.size ≤ 140737488355328) :
    Calls Try.prog 18 #[.slice A n c, .string s] w fun e w' =>
      ∃ A' c', e = .returned (.slice A' (n + pSize s.size + s.size) c') ∧ Own w' w.heap.size 5 1 A' (n + pSize s.size + s.size) c' (vbs (l ++ pText s.data.toList)) ∧ Turn w w' none := by
  have hs2 : (s.size : Int) ≤ 140737488355328 := by omega
  go_enter Try.func18, Try.ntmps18
  go_wp2_with (first
    | (go_at_call 27; refine (fresh_any _ _ _ _ l B _ hr (by omega) (by omega) hB).mono ?_; rintro e w1 ⟨A1, c1, rfl, ho1, ht1⟩)
    | (go_at_call 30; refine (putText_any _ _ _ _ l _ _ ho1 (by omega) ht1.size).mono ?_; rintro e w2 ⟨A2, c2, rfl, ho2, hG2⟩))
  go_ret
  exact ⟨A2, c2, rfl, ho2, hG2.fresh ht1 fun g hg => (ho1.block g hg).1⟩

set_option maxHeartbeats 400000 in
theorem rtext_any (A : Option Addr) (n c : Nat) (s : ByteArray) (l : List UInt8) (B : Nat) (w : World) (hr : Rd w B 1 A n (vbs l)) (hB : B ≤ w.heap.size) (hn : n + 8 + s.size ≤ 140737488355328) :
    Calls Try.prog 19 #[.slice A n c, .string s] w fun e w' =>
      ∃ A' c', e = .returned (.slice A' (n + pSize s.size + s.size) c') ∧ Own w' w.heap.size 5 1 A' (n + pSize s.size + s.size) c' (vbs (l ++ pText s.data.toList)) ∧ Turn w w' none := by
  have hs2 : (s.size : Int) ≤ 140737488355328 := by omega
  have hk := pSize_le s.size
  go_enter Try.func19, Try.ntmps19
  go_wp2_with (first
    | (go_at_call 12; refine (rput_any _ _ _ _ l B _ hr hB (by omega) (by omega) (by omega)).mono ?_; rintro e w1 ⟨A1, c1, rfl, ho1, ht1⟩; rw [Int.toNat_natCast]; rw [Int.toNat_natCast] at ho1)
    | (at_builtin; refine wp_apps rfl _ _ _ _ rfl Try.underlying22 Try.underlying9 infoB rfl rfl ho1 (by unfold maxLen; first | omega | (simp; done) | (simp; omega)) (by first | omega | (simp; done) | (simp; omega)) ht1.size ?_; intro A2 c2 w2 ho2 ht2 hb2))
  go_ret
  refine ⟨A2, c2, rfl, ?_, ht1.new ht2 fun g hg => (ho1.block g hg).1⟩
  rw [← vbs_append, List.append_assoc] at ho2
  rw [pText_eq]
  exact ho2

/-- What takeText leaves. -/
def TakeTextPost (l : List UInt8) (most : Int) (B : Nat) (w : World) (e : Ending) (w' : World) : Prop :=
  ∃ R m c' q, e = .returned (.tuple #[.string (txt (pTakeText l most).1), .slice R m c', .int .i64 ((pTakeText l most).2.2 : Nat)]) ∧ Rd w B 1 R m (vbs (pRestText l most)) ∧ m ≤ c' ∧ c' ≤ maxLen ∧ w' = w.drewN q
theorem taketext_no {l : List UInt8} {most : Int} {B q : Nat} {w : World} {e : Nat} (h : pTakeText l most = ([], 0, e)) (he : e ≠ 0) : TakeTextPost l most B w (.returned (.tuple #[.string (txt []), .slice none 0 0, .int .i64 e])) (w.drewN q) :=
  ⟨none, 0, 0, q, by rw [h], by unfold pRestText; rw [h, if_neg he]; exact Rd.none_ w B 1 0, Nat.le_refl _, Nat.zero_le _, rfl⟩

theorem taketext_yes {l s : List UInt8} {most : Int} {B q n c k x : Nat} {w : World} {R : Option Addr} (hR : Rd w B 1 R n (vbs (pRest l))) (hx : x ≤ n) (hnc : n ≤ c) (hc : c ≤ maxLen)
    (e1 : pTakeText l most = (s, k, 0)) (e2 : pRestText l most = (pRest l).drop x) {R' : Option Addr} {m' c' : Nat} (hR' : R' = if c = x then R else Option.map (fun a => a.add x) R) (hm' : m' = n - x) (hc' : c' = c - x) :
    TakeTextPost l most B w (.returned (.tuple #[.string (txt s), .slice R' m' c', .int .i64 0])) (w.drewN q) := by
  subst hR'; subst hm'; subst hc'
  refine ⟨_, n - x, c - x, q, by rw [e1]; rfl, ?_, Nat.sub_le_sub_right hnc x, Nat.le_trans (Nat.sub_le c x) hc, rfl⟩
  have h := hR.cut hx hnc
  rw [e2, ← vbs_drop]
  rw [Nat.mul_one] at h
  exact h

set_option maxRecDepth 100000 in
set_option maxHeartbeats 800000 in
theorem takeText_any (A : Option Addr) (n c : Nat) (most : Int) (l : List UInt8) (B : Nat) (w : World) (hr : Rd w B 1 A n (vbs l)) (hnc : n ≤ c) (hc : c ≤ maxLen) (h2 : -9223372036854775808 ≤ most) (h3 : most ≤ 9223372036854775807) :
    Calls Try.prog 31 #[.slice A n c, .int .i64 most] w (TakeTextPost l most B w) := by
  obtain ⟨x, k, f, ht⟩ : ∃ x k f, pTake l = (x, k, f) := ⟨_, _, _, rfl⟩
  have HT := hid ht
  have hl := hr.len
  rw [vbs_len] at hl
  have HL := hid hl
  by_cases hf : f = 0
  · subst hf
    obtain ⟨p1, p2, p3, p4⟩ := pTake_ok ht
    have hx62 := pTake_small ht
    obtain ⟨xi, hxi⟩ : ∃ xi : Int, xi = x := ⟨_, rfl⟩
    have hx0 : 0 ≤ xi := by omega
    have hx1 : xi < 4611686018427387904 := by omega
    have HX := hid hxi
    have hrl : (pRest l).length = n - k := by rw [pRest_of ht, if_pos rfl, List.length_drop, hl]
    have HR := hid hrl
    have hkn : k ≤ n := by omega
    by_cases a1 : aboveB xi most = true
    · have e1 := hid (show pTakeText l most = ([], 0, 2) by
        unfold pTakeText; rw [ht]; simp only [ne_eq, not_true_eq_false, if_false]; rw [if_pos (by rw [aboveB_true, hxi] at a1; exact a1)])
      have ha := hid a1
      clear ht p1 p3 p4 hxi hrl a1 hx62 hl
      go_enter Try.func31, Try.ntmps31
      go_wp2_with (first
        | (go_at_call 29; refine (takeNumber_any _ _ _ l B _ hr hnc hc).mono ?_; rintro e w1 ⟨R, m, c1, q, rfl, hR, hm, hcm, rfl⟩; rw [HT.out]; simp only [← HX.out])
        | (go_at_call 32; refine (above_any _ _ _ (by omega) (by omega) (by omega) (by omega)).mono ?_; rintro e w' ⟨rfl, rfl⟩; rw [ha.out]))
      go_ret3
      exact taketext_no (e := 2) e1.out (by omega)
    · have a1' : aboveB xi most = false := by simpa using a1
      have a1p := aboveB_false.1 a1'
      obtain ⟨a1l, a1r⟩ := a1p
      by_cases a2 : n - k < x
      · have e1 := hid (show pTakeText l most = ([], 0, 3) by
          unfold pTakeText; rw [ht]; simp only [ne_eq, not_true_eq_false, if_false]; rw [if_neg (by omega), if_pos (by omega)])
        have ha := hid a1'
        have hb := hid (show aboveB xi ((n - k : Nat) : Int) = true by rw [aboveB_true]; omega)
        clear ht p1 p3 p4 hxi hrl a1 a1' hx62 hl a2
        go_enter Try.func31, Try.ntmps31
        go_wp2_with fail
        refine (takeNumber_any _ _ _ l B _ hr hnc hc).mono ?_
        rintro e w1 ⟨R, m, c1, q, rfl, hR, hm, hcm, rfl⟩
        rw [HT.out]
        simp only [← HX.out]
        have hml := hR.len
        rw [vbs_len, HR.out] at hml
        subst hml
        go_wp2_with fail
        refine (above_any _ _ _ (by omega) (by omega) (by omega) (by omega)).mono ?_
        rintro e w' ⟨rfl, rfl⟩
        rw [ha.out]
        go_wp2_with fail
        unfold maxLen at hcm
        refine (above_any _ _ _ (by omega) (by omega) (by omega) (by omega)).mono ?_
        rintro e w' ⟨rfl, rfl⟩
        rw [hb.out]
        go_wp2_with fail
        go_ret3
        exact taketext_no (e := 3) e1.out (by omega)
      · have e1 := hid (show pTakeText l most = ((pRest l).take x, k + x, 0) by
          unfold pTakeText; rw [pRest_of ht, ht]; simp only [ne_eq, not_true_eq_false, if_false]; rw [if_neg (by omega), if_neg (by omega)]; rfl)
        have e2 := hid (show pRestText l most = (pRest l).drop x by
          unfold pRestText; rw [e1.out, if_pos rfl, pRest_of ht, if_pos rfl, List.drop_drop])
        have ha := hid a1'
        have hb := hid (show aboveB xi ((n - k : Nat) : Int) = false by rw [aboveB_false]; omega)
        have hxm : xi ≤ ((n - k : Nat) : Int) := by omega
        clear ht p1 p3 p4 hxi hrl a1 a1' hx62 hl a2
        go_enter Try.func31, Try.ntmps31
        go_wp2_with fail
        refine (takeNumber_any _ _ _ l B _ hr hnc hc).mono ?_
        rintro e w1 ⟨R, m, c1, q, rfl, hR, hm, hcm, rfl⟩
        rw [HT.out]
        simp only [← HX.out]
        have hml := hR.len
        rw [vbs_len, HR.out] at hml
        subst hml
        go_wp2_with fail
        refine (above_any _ _ _ (by omega) (by omega) (by omega) (by omega)).mono ?_
        rintro e w' ⟨rfl, rfl⟩
        rw [ha.out]
        go_wp2_with fail
        unfold maxLen at hcm
        refine (above_any _ _ _ (by omega) (by omega) (by omega) (by omega)).mono ?_
        rintro e w' ⟨rfl, rfl⟩
        rw [hb.out]
        have hxt : xi.toNat = x := by rw [HX.out]; rfl
        have hxn : x ≤ n - k := by omega
        have hRt : Rd w B 1 R xi.toNat (vbs ((pRest l).take x)) := by
          have h := hR.take hxn
          rw [Nat.mul_one, vbs_take] at h
          rw [hxt]
          exact h
        have s1 : ∀ q, (convert 22 9 (.slice R xi.toNat c1)).run Try.prog (w.drewN q) = .ok (.string (txt ((pRest l).take x))) (w.drewN q) := fun q => str_run (w.drewN q) (c := c1) (hRt.drewN q)
        have hxc : xi.toNat ≤ c1 := by omega
        have HXT := hid hxt
        have HXN := hid hxn
        clear hxt hxn
        go_wp2_with fail
        go_quiet (fail)
        go_wp2
        all_goals go_ret3
        all_goals
          (try rw [HXT.out] at *)
          exact taketext_yes hR HXN.out hm hcm e1.out e2.out (by first | (rw [if_pos (by omega)]; done) | (rw [if_neg (by omega)]; done)) (by first | rfl | omega) (by first | rfl | omega)
  · have hz := pTake_err l (by rw [ht]; exact hf)
    rw [ht] at hz
    obtain ⟨hz1, hz2, hz3⟩ := hz
    simp only at hz1 hz2 hz3
    subst hz1; subst hz2
    have e1 := hid (show pTakeText l most = ([], 0, f) by unfold pTakeText; rw [ht]; simp only [ne_eq]; rw [if_pos hf])
    have hfz : ((f : Int) != 0) = true := by rw [bne_iff_ne]; omega
    have Hf := hid hf
    clear ht hl hz3 hf
    go_enter Try.func31, Try.ntmps31
    go_wp2_with (go_at_call 29; refine (takeNumber_any _ _ _ l B _ hr hnc hc).mono ?_; rintro e w1 ⟨R, m, c1, q, rfl, hR, hm, hcm, rfl⟩; rw [HT.out])
    go_ret3
    exact taketext_no (e := f) e1.out Hf.out
end Go.Proofs.Ytljmikhommkjgaa
