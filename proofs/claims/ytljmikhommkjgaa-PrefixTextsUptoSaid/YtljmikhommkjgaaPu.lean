/-
  Layer 1: what TakeTexts of package prefix and of the document's own answers does, and Same.
-/
import Derived.Test.YtljmikhommkjgaaPs
namespace Go.Proofs.Ytljmikhommkjgaa
open Go.RowKit

/-! ### Plain functions -/
/-- So many texts out of bytes: the texts, how many bytes these are, the error. -/
def pMany : Nat → List UInt8 → Int → List (List UInt8) × Nat × Nat
  | 0, _, _ => ([], 0, 0)
  | n + 1, l, each =>
    if (pTakeText l each).2.2 ≠ 0 then ([], 0, (pTakeText l each).2.2)
    else if (pMany n (l.drop (pTakeText l each).2.1) each).2.2 ≠ 0 then ([], 0, (pMany n (l.drop (pTakeText l each).2.1) each).2.2)
    else ((pTakeText l each).1 :: (pMany n (l.drop (pTakeText l each).2.1) each).1, (pTakeText l each).2.1 + (pMany n (l.drop (pTakeText l each).2.1) each).2.1, 0)
/-- What was taken ahead, and what comes of the rest. -/
def pAhead (ts : List (List UInt8)) (k : Nat) (r : List (List UInt8) × Nat × Nat) : List (List UInt8) × Nat × Nat :=
  if r.2.2 ≠ 0 then ([], 0, r.2.2) else (ts ++ r.1, k + r.2.1, 0)
def pTakeTexts (l : List UInt8) (most each : Int) : List (List UInt8) × Nat × Nat :=
  if (pTake l).2.2 ≠ 0 then ([], 0, (pTake l).2.2)
  else if most < 0 ∨ most < ((pTake l).1 : Int) then ([], 0, 2)
  else pAhead [] (pTake l).2.1 (pMany (pTake l).1 (l.drop (pTake l).2.1) each)
def pRestTexts (l : List UInt8) (most each : Int) : List UInt8 := if (pTakeTexts l most each).2.2 = 0 then l.drop (pTakeTexts l most each).2.1 else []

theorem pMany_err {n : Nat} {l : List UInt8} {each : Int} (h : (pMany n l each).2.2 ≠ 0) : (pMany n l each).1 = [] ∧ (pMany n l each).2.1 = 0 := by
  cases n with
  | zero => simp [pMany] at h
  | succ n =>
    rw [pMany] at h ⊢
    split
    · simp
    split
    · simp
    · rename_i h1 h2
      rw [if_neg h1, if_neg h2] at h
      simp at h
/-- One text more. -/
theorem pAhead_step {ts : List (List UInt8)} {k n : Nat} {l : List UInt8} {each : Int} (h : (pTakeText l each).2.2 = 0) :
    pAhead ts k (pMany (n + 1) l each) = pAhead (ts ++ [(pTakeText l each).1]) (k + (pTakeText l each).2.1) (pMany n (l.drop (pTakeText l each).2.1) each) := by
  by_cases h2 : (pMany n (l.drop (pTakeText l each).2.1) each).2.2 = 0
  · simp [pAhead, pMany, h, h2, Nat.add_assoc]
  · simp [pAhead, pMany, h, h2]
theorem pAhead_stop {ts : List (List UInt8)} {k n : Nat} {l : List UInt8} {each : Int} (h : (pTakeText l each).2.2 ≠ 0) :
    pAhead ts k (pMany (n + 1) l each) = ([], 0, (pTakeText l each).2.2) := by
  unfold pAhead
  rw [pMany, if_pos h]
  simp [h]
theorem pAhead_end (ts : List (List UInt8)) (k : Nat) (l : List UInt8) (each : Int) : pAhead ts k (pMany 0 l each) = (ts, k, 0) := by
  simp [pAhead, pMany]
/-- A text takes a byte at least. -/
theorem pTakeText_pos {l : List UInt8} {most : Int} (h : (pTakeText l most).2.2 = 0) : 0 < (pTakeText l most).2.1 := by
  unfold pTakeText at *
  split
  · rename_i h1
    rw [if_pos h1] at h
    exact absurd h h1
  split
  · rename_i h1 h2
    rw [if_neg h1, if_pos h2] at h
    simp at h
  split
  · rename_i h1 h2 h3
    rw [if_neg h1, if_neg h2, if_pos h3] at h
    simp at h
  · rename_i h1 h2 h3
    obtain ⟨n, k, e, ht⟩ : ∃ n k e, pTake l = (n, k, e) := ⟨_, _, _, rfl⟩
    rw [ht] at h1 ⊢
    have he : e = 0 := by simpa using h1
    subst he
    obtain ⟨_, h4, _, _⟩ := pTake_ok ht
    simp only
    omega

/-- The cells of texts that are lists of bytes. -/
def tvl (ts : List (List UInt8)) : List Value := ts.map fun t => .string (txt t)
theorem tvl_snoc (ts : List (List UInt8)) (t : List UInt8) : tvl (ts ++ [t]) = tvl ts ++ [.string (txt t)] := by simp [tvl]
theorem tvl_len (ts : List (List UInt8)) : (tvl ts).length = ts.length := by simp [tvl]

/-! ### The calls -/
/-- What TakeTexts leaves, of package prefix. -/
def TakeTextsPost (l : List UInt8) (most each : Int) (w : World) (e : Ending) (w' : World) : Prop :=
  ∃ T m d R n c, e = .returned (.tuple #[.slice T m d, .slice R n c, .int .i64 ((pTakeTexts l most each).2.2 : Nat)]) ∧ Own w' w.heap.size 9 1 T m d (tvl (pTakeTexts l most each).1) ∧
    Own w' w.heap.size 5 1 R n c (vbs (pRestTexts l most each)) ∧ Turn w w' none

theorem taketexts_no {l : List UInt8} {most each : Int} {w w' : World} {f : Nat} (h : pTakeTexts l most each = ([], 0, f)) (hf : f ≠ 0) (ht : Turn w w' none) :
    TakeTextsPost l most each w (.returned (.tuple #[.slice none 0 0, .slice none 0 0, .int .i64 f])) w' := by
  refine ⟨none, 0, 0, none, 0, 0, by rw [h], ?_, ?_, ht⟩
  · rw [h]; exact Own.nil w' _ _ 1
  · unfold pRestTexts; rw [h, if_neg hf]; exact Own.nil w' _ _ 1

set_option maxRecDepth 100000 in
set_option maxHeartbeats 1600000 in
theorem takeTexts_any (A : Option Addr) (n c : Nat) (most each : Int) (l : List UInt8) (B : Nat) (w : World) (hr : Rd w B 1 A n (vbs l)) (hB : B ≤ w.heap.size) (hnc : n ≤ c) (hc : c ≤ maxLen) (hn : n ≤ 1048576)
    (h2 : -9223372036854775808 ≤ most) (h3 : most ≤ 9223372036854775807) (h4 : -9223372036854775808 ≤ each) (h5 : each ≤ 9223372036854775807) :
    Calls Try.prog 24 #[.slice A n c, .int .i64 most, .int .i64 each] w (TakeTextsPost l most each w) := by
  obtain ⟨x, k, f, ht⟩ : ∃ x k f, pTake l = (x, k, f) := ⟨_, _, _, rfl⟩
  have HT := hid ht
  have hl := hr.len
  rw [vbs_len] at hl
  by_cases hf : f = 0
  · subst hf
    obtain ⟨p1, p2, p3, p4⟩ := pTake_ok ht
    have hx62 := pTake_small ht
    obtain ⟨xi, hxi⟩ : ∃ xi : Int, xi = x := ⟨_, rfl⟩
    have hx0 : 0 ≤ xi := by omega
    have hx1 : xi < 4611686018427387904 := by omega
    have HX := hid hxi
    have hrl : (pRest l).length = n - k := by rw [pRest_of ht, if_pos rfl, List.length_drop, hl]
    have HR := hid hrl
    have hkn : k ≤ n := by omega
    by_cases a1 : aboveB xi most = true
    · have e1 := hid (show pTakeTexts l most each = ([], 0, 2) by
        unfold pTakeTexts; rw [ht]; simp only [ne_eq, not_true_eq_false, if_false]; rw [if_pos (by rw [aboveB_true, hxi] at a1; exact a1)])
      have ha := hid a1
      clear ht p1 p3 p4 hxi hrl a1 hx62 hl
      go_enter Try.func24, Try.ntmps24
      go_wp2_with (first
        | (go_at_call 29; refine (takeNumber_any _ _ _ l B _ hr hnc hc).mono ?_; rintro e w1 ⟨R, m, c1, q, rfl, hR, hm, hcm, rfl⟩; rw [HT.out]; simp only [← HX.out])
        | (go_at_call 32; refine (above_any _ _ _ (by omega) (by omega) (by omega) (by omega)).mono ?_; rintro e w' ⟨rfl, rfl⟩; rw [ha.out]))
      go_ret3
      exact taketexts_no (f := 2) e1.out (by omega) ((Turn.refl w none).drewN _)
    · have a1' : aboveB xi most = false := by simpa using a1
      have a1p := aboveB_false.1 a1'
      obtain ⟨a1l, a1r⟩ := a1p
      have e1 := hid (show pTakeTexts l most each = pAhead [] k (pMany x (pRest l) each) by
        unfold pTakeTexts; rw [pRest_of ht, ht]; simp only [ne_eq, not_true_eq_false, if_false, if_true]; rw [if_neg (by omega)])
      have ha := hid a1'
      have hRl := hid (show pRest l = l.drop k by rw [pRest_of ht, if_pos rfl])
      clear ht p1 p3 p4 hxi hrl a1 a1' hx62
      go_enter Try.func24, Try.ntmps24
      go_wp2_with fail
      refine (takeNumber_any _ _ _ l B _ hr hnc hc).mono ?_
      rintro e w1 ⟨R, m, c1, q, rfl, hR, hm, hcm, rfl⟩
      rw [HT.out]
      simp only [← HX.out]
      have hml := hR.len
      rw [vbs_len, HR.out] at hml
      subst hml
      go_wp2_with (go_at_call 32; refine (above_any _ _ _ (by omega) (by omega) (by omega) (by omega)).mono ?_; rintro e w' ⟨rfl, rfl⟩; rw [ha.out])
      go_loopw [10, 12, 27] (fun r v i wr => ∃ (j kk m d c2 : Nat) (ts : List (List UInt8)) (R T : Option Addr), j ≤ x ∧ kk ≤ n ∧ m = n - kk ∧ m ≤ c2 ∧ c2 ≤ 9223372036854775807 ∧ j ≤ kk ∧
          i = .int .u64 j ∧ r = .slice R m c2 ∧ v = .slice T j d ∧ Hid (pTakeTexts l most each = pAhead ts kk (pMany (x - j) (l.drop kk) each)) ∧
          Rd wr B 1 R m (vbs (l.drop kk)) ∧ Own wr w.heap.size 9 1 T j d (tvl ts) ∧ Turn w wr none)
        (fun r _ _ _ => match r with | .slice _ m _ => m | _ => 0)
      case atStart =>
        unfold maxLen at hcm
        refine ⟨0, k, n - k, 0, c1, [], R, none, Nat.zero_le _, hkn, rfl, hm, hcm, Nat.zero_le _, rfl, rfl, rfl, ?_, ?_, Own.nil _ _ _ 1, (Turn.refl w none).drewN _⟩
        · exact hid (by rw [e1.out, hRl.out]; rfl)
        · rw [← hRl.out]; exact hR.drewN _
      case round =>
        clear hR e1
        obtain ⟨j, kk, m, d, c2, ts, R2, T2, hjx, hkk, hmm, hmc, hc2, hjk, rfl, rfl, rfl, hpa, hR2, hO2, hT2⟩ := hrel
        have hml := hid hmm
        have hmn : m ≤ n := by omega
        clear hmm
        have hzz := hT2.size
        by_cases hlt : j < x
        · have hji : (j : Int) < xi := by have := HX.out; omega
          by_cases he : (pTakeText (l.drop kk) each).2.2 = 0
          · obtain ⟨t, k2, g, htt⟩ : ∃ t k2 g, pTakeText (l.drop kk) each = (t, k2, g) := ⟨_, _, _, rfl⟩
            have hpos := pTakeText_pos he
            have hle := pTakeText_ok he
            have e2 := hid (show pTakeTexts l most each = pAhead (ts ++ [t]) (kk + k2) (pMany (x - (j + 1)) (l.drop (kk + k2)) each) by
              have e3 : x - j = (x - (j + 1)) + 1 := by omega
              rw [hpa.out, e3, pAhead_step he, htt, List.drop_drop])
            have e4 := hid (show pRestText (l.drop kk) each = l.drop (kk + k2) by
              unfold pRestText; rw [if_pos he, htt, List.drop_drop])
            rw [htt] at he hpos hle
            simp only [List.length_drop] at he hpos hle
            subst he
            have hk2n : kk + k2 ≤ n := by omega
            obtain ⟨hle1, _⟩ := hle
            have HTT := hid htt
            clear htt hpa
            go_wp2_with (first
              | (go_at_call 31; refine (takeText_any _ _ _ _ (l.drop kk) B _ hR2 hmc hc2 h4 h5).mono ?_; rintro e w3 ⟨R3, m3, c3, q3, rfl, hR3, hm3, hcm3, rfl⟩; rw [HTT.out]; rw [e4.out] at hR3)
              | (at_builtin; refine wp_app rfl _ _ _ rfl elS rfl rfl ((hO2.drewN _).alloc _) (Rd.lit _ _ _) (by repeat (first | exact ones_nil | refine ones_cons rfl ?_)) (by unfold maxLen; first | omega | (simp; done) | (simp; omega)) (by first | omega | (simp; done) | (simp; omega)) (by first | omega | (simp; done) | (simp; omega)) ?_; intro T3 d3 w4 ho3 ht3 hb3))
            have hl3 := hR3.len
            rw [vbs_len, List.length_drop] at hl3
            have hl := hl
            have hm3n : m3 = n - (kk + k2) := by omega
            unfold maxLen at hcm3
            have hR4 := ((hR3.drewN q3).alloc (Nat.le_trans hB hzz) (.cells #[.string (txt t)] 9)).turn ht3 (by simp; omega) (fun g hg => by have := (hO2.block g hg).1; omega)
            have hT4 := ((hT2.drewN q3).alloc (.cells #[.string (txt t)] 9)).new ht3 (fun g hg => (hO2.block g hg).1)
            rw [← tvl_snoc] at ho3
            go_roundw
            case rel => exact ⟨j + 1, kk + k2, m3, d3, c3, ts ++ [t], R3, T3, by omega, hk2n, hm3n, hm3, hcm3, by omega, by go_num, rfl, rfl, e2, hR4, ho3, hT4⟩
            case measure =>
              have := hml.out
              simp only []
              omega
          · obtain ⟨g, hg⟩ : ∃ g, (pTakeText (l.drop kk) each).2.2 = g := ⟨_, rfl⟩
            have hgz : ((g : Int) != 0) = true := by rw [bne_iff_ne]; omega
            have e2 := hid (show pTakeTexts l most each = ([], 0, g) by
              have e3 : x - j = (x - j - 1) + 1 := by omega
              rw [hpa.out, e3, pAhead_stop he, hg])
            have Hg := hid (show g ≠ 0 by omega)
            have HG := hid hg
            clear he hg
            go_wp2_with (go_at_call 31; refine (takeText_any _ _ _ _ (l.drop kk) B _ hR2 hmc hc2 h4 h5).mono ?_; rintro e w3 ⟨R3, m3, c3, q3, rfl, hR3, hm3, hcm3, rfl⟩; rw [HG.out])
            go_ret3
            exact taketexts_no (f := g) e2.out Hg.out (hT2.drewN _)
        · have hji : xi ≤ (j : Int) := by have := HX.out; omega
          have hjx2 : x - j = 0 := by omega
          have e2 := hid (show pTakeTexts l most each = (ts, kk, 0) by rw [hpa.out, hjx2, pAhead_end])
          clear hpa hjx2
          go_wp2_with (go_at_call 27; refine (fresh_any _ _ _ _ (l.drop kk) B _ hR2 (by omega) (by omega) (Nat.le_trans hB hzz)).mono ?_; rintro e w4 ⟨A4, c4, rfl, ho4, ht4⟩)
          go_ret3
          refine ⟨T2, j, d, A4, m, c4, by rw [e2.out]; rfl, by rw [e2.out]; exact hO2.turn0 ht4, ?_, hT2.trans ht4⟩
          unfold pRestTexts
          rw [e2.out, if_pos rfl]
          exact ho4.mono hzz
  · have hz := pTake_err l (by rw [ht]; exact hf)
    rw [ht] at hz
    obtain ⟨hz1, hz2, hz3⟩ := hz
    simp only at hz1 hz2 hz3
    subst hz1; subst hz2
    have e1 := hid (show pTakeTexts l most each = ([], 0, f) by unfold pTakeTexts; rw [ht]; simp only [ne_eq]; rw [if_pos hf])
    have hfz : ((f : Int) != 0) = true := by rw [bne_iff_ne]; omega
    have Hf := hid hf
    clear ht hl hz3 hf
    go_enter Try.func24, Try.ntmps24
    go_wp2_with (go_at_call 29; refine (takeNumber_any _ _ _ l B _ hr hnc hc).mono ?_; rintro e w1 ⟨R, m, c1, q, rfl, hR, hm, hcm, rfl⟩; rw [HT.out])
    go_ret3
    exact taketexts_no (f := f) e1.out Hf.out ((Turn.refl w none).drewN _)
/-- What TakeTexts leaves, of the document's own answers. -/
def RTakeTextsPost (l : List UInt8) (most each : Int) (w : World) (e : Ending) (w' : World) : Prop :=
  ∃ T m d, e = .returned (.tuple #[.slice T m d, .int .i64 ((pTakeTexts l most each).2.1 : Nat), .int .i64 ((pTakeTexts l most each).2.2 : Nat)]) ∧ Own w' w.heap.size 9 1 T m d (tvl (pTakeTexts l most each).1) ∧ Turn w w' none

theorem rtaketexts_no {l : List UInt8} {most each : Int} {w w' : World} {f : Nat} (h : pTakeTexts l most each = ([], 0, f)) (ht : Turn w w' none) :
    RTakeTextsPost l most each w (.returned (.tuple #[.slice none 0 0, .int .i64 0, .int .i64 f])) w' := by
  refine ⟨none, 0, 0, by rw [h]; rfl, ?_, ht⟩
  rw [h]; exact Own.nil w' _ _ 1

set_option maxRecDepth 100000 in
set_option maxHeartbeats 1600000 in
theorem rtakeTexts_any (A : Option Addr) (n c : Nat) (most each : Int) (l : List UInt8) (B : Nat) (w : World) (hr : Rd w B 1 A n (vbs l)) (hB : B ≤ w.heap.size) (hnc : n ≤ c) (hc : c ≤ maxLen) (hn : n ≤ 1048576)
    (h2 : -9223372036854775808 ≤ most) (h3 : most ≤ 9223372036854775807) (h4 : -9223372036854775808 ≤ each) (h5 : each ≤ 9223372036854775807) :
    Calls Try.prog 25 #[.slice A n c, .int .i64 most, .int .i64 each] w (RTakeTextsPost l most each w) := by
  obtain ⟨x, k, f, ht⟩ : ∃ x k f, pTake l = (x, k, f) := ⟨_, _, _, rfl⟩
  have HT := hid ht
  have hl := hr.len
  rw [vbs_len] at hl
  by_cases hf : f = 0
  · subst hf
    obtain ⟨p1, p2, p3, p4⟩ := pTake_ok ht
    have hx62 := pTake_small ht
    obtain ⟨xi, hxi⟩ : ∃ xi : Int, xi = x := ⟨_, rfl⟩
    have hx0 : 0 ≤ xi := by omega
    have hx1 : xi < 4611686018427387904 := by omega
    have HX := hid hxi
    have hkn : k ≤ n := by omega
    by_cases a1 : most < 0
    · have e1 := hid (show pTakeTexts l most each = ([], 0, 2) by
        unfold pTakeTexts; rw [ht]; simp only [ne_eq, not_true_eq_false, if_false]; rw [if_pos (.inl a1)])
      have d1 : decide (most < 0) = true := by simpa using a1
      clear ht p1 p2 p3 p4 hxi hx62 hl
      go_enter Try.func25, Try.ntmps25
      go_wp2_with (go_at_call 17; refine (rtake_any _ _ _ l B _ hr (by omega)).mono ?_; rintro e w' ⟨rfl, rfl⟩; rw [HT.out]; simp only [← HX.out])
      go_ret3
      exact rtaketexts_no (f := 2) e1.out (Turn.refl w none)
    have d1 : decide (most < 0) = false := by simpa using a1
    by_cases a2 : most < xi
    · have e1 := hid (show pTakeTexts l most each = ([], 0, 2) by
        unfold pTakeTexts; rw [ht]; simp only [ne_eq, not_true_eq_false, if_false]; rw [if_pos (.inr (by rw [← hxi]; exact a2))])
      clear ht p1 p2 p3 p4 hxi hx62 hl
      go_enter Try.func25, Try.ntmps25
      go_wp2_with (go_at_call 17; refine (rtake_any _ _ _ l B _ hr (by omega)).mono ?_; rintro e w' ⟨rfl, rfl⟩; rw [HT.out]; simp only [← HX.out])
      go_ret3
      exact rtaketexts_no (f := 2) e1.out (Turn.refl w none)
    · have e1 := hid (show pTakeTexts l most each = pAhead [] k (pMany x (l.drop k) each) by
        unfold pTakeTexts; rw [ht]; simp only [ne_eq, not_true_eq_false, if_false]; rw [if_neg (by omega)])
      have h0 : Own (w.alloc (.cells #[] 9)) w.heap.size 9 1 (some ⟨w.heap.size, 0, none⟩) 0 0 [] := Own.made w _ _ 1 0 #[] (Nat.le_refl _) (by decide) rfl
      have hc63 : c ≤ 9223372036854775807 := by unfold maxLen at hc; omega
      clear ht p1 p2 p3 p4 hxi hx62
      go_enter Try.func25, Try.ntmps25
      go_wp2_with (go_at_call 17; refine (rtake_any _ _ _ l B _ hr (by omega)).mono ?_; rintro e w' ⟨rfl, rfl⟩; rw [HT.out]; simp only [← HX.out])
      go_loopw [10, 12, 13] (fun r v i wr => ∃ (j kk d : Nat) (ts : List (List UInt8)) (T : Option Addr), j ≤ x ∧ kk ≤ n ∧ j ≤ kk ∧
          i = .int .u64 j ∧ r = .int .i64 kk ∧ v = .slice T j d ∧ Hid (pTakeTexts l most each = pAhead ts kk (pMany (x - j) (l.drop kk) each)) ∧
          Own wr w.heap.size 9 1 T j d (tvl ts) ∧ Turn w wr none)
        (fun r _ _ _ => n - (intOf r).toNat)
      case atStart => exact ⟨0, k, 0, [], _, Nat.zero_le _, hkn, Nat.zero_le _, rfl, rfl, rfl, e1, h0, (Turn.refl w none).alloc _⟩
      case round =>
        clear e1 h0
        obtain ⟨j, kk, d, ts, T2, hjx, hkk, hjk, rfl, rfl, rfl, hpa, hO2, hT2⟩ := hrel
        have hzz := hT2.size
        have hrw := hr.turn0 hT2 hB
        have hR2 := hrw.cutB (c := c) hkk hnc
        have hkc : kk ≤ c := by omega
        have hki : (kk : Int) ≤ c := by omega
        by_cases hlt : j < x
        · have hji : (j : Int) < xi := by have := HX.out; omega
          by_cases he : (pTakeText (l.drop kk) each).2.2 = 0
          · obtain ⟨t, k2, g, htt⟩ : ∃ t k2 g, pTakeText (l.drop kk) each = (t, k2, g) := ⟨_, _, _, rfl⟩
            have hpos := pTakeText_pos he
            have hle := pTakeText_ok he
            have e2 := hid (show pTakeTexts l most each = pAhead (ts ++ [t]) (kk + k2) (pMany (x - (j + 1)) (l.drop (kk + k2)) each) by
              have e3 : x - j = (x - (j + 1)) + 1 := by omega
              rw [hpa.out, e3, pAhead_step he, htt, List.drop_drop])
            rw [htt] at he hpos hle
            simp only [List.length_drop] at he hpos hle
            subst he
            have hk2n : kk + k2 ≤ n := by omega
            obtain ⟨hle1, _⟩ := hle
            have HTT := hid htt
            have hck : ¬ c = kk := by omega
            rw [if_neg hck] at hR2
            have hmc : n - kk ≤ c - kk := by omega
            have hcm : c - kk ≤ maxLen := by unfold maxLen; omega
            have hnm : n - kk ≤ 140737488355328 := by omega
            clear htt hpa
            go_wp2_with (first
              | (go_at_call 21; refine (rtakeText_any _ _ _ _ (l.drop kk) B _ hR2 hmc hcm hnm h4 h5).mono ?_; rintro e w' ⟨rfl, rfl⟩; rw [HTT.out])
              | (at_builtin; refine wp_app rfl _ _ _ rfl elS rfl rfl (hO2.alloc _) (Rd.lit _ _ _) (by repeat (first | exact ones_nil | refine ones_cons rfl ?_)) (by unfold maxLen; first | omega | (simp; done) | (simp; omega)) (by first | omega | (simp; done) | (simp; omega)) (by first | omega | (simp; done) | (simp; omega)) ?_; intro T3 d3 w4 ho3 ht3 hb3))
            have hT4 := (hT2.alloc (.cells #[.string (txt t)] 9)).new ht3 (fun g hg => (hO2.block g hg).1)
            rw [← tvl_snoc] at ho3
            go_roundw
            case rel => exact ⟨j + 1, kk + k2, d3, ts ++ [t], T3, by omega, hk2n, by omega, by go_num, by go_num, rfl, e2, ho3, hT4⟩
            case measure => simp [intOf]; omega
          · obtain ⟨g, hg⟩ : ∃ g, (pTakeText (l.drop kk) each).2.2 = g := ⟨_, rfl⟩
            have hgz : ((g : Int) != 0) = true := by rw [bne_iff_ne]; omega
            have e2 := hid (show pTakeTexts l most each = ([], 0, g) by
              have e3 : x - j = (x - j - 1) + 1 := by omega
              rw [hpa.out, e3, pAhead_stop he, hg])
            have HG := hid hg
            have hmc : n - kk ≤ c - kk := by omega
            have hcm : c - kk ≤ maxLen := by unfold maxLen; omega
            have hnm : n - kk ≤ 140737488355328 := by omega
            clear he hg hpa
            by_cases hck : c = kk
            · rw [if_pos hck, show n - kk = 0 by omega] at hR2
              subst hck
              go_wp2_with (go_at_call 21; refine (rtakeText_any _ _ _ _ (l.drop c) B _ hR2 (Nat.zero_le _) (Nat.zero_le _) (Nat.zero_le _) h4 h5).mono ?_; rintro e w' ⟨rfl, rfl⟩; rw [HG.out])
              go_ret3
              exact rtaketexts_no (f := g) e2.out hT2
            · rw [if_neg hck] at hR2
              go_wp2_with (go_at_call 21; refine (rtakeText_any _ _ _ _ (l.drop kk) B _ hR2 hmc hcm hnm h4 h5).mono ?_; rintro e w' ⟨rfl, rfl⟩; rw [HG.out])
              go_ret3
              exact rtaketexts_no (f := g) e2.out hT2
        · have hji : xi ≤ (j : Int) := by have := HX.out; omega
          have hjx2 : x - j = 0 := by omega
          have e2 := hid (show pTakeTexts l most each = (ts, kk, 0) by rw [hpa.out, hjx2, pAhead_end])
          clear hpa hjx2
          go_wp2
          go_ret3
          exact ⟨T2, j, d, by rw [e2.out]; rfl, by rw [e2.out]; exact hO2, hT2⟩
  · have hz := pTake_err l (by rw [ht]; exact hf)
    rw [ht] at hz
    obtain ⟨hz1, hz2, hz3⟩ := hz
    simp only at hz1 hz2 hz3
    subst hz1; subst hz2
    have e1 := hid (show pTakeTexts l most each = ([], 0, f) by unfold pTakeTexts; rw [ht]; simp only [ne_eq]; rw [if_pos hf])
    have hfz : ((f : Int) != 0) = true := by rw [bne_iff_ne]; omega
    have Hf := hid hf
    clear ht hl hz3 hf
    go_enter Try.func25, Try.ntmps25
    go_wp2_with (go_at_call 17; refine (rtake_any _ _ _ l B _ hr (by omega)).mono ?_; rintro e w' ⟨rfl, rfl⟩; rw [HT.out])
    go_ret3
    exact rtaketexts_no (f := f) e1.out (Turn.refl w none)
end Go.Proofs.Ytljmikhommkjgaa
