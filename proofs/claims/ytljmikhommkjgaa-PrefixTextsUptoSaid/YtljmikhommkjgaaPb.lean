/-
  Layer 1: the walks of PrefixBack, PrefixTakes and PrefixOrder.
-/
import Derived.Test.YtljmikhommkjgaaPt
import Derived.Test.YtljmikhommkjgaaPl
import Derived.Deep.RegionWith
import Derived.StillTailTactics
namespace Go.Proofs.Ytljmikhommkjgaa
open Go.RowKit

theorem pTake_beh {m k : Nat} (h : pSize m = k) (hk : k ≠ 0) (r : List UInt8) : pTake (pPut m ++ r) = (m, k, 0) := by
  subst h
  exact pTake_put hk r
theorem pRest_beh {m k : Nat} (h : pSize m = k) (hk : k ≠ 0) (r : List UInt8) : pRest (pPut m ++ r) = r := by
  rw [pRest_of (pTake_beh h hk r), if_pos rfl]
  have := pPut_len m
  rw [List.drop_append_of_le_length (by omega), List.drop_of_length_le (by omega), List.nil_append]

set_option maxHeartbeats 800000 in
theorem back_walk (m : Int) (A : Option Addr) (n c : Nat) (cut : Int) (l : List UInt8) (w : World) (hr : Rd w w.heap.size 1 A n (vbs l)) (h0 : 0 ≤ m) (h1 : m ≤ 18446744073709551615) (hn : n + 8 ≤ 140737488355328) (c0 : 0 ≤ cut) (c1 : cut ≤ 255) :
    Calls Try.prog 5 #[.int .u64 m, .slice A n c, .int .u8 cut] w fun e w' => e = .returned (.bool true) ∧ Turn w w' none := by
  have hrn : Rd w w.heap.size 1 none 0 (vbs []) := Rd.none_ w _ 1 0
  obtain ⟨k, hk⟩ : ∃ k, pSize m.toNat = k := ⟨_, rfl⟩
  by_cases hz : k = 0
  · have hm : 4611686018427387904 ≤ m := by have := size_cases m h0; omega
    have e1 := hid (show pErr m.toNat = 1 by unfold pErr; rw [hk, if_pos hz])
    clear hk hz
    go_enter Try.func5, Try.ntmps5
    go_wp2_with (first
      | (go_at_call 10; refine (put_any _ _ _ _ [] _ _ hrn (Nat.le_refl _) (by omega) (by omega) (by omega)).mono ?_; rintro e w1 ⟨A1, c1, rfl, ho1, ht1⟩; rw [e1.out])
      | (go_at_call 15; refine (lives_any _).mono ?_; rintro e w4 ⟨rfl, ht4⟩))
    go_ret
    exact ⟨rfl, ht1.trans ht4⟩
  · have hm : m < 4611686018427387904 := by have := size_cases m h0; omega
    have hk8 : 1 ≤ k ∧ k ≤ 8 := by have := pSize_le m.toNat; omega
    obtain ⟨hk1, hk8⟩ := hk8
    have e1 := hid (show pErr m.toNat = 0 by unfold pErr; rw [hk, if_neg hz])
    have t1 := hid (pTake_beh hk hz l)
    have t2 := hid (pRest_beh hk hz l)
    have t3 := fun j (hj : j < k) => pTake_short (n := m.toNat) (k := j) (by omega)
    have HT := hid t3
    have hpl := hid ((pPut_len m.toNat).trans hk)
    have HK := hid hk
    have hk0 : ((k : Int) == 0) = false := by rw [beq_eq_false_iff_ne]; omega
    have hmm := hid (Int.toNat_of_nonneg h0)
    have hl := hid hr.len
    clear hk hz t3
    go_enter Try.func5, Try.ntmps5
    go_wp2_with (first
      | (go_at_call 10; refine (put_any _ _ _ _ [] _ _ hrn (Nat.le_refl _) (by omega) (by omega) (by omega)).mono ?_; rintro e w1 ⟨A1, c1, rfl, ho1, ht1⟩; rw [e1.out, HK.out, Nat.zero_add]; rw [HK.out, Nat.zero_add, List.nil_append] at ho1)
      | (go_at_call 15; refine (lives_any _).mono ?_; rintro e w4 ⟨rfl, ht4⟩))
    refine (own_any _ _ _ (pPut m.toNat) _ _ ho1.rd (Nat.le_refl _) (by omega)).mono ?_
    rintro e w2 ⟨A2, c2, rfl, ho2, ht2⟩
    have hr2 := hr.turn0 (ht1.trans ht2) (Nat.le_refl _)
    go_wp2_with (at_builtin; refine wp_app rfl _ _ _ rfl elB rfl rfl ho2 hr2 (vbs_one l) (by unfold maxLen; first | omega | (simp; done) | (simp; omega)) (by first | omega | (simp; done) | (simp; omega)) ht2.size ?_; intro A3 c3 w3 ho3 ht3 hb3)
    rw [← vbs_append] at ho3
    have hg3 := ht2.new ht3 (fun g hg => (ho2.block g hg).1)
    refine (take_any _ _ _ _ _ _ ho3.rd (Nat.le_refl _) ho3.cap.1 ho3.cap.2 (by omega)).mono ?_
    rintro e w4 ⟨A4, n4, c4, rfl, ho4, ht4⟩
    rw [t1.out]
    simp only [hmm.out]
    rw [t2.out] at ho4
    have hk0' : (0 : Int) < k := by omega
    have hcm : 0 ≤ cut % (k : Int) := Int.emod_nonneg _ (by omega)
    have hcm2 : cut % (k : Int) < k := Int.emod_lt_of_pos _ hk0'
    have hkc := ho1.cap.1
    go_wp2_with fail
    have hj : (cut % (k : Int)).toNat < k := by omega
    have t3 := HT.out _ hj
    generalize (cut % (k : Int)).toNat = j at *
    have hr5 : Rd w4 w1.heap.size 1 A1 j (vbs ((pPut m.toNat).take j)) := by
      have h := (ho1.rd.turn0 (hg3.trans ht4) (Nat.le_refl _)).take (k := j) (by omega)
      rw [Nat.mul_one, vbs_take] at h
      exact h
    have hz4 := (hg3.trans ht4).size
    refine (own_any _ _ _ _ _ _ hr5 hz4 (by omega)).mono ?_
    rintro e w5 ⟨A5, c5, rfl, ho5, ht5⟩
    have T3 := hid t3
    clear t3
    go_wp2_with fail
    refine (take_any _ _ _ _ _ _ ho5.rd (Nat.le_refl _) ho5.cap.1 ho5.cap.2 (by omega)).mono ?_
    rintro e w6 ⟨A6, n6, c6, rfl, ho6, ht6⟩
    rw [pRest_of T3.out] at ho6
    rw [T3.out]
    have hn6 : n6 = 0 := by
      have h := ho6.len
      simpa [vbs] using h.symm
    subst hn6
    have hs4 := str_run w6 (c := c4) (ho4.turn0 (ht5.trans ht6)).rd
    have hw6 := (((ht1.trans hg3).trans ht4).trans ht5).trans ht6
    have hs1 := str_run w6 (c := c) (hr.turn0 hw6 (Nat.le_refl _))
    go_wp2_with (go_at_call 15; refine (lives_any _).mono ?_; rintro e w7 ⟨rfl, ht7⟩)
    go_ret
    exact ⟨rfl, hw6.trans ht7⟩
set_option maxHeartbeats 800000 in
theorem order_walk (a b : Int) (w : World) (a0 : 0 ≤ a) (a1 : a ≤ 18446744073709551615) (b0 : 0 ≤ b) (b1 : b ≤ 18446744073709551615) :
    Calls Try.prog 6 #[.int .u64 a, .int .u64 b] w fun e w' => e = .returned (.bool true) ∧ Turn w w' none := by
  have hrn : ∀ w : World, Rd w w.heap.size 1 none 0 (vbs []) := fun w => Rd.none_ w _ 1 0
  have HR := hid hrn
  clear hrn
  obtain ⟨ea, hea⟩ : ∃ x, pErr a.toNat = x := ⟨_, rfl⟩
  obtain ⟨eb, heb⟩ : ∃ x, pErr b.toNat = x := ⟨_, rfl⟩
  obtain ⟨ka, hka⟩ : ∃ x, pSize a.toNat = x := ⟨_, rfl⟩
  obtain ⟨kb, hkb⟩ : ∃ x, pSize b.toNat = x := ⟨_, rfl⟩
  have HEA := hid hea
  have HEB := hid heb
  have HKA := hid hka
  have HKB := hid hkb
  by_cases ca : ka = 0
  · have h1 : ea = 1 := by rw [← hea]; unfold pErr; rw [hka, if_pos ca]
    subst h1
    clear hea heb hka hkb
    go_enter Try.func6, Try.ntmps6
    go_wp2_with fail
    refine (put_any _ _ _ _ [] _ _ (HR.out w) (Nat.le_refl _) a0 a1 (by omega)).mono ?_
    rintro e w1 ⟨A1, c1, rfl, ho1, ht1⟩
    rw [HEA.out]
    go_wp2_with fail
    refine (put_any _ _ _ _ [] _ _ (HR.out w1) (Nat.le_refl _) b0 b1 (by omega)).mono ?_
    rintro e w2 ⟨A2, c2, rfl, ho2, ht2⟩
    rw [HEB.out]
    go_wp2_with (go_at_call 15; refine (lives_any _).mono ?_; rintro e w4 ⟨rfl, ht4⟩)
    go_ret
    exact ⟨rfl, (ht1.trans ht2).trans ht4⟩
  have h1 : ea = 0 := by rw [← hea]; unfold pErr; rw [hka, if_neg ca]
  subst h1
  by_cases cb : kb = 0
  · have h1 : eb = 1 := by rw [← heb]; unfold pErr; rw [hkb, if_pos cb]
    subst h1
    clear hea heb hka hkb
    go_enter Try.func6, Try.ntmps6
    go_wp2_with fail
    refine (put_any _ _ _ _ [] _ _ (HR.out w) (Nat.le_refl _) a0 a1 (by omega)).mono ?_
    rintro e w1 ⟨A1, c1, rfl, ho1, ht1⟩
    rw [HEA.out]
    go_wp2_with fail
    refine (put_any _ _ _ _ [] _ _ (HR.out w1) (Nat.le_refl _) b0 b1 (by omega)).mono ?_
    rintro e w2 ⟨A2, c2, rfl, ho2, ht2⟩
    rw [HEB.out]
    go_wp2_with (go_at_call 15; refine (lives_any _).mono ?_; rintro e w4 ⟨rfl, ht4⟩)
    go_ret
    exact ⟨rfl, (ht1.trans ht2).trans ht4⟩
  have h1 : eb = 0 := by rw [← heb]; unfold pErr; rw [hkb, if_neg cb]
  subst h1
  by_cases ck : ka = kb
  · have hlt := less_put (a := a.toNat) (b := b.toNat) (by omega) (by omega)
    have hlt2 : (decide (a.toNat < b.toNat)) = decide (a < b) := by rw [decide_eq_decide]; omega
    rw [hlt2] at hlt
    have hs : Op.bytesLess (txt (pPut a.toNat)).toList (txt (pPut b.toNat)).toList = decide (a < b) := by rw [txt_eq, txt_eq]; exact hlt
    have hk1 : ((ka : Int) != (kb : Int)) = false := by rw [ck]; simp
    clear hea heb hka hkb ck hlt hlt2
    go_enter Try.func6, Try.ntmps6
    go_wp2_with fail
    refine (put_any _ _ _ _ [] _ _ (HR.out w) (Nat.le_refl _) a0 a1 (by omega)).mono ?_
    rintro e w1 ⟨A1, c1, rfl, ho1, ht1⟩
    rw [HEA.out]
    go_wp2_with fail
    refine (put_any _ _ _ _ [] _ _ (HR.out w1) (Nat.le_refl _) b0 b1 (by omega)).mono ?_
    rintro e w2 ⟨A2, c2, rfl, ho2, ht2⟩
    rw [HEB.out]
    rw [List.nil_append, Nat.zero_add, HKA.out] at ho1
    rw [List.nil_append, Nat.zero_add, HKB.out] at ho2
    have s1 := str_run w2 (c := c1) (ho1.turn0 ht2).rd
    have s2 := str_run w2 (c := c2) ho2.rd
    go_wp2_with fail
    refine (size_any _ _ a0 a1).mono ?_
    rintro e w' ⟨rfl, rfl⟩
    rw [HKA.out]
    go_wp2_with fail
    refine (size_any _ _ b0 b1).mono ?_
    rintro e w' ⟨rfl, rfl⟩
    rw [HKB.out]
    go_wp2_with (go_at_call 15; refine (lives_any _).mono ?_; rintro e w4 ⟨rfl, ht4⟩)
    go_ret
    exact ⟨rfl, (ht1.trans ht2).trans ht4⟩
  · have hk1 : ((ka : Int) != (kb : Int)) = true := by rw [bne_iff_ne]; omega
    clear hea heb hka hkb
    go_enter Try.func6, Try.ntmps6
    go_wp2_with fail
    refine (put_any _ _ _ _ [] _ _ (HR.out w) (Nat.le_refl _) a0 a1 (by omega)).mono ?_
    rintro e w1 ⟨A1, c1, rfl, ho1, ht1⟩
    rw [HEA.out]
    go_wp2_with fail
    refine (put_any _ _ _ _ [] _ _ (HR.out w1) (Nat.le_refl _) b0 b1 (by omega)).mono ?_
    rintro e w2 ⟨A2, c2, rfl, ho2, ht2⟩
    rw [HEB.out]
    go_wp2_with fail
    refine (size_any _ _ a0 a1).mono ?_
    rintro e w' ⟨rfl, rfl⟩
    rw [HKA.out]
    go_wp2_with fail
    refine (size_any _ _ b0 b1).mono ?_
    rintro e w' ⟨rfl, rfl⟩
    rw [HKB.out]
    go_wp2_with (go_at_call 15; refine (lives_any _).mono ?_; rintro e w4 ⟨rfl, ht4⟩)
    go_ret
    exact ⟨rfl, (ht1.trans ht2).trans ht4⟩
set_option maxRecDepth 100000 in
set_option maxHeartbeats 800000 in
theorem takes_walk (A : Option Addr) (n c : Nat) (l : List UInt8) (w : World) (hr : Rd w w.heap.size 1 A n (vbs l)) (hnc : n ≤ c) (hc : c ≤ maxLen) (hn : n + 8 ≤ 140737488355328) :
    Calls Try.prog 4 #[.slice A n c] w fun e w' => e = .returned (.bool true) ∧ Turn w w' none := by
  obtain ⟨m, k, f, ht⟩ : ∃ m k f, pTake l = (m, k, f) := ⟨_, _, _, rfl⟩
  have HT := hid ht
  have hl := hr.len
  rw [vbs_len] at hl
  by_cases hf : f = 0
  · subst hf
    obtain ⟨h1, h2, h3, h4⟩ := pTake_ok ht
    have hrest := hid (show pRest l = l.drop k by rw [pRest_of ht, if_pos rfl])
    have HP := hid h4
    have HS := hid h1
    have hkn : k ≤ n := by omega
    have hm62 : (m : Int) < 4611686018427387904 := by have := size_cases (m : Int) (by omega); rw [Int.toNat_natCast] at this; omega
    obtain ⟨mi, hmi⟩ : ∃ mi : Int, mi = m := ⟨_, rfl⟩
    have HM := hid hmi
    rw [← hmi] at hm62
    have hmi0 : 0 ≤ mi := by omega
    have hmt : mi.toNat = m := by omega
    have HMT := hid hmt
    have hpe : pErr mi.toNat = 0 := by unfold pErr; rw [hmt, if_neg (by omega)]
    have HPE := hid hpe
    clear ht h1 h4 hmi hmt hpe hl
    go_enter Try.func4, Try.ntmps4
    go_wp2_with fail
    refine (own_any _ _ _ l _ _ hr (Nat.le_refl _) (by omega)).mono ?_
    rintro e w1 ⟨A1, c1, rfl, ho1, ht1⟩
    go_wp2_with fail
    refine (take_any _ _ _ _ _ _ ho1.rd (Nat.le_refl _) ho1.cap.1 ho1.cap.2 (by omega)).mono ?_
    rintro e w2 ⟨A2, n2, c2, rfl, ho2, ht2⟩
    rw [hrest.out] at ho2
    rw [HT.out]
    simp only [← HM.out]
    go_wp2_with fail
    refine (rtake_any _ _ _ l _ _ (hr.turn0 (ht1.trans ht2) (Nat.le_refl _)) (by omega)).mono ?_
    rintro e w' ⟨rfl, rfl⟩
    rw [HT.out]
    simp only [← HM.out]
    go_wp2_with fail
    refine (put_any _ _ _ _ [] _ _ (Rd.none_ _ w2.heap.size 1 0) (Nat.le_refl _) hmi0 (by omega) (by omega)).mono ?_
    rintro e w3 ⟨A3, c3, rfl, ho3, ht3⟩
    rw [HPE.out]
    rw [List.nil_append, Nat.zero_add, HMT.out, HS.out, HP.out] at ho3
    rw [HMT.out, HS.out]
    have hw3 := (ht1.trans ht2).trans ht3
    have hr3 := hr.turn0 hw3 (Nat.le_refl _)
    have s1 := str_run w3.drew (c := c2) (ho2.turn0 ht3).rd.drew
    have s2 := str_run w3.drew (c := c3) ho3.rd.drew
    have s3 : Rd w3 w.heap.size 1 A k (vbs (l.take k)) := by
      have h := hr3.take hkn
      rw [Nat.mul_one, vbs_take] at h
      exact h
    have s3 := str_run w3.drew (c := c) s3.drew
    have s4 : Rd w3 w.heap.size 1 (if c = k then A else A.map (·.add k)) (n - k) (vbs (l.drop k)) := by
      have h := hr3.cut (c := c) hkn hnc
      rw [Nat.mul_one, vbs_drop] at h
      exact h
    have s4 := str_run w3.drew (c := c - k) s4.drew
    unfold maxLen at hc
    obtain ⟨B0, off, rfl, _, _⟩ := hr.head (by omega)
    have ead : (⟨B0, off, none⟩ : Addr).add k = ⟨B0, off + k, none⟩ := by unfold Addr.add; rw [if_neg (by omega)]
    by_cases hck : c = k
    · rw [if_pos hck] at s4
      subst hck
      rw [Nat.sub_self, show n - c = 0 by omega] at s4
      go_wp2_with fail
      go_still_tail 21, (by kernel_rfl)
      change wpList _ _ _ _ _ w3.drew
      go_wp2_with (go_at_call 15; refine (lives_any _).mono ?_; rintro e w4 ⟨rfl, ht4⟩)
      go_ret
      exact ⟨rfl, hw3.drew.trans ht4⟩
    · rw [if_neg hck, Option.map_some, ead] at s4
      have hkc : k ≤ c := by omega
      go_wp2_with fail
      go_still_tail 21, (by kernel_rfl)
      change wpList _ _ _ _ _ w3.drew
      go_wp2_with (go_at_call 15; refine (lives_any _).mono ?_; rintro e w4 ⟨rfl, ht4⟩)
      go_ret
      exact ⟨rfl, hw3.drew.trans ht4⟩
  · have hz : m = 0 ∧ k = 0 ∧ (f = 3 ∨ f = 4) := by
      cases l with
      | nil => rw [pTake] at ht; simp only [Prod.mk.injEq] at ht; omega
      | cons b r =>
        rw [pTake] at ht
        split at ht
        · simp only [Prod.mk.injEq] at ht; omega
        split at ht
        · simp only [Prod.mk.injEq] at ht; omega
        · simp only [Prod.mk.injEq] at ht; omega
    obtain ⟨rfl, rfl, hf3⟩ := hz
    have hrest := hid (show pRest l = [] by rw [pRest_of ht, if_neg hf])
    have hfz : ((f : Int) != 0) = true := by rw [bne_iff_ne]; omega
    clear ht hl hf3
    go_enter Try.func4, Try.ntmps4
    go_wp2_with fail
    refine (own_any _ _ _ l _ _ hr (Nat.le_refl _) (by omega)).mono ?_
    rintro e w1 ⟨A1, c1, rfl, ho1, ht1⟩
    go_wp2_with fail
    refine (take_any _ _ _ _ _ _ ho1.rd (Nat.le_refl _) ho1.cap.1 ho1.cap.2 (by omega)).mono ?_
    rintro e w2 ⟨A2, n2, c2, rfl, ho2, ht2⟩
    rw [hrest.out] at ho2
    have hn2 : n2 = 0 := by have h := ho2.len; simpa [vbs] using h.symm
    subst hn2
    rw [HT.out]
    go_wp2_with fail
    refine (rtake_any _ _ _ l _ _ (hr.turn0 (ht1.trans ht2) (Nat.le_refl _)) (by omega)).mono ?_
    rintro e w' ⟨rfl, rfl⟩
    rw [HT.out]
    go_wp2_with (go_at_call 15; refine (lives_any _).mono ?_; rintro e w4 ⟨rfl, ht4⟩)
    go_ret
    exact ⟨rfl, (ht1.trans ht2).trans ht4⟩
end Go.Proofs.Ytljmikhommkjgaa
