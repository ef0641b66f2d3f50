/-
  Layer 1: lists of texts: as plain functions, and what PutTexts and the document's Texts do; the walk of PrefixSizes.
-/
import Derived.Test.YtljmikhommkjgaaPy
import Derived.BigQuiet
import Derived.Deep.QuietTactic
namespace Go.Proofs.Ytljmikhommkjgaa
open Go.RowKit

/-! ### Plain functions -/
/-- The cells of texts. -/
def tvs (ss : List ByteArray) : List Value := ss.map Value.string
theorem tvs_len (ss : List ByteArray) : (tvs ss).length = ss.length := by simp [tvs]
theorem tvs_one (ss : List ByteArray) : ∀ u ∈ tvs ss, u.oneCell' = true := by
  intro u hu
  obtain ⟨b, _, rfl⟩ := List.mem_map.1 hu
  rfl
theorem tvs_get {ss : List ByteArray} {k : Nat} {s : ByteArray} (h : ss[k]? = some s) : (tvs ss)[k]? = some (.string s) := by simp [tvs, h]
/-- The first i texts' bytes. -/
def textsTo (ss : List ByteArray) (i : Nat) : List UInt8 := ((ss.take i).map fun s => pText s.data.toList).flatten
def pTexts (ss : List ByteArray) : List UInt8 := pPut ss.length ++ textsTo ss ss.length
theorem textsTo_zero (ss : List ByteArray) : textsTo ss 0 = [] := by simp [textsTo]
theorem textsTo_succ {ss : List ByteArray} {i : Nat} {s : ByteArray} (h : ss[i]? = some s) : textsTo ss (i + 1) = textsTo ss i ++ pText s.data.toList := by
  unfold textsTo
  rw [List.take_add_one, h]
  simp
theorem pText_lenB (s : ByteArray) : (pText s.data.toList).length = pSize s.size + s.size := by
  rw [pText_eq, List.length_append, pPut_len, Array.length_toList]
  rfl
/-- How many bytes the texts have together. -/
def sumSz (ss : List ByteArray) : Nat := (ss.map (·.size)).sum
theorem sumSz_take {ss : List ByteArray} {i : Nat} {s : ByteArray} (h : ss[i]? = some s) : sumSz (ss.take (i + 1)) = sumSz (ss.take i) + s.size := by
  unfold sumSz
  rw [List.take_add_one, h]
  simp
theorem sumSz_le (ss : List ByteArray) (i : Nat) : sumSz (ss.take i) ≤ sumSz ss := by
  unfold sumSz
  conv => rhs; rw [← List.take_append_drop i ss, List.map_append, List.sum_append]
  omega
theorem sumSz_at {ss : List ByteArray} {i : Nat} {s : ByteArray} (h : ss[i]? = some s) : sumSz (ss.take i) + s.size ≤ sumSz ss := by
  have := sumSz_le ss (i + 1)
  rw [sumSz_take h] at this
  exact this
theorem textsTo_len (ss : List ByteArray) (i : Nat) : (textsTo ss i).length ≤ 8 * i + sumSz (ss.take i) := by
  induction i with
  | zero => simp [textsTo]
  | succ i ih =>
    cases h : ss[i]? with
    | none =>
      have e : ss.take (i + 1) = ss.take i := by rw [List.take_add_one, h]; simp
      unfold textsTo at ih ⊢
      rw [e]
      omega
    | some s =>
      rw [textsTo_succ h, List.length_append, sumSz_take h, pText_lenB]
      have := pSize_le s.size
      omega

/-! ### The calls -/
theorem elS : El Try.prog 44 9 1 16 := El.mk_ Try.underlying44 (z := .string ⟨#[]⟩) (by kernel_rfl) rfl (by decide)

set_option maxHeartbeats 400000 in
theorem putTexts_any (A : Option Addr) (n c : Nat) (T : Option Addr) (m d : Nat) (l : List UInt8) (ss : List ByteArray) (B : Nat) (w : World) (hr : Rd w B 1 A n (vbs l)) (ht : Rd w B 1 T m (tvs ss)) (hB : B ≤ w.heap.size)
    (hn : n ≤ 1048576) (hs : sumSz ss + m ≤ 1048576) :
    Calls Try.prog 22 #[.slice A n c, .slice T m d] w fun e w' =>
      ∃ A' N c', e = .returned (.slice A' N c') ∧ Own w' w.heap.size 5 1 A' N c' (vbs (l ++ pTexts ss)) ∧ Turn w w' none := by
  have hm := ht.len
  rw [tvs_len] at hm
  have HM := hid hm
  have hk := pSize_le ss.length
  have hl := hid hr.len
  clear hm
  go_enter Try.func22, Try.ntmps22
  go_wp2_with (first
    | (go_at_call 27; refine (fresh_any _ _ _ _ l B _ hr (by omega) (by omega) hB).mono ?_; rintro e w1 ⟨A1, c1, rfl, ho1, ht1⟩)
    | (go_at_call 28; refine (putNumber_any _ _ _ _ l _ _ ho1 (by omega) (by omega) (by omega) ht1.size).mono ?_; rintro e w2 ⟨A2, c2, rfl, ho2, hG2⟩; have ht2 := hG2.fresh ht1 fun g hg => (ho1.block g hg).1))
  rw [Int.toNat_natCast] at ho2
  go_loopw [5, 16] (fun v i wr => ∃ (j : Nat) (A3 : Option Addr) (N c3 : Nat), j ≤ m ∧ i = .int .i64 j ∧ v = .slice A3 N c3 ∧
      Own wr w.heap.size 5 1 A3 N c3 (vbs (l ++ (pPut ss.length ++ textsTo ss j))) ∧ Turn w wr none) (fun _ i _ => m - (intOf i).toNat)
  case atStart => exact ⟨0, A2, _, c2, Nat.zero_le _, rfl, rfl, by rw [textsTo_zero, List.append_nil, HM.out]; exact ho2, ht2⟩
  case round =>
    obtain ⟨j, A3, N, c3, hj, rfl, rfl, ho3, ht3⟩ := hrel
    have hm47 : (m : Int) ≤ 1048576 := by omega
    by_cases hlt : j < m
    · obtain ⟨s, hsj⟩ : ∃ s, ss[j]? = some s := ⟨ss[j]'(by rw [HM.out]; exact hlt), List.getElem?_eq_getElem _⟩
      obtain ⟨b0, off, rfl, _, hcells⟩ := (ht.turn0 ht3 hB).head (by omega)
      have hc := hcells j _ (tvs_get hsj)
      have hNl := ho3.len
      have h1 := textsTo_len ss j
      have h2 := sumSz_at hsj
      have hN : N + 8 + s.size ≤ 140737488355328 := by
        rw [vbs_len, List.length_append, List.length_append, pPut_len] at hNl
        have := hl.out
        rw [vbs_len] at this
        omega
      have HSJ := hid hsj
      clear hcells hsj hNl h1 h2 ho1 ho2 hG2 ht1 ht2
      go_wp2_with (go_at_call 30; refine (putText_any _ _ _ _ _ _ _ ho3 (by omega) ht3.size).mono ?_; rintro e w4 ⟨A4, c4, rfl, ho4, hG4⟩)
      go_roundw
      case measure => simp [intOf]; omega
      case rel => exact ⟨j + 1, A4, _, c4, by omega, by go_num, rfl, by rw [textsTo_succ HSJ.out, ← List.append_assoc (pPut ss.length), ← List.append_assoc]; exact ho4, hG4.fresh ht3 fun g hg => (ho3.block g hg).1⟩
    · have hjm : j = m := by omega
      have e : textsTo ss j = textsTo ss ss.length := by rw [hjm, HM.out]
      have E := hid e
      clear e hjm ho1 ho2 hG2 ht1 ht2
      go_wp2
      go_ret
      exact ⟨A3, N, c3, rfl, by rw [E.out] at ho3; exact ho3, ht3⟩

set_option maxHeartbeats 400000 in
theorem rtexts_any (A : Option Addr) (n c : Nat) (T : Option Addr) (m d : Nat) (l : List UInt8) (ss : List ByteArray) (B : Nat) (w : World) (hr : Rd w B 1 A n (vbs l)) (ht : Rd w B 1 T m (tvs ss)) (hB : B ≤ w.heap.size)
    (hn : n ≤ 1048576) (hs : sumSz ss + m ≤ 1048576) :
    Calls Try.prog 23 #[.slice A n c, .slice T m d] w fun e w' =>
      ∃ A' N c', e = .returned (.slice A' N c') ∧ Own w' w.heap.size 5 1 A' N c' (vbs (l ++ pTexts ss)) ∧ Turn w w' none := by
  have hm := ht.len
  rw [tvs_len] at hm
  have HM := hid hm
  have hk := pSize_le ss.length
  have hl := hid hr.len
  clear hm
  go_enter Try.func23, Try.ntmps23
  go_wp2_with (go_at_call 12; refine (rput_any _ _ _ _ l B _ hr hB (by omega) (by omega) (by omega)).mono ?_; rintro e w2 ⟨A2, c2, rfl, ho2, ht2⟩)
  rw [Int.toNat_natCast] at ho2
  go_loopw [5, 7] (fun v i wr => ∃ (j : Nat) (A3 : Option Addr) (N c3 : Nat), j ≤ m ∧ i = .int .i64 j ∧ v = .slice A3 N c3 ∧
      Own wr w.heap.size 5 1 A3 N c3 (vbs (l ++ (pPut ss.length ++ textsTo ss j))) ∧ Turn w wr none) (fun _ i _ => m - (intOf i).toNat)
  case atStart => exact ⟨0, A2, _, c2, Nat.zero_le _, rfl, rfl, by rw [textsTo_zero, List.append_nil, HM.out]; exact ho2, ht2⟩
  case round =>
    obtain ⟨j, A3, N, c3, hj, rfl, rfl, ho3, ht3⟩ := hrel
    have hm47 : (m : Int) ≤ 1048576 := by omega
    by_cases hlt : j < m
    · obtain ⟨s, hsj⟩ : ∃ s, ss[j]? = some s := ⟨ss[j]'(by rw [HM.out]; exact hlt), List.getElem?_eq_getElem _⟩
      obtain ⟨b0, off, rfl, _, hcells⟩ := (ht.turn0 ht3 hB).head (by omega)
      have hc := hcells j _ (tvs_get hsj)
      have hNl := ho3.len
      have h1 := textsTo_len ss j
      have h2 := sumSz_at hsj
      have hN : N + 8 + s.size ≤ 140737488355328 := by
        rw [vbs_len, List.length_append, List.length_append, pPut_len] at hNl
        have := hl.out
        rw [vbs_len] at this
        omega
      have HSJ := hid hsj
      clear hcells hsj hNl h1 h2 ho2 ht2
      go_wp2_with (go_at_call 19; refine (rtext_any _ _ _ _ _ _ _ ho3.rd (Nat.le_refl _) (by omega)).mono ?_; rintro e w4 ⟨A4, c4, rfl, ho4, ht4⟩)
      go_roundw
      case measure => simp [intOf]; omega
      case rel => exact ⟨j + 1, A4, _, c4, by omega, by go_num, rfl, by rw [textsTo_succ HSJ.out, ← List.append_assoc (pPut ss.length), ← List.append_assoc]; exact ho4.mono ht3.size, ht3.trans ht4⟩
    · have hjm : j = m := by omega
      have e : textsTo ss j = textsTo ss ss.length := by rw [hjm, HM.out]
      have E := hid e
      clear e hjm ho2 ht2
      go_wp2
      go_ret
      exact ⟨A3, N, c3, rfl, by rw [E.out] at ho3; exact ho3, ht3⟩
/-- A callee that leaves the world alone, inside a region that draws. -/
theorem quiet_w {P : Program} {f : FuncId} {args : Array Value} {w : World} {v : Value} (h : Calls P f args w fun e w' => e = .returned v ∧ w = w') : Calls P f args w fun e w'' => e = .returned v ∧ ∃ m, w'' = w.drewN m :=
  h.mono fun _ _ ⟨he, hm⟩ => ⟨he, 0, hm.symm⟩
theorem quiet_n {P : Program} {f : FuncId} {args : Array Value} {w : World} {n : Nat} {v : Value} (h : Calls P f args (w.drewN n) fun e w' => e = .returned v ∧ w.drewN n = w') :
    Calls P f args (w.drewN n) fun e w'' => e = .returned v ∧ ∃ m, w'' = w.drewN m :=
  h.mono fun _ _ ⟨he, hm⟩ => ⟨he, n, hm.symm⟩

set_option maxRecDepth 100000 in
set_option maxHeartbeats 800000 in
theorem sizes_walk (a : Int) (T : Option Addr) (m d : Nat) (ss : List ByteArray) (w : World) (a0 : 0 ≤ a) (a1 : a ≤ 18446744073709551615) (ht : Rd w w.heap.size 1 T m (tvs ss)) (hs : sumSz ss + m ≤ 1048576) :
    Calls Try.prog 9 #[.int .u64 a, .slice T m d] w fun e w' => e = .returned (.bool true) ∧ Turn w w' none := by
  have hm := ht.len
  rw [tvs_len] at hm
  have HM := hid hm
  obtain ⟨pe, hpe⟩ : ∃ x, pErr a.toNat = x := ⟨_, rfl⟩
  have hpe2 : pe = 0 ∨ pe = 1 := by rw [← hpe]; unfold pErr; split <;> simp
  have HPE := hid hpe
  clear hm hpe
  go_enter Try.func9, Try.ntmps9
  go_wp2_with fail
  refine (put_any _ _ _ _ [] _ _ (Rd.none_ w w.heap.size 1 0) (Nat.le_refl _) a0 a1 (by omega)).mono ?_
  rintro e w1 ⟨A1, c1, rfl, ho1, ht1⟩
  rw [HPE.out, Nat.zero_add]
  clear ho1
  have hne : (((pSize a.toNat : Nat) : Int) != ((pSize a.toNat : Nat) : Int)) = false := by simp
  rcases hpe2 with rfl | rfl
  all_goals
    go_wp2_with (go_at_call 13; refine (size_any _ _ (by omega) (by omega)).mono ?_; rintro e w' ⟨rfl, rfl⟩)
    go_loopw [7, 8] (fun v i wr => ∃ j : Nat, j ≤ m ∧ i = .int .i64 j ∧ v = .int .i64 ((pSize m + (textsTo ss j).length : Nat) : Int) ∧ Turn w wr none) (fun _ i _ => m - (intOf i).toNat)
    case atStart => exact ⟨0, Nat.zero_le _, rfl, by rw [textsTo_zero]; simp, ht1⟩
    case round =>
      obtain ⟨j, hj, rfl, rfl, htr⟩ := hrel
      clear ht1
      have hk8 := pSize_le m
      have hw1 := textsTo_len ss j
      have hw2 := sumSz_le ss j
      obtain ⟨L, hL⟩ : ∃ L : Nat, L = pSize m + (textsTo ss j).length := ⟨_, rfl⟩
      have hLb : (L : Int) ≤ 10485760 := by omega
      rw [← hL]
      have HLL := hid hL
      clear hw1 hw2 hL
      by_cases hlt : j < m
      · obtain ⟨s, hsj⟩ : ∃ s, ss[j]? = some s := ⟨ss[j]'(by rw [HM.out]; exact hlt), List.getElem?_eq_getElem _⟩
        obtain ⟨b0, off, rfl, _, hcells⟩ := (ht.turn0 htr (Nat.le_refl _)).head (by omega)
        have hc := hcells j _ (tvs_get hsj)
        have h2 := sumSz_at hsj
        have hss : (s.size : Int) ≤ 1048576 := by omega
        have hks := pSize_le s.size
        have HSJ := hid hsj
        have HT5 := hid (textsTo_succ hsj)
        have hjm : (j : Int) < (m : Int) := by omega
        have hsize : ∀ q, Calls Try.prog 13 #[.int .u64 (s.size : Int)] (wr.drewN q) fun e w'' => e = .returned (.int .i64 ((pSize s.size : Nat) : Int)) ∧ ∃ n, w'' = wr.drewN n := by
          intro q
          refine quiet_n ?_
          have h := size_any (s.size : Int) (wr.drewN q) (by omega) (by omega)
          rw [Int.toNat_natCast] at h
          exact h
        have HSZ := hid hsize
        clear hcells hsj h2 hsize
        go_wp2_with fail
        go_quiet ((go_at_call 13; first | exact HSZ.out _ | exact HSZ.out 0))
        have hTr := htr.drewN nq
        go_wp2_with (go_at_call 18; refine (putTextX_any _ _ _ _ [] _ _ (Rd.none_ _ w.heap.size 1 0) hTr.size (by omega)).mono ?_; rintro e w4 ⟨A4, c4, rfl, ho4, ht4⟩; rw [Nat.zero_add])
        go_roundw
        case measure => simp [intOf]; omega
        case rel =>
          refine ⟨j + 1, by omega, by go_num, ?_, hTr.trans ht4⟩
          rw [HT5.out, List.length_append, pText_lenB, HLL.out]
          congr 1
          omega
      · have hjm : j = m := by omega
        have e : L = (pTexts ss).length := by rw [HLL.out, hjm, pTexts, List.length_append, pPut_len, HM.out]
        have E := hid e
        have h0 : Own (wr.alloc (.cells #[] 9)) wr.heap.size 9 1 (some ⟨wr.heap.size, 0, none⟩) 0 0 [] := Own.made wr _ _ 1 0 #[] (Nat.le_refl _) (by decide) rfl
        have htr1 := (ht.turn0 htr (Nat.le_refl _)).alloc htr.size (.cells #[] 9)
        have hLs : (pTexts ss).length ≤ 10485760 := by omega
        clear e hjm
        go_wp2_with (first
          | (at_builtin; refine wp_app rfl _ _ _ rfl elS rfl rfl h0 htr1 (tvs_one ss) (by unfold maxLen; first | omega | (simp; done) | (simp; omega)) (by first | omega | (simp; done) | (simp; omega)) (by first | omega | (simp; done) | (simp; omega)) ?_; intro A5 c5 w5 ho5 ht5 hb5; rw [Nat.zero_add] at ho5 ⊢; rw [List.nil_append] at ho5; have hT := (htr.alloc (.cells #[] 9)).new ht5 (fun g hg => (by simp [blk] at hg; have := htr.size; omega)))
          | (go_at_call 22; refine (putTexts_any _ _ _ _ _ _ [] ss _ _ (Rd.none_ _ _ 1 0) ho5.rd (Nat.le_refl _) (by omega) hs).mono ?_; rintro e w6 ⟨A6, N6, c6, rfl, ho6, ht6⟩; have hN6 := ho6.len; rw [vbs_len, List.nil_append, ← E.out] at hN6; subst hN6)
          | (go_at_call 15; refine (lives_any _).mono ?_; rintro e w7 ⟨rfl, ht7⟩))
        go_ret
        exact ⟨rfl, (hT.trans ht6).trans ht7⟩
end Go.Proofs.Ytljmikhommkjgaa
