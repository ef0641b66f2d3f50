/-
  The library's slices.Clone, Grow (of no slice) and Concat at slices of bytes: what each does.
-/
import Derived.Test.YtogajpiefegdeaaBas
import Derived.Test.YtogajpiefegdeaaRow
import Derived.Test.YtogajpiefegdeaaWid
import Derived.Lib.SliceRun
import Derived.Lib.AppendZeros
namespace Go.Proofs.Ytogajpiefegdeaa
set_option linter.unusedSimpArgs false
set_option linter.unusedVariables false
open Go.RowKit

/-- The first k of a row that is the call's own, its room behind it. -/
theorem Own.keep0 {w : World} {base E sz n c : Nat} {A : Option Addr} {xs : List Value} (h : Own w base E sz A n c xs) : Own w base E sz A 0 c [] := by
  obtain ⟨h1, h2⟩ := h
  refine ⟨by simp, ?_⟩
  rcases h2 with ⟨hv, _⟩ | ⟨g, cap, cur, hv, hg, hh, _, hm, hs, _⟩
  · injection hv with a b c
    subst a; subst b; subst c
    exact .inl ⟨rfl, rfl⟩
  · injection hv with a b c
    subst a; subst c
    exact .inr ⟨g, _, cur, rfl, hg, hh, Nat.zero_le _, hm, hs, by simp⟩

/-- Slice values, each of which shows such bytes. -/
def RowsAt (w : World) (B : Nat) (vs : List Value) (rows : List (List UInt8)) : Prop :=
  vs.length = rows.length ∧ ∀ (i : Nat) (l : List UInt8), rows[i]? = some l → ∃ a m c, vs[i]? = some (.slice a m c) ∧ Rd w B 1 a m (vbs l) ∧ m ≤ c ∧ c ≤ maxLen
theorem RowsAt.nil (w : World) (B : Nat) : RowsAt w B [] [] := ⟨rfl, fun i l h => by simp at h⟩
theorem RowsAt.cons {w : World} {B : Nat} {vs : List Value} {rows : List (List UInt8)} {a : Option Addr} {m c : Nat} {l : List UInt8} (h1 : Rd w B 1 a m (vbs l)) (h2 : m ≤ c) (h3 : c ≤ maxLen) (h : RowsAt w B vs rows) :
    RowsAt w B (.slice a m c :: vs) (l :: rows) :=
  ⟨by simp [h.1], fun i x hi => by
    cases i with
    | zero =>
      obtain rfl : l = x := by simpa using hi
      exact ⟨a, m, c, rfl, h1, h2, h3⟩
    | succ i =>
      obtain ⟨b, q, k, e, r⟩ := h.2 i x (by simpa using hi)
      exact ⟨b, q, k, by simpa using e, r⟩⟩
/-- A literal of slices. -/
theorem RowsAt.lit {w : World} {B : Nat} {vs : List Value} {rows : List (List UInt8)} (h : RowsAt w B vs rows) (hB : B ≤ w.heap.size) (E : TypeId) :
    Rw (w.alloc (.cells vs.toArray E)) (w.heap.size + 1) (some ⟨w.heap.size, 0, none⟩) vs.length vs rows :=
  ⟨Rd.lit w E vs, h.1, fun i l hi => by
    obtain ⟨a, m, c, e, r, s⟩ := h.2 i l hi
    exact ⟨a, m, c, e, (r.alloc hB _).mono (by omega), s⟩⟩

set_option maxHeartbeats 400000 in
theorem clone_any (A : Option Addr) (n c : Nat) (l : List UInt8) (B : Nat) (w : World) (hr : Rd w B 1 A n (vbs l)) (hB : B ≤ w.heap.size) (hn : n ≤ 140737530000000) :
    Calls Try.prog 34 #[.slice A n c] w fun e w' =>
      ∃ A' c', e = .returned (.slice A' n c') ∧ Own w' w.heap.size 5 1 A' n c' (vbs l) ∧ Turn w w' none := by
  have h0 : Own (w.alloc (.cells #[] 5)) w.heap.size 5 1 (some ⟨w.heap.size, 0, none⟩) 0 0 [] := Own.made w _ _ 1 0 #[] (Nat.le_refl _) (by decide) rfl
  have hr1 := hr.alloc hB (.cells #[] 5)
  have hq : ∀ (w : World) (a : Option Addr) (n c n' c' : Nat), (binOp .eql 28 (.slice a n c) (.slice none n' c')).run Try.prog w = .ok (.bool a.isNone) w := fun w a n c n' c' => Lib.run_eql_slice_nil w _ _ a n c n' c' Try.underlying28
  cases A with
  | none =>
    obtain ⟨rfl, hl⟩ := rd_nil_len hr (by decide)
    go_enter Try.func34, Try.ntmps34
    go_wp2
    go_ret
    exact ⟨none, 0, rfl, by rw [hl]; exact Own.nil _ _ _ _, Turn.refl w none⟩
  | some a =>
    go_enter Try.func34, Try.ntmps34
    go_wp2_with (at_builtin; refine wp_appW rfl _ _ _ rfl elB rfl rfl h0 hr1 (vbs_one l) (by unfold maxLen; first | omega | (simp; done) | (simp; omega)) (by first | omega | (simp; done) | (simp; omega)) (by first | omega | (simp; done) | (simp; omega)) ?_; intro A1 c1 w1 hown ht hb)
    go_ret
    refine ⟨A1, c1, ?_, ?_, (Turn.alloc (Turn.refl w none) _).new ht (fun g hg => by simp [blk] at hg; omega)⟩
    · simp
    · simpa using hown

set_option maxHeartbeats 400000 in
theorem grow_any (N : Nat) (w : World) (hn : N ≤ 140737530000000) :
    Calls Try.prog 38 #[.slice none 0 0, .int .i64 (N : Int)] w fun e w' =>
      ∃ A' c', e = .returned (.slice A' 0 c') ∧ Own w' w.heap.size 5 1 A' 0 c' [] ∧ Turn w w' none := by
  rcases Nat.eq_zero_or_pos N with rfl | hp
  · go_enter Try.func38, Try.ntmps38
    go_wp2
    go_ret
    exact ⟨none, 0, rfl, Own.nil _ _ _ _, Turn.refl w none⟩
  · have hp2 : (0 : Int) < N := by omega
    have hb1 : Try.t5.bytes = 1 := rfl
    have hx0 : ¬ N = 0 := by omega
    have hx1 : (N : Int) * (Try.t5.bytes : Int) ≤ 281474976710656 := by rw [hb1]; omega
    have hx2 : Builtin.nextslicecap N 0 ≤ 281474976710656 := by rw [nextslicecap_zero hp]; omega
    go_enter Try.func38, Try.ntmps38
    go_wp2
    go_ret
    have hge : N ≤ grownCap w N 0 5 := grownCap_ge w N 0 _
    have hcm : grownCap w N 0 5 ≤ maxLen := grownCap_le_maxLen w N 0 _ (by unfold maxLen; omega)
    refine ⟨_, _, rfl, (Own.made w w.heap.size 5 1 (grownCap w N 0 5) _ (Nat.le_refl _) hcm ?_).drew, ((Turn.refl w none).alloc _).drew⟩
    simp only [Array.size_append, size_zeroCells, List.size_toArray, List.length_singleton]
    show _ * 1 + (grownCap w N 0 5 - N) * 1 = _
    omega

/-- The bytes of rows, one behind the other. -/
theorem flat_take {rows : List (List UInt8)} {j : Nat} {l : List UInt8} (h : rows[j]? = some l) : (rows.take (j + 1)).flatten = (rows.take j).flatten ++ l := by
  rw [List.take_add_one, h]; simp
theorem flat_le (rows : List (List UInt8)) (j : Nat) : (rows.take j).flatten.length ≤ rows.flatten.length := by
  have h := congrArg (fun r => r.flatten.length) (List.take_append_drop j rows)
  simp only [List.flatten_append, List.length_append] at h
  omega

set_option maxHeartbeats 800000 in
theorem concat_any (A : Option Addr) (n c : Nat) (vs : List Value) (rows : List (List UInt8)) (B : Nat) (w : World) (hr : Rw w B A n vs rows) (hB : B ≤ w.heap.size) (hn : rows.flatten.length ≤ 140737530000000) (hnn : n ≤ 140737488355328) :
    Calls Try.prog 37 #[.slice A n c] w fun e w' =>
      ∃ A' c', e = .returned (.slice A' rows.flatten.length c') ∧ Own w' w.heap.size 5 1 A' rows.flatten.length c' (vbs rows.flatten) ∧ Turn w w' none := by
  have hl := hr.len
  go_enter Try.func37, Try.ntmps37
  go_wp2
  go_loopw [3, 11] (fun s i wr => ∃ j : Nat, j ≤ n ∧ i = .int .i64 (j : Int) ∧ s = .int .i64 ((rows.take j).flatten.length : Int) ∧ w = wr) (fun _ i _ => (n - intOf i).toNat)
  case atStart => exact ⟨0, by omega, rfl, rfl, rfl⟩
  case round =>
    obtain ⟨j, hj, rfl, rfl, rfl⟩ := hrel
    by_cases hjn : j < n
    · obtain ⟨l, hl8⟩ : ∃ l, rows[j]? = some l := ⟨rows[j]'(by omega), List.getElem?_eq_getElem (by omega)⟩
      obtain ⟨a, m, k, hv, hrl, hmk, hk⟩ := hr.2.2 j l hl8
      obtain ⟨b0, off, rfl, _, hcells⟩ := hr.1.head (by omega)
      have hcell := hcells j _ hv
      have hf1 := flat_take hl8
      have hf2 := flat_le rows (j + 1)
      rw [hf1, List.length_append] at hf2
      have hm : l.length = m := by have := hrl.len; rwa [vbs_len] at this
      rw [hm] at hf2
      generalize hS : (rows.take j).flatten.length = S at *
      clear hcells
      go_wp2
      refine ⟨⟨j + 1, by omega, rfl, by rw [hf1, List.length_append, hS, hm]; rfl, trivial⟩, ?_⟩
      simp [intOf]; omega
    · obtain rfl : j = n := by omega
      rw [List.take_of_length_le (by omega)]
      obtain ⟨S, hS⟩ : ∃ S, S = rows.flatten.length := ⟨_, rfl⟩
      rw [← hS] at hn
      rw [← hS]
      have HS := hid hS
      clear hS
      go_wp2_with (go_at_call 38; refine (grow_any S _ (by omega)).mono ?_; rintro e w1 ⟨A1, c1, rfl, ho1, ht1⟩)
      go_loopw [6, 27] (fun v i wr => ∃ (q : Nat) (A2 : Option Addr) (c2 : Nat), q ≤ j ∧ i = .int .i64 (q : Int) ∧ v = .slice A2 (rows.take q).flatten.length c2 ∧ Own wr w.heap.size 5 1 A2 (rows.take q).flatten.length c2 (vbs (rows.take q).flatten) ∧ Turn w wr none) (fun _ i _ => (j - intOf i).toNat)
      case atStart => exact ⟨0, A1, c1, by omega, rfl, rfl, ho1, ht1⟩
      case round =>
        obtain ⟨q, A2, c2, hq, rfl, rfl, ho2, ht2⟩ := hrel
        clear ho1 ht1
        by_cases hqj : q < j
        · obtain ⟨l, hl8⟩ : ∃ l, rows[q]? = some l := ⟨rows[q]'(by omega), List.getElem?_eq_getElem (by omega)⟩
          obtain ⟨a, m, k, hv, hrl, hmk, hk⟩ := hr.2.2 q l hl8
          obtain ⟨b0, off, rfl, _, hcells⟩ := (hr.1.turn0 ht2 hB).head (by omega)
          have hcell := hcells q _ hv
          have hf1 := flat_take hl8
          have hf2 := flat_le rows (q + 1)
          rw [hf1, List.length_append] at hf2
          have hm : l.length = m := by have := hrl.len; rwa [vbs_len] at this
          have hrl2 := hrl.turn0 ht2 hB
          rw [hm, ← HS.out] at hf2
          have HF := hid hf1
          clear hf1
          generalize hS2 : (rows.take q).flatten.length = S2 at *
          clear hcells
          go_wp2_with (at_builtin; refine wp_appW rfl _ _ _ rfl elB rfl rfl ho2 hrl2 (vbs_one l) (by unfold maxLen; first | omega | (simp; done) | (simp; omega)) (by first | omega | (simp; done) | (simp; omega)) (by have := ht2.size; omega) ?_; intro A3 c3 w3 ho3 ht3 hb3)
          refine ⟨⟨q + 1, A3, c3, by omega, rfl, by rw [HF.out, List.length_append, hS2, hm], ?_, ht2.new ht3 (fun g hg => (ho2.block g hg).1)⟩, ?_⟩
          · rw [HF.out, List.length_append, hS2, hm, vbs_append]; exact ho3
          · simp [intOf]; omega
        · obtain rfl : q = j := by omega
          rw [List.take_of_length_le (by omega)] at ho2
          rw [List.take_of_length_le (by omega)]
          rw [← HS.out] at ho2
          rw [← HS.out]
          go_wp2
          go_ret
          exact ⟨A2, c2, by rw [← HS.out]; rfl, by rw [← HS.out]; exact ho2, ht2⟩
end Go.Proofs.Ytogajpiefegdeaa
