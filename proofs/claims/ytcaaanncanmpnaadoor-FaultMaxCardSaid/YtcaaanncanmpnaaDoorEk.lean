/-
  Layer 4: what the statements share (contracts).
-/
import Derived.Test.YtcaaanncanmpnaaDoorEj
import Derived.Deep.RegionLaw
import Derived.Deep.RegionHeld3
import Derived.Deep.DeepCutAuto
namespace Go.Proofs.YtcaaanncanmpnaaDoor
open Go.RowKit Go.Extern.Stop Go.Stop Go.Extern

/-- Of a list at most 60. -/
def cut60 (n : Nat) : Nat := if 60 < n then 60 else n
theorem few_any (A : Option Addr) (n c : Nat) (w : World) (hnc : n ≤ c) (hc : c ≤ maxLen) :
    Calls Tryd.prog 9 #[.slice A n c] w fun e w' => e = .returned (.slice A (cut60 n) c) ∧ w = w' := by
  unfold maxLen at hc
  go_enter Tryd.func9, Tryd.ntmps9
  by_cases h : 60 < n
  · have e : cut60 n = 60 := if_pos h
    have h2 : (60 : Int) < n := by omega
    have h3 : (60 : Int) ≤ c := by omega
    have h4 : 60 ≤ c := by omega
    rw [e]
    clear e
    go_wp2_with fail
    go_ret
    exact ⟨rfl, rfl⟩
  · have e : cut60 n = n := if_neg h
    have h2 : ¬ (60 : Int) < n := by omega
    rw [e]
    clear e
    go_wp2_with fail
    go_ret
    exact ⟨rfl, rfl⟩

theorem at_ne (s : ByteArray) (r : Rt) (l : List ByteArray) (w : World) (hH : Hnd w) (h : r.why ≠ 0) :
    Calls Tryd.prog 17 #[.string s, ev r l] w fun e w' => e = .returned (ev r (s :: l)) ∧ Turn w w' none := by
  have k := at_any s r l w hH
  rw [if_neg h] at k
  exact k
theorem at_zero (s : ByteArray) (r : Rt) (l : List ByteArray) (w : World) (hH : Hnd w) (h : r.why = 0) :
    Calls Tryd.prog 17 #[.string s, ev r l] w fun e w' => e = .returned .nilIface ∧ Turn w w' none := by
  have k := at_any s r l w hH
  rw [if_pos h] at k
  exact k

set_option maxHeartbeats 400000 in
theorem same_any (A A' : Option Addr) (n c c' : Nat) (ts : List ByteArray) (B B' : Nat) (w : World) (h1 : Rd w B 1 A n (svs ts)) (h2 : Rd w B' 1 A' n (svs ts)) (hn : n ≤ 140737488355328) :
    Calls Tryd.prog 16 #[.slice A n c, .slice A' n c'] w fun e w' => e = .returned (.bool true) ∧ Turn w w' none := by
  have hl := h1.len
  rw [svs_len] at hl
  have HL := hid hl
  clear hl
  go_enter Tryd.func16, Tryd.ntmps16
  go_wp2_with fail
  go_loopw [5] (fun i wr => ∃ (j : Nat), j ≤ n ∧ i = .int .i64 j ∧ ∃ q, wr = w.drewN q) (fun i _ => n - (intOf i).toNat)
  case atStart => exact ⟨0, Nat.zero_le _, rfl, 0, rfl⟩
  case round =>
    obtain ⟨j, hj, rfl, q, rfl⟩ := hrel
    by_cases hlt : j < n
    · obtain ⟨t, htj⟩ : ∃ t, ts[j]? = some t := ⟨ts[j]'(by rw [HL.out]; exact hlt), List.getElem?_eq_getElem _⟩
      have hv : (svs ts)[j]? = some (.string t) := by simp [svs, htj]
      obtain ⟨b1, o1, rfl, _, hc1⟩ := h1.head (by omega)
      obtain ⟨b2, o2, rfl, _, hc2⟩ := h2.head (by omega)
      have g1 := hc1 j _ hv
      have g2 := hc2 j _ hv
      have hji : (j : Int) < n := by omega
      clear hc1 hc2 hv htj
      go_wp2_with fail
      go_quiet (fail)
      go_wp2_with fail
      go_roundw
      case measure => simp [intOf]; omega
      case rel => exact ⟨j + 1, by omega, by go_num, _, rfl⟩
    · go_wp2
      go_ret
      exact ⟨rfl, (Turn.refl w none).drewN q⟩

set_option maxRecDepth 100000 in
set_option maxHeartbeats 1600000 in
theorem lives_any (w : World) (hH : Hnd w) : Calls Tryd.prog 13 #[] w fun e w' => e = .returned (.bool true) ∧ Turn w w' none := by
  have k1 : Calls Tryd.prog 17 #[.string ⟨#[121]⟩, .iface 24 (.int .i64 4)] w fun e w' => e = .returned (ev (.num 4) [⟨#[121]⟩]) ∧ Turn w w' none := at_ne ⟨#[121]⟩ (.num 4) [] w hH (by simp [Rt.why])
  have k2 := fun w1 ht => at_ne ⟨#[120]⟩ (.num 4) [⟨#[121]⟩] w1 (hH.turn0 (w' := w1) ht) (by simp [Rt.why])
  have k3 := fun w1 ht => why_any (.num 4) [⟨#[120]⟩, ⟨#[121]⟩] w1 (hH.turn0 (w' := w1) ht)
  have k4 := fun w1 ht => way_any (.num 4) [⟨#[120]⟩, ⟨#[121]⟩] w1 (hH.turn0 (w' := w1) ht) (by simp)
  simp only [Rt.why, List.length_cons, List.length_nil, Nat.zero_add, Nat.reduceAdd] at k3 k4
  obtain ⟨T2, u2, hT2⟩ := ev_iface (.num 4) [⟨#[120]⟩, ⟨#[121]⟩]
  rw [hT2] at k2 k3 k4
  obtain ⟨T1, u1, hT1⟩ := ev_iface (.num 4) [⟨#[121]⟩]
  rw [hT1] at k1 k2
  clear hT1 hT2
  go_enter Tryd.func13, Tryd.ntmps13
  go_wp2_with (first
    | (go_at_call_of 17 (Value.iface T1 u1); refine (k2 _ h1).mono ?_; rintro e w2 ⟨rfl, h2⟩; have hT2 := h1.trans h2)
    | (go_at_call 17; refine k1.mono ?_; rintro e w1 ⟨rfl, h1⟩)
    | (go_at_call 11; refine (k3 _ hT2).mono ?_; rintro e w3 ⟨rfl, h3⟩; have hT3 := hT2.trans h3)
    | (go_at_call 12; refine (k4 _ hT3).mono ?_; rintro e w4 ⟨A, c, rfl, hr, h4⟩; have hT4 := hT3.trans h4)
    | (go_at_call 16; refine (same_any _ _ 2 _ _ [⟨#[120]⟩, ⟨#[121]⟩] _ _ _ (hr.alloc (Nat.le_refl _) _) (Rd.lit w4 9 (svs [⟨#[120]⟩, ⟨#[121]⟩])) (by decide)).mono ?_; rintro e w5 ⟨rfl, h5⟩))
  go_ret
  exact ⟨rfl, (hT4.alloc _).trans h5⟩

/-! ### wrap -/
/-- What At makes of an error, or of none. -/
def atE (s : ByteArray) : Er → Er
  | .no => .no
  | .an r l => if r.why = 0 then .no else .an r (s :: l)
theorem atE_any (s : ByteArray) (x : Er) (w : World) (hH : Hnd w) : Calls Tryd.prog 17 #[.string s, x.val] w fun e w' => e = .returned (atE s x).val ∧ Turn w w' none := by
  cases x with
  | no => exact at_nil _ w
  | an r l =>
    by_cases h : r.why = 0
    · have e : (atE s (.an r l)).val = .nilIface := by simp [atE, h, Er.val]
      rw [e]
      exact at_zero s r l w hH h
    · have e : (atE s (.an r l)).val = ev r (s :: l) := by simp [atE, h, Er.val]
      rw [e]
      exact at_ne s r l w hH h
/-- A number wrapped at places, one behind the other. -/
def wrapE (n : Int) (l : List ByteArray) : Er := if n = 0 ∧ l ≠ [] then .no else .an (.num n) l.reverse
theorem wrapE_snoc (n : Int) (l : List ByteArray) (t : ByteArray) : wrapE n (l ++ [t]) = atE t (wrapE n l) := by
  unfold wrapE
  by_cases hn : n = 0
  · by_cases hl : l = []
    · simp [hn, hl, atE, Rt.why]
    · simp [hn, hl, atE]
  · simp [hn, atE, Rt.why]
theorem wrapE_nil (n : Int) : (wrapE n []).val = .iface 24 (.int .i64 n) := by simp [wrapE, Er.val, ev, Rt.val]

set_option maxHeartbeats 800000 in
theorem wrap_any (n : Int) (A : Option Addr) (m c B : Nat) (l : List ByteArray) (w : World) (hH : Hnd w) (hr : Rd w B 1 A m (svs l)) (hB : B ≤ w.heap.size) (hm : m ≤ 140737488355328) :
    Calls Tryd.prog 10 #[.int .i64 n, .slice A m c] w fun e w' => e = .returned (wrapE n (l.take 60)).val ∧ Turn w w' none := by
  have hl := hr.len
  rw [svs_len] at hl
  have HL := hid hl
  clear hl
  go_enter Tryd.func10, Tryd.ntmps10
  go_wp2_with fail
  go_loopw [5, 6] (fun e i wr => ∃ j : Nat, j ≤ m ∧ j ≤ 60 ∧ i = .int .i64 j ∧ e = (wrapE n (l.take j)).val ∧ Turn w wr none) (fun _ i _ => m - (intOf i).toNat)
  case atStart => exact ⟨0, Nat.zero_le _, Nat.zero_le _, rfl, by rw [List.take_zero, wrapE_nil], Turn.refl w none⟩
  case round =>
    obtain ⟨j, hj, hj2, rfl, rfl, ht⟩ := hrel
    by_cases hlt : j < m ∧ j < 60
    · obtain ⟨hlt, h60⟩ := hlt
      obtain ⟨t, htj⟩ : ∃ t, l[j]? = some t := ⟨l[j]'(by rw [HL.out]; exact hlt), List.getElem?_eq_getElem _⟩
      have hv : (svs l)[j]? = some (.string t) := by simp [svs, htj]
      obtain ⟨b1, o1, rfl, _, hc1⟩ := (hr.turn0 ht hB).head (by omega)
      have g1 := hc1 j _ hv
      have hji : (j : Int) < m := by omega
      have hj6 : (j : Int) < 60 := by omega
      have hs : wrapE n (l.take (j + 1)) = atE t (wrapE n (l.take j)) := by
        rw [List.take_add_one, htj]; exact wrapE_snoc n _ t
      have HS := hid hs
      have HT := hid htj
      have kA := atE_any t (wrapE n (l.take j)) wr (hH.turn0 ht)
      generalize (wrapE n (l.take j)).val = v at *
      clear hc1 hv htj hs
      go_wp2_with (go_at_call 17; refine kA.mono ?_; rintro e w1 ⟨rfl, h1⟩)
      go_roundw
      case measure => simp [intOf]; omega
      case rel => exact ⟨j + 1, by omega, by omega, by go_num, by rw [HS.out], ht.trans h1⟩
    · have hs : l.take j = l.take 60 := by
        have := HL.out
        rcases Nat.lt_or_ge j m with h | h
        · have : j = 60 := by omega
          rw [this]
        · rw [List.take_of_length_le (by omega), List.take_of_length_le (by omega)]
      rw [hs]
      have HS := hid hs
      clear hs
      by_cases h1 : j < m
      · have h2 : ¬ (j : Int) < 60 := by omega
        have h3 : (j : Int) < m := by omega
        go_wp2_with fail
        go_ret
        exact ⟨rfl, ht⟩
      · have h3 : ¬ (j : Int) < m := by omega
        go_wp2_with fail
        go_ret
        exact ⟨rfl, ht⟩
end Go.Proofs.YtcaaanncanmpnaaDoor
