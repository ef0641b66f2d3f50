/-
  Layer 3: the walk of ShaApart.
-/
import Derived.Test.YtfmighjblppceaaDoorSo
namespace Go.Proofs.YtfmighjblppceaaDoor
open Go.RowKit

set_option maxHeartbeats 800000 in
theorem least_any (x : Int) (k y z : Nat) (hx : x = (k : Int)) (hz : z = min k y) (w : World) :
    Calls Tryd.prog 14 #[.int .i64 x, .int .i64 (y : Int)] w fun e w' => e = .returned (.int .i64 (z : Int)) ∧ w = w' := by
  subst hx
  by_cases h : k < y
  · have hzk : z = k := by omega
    have hi : (k : Int) < (y : Int) := by omega
    subst hzk
    clear hz
    go_enter Tryd.func14, Tryd.ntmps14
    go_wp2_with fail
    go_ret
    exact ⟨rfl, rfl⟩
  · have hzk : z = y := by omega
    have hi : ¬ (k : Int) < (y : Int) := by omega
    subst hzk
    clear hz
    go_enter Tryd.func14, Tryd.ntmps14
    go_wp2_with fail
    go_ret
    exact ⟨rfl, rfl⟩

theorem take_min (l : List UInt8) (i : Nat) : l.take i ++ (l.drop i).take (min (i + 7) l.length - i) = l.take (i + 7) := by
  rw [← List.take_add]
  by_cases h : i ≤ l.length
  · rcases Nat.le_total (i + 7) l.length with h2 | h2
    · congr 1; omega
    · rw [List.take_of_length_le (by omega), List.take_of_length_le (by omega)]
  · rw [List.take_of_length_le (by omega), List.take_of_length_le (by omega)]

set_option maxRecDepth 100000 in
set_option maxHeartbeats 6400000 in
theorem apart_walk (A : Option Addr) (n c : Nat) (l : List UInt8) (A2 : Option Addr) (n2 c2 : Nat) (l2 : List UInt8) (w : World) (hL : Laid w)
    (hr : Rd w w.heap.size 1 A n (vbs l)) (hr2 : Rd w w.heap.size 1 A2 n2 (vbs l2)) (hnc : n ≤ c) (hc : c ≤ maxLen) (hnc2 : n2 ≤ c2) (hc2 : c2 ≤ maxLen) (hn : n ≤ 140737488355328) (hn2 : n2 ≤ 140737488355328) :
    Calls Tryd.prog 5 #[.slice A n c, .slice A2 n2 c2] w fun e w' => e = .returned (.bool true) ∧ Turn w w' none := by
  have hT := Turn.refl w none
  have hml := hr.len
  rw [vbs_len] at hml
  have hml2 := hr2.len
  rw [vbs_len] at hml2
  obtain ⟨X, hX⟩ : ∃ X, X = vbs (sHash l) := ⟨_, rfl⟩
  have heq : ∀ W : World, (Op.equalIn 10000 25 (.agg X.toArray) (.agg X.toArray)).run Tryd.prog W = .ok true W := fun W => by rw [hX]; exact eq32 _ (sHash_len l) W
  have HX := hid hX
  clear hX
  obtain ⟨Y, hY⟩ : ∃ Y, Y = vbs (sHash l2) := ⟨_, rfl⟩
  have heq2 : ∀ W : World, (Op.equalIn 10000 25 (.agg Y.toArray) (.agg Y.toArray)).run Tryd.prog W = .ok true W := fun W => by rw [hY]; exact eq32 _ (sHash_len l2) W
  have HY := hid hY
  clear hY
  have hL0 := hL.1
  unfold maxLen at hc hc2
  go_enter Tryd.func5, Tryd.ntmps5
  go_wp2_with (go_at_call 11; refine (new_any _ (hL.turn hT (by simp))).mono ?_; first
    | (have hq := hh1; clear hq; rintro e w2 ⟨g2, rfl, hg2, hh2, ht2⟩; have g12 : g1 < g2 := (by have := hh1.lt; omega); have hh1 := hh1.turn0 ht2; have hs1 := hT.size; have hT := hT.trans ht2)
    | (rintro e w1 ⟨g1, rfl, hg1, hh1, ht1⟩; have hT := hT.trans ht1))
  go_loopw [7] (fun v w' => ∃ i : Nat, i ≤ n + n2 + 7 ∧ v = .int .i64 (i : Int) ∧ HIs w' g1 (l.take i) ∧ HIs w' g2 (l2.take i) ∧ Turn w w' none) (fun v _ => (n + n2 + 14 - intOf v).toNat)
  case atStart => exact ⟨0, by omega, rfl, by simpa using hh1, by simpa using hh2, hT⟩
  case round =>
    obtain ⟨i, hi, rfl, hh1, hh2, hT⟩ := hrel
    have hg2w : w.heap.size ≤ g2 := by omega
    by_cases hia : i < n
    · by_cases hib : i < n2
      · obtain ⟨b0, off, rfl, _, _⟩ := hr.head (by omega)
        obtain ⟨ea, he⟩ : ∃ ea, ea = min (i + 7) n := ⟨_, rfl⟩
        have hcat := take_min l i
        rw [hml, ← he] at hcat
        have hf1 : ¬ c = i := by omega
        have hf2 : i ≤ ea := by omega
        have hf3 : ea ≤ c := by omega
        have hf4 : (i : Int) ≤ (ea : Int) := by omega
        have hf5 : (ea : Int) ≤ (c : Int) := by omega
        have hf6 : ea ≤ n := by omega
        have HH := hid (And.intro he hcat)
        have hel : ea - i ≤ 140737488355328 := by omega
        clear he hcat
        obtain ⟨b3, off3, rfl, _, _⟩ := hr2.head (by omega)
        obtain ⟨eb, he2⟩ : ∃ eb, eb = min (i + 7) n2 := ⟨_, rfl⟩
        have hcat2 := take_min l2 i
        rw [hml2, ← he2] at hcat2
        have hf12 : ¬ c2 = i := by omega
        have hf22 : i ≤ eb := by omega
        have hf32 : eb ≤ c2 := by omega
        have hf42 : (i : Int) ≤ (eb : Int) := by omega
        have hf52 : (eb : Int) ≤ (c2 : Int) := by omega
        have hf62 : eb ≤ n2 := by omega
        have HH2 := hid (And.intro he2 hcat2)
        have hel2 : eb - i ≤ 140737488355328 := by omega
        clear he2 hcat2
        go_wp2_with (first
          | (go_at_call_of 14 (Value.int .i64 (n : Int)); refine (least_any _ (i + 7) n ea (by omega) HH.out.1 _).mono ?_; rintro e' w' ⟨rfl, rfl⟩)
          | (go_at_call_of 9 (Value.slice (some ⟨b0, off + i, none⟩) (ea - i) (c - i)); refine (own_any _ _ _ ((l.drop i).take (ea - i)) w.heap.size _ (((hr.turn0 hT (Nat.le_refl _)).tailB (c := c) (k := i) (by omega) hnc hf1).takeB (by omega)) hT.size hel).mono ?_; rintro e' w3 ⟨A5, c5, rfl, ho, ht5⟩; have hgl1 := hh1.lt; have hgl2 := hh2.lt; have hh1 := hh1.turn0 ht5; have hh2 := hh2.turn0 ht5; have hT := hT.trans ht5)
          | (go_at_call_of 12 (Value.pointer (some ⟨g1, 0, none⟩)); refine (write_any _ g1 _ _ _ _ _ _ (hL.turn hT (by simp)) (by omega) hh1 ho.rd (Nat.le_refl _) (fun _ e => by have := (ho.block g1 e).1; omega) ho.cap.1 ho.cap.2 (by rw [List.length_take]; omega)).mono ?_; rintro e' w4 ⟨rfl, hh4, ht4⟩; have hh1 := hh4; clear hh4; have hh2 := hh2.turn ht4 (by simp; omega); have hT := hT.new ht4 (by simp; omega); clear ho)
          | (go_at_call_of 14 (Value.int .i64 (n2 : Int)); refine (least_any _ (i + 7) n2 eb (by omega) HH2.out.1 _).mono ?_; rintro e' w' ⟨rfl, rfl⟩)
          | (go_at_call_of 9 (Value.slice (some ⟨b3, off3 + i, none⟩) (eb - i) (c2 - i)); refine (own_any _ _ _ ((l2.drop i).take (eb - i)) w.heap.size _ (((hr2.turn0 hT (Nat.le_refl _)).tailB (c := c2) (k := i) (by omega) hnc2 hf12).takeB (by omega)) hT.size hel2).mono ?_; rintro e' w3 ⟨A5, c5, rfl, ho, ht5⟩; have hgl1 := hh1.lt; have hgl2 := hh2.lt; have hh1 := hh1.turn0 ht5; have hh2 := hh2.turn0 ht5; have hT := hT.trans ht5)
          | (go_at_call_of 12 (Value.pointer (some ⟨g2, 0, none⟩)); refine (write_any _ g2 _ _ _ _ _ _ (hL.turn hT (by simp)) (by omega) hh2 ho.rd (Nat.le_refl _) (fun _ e => by have := (ho.block g2 e).1; omega) ho.cap.1 ho.cap.2 (by rw [List.length_take]; omega)).mono ?_; rintro e' w4 ⟨rfl, hh4, ht4⟩; have hh2 := hh4; clear hh4; have hh1 := hh1.turn ht4 (by simp; omega); have hT := hT.new ht4 (by simp; omega); clear ho))
        rw [HH.out.2] at hh1
        rw [HH2.out.2] at hh2
        refine ⟨⟨i + 7, by omega, rfl, hh1, hh2, hT⟩, ?_⟩
        simp [intOf]; omega
      · obtain ⟨b0, off, rfl, _, _⟩ := hr.head (by omega)
        obtain ⟨ea, he⟩ : ∃ ea, ea = min (i + 7) n := ⟨_, rfl⟩
        have hcat := take_min l i
        rw [hml, ← he] at hcat
        have hf1 : ¬ c = i := by omega
        have hf2 : i ≤ ea := by omega
        have hf3 : ea ≤ c := by omega
        have hf4 : (i : Int) ≤ (ea : Int) := by omega
        have hf5 : (ea : Int) ≤ (c : Int) := by omega
        have hf6 : ea ≤ n := by omega
        have HH := hid (And.intro he hcat)
        have hel : ea - i ≤ 140737488355328 := by omega
        clear he hcat
        have hl2 : l2.take (i + 7) = l2.take i := by rw [List.take_of_length_le (by omega), List.take_of_length_le (by omega)]
        have HL2 := hid hl2
        clear hl2
        go_wp2_with (first
          | (go_at_call_of 14 (Value.int .i64 (n : Int)); refine (least_any _ (i + 7) n ea (by omega) HH.out.1 _).mono ?_; rintro e' w' ⟨rfl, rfl⟩)
          | (go_at_call_of 9 (Value.slice (some ⟨b0, off + i, none⟩) (ea - i) (c - i)); refine (own_any _ _ _ ((l.drop i).take (ea - i)) w.heap.size _ (((hr.turn0 hT (Nat.le_refl _)).tailB (c := c) (k := i) (by omega) hnc hf1).takeB (by omega)) hT.size hel).mono ?_; rintro e' w3 ⟨A5, c5, rfl, ho, ht5⟩; have hgl1 := hh1.lt; have hgl2 := hh2.lt; have hh1 := hh1.turn0 ht5; have hh2 := hh2.turn0 ht5; have hT := hT.trans ht5)
          | (go_at_call_of 12 (Value.pointer (some ⟨g1, 0, none⟩)); refine (write_any _ g1 _ _ _ _ _ _ (hL.turn hT (by simp)) (by omega) hh1 ho.rd (Nat.le_refl _) (fun _ e => by have := (ho.block g1 e).1; omega) ho.cap.1 ho.cap.2 (by rw [List.length_take]; omega)).mono ?_; rintro e' w4 ⟨rfl, hh4, ht4⟩; have hh1 := hh4; clear hh4; have hh2 := hh2.turn ht4 (by simp; omega); have hT := hT.new ht4 (by simp; omega); clear ho))
        rw [HH.out.2] at hh1
        rw [← HL2.out] at hh2
        refine ⟨⟨i + 7, by omega, rfl, hh1, hh2, hT⟩, ?_⟩
        simp [intOf]; omega
    · by_cases hib : i < n2
      · have hl1 : l.take (i + 7) = l.take i := by rw [List.take_of_length_le (by omega), List.take_of_length_le (by omega)]
        have HL1 := hid hl1
        clear hl1
        obtain ⟨b3, off3, rfl, _, _⟩ := hr2.head (by omega)
        obtain ⟨eb, he2⟩ : ∃ eb, eb = min (i + 7) n2 := ⟨_, rfl⟩
        have hcat2 := take_min l2 i
        rw [hml2, ← he2] at hcat2
        have hf12 : ¬ c2 = i := by omega
        have hf22 : i ≤ eb := by omega
        have hf32 : eb ≤ c2 := by omega
        have hf42 : (i : Int) ≤ (eb : Int) := by omega
        have hf52 : (eb : Int) ≤ (c2 : Int) := by omega
        have hf62 : eb ≤ n2 := by omega
        have HH2 := hid (And.intro he2 hcat2)
        have hel2 : eb - i ≤ 140737488355328 := by omega
        clear he2 hcat2
        go_wp2_with (first
          | (go_at_call_of 14 (Value.int .i64 (n2 : Int)); refine (least_any _ (i + 7) n2 eb (by omega) HH2.out.1 _).mono ?_; rintro e' w' ⟨rfl, rfl⟩)
          | (go_at_call_of 9 (Value.slice (some ⟨b3, off3 + i, none⟩) (eb - i) (c2 - i)); refine (own_any _ _ _ ((l2.drop i).take (eb - i)) w.heap.size _ (((hr2.turn0 hT (Nat.le_refl _)).tailB (c := c2) (k := i) (by omega) hnc2 hf12).takeB (by omega)) hT.size hel2).mono ?_; rintro e' w3 ⟨A5, c5, rfl, ho, ht5⟩; have hgl1 := hh1.lt; have hgl2 := hh2.lt; have hh1 := hh1.turn0 ht5; have hh2 := hh2.turn0 ht5; have hT := hT.trans ht5)
          | (go_at_call_of 12 (Value.pointer (some ⟨g2, 0, none⟩)); refine (write_any _ g2 _ _ _ _ _ _ (hL.turn hT (by simp)) (by omega) hh2 ho.rd (Nat.le_refl _) (fun _ e => by have := (ho.block g2 e).1; omega) ho.cap.1 ho.cap.2 (by rw [List.length_take]; omega)).mono ?_; rintro e' w4 ⟨rfl, hh4, ht4⟩; have hh2 := hh4; clear hh4; have hh1 := hh1.turn ht4 (by simp; omega); have hT := hT.new ht4 (by simp; omega); clear ho))
        rw [← HL1.out] at hh1
        rw [HH2.out.2] at hh2
        refine ⟨⟨i + 7, by omega, rfl, hh1, hh2, hT⟩, ?_⟩
        simp [intOf]; omega
      · have hl1 : l.take i = l := List.take_of_length_le (by omega)
        have hl2 : l2.take i = l2 := List.take_of_length_le (by omega)
        rw [hl1] at hh1
        rw [hl2] at hh2
        clear hl1 hl2
        go_wp2_with (first
          | (go_at_call_of 13 (Value.pointer (some ⟨g1, 0, none⟩)); refine (hsum_any l g1 _ (hL.turn hT (by simp)) (by omega) hh1 (by omega)).mono ?_; rintro e' w4 ⟨rfl, ht4⟩; rw [← HX.out]; have hh1 := hh1.turn0 ht4; have hh2 := hh2.turn0 ht4; have hT := hT.trans ht4)
          | (go_at_call_of 13 (Value.pointer (some ⟨g2, 0, none⟩)); refine (hsum_any l2 g2 _ (hL.turn hT (by simp)) (by omega) hh2 (by omega)).mono ?_; rintro e' w4 ⟨rfl, ht4⟩; rw [← HY.out]; have hh1 := hh1.turn0 ht4; have hh2 := hh2.turn0 ht4; have hT := hT.trans ht4)
          | (go_at_call_of 9 (Value.slice A n c); refine (own_any A n c l w.heap.size _ (hr.turn0 hT (Nat.le_refl _)) hT.size (by omega)).mono ?_; rintro e' w3 ⟨A5, c5, rfl, ho, ht5⟩; have hh1 := hh1.turn0 ht5; have hh2 := hh2.turn0 ht5; have hT := hT.trans ht5)
          | (go_at_call_of 9 (Value.slice A2 n2 c2); refine (own_any A2 n2 c2 l2 w.heap.size _ (hr2.turn0 hT (Nat.le_refl _)) hT.size (by omega)).mono ?_; rintro e' w3 ⟨A5, c5, rfl, ho, ht5⟩; have hh1 := hh1.turn0 ht5; have hh2 := hh2.turn0 ht5; have hT := hT.trans ht5)
          | (go_at_call 8; refine (ssum_any _ _ _ _ _ _ (hL.turn hT (by simp)) ho.rd (Nat.le_refl _) ho.cap.1 ho.cap.2 (by omega)).mono ?_; rintro e' w4 ⟨rfl, ht4⟩; (first | rw [← HX.out] | rw [← HY.out]); have hT := hT.trans ht4; have hh1 := hh1.turn0 ht4; have hh2 := hh2.turn0 ht4; clear ho)
          | (go_at_call 7; refine (lives_any _ (hL.turn hT (by simp))).mono ?_; rintro e' w4 ⟨rfl, ht4⟩; have hT := hT.trans ht4))
        go_ret
        exact ⟨rfl, hT⟩
end Go.Proofs.YtfmighjblppceaaDoor
