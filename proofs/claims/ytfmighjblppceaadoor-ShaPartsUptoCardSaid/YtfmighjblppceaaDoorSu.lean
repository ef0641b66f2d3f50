/-
  Layer 3: the walk of ShaParts.
-/
import Derived.Test.YtfmighjblppceaaDoorSo
namespace Go.Proofs.YtfmighjblppceaaDoor
open Go.RowKit

set_option maxRecDepth 100000 in
set_option maxHeartbeats 3200000 in
theorem parts_walk (A : Option Addr) (n c : Nat) (l : List UInt8) (A2 : Option Addr) (n2 c2 : Nat) (l2 : List UInt8) (A3 : Option Addr) (n3 c3 : Nat) (l3 : List UInt8) (w : World) (hL : Laid w)
    (hr : Rd w w.heap.size 1 A n (vbs l)) (hr2 : Rd w w.heap.size 1 A2 n2 (vbs l2)) (hr3 : Rd w w.heap.size 1 A3 n3 (vbs l3)) (hnc : n ≤ c) (hc : c ≤ maxLen) (hn : n ≤ 1048576) (hn2 : n2 ≤ 1048576) (hn3 : n3 ≤ 1048576) :
    Calls Tryd.prog 4 #[.slice A n c, .slice A2 n2 c2, .slice A3 n3 c3] w fun e w' => e = .returned (.bool true) ∧ Turn w w' none := by
  have hT := Turn.refl w none
  have hml := hr.len
  rw [vbs_len] at hml
  have hml2 := hr2.len
  rw [vbs_len] at hml2
  have hml3 := hr3.len
  rw [vbs_len] at hml3
  obtain ⟨X, hX⟩ : ∃ X, X = vbs (sHash l) := ⟨_, rfl⟩
  have heq : ∀ W : World, (Op.equalIn 10000 25 (.agg X.toArray) (.agg X.toArray)).run Tryd.prog W = .ok true W := fun W => by rw [hX]; exact eq32 _ (sHash_len l) W
  have HX := hid hX
  clear hX
  obtain ⟨Y, hY⟩ : ∃ Y, Y = vbs (sHash (l ++ l2)) := ⟨_, rfl⟩
  have heq2 : ∀ W : World, (Op.equalIn 10000 25 (.agg Y.toArray) (.agg Y.toArray)).run Tryd.prog W = .ok true W := fun W => by rw [hY]; exact eq32 _ (sHash_len _) W
  have HY := hid hY
  clear hY
  have hL0 := hL.1
  unfold maxLen at hc
  go_enter Tryd.func4, Tryd.ntmps4
  go_wp2_with (go_at_call 11; refine (new_any _ (hL.turn hT (by simp))).mono ?_; rintro e w1 ⟨g, rfl, hg, hh, ht1⟩; have hT := hT.trans ht1)
  go_loopw [8, 9] (fun v u w' => ∃ a k : Nat, a ≤ n ∧ k ≤ n3 ∧ v = .int .i64 (a : Int) ∧ u = .int .i64 (k : Int) ∧ HIs w' g (l.take a) ∧ Turn w1 w' (some g)) (fun _ u _ => (n3 - intOf u).toNat)
  case atStart => exact ⟨0, 0, by omega, by omega, rfl, rfl, by simpa using hh, Turn.refl w1 _⟩
  case round =>
    obtain ⟨a, k, ha, hk, rfl, rfl, hh, ht⟩ := hrel
    obtain ⟨W2, rfl⟩ : ∃ x, x = wr := ⟨wr, rfl⟩
    have hTr := hT.new ht (by simp; omega)
    have hrr := hr.turn0 hTr (Nat.le_refl _)
    by_cases hgo : k < n3 ∧ a < n
    · obtain ⟨hk3, han⟩ := hgo
      obtain ⟨b0, off, rfl, _, _⟩ := hr.head (by omega)
      obtain ⟨b3, off3, rfl, _, hc3⟩ := (hr3.turn0 hTr (Nat.le_refl _)).head (by omega)
      obtain ⟨u, hu⟩ : ∃ u, l3[k]? = some u := ⟨_, List.getElem?_eq_getElem (by omega)⟩
      have hcell := hc3 k (.int .u8 (u.toNat : Int)) (by rw [vbs, List.getElem?_map, hu]; rfl)
      have hu256 := u.toNat_lt
      clear hc3 hu
      obtain ⟨m, hm⟩ : ∃ m, m = u.toNat % 80 := ⟨_, rfl⟩
      have hmi : (u.toNat : Int) % 80 = (m : Int) := by omega
      have hm80 : m < 80 := by omega
      have f1 : ¬ c = a := by omega
      obtain ⟨e, he⟩ : ∃ e, e = min (a + m) n := ⟨_, rfl⟩
      have hae : a ≤ e := by omega
      have hen : e ≤ n := by omega
      have hrc := ((hrr.tailB (c := c) (k := a) (by omega) hnc f1).takeB (k := e - a) (by omega))
      have hcat : l.take a ++ (l.drop a).take (e - a) = l.take e := by
        rw [← List.take_add]; congr 1; omega
      have HC := hid hcat
      clear hcat hm
      by_cases hgt : a + m > n
      · have hee : e = n := by omega
        have hgi : (n : Int) < (a : Int) + (m : Int) := by omega
        rw [hee] at hrc
        go_wp2_with (first
          | (go_at_call 9; refine (own_any _ _ _ ((l.drop a).take (n - a)) w.heap.size _ hrc hTr.size (by omega)).mono ?_; rintro e' w3 ⟨A5, c5, rfl, ho5, ht5⟩; have hTr := hTr.trans ht5; have hgl := hh.lt; have hh := hh.turn0 ht5)
          | (go_at_call 12; refine (write_any (l.take a) g _ _ _ ((l.drop a).take (n - a)) _ _ (hL.turn hTr (by simp)) (by omega) hh ho5.rd (Nat.le_refl _) (fun _ e => by have := (ho5.block g e).1; omega) ho5.cap.1 ho5.cap.2 (by rw [List.length_take]; omega)).mono ?_; rintro e' w4 ⟨rfl, hh4, ht4⟩))
        have hcc := HC.out
        rw [hee] at hcc
        rw [hcc] at hh4
        refine ⟨⟨n, k + 1, by omega, by omega, rfl, rfl, hh4, (ht.trans (ht5.any (some g))).trans ht4⟩, ?_⟩
        simp [intOf]; omega
      · have hee : e = a + m := by omega
        have hgi : ¬ (n : Int) < (a : Int) + (m : Int) := by omega
        have hem : e - a = m := by omega
        rw [hem] at hrc
        have f2 : a + m ≤ c := by omega
        have f3 : a ≤ a + m := by omega
        have f4 : a + m - a = m := by omega
        go_wp2_with (first
          | (go_at_call 9; (try rw [f4]); refine (own_any _ _ _ ((l.drop a).take m) w.heap.size _ hrc hTr.size (by omega)).mono ?_; rintro e' w3 ⟨A5, c5, rfl, ho5, ht5⟩; have hTr := hTr.trans ht5; have hgl := hh.lt; have hh := hh.turn0 ht5)
          | (go_at_call 12; refine (write_any (l.take a) g _ _ _ ((l.drop a).take m) _ _ (hL.turn hTr (by simp)) (by omega) hh ho5.rd (Nat.le_refl _) (fun _ e => by have := (ho5.block g e).1; omega) ho5.cap.1 ho5.cap.2 (by rw [List.length_take]; omega)).mono ?_; rintro e' w4 ⟨rfl, hh4, ht4⟩))
        have hcc := HC.out
        rw [hem] at hcc
        rw [hcc, hee] at hh4
        refine ⟨⟨a + m, k + 1, by omega, by omega, rfl, rfl, hh4, (ht.trans (ht5.any (some g))).trans ht4⟩, ?_⟩
        simp [intOf]; omega
    · have hcut := hrr.cutB (c := c) ha hnc
      have hnot : ¬ ((k : Int) < (n3 : Int) ∧ (a : Int) < (n : Int)) := by omega
      have hgw : w.heap.size ≤ g := by have := hT.size; omega
      have hgl0 := hh.lt
      clear hrr hT ht
      by_cases hk3 : k < n3
      all_goals
        by_cases hca : c = a
        all_goals
          have han : ¬ (k < n3 ∧ a < n) := hgo
          first
            | (rw [if_pos hca] at hcut)
            | (rw [if_neg hca] at hcut)
          go_wp2_with (first
            | (go_at_call_of 9 (Value.slice A n c); refine (own_any A n c l w.heap.size _ (hr.turn0 hTr (Nat.le_refl _)) hTr.size (by omega)).mono ?_; rintro e' w3 ⟨A5, c5, rfl, ho, ht5⟩; have hTr := hTr.trans ht5; have hgl := hh.lt; have hh := hh.turn0 ht5)
            | (go_at_call_of 9 (Value.slice A n a); refine (own_any A n a l w.heap.size _ (hr.turn0 hTr (Nat.le_refl _)) hTr.size (by omega)).mono ?_; rintro e' w3 ⟨A5, c5, rfl, ho, ht5⟩; have hTr := hTr.trans ht5; have hgl := hh.lt; have hh := hh.turn0 ht5)
            | (go_at_call_of 9 (Value.slice A2 n2 c2); refine (own_any A2 n2 c2 l2 w.heap.size _ (hr2.turn0 hTr (Nat.le_refl _)) hTr.size (by omega)).mono ?_; rintro e' w3 ⟨A5, c5, rfl, ho, ht5⟩; have hTr := hTr.trans ht5; have hgl := hh.lt; have hh := hh.turn0 ht5)
            | (go_at_call 9; refine (own_any _ _ _ (l.drop a) w.heap.size _ hcut hTr.size (by omega)).mono ?_; rintro e' w3 ⟨A5, c5, rfl, ho, ht5⟩; have hTr := hTr.trans ht5; have hgl := hh.lt; have hh := hh.turn0 ht5; clear hcut)
            | (go_at_call 12; refine (write_any _ g _ _ _ _ _ _ (hL.turn hTr (by simp)) (by omega) hh ho.rd (Nat.le_refl _) (fun _ e => by have := (ho.block g e).1; omega) ho.cap.1 ho.cap.2 (by first | omega | (rw [List.length_take]; omega))).mono ?_; rintro e' w4 ⟨rfl, hh4, ht4⟩; have hh := hh4; clear hh4; (try rw [List.take_append_drop] at hh); have hTr := hTr.new ht4 (by simp; omega); clear ho)
            | (go_at_call 13; refine (hsum_any _ g _ (hL.turn hTr (by simp)) (by omega) hh (by first | omega | (rw [List.length_append]; omega))).mono ?_; rintro e' w4 ⟨rfl, ht4⟩; (first | rw [← HX.out] | rw [← HY.out]); have hTr := hTr.trans ht4; have hh := hh.turn0 ht4)
            | (go_at_call 8; refine (ssum_any _ _ _ _ _ _ (hL.turn hTr (by simp)) ho.rd (Nat.le_refl _) ho.cap.1 ho.cap.2 (by omega)).mono ?_; rintro e' w4 ⟨rfl, ht4⟩; (first | rw [← HX.out] | rw [← HY.out]); have hTr := hTr.trans ht4; have hh := hh.turn0 ht4; clear ho)
            | (at_builtin; refine wp_app rfl _ _ _ rfl elB rfl rfl ho (hr2.turn0 hTr (Nat.le_refl _)) (vbs_one l2) (by unfold maxLen; first | omega | (simp; done) | (simp; omega)) (by first | omega | (simp; done) | (simp; omega)) (by have := ht5.size; omega) ?_; intro A9 c9 w9 ho9 ht9 hb9; have hh := hh.turn ht9 (fun e => by have := (ho.block g e.symm).1; omega); have hTr := hTr.new ht9 (fun g' hg' => by have := (ho.block g' hg').1; omega); clear ho; have ho := ho9; clear ho9; rw [← vbs_append] at ho)
            | (go_at_call 7; refine (lives_any _ (hL.turn hTr (by simp))).mono ?_; rintro e' w4 ⟨rfl, ht4⟩; have hTr := hTr.trans ht4))
          go_ret
          exact ⟨rfl, hTr⟩
end Go.Proofs.YtfmighjblppceaaDoor
