/-
  Layer 16: IdsFull's walk.
-/
import Derived.Test.YtnkmpcepdjjopaaIdE
namespace Go.Proofs.Ytnkmpcepdjjopaa
set_option linter.unusedSimpArgs false
set_option linter.unusedVariables false
open Go.RowKit

theorem iMin (q : Nat) (h : q < 6) : (Idt.nu q).lim = q := by simp only [Idt.nu]; omega
set_option maxRecDepth 100000 in
set_option maxHeartbeats 3200000 in
theorem full16_walk (v : Nat) (hv : v ≤ 255) (A : Option Addr) (n c : Nat) (L : List (List UInt8)) (w : World) (hr : Rd w w.heap.size 1 A n (tvs L)) (hs : ∀ l ∈ L, l.length ≤ 140737488355328) (hnc : n ≤ c) (hc : c ≤ maxLen) :
    Calls Try.prog 5 #[.int .u8 (v : Int), .slice A n c] w fun e w' => e = .returned (.bool true) ∧ Turn w w' none := by
  have hn : n ≤ 9223372036854775807 := by unfold maxLen at hc; omega
  have hln := hr.len
  rw [tvs_len] at hln
  have kn : Calls Try.prog 6 #[.int .u64 ((v : Int) % 6)] w fun e w' => ∃ g, e = .returned (.pointer (some ⟨g, 0, none⟩)) ∧ (∃ S, Pt w' g S (Idt.nu (v % 6)) ∧ ∀ i, S i → w.heap.size ≤ i) ∧ Turn w w' none := by
    have h := new16_any (v % 6) w (by omega)
    rwa [show (((v % 6 : Nat)) : Int) = (v : Int) % 6 by omega] at h
  have kl := fun w => lives16_any w
  have hq := iMin (v % 6) (Nat.mod_lt _ (by decide))
  have HLN := hid hln
  clear hln
  go_enter Try.func5, Try.ntmps5
  go_wp2_with (go_at_call 6; refine kn.mono ?_; rintro e w1 ⟨g, rfl, ⟨S1, p1, r1⟩, t1⟩; have o1 : Ot w w1 g S1 (Idt.nu (v % 6)) := ⟨p1, r1, t1⟩)
  go_loopw [6] (fun i wr => ∃ (j : Nat) (S : Nat → Prop) (t : Idt), j ≤ n ∧ j ≤ 60 ∧ i = .int .i64 (j : Int) ∧ Ot w wr g S t ∧ t.lim = v % 6) (fun i _ => (n - intOf i).toNat)
  case atStart => exact ⟨0, S1, _, by omega, by omega, rfl, o1, hq⟩
  case round =>
    obtain ⟨j, S, t, hj, hj6, rfl, o, hlim⟩ := hrel
    have hwf := o.p.wf
    have hlq : t.L.length ≤ v % 6 := by have := hwf.ln; omega
    clear o1 p1 r1 t1 kn hq
    by_cases hjn : j < n
    · by_cases hj60 : j < 60
      · obtain ⟨s, hs8⟩ : ∃ s, L[j]? = some s := ⟨L[j]'(by rw [HLN.out]; exact hjn), List.getElem?_eq_getElem _⟩
        have hsl := hs s (List.mem_of_getElem? hs8)
        obtain ⟨b0, off, rfl, _, hcells⟩ := (hr.turn0 o.tw (Nat.le_refl _)).head (by omega)
        have hcell := hcells j _ (tvs_at hs8)
        have ko := of16_pt o.p (s := s) (by unfold maxLen; omega)
        have km := make16_pt o.p (s := s) hsl (by omega)
        have klen := fun {w9 : World} {S9 : Nat → Prop} {t9 : Idt} (h : Ot w w9 g S9 t9) => len16_pt h.p
        have km2 := t.make_lim s
        have hfin : ∀ w', Stp wr w' S g (t.make s).1 → ∃ S', Ot w w' g S' (t.make s).1 := fun w' h => o.stp h
        have kL := len16_pt o.p
        rcases t.make_cases s with ⟨h1, h2⟩ | ⟨h1, h3, h2⟩ | ⟨h1, h3, h2⟩
        · rw [decide_eq_true h1] at ko
          rw [h2] at km hfin km2
          simp only at km hfin km2
          generalize ((t.of s : Nat) : Int) = k at *
          clear hcells h1 h2
          go_wp2_with (first
            | (have q9 := o2; go_at_call 15; refine (klen o2).mono ?_; rintro e w4 ⟨rfl, rfl⟩)
            | (go_at_call 13; refine km.mono ?_; rintro e w2 ⟨rfl, s2⟩; obtain ⟨S2, o2⟩ := hfin _ s2)
            | (go_at_call 17; refine ko.mono ?_; rintro e w3 ⟨rfl, rfl⟩)
            | (go_at_call 15; refine kL.mono ?_; rintro e w4 ⟨rfl, rfl⟩))
          refine ⟨⟨j + 1, S2, _, by omega, by omega, rfl, o2, by omega⟩, ?_⟩
          simp [intOf]; omega
        · rw [h1] at ko
          rw [h2] at km hfin km2
          simp only at km hfin km2
          have b1 : ¬ ((t.L.length : Int) < (v : Int) % 6) := by omega
          clear hcells h1 h2
          go_wp2_with (first
            | (have q9 := o2; go_at_call 15; refine (klen o2).mono ?_; rintro e w4 ⟨rfl, rfl⟩)
            | (go_at_call 13; refine km.mono ?_; rintro e w2 ⟨rfl, s2⟩; obtain ⟨S2, o2⟩ := hfin _ s2)
            | (go_at_call 17; refine ko.mono ?_; rintro e w3 ⟨rfl, rfl⟩)
            | (go_at_call 15; refine kL.mono ?_; rintro e w4 ⟨rfl, rfl⟩))
          refine ⟨⟨j + 1, S2, _, by omega, by omega, rfl, o2, by omega⟩, ?_⟩
          simp [intOf]; omega
        · rw [h1] at ko
          rw [h2] at km hfin km2
          simp only at km hfin km2
          have b1 : (t.L.length : Int) < (v : Int) % 6 := by omega
          have e1 : (t.L ++ [s]).length = t.L.length + 1 := by simp
          clear hcells h1 h2
          go_wp2_with (first
            | (have q9 := o2; go_at_call 15; refine (klen o2).mono ?_; rintro e w4 ⟨rfl, rfl⟩)
            | (go_at_call 13; refine km.mono ?_; rintro e w2 ⟨rfl, s2⟩; obtain ⟨S2, o2⟩ := hfin _ s2)
            | (go_at_call 17; refine ko.mono ?_; rintro e w3 ⟨rfl, rfl⟩)
            | (go_at_call 15; refine kL.mono ?_; rintro e w4 ⟨rfl, rfl⟩))
          refine ⟨⟨j + 1, S2, _, by omega, by omega, rfl, o2, by omega⟩, ?_⟩
          simp [intOf]; omega
      · obtain rfl : j = 60 := by omega
        have kL := len16_pt o.p
        have b1 : (t.L.length : Int) ≤ (v : Int) % 6 := by omega
        go_wp2_with (first
          | (go_at_call 15; refine kL.mono ?_; rintro e w4 ⟨rfl, rfl⟩)
          | (go_at_call 12; refine (kl _).mono ?_; rintro e w5 ⟨rfl, t5⟩))
        go_ret
        exact ⟨rfl, o.tw.trans t5⟩
    · obtain rfl : j = n := by omega
      have kL := len16_pt o.p
      have b1 : (t.L.length : Int) ≤ (v : Int) % 6 := by omega
      go_wp2_with (first
        | (go_at_call 15; refine kL.mono ?_; rintro e w4 ⟨rfl, rfl⟩)
        | (go_at_call 12; refine (kl _).mono ?_; rintro e w5 ⟨rfl, t5⟩))
      go_ret
      exact ⟨rfl, o.tw.trans t5⟩
/-- The same, as it is read. -/
theorem full16_read (v : Int) (h0 : 0 ≤ v) (h1 : v ≤ 255) (A : Option Addr) (n c : Nat) (ss : List ByteArray) (w : World) (hr : Rd w w.heap.size 1 A n (ss.map Value.string)) (hs : ∀ s ∈ ss, s.size ≤ 140737488351232) (hnc : n ≤ c) (hc : c ≤ maxLen) :
    Calls Try.prog 5 #[.int .u8 v, .slice A n c] w fun e w' => e = .returned (.bool true) ∧ Turn w w' none := by
  obtain ⟨k, rfl⟩ : ∃ k : Nat, v = (k : Int) := ⟨v.toNat, by omega⟩
  have e : tvs (ss.map fun s => s.data.toList) = ss.map Value.string := by simp [tvs, txt_of]
  refine full16_walk k (by omega) A n c (ss.map fun s => s.data.toList) w (by rw [e]; exact hr) (fun l hl => ?_) hnc hc
  obtain ⟨s, h2, rfl⟩ := List.mem_map.1 hl
  have h3 := hs s h2
  rw [Array.length_toList]
  have h4 : s.data.size = s.size := rfl
  omega
end Go.Proofs.Ytnkmpcepdjjopaa
