/-
  Layer 5: what the document's own Scan and Same do.
-/
import Derived.Test.YtgmmmeghhfdlfaaFe
namespace Go.Proofs.Ytgmmmeghhfdlfaa
open Go.RowKit

set_option maxRecDepth 100000 in
set_option maxHeartbeats 800000 in
theorem rfscan_any (A : Option Addr) (n c : Nat) (l : List UInt8) (B : Nat) (w : World) (hr : Rd w B 1 A n (vbs l)) (hB : B ≤ w.heap.size) (hnc : n ≤ c) (hc : c ≤ maxLen) (hn : n ≤ 4398046511104) :
    Calls Try.prog 17 #[.slice A n c] w (ScPost l w) := by
  have hl := hr.len
  rw [vbs_len] at hl
  have h0 : Own (w.alloc (.cells #[] 22)) w.heap.size 22 1 (some ⟨w.heap.size, 0, none⟩) 0 0 [] := Own.made w _ _ 1 0 #[] (Nat.le_refl _) (by decide) rfl
  have hT0 : Turn w (w.alloc (.cells #[] 22)) none := (Turn.refl w none).alloc _
  unfold maxLen at hc
  go_enter Try.func17, Try.ntmps17
  go_wp2
  go_loopw [5, 6] (fun v i wr => ∃ (j : Nat) (A2 : Option Addr) (n2 c2 : Nat) (vs : List Value) (rows : List (List UInt8)), j ≤ n ∧ i = .int .i64 (j : Int) ∧ v = .slice A2 n2 c2 ∧ Ow wr w.heap.size 22 A2 n2 c2 vs rows ∧ Turn w wr none ∧ ScAt l rows j) (fun _ i _ => (n - intOf i).toNat)
  case atStart => exact ⟨0, _, 0, 0, [], [], by omega, rfl, rfl, Ow.made h0, hT0, ScAt.zero l⟩
  case round =>
    obtain ⟨j, A2, n2, c2, vs, rows, hj, rfl, rfl, how, htr, hsc⟩ := hrel
    clear h0 hT0
    by_cases hjn : j < n
    · obtain ⟨b0, off, rfl, _, _⟩ := hr.head (by omega)
      have hne : ¬ c = j := by omega
      have htail := (hr.tailB (c := c) (k := j) (by omega) hnc hne).turn0 htr hB
      have hjc : j ≤ c := by omega
      obtain ⟨x, k, e0, hp⟩ : ∃ x k e0, fTake (l.drop j) = (x, k, e0) := ⟨_, _, _, rfl⟩
      have hpost : ∀ {e : Ending} {w' : World}, RtPost (l.drop j) wr e w' → ∃ R m c', e = .returned (.tuple #[.slice R m c', .int .i64 (k : Int), .int .i64 (e0 : Int)]) ∧ Own w' wr.heap.size 5 1 R m c' (vbs x) ∧ Turn wr w' none := by
        rintro e w' ⟨R, m, c', h1, h2, h3⟩
        rw [hp] at h1 h2
        exact ⟨R, m, c', h1, h2, h3⟩
      by_cases he : e0 = 0
      · subst he
        obtain ⟨h5, hkn, _, _⟩ := fTake_ok hp
        rw [List.length_drop, hl] at hkn
        have hsn := hid (hsc.next hp)
        have hrn : n2 = rows.length := by rw [← how.2.1]; exact how.1.len.symm
        have h5n : n2 * 5 ≤ j := by rw [hrn]; exact hsc.2
        clear hp hsc hrn
        go_wp2_with (first
          | (go_at_call 15; refine (rftake_any _ _ _ (l.drop j) B _ htail (Nat.le_trans hB htr.size) (by omega) (by unfold maxLen; omega) (by omega)).mono ?_; intro e w2 hC; obtain ⟨R, m, c', rfl, hR, ht2⟩ := hpost hC)
          | (at_builtin; refine wp_app rfl _ _ _ rfl elR rfl rfl ((how.turn0 ht2).1.alloc _) (Rd.lit _ _ _) (by repeat (first | exact ones_nil | refine ones_cons rfl ?_)) (by unfold maxLen; first | omega | (simp; done) | (simp; omega)) (by first | omega | (simp; done) | (simp; omega)) (by have := htr.size; have := ht2.size; first | omega | (simp; omega)) ?_; intro A3 c3 w3 ho3 ht3 hb3))
        have hT2 := htr.trans ht2
        have hal : (w2.alloc (.cells #[Value.slice R m c'] 22)).heap.size = w2.heap.size + 1 := Array.size_push ..
        have hs := ((how.turn0 ht2).turn0 ((Turn.refl w2 none).alloc (.cells #[Value.slice R m c'] 22))).snoc (l := x) (m := m) (k := c') ((hR.rd.alloc (Nat.le_refl _) _).mono (by omega))
          (fun b hb => by
            have h1 := hR.block b hb
            exact ⟨by omega, fun e2 => by have := (how.1.block _ e2).2; omega⟩) hR.cap.1 hR.cap.2 ho3 ht3 hb3
        refine ⟨⟨j + k, A3, n2 + 1, c3, _, _, by omega, by go_num, rfl, hs, (hT2.alloc _).new ht3 (fun b hb => (how.1.block b hb).1), hsn.out⟩, ?_⟩
        simp [intOf]; omega
      · have hst := hid (hsc.stop (by omega) he (by rw [hp]))
        have he2 : ((e0 : Int) == 0) = false := by rw [beq_eq_false_iff_ne]; omega
        clear hp hsc
        go_wp2_with (go_at_call 15; refine (rftake_any _ _ _ (l.drop j) B _ htail (Nat.le_trans hB htr.size) (by omega) (by unfold maxLen; omega) (by omega)).mono ?_; intro e w2 hC; obtain ⟨R, m, c', rfl, hR, ht2⟩ := hpost hC)
        go_ret3
        exact ⟨A2, n2, c2, vs, by rw [hst.out]; rfl, by rw [hst.out]; exact how.turn0 ht2, htr.trans ht2⟩
    · have hst := hid (hsc.whole (by omega))
      clear hsc
      go_wp2
      go_ret3
      exact ⟨A2, n2, c2, vs, by rw [hst.out]; rfl, by rw [hst.out]; exact how, htr⟩

theorem txt_beq (l m : List UInt8) : ((txt l).toList == (txt m).toList) = (l == m) := by rw [txt_eq, txt_eq]
theorem take_eq_next {α : Type} {l m : List α} {j : Nat} {x y : α} (h : l.take j = m.take j) (hx : l[j]? = some x) (hy : m[j]? = some y) : l.take (j + 1) = m.take (j + 1) ↔ x = y := by
  rw [List.take_add_one, List.take_add_one, hx, hy, h]
  simp

set_option maxRecDepth 100000 in
set_option maxHeartbeats 800000 in
theorem same_any (A : Option Addr) (n c : Nat) (vs : List Value) (rows : List (List UInt8)) (A2 : Option Addr) (n2 c2 : Nat) (us : List Value) (rows2 : List (List UInt8)) (B : Nat) (w : World) (hr : Rw w B A n vs rows) (hr2 : Rw w B A2 n2 us rows2) (hB : B ≤ w.heap.size) (hn : n ≤ 140737488355328) :
    Calls Try.prog 18 #[.slice A n c, .slice A2 n2 c2] w fun e w' => e = .returned (.bool (decide (rows = rows2))) ∧ Turn w w' none := by
  have hl := hr.len
  have hl2 := hr2.len
  by_cases hnn : n = n2
  · subst hnn
    go_enter Try.func18, Try.ntmps18
    go_wp2
    go_loopw [5] (fun i wr => ∃ j : Nat, j ≤ n ∧ i = .int .i64 (j : Int) ∧ Turn w wr none ∧ rows.take j = rows2.take j) (fun i _ => (n - intOf i).toNat)
    case atStart => exact ⟨0, by omega, rfl, Turn.refl w none, rfl⟩
    case round =>
      obtain ⟨j, hj, rfl, htr, htk⟩ := hrel
      have hw := hr.turn0 htr hB
      have hw2 := hr2.turn0 htr hB
      by_cases hjn : j < n
      · obtain ⟨x, hx⟩ : ∃ x, rows[j]? = some x := ⟨rows[j]'(by omega), List.getElem?_eq_getElem (by omega)⟩
        obtain ⟨y, hy⟩ : ∃ y, rows2[j]? = some y := ⟨rows2[j]'(by omega), List.getElem?_eq_getElem (by omega)⟩
        obtain ⟨a, m, k, hv, hrx, hmk, hk⟩ := hw.2.2 j x hx
        obtain ⟨a2, m2, k2, hv2, hry, hmk2, hk2⟩ := hw2.2.2 j y hy
        obtain ⟨b0, off, rfl, _, hcells⟩ := hw.1.head (by omega)
        obtain ⟨b2, off2, rfl, _, hcells2⟩ := hw2.1.head (by omega)
        have hcell := hcells j _ hv
        have hcell2 := hcells2 j _ hv2
        have hnx := hid (take_eq_next htk hx hy)
        have s1 := fun q => str_run (wr.drewN q) (c := k) (hrx.drewN q)
        have s2 := fun q => str_run (wr.drewN q) (c := k2) (hry.drewN q)
        have s3 := str_run wr.drew (c := k) hrx.drew
        have s4 := str_run wr.drew (c := k2) hry.drew
        clear hcells hcells2 htk hx hy
        by_cases hxy : x = y
        · have hb : ((txt x).toList == (txt y).toList) = true := by rw [txt_beq]; simpa using hxy
          have hj1 := hid (hnx.out.2 hxy)
          clear hxy
          go_wp2_with (fail)
          go_quiet (fail)
          go_wp2
          refine ⟨⟨j + 1, by omega, by go_num, htr.drewN _, hj1.out⟩, ?_⟩
          simp [intOf]; omega
        · have hb : ((txt x).toList == (txt y).toList) = false := by rw [txt_beq]; simpa using hxy
          have HD := hid (show decide (rows = rows2) = false from decide_eq_false (fun e => hxy (hnx.out.1 (by rw [e]))))
          clear hxy
          go_wp2_with (fail)
          go_quiet (fail)
          go_wp2
          go_ret
          exact ⟨by rw [HD.out]; rfl, htr.drewN _⟩
      · have HD := hid (show decide (rows = rows2) = true from decide_eq_true (by rwa [List.take_of_length_le (by omega), List.take_of_length_le (by omega)] at htk))
        go_wp2
        go_ret
        exact ⟨by rw [HD.out]; rfl, htr⟩
  · have hnb : ((n : Int) == (n2 : Int)) = false := by rw [beq_eq_false_iff_ne]; omega
    have hd : decide (rows = rows2) = false := decide_eq_false (fun e => hnn (by rw [← hl, ← hl2, e]))
    have HD := hid hd
    clear hd
    go_enter Try.func18, Try.ntmps18
    go_wp2
    go_ret
    exact ⟨by rw [HD.out]; rfl, Turn.refl w none⟩
end Go.Proofs.Ytgmmmeghhfdlfaa
