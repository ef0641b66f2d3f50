/-
  Layer 5: what frame.Scan does.
-/
import Derived.Test.YtgmmmeghhfdlfaaFd
namespace Go.Proofs.Ytgmmmeghhfdlfaa
open Go.RowKit

theorem elR : El Try.prog 36 22 1 24 := El.mk_ Try.underlying36 (z := .slice none 0 0) (by kernel_rfl) rfl (by decide)

/-- What Scan leaves. -/
def ScPost (l : List UInt8) (w : World) (e : Ending) (w' : World) : Prop :=
  ∃ A' n' c' vs, e = .returned (.tuple #[.slice A' n' c', .int .i64 ((fScan l).2.1 : Nat), .int .i64 ((fScan l).2.2 : Nat)]) ∧ Ow w' w.heap.size 22 A' n' c' vs (fScan l).1 ∧ Turn w w' none
/-- How far a scan is. -/
def ScAt (l : List UInt8) (rows : List (List UInt8)) (j : Nat) : Prop := fScan l = (rows ++ (fScan (l.drop j)).1, j + (fScan (l.drop j)).2.1, (fScan (l.drop j)).2.2) ∧ rows.length * 5 ≤ j
theorem ScAt.zero (l : List UInt8) : ScAt l [] 0 := ⟨by simp, by simp⟩
theorem ScAt.next {l x : List UInt8} {rows : List (List UInt8)} {j k : Nat} (h : ScAt l rows j) (ht : fTake (l.drop j) = (x, k, 0)) : ScAt l (rows ++ [x]) (j + k) := by
  have h5 := (fTake_ok ht).1
  refine ⟨?_, by rw [List.length_append, List.length_singleton]; have := h.2; omega⟩
  rw [h.1, fScan_step ht, List.drop_drop]
  simp [Nat.add_assoc]
theorem ScAt.stop {l : List UInt8} {rows : List (List UInt8)} {j e : Nat} (h : ScAt l rows j) (hj : j < l.length) (he : e ≠ 0) (ht : (fTake (l.drop j)).2.2 = e) : fScan l = (rows, j, e) := by
  rw [h.1, fScan_stop (by intro e2; have := congrArg List.length e2; rw [List.length_drop, List.length_nil] at this; omega) he ht]
  simp
theorem ScAt.whole {l : List UInt8} {rows : List (List UInt8)} {j : Nat} (h : ScAt l rows j) (hj : j = l.length) : fScan l = (rows, j, 0) := by
  subst hj
  rw [h.1, List.drop_length, fScan_nil]
  simp

theorem ow_mono {w : World} {base B n c : Nat} {E : TypeId} {A : Option Addr} {vs : List Value} {rows : List (List UInt8)} (h : Ow w base E A n c vs rows) (hB : B ≤ base) : Ow w B E A n c vs rows :=
  ⟨h.1.mono hB, h.2⟩

set_option maxRecDepth 100000 in
set_option maxHeartbeats 800000 in
theorem fscan_any (A : Option Addr) (n c : Nat) (l : List UInt8) (B : Nat) (w : World) (hr : Rd w B 1 A n (vbs l)) (hB : B ≤ w.heap.size) (hn : n ≤ 4398046511104) :
    Calls Try.prog 16 #[.slice A n c] w (ScPost l w) := by
  have hl := hr.len
  rw [vbs_len] at hl
  go_enter Try.func16, Try.ntmps16
  go_wp2_with (go_at_call 21; refine (clone_any _ _ _ l B _ hr hB (by omega)).mono ?_; rintro e w1 ⟨A1, c1, rfl, ho1, ht1⟩)
  have hrd := ho1.rd
  have hcap := ho1.cap
  go_loopw [6, 7] (fun v i wr => ∃ (j : Nat) (A2 : Option Addr) (n2 c2 : Nat) (vs : List Value) (rows : List (List UInt8)), j ≤ n ∧ i = .int .i64 (j : Int) ∧ v = .slice A2 n2 c2 ∧ Ow wr w1.heap.size 22 A2 n2 c2 vs rows ∧ Turn w1 wr none ∧ ScAt l rows j) (fun _ i _ => (n - intOf i).toNat)
  case atStart => exact ⟨0, none, 0, 0, [], [], by omega, rfl, rfl, Ow.made (Own.nil _ _ _ _), Turn.refl w1 none, ScAt.zero l⟩
  case round =>
    obtain ⟨j, A2, n2, c2, vs, rows, hj, rfl, rfl, how, htr, hsc⟩ := hrel
    by_cases hjn : j < n
    · obtain ⟨g, rfl, hg1, hg2⟩ := ho1.head (by omega)
      have hne : ¬ c1 = j := by omega
      have htail := (hrd.tailB (c := c1) (k := j) (by omega) hcap.1 hne).turn0 htr (Nat.le_refl _)
      rw [Nat.zero_add] at htail
      have hjc : j ≤ c1 := by omega
      have hcm : c1 ≤ 9223372036854775807 := by have := hcap.2; unfold maxLen at this; omega
      obtain ⟨x, k, e0, hp⟩ : ∃ x k e0, fTake (l.drop j) = (x, k, e0) := ⟨_, _, _, rfl⟩
      have hpost : ∀ {e : Ending} {w' : World}, CutPost (some ⟨g, j, none⟩) (l.drop j) w1.heap.size wr e w' → ∃ R m c', e = .returned (.tuple #[.slice R m c', .int .i64 (k : Int), .int .i64 (e0 : Int)]) ∧ Rd w' w1.heap.size 1 R m (vbs x) ∧ m ≤ c' ∧ c' ≤ maxLen ∧ (∀ b, blk R = some b → b = g) ∧ Turn wr w' none := by
        rintro e w' ⟨R, m, c', h1, h2, h3, h4, h6, h5⟩
        rw [hp] at h1 h2
        exact ⟨R, m, c', h1, h2, h3, h4, fun b hb => by have := h6 b hb; simp only [blk, Option.some.injEq] at this; exact this.symm, h5⟩
      by_cases he : e0 = 0
      · subst he
        obtain ⟨h5, hkn, _, _⟩ := fTake_ok hp
        rw [List.length_drop, hl] at hkn
        have hsn := hid (hsc.next hp)
        have hrl := hid how.2.1
        have hrn : n2 = rows.length := by rw [← how.2.1]; exact how.1.len.symm
        have h5n : n2 * 5 ≤ j := by rw [hrn]; exact hsc.2
        clear hp hsc hrn
        go_wp2_with (first
          | (go_at_call 31; refine (cut_any _ _ _ (l.drop j) w1.heap.size _ htail htr.size (by omega) (by unfold maxLen; omega) (by omega)).mono ?_; intro e w2 hC; obtain ⟨R, m, c', rfl, hR, hm, hcm2, hRb, ht2⟩ := hpost hC)
          | (at_builtin; refine wp_app rfl _ _ _ rfl elR rfl rfl ((how.turn0 ht2).1.alloc _) (Rd.lit _ _ _) (by repeat (first | exact ones_nil | refine ones_cons rfl ?_)) (by unfold maxLen; first | omega | (simp; done) | (simp; omega)) (by first | omega | (simp; done) | (simp; omega)) (by have := htr.size; have := ht2.size; first | omega | (simp; omega)) ?_; intro A3 c3 w3 ho3 ht3 hb3))
        have hT2 := htr.trans ht2
        have hal : (w2.alloc (.cells #[Value.slice R m c'] 22)).heap.size = w2.heap.size + 1 := Array.size_push ..
        have hs := ((how.turn0 ht2).turn0 ((Turn.refl w2 none).alloc (.cells #[Value.slice R m c'] 22))).snoc (l := x) (m := m) (k := c') ((hR.alloc hT2.size _).mono (by have := hT2.size; omega))
          (fun b hb => by
            have e := hRb b hb
            subst e
            have := hT2.size
            exact ⟨by omega, fun e2 => by have := (how.1.block _ e2).1; omega⟩) hm hcm2 ho3 ht3 hb3
        refine ⟨⟨j + k, A3, n2 + 1, c3, _, _, by omega, by go_num, rfl, hs, (hT2.alloc _).new ht3 (fun b hb => (how.1.block b hb).1), hsn.out⟩, ?_⟩
        simp [intOf]; omega
      · have hst := hid (hsc.stop (by omega) he (by rw [hp]))
        have he2 : ((e0 : Int) == 0) = false := by rw [beq_eq_false_iff_ne]; omega
        clear hp hsc
        go_wp2_with (go_at_call 31; refine (cut_any _ _ _ (l.drop j) w1.heap.size _ htail htr.size (by omega) (by unfold maxLen; omega) (by omega)).mono ?_; intro e w2 hC; obtain ⟨R, m, c', rfl, hR, hm, hcm2, hRb, ht2⟩ := hpost hC)
        go_ret3
        exact ⟨A2, n2, c2, vs, by rw [hst.out]; rfl, by rw [hst.out]; exact ow_mono (how.turn0 ht2) ht1.size, (ht1.trans htr).trans ht2⟩
    · have hst := hid (hsc.whole (by omega))
      clear hsc
      go_wp2
      go_ret3
      exact ⟨A2, n2, c2, vs, by rw [hst.out]; rfl, by rw [hst.out]; exact ow_mono how ht1.size, ht1.trans htr⟩
end Go.Proofs.Ytgmmmeghhfdlfaa
