/-
  Layer 5: what the document's own Put and Take of frames do.
-/
import Derived.Test.YtgmmmeghhfdlfaaFc
namespace Go.Proofs.Ytgmmmeghhfdlfaa
open Go.RowKit

set_option maxRecDepth 100000 in
set_option maxHeartbeats 800000 in
theorem rfput_any (A : Option Addr) (n c : Nat) (l : List UInt8) (A2 : Option Addr) (n2 c2 : Nat) (x : List UInt8) (B : Nat) (w : World) (hr : Rd w B 1 A n (vbs l)) (hr2 : Rd w B 1 A2 n2 (vbs x)) (hB : B ≤ w.heap.size)
    (hn : n ≤ 140737488351232) (hn2 : n2 ≤ 140737488355328) :
    Calls Try.prog 10 #[.slice A n c, .slice A2 n2 c2] w fun e w' =>
      ∃ A' c', e = .returned (.tuple #[.slice A' (fPut l x).1.length c', .int .i64 ((fPut l x).2 : Nat)]) ∧ Own w' w.heap.size 5 1 A' (fPut l x).1.length c' (vbs (fPut l x).1) ∧ Turn w w' none := by
  have hl := hr.len
  have hx := hr2.len
  rw [vbs_len] at hl hx
  have h0 : Own (w.alloc (.cells #[] 5)) w.heap.size 5 1 (some ⟨w.heap.size, 0, none⟩) 0 0 [] := Own.made w _ _ 1 0 #[] (Nat.le_refl _) (by decide) rfl
  have hr1 := hr.alloc hB (.cells #[] 5)
  by_cases hlong : 1048576 < n2
  · have hf : fPut l x = (l, 2) := if_pos (by omega)
    have hlongi : (1048576 : Int) < n2 := by omega
    go_enter Try.func10, Try.ntmps10
    go_wp2_with (at_builtin; refine wp_app rfl _ _ _ rfl elB rfl rfl h0 hr1 (vbs_one l) (by unfold maxLen; first | omega | (simp; done) | (simp; omega)) (by first | omega | (simp; done) | (simp; omega)) (by first | omega | (simp; done) | (simp; omega)) ?_; intro A1 c1 w1 ho1 ht1 hb1)
    go_ret2
    refine ⟨A1, c1, ?_, ?_, (Turn.alloc (Turn.refl w none) _).new ht1 (fun g hg => by simp [blk] at hg; omega)⟩
    · rw [hf]; simp [hl]
    · rw [hf]; simp only [hl]; simpa using ho1
  · have hf : fPut l x = (l ++ fBytes x, 0) := if_neg (by omega)
    have hlongi : (n2 : Int) ≤ 1048576 := by omega
    have hp := pSize_small4 (n := n2) (by omega)
    have hflat : pPut n2 ++ x ++ cBs (cSum (pPut n2 ++ x)) = fBytes x := by rw [fBytes, fHead, hx]
    have HF := hid hflat
    clear hflat
    go_enter Try.func10, Try.ntmps10
    go_wp2_with (first
      | (at_builtin; refine wp_appW rfl _ _ _ rfl elB rfl rfl ho1e ho5.rd (vbs_one _) (by unfold maxLen; first | omega | (simp; done) | (simp; omega)) (by first | omega | (simp; done) | (simp; omega)) (by have := hT5.size; omega) ?_; intro A6 c6 w6 ho6 ht6 hb6)
      | (at_builtin; refine wp_app1 rfl _ _ _ rfl elB rfl rfl ho3d ho4.rd (vbs_one _) (by unfold maxLen; first | omega | (simp; done) | (simp; omega)) (by first | omega | (simp; done) | (simp; omega)) (by have := ht4.size; have := hG3.1.size; have := ht2.size; omega) (by first | omega | (simp; done) | (simp; omega)) ?_; intro g5 c5 w5 ho5 hG5; have hT5 : Turn w w5 none := hG5.fresh hT4 (fun g hg => by have := (ho3d.block g hg).1; have := hT1a.size; omega); have ho1e : Own w5 w.heap.size 5 1 A1 n c1 (vbs l) := ((ho1c.turn0 ht4).turn hG5.1 (.inr (by intro e; have h1 := (ho1.block _ e).2; have h2 := (ho3d.block _ rfl).1; have h3 : (w1.alloc (.cells #[] 5)).heap.size = w1.heap.size + 1 := Array.size_push ..; omega))); rw [← vbs_append, HF.out] at ho5)
      | (at_builtin; refine wp_app1 rfl _ _ _ rfl elB rfl rfl ho2 hr2b (vbs_one x) (by unfold maxLen; first | omega | (simp; done) | (simp; omega)) (by first | omega | (simp; done) | (simp; omega)) (by have := ht2.size; omega) (by first | omega | (simp; done) | (simp; omega)) ?_; intro g3 c3 w3 ho3 hG3; have hT3 : Turn w w3 none := hG3.fresh hT2 (fun g hg => by have := (ho2.block g hg).1; have := hT1a.size; omega); have ho1c : Own w3 w.heap.size 5 1 A1 n c1 (vbs l) := (((ho1.alloc _).turn0 ht2).turn hG3.1 (.inr (by
            intro e
            cases hA : blk A1 with
            | none => rw [hA] at e; have h2 := ho2.head (by omega); obtain ⟨g, rfl, _, _⟩ := h2; simp [blk] at e
            | some g =>
              have h1 := (ho1.block g hA).2
              rw [hA] at e
              have h2 := (ho2.block g e.symm).1
              have h3 : (w1.alloc (.cells #[] 5)).heap.size = w1.heap.size + 1 := Array.size_push ..
              omega))); rw [← vbs_append] at ho3)
      | (at_builtin; refine wp_app rfl _ _ _ rfl elB rfl rfl h0 hr1 (vbs_one l) (by unfold maxLen; first | omega | (simp; done) | (simp; omega)) (by first | omega | (simp; done) | (simp; omega)) (by first | omega | (simp; done) | (simp; omega)) ?_; intro A1 c1 w1 ho1 ht1 hb1; have hT1 := (Turn.alloc (Turn.refl w none) _).new ht1 (fun g hg => by simp [blk] at hg; omega); rw [Nat.zero_add, List.nil_append] at ho1; have hT1a := hT1.alloc (.cells #[] 5))
      | (go_at_call 27; refine (rput_any _ _ _ _ [] (w1.heap.size + 1) _ (Rd.none_ _ _ 1 0) (by show _ ≤ (w1.heap.push _).size; rw [Array.size_push]; exact Nat.le_refl _) (by omega) (by omega) (by omega)).mono ?_; rintro e w2 ⟨A2, c2, rfl, ho2, ht2⟩; have hT2 := hT1a.trans ht2; have hr2b := hr2.turn0 hT2 hB; simp only [Int.toNat_natCast, List.nil_append, Nat.zero_add] at ho2 ⊢)
      | (go_at_call 29; refine (rsum_any _ _ _ (pPut n2 ++ x) _ _ ho3.rd (by omega)).mono ?_; rintro e w' ⟨rfl, rfl⟩)
      | (go_at_call 28; refine (rbytes_any _ _).mono ?_; rintro e w4 ⟨A4, rfl, ho4, ht4⟩; have hT4 := hT3.trans ht4; have ho3d := ho3.turn0 ht4))
    have hL : (l ++ fBytes x).length = n + (pSize n2 + n2 + 4) := by rw [List.length_append, fBytes_len, hl, hx, fSize]; omega
    go_ret2
    refine ⟨A6, c6, by rw [hf]; simp only [hL]; rfl, by rw [hf]; simp only [hL, vbs_append]; exact ho6, hT5.new ht6 (fun g hg => (ho1.block g hg).1)⟩

/-- What the document's Take leaves. -/
def RtPost (l : List UInt8) (w : World) (e : Ending) (w' : World) : Prop :=
  ∃ X m c', e = .returned (.tuple #[.slice X m c', .int .i64 ((fTake l).2.1 : Nat), .int .i64 ((fTake l).2.2 : Nat)]) ∧ Own w' w.heap.size 5 1 X m c' (vbs (fTake l).1) ∧ Turn w w' none
theorem rt_no {l : List UInt8} {w w' : World} {e : Nat} (h : fTake l = ([], 0, e)) (ht : Turn w w' none) : RtPost l w (.returned (.tuple #[.slice none 0 0, .int .i64 0, .int .i64 (e : Int)])) w' :=
  ⟨none, 0, 0, by rw [h]; rfl, by rw [h]; exact Own.nil _ _ _ _, ht⟩

set_option maxRecDepth 100000 in
set_option maxHeartbeats 800000 in
theorem rftake_any (A : Option Addr) (n c : Nat) (l : List UInt8) (B : Nat) (w : World) (hr : Rd w B 1 A n (vbs l)) (hB : B ≤ w.heap.size) (hnc : n ≤ c) (hc : c ≤ maxLen) (hn : n ≤ 140737488355328) :
    Calls Try.prog 15 #[.slice A n c] w (RtPost l w) := by
  have hl := hr.len
  rw [vbs_len] at hl
  obtain ⟨n0, k0, e0, hp⟩ : ∃ n0 k0 e0, pTake l = (n0, k0, e0) := ⟨_, _, _, rfl⟩
  have HP := hid hp
  unfold maxLen at hc
  by_cases he : e0 = 0
  · subst he
    obtain ⟨hk, hk0, hkl, _⟩ := pTake_ok hp
    have hk8 := pSize_le n0
    by_cases hlong : 1048576 < n0
    · have hlong2 : (1048576 : Int) < n0 := by omega
      have hn62 : n0 < 4611686018427387904 := by rcases pSize_cases n0 with h | h | h | h | h <;> omega
      have HF := hid (fTake_long hp hlong)
      clear hp
      go_enter Try.func15, Try.ntmps15
      go_wp2_with (go_at_call 32; refine (rtake_any _ _ _ l B _ hr hn).mono ?_; rintro e w' ⟨rfl, rfl⟩; rw [HP.out])
      go_ret3
      exact rt_no HF.out (Turn.refl w none)
    · have hlong2 : (n0 : Int) ≤ 1048576 := by omega
      obtain ⟨S, hS⟩ : ∃ S, S = n0 + 4 + k0 := ⟨_, rfl⟩
      by_cases hfew : n < S
      · have HF := hid (fTake_few hp (by omega) (by omega))
        have hd1 : (n : Int) - k0 < 4 ∨ (4 ≤ (n : Int) - k0 ∧ (n : Int) - k0 - 4 < n0) := by omega
        clear hp
        rcases hd1 with hd1 | ⟨hd1, hd2⟩
        all_goals
          go_enter Try.func15, Try.ntmps15
          go_wp2_with (go_at_call 32; refine (rtake_any _ _ _ l B _ hr hn).mono ?_; rintro e w' ⟨rfl, rfl⟩; rw [HP.out])
          go_ret3
          exact rt_no HF.out (Turn.refl w none)
      · have hff := fTake_fine hp (by omega) (by omega)
        rw [← hS] at hff
        have hd1 : 4 ≤ (n : Int) - k0 := by omega
        have hd2 : (n0 : Int) ≤ (n : Int) - k0 - 4 := by omega
        have hSi : (k0 : Int) + n0 + 4 = (S : Int) := by omega
        have hrS : Rd w B 1 A S (vbs (l.take S)) := hr.takeB (by omega)
        have HS := hid hS
        clear hS hp
        by_cases hg : cGood (l.take S) = true
        · have HF := hid (hff.trans (if_pos hg))
          have HG := hid hg
          clear hff hg
          obtain ⟨b0, off, rfl, _, _⟩ := hr.head (by omega)
          have hne : ¬ c = k0 := by omega
          have hS4 : 4 + (k0 : Int) ≤ S := by omega
          have hq : S - 4 - k0 = n0 := by omega
          have hrp : Rd w B 1 (some ⟨b0, off + k0, none⟩) (S - 4 - k0) (vbs ((l.drop k0).take n0)) := by
            rw [hq]
            exact (hr.tailB (c := n + 1) (by omega) (by omega) (by omega)).takeB (by omega)
          have HQ := hid hq
          clear hq
          go_enter Try.func15, Try.ntmps15
          go_wp2_with (first
            | (go_at_call 32; refine (rtake_any _ _ _ l B _ hr hn).mono ?_; rintro e w' ⟨rfl, rfl⟩; rw [HP.out])
            | (go_at_call 33; refine (rgood_any _ _ _ (l.take S) B _ hrS hB (by omega) (by unfold maxLen; omega) (by omega)).mono ?_; rintro e w1 ⟨rfl, ht1⟩; rw [HG.out]; have hB1 := Nat.le_trans hB ht1.size)
            | (at_builtin; refine wp_app rfl _ _ _ rfl elB rfl rfl (Own.made w1 _ 5 1 0 #[] (Nat.le_refl _) (by decide) rfl) ((hrp.turn0 ht1 hB).alloc hB1 _) (vbs_one _) (by unfold maxLen; first | omega | (simp; done) | (simp; omega)) (by first | omega | (simp; done) | (simp; omega)) (by first | omega | (simp; done) | (simp; omega)) ?_; intro A1 c1 w2 ho2 ht2 hb2))
          go_ret3
          rw [Nat.zero_add, List.nil_append] at ho2
          refine ⟨A1, _, c1, by rw [HF.out]; rfl, by rw [HF.out]; exact ho2.mono ht1.size, ht1.trans ((Turn.alloc (Turn.refl w1 none) _).new ht2 (fun g hg => by simp [blk] at hg; omega))⟩
        · have HF := hid (hff.trans (if_neg hg))
          have HG := hid (show cGood (l.take S) = false by simpa using hg)
          clear hff hg
          go_enter Try.func15, Try.ntmps15
          go_wp2_with (first
            | (go_at_call 32; refine (rtake_any _ _ _ l B _ hr hn).mono ?_; rintro e w' ⟨rfl, rfl⟩; rw [HP.out])
            | (go_at_call 33; refine (rgood_any _ _ _ (l.take S) B _ hrS hB (by omega) (by unfold maxLen; omega) (by omega)).mono ?_; rintro e w1 ⟨rfl, ht1⟩; rw [HG.out]))
          go_ret3
          exact rt_no HF.out ht1
  · have he2 : ((e0 : Int) == 0) = false := by rw [beq_eq_false_iff_ne]; omega
    have HF := hid (fTake_err hp he)
    clear hp
    go_enter Try.func15, Try.ntmps15
    go_wp2_with (go_at_call 32; refine (rtake_any _ _ _ l B _ hr hn).mono ?_; rintro e w' ⟨rfl, rfl⟩; rw [HP.out])
    go_ret3
    exact rt_no HF.out (Turn.refl w none)
end Go.Proofs.Ytgmmmeghhfdlfaa
