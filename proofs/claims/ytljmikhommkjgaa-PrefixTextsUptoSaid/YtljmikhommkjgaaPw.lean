/-
  Layer 1: what each function of package prefix does, call by call (contracts).
-/
import Derived.Test.YtljmikhommkjgaaLaw
import Derived.Test.YtljmikhommkjgaaPfx
namespace Go.Proofs.Ytljmikhommkjgaa
open Go.RowKit

theorem elB : El Try.prog 22 5 1 1 := El.mk_ Try.underlying22 (z := .int .u8 0) (by kernel_rfl) rfl (by decide)

theorem size_cases (m : Int) (h0 : 0 ≤ m) : (m < 64 ∧ pSize m.toNat = 1) ∨ (64 ≤ m ∧ m < 16384 ∧ pSize m.toNat = 2) ∨ (16384 ≤ m ∧ m < 1073741824 ∧ pSize m.toNat = 4) ∨
    (1073741824 ≤ m ∧ m < 4611686018427387904 ∧ pSize m.toNat = 8) ∨ (4611686018427387904 ≤ m ∧ pSize m.toNat = 0) := by
  have h := pSize_cases m.toNat
  omega

set_option maxHeartbeats 400000 in
theorem size_any (m : Int) (w : World) (h0 : 0 ≤ m) (h1 : m ≤ 18446744073709551615) :
    Calls Try.prog 13 #[.int .u64 m] w fun e w' => e = .returned (.int .i64 (pSize m.toNat : Nat)) ∧ w = w' := by
  rcases size_cases m h0 with ⟨h2, h⟩ | ⟨h2, h3, h⟩ | ⟨h2, h3, h⟩ | ⟨h2, h3, h⟩ | ⟨h2, h⟩
  all_goals
    have H := hid h
    clear h
    go_enter Try.func13, Try.ntmps13
    go_wp2
    go_ret
    exact ⟨by rw [H.out]; rfl, rfl⟩

set_option maxHeartbeats 400000 in
theorem rsize_any (m : Int) (w : World) (h0 : 0 ≤ m) (h1 : m ≤ 18446744073709551615) :
    Calls Try.prog 14 #[.int .u64 m] w fun e w' => e = .returned (.int .i64 (pSize m.toNat : Nat)) ∧ w = w' := by
  rcases size_cases m h0 with ⟨h2, h⟩ | ⟨h2, h3, h⟩ | ⟨h2, h3, h⟩ | ⟨h2, h3, h⟩ | ⟨h2, h⟩
  all_goals
    have H := hid h
    clear h
    go_enter Try.func14, Try.ntmps14
    go_wp2
    go_ret
    exact ⟨by rw [H.out]; rfl, rfl⟩

set_option maxHeartbeats 400000 in
theorem fresh_any (A : Option Addr) (n c : Nat) (room : Int) (l : List UInt8) (B : Nat) (w : World) (hr : Rd w B 1 A n (vbs l)) (h0 : 0 ≤ room) (h1 : (n : Int) + room ≤ 140737488355328) (hB : B ≤ w.heap.size) :
    Calls Try.prog 27 #[.slice A n c, .int .i64 room] w fun e w' =>
      ∃ A' c', e = .returned (.slice A' n c') ∧ Own w' w.heap.size 5 1 A' n c' (vbs l) ∧ Turn w w' none := by
  obtain ⟨r, rfl⟩ := Int.eq_ofNat_of_zero_le h0
  have hlen := hid hr.len
  go_enter Try.func27, Try.ntmps27
  go_wp2_with (first
    | (at_make; refine wp_mk rfl _ _ _ rfl elB rfl rfl n (n + r) rfl (by omega) (by omega) (by omega) (by unfold maxLen; omega) ?_; intro w1 ys hys hown ht; have hr1 := hr.turn0 ht hB; have hys' := hid hys; clear hys)
    | (refine wp_cp rfl _ _ _ _ rfl elB rfl rfl hown hr1 (vbs_one l) ?_; intro w2 ho2 ht2))
  go_ret
  refine ⟨_, _, rfl, ?_, ht.new ht2 (fun g hg => by simp [blk] at hg; omega)⟩
  have e1 : Nat.min n n = n := Nat.min_self n
  rw [e1, List.take_of_length_le (by rw [hr.len]; exact Nat.le_refl _), List.drop_of_length_le (by rw [hys'.out]; exact Nat.le_refl _), List.append_nil] at ho2
  exact ho2

theorem or_mark (k : Nat) (hk : k = 0 ∨ k = 64 ∨ k = 128 ∨ k = 192) (x : Int) (h0 : 0 ≤ x) (h1 : x < 64) : bits .or .u8 x (k : Int) = x + k := by
  obtain ⟨n, rfl⟩ := Int.eq_ofNat_of_zero_le h0
  have h2 : n < 64 := by omega
  have key : ∀ k ∈ [0, 64, 128, 192], ∀ n : Nat, n < 64 → bits .or .u8 (n : Int) ((k : Nat) : Int) = n + k := by decide +kernel
  exact key k (by simpa using hk) n h2

theorem vb_of (x : Nat) : vb (UInt8.ofNat x) = .int .u8 ((x % 256 : Nat) : Int) := by
  simp [vb]

theorem vput {m : Int} (h0 : 0 ≤ m) {k : Nat} (h : pSize m.toNat = k + 1) {j : Nat} (hj : mark (k + 1) = j) (hj0 : j = 0 ∨ j = 64 ∨ j = 128 ∨ j = 192) (hd : m / 256 ^ k < 64) :
    vbs (pPut m.toNat) = .int .u8 (bits .or .u8 (m / 256 ^ k) (j : Int)) :: vbs (be k m.toNat) := by
  obtain ⟨n, rfl⟩ := Int.eq_ofNat_of_zero_le h0
  rw [Int.toNat_natCast] at *
  have e : ((n : Int) / 256 ^ k) = ((n / 256 ^ k : Nat) : Int) := by rw [Int.natCast_ediv, Int.natCast_pow]; rfl
  have hd' : n / 256 ^ k < 64 := by rw [e] at hd; omega
  rw [e, or_mark j hj0 _ (Int.natCast_nonneg _) (by rw [e] at hd; exact hd)]
  unfold pPut
  rw [h, be]
  simp only [vbs, List.map_cons]
  rw [u8_of (Nat.lt_of_lt_of_le hd' (by omega)), hj, vb_of]
  congr 2
  generalize n / 256 ^ k = x at *
  omega

theorem put_end {w : World} {base g n N c : Nat} {E : TypeId} {l : List UInt8} {m : Int} {v u : Value} {r : List Value} (hown : Own w base E 1 (some ⟨g, 0, none⟩) N c (vbs l ++ v :: r)) (hlen : (vbs l).length = n)
    (hN : N = n + pSize m.toNat) (he : vbs (pPut m.toNat) = u :: r) : Own (w.setCell ⟨g, n, none⟩ u) base E 1 (some ⟨g, 0, none⟩) (n + pSize m.toNat) c (vbs (l ++ pPut m.toNat)) := by
  have h := hown.store n u
  rw [set_len hlen] at h
  rw [vbs_append, he, ← hN]
  exact h

set_option maxHeartbeats 400000 in
theorem putNumber_any (A : Option Addr) (n c : Nat) (m : Int) (l : List UInt8) (base : Nat) (w : World) (hown : Own w base 5 1 A n c (vbs l)) (h0 : 0 ≤ m) (h1 : m < 4611686018427387904)
    (hn : n + 8 ≤ 140737488355328) (hb : base ≤ w.heap.size) :
    Calls Try.prog 28 #[.slice A n c, .int .u64 m] w fun e w' =>
      ∃ A' c', e = .returned (.slice A' (n + pSize m.toNat) c') ∧ Own w' base 5 1 A' (n + pSize m.toNat) c' (vbs (l ++ pPut m.toNat)) ∧ Grow w w' A A' := by
  have hlen := hid hown.len
  have hG := Grow.refl w A
  rcases size_cases m h0 with ⟨h2, h⟩ | ⟨h2, h3, h⟩ | ⟨h2, h3, h⟩ | ⟨h2, h3, h⟩ | ⟨h2, h⟩
  case inr.inr.inr.inr => omega
  all_goals
    have H := hid h
    clear h
    go_enter Try.func28, Try.ntmps28
    go_wp2_with (first
      | (go_at_call 13; refine (size_any _ _ (by omega) (by omega)).mono ?_; rintro e w' ⟨rfl, rfl⟩; rw [H.out])
      | (at_builtin; refine wp_app1 rfl _ _ _ rfl elB rfl rfl (hown.alloc _) (Rd.lit _ _ _) (by repeat (first | exact ones_nil | refine ones_cons rfl ?_)) (by unfold maxLen; first | omega | (simp; done) | (simp; omega)) (by first | omega | (simp; done) | (simp; omega)) (by first | omega | (simp; done) | (simp; omega)) (by first | omega | (simp; done) | (simp; omega)) ?_; intro g c2 w2 hown2 hG2; have hG := (hG.alloc _).trans hG2; have hz := hG.1.size; have hown := hown2; (try simp only [List.append_assoc, List.cons_append, List.nil_append] at hown); clear hown2 hG2; have hc := (hown.cell (i := n) (by first | omega | (simp; done) | (simp; omega))).trans (at_len hlen.out _ _); have hf := hown.frozen n))
    go_ret
    refine ⟨_, c2, by rw [H.out]; rfl, put_end hown hlen.out (by rw [H.out]) ?_, hG.trans ⟨hown.storeTurn n _, .inl rfl⟩⟩
    have H2 := H.out
  · rw [vput h0 (k := 0) H2 (j := 0) rfl (by omega) (by omega)]
    simp [be, vbs]
  · rw [vput h0 (k := 1) H2 (j := 64) rfl (by omega) (by omega)]
    simp [be, vbs, vb_of]
    omega
  · rw [vput h0 (k := 3) H2 (j := 128) rfl (by omega) (by omega)]
    simp [be, vbs, vb_of]
    omega
  · rw [vput h0 (k := 7) H2 (j := 192) rfl (by omega) (by omega)]
    simp [be, vbs, vb_of]
    omega

/-- The error of Put. -/
def pErr (m : Nat) : Int := if pSize m = 0 then 1 else 0
theorem pPut_none {m : Nat} (h : pSize m = 0) : pPut m = [] := by unfold pPut; rw [h]; rfl

set_option maxHeartbeats 400000 in
theorem put_any (A : Option Addr) (n c : Nat) (m : Int) (l : List UInt8) (B : Nat) (w : World) (hr : Rd w B 1 A n (vbs l)) (hB : B ≤ w.heap.size) (h0 : 0 ≤ m) (h1 : m ≤ 18446744073709551615) (hn : n + 8 ≤ 140737488355328) :
    Calls Try.prog 10 #[.slice A n c, .int .u64 m] w fun e w' =>
      ∃ A' c', e = .returned (.tuple #[.slice A' (n + pSize m.toNat) c', .int .i64 (pErr m.toNat)]) ∧ Own w' w.heap.size 5 1 A' (n + pSize m.toNat) c' (vbs (l ++ pPut m.toNat)) ∧ Turn w w' none := by
  by_cases hz : pSize m.toNat = 0
  · have hm : 4611686018427387904 ≤ m := by have := size_cases m h0; omega
    have H := hid hz
    clear hz
    go_enter Try.func10, Try.ntmps10
    go_wp2_with (first
      | (go_at_call 13; refine (size_any _ _ (by omega) (by omega)).mono ?_; rintro e w' ⟨rfl, rfl⟩; rw [H.out])
      | (go_at_call 27; refine (fresh_any _ _ _ _ l B _ hr (by omega) (by omega) hB).mono ?_; rintro e w1 ⟨A1, c1, rfl, hown, ht⟩))
    go_ret2
    exact ⟨A1, c1, by rw [pErr, H.out]; rfl, by rw [H.out, pPut_none H.out, List.append_nil]; exact hown, ht⟩
  · have hm : m < 4611686018427387904 := by have := size_cases m h0; omega
    have H := hid hz
    have hk : (((pSize m.toNat : Nat) : Int) == 0) = false := by rw [beq_eq_false_iff_ne]; omega
    clear hz
    go_enter Try.func10, Try.ntmps10
    go_wp2_with (first
      | (go_at_call 13; refine (size_any _ _ (by omega) (by omega)).mono ?_; rintro e w' ⟨rfl, rfl⟩)
      | (go_at_call 27; refine (fresh_any _ _ _ _ l B _ hr (by omega) (by omega) hB).mono ?_; rintro e w1 ⟨A1, c1, rfl, hown, ht⟩)
      | (go_at_call 28; refine (putNumber_any _ _ _ _ l _ _ hown (by omega) (by omega) (by omega) ht.size).mono ?_; rintro e w2 ⟨A2, c2, rfl, hown2, hG⟩))
    go_ret2
    exact ⟨A2, c2, by rw [pErr, if_neg H.out]; rfl, hown2, hG.fresh ht fun g hg => (hown.block g hg).1⟩

set_option maxHeartbeats 400000 in
theorem own_any (A : Option Addr) (n c : Nat) (l : List UInt8) (B : Nat) (w : World) (hr : Rd w B 1 A n (vbs l)) (hB : B ≤ w.heap.size) (hn : n ≤ 140737488355328) :
    Calls Try.prog 11 #[.slice A n c] w fun e w' =>
      ∃ A' c', e = .returned (.slice A' n c') ∧ Own w' w.heap.size 5 1 A' n c' (vbs l) ∧ Turn w w' none := by
  have h0 : Own (w.alloc (.cells #[] 5)) w.heap.size 5 1 (some ⟨w.heap.size, 0, none⟩) 0 0 [] := Own.made w _ _ 1 0 #[] (Nat.le_refl _) (by decide) rfl
  have hr1 := hr.alloc hB (.cells #[] 5)
  go_enter Try.func11, Try.ntmps11
  go_wp2_with (at_builtin; refine wp_app rfl _ _ _ rfl elB rfl rfl h0 hr1 (vbs_one l) (by unfold maxLen; first | omega | (simp; done) | (simp; omega)) (by first | omega | (simp; done) | (simp; omega)) (by first | omega | (simp; done) | (simp; omega)) ?_; intro A1 c1 w1 hown ht hb)
  go_ret
  refine ⟨A1, c1, ?_, ?_, (Turn.alloc (Turn.refl w none) _).new ht (fun g hg => by simp [blk] at hg; omega)⟩
  · simp
  · simpa using hown

end Go.Proofs.Ytljmikhommkjgaa
