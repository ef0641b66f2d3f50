/-
  Layer 1 in a seat of a later layer: what prefix.Size, fresh, putNumber, Put and the document's own Size, Put do.
-/
import Derived.Test.YtadkhafjkbkinaaBas
import Derived.Test.YtadkhafjkbkinaaPfx
namespace Go.Proofs.Ytadkhafjkbkinaa
open Go.RowKit

theorem size_cases (m : Int) (h0 : 0 ≤ m) : (m < 64 ∧ pSize m.toNat = 1) ∨ (64 ≤ m ∧ m < 16384 ∧ pSize m.toNat = 2) ∨ (16384 ≤ m ∧ m < 1073741824 ∧ pSize m.toNat = 4) ∨
    (1073741824 ≤ m ∧ m < 4611686018427387904 ∧ pSize m.toNat = 8) ∨ (4611686018427387904 ≤ m ∧ pSize m.toNat = 0) := by
  have h := pSize_cases m.toNat
  omega
set_option maxHeartbeats 400000 in
theorem size_any (m : Int) (w : World) (h0 : 0 ≤ m) (h1 : m ≤ 18446744073709551615) :
    Calls Try.prog 25 #[.int .u64 m] w fun e w' => e = .returned (.int .i64 (pSize m.toNat : Nat)) ∧ w = w' := by
  rcases size_cases m h0 with ⟨h2, h⟩ | ⟨h2, h3, h⟩ | ⟨h2, h3, h⟩ | ⟨h2, h3, h⟩ | ⟨h2, h⟩
  all_goals
    have H := hid h
    clear h
    go_enter Try.func25, Try.ntmps25
    go_wp2
    go_ret
    exact ⟨by rw [H.out]; rfl, rfl⟩
set_option maxHeartbeats 400000 in
theorem rsize_any (m : Int) (w : World) (h0 : 0 ≤ m) (h1 : m ≤ 18446744073709551615) :
    Calls Try.prog 29 #[.int .u64 m] w fun e w' => e = .returned (.int .i64 (pSize m.toNat : Nat)) ∧ w = w' := by
  rcases size_cases m h0 with ⟨h2, h⟩ | ⟨h2, h3, h⟩ | ⟨h2, h3, h⟩ | ⟨h2, h3, h⟩ | ⟨h2, h⟩
  all_goals
    have H := hid h
    clear h
    go_enter Try.func29, Try.ntmps29
    go_wp2
    go_ret
    exact ⟨by rw [H.out]; rfl, rfl⟩
set_option maxHeartbeats 400000 in
theorem fresh_any (A : Option Addr) (n c : Nat) (room : Int) (l : List UInt8) (B : Nat) (w : World) (hr : Rd w B 1 A n (vbs l)) (h0 : 0 ≤ room) (h1 : (n : Int) + room ≤ 140737488355328) (hB : B ≤ w.heap.size) :
    Calls Try.prog 26 #[.slice A n c, .int .i64 room] w fun e w' =>
      ∃ A' c', e = .returned (.slice A' n c') ∧ Own w' w.heap.size 5 1 A' n c' (vbs l) ∧ Turn w w' none := by
  obtain ⟨r, rfl⟩ := Int.eq_ofNat_of_zero_le h0
  have hlen := hid hr.len
  go_enter Try.func26, Try.ntmps26
  go_wp2_with (first
    | (at_make; refine wp_mk rfl _ _ _ rfl elB rfl rfl n (n + r) rfl (by omega) (by omega) (by omega) (by unfold maxLen; omega) ?_; intro w1 ys hys hown ht; have hr1 := hr.turn0 ht hB; have hys' := hid hys; clear hys)
    | (refine wp_cp rfl _ _ _ _ rfl elB rfl rfl hown hr1 (vbs_one l) ?_; intro w2 ho2 ht2))
  go_ret
  refine ⟨_, _, rfl, ?_, ht.new ht2 (fun g hg => by simp [blk] at hg; omega)⟩
  have e1 : Nat.min n n = n := Nat.min_self n
  rw [e1, List.take_of_length_le (by rw [hr.len]; exact Nat.le_refl _), List.drop_of_length_le (by rw [hys'.out]; exact Nat.le_refl _), List.append_nil] at ho2
  exact ho2
theorem or_mark (k : Nat) (hk : k = 0 ∨ k = 64 ∨ k = 128 ∨ k = 192) (x : Int) (h0 : 0 ≤ x) (h1 : x < 64) : bits .or .u8 x (k : Int) = x + k := by
  obtain ⟨n, rfl⟩ := Int.eq_ofNat_of_zero_le h0
  have h2 : n < 64 := by omega
  have key : ∀ k ∈ [0, 64, 128, 192], ∀ n : Nat, n < 64 → bits .or .u8 (n : Int) ((k : Nat) : Int) = n + k := by decide +kernel
  exact key k (by simpa using hk) n h2
theorem vb_of (x : Nat) : vb (UInt8.ofNat x) = .int .u8 ((x % 256 : Nat) : Int) := by
  simp [vb]
theorem vput {m : Int} (h0 : 0 ≤ m) {k : Nat} (h : pSize m.toNat = k + 1) {j : Nat} (hj : mark (k + 1) = j) (hj0 : j = 0 ∨ j = 64 ∨ j = 128 ∨ j = 192) (hd : m / 256 ^ k < 64) :
    vbs (pPut m.toNat) = .int .u8 (bits .or .u8 (m / 256 ^ k) (j : Int)) :: vbs (be k m.toNat) := by
  obtain ⟨n, rfl⟩ := Int.eq_ofNat_of_zero_le h0
  rw [Int.toNat_natCast] at *
  have e : ((n : Int) / 256 ^ k) = ((n / 256 ^ k : Nat) : Int) := by rw [Int.natCast_ediv, Int.natCast_pow]; rfl
  have hd' : n / 256 ^ k < 64 := by rw [e] at hd; omega
  rw [e, or_mark j hj0 _ (Int.natCast_nonneg _) (by rw [e] at hd; exact hd)]
  unfold pPut
  rw [h, be]
  simp only [vbs, List.map_cons]
  rw [u8_of (Nat.lt_of_lt_of_le hd' (by omega)), hj, vb_of]
  congr 2
  generalize n / 256 ^ k = x at *
  omega
theorem put_end {w : World} {base g n N c : Nat} {E : TypeId} {l : List UInt8} {m : Int} {v u : Value} {r : List Value} (hown : Own w base E 1 (some ⟨g, 0, none⟩) N c (vbs l ++ v :: r)) (hlen : (vbs l).length = n)
    (hN : N = n + pSize m.toNat) (he : vbs (pPut m.toNat) = u :: r) : Own (w.setCell ⟨g, n, none⟩ u) base E 1 (some ⟨g, 0, none⟩) (n + pSize m.toNat) c (vbs (l ++ pPut m.toNat)) := by
  have h := hown.store n u
  rw [set_len hlen] at h
  rw [vbs_append, he, ← hN]
  exact h
set_option maxHeartbeats 400000 in
theorem putNumber_any (A : Option Addr) (n c : Nat) (m : Int) (l : List UInt8) (base : Nat) (w : World) (hown : Own w base 5 1 A n c (vbs l)) (h0 : 0 ≤ m) (h1 : m < 4611686018427387904)
    (hn : n + 8 ≤ 140737488355328) (hb : base ≤ w.heap.size) :
    Calls Try.prog 27 #[.slice A n c, .int .u64 m] w fun e w' =>
      ∃ A' c', e = .returned (.slice A' (n + pSize m.toNat) c') ∧ Own w' base 5 1 A' (n + pSize m.toNat) c' (vbs (l ++ pPut m.toNat)) ∧ Grow w w' A A' := by
  have hlen := hid hown.len
  have hG := Grow.refl w A
  rcases size_cases m h0 with ⟨h2, h⟩ | ⟨h2, h3, h⟩ | ⟨h2, h3, h⟩ | ⟨h2, h3, h⟩ | ⟨h2, h⟩
  case inr.inr.inr.inr => omega
  all_goals
    have H := hid h
    clear h
    go_enter Try.func27, Try.ntmps27
    go_wp2_with (first
      | (go_at_call 25; refine (size_any _ _ (by omega) (by omega)).mono ?_; rintro e w' ⟨rfl, rfl⟩; rw [H.out])
      | (at_builtin; refine wp_app1 rfl _ _ _ rfl elB rfl rfl (hown.alloc _) (Rd.lit _ _ _) (by repeat (first | exact ones_nil | refine ones_cons rfl ?_)) (by unfold maxLen; first | omega | (simp; done) | (simp; omega)) (by first | omega | (simp; done) | (simp; omega)) (by first | omega | (simp; done) | (simp; omega)) (by first | omega | (simp; done) | (simp; omega)) ?_; intro g c2 w2 hown2 hG2; have hG := (hG.alloc _).trans hG2; have hz := hG.1.size; have hown := hown2; (try simp only [List.append_assoc, List.cons_append, List.nil_append] at hown); clear hown2 hG2; have hc := (hown.cell (i := n) (by first | omega | (simp; done) | (simp; omega))).trans (at_len hlen.out _ _); have hf := hown.frozen n))
    go_ret
    refine ⟨_, c2, by rw [H.out]; rfl, put_end hown hlen.out (by rw [H.out]) ?_, hG.trans ⟨hown.storeTurn n _, .inl rfl⟩⟩
    have H2 := H.out
  · rw [vput h0 (k := 0) H2 (j := 0) rfl (by omega) (by omega)]
    simp [be, vbs]
  · rw [vput h0 (k := 1) H2 (j := 64) rfl (by omega) (by omega)]
    simp [be, vbs, vb_of]
    omega
  · rw [vput h0 (k := 3) H2 (j := 128) rfl (by omega) (by omega)]
    simp [be, vbs, vb_of]
    omega
  · rw [vput h0 (k := 7) H2 (j := 192) rfl (by omega) (by omega)]
    simp [be, vbs, vb_of]
    omega
/-- The error of Put. -/
def pErr (m : Nat) : Int := if pSize m = 0 then 1 else 0
theorem pPut_none {m : Nat} (h : pSize m = 0) : pPut m = [] := by unfold pPut; rw [h]; rfl
set_option maxHeartbeats 400000 in
theorem put_any (A : Option Addr) (n c : Nat) (m : Int) (l : List UInt8) (B : Nat) (w : World) (hr : Rd w B 1 A n (vbs l)) (hB : B ≤ w.heap.size) (h0 : 0 ≤ m) (h1 : m ≤ 18446744073709551615) (hn : n + 8 ≤ 140737488355328) :
    Calls Try.prog 20 #[.slice A n c, .int .u64 m] w fun e w' =>
      ∃ A' c', e = .returned (.tuple #[.slice A' (n + pSize m.toNat) c', .int .i64 (pErr m.toNat)]) ∧ Own w' w.heap.size 5 1 A' (n + pSize m.toNat) c' (vbs (l ++ pPut m.toNat)) ∧ Turn w w' none := by
  by_cases hz : pSize m.toNat = 0
  · have hm : 4611686018427387904 ≤ m := by have := size_cases m h0; omega
    have H := hid hz
    clear hz
    go_enter Try.func20, Try.ntmps20
    go_wp2_with (first
      | (go_at_call 25; refine (size_any _ _ (by omega) (by omega)).mono ?_; rintro e w' ⟨rfl, rfl⟩; rw [H.out])
      | (go_at_call 26; refine (fresh_any _ _ _ _ l B _ hr (by omega) (by omega) hB).mono ?_; rintro e w1 ⟨A1, c1, rfl, hown, ht⟩))
    go_ret2
    exact ⟨A1, c1, by rw [pErr, H.out]; rfl, by rw [H.out, pPut_none H.out, List.append_nil]; exact hown, ht⟩
  · have hm : m < 4611686018427387904 := by have := size_cases m h0; omega
    have H := hid hz
    have hk : (((pSize m.toNat : Nat) : Int) == 0) = false := by rw [beq_eq_false_iff_ne]; omega
    clear hz
    go_enter Try.func20, Try.ntmps20
    go_wp2_with (first
      | (go_at_call 25; refine (size_any _ _ (by omega) (by omega)).mono ?_; rintro e w' ⟨rfl, rfl⟩)
      | (go_at_call 26; refine (fresh_any _ _ _ _ l B _ hr (by omega) (by omega) hB).mono ?_; rintro e w1 ⟨A1, c1, rfl, hown, ht⟩)
      | (go_at_call 27; refine (putNumber_any _ _ _ _ l _ _ hown (by omega) (by omega) (by omega) ht.size).mono ?_; rintro e w2 ⟨A2, c2, rfl, hown2, hG⟩))
    go_ret2
    exact ⟨A2, c2, by rw [pErr, if_neg H.out]; rfl, hown2, hG.fresh ht fun g hg => (hown.block g hg).1⟩
/-- Byte number j of a number's bytes. -/
theorem pPut_get {m k j : Nat} (h : pSize m = k) (hj : j < k) : (pPut m)[j]? = some (UInt8.ofNat (m / 256 ^ (k - 1 - j) % 256 + if j = 0 then mark k else 0)) := by
  have be_get : ∀ k n j, j < k → (be k n)[j]? = some (UInt8.ofNat (n / 256 ^ (k - 1 - j))) := by
    intro k
    induction k with
    | zero => intro n j h; omega
    | succ k ih =>
      intro n j h
      rw [be]
      cases j with
      | zero => simp
      | succ j =>
        rw [List.getElem?_cons_succ, ih n j (by omega)]
        have e : k - 1 - j = k + 1 - 1 - (j + 1) := by omega
        rw [e]
  cases k with
  | zero => omega
  | succ k =>
    unfold pPut
    rw [h]
    have h0 := be_get (k + 1) m 0 (by omega)
    cases hb : be (k + 1) m with
    | nil => rw [hb] at h0; simp at h0
    | cons c r =>
      cases j with
      | zero =>
        rw [hb] at h0
        simp only [List.getElem?_cons_zero, Option.some.injEq] at h0
        subst h0
        simp
      | succ j =>
        have h1 := be_get (k + 1) m (j + 1) hj
        rw [hb] at h1
        simp only [List.getElem?_cons_succ] at h1 ⊢
        rw [h1]
        simp only [Nat.add_one_ne_zero, if_false, Nat.add_zero]
        congr 1
        apply UInt8.toNat_inj.1
        simp
theorem shr_byte {m : Int} (h0 : 0 ≤ m) (e c : Nat) : (m / 2 ^ (8 * e) + (c : Int)) % 256 = ((m.toNat / 256 ^ e % 256 + c) % 256 : Nat) := by
  obtain ⟨n, rfl⟩ := Int.eq_ofNat_of_zero_le h0
  have e1 : (2 : Int) ^ (8 * e) = ((256 ^ e : Nat) : Int) := by
    rw [Int.pow_mul, Int.natCast_pow]; rfl
  rw [e1, Int.toNat_natCast, ← Int.natCast_ediv]
  generalize n / 256 ^ e = x
  omega
theorem put_first {m : Int} (h0 : 0 ≤ m) {k mk : Nat} (hk : pSize m.toNat = k) (hm : mark k = mk) (h1 : 0 < k) : ∃ b, (pPut m.toNat)[0]? = some b ∧ Value.int .u8 ((m / 2 ^ (8 * (k - 1)) + (mk : Int)) % 256) = vb b := by
  refine ⟨_, pPut_get hk h1, ?_⟩
  rw [vb_of, shr_byte h0, if_pos rfl, hm]
  rfl
theorem put_later {m : Int} (h0 : 0 ≤ m) {k j : Nat} (hk : pSize m.toNat = k) (hj : j < k) (h1 : j ≠ 0) : ∃ b, (pPut m.toNat)[j]? = some b ∧ Value.int .u8 (m / 2 ^ (8 * (k - 1 - j)) % 256) = vb b := by
  refine ⟨_, pPut_get hk hj, ?_⟩
  rw [vb_of, if_neg h1]
  have h := shr_byte h0 (k - 1 - j) 0
  rw [show ((0 : Nat) : Int) = 0 from rfl, Int.add_zero] at h
  rw [h]
theorem put_round {w : World} {base N c : Nat} {E : TypeId} {A : Option Addr} {l p : List UInt8} {j : Nat} {x : Int} (h : Own w base E 1 A N c (vbs (l ++ p.take j) ++ [.int .u8 x])) (hb : ∃ b, p[j]? = some b ∧ Value.int .u8 x = vb b) :
    Own w base E 1 A N c (vbs (l ++ p.take (j + 1))) := by
  obtain ⟨b, h1, h2⟩ := hb
  rw [take_next h1, ← List.append_assoc, vbs_append]
  rw [h2] at h
  exact h
set_option maxHeartbeats 800000 in
theorem rput_any (A : Option Addr) (n c : Nat) (m : Int) (l : List UInt8) (B : Nat) (w : World) (hr : Rd w B 1 A n (vbs l)) (hB : B ≤ w.heap.size) (h0 : 0 ≤ m) (h1 : m ≤ 18446744073709551615) (hn : n + 8 ≤ 140737488355328) :
    Calls Try.prog 23 #[.slice A n c, .int .u64 m] w fun e w' =>
      ∃ A' c', e = .returned (.tuple #[.slice A' (n + pSize m.toNat) c', .int .i64 (pErr m.toNat)]) ∧ Own w' w.heap.size 5 1 A' (n + pSize m.toNat) c' (vbs (l ++ pPut m.toNat)) ∧ Turn w w' none := by
  have hw0 : Own (w.alloc (.cells #[] 5)) w.heap.size 5 1 (some ⟨w.heap.size, 0, none⟩) 0 0 [] := Own.made w _ _ 1 0 #[] (Nat.le_refl _) (by decide) rfl
  have hr1 := hr.alloc hB (.cells #[] 5)
  by_cases hz : pSize m.toNat = 0
  · have H := hid hz
    clear hz
    go_enter Try.func23, Try.ntmps23
    go_wp2_with (first
      | (go_at_call 29; refine (rsize_any _ _ (by omega) (by omega)).mono ?_; rintro e w' ⟨rfl, rfl⟩; rw [H.out])
      | (at_builtin; refine wp_app rfl _ _ _ rfl elB rfl rfl hw0 hr1 (vbs_one l) (by unfold maxLen; first | omega | (simp; done) | (simp; omega)) (by first | omega | (simp; done) | (simp; omega)) (by first | omega | (simp; done) | (simp; omega)) ?_; intro A1 c1 w1 hown ht hb))
    go_ret2
    refine ⟨A1, c1, ?_, ?_, (Turn.alloc (Turn.refl w none) _).new ht (fun g hg => by simp [blk] at hg; omega)⟩
    · rw [pErr, H.out]; simp
    · rw [H.out, pPut_none H.out, List.append_nil]; simpa using hown
  · have hn0 : n + 0 = n := rfl
    rcases size_cases m h0 with ⟨h2, h⟩ | ⟨h2, h3, h⟩ | ⟨h2, h3, h⟩ | ⟨h2, h3, h⟩ | ⟨h2, h⟩
    case inr.inr.inr.inr => omega
    all_goals
      have H := hid h
      have hpl := hid (pPut_len m.toNat)
      clear hz h hn0
      go_enter Try.func23, Try.ntmps23
      go_wp2_with (first
        | (go_at_call 29; refine (rsize_any _ _ (by omega) (by omega)).mono ?_; rintro e w' ⟨rfl, rfl⟩; rw [H.out])
        | (at_builtin; refine wp_app rfl _ _ _ rfl elB rfl rfl hw0 hr1 (vbs_one l) (by unfold maxLen; first | omega | (simp; done) | (simp; omega)) (by first | omega | (simp; done) | (simp; omega)) (by first | omega | (simp; done) | (simp; omega)) ?_; intro A1 c1 w1 hown ht hb))
      have ht1 : Turn w w1 none := (Turn.alloc (Turn.refl w none) _).new ht (fun g hg => by simp [blk] at hg; omega)
      go_loopw [6, 9] (fun v i wr => ∃ (j : Nat) (A2 : Option Addr) (c2 : Nat), j ≤ pSize m.toNat ∧ i = .int .i64 ((pSize m.toNat : Int) - 1 - j) ∧ v = .slice A2 (n + j) c2 ∧
          Own wr w.heap.size 5 1 A2 (n + j) c2 (vbs (l ++ (pPut m.toNat).take j)) ∧ Turn w wr none) (fun _ i _ => (intOf i + 1).toNat)
      case atStart => exact ⟨0, A1, c1, by omega, by rw [H.out]; rfl, by simp, by simpa using hown, ht1⟩
      case round =>
        obtain ⟨j, A2, c2, hj, rfl, rfl, ho, htr⟩ := hrel
        have hz := htr.size
        rw [H.out] at hj
        rw [H.out]
        clear hown ht ht1 hb
        go_wp2_with (at_builtin; refine wp_app rfl _ _ _ rfl elB rfl rfl (ho.alloc _) (Rd.lit _ _ _) (by repeat (first | exact ones_nil | refine ones_cons rfl ?_)) (by unfold maxLen; first | omega | (simp; done) | (simp; omega)) (by first | omega | (simp; done) | (simp; omega)) (by first | omega | (simp; done) | (simp; omega)) ?_; intro A3 c3 w3 ho3 ht3 hb3)
        all_goals first
          | (go_ret2
             have hj2 : j = pSize m.toNat := by rw [H.out]; omega
             refine ⟨A2, c2, by rw [pErr, H.out, hj2, H.out]; rfl, ?_, htr⟩
             rw [hj2, List.take_of_length_le (by rw [hpl.out]; exact Nat.le_refl _)] at ho
             exact ho)
          | (go_roundw
             case measure => simp [intOf]; omega
             case rel =>
               have hG3 : Turn w w3 none := (htr.alloc _).new ht3 (fun g hg => (ho.block g hg).1)
               (try simp only [beq_iff_eq, beq_eq_false_iff_ne, ne_eq] at *)
               refine ⟨j + 1, A3, c3, by omega, by go_num, by first | rfl | (congr 1; omega), put_round ho3 ?_, hG3⟩
               first
               | (obtain rfl : j = 0 := by omega
                  first
                  | exact put_first h0 H.out rfl (by omega)
                  | (have h5 := put_first h0 H.out (mk := 0) rfl (by omega)
                     have h6 : (m / 2 ^ (8 * (1 - 1)) + ((0 : Nat) : Int)) % 256 = m := by simp; omega
                     rw [h6] at h5
                     exact h5))
               | exact put_later h0 H.out (by omega) (by omega))
end Go.Proofs.Ytadkhafjkbkinaa
