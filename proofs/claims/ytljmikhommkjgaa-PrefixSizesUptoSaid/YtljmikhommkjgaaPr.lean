/-
  Layer 1: what each function of the document's own answers (suffraganref01) does.
-/
import Derived.Test.YtljmikhommkjgaaPw
namespace Go.Proofs.Ytljmikhommkjgaa
open Go.RowKit

/-- Byte number j of a number's bytes. -/
theorem pPut_get {m k j : Nat} (h : pSize m = k) (hj : j < k) : (pPut m)[j]? = some (UInt8.ofNat (m / 256 ^ (k - 1 - j) % 256 + if j = 0 then mark k else 0)) := by
  have be_get : ∀ k n j, j < k → (be k n)[j]? = some (UInt8.ofNat (n / 256 ^ (k - 1 - j))) := by
    intro k
    induction k with
    | zero => intro n j h; omega
    | succ k ih =>
      intro n j h
      rw [be]
      cases j with
      | zero => simp
      | succ j =>
        rw [List.getElem?_cons_succ, ih n j (by omega)]
        have e : k - 1 - j = k + 1 - 1 - (j + 1) := by omega
        rw [e]
  cases k with
  | zero => omega
  | succ k =>
    unfold pPut
    rw [h]
    have h0 := be_get (k + 1) m 0 (by omega)
    cases hb : be (k + 1) m with
    | nil => rw [hb] at h0; simp at h0
    | cons c r =>
      cases j with
      | zero =>
        rw [hb] at h0
        simp only [List.getElem?_cons_zero, Option.some.injEq] at h0
        subst h0
        simp
      | succ j =>
        have h1 := be_get (k + 1) m (j + 1) hj
        rw [hb] at h1
        simp only [List.getElem?_cons_succ] at h1 ⊢
        rw [h1]
        simp only [Nat.add_one_ne_zero, if_false, Nat.add_zero]
        congr 1
        apply UInt8.toNat_inj.1
        simp

theorem take_next {l : List UInt8} {j : Nat} {b : UInt8} (h : l[j]? = some b) : l.take (j + 1) = l.take j ++ [b] := by
  rw [List.take_add_one, h]; rfl

theorem shr_byte {m : Int} (h0 : 0 ≤ m) (e c : Nat) : (m / 2 ^ (8 * e) + (c : Int)) % 256 = ((m.toNat / 256 ^ e % 256 + c) % 256 : Nat) := by
  obtain ⟨n, rfl⟩ := Int.eq_ofNat_of_zero_le h0
  have e1 : (2 : Int) ^ (8 * e) = ((256 ^ e : Nat) : Int) := by
    rw [Int.pow_mul, Int.natCast_pow]; rfl
  rw [e1, Int.toNat_natCast, ← Int.natCast_ediv]
  generalize n / 256 ^ e = x
  omega
theorem put_first {m : Int} (h0 : 0 ≤ m) {k mk : Nat} (hk : pSize m.toNat = k) (hm : mark k = mk) (h1 : 0 < k) : ∃ b, (pPut m.toNat)[0]? = some b ∧ Value.int .u8 ((m / 2 ^ (8 * (k - 1)) + (mk : Int)) % 256) = vb b := by
  refine ⟨_, pPut_get hk h1, ?_⟩
  rw [vb_of, shr_byte h0, if_pos rfl, hm]
  rfl
theorem put_later {m : Int} (h0 : 0 ≤ m) {k j : Nat} (hk : pSize m.toNat = k) (hj : j < k) (h1 : j ≠ 0) : ∃ b, (pPut m.toNat)[j]? = some b ∧ Value.int .u8 (m / 2 ^ (8 * (k - 1 - j)) % 256) = vb b := by
  refine ⟨_, pPut_get hk hj, ?_⟩
  rw [vb_of, if_neg h1]
  have h := shr_byte h0 (k - 1 - j) 0
  rw [show ((0 : Nat) : Int) = 0 from rfl, Int.add_zero] at h
  rw [h]
theorem put_round {w : World} {base N c : Nat} {E : TypeId} {A : Option Addr} {l p : List UInt8} {j : Nat} {x : Int} (h : Own w base E 1 A N c (vbs (l ++ p.take j) ++ [.int .u8 x])) (hb : ∃ b, p[j]? = some b ∧ Value.int .u8 x = vb b) :
    Own w base E 1 A N c (vbs (l ++ p.take (j + 1))) := by
  obtain ⟨b, h1, h2⟩ := hb
  rw [take_next h1, ← List.append_assoc, vbs_append]
  rw [h2] at h
  exact h

set_option maxHeartbeats 800000 in
theorem rput_any (A : Option Addr) (n c : Nat) (m : Int) (l : List UInt8) (B : Nat) (w : World) (hr : Rd w B 1 A n (vbs l)) (hB : B ≤ w.heap.size) (h0 : 0 ≤ m) (h1 : m ≤ 18446744073709551615) (hn : n + 8 ≤ 140737488355328) :
    Calls Try.prog 12 #[.slice A n c, .int .u64 m] w fun e w' =>
      ∃ A' c', e = .returned (.tuple #[.slice A' (n + pSize m.toNat) c', .int .i64 (pErr m.toNat)]) ∧ Own w' w.heap.size 5 1 A' (n + pSize m.toNat) c' (vbs (l ++ pPut m.toNat)) ∧ Turn w w' none := by
  have hw0 : Own (w.alloc (.cells #[] 5)) w.heap.size 5 1 (some ⟨w.heap.size, 0, none⟩) 0 0 [] := Own.made w _ _ 1 0 #[] (Nat.le_refl _) (by decide) rfl
  have hr1 := hr.alloc hB (.cells #[] 5)
  by_cases hz : pSize m.toNat = 0
  · have H := hid hz
    clear hz
    go_enter Try.func12, Try.ntmps12
    go_wp2_with (first
      | (go_at_call 14; refine (rsize_any _ _ (by omega) (by omega)).mono ?_; rintro e w' ⟨rfl, rfl⟩; rw [H.out])
      | (at_builtin; refine wp_app rfl _ _ _ rfl elB rfl rfl hw0 hr1 (vbs_one l) (by unfold maxLen; first | omega | (simp; done) | (simp; omega)) (by first | omega | (simp; done) | (simp; omega)) (by first | omega | (simp; done) | (simp; omega)) ?_; intro A1 c1 w1 hown ht hb))
    go_ret2
    refine ⟨A1, c1, ?_, ?_, (Turn.alloc (Turn.refl w none) _).new ht (fun g hg => by simp [blk] at hg; omega)⟩
    · rw [pErr, H.out]; simp
    · rw [H.out, pPut_none H.out, List.append_nil]; simpa using hown
  · have hn0 : n + 0 = n := rfl
    rcases size_cases m h0 with ⟨h2, h⟩ | ⟨h2, h3, h⟩ | ⟨h2, h3, h⟩ | ⟨h2, h3, h⟩ | ⟨h2, h⟩
    case inr.inr.inr.inr => omega
    all_goals
      have H := hid h
      have hpl := hid (pPut_len m.toNat)
      clear hz h hn0
      go_enter Try.func12, Try.ntmps12
      go_wp2_with (first
        | (go_at_call 14; refine (rsize_any _ _ (by omega) (by omega)).mono ?_; rintro e w' ⟨rfl, rfl⟩; rw [H.out])
        | (at_builtin; refine wp_app rfl _ _ _ rfl elB rfl rfl hw0 hr1 (vbs_one l) (by unfold maxLen; first | omega | (simp; done) | (simp; omega)) (by first | omega | (simp; done) | (simp; omega)) (by first | omega | (simp; done) | (simp; omega)) ?_; intro A1 c1 w1 hown ht hb))
      have ht1 : Turn w w1 none := (Turn.alloc (Turn.refl w none) _).new ht (fun g hg => by simp [blk] at hg; omega)
      go_loopw [6, 9] (fun v i wr => ∃ (j : Nat) (A2 : Option Addr) (c2 : Nat), j ≤ pSize m.toNat ∧ i = .int .i64 ((pSize m.toNat : Int) - 1 - j) ∧ v = .slice A2 (n + j) c2 ∧
          Own wr w.heap.size 5 1 A2 (n + j) c2 (vbs (l ++ (pPut m.toNat).take j)) ∧ Turn w wr none) (fun _ i _ => (intOf i + 1).toNat)
      case atStart => exact ⟨0, A1, c1, by omega, by rw [H.out]; rfl, by simp, by simpa using hown, ht1⟩
      case round =>
        obtain ⟨j, A2, c2, hj, rfl, rfl, ho, htr⟩ := hrel
        have hz := htr.size
        rw [H.out] at hj
        rw [H.out]
        clear hown ht ht1 hb
        go_wp2_with (at_builtin; refine wp_app rfl _ _ _ rfl elB rfl rfl (ho.alloc _) (Rd.lit _ _ _) (by repeat (first | exact ones_nil | refine ones_cons rfl ?_)) (by unfold maxLen; first | omega | (simp; done) | (simp; omega)) (by first | omega | (simp; done) | (simp; omega)) (by first | omega | (simp; done) | (simp; omega)) ?_; intro A3 c3 w3 ho3 ht3 hb3)
        all_goals first
          | (go_ret2
             have hj2 : j = pSize m.toNat := by rw [H.out]; omega
             refine ⟨A2, c2, by rw [pErr, H.out, hj2, H.out]; rfl, ?_, htr⟩
             rw [hj2, List.take_of_length_le (by rw [hpl.out]; exact Nat.le_refl _)] at ho
             exact ho)
          | (go_roundw
             case measure => simp [intOf]; omega
             case rel =>
               have hG3 : Turn w w3 none := (htr.alloc _).new ht3 (fun g hg => (ho.block g hg).1)
               (try simp only [beq_iff_eq, beq_eq_false_iff_ne, ne_eq] at *)
               refine ⟨j + 1, A3, c3, by omega, by go_num, by first | rfl | (congr 1; omega), put_round ho3 ?_, hG3⟩
               first
               | (obtain rfl : j = 0 := by omega
                  first
                  | exact put_first h0 H.out rfl (by omega)
                  | (have h5 := put_first h0 H.out (mk := 0) rfl (by omega)
                     have h6 : (m / 2 ^ (8 * (1 - 1)) + ((0 : Nat) : Int)) % 256 = m := by simp; omega
                     rw [h6] at h5
                     exact h5))
               | exact put_later h0 H.out (by omega) (by omega))

end Go.Proofs.Ytljmikhommkjgaa
