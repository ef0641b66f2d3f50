/-
  Layer 16, the code: where a foreign id stands; Map.
-/
import Derived.Test.YtnkmpcepdjjopaaIdE
namespace Go.Proofs.Ytnkmpcepdjjopaa
set_option linter.unusedSimpArgs false
set_option linter.unusedVariables false
open Go.RowKit

/-- How many bounds stand ahead of a foreign id. -/
def iAt : List (Nat × Nat) → Nat → Nat
  | [], _ => 0
  | p :: l, x => if p.1 < x then iAt l x + 1 else 0
theorem iAt_le (B : List (Nat × Nat)) (x : Nat) : iAt B x ≤ B.length := by
  induction B with
  | nil => exact Nat.le_refl _
  | cons p l ih => rw [iAt]; split <;> simp; exact ih
theorem iAt_eq {B : List (Nat × Nat)} {x i : Nat} (h1 : ∀ k p, k < i → B[k]? = some p → p.1 < x) (h2 : ∀ p, B[i]? = some p → x ≤ p.1) (hi : i ≤ B.length) : iAt B x = i := by
  induction B generalizing i with
  | nil => simp at hi; subst hi; rfl
  | cons p l ih =>
    rw [iAt]
    cases i with
    | zero =>
      have := h2 p rfl
      rw [if_neg (by omega)]
    | succ i =>
      have := h1 0 p (Nat.succ_pos _) rfl
      rw [if_pos this, ih (fun k q hk hq => h1 (k + 1) q (by omega) hq) (fun q hq => h2 q hq) (by simpa using hi)]
theorem iAt_ins {B : List (Nat × Nat)} {x y : Nat} (hu : B.Pairwise fun p q => p.1 < q.1) (hx : ∀ p ∈ B, p.1 ≠ x) : iIns x y B = B.take (iAt B x) ++ (x, y) :: B.drop (iAt B x) := by
  induction B with
  | nil => rfl
  | cons p l ih =>
    rw [List.pairwise_cons] at hu
    have h0 := hx p List.mem_cons_self
    rw [iIns, iAt]
    by_cases c : p.1 < x
    · rw [if_neg (by omega), if_pos c, ih hu.2 fun q hq => hx q (List.mem_cons_of_mem _ hq)]
      rfl
    · rw [if_pos (by omega), if_neg c]
      rfl
/-- Whether one is bound. -/
def iHas (B : List (Nat × Nat)) (x : Nat) : Bool := decide (iMap B x ≠ 0)
theorem iAt_map {t : Idt} (w : t.Wf) (x : Nat) : (∃ p, t.B[iAt t.B x]? = some p ∧ p.1 = x ∧ iMap t.B x = p.2 ∧ p.2 ≠ 0) ∨ ((∀ p, t.B[iAt t.B x]? = some p → p.1 ≠ x) ∧ iMap t.B x = 0) := by
  by_cases c : ∃ p, t.B[iAt t.B x]? = some p ∧ p.1 = x
  · obtain ⟨p, h1, h2⟩ := c
    have hm := List.mem_of_getElem? h1
    have h3 := iMap_of w.up hm
    have h4 := w.id p hm
    rw [h2] at h3
    exact .inl ⟨p, h1, h2, h3, by omega⟩
  · refine .inr ⟨fun p h1 h2 => c ⟨p, h1, h2⟩, iMap_none fun p hp h2 => c ?_⟩
    obtain ⟨k, hk⟩ := List.getElem?_of_mem hp
    have hkl : k < t.B.length := (List.getElem?_eq_some_iff.1 hk).1
    have e : iAt t.B x = k := by
      refine iAt_eq (fun j q hj hq => ?_) (fun q hq => ?_) (Nat.le_of_lt hkl)
      · have h5 := (List.pairwise_iff_getElem.mp w.up) j k (by omega) hkl hj
        rw [List.getElem?_eq_getElem (by omega)] at hq
        rw [List.getElem?_eq_getElem hkl] at hk
        have e1 := Option.some.inj hq
        have e2 := Option.some.inj hk
        rw [e1, e2] at h5
        omega
      · rw [hk] at hq
        rw [← Option.some.inj hq]
        omega
    exact ⟨p, by rw [e]; exact hk, h2⟩

def ordI (a b : Nat) : Int := if a < b then -1 else if b < a then 1 else 0
set_option maxRecDepth 100000 in
theorem nan16_any (a : Nat) (w : World) : Calls Try.prog 36 #[.int .u64 (a : Int)] w fun e w' => e = .returned (.bool false) ∧ w = w' := by
  go_enter Try.func36, Try.ntmps36
  go_wp2
  go_ret
  exact ⟨rfl, rfl⟩
set_option maxRecDepth 100000 in
theorem cmp16_any (a b : Nat) (w : World) : Calls Try.prog 34 #[.int .u64 (a : Int), .int .u64 (b : Int)] w fun e w' => e = .returned (.int .i64 (ordI a b)) ∧ w = w' := by
  have ka := fun w => nan16_any a w
  have kb := fun w => nan16_any b w
  unfold ordI
  have hq : a < b ∨ (¬ a < b ∧ b < a) ∨ (¬ a < b ∧ ¬ b < a) := by omega
  rcases hq with h | ⟨h, h2⟩ | ⟨h, h2⟩
  · rw [if_pos h]
    go_enter Try.func34, Try.ntmps34
    go_wp2_with (first
      | (go_at_call 36; refine (ka _).mono ?_; rintro e w1 ⟨rfl, rfl⟩)
      | (go_at_call 36; refine (kb _).mono ?_; rintro e w1 ⟨rfl, rfl⟩))
    go_ret
    exact ⟨rfl, rfl⟩
  · rw [if_neg h, if_pos h2]
    go_enter Try.func34, Try.ntmps34
    go_wp2_with (first
      | (go_at_call 36; refine (ka _).mono ?_; rintro e w1 ⟨rfl, rfl⟩)
      | (go_at_call 36; refine (kb _).mono ?_; rintro e w1 ⟨rfl, rfl⟩))
    go_ret
    exact ⟨rfl, rfl⟩
  · rw [if_neg h, if_neg h2]
    go_enter Try.func34, Try.ntmps34
    go_wp2_with (first
      | (go_at_call 36; refine (ka _).mono ?_; rintro e w1 ⟨rfl, rfl⟩)
      | (go_at_call 36; refine (kb _).mono ?_; rintro e w1 ⟨rfl, rfl⟩))
    go_ret
    exact ⟨rfl, rfl⟩
set_option maxRecDepth 100000 in
theorem clos16_any (p : Nat × Nat) (x : Nat) (w : World) : Calls Try.prog 33 #[.agg (bv p).toArray, .int .u64 (x : Int)] w fun e w' => e = .returned (.int .i64 (ordI p.1 x)) ∧ Turn w w' none := by
  have kc := fun w => cmp16_any p.1 x w
  generalize ordI p.1 x = r at *
  go_enter Try.func33, Try.ntmps33
  go_wp2_with (first
    | (refine wp_bx rfl 50 _ rfl rfl ?_; intro g w1 hg hb1 ht1; have c0 : w1.cell? ⟨g, 0, none⟩ = some (.int .u64 (p.1 : Int)) := hb1.ats rfl)
    | (go_at_call 34; refine (kc _).mono ?_; rintro e w2 ⟨rfl, rfl⟩))
  go_ret
  exact ⟨rfl, ht1⟩
/-- One bound out of an owned row of them. -/
theorem Own.bnd {w : World} {base n c k gz : Nat} {E : TypeId} {B : List (Nat × Nat)} {p : Nat × Nat} (h : Own w base E 2 (some ⟨gz, 0, none⟩) n c (bvs B)) (hk : B[k]? = some p) : w.rangeAt gz (k * 2) (bv p) := by
  have hl : k < B.length := (List.getElem?_eq_some_iff.1 hk).1
  have hn : n = B.length := by have := h.len_; rw [bvs_len] at this; omega
  obtain ⟨h1, h2⟩ := bvs_at hk
  intro j v hj
  rw [h.cell (i := k * 2 + j) (by
    have : j < 2 := (List.getElem?_eq_some_iff.1 hj).1
    omega)]
  match j, hj with
  | 0, hj => obtain rfl := Option.some.inj hj; exact h1
  | 1, hj => obtain rfl := Option.some.inj hj; exact h2

set_option maxRecDepth 100000 in
set_option maxHeartbeats 3200000 in
theorem bsf16_any {w : World} {A : Option Addr} {n c : Nat} {B : List (Nat × Nat)} (hz : Own w 0 50 2 A n c (bvs B)) (hu : B.Pairwise fun p q => p.1 < q.1) (hf : n ≤ 100000) (x : Nat) :
    Calls Try.prog 32 #[.slice A n c, .int .u64 (x : Int), .func (.func 33) #[] #[]] w fun e w' =>
      e = .returned (.tuple #[.int .i64 ((iAt B x : Nat) : Int), .bool (decide (∃ p, B[iAt B x]? = some p ∧ p.1 = x))]) ∧ Turn w w' none := by
  have hn : n = B.length := by have := hz.len_; rw [bvs_len] at this; omega
  have HN := hid hn
  have HU := hid hu
  clear hn hu
  obtain ⟨AT, hAT⟩ : ∃ AT, AT = iAt B x := ⟨_, rfl⟩
  rw [← hAT]
  obtain ⟨FN, hFN⟩ : ∃ FN, FN = decide (∃ p, B[AT]? = some p ∧ p.1 = x) := ⟨_, rfl⟩
  rw [← hFN]
  have HAT := hid hAT
  have HFN := hid hFN
  clear hAT hFN
  go_enter Try.func32, Try.ntmps32
  go_wp2
  go_loopw [9, 10] (fun i j wr => ∃ a b : Nat, a ≤ b ∧ b ≤ n ∧ i = .int .i64 (a : Int) ∧ j = .int .i64 (b : Int) ∧ Turn w wr none ∧ Hid (∀ k p, k < a → B[k]? = some p → p.1 < x) ∧ Hid (∀ k p, b ≤ k → B[k]? = some p → x ≤ p.1)) (fun i j _ => (intOf j - intOf i).toNat)
  case atStart => exact ⟨0, n, by omega, by omega, rfl, rfl, Turn.refl w none, hid (fun k p hk _ => by omega), hid (fun k p hk hp => by
    have := (List.getElem?_eq_some_iff.1 hp).1
    have := HN.out
    omega)⟩
  case round =>
    obtain ⟨a, b, hab, hbn, rfl, rfl, htr, HA, HB⟩ := hrel
    by_cases hlt : a < b
    · go_upto_region 5 with fail
      obtain ⟨h, hh⟩ : ∃ h : Nat, ((a : Int) + (b : Int)) / 2 = (h : Int) := ⟨(a + b) / 2, by omega⟩
      rw [hh]
      have h1 : a ≤ h := by omega
      have h2 : h < b := by omega
      clear hh
      obtain ⟨p, hp⟩ : ∃ p, B[h]? = some p := ⟨_, List.getElem?_eq_getElem (by have := HN.out; omega)⟩
      have hz2 := hz.turn0 htr
      obtain ⟨gz, rfl, _, _⟩ := hz2.head (by omega)
      have R := hz2.bnd hp
      have kc := fun w => clos16_any p x w
      have hw1 : wrap64 ((h : Int) + 1) = (h : Int) + 1 := by unfold wrap64; omega
      by_cases hc : p.1 < x
      · have e1 : ordI p.1 x = -1 := by unfold ordI; rw [if_pos hc]
        rw [e1] at kc
        have X1 : ∀ k q, k < h + 1 → B[k]? = some q → q.1 < x := by
          intro k q hk hq
          have hkl := (List.getElem?_eq_some_iff.1 hq).1
          have hhl := (List.getElem?_eq_some_iff.1 hp).1
          rcases Nat.lt_or_ge k h with c1 | c1
          · have h5 := (List.pairwise_iff_getElem.mp HU.out) k h hkl hhl c1
            rw [List.getElem?_eq_getElem hkl] at hq
            rw [List.getElem?_eq_getElem hhl] at hp
            rw [Option.some.inj hq, Option.some.inj hp] at h5
            omega
          · obtain rfl : k = h := by omega
            rw [hp] at hq
            rw [← Option.some.inj hq]
            exact hc
        have HX := hid X1
        have HP := hid hp
        clear X1 hp e1 hc
        go_wp2_with (first
          | (refine wpList_load_mid rfl 50 _ rfl gz (h * 2) rfl (bv p) _ R Try.underlying50 rfl szBd ?_)
          | (go_at_call 33; refine (kc _).mono ?_; rintro e w2 ⟨rfl, t2⟩))
        refine ⟨⟨h + 1, b, by omega, hbn, by go_num, rfl, htr.trans t2, HX, HB⟩, ?_⟩
        simp [intOf]; omega
      · have e1 : ordI p.1 x = 1 ∨ ordI p.1 x = 0 := by unfold ordI; rw [if_neg hc]; split <;> simp
        have X1 : ∀ k q, h ≤ k → B[k]? = some q → x ≤ q.1 := by
          intro k q hk hq
          have hkl := (List.getElem?_eq_some_iff.1 hq).1
          have hhl := (List.getElem?_eq_some_iff.1 hp).1
          rcases Nat.lt_or_ge h k with c1 | c1
          · have h5 := (List.pairwise_iff_getElem.mp HU.out) h k hhl hkl c1
            rw [List.getElem?_eq_getElem hkl] at hq
            rw [List.getElem?_eq_getElem hhl] at hp
            rw [Option.some.inj hq, Option.some.inj hp] at h5
            omega
          · obtain rfl : k = h := by omega
            rw [hp] at hq
            rw [← Option.some.inj hq]
            omega
        have HX := hid X1
        have HP := hid hp
        clear X1 hp hc
        rcases e1 with e1 | e1
        all_goals
          rw [e1] at kc
          go_wp2_with (first
            | (refine wpList_load_mid rfl 50 _ rfl gz (h * 2) rfl (bv p) _ R Try.underlying50 rfl szBd ?_)
            | (go_at_call 33; refine (kc _).mono ?_; rintro e w2 ⟨rfl, t2⟩))
          refine ⟨⟨a, h, by omega, by omega, rfl, rfl, htr.trans t2, HA, HX⟩, ?_⟩
          simp [intOf]; omega
    · obtain rfl : a = b := by omega
      have hat : iAt B x = a := iAt_eq HA.out (fun p hp => HB.out a p (Nat.le_refl _) hp) (by have := HN.out; omega)
      have hat := HAT.out.trans hat
      have HA2 := hid hat
      clear hat
      by_cases han : a < n
      · obtain ⟨p, hp⟩ : ∃ p, B[a]? = some p := ⟨_, List.getElem?_eq_getElem (by have := HN.out; omega)⟩
        have hz2 := hz.turn0 htr
        obtain ⟨gz, rfl, _, _⟩ := hz2.head (by omega)
        have R := hz2.bnd hp
        have kc := fun w => clos16_any p x w
        have hx := HB.out a p (Nat.le_refl _) hp
        by_cases hc : p.1 = x
        · have e1 : ordI p.1 x = 0 := by unfold ordI; rw [if_neg (by omega), if_neg (by omega)]
          rw [e1] at kc
          have D : (∃ q, B[a]? = some q ∧ q.1 = x) := ⟨p, hp, hc⟩
          have HD := hid (show FN = true by rw [HFN.out, HA2.out]; exact decide_eq_true D)
          clear hp D e1 hc hx
          go_wp2_with (first
            | (refine gd_ldR (by rfl) 50 _ rfl rfl (xs := bv p) R Try.underlying50 rfl szBd ?_)
            | (go_at_call 33; refine (kc _).mono ?_; rintro e w2 ⟨rfl, t2⟩))
          go_ret2
          exact ⟨by rw [HD.out, HA2.out]; rfl, htr.trans t2⟩
        · have e1 : ordI p.1 x = 1 := by unfold ordI; rw [if_neg (by omega), if_pos (by omega)]
          rw [e1] at kc
          have D : ¬ (∃ q, B[a]? = some q ∧ q.1 = x) := by
            rintro ⟨q, hq, hq2⟩
            rw [hp] at hq
            rw [← Option.some.inj hq] at hq2
            exact hc hq2
          have HD := hid (show FN = false by rw [HFN.out, HA2.out]; exact decide_eq_false D)
          clear hp D e1 hc hx
          go_wp2_with (first
            | (refine gd_ldR (by rfl) 50 _ rfl rfl (xs := bv p) R Try.underlying50 rfl szBd ?_)
            | (go_at_call 33; refine (kc _).mono ?_; rintro e w2 ⟨rfl, t2⟩))
          go_ret2
          exact ⟨by rw [HD.out, HA2.out]; rfl, htr.trans t2⟩
      · have D : ¬ (∃ q, B[a]? = some q ∧ q.1 = x) := by
          rintro ⟨q, hq, _⟩
          have := (List.getElem?_eq_some_iff.1 hq).1
          have := HN.out
          omega
        have HD := hid (show FN = false by rw [HFN.out, HA2.out]; exact decide_eq_false D)
        clear D
        go_wp2
        go_ret2
        exact ⟨by rw [HD.out, HA2.out]; rfl, htr⟩
end Go.Proofs.Ytnkmpcepdjjopaa
