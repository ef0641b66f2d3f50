import Derived.Test.YtmghkfnnilapdaaDoorG11
import Derived.Test.YtmghkfnnilapdaaDoorG1
import Derived.Deep.Slices
import Derived.Deep.Strs
set_option linter.unusedSimpArgs false
set_option linter.unusedVariables false
set_option linter.unusedSectionVars false
/-
  Layer 7: the walk of ParseApart.
-/
namespace Go.Proofs.YtmghkfnnilapdaaDoor
open Go.RowKit

theorem cShow_read {gs : List Gn} {t : List UInt8} {d : Nat} (h : cShow gs = some (t, d)) : ∃ N, eRead t = .ok N ∧ N.map Nd.g = gs := by
  unfold cShow at h
  split at h
  · cases h
  · split at h
    · rename_i N e
      split at h
      · rename_i hg
        injection h with h
        injection h with h1 h2
        subst h1
        exact ⟨N, e, hg⟩
      · cases h
    · cases h
theorem cShow_one {l k : List Gn} {t u : List UInt8} {d e : Nat} (h1 : cShow l = some (t, d)) (h2 : cShow k = some (u, e)) : t = u ↔ l = k := by
  constructor
  · rintro rfl
    obtain ⟨N, a1, a2⟩ := cShow_read h1
    obtain ⟨M, b1, b2⟩ := cShow_read h2
    rw [a1] at b1
    injection b1 with b1
    rw [← a2, ← b2, b1]
  · rintro rfl
    rw [h1] at h2
    injection h2 with h2
    injection h2
/-- A schema that is given, of any size that a machine holds. -/
structure Gvn (w : World) (A : Option Addr) (n c : Nat) (gs : List Gn) : Prop where
  sc : Sc w w.heap.size A n gs
  few : n ≤ 281474976710656
  big : ∀ x ∈ gs, x.syms.length ≤ 281474976710656 ∧ x.items.length ≤ 281474976710656 ∧ x.fields.length ≤ 281474976710656
  str : ∀ x ∈ gs, x.name.length ≤ 140737488355327 ∧ (∀ s ∈ x.syms, s.length ≤ 140737488355328) ∧ (∀ f ∈ x.fields, f.name.length ≤ 140737488355328) ∧ -9223372036854775808 ≤ x.size ∧ x.size ≤ 9223372036854775807
  cap : n ≤ c ∧ c ≤ maxLen
theorem Gvn.turn {w w' : World} {A : Option Addr} {n c : Nat} {gs : List Gn} (h : Gvn w A n c gs) (ht : Turn w w' none) : Gvn w' A n c gs := ⟨(h.sc.turn0 ht (Nat.le_refl _)).mono ht.size, h.few, h.big, h.str, h.cap⟩
theorem Gvn.sv {w : World} {A : Option Addr} {n c : Nat} {gs : List Gn} (h : Gvn w A n c gs) (hs : smB gs = true) : Sv w A n c gs := by
  obtain ⟨h1, h2⟩ := smB_all hs
  have hl := h.sc.1
  refine ⟨h.sc, fun x hx => ?_, by omega, h.cap⟩
  obtain ⟨s1, s2, s3, s4⟩ := h.str x hx
  have h3 := h2 x hx
  unfold gsz at h3
  exact ⟨by omega, by omega, by omega, s1, s2, s3, s4⟩
section
variable {w : World} {A B : Option Addr} {n m c d : Nat} {l k : List Gn}
set_option maxRecDepth 100000 in
set_option maxHeartbeats 1600000 in
theorem apart_small (hT : LT w) (ha : Gvn w A n c l) (hb : Gvn w B m d k) (hs : smB l = false ∨ smB k = false) : Calls Tryd.prog 4 #[.agg #[.slice A n c], .agg #[.slice B m d]] w fun e w' => e = .returned (.bool true) ∧ Turn w w' none := by
  have sa := fun {w1 : World} (t : Turn w w1 none) => rsmall_any (c := c) (ha.turn t).sc (Nat.le_refl _) ha.few ha.big
  have sb := fun {w1 : World} (t : Turn w w1 none) => rsmall_any (c := d) (hb.turn t).sc (Nat.le_refl _) hb.few hb.big
  have lv := fun {w1 : World} (t : Turn w w1 none) => lives_any w1 (hT.turn t)
  cases h1 : smB l with
  | false =>
    rw [h1] at sa
    clear hs h1 sb ha hb
    go_enter Tryd.func4, Tryd.ntmps4
    go_wp2_with (first
      | (have q9 := hg; refine wp_bx rfl 24 _ rfl rfl ?_; intro g2 w2 hg2 hb2 ht2; have hb3 := hb1.turn0 ht2; have tt := ht1.trans ht2)
      | (refine wp_bx rfl 24 _ rfl rfl ?_; intro g w1 hg hb1 ht1)
      | (refine wp_ld rfl 24 _ rfl rfl hb3 (Sub.all [.slice A n c]) Tryd.underlying24 rfl szSch ?_)
      | (go_at_call 11; refine (sa tt).mono ?_; rintro e w3 ⟨rfl, ht3⟩)
      | (go_at_call 7; refine (lv (tt.trans ht3)).mono ?_; rintro e w4 ⟨rfl, ht4⟩))
    go_ret
    exact ⟨rfl, (tt.trans ht3).trans ht4⟩
  | true =>
    have h2 : smB k = false := by rcases hs with h | h; (rw [h1] at h; cases h); exact h
    rw [h1] at sa
    rw [h2] at sb
    clear hs h1 h2 ha hb
    go_enter Tryd.func4, Tryd.ntmps4
    go_wp2_with (first
      | (have q9 := hg; refine wp_bx rfl 24 _ rfl rfl ?_; intro g2 w2 hg2 hb2 ht2; have hb3 := hb1.turn0 ht2; have tt := ht1.trans ht2)
      | (refine wp_bx rfl 24 _ rfl rfl ?_; intro g w1 hg hb1 ht1)
      | (refine wp_ld rfl 24 _ rfl rfl hb5 (Sub.all [.slice B m d]) Tryd.underlying24 rfl szSch ?_)
      | (refine wp_ld rfl 24 _ rfl rfl hb3 (Sub.all [.slice A n c]) Tryd.underlying24 rfl szSch ?_)
      | (go_at_call 11; have q8 := hb5; refine (sb (tt.trans ht3)).mono ?_; rintro e w4 ⟨rfl, ht4⟩)
      | (go_at_call 11; refine (sa tt).mono ?_; rintro e w3 ⟨rfl, ht3⟩; have hb5 := hb2.turn0 ht3; have cb5 : w3.cell? ⟨g2, 0, none⟩ = some (.slice B m d) := hb5.ats (xs := [_]) rfl)
      | (go_at_call 7; refine (lv ((tt.trans ht3).trans ht4)).mono ?_; rintro e w5 ⟨rfl, ht5⟩))
    go_ret
    exact ⟨rfl, ((tt.trans ht3).trans ht4).trans ht5⟩
set_option maxRecDepth 100000 in
set_option maxHeartbeats 1600000 in
theorem apart_big (hT : LT w) (ha : Gvn w A n c l) (hb : Gvn w B m d k) (hl : smB l = true) (hk : smB k = true) : Calls Tryd.prog 4 #[.agg #[.slice A n c], .agg #[.slice B m d]] w fun e w' => e = .returned (.bool true) ∧ Turn w w' none := by
  have sa := fun {w1 : World} (t : Turn w w1 none) => rsmall_any (c := c) (ha.turn t).sc (Nat.le_refl _) ha.few ha.big
  have sb := fun {w1 : World} (t : Turn w w1 none) => rsmall_any (c := d) (hb.turn t).sc (Nat.le_refl _) hb.few hb.big
  have lv := fun {w1 : World} (t : Turn w w1 none) => lives_any w1 (hT.turn t)
  have va := ha.sv hl
  have vb := hb.sv hk
  have sm := fun {w1 : World} (t : Turn w w1 none) => rsame_any (c := c) (d := d) (va.turn t).sc (vb.turn t).sc (Nat.le_refl _) va.few (fun x hx => ⟨(va.ok x hx).ls, (va.ok x hx).li, (va.ok x hx).lf⟩)
  have so1 := fun {w1 : World} {t : List UInt8} {q : Nat} (h : cShow l = some (t, q)) (ht : Turn w w1 none) => show_ok h (hT.turn ht) (va.turn ht)
  have sn1 := fun {w1 : World} (h : cShow l = none) (ht : Turn w w1 none) => show_no h (hT.turn ht) (va.turn ht)
  have so2 := fun {w1 : World} {t : List UInt8} {q : Nat} (h : cShow k = some (t, q)) (ht : Turn w w1 none) => show_ok h (hT.turn ht) (vb.turn ht)
  have sn2 := fun {w1 : World} (h : cShow k = none) (ht : Turn w w1 none) => show_no h (hT.turn ht) (vb.turn ht)
  rw [hl] at sa
  rw [hk] at sb
  clear hl hk ha hb va vb
  cases h1 : cShow l with
  | none =>
    have s1 := fun {w1 : World} (ht : Turn w w1 none) => sn1 h1 ht
    cases h2 : cShow k with
    | none =>
      have s2 := fun {w1 : World} (ht : Turn w w1 none) => sn2 h2 ht
      clear h1 h2 so1 so2 sn1 sn2 sm
      go_enter Tryd.func4, Tryd.ntmps4
      go_upto_region 3 with (first
        | (have q9 := hg; refine wp_bx rfl 24 _ rfl rfl ?_; intro g2 w2 hg2 hb2 ht2; have hb3 := hb1.turn0 ht2; have tt := ht1.trans ht2)
        | (refine wp_bx rfl 24 _ rfl rfl ?_; intro g w1 hg hb1 ht1)
        | (refine wp_ld rfl 24 _ rfl rfl hb5 (Sub.all [.slice B m d]) Tryd.underlying24 rfl szSch ?_)
        | (refine wp_ld rfl 24 _ rfl rfl hb3 (Sub.all [.slice A n c]) Tryd.underlying24 rfl szSch ?_)
        | (go_at_call 11; have q8 := hb5; refine (sb (tt.trans ht3)).mono ?_; rintro e w4 ⟨rfl, ht4⟩)
        | (go_at_call 11; refine (sa tt).mono ?_; rintro e w3 ⟨rfl, ht3⟩; have hb5 := hb2.turn0 ht3; have cb5 : w3.cell? ⟨g2, 0, none⟩ = some (.slice B m d) := hb5.ats (xs := [_]) rfl))
      have T4 := (tt.trans ht3).trans ht4
      have ba := (hb3.turn0 ht3).turn0 ht4
      have bb := hb5.turn0 ht4
      clear hb3 hb5 hb1 hb2 sa sb cb5
      go_upto_region 4 with (first
        | (refine wp_ld rfl 24 _ rfl rfl ba (Sub.all [.slice A n c]) Tryd.underlying24 rfl szSch ?_)
        | (go_at_call 8; refine (s1 T4).mono ?_; rintro e w5 ⟨rfl, ht5⟩))
      have bb5 := bb.turn0 ht5
      go_upto_region 5 with (first
        | (refine wp_ld rfl 24 _ rfl rfl bb5 (Sub.all [.slice B m d]) Tryd.underlying24 rfl szSch ?_)
        | (go_at_call 8; refine (s2 (T4.trans ht5)).mono ?_; rintro e w6 ⟨rfl, ht6⟩))
      have T6 := (T4.trans ht5).trans ht6
      go_wp2_with (go_at_call 7; refine (lv T6).mono ?_; rintro e w8 ⟨rfl, ht8⟩)
      go_ret
      exact ⟨rfl, T6.trans ht8⟩
    | some p =>
      obtain ⟨t2, q2⟩ := p
      have s2 := fun {w1 : World} (ht : Turn w w1 none) => so2 h2 ht
      clear h1 h2 so1 so2 sn1 sn2 sm
      go_enter Tryd.func4, Tryd.ntmps4
      go_upto_region 3 with (first
        | (have q9 := hg; refine wp_bx rfl 24 _ rfl rfl ?_; intro g2 w2 hg2 hb2 ht2; have hb3 := hb1.turn0 ht2; have tt := ht1.trans ht2)
        | (refine wp_bx rfl 24 _ rfl rfl ?_; intro g w1 hg hb1 ht1)
        | (refine wp_ld rfl 24 _ rfl rfl hb5 (Sub.all [.slice B m d]) Tryd.underlying24 rfl szSch ?_)
        | (refine wp_ld rfl 24 _ rfl rfl hb3 (Sub.all [.slice A n c]) Tryd.underlying24 rfl szSch ?_)
        | (go_at_call 11; have q8 := hb5; refine (sb (tt.trans ht3)).mono ?_; rintro e w4 ⟨rfl, ht4⟩)
        | (go_at_call 11; refine (sa tt).mono ?_; rintro e w3 ⟨rfl, ht3⟩; have hb5 := hb2.turn0 ht3; have cb5 : w3.cell? ⟨g2, 0, none⟩ = some (.slice B m d) := hb5.ats (xs := [_]) rfl))
      have T4 := (tt.trans ht3).trans ht4
      have ba := (hb3.turn0 ht3).turn0 ht4
      have bb := hb5.turn0 ht4
      clear hb3 hb5 hb1 hb2 sa sb cb5
      go_upto_region 4 with (first
        | (refine wp_ld rfl 24 _ rfl rfl ba (Sub.all [.slice A n c]) Tryd.underlying24 rfl szSch ?_)
        | (go_at_call 8; refine (s1 T4).mono ?_; rintro e w5 ⟨rfl, ht5⟩))
      have bb5 := bb.turn0 ht5
      go_upto_region 5 with (first
        | (refine wp_ld rfl 24 _ rfl rfl bb5 (Sub.all [.slice B m d]) Tryd.underlying24 rfl szSch ?_)
        | (go_at_call 8; refine (s2 (T4.trans ht5)).mono ?_; rintro e w6 ⟨rfl, ht6⟩))
      have T6 := (T4.trans ht5).trans ht6
      go_wp2_with (go_at_call 7; refine (lv T6).mono ?_; rintro e w8 ⟨rfl, ht8⟩)
      go_ret
      exact ⟨rfl, T6.trans ht8⟩
  | some p =>
    obtain ⟨t1, q1⟩ := p
    have s1 := fun {w1 : World} (ht : Turn w w1 none) => so1 h1 ht
    cases h2 : cShow k with
    | none =>
      have s2 := fun {w1 : World} (ht : Turn w w1 none) => sn2 h2 ht
      clear h1 h2 so1 so2 sn1 sn2 sm
      go_enter Tryd.func4, Tryd.ntmps4
      go_upto_region 3 with (first
        | (have q9 := hg; refine wp_bx rfl 24 _ rfl rfl ?_; intro g2 w2 hg2 hb2 ht2; have hb3 := hb1.turn0 ht2; have tt := ht1.trans ht2)
        | (refine wp_bx rfl 24 _ rfl rfl ?_; intro g w1 hg hb1 ht1)
        | (refine wp_ld rfl 24 _ rfl rfl hb5 (Sub.all [.slice B m d]) Tryd.underlying24 rfl szSch ?_)
        | (refine wp_ld rfl 24 _ rfl rfl hb3 (Sub.all [.slice A n c]) Tryd.underlying24 rfl szSch ?_)
        | (go_at_call 11; have q8 := hb5; refine (sb (tt.trans ht3)).mono ?_; rintro e w4 ⟨rfl, ht4⟩)
        | (go_at_call 11; refine (sa tt).mono ?_; rintro e w3 ⟨rfl, ht3⟩; have hb5 := hb2.turn0 ht3; have cb5 : w3.cell? ⟨g2, 0, none⟩ = some (.slice B m d) := hb5.ats (xs := [_]) rfl))
      have T4 := (tt.trans ht3).trans ht4
      have ba := (hb3.turn0 ht3).turn0 ht4
      have bb := hb5.turn0 ht4
      clear hb3 hb5 hb1 hb2 sa sb cb5
      go_upto_region 4 with (first
        | (refine wp_ld rfl 24 _ rfl rfl ba (Sub.all [.slice A n c]) Tryd.underlying24 rfl szSch ?_)
        | (go_at_call 8; refine (s1 T4).mono ?_; rintro e w5 ⟨rfl, ht5⟩))
      have bb5 := bb.turn0 ht5
      go_upto_region 5 with (first
        | (refine wp_ld rfl 24 _ rfl rfl bb5 (Sub.all [.slice B m d]) Tryd.underlying24 rfl szSch ?_)
        | (go_at_call 8; refine (s2 (T4.trans ht5)).mono ?_; rintro e w6 ⟨rfl, ht6⟩))
      have T6 := (T4.trans ht5).trans ht6
      go_wp2_with (go_at_call 7; refine (lv T6).mono ?_; rintro e w8 ⟨rfl, ht8⟩)
      go_ret
      exact ⟨rfl, T6.trans ht8⟩
    | some p =>
      obtain ⟨t2, q2⟩ := p
      have s2 := fun {w1 : World} (ht : Turn w w1 none) => so2 h2 ht
      have ho := cShow_one h1 h2
      by_cases heq : l = k
      · have e1 : ((txt t1).toList == (txt t2).toList) = true := by rw [tx_beq, beq_iff_eq]; exact ho.2 heq
        have e2 : (l == k) = true := by rw [beq_iff_eq]; exact heq
        rw [e2] at sm
        clear h1 h2 so1 so2 sn1 sn2 ho heq e2
        go_enter Tryd.func4, Tryd.ntmps4
        go_upto_region 3 with (first
          | (have q9 := hg; refine wp_bx rfl 24 _ rfl rfl ?_; intro g2 w2 hg2 hb2 ht2; have hb3 := hb1.turn0 ht2; have tt := ht1.trans ht2)
          | (refine wp_bx rfl 24 _ rfl rfl ?_; intro g w1 hg hb1 ht1)
          | (refine wp_ld rfl 24 _ rfl rfl hb5 (Sub.all [.slice B m d]) Tryd.underlying24 rfl szSch ?_)
          | (refine wp_ld rfl 24 _ rfl rfl hb3 (Sub.all [.slice A n c]) Tryd.underlying24 rfl szSch ?_)
          | (go_at_call 11; have q8 := hb5; refine (sb (tt.trans ht3)).mono ?_; rintro e w4 ⟨rfl, ht4⟩)
          | (go_at_call 11; refine (sa tt).mono ?_; rintro e w3 ⟨rfl, ht3⟩; have hb5 := hb2.turn0 ht3; have cb5 : w3.cell? ⟨g2, 0, none⟩ = some (.slice B m d) := hb5.ats (xs := [_]) rfl))
        have T4 := (tt.trans ht3).trans ht4
        have ba := (hb3.turn0 ht3).turn0 ht4
        have bb := hb5.turn0 ht4
        clear hb3 hb5 hb1 hb2 sa sb cb5
        go_upto_region 4 with (first
          | (refine wp_ld rfl 24 _ rfl rfl ba (Sub.all [.slice A n c]) Tryd.underlying24 rfl szSch ?_)
          | (go_at_call 8; refine (s1 T4).mono ?_; rintro e w5 ⟨rfl, ht5⟩))
        have bb5 := bb.turn0 ht5
        go_upto_region 5 with (first
          | (refine wp_ld rfl 24 _ rfl rfl bb5 (Sub.all [.slice B m d]) Tryd.underlying24 rfl szSch ?_)
          | (go_at_call 8; refine (s2 (T4.trans ht5)).mono ?_; rintro e w6 ⟨rfl, ht6⟩))
        have T6 := (T4.trans ht5).trans ht6
        have ba6 := (ba.turn0 ht5).turn0 ht6
        have bb6 := bb5.turn0 ht6
        have ca6 : w6.cell? ⟨g, 0, none⟩ = some (.slice A n c) := ba6.ats (xs := [_]) rfl
        have cb6 : w6.cell? ⟨g2, 0, none⟩ = some (.slice B m d) := bb6.ats (xs := [_]) rfl
        go_wp2_with (first
          | (refine wp_ld rfl 24 _ rfl rfl ba6 (Sub.all [.slice A n c]) Tryd.underlying24 rfl szSch ?_)
          | (refine wp_ld rfl 24 _ rfl rfl bb6 (Sub.all [.slice B m d]) Tryd.underlying24 rfl szSch ?_)
          | (go_at_call 10; refine (sm T6).mono ?_; rintro e w7 ⟨rfl, ht7⟩)
          | (go_at_call 7; refine (lv (T6.trans ht7)).mono ?_; rintro e w8 ⟨rfl, ht8⟩))
        go_ret
        exact ⟨rfl, (T6.trans ht7).trans ht8⟩
      · have e1 : ((txt t1).toList == (txt t2).toList) = false := by rw [tx_beq, beq_eq_false_iff_ne]; exact fun e => heq (ho.1 e)
        have e2 : (l == k) = false := by rw [beq_eq_false_iff_ne]; exact heq
        rw [e2] at sm
        clear h1 h2 so1 so2 sn1 sn2 ho heq e2
        go_enter Tryd.func4, Tryd.ntmps4
        go_upto_region 3 with (first
          | (have q9 := hg; refine wp_bx rfl 24 _ rfl rfl ?_; intro g2 w2 hg2 hb2 ht2; have hb3 := hb1.turn0 ht2; have tt := ht1.trans ht2)
          | (refine wp_bx rfl 24 _ rfl rfl ?_; intro g w1 hg hb1 ht1)
          | (refine wp_ld rfl 24 _ rfl rfl hb5 (Sub.all [.slice B m d]) Tryd.underlying24 rfl szSch ?_)
          | (refine wp_ld rfl 24 _ rfl rfl hb3 (Sub.all [.slice A n c]) Tryd.underlying24 rfl szSch ?_)
          | (go_at_call 11; have q8 := hb5; refine (sb (tt.trans ht3)).mono ?_; rintro e w4 ⟨rfl, ht4⟩)
          | (go_at_call 11; refine (sa tt).mono ?_; rintro e w3 ⟨rfl, ht3⟩; have hb5 := hb2.turn0 ht3; have cb5 : w3.cell? ⟨g2, 0, none⟩ = some (.slice B m d) := hb5.ats (xs := [_]) rfl))
        have T4 := (tt.trans ht3).trans ht4
        have ba := (hb3.turn0 ht3).turn0 ht4
        have bb := hb5.turn0 ht4
        clear hb3 hb5 hb1 hb2 sa sb cb5
        go_upto_region 4 with (first
          | (refine wp_ld rfl 24 _ rfl rfl ba (Sub.all [.slice A n c]) Tryd.underlying24 rfl szSch ?_)
          | (go_at_call 8; refine (s1 T4).mono ?_; rintro e w5 ⟨rfl, ht5⟩))
        have bb5 := bb.turn0 ht5
        go_upto_region 5 with (first
          | (refine wp_ld rfl 24 _ rfl rfl bb5 (Sub.all [.slice B m d]) Tryd.underlying24 rfl szSch ?_)
          | (go_at_call 8; refine (s2 (T4.trans ht5)).mono ?_; rintro e w6 ⟨rfl, ht6⟩))
        have T6 := (T4.trans ht5).trans ht6
        have ba6 := (ba.turn0 ht5).turn0 ht6
        have bb6 := bb5.turn0 ht6
        have ca6 : w6.cell? ⟨g, 0, none⟩ = some (.slice A n c) := ba6.ats (xs := [_]) rfl
        have cb6 : w6.cell? ⟨g2, 0, none⟩ = some (.slice B m d) := bb6.ats (xs := [_]) rfl
        go_wp2_with (first
          | (refine wp_ld rfl 24 _ rfl rfl ba6 (Sub.all [.slice A n c]) Tryd.underlying24 rfl szSch ?_)
          | (refine wp_ld rfl 24 _ rfl rfl bb6 (Sub.all [.slice B m d]) Tryd.underlying24 rfl szSch ?_)
          | (go_at_call 10; refine (sm T6).mono ?_; rintro e w7 ⟨rfl, ht7⟩)
          | (go_at_call 7; refine (lv (T6.trans ht7)).mono ?_; rintro e w8 ⟨rfl, ht8⟩))
        go_ret
        exact ⟨rfl, (T6.trans ht7).trans ht8⟩
theorem apart_walk (hT : LT w) (ha : Gvn w A n c l) (hb : Gvn w B m d k) : Calls Tryd.prog 4 #[.agg #[.slice A n c], .agg #[.slice B m d]] w fun e w' => e = .returned (.bool true) ∧ Turn w w' none := by
  cases h1 : smB l with
  | false => exact apart_small hT ha hb (.inl h1)
  | true =>
    cases h2 : smB k with
    | false => exact apart_small hT ha hb (.inr h2)
    | true => exact apart_big hT ha hb h1 h2
end
end Go.Proofs.YtmghkfnnilapdaaDoor
/-
  Layer 7: schemas that are read as data: what is seen of them, and how great their parts are.
-/
namespace Go.Proofs.YtmghkfnnilapdaaDoor
open Go.ChangeShapes Go.WideShapes Go.ChangeAt Go.RowKit

theorem flat_len {V : Nat → List Value} {sz : Nat} (hV : ∀ i, (V i).length = sz) : ∀ n, ((List.range n).flatMap V).length = n * sz
  | 0 => by simp
  | n + 1 => by
    rw [List.range_succ, List.flatMap_append, List.length_append, flat_len hV n, Nat.succ_mul]
    simp [hV]
theorem flat_at {V : Nat → List Value} {sz : Nat} (hV : ∀ i, (V i).length = sz) : ∀ (n i q : Nat), i < n → q < sz → ((List.range n).flatMap V)[i * sz + q]? = (V i)[q]?
  | 0, _, _, h, _ => absurd h (Nat.not_lt_zero _)
  | n + 1, i, q, h, hq => by
    rw [List.range_succ, List.flatMap_append]
    have hl := flat_len hV n
    by_cases hi : i < n
    · have : i * sz + q < n * sz := by
        have h1 : (i + 1) * sz ≤ n * sz := Nat.mul_le_mul_right _ hi
        rw [Nat.succ_mul] at h1
        omega
      rw [List.getElem?_append_left (by rw [hl]; exact this)]
      exact flat_at hV n i q hi hq
    · obtain rfl : i = n := by omega
      rw [List.getElem?_append_right (by omega), hl, Nat.add_sub_cancel_left]
      simp
section
variable {H : Type} {enc : TypeId × Value → H} {P : Program} {W : World}
/-- Elements of some cells each, one behind another. -/
theorem rd_many {b : Addr} {len sz : Nat} {V : Nat → List Value} (hz : 0 < sz) (hV : ∀ i, (V i).length = sz) (h : ∀ i, i < len → ∀ q v, (V i)[q]? = some v → W.cell? (b.add (i * sz + q)) = some v) : Rd W W.heap.size sz (some b) len ((List.range len).flatMap V) := by
  refine ⟨flat_len hV len, fun k u hu => ?_⟩
  have hk : k < len * sz := by rw [← flat_len hV len]; exact (List.getElem?_eq_some_iff.1 hu).1
  have hi : k / sz < len := Nat.div_lt_of_lt_mul (by rw [Nat.mul_comm]; exact hk)
  have hq : k % sz < sz := Nat.mod_lt _ hz
  have hkk : k / sz * sz + k % sz = k := Nat.div_add_mod' k sz
  rw [← hkk, flat_at hV len _ _ hi hq] at hu
  have hc := h _ hi _ _ hu
  rw [hkk] at hc
  exact ⟨b, rfl, by have := World.block_lt_of_cell? W _ hc; rwa [addr_block] at this, hc⟩
/-- A slice that is read: its elements' cells, and their data. -/
theorem open_many {t e : TypeId} {sz fuel len cap : Nat} {a : Option Addr} {x : DataW H × List MemPlace} (ht : P.underlying t = some (.slice e)) (hsz : P.cellsOf e = sz)
    (h : DataW.trod enc P W 0 (fun _ => true) true fuel t [.slice a len cap] = some x) : (a = none ∧ len = 0 ∧ cap = 0) ∨
    ∃ (b : Addr) (n : Nat) (D : Nat → DataW H × List MemPlace) (C : Nat → List Value) (sp : List (DataW H)), a = some b ∧ len ≤ cap ∧ cap ≤ maxLen ∧ x.1 = .slice ((List.range len).map fun i => (D i).1) sp ∧ len + sp.length = cap ∧
      ∀ i, i < len → (C i).length = sz ∧ (∀ q v, (C i)[q]? = some v → W.cell? (b.add (i * sz + q)) = some v) ∧ DataW.trod enc P W 0 (fun _ => true) true n e (C i) = some (D i) := by
  rcases DataW.trod_slice ht h with ⟨hc, _⟩ | ⟨b, len', cap', elems, rest, n, _, hc, rfl, _, hl, hm, hel, hE, hS, _⟩
  · simp only [List.cons.injEq, Value.slice.injEq, and_true] at hc
    exact .inl hc
  · simp only [List.cons.injEq, Value.slice.injEq, and_true] at hc
    obtain ⟨rfl, rfl, rfl⟩ := hc
    obtain ⟨hr, _⟩ := hS rfl
    right
    have one : ∀ i, i < len → ∃ r : List Value × (DataW H × List MemPlace), r.1.length = sz ∧ (∀ q v, r.1[q]? = some v → W.cell? (b.add (i * sz + q)) = some v) ∧ DataW.trod enc P W 0 (fun _ => true) true n e r.1 = some r.2 ∧ elems[i]? = some r.2 := by
      intro i hi
      have h1 := hE i hi
      have h2 : elems[i]? = some elems[i] := List.getElem?_eq_getElem (by omega)
      rw [h2] at h1
      obtain ⟨cs, h3, h4⟩ := Option.bind_eq_some_iff.1 h1
      obtain ⟨_, h5, h6⟩ := World.cells?_some h3
      rw [hsz] at h5 h6
      refine ⟨(cs, elems[i]), h5, fun q v hq => ?_, h4, h2⟩
      have hq2 : q < sz := by rw [← h5]; exact (List.getElem?_eq_some_iff.1 hq).1
      have h7 := h6 q hq2
      rw [Addr.add_add] at h7
      rw [h7]
      exact hq
    classical
    obtain ⟨F, hF⟩ : ∃ F : Nat → List Value × (DataW H × List MemPlace), ∀ i, i < len → (F i).1.length = sz ∧ (∀ q v, (F i).1[q]? = some v → W.cell? (b.add (i * sz + q)) = some v) ∧ DataW.trod enc P W 0 (fun _ => true) true n e (F i).1 = some (F i).2 ∧ elems[i]? = some (F i).2 :=
      ⟨fun i => if hi : i < len then Classical.choose (one i hi) else ([], (.nil, [])), fun i hi => by
        simp only [dif_pos hi]
        exact Classical.choose_spec (one i hi)⟩
    refine ⟨b, n, fun i => (F i).2, fun i => (F i).1, rest.map (·.1), rfl, hl, hm, ?_, by rw [List.length_map, hr]; omega, fun i hi => ⟨(hF i hi).1, (hF i hi).2.1, (hF i hi).2.2.1⟩⟩
    show DataW.slice (elems.map (·.1)) (rest.map (·.1)) = _
    congr 1
    apply List.ext_getElem?
    intro i
    by_cases hi : i < len
    · rw [List.getElem?_map, List.getElem?_map, (hF i hi).2.2.2, List.getElem?_range hi]
      rfl
    · rw [List.getElem?_eq_none (by rw [List.length_map]; omega), List.getElem?_eq_none (by simp; omega)]
/-- No part is greater than a machine holds. -/
def Wt (P : Program) (t : TypeId) (d : DataW H) : Prop := ∀ n ∈ d.weights P t, n ≤ 140737488351232
theorem weights_all {e : TypeId} {d : DataW H} {n : Nat} : ∀ {l : List (DataW H)}, d ∈ l → n ∈ d.weights P e → n ∈ DataW.weightsAll P e l
  | x :: r, hd, hn => by
    simp only [DataW.weightsAll, List.mem_append]
    rcases List.mem_cons.1 hd with rfl | hd
    · exact .inl hn
    · exact .inr (weights_all hd hn)
theorem Wt.elem {t e : TypeId} {len : Nat} {D : Nat → DataW H × List MemPlace} {sp : List (DataW H)} (ht : P.underlying t = some (.slice e)) (h : Wt P t (.slice ((List.range len).map fun i => (D i).1) sp)) {i : Nat} (hi : i < len) : Wt P e (D i).1 := fun n hn => h n (by
  rw [DataW.weights, ht]
  simp only [List.mem_cons, List.mem_append]
  exact .inr (.inl (weights_all (List.mem_map.2 ⟨i, List.mem_range.2 hi, rfl⟩) hn)))
theorem Wt.len {t e : TypeId} {l sp : List (DataW H)} (ht : P.underlying t = some (.slice e)) (h : Wt P t (.slice l sp)) : (l.length + sp.length) * P.bytesOf e ≤ 140737488351232 := h _ (by rw [DataW.weights, ht]; simp)
theorem Wt.str {t : TypeId} {l : List UInt8} (h : Wt P t (.lit (.string l) : DataW H)) : l.length ≤ 140737488351232 := h _ (by simp [DataW.weights])
end
end Go.Proofs.YtmghkfnnilapdaaDoor
/-
  Layer 7: a schema that is read as data, opened.
-/
namespace Go.Proofs.YtmghkfnnilapdaaDoor
open Go.ChangeShapes Go.WideShapes Go.ChangeAt Go.RowKit

section
variable {H : Type} {enc : TypeId × Value → H} {W : World} {r : Reach} {b0 : Nat}
theorem cel_str : Tryd.prog.cellsOf 9 = 1 := by kernel_rfl
theorem cel_int : Tryd.prog.cellsOf 3 = 1 := by kernel_rfl
theorem cel_bool : Tryd.prog.cellsOf 4 = 1 := by kernel_rfl
theorem cel_sls : Tryd.prog.cellsOf 53 = 1 := by kernel_rfl
theorem cel_sli : Tryd.prog.cellsOf 54 = 1 := by kernel_rfl
theorem cel_slf : Tryd.prog.cellsOf 55 = 1 := by kernel_rfl
theorem cel_sln : Tryd.prog.cellsOf 22 = 1 := by kernel_rfl
theorem cel_fl : Tryd.prog.cellsOf 74 = 3 := by kernel_rfl
theorem cel_nd : Tryd.prog.cellsOf 57 = 6 := by kernel_rfl
theorem sl_form {P : Program} {t e : TypeId} {fuel : Nat} {v : Value} {x : DataW H × List MemPlace} (ht : P.underlying t = some (.slice e)) (h : DataW.trod enc P W 0 (fun _ => true) true fuel t [v] = some x) : ∃ A n c, v = .slice A n c ∧ n ≤ c ∧ c ≤ maxLen ∧ (A = none → x.1 = .nil) := by
  rcases DataW.trod_slice ht h with ⟨hc, rfl⟩ | ⟨b, len', cap', elems, rest, n, _, hc, rfl, _, hl, hm, _⟩
  · simp only [List.cons.injEq, and_true] at hc
    exact ⟨_, _, _, hc, Nat.le_refl _, Nat.zero_le _, fun _ => rfl⟩
  · simp only [List.cons.injEq, and_true] at hc
    exact ⟨_, _, _, hc, hl, hm, fun e => by cases e⟩
/-- A list of texts. -/
theorem open_ss {fuel : Nat} {v : Value} {x : DataW H × List MemPlace} (h : DataW.trod enc Tryd.prog W 0 (fun _ => true) true fuel 53 [v] = some x) :
    ∃ A c l, v = .slice A (l.length) c ∧ Rd W W.heap.size 1 A l.length (vss l) ∧ l.length ≤ c ∧ c ≤ maxLen ∧ (Wt Tryd.prog 53 x.1 → l.length ≤ 140737488351232 ∧ ∀ s ∈ l, s.length ≤ 140737488351232) := by
  obtain ⟨A, n, c, rfl, hn, hc, _⟩ := sl_form Tryd.underlying53 h
  rcases open_many Tryd.underlying53 cel_str h with ⟨rfl, rfl, rfl⟩ | ⟨b, f, D, C, sp, rfl, _, _, hx, hsp, hE⟩
  · exact ⟨none, 0, [], rfl, Rd.none_ W _ 1 0, Nat.le_refl _, Nat.zero_le _, fun _ => ⟨Nat.zero_le _, by simp⟩⟩
  · have one : ∀ i, i < n → ∃ s : ByteArray, C i = [.string s] ∧ (D i).1 = .lit (.string s.data.toList) := fun i hi => by
      obtain ⟨s, h1, h2, _⟩ := DataW.trod_string Tryd.underlying9 (hE i hi).2.2
      exact ⟨s, h1, by rw [h2]⟩
    obtain ⟨S, hS⟩ := Deep.choose_lt one
    have hl : ((List.range n).map fun i => (S i).data.toList).length = n := by simp
    refine ⟨some b, c, (List.range n).map fun i => (S i).data.toList, by rw [hl], ?_, by rw [hl]; exact hn, hc, fun hw => ?_⟩
    · have e : vss ((List.range n).map fun i => (S i).data.toList) = (List.range n).flatMap fun i => [.string (S i)] := by
        unfold vss
        rw [List.map_map, List.map_eq_flatMap]
        exact congrArg (fun f => (List.range n).flatMap f) (funext fun i => congrArg (fun z => [Value.string z]) (txt_of (S i)))
      rw [hl, e]
      refine rd_many (by omega) (fun i => rfl) (fun i hi q v hq => (hE i hi).2.1 q v (by rw [(hS i hi).1]; exact hq))
    · rw [hx] at hw
      have h1 := hw.len Tryd.underlying53
      rw [show Tryd.prog.bytesOf 9 = 16 by kernel_rfl, List.length_map, List.length_range] at h1
      refine ⟨by rw [hl]; omega, fun s hs => ?_⟩
      obtain ⟨i, hi, rfl⟩ := List.mem_map.1 hs
      have hi := List.mem_range.1 hi
      have h2 := hw.elem Tryd.underlying53 hi
      rw [(hS i hi).2] at h2
      exact h2.str
/-- A list of numbers. -/
theorem open_is {fuel : Nat} {v : Value} {x : DataW H × List MemPlace} (h : DataW.trod enc Tryd.prog W 0 (fun _ => true) true fuel 54 [v] = some x) :
    ∃ A c l, v = .slice A (l.length) c ∧ Rd W W.heap.size 1 A l.length (vis l) ∧ l.length ≤ c ∧ c ≤ maxLen ∧ (Wt Tryd.prog 54 x.1 → l.length ≤ 140737488351232) := by
  obtain ⟨A, n, c, rfl, hn, hc, _⟩ := sl_form Tryd.underlying54 h
  rcases open_many Tryd.underlying54 cel_int h with ⟨rfl, rfl, rfl⟩ | ⟨b, f, D, C, sp, rfl, _, _, hx, hsp, hE⟩
  · exact ⟨none, 0, [], rfl, Rd.none_ W _ 1 0, Nat.le_refl _, Nat.zero_le _, fun _ => Nat.zero_le _⟩
  · have one : ∀ i, i < n → ∃ s : Int, C i = [.int .i64 s] := fun i hi => by
      obtain ⟨s, h1, h2, _⟩ := DataW.trod_int Tryd.underlying3 (hE i hi).2.2
      exact ⟨s, h1⟩
    obtain ⟨S, hS⟩ := Deep.choose_lt one
    have hl : ((List.range n).map S).length = n := by simp
    refine ⟨some b, c, (List.range n).map S, by rw [hl], ?_, by rw [hl]; exact hn, hc, fun hw => ?_⟩
    · have e : vis ((List.range n).map S) = (List.range n).flatMap fun i => [.int .i64 (S i)] := by
        unfold vis
        rw [List.map_map, List.map_eq_flatMap]
        rfl
      rw [hl, e]
      refine rd_many (by omega) (fun i => rfl) (fun i hi q v hq => (hE i hi).2.1 q v (by rw [hS i hi]; exact hq))
    · rw [hx] at hw
      have h1 := hw.len Tryd.underlying54
      rw [show Tryd.prog.bytesOf 3 = 8 by kernel_rfl, List.length_map, List.length_range] at h1
      rw [hl]; omega
theorem Wt.part {t : TypeId} {fs : Array Field} {xs : List (DataW H × List MemPlace)} (ht : Tryd.prog.underlying t = some (.struct fs)) (h : Wt Tryd.prog t (.agg (xs.map (·.1)) : DataW H)) {i : Nat} {f : Field} {y : DataW H × List MemPlace} (hf : fs[i]? = some f) (hy : xs[i]? = some y) : Wt Tryd.prog f.type y.1 := fun n hn => h n (by
  rw [DataW.weights, ht]
  exact DataW.weights_mem_each (j := i) (t := f.type) (by rw [List.getElem?_map, Array.getElem?_toList, hf]; rfl) (by rw [List.getElem?_map, hy]; rfl) n hn)
/-- A list of fields. -/
theorem open_fs {fuel : Nat} {v : Value} {x : DataW H × List MemPlace} (h : DataW.trod enc Tryd.prog W 0 (fun _ => true) true fuel 55 [v] = some x) :
    ∃ A c l, v = .slice A (l.length) c ∧ Rd W W.heap.size 3 A l.length (vfs l) ∧ l.length ≤ c ∧ c ≤ maxLen ∧ (Wt Tryd.prog 55 x.1 → l.length ≤ 140737488351232 ∧ ∀ f ∈ l, f.name.length ≤ 140737488351232) := by
  obtain ⟨A, n, c, rfl, hn, hc, _⟩ := sl_form Tryd.underlying55 h
  rcases open_many Tryd.underlying55 cel_fl h with ⟨rfl, rfl, rfl⟩ | ⟨b, f, D, C, sp, rfl, _, _, hx, hsp, hE⟩
  · exact ⟨none, 0, [], rfl, Rd.none_ W _ 3 0, Nat.le_refl _, Nat.zero_le _, fun _ => ⟨Nat.zero_le _, by simp⟩⟩
  · have : Inhabited Gf := ⟨⟨[], 0, false⟩⟩
    have one : ∀ i, i < n → ∃ s : Gf, C i = [.string (txt s.name), .bool s.has, .int .i64 s.ty] ∧ (Wt Tryd.prog 74 (D i).1 → s.name.length ≤ 140737488351232) := fun i hi => by
        obtain ⟨h1, _, h2⟩ := hE i hi
        obtain ⟨xs, m, _, hD, _, h3, h4⟩ := DataW.trod_struct Tryd.underlying74 h2
        match hC : C i, h1 with
        | [a0, a1, a2], _ =>
          rw [hC] at h4
          have g0 : DataW.trod enc Tryd.prog W 0 (fun _ => true) true m 9 (([a0, a1, a2].drop 0).take (Tryd.prog.cellsOf 9)) = xs[0]? := h4 0 _ rfl
          rw [cel_str] at g0
          have g1 : DataW.trod enc Tryd.prog W 0 (fun _ => true) true m 4 (([a0, a1, a2].drop 1).take (Tryd.prog.cellsOf 4)) = xs[1]? := h4 1 _ rfl
          rw [cel_bool] at g1
          have g2 : DataW.trod enc Tryd.prog W 0 (fun _ => true) true m 3 (([a0, a1, a2].drop 2).take (Tryd.prog.cellsOf 3)) = xs[2]? := h4 2 _ rfl
          rw [cel_int] at g2
          match xs, h3 with
          | [y0, y1, y2], _ =>
            obtain ⟨s, e0, e0', _⟩ := DataW.trod_string Tryd.underlying9 g0
            obtain ⟨bb, e1, _⟩ := DataW.trod_bool Tryd.underlying4 g1
            obtain ⟨z, e2, _⟩ := DataW.trod_int Tryd.underlying3 g2
            have e0 := (List.cons.inj (show [a0] = [Value.string s] from e0)).1
            have e1 := (List.cons.inj (show [a1] = [Value.bool bb] from e1)).1
            have e2 := (List.cons.inj (show [a2] = [Value.int .i64 z] from e2)).1
            refine ⟨⟨s.data.toList, z, bb⟩, by rw [e0, e1, e2, txt_of], fun hw => ?_⟩
            rw [hD] at hw
            have h5 := hw.part Tryd.underlying74 (i := 0) rfl rfl
            rw [e0'] at h5
            exact h5.str
    obtain ⟨S, hS⟩ := Deep.choose_lt one
    have hl : ((List.range n).map S).length = n := by simp
    refine ⟨some b, c, (List.range n).map S, by rw [hl], ?_, by rw [hl]; exact hn, hc, fun hw => ?_⟩
    · have e : vfs ((List.range n).map S) = (List.range n).flatMap fun i => [.string (txt (S i).name), .bool (S i).has, .int .i64 (S i).ty] := by
        unfold vfs
        rw [List.flatMap_map]
      rw [hl, e]
      refine rd_many (by omega) (fun i => rfl) (fun i hi q v hq => (hE i hi).2.1 q v (by rw [(hS i hi).1]; exact hq))
    · rw [hx] at hw
      have h1 := hw.len Tryd.underlying55
      rw [show Tryd.prog.bytesOf 74 = 32 by kernel_rfl, List.length_map, List.length_range] at h1
      refine ⟨by rw [hl]; omega, fun s hs => ?_⟩
      obtain ⟨i, hi, rfl⟩ := List.mem_map.1 hs
      have hi := List.mem_range.1 hi
      exact (hS i hi).2 (hw.elem Tryd.underlying55 hi)
set_option maxRecDepth 100000 in
/-- One node's six cells. -/
theorem open_nd {fuel : Nat} {cs : List Value} {x : DataW H × List MemPlace} (hl : cs.length = 6) (h : DataW.trod enc Tryd.prog W 0 (fun _ => true) true fuel 57 cs = some x) :
    ∃ (g : Gn) (As : Option Addr) (sc : Nat) (Ai : Option Addr) (ic : Nat) (Af : Option Addr) (fc : Nat), cs = [.int .i64 g.k, .string (txt g.name), .int .i64 g.size, .slice As g.syms.length sc, .slice Ai g.items.length ic, .slice Af g.fields.length fc] ∧
      Rd W W.heap.size 1 As g.syms.length (vss g.syms) ∧ (g.syms.length ≤ sc ∧ sc ≤ maxLen) ∧ Rd W W.heap.size 1 Ai g.items.length (vis g.items) ∧ (g.items.length ≤ ic ∧ ic ≤ maxLen) ∧ Rd W W.heap.size 3 Af g.fields.length (vfs g.fields) ∧ (g.fields.length ≤ fc ∧ fc ≤ maxLen) ∧
      (Wt Tryd.prog 57 x.1 → (g.syms.length ≤ 281474976710656 ∧ g.items.length ≤ 281474976710656 ∧ g.fields.length ≤ 281474976710656) ∧ g.name.length ≤ 140737488355327 ∧ (∀ s ∈ g.syms, s.length ≤ 140737488355328) ∧ (∀ f ∈ g.fields, f.name.length ≤ 140737488355328) ∧ -9223372036854775808 ≤ g.size ∧ g.size ≤ 9223372036854775807) := by
  obtain ⟨xs, m, _, hD, _, h3, h4⟩ := DataW.trod_struct Tryd.underlying57 h
  match cs, hl with
  | [a0, a1, a2, a3, a4, a5], _ =>
    have g0 : DataW.trod enc Tryd.prog W 0 (fun _ => true) true m 3 (([a0, a1, a2, a3, a4, a5].drop 0).take (Tryd.prog.cellsOf 3)) = xs[0]? := h4 0 _ rfl
    rw [cel_int] at g0
    have g1 : DataW.trod enc Tryd.prog W 0 (fun _ => true) true m 9 (([a0, a1, a2, a3, a4, a5].drop 1).take (Tryd.prog.cellsOf 9)) = xs[1]? := h4 1 _ rfl
    rw [cel_str] at g1
    have g2 : DataW.trod enc Tryd.prog W 0 (fun _ => true) true m 3 (([a0, a1, a2, a3, a4, a5].drop 2).take (Tryd.prog.cellsOf 3)) = xs[2]? := h4 2 _ rfl
    rw [cel_int] at g2
    have g3 : DataW.trod enc Tryd.prog W 0 (fun _ => true) true m 53 (([a0, a1, a2, a3, a4, a5].drop 3).take (Tryd.prog.cellsOf 53)) = xs[3]? := h4 3 _ rfl
    rw [cel_sls] at g3
    have g4 : DataW.trod enc Tryd.prog W 0 (fun _ => true) true m 54 (([a0, a1, a2, a3, a4, a5].drop 4).take (Tryd.prog.cellsOf 54)) = xs[4]? := h4 4 _ rfl
    rw [cel_sli] at g4
    have g5 : DataW.trod enc Tryd.prog W 0 (fun _ => true) true m 55 (([a0, a1, a2, a3, a4, a5].drop 5).take (Tryd.prog.cellsOf 55)) = xs[5]? := h4 5 _ rfl
    rw [cel_slf] at g5
    match xs, h3 with
    | [y0, y1, y2, y3, y4, y5], _ =>
      obtain ⟨z0, e0, _⟩ := DataW.trod_int Tryd.underlying3 g0
      obtain ⟨s, e1, e1', _⟩ := DataW.trod_string Tryd.underlying9 g1
      obtain ⟨z2, e2, _, wf2⟩ := DataW.trod_int Tryd.underlying3 g2
      obtain ⟨As, sc, ls, e3, r3, b3, c3, w3⟩ := open_ss g3
      obtain ⟨Ai, ic, li, e4, r4, b4, c4, w4⟩ := open_is g4
      obtain ⟨Af, fc, lf, e5, r5, b5, c5, w5⟩ := open_fs g5
      have e0 := (List.cons.inj (show [a0] = [Value.int .i64 z0] from e0)).1
      have e1 := (List.cons.inj (show [a1] = [Value.string s] from e1)).1
      have e2 := (List.cons.inj (show [a2] = [Value.int .i64 z2] from e2)).1
      refine ⟨⟨z0, s.data.toList, z2, ls, li, lf⟩, As, sc, Ai, ic, Af, fc, by rw [e0, e1, e2, e3, e4, e5, txt_of], r3, ⟨b3, c3⟩, r4, ⟨b4, c4⟩, r5, ⟨b5, c5⟩, fun hw => ?_⟩
      rw [hD] at hw
      have h1 := hw.part Tryd.underlying57 (i := 1) rfl rfl
      rw [e1'] at h1
      have k1 := h1.str
      obtain ⟨k3, k3'⟩ := w3 (hw.part Tryd.underlying57 (i := 3) rfl rfl)
      have k4 := w4 (hw.part Tryd.underlying57 (i := 4) rfl rfl)
      obtain ⟨k5, k5'⟩ := w5 (hw.part Tryd.underlying57 (i := 5) rfl rfl)
      have kz := bd_i64 wf2
      exact ⟨⟨by show ls.length ≤ _; omega, by show li.length ≤ _; omega, by show lf.length ≤ _; omega⟩, by show s.data.toList.length ≤ _; omega, fun s hs => Nat.le_trans (k3' s hs) (by omega), fun f hf => Nat.le_trans (k5' f hf) (by omega), kz⟩
set_option maxRecDepth 100000 in
/-- A schema. -/
theorem open_schema {v : Value} {d : DataW H} {p : List MemPlace} (hv : Value.okWide Tryd.prog W r b0 24 v) (h : DataW.Trod enc Tryd.prog W 0 (fun _ => true) true 24 v d p) :
    ∃ A n c gs, v = .agg #[.slice A n c] ∧ (Wt Tryd.prog 24 d → Gvn W A n c gs) := by
  obtain ⟨cs, rfl, hcs⟩ := okWide_struct Tryd.underlying24 hv
  obtain ⟨fuel, hf⟩ := h
  obtain ⟨xs, m, _, hD, hl, h3, h4⟩ := DataW.trod_struct Tryd.underlying24 hf
  rw [show Tryd.prog.cellsOf 24 = 1 by kernel_rfl] at hcs
  obtain ⟨u, rfl⟩ : ∃ u, cs = #[u] := by
    obtain ⟨l⟩ := cs
    match l, hcs with
    | [u], _ => exact ⟨u, rfl⟩
  have g0 : DataW.trod enc Tryd.prog W 0 (fun _ => true) true m 22 (([u].drop 0).take (Tryd.prog.cellsOf 22)) = xs[0]? := h4 0 _ rfl
  rw [cel_sln] at g0
  match xs, h3 with
  | [y0], _ =>
    obtain ⟨A, n, c, rfl, hn, hc, _⟩ := sl_form Tryd.underlying22 g0
    rcases open_many Tryd.underlying22 cel_nd g0 with ⟨rfl, rfl, rfl⟩ | ⟨b, f, D, C, sp, rfl, _, _, hx, hsp, hE⟩
    · exact ⟨none, 0, 0, [], rfl, fun _ => ⟨Sc.nil _ _ _, by omega, by simp, by simp, ⟨Nat.le_refl _, Nat.zero_le _⟩⟩⟩
    · have : Inhabited (Gn × (Option Addr × Nat) × (Option Addr × Nat) × (Option Addr × Nat)) := ⟨(⟨0, [], 0, [], [], []⟩, (none, 0), (none, 0), (none, 0))⟩
      have one : ∀ i, i < n → ∃ s : Gn × (Option Addr × Nat) × (Option Addr × Nat) × (Option Addr × Nat), C i = [.int .i64 s.1.k, .string (txt s.1.name), .int .i64 s.1.size, .slice s.2.1.1 s.1.syms.length s.2.1.2, .slice s.2.2.1.1 s.1.items.length s.2.2.1.2, .slice s.2.2.2.1 s.1.fields.length s.2.2.2.2] ∧
          Rd W W.heap.size 1 s.2.1.1 s.1.syms.length (vss s.1.syms) ∧ (s.1.syms.length ≤ s.2.1.2 ∧ s.2.1.2 ≤ maxLen) ∧ Rd W W.heap.size 1 s.2.2.1.1 s.1.items.length (vis s.1.items) ∧ (s.1.items.length ≤ s.2.2.1.2 ∧ s.2.2.1.2 ≤ maxLen) ∧ Rd W W.heap.size 3 s.2.2.2.1 s.1.fields.length (vfs s.1.fields) ∧ (s.1.fields.length ≤ s.2.2.2.2 ∧ s.2.2.2.2 ≤ maxLen) ∧
          (Wt Tryd.prog 57 (D i).1 → (s.1.syms.length ≤ 281474976710656 ∧ s.1.items.length ≤ 281474976710656 ∧ s.1.fields.length ≤ 281474976710656) ∧ s.1.name.length ≤ 140737488355327 ∧ (∀ t ∈ s.1.syms, t.length ≤ 140737488355328) ∧ (∀ f ∈ s.1.fields, f.name.length ≤ 140737488355328) ∧ -9223372036854775808 ≤ s.1.size ∧ s.1.size ≤ 9223372036854775807) := fun i hi => by
        obtain ⟨h1, _, h2⟩ := hE i hi
        obtain ⟨g, As, sc, Ai, ic, Af, fc, q⟩ := open_nd h1 h2
        exact ⟨(g, (As, sc), (Ai, ic), (Af, fc)), q⟩
      obtain ⟨S, hS⟩ := Deep.choose_lt one
      have hln : ((List.range n).map fun i => (S i).1).length = n := by simp
      refine ⟨some b, n, c, (List.range n).map fun i => (S i).1, rfl, fun hw => ?_⟩
      have hd : d = .agg ([y0].map (·.1)) := congrArg Prod.fst hD
      rw [hd] at hw
      have hw0 := hw.part Tryd.underlying24 (i := 0) rfl rfl
      rw [hx] at hw0
      have h1 := hw0.len Tryd.underlying22
      rw [show Tryd.prog.bytesOf 57 = 104 by kernel_rfl, List.length_map, List.length_range] at h1
      have hat : ∀ i x, ((List.range n).map fun i => (S i).1)[i]? = some x → i < n ∧ x = (S i).1 := fun i x hx => by
        have hi : i < n := by have := (List.getElem?_eq_some_iff.1 hx).1; rw [hln] at this; exact this
        rw [List.getElem?_map, List.getElem?_range hi] at hx
        exact ⟨hi, (Option.some.inj hx).symm⟩
      have hmem : ∀ x ∈ (List.range n).map (fun i => (S i).1), ∃ i, i < n ∧ x = (S i).1 := fun x hx => by
        obtain ⟨i, hi, rfl⟩ := List.mem_map.1 hx
        exact ⟨i, List.mem_range.1 hi, rfl⟩
      have hwn := fun i (hi : i < n) => (hS i hi).2.2.2.2.2.2.2 (hw0.elem Tryd.underlying22 hi)
      obtain ⟨V, hV⟩ : ∃ V : Nat → List Value, V = fun i => [.int .i64 (S i).1.k, .string (txt (S i).1.name), .int .i64 (S i).1.size, .slice (S i).2.1.1 (S i).1.syms.length (S i).2.1.2, .slice (S i).2.2.1.1 (S i).1.items.length (S i).2.2.1.2, .slice (S i).2.2.2.1 (S i).1.fields.length (S i).2.2.2.2] := ⟨_, rfl⟩
      have hV6 : ∀ i, (V i).length = 6 := fun i => by rw [hV]; rfl
      refine ⟨⟨hln, (List.range n).flatMap V, rd_many (by omega) hV6 (fun i hi q v hq => (hE i hi).2.1 q v (by rw [(hS i hi).1]; rw [hV] at hq; exact hq)), fun i x hx => ?_⟩, by omega, fun x hx => ?_, fun x hx => ?_, hn, hc⟩
      · obtain ⟨hi, rfl⟩ := hat i x hx
        obtain ⟨_, r3, b3, r4, b4, r5, b5, _⟩ := hS i hi
        have at_ := fun q (hq : q < 6) => flat_at hV6 n i q hi hq
        refine ⟨(at_ 0 (by omega)).trans (by rw [hV]; rfl), (at_ 1 (by omega)).trans (by rw [hV]; rfl), (at_ 2 (by omega)).trans (by rw [hV]; rfl), ⟨_, (at_ 3 (by omega)).trans (by rw [hV]; rfl), _, _, rfl, r3, b3⟩, ⟨_, (at_ 4 (by omega)).trans (by rw [hV]; rfl), _, _, rfl, r4, b4⟩, ⟨_, (at_ 5 (by omega)).trans (by rw [hV]; rfl), _, _, rfl, r5, b5⟩⟩
      · obtain ⟨i, hi, rfl⟩ := hmem x hx
        exact (hwn i hi).1
      · obtain ⟨i, hi, rfl⟩ := hmem x hx
        exact (hwn i hi).2
end
end Go.Proofs.YtmghkfnnilapdaaDoor
