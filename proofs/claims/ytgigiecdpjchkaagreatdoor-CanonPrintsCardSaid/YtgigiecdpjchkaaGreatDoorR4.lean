import Derived.Test.YtgigiecdpjchkaaGreatDoorR3
import Derived.Test.YtgigiecdpjchkaaGreatDoorR1
import Derived.Lib.Strings
import Derived.Lib.Bytealg
set_option linter.unusedSimpArgs false
set_option linter.unusedVariables false
set_option linter.unusedSectionVars false
set_option maxRecDepth 100000
set_option maxHeartbeats 6400000
namespace Go.Proofs.YtgigiecdpjchkaaGreatDoor
section
variable {T : List Tok} {s : St}
theorem pNm_zero {t : Tok} (h : pNm t.tt = true) : t.k = 0 := by
 have := pNm_form h
 exact congrArg Prod.fst this
theorem pNm_ne {t : Tok} (h : pNm t.tt = true) : t.s ≠ [] := by
 intro e
 unfold pNm at h
 rw [show t.tt.2 = t.s from rfl, e] at h
 simp [wName] at h
theorem mNm_yes (h : pNm (tokAt T s.at_).tt = true) : mNm T s = s := by unfold mNm; rw [h, Bool.not_true, mBad_no]
theorem mNm_no (h : pNm (tokAt T s.at_).tt = false) (h0 : s.why = 0) : (mNm T s).why = 4 ∧ (mNm T s).bad = (tokAt T s.at_).at_ := by
 unfold mNm; rw [h, Bool.not_false, mBad_yes _ h0]; exact ⟨rfl, rfl⟩
theorem eSyms_cons (g : Nat) (ys : List (List UInt8)) (t : Tok) (r0 : List Tok) : eSyms (g + 1) ys (t :: r0) =
  if pNm t.tt = false then .error (t.at_, 4)
  else if ys.contains t.s then .error (t.at_, 6)
  else match r0 with
   | [] => .error (0, 0)
   | u :: r => if u.k = 2 ∧ u.s = [62] then .ok (ys ++ [t.s], r) else if u.k = 2 ∧ u.s = [44] then eSyms g (ys ++ [t.s]) r else .error (u.at_, 4) := by
 cases r0 <;> rw [eSyms]
theorem symS_no (hn : pNm (tokAt T s.at_).tt = false) (h0 : s.why = 0) (m : Nat) : (mSymS T m s).why = 4 ∧ (mSymS T m s).bad = (tokAt T s.at_).at_ := by
 obtain ⟨h1, h2⟩ := mNm_no (T := T) hn h0
 have h3 : (mNm T s).why ≠ 0 := by rw [h1]; decide
 unfold mSymS
 rw [mBad_stuck _ _ h3, mOn_stuck (by exact h3)]
 exact ⟨h1, h2⟩
theorem syms_rel (hT : TOk T) {S : List Nd} {m : Nat} (hm : S.length = m) (nm : List UInt8) : ∀ (g g' : Nat) (ys : List (List UInt8)) (s : St),
  s.N = S ++ [{ Nd.of 9 with name := nm, syms := ys }] → s.why = 0 → s.at_ < T.length → T.length - s.at_ < g → T.length - s.at_ < g' →
  match eSyms g' ys (T.drop s.at_) with
  | .ok (ys', rest) => (mSyms T m g s).why = 0 ∧ (mSyms T m g s).at_ < T.length ∧ T.drop (mSyms T m g s).at_ = rest ∧ s.at_ < (mSyms T m g s).at_ ∧ (mSyms T m g s).N = S ++ [{ Nd.of 9 with name := nm, syms := ys' }]
  | .error (a, e) => (mSyms T m g s).why = e ∧ (mSyms T m g s).bad = a ∧ e ≠ 0
 | 0, _, _, _, _, _, _, h, _ => by omega
 | _, 0, _, _, _, _, _, _, h => by omega
 | g + 1, g' + 1, ys, s, hs, h0, hl, hg, hg' => by
  have hsy : symsAt s.N m = ys := by unfold symsAt; rw [hs, node_at hm]
  have stop : ∀ {s1 : St} {a e : Nat}, s1.why = e → s1.bad = a → e ≠ 0 → ((if mHere T [62] s1 = true then mOn T s1 else mSyms T m g (mSg T [44] s1)).why = e ∧ (if mHere T [62] s1 = true then mOn T s1 else mSyms T m g (mSg T [44] s1)).bad = a ∧ e ≠ 0) := by
   intro s1 a e h1 h2 h3
   have h4 : s1.why ≠ 0 := by rw [h1]; exact h3
   split
   ·rw [mOn_stuck h4]; exact ⟨h1, h2, h3⟩
   ·rw [mSg_stuck _ h4]
    cases g with
    | zero => exact ⟨h1, h2, h3⟩
    | succ g => rw [mSyms, if_pos h4]; exact ⟨h1, h2, h3⟩
  rw [tok_drop hl, eSyms_cons, mSyms, if_neg (show ¬(s.why ≠ 0) by simp [h0])]
  obtain ⟨t, ht⟩ : ∃ t, t = tokAt T s.at_ := ⟨_, rfl⟩
  rw [← ht]
  cases hn : pNm t.tt with
  | false =>
   rw [if_pos rfl]
   obtain ⟨h1, h2⟩ := symS_no (T := T) (by rw [← ht]; exact hn) h0 m
   exact stop h1 (by rw [h2, ht]) (by decide)
  | true =>
   rw [if_neg (by simp)]
   have hnm : mNm T s = s := mNm_yes (by rw [← ht]; exact hn)
   cases hc : ys.contains t.s with
   | true =>
    rw [if_pos rfl]
    have h1 : (mSymS T m s).why = 6 ∧ (mSymS T m s).bad = t.at_ := by
     unfold mSymS
     rw [hnm, hsy, ← ht, hc, mBad_yes _ h0, mOn_stuck (by simp [St.mod])]
     exact ⟨rfl, by rw [ht]; rfl⟩
    exact stop h1.1 h1.2 (by decide)
   | false =>
    rw [if_neg (by simp)]
    have hmo := hT.more hl (by rw [← ht, pNm_zero hn]; decide)
    have h1 : mSymS T m s = { s with at_ := s.at_ + 1, N := S ++ [{ Nd.of 9 with name := nm, syms := ys ++ [t.s] }] } := by
     unfold mSymS
     rw [hnm, hsy, ← ht, hc, mBad_no, mOn_more (by exact h0) (by exact hmo)]
     unfold St.mod
     simp only [hs, mod_at _ hm]
    rw [h1]
    obtain ⟨s1, hs1⟩ : ∃ s1 : St, s1 = { s with at_ := s.at_ + 1, N := S ++ [{ Nd.of 9 with name := nm, syms := ys ++ [t.s] }] } := ⟨_, rfl⟩
    rw [← hs1]
    have e1 : s1.why = 0 := by rw [hs1]; exact h0
    have e2 : s1.at_ = s.at_ + 1 := by rw [hs1]
    have e3 : s1.N = S ++ [{ Nd.of 9 with name := nm, syms := ys ++ [t.s] }] := by rw [hs1]
    have hl1 : s1.at_ < T.length := by rw [e2]; exact hmo
    rw [tok_drop hmo]
    simp only
    obtain ⟨u, hu'⟩ : ∃ u, u = tokAt T (s.at_ + 1) := ⟨_, rfl⟩
    rw [← hu']
    by_cases hu : u.k = 2 ∧ u.s = [62]
    ·rw [if_pos hu]
     have hh : mHere T [62] s1 = true := (mHere_iff _).2 (by rw [e2, ← hu']; exact hu)
     have hmo2 := hT.more hl1 (by rw [e2, ← hu']; omega)
     rw [if_pos hh, mOn_more e1 hmo2]
     exact ⟨e1, hmo2, by rw [e2], by show s.at_ < s1.at_ + 1; omega, e3⟩
    ·rw [if_neg hu]
     have hh : mHere T [62] s1 = false := by
      cases hh : mHere T [62] s1 with
      | false => rfl
      | true => exact absurd ((mHere_iff _).1 hh) (by rw [e2, ← hu']; exact hu)
     rw [hh]
     simp only [Bool.false_eq_true, if_false]
     by_cases hv : u.k = 2 ∧ u.s = [44]
     ·rw [if_pos hv]
      obtain ⟨q1, q2⟩ := mSg_yes (s := s1) hT e1 hl1 (x := [44]) (by rw [e2, ← hu']; exact hv)
      have := syms_rel hT hm nm g g' (ys ++ [t.s]) { s1 with at_ := s1.at_ + 1 } e3 e1 q2 (by simp only; omega) (by simp only; omega)
      rw [q1]
      have ed : T.drop (s1.at_ + 1) = T.drop (s.at_ + 1 + 1) := by rw [e2]
      simp only [ed] at this
      revert this
      cases eSyms g' (ys ++ [t.s]) (T.drop (s.at_ + 1 + 1)) with
      | error p => exact id
      | ok p =>
       obtain ⟨ys', rest⟩ := p
       rintro ⟨j1, j2, j3, j4, j5⟩
       exact ⟨j1, j2, j3, by omega, j5⟩
     ·rw [if_neg hv]
      obtain ⟨q1, q2⟩ := mSg_no (T := T) (s := s1) e1 (x := [44]) (by rw [e2, ← hu']; exact hv)
      have q3 : (mSg T [44] s1).why ≠ 0 := by rw [q1]; decide
      have q4 : mSyms T m g (mSg T [44] s1) = mSg T [44] s1 := by
       cases g with
       | zero => rfl
       | succ g => rw [mSyms, if_pos q3]
      rw [q4]
      exact ⟨q1, by rw [q2, e2, hu'], by decide⟩
def mFin (T : List Tok) (p : Bool × St) : St := if p.1 then p.2 else mSg T [125] p.2
theorem fldB_stuck {m : Nat} {a e : Nat} (h1 : (mFldA T m s).why = e) (h2 : (mFldA T m s).bad = a) (h3 : e ≠ 0) : (mFldB T m s).why = e ∧ (mFldB T m s).bad = a ∧ (mFldB T m s).why ≠ 0 := by
 have h4 : (mFldA T m s).why ≠ 0 := by rw [h1]; exact h3
 unfold mFldB
 rw [mOn_stuck h4, ite_self, mSg_stuck _ h4]
 exact ⟨h1, h2, h4⟩
theorem has_rel (hT : TOk T) {m : Nat} (h0 : (mFldA T m s).why = 0) (hl : (mFldA T m s).at_ < T.length) :
  match eHas (T.drop (mFldA T m s).at_) with
  | .ok (h, rest) => (mFldB T m s).why = 0 ∧ (mFldB T m s).at_ < T.length ∧ T.drop (mFldB T m s).at_ = rest ∧ (mFldA T m s).at_ < (mFldB T m s).at_ ∧ mHere T [63] (mFldA T m s) = h ∧ (mFldB T m s).N = (mFldA T m s).N
  | .error (a, e) => (mFldB T m s).why = e ∧ (mFldB T m s).bad = a ∧ e ≠ 0 := by
 unfold mFldB
 generalize mFldA T m s = s1 at h0 hl ⊢
 rw [tok_drop hl]
 unfold eHas
 simp only
 by_cases hc : (tokAt T s1.at_).k = 2 ∧ (tokAt T s1.at_).s = [58]
 ·rw [if_pos hc]
  have hh : mHere T [63] s1 = false := by
   cases hh : mHere T [63] s1 with
   | false => rfl
   | true => have := (mHere_iff _).1 hh; rw [hc.2] at this; exact absurd this.2 (by decide)
  obtain ⟨q1, q2⟩ := mSg_yes (s := s1) hT h0 hl hc
  rw [hh]
  simp only [Bool.false_eq_true, if_false]
  rw [q1]
  exact ⟨h0, q2, rfl, Nat.lt_succ_self _, trivial, rfl⟩
 ·rw [if_neg hc]
  by_cases hq : (tokAt T s1.at_).k = 2 ∧ (tokAt T s1.at_).s = [63]
  ·rw [if_pos hq]
   have hh : mHere T [63] s1 = true := (mHere_iff _).2 hq
   have hmo := hT.more hl (by omega)
   rw [hh]
   simp only [if_true]
   rw [mOn_more h0 hmo, tok_drop hmo]
   simp only
   by_cases hc2 : (tokAt T (s1.at_ + 1)).k = 2 ∧ (tokAt T (s1.at_ + 1)).s = [58]
   ·rw [if_pos hc2]
    obtain ⟨q1, q2⟩ := mSg_yes (s := { s1 with at_ := s1.at_ + 1 }) hT h0 hmo hc2
    rw [q1]
    exact ⟨h0, q2, rfl, by show s1.at_ < s1.at_ + 1 + 1; omega, rfl, rfl⟩
   ·rw [if_neg hc2]
    obtain ⟨q1, q2⟩ := mSg_no (T := T) (s := { s1 with at_ := s1.at_ + 1 }) h0 hc2
    exact ⟨q1, q2, by decide⟩
  ·rw [if_neg hq]
   have hh : mHere T [63] s1 = false := by
    cases hh : mHere T [63] s1 with
    | false => rfl
    | true => exact absurd ((mHere_iff _).1 hh) hq
   rw [hh]
   simp only [Bool.false_eq_true, if_false]
   obtain ⟨q1, q2⟩ := mSg_no (T := T) (s := s1) h0 hc
   exact ⟨q1, q2, by decide⟩
theorem flds_rel (hT : TOk T) {F : Nat} {rec : MRd} {rec' : ERd} (hr : RdRel T F rec rec') {S N0 : List Nd} {m : Nat} (hm : S.length = m) (hN : NE S N0) (nm : List UInt8) : ∀ (g g' : Nat) (fs : List Fl) (mid : List Nd) (s : St),
  s.N = S ++ { Nd.of 11 with name := nm, fields := fs } :: mid → s.why = 0 → s.at_ < T.length → T.length - s.at_ < F → T.length - s.at_ < g → T.length - s.at_ < g' →
  match eFields rec' g' fs (T.drop s.at_) (N0 ++ { Nd.of 11 with name := nm } :: mid) with
  | .ok (fs', rest, N1) => (mFin T (mFldL T rec m g s)).why = 0 ∧ (mFin T (mFldL T rec m g s)).at_ < T.length ∧ T.drop (mFin T (mFldL T rec m g s)).at_ = rest ∧ s.at_ < (mFin T (mFldL T rec m g s)).at_ ∧ ∃ mid', N1 = N0 ++ { Nd.of 11 with name := nm } :: mid' ∧ (mFin T (mFldL T rec m g s)).N = S ++ { Nd.of 11 with name := nm, fields := fs' } :: mid'
  | .error (a, e) => (mFin T (mFldL T rec m g s)).why = e ∧ (mFin T (mFldL T rec m g s)).bad = a ∧ e ≠ 0
 | 0, _, _, _, _, _, _, _, _, h, _ => by omega
 | _, 0, _, _, _, _, _, _, _, _, h => by omega
 | g + 1, g' + 1, fs, mid, s, hs, h0, hl, hF, hg, hg' => by
  have hfl : fieldsAt s.N m = fs := by unfold fieldsAt; rw [hs, node_at hm]
  rw [mFldL, tok_drop hl, eFields]
  obtain ⟨t, ht⟩ : ∃ t, t = tokAt T s.at_ := ⟨_, rfl⟩
  rw [← ht]
  by_cases hb : t.k = 2 ∧ t.s = [125]
  ·rw [if_pos hb, if_pos (.inr ((mHere_iff _).2 (by rw [← ht]; exact hb)))]
   obtain ⟨q1, q2⟩ := mSg_yes (s := s) hT h0 hl (x := [125]) (by rw [← ht]; exact hb)
   show (mSg T [125] s).why = 0 ∧ (mSg T [125] s).at_ < _ ∧ T.drop (mSg T [125] s).at_ = _ ∧ _ < (mSg T [125] s).at_ ∧ ∃ mid', _ ∧ (mSg T [125] s).N = _
   rw [q1]
   exact ⟨h0, q2, rfl, Nat.lt_succ_self _, mid, rfl, hs⟩
  ·have hh : ¬(s.why ≠ 0 ∨ mHere T [125] s = true) := by
    rintro (h | h)
    ·exact h h0
    ·exact hb (by rw [ht]; exact (mHere_iff _).1 h)
   rw [if_neg hb, if_neg hh]
   have stop : ∀ {a e : Nat}, (mFldB T m s).why = e → (mFldB T m s).bad = a → e ≠ 0 →
     ((mFin T (if (mFldB T m s).why ≠ 0 then (true, mFldB T m s) else mFldL T rec m g (mFldC T rec m s))).why = e ∧ (mFin T (if (mFldB T m s).why ≠ 0 then (true, mFldB T m s) else mFldL T rec m g (mFldC T rec m s))).bad = a ∧ e ≠ 0) := by
    intro a e h1 h2 h3
    rw [if_pos (by rw [h1]; exact h3)]
    exact ⟨h1, h2, h3⟩
   cases hn : pNm t.tt with
   | false =>
    rw [if_pos rfl]
    obtain ⟨h1, h2⟩ := mNm_no (T := T) (s := s) (by rw [← ht]; exact hn) h0
    have h3 : (mNm T s).why ≠ 0 := by rw [h1]; decide
    obtain ⟨k1, k2, _⟩ := fldB_stuck (T := T) (s := s) (m := m) (a := t.at_) (e := 4) (by unfold mFldA; rw [mBad_stuck _ _ h3, mOn_stuck h3]; exact h1) (by unfold mFldA; rw [mBad_stuck _ _ h3, mOn_stuck h3, h2, ht]) (by decide)
    exact stop k1 k2 (by decide)
   | true =>
    rw [if_neg (by simp)]
    have hnm : mNm T s = s := mNm_yes (by rw [← ht]; exact hn)
    cases hc : fs.any (fun y => y.name == t.s) with
    | true =>
     rw [if_pos rfl]
     have h1 : (mFldA T m s).why = 6 ∧ (mFldA T m s).bad = t.at_ := by
      unfold mFldA
      rw [hnm, hfl, ← ht, hc, mBad_yes _ h0, mOn_stuck (by simp)]
      exact ⟨rfl, by rw [ht]⟩
     obtain ⟨k1, k2, _⟩ := fldB_stuck h1.1 h1.2 (by decide)
     exact stop k1 k2 (by decide)
    | false =>
     rw [if_neg (by simp)]
     have hmo := hT.more hl (by rw [← ht, pNm_zero hn]; decide)
     have hA : mFldA T m s = { s with at_ := s.at_ + 1 } := by
      unfold mFldA
      rw [hnm, hfl, ← ht, hc, mBad_no, mOn_more h0 hmo]
     have hH := has_rel (T := T) (s := s) (m := m) hT (by rw [hA]; exact h0) (by rw [hA]; exact hmo)
     have e1 : (mFldA T m s).at_ = s.at_ + 1 := by rw [hA]
     have e0 : (mFldA T m s).N = s.N := by rw [hA]
     rw [e1, e0] at hH
     cases hhas : eHas (T.drop (s.at_ + 1)) with
     | error p =>
      obtain ⟨a, e⟩ := p
      rw [hhas] at hH
      exact stop hH.1 hH.2.1 hH.2.2
     | ok p =>
      obtain ⟨h, r1⟩ := p
      rw [hhas] at hH
      obtain ⟨b1, b2, b3, b4, b5, b6⟩ := hH
      rw [if_neg (by simp [b1])]
      simp only
      have hR := hr (mFldB T m s) (N0 ++ { Nd.of 11 with name := nm } :: mid) b1 b2 (by omega) (by
       rw [b6, hs]
       refine hN.app ?_
       show kn _ :: _ = kn _ :: _
       rfl)
      rw [b3] at hR
      cases he : rec' r1 (N0 ++ { Nd.of 11 with name := nm } :: mid) with
      | error p =>
       obtain ⟨a, e⟩ := p
       rw [he] at hR
       obtain ⟨h1, h2, h3⟩ := hR
       have e2 : (rec (mFldB T m s)).2.why ≠ 0 := by rw [h1]; exact h3
       have c1 : (mFldC T rec m s).why = e := by unfold mFldC; rw [mSg_stuck _ e2]; exact h1
       have c2 : (mFldC T rec m s).bad = a := by unfold mFldC; rw [mSg_stuck _ e2]; exact h2
       have c3 : (mFldC T rec m s).why ≠ 0 := by rw [c1]; exact h3
       cases g with
       | zero => exact ⟨c1, c2, h3⟩
       | succ g =>
        rw [mFldL, if_pos (.inl c3)]
        show (mSg T [125] _).why = _ ∧ (mSg T [125] _).bad = _ ∧ _
        rw [mSg_stuck _ c3]
        exact ⟨c1, c2, h3⟩
      | ok p =>
       obtain ⟨x, ts, N1⟩ := p
       rw [he] at hR
       obtain ⟨h1, h2, h3, h4, h5, new, h6, h7⟩ := hR
       rw [tok_drop h3] at h4
       cases ts with
       | nil => cases h4
       | cons u r2 =>
        injection h4 with h4a h4b
        simp only
        have hN7 : (rec (mFldB T m s)).2.N = S ++ { Nd.of 11 with name := nm, fields := fs } :: (mid ++ new) := by rw [h7, b6, hs, List.append_assoc, List.cons_append]
        have h6' : N1 = N0 ++ { Nd.of 11 with name := nm } :: (mid ++ new) := by rw [h6, List.append_assoc, List.cons_append]
        by_cases hu : u.k = 2 ∧ u.s = [59]
        ·rw [if_pos hu]
         obtain ⟨q1, q2⟩ := mSg_yes (s := (rec (mFldB T m s)).2) hT h2 h3 (x := [59]) (by rw [h4a]; exact hu)
         have hC : mFldC T rec m s = { (rec (mFldB T m s)).2 with at_ := (rec (mFldB T m s)).2.at_ + 1, N := S ++ { Nd.of 11 with name := nm, fields := fs ++ [⟨t.s, x, h⟩] } :: (mid ++ new) } := by
          unfold mFldC
          rw [q1, h1, b5, ← ht]
          unfold St.mod
          simp only [hN7, mod_at _ hm]
         have := flds_rel hT hr hm hN nm g g' (fs ++ [⟨t.s, x, h⟩]) (mid ++ new) (mFldC T rec m s) (by rw [hC]) (by rw [hC]; exact h2) (by rw [hC]; exact q2) (by rw [hC]; simp only; omega) (by rw [hC]; simp only; omega) (by rw [hC]; simp only; omega)
         have ed : T.drop (mFldC T rec m s).at_ = r2 := by rw [hC]; exact h4b
         have ea : s.at_ < (mFldC T rec m s).at_ := by rw [hC]; simp only; omega
         rw [ed, ← h6'] at this
         revert this
         cases eFields rec' g' (fs ++ [⟨t.s, x, h⟩]) r2 N1 with
         | error p => exact id
         | ok p =>
          obtain ⟨fs', rest, N2⟩ := p
          rintro ⟨j1, j2, j3, j4, j5⟩
          exact ⟨j1, j2, j3, by omega, j5⟩
        ·rw [if_neg hu]
         obtain ⟨q1, q2⟩ := mSg_no (T := T) (s := (rec (mFldB T m s)).2) h2 (x := [59]) (by rw [h4a]; exact hu)
         have c1 : (mFldC T rec m s).why = 4 := q1
         have c2 : (mFldC T rec m s).bad = u.at_ := by rw [← h4a]; exact q2
         have c3 : (mFldC T rec m s).why ≠ 0 := by rw [c1]; decide
         cases g with
         | zero => exact ⟨c1, c2, by decide⟩
         | succ g =>
          rw [mFldL, if_pos (.inl c3)]
          show (mSg T [125] _).why = _ ∧ (mSg T [125] _).bad = _ ∧ _
          rw [mSg_stuck _ c3]
          exact ⟨c1, c2, by decide⟩
end
section
variable {T : List Tok} {s : St}
theorem fix_stuck {m : Nat} (h : s.why ≠ 0) : (mFix T m s).why = s.why ∧ (mFix T m s).bad = s.bad := by
 unfold mFix
 rw [mBad_stuck _ _ h, mOn_stuck (by exact h)]
 exact ⟨rfl, rfl⟩
theorem flds_stuck {rec : MRd} {m : Nat} (h : s.why ≠ 0) : mFlds T rec m s = s := by
 have e : mFldL T rec m (T.length + 1) s = (false, s) := by rw [mFldL, if_pos (.inl h)]
 unfold mFlds
 rw [mSg_stuck _ h, e]
 exact mSg_stuck _ h
theorem def_stuck {rec : MRd} {m : Nat} {k : Int} {a e : Nat} (h1 : (mDefA T m s).why = e) (h2 : (mDefA T m s).bad = a) (h3 : e ≠ 0) : (mDef T rec m k s).why = e ∧ (mDef T rec m k s).bad = a := by
 have h4 : (mDefA T m s).why ≠ 0 := by rw [h1]; exact h3
 unfold mDef
 split
 ·have := fix_stuck (T := T) (m := m) h4
  rw [this.1, this.2]; exact ⟨h1, h2⟩
 ·split
  ·rw [flds_stuck h4]; exact ⟨h1, h2⟩
  ·rw [mSg_stuck _ h4, mSyms, if_pos h4]; exact ⟨h1, h2⟩
theorem called_snoc {S : List Nd} {x : Nd} {y : List UInt8} (h : x.name ≠ y) : (pCalled (S ++ [x]) y).isSome = (pCalled S y).isSome := by
 unfold pCalled
 rw [List.findIdx?_isSome, List.findIdx?_isSome, List.any_append]
 have : (x.name == y) = false := by rw [beq_eq_false_iff_ne]; exact h
 simp [this]
theorem named_rel (hT : TOk T) {F : Nat} {rec : MRd} {rec' : ERd} (hr : RdRel T F rec rec') {S N0 : List Nd} {m k f : Nat} (hm : S.length = m) (hN : NE S N0) (hk : 9 ≤ k ∧ k < 12) (hs : s.N = S ++ [Nd.of k]) (h0 : s.why = 0) (hl : s.at_ < T.length)
  (hF : T.length - s.at_ < F) (hf : T.length - s.at_ < f) : Rel T { s with N := S } N0 (m, mDef T rec m (k : Int) s) (eNamed rec' f k (T.drop s.at_) N0) := by
 have hm0 : N0.length = m := by rw [← hN.len]; exact hm
 rw [tok_drop hl]
 unfold eNamed
 simp only
 obtain ⟨t, ht⟩ : ∃ t, t = tokAt T s.at_ := ⟨_, rfl⟩
 rw [← ht]
 cases hn : pNm t.tt with
 | false =>
  rw [if_pos rfl]
  obtain ⟨h1, h2⟩ := mNm_no (T := T) (s := s) (by rw [← ht]; exact hn) h0
  have h3 : (mNm T s).why ≠ 0 := by rw [h1]; decide
  obtain ⟨k1, k2⟩ := def_stuck (T := T) (s := s) (rec := rec) (m := m) (k := (k : Int)) (a := t.at_) (e := 4) (by unfold mDefA; rw [mBad_stuck _ _ h3, mOn_stuck (by exact h3)]; exact h1)
   (by unfold mDefA; rw [mBad_stuck _ _ h3, mOn_stuck (by exact h3)]; show (mNm T s).bad = _; rw [h2, ht]) (by decide)
  exact rel_err k1 k2 (by decide)
 | true =>
  rw [if_neg (by simp)]
  have hnm : mNm T s = s := mNm_yes (by rw [← ht]; exact hn)
  have hcall : (pCalled s.N t.s).isSome = (pCalled N0 t.s).isSome := by
   rw [hs, called_snoc (by intro e; exact pNm_ne hn e.symm), hN.called]
  cases hc : (pCalled N0 t.s).isSome with
  | true =>
   rw [if_pos rfl]
   have h1 : (mDefA T m s).why = 6 ∧ (mDefA T m s).bad = t.at_ := by
    unfold mDefA
    rw [hnm, ← ht, hcall, hc, mBad_yes _ h0, mOn_stuck (by simp [St.mod])]
    exact ⟨rfl, by rw [ht]; rfl⟩
   obtain ⟨k1, k2⟩ := def_stuck (rec := rec) (k := (k : Int)) h1.1 h1.2 (by decide)
   exact rel_err k1 k2 (by decide)
  | false =>
   rw [if_neg (by simp)]
   have hmo := hT.more hl (by rw [← ht, pNm_zero hn]; decide)
   have hA : mDefA T m s = { s with at_ := s.at_ + 1, N := S ++ [{ Nd.of k with name := t.s }] } := by
    unfold mDefA
    rw [hnm, ← ht, hcall, hc, mBad_no, mOn_more (by exact h0) (by exact hmo)]
    unfold St.mod
    simp only [hs, mod_at _ hm]
   rw [tok_drop hmo]
   simp only
   obtain ⟨b, hb⟩ : ∃ b, b = tokAt T (s.at_ + 1) := ⟨_, rfl⟩
   rw [← hb]
   obtain ⟨s1, hs1⟩ : ∃ s1, s1 = mDefA T m s := ⟨_, rfl⟩
   have e1 : s1.why = 0 := by rw [hs1, hA]; exact h0
   have e2 : s1.at_ = s.at_ + 1 := by rw [hs1, hA]
   have e3 : s1.N = S ++ [{ Nd.of k with name := t.s }] := by rw [hs1, hA]
   have hl1 : s1.at_ < T.length := by rw [e2]; exact hmo
   unfold mDef
   rw [← hs1]
   by_cases hk10 : k = 10
   ·subst hk10
    rw [if_pos rfl, if_pos (show ((10 : Nat) : Int) = 10 from rfl)]
    unfold mFix
    rw [e2, ← hb]
    by_cases hok : b.k = 1 ∧ wOk b.s = true
    ·rw [if_pos hok]
     have hd : (decide (b.k = 1) && wOk b.s) = true := by simp [hok.1, hok.2]
     have hmo2 := hT.more hl1 (by rw [e2, ← hb]; omega)
     rw [hd, Bool.not_true, mBad_no, mOn_more (by exact e1) (by exact hmo2), if_pos hok.2]
     refine ⟨hm0.symm, e1, hmo2, by show T.drop (s1.at_ + 1) = _; rw [e2], by show s.at_ < s1.at_ + 1; omega, [{ Nd.of 10 with name := t.s, size := wNumAt b.s }], rfl, ?_⟩
     show s1.N.modify m _ = _
     rw [e3, mod_at _ hm]
    ·rw [if_neg hok]
     have hd : (decide (b.k = 1) && wOk b.s) = false := by
      cases hh : (decide (b.k = 1) && wOk b.s) with
      | false => rfl
      | true => exact absurd (by simpa using hh) hok
     rw [hd, Bool.not_false, mBad_yes _ e1, mOn_stuck (by simp [St.mod])]
     exact rel_err rfl (by show (tokAt T s1.at_).at_ = _; rw [e2, hb]) (by decide)
   ·rw [if_neg hk10, if_neg (show ¬((k : Int) = 10) by omega)]
    by_cases hk9 : k = 9
    ·subst hk9
     rw [if_pos rfl, if_neg (show ¬(((9 : Nat) : Int) = 11) by decide)]
     by_cases hu : b.k = 2 ∧ b.s = [60]
     ·rw [if_pos hu]
      obtain ⟨q1, q2⟩ := mSg_yes (s := s1) hT e1 hl1 (x := [60]) (by rw [e2, ← hb]; exact hu)
      rw [q1]
      have := syms_rel hT hm t.s (T.length + 1) f [] { s1 with at_ := s1.at_ + 1 } e3 e1 q2 (by simp only; omega) (by simp only; omega)
      have ed : T.drop (s1.at_ + 1) = T.drop (s.at_ + 1 + 1) := by rw [e2]
      simp only [ed] at this
      revert this
      cases eSyms f [] (T.drop (s.at_ + 1 + 1)) with
      | error p =>
       obtain ⟨a, e⟩ := p
       rintro ⟨j1, j2, j3⟩
       exact rel_err j1 j2 j3
      | ok p =>
       obtain ⟨ys', rest⟩ := p
       rintro ⟨j1, j2, j3, j4, j5⟩
       exact ⟨hm0.symm, j1, j2, j3, Nat.lt_trans (show s.at_ < s1.at_ + 1 by omega) j4, [{ Nd.of 9 with name := t.s, syms := ys' }], rfl, j5⟩
     ·rw [if_neg hu]
      obtain ⟨q1, q2⟩ := mSg_no (T := T) (s := s1) e1 (x := [60]) (by rw [e2, ← hb]; exact hu)
      have q3 : (mSg T [60] s1).why ≠ 0 := by rw [q1]; decide
      rw [mSyms, if_pos q3]
      exact rel_err q1 (by rw [q2, e2, hb]) (by decide)
    ·obtain rfl : k = 11 := by omega
     rw [if_neg (show ¬((11 : Nat) = 9) by decide), if_pos (show ((11 : Nat) : Int) = 11 from rfl)]
     unfold mFlds
     by_cases hu : b.k = 2 ∧ b.s = [123]
     ·rw [if_pos hu]
      obtain ⟨q1, q2⟩ := mSg_yes (s := s1) hT e1 hl1 (x := [123]) (by rw [e2, ← hb]; exact hu)
      rw [q1]
      have := flds_rel hT hr hm hN t.s (T.length + 1) f [] [] { s1 with at_ := s1.at_ + 1 } e3 e1 q2 (by simp only; omega) (by simp only; omega) (by simp only; omega)
      have ed : T.drop (s1.at_ + 1) = T.drop (s.at_ + 1 + 1) := by rw [e2]
      simp only [ed] at this
      unfold mFin at this
      revert this
      cases eFields rec' f [] (T.drop (s.at_ + 1 + 1)) (N0 ++ [{ Nd.of 11 with name := t.s }]) with
      | error p =>
       obtain ⟨a, e⟩ := p
       rintro ⟨j1, j2, j3⟩
       exact rel_err j1 j2 j3
      | ok p =>
       obtain ⟨fs', rest, N1⟩ := p
       rintro ⟨j1, j2, j3, j4, mid', j5, j6⟩
       refine ⟨hm0.symm, j1, j2, j3, Nat.lt_trans (show s.at_ < s1.at_ + 1 by omega) j4, { Nd.of 11 with name := t.s, fields := fs' } :: mid', ?_, j6⟩
       rw [j5]
       exact mod_at _ rfl
     ·rw [if_neg hu]
      obtain ⟨q1, q2⟩ := mSg_no (T := T) (s := s1) e1 (x := [123]) (by rw [e2, ← hb]; exact hu)
      have q3 : (mSg T [123] s1).why ≠ 0 := by rw [q1]; decide
      have e : mFldL T rec m (T.length + 1) (mSg T [123] s1) = (false, mSg T [123] s1) := by rw [mFldL, if_pos (.inl q3)]
      rw [e]
      show Rel _ _ _ (m, mSg T [125] (mSg T [123] s1)) _
      rw [mSg_stuck _ q3]
      exact rel_err q1 (by rw [q2, e2, hb]) (by decide)
theorem stk2 {a1 a2 : Bool} {e1 e2 : Nat} (h : s.why ≠ 0) : mBad T a1 e1 (mBad T a2 e2 s) = s := by rw [mBad_stuck (s := s) _ _ h, mBad_stuck _ _ h]
theorem stk3 {a1 a2 a3 : Bool} {e1 e2 e3 : Nat} (h : s.why ≠ 0) : mBad T a1 e1 (mBad T a2 e2 (mBad T a3 e3 s)) = s := by rw [mBad_stuck (s := s) _ _ h, mBad_stuck (s := s) _ _ h, mBad_stuck _ _ h]
theorem same_name (N : List Nd) (un : Option (List Nat)) (n : Nat) : (un.isSome && (mSame N (un.getD []) (-1) (n : Int) && (decide ((0 : Int) ≤ -1) || decide ((0 : Int) ≤ n)))) = (un.getD []).contains n := by
 cases un with
 | none => rfl
 | some l =>
  show (true && (mSame N l (-1) n && _)) = l.contains n
  have h1 : (decide ((0 : Int) ≤ -1) || decide ((0 : Int) ≤ n)) = true := by simp
  rw [h1, Bool.and_true, Bool.true_and]
  unfold mSame
  induction l with
  | nil => rfl
  | cons i l ih =>
   rw [List.any_cons, ih, List.contains_cons]
   congr 1
   have : (decide ((0 : Int) ≤ -1) && decide ((-1 : Int) < 9) && decide (kindAt N i = some (-1 : Int).toNat)) = false := rfl
   rw [this, Bool.or_false]
   by_cases h : i = n
   ·subst h; simp
   ·have h2 : (n == i) = false := by rw [beq_eq_false_iff_ne]; exact Ne.symm h
    rw [h2]
    exact decide_eq_false (by omega)
theorem same_kind {S N : List Nd} (hN : NE S N) (un : Option (List Nat)) (k : Nat) : (un.isSome && (mSame S (un.getD []) (k : Int) (-1) && (decide ((0 : Int) ≤ k) || decide ((0 : Int) ≤ -1)))) = eSame un N k := by
 cases un with
 | none => rfl
 | some l =>
  show (true && (mSame S l k (-1) && _)) = (true && (decide (k < 9) && l.any _))
  have h1 : (decide ((0 : Int) ≤ k) || decide ((0 : Int) ≤ -1)) = true := by simp
  rw [h1, Bool.and_true, Bool.true_and, Bool.true_and]
  unfold mSame
  induction l with
  | nil => simp
  | cons i l ih =>
   rw [List.any_cons, List.any_cons, ih, Bool.and_or_distrib_left]
   congr 1
   have e1 : decide ((i : Int) = -1) = false := decide_eq_false (by omega)
   have e2 : decide ((0 : Int) ≤ k) = true := decide_eq_true (by omega)
   have e3 : decide ((k : Int) < 9) = decide (k < 9) := decide_eq_decide.2 (by omega)
   have e4 : decide (kindAt S i = some (k : Int).toNat) = (kindAt N i == some k) := by
    rw [hN.kind, Int.toNat_natCast]
    by_cases h : kindAt N i = some k
    ·rw [h]; simp
    ·rw [decide_eq_false h]; symm; rw [beq_eq_false_iff_ne]; exact h
   rw [e1, e2, e3, e4, Bool.false_or, Bool.true_and]
theorem type_rel (hT : TOk T) : ∀ (f deep : Nat), deep + f = 20 → ∀ (F : Nat) (un : Option (List Nat)), RdRel T F (mTyped T (f + 1) deep un) (eType F deep un) := by
 intro f
 induction f with
 | zero =>
  intro deep hd F un s N h0 hl hF hN
  obtain ⟨F, rfl⟩ : ∃ F', F = F' + 1 := ⟨F - 1, by omega⟩
  obtain rfl : deep = 20 := by omega
  rw [tok_drop hl, eType, mTyped]
  have hkn := kNo_kind hT hl
  obtain ⟨t, ht⟩ : ∃ t, t = tokAt T s.at_ := ⟨_, rfl⟩
  rw [← ht] at hkn ⊢
  unfold eStep
  cases hp : pKind t.tt with
  | none =>
   rw [hp] at hkn
   simp only at hkn
   simp only
   rw [hkn]
   cases hn : pNm t.tt with
   | false =>
    obtain ⟨h1, h2⟩ := mNm_no (T := T) (s := s) (by rw [← ht]; exact hn) h0
    have h3 : (mNm T s).why ≠ 0 := by rw [h1]; decide
    have hP : ∀ n, mPre T 20 un (-1) n s = mNm T s := by
     intro n; unfold mPre; rw [if_pos (by decide), mBad_stuck _ _ h3, mBad_stuck _ _ h3, mBad_stuck _ _ h3, mBad_stuck _ _ h3]
    rw [hP, if_pos h3, if_pos rfl]
    exact rel_err h1 (by rw [h2, ht]) (by decide)
   | true =>
    have hnm : mNm T s = s := mNm_yes (by rw [← ht]; exact hn)
    have hP : ∀ n, mPre T 20 un (-1) n s = { s with why := 2, bad := t.at_ } := by
     intro n; unfold mPre
     rw [if_pos (by decide), hnm, show mLong 20 (-1) s = true from rfl, mBad_yes _ h0, stk3 (by simp), ht]
    rw [hP, if_pos (by simp), if_neg (by simp), if_pos (by decide)]
    exact rel_err rfl rfl (by decide)
  | some k =>
   rw [hp] at hkn
   simp only at hkn
   simp only
   rw [hkn]
   have hP : ∀ n, mPre T 20 un (k : Int) n s = { s with why := 2, bad := t.at_ } := by
    intro n; unfold mPre
    rw [if_neg (by omega), show mLong 20 (k : Int) s = true from rfl, mBad_yes _ h0, stk3 (by simp), ht]
   rw [hP, if_pos (by simp), if_pos (.inl (by decide))]
   exact rel_err rfl rfl (by decide)
 | succ f ih =>
  intro deep hd F un s N h0 hl hF hN
  obtain ⟨F, rfl⟩ : ∃ F', F = F' + 1 := ⟨F - 1, by omega⟩
  have hdeep : ¬20 ≤ deep := by omega
  have hrec : ∀ u, RdRel T F (mTyped T (f + 1) (deep + 1) u) (eType F (deep + 1) u) := fun u => ih (deep + 1) (by omega) F u
  rw [tok_drop hl, eType, mTyped]
  have hkn := kNo_kind hT hl
  obtain ⟨t, ht⟩ : ∃ t, t = tokAt T s.at_ := ⟨_, rfl⟩
  rw [← ht] at hkn ⊢
  unfold eStep
  cases hp : pKind t.tt with
  | none =>
   rw [hp] at hkn
   simp only at hkn
   simp only
   rw [hkn]
   cases hn : pNm t.tt with
   | false =>
    obtain ⟨h1, h2⟩ := mNm_no (T := T) (s := s) (by rw [← ht]; exact hn) h0
    have h3 : (mNm T s).why ≠ 0 := by rw [h1]; decide
    have hP : ∀ n, mPre T deep un (-1) n s = mNm T s := by
     intro n; unfold mPre; rw [if_pos (by decide), mBad_stuck _ _ h3, mBad_stuck _ _ h3, mBad_stuck _ _ h3, mBad_stuck _ _ h3]
    rw [hP, if_pos h3, if_pos rfl]
    exact rel_err h1 (by rw [h2, ht]) (by decide)
   | true =>
    have hnm : mNm T s = s := mNm_yes (by rw [← ht]; exact hn)
    have hlong : mLong deep (-1) s = false := by unfold mLong; rw [decide_eq_false hdeep]; rfl
    rw [if_neg (show ¬(true = false) by simp), if_neg hdeep]
    have hme : mName t s (-1) = calledI N t.s := by
     unfold mName calledI; rw [if_pos (by decide), hN.called]
    unfold calledI at hme
    cases hc : pCalled N t.s with
    | none =>
     rw [hc] at hme
     simp only at hme
     have hP : mPre T deep un (-1) (-1) s = { s with why := 5, bad := t.at_ } := by
      unfold mPre
      rw [if_pos (by decide), hnm, hlong, mBad_no, show (decide ((-1 : Int) < 0) && decide ((-1 : Int) < 0)) = true from rfl, mBad_yes _ h0, stk2 (by simp), ht]
     rw [hme, hP, if_pos (by simp)]
     exact rel_err rfl rfl (by decide)
    | some n =>
     rw [hc] at hme
     simp only at hme
     have hP : mPre T deep un (-1) (n : Int) s = mBad T ((un.getD []).contains n) 6 s := by
      unfold mPre
      rw [if_pos (by decide), hnm, hlong, mBad_no, show (decide ((-1 : Int) < 0) && decide ((n : Int) < 0)) = false by rw [decide_eq_false (p := (n : Int) < 0) (by omega)]; rfl, mBad_no, show (un.isSome && decide ((-1 : Int) = 8)) = false by rw [decide_eq_false (p := (-1 : Int) = 8) (by decide), Bool.and_false], mBad_no, same_name]
     rw [hme, hP]
     simp only
     cases hq : (un.getD []).contains n with
     | true =>
      rw [mBad_yes _ h0, if_pos (by simp), if_pos rfl]
      exact rel_err rfl (by rw [ht]) (by decide)
     | false =>
      have hmo := hT.more hl (by rw [← ht, pNm_zero hn]; decide)
      rw [mBad_no, if_neg (by simp [h0]), if_pos (by decide), if_neg (by simp), mOn_more h0 hmo]
      exact ⟨rfl, h0, hmo, rfl, Nat.lt_succ_self _, [], by simp, by simp⟩
  | some k =>
   rw [hp] at hkn
   simp only at hkn
   simp only
   have hk12 := pKind_some hp
   have hname : mName t s (k : Int) = -1 := by unfold mName; rw [if_neg (by omega)]
   rw [hkn, hname]
   by_cases h200 : 200 ≤ N.length
   ·have hlong : mLong deep (k : Int) s = true := by unfold mLong; rw [decide_eq_true (p := (0 : Int) ≤ k) (by omega), decide_eq_true (p := 200 ≤ s.N.length) (by rw [hN.len]; exact h200)]; simp
    have hP : mPre T deep un (k : Int) (-1) s = { s with why := 2, bad := t.at_ } := by
     unfold mPre
     rw [if_neg (by omega), hlong, mBad_yes _ h0, stk3 (by simp), ht]
    rw [hP, if_pos (by simp), if_pos (.inr h200)]
    exact rel_err rfl rfl (by decide)
   ·have hlong : mLong deep (k : Int) s = false := by unfold mLong; rw [decide_eq_false hdeep, decide_eq_false (p := 200 ≤ s.N.length) (by rw [hN.len]; exact h200)]; simp
    rw [if_neg (show ¬(20 ≤ deep ∨ 200 ≤ N.length) by omega)]
    have hP : mPre T deep un (k : Int) (-1) s = mBad T (eSame un N k) 6 (mBad T (un.isSome && decide (k = 8)) 4 s) := by
     unfold mPre
     rw [if_neg (by omega), hlong, mBad_no, show (decide ((k : Int) < 0) && decide ((-1 : Int) < 0)) = false by rw [decide_eq_false (p := (k : Int) < 0) (by omega)]; rfl, mBad_no, same_kind hN, decide_eq_decide.2 (show (k : Int) = 8 ↔ k = 8 by omega)]
    rw [hP]
    by_cases h8 : un.isSome = true ∧ k = 8
    ·have e8 : (un.isSome && decide (k = 8)) = true := by rw [h8.1, decide_eq_true h8.2]; rfl
     rw [e8, mBad_yes _ h0, mBad_stuck _ _ (by simp), if_pos (by simp), if_pos h8]
     exact rel_err rfl (by rw [ht]) (by decide)
    ·have e8 : (un.isSome && decide (k = 8)) = false := by
      cases hh : (un.isSome && decide (k = 8)) with
      | false => rfl
      | true => exact absurd (by simpa using hh) h8
     rw [e8, mBad_no, if_neg h8]
     cases hsm : eSame un N k with
     | true =>
      rw [mBad_yes _ h0, if_pos (by simp), if_pos rfl]
      exact rel_err rfl (by rw [ht]) (by decide)
     | false =>
      have hk3 : t.k ≠ 3 := by
       rcases hk12.2 with ⟨_, e⟩ | ⟨_, e⟩
       ·have := congrArg Prod.fst e; rw [show t.tt.1 = t.k from rfl] at this; simp only at this; omega
       ·have := congrArg Prod.fst e; rw [show t.tt.1 = t.k from rfl] at this; simp only at this; omega
      have hmo := hT.more hl (by rw [← ht]; exact hk3)
      rw [mBad_no, if_neg (by simp [h0]), if_neg (by omega), if_neg (by simp), mOn_more h0 hmo]
      obtain ⟨s1, hs1⟩ : ∃ s1 : St, s1 = { s with at_ := s.at_ + 1, N := s.N ++ [Nd.of k] } := ⟨_, rfl⟩
      have e1 : s1.why = 0 := by rw [hs1]; exact h0
      have e2 : s1.at_ = s.at_ + 1 := by rw [hs1]
      have e3 : s1.N = s.N ++ [Nd.of k] := by rw [hs1]
      have hl1 : s1.at_ < T.length := by rw [e2]; exact hmo
      have hF1 : T.length - s1.at_ < F := by omega
      have lift : ∀ {x : Nat × St} {e : EO}, Rel T { s1 with N := s.N } N x e → Rel T s N x e := by
       intro x e h
       cases e with
       | error p => exact h
       | ok p =>
        obtain ⟨n, rest, N'⟩ := p
        obtain ⟨j1, j2, j3, j4, j5, j6⟩ := h
        exact ⟨j1, j2, j3, j4, by have : s1.at_ < x.2.at_ := j5; omega, j6⟩
      unfold mBody
      simp only [Int.toNat_natCast]
      have hNl := hN.len
      by_cases h6 : k < 6
      ·rw [if_pos h6, if_pos (show (k : Int) < 6 by omega)]
       exact ⟨hNl, h0, hmo, rfl, Nat.lt_succ_self _, [Nd.of k], rfl, rfl⟩
      rw [if_neg h6, if_neg (show ¬((k : Int) < 6) by omega)]
      by_cases hk6 : k = 6
      ·subst hk6
       rw [if_pos rfl, if_pos (show ((6 : Nat) : Int) = 6 from rfl)]
       have := one_rel (s := s1) hT (hrec none) (shut := [93]) (m := s.N.length) rfl hN e3 e1 hl1 hF1
       rw [hs1] at this
       rw [← hNl]
       rw [hs1] at lift
       exact lift this
      rw [if_neg hk6, if_neg (show ¬((k : Int) = 6) by omega)]
      by_cases hk7 : k = 7
      ·subst hk7
       rw [if_pos rfl, if_pos (show ((7 : Nat) : Int) = 7 from rfl)]
       have := one_rel (s := s1) hT (hrec none) (shut := [125]) (m := s.N.length) rfl hN e3 e1 hl1 hF1
       rw [hs1] at this
       rw [← hNl]
       rw [hs1] at lift
       exact lift this
      rw [if_neg hk7, if_neg (show ¬((k : Int) = 7) by omega)]
      by_cases hk8 : k = 8
      ·subst hk8
       rw [if_pos rfl, if_pos (show ((8 : Nat) : Int) = 8 from rfl)]
       have := all_rel (S := s.N) (N0 := N) hT (fun u => hrec (some u)) rfl hN (T.length + 1) F [] [] s1 e3 e1 hl1 hF1 (by omega) hF1
       rw [e2] at this
       rw [← hs1]
       revert this
       cases eAllW (fun its => eType F (deep + 1) (some its)) F [] (T.drop (s.at_ + 1)) (N ++ [Nd.of 8]) with
       | error p =>
        obtain ⟨a, e⟩ := p
        rintro ⟨j1, j2, j3⟩
        exact rel_err j1 j2 j3
       | ok p =>
        obtain ⟨its', rest, N1⟩ := p
        rintro ⟨j1, j2, j3, j4, mid', j5, j6⟩
        refine ⟨hNl, j1, j2, j3, Nat.lt_trans (show s.at_ < s1.at_ by omega) (e2 ▸ j4), { Nd.of 8 with items := its' } :: mid', ?_, j6⟩
        rw [j5]
        exact mod_at _ rfl
      ·rw [if_neg hk8, if_neg (show ¬((k : Int) = 8) by omega)]
       have := named_rel (s := s1) (f := F) hT (hrec none) (m := s.N.length) rfl hN (k := k) ⟨by omega, hk12.1⟩ e3 e1 hl1 hF1 hF1
       rw [hs1] at this
       rw [hs1] at lift
       exact lift this
end
theorem read_rel {l : List UInt8} {T : List Tok} (h : wWords l = .ok T) : match eRead l with
  | .ok N => (mParse T).why = 0 ∧ (mParse T).N = N
  | .error (a, e) => (mParse T).why = e ∧ (mParse T).bad = a ∧ e ≠ 0 := by
 obtain ⟨ts, e1, e2, _⟩ := wWords_text h
 have hT : TOk T := ⟨ts, e1, e2⟩
 have hw : T.length ≤ 1500 := by have hl := (wWords_ord h).1; unfold wWords at h; rw [if_neg (by omega)] at h; have := wGo_few _ _ _ _ _ h (by omega); omega
 have hR := type_rel hT 20 0 rfl 2000 none ⟨0, [], 0, 0⟩ [] rfl hT.pos (by show T.length - 0 < 2000; omega) (NE.refl _)
 unfold eRead mParse
 rw [h]
 simp only
 rw [show T.drop (⟨0, [], 0, 0⟩ : St).at_ = T from rfl] at hR
 revert hR
 cases eType 2000 0 none T [] with
 | error p =>
  obtain ⟨a, e⟩ := p
  rintro ⟨j1, j2, j3⟩
  rw [mBad_stuck _ _ (by rw [j1]; exact j3)]
  exact ⟨j1, j2, j3⟩
 | ok p =>
  obtain ⟨n, rest, N'⟩ := p
  rintro ⟨j1, j2, j3, j4, j5, new, j6, j7⟩
  rw [tok_drop j3] at j4
  cases rest with
  | nil => cases j4
  | cons u r =>
   injection j4 with j4a j4b
   simp only
   rw [j4a]
   by_cases hk : u.k = 3
   ·rw [if_pos hk, decide_eq_false (by simp [hk]), mBad_no]
    exact ⟨j2, by rw [j7, j6]⟩
   ·rw [if_neg hk, decide_eq_true hk, mBad_yes _ j2]
    exact ⟨rfl, by rw [← j4a], by decide⟩
theorem wSign_cases {c : UInt8} (h : wSign c = true) : wLow c = false ∧ wNum c = false ∧ wKind c = 2 := by
 obtain ⟨_, h2, h3⟩ := sign_no h
 exact ⟨h3, h2, by unfold wKind; rw [h3, h2]; rfl⟩
def keyW (s : List UInt8) : Bool := wName s && (pWord s).isSome
theorem kwText_name : ∀ k : Nat, k < 12 → wName (kwText k) = decide (k < 6 ∨ 8 < k) := by decide
section
variable {T : List Tok}
theorem TOk.wf (h : TOk T) {i : Nat} (hi : i < T.length) : Wf (tokAt T i).tt ∨ (tokAt T i).tt = (3, []) := (h.at_ hi).imp (·.2) (·.2)
theorem tk_sign (h : TOk T) {i : Nat} (hi : i < T.length) {c : UInt8} (hc : wSign c = true) (hs : (tokAt T i).s = [c]) : (tokAt T i).k = 2 := by
 rcases h.wf hi with ⟨d, w, h1, _, h3, _⟩ | h1
 ·rw [tt_snd, hs] at h1
  injection h1 with h1 h1b
  subst h1
  exact h3.trans (wSign_cases hc).2.2
 ·have := congrArg Prod.snd h1
  rw [tt_snd, hs] at this
  cases this
theorem tk_name (h : TOk T) {i : Nat} (hi : i < T.length) (hs : wName (tokAt T i).s = true) : (tokAt T i).k = 0 := by
 rcases h.wf hi with ⟨d, w, h1, _, h3, _⟩ | h1
 ·rw [tt_snd] at h1
  rw [h1] at hs
  have hl : wLow d = true := by
   unfold wName at hs
   simp only [Bool.and_eq_true] at hs
   exact hs.1.2
  rw [tt_fst] at h3
  rw [h3]; unfold wKind; rw [if_pos hl]
 ·have := congrArg Prod.snd h1
  rw [tt_snd] at this
  rw [this] at hs
  cases hs
theorem tk_num (h : TOk T) {i : Nat} (hi : i < T.length) (hs : wOk (tokAt T i).s = true) : (tokAt T i).k = 1 := by
 rcases h.wf hi with ⟨d, w, h1, _, h3, _⟩ | h1
 ·rw [tt_snd] at h1
  rw [h1] at hs
  have hl : wNum d = true := by
   unfold wOk at hs
   simp only [Bool.and_eq_true, List.all_cons] at hs
   exact hs.1.1.2.1
  have hw : wLow d = false := by
   unfold wLow; unfold wNum at hl
   rw [decide_eq_true_eq] at hl
   exact decide_eq_false (by omega)
  rw [tt_fst] at h3
  rw [h3]; unfold wKind; rw [if_neg (by rw [hw]; decide), if_pos hl]
 ·have := congrArg Prod.snd h1
  rw [tt_snd] at this
  rw [this] at hs
  cases hs
theorem tk_kind (h : TOk T) {i : Nat} (hi : i < T.length) : pKind (tokAt T i).tt = pWord (tokAt T i).s := by
 have hk := kNo_kind h hi
 obtain ⟨t, ht⟩ : ∃ t, t = tokAt T i := ⟨_, rfl⟩
 have hw := h.wf hi
 rw [← ht] at hw hk ⊢
 cases hp : pWord t.s with
 | none => unfold pKind; rw [tt_snd, hp]
 | some k =>
  have h12 := pWord_some hp
  have h2 : t.k = 0 ∨ t.k = 2 := by
   rcases hw with ⟨c, w, hs, _, hkd, _⟩ | h3
   ·rw [tt_snd, h12.2] at hs
    rw [tt_fst] at hkd
    have key : ∀ k : Nat, k < 12 → ∀ c w, kwText k = c :: w → wKind c = 0 ∨ wKind c = 2 := by
     intro k hk
     have : k = 0 ∨ k = 1 ∨ k = 2 ∨ k = 3 ∨ k = 4 ∨ k = 5 ∨ k = 6 ∨ k = 7 ∨ k = 8 ∨ k = 9 ∨ k = 10 ∨ k = 11 := by omega
     rcases this with rfl | rfl | rfl | rfl | rfl | rfl | rfl | rfl | rfl | rfl | rfl | rfl <;>
      (intro c w e; simp only [kwText, kwList, List.getD_cons_zero, List.getD_cons_succ, List.cons.injEq] at e; rw [← e.1]; decide)
    rw [hkd]
    exact key k h12.1 c w hs
   ·have h4 := congrArg Prod.snd h3
    rw [tt_snd] at h4
    have : pWord ([] : List UInt8) = none := by decide
    rw [h4, this] at hp
    cases hp
  unfold kNo wordI at hk
  rw [if_pos h2, hp] at hk
  cases hq : pKind t.tt with
  | none => rw [hq] at hk; simp only at hk; omega
  | some m => rw [hq] at hk; simp only at hk; rw [show k = m by omega]
theorem tk_nm (h : TOk T) {i : Nat} (hi : i < T.length) : pNm (tokAt T i).tt = (wName (tokAt T i).s && !keyW (tokAt T i).s) := by
 unfold pNm keyW
 rw [tt_fst, tt_snd]
 cases hn : wName (tokAt T i).s with
 | false => simp
 | true =>
  rw [tk_name h hi hn]
  cases pWord (tokAt T i).s <;> rfl
theorem tk_end (h : TOk T) {i : Nat} (hi : i < T.length) : (tokAt T i).k = 3 ↔ (tokAt T i).s = [] := by
 rcases h.wf hi with ⟨d, w, h1, _, h3, _⟩ | h1
 ·rw [tt_snd] at h1; rw [tt_fst] at h3
  have := wKind_le d
  constructor
  ·intro e; omega
  ·intro e; rw [h1] at e; cases e
 ·exact ⟨fun _ => congrArg Prod.snd h1, fun _ => congrArg Prod.fst h1⟩
def Alike (S N : List Nd) (a : Nat) (T : List Tok) (e e' : EO) : Prop := match e with
 | .ok (n, ts, S') => ∃ new a', S' = S ++ new ∧ e' = .ok (n, ts, N ++ new) ∧ ts = T.drop a' ∧ a < a' ∧ a' < T.length
 | .error (p, er) => er ≠ 0 ∧ e' = .error (p, er)
theorem type_alike (hT : TOk T) {deep F a : Nat} {un : Option (List Nat)} {S N : List Nd} (hd : deep ≤ 20) (ha : a < T.length) (hF : T.length - a < F) (hN : NE S N) :
  Alike S N a T (eType F deep un (T.drop a) S) (eType F deep un (T.drop a) N) := by
 have hR := type_rel hT (20 - deep) deep (by omega) F un
 have h1 := hR ⟨a, S, 0, 0⟩ S rfl ha hF (NE.refl _)
 have h2 := hR ⟨a, S, 0, 0⟩ N rfl ha hF hN
 simp only at h1 h2
 revert h1 h2
 generalize mTyped T (20 - deep + 1) deep un ⟨a, S, 0, 0⟩ = x
 cases eType F deep un (T.drop a) S with
 | error p =>
  obtain ⟨p, er⟩ := p
  rintro ⟨j1, j2, j3⟩ h2
  refine ⟨j3, ?_⟩
  revert h2
  cases eType F deep un (T.drop a) N with
  | error q =>
   obtain ⟨q, er'⟩ := q
   rintro ⟨k1, k2, _⟩
   rw [show q = p by omega, show er' = er by omega]
  | ok q =>
   obtain ⟨n, ts, N'⟩ := q
   rintro ⟨_, k2, _⟩
   omega
 | ok p =>
  obtain ⟨n, ts, S'⟩ := p
  rintro ⟨j1, j2, j3, j4, j5, new, j6, j7⟩ h2
  refine ⟨new, x.2.at_, j6, ?_, j4.symm, j5, j3⟩
  revert h2
  cases eType F deep un (T.drop a) N with
  | error q =>
   obtain ⟨q, er'⟩ := q
   rintro ⟨k1, k2, _⟩
   omega
  | ok q =>
   obtain ⟨n', ts', N'⟩ := q
   rintro ⟨k1, _, k3, k4, _, new', k6, k7⟩
   have : new' = new := List.append_cancel_left (k7.symm.trans j7)
   rw [k6, this, ← k4, ← j4, ← k1, ← j1]
end
open Go.RowKit
def NmPost (l : List UInt8) (w : World) (e : Ending) (w' : World) : Prop := e = .returned (.tuple #[.int .i64 ((if wOk l then wNumAt l else 0 : Nat) : Int), .bool (wOk l)]) ∧ w = w'
theorem nm_no {l : List UInt8} {w : World} (h : wOk l = false) : NmPost l w (.returned (.tuple #[.int .i64 0, .bool false])) w := ⟨by rw [h]; rfl, rfl⟩
open Go.RowKit
def kwVals : List Value := kwList.map fun s => .string (txt s)
theorem kwVals_at {j : Nat} {x : List UInt8} (h : kwList[j]? = some x) : kwVals[j]? = some (.string (txt x)) := by
 unfold kwVals
 rw [List.getElem?_map, h]
 rfl
theorem tx_beq (l m : List UInt8) : ((txt l).toList == (txt m).toList) = (l == m) := by
 have h (l : List UInt8) : (txt l).toList = l := ByteArray.toList_mk l
 rw [h, h]
def wordNo (l : List UInt8) : Int := match pWord l with
 | some k => (k : Int)
 | none => -1
theorem wordNo_at {l : List UInt8} {j : Nat} (h : kwList[j]? = some l) (hno : ∀ m x, m < j → kwList[m]? = some x → x ≠ l) : wordNo l = (j : Int) := by
 have hj : j < kwList.length := by
  rcases Nat.lt_or_ge j kwList.length with h1 | h1
  ·exact h1
  ·rw [List.getElem?_eq_none h1] at h; cases h
 have : pWord l = some j := by
  unfold pWord
  rw [List.findIdx?_eq_some_iff_getElem]
  refine ⟨hj, ?_, fun m hm => ?_⟩
  ·rw [List.getElem?_eq_getElem hj, Option.some.injEq] at h
   rw [h]; simp
  ·have := hno m kwList[m] hm (List.getElem?_eq_getElem (by omega))
   simpa using this
 unfold wordNo
 rw [this]
theorem wordNo_none {l : List UInt8} (hno : ∀ m x, m < 12 → kwList[m]? = some x → x ≠ l) : wordNo l = -1 := by
 have : pWord l = none := by
  unfold pWord
  rw [List.findIdx?_eq_none_iff]
  intro x hx
  obtain ⟨m, hm, rfl⟩ := List.mem_iff_getElem.1 hx
  have h12 : kwList.length = 12 := rfl
  have := hno m kwList[m] (by omega) (List.getElem?_eq_getElem hm)
  simpa using this
 unfold wordNo
 rw [this]
theorem rword_any (s : ByteArray) (l : List UInt8) (w : World) (hs : Tx s l) : Calls Tryz.prog 78 #[.string s] w fun e w' => e = .returned (.int .i64 (wordNo l)) ∧ Turn w w' none := by
 obtain rfl : s = txt l := hs
 go_enter Tryz.func78, Tryz.ntmps78
 go_wp2
 obtain ⟨W, hW⟩ : ∃ W, W = w.alloc (.cells kwVals.toArray 9) := ⟨_, rfl⟩
 have hrd : Rd W (w.heap.size + 1) 1 (some ⟨w.heap.size, 0, none⟩) 12 kwVals := by rw [hW]; exact Rd.litS w _ 1 12 kwVals rfl
 have htn : Turn w W none := by rw [hW]; exact (Turn.refl w none).alloc _
 change Code.wp _ _ _ _ (w.alloc (.cells kwVals.toArray 9))
 rw [← hW]
 clear hW
 go_loopw [4] (fun i wr => ∃ j : Nat, j ≤ 12 ∧ i = .int .i64 (j : Int) ∧ Hid (∀ m x, m < j → kwList[m]? = some x → x ≠ l) ∧ wr = W) (fun i _ => (12 - intOf i).toNat)
 case atStart => exact ⟨0, by omega, rfl, hid (fun m x h => absurd h (Nat.not_lt_zero m)), rfl⟩
 case round =>
  obtain ⟨j, hj, rfl, HNO, rfl⟩ := hrel
  by_cases hjn : j < 12
  ·obtain ⟨x, hx⟩ : ∃ x, kwList[j]? = some x := ⟨kwList[j]'(by have : kwList.length = 12 := rfl; omega), List.getElem?_eq_getElem _⟩
   obtain ⟨b0, off, heq, _, hcells⟩ := hrd.head (by omega)
   have hcell := hcells j _ (kwVals_at hx)
   have HX := hid hx
   clear hx hcells
   by_cases hxl : x = l
   ·have hb : ((txt x).toList == (txt l).toList) = true := by rw [tx_beq]; simpa using hxl
    have HL := hid hxl
    clear hxl
    go_wp2
    go_ret
    refine ⟨?_, htn⟩
    rw [wordNo_at (by rw [HX.out, HL.out]) HNO.out]
    rfl
   ·have hb : ((txt x).toList == (txt l).toList) = false := by rw [tx_beq]; simpa using hxl
    have HL := hid hxl
    clear hxl
    go_wp2
    refine ⟨⟨j + 1, by omega, by go_num, hid (fun m y hm hy => ?_), trivial⟩, by simp [intOf]; omega⟩
    rcases Nat.lt_or_ge m j with h | h
    ·exact HNO.out m y h hy
    ·obtain rfl : m = j := by omega
     rw [HX.out, Option.some.injEq] at hy
     rw [← hy]
     exact HL.out
  ·obtain rfl : j = 12 := by omega
   go_wp2
   go_ret
   refine ⟨?_, htn⟩
   rw [wordNo_none HNO.out]
   rfl
def isKey (l : List UInt8) : Bool := decide (0 ≤ wordNo l ∧ (wordNo l < 6 ∨ 8 < wordNo l))
theorem rkey_any (s : ByteArray) (l : List UInt8) (w : World) (hs : Tx s l) : Calls Tryz.prog 121 #[.string s] w fun e w' => e = .returned (.bool (isKey l)) ∧ Turn w w' none := by
 obtain ⟨k, hk⟩ : ∃ k, wordNo l = k := ⟨_, rfl⟩
 have hi : isKey l = decide (0 ≤ k ∧ (k < 6 ∨ 8 < k)) := by unfold isKey; rw [hk]
 have HK := hid hk
 clear hk
 by_cases h0 : 0 ≤ k
 ·by_cases h6 : k < 6
  ·have H := hid (hi.trans (decide_eq_true (p := 0 ≤ k ∧ (k < 6 ∨ 8 < k)) ⟨h0, .inl h6⟩))
   clear hi
   go_enter Tryz.func121, Tryz.ntmps121
   go_wp2_with (go_at_call 78; refine (rword_any s l _ hs).mono ?_; rintro e w' ⟨rfl, ht⟩; rw [HK.out])
   go_ret
   exact ⟨by rw [H.out]; rfl, ht⟩
  ·have hb : isKey l = (decide (k < 6) || decide (8 < k)) := by
    rw [hi, ← Bool.decide_or]
    apply decide_eq_decide.2
    omega
   have H := hid hb
   clear hb hi
   go_enter Tryz.func121, Tryz.ntmps121
   go_wp2_with (go_at_call 78; refine (rword_any s l _ hs).mono ?_; rintro e w' ⟨rfl, ht⟩; rw [HK.out])
   all_goals go_ret
   all_goals exact ⟨by rw [H.out]; rfl, ht⟩
 ·have H := hid (hi.trans (decide_eq_false (p := 0 ≤ k ∧ (k < 6 ∨ 8 < k)) (fun h => h0 h.1)))
  clear hi
  go_enter Tryz.func121, Tryz.ntmps121
  go_wp2_with (go_at_call 78; refine (rword_any s l _ hs).mono ?_; rintro e w' ⟨rfl, ht⟩; rw [HK.out])
  go_ret
  exact ⟨by rw [H.out]; rfl, ht⟩
open Go.RowKit
theorem letter_any (c : UInt8) (w : World) : Calls Tryz.prog 163 #[.int .u8 (c.toNat : Int)] w fun e w' => e = .returned (.bool (wLow c)) ∧ w = w' := by
 rcases wLow_cases c with ⟨h1, h⟩ | ⟨h1, h2, h⟩ | ⟨h0, h1, h⟩
 all_goals
  have H := hid h
  clear h
  go_enter Tryz.func163, Tryz.ntmps163
  go_wp2
  all_goals go_ret
  all_goals exact ⟨by rw [H.out]; first | rfl | (refine congrArg (fun b => Ending.returned (.bool b)) ?_; exact decide_eq_false (by omega)), rfl⟩
theorem digit_any (c : UInt8) (w : World) : Calls Tryz.prog 165 #[.int .u8 (c.toNat : Int)] w fun e w' => e = .returned (.bool (wNum c)) ∧ w = w' := by
 rcases wNum_cases c with ⟨h1, h⟩ | ⟨h1, h2, h⟩ | ⟨h0, h1, h⟩
 all_goals
  have H := hid h
  clear h
  go_enter Tryz.func165, Tryz.ntmps165
  go_wp2
  all_goals go_ret
  all_goals exact ⟨by rw [H.out]; first | rfl | (refine congrArg (fun b => Ending.returned (.bool b)) ?_; exact decide_eq_false (by omega)), rfl⟩
theorem inName_any (c : UInt8) (w : World) : Calls Tryz.prog 164 #[.int .u8 (c.toNat : Int)] w fun e w' => e = .returned (.bool (wIn c)) ∧ w = w' := by
 have H := hid (show wIn c = (wLow c || wNum c || decide (c.toNat = 95)) from rfl)
 have e95 : ((c.toNat : Int) == 95) = decide (c.toNat = 95) := by
  by_cases h : c.toNat = 95
  ·rw [h]; rfl
  ·rw [decide_eq_false h, beq_eq_false_iff_ne]; omega
 have E95 := hid e95
 clear e95
 cases h1 : wLow c with
 | true =>
  have H1 := hid h1
  clear h1
  go_enter Tryz.func164, Tryz.ntmps164
  go_wp2_with (go_at_call 163; refine (letter_any c _).mono ?_; rintro e w' ⟨rfl, rfl⟩; rw [H1.out])
  go_ret
  exact ⟨by rw [H.out, H1.out]; rfl, rfl⟩
 | false =>
  have H1 := hid h1
  clear h1
  cases h2 : wNum c with
  | true =>
   have H2 := hid h2
   clear h2
   go_enter Tryz.func164, Tryz.ntmps164
   go_wp2_with (first | (go_at_call 163; refine (letter_any c _).mono ?_; rintro e w' ⟨rfl, rfl⟩; rw [H1.out]) | (go_at_call 165; refine (digit_any c _).mono ?_; rintro e w' ⟨rfl, rfl⟩; rw [H2.out]))
   go_ret
   exact ⟨by rw [H.out, H1.out, H2.out]; rfl, rfl⟩
  | false =>
   have H2 := hid h2
   clear h2
   go_enter Tryz.func164, Tryz.ntmps164
   go_wp2_with (first | (go_at_call 163; refine (letter_any c _).mono ?_; rintro e w' ⟨rfl, rfl⟩; rw [H1.out]) | (go_at_call 165; refine (digit_any c _).mono ?_; rintro e w' ⟨rfl, rfl⟩; rw [H2.out]))
   go_ret
   exact ⟨by rw [H.out, H1.out, H2.out, E95.out]; simp, rfl⟩
theorem wBlank_cases (c : UInt8) : (c.toNat = 32 ∧ wBlank c = true) ∨ (c.toNat ≠ 32 ∧ c.toNat = 9 ∧ wBlank c = true) ∨ (c.toNat ≠ 32 ∧ c.toNat ≠ 9 ∧ c.toNat = 10 ∧ wBlank c = true) ∨ (c.toNat ≠ 32 ∧ c.toNat ≠ 9 ∧ c.toNat ≠ 10 ∧ c.toNat = 13 ∧ wBlank c = true) ∨ (c.toNat ≠ 32 ∧ c.toNat ≠ 9 ∧ c.toNat ≠ 10 ∧ c.toNat ≠ 13 ∧ wBlank c = false) := by
 unfold wBlank
 by_cases h1 : c.toNat = 32
 ·exact .inl ⟨h1, decide_eq_true (by omega)⟩
 by_cases h2 : c.toNat = 9
 ·exact .inr (.inl ⟨h1, h2, decide_eq_true (by omega)⟩)
 by_cases h3 : c.toNat = 10
 ·exact .inr (.inr (.inl ⟨h1, h2, h3, decide_eq_true (by omega)⟩))
 by_cases h4 : c.toNat = 13
 ·exact .inr (.inr (.inr (.inl ⟨h1, h2, h3, h4, decide_eq_true (by omega)⟩)))
 ·exact .inr (.inr (.inr (.inr ⟨h1, h2, h3, h4, decide_eq_false (by omega)⟩)))
theorem beq_no {a b : Nat} (h : a ≠ b) : ((a : Int) == (b : Int)) = false := by rw [beq_eq_false_iff_ne]; omega
theorem blank_any (c : UInt8) (w : World) : Calls Tryz.prog 161 #[.int .u8 (c.toNat : Int)] w fun e w' => e = .returned (.bool (wBlank c)) ∧ w = w' := by
 rcases wBlank_cases c with ⟨h1, h⟩ | ⟨h1, h2, h⟩ | ⟨h1, h2, h3, h⟩ | ⟨h1, h2, h3, h4, h⟩ | ⟨h1, h2, h3, h4, h⟩
 all_goals
  have H := hid h
  clear h
  try have b1 : ((c.toNat : Int) == 32) = false := beq_no h1
  try have b2 : ((c.toNat : Int) == 9) = false := beq_no h2
  try have b3 : ((c.toNat : Int) == 10) = false := beq_no h3
  try have b4 : ((c.toNat : Int) == 13) = false := beq_no h4
  go_enter Tryz.func161, Tryz.ntmps161
  go_wp2
  all_goals go_ret
  all_goals exact ⟨by rw [H.out]; rfl, rfl⟩
def wLine (c : UInt8) : Bool := decide (c.toNat ≠ 10)
theorem inLine_any (c : UInt8) (w : World) : Calls Tryz.prog 162 #[.int .u8 (c.toNat : Int)] w fun e w' => e = .returned (.bool (wLine c)) ∧ w = w' := by
 by_cases h : c.toNat = 10
 ·have H := hid (show wLine c = false from decide_eq_false (by omega))
  go_enter Tryz.func162, Tryz.ntmps162
  go_wp2
  all_goals go_ret
  all_goals exact ⟨by rw [H.out]; rfl, rfl⟩
 ·have H := hid (show wLine c = true from decide_eq_true h)
  have b1 : ((c.toNat : Int) != 10) = true := by show (!((c.toNat : Int) == ((10 : Nat) : Int))) = true; rw [beq_no h]; rfl
  go_enter Tryz.func162, Tryz.ntmps162
  go_wp2
  all_goals go_ret
  all_goals exact ⟨by rw [H.out]; rfl, rfl⟩
def wSigns : List UInt8 := [40, 41, 91, 93, 123, 125, 60, 62, 124, 58, 59, 44, 63]
theorem wSign_at (c : UInt8) : decide (0 ≤ Lib.indexByte wSigns c) = wSign c := by
 have key : ∀ n : Nat, n < 256 → decide (0 ≤ Lib.indexByte wSigns (UInt8.ofNat n)) = wSign (UInt8.ofNat n) := by decide +kernel
 have := key c.toNat c.toNat_lt
 simpa using this
theorem slIndex_any (s : ByteArray) (c : Int) (w : World) : Calls Tryz.prog 190 #[.string s, .int .u8 c] w fun e w' => e = .returned (.int .i64 (Lib.indexByte s.data.toList c.toNat.toUInt8)) ∧ w = w' := by
 go_enter Tryz.func190, Tryz.ntmps190
 go_wp2
 rw [run_callFunc_extern Tryz.func196 (by kernel_rfl) (by kernel_rfl) (by kernel_rfl) (e := Extern.BytealgIndexByte.indexByte) (by kernel_rfl), Lib.run_indexByteString]
 simp only [Result.andThen]
 rw [Oper.upon_value]
 go_wp2
 go_ret
 exact ⟨rfl, rfl⟩
theorem index_any (s : ByteArray) (c : Int) (w : World) : Calls Tryz.prog 183 #[.string s, .int .u8 c] w fun e w' => e = .returned (.int .i64 (Lib.indexByte s.data.toList c.toNat.toUInt8)) ∧ w = w' := by
 go_enter Tryz.func183, Tryz.ntmps183
 go_wp2_with (go_at_call 190; refine (slIndex_any s c _).mono ?_; rintro e w' ⟨rfl, rfl⟩)
 go_ret
 exact ⟨rfl, rfl⟩
theorem sign_any (c : UInt8) (w : World) : Calls Tryz.prog 166 #[.int .u8 (c.toNat : Int)] w fun e w' => e = .returned (.bool (wSign c)) ∧ w = w' := by
 obtain ⟨x, hx⟩ : ∃ x, Lib.indexByte wSigns c = x := ⟨_, rfl⟩
 have H := hid (wSign_at c)
 have HX := hid hx
 clear hx
 have hc : ((c.toNat : Int)).toNat.toUInt8 = c := by simp
 have HC := hid hc
 clear hc
 go_enter Tryz.func166, Tryz.ntmps166
 go_wp2_with (go_at_call 183; refine (index_any _ _ _).mono ?_; rintro e w' ⟨he, rfl⟩; obtain rfl : e = .returned (.int .i64 x) := he.trans (by rw [HC.out]; exact congrArg (fun q => Ending.returned (.int .i64 q)) HX.out); clear he)
 go_ret
 exact ⟨by rw [← H.out, HX.out]; rfl, rfl⟩
open Go.RowKit
def Srt (k : Nat) (p : UInt8 → Bool) : Prop := (k = 164 ∨ k = 165 ∨ k = 161 ∨ k = 162) ∧
 ∀ (c : UInt8) (w : World), Calls Tryz.prog k #[.int .u8 (c.toNat : Int)] w fun e w' => e = .returned (.bool (p c)) ∧ w = w'
theorem sort_in : Srt 164 wIn := ⟨.inl rfl, inName_any⟩
theorem sort_digit : Srt 165 wNum := ⟨.inr (.inl rfl), digit_any⟩
theorem sort_blank : Srt 161 wBlank := ⟨.inr (.inr (.inl rfl)), blank_any⟩
theorem sort_line : Srt 162 wLine := ⟨.inr (.inr (.inr rfl)), inLine_any⟩
theorem past_any {k : Nat} {p : UInt8 → Bool} (hk : Srt k p) (s : ByteArray) (l : List UInt8) (a : Nat) (w : World) (hs : Tx s l) (hl : l.length ≤ 140737488355328) (ha : a ≤ l.length) :
  Calls Tryz.prog 160 #[.string s, .int .i64 (a : Int), .func (.func k) #[] #[]] w fun e w' => e = .returned (.int .i64 ((a + wRun p l a : Nat) : Int)) ∧ w = w' := by
 obtain ⟨n, hn⟩ : ∃ n, l.length = n := ⟨_, rfl⟩
 have hsz : s.size = n := hs.size.trans hn
 obtain ⟨E, hE⟩ : ∃ E, E = a + wRun p l a := ⟨_, rfl⟩
 have HE := hid hE
 rw [← hE]
 clear hE
 rw [hn] at ha hl
 have HN := hid hn
 clear hn
 obtain ⟨hk, hp⟩ := hk
 rcases hk with rfl | rfl | rfl | rfl
 all_goals
  go_enter Tryz.func160, Tryz.ntmps160
  go_wp2
  go_loopw [1] (fun i wr => ∃ j : Nat, j ≤ n ∧ i = .int .i64 (j : Int) ∧ Hid (j + wRun p l j = E) ∧ w = wr) (fun i _ => (n - intOf i).toNat)
  case atStart => exact ⟨a, by omega, rfl, hid HE.out.symm, rfl⟩
  case round =>
   obtain ⟨j, hj, rfl, HJ, rfl⟩ := hrel
   by_cases hjn : j < n
   ·obtain ⟨c, hc⟩ : ∃ c, l[j]? = some c := ⟨l[j]'(by have := HN.out; omega), List.getElem?_eq_getElem (by have := HN.out; omega)⟩
    have hcj := hs.at_ hc
    have hc256 := c.toNat_lt
    have HC := hid hc
    clear hc
    have hjni : (j : Int) < n := by omega
    cases hpc : p c with
    | true =>
     have HP := hid hpc
     clear hpc
     go_wp2_with (first | (go_at_call 164; refine (hp c _).mono ?_; rintro e w' ⟨rfl, rfl⟩; rw [HP.out]) | (go_at_call 165; refine (hp c _).mono ?_; rintro e w' ⟨rfl, rfl⟩; rw [HP.out]) | (go_at_call 161; refine (hp c _).mono ?_; rintro e w' ⟨rfl, rfl⟩; rw [HP.out]) | (go_at_call 162; refine (hp c _).mono ?_; rintro e w' ⟨rfl, rfl⟩; rw [HP.out]))
     refine ⟨⟨j + 1, by omega, by go_num, hid (by have := HJ.out; rw [wRun_in HC.out HP.out] at this; omega), trivial⟩, ?_⟩
     simp [intOf]; omega
    | false =>
     have HP := hid hpc
     clear hpc
     have hEj : E = j := by have := HJ.out; rw [wRun_out HC.out HP.out] at this; omega
     have HEj := hid hEj
     clear hEj
     go_wp2_with (first | (go_at_call 164; refine (hp c _).mono ?_; rintro e w' ⟨rfl, rfl⟩; rw [HP.out]) | (go_at_call 165; refine (hp c _).mono ?_; rintro e w' ⟨rfl, rfl⟩; rw [HP.out]) | (go_at_call 161; refine (hp c _).mono ?_; rintro e w' ⟨rfl, rfl⟩; rw [HP.out]) | (go_at_call 162; refine (hp c _).mono ?_; rintro e w' ⟨rfl, rfl⟩; rw [HP.out]))
     go_ret
     exact ⟨by rw [HEj.out]; rfl, rfl⟩
   ·obtain rfl : j = n := by omega
    have hEj : E = j := by have := HJ.out; rw [wRun_end (by have := HN.out; omega)] at this; omega
    have HEj := hid hEj
    clear hEj
    go_wp2_with fail
    go_ret
    exact ⟨by rw [HEj.out]; rfl, rfl⟩
open Go.RowKit
def wWhole (p q : UInt8 → Bool) (l : List UInt8) : Bool := match l with
 | [] => false
 | c :: r => p c && r.all q
theorem tw_all {q : UInt8 → Bool} : ∀ r : List UInt8, r.all q = true → r.takeWhile q = r
 | [], _ => rfl
 | c :: r, h => by
  rw [List.all_cons, Bool.and_eq_true] at h
  rw [List.takeWhile_cons, h.1, if_pos rfl, tw_all r h.2]
theorem run_all {q : UInt8 → Bool} (c : UInt8) (r : List UInt8) : 1 + wRun q (c :: r) 1 = (c :: r).length ↔ r.all q = true := by
 unfold wRun
 rw [List.drop_succ_cons, List.drop_zero, List.length_cons]
 constructor
 ·intro h
  have hl : (r.takeWhile q).length = r.length := by omega
  have := List.takeWhile_prefix q (l := r)
  have he := this.eq_of_length hl
  rw [← he]
  exact List.all_takeWhile
 ·intro h
  rw [tw_all r h]
  omega
def Fst_ (k : Nat) (p : UInt8 → Bool) : Prop := (k = 163 ∨ k = 165) ∧
 ∀ (c : UInt8) (w : World), Calls Tryz.prog k #[.int .u8 (c.toNat : Int)] w fun e w' => e = .returned (.bool (p c)) ∧ w = w'
theorem whole_any {k m : Nat} {p q : UInt8 → Bool} (hk : Fst_ k p) (hm : Srt m q) (s : ByteArray) (l : List UInt8) (w : World) (hs : Tx s l) (hl : l.length ≤ 140737488355328) :
  Calls Tryz.prog 169 #[.string s, .func (.func k) #[] #[], .func (.func m) #[] #[]] w fun e w' => e = .returned (.bool (wWhole p q l)) ∧ w = w' := by
 have hli := hs.list
 cases l with
 | nil =>
  have h1 : s.toList = [] := hli
  obtain rfl : s = ⟨#[]⟩ := hs
  clear hli h1
  go_enter Tryz.func169, Tryz.ntmps169
  go_wp2_with fail
  go_ret
  exact ⟨rfl, rfl⟩
 | cons c r =>
  obtain ⟨l, hl2⟩ : ∃ l, l = c :: r := ⟨_, rfl⟩
  have e0 : s.toList.isEmpty = false := by rw [hli]; rfl
  have e1 : ¬ s.toList = [] := by rw [hli]; simp
  have hc0 := hs.at_ (i := 0) (c := c) rfl
  have hR := run_all (q := q) c r
  have hW : wWhole p q (c :: r) = (p c && r.all q) := rfl
  rw [← hl2] at hs hl hR hW
  rw [← hl2]
  obtain ⟨n, hn⟩ : ∃ n, l.length = n := ⟨_, rfl⟩
  have hsz : s.size = n := hs.size.trans hn
  have hn1 : 1 ≤ n := by rw [← hn, hl2]; simp
  have HL := hid hl
  have H1 := hid (show 1 ≤ l.length by omega)
  rw [hn] at hl
  obtain ⟨v, hv⟩ : ∃ v, v = 1 + wRun q l 1 := ⟨_, rfl⟩
  rw [← hv, hn] at hR
  have HV := hid hv
  have HR := hid hR
  have HW := hid hW
  clear hv hR hW hli hl2 hn
  obtain ⟨hk, hp⟩ := hk
  cases hpc : p c with
  | false =>
   have HP := hid hpc
   clear hpc
   rcases hk with rfl | rfl
   all_goals
    go_enter Tryz.func169, Tryz.ntmps169
    go_wp2_with (first
     | (go_at_call 163; refine (hp c _).mono ?_; rintro e w' ⟨rfl, rfl⟩; rw [HP.out])
     | (go_at_call 165; refine (hp c _).mono ?_; rintro e w' ⟨rfl, rfl⟩; rw [HP.out]))
    go_ret
    exact ⟨by rw [HW.out, HP.out]; rfl, rfl⟩
  | true =>
   have HP := hid hpc
   clear hpc
   have hvn : ((v : Int) == (n : Int)) = r.all q := by
    cases ha : r.all q with
    | true => rw [HR.out.2 ha]; simp
    | false =>
     refine beq_no fun e => ?_
     rw [HR.out.1 e] at ha
     cases ha
   have HVN := hid hvn
   clear hvn
   rcases hk with rfl | rfl
   all_goals
    go_enter Tryz.func169, Tryz.ntmps169
    go_wp2_with (first
     | (go_at_call 163; refine (hp c _).mono ?_; rintro e w' ⟨rfl, rfl⟩; rw [HP.out])
     | (go_at_call 165; refine (hp c _).mono ?_; rintro e w' ⟨rfl, rfl⟩; rw [HP.out])
     | (go_at_call 160; refine (past_any hm s l 1 _ hs HL.out H1.out).mono ?_; rintro e w' ⟨rfl, rfl⟩; rw [← HV.out]))
    go_ret
    exact ⟨by rw [HW.out, HP.out, ← HVN.out]; rfl, rfl⟩
theorem fst_letter : Fst_ 163 wLow := ⟨.inl rfl, letter_any⟩
theorem fst_digit : Fst_ 165 wNum := ⟨.inr rfl, digit_any⟩
theorem name_any (s : ByteArray) (l : List UInt8) (w : World) (hs : Tx s l) (hl : l.length ≤ 140737488355328) :
  Calls Tryz.prog 144 #[.string s] w fun e w' => e = .returned (.bool (wName l)) ∧ Turn w w' none := by
 obtain ⟨n, hn⟩ : ∃ n, l.length = n := ⟨_, rfl⟩
 have hsz : s.size = n := hs.size.trans hn
 have HL := hid hl
 by_cases h40 : n ≤ 40
 ·have h : wWhole wLow wIn l = wName l := by
   cases l with
   | nil => rfl
   | cons c r =>
    rw [List.length_cons] at hn
    have : decide (r.length ≤ 39) = true := decide_eq_true (by omega)
    simp [wWhole, wName, this]
  have h40i : (n : Int) ≤ 40 := by omega
  have H := hid h
  clear h hn
  go_enter Tryz.func144, Tryz.ntmps144
  go_wp2_with (go_at_call 169; refine (whole_any fst_letter sort_in s l _ hs HL.out).mono ?_; rintro e w' ⟨rfl, rfl⟩; rw [H.out])
  go_ret
  exact ⟨rfl, Turn.refl _ _⟩
 ·have h40i : (40 : Int) < n := by omega
  have H := hid (wName_long (l := l) (by omega))
  clear hn
  go_enter Tryz.func144, Tryz.ntmps144
  go_wp2_with fail
  go_ret
  exact ⟨by rw [H.out]; rfl, Turn.refl _ _⟩
theorem number_any (s : ByteArray) (l : List UInt8) (w : World) (hs : Tx s l) (hl : l.length ≤ 140737488355328) :
  Calls Tryz.prog 185 #[.string s] w (NmPost l w) := by
 obtain ⟨n, hn⟩ : ∃ n, l.length = n := ⟨_, rfl⟩
 have hsz : s.size = n := hs.size.trans hn
 have HL := hid hl
 rw [hn] at hl
 have HN := hid hn
 have hW : wWhole wNum wNum l = (!l.isEmpty && l.all wNum) := by
  cases l with
  | nil => rfl
  | cons c r => simp [wWhole]
 clear hn
 cases hb : wWhole wNum wNum l with
 | false =>
  have HB := hid hb
  have HO := hid (show wOk l = false by unfold wOk; rw [← hW, hb]; rfl)
  clear hb hW
  go_enter Tryz.func185, Tryz.ntmps185
  go_wp2_with (go_at_call 169; refine (whole_any fst_digit sort_digit s l _ hs HL.out).mono ?_; rintro e w' ⟨rfl, rfl⟩; rw [HB.out])
  go_ret2
  exact nm_no HO.out
 | true =>
  rw [hb] at hW
  have hall : l.all wNum = true := by
   cases h : l.all wNum with
   | true => rfl
   | false => rw [h] at hW; simp at hW
  have hne : l ≠ [] := by rintro rfl; simp at hW
  have HB := hid hb
  have HALL := hid hall
  have HNE := hid hne
  clear hb hW hall hne
  have hn0 : 1 ≤ n := by
   have h0 := HNE.out
   have h1 := HN.out
   cases l with
   | nil => exact absurd rfl h0
   | cons c r => rw [List.length_cons] at h1; omega
  obtain ⟨c, hc⟩ : ∃ c, l[0]? = some c := ⟨l[0]'(by have := HN.out; omega), List.getElem?_eq_getElem (by have := HN.out; omega)⟩
  have hcj := hs.at_ hc
  have HC := hid hc
  clear hc
  -- the loop, whatever the nought's test came to
  by_cases hz : 1 < n ∧ c.toNat = 48
  ·obtain ⟨hz1, hz2⟩ := hz
   have hz1i : (1 : Int) < n := by omega
   have e48 : ((c.toNat : Int) == 48) = true := by rw [hz2]; rfl
   have HO := hid (wOk_nought (l := l) (by rw [HC.out]; congr 1; exact UInt8.toNat_inj.1 hz2) (by have := HN.out; omega))
   clear hz2
   go_enter Tryz.func185, Tryz.ntmps185
   go_wp2_with (go_at_call 169; refine (whole_any fst_digit sort_digit s l _ hs HL.out).mono ?_; rintro e w' ⟨rfl, rfl⟩; rw [HB.out])
   go_ret2
   exact nm_no HO.out
  ·have hh : l.length ≤ 1 ∨ l[0]? ≠ some 48 := by
    rcases Nat.lt_or_ge 1 n with h | h
    ·refine .inr fun e => hz ⟨h, ?_⟩
     rw [HC.out] at e
     injection e with e
     rw [e]
     rfl
    ·exact .inl (by have := HN.out; omega)
   have hzb : (n : Int) ≤ 1 ∨ ((1 : Int) < n ∧ ((c.toNat : Int) == 48) = false) := by
    rcases Nat.lt_or_ge 1 n with h | h
    ·exact .inr ⟨by omega, beq_no fun e => hz ⟨h, e⟩⟩
    ·exact .inl (by omega)
   have HH := hid hh
   clear hh hz
   rcases hzb with hz1 | ⟨hz1, hz2⟩
   all_goals
    go_enter Tryz.func185, Tryz.ntmps185
    go_wp2_with (go_at_call 169; refine (whole_any fst_digit sort_digit s l _ hs HL.out).mono ?_; rintro e w' ⟨rfl, rfl⟩; rw [HB.out])
    go_loopw [4, 21] (fun v i wr => ∃ j m : Nat, j ≤ n ∧ i = .int .i64 (j : Int) ∧ v = .int .i64 (m : Int) ∧ Hid (wNumAt (l.take j) = m) ∧ m ≤ 4096 ∧ w = wr) (fun _ i _ => (n - intOf i).toNat)
    case atStart => exact ⟨0, 0, by omega, rfl, rfl, hid rfl, by omega, rfl⟩
    case round =>
     obtain ⟨j, m, hj, rfl, rfl, HM, hm, rfl⟩ := hrel
     by_cases hjn : j < n
     ·obtain ⟨d, hd⟩ : ∃ d, l[j]? = some d := ⟨l[j]'(by have := HN.out; omega), List.getElem?_eq_getElem (by have := HN.out; omega)⟩
      have hdj := hs.at_ hd
      have hd2 : wNum d = true := by
       have := List.all_eq_true.1 HALL.out d (List.mem_of_getElem? hd)
       exact this
      unfold wNum at hd2
      rw [decide_eq_true_iff] at hd2
      have hd48 : (48 : Int) ≤ d.toNat := by omega
      have hd57 : (d.toNat : Int) ≤ 57 := by omega
      have HD := hid hd
      clear hd hd2
      have hjni : (j : Int) < n := by omega
      obtain ⟨m2, hm2⟩ : ∃ m2, m2 = m * 10 + (d.toNat - 48) := ⟨_, rfl⟩
      have hm2i : (m : Int) * 10 + ((d.toNat : Int) - 48) = m2 := by omega
      have HM2 := hid (show wNumAt (l.take (j + 1)) = m2 by rw [wNumAt_next HD.out, HM.out, hm2])
      by_cases h4 : 4096 < m2
      ·have h4i : (4096 : Int) < m2 := by omega
       have HO := hid (wOk_great (l := l) (j := j + 1) (by rw [HM2.out]; exact h4))
       clear hm2
       go_wp2_with fail
       go_ret2
       exact nm_no HO.out
      ·have h4i : (m2 : Int) ≤ 4096 := by omega
       clear hm2
       go_wp2_with fail
       refine ⟨⟨j + 1, m2, by omega, by go_num, by go_num, HM2, by omega, trivial⟩, ?_⟩
       simp [intOf]; omega
     ·obtain rfl : j = n := by omega
      have HO := hid (wOk_yes (l := l) HNE.out HALL.out HH.out (by have := HM.out; rw [List.take_of_length_le (by have := HN.out; omega)] at this; omega))
      have HV := hid (show wNumAt l = m by have := HM.out; rwa [List.take_of_length_le (by have := HN.out; omega)] at this)
      go_wp2_with fail
      go_ret2
      exact ⟨by rw [HO.out, HV.out]; rfl, rfl⟩
end Go.Proofs.YtgigiecdpjchkaaGreatDoor
