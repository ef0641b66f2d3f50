/-
  Layer 6, its pure side: the words of a text as a list of bytes; that their places rise, and what a line feed ahead of one of them does.
-/
import Derived.Test.YtkljkiambjlnaaaMem
namespace Go.Proofs.Ytkljkiambjlnaaa

def wLow (c : UInt8) : Bool := decide (97 ≤ c.toNat ∧ c.toNat ≤ 122)
def wNum (c : UInt8) : Bool := decide (48 ≤ c.toNat ∧ c.toNat ≤ 57)
def wIn (c : UInt8) : Bool := wLow c || wNum c || decide (c.toNat = 95)
def wSign (c : UInt8) : Bool := [40, 41, 91, 93, 123, 125, 60, 62, 124, 58, 59, 44, 63].contains c.toNat
def wBlank (c : UInt8) : Bool := decide (c.toNat = 32 ∨ c.toNat = 9 ∨ c.toNat = 10 ∨ c.toNat = 13)
/-- Whether a remark goes on behind a byte. -/
def wNote (note : Bool) (c : UInt8) : Bool := if c.toNat = 10 then false else if c.toNat = 35 then true else note
/-- A byte that is passed over. -/
def wPass (note : Bool) (c : UInt8) : Bool := wNote note c || wBlank c
def wSkip : Bool → List UInt8 → Nat
  | _, [] => 0
  | note, c :: r => if wPass note c then wSkip (wNote note c) r + 1 else 0
/-- How many bytes of r are the token's that c begins. -/
def wMore (c : UInt8) (r : List UInt8) : Nat := if wLow c then (r.takeWhile wIn).length else if wNum c then (r.takeWhile wNum).length else 0
/-- Whether c begins a token, and of which kind. -/
def wBegins (c : UInt8) : Bool := wLow c || wNum c || wSign c
def wKind (c : UInt8) : Nat := if wLow c then 0 else if wNum c then 1 else 2
structure Tok where
  k : Nat
  s : List UInt8
  at_ : Nat
/-- The tokens from place 'at_' on, n of them are there already; else the place and the error. -/
def wGo : Nat → Nat → Nat → List UInt8 → Except (Nat × Nat) (List Tok)
  | 0, _, _, _ => .error (0, 0)
  | f + 1, n, at_, l =>
    match l.drop (wSkip false l) with
    | [] => if n = 1500 then .error (4096, 2) else .ok [⟨3, [], at_ + wSkip false l⟩]
    | c :: r =>
      if wBegins c then
        if n = 1500 then .error (4096, 2)
        else match wGo f (n + 1) (at_ + wSkip false l + 1 + wMore c r) (r.drop (wMore c r)) with
          | .ok ts => .ok (⟨wKind c, c :: r.take (wMore c r), at_ + wSkip false l⟩ :: ts)
          | .error e => .error e
      else .error (at_ + wSkip false l, 4)
def wWords (l : List UInt8) : Except (Nat × Nat) (List Tok) := if 4096 < l.length then .error (0, 2) else wGo (l.length + 1) 0 0 l

theorem wSkip_le : ∀ (note : Bool) (l : List UInt8), wSkip note l ≤ l.length
  | _, [] => Nat.le_refl _
  | note, c :: r => by
    unfold wSkip
    split
    · have := wSkip_le (wNote note c) r
      rw [List.length_cons]; omega
    · omega
theorem wMore_le (c : UInt8) (r : List UInt8) : wMore c r ≤ r.length := by
  have h (p : UInt8 → Bool) : (r.takeWhile p).length ≤ r.length := (List.takeWhile_sublist p).length_le
  unfold wMore
  split
  · exact h _
  split
  · exact h _
  · omega
/-- The state behind bytes that are all passed over. -/
def wState : Bool → List UInt8 → Bool
  | note, [] => note
  | note, c :: r => wState (wNote note c) r
def wAll : Bool → List UInt8 → Bool
  | _, [] => true
  | note, c :: r => wPass note c && wAll (wNote note c) r
theorem wSkip_app : ∀ (note : Bool) (p q : List UInt8), wAll note p = true → wSkip note (p ++ q) = p.length + wSkip (wState note p) q
  | _, [], q, _ => by simp [wState]
  | note, c :: p, q, h => by
    simp only [wAll, Bool.and_eq_true] at h
    rw [List.cons_append, wSkip, if_pos h.1, wSkip_app _ p q h.2, wState, List.length_cons]
    omega
theorem wAll_take : ∀ (note : Bool) (l : List UInt8), wAll note (l.take (wSkip note l)) = true
  | _, [] => rfl
  | note, c :: r => by
    unfold wSkip
    split
    · rename_i h
      rw [List.take_succ_cons, wAll, h, wAll_take]
      rfl
    · rfl
/-- A line feed is passed over, whatever was ahead of it. -/
theorem wSkip_lf (note : Bool) (q : List UInt8) : wSkip note (10 :: q) = wSkip false q + 1 := by
  have h1 : wNote note 10 = false := by unfold wNote; rfl
  have h2 : wPass note 10 = true := by unfold wPass; rw [h1]; rfl
  rw [wSkip, if_pos h2, h1]
/-- What stands where the skipping stops. -/
theorem wSkip_stop : ∀ (note : Bool) (l : List UInt8) (c : UInt8) (r : List UInt8), l.drop (wSkip note l) = c :: r → wPass false c = false
  | _, [], c, r, h => by simp at h
  | note, d :: l, c, r, h => by
    unfold wSkip at h
    split at h
    · rw [List.drop_succ_cons] at h
      exact wSkip_stop _ l c r h
    · rename_i hp
      rw [List.drop_zero] at h
      injection h with h1 h2
      subst h1
      have : wPass note d = false := by simpa using hp
      unfold wPass wNote at this ⊢
      simp only [Bool.or_eq_false_iff] at this ⊢
      refine ⟨?_, this.2⟩
      by_cases a : d.toNat = 10
      · rw [if_pos a]
      · rw [if_neg a] at this ⊢
        by_cases b : d.toNat = 35
        · rw [if_pos b] at this; exact absurd this.1 (by simp)
        · rw [if_neg b]
theorem wSkip_here {c : UInt8} {r : List UInt8} (h : wPass false c = false) : wSkip false (c :: r) = 0 := by
  unfold wSkip; rw [if_neg (by rw [h]; simp)]

/-! ### Fuel, shifts -/
theorem wGo_ok : ∀ (f g n at_ : Nat) (l : List UInt8) (ts : List Tok), wGo f n at_ l = .ok ts → l.length < g → wGo g n at_ l = .ok ts
  | 0, _, _, _, _, _, h, _ => by simp [wGo] at h
  | _ + 1, 0, _, _, _, _, _, h => by omega
  | f + 1, g + 1, n, at_, l, ts, h, h2 => by
    unfold wGo at h ⊢
    have hs := wSkip_le false l
    cases hd : l.drop (wSkip false l) with
    | nil =>
      rw [hd] at h
      exact h
    | cons c r =>
      rw [hd] at h
      simp only at h ⊢
      have hl : r.length + 1 = l.length - wSkip false l := by rw [← List.length_drop, hd]; rfl
      have hm := wMore_le c r
      have hr : (r.drop (wMore c r)).length = r.length - wMore c r := List.length_drop
      split at h
      · rename_i hb
        rw [if_pos hb]
        split at h
        · cases h
        · rename_i hn
          rw [if_neg hn]
          cases hg : wGo f (n + 1) (at_ + wSkip false l + 1 + wMore c r) (r.drop (wMore c r)) with
          | error e => rw [hg] at h; cases h
          | ok us =>
            rw [hg] at h
            rw [wGo_ok f g (n + 1) _ (r.drop (wMore c r)) us hg (by omega)]
            exact h
      · cases h
def Tok.up (t : Tok) : Tok := ⟨t.k, t.s, t.at_ + 1⟩
theorem wGo_up : ∀ (f n at_ : Nat) (l : List UInt8) (ts : List Tok), wGo f n at_ l = .ok ts → wGo f n (at_ + 1) l = .ok (ts.map Tok.up)
  | 0, _, _, _, _, h => by simp [wGo] at h
  | f + 1, n, at_, l, ts, h => by
    unfold wGo at h ⊢
    cases hd : l.drop (wSkip false l) with
    | nil =>
      rw [hd] at h
      simp only at h ⊢
      split at h
      · cases h
      · rename_i hn
        injection h with h
        subst h
        rw [if_neg hn]
        simp [Tok.up]
        omega
    | cons c r =>
      rw [hd] at h
      simp only at h ⊢
      split at h
      · rename_i hb
        split at h
        · cases h
        · rename_i hn
          rw [if_pos hb, if_neg hn]
          cases hg : wGo f (n + 1) (at_ + wSkip false l + 1 + wMore c r) (r.drop (wMore c r)) with
          | error e => rw [hg] at h; cases h
          | ok us =>
            rw [hg] at h
            injection h with h
            subst h
            have := wGo_up f (n + 1) _ _ us hg
            rw [show at_ + wSkip false l + 1 + wMore c r + 1 = at_ + 1 + wSkip false l + 1 + wMore c r by omega] at this
            rw [this]
            simp [Tok.up]
            omega
      · cases h

/-! ### What a word takes -/
theorem takeWhile_same {p : UInt8 → Bool} : ∀ (r q : List UInt8), (∀ d q', q = d :: q' → p d = false) → ((r.take (r.takeWhile p).length) ++ q).takeWhile p = r.takeWhile p
  | [], q, h => by
    cases q with
    | nil => rfl
    | cons d q' => simp [List.takeWhile, h d q' rfl]
  | c :: r, q, h => by
    by_cases hc : p c = true
    · simp only [List.takeWhile_cons, hc, if_true, List.length_cons, List.take_succ_cons, List.cons_append, takeWhile_same r q h]
    · have hc' : p c = false := by simpa using hc
      simp only [List.takeWhile_cons, hc']
      cases q with
      | nil => rfl
      | cons d q' => simp [h d q' rfl]
theorem takeWhile_next {p : UInt8 → Bool} : ∀ (r : List UInt8) (d : UInt8) (q : List UInt8), r.drop (r.takeWhile p).length = d :: q → p d = false
  | [], d, q, h => by simp at h
  | c :: r, d, q, h => by
    by_cases hc : p c = true
    · simp only [List.takeWhile_cons, hc, if_true, List.length_cons, List.drop_succ_cons] at h
      exact takeWhile_next r d q h
    · have hc' : p c = false := by simpa using hc
      simp only [List.takeWhile_cons, hc', Bool.false_eq_true, if_false, List.length_nil, List.drop_zero] at h
      injection h with h1 _
      subst h1
      exact hc'
/-- Behind a word's bytes other bytes may stand, if they begin as before, or with a line feed. -/
theorem wMore_same (c : UInt8) (r q : List UInt8) (h : ∀ d q', q = d :: q' → d = 10 ∨ ∃ q2, r.drop (wMore c r) = d :: q2) : wMore c (r.take (wMore c r) ++ q) = wMore c r := by
  unfold wMore at h ⊢
  split
  · rename_i hc
    rw [if_pos hc] at h
    rw [takeWhile_same r q fun d q' e => ?_]
    rcases h d q' e with rfl | ⟨q2, h2⟩
    · rfl
    · exact takeWhile_next r d q2 h2
  · rename_i hc
    rw [if_neg hc] at h
    split
    · rename_i hc2
      rw [if_pos hc2] at h
      rw [takeWhile_same r q fun d q' e => ?_]
      rcases h d q' e with rfl | ⟨q2, h2⟩
      · rfl
      · exact takeWhile_next r d q2 h2
    · rfl
theorem wSkip_head {note : Bool} {c : UInt8} {r r' : List UInt8} (h : wSkip note (c :: r) = 0) : wSkip note (c :: r') = 0 := by
  unfold wSkip at h ⊢
  split at h
  · omega
  · rename_i hp
    rw [if_neg hp]

/-- (P6.4) A line feed ahead of token k. -/
theorem wGo_lf : ∀ (f n at_ : Nat) (l : List UInt8) (ts : List Tok), wGo f n at_ l = .ok ts → ∀ (k : Nat) (t : Tok), ts[k]? = some t → at_ ≤ t.at_ ∧ t.at_ ≤ at_ + l.length ∧
    ∀ g, l.length + 1 < g → wGo g n at_ (l.take (t.at_ - at_) ++ 10 :: l.drop (t.at_ - at_)) = .ok (ts.take k ++ (ts.drop k).map Tok.up)
  | 0, _, _, _, _, h => by simp [wGo] at h
  | f + 1, n, at_, l, ts, h => by
    intro k t hk
    have hs := wSkip_le false l
    have hall := wAll_take false l
    have hl : l = l.take (wSkip false l) ++ l.drop (wSkip false l) := (List.take_append_drop _ _).symm
    have hpl : (l.take (wSkip false l)).length = wSkip false l := by rw [List.length_take]; omega
    -- the first token
    have first : ∀ t0 : Tok, t0.at_ = at_ + wSkip false l → at_ ≤ t0.at_ ∧ t0.at_ ≤ at_ + l.length ∧
        ∀ g, l.length + 1 < g → wGo g n at_ (l.take (t0.at_ - at_) ++ 10 :: l.drop (t0.at_ - at_)) = .ok (ts.map Tok.up) := by
      intro t0 h0
      refine ⟨by omega, by omega, fun g hg => ?_⟩
      obtain ⟨g', rfl⟩ : ∃ g', g = g' + 1 := ⟨g - 1, by omega⟩
      have e0 : t0.at_ - at_ = wSkip false l := by omega
      rw [e0]
      have hz : wSkip false (l.drop (wSkip false l)) = 0 := by
        cases hd : l.drop (wSkip false l) with
        | nil => rfl
        | cons c r => exact wSkip_here (wSkip_stop false l c r hd)
      have e1 : wSkip false (l.take (wSkip false l) ++ 10 :: l.drop (wSkip false l)) = wSkip false l + 1 := by
        rw [wSkip_app _ _ _ hall, wSkip_lf, hz, hpl]
      have e2 : (l.take (wSkip false l) ++ 10 :: l.drop (wSkip false l)).drop (wSkip false l + 1) = l.drop (wSkip false l) := by
        rw [List.drop_append, hpl, List.drop_of_length_le (by rw [hpl]; omega)]
        simp
      have h2 := wGo_up (f + 1) n at_ l ts h
      have h2 := wGo_ok (f + 1) (g' + 1) n _ l _ h2 (by omega)
      rw [← h2]
      conv => lhs; unfold wGo
      conv => rhs; unfold wGo
      rw [e1, e2, show at_ + (wSkip false l + 1) = at_ + 1 + wSkip false l by omega]
    unfold wGo at h
    cases hd : l.drop (wSkip false l) with
    | nil =>
      rw [hd] at h
      simp only at h
      split at h
      · cases h
      · injection h with h
        subst h
        cases k with
        | zero =>
          obtain rfl : (⟨3, [], at_ + wSkip false l⟩ : Tok) = t := by simpa using hk
          exact first _ rfl
        | succ k => simp at hk
    | cons c r =>
      rw [hd] at h
      simp only at h
      have hl1 : r.length + 1 = l.length - wSkip false l := by rw [← List.length_drop, hd]; rfl
      have hm := wMore_le c r
      have hr : (r.drop (wMore c r)).length = r.length - wMore c r := List.length_drop
      split at h
      · rename_i hb
        split at h
        · cases h
        · rename_i hn
          cases hg : wGo f (n + 1) (at_ + wSkip false l + 1 + wMore c r) (r.drop (wMore c r)) with
          | error e => rw [hg] at h; cases h
          | ok us =>
            rw [hg] at h
            injection h with h
            cases k with
            | zero =>
              subst h
              obtain rfl : (⟨wKind c, c :: r.take (wMore c r), at_ + wSkip false l⟩ : Tok) = t := by simpa using hk
              exact first _ rfl
            | succ k =>
              clear first
              subst h
              have hk' : us[k]? = some t := by simpa using hk
              obtain ⟨i1, i2, i3⟩ := wGo_lf f (n + 1) _ _ us hg k t hk'
              refine ⟨by omega, by omega, fun g hg2 => ?_⟩
              obtain ⟨g', rfl⟩ : ∃ g', g = g' + 1 := ⟨g - 1, by omega⟩
              obtain ⟨b, hb2⟩ : ∃ b, b = t.at_ - (at_ + wSkip false l + 1 + wMore c r) := ⟨_, rfl⟩
              have ea : t.at_ - at_ = wSkip false l + (1 + (wMore c r + b)) := by omega
              have i4 := i3 g' (by omega)
              rw [← hb2] at i4
              -- the bytes, cut
              have e1 : l.take (t.at_ - at_) ++ 10 :: l.drop (t.at_ - at_) = l.take (wSkip false l) ++ (c :: (r.take (wMore c r) ++ ((r.drop (wMore c r)).take b ++ 10 :: (r.drop (wMore c r)).drop b))) := by
                rw [ea]
                have x1 : l.take (wSkip false l + (1 + (wMore c r + b))) = l.take (wSkip false l) ++ (c :: (r.take (wMore c r) ++ (r.drop (wMore c r)).take b)) := by
                  rw [List.take_add, hd, Nat.add_comm 1, List.take_succ_cons, List.take_add]
                have x2 : l.drop (wSkip false l + (1 + (wMore c r + b))) = (r.drop (wMore c r)).drop b := by
                  rw [← List.drop_drop, hd, Nat.add_comm 1, List.drop_succ_cons, List.drop_drop]
                rw [x1, x2]
                simp
              obtain ⟨q, hq⟩ : ∃ q, q = (r.drop (wMore c r)).take b ++ 10 :: (r.drop (wMore c r)).drop b := ⟨_, rfl⟩
              rw [← hq] at e1 i4
              have hm2 : wMore c (r.take (wMore c r) ++ q) = wMore c r := wMore_same c r q (fun d q' e => by
                rw [hq] at e
                cases b with
                | zero =>
                  rw [List.take_zero, List.nil_append] at e
                  injection e with e _
                  exact .inl e.symm
                | succ b =>
                  cases hx : r.drop (wMore c r) with
                  | nil =>
                    rw [hx] at e
                    simp at e
                    exact .inl e.1.symm
                  | cons d2 q2 =>
                    rw [hx, List.take_succ_cons, List.cons_append] at e
                    injection e with e _
                    subst e
                    exact .inr ⟨q2, rfl⟩)
              have hz : wSkip (wState false (l.take (wSkip false l))) (c :: r) = 0 := by
                have := wSkip_app false (l.take (wSkip false l)) (c :: r) hall
                rw [← hd, ← hl, hpl] at this
                rw [← hd]
                omega
              have e2 : wSkip false (l.take (wSkip false l) ++ (c :: (r.take (wMore c r) ++ q))) = wSkip false l := by
                rw [wSkip_app _ _ _ hall, wSkip_head hz, hpl, Nat.add_zero]
              have e3 : (l.take (wSkip false l) ++ (c :: (r.take (wMore c r) ++ q))).drop (wSkip false l) = c :: (r.take (wMore c r) ++ q) := by
                rw [List.drop_append_of_le_length (by omega), List.drop_of_length_le (by omega), List.nil_append]
              have e4 : (r.take (wMore c r) ++ q).drop (wMore c r) = q := by
                rw [List.drop_append_of_le_length (by rw [List.length_take]; omega), List.drop_of_length_le (by rw [List.length_take]; omega), List.nil_append]
              have e5 : (r.take (wMore c r) ++ q).take (wMore c r) = r.take (wMore c r) := by
                rw [List.take_append_of_le_length (by rw [List.length_take]; omega), List.take_of_length_le (by rw [List.length_take]; omega)]
              rw [e1]
              unfold wGo
              rw [e2, e3]
              simp only
              rw [if_pos hb, if_neg hn, hm2, e4, e5, i4]
              simp
      · cases h
theorem wWords_lf {l : List UInt8} {ts : List Tok} (h : wWords l = .ok ts) (hl : l.length < 4096) {k : Nat} {t : Tok} (hk : ts[k]? = some t) :
    t.at_ ≤ l.length ∧ wWords (l.take t.at_ ++ 10 :: l.drop t.at_) = .ok (ts.take k ++ (ts.drop k).map Tok.up) := by
  unfold wWords at h ⊢
  rw [if_neg (by omega)] at h
  obtain ⟨h1, h2, h3⟩ := wGo_lf _ 0 0 l ts h k t hk
  have hlen : (l.take t.at_ ++ 10 :: l.drop t.at_).length = l.length + 1 := by
    rw [List.length_append, List.length_take, List.length_cons, List.length_drop]; omega
  refine ⟨by omega, ?_⟩
  rw [hlen, if_neg (by omega)]
  exact h3 (l.length + 1 + 1) (by omega)

theorem wKind_le (c : UInt8) : wKind c ≤ 2 := by unfold wKind; split <;> (try split) <;> omega
/-- (P6.3) Tokens' places rise, and each stands where it says. -/
theorem wGo_ord : ∀ (f n at_ : Nat) (L : List UInt8) (ts : List Tok), at_ ≤ L.length → wGo f n at_ (L.drop at_) = .ok ts → ts ≠ [] ∧ (∀ t, ts[0]? = some t → at_ ≤ t.at_) ∧
    ∀ i t, ts[i]? = some t → t.at_ + t.s.length ≤ L.length ∧ (L.drop t.at_).take t.s.length = t.s ∧ (t.k = 3 ↔ i + 1 = ts.length) ∧ (t.s = [] ↔ t.k = 3) ∧ ∀ u, ts[i + 1]? = some u → t.at_ + t.s.length ≤ u.at_
  | 0, _, _, _, _, _, h => by simp [wGo] at h
  | f + 1, n, at_, L, ts, ha, h => by
    unfold wGo at h
    have hs := wSkip_le false (L.drop at_)
    rw [List.length_drop] at hs
    cases hd : (L.drop at_).drop (wSkip false (L.drop at_)) with
    | nil =>
      rw [hd] at h
      simp only at h
      split at h
      · cases h
      · injection h with h
        subst h
        have hz : L.length - at_ - wSkip false (L.drop at_) = 0 := by
          have := congrArg List.length hd
          rw [List.length_drop, List.length_drop] at this
          simpa using this
        refine ⟨by simp, fun t ht => ?_, fun i t ht => ?_⟩
        · obtain rfl : (⟨3, [], at_ + wSkip false (L.drop at_)⟩ : Tok) = t := by simpa using ht
          exact Nat.le_add_right _ _
        · cases i with
          | succ i => simp at ht
          | zero =>
            obtain rfl : (⟨3, [], at_ + wSkip false (L.drop at_)⟩ : Tok) = t := by simpa using ht
            exact ⟨by simp only [List.length_nil]; omega, by simp, by simp, by simp, by simp⟩
    | cons c r =>
      rw [hd] at h
      simp only at h
      have hl1 : r.length + 1 = L.length - at_ - wSkip false (L.drop at_) := by rw [← List.length_drop, ← List.length_drop, hd]; rfl
      have hm := wMore_le c r
      rw [List.drop_drop] at hd
      obtain ⟨s, hse⟩ : ∃ s, s = wSkip false (L.drop at_) := ⟨_, rfl⟩
      rw [← hse] at hs hd h hl1
      split at h
      · rename_i hb
        split at h
        · cases h
        · have hdd : r.drop (wMore c r) = L.drop (at_ + s + 1 + wMore c r) := by
            have : L.drop (at_ + s + (1 + wMore c r)) = r.drop (wMore c r) := by rw [← List.drop_drop, hd, Nat.add_comm 1, List.drop_succ_cons]
            rw [← this]
            congr 1
            omega
          rw [hdd] at h
          cases hg : wGo f (n + 1) (at_ + s + 1 + wMore c r) (L.drop (at_ + s + 1 + wMore c r)) with
          | error e => rw [hg] at h; cases h
          | ok us =>
            rw [hg] at h
            injection h with h
            subst h
            obtain ⟨h1, h2, h3⟩ := wGo_ord f (n + 1) (at_ + s + 1 + wMore c r) L us (by omega) hg
            have htl : (r.take (wMore c r)).length = wMore c r := by rw [List.length_take]; omega
            refine ⟨by simp, fun t ht => ?_, fun i t ht => ?_⟩
            · obtain rfl : (⟨wKind c, c :: r.take (wMore c r), at_ + s⟩ : Tok) = t := by simpa using ht
              exact Nat.le_add_right _ _
            · cases i with
              | zero =>
                obtain rfl : (⟨wKind c, c :: r.take (wMore c r), at_ + s⟩ : Tok) = t := by simpa using ht
                have hkk := wKind_le c
                have hus : us.length ≠ 0 := fun e => h1 (List.eq_nil_of_length_eq_zero e)
                refine ⟨?_, ?_, ?_, ?_, ?_⟩
                · simp only [List.length_cons, htl]; omega
                · simp only [hd, List.length_cons, htl, List.take_succ_cons]
                · simp only [List.length_cons]; omega
                · simp only [List.cons_ne_nil, false_iff]; omega
                · intro u hu
                  have := h2 u (by simpa using hu)
                  simp only [List.length_cons, htl]; omega
              | succ i =>
                obtain ⟨k1, k2, k3, k4, k5⟩ := h3 i t (by simpa using ht)
                exact ⟨k1, k2, by rw [k3, List.length_cons]; omega, k4, fun u hu => k5 u (by simpa using hu)⟩
      · cases h
theorem wWords_ord {l : List UInt8} {ts : List Tok} (h : wWords l = .ok ts) : l.length ≤ 4096 ∧ ts ≠ [] ∧
    ∀ i t, ts[i]? = some t → t.at_ + t.s.length ≤ l.length ∧ (l.drop t.at_).take t.s.length = t.s ∧ (t.k = 3 ↔ i + 1 = ts.length) ∧ (t.s = [] ↔ t.k = 3) ∧ ∀ u, ts[i + 1]? = some u → t.at_ + t.s.length ≤ u.at_ := by
  unfold wWords at h
  split at h
  · cases h
  · rename_i hl
    have h2 := wGo_ord (l.length + 1) 0 0 l ts (Nat.zero_le _) (by rw [List.drop_zero]; exact h)
    exact ⟨by omega, h2.1, h2.2.2⟩
theorem wGo_few : ∀ (f n at_ : Nat) (l : List UInt8) (ts : List Tok), wGo f n at_ l = .ok ts → n ≤ 1500 → n + ts.length ≤ 1500
  | 0, _, _, _, _, h, _ => by simp [wGo] at h
  | f + 1, n, at_, l, ts, h, hn => by
    unfold wGo at h
    cases hd : l.drop (wSkip false l) with
    | nil =>
      rw [hd] at h
      simp only at h
      split at h
      · cases h
      · injection h with h
        subst h
        simp only [List.length_singleton]
        omega
    | cons c r =>
      rw [hd] at h
      simp only at h
      split at h
      · split at h
        · cases h
        · cases hg : wGo f (n + 1) (at_ + wSkip false l + 1 + wMore c r) (r.drop (wMore c r)) with
          | error e => rw [hg] at h; cases h
          | ok us =>
            rw [hg] at h
            injection h with h
            subst h
            have := wGo_few f (n + 1) _ _ us hg (by omega)
            rw [List.length_cons]; omega
      · cases h
end Go.Proofs.Ytkljkiambjlnaaa
