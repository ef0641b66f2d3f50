/-
  Layer 6, its pure side: words step by step, as a loop over a text finds them.
-/
import Derived.Test.YtkljkiambjlnaaaLexP
namespace Go.Proofs.Ytkljkiambjlnaaa

theorem drop_at {l : List UInt8} {a : Nat} {c : UInt8} (h : l[a]? = some c) : l.drop a = c :: l.drop (a + 1) := by
  obtain ⟨ha, rfl⟩ := List.getElem?_eq_some_iff.1 h
  exact List.drop_eq_getElem_cons ha
/-- How many bytes from a on are such. -/
def wRun (p : UInt8 → Bool) (l : List UInt8) (a : Nat) : Nat := ((l.drop a).takeWhile p).length
theorem wRun_in {p : UInt8 → Bool} {l : List UInt8} {a : Nat} {c : UInt8} (h : l[a]? = some c) (hp : p c = true) : wRun p l a = wRun p l (a + 1) + 1 := by
  unfold wRun; rw [drop_at h, List.takeWhile_cons, if_pos hp, List.length_cons]
theorem wRun_out {p : UInt8 → Bool} {l : List UInt8} {a : Nat} {c : UInt8} (h : l[a]? = some c) (hp : p c = false) : wRun p l a = 0 := by
  unfold wRun; rw [drop_at h, List.takeWhile_cons, hp]; rfl
theorem wRun_end {p : UInt8 → Bool} {l : List UInt8} {a : Nat} (h : l.length ≤ a) : wRun p l a = 0 := by
  unfold wRun; rw [List.drop_of_length_le h]; rfl
theorem wRun_le (p : UInt8 → Bool) (l : List UInt8) (a : Nat) : wRun p l a ≤ l.length - a := by
  unfold wRun
  have := (List.takeWhile_sublist p (l := l.drop a)).length_le
  rwa [List.length_drop] at this
/-- How many bytes from a on are passed over; 'note': in a remark. -/
def wOver (note : Bool) (l : List UInt8) (a : Nat) : Nat := wSkip note (l.drop a)
theorem wOver_in {note : Bool} {l : List UInt8} {a : Nat} {c : UInt8} (h : l[a]? = some c) (hp : wPass note c = true) : wOver note l a = wOver (wNote note c) l (a + 1) + 1 := by
  unfold wOver; rw [drop_at h, wSkip, if_pos hp]
theorem wOver_out {note : Bool} {l : List UInt8} {a : Nat} {c : UInt8} (h : l[a]? = some c) (hp : wPass note c = false) : wOver note l a = 0 := by
  unfold wOver; rw [drop_at h, wSkip, hp]; rfl
theorem wOver_end {note : Bool} {l : List UInt8} {a : Nat} (h : l.length ≤ a) : wOver note l a = 0 := by
  unfold wOver; rw [List.drop_of_length_le h]; rfl
theorem wOver_le (note : Bool) (l : List UInt8) (a : Nat) : wOver note l a ≤ l.length - a := by
  unfold wOver
  have := wSkip_le note (l.drop a)
  rwa [List.length_drop] at this
/-- A blank, a line feed, a remark's sign and what is in it. -/
theorem pass_blank {note : Bool} {c : UInt8} (h : wBlank c = true) : wPass note c = true := by unfold wPass; rw [h, Bool.or_true]
theorem note_blank {c : UInt8} (h : c.toNat ≠ 35) : wNote false c = false := by unfold wNote; split <;> rfl
theorem pass_sign {c : UInt8} (h : c.toNat = 35) : wPass false c = true ∧ wNote false c = true := by
  have : wNote false c = true := by unfold wNote; rw [if_neg (by omega), if_pos h]
  exact ⟨by unfold wPass; rw [this]; rfl, this⟩
theorem pass_in {c : UInt8} (h : c.toNat ≠ 10) : wPass true c = true ∧ wNote true c = true := by
  have : wNote true c = true := by unfold wNote; rw [if_neg h]; split <;> rfl
  exact ⟨by unfold wPass; rw [this]; rfl, this⟩
theorem pass_lf {note : Bool} {c : UInt8} (h : c.toNat = 10) : wPass note c = true ∧ wNote note c = false := by
  have : wNote note c = false := by unfold wNote; rw [if_pos h]
  exact ⟨by unfold wPass wBlank; rw [decide_eq_true (by omega), Bool.or_true], this⟩
/-- In a remark at a line feed, or at the end: as if there was none. -/
theorem over_lf {l : List UInt8} {a : Nat} {c : UInt8} (h : l[a]? = some c) (hc : c.toNat = 10) (note : Bool) : wOver note l a = wOver false l a := by
  have h1 := pass_lf (note := note) hc
  have h2 := pass_lf (note := false) hc
  rw [wOver_in h h1.1, wOver_in h h2.1, h1.2, h2.2]
theorem pass_no {c : UInt8} (h1 : c.toNat ≠ 35) (h2 : wBlank c = false) : wPass false c = false := by
  unfold wPass; rw [note_blank h1, h2]; rfl
theorem begins_pass {c : UInt8} (h : wBegins c = true) : wPass false c = false := by
  have key : ∀ n : Nat, n < 256 → wBegins (UInt8.ofNat n) = true → wPass false (UInt8.ofNat n) = false := by decide +kernel
  have := key c.toNat c.toNat_lt (by simpa using h)
  simpa using this

theorem wGo_fuel : ∀ (f g n at_ : Nat) (l : List UInt8), l.length < f → l.length < g → wGo f n at_ l = wGo g n at_ l
  | 0, _, _, _, _, h, _ => by omega
  | _, 0, _, _, _, _, h => by omega
  | f + 1, g + 1, n, at_, l, h1, h2 => by
    unfold wGo
    have hs := wSkip_le false l
    cases hd : l.drop (wSkip false l) with
    | nil => rfl
    | cons c r =>
      have hl : r.length + 1 = l.length - wSkip false l := by rw [← List.length_drop, hd]; rfl
      have hm := wMore_le c r
      have hr : (r.drop (wMore c r)).length = r.length - wMore c r := List.length_drop
      simp only
      rw [wGo_fuel f g (n + 1) _ (r.drop (wMore c r)) (by omega) (by omega)]
/-- How far the words are found. -/
def WdAt (l : List UInt8) (ts : List Tok) (j : Nat) : Prop :=
  l.length ≤ 4096 ∧ j ≤ l.length ∧ ts.length ≤ j ∧ wWords l = match wGo (l.length + 1 - j) ts.length j (l.drop j) with
    | .ok us => .ok (ts ++ us)
    | .error e => .error e
theorem WdAt.zero {l : List UInt8} (h : l.length ≤ 4096) : WdAt l [] 0 := by
  refine ⟨h, Nat.zero_le _, Nat.zero_le _, ?_⟩
  unfold wWords
  rw [if_neg (by omega), List.drop_zero, Nat.sub_zero]
  cases wGo (l.length + 1) 0 0 l <;> rfl
theorem wWords_long {l : List UInt8} (h : 4096 < l.length) : wWords l = .error (0, 2) := by unfold wWords; rw [if_pos h]
section
variable {l : List UInt8} {ts : List Tok} {j : Nat}
theorem wGo_at (h : j ≤ l.length) (n : Nat) : wGo (l.length + 1 - j) n j (l.drop j) = match l.drop (j + wOver false l j) with
    | [] => if n = 1500 then .error (4096, 2) else .ok [⟨3, [], j + wOver false l j⟩]
    | c :: r =>
      if wBegins c then
        if n = 1500 then .error (4096, 2)
        else match wGo (l.length - j) (n + 1) (j + wOver false l j + 1 + wMore c r) (r.drop (wMore c r)) with
          | .ok us => .ok (⟨wKind c, c :: r.take (wMore c r), j + wOver false l j⟩ :: us)
          | .error e => .error e
      else .error (j + wOver false l j, 4) := by
  rw [show l.length + 1 - j = l.length - j + 1 by omega, wGo, List.drop_drop]
  rfl
/-- The end. -/
theorem WdAt.stop (h : WdAt l ts j) (he : j + wOver false l j = l.length) : wWords l = if ts.length = 1500 then .error (4096, 2) else .ok (ts ++ [⟨3, [], l.length⟩]) := by
  obtain ⟨_, h1, _, h2⟩ := h
  rw [h2, wGo_at h1, he, List.drop_length]
  by_cases hn : ts.length = 1500
  · simp only [if_pos hn]
  · simp only [if_neg hn]
variable {c : UInt8}
/-- A byte that begins no word. -/
theorem WdAt.form (h : WdAt l ts j) (hc : l[j + wOver false l j]? = some c) (hb : wBegins c = false) : wWords l = .error (j + wOver false l j, 4) := by
  obtain ⟨_, h1, _, h2⟩ := h
  rw [h2, wGo_at h1, drop_at hc]
  simp only [hb, Bool.false_eq_true, if_false]
/-- One word too many. -/
theorem WdAt.many (h : WdAt l ts j) (hc : l[j + wOver false l j]? = some c) (hb : wBegins c = true) (hn : ts.length = 1500) : wWords l = .error (4096, 2) := by
  obtain ⟨_, h1, _, h2⟩ := h
  rw [h2, wGo_at h1, drop_at hc]
  simp only [hb, if_true, hn]
/-- How long the word is that begins at a. -/
def wLen (l : List UInt8) (a : Nat) : Nat := match l.drop a with
  | [] => 0
  | c :: r => 1 + wMore c r
theorem wLen_name {a : Nat} (hc : l[a]? = some c) (hb : wLow c = true) : wLen l a = 1 + wRun wIn l (a + 1) := by
  unfold wLen wRun; rw [drop_at hc]; simp only [wMore, hb, if_true]
theorem wLen_num {a : Nat} (hc : l[a]? = some c) (h0 : wLow c = false) (hb : wNum c = true) : wLen l a = 1 + wRun wNum l (a + 1) := by
  unfold wLen wRun; rw [drop_at hc]; simp only [wMore, h0, hb, Bool.false_eq_true, if_false, if_true]
theorem wLen_sign {a : Nat} (hc : l[a]? = some c) (h0 : wLow c = false) (h1 : wNum c = false) : wLen l a = 1 := by
  unfold wLen; rw [drop_at hc]; simp only [wMore, h0, h1, Bool.false_eq_true, if_false]
theorem wLen_le {a : Nat} (h : a ≤ l.length) : a + wLen l a ≤ l.length := by
  unfold wLen
  have hl : (l.drop a).length = l.length - a := List.length_drop
  cases hd : l.drop a with
  | nil => simp only; omega
  | cons c r =>
    rw [hd, List.length_cons] at hl
    have := wMore_le c r
    simp only
    omega
/-- One word more. -/
theorem WdAt.next (h : WdAt l ts j) (hc : l[j + wOver false l j]? = some c) (hb : wBegins c = true) (hn : ts.length ≠ 1500) :
    WdAt l (ts ++ [⟨wKind c, (l.drop (j + wOver false l j)).take (wLen l (j + wOver false l j)), j + wOver false l j⟩]) (j + wOver false l j + wLen l (j + wOver false l j)) := by
  obtain ⟨h0, h1, h3, h2⟩ := h
  obtain ⟨a, ha⟩ : ∃ a, a = j + wOver false l j := ⟨_, rfl⟩
  have hov := wOver_le false l j
  rw [wGo_at h1] at h2
  rw [← ha] at h2 hc
  rw [← ha]
  have hal : a < l.length := (List.getElem?_eq_some_iff.1 hc).1
  have hm := wMore_le c (l.drop (a + 1))
  rw [List.length_drop] at hm
  have hlen : wLen l a = 1 + wMore c (l.drop (a + 1)) := by unfold wLen; rw [drop_at hc]
  have htk : (l.drop a).take (wLen l a) = c :: (l.drop (a + 1)).take (wMore c (l.drop (a + 1))) := by
    rw [drop_at hc, hlen, Nat.add_comm 1, List.take_succ_cons]
  refine ⟨h0, by omega, by rw [List.length_append, List.length_singleton]; omega, ?_⟩
  rw [h2, htk, drop_at hc]
  simp only [hb, if_true, if_neg hn]
  rw [List.drop_drop, List.length_append, List.length_singleton]
  have e1 : a + 1 + wMore c (l.drop (a + 1)) = a + wLen l a := by omega
  rw [e1]
  have hd : (l.drop (a + wLen l a)).length = l.length - (a + wLen l a) := List.length_drop
  -- the rest, with more or less fuel
  have hfuel : ∀ f g, (l.drop (a + wLen l a)).length < f → (l.drop (a + wLen l a)).length < g →
      wGo f (ts.length + 1) (a + wLen l a) (l.drop (a + wLen l a)) = wGo g (ts.length + 1) (a + wLen l a) (l.drop (a + wLen l a)) := fun f g hf hg => wGo_fuel f g _ _ _ hf hg
  rw [hfuel (l.length - j) (l.length + 1 - (a + wLen l a)) (by omega) (by omega)]
  cases wGo (l.length + 1 - (a + wLen l a)) (ts.length + 1) (a + wLen l a) (l.drop (a + wLen l a)) with
  | error e => rfl
  | ok us => simp
end
end Go.Proofs.Ytkljkiambjlnaaa
