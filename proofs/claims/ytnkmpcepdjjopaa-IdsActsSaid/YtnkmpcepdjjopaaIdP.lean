/-
  Layer 16, pure side: a table of ids as data: texts in the order of their ids, foreign ids with theirs, rising.
-/
import Derived.Test.YtnkmpcepdjjopaaFrP
namespace Go.Proofs.Ytnkmpcepdjjopaa
set_option linter.unusedSimpArgs false
set_option linter.unusedVariables false

/-- A table: how many ids there may be, the texts, what foreign ids are bound to. -/
structure Idt where
  lim : Nat
  L : List (List UInt8)
  B : List (Nat × Nat)
/-- The place of a text, behind all when it isn't there. -/
def iPos : List (List UInt8) → List UInt8 → Nat
  | [], _ => 0
  | a :: l, s => if a = s then 0 else iPos l s + 1
/-- The id that a foreign one is bound to; 0, if it is not. -/
def iMap : List (Nat × Nat) → Nat → Nat
  | [], _ => 0
  | p :: l, x => if p.1 = x then p.2 else iMap l x
/-- A bound put in its place. -/
def iIns (x y : Nat) : List (Nat × Nat) → List (Nat × Nat)
  | [] => [(x, y)]
  | p :: l => if x < p.1 then (x, y) :: p :: l else p :: iIns x y l
def Idt.nu (n : Nat) : Idt := ⟨min n 2147483647, [], []⟩
/-- A text's id; 0, if it has none. -/
def Idt.of (t : Idt) (s : List UInt8) : Nat := if iPos t.L s < t.L.length then iPos t.L s + 1 else 0
/-- Make: the table behind it, the id, the error. -/
def Idt.make (t : Idt) (s : List UInt8) : Idt × Nat × Nat :=
  if t.of s ≠ 0 then (t, t.of s, 0)
  else if t.lim ≤ t.L.length then (t, 0, 8)
  else ({ t with L := t.L ++ [s] }, t.L.length + 1, 0)
/-- Bind: the table behind it, the id, the error. -/
def Idt.bind (t : Idt) (x : Nat) (s : List UInt8) : Idt × Nat × Nat :=
  if x = 0 ∨ 2147483647 < x then (t, 0, 1)
  else if iMap t.B x ≠ 0 then (if t.of s = iMap t.B x then (t, t.of s, 0) else (t, 0, 6))
  else if t.of s ≠ 0 ∧ ∃ p ∈ t.B, p.2 = t.of s then (t, 0, 6)
  else if (t.make s).2.2 ≠ 0 then ((t.make s).1, 0, (t.make s).2.2)
  else ({ (t.make s).1 with B := iIns x (t.make s).2.1 t.B }, (t.make s).2.1, 0)
/-- What the text of an id is. -/
def Idt.text (t : Idt) (n : Nat) : List UInt8 × Bool :=
  if n < 1 ∨ t.L.length < n then ([], false) else (t.L.getD (n - 1) [], true)

theorem iPos_le (l : List (List UInt8)) (s : List UInt8) : iPos l s ≤ l.length := by
  induction l with
  | nil => simp [iPos]
  | cons a l ih => rw [iPos]; split <;> simp; exact ih
theorem iPos_get {l : List (List UInt8)} {s : List UInt8} (h : iPos l s < l.length) : l[iPos l s]? = some s := by
  induction l with
  | nil => simp at h
  | cons a l ih =>
    rw [iPos] at h ⊢
    split
    · rename_i e; simp [e]
    · rename_i e
      rw [if_neg e] at h
      simp only [List.getElem?_cons_succ]
      exact ih (by simpa using h)
theorem iPos_ne {l : List (List UInt8)} {s : List UInt8} {k : Nat} (h : k < iPos l s) : l[k]? ≠ some s := by
  induction l generalizing k with
  | nil => simp
  | cons a l ih =>
    rw [iPos] at h
    split at h
    · omega
    · rename_i e
      cases k with
      | zero => simpa using e
      | succ k => simp only [List.getElem?_cons_succ]; exact ih (by omega)
/-- Where a text first is. -/
theorem iPos_eq {l : List (List UInt8)} {s : List UInt8} {k : Nat} (h1 : l[k]? = some s) (h2 : ∀ j, j < k → l[j]? ≠ some s) : iPos l s = k := by
  rcases Nat.lt_trichotomy (iPos l s) k with h | h | h
  · have hk : k < l.length := by
      rcases Nat.lt_or_ge k l.length with c | c
      · exact c
      · rw [List.getElem?_eq_none c] at h1; simp at h1
    exact absurd (iPos_get (by omega)) (h2 _ h)
  · exact h
  · exact absurd h1 (iPos_ne h)
theorem iPos_all {l : List (List UInt8)} {s : List UInt8} (h : ∀ j, j < l.length → l[j]? ≠ some s) : iPos l s = l.length := by
  rcases Nat.lt_or_ge (iPos l s) l.length with c | c
  · exact absurd (iPos_get c) (h _ c)
  · have := iPos_le l s; omega
theorem iPos_mem {l : List (List UInt8)} {s : List UInt8} : iPos l s < l.length ↔ s ∈ l := by
  constructor
  · intro h; exact List.mem_of_getElem? (iPos_get h)
  · intro h
    obtain ⟨k, hk⟩ := List.getElem?_of_mem h
    rcases Nat.lt_or_ge (iPos l s) l.length with c | c
    · exact c
    · have hl := iPos_le l s
      have hk2 : k < l.length := by
        rcases Nat.lt_or_ge k l.length with c2 | c2
        · exact c2
        · rw [List.getElem?_eq_none c2] at hk; simp at hk
      exact absurd hk (iPos_ne (by omega))
theorem iPos_app {l m : List (List UInt8)} {s : List UInt8} (h : iPos l s < l.length) : iPos (l ++ m) s = iPos l s := by
  have h1 := iPos_get h
  refine iPos_eq (by rw [List.getElem?_append_left h]; exact h1) fun j hj => ?_
  rw [List.getElem?_append_left (by omega)]
  exact iPos_ne hj

/-- A table in order. -/
structure Idt.Wf (t : Idt) : Prop where
  nd : t.L.Nodup
  ln : t.L.length ≤ t.lim
  lm : t.lim ≤ 2147483647
  up : t.B.Pairwise fun p q => p.1 < q.1
  to : t.B.Pairwise fun p q => p.2 ≠ q.2
  fr : ∀ p ∈ t.B, 1 ≤ p.1 ∧ p.1 ≤ 2147483647
  id : ∀ p ∈ t.B, 1 ≤ p.2 ∧ p.2 ≤ t.L.length

theorem Idt.nu_wf (n : Nat) : (Idt.nu n).Wf :=
  ⟨List.nodup_nil, Nat.zero_le _, Nat.min_le_right _ _, List.Pairwise.nil, List.Pairwise.nil, by intro p h; simp [Idt.nu] at h, by intro p h; simp [Idt.nu] at h⟩
theorem Idt.of_le (t : Idt) (s : List UInt8) : t.of s ≤ t.L.length := by
  rw [Idt.of]; split <;> omega
theorem Idt.of_mem {t : Idt} {s : List UInt8} : t.of s ≠ 0 ↔ s ∈ t.L := by
  rw [Idt.of, ← iPos_mem]; split <;> simp_all
theorem Idt.of_get {t : Idt} {s : List UInt8} (h : t.of s ≠ 0) : t.L[t.of s - 1]? = some s := by
  rw [Idt.of] at h ⊢
  split
  · rename_i c; exact iPos_get c
  · rename_i c; rw [if_neg c] at h; exact absurd rfl h
/-- What has the id k + 1 has it. -/
theorem Idt.of_at {t : Idt} (w : t.Wf) {s : List UInt8} {k : Nat} (h : t.L[k]? = some s) : t.of s = k + 1 := by
  have hk : k < t.L.length := by
    rcases Nat.lt_or_ge k t.L.length with c | c
    · exact c
    · rw [List.getElem?_eq_none c] at h; simp at h
  have hp : iPos t.L s = k := iPos_eq h fun j hj hc => by
    have h2 := (List.pairwise_iff_getElem.mp w.nd) j k (by omega) hk hj
    rw [List.getElem?_eq_getElem (by omega)] at hc h
    exact h2 ((Option.some.inj hc).trans (Option.some.inj h).symm)
  rw [Idt.of, hp, if_pos hk]
theorem Idt.make_cases (t : Idt) (s : List UInt8) :
    (t.of s ≠ 0 ∧ t.make s = (t, t.of s, 0)) ∨ (t.of s = 0 ∧ t.lim ≤ t.L.length ∧ t.make s = (t, 0, 8)) ∨
    (t.of s = 0 ∧ t.L.length < t.lim ∧ t.make s = ({ t with L := t.L ++ [s] }, t.L.length + 1, 0)) := by
  rw [Idt.make]
  by_cases h : t.of s ≠ 0
  · exact .inl ⟨h, by rw [if_pos h]⟩
  · rw [if_neg h]
    by_cases c : t.lim ≤ t.L.length
    · exact .inr (.inl ⟨by omega, c, by rw [if_pos c]⟩)
    · exact .inr (.inr ⟨by omega, by omega, by rw [if_neg c]⟩)
theorem Idt.Wf.put {t : Idt} (w : t.Wf) {s : List UInt8} (h : t.of s = 0) (hl : t.L.length < t.lim) : Idt.Wf { t with L := t.L ++ [s] } := by
  have hs : s ∉ t.L := fun c => (Idt.of_mem.mpr c) h
  refine ⟨?_, by simp; omega, w.lm, w.up, w.to, w.fr, fun p hp => ?_⟩
  · show (t.L ++ [s]).Nodup
    rw [List.nodup_append]
    refine ⟨w.nd, by simp, fun a ha b hb => ?_⟩
    have : b = s := by simpa using hb
    intro e; subst e; subst this; exact hs ha
  · have := w.id p hp
    simp; omega
theorem Idt.Wf.make {t : Idt} (w : t.Wf) (s : List UInt8) : (t.make s).1.Wf := by
  rcases t.make_cases s with ⟨_, h⟩ | ⟨_, _, h⟩ | ⟨h1, h2, h⟩ <;> rw [h]
  · exact w
  · exact w
  · exact w.put h1 h2
theorem Idt.make_B (t : Idt) (s : List UInt8) : (t.make s).1.B = t.B := by
  rcases t.make_cases s with ⟨_, h⟩ | ⟨_, _, h⟩ | ⟨h1, h2, h⟩ <;> rw [h]
theorem Idt.make_lim (t : Idt) (s : List UInt8) : (t.make s).1.lim = t.lim := by
  rcases t.make_cases s with ⟨_, h⟩ | ⟨_, _, h⟩ | ⟨h1, h2, h⟩ <;> rw [h]
theorem Idt.make_pre (t : Idt) (s : List UInt8) : t.L <+: (t.make s).1.L := by
  rcases t.make_cases s with ⟨_, h⟩ | ⟨_, _, h⟩ | ⟨h1, h2, h⟩ <;> rw [h]
  · exact List.prefix_refl _
  · exact List.prefix_refl _
  · exact List.prefix_append _ _
/-- An id that Make gives is the text's. -/
theorem Idt.make_id {t : Idt} (w : t.Wf) {s : List UInt8} (h : (t.make s).2.2 = 0) : (t.make s).1.of s = (t.make s).2.1 ∧ (t.make s).2.1 ≠ 0 := by
  have w2 := w.make s
  rcases t.make_cases s with ⟨h1, h2⟩ | ⟨_, _, h2⟩ | ⟨h1, h3, h2⟩
  · rw [h2]; exact ⟨rfl, h1⟩
  · rw [h2] at h; simp at h
  · rw [h2] at w2 ⊢
    refine ⟨Idt.of_at w2 ?_, by simp⟩
    show (t.L ++ [s])[t.L.length]? = some s
    simp
theorem iIns_mem {x y : Nat} {l : List (Nat × Nat)} {p : Nat × Nat} : p ∈ iIns x y l ↔ p = (x, y) ∨ p ∈ l := by
  induction l with
  | nil => simp [iIns]
  | cons q l ih =>
    rw [iIns]
    split
    · simp
    · simp only [List.mem_cons, ih]
      constructor
      · rintro (h | h | h)
        · exact .inr (.inl h)
        · exact .inl h
        · exact .inr (.inr h)
      · rintro (h | h | h)
        · exact .inr (.inl h)
        · exact .inl h
        · exact .inr (.inr h)
theorem iIns_len (x y : Nat) (l : List (Nat × Nat)) : (iIns x y l).length = l.length + 1 := by
  induction l with
  | nil => rfl
  | cons q l ih => rw [iIns]; split <;> simp [ih]
theorem iIns_up {x y : Nat} {l : List (Nat × Nat)} (h : l.Pairwise fun p q => p.1 < q.1) (hx : ∀ p ∈ l, p.1 ≠ x) : (iIns x y l).Pairwise fun p q => p.1 < q.1 := by
  induction l with
  | nil => simp [iIns]
  | cons q l ih =>
    rw [List.pairwise_cons] at h
    rw [iIns]
    split
    · rename_i c
      rw [List.pairwise_cons, List.pairwise_cons]
      refine ⟨fun p hp => ?_, h.1, h.2⟩
      rcases List.mem_cons.mp hp with e | e
      · rw [e]; exact c
      · have := h.1 p e; show x < p.1; omega
    · rename_i c
      rw [List.pairwise_cons]
      refine ⟨fun p hp => ?_, ih h.2 fun p hp => hx p (List.mem_cons_of_mem _ hp)⟩
      rcases iIns_mem.mp hp with e | e
      · have := hx q List.mem_cons_self
        rw [e]; show q.1 < x; omega
      · exact h.1 p e
theorem iIns_to {x y : Nat} {l : List (Nat × Nat)} (h : l.Pairwise fun p q => p.2 ≠ q.2) (hy : ∀ p ∈ l, p.2 ≠ y) : (iIns x y l).Pairwise fun p q => p.2 ≠ q.2 := by
  induction l with
  | nil => simp [iIns]
  | cons q l ih =>
    rw [List.pairwise_cons] at h
    rw [iIns]
    split
    · rw [List.pairwise_cons, List.pairwise_cons]
      refine ⟨fun p hp => ?_, h.1, h.2⟩
      exact fun e => hy p hp e.symm
    · rw [List.pairwise_cons]
      refine ⟨fun p hp => ?_, ih h.2 fun p hp => hy p (List.mem_cons_of_mem _ hp)⟩
      rcases iIns_mem.mp hp with e | e
      · rw [e]; exact hy q List.mem_cons_self
      · exact h.1 p e
/-- Where it comes: behind those that are below it. -/
theorem iIns_split {x y : Nat} {a b : List (Nat × Nat)} (ha : ∀ p ∈ a, p.1 ≤ x) (hb : ∀ p, b.head? = some p → x < p.1) : iIns x y (a ++ b) = a ++ (x, y) :: b := by
  induction a with
  | nil =>
    cases b with
    | nil => rfl
    | cons q b => rw [List.nil_append, iIns, if_pos (hb q rfl)]; rfl
  | cons q a ih =>
    have h1 := ha q List.mem_cons_self
    rw [List.cons_append, iIns, if_neg (by omega), ih fun p hp => ha p (List.mem_cons_of_mem _ hp)]
    rfl
theorem iMap_none {l : List (Nat × Nat)} {x : Nat} (h : ∀ p ∈ l, p.1 ≠ x) : iMap l x = 0 := by
  induction l with
  | nil => rfl
  | cons q l ih =>
    rw [iMap, if_neg (h q List.mem_cons_self)]
    exact ih fun p hp => h p (List.mem_cons_of_mem _ hp)
theorem iMap_mem {l : List (Nat × Nat)} {x : Nat} (h : iMap l x ≠ 0) : (x, iMap l x) ∈ l := by
  induction l with
  | nil => exact absurd rfl h
  | cons q l ih =>
    rw [iMap] at h ⊢
    split
    · rename_i e
      rw [← e]; exact List.mem_cons_self
    · rename_i e
      rw [if_neg e] at h
      exact List.mem_cons_of_mem _ (ih h)
theorem iMap_of {l : List (Nat × Nat)} (hu : l.Pairwise fun p q => p.1 < q.1) {p : Nat × Nat} (h : p ∈ l) : iMap l p.1 = p.2 := by
  induction l with
  | nil => simp at h
  | cons q l ih =>
    rw [List.pairwise_cons] at hu
    rw [iMap]
    rcases List.mem_cons.mp h with e | e
    · rw [if_pos (by rw [e]), e]
    · have := hu.1 p e
      rw [if_neg (by omega)]
      exact ih hu.2 e
theorem Idt.Wf.nomap {t : Idt} (w : t.Wf) {x : Nat} (h : iMap t.B x = 0) : ∀ p ∈ t.B, p.1 ≠ x := by
  intro p hp e
  have h1 := iMap_of w.up hp
  have h2 := w.id p hp
  rw [e, h] at h1
  omega
theorem iMap_ins {x y z : Nat} {l : List (Nat × Nat)} (hu : l.Pairwise fun p q => p.1 < q.1) (hx : ∀ p ∈ l, p.1 ≠ x) : iMap (iIns x y l) z = if z = x then y else iMap l z := by
  have h1 := iIns_up (y := y) hu hx
  by_cases e : z = x
  · subst e
    rw [if_pos rfl]
    exact iMap_of (p := (z, y)) h1 (iIns_mem.mpr (.inl rfl))
  · rw [if_neg e]
    by_cases c : iMap (iIns x y l) z = 0
    · by_cases d : ∃ p ∈ l, p.1 = z
      · obtain ⟨p, hp, hz⟩ := d
        have h2 := iMap_of h1 (iIns_mem.mpr (.inr hp))
        have h3 := iMap_of hu hp
        rw [hz] at h2 h3
        rw [h2, h3]
      · rw [c, iMap_none fun p hp hz => d ⟨p, hp, hz⟩]
    · rcases iIns_mem.mp (iMap_mem c) with h | h
      · have h4 : z = x := (Prod.mk.inj h).1
        exact absurd h4 e
      · exact (iMap_of hu h).symm
/-- Bind leaves a table in order. -/
theorem Idt.Wf.bind {t : Idt} (w : t.Wf) (x : Nat) (s : List UInt8) : (t.bind x s).1.Wf := by
  rw [Idt.bind]
  split
  · exact w
  rename_i hx
  split
  · split <;> exact w
  rename_i hm
  split
  · exact w
  rename_i ht
  split
  · exact w.make s
  rename_i he
  have he : (t.make s).2.2 = 0 := by simpa using he
  have w2 := w.make s
  have hB := t.make_B s
  obtain ⟨hi, hz⟩ := Idt.make_id w he
  have hle : (t.make s).2.1 ≤ (t.make s).1.L.length := by rw [← hi]; exact Idt.of_le _ _
  have hno := w.nomap (x := x) (by simpa using hm)
  have hto : ∀ p ∈ t.B, p.2 ≠ (t.make s).2.1 := by
    intro p hp e
    rcases t.make_cases s with ⟨h1, h2⟩ | ⟨_, _, h2⟩ | ⟨h1, h3, h2⟩
    · rw [h2] at e; exact ht ⟨h1, p, hp, e⟩
    · rw [h2] at he; simp at he
    · rw [h2] at e
      have := w.id p hp
      simp only at e
      omega
  refine ⟨w2.nd, w2.ln, w2.lm, iIns_up w.up hno, iIns_to w.to hto, fun p hp => ?_, fun p hp => ?_⟩
  · rcases iIns_mem.mp hp with e | e
    · rw [e]; show 1 ≤ x ∧ x ≤ 2147483647; omega
    · exact w.fr p e
  · rcases iIns_mem.mp hp with e | e
    · rw [e]; show 1 ≤ (t.make s).2.1 ∧ (t.make s).2.1 ≤ (t.make s).1.L.length; omega
    · have h5 := w2.id p (by rw [hB]; exact e)
      exact h5
theorem Idt.bind_pre (t : Idt) (x : Nat) (s : List UInt8) : t.L <+: (t.bind x s).1.L := by
  rw [Idt.bind]
  split
  · exact List.prefix_refl _
  split
  · split <;> exact List.prefix_refl _
  split
  · exact List.prefix_refl _
  split
  · exact t.make_pre s
  · exact t.make_pre s
theorem Idt.bind_lim (t : Idt) (x : Nat) (s : List UInt8) : (t.bind x s).1.lim = t.lim := by
  rw [Idt.bind]
  split
  · rfl
  split
  · split <;> rfl
  split
  · rfl
  split
  · exact t.make_lim s
  · exact t.make_lim s
theorem Idt.text_at {t : Idt} {k : Nat} {s : List UInt8} (h : t.L[k]? = some s) : t.text (k + 1) = (s, true) := by
  have hk : k < t.L.length := by
    rcases Nat.lt_or_ge k t.L.length with c | c
    · exact c
    · rw [List.getElem?_eq_none c] at h; simp at h
  rw [Idt.text, if_neg (by omega)]
  simp [List.getD, h]
/-- What IdsFull asks of a call. -/
theorem Idt.make_full (t : Idt) (s : List UInt8) :
    (t.of s ≠ 0 ↔ (t.make s).2.2 = 0 ∧ (t.make s).1.L.length = t.L.length) ∧
    (t.of s = 0 → ((t.make s).2.2 = 0 ↔ t.L.length < t.lim)) ∧
    ((t.make s).2.2 ≠ 0 → (t.make s).2.2 = 8 ∧ (t.make s).2.1 = 0 ∧ (t.make s).1.L.length = t.L.length) := by
  rcases t.make_cases s with ⟨h1, h2⟩ | ⟨h1, h3, h2⟩ | ⟨h1, h3, h2⟩
  · rw [h2]; exact ⟨by simp [h1], fun h => absurd h h1, fun h => absurd rfl h⟩
  · rw [h2]; exact ⟨by simp [h1], fun _ => by simp; omega, fun _ => ⟨rfl, rfl, rfl⟩⟩
  · rw [h2]; exact ⟨by simp [h1], fun _ => by simp; omega, fun h => absurd rfl h⟩

end Go.Proofs.Ytnkmpcepdjjopaa
