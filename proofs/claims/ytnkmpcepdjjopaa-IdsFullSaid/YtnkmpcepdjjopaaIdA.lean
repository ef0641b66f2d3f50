/-
  Layer 16: a table of ids in memory, the code's.
-/
import Derived.Test.YtnkmpcepdjjopaaIdP
import Derived.Test.YtnkmpcepdjjopaaGd
import Derived.Test.YtnkmpcepdjjopaaMp
import Derived.Test.YtnkmpcepdjjopaaChg
import Derived.StringKeys
namespace Go.Proofs.Ytnkmpcepdjjopaa
set_option linter.unusedSimpArgs false
set_option linter.unusedVariables false
open Go.RowKit

/-- A slice value. -/
structure Slc where
  A : Option Addr
  n : Nat
  c : Nat
def Slc.v (s : Slc) : Value := .slice s.A s.n s.c
/-- A bound's cells; texts, bounds, flags as cells. -/
def bv (p : Nat × Nat) : List Value := [.int .u64 (p.1 : Int), .int .u64 (p.2 : Int)]
def bvs : List (Nat × Nat) → List Value
  | [] => []
  | p :: l => .int .u64 (p.1 : Int) :: .int .u64 (p.2 : Int) :: bvs l
def tvs (L : List (List UInt8)) : List Value := L.map fun l => .string (txt l)
def flg (B : List (Nat × Nat)) (i : Nat) : Bool := B.any fun p => p.2 == i + 1
def fvs (n : Nat) (B : List (Nat × Nat)) : List Value := (List.range n).map fun i => .bool (flg B i)

theorem tvs_len (L : List (List UInt8)) : (tvs L).length = L.length := by simp [tvs]
theorem tvs_at {L : List (List UInt8)} {k : Nat} {l : List UInt8} (h : L[k]? = some l) : (tvs L)[k]? = some (.string (txt l)) := by simp [tvs, h]
theorem tvs_app (L M : List (List UInt8)) : tvs (L ++ M) = tvs L ++ tvs M := by simp [tvs]
theorem tvs_one (L : List (List UInt8)) : ∀ u ∈ tvs L, u.oneCell' = true := by
  intro u hu
  obtain ⟨b, _, rfl⟩ := List.mem_map.1 hu
  rfl
theorem bvs_app (a b : List (Nat × Nat)) : bvs (a ++ b) = bvs a ++ bvs b := by
  induction a with
  | nil => rfl
  | cons p a ih => simp [bvs, ih]
theorem bvs_len (B : List (Nat × Nat)) : (bvs B).length = B.length * 2 := by
  induction B with
  | nil => rfl
  | cons p B ih => simp [bvs, ih]; omega
theorem bvs_one (B : List (Nat × Nat)) : ∀ u ∈ bvs B, u.oneCell' = true := by
  induction B with
  | nil => exact ones_nil
  | cons p B ih => exact ones_cons rfl (ones_cons rfl ih)
theorem bvs_at {B : List (Nat × Nat)} {k : Nat} {p : Nat × Nat} (h : B[k]? = some p) : (bvs B)[k * 2]? = some (.int .u64 (p.1 : Int)) ∧ (bvs B)[k * 2 + 1]? = some (.int .u64 (p.2 : Int)) := by
  induction B generalizing k with
  | nil => simp at h
  | cons q B ih =>
    cases k with
    | zero => obtain rfl : q = p := by simpa using h
              exact ⟨rfl, rfl⟩
    | succ k =>
      have := ih (k := k) (by simpa using h)
      rw [Nat.succ_mul]
      exact this
theorem bvs_drop (B : List (Nat × Nat)) (k : Nat) : (bvs B).drop (k * 2) = bvs (B.drop k) := by
  induction B generalizing k with
  | nil => simp [bvs]
  | cons q B ih =>
    cases k with
    | zero => rfl
    | succ k => rw [Nat.succ_mul]; exact ih k
theorem bvs_take (B : List (Nat × Nat)) (k : Nat) : (bvs B).take (k * 2) = bvs (B.take k) := by
  induction B generalizing k with
  | nil => simp [bvs]
  | cons q B ih =>
    cases k with
    | zero => rfl
    | succ k =>
      rw [Nat.succ_mul]
      show Value.int .u64 (q.1 : Int) :: Value.int .u64 (q.2 : Int) :: (bvs B).take (k * 2) = bvs (q :: B.take k)
      rw [ih k]
      rfl
theorem fvs_len (n : Nat) (B : List (Nat × Nat)) : (fvs n B).length = n := by simp [fvs]
theorem fvs_at {n : Nat} {B : List (Nat × Nat)} {k : Nat} (h : k < n) : (fvs n B)[k]? = some (.bool (flg B k)) := by
  unfold fvs
  rw [List.getElem?_map, List.getElem?_range h]
  rfl
theorem fvs_one (n : Nat) (B : List (Nat × Nat)) : ∀ u ∈ fvs n B, u.oneCell' = true := by
  intro u hu
  obtain ⟨b, _, rfl⟩ := List.mem_map.1 hu
  rfl
theorem flg_iff {B : List (Nat × Nat)} {i : Nat} : flg B i = true ↔ ∃ p ∈ B, p.2 = i + 1 := by
  simp [flg]
theorem fvs_succ (n : Nat) (B : List (Nat × Nat)) (h : ∀ p ∈ B, p.2 ≤ n) : fvs (n + 1) B = fvs n B ++ [.bool false] := by
  unfold fvs
  rw [List.range_succ, List.map_append]
  have : flg B n = false := by
    rw [Bool.eq_false_iff]
    intro c
    obtain ⟨p, h1, h2⟩ := flg_iff.1 c
    have := h p h1
    omega
  simp [this]
theorem fvs_set {n k : Nat} {B B2 : List (Nat × Nat)} (hk : k < n) (h : ∀ p, p ∈ B2 ↔ p ∈ B ∨ p.2 = k + 1 ∧ p ∈ B2) (h2 : ∃ p ∈ B2, p.2 = k + 1) : fvs n B2 = (fvs n B).set k (.bool true) := by
  apply List.ext_getElem?
  intro i
  rw [List.getElem?_set, fvs_len]
  by_cases hi : i < n
  · rw [fvs_at hi]
    by_cases e : k = i
    · subst e
      rw [if_pos rfl, if_pos hk, flg_iff.2 h2]
    · rw [if_neg e, fvs_at hi]
      have : flg B2 i = flg B i := by
        rw [Bool.eq_iff_iff, flg_iff, flg_iff]
        constructor
        · rintro ⟨p, h3, h4⟩
          rcases (h p).1 h3 with h5 | ⟨h5, _⟩
          · exact ⟨p, h5, h4⟩
          · omega
        · rintro ⟨p, h3, h4⟩
          exact ⟨p, (h p).2 (.inl h3), h4⟩
      rw [this]
  · rw [List.getElem?_eq_none (by rw [fvs_len]; omega)]
    by_cases e : k = i
    · omega
    · rw [if_neg e, List.getElem?_eq_none (by rw [fvs_len]; omega)]

theorem elS : El Try.prog 35 9 1 16 := El.mk_ Try.underlying35 (z := .string .empty) (by kernel_rfl) rfl (by decide)
theorem elF : El Try.prog 53 4 1 1 := El.mk_ Try.underlying53 (z := .bool false) (by kernel_rfl) rfl (by decide)
theorem elBd : El Try.prog 33 50 2 16 := El.mk_ Try.underlying33 (z := .agg #[.int .u64 0, .int .u64 0]) (by kernel_rfl) rfl (by decide)
theorem keysS : Maps.Keyed Try.prog 9 := Maps.string_keyed Try.underlying9
theorem keyS {l : List UInt8} (h : l.length ≤ maxLen) : ∃ k, keyOf Try.prog 9 (.string (txt l)) = some k :=
  ⟨_, Go.WideMaps.keyOf_string_mk Try.underlying9 (by rw [txt_size]; exact h)⟩

/-- The map's entries: each text with its id. -/
structure Ent (es : List MapEntry) (L : List (List UInt8)) : Prop where
  len : es.length = L.length
  at_ : ∀ i l, L[i]? = some l → ∃ b, es[i]? = some (MapEntry.mk (.string (txt l)) (.int .u64 ((i + 1 : Nat) : Int)) b)
theorem Ent.nil : Ent [] [] := ⟨rfl, fun i l h => by simp at h⟩
theorem Ent.put {es : List MapEntry} {L : List (List UInt8)} (h : Ent es L) (s : List UInt8) (c : Nat) : Ent (es ++ [MapEntry.mk (.string (txt s)) (.int .u64 ((L.length + 1 : Nat) : Int)) c]) (L ++ [s]) := by
  refine ⟨by simp [h.len], fun i l hi => ?_⟩
  rcases Nat.lt_or_ge i L.length with c1 | c1
  · rw [List.getElem?_append_left c1] at hi
    obtain ⟨b, hb⟩ := h.at_ i l hi
    exact ⟨b, by rw [List.getElem?_append_left (by rw [h.len]; exact c1)]; exact hb⟩
  · rw [List.getElem?_append_right c1] at hi
    obtain ⟨h1, h2⟩ := List.getElem?_eq_some_iff.1 hi
    have e : i = L.length := by simp at h1; omega
    subst e
    obtain rfl : s = l := by simpa using h2
    exact ⟨c, by rw [List.getElem?_append_right (by rw [h.len]; exact Nat.le_refl _), h.len]; simp⟩
/-- What a lookup finds. -/
theorem Ent.no {es : List MapEntry} {t : Idt} (h : Ent es t.L) {s : List UInt8} (hn : ∀ x ∈ es, x.key ≠ .string (txt s)) : t.of s = 0 := by
  apply Decidable.byContradiction
  intro c
  obtain ⟨b, hb⟩ := h.at_ _ _ (Idt.of_get c)
  exact hn _ (List.mem_of_getElem? hb) rfl
theorem Ent.yes {es : List MapEntry} {t : Idt} (h : Ent es t.L) (w : t.Wf) {s : List UInt8} {x : MapEntry} (hx : x ∈ es) (hk : x.key = .string (txt s)) : t.of s ≠ 0 ∧ x.val = .int .u64 ((t.of s : Nat) : Int) := by
  obtain ⟨i, hi⟩ := List.getElem?_of_mem hx
  have hl : i < t.L.length := by rw [← h.len]; exact (List.getElem?_eq_some_iff.1 hi).1
  obtain ⟨b, hb⟩ := h.at_ i t.L[i] (List.getElem?_eq_getElem hl)
  rw [hi] at hb
  injection hb with hb
  subst hb
  have e : t.L[i] = s := by
    simp only [Value.string.injEq] at hk
    exact txt_inj hk
  have := Idt.of_at w (s := s) (k := i) (by rw [List.getElem?_eq_getElem hl, e])
  rw [this]
  exact ⟨by omega, rfl⟩

/-- A table of the code's, in blocks of S. -/
structure PT (w : World) (g : Nat) (S : Nat → Prop) (m clock : Nat) (x y z : Slc) (es : List MapEntry) (t : Idt) : Prop where
  b : Blk w g 55 [.int .u64 (t.lim : Int), .map (some m), x.v, y.v, z.v].toArray
  mp : MapIs Try.prog 9 w m es clock
  en : Ent es t.L
  hx : Own w 0 9 1 x.A x.n x.c (tvs t.L)
  hy : Own w 0 4 1 y.A y.n y.c (fvs t.L.length t.B)
  hz : Own w 0 50 2 z.A z.n z.c (bvs t.B)
  sg : S g
  sm : S m
  sx : ∀ k, blk x.A = some k → S k
  sy : ∀ k, blk y.A = some k → S k
  sz : ∀ k, blk z.A = some k → S k
  lt : ∀ i, S i → i < w.heap.size
  wf : t.Wf
section
variable {w w' : World} {g m clock : Nat} {S T : Nat → Prop} {x y z : Slc} {es : List MapEntry} {t : Idt}
theorem PT.xn (h : PT w g S m clock x y z es t) : x.n = t.L.length := by have := h.hx.len; rw [tvs_len] at this; exact this.symm
theorem PT.yn (h : PT w g S m clock x y z es t) : y.n = t.L.length := by have := h.hy.len; rw [fvs_len] at this; exact this.symm
theorem PT.zn (h : PT w g S m clock x y z es t) : z.n = t.B.length := by have := h.hz.len_; rw [bvs_len] at this; omega
theorem PT.chg (h : PT w g S m clock x y z es t) (ht : Chg w w' T) (hs : ∀ i, S i → ¬ T i) : PT w' g S m clock x y z es t :=
  ⟨h.b.chg ht (hs g h.sg), ⟨(ht.block m h.mp.lt (hs m h.sm)).trans h.mp.blk, h.mp.keys, h.mp.keyed, h.mp.born, h.mp.old⟩, h.en, h.hx.chg ht fun k e => hs k (h.sx k e), h.hy.chg ht fun k e => hs k (h.sy k e), h.hz.chg ht fun k e => hs k (h.sz k e),
    h.sg, h.sm, h.sx, h.sy, h.sz, fun i hi => Nat.lt_of_lt_of_le (h.lt i hi) ht.size, h.wf⟩
theorem PT.turn0 (h : PT w g S m clock x y z es t) (ht : Turn w w' none) : PT w' g S m clock x y z es t := h.chg (Chg.of0 ht fun _ => False) fun _ _ h => h
theorem PT.notG (h : PT w g S m clock x y z es t) : some m ≠ some g := fun e => by
  injection e with e
  have h1 : w.heap[g]? = _ := h.b
  rw [← e, h.mp.blk] at h1
  cases h1
theorem PT.mx (h : PT w g S m clock x y z es t) : blk x.A ≠ some m := fun e => by
  obtain ⟨cur, h1, _⟩ := h.hx.obj e
  rw [h.mp.blk] at h1
  cases h1
theorem PT.my (h : PT w g S m clock x y z es t) : blk y.A ≠ some m := fun e => by
  obtain ⟨cur, h1, _⟩ := h.hy.obj e
  rw [h.mp.blk] at h1
  cases h1
theorem PT.mz (h : PT w g S m clock x y z es t) : blk z.A ≠ some m := fun e => by
  obtain ⟨cur, h1, _⟩ := h.hz.obj e
  rw [h.mp.blk] at h1
  cases h1
theorem PT.gx (h : PT w g S m clock x y z es t) : blk x.A ≠ some g := h.hx.notB h.b (by decide)
theorem PT.gy (h : PT w g S m clock x y z es t) : blk y.A ≠ some g := h.hy.notB h.b (by decide)
theorem PT.gz (h : PT w g S m clock x y z es t) : blk z.A ≠ some g := h.hz.notB h.b (by decide)
end
/-- The same, its parts left out. -/
def Pt (w : World) (g : Nat) (S : Nat → Prop) (t : Idt) : Prop := ∃ m clock x y z es, PT w g S m clock x y z es t
/-- A step of a table's. -/
def Stp (w w' : World) (S : Nat → Prop) (g : Nat) (t : Idt) : Prop := Chg w w' S ∧ ∃ S', Pt w' g S' t ∧ ∀ i, S' i → S i ∨ w.heap.size ≤ i
section
variable {w w' w2 : World} {g : Nat} {S T : Nat → Prop} {t : Idt}
theorem Pt.chg (h : Pt w g S t) (ht : Chg w w' T) (hs : ∀ i, S i → ¬ T i) : Pt w' g S t := by
  obtain ⟨m, c, x, y, z, es, h⟩ := h
  exact ⟨m, c, x, y, z, es, h.chg ht hs⟩
theorem Pt.turn0 (h : Pt w g S t) (ht : Turn w w' none) : Pt w' g S t := h.chg (Chg.of0 ht fun _ => False) fun _ _ h => h
theorem Pt.lt (h : Pt w g S t) {i : Nat} (hi : S i) : i < w.heap.size := by
  obtain ⟨m, c, x, y, z, es, h⟩ := h
  exact h.lt i hi
theorem Pt.wf (h : Pt w g S t) : t.Wf := by
  obtain ⟨m, c, x, y, z, es, h⟩ := h
  exact h.wf
theorem Stp.same (h : Pt w g S t) (ht : Turn w w' none) : Stp w w' S g t := ⟨Chg.of0 ht S, S, h.turn0 ht, fun i hi => .inl hi⟩
theorem Stp.ahead (ht : Turn w w' none) (h : Stp w' w2 S g t) : Stp w w2 S g t := by
  obtain ⟨h1, S', h2, h3⟩ := h
  exact ⟨(Chg.of0 ht S).trans h1 fun i hi => .inl hi, S', h2, fun i hi => (h3 i hi).imp id fun h => Nat.le_trans ht.size h⟩
end
end Go.Proofs.Ytnkmpcepdjjopaa
