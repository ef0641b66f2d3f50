/-
  Layer 14: a disk as data (what each call leaves of it), and blocks of which only some turn. No contract of the program's is here.
-/
import Derived.Test.YtogajpiefegdeaaFa
import Derived.Test.YtogajpiefegdeaaGd
namespace Go.Proofs.Ytogajpiefegdeaa
set_option linter.unusedSimpArgs false
set_option linter.unusedVariables false
open Go.RowKit

/-! ### Blocks of which only some turn -/
/-- From w to w' nothing has turned but what is new, and blocks of S. -/
structure Chg (w w' : World) (S : Nat → Prop) : Prop where
  os : w'.os = w.os
  tape : w'.tape = w.tape
  output : w'.output = w.output
  size : w.heap.size ≤ w'.heap.size
  block : ∀ k, k < w.heap.size → ¬ S k → w'.heap[k]? = w.heap[k]?
section
variable {w w' w2 : World} {S T R : Nat → Prop} {base n c k : Nat} {E : TypeId} {A : Option Addr} {xs : List Value} {g : Nat} {t : TypeId} {cs : Array Value}
theorem Chg.refl (w : World) (S : Nat → Prop) : Chg w w S := ⟨rfl, rfl, rfl, Nat.le_refl _, fun _ _ _ => rfl⟩
theorem Chg.mono (h : Chg w w' S) (k : ∀ i, S i → T i ∨ w.heap.size ≤ i) : Chg w w' T :=
  ⟨h.os, h.tape, h.output, h.size, fun i hi hn => h.block i hi fun hs => (k i hs).elim hn (fun h2 => by omega)⟩
theorem Chg.trans (h : Chg w w' S) (k : Chg w' w2 T) (hk : ∀ i, T i → S i ∨ w.heap.size ≤ i) : Chg w w2 S :=
  ⟨k.os.trans h.os, k.tape.trans h.tape, k.output.trans h.output, Nat.le_trans h.size k.size, fun i hi hn =>
    (k.block i (Nat.lt_of_lt_of_le hi h.size) fun ht => (hk i ht).elim hn (fun h2 => by omega)).trans (h.block i hi hn)⟩
theorem Chg.of {row : Option Nat} (h : Turn w w' row) (k : ∀ i, row = some i → S i) : Chg w w' S :=
  ⟨h.os, h.tape, h.output, h.size, fun i hi hn => h.block i hi fun e => hn (k i e.symm)⟩
theorem Chg.of0 (h : Turn w w' none) (S : Nat → Prop) : Chg w w' S := Chg.of h fun _ e => by cases e
theorem Chg.turn (h : Chg w w' S) (k : ∀ i, S i → w.heap.size ≤ i) : Turn w w' none :=
  ⟨h.os, h.tape, h.output, h.size, fun i hi _ => h.block i hi fun hs => by have := k i hs; omega⟩
theorem Chg.turn1 (h : Chg w w' (fun i => i = g)) : Turn w w' (some g) :=
  ⟨h.os, h.tape, h.output, h.size, fun i hi hn => h.block i hi fun hs => hn (by rw [hs])⟩
theorem Chg.drewN (h : Chg w w' S) (n : Nat) : Chg w (w'.drewN n) S := ⟨h.os, h.tape, h.output, h.size, h.block⟩
theorem Own.chg (h : Own w base E 1 A n c xs) (ht : Chg w w' S) (hs : ∀ g, blk A = some g → ¬ S g) : Own w' base E 1 A n c xs := by
  obtain ⟨h1, h2⟩ := h
  refine ⟨h1, ?_⟩
  rcases h2 with h2 | ⟨g, cap, cur, hv, hg, hh, r⟩
  · exact .inl h2
  · refine .inr ⟨g, cap, cur, hv, hg, ?_, r⟩
    have hlt : g < w.heap.size := (Array.getElem?_eq_some_iff.1 hh).1
    injection hv with hA
    exact (ht.block g hlt (hs g (by rw [hA]; rfl))).trans hh
theorem Blk.chg (h : Blk w g t cs) (ht : Chg w w' S) (hs : ¬ S g) : Blk w' g t cs := (ht.block g h.lt hs).trans h
theorem Rd.chg {B sz : Nat} (h : Rd w B sz A n xs) (hB : B ≤ w.heap.size) (ht : Chg w w' S) (hs : ∀ g, blk A = some g → ¬ S g) : Rd w' B sz A n xs :=
  h.keep fun a ha hb k => World.cell?_of_block (ht.block _ (by rw [addr_block]; omega) (by rw [addr_block]; exact hs _ (by rw [ha]; rfl)))
theorem Rd.chg0 {B m : Nat} {b : List UInt8} (h : Rd w B 1 A m (vbs b)) (hB : B ≤ w.heap.size) (ht : Chg w w' S) (hs : ∀ g, blk A = some g → 0 < m → ¬ S g) : Rd w' B 1 A m (vbs b) := by
  rcases Nat.eq_zero_or_pos m with rfl | hp
  · have hb : vbs b = [] := List.length_eq_zero_iff.1 h.len
    rw [hb]
    exact Rd.none_ w' B 1 0
  · exact h.chg hB ht fun g e => hs g e hp
theorem Rd.ne0 {B m : Nat} {b : List UInt8} (h : Rd w B 1 A m (vbs b)) (hB : B ≤ w.heap.size) (ht : Turn w w' (some g)) (hs : blk A = some g → 0 < m → False) : Rd w' B 1 A m (vbs b) :=
  h.chg0 hB (Chg.of (S := fun k => k = g) ht fun i e => by injection e with e; exact e.symm) fun k e hp hk => hs (hk ▸ e) hp
/-- The first k of a row. -/
theorem Own.front {A2 : Option Addr} {c2 : Nat} (h : Own w base E 1 A n c xs) (hk : k ≤ n) : Own w base E 1 A k c (xs.take k) := by
  obtain ⟨h1, h2⟩ := h
  refine ⟨by rw [List.length_take, h1]; omega, ?_⟩
  rcases h2 with ⟨hv, rfl⟩ | ⟨g, cap, cur, hv, hg, hh, hn, hm, hs, ht⟩
  · obtain rfl : k = 0 := by omega
    exact .inl ⟨hv, rfl⟩
  · injection hv with a b c
    subst a; subst c
    refine .inr ⟨g, _, cur, rfl, hg, hh, by omega, hm, hs, ?_⟩
    rw [← ht, List.take_take, Nat.mul_one, Nat.mul_one, Nat.min_eq_left hk]
/-- Two rows at one block have one address and one capacity. -/
theorem Own.one_ {E2 : TypeId} {b2 n2 c2 : Nat} {A2 : Option Addr} {ys : List Value} (h : Own w base E 1 A n c xs) (k : Own w b2 E2 1 A2 n2 c2 ys) (hg : blk A = some g) (hk : blk A2 = some g) : A2 = A ∧ c2 = c := by
  rcases h.2 with ⟨hv, _⟩ | ⟨g1, cap, cur, hv, _, hh, _, _, hs, _⟩
  · injection hv with a; subst a; cases hg
  · rcases k.2 with ⟨kv, _⟩ | ⟨g2, cap2, cur2, kv, _, kh, _, _, ks, _⟩
    · injection kv with a; subst a; cases hk
    · injection hv with a _ b
      injection kv with a2 _ b2
      subst a; subst a2; subst b; subst b2
      injection hg with hg
      injection hk with hk
      simp only at hg hk
      subst hg; subst hk
      rw [hh] at kh
      injection kh with kh
      injection kh with kh
      subst kh
      exact ⟨rfl, by omega⟩
end

section
variable {P : Program} {w : World} {ops : Array Oper} {rest : List Oper} {o : Oper} {a : Act} {Q : Exit → Act → World → Prop}
/-- append of bytes: in its own place, or in a new one. -/
theorem run_appF {base n c : Nat} {t ty E : TypeId} (he : El P t E 1 1) {A : Option Addr} {xs : List Value} (hown : Own w base E 1 A n c xs)
    {B m c' : Nat} {X : Option Addr} {news : List Value} (hr : Rd w B 1 X m news) (h1 : ∀ u ∈ news, u.oneCell' = true)
    (hby : (n + m) + (n + m) / 4 + 192 ≤ 281474976710656) (hbase : base ≤ w.heap.size) :
    ∃ A' c2 w', (Builtin.append_ #[t, t] ty #[.slice A n c, .slice X m c']).run P w = .ok (.slice A' (n + m) c2) w' ∧ Own w' base E 1 A' (n + m) c2 (xs ++ news) ∧
      ((A' = A ∧ c2 = c ∧ Turn w w' (blk A)) ∨ (blk A' = some w.heap.size ∧ Turn w w' none)) := by
  obtain ⟨A', c2, w', hrun, ho', hg, hb'⟩ := run_appW (ty := ty) he hown (c' := c') hr h1 (by unfold maxLen; omega) (by omega) hbase
  refine ⟨A', c2, w', hrun, ho', ?_⟩
  have he' := he
  obtain ⟨ht, i, z, hi, hz, hsz, hb, hzs, h0⟩ := he
  cases X with
  | none =>
    obtain ⟨rfl, rfl⟩ := rd_nil_len hr h0
    have h2 := run_app_nil (ty := ty) he' hown c'
    rw [Nat.add_zero] at hrun
    rw [hrun] at h2
    injection h2 with h2 h3
    injection h2 with h2 _ h4
    subst h2; subst h4; subst h3
    exact .inl ⟨rfl, rfl, Turn.refl _ _⟩
  | some ad =>
    have hcell : ∀ j u, news[j]? = some u → w.cell? (ad.add j) = some u := fun j u hu => by
      obtain ⟨a', ha, _, hc⟩ := hr.2 j u hu
      injection ha with ha
      subst ha
      exact hc
    have hl : news.length = m * i.size := by rw [hsz]; exact hr.1
    rcases hown.2 with ⟨hv, h0'⟩ | ⟨g, cap, cur, hv, _, hgg, hnc, _, hcs, _⟩
    · injection hv with e1 e2 e3
      subst e1; subst e2; subst e3
      by_cases hm : m = 0
      · subst hm
        have hnil : news = [] := by have := hr.1; simpa using this
        have h2 : (Builtin.append_ #[t, t] ty #[.slice none 0 0, .slice (some ad) 0 c']).run P w = .ok (.slice none 0 0) w := by
          simp [Builtin.append_, run_underlying ht, sizeOf, typeInfo, hi, Builtin.lenOf, Builtin.firstCells, storeCells]
          try simp [loadCells]
          try simp [loadCellsFrom]
        rw [hrun] at h2
        injection h2 with h2 h3
        injection h2 with h2 _ h4
        subst h2; subst h4; subst h3
        exact .inl ⟨rfl, rfl, Turn.refl _ _⟩
      · have h2 := run_append_nil (P := P) w t ty E i z ht hi hz ad m c' news hl hcell (by omega) (by omega) (by rw [hb]; omega)
        rw [hrun] at h2
        injection h2 with h2 h3
        injection h2 with h2
        exact .inr ⟨by rw [h2]; rfl, by rw [h3]; exact (Turn.refl w none).drew.alloc _⟩
    · injection hv with e1 _ e3
      subst e1; subst e3
      by_cases hroom : n + m ≤ c
      · have hfit : n * i.size + news.length ≤ cur.size := by rw [hl, hcs, hsz, ← Nat.add_mul]; exact Nat.mul_le_mul_right _ hroom
        have h2 := run_append_room (P := P) w t ty E i ht hi g n c cur hgg ad m c' news hl hcell h1 hroom hfit
        rw [hrun] at h2
        injection h2 with h2 _
        injection h2 with h2 _ h4
        exact .inl ⟨h2, h4, hg⟩
      · have h2 := run_append_grow (P := P) w t ty E i z ht hi hz ⟨g, 0, none⟩ n c xs (by rw [hsz]; exact hown.1) (World.ownsRow.cells hown (g := g) rfl) ad m c' news hl hcell (by omega) (by omega) (by rw [hb]; exact growslice_fits_wide (by omega) (by omega))
        rw [hrun] at h2
        injection h2 with h2 h3
        injection h2 with h2
        exact .inr ⟨by rw [h2]; rfl, by rw [h3]; exact (Turn.refl w none).drew.alloc _⟩
/-- The same, as a step of a region that draws its order. -/
theorem st_appF {K : Act → World → Prop} {F : Prop} (hgd : o.guard = none) (s x : Operand) (t : TypeId) (ho : o.op = .call { callee := .builtin .append, args := #[s, x], argTypes := #[t, t] })
    {base n c : Nat} {E : TypeId} (he : El P t E 1 1) {A : Option Addr} {xs : List Value} (hs : a.eval s = .slice A n c)
    {B m c' : Nat} {X : Option Addr} {news : List Value} (hx : a.eval x = .slice X m c') (hown : Own w base E 1 A n c xs) (hr : Rd w B 1 X m news) (h1 : ∀ u ∈ news, u.oneCell' = true)
    (hby : (n + m) + (n + m) / 4 + 192 ≤ 281474976710656) (hbase : base ≤ w.heap.size)
    (hK : ∀ A' c2 w', Own w' base E 1 A' (n + m) c2 (xs ++ news) → ((A' = A ∧ c2 = c ∧ Turn w w' (blk A)) ∨ (blk A' = some w.heap.size ∧ Turn w w' none)) → K (a.put o.dst (.slice A' (n + m) c2)) w') :
    if Region.wanted o (yielded ops a.tmps) = true then Oper.wp P o a w K Q else F := by
  have hw : Region.wanted o (yielded ops a.tmps) = true := by simp [Region.wanted, hgd]
  rw [if_pos hw]
  obtain ⟨A', c2, w', hrun, h2, h3⟩ := run_appF (ty := o.type) he hown (c' := c') hr h1 hby hbase
  unfold Oper.wp execOp
  simp only [ho, resolve, invoke, builtin, Sem.run_bind, Sem.run_pure, Result.andThen_ok, List.map_toArray, List.map_cons, List.map_nil, hs, hx, hrun]
  exact hK A' c2 w' h2 h3
end

/-- Cells that stand somewhere stand there still. -/
theorem rng_turn {w w' : World} {b o : Nat} {xs : List Value} {row : Option Nat} (h : w.rangeAt b o xs) (ht : Turn w w' row) (hb : b < w.heap.size) (hr : some b ≠ row) : w'.rangeAt b o xs := fun j v hv => (ht.cell (a := ⟨b, o + j, none⟩) hb hr).trans (h j v hv)
/-! ### A disk as data -/
/-- A file: what stands fast, what was written behind, what took the place of all, if anything did. -/
structure Fi where
  fa : List UInt8
  mo : List UInt8
  ot : List UInt8
  is : Bool
def Fi.all (f : Fi) : List UInt8 := if f.is = true then f.ot ++ f.mo else f.fa ++ f.mo
/-- A file all of which stands fast. -/
def stF (b : List UInt8) : Fi := ⟨b, [], [], false⟩
/-- What is left of it when the power goes. -/
def Fi.left (f : Fi) (keep : Int) (tail : List UInt8) : List UInt8 :=
  if f.is = true then (if 0 < keep then f.all else f.fa) else if f.mo = [] then f.fa else f.fa ++ (f.mo.take (Int.toNat keep)) ++ tail
structure Dsk where
  f : Nat → Fi
  lim : Int
  lf : Int
  armed : Bool
  dead : Bool
def upd {α : Type} (f : Nat → α) (n : Nat) (x : α) : Nat → α := fun k => if k = n then x else f k
theorem upd_same {α : Type} (f : Nat → α) (n : Nat) (x : α) : upd f n x n = x := if_pos rfl
theorem upd_ne {α : Type} (f : Nat → α) {n k : Nat} (x : α) (h : k ≠ n) : upd f n x k = f k := if_neg h
def Dsk.put (D : Dsk) (n : Nat) (x : Fi) : Dsk := { D with f := upd D.f n x }
def Dsk.size (D : Dsk) : Nat := (D.f 0).all.length + (D.f 1).all.length
def newD (lim : Int) : Dsk := ⟨fun _ => stF [], if lim < 0 then 0 else if 16777216 < lim then 16777216 else lim, 0, false, false⟩
/-- Is there such a file? -/
def fErr (n : Int) : Int := if n < 0 ∨ 1 < n then 1 else 0
/-- A call that counts: its error, and what is left. -/
def Dsk.gone (D : Dsk) : Bool := D.dead || (D.armed && decide (D.lf = 0))
def Dsk.cErr (D : Dsk) (n : Int) : Int := if D.gone = true then 140 else fErr n
def Dsk.cnt (D : Dsk) : Dsk := if D.gone = true then { D with dead := true } else { D with lf := D.lf - 1 }
def Dsk.wErr (D : Dsk) (n : Int) (b : List UInt8) : Int := if D.cErr n = 0 then (if D.lim < (D.size : Int) + b.length then 8 else 0) else D.cErr n
def Dsk.wr (D : Dsk) (n : Int) (b : List UInt8) : Dsk := if D.wErr n b = 0 then D.cnt.put n.toNat { D.f n.toNat with mo := (D.f n.toNat).mo ++ b } else D.cnt
def Dsk.rErr (D : Dsk) (n : Int) (b : List UInt8) : Int := if D.cErr n = 0 then (if D.lim < ((D.f (1 - n.toNat)).all.length : Int) + b.length then 8 else 0) else D.cErr n
def Dsk.rp (D : Dsk) (n : Int) (b : List UInt8) : Dsk := if D.rErr n b = 0 then D.cnt.put n.toNat ⟨(D.f n.toNat).fa, [], b, true⟩ else D.cnt
def Dsk.sy (D : Dsk) (n : Int) : Dsk := if D.cErr n = 0 then D.cnt.put n.toNat (stF (D.f n.toNat).all) else D.cnt
def Dsk.dErr (D : Dsk) (n : Int) : Int := if D.dead = true then 140 else fErr n
def Dsk.rd (D : Dsk) (n : Int) : List UInt8 := if D.dErr n = 0 then (D.f n.toNat).all else []
def Dsk.arm (D : Dsk) (c : Int) : Dsk := { D with armed := true, lf := if c < 0 then 0 else c }
def Dsk.crash (D : Dsk) (keep : Int) (tail : List UInt8) : Dsk := { D with f := fun i => stF ((D.f i).left keep tail), armed := false, dead := false }

/-- How great a file may be, and what it is not. -/
structure Fi.Ok (f : Fi) : Prop where
  fa : f.fa.length ≤ 140737521909760
  no : f.is = false → f.ot = []
  few : f.mo = [] ∧ f.is = false ∨ f.all.length ≤ 16777216
theorem Fi.Ok.all {f : Fi} (h : f.Ok) : f.all.length ≤ 140737521909760 := by
  rcases h.few with ⟨h1, h2⟩ | h1
  · have := h.fa
    simp only [Fi.all, h2, h1, List.append_nil]
    simpa using this
  · omega
structure Dsk.Ok (D : Dsk) : Prop where
  f : ∀ i, i < 2 → (D.f i).Ok
  l0 : 0 ≤ D.lim
  l1 : D.lim ≤ 16777216
  a0 : D.armed = true → 0 ≤ D.lf ∧ D.lf ≤ 9223372036854775807
theorem stF_all (b : List UInt8) : (stF b).all = b := by simp [stF, Fi.all]
theorem stF_ok {b : List UInt8} (h : b.length ≤ 140737521909760) : (stF b).Ok := ⟨h, fun _ => rfl, .inl ⟨rfl, rfl⟩⟩
theorem Fi.all_pre {f : Fi} (h : f.is = false) : f.all = f.fa ++ f.mo := by simp [Fi.all, h]
theorem newD_ok (lim : Int) : (newD lim).Ok := by
  refine ⟨fun i _ => stF_ok (by simp), ?_, ?_, fun h => by simp [newD] at h⟩
  all_goals
    simp only [newD]
    repeat' split
    all_goals omega
theorem Dsk.Ok.cnt {D : Dsk} (h : D.Ok) : D.cnt.Ok := by
  unfold Dsk.cnt
  split
  · exact ⟨h.f, h.l0, h.l1, h.a0⟩
  · rename_i hg
    refine ⟨h.f, h.l0, h.l1, fun ha => ?_⟩
    have ha : D.armed = true := ha
    have h2 := h.a0 ha
    have h3 : D.lf ≠ 0 := fun e => by simp [Dsk.gone, ha, e] at hg
    refine ⟨?_, ?_⟩
    · show 0 ≤ D.lf - 1
      omega
    · show D.lf - 1 ≤ _
      omega
theorem Dsk.cnt_f (D : Dsk) : D.cnt.f = D.f := by unfold Dsk.cnt; split <;> rfl
theorem Dsk.cnt_lim (D : Dsk) : D.cnt.lim = D.lim := by unfold Dsk.cnt; split <;> rfl
theorem Dsk.cnt_armed (D : Dsk) : D.cnt.armed = D.armed := by unfold Dsk.cnt; split <;> rfl
theorem Dsk.cnt_dead (D : Dsk) : D.cnt.dead = D.gone := by
  unfold Dsk.cnt
  split
  · rename_i h; exact h.symm
  · rename_i h
    have h2 : D.gone = false := by simpa using h
    rw [h2]
    simp [Dsk.gone] at h2
    exact h2.1
theorem Dsk.Ok.put {D : Dsk} (h : D.Ok) {n : Nat} {x : Fi} (hx : x.Ok) : (D.put n x).Ok :=
  ⟨fun i hi => by
    show (upd D.f n x i).Ok
    unfold upd
    split
    · exact hx
    · exact h.f i hi, h.l0, h.l1, h.a0⟩
theorem cErr_zero {D : Dsk} {n : Int} (h : D.cErr n = 0) : D.gone = false ∧ 0 ≤ n ∧ n ≤ 1 := by
  unfold Dsk.cErr fErr at h
  split at h
  · omega
  · rename_i hg
    split at h
    · omega
    · exact ⟨by simpa using hg, by omega, by omega⟩
theorem Dsk.size_ge (D : Dsk) {i : Nat} (hi : i < 2) : (D.f i).all.length ≤ D.size := by
  obtain rfl | rfl : i = 0 ∨ i = 1 := by omega
  all_goals (unfold Dsk.size; omega)
theorem Fi.fa_le {f : Fi} (h : f.Ok) (hi : f.is = false) : f.fa.length ≤ f.all.length := by rw [Fi.all_pre hi, List.length_append]; omega
theorem all_mo (f : Fi) (b : List UInt8) : ({ f with mo := f.mo ++ b } : Fi).all = f.all ++ b := by
  simp only [Fi.all]
  split <;> rw [List.append_assoc]
theorem wErr_zero {D : Dsk} {n : Int} {b : List UInt8} (h : D.wErr n b = 0) : D.cErr n = 0 ∧ (D.size : Int) + b.length ≤ D.lim := by
  unfold Dsk.wErr at h
  split at h
  · rename_i h1
    refine ⟨h1, ?_⟩
    split at h
    · omega
    · omega
  · rename_i h1; exact absurd h h1
theorem rErr_zero {D : Dsk} {n : Int} {b : List UInt8} (h : D.rErr n b = 0) : D.cErr n = 0 ∧ ((D.f (1 - n.toNat)).all.length : Int) + b.length ≤ D.lim := by
  unfold Dsk.rErr at h
  split at h
  · rename_i h1
    refine ⟨h1, ?_⟩
    split at h
    · omega
    · omega
  · rename_i h1; exact absurd h h1
theorem Dsk.Ok.wr {D : Dsk} (h : D.Ok) (n : Int) (b : List UInt8) : (D.wr n b).Ok := by
  unfold Dsk.wr
  split
  · rename_i he
    obtain ⟨h1, h2⟩ := wErr_zero he
    obtain ⟨_, n0, n1⟩ := cErr_zero h1
    have hi : n.toNat < 2 := by omega
    have hf := h.f _ hi
    have hs := D.size_ge hi
    have hl := h.l1
    refine h.cnt.put ⟨hf.fa, hf.no, .inr ?_⟩
    rw [all_mo, List.length_append]
    omega
  · exact h.cnt
theorem Dsk.Ok.rp {D : Dsk} (h : D.Ok) (n : Int) (b : List UInt8) : (D.rp n b).Ok := by
  unfold Dsk.rp
  split
  · rename_i he
    obtain ⟨h1, h2⟩ := rErr_zero he
    obtain ⟨_, n0, n1⟩ := cErr_zero h1
    have hf := h.f n.toNat (by omega)
    have hl := h.l1
    refine h.cnt.put ⟨hf.fa, fun e => by simp at e, .inr ?_⟩
    simp only [Fi.all, if_true, List.append_nil]
    omega
  · exact h.cnt
theorem Dsk.Ok.sy {D : Dsk} (h : D.Ok) (n : Int) : (D.sy n).Ok := by
  unfold Dsk.sy
  split
  · rename_i he
    obtain ⟨_, n0, n1⟩ := cErr_zero he
    exact h.cnt.put (stF_ok (h.f n.toNat (by omega)).all)
  · exact h.cnt
theorem Dsk.Ok.arm {D : Dsk} (h : D.Ok) {c : Int} (hc : c ≤ 9223372036854775807) : (D.arm c).Ok := by
  refine ⟨h.f, h.l0, h.l1, fun _ => ?_⟩
  simp only [Dsk.arm]
  split <;> omega
theorem left_len {f : Fi} (h : f.Ok) (keep : Int) {tail : List UInt8} (ht : tail.length ≤ 140737488351232) : (f.left keep tail).length ≤ 140737521909760 := by
  have h1 := h.all
  have h2 := h.fa
  unfold Fi.left
  split
  · split <;> assumption
  · rename_i hi
    have hi : f.is = false := by simpa using hi
    split
    · exact h2
    · rename_i hm
      rcases h.few with ⟨h3, _⟩ | h3
      · exact absurd h3 hm
      · rw [Fi.all_pre hi, List.length_append] at h3
        rw [List.length_append, List.length_append, List.length_take]
        omega
theorem Dsk.Ok.crash {D : Dsk} (h : D.Ok) (keep : Int) {tail : List UInt8} (ht : tail.length ≤ 140737488351232) : (D.crash keep tail).Ok :=
  ⟨fun i hi => stF_ok (left_len (h.f i hi) keep ht), h.l0, h.l1, fun e => by simp [Dsk.crash] at e⟩
end Go.Proofs.Ytogajpiefegdeaa
