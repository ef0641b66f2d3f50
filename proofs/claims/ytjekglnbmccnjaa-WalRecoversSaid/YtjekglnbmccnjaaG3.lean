import Derived.Test.YtjekglnbmccnjaaG2
import Derived.Test.YtjekglnbmccnjaaG1
set_option linter.unusedSimpArgs false
set_option linter.unusedVariables false
set_option linter.unusedSectionVars false
/-
  Layer 14: a disk as data (what each call leaves of it), and blocks of which only some turn. No contract of the program's is here.
-/
namespace Go.Proofs.Ytjekglnbmccnjaa
set_option linter.unusedSimpArgs false
set_option linter.unusedVariables false
open Go.RowKit

/-! ### Blocks of which only some turn -/
/-- From w to w' nothing has turned but what is new, and blocks of S. -/
structure Chg (w w' : World) (S : Nat → Prop) : Prop where
  os : w'.os = w.os
  tape : w'.tape = w.tape
  output : w'.output = w.output
  size : w.heap.size ≤ w'.heap.size
  block : ∀ k, k < w.heap.size → ¬ S k → w'.heap[k]? = w.heap[k]?
section
variable {w w' w2 : World} {S T R : Nat → Prop} {base n c k : Nat} {E : TypeId} {A : Option Addr} {xs : List Value} {g : Nat} {t : TypeId} {cs : Array Value}
theorem Chg.refl (w : World) (S : Nat → Prop) : Chg w w S := ⟨rfl, rfl, rfl, Nat.le_refl _, fun _ _ _ => rfl⟩
theorem Chg.mono (h : Chg w w' S) (k : ∀ i, S i → T i ∨ w.heap.size ≤ i) : Chg w w' T :=
  ⟨h.os, h.tape, h.output, h.size, fun i hi hn => h.block i hi fun hs => (k i hs).elim hn (fun h2 => by omega)⟩
theorem Chg.trans (h : Chg w w' S) (k : Chg w' w2 T) (hk : ∀ i, T i → S i ∨ w.heap.size ≤ i) : Chg w w2 S :=
  ⟨k.os.trans h.os, k.tape.trans h.tape, k.output.trans h.output, Nat.le_trans h.size k.size, fun i hi hn =>
    (k.block i (Nat.lt_of_lt_of_le hi h.size) fun ht => (hk i ht).elim hn (fun h2 => by omega)).trans (h.block i hi hn)⟩
theorem Chg.of {row : Option Nat} (h : Turn w w' row) (k : ∀ i, row = some i → S i) : Chg w w' S :=
  ⟨h.os, h.tape, h.output, h.size, fun i hi hn => h.block i hi fun e => hn (k i e.symm)⟩
theorem Chg.of0 (h : Turn w w' none) (S : Nat → Prop) : Chg w w' S := Chg.of h fun _ e => by cases e
theorem Chg.turn (h : Chg w w' S) (k : ∀ i, S i → w.heap.size ≤ i) : Turn w w' none :=
  ⟨h.os, h.tape, h.output, h.size, fun i hi _ => h.block i hi fun hs => by have := k i hs; omega⟩
theorem Chg.turn1 (h : Chg w w' (fun i => i = g)) : Turn w w' (some g) :=
  ⟨h.os, h.tape, h.output, h.size, fun i hi hn => h.block i hi fun hs => hn (by rw [hs])⟩
theorem Chg.drewN (h : Chg w w' S) (n : Nat) : Chg w (w'.drewN n) S := ⟨h.os, h.tape, h.output, h.size, h.block⟩
theorem Own.chg (h : Own w base E 1 A n c xs) (ht : Chg w w' S) (hs : ∀ g, blk A = some g → ¬ S g) : Own w' base E 1 A n c xs := by
  obtain ⟨h1, h2⟩ := h
  refine ⟨h1, ?_⟩
  rcases h2 with h2 | ⟨g, cap, cur, hv, hg, hh, r⟩
  · exact .inl h2
  · refine .inr ⟨g, cap, cur, hv, hg, ?_, r⟩
    have hlt : g < w.heap.size := (Array.getElem?_eq_some_iff.1 hh).1
    injection hv with hA
    exact (ht.block g hlt (hs g (by rw [hA]; rfl))).trans hh
theorem Blk.chg (h : Blk w g t cs) (ht : Chg w w' S) (hs : ¬ S g) : Blk w' g t cs := (ht.block g h.lt hs).trans h
theorem Rd.chg {B sz : Nat} (h : Rd w B sz A n xs) (hB : B ≤ w.heap.size) (ht : Chg w w' S) (hs : ∀ g, blk A = some g → ¬ S g) : Rd w' B sz A n xs :=
  h.keep fun a ha hb k => World.cell?_of_block (ht.block _ (by rw [addr_block]; omega) (by rw [addr_block]; exact hs _ (by rw [ha]; rfl)))
theorem Rd.chg0 {B m : Nat} {b : List UInt8} (h : Rd w B 1 A m (vbs b)) (hB : B ≤ w.heap.size) (ht : Chg w w' S) (hs : ∀ g, blk A = some g → 0 < m → ¬ S g) : Rd w' B 1 A m (vbs b) := by
  rcases Nat.eq_zero_or_pos m with rfl | hp
  · have hb : vbs b = [] := List.length_eq_zero_iff.1 h.len
    rw [hb]
    exact Rd.none_ w' B 1 0
  · exact h.chg hB ht fun g e => hs g e hp
theorem Rd.ne0 {B m : Nat} {b : List UInt8} (h : Rd w B 1 A m (vbs b)) (hB : B ≤ w.heap.size) (ht : Turn w w' (some g)) (hs : blk A = some g → 0 < m → False) : Rd w' B 1 A m (vbs b) :=
  h.chg0 hB (Chg.of (S := fun k => k = g) ht fun i e => by injection e with e; exact e.symm) fun k e hp hk => hs (hk ▸ e) hp
/-- The first k of a row. -/
theorem Own.front {A2 : Option Addr} {c2 : Nat} (h : Own w base E 1 A n c xs) (hk : k ≤ n) : Own w base E 1 A k c (xs.take k) := by
  obtain ⟨h1, h2⟩ := h
  refine ⟨by rw [List.length_take, h1]; omega, ?_⟩
  rcases h2 with ⟨hv, rfl⟩ | ⟨g, cap, cur, hv, hg, hh, hn, hm, hs, ht⟩
  · obtain rfl : k = 0 := by omega
    exact .inl ⟨hv, rfl⟩
  · injection hv with a b c
    subst a; subst c
    refine .inr ⟨g, _, cur, rfl, hg, hh, by omega, hm, hs, ?_⟩
    rw [← ht, List.take_take, Nat.mul_one, Nat.mul_one, Nat.min_eq_left hk]
/-- Two rows at one block have one address and one capacity. -/
theorem Own.one_ {E2 : TypeId} {b2 n2 c2 : Nat} {A2 : Option Addr} {ys : List Value} (h : Own w base E 1 A n c xs) (k : Own w b2 E2 1 A2 n2 c2 ys) (hg : blk A = some g) (hk : blk A2 = some g) : A2 = A ∧ c2 = c := by
  rcases h.2 with ⟨hv, _⟩ | ⟨g1, cap, cur, hv, _, hh, _, _, hs, _⟩
  · injection hv with a; subst a; cases hg
  · rcases k.2 with ⟨kv, _⟩ | ⟨g2, cap2, cur2, kv, _, kh, _, _, ks, _⟩
    · injection kv with a; subst a; cases hk
    · injection hv with a _ b
      injection kv with a2 _ b2
      subst a; subst a2; subst b; subst b2
      injection hg with hg
      injection hk with hk
      simp only at hg hk
      subst hg; subst hk
      rw [hh] at kh
      injection kh with kh
      injection kh with kh
      subst kh
      exact ⟨rfl, by omega⟩
end

section
variable {P : Program} {w : World} {ops : Array Oper} {rest : List Oper} {o : Oper} {a : Act} {Q : Exit → Act → World → Prop}
/-- append of bytes: in its own place, or in a new one. -/
theorem run_appF {base n c : Nat} {t ty E : TypeId} (he : El P t E 1 1) {A : Option Addr} {xs : List Value} (hown : Own w base E 1 A n c xs)
    {B m c' : Nat} {X : Option Addr} {news : List Value} (hr : Rd w B 1 X m news) (h1 : ∀ u ∈ news, u.oneCell' = true)
    (hby : (n + m) + (n + m) / 4 + 192 ≤ 281474976710656) (hbase : base ≤ w.heap.size) :
    ∃ A' c2 w', (Builtin.append_ #[t, t] ty #[.slice A n c, .slice X m c']).run P w = .ok (.slice A' (n + m) c2) w' ∧ Own w' base E 1 A' (n + m) c2 (xs ++ news) ∧
      ((A' = A ∧ c2 = c ∧ Turn w w' (blk A)) ∨ (blk A' = some w.heap.size ∧ Turn w w' none)) := by
  obtain ⟨A', c2, w', hrun, ho', hg, hb'⟩ := run_appW (ty := ty) he hown (c' := c') hr h1 (by unfold maxLen; omega) (by omega) hbase
  refine ⟨A', c2, w', hrun, ho', ?_⟩
  have he' := he
  obtain ⟨ht, i, z, hi, hz, hsz, hb, hzs, h0⟩ := he
  cases X with
  | none =>
    obtain ⟨rfl, rfl⟩ := rd_nil_len hr h0
    have h2 := run_app_nil (ty := ty) he' hown c'
    rw [Nat.add_zero] at hrun
    rw [hrun] at h2
    injection h2 with h2 h3
    injection h2 with h2 _ h4
    subst h2; subst h4; subst h3
    exact .inl ⟨rfl, rfl, Turn.refl _ _⟩
  | some ad =>
    have hcell : ∀ j u, news[j]? = some u → w.cell? (ad.add j) = some u := fun j u hu => by
      obtain ⟨a', ha, _, hc⟩ := hr.2 j u hu
      injection ha with ha
      subst ha
      exact hc
    have hl : news.length = m * i.size := by rw [hsz]; exact hr.1
    rcases hown.2 with ⟨hv, h0'⟩ | ⟨g, cap, cur, hv, _, hgg, hnc, _, hcs, _⟩
    · injection hv with e1 e2 e3
      subst e1; subst e2; subst e3
      by_cases hm : m = 0
      · subst hm
        have hnil : news = [] := by have := hr.1; simpa using this
        have h2 : (Builtin.append_ #[t, t] ty #[.slice none 0 0, .slice (some ad) 0 c']).run P w = .ok (.slice none 0 0) w := by
          simp [Builtin.append_, run_underlying ht, sizeOf, typeInfo, hi, Builtin.lenOf, Builtin.firstCells, storeCells]
          try simp [loadCells]
          try simp [loadCellsFrom]
        rw [hrun] at h2
        injection h2 with h2 h3
        injection h2 with h2 _ h4
        subst h2; subst h4; subst h3
        exact .inl ⟨rfl, rfl, Turn.refl _ _⟩
      · have h2 := run_append_nil (P := P) w t ty E i z ht hi hz ad m c' news hl hcell (by omega) (by omega) (by rw [hb]; omega)
        rw [hrun] at h2
        injection h2 with h2 h3
        injection h2 with h2
        exact .inr ⟨by rw [h2]; rfl, by rw [h3]; exact (Turn.refl w none).drew.alloc _⟩
    · injection hv with e1 _ e3
      subst e1; subst e3
      by_cases hroom : n + m ≤ c
      · have hfit : n * i.size + news.length ≤ cur.size := by rw [hl, hcs, hsz, ← Nat.add_mul]; exact Nat.mul_le_mul_right _ hroom
        have h2 := run_append_room (P := P) w t ty E i ht hi g n c cur hgg ad m c' news hl hcell h1 hroom hfit
        rw [hrun] at h2
        injection h2 with h2 _
        injection h2 with h2 _ h4
        exact .inl ⟨h2, h4, hg⟩
      · have h2 := run_append_grow (P := P) w t ty E i z ht hi hz ⟨g, 0, none⟩ n c xs (by rw [hsz]; exact hown.1) (World.ownsRow.cells hown (g := g) rfl) ad m c' news hl hcell (by omega) (by omega) (by rw [hb]; exact growslice_fits_wide (by omega) (by omega))
        rw [hrun] at h2
        injection h2 with h2 h3
        injection h2 with h2
        exact .inr ⟨by rw [h2]; rfl, by rw [h3]; exact (Turn.refl w none).drew.alloc _⟩
/-- The same, as a step of a region that draws its order. -/
theorem st_appF {K : Act → World → Prop} {F : Prop} (hgd : o.guard = none) (s x : Operand) (t : TypeId) (ho : o.op = .call { callee := .builtin .append, args := #[s, x], argTypes := #[t, t] })
    {base n c : Nat} {E : TypeId} (he : El P t E 1 1) {A : Option Addr} {xs : List Value} (hs : a.eval s = .slice A n c)
    {B m c' : Nat} {X : Option Addr} {news : List Value} (hx : a.eval x = .slice X m c') (hown : Own w base E 1 A n c xs) (hr : Rd w B 1 X m news) (h1 : ∀ u ∈ news, u.oneCell' = true)
    (hby : (n + m) + (n + m) / 4 + 192 ≤ 281474976710656) (hbase : base ≤ w.heap.size)
    (hK : ∀ A' c2 w', Own w' base E 1 A' (n + m) c2 (xs ++ news) → ((A' = A ∧ c2 = c ∧ Turn w w' (blk A)) ∨ (blk A' = some w.heap.size ∧ Turn w w' none)) → K (a.put o.dst (.slice A' (n + m) c2)) w') :
    if Region.wanted o (yielded ops a.tmps) = true then Oper.wp P o a w K Q else F := by
  have hw : Region.wanted o (yielded ops a.tmps) = true := by simp [Region.wanted, hgd]
  rw [if_pos hw]
  obtain ⟨A', c2, w', hrun, h2, h3⟩ := run_appF (ty := o.type) he hown (c' := c') hr h1 hby hbase
  unfold Oper.wp execOp
  simp only [ho, resolve, invoke, builtin, Sem.run_bind, Sem.run_pure, Result.andThen_ok, List.map_toArray, List.map_cons, List.map_nil, hs, hx, hrun]
  exact hK A' c2 w' h2 h3
end

/-- Cells that stand somewhere stand there still. -/
theorem rng_turn {w w' : World} {b o : Nat} {xs : List Value} {row : Option Nat} (h : w.rangeAt b o xs) (ht : Turn w w' row) (hb : b < w.heap.size) (hr : some b ≠ row) : w'.rangeAt b o xs := fun j v hv => (ht.cell (a := ⟨b, o + j, none⟩) hb hr).trans (h j v hv)
/-! ### A disk as data -/
/-- A file: what stands fast, what was written behind, what took the place of all, if anything did. -/
structure Fi where
  fa : List UInt8
  mo : List UInt8
  ot : List UInt8
  is : Bool
def Fi.all (f : Fi) : List UInt8 := if f.is = true then f.ot ++ f.mo else f.fa ++ f.mo
/-- A file all of which stands fast. -/
def stF (b : List UInt8) : Fi := ⟨b, [], [], false⟩
/-- What is left of it when the power goes. -/
def Fi.left (f : Fi) (keep : Int) (tail : List UInt8) : List UInt8 :=
  if f.is = true then (if 0 < keep then f.all else f.fa) else if f.mo = [] then f.fa else f.fa ++ (f.mo.take (Int.toNat keep)) ++ tail
structure Dsk where
  f : Nat → Fi
  lim : Int
  lf : Int
  armed : Bool
  dead : Bool
def upd {α : Type} (f : Nat → α) (n : Nat) (x : α) : Nat → α := fun k => if k = n then x else f k
theorem upd_same {α : Type} (f : Nat → α) (n : Nat) (x : α) : upd f n x n = x := if_pos rfl
theorem upd_ne {α : Type} (f : Nat → α) {n k : Nat} (x : α) (h : k ≠ n) : upd f n x k = f k := if_neg h
def Dsk.put (D : Dsk) (n : Nat) (x : Fi) : Dsk := { D with f := upd D.f n x }
def Dsk.size (D : Dsk) : Nat := (D.f 0).all.length + (D.f 1).all.length
def newD (lim : Int) : Dsk := ⟨fun _ => stF [], if lim < 0 then 0 else if 16777216 < lim then 16777216 else lim, 0, false, false⟩
/-- Is there such a file? -/
def fErr (n : Int) : Int := if n < 0 ∨ 1 < n then 1 else 0
/-- A call that counts: its error, and what is left. -/
def Dsk.gone (D : Dsk) : Bool := D.dead || (D.armed && decide (D.lf = 0))
def Dsk.cErr (D : Dsk) (n : Int) : Int := if D.gone = true then 140 else fErr n
def Dsk.cnt (D : Dsk) : Dsk := if D.gone = true then { D with dead := true } else { D with lf := D.lf - 1 }
def Dsk.wErr (D : Dsk) (n : Int) (b : List UInt8) : Int := if D.cErr n = 0 then (if D.lim < (D.size : Int) + b.length then 8 else 0) else D.cErr n
def Dsk.wr (D : Dsk) (n : Int) (b : List UInt8) : Dsk := if D.wErr n b = 0 then D.cnt.put n.toNat { D.f n.toNat with mo := (D.f n.toNat).mo ++ b } else D.cnt
def Dsk.rErr (D : Dsk) (n : Int) (b : List UInt8) : Int := if D.cErr n = 0 then (if D.lim < ((D.f (1 - n.toNat)).all.length : Int) + b.length then 8 else 0) else D.cErr n
def Dsk.rp (D : Dsk) (n : Int) (b : List UInt8) : Dsk := if D.rErr n b = 0 then D.cnt.put n.toNat ⟨(D.f n.toNat).fa, [], b, true⟩ else D.cnt
def Dsk.sy (D : Dsk) (n : Int) : Dsk := if D.cErr n = 0 then D.cnt.put n.toNat (stF (D.f n.toNat).all) else D.cnt
def Dsk.dErr (D : Dsk) (n : Int) : Int := if D.dead = true then 140 else fErr n
def Dsk.rd (D : Dsk) (n : Int) : List UInt8 := if D.dErr n = 0 then (D.f n.toNat).all else []
def Dsk.arm (D : Dsk) (c : Int) : Dsk := { D with armed := true, lf := if c < 0 then 0 else c }
def Dsk.crash (D : Dsk) (keep : Int) (tail : List UInt8) : Dsk := { D with f := fun i => stF ((D.f i).left keep tail), armed := false, dead := false }

/-- How great a file may be, and what it is not. -/
structure Fi.Ok (f : Fi) : Prop where
  fa : f.fa.length ≤ 140737521909760
  no : f.is = false → f.ot = []
  few : f.mo = [] ∧ f.is = false ∨ f.all.length ≤ 16777216
theorem Fi.Ok.all {f : Fi} (h : f.Ok) : f.all.length ≤ 140737521909760 := by
  rcases h.few with ⟨h1, h2⟩ | h1
  · have := h.fa
    simp only [Fi.all, h2, h1, List.append_nil]
    simpa using this
  · omega
structure Dsk.Ok (D : Dsk) : Prop where
  f : ∀ i, i < 2 → (D.f i).Ok
  l0 : 0 ≤ D.lim
  l1 : D.lim ≤ 16777216
  a0 : D.armed = true → 0 ≤ D.lf ∧ D.lf ≤ 9223372036854775807
theorem stF_all (b : List UInt8) : (stF b).all = b := by simp [stF, Fi.all]
theorem stF_ok {b : List UInt8} (h : b.length ≤ 140737521909760) : (stF b).Ok := ⟨h, fun _ => rfl, .inl ⟨rfl, rfl⟩⟩
theorem Fi.all_pre {f : Fi} (h : f.is = false) : f.all = f.fa ++ f.mo := by simp [Fi.all, h]
theorem newD_ok (lim : Int) : (newD lim).Ok := by
  refine ⟨fun i _ => stF_ok (by simp), ?_, ?_, fun h => by simp [newD] at h⟩
  all_goals
    simp only [newD]
    repeat' split
    all_goals omega
theorem Dsk.Ok.cnt {D : Dsk} (h : D.Ok) : D.cnt.Ok := by
  unfold Dsk.cnt
  split
  · exact ⟨h.f, h.l0, h.l1, h.a0⟩
  · rename_i hg
    refine ⟨h.f, h.l0, h.l1, fun ha => ?_⟩
    have ha : D.armed = true := ha
    have h2 := h.a0 ha
    have h3 : D.lf ≠ 0 := fun e => by simp [Dsk.gone, ha, e] at hg
    refine ⟨?_, ?_⟩
    · show 0 ≤ D.lf - 1
      omega
    · show D.lf - 1 ≤ _
      omega
theorem Dsk.cnt_f (D : Dsk) : D.cnt.f = D.f := by unfold Dsk.cnt; split <;> rfl
theorem Dsk.cnt_lim (D : Dsk) : D.cnt.lim = D.lim := by unfold Dsk.cnt; split <;> rfl
theorem Dsk.cnt_armed (D : Dsk) : D.cnt.armed = D.armed := by unfold Dsk.cnt; split <;> rfl
theorem Dsk.cnt_dead (D : Dsk) : D.cnt.dead = D.gone := by
  unfold Dsk.cnt
  split
  · rename_i h; exact h.symm
  · rename_i h
    have h2 : D.gone = false := by simpa using h
    rw [h2]
    simp [Dsk.gone] at h2
    exact h2.1
theorem Dsk.Ok.put {D : Dsk} (h : D.Ok) {n : Nat} {x : Fi} (hx : x.Ok) : (D.put n x).Ok :=
  ⟨fun i hi => by
    show (upd D.f n x i).Ok
    unfold upd
    split
    · exact hx
    · exact h.f i hi, h.l0, h.l1, h.a0⟩
theorem cErr_zero {D : Dsk} {n : Int} (h : D.cErr n = 0) : D.gone = false ∧ 0 ≤ n ∧ n ≤ 1 := by
  unfold Dsk.cErr fErr at h
  split at h
  · omega
  · rename_i hg
    split at h
    · omega
    · exact ⟨by simpa using hg, by omega, by omega⟩
theorem Dsk.size_ge (D : Dsk) {i : Nat} (hi : i < 2) : (D.f i).all.length ≤ D.size := by
  obtain rfl | rfl : i = 0 ∨ i = 1 := by omega
  all_goals (unfold Dsk.size; omega)
theorem Fi.fa_le {f : Fi} (h : f.Ok) (hi : f.is = false) : f.fa.length ≤ f.all.length := by rw [Fi.all_pre hi, List.length_append]; omega
theorem all_mo (f : Fi) (b : List UInt8) : ({ f with mo := f.mo ++ b } : Fi).all = f.all ++ b := by
  simp only [Fi.all]
  split <;> rw [List.append_assoc]
theorem wErr_zero {D : Dsk} {n : Int} {b : List UInt8} (h : D.wErr n b = 0) : D.cErr n = 0 ∧ (D.size : Int) + b.length ≤ D.lim := by
  unfold Dsk.wErr at h
  split at h
  · rename_i h1
    refine ⟨h1, ?_⟩
    split at h
    · omega
    · omega
  · rename_i h1; exact absurd h h1
theorem rErr_zero {D : Dsk} {n : Int} {b : List UInt8} (h : D.rErr n b = 0) : D.cErr n = 0 ∧ ((D.f (1 - n.toNat)).all.length : Int) + b.length ≤ D.lim := by
  unfold Dsk.rErr at h
  split at h
  · rename_i h1
    refine ⟨h1, ?_⟩
    split at h
    · omega
    · omega
  · rename_i h1; exact absurd h h1
theorem Dsk.Ok.wr {D : Dsk} (h : D.Ok) (n : Int) (b : List UInt8) : (D.wr n b).Ok := by
  unfold Dsk.wr
  split
  · rename_i he
    obtain ⟨h1, h2⟩ := wErr_zero he
    obtain ⟨_, n0, n1⟩ := cErr_zero h1
    have hi : n.toNat < 2 := by omega
    have hf := h.f _ hi
    have hs := D.size_ge hi
    have hl := h.l1
    refine h.cnt.put ⟨hf.fa, hf.no, .inr ?_⟩
    rw [all_mo, List.length_append]
    omega
  · exact h.cnt
theorem Dsk.Ok.rp {D : Dsk} (h : D.Ok) (n : Int) (b : List UInt8) : (D.rp n b).Ok := by
  unfold Dsk.rp
  split
  · rename_i he
    obtain ⟨h1, h2⟩ := rErr_zero he
    obtain ⟨_, n0, n1⟩ := cErr_zero h1
    have hf := h.f n.toNat (by omega)
    have hl := h.l1
    refine h.cnt.put ⟨hf.fa, fun e => by simp at e, .inr ?_⟩
    simp only [Fi.all, if_true, List.append_nil]
    omega
  · exact h.cnt
theorem Dsk.Ok.sy {D : Dsk} (h : D.Ok) (n : Int) : (D.sy n).Ok := by
  unfold Dsk.sy
  split
  · rename_i he
    obtain ⟨_, n0, n1⟩ := cErr_zero he
    exact h.cnt.put (stF_ok (h.f n.toNat (by omega)).all)
  · exact h.cnt
theorem Dsk.Ok.arm {D : Dsk} (h : D.Ok) {c : Int} (hc : c ≤ 9223372036854775807) : (D.arm c).Ok := by
  refine ⟨h.f, h.l0, h.l1, fun _ => ?_⟩
  simp only [Dsk.arm]
  split <;> omega
theorem left_len {f : Fi} (h : f.Ok) (keep : Int) {tail : List UInt8} (ht : tail.length ≤ 140737488351232) : (f.left keep tail).length ≤ 140737521909760 := by
  have h1 := h.all
  have h2 := h.fa
  unfold Fi.left
  split
  · split <;> assumption
  · rename_i hi
    have hi : f.is = false := by simpa using hi
    split
    · exact h2
    · rename_i hm
      rcases h.few with ⟨h3, _⟩ | h3
      · exact absurd h3 hm
      · rw [Fi.all_pre hi, List.length_append] at h3
        rw [List.length_append, List.length_append, List.length_take]
        omega
theorem Dsk.Ok.crash {D : Dsk} (h : D.Ok) (keep : Int) {tail : List UInt8} (ht : tail.length ≤ 140737488351232) : (D.crash keep tail).Ok :=
  ⟨fun i hi => stF_ok (left_len (h.f i hi) keep ht), h.l0, h.l1, fun e => by simp [Dsk.crash] at e⟩
end Go.Proofs.Ytjekglnbmccnjaa
/-
  Layer 15, pure side: what is had of a disk's two files; what is had behind a crash, whatever call was under way.
-/
namespace Go.Proofs.Ytjekglnbmccnjaa
set_option linter.unusedSimpArgs false
set_option linter.unusedVariables false

/-- What a log has. -/
structure Kp where
  has : Bool
  snap : List UInt8
  recs : List (List UInt8)
  next : Nat
/-- The snapshot: whether there is one, its bytes, its number. -/
def wSnapOf (sn : List UInt8) : Option (Bool × List UInt8 × Nat) :=
  if sn = [] then some (false, [], 0)
  else if (fTake sn).2.2 ≠ 0 ∨ (fTake sn).2.1 ≠ sn.length ∨ (pTake (fTake sn).1).2.2 ≠ 0 then none
  else some (true, (fTake sn).1.drop (pTake (fTake sn).1).2.1, (pTake (fTake sn).1).1)
/-- What is had of both files, and how many bytes of the log are kept. -/
def wReads (lg sn : List UInt8) : Option (Kp × Nat) := match wSnapOf sn with
  | none => none
  | some (h, s, n) => some (⟨h, s, (wGo lg.length n [] n lg).1, (wGo lg.length n [] n lg).2.1⟩, (wGo lg.length n [] n lg).2.2)
/-- What must be had: a snapshot of number s, and records from it on. -/
structure Md where
  has : Bool
  s : Nat
  snap : List UInt8
  l : List (List UInt8)
def Md.log (m : Md) : List UInt8 := wAll m.s m.l
def Md.sn (m : Md) : List UInt8 := if m.has = true then fBytes (wRec m.s m.snap) else []
def Md.next (m : Md) : Nat := m.s + m.l.length
def Md.kp (m : Md) : Kp := ⟨m.has, m.snap, m.l, m.next⟩
structure Md.Ok (m : Md) : Prop where
  n : m.next ≤ 4611686018427387904
  s : m.has = true → m.s < 4611686018427387904
  l : ∀ r ∈ m.l, r.length ≤ 1048568
  p : m.snap.length ≤ 1048568
  z : m.has = false → m.s = 0 ∧ m.snap = []
theorem wRec_len {n : Nat} {r : List UInt8} (h : r.length ≤ 1048568) : (wRec n r).length ≤ 1048576 := by
  unfold wRec
  rw [List.length_append, pPut_len]
  have := pSize_le n
  omega
theorem wAll_len : ∀ (n : Nat) (l : List (List UInt8)), l.length ≤ (wAll n l).length
  | _, [] => by simp
  | n, r :: l => by
    have h := wAll_len (n + 1) l
    have hb := fBytes_len (wRec n r)
    unfold fSize at hb
    rw [wAll, List.length_append, List.length_cons]
    omega
theorem wAll_app : ∀ (n : Nat) (l k : List (List UInt8)), wAll n (l ++ k) = wAll n l ++ wAll (n + l.length) k
  | n, [], k => by simp [wAll]
  | n, r :: l, k => by
    rw [List.cons_append, wAll, wAll, wAll_app (n + 1) l k, List.append_assoc, List.length_cons]
    congr 3
    omega
theorem wSnapOf_md {m : Md} (h : m.Ok) : wSnapOf m.sn = some (m.has, m.snap, m.s) := by
  unfold wSnapOf Md.sn
  cases hh : m.has with
  | false =>
    obtain ⟨e1, e2⟩ := h.z hh
    have e : (if false = true then fBytes (wRec m.s m.snap) else []) = [] := if_neg (by simp)
    rw [e, if_pos rfl, e1, e2]
  | true =>
    have hx := wRec_len (n := m.s) h.p
    have ht := fTake_frame hx []
    rw [List.append_nil] at ht
    obtain ⟨hp, hd⟩ := wRec_take (h.s hh) m.snap
    have hb := fBytes_len (wRec m.s m.snap)
    unfold fSize at hb
    have hne : fBytes (wRec m.s m.snap) ≠ [] := fun e => by
      have := congrArg List.length e
      rw [List.length_nil] at this
      omega
    rw [if_pos rfl, if_neg hne, ht]
    simp only [hp, hd]
    simp
/-- Both files as they should be, with records of lesser numbers ahead, and with what is no frame behind. -/
theorem wReads_md {m : Md} (h : m.Ok) {a : Nat} {lows : List (List UInt8)} {b : List UInt8} (hl : lows = [] ∨ a + lows.length ≤ m.s) (hq : ∀ r ∈ lows, r.length ≤ 1048568) (hb : b = [] ∨ (fTake b).2.2 ≠ 0) :
    wReads (wAll a lows ++ m.log ++ b) m.sn = some (m.kp, (wAll a lows).length + m.log.length) := by
  unfold wReads
  rw [wSnapOf_md h]
  simp only
  have h1 := wAll_len a lows
  have h2 := wAll_len m.s m.l
  have hn := h.n
  unfold Md.next at hn
  obtain ⟨f, hf⟩ : ∃ f, (wAll a lows ++ m.log ++ b).length = lows.length + f := ⟨(wAll a lows ++ m.log ++ b).length - lows.length, by rw [List.length_append, List.length_append]; omega⟩
  have hfl : m.l.length ≤ f := by
    have : (wAll a lows ++ m.log ++ b).length = (wAll a lows).length + (wAll m.s m.l).length + b.length := by rw [List.length_append, List.length_append]; rfl
    omega
  rw [hf]
  have hall : wGo f m.s [] m.s (m.log ++ b) = (m.l, m.s + m.l.length, (wAll m.s m.l).length) := by
    have := wGo_all m.l f m.s m.s [] b hfl hn h.l (by omega) hb
    simpa [Md.log] using this
  have hgo : wGo (lows.length + f) m.s [] m.s (wAll a lows ++ m.log ++ b) = (m.l, m.s + m.l.length, (wAll a lows).length + (wAll m.s m.l).length) := by
    rw [List.append_assoc]
    rcases hl with rfl | hl
    · rw [List.length_nil, Nat.zero_add, wAll, List.nil_append, hall]
      simp
    · rw [wGo_lows lows f m.s a m.s (m.log ++ b) hl (by omega) hq, hall]
  rw [hgo]
  rfl
/-- What a torn frame with such bytes behind comes to, behind what is whole. -/
theorem wReads_torn {m : Md} (h : m.Ok) {r t : List UInt8} {j : Nat} (hn : m.next < 4611686018427387904) (hr : r.length ≤ 1048568) (hs : wSafe j t) (hj : j ≤ (fBytes (wRec m.next r)).length) :
    ∃ k, wReads (m.log ++ ((fBytes (wRec m.next r)).take j ++ t)) m.sn = some k ∧ (k.1 = m.kp ∨ k.1 = ({ m with l := m.l ++ [r] } : Md).kp) := by
  have hx := wRec_len (n := m.next) hr
  have h2 : ({ m with l := m.l ++ [r] } : Md).Ok := ⟨by
    show m.s + (m.l ++ [r]).length ≤ _
    unfold Md.next at hn
    rw [List.length_append, List.length_singleton]
    omega, h.s, fun x hx => by
    rcases List.mem_append.1 hx with hx | hx
    · exact h.l x hx
    · rw [List.mem_singleton] at hx; rw [hx]; exact hr, h.p, h.z⟩
  have hlog : ({ m with l := m.l ++ [r] } : Md).log = m.log ++ fBytes (wRec m.next r) := by
    show wAll m.s (m.l ++ [r]) = wAll m.s m.l ++ _
    rw [wAll_app]
    congr 1
    show fBytes (wRec (m.s + m.l.length) r) ++ [] = _
    rw [List.append_nil]; rfl
  have short : ∀ u : List UInt8, u.length ≤ 3 → u = [] ∨ (fTake u).2.2 ≠ 0 := fun u hu => by
    by_cases e : (fTake u).2.2 = 0
    · obtain ⟨x, k, e2, ht⟩ : ∃ x k e2, fTake u = (x, k, e2) := ⟨_, _, _, rfl⟩
      rw [ht] at e
      have e : e2 = 0 := e
      subst e
      have := fTake_ok ht
      omega
    · exact .inr e
  have whole : ∀ u : List UInt8, u.length ≤ 3 → wReads (m.log ++ (fBytes (wRec m.next r) ++ u)) m.sn = some (({ m with l := m.l ++ [r] } : Md).kp, _) := fun u hu => by
    have k := wReads_md h2 (a := 0) (lows := []) (b := u) (.inl rfl) (by simp) (short u hu)
    rw [wAll, List.nil_append, hlog, List.append_assoc] at k
    exact k
  by_cases hjl : j < (fBytes (wRec m.next r)).length
  · rcases fTake_tail hx hjl hs with hb | ⟨u, hu, hul⟩
    · have k := wReads_md h (a := 0) (lows := []) (b := (fBytes (wRec m.next r)).take j ++ t) (.inl rfl) (by simp) hb
      rw [wAll, List.nil_append] at k
      exact ⟨_, k, .inl rfl⟩
    · rw [hu]
      exact ⟨_, whole u (by omega), .inr rfl⟩
  · have e : j = (fBytes (wRec m.next r)).length := by omega
    rw [List.take_of_length_le (by omega)]
    have hb := fBytes_len (wRec m.next r)
    unfold fSize at hb
    unfold wSafe at hs
    rw [if_neg (by omega)] at hs
    exact ⟨_, whole t hs, .inr rfl⟩
/-- What may be on a disk when the power goes: all stands fast, or a call was under way. -/
inductive Fly (D : Dsk) (m : Md) : Md → Prop where
  | none (h0 : D.f 0 = stF m.log) (h1 : D.f 1 = stF m.sn) : Fly D m m
  | app (r : List UInt8) (hr : r.length ≤ 1048568) (hn : m.next < 4611686018427387904) (h0 : D.f 0 = ⟨m.log, fBytes (wRec m.next r), [], false⟩) (h1 : D.f 1 = stF m.sn) : Fly D m { m with l := m.l ++ [r] }
  | snap (b : List UInt8) (hb : b.length ≤ 1048568) (hn : m.next < 4611686018427387904) (h0 : D.f 0 = stF m.log ∨ D.f 0 = ⟨m.log, [], [], true⟩) (h1 : D.f 1 = ⟨m.sn, [], fBytes (wRec m.next b), true⟩ ∨ D.f 1 = stF (fBytes (wRec m.next b))) (h01 : D.f 0 = stF m.log ∨ D.f 1 = stF (fBytes (wRec m.next b))) : Fly D m ⟨true, m.next, b, []⟩
theorem left_st (b : List UInt8) (keep : Int) (t : List UInt8) : (stF b).left keep t = b := by simp [stF, Fi.left]
theorem left_re (a b : List UInt8) (keep : Int) (t : List UInt8) : (⟨a, [], b, true⟩ : Fi).left keep t = if 0 < keep then b else a := by
  have e : (⟨a, [], b, true⟩ : Fi).all = b := by simp [Fi.all]
  unfold Fi.left
  rw [if_pos rfl, e]
theorem left_wr (a b : List UInt8) (hb : b ≠ []) (keep : Int) (t : List UInt8) : (⟨a, b, [], false⟩ : Fi).left keep t = a ++ (b.take (Int.toNat keep) ++ t) := by
  unfold Fi.left
  rw [if_neg (by simp), if_neg hb, List.append_assoc]
/-- (P15.5) All that was answered as done is there, and of the call that was not all or nothing. -/
theorem fly_reads {D : Dsk} {m m' : Md} (h : m.Ok) (hf : Fly D m m') {keep : Int} {t : List UInt8} (ht : (0 < keep ∧ t.length ≤ 3) ∨ (keep ≤ 0 ∧ (t = [] ∨ ∃ r, t = 255 :: r))) :
    ∃ k, wReads ((D.f 0).left keep t) ((D.f 1).left keep t) = some k ∧ (k.1 = m.kp ∨ k.1 = m'.kp) := by
  cases hf with
  | none h0 h1 =>
    rw [h0, h1, left_st, left_st]
    have k := wReads_md h (a := 0) (lows := []) (b := []) (.inl rfl) (by simp) (.inl rfl)
    rw [wAll, List.nil_append, List.append_nil] at k
    exact ⟨_, k, .inl rfl⟩
  | app r hr hn h0 h1 =>
    have hb := fBytes_len (wRec m.next r)
    unfold fSize at hb
    have hne : fBytes (wRec m.next r) ≠ [] := fun e => by
      have := congrArg List.length e
      rw [List.length_nil] at this
      omega
    rw [h0, h1, left_st, left_wr _ _ hne]
    by_cases hk : (Int.toNat keep) ≤ (fBytes (wRec m.next r)).length
    · refine wReads_torn h hn hr ?_ hk
      unfold wSafe
      rcases ht with ⟨a1, a2⟩ | ⟨a1, a2⟩
      · rw [if_neg (by omega)]; exact a2
      · rw [if_pos (by omega)]; exact a2
    · have e : (fBytes (wRec m.next r)).take (Int.toNat keep) = (fBytes (wRec m.next r)).take (fBytes (wRec m.next r)).length := by
        rw [List.take_of_length_le (by omega), List.take_of_length_le (Nat.le_refl _)]
      rw [e]
      refine wReads_torn h hn hr ?_ (Nat.le_refl _)
      unfold wSafe
      rcases ht with ⟨a1, a2⟩ | ⟨a1, a2⟩
      · rw [if_neg (by omega)]; exact a2
      · omega
  | snap b hb hn h0 h1 h01 =>
    have h2 : (⟨true, m.next, b, []⟩ : Md).Ok := ⟨by show m.next + 0 ≤ _; omega, fun _ => hn, (fun x hx => by cases hx), hb, (fun e => by cases e)⟩
    have new : ∀ lg, (lg = m.log ∨ lg = []) → ∃ n, wReads lg (fBytes (wRec m.next b)) = some ((⟨true, m.next, b, []⟩ : Md).kp, n) := fun lg hlg => by
      rcases hlg with rfl | rfl
      · have k := wReads_md h2 (a := m.s) (lows := m.l) (b := []) (.inr (Nat.le_refl _)) h.l (.inl rfl)
        have e1 : (⟨true, m.next, b, []⟩ : Md).log = [] := rfl
        have e2 : (⟨true, m.next, b, []⟩ : Md).sn = fBytes (wRec m.next b) := by unfold Md.sn; rw [if_pos rfl]
        rw [e1, e2, List.append_nil, List.append_nil] at k
        exact ⟨_, k⟩
      · have k := wReads_md h2 (a := 0) (lows := []) (b := []) (.inl rfl) (by simp) (.inl rfl)
        have e1 : (⟨true, m.next, b, []⟩ : Md).log = [] := rfl
        have e2 : (⟨true, m.next, b, []⟩ : Md).sn = fBytes (wRec m.next b) := by unfold Md.sn; rw [if_pos rfl]
        rw [e1, e2, wAll, List.nil_append, List.append_nil] at k
        exact ⟨_, k⟩
    have old : ∃ n, wReads m.log m.sn = some (m.kp, n) := by
      have k := wReads_md h (a := 0) (lows := []) (b := []) (.inl rfl) (by simp) (.inl rfl)
      rw [wAll, List.nil_append, List.append_nil] at k
      exact ⟨_, k⟩
    have l0 : (D.f 0).left keep t = m.log ∨ (D.f 0).left keep t = [] := by
      rcases h0 with e | e
      · rw [e, left_st]; exact .inl rfl
      · rw [e, left_re]
        split
        · exact .inr rfl
        · exact .inl rfl
    by_cases hnew : (D.f 1).left keep t = fBytes (wRec m.next b)
    · rw [hnew]
      obtain ⟨n, k⟩ := new _ l0
      exact ⟨_, k, .inr rfl⟩
    · have e1 : (D.f 1).left keep t = m.sn := by
        rcases h1 with e | e
        · rw [e, left_re] at hnew ⊢
          split
          · rename_i hk; rw [if_pos hk] at hnew; exact absurd rfl hnew
          · rfl
        · rw [e, left_st] at hnew; exact absurd rfl hnew
      have e0 : (D.f 0).left keep t = m.log := by
        rcases h01 with e | e
        · rw [e, left_st]
        · rw [e, left_st] at hnew; exact absurd rfl hnew
      rw [e0, e1]
      obtain ⟨n, k⟩ := old
      exact ⟨_, k, .inl rfl⟩
end Go.Proofs.Ytjekglnbmccnjaa
/-
  Layer 15, pure side: what a call of the log's leaves on the disk.
-/
namespace Go.Proofs.Ytjekglnbmccnjaa
set_option linter.unusedSimpArgs false
set_option linter.unusedVariables false

/-- Both files stand fast, and have that. -/
def Syn (D : Dsk) (m : Md) : Prop := D.f 0 = stF m.log ∧ D.f 1 = stF m.sn
theorem cErr_01 (D : Dsk) {n : Int} (hn : n = 0 ∨ n = 1) : D.cErr n = if D.gone = true then 140 else 0 := by
  unfold Dsk.cErr fErr
  rcases hn with rfl | rfl
  · rfl
  · rfl
theorem cErr_dead {D : Dsk} {n : Int} (hn : n = 0 ∨ n = 1) (h : D.cErr n ≠ 0) : D.cErr n = 140 ∧ D.gone = true := by
  rw [cErr_01 D hn] at h ⊢
  by_cases hg : D.gone = true
  · rw [if_pos hg]; exact ⟨rfl, hg⟩
  · rw [if_neg hg] at h; exact absurd rfl h
theorem putf_same (D : Dsk) (j : Nat) (x : Fi) : (D.put j x).f j = x := upd_same _ _ _
theorem putf_ne (D : Dsk) {i j : Nat} (x : Fi) (h : i ≠ j) : (D.put j x).f i = D.f i := upd_ne _ _ h
theorem put_dead (D : Dsk) (j : Nat) (x : Fi) : (D.put j x).dead = D.dead := rfl
/-- Write to file 0, refused or done. -/
theorem wr_two (D : Dsk) (b : List UInt8) : (D.wErr 0 b ≠ 0 ∧ (D.wr 0 b).f = D.f ∧ ((D.wr 0 b).dead = true ∨ D.wErr 0 b = 8)) ∨
    (D.wErr 0 b = 0 ∧ (D.wr 0 b).f 0 = { D.f 0 with mo := (D.f 0).mo ++ b } ∧ (D.wr 0 b).f 1 = D.f 1 ∧ (D.wr 0 b).dead = false) := by
  by_cases h : D.wErr 0 b = 0
  · right
    obtain ⟨h1, _⟩ := wErr_zero h
    have hg := (cErr_zero h1).1
    have e : D.wr 0 b = D.cnt.put 0 { D.f 0 with mo := (D.f 0).mo ++ b } := by unfold Dsk.wr; rw [if_pos h]; rfl
    rw [e]
    refine ⟨h, putf_same _ _ _, ?_, ?_⟩
    · rw [putf_ne _ _ (by decide), D.cnt_f]
    · rw [put_dead, D.cnt_dead, hg]
  · left
    have e : D.wr 0 b = D.cnt := by unfold Dsk.wr; rw [if_neg h]
    rw [e, D.cnt_f, D.cnt_dead]
    refine ⟨h, rfl, ?_⟩
    by_cases hc : D.cErr 0 = 0
    · right
      unfold Dsk.wErr at h ⊢
      rw [if_pos hc] at h ⊢
      split at h
      · rename_i hf; rw [if_pos hf]
      · exact absurd rfl h
    · exact .inl (cErr_dead (.inl rfl) hc).2
/-- Replace of file n, refused or done. -/
theorem rp_two (D : Dsk) {n : Nat} (hn : n < 2) (b : List UInt8) : (D.rErr (n : Int) b ≠ 0 ∧ (D.rp (n : Int) b).f = D.f ∧ ((D.rp (n : Int) b).dead = true ∨ D.rErr (n : Int) b = 8)) ∨
    (D.rErr (n : Int) b = 0 ∧ (D.rp (n : Int) b).f n = ⟨(D.f n).fa, [], b, true⟩ ∧ (D.rp (n : Int) b).f (1 - n) = D.f (1 - n) ∧ (D.rp (n : Int) b).dead = false) := by
  have h01 : (n : Int) = 0 ∨ (n : Int) = 1 := by omega
  by_cases h : D.rErr (n : Int) b = 0
  · right
    obtain ⟨h1, _⟩ := rErr_zero h
    have hg := (cErr_zero h1).1
    have e : D.rp (n : Int) b = D.cnt.put n ⟨(D.f n).fa, [], b, true⟩ := by unfold Dsk.rp; rw [if_pos h, Int.toNat_natCast]
    rw [e]
    refine ⟨h, putf_same _ _ _, ?_, ?_⟩
    · rw [putf_ne _ _ (by omega), D.cnt_f]
    · rw [put_dead, D.cnt_dead, hg]
  · left
    have e : D.rp (n : Int) b = D.cnt := by unfold Dsk.rp; rw [if_neg h]
    rw [e, D.cnt_f, D.cnt_dead]
    refine ⟨h, rfl, ?_⟩
    by_cases hc : D.cErr (n : Int) = 0
    · right
      unfold Dsk.rErr at h ⊢
      rw [if_pos hc] at h ⊢
      split at h
      · rename_i hf; rw [if_pos hf]
      · exact absurd rfl h
    · exact .inl (cErr_dead h01 hc).2
theorem sy_two (D : Dsk) {n : Nat} (hn : n < 2) : (D.cErr (n : Int) ≠ 0 ∧ (D.sy (n : Int)).f = D.f ∧ (D.sy (n : Int)).dead = true) ∨
    (D.cErr (n : Int) = 0 ∧ (D.sy (n : Int)).f n = stF (D.f n).all ∧ (D.sy (n : Int)).f (1 - n) = D.f (1 - n) ∧ (D.sy (n : Int)).dead = false) := by
  have h01 : (n : Int) = 0 ∨ (n : Int) = 1 := by omega
  by_cases h : D.cErr (n : Int) = 0
  · right
    have hg := (cErr_zero h).1
    have e : D.sy (n : Int) = D.cnt.put n (stF (D.f n).all) := by unfold Dsk.sy; rw [if_pos h, Int.toNat_natCast]
    rw [e]
    refine ⟨h, putf_same _ _ _, ?_, ?_⟩
    · rw [putf_ne _ _ (by omega), D.cnt_f]
    · rw [put_dead, D.cnt_dead, hg]
  · left
    have e : D.sy (n : Int) = D.cnt := by unfold Dsk.sy; rw [if_neg h]
    rw [e, D.cnt_f, D.cnt_dead]
    exact ⟨h, rfl, (cErr_dead h01 h).2⟩
/-- Append's two calls: done; or nothing is changed; or the power went, and the record was under way. -/
theorem app_step {D : Dsk} {m : Md} (hs : Syn D m) {r : List UInt8} (hr : r.length ≤ 1048568) (hn : m.next < 4611686018427387904) :
    (D.wErr 0 (fBytes (wRec m.next r)) = 0 ∧ (D.wr 0 (fBytes (wRec m.next r))).cErr 0 = 0 ∧ Syn ((D.wr 0 (fBytes (wRec m.next r))).sy 0) { m with l := m.l ++ [r] } ∧ ((D.wr 0 (fBytes (wRec m.next r))).sy 0).dead = false) ∨
    (D.wErr 0 (fBytes (wRec m.next r)) ≠ 0 ∧ Syn (D.wr 0 (fBytes (wRec m.next r))) m ∧ ((D.wr 0 (fBytes (wRec m.next r))).dead = true ∨ D.wErr 0 (fBytes (wRec m.next r)) = 8)) ∨
    (D.wErr 0 (fBytes (wRec m.next r)) = 0 ∧ (D.wr 0 (fBytes (wRec m.next r))).cErr 0 ≠ 0 ∧ Fly ((D.wr 0 (fBytes (wRec m.next r))).sy 0) m { m with l := m.l ++ [r] } ∧ ((D.wr 0 (fBytes (wRec m.next r))).sy 0).dead = true) := by
  obtain ⟨h0, h1⟩ := hs
  have hlog : ({ m with l := m.l ++ [r] } : Md).log = m.log ++ fBytes (wRec m.next r) := by
    show wAll m.s (m.l ++ [r]) = wAll m.s m.l ++ _
    rw [wAll_app]
    congr 1
    show fBytes (wRec (m.s + m.l.length) r) ++ [] = _
    rw [List.append_nil]; rfl
  rcases wr_two D (fBytes (wRec m.next r)) with ⟨a1, a2, a3⟩ | ⟨a1, a2, a3, a4⟩
  · exact .inr (.inl ⟨a1, ⟨by rw [a2]; exact h0, by rw [a2]; exact h1⟩, a3⟩)
  · rw [h0] at a2
    have a2 : (D.wr 0 (fBytes (wRec m.next r))).f 0 = ⟨m.log, fBytes (wRec m.next r), [], false⟩ := by rw [a2]; rfl
    rcases sy_two (D.wr 0 (fBytes (wRec m.next r))) (n := 0) (by omega) with ⟨b1, b2, b3⟩ | ⟨b1, b2, b3, b4⟩
    · exact .inr (.inr ⟨a1, b1, .app r hr hn (by rw [show ((D.wr 0 (fBytes (wRec m.next r))).sy 0).f = (D.wr 0 (fBytes (wRec m.next r))).f from b2]; exact a2) (by rw [show ((D.wr 0 (fBytes (wRec m.next r))).sy 0).f = (D.wr 0 (fBytes (wRec m.next r))).f from b2, a3]; exact h1), b3⟩)
    · refine .inl ⟨a1, b1, ⟨?_, ?_⟩, b4⟩
      · have b2 : ((D.wr 0 (fBytes (wRec m.next r))).sy 0).f 0 = stF ((D.wr 0 (fBytes (wRec m.next r))).f 0).all := b2
        rw [b2, a2, hlog]
        simp [Fi.all]
      · have b3 : ((D.wr 0 (fBytes (wRec m.next r))).sy 0).f 1 = (D.wr 0 (fBytes (wRec m.next r))).f 1 := b3
        rw [b3, a3]
        exact h1
/-- Snap's four calls, as far as they come. -/
def Dsk.snapD (D : Dsk) (x : List UInt8) : Int × Dsk :=
  if D.rErr 1 x ≠ 0 then (D.rErr 1 x, D.rp 1 x)
  else if (D.rp 1 x).cErr 1 ≠ 0 then ((D.rp 1 x).cErr 1, (D.rp 1 x).sy 1)
  else if ((D.rp 1 x).sy 1).rErr 0 [] ≠ 0 then (((D.rp 1 x).sy 1).rErr 0 [], ((D.rp 1 x).sy 1).rp 0 [])
  else ((((D.rp 1 x).sy 1).rp 0 []).cErr 0, (((D.rp 1 x).sy 1).rp 0 []).sy 0)
theorem rp_lim (D : Dsk) (n : Int) (b : List UInt8) : (D.rp n b).lim = D.lim := by
  unfold Dsk.rp
  split
  · exact D.cnt_lim
  · exact D.cnt_lim
theorem sy_lim (D : Dsk) (n : Int) : (D.sy n).lim = D.lim := by
  unfold Dsk.sy
  split
  · exact D.cnt_lim
  · exact D.cnt_lim
/-- Snap: done; or nothing is changed; or the power went, and the snapshot was under way. -/
theorem snap_step {D : Dsk} {m : Md} (hs : Syn D m) {b : List UInt8} (hb : b.length ≤ 1048568) (hn : m.next < 4611686018427387904) :
    ((D.snapD (fBytes (wRec m.next b))).1 = 0 ∧ Syn (D.snapD (fBytes (wRec m.next b))).2 ⟨true, m.next, b, []⟩ ∧ (D.snapD (fBytes (wRec m.next b))).2.dead = false) ∨
    ((D.snapD (fBytes (wRec m.next b))).1 ≠ 0 ∧ Syn (D.snapD (fBytes (wRec m.next b))).2 m ∧ ((D.snapD (fBytes (wRec m.next b))).2.dead = true ∨ (D.snapD (fBytes (wRec m.next b))).1 = 8)) ∨
    ((D.snapD (fBytes (wRec m.next b))).1 ≠ 0 ∧ Fly (D.snapD (fBytes (wRec m.next b))).2 m ⟨true, m.next, b, []⟩ ∧ (D.snapD (fBytes (wRec m.next b))).2.dead = true) := by
  obtain ⟨h0, h1⟩ := hs
  have hsn : (⟨true, m.next, b, []⟩ : Md).sn = fBytes (wRec m.next b) := by unfold Md.sn; rw [if_pos rfl]
  have hlg : (⟨true, m.next, b, []⟩ : Md).log = [] := rfl
  generalize hx : fBytes (wRec m.next b) = x at *
  have sfa : ∀ l, (stF l).fa = l := fun l => rfl
  unfold Dsk.snapD
  rcases rp_two D (n := 1) (by omega) x with ⟨a1, a2, a3⟩ | ⟨a1, a2, a3, a4⟩
  · have a1 : D.rErr 1 x ≠ 0 := a1
    rw [if_pos a1]
    exact .inr (.inl ⟨a1, ⟨by rw [show (D.rp 1 x).f = D.f from a2]; exact h0, by rw [show (D.rp 1 x).f = D.f from a2]; exact h1⟩, a3⟩)
  · have a1 : D.rErr 1 x = 0 := a1
    have a2 : (D.rp 1 x).f 1 = ⟨(D.f 1).fa, [], x, true⟩ := a2
    have a3 : (D.rp 1 x).f 0 = D.f 0 := a3
    rw [h1, sfa] at a2
    rw [h0] at a3
    rw [if_neg (by rw [a1]; simp)]
    have q1 : (x.length : Int) ≤ D.lim := by
      have q := (rErr_zero a1).2
      omega
    have q2 : (D.rp 1 x).lim = D.lim := rp_lim D 1 x
    generalize D.rp 1 x = D1 at *
    rcases sy_two D1 (n := 1) (by omega) with ⟨b1, b2, b3⟩ | ⟨b1, b2, b3, b4⟩
    · have b1 : D1.cErr 1 ≠ 0 := b1
      rw [if_pos b1]
      have b2 : (D1.sy 1).f = D1.f := b2
      exact .inr (.inr ⟨b1, .snap b hb hn (.inl (by rw [b2]; exact a3)) (.inl (by rw [b2, hx]; exact a2)) (.inl (by rw [b2]; exact a3)), b3⟩)
    · have b1 : D1.cErr 1 = 0 := b1
      have b2 : (D1.sy 1).f 1 = stF (D1.f 1).all := b2
      have b3 : (D1.sy 1).f 0 = D1.f 0 := b3
      have b2 : (D1.sy 1).f 1 = stF x := by rw [b2, a2]; simp [Fi.all]
      rw [a3] at b3
      rw [if_neg (by rw [b1]; simp)]
      have q3 : (D1.sy 1).lim = D1.lim := sy_lim D1 1
      generalize D1.sy 1 = D2 at *
      rcases rp_two D2 (n := 0) (by omega) [] with ⟨c1, c2, c3⟩ | ⟨c1, c2, c3, c4⟩
      · have c1 : D2.rErr 0 [] ≠ 0 := c1
        rw [if_pos c1]
        have c2 : (D2.rp 0 []).f = D2.f := c2
        have c3 : (D2.rp 0 []).dead = true := by
          rcases c3 with c3 | c3
          · exact c3
          · exfalso
            have c3 : D2.rErr 0 [] = 8 := c3
            unfold Dsk.rErr at c3
            have hx2 : (D2.f (1 - (0 : Int).toNat)).all.length = x.length := by
              show (D2.f 1).all.length = _
              rw [b2, stF_all]
            split at c3
            · rw [hx2] at c3
              split at c3
              · rename_i hf
                rw [List.length_nil] at hf
                omega
              · omega
            · rename_i hc
              have := (cErr_dead (D := D2) (.inl rfl) hc).1
              omega
        exact .inr (.inr ⟨c1, .snap b hb hn (.inl (by rw [c2]; exact b3)) (.inr (by rw [c2, hx]; exact b2)) (.inl (by rw [c2]; exact b3)), c3⟩)
      · have c1 : D2.rErr 0 [] = 0 := c1
        have c2 : (D2.rp 0 []).f 0 = ⟨(D2.f 0).fa, [], [], true⟩ := c2
        have c3 : (D2.rp 0 []).f 1 = D2.f 1 := c3
        rw [b3, sfa] at c2
        rw [b2] at c3
        rw [if_neg (by rw [c1]; simp)]
        generalize D2.rp 0 [] = D3 at *
        rcases sy_two D3 (n := 0) (by omega) with ⟨d1, d2, d3⟩ | ⟨d1, d2, d3, d4⟩
        · have d1 : D3.cErr 0 ≠ 0 := d1
          have d2 : (D3.sy 0).f = D3.f := d2
          exact .inr (.inr ⟨d1, .snap b hb hn (.inr (by rw [d2]; exact c2)) (.inr (by rw [d2, hx]; exact c3)) (.inr (by rw [d2, hx]; exact c3)), d3⟩)
        · have d1 : D3.cErr 0 = 0 := d1
          have d2 : (D3.sy 0).f 0 = stF (D3.f 0).all := d2
          have d3 : (D3.sy 0).f 1 = D3.f 1 := d3
          refine .inl ⟨d1, ⟨?_, ?_⟩, d4⟩
          · rw [d2, c2, hlg]; simp [Fi.all]
          · rw [d3, c3, hsn]
end Go.Proofs.Ytjekglnbmccnjaa
/-
  Layer 15, pure side: the shape of both files behind a crash, and what is had when the log goes on.
-/
namespace Go.Proofs.Ytjekglnbmccnjaa
set_option linter.unusedSimpArgs false
set_option linter.unusedVariables false

/-- Both files have that: records of lesser numbers ahead, and what is no frame behind. -/
def Shp (B : Nat) (lg sn : List UInt8) (m : Md) (b : List UInt8) : Prop := ∃ a lows, lg = wAll a lows ++ m.log ++ b ∧ sn = m.sn ∧ (lows = [] ∨ a + lows.length ≤ m.s) ∧ (∀ r ∈ lows, r.length ≤ 1048568) ∧ (b = [] ∨ (fTake b).2.2 ≠ 0) ∧ (wAll a lows).length + m.log.length ≤ B
theorem Shp.reads {B : Nat} {lg sn b : List UInt8} {m : Md} (hm : m.Ok) (h : Shp B lg sn m b) : ∃ at_, wReads lg sn = some (m.kp, at_) ∧ at_ + b.length = lg.length ∧ at_ ≤ B ∧ Shp B (lg.take at_) sn m [] := by
  obtain ⟨a, lows, rfl, rfl, h1, h2, h3, h4⟩ := h
  refine ⟨_, wReads_md hm h1 h2 h3, by simp only [List.length_append], h4, a, lows, ?_, rfl, h1, h2, .inl rfl, h4⟩
  rw [List.append_nil, List.take_append_of_le_length (by rw [List.length_append]; omega), List.take_of_length_le (by rw [List.length_append]; omega)]
theorem Md.log_app (m : Md) (r : List UInt8) : ({ m with l := m.l ++ [r] } : Md).log = m.log ++ fBytes (wRec m.next r) := by
  show wAll m.s (m.l ++ [r]) = wAll m.s m.l ++ _
  rw [wAll_app]
  congr 1
  show fBytes (wRec (m.s + m.l.length) r) ++ [] = _
  rw [List.append_nil]; rfl
theorem Md.Ok.app {m : Md} (h : m.Ok) {r : List UInt8} (hn : m.next < 4611686018427387904) (hr : r.length ≤ 1048568) : ({ m with l := m.l ++ [r] } : Md).Ok :=
  ⟨by
    show m.s + (m.l ++ [r]).length ≤ _
    unfold Md.next at hn
    rw [List.length_append, List.length_singleton]
    omega, h.s, fun x hx => by
    rcases List.mem_append.1 hx with hx | hx
    · exact h.l x hx
    · rw [List.mem_singleton] at hx; rw [hx]; exact hr, h.p, h.z⟩
theorem Md.Ok.snap (n : Nat) {b : List UInt8} (hn : n < 4611686018427387904) (hb : b.length ≤ 1048568) : (⟨true, n, b, []⟩ : Md).Ok :=
  ⟨by show n + 0 ≤ _; omega, fun _ => hn, (fun x hx => by cases hx), hb, (fun e => by cases e)⟩
/-- A record more behind what is whole. -/
theorem Shp.app {B : Nat} {lg sn : List UInt8} {m : Md} (h : Shp B lg sn m []) (r : List UInt8) : Shp (B + (fBytes (wRec m.next r)).length) (lg ++ fBytes (wRec m.next r)) sn { m with l := m.l ++ [r] } [] := by
  obtain ⟨a, lows, rfl, rfl, h1, h2, _, h4⟩ := h
  refine ⟨a, lows, ?_, rfl, h1, h2, .inl rfl, ?_⟩
  · rw [Md.log_app]
    simp only [List.append_nil, List.append_assoc]
  · rw [Md.log_app, List.length_append]
    omega
theorem short_no (u : List UInt8) (hu : u.length ≤ 3) : u = [] ∨ (fTake u).2.2 ≠ 0 := by
  by_cases e : (fTake u).2.2 = 0
  · obtain ⟨x, k, e2, ht⟩ : ∃ x k e2, fTake u = (x, k, e2) := ⟨_, _, _, rfl⟩
    rw [ht] at e
    have e : e2 = 0 := e
    subst e
    have := fTake_ok ht
    omega
  · exact .inr e
theorem Shp.torn {B : Nat} {m : Md} {r t : List UInt8} {j : Nat} (hB : ({ m with l := m.l ++ [r] } : Md).log.length ≤ B) (hr : r.length ≤ 1048568) (hs : wSafe j t) (hj : j ≤ (fBytes (wRec m.next r)).length) :
    ∃ b, Shp B (m.log ++ ((fBytes (wRec m.next r)).take j ++ t)) m.sn m b ∨ Shp B (m.log ++ ((fBytes (wRec m.next r)).take j ++ t)) m.sn { m with l := m.l ++ [r] } b := by
  have hx := wRec_len (n := m.next) hr
  have whole : ∀ u : List UInt8, u.length ≤ 3 → Shp B (m.log ++ (fBytes (wRec m.next r) ++ u)) m.sn { m with l := m.l ++ [r] } u := fun u hu =>
    ⟨0, [], by rw [Md.log_app, wAll, List.nil_append, List.append_assoc], rfl, .inl rfl, by simp, short_no u hu, by rw [wAll, List.length_nil, Nat.zero_add]; exact hB⟩
  have hB2 : m.log.length ≤ B := by rw [Md.log_app, List.length_append] at hB; omega
  by_cases hjl : j < (fBytes (wRec m.next r)).length
  · rcases fTake_tail hx hjl hs with hb | ⟨u, hu, hul⟩
    · exact ⟨_, .inl ⟨0, [], by rw [wAll, List.nil_append], rfl, .inl rfl, by simp, hb, by rw [wAll, List.length_nil, Nat.zero_add]; exact hB2⟩⟩
    · rw [hu]
      exact ⟨u, .inr (whole u (by omega))⟩
  · have hb := fBytes_len (wRec m.next r)
    unfold fSize at hb
    rw [List.take_of_length_le (by omega)]
    unfold wSafe at hs
    rw [if_neg (by omega)] at hs
    exact ⟨t, .inr (whole t hs)⟩
/-- (P15.5) Behind a crash both files have all that was done, and of the call under way all or nothing. -/
theorem fly_shape {B : Nat} {D : Dsk} {m m' : Md} (hf : Fly D m m') (hB : m.log.length ≤ B) (hB' : m'.log.length ≤ B) {keep : Int} {t : List UInt8} (hm : m.Ok) (ht : (0 < keep ∧ t.length ≤ 3) ∨ (keep ≤ 0 ∧ (t = [] ∨ ∃ r, t = 255 :: r))) :
    ∃ b, Shp B ((D.f 0).left keep t) ((D.f 1).left keep t) m b ∨ Shp B ((D.f 0).left keep t) ((D.f 1).left keep t) m' b := by
  cases hf with
  | none h0 h1 =>
    rw [h0, h1, left_st, left_st]
    exact ⟨[], .inl ⟨0, [], by rw [wAll, List.nil_append, List.append_nil], rfl, .inl rfl, by simp, .inl rfl, by rw [wAll, List.length_nil, Nat.zero_add]; exact hB⟩⟩
  | app r hr hn h0 h1 =>
    have hb := fBytes_len (wRec m.next r)
    unfold fSize at hb
    have hne : fBytes (wRec m.next r) ≠ [] := fun e => by
      have := congrArg List.length e
      rw [List.length_nil] at this
      omega
    rw [h0, h1, left_st, left_wr _ _ hne]
    by_cases hk : (Int.toNat keep) ≤ (fBytes (wRec m.next r)).length
    · refine Shp.torn hB' hr ?_ hk
      unfold wSafe
      rcases ht with ⟨a1, a2⟩ | ⟨a1, a2⟩
      · rw [if_neg (by omega)]; exact a2
      · rw [if_pos (by omega)]; exact a2
    · have e : (fBytes (wRec m.next r)).take (Int.toNat keep) = (fBytes (wRec m.next r)).take (fBytes (wRec m.next r)).length := by
        rw [List.take_of_length_le (by omega), List.take_of_length_le (Nat.le_refl _)]
      rw [e]
      refine Shp.torn hB' hr ?_ (Nat.le_refl _)
      unfold wSafe
      rcases ht with ⟨a1, a2⟩ | ⟨a1, a2⟩
      · rw [if_neg (by omega)]; exact a2
      · omega
  | snap b hb hn h0 h1 h01 =>
    have e2 : (⟨true, m.next, b, []⟩ : Md).sn = fBytes (wRec m.next b) := by unfold Md.sn; rw [if_pos rfl]
    have l0 : (D.f 0).left keep t = m.log ∨ (D.f 0).left keep t = [] := by
      rcases h0 with e | e
      · rw [e, left_st]; exact .inl rfl
      · rw [e, left_re]
        split
        · exact .inr rfl
        · exact .inl rfl
    by_cases hnew : (D.f 1).left keep t = fBytes (wRec m.next b)
    · refine ⟨[], .inr ?_⟩
      rw [hnew]
      rcases l0 with l0 | l0
      · rw [l0]
        exact ⟨m.s, m.l, by show m.log = wAll m.s m.l ++ [] ++ []; rw [List.append_nil, List.append_nil]; rfl, e2.symm, .inr (Nat.le_refl _), hm.l, .inl rfl, by show m.log.length + 0 ≤ B; omega⟩
      · rw [l0]
        exact ⟨0, [], rfl, e2.symm, .inl rfl, by simp, .inl rfl, Nat.zero_le _⟩
    · have e1 : (D.f 1).left keep t = m.sn := by
        rcases h1 with e | e
        · rw [e, left_re] at hnew ⊢
          split
          · rename_i hk; rw [if_pos hk] at hnew; exact absurd rfl hnew
          · rfl
        · rw [e, left_st] at hnew; exact absurd rfl hnew
      have e0 : (D.f 0).left keep t = m.log := by
        rcases h01 with e | e
        · rw [e, left_st]
        · rw [e, left_st] at hnew; exact absurd rfl hnew
      rw [e0, e1]
      exact ⟨[], .inl ⟨0, [], by rw [wAll, List.nil_append, List.append_nil], rfl, .inl rfl, by simp, .inl rfl, by rw [wAll, List.length_nil, Nat.zero_add]; exact hB⟩⟩
/-- The bytes that the law puts behind. -/
def oSafe (keep : Int) (t : List UInt8) : List UInt8 := if keep ≤ 0 ∧ 0 < t.length then 255 :: t.drop 1 else if 3 < t.length then t.take 3 else t
theorem oSafe_ok (keep : Int) (t : List UInt8) : (0 < keep ∧ (oSafe keep t).length ≤ 3) ∨ (keep ≤ 0 ∧ (oSafe keep t = [] ∨ ∃ r, oSafe keep t = 255 :: r)) := by
  unfold oSafe
  by_cases hk : keep ≤ 0
  · right
    refine ⟨hk, ?_⟩
    by_cases ht : 0 < t.length
    · rw [if_pos ⟨hk, ht⟩]; exact .inr ⟨_, rfl⟩
    · left
      rw [if_neg (fun h => ht h.2), if_neg (by omega)]
      exact List.eq_nil_of_length_eq_zero (by omega)
  · left
    refine ⟨by omega, ?_⟩
    rw [if_neg (fun h => hk h.1)]
    split
    · rw [List.length_take]; omega
    · omega
end Go.Proofs.Ytjekglnbmccnjaa
/-
  Layer 15, pure side: acts one behind another, until one fails; how long both files grow.
-/
namespace Go.Proofs.Ytjekglnbmccnjaa
set_option linter.unusedSimpArgs false
set_option linter.unusedVariables false

theorem wRec_len2 (n : Nat) (r : List UInt8) : (wRec n r).length ≤ r.length + 8 := by
  unfold wRec
  rw [List.length_append, pPut_len]
  have := pSize_le n
  omega
theorem frame_len {n : Nat} {r : List UInt8} (h : r.length ≤ 3000) : (fBytes (wRec n r)).length ≤ 3020 := by
  have h1 := wRec_len2 n r
  have h2 := fBytes_len (wRec n r)
  unfold fSize at h2
  have h3 := pSize_small4 (n := (wRec n r).length) (by omega)
  omega
theorem wAll_le : ∀ (n : Nat) (l : List (List UInt8)), (∀ r ∈ l, r.length ≤ 3000) → (wAll n l).length ≤ l.length * 3020
  | _, [], _ => by simp [wAll]
  | n, r :: l, h => by
    have h1 := wAll_le (n + 1) l (fun x hx => h x (by simp [hx]))
    have h2 := frame_len (n := n) (h r (by simp))
    rw [wAll, List.length_append, List.length_cons, Nat.succ_mul]
    omega
/-- What must be had behind so many acts, none of more than 3000 bytes. -/
structure Md.Few (m : Md) (i : Nat) : Prop where
  ok : m.Ok
  n : m.next ≤ i
  l : m.l.length ≤ i
  r : ∀ r ∈ m.l, r.length ≤ 3000
  s : m.snap.length ≤ 3000
theorem Md.Few.log {m : Md} {i : Nat} (h : m.Few i) : m.log.length ≤ i * 3020 := by
  have h1 := wAll_le m.s m.l h.r
  have h2 : m.l.length * 3020 ≤ i * 3020 := Nat.mul_le_mul_right _ h.l
  exact Nat.le_trans h1 h2
theorem Md.Few.sn {m : Md} {i : Nat} (h : m.Few i) : m.sn.length ≤ 3020 := by
  unfold Md.sn
  split
  · exact frame_len h.s
  · simp
theorem Md.Few.app {m : Md} {i : Nat} (h : m.Few i) (hi : i ≤ 1000000) {r : List UInt8} (hr : r.length ≤ 3000) : ({ m with l := m.l ++ [r] } : Md).Few (i + 1) := by
  have hn := h.n
  have hl := h.l
  refine ⟨h.ok.app (by omega) (by omega), ?_, ?_, fun x hx => ?_, h.s⟩
  · unfold Md.next at hn ⊢
    show m.s + (m.l ++ [r]).length ≤ _
    rw [List.length_append, List.length_singleton]
    omega
  · show (m.l ++ [r]).length ≤ _
    rw [List.length_append, List.length_singleton]
    omega
  · rcases List.mem_append.1 hx with hx | hx
    · exact h.r x hx
    · rw [List.mem_singleton] at hx; rw [hx]; exact hr
theorem Md.Few.snap {m : Md} {i : Nat} (h : m.Few i) (hi : i ≤ 1000000) {b : List UInt8} (hb : b.length ≤ 3000) : (⟨true, m.next, b, []⟩ : Md).Few (i + 1) := by
  have hn := h.n
  exact ⟨Md.Ok.snap _ (by omega) (by omega), by show m.next + 0 ≤ _; omega, by simp, (fun x hx => by cases hx), hb⟩
def md0 : Md := ⟨false, 0, [], []⟩
theorem md0_few : md0.Few 0 := ⟨⟨by decide, (fun h => by cases h), (fun x hx => by cases hx), by decide, fun _ => ⟨rfl, rfl⟩⟩, by decide, by decide, (fun x hx => by cases hx), by decide⟩
theorem newD_syn (lim : Int) : Syn (newD lim) md0 := ⟨rfl, rfl⟩
/-- Append's calls: the error, and the disk behind them. -/
def Dsk.appD (D : Dsk) (x : List UInt8) : Int × Dsk := if D.wErr 0 x ≠ 0 then (D.wErr 0 x, D.wr 0 x) else ((D.wr 0 x).cErr 0, (D.wr 0 x).sy 0)
/-- An act (0 Append, else Snap): the error, the disk behind it; and what must be had if it is done. -/
def Md.after (m : Md) (k : Int) (b : List UInt8) : Md := if k = 0 then { m with l := m.l ++ [b] } else ⟨true, m.next, b, []⟩
def Dsk.actW (D : Dsk) (m : Md) (k : Int) (b : List UInt8) : Int × Dsk := if k = 0 then D.appD (fBytes (wRec m.next b)) else D.snapD (fBytes (wRec m.next b))
theorem after_few {m : Md} {i : Nat} (h : m.Few i) (hi : i ≤ 1000000) (k : Int) {b : List UInt8} (hb : b.length ≤ 3000) : (m.after k b).Few (i + 1) := by
  unfold Md.after
  split
  · exact h.app hi hb
  · exact h.snap hi hb
/-- An act: done; or what it was under way with may be there, and if the power is there nothing is. -/
theorem act_out {D : Dsk} {m : Md} {i : Nat} (hs : Syn D m) (hm : m.Few i) (hi : i ≤ 1000000) (k : Int) {b : List UInt8} (hb : b.length ≤ 3000) :
    ((D.actW m k b).1 = 0 ∧ Syn (D.actW m k b).2 (m.after k b) ∧ (D.actW m k b).2.dead = false) ∨
    ((D.actW m k b).1 ≠ 0 ∧ ((D.actW m k b).2.dead = true ∨ (D.actW m k b).1 = 8) ∧ ∃ m2, Fly (D.actW m k b).2 m m2 ∧ (m2 = m ∨ m2 = m.after k b) ∧ ((D.actW m k b).2.dead = false → Syn (D.actW m k b).2 m ∧ m2 = m)) := by
  have hn := hm.n
  unfold Dsk.actW Md.after
  by_cases hk : k = 0
  · rw [if_pos hk, if_pos hk]
    unfold Dsk.appD
    rcases app_step hs (r := b) (by omega) (by omega) with ⟨a1, a2, a3, a4⟩ | ⟨a1, a2, a3⟩ | ⟨a1, a2, a3, a4⟩
    · rw [if_neg (by rw [a1]; simp)]
      exact .inl ⟨a2, a3, a4⟩
    · rw [if_pos a1]
      exact .inr ⟨a1, a3, m, .none a2.1 a2.2, .inl rfl, fun _ => ⟨a2, rfl⟩⟩
    · rw [if_neg (by rw [a1]; simp)]
      exact .inr ⟨a2, .inl a4, _, a3, .inr rfl, fun h => by
        have a4 : ((D.wr 0 (fBytes (wRec m.next b))).sy 0).dead = true := a4
        have h : ((D.wr 0 (fBytes (wRec m.next b))).sy 0).dead = false := h
        rw [a4] at h; cases h⟩
  · rw [if_neg hk, if_neg hk]
    rcases snap_step hs (b := b) (by omega) (by omega) with ⟨a1, a2, a3⟩ | ⟨a1, a2, a3⟩ | ⟨a1, a2, a3⟩
    · exact .inl ⟨a1, a2, a3⟩
    · exact .inr ⟨a1, a3, m, .none a2.1 a2.2, .inl rfl, fun _ => ⟨a2, rfl⟩⟩
    · exact .inr ⟨a1, .inl a3, _, a2, .inr rfl, fun h => by rw [a3] at h; cases h⟩
end Go.Proofs.Ytjekglnbmccnjaa
/-
  Layer 15, pure side: Open as data; the log goes on behind a crash.
-/
namespace Go.Proofs.Ytjekglnbmccnjaa
set_option linter.unusedSimpArgs false
set_option linter.unusedVariables false

/-- Open's calls: the error, what is had, and the disk behind them. -/
def Dsk.openD (D : Dsk) : Int × Option Kp × Dsk :=
  if D.dErr 1 ≠ 0 then (D.dErr 1, none, D)
  else match wReads (D.rd 0) (D.rd 1) with
    | none => (4, none, D)
    | some (k, n) =>
      if n < (D.rd 0).length then
        (if D.rErr 0 ((D.rd 0).take n) ≠ 0 then (D.rErr 0 ((D.rd 0).take n), none, D.rp 0 ((D.rd 0).take n))
        else if (D.rp 0 ((D.rd 0).take n)).cErr 0 ≠ 0 then ((D.rp 0 ((D.rd 0).take n)).cErr 0, none, (D.rp 0 ((D.rd 0).take n)).sy 0)
        else (0, some k, (D.rp 0 ((D.rd 0).take n)).sy 0))
      else (0, some k, D)
/-- A disk whose power is there, and will be, of so many bytes. -/
structure Up (D : Dsk) (L : Int) : Prop where
  a : D.armed = false
  d : D.dead = false
  l : D.lim = L
theorem Up.gone {D : Dsk} {L : Int} (h : Up D L) : D.gone = false := by simp [Dsk.gone, h.a, h.d]
theorem Up.cErr0 {D : Dsk} {L : Int} (h : Up D L) : D.cErr 0 = 0 := by rw [cErr_01 D (.inl rfl), h.gone]; rfl
theorem Up.dErr {D : Dsk} {L : Int} (h : Up D L) {n : Int} (hn : n = 0 ∨ n = 1) : D.dErr n = 0 := by
  unfold Dsk.dErr fErr
  rw [h.d]
  rcases hn with rfl | rfl
  · rfl
  · rfl
theorem Up.rd0 {D : Dsk} {L : Int} (h : Up D L) : D.rd 0 = (D.f 0).all := by unfold Dsk.rd; rw [if_pos (h.dErr (.inl rfl))]; rfl
theorem Up.rd1 {D : Dsk} {L : Int} (h : Up D L) : D.rd 1 = (D.f 1).all := by unfold Dsk.rd; rw [if_pos (h.dErr (.inr rfl))]; rfl
theorem Up.cnt {D : Dsk} {L : Int} (h : Up D L) : Up D.cnt L := ⟨by rw [D.cnt_armed]; exact h.a, by rw [D.cnt_dead]; exact h.gone, by rw [D.cnt_lim]; exact h.l⟩
theorem Up.put {D : Dsk} {L : Int} (h : Up D L) (i : Nat) (x : Fi) : Up (D.put i x) L := ⟨h.a, h.d, h.l⟩
theorem Up.wr {D : Dsk} {L : Int} (h : Up D L) (b : List UInt8) : Up (D.wr 0 b) L := by
  unfold Dsk.wr
  split
  · exact h.cnt.put _ _
  · exact h.cnt
theorem Up.rp {D : Dsk} {L : Int} (h : Up D L) (b : List UInt8) : Up (D.rp 0 b) L := by
  unfold Dsk.rp
  split
  · exact h.cnt.put _ _
  · exact h.cnt
theorem Up.sy {D : Dsk} {L : Int} (h : Up D L) : Up (D.sy 0) L := by
  unfold Dsk.sy
  split
  · exact h.cnt.put _ _
  · exact h.cnt
/-- Files that stand fast and have that are opened: what is no frame is cut. -/
theorem open_ok {D : Dsk} {L : Int} (h : Up D L) {B : Nat} {lg sn b : List UInt8} {m : Md} (hm : m.Ok) (f0 : D.f 0 = stF lg) (f1 : D.f 1 = stF sn) (hs : Shp B lg sn m b) (hL : (sn.length : Int) + B ≤ L) :
    ∃ D2 lg2, D.openD = (0, some m.kp, D2) ∧ Up D2 L ∧ D2.f 0 = stF lg2 ∧ D2.f 1 = stF sn ∧ Shp B lg2 sn m [] ∧ lg2.length ≤ B := by
  obtain ⟨n, hr, hn, hnB, h2⟩ := hs.reads hm
  have r0 : D.rd 0 = lg := by rw [h.rd0, f0, stF_all]
  have r1 : D.rd 1 = sn := by rw [h.rd1, f1, stF_all]
  unfold Dsk.openD
  rw [if_neg (by rw [h.dErr (.inr rfl)]; simp), r0, r1, hr]
  simp only
  have hlen2 : (lg.take n).length ≤ B := by rw [List.length_take]; omega
  by_cases hlt : n < lg.length
  · rw [if_pos hlt]
    have hf : ((D.f (1 - (0 : Int).toNat)).all.length : Int) = sn.length := by
      show ((D.f 1).all.length : Int) = _
      rw [f1, stF_all]
    have he : D.rErr 0 (lg.take n) = 0 := by
      unfold Dsk.rErr
      rw [h.cErr0, if_pos rfl, hf, h.l, if_neg (by omega)]
    have hu := h.rp (lg.take n)
    rw [if_neg (by rw [he]; simp), if_neg (by rw [hu.cErr0]; simp)]
    rcases rp_two D (n := 0) (by omega) (lg.take n) with ⟨a1, _⟩ | ⟨a1, a2, a3, a4⟩
    · exact absurd he a1
    · have a2 : (D.rp 0 (lg.take n)).f 0 = ⟨(D.f 0).fa, [], lg.take n, true⟩ := a2
      have a3 : (D.rp 0 (lg.take n)).f 1 = D.f 1 := a3
      rcases sy_two (D.rp 0 (lg.take n)) (n := 0) (by omega) with ⟨b1, _⟩ | ⟨b1, b2, b3, b4⟩
      · exact absurd hu.cErr0 b1
      · have b2 : ((D.rp 0 (lg.take n)).sy 0).f 0 = stF ((D.rp 0 (lg.take n)).f 0).all := b2
        have b3 : ((D.rp 0 (lg.take n)).sy 0).f 1 = (D.rp 0 (lg.take n)).f 1 := b3
        refine ⟨_, lg.take n, rfl, hu.sy, ?_, ?_, h2, hlen2⟩
        · rw [b2, a2]; simp [Fi.all]
        · rw [b3, a3]; exact f1
  · rw [if_neg hlt]
    have e : lg.take n = lg := List.take_of_length_le (by omega)
    rw [e] at h2 hlen2
    exact ⟨D, lg, rfl, h, f0, f1, h2, hlen2⟩
/-- A record more. -/
theorem app_ok {D : Dsk} {L : Int} (h : Up D L) {B : Nat} {lg sn : List UInt8} {m : Md} (f0 : D.f 0 = stF lg) (f1 : D.f 1 = stF sn) (hs : Shp B lg sn m []) (hb : lg.length ≤ B) {r : List UInt8} (hL : (sn.length : Int) + B + (fBytes (wRec m.next r)).length ≤ L) :
    (D.appD (fBytes (wRec m.next r))).1 = 0 ∧ ∃ lg2, Up (D.appD (fBytes (wRec m.next r))).2 L ∧ (D.appD (fBytes (wRec m.next r))).2.f 0 = stF lg2 ∧ (D.appD (fBytes (wRec m.next r))).2.f 1 = stF sn ∧ Shp (B + (fBytes (wRec m.next r)).length) lg2 sn { m with l := m.l ++ [r] } [] ∧ lg2.length ≤ B + (fBytes (wRec m.next r)).length := by
  have hk := hs.app r
  generalize hx : fBytes (wRec m.next r) = x at *
  have hsz : D.size = lg.length + sn.length := by unfold Dsk.size; rw [f0, f1, stF_all, stF_all]
  have he : D.wErr 0 x = 0 := by
    unfold Dsk.wErr
    rw [h.cErr0, if_pos rfl, hsz, h.l, if_neg (by omega)]
  have hu := h.wr x
  unfold Dsk.appD
  rw [if_neg (by rw [he]; simp)]
  rcases wr_two D x with ⟨a1, _⟩ | ⟨a1, a2, a3, a4⟩
  · exact absurd he a1
  · rw [f0] at a2
    rcases sy_two (D.wr 0 x) (n := 0) (by omega) with ⟨b1, _⟩ | ⟨b1, b2, b3, b4⟩
    · exact absurd hu.cErr0 b1
    · have b2 : ((D.wr 0 x).sy 0).f 0 = stF ((D.wr 0 x).f 0).all := b2
      have b3 : ((D.wr 0 x).sy 0).f 1 = (D.wr 0 x).f 1 := b3
      refine ⟨hu.cErr0, lg ++ x, hu.sy, ?_, ?_, hk, by rw [List.length_append]; omega⟩
      · rw [b2, a2]; simp [Fi.all, stF]
      · rw [b3, a3]; exact f1
theorem crash_up {D : Dsk} {L : Int} (h : D.lim = L) (keep : Int) (t : List UInt8) : Up (D.crash keep t) L := ⟨rfl, rfl, h⟩
/-- (P15.5, P15.6) Behind a crash: opened, all that was done is had, of the call under way all or nothing; and it goes on. -/
theorem recovers {D : Dsk} {m m' : Md} (hl : D.lim = 1048576) (hf : Fly D m m') (hm : m.Few 50) (hm' : m'.Few 50) {keep : Int} {t : List UInt8} (ht : (0 < keep ∧ t.length ≤ 3) ∨ (keep ≤ 0 ∧ (t = [] ∨ ∃ r, t = 255 :: r))) {r : List UInt8} (hr : r.length ≤ 3000) :
    ∃ (mm : Md) (D2 D3 D4 : Dsk), (mm = m ∨ mm = m') ∧ (D.crash keep t).openD = (0, some mm.kp, D2) ∧ D2.appD (fBytes (wRec mm.next r)) = (0, D3) ∧ D3.openD = (0, some ({ mm with l := mm.l ++ [r] } : Md).kp, D4) := by
  have hB := hm.log
  have hB' := hm'.log
  obtain ⟨b, hs⟩ := fly_shape (B := 151000) hf (by omega) (by omega) hm.ok ht
  have key : ∀ mm : Md, mm.Few 50 → Shp 151000 ((D.f 0).left keep t) ((D.f 1).left keep t) mm b → ∃ (D2 D3 D4 : Dsk), (D.crash keep t).openD = (0, some mm.kp, D2) ∧ D2.appD (fBytes (wRec mm.next r)) = (0, D3) ∧ D3.openD = (0, some ({ mm with l := mm.l ++ [r] } : Md).kp, D4) := by
    intro mm hmm hsm
    have hsn : ((D.f 1).left keep t).length ≤ 3020 := by
      obtain ⟨a, lows, _, e, _⟩ := hsm
      rw [e]; exact hmm.sn
    have hfr := frame_len (n := mm.next) hr
    obtain ⟨D2, lg2, o1, o2, o3, o4, o5, o6⟩ := open_ok (crash_up hl keep t) hmm.ok rfl rfl hsm (by omega)
    obtain ⟨p1, lg3, p2, p3, p4, p5, p6⟩ := app_ok o2 o3 o4 o5 o6 (r := r) (by omega)
    have hn := hmm.n
    obtain ⟨D4, lg4, s1, _⟩ := open_ok p2 (hmm.ok.app (r := r) (by omega) (by omega)) p3 p4 p5 (by omega)
    exact ⟨D2, _, D4, o1, Prod.ext p1 rfl, s1⟩
  rcases hs with hs | hs
  · obtain ⟨D2, D3, D4, k⟩ := key m hm hs
    exact ⟨m, D2, D3, D4, .inl rfl, k⟩
  · obtain ⟨D2, D3, D4, k⟩ := key m' hm' hs
    exact ⟨m', D2, D3, D4, .inr rfl, k⟩
/-- Files that stand fast, opened: nothing is cut. -/
theorem open_syn {D : Dsk} {L : Int} (h : Up D L) {m : Md} (hm : m.Ok) (hs : Syn D m) : D.openD = (0, some m.kp, D) := by
  obtain ⟨f0, f1⟩ := hs
  obtain ⟨n, hr, hn, _, _⟩ := Shp.reads (B := m.log.length) (lg := m.log) (sn := m.sn) (b := []) hm ⟨0, [], by rw [wAll, List.nil_append, List.append_nil], rfl, .inl rfl, by simp, .inl rfl, by rw [wAll, List.length_nil, Nat.zero_add]; exact Nat.le_refl _⟩
  have r0 : D.rd 0 = m.log := by rw [h.rd0, f0, stF_all]
  have r1 : D.rd 1 = m.sn := by rw [h.rd1, f1, stF_all]
  rw [List.length_nil, Nat.add_zero] at hn
  unfold Dsk.openD
  rw [if_neg (by rw [h.dErr (.inr rfl)]; simp), r0, r1, hr]
  simp only
  rw [if_neg (by omega)]
/-- (P15.7) An Append where the power is there: done, or there is no room and nothing is changed. -/
theorem app_full {D : Dsk} {L : Int} (h : Up D L) {m : Md} {i : Nat} (hs : Syn D m) (hm : m.Few i) (hi : i ≤ 1000000) {b : List UInt8} (hb : b.length ≤ 3000) :
    Up (D.appD (fBytes (wRec m.next b))).2 L ∧ (((D.appD (fBytes (wRec m.next b))).1 = 0 ∧ Syn (D.appD (fBytes (wRec m.next b))).2 { m with l := m.l ++ [b] }) ∨ ((D.appD (fBytes (wRec m.next b))).1 = 8 ∧ Syn (D.appD (fBytes (wRec m.next b))).2 m)) := by
  have hup : Up (D.appD (fBytes (wRec m.next b))).2 L := by
    unfold Dsk.appD
    split
    · exact h.wr _
    · exact (h.wr _).sy
  refine ⟨hup, ?_⟩
  have e1 : D.actW m 0 b = D.appD (fBytes (wRec m.next b)) := if_pos rfl
  have e2 : m.after 0 b = { m with l := m.l ++ [b] } := if_pos rfl
  have k := act_out hs hm hi 0 hb
  rw [e1, e2] at k
  rcases k with ⟨a1, a2, _⟩ | ⟨a1, a2, m2, _, _, a5⟩
  · exact .inl ⟨a1, a2⟩
  · right
    rcases a2 with a2 | a2
    · rw [hup.d] at a2; cases a2
    · exact ⟨a2, (a5 hup.d).1⟩
end Go.Proofs.Ytjekglnbmccnjaa
/-
  Layer 1 in a seat of a later layer: what prefix.Size, fresh, putNumber, Put and the document's own Size, Put do.
-/
namespace Go.Proofs.Ytjekglnbmccnjaa
set_option linter.unusedSimpArgs false
set_option linter.unusedVariables false
open Go.RowKit

theorem size_cases (m : Int) (h0 : 0 ≤ m) : (m < 64 ∧ pSize m.toNat = 1) ∨ (64 ≤ m ∧ m < 16384 ∧ pSize m.toNat = 2) ∨ (16384 ≤ m ∧ m < 1073741824 ∧ pSize m.toNat = 4) ∨
    (1073741824 ≤ m ∧ m < 4611686018427387904 ∧ pSize m.toNat = 8) ∨ (4611686018427387904 ≤ m ∧ pSize m.toNat = 0) := by
  have h := pSize_cases m.toNat
  omega
set_option maxHeartbeats 400000 in
theorem size_any (m : Int) (w : World) (h0 : 0 ≤ m) (h1 : m ≤ 18446744073709551615) :
    Calls Try.prog 66 #[.int .u64 m] w fun e w' => e = .returned (.int .i64 (pSize m.toNat : Nat)) ∧ w = w' := by
  rcases size_cases m h0 with ⟨h2, h⟩ | ⟨h2, h3, h⟩ | ⟨h2, h3, h⟩ | ⟨h2, h3, h⟩ | ⟨h2, h⟩
  all_goals
    have H := hid h
    clear h
    go_enter Try.func66, Try.ntmps66
    go_wp2
    go_ret
    exact ⟨by rw [H.out]; rfl, rfl⟩
set_option maxHeartbeats 400000 in
theorem rsize_any (m : Int) (w : World) (h0 : 0 ≤ m) (h1 : m ≤ 18446744073709551615) :
    Calls Try.prog 57 #[.int .u64 m] w fun e w' => e = .returned (.int .i64 (pSize m.toNat : Nat)) ∧ w = w' := by
  rcases size_cases m h0 with ⟨h2, h⟩ | ⟨h2, h3, h⟩ | ⟨h2, h3, h⟩ | ⟨h2, h3, h⟩ | ⟨h2, h⟩
  all_goals
    have H := hid h
    clear h
    go_enter Try.func57, Try.ntmps57
    go_wp2
    go_ret
    exact ⟨by rw [H.out]; rfl, rfl⟩
set_option maxHeartbeats 400000 in
theorem fresh_any (A : Option Addr) (n c : Nat) (room : Int) (l : List UInt8) (B : Nat) (w : World) (hr : Rd w B 1 A n (vbs l)) (h0 : 0 ≤ room) (h1 : (n : Int) + room ≤ 140737488355328) (hB : B ≤ w.heap.size) :
    Calls Try.prog 67 #[.slice A n c, .int .i64 room] w fun e w' =>
      ∃ A' c', e = .returned (.slice A' n c') ∧ Own w' w.heap.size 5 1 A' n c' (vbs l) ∧ Turn w w' none := by
  obtain ⟨r, rfl⟩ := Int.eq_ofNat_of_zero_le h0
  have hlen := hid hr.len
  go_enter Try.func67, Try.ntmps67
  go_wp2_with (first
    | (at_make; refine wp_mk rfl _ _ _ rfl elB rfl rfl n (n + r) rfl (by omega) (by omega) (by omega) (by unfold maxLen; omega) ?_; intro w1 ys hys hown ht; have hr1 := hr.turn0 ht hB; have hys' := hid hys; clear hys)
    | (refine wp_cp rfl _ _ _ _ rfl elB rfl rfl hown hr1 (vbs_one l) ?_; intro w2 ho2 ht2))
  go_ret
  refine ⟨_, _, rfl, ?_, ht.new ht2 (fun g hg => by simp [blk] at hg; omega)⟩
  have e1 : Nat.min n n = n := Nat.min_self n
  rw [e1, List.take_of_length_le (by rw [hr.len]; exact Nat.le_refl _), List.drop_of_length_le (by rw [hys'.out]; exact Nat.le_refl _), List.append_nil] at ho2
  exact ho2
theorem or_mark (k : Nat) (hk : k = 0 ∨ k = 64 ∨ k = 128 ∨ k = 192) (x : Int) (h0 : 0 ≤ x) (h1 : x < 64) : bits .or .u8 x (k : Int) = x + k := by
  obtain ⟨n, rfl⟩ := Int.eq_ofNat_of_zero_le h0
  have h2 : n < 64 := by omega
  have key : ∀ k ∈ [0, 64, 128, 192], ∀ n : Nat, n < 64 → bits .or .u8 (n : Int) ((k : Nat) : Int) = n + k := by decide +kernel
  exact key k (by simpa using hk) n h2
theorem vb_of (x : Nat) : vb (UInt8.ofNat x) = .int .u8 ((x % 256 : Nat) : Int) := by
  simp [vb]
theorem vput {m : Int} (h0 : 0 ≤ m) {k : Nat} (h : pSize m.toNat = k + 1) {j : Nat} (hj : mark (k + 1) = j) (hj0 : j = 0 ∨ j = 64 ∨ j = 128 ∨ j = 192) (hd : m / 256 ^ k < 64) :
    vbs (pPut m.toNat) = .int .u8 (bits .or .u8 (m / 256 ^ k) (j : Int)) :: vbs (be k m.toNat) := by
  obtain ⟨n, rfl⟩ := Int.eq_ofNat_of_zero_le h0
  rw [Int.toNat_natCast] at *
  have e : ((n : Int) / 256 ^ k) = ((n / 256 ^ k : Nat) : Int) := by rw [Int.natCast_ediv, Int.natCast_pow]; rfl
  have hd' : n / 256 ^ k < 64 := by rw [e] at hd; omega
  rw [e, or_mark j hj0 _ (Int.natCast_nonneg _) (by rw [e] at hd; exact hd)]
  unfold pPut
  rw [h, be]
  simp only [vbs, List.map_cons]
  rw [u8_of (Nat.lt_of_lt_of_le hd' (by omega)), hj, vb_of]
  congr 2
  generalize n / 256 ^ k = x at *
  omega
theorem put_end {w : World} {base g n N c : Nat} {E : TypeId} {l : List UInt8} {m : Int} {v u : Value} {r : List Value} (hown : Own w base E 1 (some ⟨g, 0, none⟩) N c (vbs l ++ v :: r)) (hlen : (vbs l).length = n)
    (hN : N = n + pSize m.toNat) (he : vbs (pPut m.toNat) = u :: r) : Own (w.setCell ⟨g, n, none⟩ u) base E 1 (some ⟨g, 0, none⟩) (n + pSize m.toNat) c (vbs (l ++ pPut m.toNat)) := by
  have h := hown.store n u
  rw [set_len hlen] at h
  rw [vbs_append, he, ← hN]
  exact h
set_option maxHeartbeats 400000 in
theorem putNumber_any (A : Option Addr) (n c : Nat) (m : Int) (l : List UInt8) (base : Nat) (w : World) (hown : Own w base 5 1 A n c (vbs l)) (h0 : 0 ≤ m) (h1 : m < 4611686018427387904)
    (hn : n + 8 ≤ 140737488355328) (hb : base ≤ w.heap.size) :
    Calls Try.prog 68 #[.slice A n c, .int .u64 m] w fun e w' =>
      ∃ A' c', e = .returned (.slice A' (n + pSize m.toNat) c') ∧ Own w' base 5 1 A' (n + pSize m.toNat) c' (vbs (l ++ pPut m.toNat)) ∧ Grow w w' A A' := by
  have hlen := hid hown.len
  have hG := Grow.refl w A
  rcases size_cases m h0 with ⟨h2, h⟩ | ⟨h2, h3, h⟩ | ⟨h2, h3, h⟩ | ⟨h2, h3, h⟩ | ⟨h2, h⟩
  case inr.inr.inr.inr => omega
  all_goals
    have H := hid h
    clear h
    go_enter Try.func68, Try.ntmps68
    go_wp2_with (first
      | (go_at_call 66; refine (size_any _ _ (by omega) (by omega)).mono ?_; rintro e w' ⟨rfl, rfl⟩; rw [H.out])
      | (at_builtin; refine wp_app1 rfl _ _ _ rfl elB rfl rfl (hown.alloc _) (Rd.lit _ _ _) (by repeat (first | exact ones_nil | refine ones_cons rfl ?_)) (by unfold maxLen; first | omega | (simp; done) | (simp; omega)) (by first | omega | (simp; done) | (simp; omega)) (by first | omega | (simp; done) | (simp; omega)) (by first | omega | (simp; done) | (simp; omega)) ?_; intro g c2 w2 hown2 hG2; have hG := (hG.alloc _).trans hG2; have hz := hG.1.size; have hown := hown2; (try simp only [List.append_assoc, List.cons_append, List.nil_append] at hown); clear hown2 hG2; have hc := (hown.cell (i := n) (by first | omega | (simp; done) | (simp; omega))).trans (at_len hlen.out _ _); have hf := hown.frozen n))
    go_ret
    refine ⟨_, c2, by rw [H.out]; rfl, put_end hown hlen.out (by rw [H.out]) ?_, hG.trans ⟨hown.storeTurn n _, .inl rfl⟩⟩
    have H2 := H.out
  · rw [vput h0 (k := 0) H2 (j := 0) rfl (by omega) (by omega)]
    simp [be, vbs]
  · rw [vput h0 (k := 1) H2 (j := 64) rfl (by omega) (by omega)]
    simp [be, vbs, vb_of]
    omega
  · rw [vput h0 (k := 3) H2 (j := 128) rfl (by omega) (by omega)]
    simp [be, vbs, vb_of]
    omega
  · rw [vput h0 (k := 7) H2 (j := 192) rfl (by omega) (by omega)]
    simp [be, vbs, vb_of]
    omega
/-- The error of Put. -/
def pErr (m : Nat) : Int := if pSize m = 0 then 1 else 0
theorem pPut_none {m : Nat} (h : pSize m = 0) : pPut m = [] := by unfold pPut; rw [h]; rfl
set_option maxHeartbeats 400000 in
theorem put_any (A : Option Addr) (n c : Nat) (m : Int) (l : List UInt8) (B : Nat) (w : World) (hr : Rd w B 1 A n (vbs l)) (hB : B ≤ w.heap.size) (h0 : 0 ≤ m) (h1 : m ≤ 18446744073709551615) (hn : n + 8 ≤ 140737488355328) :
    Calls Try.prog 50 #[.slice A n c, .int .u64 m] w fun e w' =>
      ∃ A' c', e = .returned (.tuple #[.slice A' (n + pSize m.toNat) c', .int .i64 (pErr m.toNat)]) ∧ Own w' w.heap.size 5 1 A' (n + pSize m.toNat) c' (vbs (l ++ pPut m.toNat)) ∧ Turn w w' none := by
  by_cases hz : pSize m.toNat = 0
  · have hm : 4611686018427387904 ≤ m := by have := size_cases m h0; omega
    have H := hid hz
    clear hz
    go_enter Try.func50, Try.ntmps50
    go_wp2_with (first
      | (go_at_call 66; refine (size_any _ _ (by omega) (by omega)).mono ?_; rintro e w' ⟨rfl, rfl⟩; rw [H.out])
      | (go_at_call 67; refine (fresh_any _ _ _ _ l B _ hr (by omega) (by omega) hB).mono ?_; rintro e w1 ⟨A1, c1, rfl, hown, ht⟩))
    go_ret2
    exact ⟨A1, c1, by rw [pErr, H.out]; rfl, by rw [H.out, pPut_none H.out, List.append_nil]; exact hown, ht⟩
  · have hm : m < 4611686018427387904 := by have := size_cases m h0; omega
    have H := hid hz
    have hk : (((pSize m.toNat : Nat) : Int) == 0) = false := by rw [beq_eq_false_iff_ne]; omega
    clear hz
    go_enter Try.func50, Try.ntmps50
    go_wp2_with (first
      | (go_at_call 66; refine (size_any _ _ (by omega) (by omega)).mono ?_; rintro e w' ⟨rfl, rfl⟩)
      | (go_at_call 67; refine (fresh_any _ _ _ _ l B _ hr (by omega) (by omega) hB).mono ?_; rintro e w1 ⟨A1, c1, rfl, hown, ht⟩)
      | (go_at_call 68; refine (putNumber_any _ _ _ _ l _ _ hown (by omega) (by omega) (by omega) ht.size).mono ?_; rintro e w2 ⟨A2, c2, rfl, hown2, hG⟩))
    go_ret2
    exact ⟨A2, c2, by rw [pErr, if_neg H.out]; rfl, hown2, hG.fresh ht fun g hg => (hown.block g hg).1⟩
/-- Byte number j of a number's bytes. -/
theorem pPut_get {m k j : Nat} (h : pSize m = k) (hj : j < k) : (pPut m)[j]? = some (UInt8.ofNat (m / 256 ^ (k - 1 - j) % 256 + if j = 0 then mark k else 0)) := by
  have be_get : ∀ k n j, j < k → (be k n)[j]? = some (UInt8.ofNat (n / 256 ^ (k - 1 - j))) := by
    intro k
    induction k with
    | zero => intro n j h; omega
    | succ k ih =>
      intro n j h
      rw [be]
      cases j with
      | zero => simp
      | succ j =>
        rw [List.getElem?_cons_succ, ih n j (by omega)]
        have e : k - 1 - j = k + 1 - 1 - (j + 1) := by omega
        rw [e]
  cases k with
  | zero => omega
  | succ k =>
    unfold pPut
    rw [h]
    have h0 := be_get (k + 1) m 0 (by omega)
    cases hb : be (k + 1) m with
    | nil => rw [hb] at h0; simp at h0
    | cons c r =>
      cases j with
      | zero =>
        rw [hb] at h0
        simp only [List.getElem?_cons_zero, Option.some.injEq] at h0
        subst h0
        simp
      | succ j =>
        have h1 := be_get (k + 1) m (j + 1) hj
        rw [hb] at h1
        simp only [List.getElem?_cons_succ] at h1 ⊢
        rw [h1]
        simp only [Nat.add_one_ne_zero, if_false, Nat.add_zero]
        congr 1
        apply UInt8.toNat_inj.1
        simp
theorem shr_byte {m : Int} (h0 : 0 ≤ m) (e c : Nat) : (m / 2 ^ (8 * e) + (c : Int)) % 256 = ((m.toNat / 256 ^ e % 256 + c) % 256 : Nat) := by
  obtain ⟨n, rfl⟩ := Int.eq_ofNat_of_zero_le h0
  have e1 : (2 : Int) ^ (8 * e) = ((256 ^ e : Nat) : Int) := by
    rw [Int.pow_mul, Int.natCast_pow]; rfl
  rw [e1, Int.toNat_natCast, ← Int.natCast_ediv]
  generalize n / 256 ^ e = x
  omega
theorem put_first {m : Int} (h0 : 0 ≤ m) {k mk : Nat} (hk : pSize m.toNat = k) (hm : mark k = mk) (h1 : 0 < k) : ∃ b, (pPut m.toNat)[0]? = some b ∧ Value.int .u8 ((m / 2 ^ (8 * (k - 1)) + (mk : Int)) % 256) = vb b := by
  refine ⟨_, pPut_get hk h1, ?_⟩
  rw [vb_of, shr_byte h0, if_pos rfl, hm]
  rfl
theorem put_later {m : Int} (h0 : 0 ≤ m) {k j : Nat} (hk : pSize m.toNat = k) (hj : j < k) (h1 : j ≠ 0) : ∃ b, (pPut m.toNat)[j]? = some b ∧ Value.int .u8 (m / 2 ^ (8 * (k - 1 - j)) % 256) = vb b := by
  refine ⟨_, pPut_get hk hj, ?_⟩
  rw [vb_of, if_neg h1]
  have h := shr_byte h0 (k - 1 - j) 0
  rw [show ((0 : Nat) : Int) = 0 from rfl, Int.add_zero] at h
  rw [h]
theorem put_round {w : World} {base N c : Nat} {E : TypeId} {A : Option Addr} {l p : List UInt8} {j : Nat} {x : Int} (h : Own w base E 1 A N c (vbs (l ++ p.take j) ++ [.int .u8 x])) (hb : ∃ b, p[j]? = some b ∧ Value.int .u8 x = vb b) :
    Own w base E 1 A N c (vbs (l ++ p.take (j + 1))) := by
  obtain ⟨b, h1, h2⟩ := hb
  rw [take_next h1, ← List.append_assoc, vbs_append]
  rw [h2] at h
  exact h
set_option maxHeartbeats 800000 in
theorem rput_any (A : Option Addr) (n c : Nat) (m : Int) (l : List UInt8) (B : Nat) (w : World) (hr : Rd w B 1 A n (vbs l)) (hB : B ≤ w.heap.size) (h0 : 0 ≤ m) (h1 : m ≤ 18446744073709551615) (hn : n + 8 ≤ 140737488355328) :
    Calls Try.prog 59 #[.slice A n c, .int .u64 m] w fun e w' =>
      ∃ A' c', e = .returned (.tuple #[.slice A' (n + pSize m.toNat) c', .int .i64 (pErr m.toNat)]) ∧ Own w' w.heap.size 5 1 A' (n + pSize m.toNat) c' (vbs (l ++ pPut m.toNat)) ∧ Turn w w' none := by
  have hw0 : Own (w.alloc (.cells #[] 5)) w.heap.size 5 1 (some ⟨w.heap.size, 0, none⟩) 0 0 [] := Own.made w _ _ 1 0 #[] (Nat.le_refl _) (by decide) rfl
  have hr1 := hr.alloc hB (.cells #[] 5)
  by_cases hz : pSize m.toNat = 0
  · have H := hid hz
    clear hz
    go_enter Try.func59, Try.ntmps59
    go_wp2_with (first
      | (go_at_call 57; refine (rsize_any _ _ (by omega) (by omega)).mono ?_; rintro e w' ⟨rfl, rfl⟩; rw [H.out])
      | (at_builtin; refine wp_app rfl _ _ _ rfl elB rfl rfl hw0 hr1 (vbs_one l) (by unfold maxLen; first | omega | (simp; done) | (simp; omega)) (by first | omega | (simp; done) | (simp; omega)) (by first | omega | (simp; done) | (simp; omega)) ?_; intro A1 c1 w1 hown ht hb))
    go_ret2
    refine ⟨A1, c1, ?_, ?_, (Turn.alloc (Turn.refl w none) _).new ht (fun g hg => by simp [blk] at hg; omega)⟩
    · rw [pErr, H.out]; simp
    · rw [H.out, pPut_none H.out, List.append_nil]; simpa using hown
  · have hn0 : n + 0 = n := rfl
    rcases size_cases m h0 with ⟨h2, h⟩ | ⟨h2, h3, h⟩ | ⟨h2, h3, h⟩ | ⟨h2, h3, h⟩ | ⟨h2, h⟩
    case inr.inr.inr.inr => omega
    all_goals
      have H := hid h
      have hpl := hid (pPut_len m.toNat)
      clear hz h hn0
      go_enter Try.func59, Try.ntmps59
      go_wp2_with (first
        | (go_at_call 57; refine (rsize_any _ _ (by omega) (by omega)).mono ?_; rintro e w' ⟨rfl, rfl⟩; rw [H.out])
        | (at_builtin; refine wp_app rfl _ _ _ rfl elB rfl rfl hw0 hr1 (vbs_one l) (by unfold maxLen; first | omega | (simp; done) | (simp; omega)) (by first | omega | (simp; done) | (simp; omega)) (by first | omega | (simp; done) | (simp; omega)) ?_; intro A1 c1 w1 hown ht hb))
      have ht1 : Turn w w1 none := (Turn.alloc (Turn.refl w none) _).new ht (fun g hg => by simp [blk] at hg; omega)
      go_loopw [6, 9] (fun v i wr => ∃ (j : Nat) (A2 : Option Addr) (c2 : Nat), j ≤ pSize m.toNat ∧ i = .int .i64 ((pSize m.toNat : Int) - 1 - j) ∧ v = .slice A2 (n + j) c2 ∧
          Own wr w.heap.size 5 1 A2 (n + j) c2 (vbs (l ++ (pPut m.toNat).take j)) ∧ Turn w wr none) (fun _ i _ => (intOf i + 1).toNat)
      case atStart => exact ⟨0, A1, c1, by omega, by rw [H.out]; rfl, by simp, by simpa using hown, ht1⟩
      case round =>
        obtain ⟨j, A2, c2, hj, rfl, rfl, ho, htr⟩ := hrel
        have hz := htr.size
        rw [H.out] at hj
        rw [H.out]
        clear hown ht ht1 hb
        go_wp2_with (at_builtin; refine wp_app rfl _ _ _ rfl elB rfl rfl (ho.alloc _) (Rd.lit _ _ _) (by repeat (first | exact ones_nil | refine ones_cons rfl ?_)) (by unfold maxLen; first | omega | (simp; done) | (simp; omega)) (by first | omega | (simp; done) | (simp; omega)) (by first | omega | (simp; done) | (simp; omega)) ?_; intro A3 c3 w3 ho3 ht3 hb3)
        all_goals first
          | (go_ret2
             have hj2 : j = pSize m.toNat := by rw [H.out]; omega
             refine ⟨A2, c2, by rw [pErr, H.out, hj2, H.out]; rfl, ?_, htr⟩
             rw [hj2, List.take_of_length_le (by rw [hpl.out]; exact Nat.le_refl _)] at ho
             exact ho)
          | (go_roundw
             case measure => simp [intOf]; omega
             case rel =>
               have hG3 : Turn w w3 none := (htr.alloc _).new ht3 (fun g hg => (ho.block g hg).1)
               (try simp only [beq_iff_eq, beq_eq_false_iff_ne, ne_eq] at *)
               refine ⟨j + 1, A3, c3, by omega, by go_num, by first | rfl | (congr 1; omega), put_round ho3 ?_, hG3⟩
               first
               | (obtain rfl : j = 0 := by omega
                  first
                  | exact put_first h0 H.out rfl (by omega)
                  | (have h5 := put_first h0 H.out (mk := 0) rfl (by omega)
                     have h6 : (m / 2 ^ (8 * (1 - 1)) + ((0 : Nat) : Int)) % 256 = m := by simp; omega
                     rw [h6] at h5
                     exact h5))
               | exact put_later h0 H.out (by omega) (by omega))
end Go.Proofs.Ytjekglnbmccnjaa
