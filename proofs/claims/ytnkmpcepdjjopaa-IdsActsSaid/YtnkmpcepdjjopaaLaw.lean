/-
  The walk's laws for append, copy, make and string(bytes), said in the words of the text before. No program is named here.
-/
import Derived.Test.YtnkmpcepdjjopaaMem
import Derived.Lib.AppendStr
import Derived.Laws.OwnMore
import Derived.BigQuiet
import Derived.Deep.QuietTactic
import Derived.Deep.DeepCutAuto
import Derived.Deep.RegionLaw
import Derived.Deep.RegionHeld3
namespace Go.Proofs.Ytnkmpcepdjjopaa
set_option linter.unusedSimpArgs false
set_option linter.unusedVariables false
open Go.RowKit

/-- What the type table says of a slice type t: its element type E, of sz cells and by bytes. -/
def El (P : Program) (t E : TypeId) (sz by_ : Nat) : Prop :=
  P.underlying t = some (.slice E) ∧ ∃ i z, P.info? E = some i ∧ i.zero = some z ∧ i.size = sz ∧ i.bytes = by_ ∧ z.cells.size = sz ∧ 0 < sz

theorem El.mk_ {P : Program} {t E : TypeId} {sz by_ : Nat} {z : Value} (ht : P.underlying t = some (.slice E)) (h : (P.info? E).map (fun i => (i.zero, i.size, i.bytes)) = some (some z, sz, by_))
    (hz : z.cells.size = sz) (hs : 0 < sz) : El P t E sz by_ := by
  obtain ⟨i, h1, h2, h3, h4⟩ := info_parts h
  exact ⟨ht, i, z, h1, h2, h3, h4, hz, hs⟩

section
variable {P : Program} {w : World} {ops : Array Oper} {rest : List Oper} {o : Oper} {a : Act} {Q : Exit → Act → World → Prop}

theorem run_app_nil {base sz by_ n c : Nat} {t ty E : TypeId} (he : El P t E sz by_) {A : Option Addr} {xs : List Value} (hown : Own w base E sz A n c xs) (c' : Nat) :
    (Builtin.append_ #[t, t] ty #[.slice A n c, .slice none 0 c']).run P w = .ok (.slice A n c) w := by
  obtain ⟨ht, i, z, hi, hz, hsz, hby, hzs, h0⟩ := he
  rcases hown.2 with ⟨hv, _⟩ | ⟨g, cap, cur, hv, _, _, hnc, _⟩
  · injection hv with h1 h2 h3
    subst h1; subst h2; subst h3
    simp [Builtin.append_, run_underlying ht, sizeOf, typeInfo, hi, Builtin.lenOf, Builtin.firstCells]
  · injection hv with h1 h2 h3
    subst h1; subst h3
    simp [Builtin.append_, run_underlying ht, sizeOf, typeInfo, hi, Builtin.lenOf, Builtin.firstCells, hnc, storeCells]

theorem rd_nil_len {B sz m : Nat} {news : List Value} (hr : Rd w B sz none m news) (hsz : 0 < sz) : m = 0 ∧ news = [] := by
  cases news with
  | nil =>
    have h : m * sz = 0 := by have := hr.1; simpa using this.symm
    refine ⟨?_, rfl⟩
    rcases Nat.mul_eq_zero.1 h with h | h
    · exact h
    · omega
  | cons u r =>
    obtain ⟨x, hx, _⟩ := hr.2 0 u (by simp)
    cases hx

theorem run_app {base sz by_ n c : Nat} {t ty E : TypeId} (he : El P t E sz by_) {A : Option Addr} {xs : List Value} (hown : Own w base E sz A n c xs)
    {B m c' : Nat} {X : Option Addr} {news : List Value} (hr : Rd w B sz X m news) (h1 : ∀ u ∈ news, u.oneCell' = true)
    (h63 : n + m ≤ maxLen) (hby : (n + m) * by_ ≤ 140737488355328) (hbase : base ≤ w.heap.size) :
    ∃ A' c2 w', (Builtin.append_ #[t, t] ty #[.slice A n c, .slice X m c']).run P w = .ok (.slice A' (n + m) c2) w' ∧ Own w' base E sz A' (n + m) c2 (xs ++ news) ∧ Turn w w' (blk A) ∧
      (blk A' = blk A ∨ blk A' = some w.heap.size) := by
  have he' := he
  obtain ⟨ht, i, z, hi, hz, hsz, hb, hzs, h0⟩ := he
  cases X with
  | none =>
    obtain ⟨rfl, rfl⟩ := rd_nil_len hr h0
    exact ⟨A, c, w, run_app_nil he' hown c', by simpa using hown, Turn.refl w _, .inl rfl⟩
  | some ad =>
    obtain ⟨v', w', hrun, ho', hg, _, hblk⟩ := run_append_own_at (P := P) w base t ty E i z sz by_ ht hi hz hsz hb hzs h0 (.slice A n c) n xs hown ad m c' news hr.1 (fun j u hu => by
      obtain ⟨a', ha, _, hc⟩ := hr.2 j u hu
      injection ha with ha
      subst ha
      exact hc) h1 h63 hby hbase
    have eA : ∀ (A : Option Addr) (n c : Nat), (Value.slice A n c).ownBlock = blk A := fun A n c => by cases A <;> rfl
    have hv : ∃ A' c2, v' = .slice A' (n + m) c2 := by
      rcases ho'.2 with ⟨hv, h⟩ | ⟨g, cap, cur, hv, _⟩
      · exact ⟨none, 0, by rw [hv, h]⟩
      · exact ⟨_, _, hv⟩
    obtain ⟨A', c2, rfl⟩ := hv
    rw [eA, eA] at hblk
    rw [eA] at hg
    exact ⟨A', c2, w', hrun, ho', hg, hblk⟩

/-- append(s, x...): s nil or the call's own, x whatever is read. -/
theorem wp_app (hgd : o.guard = none) (s x : Operand) (t : TypeId) (ho : o.op = .call { callee := .builtin .append, args := #[s, x], argTypes := #[t, t] })
    {base sz by_ n c : Nat} {E : TypeId} (he : El P t E sz by_) {A : Option Addr} {xs : List Value} (hs : a.eval s = .slice A n c)
    {B m c' : Nat} {X : Option Addr} {news : List Value} (hx : a.eval x = .slice X m c') (hown : Own w base E sz A n c xs) (hr : Rd w B sz X m news) (h1 : ∀ u ∈ news, u.oneCell' = true)
    (h63 : n + m ≤ maxLen) (hby : (n + m) * by_ ≤ 140737488355328) (hbase : base ≤ w.heap.size)
    (hK : ∀ A' c2 w', Own w' base E sz A' (n + m) c2 (xs ++ news) → Turn w w' (blk A) → (blk A' = blk A ∨ blk A' = some w.heap.size) → wpList P ops Q rest (a.put o.dst (.slice A' (n + m) c2)) w') :
    wpList P ops Q (o :: rest) a w := by
  refine wpList_plain hgd fun K hK2 => ?_
  obtain ⟨A', c2, w', hrun, h2, h3, h4⟩ := run_app (ty := o.type) he hown (c' := c') hr h1 h63 hby hbase
  unfold Oper.wp execOp
  simp only [ho, resolve, invoke, builtin, Sem.run_bind, Sem.run_pure, Result.andThen_ok, List.map_toArray, List.map_cons, List.map_nil, hs, hx, hrun]
  exact hK2 _ _ (hK A' c2 w' h2 h3 h4)

/-- The same, as a step of a region that draws its order. -/
theorem st_app {K : Act → World → Prop} {F : Prop} (hgd : o.guard = none) (s x : Operand) (t : TypeId) (ho : o.op = .call { callee := .builtin .append, args := #[s, x], argTypes := #[t, t] })
    {base sz by_ n c : Nat} {E : TypeId} (he : El P t E sz by_) {A : Option Addr} {xs : List Value} (hs : a.eval s = .slice A n c)
    {B m c' : Nat} {X : Option Addr} {news : List Value} (hx : a.eval x = .slice X m c') (hown : Own w base E sz A n c xs) (hr : Rd w B sz X m news) (h1 : ∀ u ∈ news, u.oneCell' = true)
    (h63 : n + m ≤ maxLen) (hby : (n + m) * by_ ≤ 140737488355328) (hbase : base ≤ w.heap.size)
    (hK : ∀ A' c2 w', Own w' base E sz A' (n + m) c2 (xs ++ news) → Turn w w' (blk A) → (blk A' = blk A ∨ blk A' = some w.heap.size) → K (a.put o.dst (.slice A' (n + m) c2)) w') :
    if Region.wanted o (yielded ops a.tmps) = true then Oper.wp P o a w K Q else F := by
  have hw : Region.wanted o (yielded ops a.tmps) = true := by simp [Region.wanted, hgd]
  rw [if_pos hw]
  obtain ⟨A', c2, w', hrun, h2, h3, h4⟩ := run_app (ty := o.type) he hown (c' := c') hr h1 h63 hby hbase
  unfold Oper.wp execOp
  simp only [ho, resolve, invoke, builtin, Sem.run_bind, Sem.run_pure, Result.andThen_ok, List.map_toArray, List.map_cons, List.map_nil, hs, hx, hrun]
  exact hK A' c2 w' h2 h3 h4

/-- The same where something is there behind it: the value's head is told. -/
theorem wp_app1 (hgd : o.guard = none) (s x : Operand) (t : TypeId) (ho : o.op = .call { callee := .builtin .append, args := #[s, x], argTypes := #[t, t] })
    {base sz by_ n c : Nat} {E : TypeId} (he : El P t E sz by_) {A : Option Addr} {xs : List Value} (hs : a.eval s = .slice A n c)
    {B m c' : Nat} {X : Option Addr} {news : List Value} (hx : a.eval x = .slice X m c') (hown : Own w base E sz A n c xs) (hr : Rd w B sz X m news) (h1 : ∀ u ∈ news, u.oneCell' = true)
    (h63 : n + m ≤ maxLen) (hby : (n + m) * by_ ≤ 140737488355328) (hbase : base ≤ w.heap.size) (hpos : 0 < n + m)
    (hK : ∀ g c2 w', Own w' base E sz (some ⟨g, 0, none⟩) (n + m) c2 (xs ++ news) → Grow w w' A (some ⟨g, 0, none⟩) → wpList P ops Q rest (a.put o.dst (.slice (some ⟨g, 0, none⟩) (n + m) c2)) w') :
    wpList P ops Q (o :: rest) a w :=
  wp_app hgd s x t ho he hs hx hown hr h1 h63 hby hbase fun A' c2 w' h2 h3 h4 => by
    obtain ⟨g, rfl, _, _⟩ := h2.head hpos
    exact hK g c2 w' h2 ⟨h3, h4.imp id fun e => ⟨_, e, Nat.le_refl _⟩⟩

/-- The same of a text: append(b, s...). -/
theorem run_apps {base n c : Nat} {t u ty E : TypeId} (ht : P.underlying t = some (.slice E)) (hu : P.underlying u = some .string) (he : (P.info? E).map (fun i => (i.zero, i.size, i.bytes)) = some (some (.int .u8 0), 1, 1))
    {A : Option Addr} {xs : List Value} (hown : Own w base E 1 A n c xs) (s : ByteArray) (h63 : n + s.size ≤ maxLen) (hby : n + s.size ≤ 140737488355328) (hbase : base ≤ w.heap.size) :
    ∃ A' c2 w', (Builtin.append_ #[t, u] ty #[.slice A n c, .string s]).run P w = .ok (.slice A' (n + s.size) c2) w' ∧ Own w' base E 1 A' (n + s.size) c2 (xs ++ vbs s.data.toList) ∧ Turn w w' (blk A) ∧
      (blk A' = blk A ∨ blk A' = some w.heap.size) := by
  obtain ⟨i, hi, hz, hsz, hb⟩ := info_parts he
  have hsmall : n + s.size ≤ 9223372036854775807 := by simp only [maxLen] at h63; omega
  obtain ⟨v', w', hr, ho, hg, hn⟩ := Lib.run_append_own_string (P := P) w base t u ty E i ht hu hi hz hsz hb (.slice A n c) n xs hown s h63 hby hbase
  have eA : ∀ (A : Option Addr) (n c : Nat), (Value.slice A n c).ownBlock = blk A := fun A n c => by cases A <;> rfl
  have hv : ∃ A' c2, v' = .slice A' (n + s.size) c2 := by
    rcases ho.2 with ⟨hv, h⟩ | ⟨g, cap, cur, hv, _⟩
    · exact ⟨none, 0, by rw [hv, h]⟩
    · exact ⟨_, _, hv⟩
  obtain ⟨A', c2, rfl⟩ := hv
  rw [eA] at hg
  refine ⟨A', c2, w', hr, ho, hg, ?_⟩
  rcases hown.2 with ⟨hv, h0⟩ | ⟨g, cap, cur, hv, _, hgg, hnc, _, hcs, _⟩
  · injection hv with h1 h2 h3
    subst h1; subst h2; subst h3
    by_cases hm : s.size = 0
    · have := hn.2 ⟨rfl, hm⟩
      injection this with h1
      exact .inl (by rw [h1])
    · have h2 := run_append_nil_string (P := P) w t u ty E i (.int .u8 0) ht hu hi hz s (by omega) (by omega) (by rw [hb]; omega)
      rw [hr] at h2
      injection h2 with h2 _
      injection h2 with h2
      exact .inr (by rw [h2]; rfl)
  · injection hv with h1 _ h3
    subst h1; subst h3
    by_cases hroom : n + s.size ≤ c
    · have h2 := Lib.run_append_room_string (P := P) w t u ty E i ht hu hi hsz g n c cur hgg s hroom (by omega)
      rw [hr] at h2
      injection h2 with h2 _
      injection h2 with h2
      exact .inl (by rw [h2])
    · have h2 := Lib.run_append_grow_string (P := P) w t u ty E i (.int .u8 0) ht hu hi hz ⟨g, 0, none⟩ n c xs (by rw [hsz]; exact hown.1) (World.ownsRow.cells hown (g := g) rfl) s (by omega) (by omega) (by rw [hb]; exact growslice_fits (by omega) (by omega))
      rw [hr] at h2
      injection h2 with h2 _
      injection h2 with h2
      exact .inr (by rw [h2]; rfl)

theorem wp_apps (hgd : o.guard = none) (s x : Operand) (t u : TypeId) (ho : o.op = .call { callee := .builtin .append, args := #[s, x], argTypes := #[t, u] })
    {base n c : Nat} {E : TypeId} (ht : P.underlying t = some (.slice E)) (hu : P.underlying u = some .string) (he : (P.info? E).map (fun i => (i.zero, i.size, i.bytes)) = some (some (.int .u8 0), 1, 1))
    {A : Option Addr} {xs : List Value} (hs : a.eval s = .slice A n c) {b : ByteArray} (hx : a.eval x = .string b) (hown : Own w base E 1 A n c xs)
    (h63 : n + b.size ≤ maxLen) (hby : n + b.size ≤ 140737488355328) (hbase : base ≤ w.heap.size)
    (hK : ∀ A' c2 w', Own w' base E 1 A' (n + b.size) c2 (xs ++ vbs b.data.toList) → Turn w w' (blk A) → (blk A' = blk A ∨ blk A' = some w.heap.size) → wpList P ops Q rest (a.put o.dst (.slice A' (n + b.size) c2)) w') :
    wpList P ops Q (o :: rest) a w := by
  refine wpList_plain hgd fun K hK2 => ?_
  obtain ⟨A', c2, w', hrun, h2, h3, h4⟩ := run_apps (ty := o.type) ht hu he hown b h63 hby hbase
  unfold Oper.wp execOp
  simp only [ho, resolve, invoke, builtin, Sem.run_bind, Sem.run_pure, Result.andThen_ok, List.map_toArray, List.map_cons, List.map_nil, hs, hx, hrun]
  exact hK2 _ _ (hK A' c2 w' h2 h3 h4)

theorem run_cp {base by_ n c : Nat} {t sT ty E : TypeId} (he : El P t E 1 by_) {A : Option Addr} {ys : List Value} (hown : Own w base E 1 A n c ys)
    {B m c' : Nat} {X : Option Addr} {xs : List Value} (hr : Rd w B 1 X m xs) (h1 : ∀ u ∈ xs, u.oneCell' = true) :
    ∃ w', (Builtin.copy_ #[t, sT] ty #[.slice A n c, .slice X m c']).run P w = .ok (goInt (Nat.min m n)) w' ∧ Own w' base E 1 A n c (xs.take (Nat.min m n) ++ ys.drop (Nat.min m n)) ∧ Turn w w' (blk A) := by
  obtain ⟨ht, i, z, hi, hz, hsz, hb, hzs, h0⟩ := he
  have hs1 : (P.info? E).map (·.size) = some 1 := by rw [hi]; simp [hsz]
  by_cases hn : Nat.min m n = 0
  · refine ⟨w, ?_, by rw [hn]; simpa using hown, Turn.refl w _⟩
    rw [hn]
    exact run_copy_none (P := P) w t sT ty E A X n c m c' ht hs1 hn
  · have hmn : 0 < m ∧ 0 < n := by
      have : Nat.min m n ≤ m := Nat.min_le_left m n
      have : Nat.min m n ≤ n := Nat.min_le_right m n
      omega
    obtain ⟨g, cap, hv, hbg, hlt⟩ := World.ownsRow.form hown hmn.2
    injection hv with hA _ hc
    subst hA; subst hc
    obtain ⟨h2, h3⟩ := hown
    rcases h3 with ⟨hv, _⟩ | ⟨g', cap', cur, hv, _, hg, hnc, hcm, hcs, htake⟩
    · cases hv
    · injection hv with hv _ hc
      injection hv with hv
      injection hv with hg'
      subst hg'; subst hc
      have hmin : Nat.min m n ≤ n := Nat.min_le_right m n
      have hl : (xs.take (Nat.min m n)).length = Nat.min m n := by
        rw [List.length_take, hr.len]; exact Nat.min_eq_left (Nat.min_le_left m n)
      obtain ⟨u0, ad, hX, _, hx0, _⟩ := hr.at_ (k := 0) (by omega)
      subst hX
      have hrun := run_copy_row (P := P) w t sT ty E g 0 n c u0 m c' cur E (xs.take (Nat.min m n)) ht hs1 hg hl (fun j v hj => by
        rw [List.getElem?_take] at hj
        split at hj
        · obtain ⟨a', ha, _, hc⟩ := hr.2 j v hj
          injection ha with ha
          subst ha
          exact hc
        · cases hj) (by rw [hl, hcs]; omega) (fun v hv => h1 v (List.mem_of_mem_take hv))
      rw [hl] at hrun
      refine ⟨_, hrun, ⟨?_, .inr ⟨g, c, _, rfl, hbg, setRow_heap w g cur _ E _ hg, hnc, hcm, ?_, ?_⟩⟩, ⟨rfl, rfl, rfl, by simp, fun k _ hk => setRow_other w g k _ (fun e => hk (by simp [blk, e]))⟩⟩
      · rw [List.length_append, hl, List.length_drop, h2]; omega
      · have hcl : cur.toList.length = c * 1 := by rw [Array.length_toList, hcs]
        simp only [List.take_zero, List.nil_append, List.size_toArray, List.length_append, hl, List.length_drop, hcl]
        omega
      · simp only [List.take_zero, List.nil_append, Nat.zero_add]
        rw [List.take_append, hl]
        have e1 : (xs.take (Nat.min m n)).take (n * 1) = xs.take (Nat.min m n) := by
          rw [List.take_take]; congr 1; omega
        rw [e1, ← htake, List.drop_take]

/-- copy(d, s): d the call's own. -/
theorem wp_cp (hgd : o.guard = none) (d s : Operand) (t sT : TypeId) (ho : o.op = .call { callee := .builtin .copy, args := #[d, s], argTypes := #[t, sT] })
    {base by_ n c : Nat} {E : TypeId} (he : El P t E 1 by_) {A : Option Addr} {ys : List Value} (hd : a.eval d = .slice A n c)
    {B m c' : Nat} {X : Option Addr} {xs : List Value} (hs : a.eval s = .slice X m c') (hown : Own w base E 1 A n c ys) (hr : Rd w B 1 X m xs) (h1 : ∀ u ∈ xs, u.oneCell' = true)
    (hK : ∀ w', Own w' base E 1 A n c (xs.take (Nat.min m n) ++ ys.drop (Nat.min m n)) → Turn w w' (blk A) → wpList P ops Q rest (a.put o.dst (goInt (Nat.min m n))) w') :
    wpList P ops Q (o :: rest) a w := by
  refine wpList_plain hgd fun K hK2 => ?_
  obtain ⟨w', hrun, h2, h3⟩ := run_cp (ty := o.type) (sT := sT) he hown (c' := c') hr h1
  unfold Oper.wp execOp
  simp only [ho, resolve, invoke, builtin, Sem.run_bind, Sem.run_pure, Result.andThen_ok, List.map_toArray, List.map_cons, List.map_nil, hd, hs, hrun]
  exact hK2 _ _ (hK w' h2 h3)

/-- make([]T, n, c), elements of one cell: the value stands at the head of a new block. -/
theorem wp_mk (hgd : o.guard = none) (l cc : Operand) (t : TypeId) (ho : o.op = .makeSlice t l cc)
    {by_ : Nat} {E : TypeId} (he : El P t E 1 by_) {kl kc : IntKind} {L C : Int} (hl : a.eval l = .int kl L) (hc : a.eval cc = .int kc C) (n c : Nat) (hL : L = n) (hC : C = c)
    (hnc : n ≤ c) (hby : by_ * c ≤ 281474976710656) (h63 : c ≤ maxLen)
    (hK : ∀ w' xs, xs.length = n → Own w' w.heap.size E 1 (some ⟨w.heap.size, 0, none⟩) n c xs → Turn w w' none → wpList P ops Q rest (a.put o.dst (.slice (some ⟨w.heap.size, 0, none⟩) n c)) w') :
    wpList P ops Q (o :: rest) a w := by
  refine wpList_plain hgd fun K hK2 => ?_
  obtain ⟨ht, i, z, hi, hz, hsz, hb, hzs, h0⟩ := he
  subst hL; subst hC
  have hbi : (i.bytes : Int) * (c : Int) ≤ 281474976710656 := by
    rw [hb]
    have h : ((by_ * c : Nat) : Int) ≤ 281474976710656 := by omega
    rwa [Int.natCast_mul] at h
  have hr := run_make (P := P) w t E i z ht hi hz kl kc n c (by omega) (by omega) hbi (by simp only [maxLen] at h63; omega)
  simp only [Int.toNat_natCast] at hr
  have hcs : (madeCells z.cells (c * i.size)).size = c * 1 := by rw [size_madeCells, hsz]
  have hown := Own.full w w.heap.size E 1 n c (madeCells z.cells (c * i.size)) (Nat.le_refl _) h63 hnc hcs
  unfold Oper.wp execOp
  simp only [ho, hl, hc, Sem.run_bind, Sem.run_pure, Result.andThen_ok, hr]
  exact hK2 _ _ (hK _ _ (by rw [List.length_take, Array.length_toList, hcs]; omega) hown (World.grownBy_alloc w _ none))

/-- The same, and what the cells hold: the element type's nought. -/
theorem wp_mk0 (hgd : o.guard = none) (l cc : Operand) (t : TypeId) (ho : o.op = .makeSlice t l cc)
    {by_ : Nat} {E : TypeId} (he : El P t E 1 by_) {z0 : Value} (hz0 : (P.info? E).map (fun i => i.zero) = some (some z0)) (hz1 : z0.cells = #[z0]) {kl kc : IntKind} {L C : Int} (hl : a.eval l = .int kl L) (hc : a.eval cc = .int kc C) (n c : Nat) (hL : L = n) (hC : C = c)
    (hnc : n ≤ c) (hby : by_ * c ≤ 281474976710656) (h63 : c ≤ maxLen)
    (hK : ∀ w', Own w' w.heap.size E 1 (some ⟨w.heap.size, 0, none⟩) n c (List.replicate n z0) → Turn w w' none → wpList P ops Q rest (a.put o.dst (.slice (some ⟨w.heap.size, 0, none⟩) n c)) w') :
    wpList P ops Q (o :: rest) a w := by
  refine wpList_plain hgd fun K hK2 => ?_
  obtain ⟨ht, i, z, hi, hz, hsz, hb, hzs, h0⟩ := he
  subst hL; subst hC
  have ez : z = z0 := by
    rw [hi, Option.map_some, hz] at hz0
    injection hz0 with e
    injection e
  subst ez
  have hbi : (i.bytes : Int) * (c : Int) ≤ 281474976710656 := by
    rw [hb]
    have h : ((by_ * c : Nat) : Int) ≤ 281474976710656 := by omega
    rwa [Int.natCast_mul] at h
  have hr := run_make (P := P) w t E i z ht hi hz kl kc n c (by omega) (by omega) hbi (by simp only [maxLen] at h63; omega)
  simp only [Int.toNat_natCast] at hr
  have hcs : (madeCells z.cells (c * i.size)).size = c * 1 := by rw [size_madeCells, hsz]
  have hown := Own.full w w.heap.size E 1 n c (madeCells z.cells (c * i.size)) (Nat.le_refl _) h63 hnc hcs
  have hlist : (madeCells z.cells (c * i.size)).toList.take (n * 1) = List.replicate n z := by
    rw [hsz, hz1, toList_madeCells_one, List.take_replicate, Nat.mul_one, Nat.mul_one, Nat.min_eq_left hnc]
  rw [hlist] at hown
  unfold Oper.wp execOp
  simp only [ho, hl, hc, Sem.run_bind, Sem.run_pure, Result.andThen_ok, hr]
  exact hK2 _ _ (hK _ hown (World.grownBy_alloc w _ none))

/-- string(b), b bytes that are seen. -/
theorem wp_txt (hgd : o.guard = none) (x : Operand) (t dst e : TypeId) (ho : o.op = .convert t dst x) (hs : P.underlying t = some (.slice e)) (he : P.underlying e = some (.int .u8)) (hd : P.underlying dst = some .string)
    {B n c : Nat} {A : Option Addr} {l : List UInt8} (hx : a.eval x = .slice A n c) (hr : Rd w B 1 A n (vbs l)) (hK : wpList P ops Q rest (a.put o.dst (.string (txt l))) w) :
    wpList P ops Q (o :: rest) a w := by
  refine wpList_plain hgd fun K hK2 => ?_
  have hrun := run_txt (P := P) w B t dst e A n c l hs he hd hr
  unfold Oper.wp execOp
  simp only [ho, hx, Sem.run_bind, Sem.run_pure, Result.andThen_ok, hrun]
  exact hK2 _ _ hK

/-! ### A region that draws its order, of whose calls each tells a plain value and only makes memory -/
/-- The worlds behind w in which nothing has turned but what is new. -/
def Fut (w : World) : Type := { w' : World // Turn w w' none }
def Fut.at_ {w : World} (x : Fut w) : World := x.1
instance futNonempty (w : World) : Nonempty (Fut w) := ⟨⟨w, Turn.refl w none⟩⟩
theorem Fut.turn {w : World} (x : Fut w) : Turn w x.at_ none := x.2
theorem Rd.fut {B sz n : Nat} {A : Option Addr} {xs : List Value} (h : Rd w B sz A n xs) (hB : B ≤ w.heap.size) (x : Fut w) : Rd x.at_ B sz A n xs := h.turn0 x.turn hB
theorem Own.fut {base sz n c : Nat} {E : TypeId} {A : Option Addr} {xs : List Value} (h : Own w base E sz A n c xs) (x : Fut w) : Own x.at_ base E sz A n c xs := h.turn0 x.turn
theorem Blk.fut {g : Nat} {t : TypeId} {cs : Array Value} (h : Blk w g t cs) (x : Fut w) : Blk x.at_ g t cs := h.turn0 x.turn
theorem fut_call {f : FuncId} {args : Array Value} {v : Value} (x : Fut w) (h : Calls P f args x.at_ fun e w' => e = .returned v ∧ Turn x.at_ w' none) :
    Calls P f args x.at_ fun e w' => e = .returned v ∧ ∃ y : Fut w, w' = y.at_ :=
  h.mono fun _ w' ⟨he, ht⟩ => ⟨he, ⟨w', x.turn.trans ht⟩, rfl⟩
theorem fut_call0 {f : FuncId} {args : Array Value} {v : Value} (x : Fut w) (h : Calls P f args x.at_ fun e w' => e = .returned v ∧ x.at_ = w') :
    Calls P f args x.at_ fun e w' => e = .returned v ∧ ∃ y : Fut w, w' = y.at_ :=
  h.mono fun _ _ ⟨he, ht⟩ => ⟨he, x, ht.symm⟩
theorem fut_callN {f : FuncId} {args : Array Value} {v : Value} (x : Fut w) (h : Calls P f args x.at_ fun e w' => e = .returned v ∧ ∃ q, w' = x.at_.drewN q) :
    Calls P f args x.at_ fun e w' => e = .returned v ∧ ∃ y : Fut w, w' = y.at_ :=
  fut_call x (h.mono fun _ _ ⟨he, q, hq⟩ => ⟨he, by rw [hq]; exact (Turn.refl _ _).drewN q⟩)
theorem wp_region_fut {id : Nat} {l : List Oper} (hm : P.follows .mixedOrders = true) (hB : Region.lexB .any l.toArray = true)
    (h : wpQuiet P l.toArray (fun w' => ∃ x : Fut w, w' = x.at_) (fun a' => ∀ w', Turn w w' none → Q .normal a' w') l a) : (Code.region id l.toArray true).wp P Q a w := by
  refine wp_region_quiet (C := fun w' => ∃ x : Fut w, w' = x.at_) hm hB ⟨⟨_, (Turn.refl w none).drew⟩, rfl⟩ ?_
  have e : (fun a' : Act => ∀ w', (∃ x : Fut w, w' = x.at_) → Q .normal a' w') = fun a' => ∀ w', Turn w w' none → Q .normal a' w' := by
    funext a'
    apply propext
    exact ⟨fun h w' ht => h w' ⟨⟨w', ht⟩, rfl⟩, fun h w' ⟨x, hx⟩ => h w' (by rw [hx]; exact x.turn)⟩
  rw [e]
  simpa using h

/-- What is held in a region may be made more. -/
theorem wpAnyH_more {md : Region.Mode} {opsA : Array Oper} {S S' : World → Prop} (hS : ∀ w, S' w → S w) : ∀ (fuel : Nat) (listed : Array Bool) (a : Act) (w : World), wpAnyH P md opsA Q S' fuel listed a w → wpAnyH P md opsA Q S fuel listed a w
  | 0, _, _, _, h => h
  | fuel + 1, _, _, _, h => ⟨h.1, fun i hi => wpOp_mono (fun a' w' h' => ⟨hS _ h'.1, wpAnyH_more hS fuel _ a' w' h'.2⟩) (h.2 i hi)⟩

/-- The cells of a literal: a new block. -/
theorem Rd.lit (w : World) (E : TypeId) (cs : List Value) : Rd (w.alloc (.cells cs.toArray E)) (w.heap.size + 1) 1 (some ⟨w.heap.size, 0, none⟩) cs.length cs := by
  refine ⟨by simp, fun k u hu => ⟨_, rfl, Nat.lt_succ_self _, ?_⟩⟩
  exact World.news_of_block (cs := cs.toArray) (heap_alloc_new w _) k u (by simpa using hu)
/-- The same, of a row that is marked behind its last cell. -/
theorem Rd.litF (w : World) (E : TypeId) (fr : Nat × Nat) (cs : List Value) : Rd (w.alloc (.cells cs.toArray E fr)) (w.heap.size + 1) 1 (some ⟨w.heap.size, 0, none⟩) cs.length cs := by
  refine ⟨by simp, fun k u hu => ⟨_, rfl, Nat.lt_succ_self _, ?_⟩⟩
  rw [add_flat, Nat.zero_add, cell_of_row _ _ _ cs.toArray E fr (heap_alloc_new w _)]
  simpa using hu
theorem ones_nil : ∀ u ∈ ([] : List Value), u.oneCell' = true := fun u hu => by cases hu
theorem ones_cons {v : Value} {l : List Value} (h : v.oneCell' = true) (hl : ∀ u ∈ l, u.oneCell' = true) : ∀ u ∈ v :: l, u.oneCell' = true := by
  intro u hu
  rcases List.mem_cons.1 hu with rfl | hu
  · exact h
  · exact hl u hu
theorem at_len {xs : List Value} {n : Nat} (h : xs.length = n) (v : Value) (r : List Value) : (xs ++ v :: r)[n]? = some v := by
  subst h; simp
theorem set_len {xs : List Value} {n : Nat} (h : xs.length = n) (v u : Value) (r : List Value) : (xs ++ v :: r).set n u = xs ++ u :: r := by
  subst h; simp
end
end Go.Proofs.Ytnkmpcepdjjopaa
