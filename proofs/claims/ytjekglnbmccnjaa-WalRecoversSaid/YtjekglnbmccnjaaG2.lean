import Derived.Test.YtjekglnbmccnjaaG1
import Derived.Lib.AppendStr
import Derived.Laws.OwnMore
import Derived.BigQuiet
import Derived.Deep.QuietTactic
import Derived.Deep.DeepCutAuto
import Derived.Deep.RegionLaw
import Derived.Deep.RegionHeld3
import Derived.Deep.Slices
import Derived.Deep.DeepAppendWide
import Derived.Lib.SliceRun
import Derived.Lib.AppendZeros
import Derived.Deep.MidRow
import Derived.Deep.WholeRow
import Derived.BigFrame
set_option linter.unusedSimpArgs false
set_option linter.unusedVariables false
set_option linter.unusedSectionVars false
/-
  Layer 15, pure side: what a log's bytes come to; what is left of one whose last frame was torn, with some bytes behind.
-/
namespace Go.Proofs.Ytjekglnbmccnjaa
set_option linter.unusedSimpArgs false
set_option linter.unusedVariables false

/-- Of which behind a part of a frame no frame comes: so many bytes kept, these behind. -/
def wSafe (j : Nat) (t : List UInt8) : Prop := if j = 0 then t = [] ∨ ∃ r, t = 255 :: r else t.length ≤ 3
/-- The first byte says more bytes than there are, or a number that needs more. -/
theorem fTake_small {b : UInt8} {r : List UInt8} (h2 : 1 < pLen b) (hl : (b :: r).length ≤ 6) : (fTake (b :: r)).2.2 ≠ 0 := by
  unfold fTake
  by_cases h0 : (pTake (b :: r)).2.2 ≠ 0
  · rw [if_pos h0]; exact h0
  rw [if_neg h0]
  by_cases h1 : 1048576 < (pTake (b :: r)).1
  · rw [if_pos h1]; decide
  rw [if_neg h1]
  obtain ⟨n, k, e, ht⟩ : ∃ n k e, pTake (b :: r) = (n, k, e) := ⟨_, _, _, rfl⟩
  rw [ht] at h0 ⊢
  have he : e = 0 := by simpa using h0
  subst he
  obtain ⟨q1, q2, q3, q4⟩ := pTake_ok ht
  have hk : k = pLen b := by
    have h3 := ht
    rw [pTake] at h3
    split at h3
    · simp at h3
    · split at h3
      · simp only [Prod.mk.injEq] at h3; exact h3.2.1.symm
      · simp at h3
  have hn : 64 ≤ n := by
    rcases pSize_cases n with c | c | c | c | c <;> omega
  rw [if_pos (by show (b :: r).length < k + n + 4; omega)]
  decide
theorem fTake_255 (r : List UInt8) : (fTake (255 :: r)).2.2 ≠ 0 := by
  unfold fTake
  by_cases h0 : (pTake (255 :: r)).2.2 ≠ 0
  · rw [if_pos h0]; exact h0
  rw [if_neg h0]
  obtain ⟨n, k, e, ht⟩ : ∃ n k e, pTake (255 :: r) = (n, k, e) := ⟨_, _, _, rfl⟩
  rw [ht] at h0 ⊢
  have he : e = 0 := by simpa using h0
  subst he
  obtain ⟨q1, q2, q3, q4⟩ := pTake_ok ht
  have hk : k = 8 := by
    have h3 := ht
    rw [pTake] at h3
    have hp : pLen 255 = 8 := by decide
    rw [hp] at h3
    split at h3
    · simp at h3
    · split at h3
      · simp only [Prod.mk.injEq] at h3; exact h3.2.1.symm
      · simp at h3
  rcases pSize_cases n with c | c | c | c | c
  · omega
  · omega
  · omega
  · rw [if_pos (by show 1048576 < n; omega)]; decide
  · omega
/-- A torn frame with such bytes behind is none, or the whole one with two bytes behind at most. -/
theorem fTake_tail {x t : List UInt8} {j : Nat} (hx : x.length ≤ 1048576) (hj : j < (fBytes x).length) (ht : wSafe j t) :
    ((fBytes x).take j ++ t = [] ∨ (fTake ((fBytes x).take j ++ t)).2.2 ≠ 0) ∨ ∃ u, (fBytes x).take j ++ t = fBytes x ++ u ∧ u.length ≤ 2 := by
  have hs := pSize_small hx
  have hs4 := pSize_small4 hx
  have hl := fBytes_len x
  unfold fSize at hl
  unfold wSafe at ht
  by_cases h0 : j = 0
  · subst h0
    rw [if_pos rfl] at ht
    rw [List.take_zero, List.nil_append]
    rcases ht with rfl | ⟨r, rfl⟩
    · exact .inl (.inl rfl)
    · exact .inl (.inr (fTake_255 r))
  rw [if_neg h0] at ht
  by_cases hh : j < pSize x.length
  · obtain ⟨k, b, e1, e2, _, hp, _, hpl, _⟩ := pPut_form hs
    have e : (fBytes x).take j = b :: (be k x.length).take (j - 1) := by
      rw [fBytes, fHead, List.append_assoc, List.take_append_of_le_length (by rw [pPut_len]; omega), hp]
      obtain ⟨i, rfl⟩ : ∃ i, j = i + 1 := ⟨j - 1, by omega⟩
      rfl
    rw [e, List.cons_append]
    refine .inl (.inr (fTake_small (by omega) ?_))
    rw [List.length_cons, List.length_append, List.length_take]
    omega
  · have hlen : ((fBytes x).take j ++ t).length = j + t.length := by rw [List.length_append, List.length_take]; omega
    have e : (fBytes x).take j ++ t = pPut x.length ++ ((x ++ cBs (cSum (fHead x))).take (j - pSize x.length) ++ t) := by
      rw [fBytes, fHead, List.append_assoc, List.take_append, pPut_len, List.take_of_length_le (by rw [pPut_len]; omega), List.append_assoc]
    have hpt : pTake ((fBytes x).take j ++ t) = (x.length, pSize x.length, 0) := by rw [e]; exact pTake_put hs _
    by_cases hshort : j + t.length < (fBytes x).length
    · refine .inl (.inr ?_)
      unfold fTake
      rw [hpt, hlen]
      simp only [ne_eq, not_true_eq_false, if_false]
      rw [if_neg (by omega), if_pos (by omega)]
      decide
    · obtain ⟨L, hL⟩ : ∃ L, L = (fBytes x).length := ⟨_, rfl⟩
      have hhead : ((fBytes x).take j ++ t).take (L - 4) = fHead x := by
        rw [List.take_append_of_le_length (by rw [List.length_take]; omega), List.take_take, Nat.min_eq_left (by omega), fBytes, List.take_append_of_le_length (by rw [fHead_len]; omega), List.take_of_length_le (by rw [fHead_len]; omega)]
      by_cases hg : cGood (((fBytes x).take j ++ t).take L) = true
      · have hl4 : (((fBytes x).take j ++ t).take L).length = L := by rw [List.length_take, hlen]; omega
        have h2 : cBs (cSum ((((fBytes x).take j ++ t).take L).take (L - 4))) = (((fBytes x).take j ++ t).take L).drop (L - 4) := by
          unfold cGood at hg
          rw [hl4, Bool.and_eq_true, beq_iff_eq] at hg
          exact hg.2
        rw [List.take_take, Nat.min_eq_left (by omega), hhead] at h2
        have h3 : ((fBytes x).take j ++ t).take L = fBytes x := by
          have h4 := List.take_append_drop (L - 4) (((fBytes x).take j ++ t).take L)
          rw [← h2, List.take_take, Nat.min_eq_left (by omega), hhead] at h4
          exact h4.symm
        refine .inr ⟨((fBytes x).take j ++ t).drop L, ?_, ?_⟩
        · have h4 := List.take_append_drop L ((fBytes x).take j ++ t)
          rw [h3] at h4
          exact h4.symm
        · rw [List.length_drop, hlen]; omega
      · refine .inl (.inr ?_)
        unfold fTake
        rw [hpt, hlen]
        simp only [ne_eq, not_true_eq_false, if_false]
        rw [if_neg (by omega), if_neg (by omega)]
        have e9 : pSize x.length + x.length + 4 = L := by omega
        rw [e9, if_neg hg]
        decide

/-! ### What a log has -/
/-- The frame of a record's number, and the record. -/
def wRec (n : Nat) (r : List UInt8) : List UInt8 := pPut n ++ r
/-- Records from a number on, framed one behind the other. -/
def wAll : Nat → List (List UInt8) → List UInt8
  | _, [] => []
  | n, r :: l => fBytes (wRec n r) ++ wAll (n + 1) l
/-- What is taken of a log's bytes: first is the snapshot's number; the records, the next number, how many bytes were taken or passed over. -/
def wGo : Nat → Nat → List (List UInt8) → Nat → List UInt8 → List (List UInt8) × Nat × Nat
  | 0, _, l, next, _ => (l, next, 0)
  | f + 1, first, l, next, b =>
    if b = [] then (l, next, 0)
    else if (fTake b).2.2 ≠ 0 ∨ (pTake (fTake b).1).2.2 ≠ 0 then (l, next, 0)
    else if (pTake (fTake b).1).1 < first ∧ l = [] then ((wGo f first l next (b.drop (fTake b).2.1)).1, (wGo f first l next (b.drop (fTake b).2.1)).2.1, (fTake b).2.1 + (wGo f first l next (b.drop (fTake b).2.1)).2.2)
    else if (pTake (fTake b).1).1 = next then
      ((wGo f first (l ++ [(fTake b).1.drop (pTake (fTake b).1).2.1]) (next + 1) (b.drop (fTake b).2.1)).1, (wGo f first (l ++ [(fTake b).1.drop (pTake (fTake b).1).2.1]) (next + 1) (b.drop (fTake b).2.1)).2.1, (fTake b).2.1 + (wGo f first (l ++ [(fTake b).1.drop (pTake (fTake b).1).2.1]) (next + 1) (b.drop (fTake b).2.1)).2.2)
    else (l, next, 0)
theorem wRec_take {n : Nat} (hn : n < 4611686018427387904) (r : List UInt8) : pTake (wRec n r) = (n, pSize n, 0) ∧ (wRec n r).drop (pSize n) = r := by
  have h : pSize n ≠ 0 := by rcases pSize_cases n with c | c | c | c | c <;> omega
  refine ⟨pTake_put h r, ?_⟩
  unfold wRec
  rw [List.drop_append_of_le_length (by rw [pPut_len]; omega), List.drop_of_length_le (by rw [pPut_len]; omega), List.nil_append]
/-- One record more is taken. -/
theorem wGo_take {f first next : Nat} {l : List (List UInt8)} {r b : List UInt8} (hn : next < 4611686018427387904) (hx : (wRec next r).length ≤ 1048576) (hf : ¬ (next < first ∧ l = [])) :
    wGo (f + 1) first l next (fBytes (wRec next r) ++ b) = ((wGo f first (l ++ [r]) (next + 1) b).1, (wGo f first (l ++ [r]) (next + 1) b).2.1, (fBytes (wRec next r)).length + (wGo f first (l ++ [r]) (next + 1) b).2.2) := by
  have ht := fTake_frame hx b
  obtain ⟨hp, hd⟩ := wRec_take hn r
  have hne : fBytes (wRec next r) ++ b ≠ [] := fun e => by
    have := congrArg List.length e
    rw [List.length_append, fBytes_len, List.length_nil] at this
    unfold fSize at this
    omega
  rw [wGo, if_neg hne, ht]
  simp only [hp, hd, ne_eq, not_true_eq_false, or_self, if_false, if_true]
  rw [if_neg hf, List.drop_left]
/-- One of a number that is too low is passed over. -/
theorem wGo_low {f first next n : Nat} {r b : List UInt8} (hn : n < 4611686018427387904) (hx : (wRec n r).length ≤ 1048576) (hf : n < first) :
    wGo (f + 1) first [] next (fBytes (wRec n r) ++ b) = ((wGo f first [] next b).1, (wGo f first [] next b).2.1, (fBytes (wRec n r)).length + (wGo f first [] next b).2.2) := by
  have ht := fTake_frame hx b
  obtain ⟨hp, hd⟩ := wRec_take hn r
  have hne : fBytes (wRec n r) ++ b ≠ [] := fun e => by
    have := congrArg List.length e
    rw [List.length_append, fBytes_len, List.length_nil] at this
    unfold fSize at this
    omega
  rw [wGo, if_neg hne, ht]
  simp only [hp, hd, ne_eq, not_true_eq_false, or_self, if_false]
  rw [if_pos ⟨hf, trivial⟩, List.drop_left]
theorem wGo_stop {f first next : Nat} {l : List (List UInt8)} {b : List UInt8} (h : b = [] ∨ (fTake b).2.2 ≠ 0) : wGo f first l next b = (l, next, 0) := by
  cases f with
  | zero => rfl
  | succ f =>
    rw [wGo]
    by_cases hb : b = []
    · rw [if_pos hb]
    · rw [if_neg hb, if_pos (.inl (h.resolve_left hb))]
/-- All records are taken, and no more. -/
theorem wGo_all : ∀ (l : List (List UInt8)) (f first next : Nat) (k : List (List UInt8)) (b : List UInt8), l.length ≤ f → next + l.length ≤ 4611686018427387904 → (∀ r ∈ l, r.length ≤ 1048568) → ¬ (next < first) → (b = [] ∨ (fTake b).2.2 ≠ 0) →
    wGo f first k next (wAll next l ++ b) = (k ++ l, next + l.length, (wAll next l).length)
  | [], f, first, next, k, b, _, _, _, _, hb => by
    rw [wAll, List.nil_append, wGo_stop hb]
    simp
  | r :: l, 0, _, _, _, _, h, _, _, _, _ => by simp at h
  | r :: l, f + 1, first, next, k, b, h, hn, hl, hf, hb => by
    rw [List.length_cons] at h hn
    have hx : (wRec next r).length ≤ 1048576 := by
      unfold wRec
      rw [List.length_append, pPut_len]
      have h1 := pSize_le next
      have h2 := hl r (by simp)
      omega
    rw [wAll, List.append_assoc, wGo_take (by omega) hx (fun e => hf e.1), wGo_all l f first (next + 1) (k ++ [r]) b (by omega) (by omega) (fun x hx => hl x (by simp [hx])) (by omega) hb]
    simp only [List.append_assoc, List.singleton_append, List.length_cons, List.length_append, Prod.mk.injEq, true_and]
    exact ⟨by omega, trivial⟩
/-- Those of a lesser number ahead are passed over. -/
theorem wGo_lows : ∀ (l : List (List UInt8)) (f first n next : Nat) (b : List UInt8), n + l.length ≤ first → first ≤ 4611686018427387904 → (∀ r ∈ l, r.length ≤ 1048568) →
    wGo (l.length + f) first [] next (wAll n l ++ b) = ((wGo f first [] next b).1, (wGo f first [] next b).2.1, (wAll n l).length + (wGo f first [] next b).2.2)
  | [], f, first, n, next, b, _, _, _ => by rw [wAll, List.nil_append, List.length_nil, Nat.zero_add]; simp
  | r :: l, f, first, n, next, b, h, h2, hl => by
    rw [List.length_cons] at h
    have hx : (wRec n r).length ≤ 1048576 := by
      unfold wRec
      rw [List.length_append, pPut_len]
      have h1 := pSize_le n
      have h2 := hl r (by simp)
      omega
    have e : (r :: l).length + f = (l.length + f) + 1 := by rw [List.length_cons]; omega
    rw [e, wAll, List.append_assoc, wGo_low (by omega) hx (by omega), wGo_lows l f first (n + 1) next b (by omega) h2 (fun x hx => hl x (by simp [hx]))]
    simp only [List.length_append, Prod.mk.injEq, true_and]
    omega
end Go.Proofs.Ytjekglnbmccnjaa
/-
  The walk's laws for append, copy, make and string(bytes), said in the words of the text before. No program is named here.
-/
namespace Go.Proofs.Ytjekglnbmccnjaa
set_option linter.unusedSimpArgs false
set_option linter.unusedVariables false
open Go.RowKit

/-- What the type table says of a slice type t: its element type E, of sz cells and by bytes. -/
def El (P : Program) (t E : TypeId) (sz by_ : Nat) : Prop :=
  P.underlying t = some (.slice E) ∧ ∃ i z, P.info? E = some i ∧ i.zero = some z ∧ i.size = sz ∧ i.bytes = by_ ∧ z.cells.size = sz ∧ 0 < sz

theorem El.mk_ {P : Program} {t E : TypeId} {sz by_ : Nat} {z : Value} (ht : P.underlying t = some (.slice E)) (h : (P.info? E).map (fun i => (i.zero, i.size, i.bytes)) = some (some z, sz, by_))
    (hz : z.cells.size = sz) (hs : 0 < sz) : El P t E sz by_ := by
  obtain ⟨i, h1, h2, h3, h4⟩ := info_parts h
  exact ⟨ht, i, z, h1, h2, h3, h4, hz, hs⟩

section
variable {P : Program} {w : World} {ops : Array Oper} {rest : List Oper} {o : Oper} {a : Act} {Q : Exit → Act → World → Prop}

theorem run_app_nil {base sz by_ n c : Nat} {t ty E : TypeId} (he : El P t E sz by_) {A : Option Addr} {xs : List Value} (hown : Own w base E sz A n c xs) (c' : Nat) :
    (Builtin.append_ #[t, t] ty #[.slice A n c, .slice none 0 c']).run P w = .ok (.slice A n c) w := by
  obtain ⟨ht, i, z, hi, hz, hsz, hby, hzs, h0⟩ := he
  rcases hown.2 with ⟨hv, _⟩ | ⟨g, cap, cur, hv, _, _, hnc, _⟩
  · injection hv with h1 h2 h3
    subst h1; subst h2; subst h3
    simp [Builtin.append_, run_underlying ht, sizeOf, typeInfo, hi, Builtin.lenOf, Builtin.firstCells]
  · injection hv with h1 h2 h3
    subst h1; subst h3
    simp [Builtin.append_, run_underlying ht, sizeOf, typeInfo, hi, Builtin.lenOf, Builtin.firstCells, hnc, storeCells]

theorem rd_nil_len {B sz m : Nat} {news : List Value} (hr : Rd w B sz none m news) (hsz : 0 < sz) : m = 0 ∧ news = [] := by
  cases news with
  | nil =>
    have h : m * sz = 0 := by have := hr.1; simpa using this.symm
    refine ⟨?_, rfl⟩
    rcases Nat.mul_eq_zero.1 h with h | h
    · exact h
    · omega
  | cons u r =>
    obtain ⟨x, hx, _⟩ := hr.2 0 u (by simp)
    cases hx

theorem run_app {base sz by_ n c : Nat} {t ty E : TypeId} (he : El P t E sz by_) {A : Option Addr} {xs : List Value} (hown : Own w base E sz A n c xs)
    {B m c' : Nat} {X : Option Addr} {news : List Value} (hr : Rd w B sz X m news) (h1 : ∀ u ∈ news, u.oneCell' = true)
    (h63 : n + m ≤ maxLen) (hby : (n + m) * by_ ≤ 140737488355328) (hbase : base ≤ w.heap.size) :
    ∃ A' c2 w', (Builtin.append_ #[t, t] ty #[.slice A n c, .slice X m c']).run P w = .ok (.slice A' (n + m) c2) w' ∧ Own w' base E sz A' (n + m) c2 (xs ++ news) ∧ Turn w w' (blk A) ∧
      (blk A' = blk A ∨ blk A' = some w.heap.size) := by
  have he' := he
  obtain ⟨ht, i, z, hi, hz, hsz, hb, hzs, h0⟩ := he
  cases X with
  | none =>
    obtain ⟨rfl, rfl⟩ := rd_nil_len hr h0
    exact ⟨A, c, w, run_app_nil he' hown c', by simpa using hown, Turn.refl w _, .inl rfl⟩
  | some ad =>
    obtain ⟨v', w', hrun, ho', hg, _, hblk⟩ := run_append_own_at (P := P) w base t ty E i z sz by_ ht hi hz hsz hb hzs h0 (.slice A n c) n xs hown ad m c' news hr.1 (fun j u hu => by
      obtain ⟨a', ha, _, hc⟩ := hr.2 j u hu
      injection ha with ha
      subst ha
      exact hc) h1 h63 hby hbase
    have eA : ∀ (A : Option Addr) (n c : Nat), (Value.slice A n c).ownBlock = blk A := fun A n c => by cases A <;> rfl
    have hv : ∃ A' c2, v' = .slice A' (n + m) c2 := by
      rcases ho'.2 with ⟨hv, h⟩ | ⟨g, cap, cur, hv, _⟩
      · exact ⟨none, 0, by rw [hv, h]⟩
      · exact ⟨_, _, hv⟩
    obtain ⟨A', c2, rfl⟩ := hv
    rw [eA, eA] at hblk
    rw [eA] at hg
    exact ⟨A', c2, w', hrun, ho', hg, hblk⟩

/-- append(s, x...): s nil or the call's own, x whatever is read. -/
theorem wp_app (hgd : o.guard = none) (s x : Operand) (t : TypeId) (ho : o.op = .call { callee := .builtin .append, args := #[s, x], argTypes := #[t, t] })
    {base sz by_ n c : Nat} {E : TypeId} (he : El P t E sz by_) {A : Option Addr} {xs : List Value} (hs : a.eval s = .slice A n c)
    {B m c' : Nat} {X : Option Addr} {news : List Value} (hx : a.eval x = .slice X m c') (hown : Own w base E sz A n c xs) (hr : Rd w B sz X m news) (h1 : ∀ u ∈ news, u.oneCell' = true)
    (h63 : n + m ≤ maxLen) (hby : (n + m) * by_ ≤ 140737488355328) (hbase : base ≤ w.heap.size)
    (hK : ∀ A' c2 w', Own w' base E sz A' (n + m) c2 (xs ++ news) → Turn w w' (blk A) → (blk A' = blk A ∨ blk A' = some w.heap.size) → wpList P ops Q rest (a.put o.dst (.slice A' (n + m) c2)) w') :
    wpList P ops Q (o :: rest) a w := by
  refine wpList_plain hgd fun K hK2 => ?_
  obtain ⟨A', c2, w', hrun, h2, h3, h4⟩ := run_app (ty := o.type) he hown (c' := c') hr h1 h63 hby hbase
  unfold Oper.wp execOp
  simp only [ho, resolve, invoke, builtin, Sem.run_bind, Sem.run_pure, Result.andThen_ok, List.map_toArray, List.map_cons, List.map_nil, hs, hx, hrun]
  exact hK2 _ _ (hK A' c2 w' h2 h3 h4)

/-- The same, as a step of a region that draws its order. -/
theorem st_app {K : Act → World → Prop} {F : Prop} (hgd : o.guard = none) (s x : Operand) (t : TypeId) (ho : o.op = .call { callee := .builtin .append, args := #[s, x], argTypes := #[t, t] })
    {base sz by_ n c : Nat} {E : TypeId} (he : El P t E sz by_) {A : Option Addr} {xs : List Value} (hs : a.eval s = .slice A n c)
    {B m c' : Nat} {X : Option Addr} {news : List Value} (hx : a.eval x = .slice X m c') (hown : Own w base E sz A n c xs) (hr : Rd w B sz X m news) (h1 : ∀ u ∈ news, u.oneCell' = true)
    (h63 : n + m ≤ maxLen) (hby : (n + m) * by_ ≤ 140737488355328) (hbase : base ≤ w.heap.size)
    (hK : ∀ A' c2 w', Own w' base E sz A' (n + m) c2 (xs ++ news) → Turn w w' (blk A) → (blk A' = blk A ∨ blk A' = some w.heap.size) → K (a.put o.dst (.slice A' (n + m) c2)) w') :
    if Region.wanted o (yielded ops a.tmps) = true then Oper.wp P o a w K Q else F := by
  have hw : Region.wanted o (yielded ops a.tmps) = true := by simp [Region.wanted, hgd]
  rw [if_pos hw]
  obtain ⟨A', c2, w', hrun, h2, h3, h4⟩ := run_app (ty := o.type) he hown (c' := c') hr h1 h63 hby hbase
  unfold Oper.wp execOp
  simp only [ho, resolve, invoke, builtin, Sem.run_bind, Sem.run_pure, Result.andThen_ok, List.map_toArray, List.map_cons, List.map_nil, hs, hx, hrun]
  exact hK A' c2 w' h2 h3 h4

/-- The same where something is there behind it: the value's head is told. -/
theorem wp_app1 (hgd : o.guard = none) (s x : Operand) (t : TypeId) (ho : o.op = .call { callee := .builtin .append, args := #[s, x], argTypes := #[t, t] })
    {base sz by_ n c : Nat} {E : TypeId} (he : El P t E sz by_) {A : Option Addr} {xs : List Value} (hs : a.eval s = .slice A n c)
    {B m c' : Nat} {X : Option Addr} {news : List Value} (hx : a.eval x = .slice X m c') (hown : Own w base E sz A n c xs) (hr : Rd w B sz X m news) (h1 : ∀ u ∈ news, u.oneCell' = true)
    (h63 : n + m ≤ maxLen) (hby : (n + m) * by_ ≤ 140737488355328) (hbase : base ≤ w.heap.size) (hpos : 0 < n + m)
    (hK : ∀ g c2 w', Own w' base E sz (some ⟨g, 0, none⟩) (n + m) c2 (xs ++ news) → Grow w w' A (some ⟨g, 0, none⟩) → wpList P ops Q rest (a.put o.dst (.slice (some ⟨g, 0, none⟩) (n + m) c2)) w') :
    wpList P ops Q (o :: rest) a w :=
  wp_app hgd s x t ho he hs hx hown hr h1 h63 hby hbase fun A' c2 w' h2 h3 h4 => by
    obtain ⟨g, rfl, _, _⟩ := h2.head hpos
    exact hK g c2 w' h2 ⟨h3, h4.imp id fun e => ⟨_, e, Nat.le_refl _⟩⟩

/-- The same of a text: append(b, s...). -/
theorem run_apps {base n c : Nat} {t u ty E : TypeId} (ht : P.underlying t = some (.slice E)) (hu : P.underlying u = some .string) (he : (P.info? E).map (fun i => (i.zero, i.size, i.bytes)) = some (some (.int .u8 0), 1, 1))
    {A : Option Addr} {xs : List Value} (hown : Own w base E 1 A n c xs) (s : ByteArray) (h63 : n + s.size ≤ maxLen) (hby : n + s.size ≤ 140737488355328) (hbase : base ≤ w.heap.size) :
    ∃ A' c2 w', (Builtin.append_ #[t, u] ty #[.slice A n c, .string s]).run P w = .ok (.slice A' (n + s.size) c2) w' ∧ Own w' base E 1 A' (n + s.size) c2 (xs ++ vbs s.data.toList) ∧ Turn w w' (blk A) ∧
      (blk A' = blk A ∨ blk A' = some w.heap.size) := by
  obtain ⟨i, hi, hz, hsz, hb⟩ := info_parts he
  have hsmall : n + s.size ≤ 9223372036854775807 := by simp only [maxLen] at h63; omega
  obtain ⟨v', w', hr, ho, hg, hn⟩ := Lib.run_append_own_string (P := P) w base t u ty E i ht hu hi hz hsz hb (.slice A n c) n xs hown s h63 hby hbase
  have eA : ∀ (A : Option Addr) (n c : Nat), (Value.slice A n c).ownBlock = blk A := fun A n c => by cases A <;> rfl
  have hv : ∃ A' c2, v' = .slice A' (n + s.size) c2 := by
    rcases ho.2 with ⟨hv, h⟩ | ⟨g, cap, cur, hv, _⟩
    · exact ⟨none, 0, by rw [hv, h]⟩
    · exact ⟨_, _, hv⟩
  obtain ⟨A', c2, rfl⟩ := hv
  rw [eA] at hg
  refine ⟨A', c2, w', hr, ho, hg, ?_⟩
  rcases hown.2 with ⟨hv, h0⟩ | ⟨g, cap, cur, hv, _, hgg, hnc, _, hcs, _⟩
  · injection hv with h1 h2 h3
    subst h1; subst h2; subst h3
    by_cases hm : s.size = 0
    · have := hn.2 ⟨rfl, hm⟩
      injection this with h1
      exact .inl (by rw [h1])
    · have h2 := run_append_nil_string (P := P) w t u ty E i (.int .u8 0) ht hu hi hz s (by omega) (by omega) (by rw [hb]; omega)
      rw [hr] at h2
      injection h2 with h2 _
      injection h2 with h2
      exact .inr (by rw [h2]; rfl)
  · injection hv with h1 _ h3
    subst h1; subst h3
    by_cases hroom : n + s.size ≤ c
    · have h2 := Lib.run_append_room_string (P := P) w t u ty E i ht hu hi hsz g n c cur hgg s hroom (by omega)
      rw [hr] at h2
      injection h2 with h2 _
      injection h2 with h2
      exact .inl (by rw [h2])
    · have h2 := Lib.run_append_grow_string (P := P) w t u ty E i (.int .u8 0) ht hu hi hz ⟨g, 0, none⟩ n c xs (by rw [hsz]; exact hown.1) (World.ownsRow.cells hown (g := g) rfl) s (by omega) (by omega) (by rw [hb]; exact growslice_fits (by omega) (by omega))
      rw [hr] at h2
      injection h2 with h2 _
      injection h2 with h2
      exact .inr (by rw [h2]; rfl)

theorem wp_apps (hgd : o.guard = none) (s x : Operand) (t u : TypeId) (ho : o.op = .call { callee := .builtin .append, args := #[s, x], argTypes := #[t, u] })
    {base n c : Nat} {E : TypeId} (ht : P.underlying t = some (.slice E)) (hu : P.underlying u = some .string) (he : (P.info? E).map (fun i => (i.zero, i.size, i.bytes)) = some (some (.int .u8 0), 1, 1))
    {A : Option Addr} {xs : List Value} (hs : a.eval s = .slice A n c) {b : ByteArray} (hx : a.eval x = .string b) (hown : Own w base E 1 A n c xs)
    (h63 : n + b.size ≤ maxLen) (hby : n + b.size ≤ 140737488355328) (hbase : base ≤ w.heap.size)
    (hK : ∀ A' c2 w', Own w' base E 1 A' (n + b.size) c2 (xs ++ vbs b.data.toList) → Turn w w' (blk A) → (blk A' = blk A ∨ blk A' = some w.heap.size) → wpList P ops Q rest (a.put o.dst (.slice A' (n + b.size) c2)) w') :
    wpList P ops Q (o :: rest) a w := by
  refine wpList_plain hgd fun K hK2 => ?_
  obtain ⟨A', c2, w', hrun, h2, h3, h4⟩ := run_apps (ty := o.type) ht hu he hown b h63 hby hbase
  unfold Oper.wp execOp
  simp only [ho, resolve, invoke, builtin, Sem.run_bind, Sem.run_pure, Result.andThen_ok, List.map_toArray, List.map_cons, List.map_nil, hs, hx, hrun]
  exact hK2 _ _ (hK A' c2 w' h2 h3 h4)

theorem run_cp {base by_ n c : Nat} {t sT ty E : TypeId} (he : El P t E 1 by_) {A : Option Addr} {ys : List Value} (hown : Own w base E 1 A n c ys)
    {B m c' : Nat} {X : Option Addr} {xs : List Value} (hr : Rd w B 1 X m xs) (h1 : ∀ u ∈ xs, u.oneCell' = true) :
    ∃ w', (Builtin.copy_ #[t, sT] ty #[.slice A n c, .slice X m c']).run P w = .ok (goInt (Nat.min m n)) w' ∧ Own w' base E 1 A n c (xs.take (Nat.min m n) ++ ys.drop (Nat.min m n)) ∧ Turn w w' (blk A) := by
  obtain ⟨ht, i, z, hi, hz, hsz, hb, hzs, h0⟩ := he
  have hs1 : (P.info? E).map (·.size) = some 1 := by rw [hi]; simp [hsz]
  by_cases hn : Nat.min m n = 0
  · refine ⟨w, ?_, by rw [hn]; simpa using hown, Turn.refl w _⟩
    rw [hn]
    exact run_copy_none (P := P) w t sT ty E A X n c m c' ht hs1 hn
  · have hmn : 0 < m ∧ 0 < n := by
      have : Nat.min m n ≤ m := Nat.min_le_left m n
      have : Nat.min m n ≤ n := Nat.min_le_right m n
      omega
    obtain ⟨g, cap, hv, hbg, hlt⟩ := World.ownsRow.form hown hmn.2
    injection hv with hA _ hc
    subst hA; subst hc
    obtain ⟨h2, h3⟩ := hown
    rcases h3 with ⟨hv, _⟩ | ⟨g', cap', cur, hv, _, hg, hnc, hcm, hcs, htake⟩
    · cases hv
    · injection hv with hv _ hc
      injection hv with hv
      injection hv with hg'
      subst hg'; subst hc
      have hmin : Nat.min m n ≤ n := Nat.min_le_right m n
      have hl : (xs.take (Nat.min m n)).length = Nat.min m n := by
        rw [List.length_take, hr.len]; exact Nat.min_eq_left (Nat.min_le_left m n)
      obtain ⟨u0, ad, hX, _, hx0, _⟩ := hr.at_ (k := 0) (by omega)
      subst hX
      have hrun := run_copy_row (P := P) w t sT ty E g 0 n c u0 m c' cur E (xs.take (Nat.min m n)) ht hs1 hg hl (fun j v hj => by
        rw [List.getElem?_take] at hj
        split at hj
        · obtain ⟨a', ha, _, hc⟩ := hr.2 j v hj
          injection ha with ha
          subst ha
          exact hc
        · cases hj) (by rw [hl, hcs]; omega) (fun v hv => h1 v (List.mem_of_mem_take hv))
      rw [hl] at hrun
      refine ⟨_, hrun, ⟨?_, .inr ⟨g, c, _, rfl, hbg, setRow_heap w g cur _ E _ hg, hnc, hcm, ?_, ?_⟩⟩, ⟨rfl, rfl, rfl, by simp, fun k _ hk => setRow_other w g k _ (fun e => hk (by simp [blk, e]))⟩⟩
      · rw [List.length_append, hl, List.length_drop, h2]; omega
      · have hcl : cur.toList.length = c * 1 := by rw [Array.length_toList, hcs]
        simp only [List.take_zero, List.nil_append, List.size_toArray, List.length_append, hl, List.length_drop, hcl]
        omega
      · simp only [List.take_zero, List.nil_append, Nat.zero_add]
        rw [List.take_append, hl]
        have e1 : (xs.take (Nat.min m n)).take (n * 1) = xs.take (Nat.min m n) := by
          rw [List.take_take]; congr 1; omega
        rw [e1, ← htake, List.drop_take]

/-- copy(d, s): d the call's own. -/
theorem wp_cp (hgd : o.guard = none) (d s : Operand) (t sT : TypeId) (ho : o.op = .call { callee := .builtin .copy, args := #[d, s], argTypes := #[t, sT] })
    {base by_ n c : Nat} {E : TypeId} (he : El P t E 1 by_) {A : Option Addr} {ys : List Value} (hd : a.eval d = .slice A n c)
    {B m c' : Nat} {X : Option Addr} {xs : List Value} (hs : a.eval s = .slice X m c') (hown : Own w base E 1 A n c ys) (hr : Rd w B 1 X m xs) (h1 : ∀ u ∈ xs, u.oneCell' = true)
    (hK : ∀ w', Own w' base E 1 A n c (xs.take (Nat.min m n) ++ ys.drop (Nat.min m n)) → Turn w w' (blk A) → wpList P ops Q rest (a.put o.dst (goInt (Nat.min m n))) w') :
    wpList P ops Q (o :: rest) a w := by
  refine wpList_plain hgd fun K hK2 => ?_
  obtain ⟨w', hrun, h2, h3⟩ := run_cp (ty := o.type) (sT := sT) he hown (c' := c') hr h1
  unfold Oper.wp execOp
  simp only [ho, resolve, invoke, builtin, Sem.run_bind, Sem.run_pure, Result.andThen_ok, List.map_toArray, List.map_cons, List.map_nil, hd, hs, hrun]
  exact hK2 _ _ (hK w' h2 h3)

/-- make([]T, n, c), elements of one cell: the value stands at the head of a new block. -/
theorem wp_mk (hgd : o.guard = none) (l cc : Operand) (t : TypeId) (ho : o.op = .makeSlice t l cc)
    {by_ : Nat} {E : TypeId} (he : El P t E 1 by_) {kl kc : IntKind} {L C : Int} (hl : a.eval l = .int kl L) (hc : a.eval cc = .int kc C) (n c : Nat) (hL : L = n) (hC : C = c)
    (hnc : n ≤ c) (hby : by_ * c ≤ 281474976710656) (h63 : c ≤ maxLen)
    (hK : ∀ w' xs, xs.length = n → Own w' w.heap.size E 1 (some ⟨w.heap.size, 0, none⟩) n c xs → Turn w w' none → wpList P ops Q rest (a.put o.dst (.slice (some ⟨w.heap.size, 0, none⟩) n c)) w') :
    wpList P ops Q (o :: rest) a w := by
  refine wpList_plain hgd fun K hK2 => ?_
  obtain ⟨ht, i, z, hi, hz, hsz, hb, hzs, h0⟩ := he
  subst hL; subst hC
  have hbi : (i.bytes : Int) * (c : Int) ≤ 281474976710656 := by
    rw [hb]
    have h : ((by_ * c : Nat) : Int) ≤ 281474976710656 := by omega
    rwa [Int.natCast_mul] at h
  have hr := run_make (P := P) w t E i z ht hi hz kl kc n c (by omega) (by omega) hbi (by simp only [maxLen] at h63; omega)
  simp only [Int.toNat_natCast] at hr
  have hcs : (madeCells z.cells (c * i.size)).size = c * 1 := by rw [size_madeCells, hsz]
  have hown := Own.full w w.heap.size E 1 n c (madeCells z.cells (c * i.size)) (Nat.le_refl _) h63 hnc hcs
  unfold Oper.wp execOp
  simp only [ho, hl, hc, Sem.run_bind, Sem.run_pure, Result.andThen_ok, hr]
  exact hK2 _ _ (hK _ _ (by rw [List.length_take, Array.length_toList, hcs]; omega) hown (World.grownBy_alloc w _ none))

/-- The same, and what the cells hold: the element type's nought. -/
theorem wp_mk0 (hgd : o.guard = none) (l cc : Operand) (t : TypeId) (ho : o.op = .makeSlice t l cc)
    {by_ : Nat} {E : TypeId} (he : El P t E 1 by_) {z0 : Value} (hz0 : (P.info? E).map (fun i => i.zero) = some (some z0)) (hz1 : z0.cells = #[z0]) {kl kc : IntKind} {L C : Int} (hl : a.eval l = .int kl L) (hc : a.eval cc = .int kc C) (n c : Nat) (hL : L = n) (hC : C = c)
    (hnc : n ≤ c) (hby : by_ * c ≤ 281474976710656) (h63 : c ≤ maxLen)
    (hK : ∀ w', Own w' w.heap.size E 1 (some ⟨w.heap.size, 0, none⟩) n c (List.replicate n z0) → Turn w w' none → wpList P ops Q rest (a.put o.dst (.slice (some ⟨w.heap.size, 0, none⟩) n c)) w') :
    wpList P ops Q (o :: rest) a w := by
  refine wpList_plain hgd fun K hK2 => ?_
  obtain ⟨ht, i, z, hi, hz, hsz, hb, hzs, h0⟩ := he
  subst hL; subst hC
  have ez : z = z0 := by
    rw [hi, Option.map_some, hz] at hz0
    injection hz0 with e
    injection e
  subst ez
  have hbi : (i.bytes : Int) * (c : Int) ≤ 281474976710656 := by
    rw [hb]
    have h : ((by_ * c : Nat) : Int) ≤ 281474976710656 := by omega
    rwa [Int.natCast_mul] at h
  have hr := run_make (P := P) w t E i z ht hi hz kl kc n c (by omega) (by omega) hbi (by simp only [maxLen] at h63; omega)
  simp only [Int.toNat_natCast] at hr
  have hcs : (madeCells z.cells (c * i.size)).size = c * 1 := by rw [size_madeCells, hsz]
  have hown := Own.full w w.heap.size E 1 n c (madeCells z.cells (c * i.size)) (Nat.le_refl _) h63 hnc hcs
  have hlist : (madeCells z.cells (c * i.size)).toList.take (n * 1) = List.replicate n z := by
    rw [hsz, hz1, toList_madeCells_one, List.take_replicate, Nat.mul_one, Nat.mul_one, Nat.min_eq_left hnc]
  rw [hlist] at hown
  unfold Oper.wp execOp
  simp only [ho, hl, hc, Sem.run_bind, Sem.run_pure, Result.andThen_ok, hr]
  exact hK2 _ _ (hK _ hown (World.grownBy_alloc w _ none))

/-- string(b), b bytes that are seen. -/
theorem wp_txt (hgd : o.guard = none) (x : Operand) (t dst e : TypeId) (ho : o.op = .convert t dst x) (hs : P.underlying t = some (.slice e)) (he : P.underlying e = some (.int .u8)) (hd : P.underlying dst = some .string)
    {B n c : Nat} {A : Option Addr} {l : List UInt8} (hx : a.eval x = .slice A n c) (hr : Rd w B 1 A n (vbs l)) (hK : wpList P ops Q rest (a.put o.dst (.string (txt l))) w) :
    wpList P ops Q (o :: rest) a w := by
  refine wpList_plain hgd fun K hK2 => ?_
  have hrun := run_txt (P := P) w B t dst e A n c l hs he hd hr
  unfold Oper.wp execOp
  simp only [ho, hx, Sem.run_bind, Sem.run_pure, Result.andThen_ok, hrun]
  exact hK2 _ _ hK

/-! ### A region that draws its order, of whose calls each tells a plain value and only makes memory -/
/-- The worlds behind w in which nothing has turned but what is new. -/
def Fut (w : World) : Type := { w' : World // Turn w w' none }
def Fut.at_ {w : World} (x : Fut w) : World := x.1
instance futNonempty (w : World) : Nonempty (Fut w) := ⟨⟨w, Turn.refl w none⟩⟩
theorem Fut.turn {w : World} (x : Fut w) : Turn w x.at_ none := x.2
theorem Rd.fut {B sz n : Nat} {A : Option Addr} {xs : List Value} (h : Rd w B sz A n xs) (hB : B ≤ w.heap.size) (x : Fut w) : Rd x.at_ B sz A n xs := h.turn0 x.turn hB
theorem Own.fut {base sz n c : Nat} {E : TypeId} {A : Option Addr} {xs : List Value} (h : Own w base E sz A n c xs) (x : Fut w) : Own x.at_ base E sz A n c xs := h.turn0 x.turn
theorem Blk.fut {g : Nat} {t : TypeId} {cs : Array Value} (h : Blk w g t cs) (x : Fut w) : Blk x.at_ g t cs := h.turn0 x.turn
theorem fut_call {f : FuncId} {args : Array Value} {v : Value} (x : Fut w) (h : Calls P f args x.at_ fun e w' => e = .returned v ∧ Turn x.at_ w' none) :
    Calls P f args x.at_ fun e w' => e = .returned v ∧ ∃ y : Fut w, w' = y.at_ :=
  h.mono fun _ w' ⟨he, ht⟩ => ⟨he, ⟨w', x.turn.trans ht⟩, rfl⟩
theorem fut_call0 {f : FuncId} {args : Array Value} {v : Value} (x : Fut w) (h : Calls P f args x.at_ fun e w' => e = .returned v ∧ x.at_ = w') :
    Calls P f args x.at_ fun e w' => e = .returned v ∧ ∃ y : Fut w, w' = y.at_ :=
  h.mono fun _ _ ⟨he, ht⟩ => ⟨he, x, ht.symm⟩
theorem fut_callN {f : FuncId} {args : Array Value} {v : Value} (x : Fut w) (h : Calls P f args x.at_ fun e w' => e = .returned v ∧ ∃ q, w' = x.at_.drewN q) :
    Calls P f args x.at_ fun e w' => e = .returned v ∧ ∃ y : Fut w, w' = y.at_ :=
  fut_call x (h.mono fun _ _ ⟨he, q, hq⟩ => ⟨he, by rw [hq]; exact (Turn.refl _ _).drewN q⟩)
theorem wp_region_fut {id : Nat} {l : List Oper} (hm : P.follows .mixedOrders = true) (hB : Region.lexB .any l.toArray = true)
    (h : wpQuiet P l.toArray (fun w' => ∃ x : Fut w, w' = x.at_) (fun a' => ∀ w', Turn w w' none → Q .normal a' w') l a) : (Code.region id l.toArray true).wp P Q a w := by
  refine wp_region_quiet (C := fun w' => ∃ x : Fut w, w' = x.at_) hm hB ⟨⟨_, (Turn.refl w none).drew⟩, rfl⟩ ?_
  have e : (fun a' : Act => ∀ w', (∃ x : Fut w, w' = x.at_) → Q .normal a' w') = fun a' => ∀ w', Turn w w' none → Q .normal a' w' := by
    funext a'
    apply propext
    exact ⟨fun h w' ht => h w' ⟨⟨w', ht⟩, rfl⟩, fun h w' ⟨x, hx⟩ => h w' (by rw [hx]; exact x.turn)⟩
  rw [e]
  simpa using h

/-- What is held in a region may be made more. -/
theorem wpAnyH_more {md : Region.Mode} {opsA : Array Oper} {S S' : World → Prop} (hS : ∀ w, S' w → S w) : ∀ (fuel : Nat) (listed : Array Bool) (a : Act) (w : World), wpAnyH P md opsA Q S' fuel listed a w → wpAnyH P md opsA Q S fuel listed a w
  | 0, _, _, _, h => h
  | fuel + 1, _, _, _, h => ⟨h.1, fun i hi => wpOp_mono (fun a' w' h' => ⟨hS _ h'.1, wpAnyH_more hS fuel _ a' w' h'.2⟩) (h.2 i hi)⟩

/-- The cells of a literal: a new block. -/
theorem Rd.lit (w : World) (E : TypeId) (cs : List Value) : Rd (w.alloc (.cells cs.toArray E)) (w.heap.size + 1) 1 (some ⟨w.heap.size, 0, none⟩) cs.length cs := by
  refine ⟨by simp, fun k u hu => ⟨_, rfl, Nat.lt_succ_self _, ?_⟩⟩
  exact World.news_of_block (cs := cs.toArray) (heap_alloc_new w _) k u (by simpa using hu)
/-- The same, of a row that is marked behind its last cell. -/
theorem Rd.litF (w : World) (E : TypeId) (fr : Nat × Nat) (cs : List Value) : Rd (w.alloc (.cells cs.toArray E fr)) (w.heap.size + 1) 1 (some ⟨w.heap.size, 0, none⟩) cs.length cs := by
  refine ⟨by simp, fun k u hu => ⟨_, rfl, Nat.lt_succ_self _, ?_⟩⟩
  rw [add_flat, Nat.zero_add, cell_of_row _ _ _ cs.toArray E fr (heap_alloc_new w _)]
  simpa using hu
theorem ones_nil : ∀ u ∈ ([] : List Value), u.oneCell' = true := fun u hu => by cases hu
theorem ones_cons {v : Value} {l : List Value} (h : v.oneCell' = true) (hl : ∀ u ∈ l, u.oneCell' = true) : ∀ u ∈ v :: l, u.oneCell' = true := by
  intro u hu
  rcases List.mem_cons.1 hu with rfl | hu
  · exact h
  · exact hl u hu
theorem at_len {xs : List Value} {n : Nat} (h : xs.length = n) (v : Value) (r : List Value) : (xs ++ v :: r)[n]? = some v := by
  subst h; simp
theorem set_len {xs : List Value} {n : Nat} (h : xs.length = n) (v u : Value) (r : List Value) : (xs ++ v :: r).set n u = xs ++ u :: r := by
  subst h; simp
end
end Go.Proofs.Ytjekglnbmccnjaa
/-
  Facts on slices of bytes that the contracts of several layers share.
-/
namespace Go.Proofs.Ytjekglnbmccnjaa
set_option linter.unusedSimpArgs false
set_option linter.unusedVariables false
open Go.RowKit

theorem elB : El Try.prog 34 5 1 1 := El.mk_ Try.underlying34 (z := .int .u8 0) (by kernel_rfl) rfl (by decide)
theorem take_next {l : List UInt8} {j : Nat} {b : UInt8} (h : l[j]? = some b) : l.take (j + 1) = l.take j ++ [b] := by
  rw [List.take_add_one, h]; rfl
theorem txt_eq (l : List UInt8) : (txt l).toList = l := ByteArray.toList_mk l
theorem wrapSmall (m : Nat) (h : m ≤ 140737488355328) : IntKind.i64.wrap (m : Int) = (m : Int) := by
  rw [IntKind.wrap_i64]
  omega
theorem str_run (w : World) {B : Nat} {A : Option Addr} {n c : Nat} {l : List UInt8} (h : Rd w B 1 A n (vbs l)) : (convert 34 9 (.slice A n c)).run Try.prog w = .ok (.string (txt l)) w :=
  run_txt w B _ _ 5 A n c l Try.underlying34 Try.underlying5 Try.underlying9 h
end Go.Proofs.Ytjekglnbmccnjaa
/-
  Lists of lists of bytes that are read as data.
-/
namespace Go.Proofs.Ytjekglnbmccnjaa
set_option linter.unusedSimpArgs false
set_option linter.unusedVariables false
open Go.ChangeShapes Go.WideShapes Go.ChangeAt Go.RowKit

/-- The lists of bytes are seen through the slice value (A, n), each through its own slice value, all in blocks below B. -/
def Rw (w : World) (B : Nat) (A : Option Addr) (n : Nat) (vs : List Value) (rows : List (List UInt8)) : Prop :=
  Rd w B 1 A n vs ∧ vs.length = rows.length ∧ ∀ (i : Nat) (l : List UInt8), rows[i]? = some l → ∃ a m c, vs[i]? = some (.slice a m c) ∧ Rd w B 1 a m (vbs l) ∧ m ≤ c ∧ c ≤ maxLen
section
variable {w w' : World} {B B' n : Nat} {A : Option Addr} {vs : List Value} {rows : List (List UInt8)} {row : Option Nat}
theorem Rw.len (h : Rw w B A n vs rows) : rows.length = n := by rw [← h.2.1]; exact h.1.len
theorem Rw.mono (h : Rw w B A n vs rows) (hB : B ≤ B') : Rw w B' A n vs rows :=
  ⟨h.1.mono hB, h.2.1, fun i l hi => by
    obtain ⟨a, m, c, h1, h2, h3⟩ := h.2.2 i l hi
    exact ⟨a, m, c, h1, h2.mono hB, h3⟩⟩
theorem Rw.turn (h : Rw w B A n vs rows) (ht : Turn w w' row) (hB : B ≤ w.heap.size) (hr : ∀ g, row = some g → B ≤ g) : Rw w' B A n vs rows :=
  ⟨h.1.turn ht hB hr, h.2.1, fun i l hi => by
    obtain ⟨a, m, c, h1, h2, h3⟩ := h.2.2 i l hi
    exact ⟨a, m, c, h1, h2.turn ht hB hr, h3⟩⟩
theorem Rw.turn0 (h : Rw w B A n vs rows) (ht : Turn w w' none) (hB : B ≤ w.heap.size) : Rw w' B A n vs rows := h.turn ht hB (by simp)
theorem Rw.take (h : Rw w B A n vs rows) {k : Nat} (hk : k ≤ n) : Rw w B A k (vs.take k) (rows.take k) := by
  have h1 := h.1.take hk
  rw [Nat.mul_one] at h1
  refine ⟨h1, by rw [List.length_take, List.length_take, h.2.1], fun i l hi => ?_⟩
  rw [List.getElem?_take] at hi
  split at hi
  · rename_i hik
    obtain ⟨a, m, c, h2, h3⟩ := h.2.2 i l hi
    exact ⟨a, m, c, by rw [List.getElem?_take, if_pos hik]; exact h2, h3⟩
  · cases hi
end

theorem weights_all {H : Type} {P : Program} {e : TypeId} {d : DataW H} {n : Nat} : ∀ {l : List (DataW H)}, d ∈ l → n ∈ d.weights P e → n ∈ DataW.weightsAll P e l
  | x :: r, hd, hn => by
    simp only [DataW.weightsAll, List.mem_append]
    rcases List.mem_cons.1 hd with rfl | hd
    · exact .inl hn
    · exact .inr (weights_all hd hn)

/-- A row of rows of bytes that is read: what it shows, and how great its parts are. -/
theorem open_rows {H : Type} {enc : TypeId × Value → H} {P : Program} {W : World} {t e b : TypeId} (ht : P.underlying t = some (.slice e)) (he : P.underlying e = some (.slice b)) (hb : P.underlying b = some (.int .u8))
    (hce : P.cellsOf e = 1) (hcb : P.cellsOf b = 1) (hbb : P.bytesOf b = 1) {a : Option Addr} {len cap : Nat} {d : DataW H} {p : List MemPlace}
    (h : DataW.Trod enc P W 0 (fun _ => true) true t (.slice a len cap) d p) : ∃ vs rows, Rw W W.heap.size a len vs rows ∧ len ≤ cap ∧ cap ≤ maxLen ∧
      ((∀ n ∈ d.weights P t, n ≤ 140737488351232) → (∀ l ∈ rows, l.length ≤ 140737488351232) ∧ cap * P.bytesOf e ≤ 140737488351232) := by
  obtain ⟨fuel, hf⟩ := h
  rcases Deep.open_slice1 ht hce hf with ⟨hcs, hx⟩ | ⟨x, l, cp, m, n', V, D, Pl, hcs, _, hl, hm, hmm, hx, hel⟩
  · simp [Value.cells] at hcs
    obtain ⟨rfl, rfl, rfl⟩ := hcs
    exact ⟨[], [], ⟨Rd.none_ W _ 1 0, rfl, fun i l hi => by simp at hi⟩, Nat.le_refl _, Nat.zero_le _, fun _ => ⟨fun l hl => by simp at hl, by simp⟩⟩
  · simp [Value.cells] at hcs
    obtain ⟨rfl, rfl, rfl⟩ := hcs
    simp only [if_true] at hmm
    have one : ∀ i, i < len → ∃ r : Option Addr × Nat × Nat × List UInt8, V i = .slice r.1 r.2.1 r.2.2.1 ∧ Rd W W.heap.size 1 r.1 r.2.1 (vbs r.2.2.2) ∧ r.2.1 ≤ r.2.2.1 ∧ r.2.2.1 ≤ maxLen ∧ CapIs (D i) r.2.1 r.2.2.1 := by
      intro i hi
      obtain ⟨_, h2⟩ := hel i (by omega)
      have form : ∃ A n c, V i = .slice A n c := by
        rcases open_ints he hb hcb h2 with ⟨hc, _⟩ | ⟨y, n2, c2, _, hc, _⟩
        · exact ⟨_, _, _, by simpa using hc⟩
        · exact ⟨_, _, _, by simpa using hc⟩
      obtain ⟨A, n2, c2, hV⟩ := form
      rw [hV] at h2
      obtain ⟨l2, h3, h4, h5, h6⟩ := open_bytes (d := D i) (p := Pl i) he hb hcb ⟨n', by simpa [Value.cells] using h2⟩
      exact ⟨(A, n2, c2, l2), hV, h3, h4, h5, h6⟩
    obtain ⟨r, hr⟩ := Deep.choose_lt one
    refine ⟨(List.range len).map V, (List.range len).map fun i => (r i).2.2.2, ⟨⟨by simp, fun k u hu => ?_⟩, by simp, fun i l2 hi => ?_⟩, hl, hm, fun hw => ⟨fun l2 hl2 => ?_, ?_⟩⟩
    · simp only [List.getElem?_map, Option.map_eq_some_iff] at hu
      obtain ⟨k', hk', rfl⟩ := hu
      obtain ⟨hlt, rfl⟩ := List.getElem?_eq_some_iff.1 hk'
      simp only [List.length_range] at hlt
      simp only [List.getElem_range]
      obtain ⟨h1, _⟩ := hel k (by omega)
      exact ⟨x, rfl, by have := World.block_lt_of_cell? W _ h1; rwa [addr_block] at this, h1⟩
    · simp only [List.getElem?_map, Option.map_eq_some_iff] at hi
      obtain ⟨k', hk', rfl⟩ := hi
      obtain ⟨hlt, rfl⟩ := List.getElem?_eq_some_iff.1 hk'
      simp only [List.length_range] at hlt
      simp only [List.getElem_range]
      obtain ⟨h1, h2, h3, h4, _⟩ := hr i hlt
      exact ⟨_, _, _, by rw [List.getElem?_map, List.getElem?_range hlt]; simp [h1], h2, h3, h4⟩
    · obtain ⟨i, hi, rfl⟩ := List.mem_map.1 hl2
      have hlt := List.mem_range.1 hi
      obtain ⟨_, h2, h3, _, h5⟩ := hr i hlt
      have hlen := h2.len
      rw [vbs_len] at hlen
      injection hx with hx _
      have hmem : ∀ n ∈ (D i).weights P e, n ≤ 140737488351232 := fun n hn => hw n (by
        rw [hx, DataW.weights, ht]
        simp only [List.mem_cons, List.mem_append]
        exact .inr (.inl (weights_all (List.mem_map.2 ⟨i, hi, rfl⟩) hn)))
      rcases h5 with ⟨_, h6, _⟩ | ⟨es, sp, hD, h7, h8⟩
      · omega
      · have := hmem ((es.length + sp.length) * P.bytesOf b) (by rw [hD, DataW.weights, he]; simp)
        rw [hbb] at this
        omega
    · injection hx with hx _
      have := hw ((((List.range len).map D).length + ((List.range (m - len)).map fun j => D (len + j)).length) * P.bytesOf e) (by rw [hx, DataW.weights, ht]; simp)
      simp only [List.length_map, List.length_range] at this
      rwa [show len + (m - len) = cap by omega] at this

/-- A list of lists of bytes that the call has made: the outer row is its own; each inner one is seen, and lies in another block. -/
def Ow (w : World) (base : Nat) (E : TypeId) (A : Option Addr) (n c : Nat) (vs : List Value) (rows : List (List UInt8)) : Prop :=
  Own w base E 1 A n c vs ∧ vs.length = rows.length ∧ ∀ (i : Nat) (l : List UInt8), rows[i]? = some l → ∃ a m k, vs[i]? = some (.slice a m k) ∧ Rd w w.heap.size 1 a m (vbs l) ∧ (∀ g, blk a = some g → g < w.heap.size ∧ blk A ≠ some g) ∧ m ≤ k ∧ k ≤ maxLen
section
variable {w w' : World} {base n c : Nat} {E : TypeId} {A : Option Addr} {vs : List Value} {rows : List (List UInt8)}
theorem Ow.rw_ (h : Ow w base E A n c vs rows) : Rw w w.heap.size A n vs rows :=
  ⟨h.1.rd, h.2.1, fun i l hi => by
    obtain ⟨a, m, k, h1, h2, _, h3⟩ := h.2.2 i l hi
    exact ⟨a, m, k, h1, h2, h3⟩⟩
theorem Ow.turn0 (h : Ow w base E A n c vs rows) (ht : Turn w w' none) : Ow w' base E A n c vs rows :=
  ⟨h.1.turn0 ht, h.2.1, fun i l hi => by
    obtain ⟨a, m, k, h1, h2, h3, h4⟩ := h.2.2 i l hi
    exact ⟨a, m, k, h1, (h2.turn0 ht (Nat.le_refl _)).mono ht.size, fun g hg => ⟨Nat.lt_of_lt_of_le (h3 g hg).1 ht.size, (h3 g hg).2⟩, h4⟩⟩
theorem Ow.made (h : Own w base E 1 A 0 c []) : Ow w base E A 0 c [] [] := ⟨h, rfl, fun i l hi => by simp at hi⟩
/-- One more list behind the others. -/
theorem Ow.snoc {A' a : Option Addr} {c2 m k : Nat} {l : List UInt8} (h : Ow w base E A n c vs rows) (hr : Rd w w.heap.size 1 a m (vbs l)) (hne : ∀ g, blk a = some g → g < w.heap.size ∧ blk A ≠ some g) (hm : m ≤ k) (hk : k ≤ maxLen)
    (ho : Own w' base E 1 A' (n + 1) c2 (vs ++ [.slice a m k])) (ht : Turn w w' (blk A)) (hb : blk A' = blk A ∨ blk A' = some w.heap.size) : Ow w' base E A' (n + 1) c2 (vs ++ [.slice a m k]) (rows ++ [l]) := by
  have keep : ∀ (b : Option Addr) (q : Nat) (x : List UInt8), Rd w w.heap.size 1 b q (vbs x) → (∀ g, blk b = some g → g < w.heap.size ∧ blk A ≠ some g) → Rd w' w'.heap.size 1 b q (vbs x) ∧ (∀ g, blk b = some g → g < w'.heap.size ∧ blk A' ≠ some g) := by
    intro b q x hx hn
    refine ⟨⟨hx.1, fun j u hu => ?_⟩, fun g hg => ⟨Nat.lt_of_lt_of_le (hn g hg).1 ht.size, ?_⟩⟩
    · obtain ⟨y, rfl, hy, hc⟩ := hx.2 j u hu
      refine ⟨y, rfl, Nat.lt_of_lt_of_le hy ht.size, ?_⟩
      rw [ht.cell (by rw [addr_block]; exact hy) (by rw [addr_block]; exact fun e => (hn y.block rfl).2 e.symm)]
      exact hc
    · rcases hb with e | e
      · rw [e]; exact (hn g hg).2
      · rw [e]
        intro e2
        injection e2 with e2
        have := (hn g hg).1
        omega
  refine ⟨ho, by simp [h.2.1], fun i x hi => ?_⟩
  by_cases hlt : i < rows.length
  · rw [List.getElem?_append_left hlt] at hi
    obtain ⟨b, q, p, h1, h2, h3, h4⟩ := h.2.2 i x hi
    obtain ⟨k1, k2⟩ := keep b q x h2 h3
    exact ⟨b, q, p, by rw [List.getElem?_append_left (by rw [h.2.1]; exact hlt)]; exact h1, k1, k2, h4⟩
  · have hi2 := (List.getElem?_eq_some_iff.1 hi).1
    rw [List.length_append, List.length_singleton] at hi2
    obtain rfl : i = rows.length := by omega
    rw [List.getElem?_append_right (Nat.le_refl _), Nat.sub_self] at hi
    obtain rfl : l = x := by simpa using hi
    obtain ⟨k1, k2⟩ := keep a m l hr hne
    exact ⟨a, m, k, by rw [← h.2.1, List.getElem?_append_right (Nat.le_refl _), Nat.sub_self]; rfl, k1, k2, hm, hk⟩
end
end Go.Proofs.Ytjekglnbmccnjaa
/-
  append onto a row of the call's own, its bound as wide as growslice's own test.
-/
namespace Go.Proofs.Ytjekglnbmccnjaa
set_option linter.unusedSimpArgs false
set_option linter.unusedVariables false
open Go.RowKit
section
variable {P : Program} {w : World} {ops : Array Oper} {rest : List Oper} {o : Oper} {a : Act} {Q : Exit → Act → World → Prop}

theorem run_appW {base sz by_ n c : Nat} {t ty E : TypeId} (he : El P t E sz by_) {A : Option Addr} {xs : List Value} (hown : Own w base E sz A n c xs)
    {B m c' : Nat} {X : Option Addr} {news : List Value} (hr : Rd w B sz X m news) (h1 : ∀ u ∈ news, u.oneCell' = true)
    (h63 : n + m ≤ maxLen) (hby : ((n + m) + (n + m) / 4 + 192) * by_ ≤ 281474976710656) (hbase : base ≤ w.heap.size) :
    ∃ A' c2 w', (Builtin.append_ #[t, t] ty #[.slice A n c, .slice X m c']).run P w = .ok (.slice A' (n + m) c2) w' ∧ Own w' base E sz A' (n + m) c2 (xs ++ news) ∧ Turn w w' (blk A) ∧
      (blk A' = blk A ∨ blk A' = some w.heap.size) := by
  have he' := he
  obtain ⟨ht, i, z, hi, hz, hsz, hb, hzs, h0⟩ := he
  cases X with
  | none =>
    obtain ⟨rfl, rfl⟩ := rd_nil_len hr h0
    exact ⟨A, c, w, run_app_nil he' hown c', by simpa using hown, Turn.refl w _, .inl rfl⟩
  | some ad =>
    have hcell : ∀ j u, news[j]? = some u → w.cell? (ad.add j) = some u := fun j u hu => by
      obtain ⟨a', ha, _, hc⟩ := hr.2 j u hu
      injection ha with ha
      subst ha
      exact hc
    obtain ⟨v', w', hrun, ho', hg, hn⟩ := run_append_own_wide (P := P) w base t ty E i z sz by_ ht hi hz hsz hb hzs h0 (.slice A n c) n xs hown ad m c' news hr.1 hcell h1 h63 hby hbase
    have eA : ∀ (A : Option Addr) (n c : Nat), (Value.slice A n c).ownBlock = blk A := fun A n c => by cases A <;> rfl
    have hv : ∃ A' c2, v' = .slice A' (n + m) c2 := by
      rcases ho'.2 with ⟨hv, h⟩ | ⟨g, cap, cur, hv, _⟩
      · exact ⟨none, 0, by rw [hv, h]⟩
      · exact ⟨_, _, hv⟩
    obtain ⟨A', c2, rfl⟩ := hv
    rw [eA] at hg
    refine ⟨A', c2, w', hrun, ho', hg, ?_⟩
    have hsmall : n + m ≤ 9223372036854775807 := by simp only [maxLen] at h63; omega
    have hl : news.length = m * i.size := by rw [hsz]; exact hr.1
    rcases hown.2 with ⟨hv, h0'⟩ | ⟨g, cap, cur, hv, _, hgg, hnc, _, hcs, _⟩
    · injection hv with h1 h2 h3
      subst h1; subst h2; subst h3
      by_cases hm : m = 0
      · have := hn.2 ⟨rfl, hm⟩
        injection this with h1
        exact .inl (by rw [h1])
      · have h2 := run_append_nil (P := P) w t ty E i z ht hi hz ad m c' news hl hcell (by omega) (by omega) (by rw [hb]; have hb := hby; simp only [Nat.zero_add] at hb; exact Nat.le_trans (Nat.mul_le_mul_right _ (by omega)) hb)
        rw [hrun] at h2
        injection h2 with h2 _
        injection h2 with h2
        exact .inr (by rw [h2]; rfl)
    · injection hv with h1' _ h3
      subst h1'; subst h3
      by_cases hroom : n + m ≤ c
      · have hfit : n * i.size + news.length ≤ cur.size := by rw [hl, hcs, hsz, ← Nat.add_mul]; exact Nat.mul_le_mul_right _ hroom
        have h2 := run_append_room (P := P) w t ty E i ht hi g n c cur hgg ad m c' news hl hcell h1 hroom hfit
        rw [hrun] at h2
        injection h2 with h2 _
        injection h2 with h2
        exact .inl (by rw [h2])
      · have h2 := run_append_grow (P := P) w t ty E i z ht hi hz ⟨g, 0, none⟩ n c xs (by rw [hsz]; exact hown.1) (World.ownsRow.cells hown (g := g) rfl) ad m c' news hl hcell (by omega) (by omega) (by rw [hb]; exact growslice_fits_wide (by omega) hby)
        rw [hrun] at h2
        injection h2 with h2 _
        injection h2 with h2
        exact .inr (by rw [h2]; rfl)

/-- append(s, x...): s nil or the call's own, x whatever is read. -/
theorem wp_appW (hgd : o.guard = none) (s x : Operand) (t : TypeId) (ho : o.op = .call { callee := .builtin .append, args := #[s, x], argTypes := #[t, t] })
    {base sz by_ n c : Nat} {E : TypeId} (he : El P t E sz by_) {A : Option Addr} {xs : List Value} (hs : a.eval s = .slice A n c)
    {B m c' : Nat} {X : Option Addr} {news : List Value} (hx : a.eval x = .slice X m c') (hown : Own w base E sz A n c xs) (hr : Rd w B sz X m news) (h1 : ∀ u ∈ news, u.oneCell' = true)
    (h63 : n + m ≤ maxLen) (hby : ((n + m) + (n + m) / 4 + 192) * by_ ≤ 281474976710656) (hbase : base ≤ w.heap.size)
    (hK : ∀ A' c2 w', Own w' base E sz A' (n + m) c2 (xs ++ news) → Turn w w' (blk A) → (blk A' = blk A ∨ blk A' = some w.heap.size) → wpList P ops Q rest (a.put o.dst (.slice A' (n + m) c2)) w') :
    wpList P ops Q (o :: rest) a w := by
  refine wpList_plain hgd fun K hK2 => ?_
  obtain ⟨A', c2, w', hrun, h2, h3, h4⟩ := run_appW (ty := o.type) he hown (c' := c') hr h1 h63 hby hbase
  unfold Oper.wp execOp
  simp only [ho, resolve, invoke, builtin, Sem.run_bind, Sem.run_pure, Result.andThen_ok, List.map_toArray, List.map_cons, List.map_nil, hs, hx, hrun]
  exact hK2 _ _ (hK A' c2 w' h2 h3 h4)
end
end Go.Proofs.Ytjekglnbmccnjaa
/-
  The library's slices.Clone, Grow (of no slice) and Concat at slices of bytes: what each does.
-/
namespace Go.Proofs.Ytjekglnbmccnjaa
set_option linter.unusedSimpArgs false
set_option linter.unusedVariables false
open Go.RowKit

/-- The first k of a row that is the call's own, its room behind it. -/
theorem Own.keep0 {w : World} {base E sz n c : Nat} {A : Option Addr} {xs : List Value} (h : Own w base E sz A n c xs) : Own w base E sz A 0 c [] := by
  obtain ⟨h1, h2⟩ := h
  refine ⟨by simp, ?_⟩
  rcases h2 with ⟨hv, _⟩ | ⟨g, cap, cur, hv, hg, hh, _, hm, hs, _⟩
  · injection hv with a b c
    subst a; subst b; subst c
    exact .inl ⟨rfl, rfl⟩
  · injection hv with a b c
    subst a; subst c
    exact .inr ⟨g, _, cur, rfl, hg, hh, Nat.zero_le _, hm, hs, by simp⟩

/-- Slice values, each of which shows such bytes. -/
def RowsAt (w : World) (B : Nat) (vs : List Value) (rows : List (List UInt8)) : Prop :=
  vs.length = rows.length ∧ ∀ (i : Nat) (l : List UInt8), rows[i]? = some l → ∃ a m c, vs[i]? = some (.slice a m c) ∧ Rd w B 1 a m (vbs l) ∧ m ≤ c ∧ c ≤ maxLen
theorem RowsAt.nil (w : World) (B : Nat) : RowsAt w B [] [] := ⟨rfl, fun i l h => by simp at h⟩
theorem RowsAt.cons {w : World} {B : Nat} {vs : List Value} {rows : List (List UInt8)} {a : Option Addr} {m c : Nat} {l : List UInt8} (h1 : Rd w B 1 a m (vbs l)) (h2 : m ≤ c) (h3 : c ≤ maxLen) (h : RowsAt w B vs rows) :
    RowsAt w B (.slice a m c :: vs) (l :: rows) :=
  ⟨by simp [h.1], fun i x hi => by
    cases i with
    | zero =>
      obtain rfl : l = x := by simpa using hi
      exact ⟨a, m, c, rfl, h1, h2, h3⟩
    | succ i =>
      obtain ⟨b, q, k, e, r⟩ := h.2 i x (by simpa using hi)
      exact ⟨b, q, k, by simpa using e, r⟩⟩
/-- A literal of slices. -/
theorem RowsAt.lit {w : World} {B : Nat} {vs : List Value} {rows : List (List UInt8)} (h : RowsAt w B vs rows) (hB : B ≤ w.heap.size) (E : TypeId) :
    Rw (w.alloc (.cells vs.toArray E)) (w.heap.size + 1) (some ⟨w.heap.size, 0, none⟩) vs.length vs rows :=
  ⟨Rd.lit w E vs, h.1, fun i l hi => by
    obtain ⟨a, m, c, e, r, s⟩ := h.2 i l hi
    exact ⟨a, m, c, e, (r.alloc hB _).mono (by omega), s⟩⟩

set_option maxHeartbeats 400000 in
theorem clone_any (A : Option Addr) (n c : Nat) (l : List UInt8) (B : Nat) (w : World) (hr : Rd w B 1 A n (vbs l)) (hB : B ≤ w.heap.size) (hn : n ≤ 140737530000000) :
    Calls Try.prog 31 #[.slice A n c] w fun e w' =>
      ∃ A' c', e = .returned (.slice A' n c') ∧ Own w' w.heap.size 5 1 A' n c' (vbs l) ∧ Turn w w' none := by
  have h0 : Own (w.alloc (.cells #[] 5)) w.heap.size 5 1 (some ⟨w.heap.size, 0, none⟩) 0 0 [] := Own.made w _ _ 1 0 #[] (Nat.le_refl _) (by decide) rfl
  have hr1 := hr.alloc hB (.cells #[] 5)
  have hq : ∀ (w : World) (a : Option Addr) (n c n' c' : Nat), (binOp .eql 34 (.slice a n c) (.slice none n' c')).run Try.prog w = .ok (.bool a.isNone) w := fun w a n c n' c' => Lib.run_eql_slice_nil w _ _ a n c n' c' Try.underlying34
  cases A with
  | none =>
    obtain ⟨rfl, hl⟩ := rd_nil_len hr (by decide)
    go_enter Try.func31, Try.ntmps31
    go_wp2
    go_ret
    exact ⟨none, 0, rfl, by rw [hl]; exact Own.nil _ _ _ _, Turn.refl w none⟩
  | some a =>
    go_enter Try.func31, Try.ntmps31
    go_wp2_with (at_builtin; refine wp_appW rfl _ _ _ rfl elB rfl rfl h0 hr1 (vbs_one l) (by unfold maxLen; first | omega | (simp; done) | (simp; omega)) (by first | omega | (simp; done) | (simp; omega)) (by first | omega | (simp; done) | (simp; omega)) ?_; intro A1 c1 w1 hown ht hb)
    go_ret
    refine ⟨A1, c1, ?_, ?_, (Turn.alloc (Turn.refl w none) _).new ht (fun g hg => by simp [blk] at hg; omega)⟩
    · simp
    · simpa using hown

set_option maxHeartbeats 400000 in
theorem grow_any (N : Nat) (w : World) (hn : N ≤ 140737530000000) :
    Calls Try.prog 73 #[.slice none 0 0, .int .i64 (N : Int)] w fun e w' =>
      ∃ A' c', e = .returned (.slice A' 0 c') ∧ Own w' w.heap.size 5 1 A' 0 c' [] ∧ Turn w w' none := by
  rcases Nat.eq_zero_or_pos N with rfl | hp
  · go_enter Try.func73, Try.ntmps73
    go_wp2
    go_ret
    exact ⟨none, 0, rfl, Own.nil _ _ _ _, Turn.refl w none⟩
  · have hp2 : (0 : Int) < N := by omega
    have hb1 : Try.t5.bytes = 1 := rfl
    have hx0 : ¬ N = 0 := by omega
    have hx1 : (N : Int) * (Try.t5.bytes : Int) ≤ 281474976710656 := by rw [hb1]; omega
    have hx2 : Builtin.nextslicecap N 0 ≤ 281474976710656 := by rw [nextslicecap_zero hp]; omega
    go_enter Try.func73, Try.ntmps73
    go_wp2
    go_ret
    have hge : N ≤ grownCap w N 0 5 := grownCap_ge w N 0 _
    have hcm : grownCap w N 0 5 ≤ maxLen := grownCap_le_maxLen w N 0 _ (by unfold maxLen; omega)
    refine ⟨_, _, rfl, (Own.made w w.heap.size 5 1 (grownCap w N 0 5) _ (Nat.le_refl _) hcm ?_).drew, ((Turn.refl w none).alloc _).drew⟩
    simp only [Array.size_append, size_zeroCells, List.size_toArray, List.length_singleton]
    show _ * 1 + (grownCap w N 0 5 - N) * 1 = _
    omega

/-- The bytes of rows, one behind the other. -/
theorem flat_take {rows : List (List UInt8)} {j : Nat} {l : List UInt8} (h : rows[j]? = some l) : (rows.take (j + 1)).flatten = (rows.take j).flatten ++ l := by
  rw [List.take_add_one, h]; simp
theorem flat_le (rows : List (List UInt8)) (j : Nat) : (rows.take j).flatten.length ≤ rows.flatten.length := by
  have h := congrArg (fun r => r.flatten.length) (List.take_append_drop j rows)
  simp only [List.flatten_append, List.length_append] at h
  omega

set_option maxHeartbeats 800000 in
theorem concat_any (A : Option Addr) (n c : Nat) (vs : List Value) (rows : List (List UInt8)) (B : Nat) (w : World) (hr : Rw w B A n vs rows) (hB : B ≤ w.heap.size) (hn : rows.flatten.length ≤ 140737530000000) (hnn : n ≤ 140737488355328) :
    Calls Try.prog 55 #[.slice A n c] w fun e w' =>
      ∃ A' c', e = .returned (.slice A' rows.flatten.length c') ∧ Own w' w.heap.size 5 1 A' rows.flatten.length c' (vbs rows.flatten) ∧ Turn w w' none := by
  have hl := hr.len
  go_enter Try.func55, Try.ntmps55
  go_wp2
  go_loopw [3, 11] (fun s i wr => ∃ j : Nat, j ≤ n ∧ i = .int .i64 (j : Int) ∧ s = .int .i64 ((rows.take j).flatten.length : Int) ∧ w = wr) (fun _ i _ => (n - intOf i).toNat)
  case atStart => exact ⟨0, by omega, rfl, rfl, rfl⟩
  case round =>
    obtain ⟨j, hj, rfl, rfl, rfl⟩ := hrel
    by_cases hjn : j < n
    · obtain ⟨l, hl8⟩ : ∃ l, rows[j]? = some l := ⟨rows[j]'(by omega), List.getElem?_eq_getElem (by omega)⟩
      obtain ⟨a, m, k, hv, hrl, hmk, hk⟩ := hr.2.2 j l hl8
      obtain ⟨b0, off, rfl, _, hcells⟩ := hr.1.head (by omega)
      have hcell := hcells j _ hv
      have hf1 := flat_take hl8
      have hf2 := flat_le rows (j + 1)
      rw [hf1, List.length_append] at hf2
      have hm : l.length = m := by have := hrl.len; rwa [vbs_len] at this
      rw [hm] at hf2
      generalize hS : (rows.take j).flatten.length = S at *
      clear hcells
      go_wp2
      refine ⟨⟨j + 1, by omega, rfl, by rw [hf1, List.length_append, hS, hm]; rfl, trivial⟩, ?_⟩
      simp [intOf]; omega
    · obtain rfl : j = n := by omega
      rw [List.take_of_length_le (by omega)]
      obtain ⟨S, hS⟩ : ∃ S, S = rows.flatten.length := ⟨_, rfl⟩
      rw [← hS] at hn
      rw [← hS]
      have HS := hid hS
      clear hS
      go_wp2_with (go_at_call 73; refine (grow_any S _ (by omega)).mono ?_; rintro e w1 ⟨A1, c1, rfl, ho1, ht1⟩)
      go_loopw [6, 27] (fun v i wr => ∃ (q : Nat) (A2 : Option Addr) (c2 : Nat), q ≤ j ∧ i = .int .i64 (q : Int) ∧ v = .slice A2 (rows.take q).flatten.length c2 ∧ Own wr w.heap.size 5 1 A2 (rows.take q).flatten.length c2 (vbs (rows.take q).flatten) ∧ Turn w wr none) (fun _ i _ => (j - intOf i).toNat)
      case atStart => exact ⟨0, A1, c1, by omega, rfl, rfl, ho1, ht1⟩
      case round =>
        obtain ⟨q, A2, c2, hq, rfl, rfl, ho2, ht2⟩ := hrel
        clear ho1 ht1
        by_cases hqj : q < j
        · obtain ⟨l, hl8⟩ : ∃ l, rows[q]? = some l := ⟨rows[q]'(by omega), List.getElem?_eq_getElem (by omega)⟩
          obtain ⟨a, m, k, hv, hrl, hmk, hk⟩ := hr.2.2 q l hl8
          obtain ⟨b0, off, rfl, _, hcells⟩ := (hr.1.turn0 ht2 hB).head (by omega)
          have hcell := hcells q _ hv
          have hf1 := flat_take hl8
          have hf2 := flat_le rows (q + 1)
          rw [hf1, List.length_append] at hf2
          have hm : l.length = m := by have := hrl.len; rwa [vbs_len] at this
          have hrl2 := hrl.turn0 ht2 hB
          rw [hm, ← HS.out] at hf2
          have HF := hid hf1
          clear hf1
          generalize hS2 : (rows.take q).flatten.length = S2 at *
          clear hcells
          go_wp2_with (at_builtin; refine wp_appW rfl _ _ _ rfl elB rfl rfl ho2 hrl2 (vbs_one l) (by unfold maxLen; first | omega | (simp; done) | (simp; omega)) (by first | omega | (simp; done) | (simp; omega)) (by have := ht2.size; omega) ?_; intro A3 c3 w3 ho3 ht3 hb3)
          refine ⟨⟨q + 1, A3, c3, by omega, rfl, by rw [HF.out, List.length_append, hS2, hm], ?_, ht2.new ht3 (fun g hg => (ho2.block g hg).1)⟩, ?_⟩
          · rw [HF.out, List.length_append, hS2, hm, vbs_append]; exact ho3
          · simp [intOf]; omega
        · obtain rfl : q = j := by omega
          rw [List.take_of_length_le (by omega)] at ho2
          rw [List.take_of_length_le (by omega)]
          rw [← HS.out] at ho2
          rw [← HS.out]
          go_wp2
          go_ret
          exact ⟨A2, c2, by rw [← HS.out]; rfl, by rw [← HS.out]; exact ho2, ht2⟩
end Go.Proofs.Ytjekglnbmccnjaa
/-
  Arrays that stand in blocks: read whole, laid whole, handed back through a cell. No program is named here.
-/
namespace Go.Proofs.Ytjekglnbmccnjaa
set_option linter.unusedSimpArgs false
set_option linter.unusedVariables false
open Go.RowKit

/-- The cells xs stand among cs from off on. -/
def Sub (cs : Array Value) (off : Nat) (xs : List Value) : Prop := ∀ j v, xs[j]? = some v → cs[off + j]? = some v
theorem Sub.all (xs : List Value) : Sub xs.toArray 0 xs := fun j v hv => by simpa using hv
theorem Sub.mid (pre xs post : List Value) (off : Nat) (h : pre.length = off) : Sub (pre ++ xs ++ post).toArray off xs := fun j v hv => by
  subst h
  have hj : j < xs.length := (List.getElem?_eq_some_iff.1 hv).1
  rw [List.getElem?_toArray, List.append_assoc, List.getElem?_append_right (by omega), Nat.add_sub_cancel_left, List.getElem?_append_left hj]
  exact hv
theorem Sub.fst (xs post : List Value) : Sub (xs ++ post).toArray 0 xs := by
  have h := Sub.mid [] xs post 0 rfl
  simpa using h
section
variable {P : Program} {w w' : World} {g off : Nat} {t ty : TypeId} {cs : Array Value} {xs : List Value} {d : TypeDesc} {ops : Array Oper} {rest : List Oper} {o : Oper} {a : Act} {Q : Exit → Act → World → Prop}

theorem Blk.range (h : Blk w g t cs) (hs : Sub cs off xs) : w.rangeAt g off xs := fun j v hv => (h.cell _).trans (hs j v hv)
theorem Blk.at_ (h : Blk w g t cs) (hs : Sub cs off xs) {j : Nat} {v : Value} (hv : xs[j]? = some v) : w.cell? ⟨g, off + j, none⟩ = some v := (h.cell _).trans (hs j v hv)

theorem Blk.ats (h : Blk w g t xs.toArray) {j : Nat} {v : Value} (hv : xs[j]? = some v) : w.cell? ⟨g, j, none⟩ = some v := (h.cell _).trans (by rw [List.getElem?_toArray]; exact hv)
theorem Blk.sets (h : Blk w g t xs.toArray) (i : Nat) (u : Value) : Blk (w.setCell ⟨g, i, none⟩ u) g t (xs.set i u).toArray := by
  have h2 := h.set_ i u
  simpa using h2

theorem cell_set_ne {i j : Nat} {u : Value} (h : i ≠ j) : (w.setCell ⟨g, i, none⟩ u).cell? ⟨g, j, none⟩ = w.cell? ⟨g, j, none⟩ :=
  World.cell?_setCell_other _ _ _ _ (fun e => h (by injection e))
/-- An array or a struct that is read whole. -/
theorem wp_ld (hgd : o.guard = none) (ty : TypeId) (x : Operand) (ho : o.op = .load ty x) (hx : a.eval x = .pointer (some ⟨g, off, none⟩)) (h : Blk w g t cs) (hs : Sub cs off xs)
    (hu : P.underlying ty = some d) (hd : d.isRow = true) (hi : (P.info? ty).map (·.size) = some xs.length) (hK : wpList P ops Q rest (a.put o.dst (.agg xs.toArray)) w) : wpList P ops Q (o :: rest) a w :=
  wpList_load_mid hgd ty x ho g off hx xs d (h.range hs) hu hd hi hK

theorem Blk.setRow (h : Blk w g t cs) (ys : List Value) : Blk (w.setRow g ys.toArray) g t ys.toArray := setRow_heap w g cs ys.toArray t (0, 0) h
theorem Turn.setRow (w : World) (g : Nat) (c : Array Value) : Turn w (w.setRow g c) (some g) := ⟨rfl, rfl, rfl, by simp, fun k _ hk => setRow_other w g k c (fun e => hk (by simp [e]))⟩
theorem run_st (h : Blk w g t cs) (hsz : cs.size = xs.length) (hi : (P.info? ty).map (·.size) = some xs.length) (h1 : ∀ u ∈ xs, u.oneCell' = true) :
    (Instr.storeAt ty (.pointer (some ⟨g, 0, none⟩)) (.agg xs.toArray)).run P w = .ok () (w.setRow g xs.toArray) := by
  simp only [Instr.storeAt, Instr.sureAddr, Sem.run_bind, Sem.run_pure, Result.andThen_ok]
  exact run_storeVar_row w g t ty cs xs.toArray h (by rw [hi]; simp) (by simpa using hsz) (all_oneCell_toArray h1)
/-- An array or a struct that is laid whole into a block of its own. -/
theorem wp_st (hgd : o.guard = none) (ty : TypeId) (x y : Operand) (ho : o.op = .store ty x y) (hx : a.eval x = .pointer (some ⟨g, 0, none⟩)) (hy : a.eval y = .agg xs.toArray) (h : Blk w g t cs) (hsz : cs.size = xs.length)
    (hi : (P.info? ty).map (·.size) = some xs.length) (h1 : ∀ u ∈ xs, u.oneCell' = true) (hK : ∀ w', Blk w' g t xs.toArray → Turn w w' (some g) → wpList P ops Q rest (a.put o.dst undef) w') : wpList P ops Q (o :: rest) a w := by
  refine wpList_plain hgd fun K hK2 => ?_
  unfold Oper.wp execOp
  simp only [ho, hx, hy, Sem.run_bind, run_st h hsz hi h1, Result.andThen_ok]
  exact hK2 _ _ (hK _ (h.setRow xs) (Turn.setRow w g _))
theorem results_cell_one {fn : Func} {p : Tmp} (h : fn.results = #[.cell p ty]) (tmps : Array Value) (P : Program) (w : World) :
    (results fn tmps).run P w = ((asAddr (tmps.getD p undef)).run P w).andThen fun a w₁ => (loadVar ty a).run P w₁ := by
  simp only [results, h]
  simp [Sem.run_bind, Result.andThen]
/-- A result that stands in a cell of its own. -/
theorem ret_cell {fn : Func} {R : Ending → World → Prop} {p : Tmp} (hf : fn.results = #[.cell p ty]) (hp : a.tmps.getD p undef = .pointer (some ⟨g, 0, none⟩)) (hdf : a.defers = []) (h : Blk w g t xs.toArray)
    (hu : P.underlying ty = some d) (hd : d.isRow = true) (hi : (P.info? ty).map (·.size) = some xs.length) (hR : R (.returned (.agg xs.toArray)) w) : bodyPost P fn R .ret a w := by
  refine bodyPost_ret (v := .agg xs.toArray) ?_ hdf hR
  rw [results_cell_one hf, hp]
  simp only [asAddr, Sem.run_pure, Result.andThen_ok]
  exact run_loadVar_mid w g 0 ty xs d (h.range (Sub.all xs)) hu hd hi
/-- A new variable of nought. -/
theorem wp_al (hgd : o.guard = none) (ty : TypeId) (ho : o.op = .alloc ty) (v : Value) (hz : ∀ w, (zeroValue ty).run P w = .ok v w)
    (hK : ∀ g w', w.heap.size = g → Blk w' g ty v.cells → Turn w w' none → wpList P ops Q rest (a.put o.dst (.pointer (some ⟨g, 0, none⟩))) w') : wpList P ops Q (o :: rest) a w := by
  refine wpList_plain hgd fun K hK2 => ?_
  unfold Oper.wp execOp
  simp only [ho, Instr.alloc, Sem.run_bind, hz, newVar, Result.andThen_ok]
  simp [newRow]
  exact hK2 _ _ (hK _ _ rfl (Blk.new w ty v.cells) ((Turn.refl w none).alloc _))
/-- A new variable of a value. -/
theorem wp_bx (hgd : o.guard = none) (ty : TypeId) (x : Operand) (ho : o.op = .box ty x) {cs : Array Value} (hx : a.eval x = .agg cs)
    (hK : ∀ g w', w.heap.size = g → Blk w' g ty cs → Turn w w' none → wpList P ops Q rest (a.put o.dst (.pointer (some ⟨g, 0, none⟩))) w') : wpList P ops Q (o :: rest) a w := by
  refine wpList_plain hgd fun K hK2 => ?_
  unfold Oper.wp execOp
  simp only [ho, Instr.box, Sem.run_bind, hx, newVar, Result.andThen_ok]
  simp [newRow]
  exact hK2 _ _ (hK _ _ rfl (Blk.new w ty cs) ((Turn.refl w none).alloc _))
/-- A type's nought, told by the table. -/
theorem zero_at {t : TypeId} {v : Value} (h : (P.info? t).map (fun i => i.zero) = some (some v)) : ∀ w, (zeroValue t).run P w = .ok v w := by
  cases hq : P.info? t with
  | none => simp [hq] at h
  | some i =>
    simp [hq] at h
    intro w
    simp [zeroValue, typeInfo, hq, h]
/-- An entry, of one cell, out of an array by value. -/
theorem run_ix {t e : TypeId} {n : Nat} {cs : Array Value} {j : Nat} {v : Value} {kd : IntKind} (h : P.underlying t = some (.array n e)) (he : P.underlying e = some (.int kd)) (hi : (P.info? e).map (·.size) = some 1) (hj : j < n) (hv : cs[j]? = some v) (w : World) :
    (Instr.index t (.agg cs) (.int .i64 (j : Int))).run P w = .ok v w := by
  have hag : (isAgg e).run P w = .ok false w := by
    unfold isAgg
    rw [Sem.run_bind, run_underlying he w]
    rfl
  cases hq : P.info? e with
  | none => simp [hq] at hi
  | some ie =>
    have hs : (sizeOf e).run P w = .ok 1 w := by
      simp [hq] at hi
      simp [sizeOf, typeInfo, hq, hi]
    have hjj : (0 : Int) ≤ (j : Int) ∧ (j : Int) < (n : Int) := by omega
    simp [Instr.index, run_underlying h, asIntOf, hjj, part, hag, hs, hv]
    try omega
/-- copy(d, s) into a block of the call's own, from place o on; what is copied is read first. -/
theorem run_cpB {dT sT e : TypeId} {oo nn cc mm c' B : Nat} {X : Option Addr} {ys zs : List Value} (hu : P.underlying dT = some (.slice e)) (hs : (P.info? e).map (·.size) = some 1) (h : Blk w g t ys.toArray)
    (hr : Rd w B 1 X mm zs) (h1 : ∀ u ∈ zs, u.oneCell' = true) (hm : 0 < mm) (hn : 0 < nn) (hfit : oo + nn ≤ ys.length) :
    (Builtin.copy_ #[dT, sT] ty #[.slice (some ⟨g, oo, none⟩) nn cc, .slice X mm c']).run P w =
      .ok (goInt (Nat.min mm nn)) (w.setRow g (ys.take oo ++ zs.take (Nat.min mm nn) ++ ys.drop (oo + Nat.min mm nn)).toArray) := by
  obtain ⟨u0, ad, hX, _, hx0, _⟩ := hr.at_ (k := 0) (by omega)
  subst hX
  have hmin : Nat.min mm nn ≤ nn := Nat.min_le_right mm nn
  have hl : (zs.take (Nat.min mm nn)).length = Nat.min mm nn := by
    rw [List.length_take, hr.len]; exact Nat.min_eq_left (Nat.min_le_left mm nn)
  have hrun := run_copy_row (P := P) w dT sT ty e g oo nn cc u0 mm c' ys.toArray t (zs.take (Nat.min mm nn)) hu hs h hl (fun j v hj => by
    rw [List.getElem?_take] at hj
    split at hj
    · obtain ⟨a', ha, _, hc⟩ := hr.2 j v hj
      injection ha with ha
      subst ha
      exact hc
    · cases hj) (by rw [hl, List.size_toArray]; omega) (fun v hv => h1 v (List.mem_of_mem_take hv))
  rw [hl] at hrun
  exact hrun
theorem wp_cpB (hgd : o.guard = none) {dT sT e : TypeId} {oo nn cc mm c' B : Nat} {X : Option Addr} {ys zs : List Value} (d s : Operand) (ho : o.op = .call { callee := .builtin .copy, args := #[d, s], argTypes := #[dT, sT] })
    (hu : P.underlying dT = some (.slice e)) (hs : (P.info? e).map (·.size) = some 1) (hd : a.eval d = .slice (some ⟨g, oo, none⟩) nn cc) (hx : a.eval s = .slice X mm c') (h : Blk w g t ys.toArray)
    (hr : Rd w B 1 X mm zs) (h1 : ∀ u ∈ zs, u.oneCell' = true) (hm : 0 < mm) (hn : 0 < nn) (hfit : oo + nn ≤ ys.length) {K : Act → World → Prop}
    (hK : ∀ w', Blk w' g t (ys.take oo ++ zs.take (Nat.min mm nn) ++ ys.drop (oo + Nat.min mm nn)).toArray → Turn w w' (some g) → K (a.put o.dst (goInt (Nat.min mm nn))) w') : Oper.wp P o a w K Q := by
  have hrun := run_cpB (P := P) (ty := o.type) (sT := sT) (cc := cc) (c' := c') hu hs h hr h1 hm hn hfit
  unfold Oper.wp execOp
  simp only [ho, resolve, invoke, builtin, Sem.run_bind, Sem.run_pure, Result.andThen_ok, List.map_toArray, List.map_cons, List.map_nil, hd, hx, hrun]
  exact hK _ (h.setRow _) (Turn.setRow w g _)
theorem st_cpB {F : Prop} (hgd : o.guard = none) {dT sT e : TypeId} {oo nn cc mm c' B : Nat} {X : Option Addr} {ys zs : List Value} (d s : Operand) (ho : o.op = .call { callee := .builtin .copy, args := #[d, s], argTypes := #[dT, sT] })
    (hu : P.underlying dT = some (.slice e)) (hs : (P.info? e).map (·.size) = some 1) (hd : a.eval d = .slice (some ⟨g, oo, none⟩) nn cc) (hx : a.eval s = .slice X mm c') (h : Blk w g t ys.toArray)
    (hr : Rd w B 1 X mm zs) (h1 : ∀ u ∈ zs, u.oneCell' = true) (hm : 0 < mm) (hn : 0 < nn) (hfit : oo + nn ≤ ys.length) {K : Act → World → Prop}
    (hK : ∀ w', Blk w' g t (ys.take oo ++ zs.take (Nat.min mm nn) ++ ys.drop (oo + Nat.min mm nn)).toArray → Turn w w' (some g) → K (a.put o.dst (goInt (Nat.min mm nn))) w') :
    if Region.wanted o (yielded ops a.tmps) = true then Oper.wp P o a w K Q else F := by
  have hw : Region.wanted o (yielded ops a.tmps) = true := by simp [Region.wanted, hgd]
  rw [if_pos hw]
  exact wp_cpB hgd d s ho hu hs hd hx h hr h1 hm hn hfit hK
/-- A piece of a block, as what is read. -/
theorem Blk.rdAt (h : Blk w g t cs) (hs : Sub cs off xs) : Rd w (g + 1) 1 (some ⟨g, off, none⟩) xs.length xs :=
  ⟨by simp, fun k u hu => ⟨_, rfl, Nat.lt_succ_self _, by rw [add_flat]; exact h.at_ hs hu⟩⟩
/-- A struct or an array that is built of parts. -/
theorem wp_bd (hgd : o.guard = none) (ty : TypeId) (parts : Array (Nat × Operand)) (ho : o.op = .build ty parts) (pv : Array (Nat × Value)) (hp : (parts.map fun p => (p.1, a.eval p.2)) = pv) (cells : Array Value) (hb : P.built ty pv.toList = some cells)
    (hK : wpList P ops Q rest (a.put o.dst (.agg cells)) w) : wpList P ops Q (o :: rest) a w := by
  refine wpList_plain hgd fun K hK2 => ?_
  have hrun := run_build (P := P) w ty pv cells hb
  subst hp
  unfold Oper.wp execOp
  simp only [ho, Sem.run_bind, hrun, Result.andThen_ok]
  exact hK2 _ _ hK
end
end Go.Proofs.Ytjekglnbmccnjaa
/-
  Laws of operations that stand under a guard which says yes, and of results that stand in a cell with others beside it. No program is named here.
-/
namespace Go.Proofs.Ytjekglnbmccnjaa
set_option linter.unusedSimpArgs false
set_option linter.unusedVariables false
open Go.RowKit

/-- A callee that turns nothing, in a region that is walked quietly. -/
theorem gd_quiet {P : Program} {f : FuncId} {args : Array Value} {w : World} {n : Nat} {v : Value}
    (h : Calls P f args (w.drewN n) fun e w' => e = .returned v ∧ w.drewN n = w') : Calls P f args (w.drewN n) fun e w'' => e = .returned v ∧ ∃ m, w'' = w.drewN m :=
  h.mono fun _ _ ⟨he, hm⟩ => ⟨he, n, hm.symm⟩
section
variable {P : Program} {ops : Array Oper} {rest : List Oper} {a : Act} {w : World} {Q : Exit → Act → World → Prop} {o : Oper} {g off : Nat} {t ty : TypeId} {cs : Array Value} {xs : List Value} {d : TypeDesc}
/-- An array or a struct that is read whole. -/
theorem gd_ld (hw : Region.wanted o (yielded ops a.tmps) = true) (ty : TypeId) (x : Operand) (ho : o.op = .load ty x) (hx : a.eval x = .pointer (some ⟨g, off, none⟩)) (h : Blk w g t cs) (hs : Sub cs off xs)
    (hu : P.underlying ty = some d) (hd : d.isRow = true) (hi : (P.info? ty).map (·.size) = some xs.length) (hK : wpList P ops Q rest (a.put o.dst (.agg xs.toArray)) w) : wpList P ops Q (o :: rest) a w :=
  BigFrame.wpList_want hw fun _ hK2 => wp_load_mid ty x ho g off hx xs d (h.range hs) hu hd hi (hK2 _ _ hK)
/-- The same, of cells that stand somewhere. -/
theorem gd_ldR (hw : Region.wanted o (yielded ops a.tmps) = true) (ty : TypeId) (x : Operand) (ho : o.op = .load ty x) (hx : a.eval x = .pointer (some ⟨g, off, none⟩)) (h : w.rangeAt g off xs)
    (hu : P.underlying ty = some d) (hd : d.isRow = true) (hi : (P.info? ty).map (·.size) = some xs.length) (hK : wpList P ops Q rest (a.put o.dst (.agg xs.toArray)) w) : wpList P ops Q (o :: rest) a w :=
  BigFrame.wpList_want hw fun _ hK2 => wp_load_mid ty x ho g off hx xs d h hu hd hi (hK2 _ _ hK)
/-- append under a guard that says yes. -/
theorem gd_app (hw : Region.wanted o (yielded ops a.tmps) = true) (s x : Operand) (t : TypeId) (ho : o.op = .call { callee := .builtin .append, args := #[s, x], argTypes := #[t, t] })
    {base sz by_ n c : Nat} {E : TypeId} (he : El P t E sz by_) {A : Option Addr} {xs : List Value} (hs : a.eval s = .slice A n c)
    {B m c' : Nat} {X : Option Addr} {news : List Value} (hx : a.eval x = .slice X m c') (hown : Own w base E sz A n c xs) (hr : Rd w B sz X m news) (h1 : ∀ u ∈ news, u.oneCell' = true)
    (h63 : n + m ≤ maxLen) (hby : ((n + m) + (n + m) / 4 + 192) * by_ ≤ 281474976710656) (hbase : base ≤ w.heap.size)
    (hK : ∀ A' c2 w', Own w' base E sz A' (n + m) c2 (xs ++ news) → Turn w w' (blk A) → (blk A' = blk A ∨ blk A' = some w.heap.size) → wpList P ops Q rest (a.put o.dst (.slice A' (n + m) c2)) w') :
    wpList P ops Q (o :: rest) a w := by
  refine BigFrame.wpList_want hw fun K hK2 => ?_
  obtain ⟨A', c2, w', hrun, h2, h3, h4⟩ := run_appW (ty := o.type) he hown (c' := c') hr h1 h63 hby hbase
  unfold Oper.wp execOp
  simp only [ho, resolve, invoke, builtin, Sem.run_bind, Sem.run_pure, Result.andThen_ok, List.map_toArray, List.map_cons, List.map_nil, hs, hx, hrun]
  exact hK2 _ _ (hK A' c2 w' h2 h3 h4)
/-- The same within what a machine holds (elder bound). -/
theorem gd_app0 (hw : Region.wanted o (yielded ops a.tmps) = true) (s x : Operand) (t : TypeId) (ho : o.op = .call { callee := .builtin .append, args := #[s, x], argTypes := #[t, t] })
    {base sz by_ n c : Nat} {E : TypeId} (he : El P t E sz by_) {A : Option Addr} {xs : List Value} (hs : a.eval s = .slice A n c)
    {B m c' : Nat} {X : Option Addr} {news : List Value} (hx : a.eval x = .slice X m c') (hown : Own w base E sz A n c xs) (hr : Rd w B sz X m news) (h1 : ∀ u ∈ news, u.oneCell' = true)
    (h63 : n + m ≤ maxLen) (hby : (n + m) * by_ ≤ 140737488355328) (hbase : base ≤ w.heap.size)
    (hK : ∀ A' c2 w', Own w' base E sz A' (n + m) c2 (xs ++ news) → Turn w w' (blk A) → (blk A' = blk A ∨ blk A' = some w.heap.size) → wpList P ops Q rest (a.put o.dst (.slice A' (n + m) c2)) w') :
    wpList P ops Q (o :: rest) a w := by
  refine BigFrame.wpList_want hw fun K hK2 => ?_
  obtain ⟨A', c2, w', hrun, h2, h3, h4⟩ := run_app (ty := o.type) he hown (c' := c') hr h1 h63 hby hbase
  unfold Oper.wp execOp
  simp only [ho, resolve, invoke, builtin, Sem.run_bind, Sem.run_pure, Result.andThen_ok, List.map_toArray, List.map_cons, List.map_nil, hs, hx, hrun]
  exact hK2 _ _ (hK A' c2 w' h2 h3 h4)
/-- A struct or an array that is built of parts, under a guard that says yes. -/
theorem gd_bd (hw : Region.wanted o (yielded ops a.tmps) = true) (ty : TypeId) (parts : Array (Nat × Operand)) (ho : o.op = .build ty parts) (pv : Array (Nat × Value)) (hp : (parts.map fun p => (p.1, a.eval p.2)) = pv) (cells : Array Value) (hb : P.built ty pv.toList = some cells)
    (hK : wpList P ops Q rest (a.put o.dst (.agg cells)) w) : wpList P ops Q (o :: rest) a w := by
  refine BigFrame.wpList_want hw fun K hK2 => ?_
  have hrun := run_build (P := P) w ty pv cells hb
  subst hp
  unfold Oper.wp execOp
  simp only [ho, Sem.run_bind, hrun, Result.andThen_ok]
  exact hK2 _ _ hK
/-- A struct or an array that is read whole, in a region that draws. -/
theorem gd_dld {F : Prop} {K : Act → World → Prop} (hw : Region.wanted o (yielded ops a.tmps) = true) (ty : TypeId) (x : Operand) (ho : o.op = .load ty x) (hx : a.eval x = .pointer (some ⟨g, off, none⟩)) (h : w.rangeAt g off xs)
    (hu : P.underlying ty = some d) (hd : d.isRow = true) (hi : (P.info? ty).map (·.size) = some xs.length) (hK : K (a.put o.dst (.agg xs.toArray)) w) : if Region.wanted o (yielded ops a.tmps) = true then Oper.wp P o a w K Q else F := by
  rw [if_pos hw]
  exact wp_load_mid ty x ho g off hx xs d h hu hd hi hK
/-- A new variable of nought, in a region that draws. -/
theorem gd_dal {F : Prop} {K : Act → World → Prop} (hgd : o.guard = none) (ty : TypeId) (ho : o.op = .alloc ty) (v : Value) (hz : ∀ w, (zeroValue ty).run P w = .ok v w)
    (hK : ∀ g w', w.heap.size = g → Blk w' g ty v.cells → Turn w w' none → K (a.put o.dst (.pointer (some ⟨g, 0, none⟩))) w') : if Region.wanted o (yielded ops a.tmps) = true then Oper.wp P o a w K Q else F := by
  have hw : Region.wanted o (yielded ops a.tmps) = true := by simp [Region.wanted, hgd]
  rw [if_pos hw]
  unfold Oper.wp execOp
  simp only [ho, Instr.alloc, Sem.run_bind, hz, newVar, Result.andThen_ok]
  simp [newRow]
  exact hK _ _ rfl (Blk.new w ty v.cells) ((Turn.refl w none).alloc _)
/-- A struct or an array that is stored whole, in a region that draws. -/
theorem gd_dst {F : Prop} {K : Act → World → Prop} (hgd : o.guard = none) (ty : TypeId) (x y : Operand) (ho : o.op = .store ty x y) (hx : a.eval x = .pointer (some ⟨g, 0, none⟩)) (hy : a.eval y = .agg xs.toArray) (h : Blk w g t cs) (hsz : cs.size = xs.length)
    (hi : (P.info? ty).map (·.size) = some xs.length) (h1 : ∀ u ∈ xs, u.oneCell' = true) (hK : ∀ w', Blk w' g t xs.toArray → Turn w w' (some g) → K (a.put o.dst undef) w') : if Region.wanted o (yielded ops a.tmps) = true then Oper.wp P o a w K Q else F := by
  have hw : Region.wanted o (yielded ops a.tmps) = true := by simp [Region.wanted, hgd]
  rw [if_pos hw]
  unfold Oper.wp execOp
  simp only [ho, hx, hy, Sem.run_bind, run_st h hsz hi h1, Result.andThen_ok]
  exact hK _ (h.setRow xs) (Turn.setRow w g _)
/-- A result that stands in a cell, and one beside it. -/
theorem ret_ct {fn : Func} {R : Ending → World → Prop} {p u : Tmp} {v : Value} (hf : fn.results = #[.cell p ty, .tmp u]) (hp : a.tmps.getD p undef = .pointer (some ⟨g, 0, none⟩)) (hv : a.tmps.getD u undef = v) (hdf : a.defers = []) (h : Blk w g t xs.toArray)
    (hu : P.underlying ty = some d) (hd : d.isRow = true) (hi : (P.info? ty).map (·.size) = some xs.length) (hR : R (.returned (.tuple #[.agg xs.toArray, v])) w) : bodyPost P fn R .ret a w := by
  refine bodyPost_ret (v := .tuple #[.agg xs.toArray, v]) ?_ hdf hR
  have e : (results fn a.tmps).run P w = ((asAddr (a.tmps.getD p undef)).run P w).andThen fun a' w₁ => ((loadVar ty a').run P w₁).andThen fun y w₂ => .ok (.tuple #[y, a.tmps.getD u undef]) w₂ := by
    simp only [results, hf]
    simp [Sem.run_bind, Result.andThen]
  rw [e, hp, hv]
  simp only [asAddr, Sem.run_pure, Result.andThen_ok, run_loadVar_mid w g 0 ty xs d (h.range (Sub.all xs)) hu hd hi]
/-- And two beside it. -/
theorem ret_ctt {fn : Func} {R : Ending → World → Prop} {p u s : Tmp} {v z : Value} (hf : fn.results = #[.cell p ty, .tmp u, .tmp s]) (hp : a.tmps.getD p undef = .pointer (some ⟨g, 0, none⟩)) (hv : a.tmps.getD u undef = v) (hz : a.tmps.getD s undef = z) (hdf : a.defers = []) (h : Blk w g t xs.toArray)
    (hu : P.underlying ty = some d) (hd : d.isRow = true) (hi : (P.info? ty).map (·.size) = some xs.length) (hR : R (.returned (.tuple #[.agg xs.toArray, v, z])) w) : bodyPost P fn R .ret a w := by
  refine bodyPost_ret (v := .tuple #[.agg xs.toArray, v, z]) ?_ hdf hR
  have e : (results fn a.tmps).run P w = ((asAddr (a.tmps.getD p undef)).run P w).andThen fun a' w₁ => ((loadVar ty a').run P w₁).andThen fun y w₂ => .ok (.tuple #[y, a.tmps.getD u undef, a.tmps.getD s undef]) w₂ := by
    simp only [results, hf]
    simp [Sem.run_bind, Result.andThen]
  rw [e, hp, hv, hz]
  simp only [asAddr, Sem.run_pure, Result.andThen_ok, run_loadVar_mid w g 0 ty xs d (h.range (Sub.all xs)) hu hd hi]
end
end Go.Proofs.Ytjekglnbmccnjaa
