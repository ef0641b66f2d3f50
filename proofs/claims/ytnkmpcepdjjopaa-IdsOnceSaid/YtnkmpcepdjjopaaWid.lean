/-
  append onto a row of the call's own, its bound as wide as growslice's own test.
-/
import Derived.Test.YtnkmpcepdjjopaaLaw
import Derived.Deep.DeepAppendWide
namespace Go.Proofs.Ytnkmpcepdjjopaa
set_option linter.unusedSimpArgs false
set_option linter.unusedVariables false
open Go.RowKit
section
variable {P : Program} {w : World} {ops : Array Oper} {rest : List Oper} {o : Oper} {a : Act} {Q : Exit → Act → World → Prop}

theorem run_appW {base sz by_ n c : Nat} {t ty E : TypeId} (he : El P t E sz by_) {A : Option Addr} {xs : List Value} (hown : Own w base E sz A n c xs)
    {B m c' : Nat} {X : Option Addr} {news : List Value} (hr : Rd w B sz X m news) (h1 : ∀ u ∈ news, u.oneCell' = true)
    (h63 : n + m ≤ maxLen) (hby : ((n + m) + (n + m) / 4 + 192) * by_ ≤ 281474976710656) (hbase : base ≤ w.heap.size) :
    ∃ A' c2 w', (Builtin.append_ #[t, t] ty #[.slice A n c, .slice X m c']).run P w = .ok (.slice A' (n + m) c2) w' ∧ Own w' base E sz A' (n + m) c2 (xs ++ news) ∧ Turn w w' (blk A) ∧
      (blk A' = blk A ∨ blk A' = some w.heap.size) := by
  have he' := he
  obtain ⟨ht, i, z, hi, hz, hsz, hb, hzs, h0⟩ := he
  cases X with
  | none =>
    obtain ⟨rfl, rfl⟩ := rd_nil_len hr h0
    exact ⟨A, c, w, run_app_nil he' hown c', by simpa using hown, Turn.refl w _, .inl rfl⟩
  | some ad =>
    have hcell : ∀ j u, news[j]? = some u → w.cell? (ad.add j) = some u := fun j u hu => by
      obtain ⟨a', ha, _, hc⟩ := hr.2 j u hu
      injection ha with ha
      subst ha
      exact hc
    obtain ⟨v', w', hrun, ho', hg, hn⟩ := run_append_own_wide (P := P) w base t ty E i z sz by_ ht hi hz hsz hb hzs h0 (.slice A n c) n xs hown ad m c' news hr.1 hcell h1 h63 hby hbase
    have eA : ∀ (A : Option Addr) (n c : Nat), (Value.slice A n c).ownBlock = blk A := fun A n c => by cases A <;> rfl
    have hv : ∃ A' c2, v' = .slice A' (n + m) c2 := by
      rcases ho'.2 with ⟨hv, h⟩ | ⟨g, cap, cur, hv, _⟩
      · exact ⟨none, 0, by rw [hv, h]⟩
      · exact ⟨_, _, hv⟩
    obtain ⟨A', c2, rfl⟩ := hv
    rw [eA] at hg
    refine ⟨A', c2, w', hrun, ho', hg, ?_⟩
    have hsmall : n + m ≤ 9223372036854775807 := by simp only [maxLen] at h63; omega
    have hl : news.length = m * i.size := by rw [hsz]; exact hr.1
    rcases hown.2 with ⟨hv, h0'⟩ | ⟨g, cap, cur, hv, _, hgg, hnc, _, hcs, _⟩
    · injection hv with h1 h2 h3
      subst h1; subst h2; subst h3
      by_cases hm : m = 0
      · have := hn.2 ⟨rfl, hm⟩
        injection this with h1
        exact .inl (by rw [h1])
      · have h2 := run_append_nil (P := P) w t ty E i z ht hi hz ad m c' news hl hcell (by omega) (by omega) (by rw [hb]; have hb := hby; simp only [Nat.zero_add] at hb; exact Nat.le_trans (Nat.mul_le_mul_right _ (by omega)) hb)
        rw [hrun] at h2
        injection h2 with h2 _
        injection h2 with h2
        exact .inr (by rw [h2]; rfl)
    · injection hv with h1' _ h3
      subst h1'; subst h3
      by_cases hroom : n + m ≤ c
      · have hfit : n * i.size + news.length ≤ cur.size := by rw [hl, hcs, hsz, ← Nat.add_mul]; exact Nat.mul_le_mul_right _ hroom
        have h2 := run_append_room (P := P) w t ty E i ht hi g n c cur hgg ad m c' news hl hcell h1 hroom hfit
        rw [hrun] at h2
        injection h2 with h2 _
        injection h2 with h2
        exact .inl (by rw [h2])
      · have h2 := run_append_grow (P := P) w t ty E i z ht hi hz ⟨g, 0, none⟩ n c xs (by rw [hsz]; exact hown.1) (World.ownsRow.cells hown (g := g) rfl) ad m c' news hl hcell (by omega) (by omega) (by rw [hb]; exact growslice_fits_wide (by omega) hby)
        rw [hrun] at h2
        injection h2 with h2 _
        injection h2 with h2
        exact .inr (by rw [h2]; rfl)

/-- append(s, x...): s nil or the call's own, x whatever is read. -/
theorem wp_appW (hgd : o.guard = none) (s x : Operand) (t : TypeId) (ho : o.op = .call { callee := .builtin .append, args := #[s, x], argTypes := #[t, t] })
    {base sz by_ n c : Nat} {E : TypeId} (he : El P t E sz by_) {A : Option Addr} {xs : List Value} (hs : a.eval s = .slice A n c)
    {B m c' : Nat} {X : Option Addr} {news : List Value} (hx : a.eval x = .slice X m c') (hown : Own w base E sz A n c xs) (hr : Rd w B sz X m news) (h1 : ∀ u ∈ news, u.oneCell' = true)
    (h63 : n + m ≤ maxLen) (hby : ((n + m) + (n + m) / 4 + 192) * by_ ≤ 281474976710656) (hbase : base ≤ w.heap.size)
    (hK : ∀ A' c2 w', Own w' base E sz A' (n + m) c2 (xs ++ news) → Turn w w' (blk A) → (blk A' = blk A ∨ blk A' = some w.heap.size) → wpList P ops Q rest (a.put o.dst (.slice A' (n + m) c2)) w') :
    wpList P ops Q (o :: rest) a w := by
  refine wpList_plain hgd fun K hK2 => ?_
  obtain ⟨A', c2, w', hrun, h2, h3, h4⟩ := run_appW (ty := o.type) he hown (c' := c') hr h1 h63 hby hbase
  unfold Oper.wp execOp
  simp only [ho, resolve, invoke, builtin, Sem.run_bind, Sem.run_pure, Result.andThen_ok, List.map_toArray, List.map_cons, List.map_nil, hs, hx, hrun]
  exact hK2 _ _ (hK A' c2 w' h2 h3 h4)
end
end Go.Proofs.Ytnkmpcepdjjopaa
