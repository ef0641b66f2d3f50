/-
  copy and append of makes, at elements of many cells. No program is named here.
-/
import Derived.Test.YtnkmpcepdjjopaaLaw
import Derived.Test.YtnkmpcepdjjopaaArr
import Derived.Lib.AppendZerosOnto
namespace Go.Proofs.Ytnkmpcepdjjopaa
set_option linter.unusedSimpArgs false
set_option linter.unusedVariables false
open Go.RowKit

section
variable {P : Program} {w : World}
/-- copy into a block; what is copied is read first. -/
theorem run_cpM {t sT ty E T : TypeId} {sz by_ g oo nn cc q m c' B : Nat} {a : Addr} {cur : Array Value} {zs : List Value} (he : El P t E sz by_) (hg : Blk w g T cur) (hq : Nat.min m nn = q) (hr : Rd w B sz (some a) q zs)
    (h1 : ∀ u ∈ zs, u.oneCell' = true) (hfit : oo + zs.length ≤ cur.size) :
    (Builtin.copy_ #[t, sT] ty #[.slice (some ⟨g, oo, none⟩) nn cc, .slice (some a) m c']).run P w = .ok (goInt q) (w.setRow g (cur.toList.take oo ++ zs ++ cur.toList.drop (oo + zs.length)).toArray) := by
  obtain ⟨ht, i, z, hi, hz, hsz, hb, hzs, h0⟩ := he
  have hl := run_firstCells_some (P := P) w sz q a m c' zs hr.1 (fun j v hj => by
    obtain ⟨a', ha, _, hc⟩ := hr.2 j v hj
    injection ha with ha
    subst ha
    exact hc)
  have hst := run_storeCells_at P g oo T zs 0 cur w hg (by simpa using hfit) h1
  simp only [Nat.add_zero] at hst
  simp [Builtin.copy_, run_underlying ht, Builtin.lenOf, sizeOf, typeInfo, hi, hsz, hq, hl, hst]
/-- append(s[:k], make([]T, j)...) where there is no room: a new row. -/
theorem run_apz {t tn ty E : TypeId} {sz by_ k j c : Nat} {a : Addr} {olds : List Value} {D : Nat} (he : El P t E sz by_) (htn : P.underlying tn = some (.int .i64)) (hr : Rd w D sz (some a) k olds) (hj : 0 < j) (hg : c < k + j) (hs : (k + j) * by_ ≤ 1000000000) (hp : 0 < by_) (hc0 : k ≤ c) :
    ∃ (G : Nat) (cs : Array Value), k + j ≤ G ∧ G ≤ maxLen ∧ cs.size = G * sz ∧ cs.toList.take (k * sz) = olds ∧
      (Builtin.append_ #[t, tn] ty #[.slice (some a) k c, .int .i64 (j : Int)]).run P w = .ok (.slice (some ⟨w.heap.size, 0, none⟩) (k + j) G) (w.drew.alloc (.cells cs E)) := by
  obtain ⟨ht, i, z, hi, hz, hsz, hb, hzs, h0⟩ := he
  have hkj : k + j ≤ 1000000000 := Nat.le_trans (Nat.le_mul_of_pos_right _ hp) hs
  have hjb : j * by_ ≤ (k + j) * by_ := Nat.mul_le_mul_right _ (by omega)
  have hl := run_firstCells_some (P := P) w.drew i.size k a k c olds (by rw [hsz]; exact hr.1) (fun j v hj => by
    obtain ⟨a', ha, _, hc⟩ := hr.2 j v hj
    injection ha with ha
    subst ha
    exact hc)
  have h := Lib.run_append_grow_zeros (P := P) w t tn ty E i z .i64 .i64 ht htn hi hz (some a) k c olds hl j hj (by omega) hg (by omega) (by rw [hb]; omega) (by rw [hb]; exact growslice_fits hg (by omega))
  refine ⟨_, _, grownCap_ge w (k + j) c E, grownCap_le_maxLen w (k + j) c E (by unfold maxLen; omega), ?_, ?_, h⟩
  · have hge := grownCap_ge w (k + j) c E
    have ho : olds.length = k * sz := hr.1
    simp only [Array.size_append, size_zeroCells, List.size_toArray, ho, hzs]
    rw [← Nat.add_mul, ← Nat.add_mul]
    congr 1
    omega
  · have ho : olds.length = k * sz := hr.1
    simp only [Array.toList_append, List.toList_toArray]
    rw [List.append_assoc, ← ho, List.take_left']
    rfl
end
section
variable {P : Program} {w : World} {ops : Array Oper} {rest : List Oper} {o : Oper} {a : Act} {Q : Exit → Act → World → Prop}
/-- append and copy whose run is known. -/
theorem wp_apR (hgd : o.guard = none) (s x : Operand) (t t' : TypeId) (ho : o.op = .call { callee := .builtin .append, args := #[s, x], argTypes := #[t, t'] }) {v u v' : Value} {w' : World} (hs : a.eval s = v) (hx : a.eval x = u)
    (hr : (Builtin.append_ #[t, t'] o.type #[v, u]).run P w = .ok v' w') (hK : wpList P ops Q rest (a.put o.dst v') w') : wpList P ops Q (o :: rest) a w := by
  refine wpList_plain hgd fun K hK2 => ?_
  unfold Oper.wp execOp
  simp only [ho, resolve, invoke, builtin, Sem.run_bind, Sem.run_pure, Result.andThen_ok, List.map_toArray, List.map_cons, List.map_nil, hs, hx, hr]
  exact hK2 _ _ hK
theorem wp_cpR (hgd : o.guard = none) (s x : Operand) (t t' : TypeId) (ho : o.op = .call { callee := .builtin .copy, args := #[s, x], argTypes := #[t, t'] }) {v u v' : Value} {w' : World} (hs : a.eval s = v) (hx : a.eval x = u)
    (hr : (Builtin.copy_ #[t, t'] o.type #[v, u]).run P w = .ok v' w') (hK : wpList P ops Q rest (a.put o.dst v') w') : wpList P ops Q (o :: rest) a w := by
  refine wpList_plain hgd fun K hK2 => ?_
  unfold Oper.wp execOp
  simp only [ho, resolve, invoke, builtin, Sem.run_bind, Sem.run_pure, Result.andThen_ok, List.map_toArray, List.map_cons, List.map_nil, hs, hx, hr]
  exact hK2 _ _ hK
theorem st_cpR {K : Act → World → Prop} {F : Prop} (hgd : o.guard = none) (s x : Operand) (t t' : TypeId) (ho : o.op = .call { callee := .builtin .copy, args := #[s, x], argTypes := #[t, t'] }) {v u v' : Value} {w' : World} (hs : a.eval s = v) (hx : a.eval x = u)
    (hr : (Builtin.copy_ #[t, t'] o.type #[v, u]).run P w = .ok v' w') (hK : K (a.put o.dst v') w') : if Region.wanted o (yielded ops a.tmps) = true then Oper.wp P o a w K Q else F := by
  have hw : Region.wanted o (yielded ops a.tmps) = true := by simp [Region.wanted, hgd]
  rw [if_pos hw]
  unfold Oper.wp execOp
  simp only [ho, resolve, invoke, builtin, Sem.run_bind, Sem.run_pure, Result.andThen_ok, List.map_toArray, List.map_cons, List.map_nil, hs, hx, hr]
  exact hK
end
theorem ins_cells {R u v d : List Value} (hu : R.take u.length = u) (hl : u.length + v.length + d.length ≤ R.length) :
    (((R.take u.length ++ v ++ R.drop (u.length + v.length)).take (u.length + v.length) ++ d ++ (R.take u.length ++ v ++ R.drop (u.length + v.length)).drop (u.length + v.length + d.length)).take (u.length + v.length + d.length) = u ++ v ++ d) ∧
    ((R.take u.length ++ v ++ R.drop (u.length + v.length)).take (u.length + v.length) ++ d ++ (R.take u.length ++ v ++ R.drop (u.length + v.length)).drop (u.length + v.length + d.length)).length = R.length := by
  rw [hu]
  have e1 : (u ++ v).length = u.length + v.length := List.length_append
  have e2 : (u ++ v ++ R.drop (u.length + v.length)).take (u.length + v.length) = u ++ v := by rw [← e1, List.take_left' rfl]
  rw [e2]
  have e3 : (u ++ v ++ d).length = u.length + v.length + d.length := by simp; omega
  refine ⟨by rw [← e3, List.take_left' rfl], ?_⟩
  simp only [List.length_append, List.length_drop]
  omega
theorem ins_cells2 {R u v d : List Value} (hu : R.take u.length = u) (hl : u.length + v.length + d.length ≤ R.length) :
    (((R.take (u.length + v.length) ++ d ++ R.drop (u.length + v.length + d.length)).take u.length ++ v ++ (R.take (u.length + v.length) ++ d ++ R.drop (u.length + v.length + d.length)).drop (u.length + v.length)).take (u.length + v.length + d.length) = u ++ v ++ d) ∧
    ((R.take (u.length + v.length) ++ d ++ R.drop (u.length + v.length + d.length)).take u.length ++ v ++ (R.take (u.length + v.length) ++ d ++ R.drop (u.length + v.length + d.length)).drop (u.length + v.length)).length = R.length := by
  have a1 : (R.take (u.length + v.length)).length = u.length + v.length := by rw [List.length_take]; omega
  have e1 : (R.take (u.length + v.length) ++ d ++ R.drop (u.length + v.length + d.length)).take u.length = u := by
    rw [List.append_assoc, List.take_append_of_le_length (by omega), List.take_take, Nat.min_eq_left (by omega), hu]
  have e2 : (R.take (u.length + v.length) ++ d ++ R.drop (u.length + v.length + d.length)).drop (u.length + v.length) = d ++ R.drop (u.length + v.length + d.length) := by
    rw [List.append_assoc, List.drop_left' a1]
  rw [e1, e2]
  have e3 : (u ++ v ++ d).length = u.length + v.length + d.length := by simp; omega
  refine ⟨by rw [← List.append_assoc, ← e3, List.take_left' rfl], ?_⟩
  simp only [List.length_append, List.length_drop]
  omega
end Go.Proofs.Ytnkmpcepdjjopaa
