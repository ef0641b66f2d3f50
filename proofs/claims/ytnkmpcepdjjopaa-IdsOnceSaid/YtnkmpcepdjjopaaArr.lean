/-
  Arrays that stand in blocks: read whole, laid whole, handed back through a cell. No program is named here.
-/
import Derived.Test.YtnkmpcepdjjopaaLaw
import Derived.Deep.MidRow
import Derived.Deep.WholeRow
namespace Go.Proofs.Ytnkmpcepdjjopaa
set_option linter.unusedSimpArgs false
set_option linter.unusedVariables false
open Go.RowKit

/-- The cells xs stand among cs from off on. -/
def Sub (cs : Array Value) (off : Nat) (xs : List Value) : Prop := ∀ j v, xs[j]? = some v → cs[off + j]? = some v
theorem Sub.all (xs : List Value) : Sub xs.toArray 0 xs := fun j v hv => by simpa using hv
theorem Sub.mid (pre xs post : List Value) (off : Nat) (h : pre.length = off) : Sub (pre ++ xs ++ post).toArray off xs := fun j v hv => by
  subst h
  have hj : j < xs.length := (List.getElem?_eq_some_iff.1 hv).1
  rw [List.getElem?_toArray, List.append_assoc, List.getElem?_append_right (by omega), Nat.add_sub_cancel_left, List.getElem?_append_left hj]
  exact hv
theorem Sub.fst (xs post : List Value) : Sub (xs ++ post).toArray 0 xs := by
  have h := Sub.mid [] xs post 0 rfl
  simpa using h
section
variable {P : Program} {w w' : World} {g off : Nat} {t ty : TypeId} {cs : Array Value} {xs : List Value} {d : TypeDesc} {ops : Array Oper} {rest : List Oper} {o : Oper} {a : Act} {Q : Exit → Act → World → Prop}

theorem Blk.range (h : Blk w g t cs) (hs : Sub cs off xs) : w.rangeAt g off xs := fun j v hv => (h.cell _).trans (hs j v hv)
theorem Blk.at_ (h : Blk w g t cs) (hs : Sub cs off xs) {j : Nat} {v : Value} (hv : xs[j]? = some v) : w.cell? ⟨g, off + j, none⟩ = some v := (h.cell _).trans (hs j v hv)

theorem Blk.ats (h : Blk w g t xs.toArray) {j : Nat} {v : Value} (hv : xs[j]? = some v) : w.cell? ⟨g, j, none⟩ = some v := (h.cell _).trans (by rw [List.getElem?_toArray]; exact hv)
theorem Blk.sets (h : Blk w g t xs.toArray) (i : Nat) (u : Value) : Blk (w.setCell ⟨g, i, none⟩ u) g t (xs.set i u).toArray := by
  have h2 := h.set_ i u
  simpa using h2

theorem cell_set_ne {i j : Nat} {u : Value} (h : i ≠ j) : (w.setCell ⟨g, i, none⟩ u).cell? ⟨g, j, none⟩ = w.cell? ⟨g, j, none⟩ :=
  World.cell?_setCell_other _ _ _ _ (fun e => h (by injection e))
/-- An array or a struct that is read whole. -/
theorem wp_ld (hgd : o.guard = none) (ty : TypeId) (x : Operand) (ho : o.op = .load ty x) (hx : a.eval x = .pointer (some ⟨g, off, none⟩)) (h : Blk w g t cs) (hs : Sub cs off xs)
    (hu : P.underlying ty = some d) (hd : d.isRow = true) (hi : (P.info? ty).map (·.size) = some xs.length) (hK : wpList P ops Q rest (a.put o.dst (.agg xs.toArray)) w) : wpList P ops Q (o :: rest) a w :=
  wpList_load_mid hgd ty x ho g off hx xs d (h.range hs) hu hd hi hK

theorem Blk.setRow (h : Blk w g t cs) (ys : List Value) : Blk (w.setRow g ys.toArray) g t ys.toArray := setRow_heap w g cs ys.toArray t (0, 0) h
theorem Turn.setRow (w : World) (g : Nat) (c : Array Value) : Turn w (w.setRow g c) (some g) := ⟨rfl, rfl, rfl, by simp, fun k _ hk => setRow_other w g k c (fun e => hk (by simp [e]))⟩
theorem run_st (h : Blk w g t cs) (hsz : cs.size = xs.length) (hi : (P.info? ty).map (·.size) = some xs.length) (h1 : ∀ u ∈ xs, u.oneCell' = true) :
    (Instr.storeAt ty (.pointer (some ⟨g, 0, none⟩)) (.agg xs.toArray)).run P w = .ok () (w.setRow g xs.toArray) := by
  simp only [Instr.storeAt, Instr.sureAddr, Sem.run_bind, Sem.run_pure, Result.andThen_ok]
  exact run_storeVar_row w g t ty cs xs.toArray h (by rw [hi]; simp) (by simpa using hsz) (all_oneCell_toArray h1)
/-- An array or a struct that is laid whole into a block of its own. -/
theorem wp_st (hgd : o.guard = none) (ty : TypeId) (x y : Operand) (ho : o.op = .store ty x y) (hx : a.eval x = .pointer (some ⟨g, 0, none⟩)) (hy : a.eval y = .agg xs.toArray) (h : Blk w g t cs) (hsz : cs.size = xs.length)
    (hi : (P.info? ty).map (·.size) = some xs.length) (h1 : ∀ u ∈ xs, u.oneCell' = true) (hK : ∀ w', Blk w' g t xs.toArray → Turn w w' (some g) → wpList P ops Q rest (a.put o.dst undef) w') : wpList P ops Q (o :: rest) a w := by
  refine wpList_plain hgd fun K hK2 => ?_
  unfold Oper.wp execOp
  simp only [ho, hx, hy, Sem.run_bind, run_st h hsz hi h1, Result.andThen_ok]
  exact hK2 _ _ (hK _ (h.setRow xs) (Turn.setRow w g _))
theorem results_cell_one {fn : Func} {p : Tmp} (h : fn.results = #[.cell p ty]) (tmps : Array Value) (P : Program) (w : World) :
    (results fn tmps).run P w = ((asAddr (tmps.getD p undef)).run P w).andThen fun a w₁ => (loadVar ty a).run P w₁ := by
  simp only [results, h]
  simp [Sem.run_bind, Result.andThen]
/-- A result that stands in a cell of its own. -/
theorem ret_cell {fn : Func} {R : Ending → World → Prop} {p : Tmp} (hf : fn.results = #[.cell p ty]) (hp : a.tmps.getD p undef = .pointer (some ⟨g, 0, none⟩)) (hdf : a.defers = []) (h : Blk w g t xs.toArray)
    (hu : P.underlying ty = some d) (hd : d.isRow = true) (hi : (P.info? ty).map (·.size) = some xs.length) (hR : R (.returned (.agg xs.toArray)) w) : bodyPost P fn R .ret a w := by
  refine bodyPost_ret (v := .agg xs.toArray) ?_ hdf hR
  rw [results_cell_one hf, hp]
  simp only [asAddr, Sem.run_pure, Result.andThen_ok]
  exact run_loadVar_mid w g 0 ty xs d (h.range (Sub.all xs)) hu hd hi
/-- A new variable of nought. -/
theorem wp_al (hgd : o.guard = none) (ty : TypeId) (ho : o.op = .alloc ty) (v : Value) (hz : ∀ w, (zeroValue ty).run P w = .ok v w)
    (hK : ∀ g w', w.heap.size = g → Blk w' g ty v.cells → Turn w w' none → wpList P ops Q rest (a.put o.dst (.pointer (some ⟨g, 0, none⟩))) w') : wpList P ops Q (o :: rest) a w := by
  refine wpList_plain hgd fun K hK2 => ?_
  unfold Oper.wp execOp
  simp only [ho, Instr.alloc, Sem.run_bind, hz, newVar, Result.andThen_ok]
  simp [newRow]
  exact hK2 _ _ (hK _ _ rfl (Blk.new w ty v.cells) ((Turn.refl w none).alloc _))
/-- A new variable of a value. -/
theorem wp_bx (hgd : o.guard = none) (ty : TypeId) (x : Operand) (ho : o.op = .box ty x) {cs : Array Value} (hx : a.eval x = .agg cs)
    (hK : ∀ g w', w.heap.size = g → Blk w' g ty cs → Turn w w' none → wpList P ops Q rest (a.put o.dst (.pointer (some ⟨g, 0, none⟩))) w') : wpList P ops Q (o :: rest) a w := by
  refine wpList_plain hgd fun K hK2 => ?_
  unfold Oper.wp execOp
  simp only [ho, Instr.box, Sem.run_bind, hx, newVar, Result.andThen_ok]
  simp [newRow]
  exact hK2 _ _ (hK _ _ rfl (Blk.new w ty cs) ((Turn.refl w none).alloc _))
/-- A type's nought, told by the table. -/
theorem zero_at {t : TypeId} {v : Value} (h : (P.info? t).map (fun i => i.zero) = some (some v)) : ∀ w, (zeroValue t).run P w = .ok v w := by
  cases hq : P.info? t with
  | none => simp [hq] at h
  | some i =>
    simp [hq] at h
    intro w
    simp [zeroValue, typeInfo, hq, h]
/-- An entry, of one cell, out of an array by value. -/
theorem run_ix {t e : TypeId} {n : Nat} {cs : Array Value} {j : Nat} {v : Value} {kd : IntKind} (h : P.underlying t = some (.array n e)) (he : P.underlying e = some (.int kd)) (hi : (P.info? e).map (·.size) = some 1) (hj : j < n) (hv : cs[j]? = some v) (w : World) :
    (Instr.index t (.agg cs) (.int .i64 (j : Int))).run P w = .ok v w := by
  have hag : (isAgg e).run P w = .ok false w := by
    unfold isAgg
    rw [Sem.run_bind, run_underlying he w]
    rfl
  cases hq : P.info? e with
  | none => simp [hq] at hi
  | some ie =>
    have hs : (sizeOf e).run P w = .ok 1 w := by
      simp [hq] at hi
      simp [sizeOf, typeInfo, hq, hi]
    have hjj : (0 : Int) ≤ (j : Int) ∧ (j : Int) < (n : Int) := by omega
    simp [Instr.index, run_underlying h, asIntOf, hjj, part, hag, hs, hv]
    try omega
/-- copy(d, s) into a block of the call's own, from place o on; what is copied is read first. -/
theorem run_cpB {dT sT e : TypeId} {oo nn cc mm c' B : Nat} {X : Option Addr} {ys zs : List Value} (hu : P.underlying dT = some (.slice e)) (hs : (P.info? e).map (·.size) = some 1) (h : Blk w g t ys.toArray)
    (hr : Rd w B 1 X mm zs) (h1 : ∀ u ∈ zs, u.oneCell' = true) (hm : 0 < mm) (hn : 0 < nn) (hfit : oo + nn ≤ ys.length) :
    (Builtin.copy_ #[dT, sT] ty #[.slice (some ⟨g, oo, none⟩) nn cc, .slice X mm c']).run P w =
      .ok (goInt (Nat.min mm nn)) (w.setRow g (ys.take oo ++ zs.take (Nat.min mm nn) ++ ys.drop (oo + Nat.min mm nn)).toArray) := by
  obtain ⟨u0, ad, hX, _, hx0, _⟩ := hr.at_ (k := 0) (by omega)
  subst hX
  have hmin : Nat.min mm nn ≤ nn := Nat.min_le_right mm nn
  have hl : (zs.take (Nat.min mm nn)).length = Nat.min mm nn := by
    rw [List.length_take, hr.len]; exact Nat.min_eq_left (Nat.min_le_left mm nn)
  have hrun := run_copy_row (P := P) w dT sT ty e g oo nn cc u0 mm c' ys.toArray t (zs.take (Nat.min mm nn)) hu hs h hl (fun j v hj => by
    rw [List.getElem?_take] at hj
    split at hj
    · obtain ⟨a', ha, _, hc⟩ := hr.2 j v hj
      injection ha with ha
      subst ha
      exact hc
    · cases hj) (by rw [hl, List.size_toArray]; omega) (fun v hv => h1 v (List.mem_of_mem_take hv))
  rw [hl] at hrun
  exact hrun
theorem wp_cpB (hgd : o.guard = none) {dT sT e : TypeId} {oo nn cc mm c' B : Nat} {X : Option Addr} {ys zs : List Value} (d s : Operand) (ho : o.op = .call { callee := .builtin .copy, args := #[d, s], argTypes := #[dT, sT] })
    (hu : P.underlying dT = some (.slice e)) (hs : (P.info? e).map (·.size) = some 1) (hd : a.eval d = .slice (some ⟨g, oo, none⟩) nn cc) (hx : a.eval s = .slice X mm c') (h : Blk w g t ys.toArray)
    (hr : Rd w B 1 X mm zs) (h1 : ∀ u ∈ zs, u.oneCell' = true) (hm : 0 < mm) (hn : 0 < nn) (hfit : oo + nn ≤ ys.length) {K : Act → World → Prop}
    (hK : ∀ w', Blk w' g t (ys.take oo ++ zs.take (Nat.min mm nn) ++ ys.drop (oo + Nat.min mm nn)).toArray → Turn w w' (some g) → K (a.put o.dst (goInt (Nat.min mm nn))) w') : Oper.wp P o a w K Q := by
  have hrun := run_cpB (P := P) (ty := o.type) (sT := sT) (cc := cc) (c' := c') hu hs h hr h1 hm hn hfit
  unfold Oper.wp execOp
  simp only [ho, resolve, invoke, builtin, Sem.run_bind, Sem.run_pure, Result.andThen_ok, List.map_toArray, List.map_cons, List.map_nil, hd, hx, hrun]
  exact hK _ (h.setRow _) (Turn.setRow w g _)
theorem st_cpB {F : Prop} (hgd : o.guard = none) {dT sT e : TypeId} {oo nn cc mm c' B : Nat} {X : Option Addr} {ys zs : List Value} (d s : Operand) (ho : o.op = .call { callee := .builtin .copy, args := #[d, s], argTypes := #[dT, sT] })
    (hu : P.underlying dT = some (.slice e)) (hs : (P.info? e).map (·.size) = some 1) (hd : a.eval d = .slice (some ⟨g, oo, none⟩) nn cc) (hx : a.eval s = .slice X mm c') (h : Blk w g t ys.toArray)
    (hr : Rd w B 1 X mm zs) (h1 : ∀ u ∈ zs, u.oneCell' = true) (hm : 0 < mm) (hn : 0 < nn) (hfit : oo + nn ≤ ys.length) {K : Act → World → Prop}
    (hK : ∀ w', Blk w' g t (ys.take oo ++ zs.take (Nat.min mm nn) ++ ys.drop (oo + Nat.min mm nn)).toArray → Turn w w' (some g) → K (a.put o.dst (goInt (Nat.min mm nn))) w') :
    if Region.wanted o (yielded ops a.tmps) = true then Oper.wp P o a w K Q else F := by
  have hw : Region.wanted o (yielded ops a.tmps) = true := by simp [Region.wanted, hgd]
  rw [if_pos hw]
  exact wp_cpB hgd d s ho hu hs hd hx h hr h1 hm hn hfit hK
/-- A piece of a block, as what is read. -/
theorem Blk.rdAt (h : Blk w g t cs) (hs : Sub cs off xs) : Rd w (g + 1) 1 (some ⟨g, off, none⟩) xs.length xs :=
  ⟨by simp, fun k u hu => ⟨_, rfl, Nat.lt_succ_self _, by rw [add_flat]; exact h.at_ hs hu⟩⟩
/-- A struct or an array that is built of parts. -/
theorem wp_bd (hgd : o.guard = none) (ty : TypeId) (parts : Array (Nat × Operand)) (ho : o.op = .build ty parts) (pv : Array (Nat × Value)) (hp : (parts.map fun p => (p.1, a.eval p.2)) = pv) (cells : Array Value) (hb : P.built ty pv.toList = some cells)
    (hK : wpList P ops Q rest (a.put o.dst (.agg cells)) w) : wpList P ops Q (o :: rest) a w := by
  refine wpList_plain hgd fun K hK2 => ?_
  have hrun := run_build (P := P) w ty pv cells hb
  subst hp
  unfold Oper.wp execOp
  simp only [ho, Sem.run_bind, hrun, Result.andThen_ok]
  exact hK2 _ _ hK
end
end Go.Proofs.Ytnkmpcepdjjopaa
