/-
  Laws of operations that stand under a guard which says yes, and of results that stand in a cell with others beside it. No program is named here.
-/
import Derived.Test.YtnkmpcepdjjopaaArr
import Derived.Test.YtnkmpcepdjjopaaWid
import Derived.BigFrame
namespace Go.Proofs.Ytnkmpcepdjjopaa
set_option linter.unusedSimpArgs false
set_option linter.unusedVariables false
open Go.RowKit

/-- A callee that turns nothing, in a region that is walked quietly. -/
theorem gd_quiet {P : Program} {f : FuncId} {args : Array Value} {w : World} {n : Nat} {v : Value}
    (h : Calls P f args (w.drewN n) fun e w' => e = .returned v ∧ w.drewN n = w') : Calls P f args (w.drewN n) fun e w'' => e = .returned v ∧ ∃ m, w'' = w.drewN m :=
  h.mono fun _ _ ⟨he, hm⟩ => ⟨he, n, hm.symm⟩
section
variable {P : Program} {ops : Array Oper} {rest : List Oper} {a : Act} {w : World} {Q : Exit → Act → World → Prop} {o : Oper} {g off : Nat} {t ty : TypeId} {cs : Array Value} {xs : List Value} {d : TypeDesc}
/-- An array or a struct that is read whole. -/
theorem gd_ld (hw : Region.wanted o (yielded ops a.tmps) = true) (ty : TypeId) (x : Operand) (ho : o.op = .load ty x) (hx : a.eval x = .pointer (some ⟨g, off, none⟩)) (h : Blk w g t cs) (hs : Sub cs off xs)
    (hu : P.underlying ty = some d) (hd : d.isRow = true) (hi : (P.info? ty).map (·.size) = some xs.length) (hK : wpList P ops Q rest (a.put o.dst (.agg xs.toArray)) w) : wpList P ops Q (o :: rest) a w :=
  BigFrame.wpList_want hw fun _ hK2 => wp_load_mid ty x ho g off hx xs d (h.range hs) hu hd hi (hK2 _ _ hK)
/-- The same, of cells that stand somewhere. -/
theorem gd_ldR (hw : Region.wanted o (yielded ops a.tmps) = true) (ty : TypeId) (x : Operand) (ho : o.op = .load ty x) (hx : a.eval x = .pointer (some ⟨g, off, none⟩)) (h : w.rangeAt g off xs)
    (hu : P.underlying ty = some d) (hd : d.isRow = true) (hi : (P.info? ty).map (·.size) = some xs.length) (hK : wpList P ops Q rest (a.put o.dst (.agg xs.toArray)) w) : wpList P ops Q (o :: rest) a w :=
  BigFrame.wpList_want hw fun _ hK2 => wp_load_mid ty x ho g off hx xs d h hu hd hi (hK2 _ _ hK)
/-- append under a guard that says yes. -/
theorem gd_app (hw : Region.wanted o (yielded ops a.tmps) = true) (s x : Operand) (t : TypeId) (ho : o.op = .call { callee := .builtin .append, args := #[s, x], argTypes := #[t, t] })
    {base sz by_ n c : Nat} {E : TypeId} (he : El P t E sz by_) {A : Option Addr} {xs : List Value} (hs : a.eval s = .slice A n c)
    {B m c' : Nat} {X : Option Addr} {news : List Value} (hx : a.eval x = .slice X m c') (hown : Own w base E sz A n c xs) (hr : Rd w B sz X m news) (h1 : ∀ u ∈ news, u.oneCell' = true)
    (h63 : n + m ≤ maxLen) (hby : ((n + m) + (n + m) / 4 + 192) * by_ ≤ 281474976710656) (hbase : base ≤ w.heap.size)
    (hK : ∀ A' c2 w', Own w' base E sz A' (n + m) c2 (xs ++ news) → Turn w w' (blk A) → (blk A' = blk A ∨ blk A' = some w.heap.size) → wpList P ops Q rest (a.put o.dst (.slice A' (n + m) c2)) w') :
    wpList P ops Q (o :: rest) a w := by
  refine BigFrame.wpList_want hw fun K hK2 => ?_
  obtain ⟨A', c2, w', hrun, h2, h3, h4⟩ := run_appW (ty := o.type) he hown (c' := c') hr h1 h63 hby hbase
  unfold Oper.wp execOp
  simp only [ho, resolve, invoke, builtin, Sem.run_bind, Sem.run_pure, Result.andThen_ok, List.map_toArray, List.map_cons, List.map_nil, hs, hx, hrun]
  exact hK2 _ _ (hK A' c2 w' h2 h3 h4)
/-- The same within what a machine holds (elder bound). -/
theorem gd_app0 (hw : Region.wanted o (yielded ops a.tmps) = true) (s x : Operand) (t : TypeId) (ho : o.op = .call { callee := .builtin .append, args := #[s, x], argTypes := #[t, t] })
    {base sz by_ n c : Nat} {E : TypeId} (he : El P t E sz by_) {A : Option Addr} {xs : List Value} (hs : a.eval s = .slice A n c)
    {B m c' : Nat} {X : Option Addr} {news : List Value} (hx : a.eval x = .slice X m c') (hown : Own w base E sz A n c xs) (hr : Rd w B sz X m news) (h1 : ∀ u ∈ news, u.oneCell' = true)
    (h63 : n + m ≤ maxLen) (hby : (n + m) * by_ ≤ 140737488355328) (hbase : base ≤ w.heap.size)
    (hK : ∀ A' c2 w', Own w' base E sz A' (n + m) c2 (xs ++ news) → Turn w w' (blk A) → (blk A' = blk A ∨ blk A' = some w.heap.size) → wpList P ops Q rest (a.put o.dst (.slice A' (n + m) c2)) w') :
    wpList P ops Q (o :: rest) a w := by
  refine BigFrame.wpList_want hw fun K hK2 => ?_
  obtain ⟨A', c2, w', hrun, h2, h3, h4⟩ := run_app (ty := o.type) he hown (c' := c') hr h1 h63 hby hbase
  unfold Oper.wp execOp
  simp only [ho, resolve, invoke, builtin, Sem.run_bind, Sem.run_pure, Result.andThen_ok, List.map_toArray, List.map_cons, List.map_nil, hs, hx, hrun]
  exact hK2 _ _ (hK A' c2 w' h2 h3 h4)
/-- A struct or an array that is built of parts, under a guard that says yes. -/
theorem gd_bd (hw : Region.wanted o (yielded ops a.tmps) = true) (ty : TypeId) (parts : Array (Nat × Operand)) (ho : o.op = .build ty parts) (pv : Array (Nat × Value)) (hp : (parts.map fun p => (p.1, a.eval p.2)) = pv) (cells : Array Value) (hb : P.built ty pv.toList = some cells)
    (hK : wpList P ops Q rest (a.put o.dst (.agg cells)) w) : wpList P ops Q (o :: rest) a w := by
  refine BigFrame.wpList_want hw fun K hK2 => ?_
  have hrun := run_build (P := P) w ty pv cells hb
  subst hp
  unfold Oper.wp execOp
  simp only [ho, Sem.run_bind, hrun, Result.andThen_ok]
  exact hK2 _ _ hK
/-- A struct or an array that is read whole, in a region that draws. -/
theorem gd_dld {F : Prop} {K : Act → World → Prop} (hw : Region.wanted o (yielded ops a.tmps) = true) (ty : TypeId) (x : Operand) (ho : o.op = .load ty x) (hx : a.eval x = .pointer (some ⟨g, off, none⟩)) (h : w.rangeAt g off xs)
    (hu : P.underlying ty = some d) (hd : d.isRow = true) (hi : (P.info? ty).map (·.size) = some xs.length) (hK : K (a.put o.dst (.agg xs.toArray)) w) : if Region.wanted o (yielded ops a.tmps) = true then Oper.wp P o a w K Q else F := by
  rw [if_pos hw]
  exact wp_load_mid ty x ho g off hx xs d h hu hd hi hK
/-- A new variable of nought, in a region that draws. -/
theorem gd_dal {F : Prop} {K : Act → World → Prop} (hgd : o.guard = none) (ty : TypeId) (ho : o.op = .alloc ty) (v : Value) (hz : ∀ w, (zeroValue ty).run P w = .ok v w)
    (hK : ∀ g w', w.heap.size = g → Blk w' g ty v.cells → Turn w w' none → K (a.put o.dst (.pointer (some ⟨g, 0, none⟩))) w') : if Region.wanted o (yielded ops a.tmps) = true then Oper.wp P o a w K Q else F := by
  have hw : Region.wanted o (yielded ops a.tmps) = true := by simp [Region.wanted, hgd]
  rw [if_pos hw]
  unfold Oper.wp execOp
  simp only [ho, Instr.alloc, Sem.run_bind, hz, newVar, Result.andThen_ok]
  simp [newRow]
  exact hK _ _ rfl (Blk.new w ty v.cells) ((Turn.refl w none).alloc _)
/-- A struct or an array that is stored whole, in a region that draws. -/
theorem gd_dst {F : Prop} {K : Act → World → Prop} (hgd : o.guard = none) (ty : TypeId) (x y : Operand) (ho : o.op = .store ty x y) (hx : a.eval x = .pointer (some ⟨g, 0, none⟩)) (hy : a.eval y = .agg xs.toArray) (h : Blk w g t cs) (hsz : cs.size = xs.length)
    (hi : (P.info? ty).map (·.size) = some xs.length) (h1 : ∀ u ∈ xs, u.oneCell' = true) (hK : ∀ w', Blk w' g t xs.toArray → Turn w w' (some g) → K (a.put o.dst undef) w') : if Region.wanted o (yielded ops a.tmps) = true then Oper.wp P o a w K Q else F := by
  have hw : Region.wanted o (yielded ops a.tmps) = true := by simp [Region.wanted, hgd]
  rw [if_pos hw]
  unfold Oper.wp execOp
  simp only [ho, hx, hy, Sem.run_bind, run_st h hsz hi h1, Result.andThen_ok]
  exact hK _ (h.setRow xs) (Turn.setRow w g _)
/-- A result that stands in a cell, and one beside it. -/
theorem ret_ct {fn : Func} {R : Ending → World → Prop} {p u : Tmp} {v : Value} (hf : fn.results = #[.cell p ty, .tmp u]) (hp : a.tmps.getD p undef = .pointer (some ⟨g, 0, none⟩)) (hv : a.tmps.getD u undef = v) (hdf : a.defers = []) (h : Blk w g t xs.toArray)
    (hu : P.underlying ty = some d) (hd : d.isRow = true) (hi : (P.info? ty).map (·.size) = some xs.length) (hR : R (.returned (.tuple #[.agg xs.toArray, v])) w) : bodyPost P fn R .ret a w := by
  refine bodyPost_ret (v := .tuple #[.agg xs.toArray, v]) ?_ hdf hR
  have e : (results fn a.tmps).run P w = ((asAddr (a.tmps.getD p undef)).run P w).andThen fun a' w₁ => ((loadVar ty a').run P w₁).andThen fun y w₂ => .ok (.tuple #[y, a.tmps.getD u undef]) w₂ := by
    simp only [results, hf]
    simp [Sem.run_bind, Result.andThen]
  rw [e, hp, hv]
  simp only [asAddr, Sem.run_pure, Result.andThen_ok, run_loadVar_mid w g 0 ty xs d (h.range (Sub.all xs)) hu hd hi]
/-- And two beside it. -/
theorem ret_ctt {fn : Func} {R : Ending → World → Prop} {p u s : Tmp} {v z : Value} (hf : fn.results = #[.cell p ty, .tmp u, .tmp s]) (hp : a.tmps.getD p undef = .pointer (some ⟨g, 0, none⟩)) (hv : a.tmps.getD u undef = v) (hz : a.tmps.getD s undef = z) (hdf : a.defers = []) (h : Blk w g t xs.toArray)
    (hu : P.underlying ty = some d) (hd : d.isRow = true) (hi : (P.info? ty).map (·.size) = some xs.length) (hR : R (.returned (.tuple #[.agg xs.toArray, v, z])) w) : bodyPost P fn R .ret a w := by
  refine bodyPost_ret (v := .tuple #[.agg xs.toArray, v, z]) ?_ hdf hR
  have e : (results fn a.tmps).run P w = ((asAddr (a.tmps.getD p undef)).run P w).andThen fun a' w₁ => ((loadVar ty a').run P w₁).andThen fun y w₂ => .ok (.tuple #[y, a.tmps.getD u undef, a.tmps.getD s undef]) w₂ := by
    simp only [results, hf]
    simp [Sem.run_bind, Result.andThen]
  rw [e, hp, hv, hz]
  simp only [asAddr, Sem.run_pure, Result.andThen_ok, run_loadVar_mid w g 0 ty xs d (h.range (Sub.all xs)) hu hd hi]
end
end Go.Proofs.Ytnkmpcepdjjopaa
