/-
  Layer 14: acts that are read as data.
-/
import Derived.Test.YtogajpiefegdeaaDkSa
import Derived.Test.YtogajpiefegdeaaMny
import Derived.Test.YtogajpiefegdeaaRow
import Derived.Deep.Slices
import Derived.Deep.Strs
namespace Go.Proofs.Ytogajpiefegdeaa
set_option linter.unusedSimpArgs false
set_option linter.unusedVariables false
open Go.ChangeShapes Go.WideShapes Go.ChangeAt Go.RowKit

section
variable {H : Type} {enc : TypeId × Value → H} {W : World} {r : Reach} {b0 : Nat}
theorem dkc_int : Try.prog.cellsOf 3 = 1 := by kernel_rfl
theorem dkc_slb : Try.prog.cellsOf 28 = 1 := by kernel_rfl
theorem dkc_u8 : Try.prog.cellsOf 5 = 1 := by kernel_rfl
theorem dkc_act : Try.prog.cellsOf 30 = 4 := by kernel_rfl
theorem slb_form {t e : TypeId} {fuel : Nat} {v : Value} {x : DataW H × List MemPlace} (ht : Try.prog.underlying t = some (.slice e)) (h : DataW.trod enc Try.prog W 0 (fun _ => true) true fuel t [v] = some x) : ∃ A n c, v = .slice A n c := by
  rcases DataW.trod_slice ht h with ⟨hc, _⟩ | ⟨b, len', cap', elems, rest, n, _, hc, _⟩
  · simp only [List.cons.injEq, and_true] at hc
    exact ⟨_, _, _, hc⟩
  · simp only [List.cons.injEq, and_true] at hc
    exact ⟨_, _, _, hc⟩
theorem act_at {fuel : Nat} {cs : List Value} {x : DataW H × List MemPlace} (h1 : cs.length = 4) (h2 : DataW.trod enc Try.prog W 0 (fun _ => true) true fuel 30 cs = some x) :
    ∃ a : At, cs = a.cs ∧ ((∀ n ∈ x.1.weights Try.prog 30, n ≤ 140737488351232) → a.Ok W W.heap.size) := by
  obtain ⟨xs, m, _, hD, _, h3, h4⟩ := DataW.trod_struct Try.underlying30 h2
  match cs, h1 with
  | [a0, a1, a2, a3], _ =>
    have g0 : DataW.trod enc Try.prog W 0 (fun _ => true) true m 3 (([a0, a1, a2, a3].drop 0).take (Try.prog.cellsOf 3)) = xs[0]? := h4 0 _ rfl
    have g1 : DataW.trod enc Try.prog W 0 (fun _ => true) true m 3 (([a0, a1, a2, a3].drop 1).take (Try.prog.cellsOf 3)) = xs[1]? := h4 1 _ rfl
    have g2 : DataW.trod enc Try.prog W 0 (fun _ => true) true m 3 (([a0, a1, a2, a3].drop 2).take (Try.prog.cellsOf 3)) = xs[2]? := h4 2 _ rfl
    have g3 : DataW.trod enc Try.prog W 0 (fun _ => true) true m 28 (([a0, a1, a2, a3].drop 3).take (Try.prog.cellsOf 28)) = xs[3]? := h4 3 _ rfl
    rw [dkc_int] at g0 g1 g2
    rw [dkc_slb] at g3
    match xs, h3 with
    | [y0, y1, y2, y3], _ =>
      obtain ⟨z0, e0, _⟩ := DataW.trod_int Try.underlying3 g0
      obtain ⟨z1, e1, _⟩ := DataW.trod_int Try.underlying3 g1
      obtain ⟨z2, e2, _, w2⟩ := DataW.trod_int Try.underlying3 g2
      have u0 : a0 = Value.int .i64 z0 := (List.cons.inj (show [a0] = [Value.int .i64 z0] from e0)).1
      have u1 : a1 = Value.int .i64 z1 := (List.cons.inj (show [a1] = [Value.int .i64 z1] from e1)).1
      have u2 : a2 = Value.int .i64 z2 := (List.cons.inj (show [a2] = [Value.int .i64 z2] from e2)).1
      have g3 : DataW.trod enc Try.prog W 0 (fun _ => true) true m 28 [a3] = some y3 := g3
      obtain ⟨A, n, c, rfl⟩ := slb_form Try.underlying28 g3
      obtain ⟨l, hr, hn, hc, hcap⟩ := open_bytes (a := A) (len := n) (cap := c) (d := y3.1) (p := y3.2) Try.underlying28 Try.underlying5 dkc_u8 ⟨m, by simpa [Value.cells] using g3⟩
      subst u0
      subst u1
      subst u2
      refine ⟨⟨z0, z1, z2, A, n, c, l⟩, rfl, fun hw => ⟨hr, hn, hc, ?_, (bd_i64 w2).1, (bd_i64 w2).2⟩⟩
      rw [hD] at hw
      have h5 : ∀ q ∈ y3.1.weights Try.prog 28, q ≤ 140737488351232 := fun q hq => hw q (by
        rw [DataW.weights, Try.underlying30]
        exact DataW.weights_mem_each (j := 3) (t := 28) rfl rfl q hq)
      show n ≤ _
      rcases hcap with ⟨_, h6, _⟩ | ⟨es, sp, h6, h7, h8⟩
      · omega
      · have h9 := h5 ((es.length + sp.length) * Try.prog.bytesOf 5) (by rw [h6, DataW.weights, Try.underlying28]; simp)
        rw [show Try.prog.bytesOf 5 = 1 by kernel_rfl] at h9
        omega
theorem open_act {v : Value} {d : DataW H} {p : List MemPlace} (hv : Value.okWide Try.prog W r b0 30 v) (h : DataW.Trod enc Try.prog W 0 (fun _ => true) true 30 v d p) :
    ∃ a : At, v = .agg a.cs.toArray ∧ ((∀ n ∈ d.weights Try.prog 30, n ≤ 140737488351232) → a.Ok W W.heap.size) := by
  simp only [Value.okWide, Try.underlying30] at hv
  obtain ⟨cs, rfl, h4, _⟩ := hv
  obtain ⟨fuel, hf⟩ := h
  have hl : cs.toList.length = 4 := by rw [Array.length_toList]; exact h4.trans dkc_act
  obtain ⟨a, ha, hk⟩ := act_at hl hf
  refine ⟨a, ?_, hk⟩
  have e : cs.toList = a.cs := ha
  rw [← e]
theorem open_acts {a : Option Addr} {len cap : Nat} {d : DataW H} {p : List MemPlace} (h : DataW.Trod enc Try.prog W 0 (fun _ => true) true 22 (.slice a len cap) d p) :
    ∃ qs, len ≤ cap ∧ cap ≤ maxLen ∧ ((∀ n ∈ d.weights Try.prog 22, n ≤ 140737488351232) → Rq W W.heap.size a len qs ∧ len ≤ 140737488351232) := by
  obtain ⟨fuel, hf⟩ := h
  rcases open_many Try.underlying22 dkc_act hf with ⟨rfl, rfl, rfl⟩ | ⟨b, n, D, C, sp, rfl, hl, hm, hx, hs, hE⟩
  · exact ⟨[], Nat.le_refl _, Nat.zero_le _, fun _ => ⟨⟨Rd.none_ W _ 4 0, rfl, fun x hx => by cases hx⟩, Nat.zero_le _⟩⟩
  · have one : ∀ i, i < len → ∃ a : At, C i = a.cs ∧ ((∀ n ∈ (D i).1.weights Try.prog 30, n ≤ 140737488351232) → a.Ok W W.heap.size) := fun i hi => act_at (hE i hi).1 (hE i hi).2.2
    have : Inhabited At := ⟨⟨0, 0, 0, none, 0, 0, []⟩⟩
    obtain ⟨F, hF⟩ := Deep.choose_lt one
    refine ⟨(List.range len).map F, hl, hm, fun hw => ⟨⟨?_, by simp, fun x hx2 => ?_⟩, ?_⟩⟩
    · rw [List.flatMap_map]
      refine rd_many (by omega) (fun i => rfl) (fun i hi q v hq => ?_)
      rw [← (hF i hi).1] at hq
      exact (hE i hi).2.1 q v hq
    · obtain ⟨i, hi, rfl⟩ := List.mem_map.1 hx2
      have hi := List.mem_range.1 hi
      have hx : d = .slice ((List.range len).map fun i => (D i).1) sp := hx
      refine (hF i hi).2 fun q hq => hw q ?_
      rw [hx, DataW.weights, Try.underlying22]
      exact List.mem_cons_of_mem _ (List.mem_append_left _ (weights_all (List.mem_map.2 ⟨i, List.mem_range.2 hi, rfl⟩) hq))
    · have hx : d = .slice ((List.range len).map fun i => (D i).1) sp := hx
      have h9 := hw ((((List.range len).map fun i => (D i).1).length + sp.length) * Try.prog.bytesOf 30) (by rw [hx, DataW.weights, Try.underlying22]; simp)
      rw [show Try.prog.bytesOf 30 = 48 by kernel_rfl, List.length_map, List.length_range] at h9
      omega
end
end Go.Proofs.Ytogajpiefegdeaa
