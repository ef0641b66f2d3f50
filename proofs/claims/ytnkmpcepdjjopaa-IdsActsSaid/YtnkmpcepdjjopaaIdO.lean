/-
  Layer 16: acts that are read as data.
-/
import Derived.Test.YtnkmpcepdjjopaaIdX
import Derived.Test.YtnkmpcepdjjopaaMny
import Derived.Test.YtnkmpcepdjjopaaRow
import Derived.Deep.Slices
import Derived.Deep.Strs
namespace Go.Proofs.Ytnkmpcepdjjopaa
set_option linter.unusedSimpArgs false
set_option linter.unusedVariables false
open Go.ChangeShapes Go.WideShapes Go.ChangeAt Go.RowKit

section
variable {H : Type} {enc : TypeId × Value → H} {W : World}
theorem idc_int : Try.prog.cellsOf 3 = 1 := by kernel_rfl
theorem idc_u64 : Try.prog.cellsOf 22 = 1 := by kernel_rfl
theorem idc_str : Try.prog.cellsOf 9 = 1 := by kernel_rfl
theorem idc_act : Try.prog.cellsOf 30 = 3 := by kernel_rfl
theorem act16_at {fuel : Nat} {cs : List Value} {x : DataW H × List MemPlace} (h1 : cs.length = 3) (h2 : DataW.trod enc Try.prog W 0 (fun _ => true) true fuel 30 cs = some x) :
    ∃ a : A16, cs = a.cs ∧ ((∀ n ∈ x.1.weights Try.prog 30, n ≤ 140737488351232) → a.Ok) := by
  obtain ⟨xs, m, _, hD, _, h3, h4⟩ := DataW.trod_struct Try.underlying30 h2
  match cs, h1 with
  | [a0, a1, a2], _ =>
    have g0 : DataW.trod enc Try.prog W 0 (fun _ => true) true m 3 (([a0, a1, a2].drop 0).take (Try.prog.cellsOf 3)) = xs[0]? := h4 0 _ rfl
    have g1 : DataW.trod enc Try.prog W 0 (fun _ => true) true m 22 (([a0, a1, a2].drop 1).take (Try.prog.cellsOf 22)) = xs[1]? := h4 1 _ rfl
    have g2 : DataW.trod enc Try.prog W 0 (fun _ => true) true m 9 (([a0, a1, a2].drop 2).take (Try.prog.cellsOf 9)) = xs[2]? := h4 2 _ rfl
    rw [idc_int] at g0
    rw [idc_u64] at g1
    rw [idc_str] at g2
    match xs, h3 with
    | [y0, y1, y2], _ =>
      obtain ⟨z0, e0, _⟩ := DataW.trod_int Try.underlying3 g0
      obtain ⟨z1, e1, _, w1⟩ := DataW.trod_int Try.underlying22 g1
      obtain ⟨s2, e2, x2, _⟩ := DataW.trod_string Try.underlying9 g2
      have u0 : a0 = Value.int .i64 z0 := (List.cons.inj (show [a0] = [Value.int .i64 z0] from e0)).1
      have u1 : a1 = Value.int .u64 z1 := (List.cons.inj (show [a1] = [Value.int .u64 z1] from e1)).1
      have u2 : a2 = Value.string s2 := (List.cons.inj (show [a2] = [Value.string s2] from e2)).1
      have b1 := bd_u64 w1
      obtain ⟨k, rfl⟩ : ∃ k : Nat, z1 = (k : Int) := ⟨z1.toNat, by omega⟩
      subst u0
      subst u1
      subst u2
      refine ⟨⟨z0, k, s2.data.toList⟩, by unfold A16.cs; rw [txt_of], fun hw => ⟨by show k ≤ _; omega, ?_⟩⟩
      rw [hD] at hw
      have x2 : y2 = (DataW.lit (Lit.string s2.data.toList), []) := x2
      have h5 : ∀ q ∈ y2.1.weights Try.prog 9, q ≤ 140737488351232 := fun q hq => hw q (by
        rw [DataW.weights, Try.underlying30]
        exact DataW.weights_mem_each (j := 2) (t := 9) rfl rfl q hq)
      have h6 := h5 s2.data.toList.length (by rw [x2, DataW.weights]; exact List.mem_singleton.2 rfl)
      show s2.data.toList.length ≤ _
      omega
theorem open_acts16 {a : Option Addr} {len cap : Nat} {d : DataW H} {p : List MemPlace} (h : DataW.Trod enc Try.prog W 0 (fun _ => true) true 23 (.slice a len cap) d p) :
    ∃ qs, len ≤ cap ∧ cap ≤ maxLen ∧ ((∀ n ∈ d.weights Try.prog 23, n ≤ 140737488351232) → Ra16 W W.heap.size a len qs) := by
  obtain ⟨fuel, hf⟩ := h
  rcases open_many Try.underlying23 idc_act hf with ⟨rfl, rfl, rfl⟩ | ⟨b, n, D, C, sp, rfl, hl, hm, hx, hs, hE⟩
  · exact ⟨[], Nat.le_refl _, Nat.zero_le _, fun _ => ⟨Rd.none_ W _ 3 0, rfl, fun x hx => by cases hx⟩⟩
  · have one : ∀ i, i < len → ∃ a : A16, C i = a.cs ∧ ((∀ n ∈ (D i).1.weights Try.prog 30, n ≤ 140737488351232) → a.Ok) := fun i hi => act16_at (hE i hi).1 (hE i hi).2.2
    have : Inhabited A16 := ⟨⟨0, 0, []⟩⟩
    obtain ⟨F, hF⟩ := Deep.choose_lt one
    refine ⟨(List.range len).map F, hl, hm, fun hw => ⟨?_, by simp, fun x hx2 => ?_⟩⟩
    · rw [List.flatMap_map]
      refine rd_many (by omega) (fun i => rfl) (fun i hi q v hq => ?_)
      rw [← (hF i hi).1] at hq
      exact (hE i hi).2.1 q v hq
    · obtain ⟨i, hi, rfl⟩ := List.mem_map.1 hx2
      have hi := List.mem_range.1 hi
      have hx : d = .slice ((List.range len).map fun i => (D i).1) sp := hx
      refine (hF i hi).2 fun q hq => hw q ?_
      rw [hx, DataW.weights, Try.underlying23]
      exact List.mem_cons_of_mem _ (List.mem_append_left _ (weights_all (List.mem_map.2 ⟨i, List.mem_range.2 hi, rfl⟩) hq))
end
theorem acts16_read (lim : Int) (h0 : 0 ≤ lim) (h1 : lim ≤ 18446744073709551615) (A : Option Addr) (n c : Nat) (l : List A16) (w : World) (hr : Ra16 w w.heap.size A n l) (hnc : n ≤ c) (hc : c ≤ maxLen) :
    Calls Try.prog 3 #[.int .u64 lim, .slice A n c] w fun e w' => e = .returned (.bool true) ∧ Turn w w' none := by
  obtain ⟨k, rfl⟩ : ∃ k : Nat, lim = (k : Int) := ⟨lim.toNat, by omega⟩
  exact acts16_walk k (by omega) A n c l w hr hnc hc
end Go.Proofs.Ytnkmpcepdjjopaa
