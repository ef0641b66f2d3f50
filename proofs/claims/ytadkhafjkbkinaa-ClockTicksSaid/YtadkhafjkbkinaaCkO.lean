/-
  Layer 13: clocks that are read as data.
-/
import Derived.Test.YtadkhafjkbkinaaCkB
import Derived.Test.YtadkhafjkbkinaaMny
import Derived.Deep.Slices
namespace Go.Proofs.Ytadkhafjkbkinaa
open Go.ChangeShapes Go.WideShapes Go.ChangeAt Go.RowKit

theorem flat_cong {α β : Type} {f g : α → List β} : ∀ {l : List α}, (∀ x ∈ l, f x = g x) → l.flatMap f = l.flatMap g
  | [], _ => rfl
  | x :: r, h => by rw [List.flatMap_cons, List.flatMap_cons, h x (by simp), flat_cong fun y hy => h y (by simp [hy])]
section
variable {H : Type} {enc : TypeId × Value → H} {W : World} {r : Reach} {b0 : Nat}
theorem clock_at {fuel : Nat} {cs : List Value} {x : DataW H × List MemPlace} (h : DataW.trod enc Try.prog W 0 (fun _ => true) true fuel 24 cs = some x) : ∃ l, cs = ck l ∧ Ok8 l := by
  obtain ⟨xs, m, _, _, hl, hxl, hi⟩ := DataW.trod_array Try.underlying24 h
  have hC : Try.prog.cellsOf 24 = 8 := by kernel_rfl
  have h1 : Try.prog.cellsOf 22 = 1 := by kernel_rfl
  rw [hC] at hl
  rw [h1] at hi
  have one : ∀ i, i < 8 → ∃ n : Int, cs[i]? = some (.int .u64 n) ∧ 0 ≤ n ∧ n ≤ 18446744073709551615 := fun i hi8 => by
    have h2 := hi i hi8
    have h3 : i < xs.length := by rw [hxl]; exact hi8
    rw [List.getElem?_eq_getElem h3, Nat.mul_one] at h2
    obtain ⟨n, h4, _, h5⟩ := DataW.trod_int Try.underlying22 h2
    have h6 : i < cs.length := by omega
    rw [List.drop_eq_getElem_cons h6, List.take_succ_cons, List.take_zero] at h4
    refine ⟨n, ?_, bd_u64 h5⟩
    rw [List.getElem?_eq_getElem h6]
    exact congrArg some (List.cons.inj h4).1
  obtain ⟨F, hF⟩ := Deep.choose_lt one
  refine ⟨(List.range 8).map F, ?_, by simp, fun y hy => ?_⟩
  · apply List.ext_getElem?
    intro i
    by_cases hi8 : i < 8
    · rw [(hF i hi8).1, ck, List.map_map, List.getElem?_map, List.getElem?_range hi8]
      rfl
    · rw [List.getElem?_eq_none (by omega), List.getElem?_eq_none (by rw [ck_len]; simp; omega)]
  · obtain ⟨i, hi8, rfl⟩ := List.mem_map.1 hy
    exact (hF i (List.mem_range.1 hi8)).2
theorem open_clock {v : Value} {d : DataW H} {p : List MemPlace} (hv : Value.okWide Try.prog W r b0 24 v) (h : DataW.Trod enc Try.prog W 0 (fun _ => true) true 24 v d p) :
    ∃ l, v = .agg (ck l).toArray ∧ Ok8 l := by
  simp only [Value.okWide, Try.underlying24] at hv
  obtain ⟨cs, rfl, _, _⟩ := hv
  obtain ⟨fuel, hf⟩ := h
  obtain ⟨l, hl, h8⟩ := clock_at hf
  refine ⟨l, ?_, h8⟩
  have e : cs.toList = ck l := hl
  rw [← e]
theorem open_clocks {a : Option Addr} {len cap : Nat} {d : DataW H} {p : List MemPlace} (h : DataW.Trod enc Try.prog W 0 (fun _ => true) true 31 (.slice a len cap) d p) :
    ∃ rows, Rc W W.heap.size a len rows ∧ len ≤ cap ∧ cap ≤ maxLen ∧ CapIs d len cap := by
  obtain ⟨fuel, hf⟩ := h
  have hC : Try.prog.cellsOf 24 = 8 := by kernel_rfl
  rcases open_many Try.underlying31 hC hf with ⟨rfl, rfl, rfl⟩ | ⟨b, n, D, C, sp, rfl, hl, hm, hx, hs, hE⟩
  · refine ⟨[], ⟨Rd.none_ W _ 8 0, rfl, fun x hx => by cases hx⟩, Nat.le_refl _, Nat.zero_le _, .inl ⟨?_, rfl, rfl⟩⟩
    rcases DataW.trod_slice Try.underlying31 hf with ⟨_, h2⟩ | ⟨b, len', cap', elems, rest, n, _, hc, _⟩
    · injection h2
    · simp [Value.cells] at hc
  · have one : ∀ i, i < len → ∃ l, C i = ck l ∧ Ok8 l := fun i hi => clock_at (hE i hi).2.2
    have : Inhabited (List Int) := ⟨[]⟩
    obtain ⟨F, hF⟩ := Deep.choose_lt one
    refine ⟨(List.range len).map F, ⟨?_, by simp, fun x hx => ?_⟩, hl, hm, .inr ⟨_, _, hx, by simp, by simpa using hs⟩⟩
    · have e : ((List.range len).map F).flatMap ck = (List.range len).flatMap fun i => if i < len then ck (F i) else List.replicate 8 (.int .u64 0) := by
        rw [List.flatMap_map]
        refine flat_cong fun i hi => ?_
        rw [if_pos (List.mem_range.1 hi)]
      rw [e]
      refine rd_many (by omega) (fun i => ?_) (fun i hi q v hq => ?_)
      · by_cases hi : i < len
        · rw [if_pos hi, ck_len]; exact (hF i hi).2.1
        · rw [if_neg hi]; simp
      · rw [if_pos hi, ← (hF i hi).1] at hq
        exact (hE i hi).2.1 q v hq
    · obtain ⟨i, hi, rfl⟩ := List.mem_map.1 hx
      exact (hF i (List.mem_range.1 hi)).2
end
end Go.Proofs.Ytadkhafjkbkinaa
