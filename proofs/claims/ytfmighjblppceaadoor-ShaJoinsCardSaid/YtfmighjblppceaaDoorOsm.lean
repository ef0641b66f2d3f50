/-
  A list of hashes, read as data: what it is in memory.
-/
import Derived.Test.YtfmighjblppceaaDoorLay
import Derived.Deep.Slices
namespace Go.Proofs.YtfmighjblppceaaDoor
open Go.ChangeShapes Go.WideShapes Go.ChangeAt Go.RowKit

section
variable {H : Type} {enc : TypeId × Value → H} {W : World}
theorem open_sums {a : Option Addr} {len cap : Nat} {d : DataW H} {p : List MemPlace}
    (h : DataW.Trod enc Tryd.prog W 0 (fun _ => true) true 36 (.slice a len cap) d p) : ∃ F : List UInt8, Rd W W.heap.size 32 a len (vbs F) := by
  have c32 : Tryd.prog.cellsOf 25 = 32 := by kernel_rfl
  have c1 : Tryd.prog.cellsOf 5 = 1 := by kernel_rfl
  obtain ⟨fuel, hf⟩ := h
  rcases Deep.open_slice Tryd.underlying36 hf with ⟨hcs, hx⟩ | ⟨x, l, cp, m, n', D, Pl, hcs, _, hl, hm, hmm, hx, hel⟩
  · simp [Value.cells] at hcs
    obtain ⟨rfl, rfl, rfl⟩ := hcs
    exact ⟨[], Rd.none_ W _ 32 0⟩
  · simp [Value.cells] at hcs
    obtain ⟨rfl, rfl, rfl⟩ := hcs
    simp only [if_true] at hmm
    have byte : ∀ k, k < len * 32 → ∃ z : Int, W.cell? (x.add k) = some (.int .u8 z) ∧ 0 ≤ z ∧ z ≤ 255 := by
      intro k hk
      obtain ⟨cs', h1, h2⟩ := hel (k / 32) (by omega)
      rw [c32] at h1
      obtain ⟨_, hlen, hcell⟩ := World.cells?_some h1
      obtain ⟨xs, m', _, _, _, hxl, hx'⟩ := DataW.trod_array Tryd.underlying25 h2
      have h3 := hx' (k % 32) (by omega)
      rw [c1] at h3
      obtain ⟨z, hz, _, hw⟩ := DataW.trod_int Tryd.underlying5 (h3.trans (List.getElem?_eq_getElem (by omega)))
      have h4 : cs'[k % 32]? = some (.int .u8 z) := by
        have := congrArg (·[0]?) hz
        simpa using this
      have h5 := hcell (k % 32) (by omega)
      rw [Deep.add_add, show k / 32 * 32 + k % 32 = k by omega] at h5
      exact ⟨z, h5.trans h4, bd_u8 hw⟩
    obtain ⟨f, hf2⟩ := Deep.choose_lt byte
    refine ⟨(List.range (len * 32)).map fun k => UInt8.ofNat (f k).toNat, by simp [vbs], fun k u hu => ?_⟩
    obtain ⟨b, hb, rfl⟩ := vbs_at _ _ _ hu
    simp only [List.getElem?_map, Option.map_eq_some_iff] at hb
    obtain ⟨k', hk', rfl⟩ := hb
    obtain ⟨hlt, rfl⟩ := List.getElem?_eq_some_iff.1 hk'
    simp only [List.length_range] at hlt
    simp only [List.getElem_range]
    obtain ⟨h1, h2, h3⟩ := hf2 k hlt
    have hcast : ((UInt8.ofNat (f k).toNat).toNat : Int) = f k := by
      rw [UInt8.toNat_ofNat']
      omega
    rw [hcast]
    exact ⟨x, rfl, by have := World.block_lt_of_cell? W _ h1; rwa [addr_block] at this, h1⟩
end
end Go.Proofs.YtfmighjblppceaaDoor
