/-
  From a statement's row to its walk: what arguments that are read as data are in memory, in the words of this family; how great they are.
-/
import Derived.Test.YtnkmpcepdjjopaaMem
import Derived.ProofKit
import Derived.OpenShut
import Derived.ShutString
import Derived.ChangeOld
import Derived.Below
import Derived.SizedLaws
import Derived.JoinedCond
import Derived.SliceStrings
namespace Go.Proofs.Ytnkmpcepdjjopaa
set_option linter.unusedSimpArgs false
set_option linter.unusedVariables false
open Go.ChangeShapes Go.WideShapes Go.ChangeAt Go.RowKit
open Go.ChangeMaps (open_string shut_string)

theorem frOwn : ownKnob Try.prog.godebug = none := by kernel_rfl
theorem frLaid : laidOutB Try.prog = true := by kernel_rfl

section
variable {H : Type} {enc : TypeId × Value → H} {P : Program} {W : World}

/-- What a slice's datum tells of its capacity. -/
def CapIs (d : DataW H) (len cap : Nat) : Prop := (d = .nil ∧ len = 0 ∧ cap = 0) ∨ ∃ es sp, d = .slice es sp ∧ es.length = len ∧ es.length + sp.length = cap

theorem open_bytes {t e : TypeId} (ht : P.underlying t = some (.slice e)) (he : P.underlying e = some (.int .u8)) (hc : P.cellsOf e = 1) {a : Option Addr} {len cap : Nat} {d : DataW H} {p : List MemPlace}
    (h : DataW.Trod enc P W 0 (fun _ => true) true t (.slice a len cap) d p) : ∃ l : List UInt8, Rd W W.heap.size 1 a len (vbs l) ∧ len ≤ cap ∧ cap ≤ maxLen ∧ CapIs d len cap := by
  obtain ⟨fuel, hf⟩ := h
  rcases open_ints ht he hc hf with ⟨hcs, hx⟩ | ⟨x, l, c, zs, hcs, _, hl, hm, hz, hx, hcell, hwz⟩
  · simp [Value.cells] at hcs
    obtain ⟨rfl, rfl, rfl⟩ := hcs
    injection hx with hx _
    exact ⟨[], Rd.none_ W _ 1 0, Nat.le_refl _, Nat.zero_le _, .inl ⟨hx, rfl, rfl⟩⟩
  · simp [Value.cells] at hcs
    obtain ⟨rfl, rfl, rfl⟩ := hcs
    simp only [if_true] at hz
    injection hx with hx _
    refine ⟨(zs.take len).map fun n => UInt8.ofNat n.toNat, ⟨by simp [vbs, hz]; omega, fun k u hu => ?_⟩, hl, hm, .inr ⟨_, _, hx, ?_, ?_⟩⟩
    · obtain ⟨b, hb, rfl⟩ := vbs_at _ _ _ hu
      simp only [List.getElem?_map, Option.map_eq_some_iff] at hb
      obtain ⟨n, hn, rfl⟩ := hb
      have hk : k < len := by
        have := (List.getElem?_eq_some_iff.1 hn).1
        rw [List.length_take] at this
        omega
      rw [List.getElem?_take_of_lt hk] at hn
      have hmem : n ∈ zs := List.mem_of_getElem? hn
      have hw := hwz n hmem
      have hb2 : 0 ≤ n ∧ n ≤ 255 := by simpa [Lit.wf, IntKind.min, IntKind.max, IntKind.signed, IntKind.bits] using hw
      have hc2 := hcell k (by omega)
      have hget : zs.getD k 0 = n := by simp [List.getD, hn]
      rw [hget] at hc2
      have hcast : ((UInt8.ofNat n.toNat).toNat : Int) = n := by
        rw [UInt8.toNat_ofNat']
        omega
      rw [hcast]
      exact ⟨x, rfl, by have := World.block_lt_of_cell? W _ hc2; rwa [addr_block] at this, hc2⟩
    · simp [lits, hz]; omega
    · simp only [lits, List.length_map, List.length_take, List.length_drop, hz]; omega

/-- An array of two, of elements of one cell, by value. -/
theorem open_arr2 {r : Reach} {b0 : Nat} {t e : TypeId} {v : Value} {d : DataW H} {p : List MemPlace} (ht : P.underlying t = some (.array 2 e)) (hce : P.cellsOf e = 1) (hC : P.cellsOf t = 2)
    (hv : Value.okWide P W r b0 t v) (h : DataW.Trod enc P W 0 (fun _ => true) true t v d p) :
    ∃ (v0 v1 : Value) (y0 y1 : DataW H × List MemPlace) (n : Nat), v = .agg #[v0, v1] ∧ d = .agg [y0.1, y1.1] ∧ p = y0.2 ++ y1.2 ∧
      DataW.trod enc P W 0 (fun _ => true) true n e [v0] = some y0 ∧ DataW.trod enc P W 0 (fun _ => true) true n e [v1] = some y1 := by
  simp only [Value.okWide, ht] at hv
  obtain ⟨cs, rfl, h2, _⟩ := hv
  have hl : cs.toList.length = 2 := by rw [Array.length_toList]; exact h2.trans hC
  obtain ⟨c0, c1, hcs⟩ : ∃ c0 c1, cs.toList = [c0, c1] := by
    match cs.toList, hl with
    | [a, b], _ => exact ⟨a, b, rfl⟩
  obtain rfl : cs = #[c0, c1] := by rw [← Array.toList_inj]; exact hcs
  obtain ⟨fuel, hf⟩ := h
  cases fuel with
  | zero => simp [DataW.trod] at hf
  | succ n =>
    unfold DataW.trod at hf
    rw [ht] at hf
    have r2 : List.range 2 = [0, 1] := rfl
    simp [r2, hce, Value.cells] at hf
    cases h0 : DataW.trod enc P W 0 (fun _ => true) true n e [c0] with
    | none => simp [h0] at hf
    | some y0 =>
      cases h1 : DataW.trod enc P W 0 (fun _ => true) true n e [c1] with
      | none => simp [h0, h1] at hf
      | some y1 =>
        simp [h0, h1] at hf
        exact ⟨c0, c1, y0, y1, n, rfl, hf.2.1.symm, hf.2.2.symm, h0, h1⟩

theorem open_strs {t e : TypeId} (ht : P.underlying t = some (.slice e)) (he : P.underlying e = some .string) (hc : P.cellsOf e = 1) {a : Option Addr} {len cap : Nat} {d : DataW H} {p : List MemPlace}
    (h : DataW.Trod enc P W 0 (fun _ => true) true t (.slice a len cap) d p) : ∃ ss : List ByteArray, Rd W W.heap.size 1 a len (ss.map Value.string) ∧ len ≤ cap ∧ cap ≤ maxLen ∧ (∀ s ∈ ss, s.size ≤ maxLen) ∧
      ((d = .nil ∧ len = 0 ∧ cap = 0) ∨ ∃ sp, d = .slice (strs ss) sp ∧ ss.length = len ∧ ss.length + sp.length = cap) := by
  obtain ⟨fuel, hf⟩ := h
  rcases open_strings ht he hc hf with ⟨hcs, hx⟩ | ⟨x, l, c, zs, hcs, _, hl, hm, hz, hx, hcell, hwz⟩
  · simp [Value.cells] at hcs
    obtain ⟨rfl, rfl, rfl⟩ := hcs
    injection hx with hx _
    exact ⟨[], Rd.none_ W _ 1 0, Nat.le_refl _, Nat.zero_le _, by simp, .inl ⟨hx, rfl, rfl⟩⟩
  · simp [Value.cells] at hcs
    obtain ⟨rfl, rfl, rfl⟩ := hcs
    simp only [if_true] at hz
    injection hx with hx _
    refine ⟨zs.take len, ⟨by simp [hz]; omega, fun k u hu => ?_⟩, hl, hm, fun s hs => hwz s (List.mem_of_mem_take hs), .inr ⟨_, hx, ?_, ?_⟩⟩
    · simp only [List.getElem?_map, Option.map_eq_some_iff] at hu
      obtain ⟨s, hs, rfl⟩ := hu
      have hk : k < len := by
        have := (List.getElem?_eq_some_iff.1 hs).1
        rw [List.length_take] at this
        omega
      rw [List.getElem?_take_of_lt hk] at hs
      have hc2 := hcell k (by omega)
      have hget : zs.getD k ByteArray.empty = s := by simp [List.getD, hs]
      rw [hget] at hc2
      exact ⟨x, rfl, by have := World.block_lt_of_cell? W _ hc2; rwa [addr_block] at this, hc2⟩
    · rw [List.length_take, hz]; omega
    · simp only [strs, List.length_map, List.length_take, List.length_drop, hz]; omega

/-- The reach, of a slice. -/
theorem cap_reach {ts : List TypeId} {ds : List (DataW H)} (h : (DataW.weightsEach P ts ds).all (· ≤ reachBytes) = true) {j : Nat} {t e : TypeId} {d : DataW H} {len cap by_ : Nat} (ht : ts[j]? = some t) (hd : ds[j]? = some d)
    (hu : P.underlying t = some (.slice e)) (hb : P.bytesOf e = by_) (hc : CapIs d len cap) : cap * by_ ≤ 140737488351232 := by
  rcases hc with ⟨_, _, rfl⟩ | ⟨es, sp, rfl, _, rfl⟩
  · simp
  · have := sized_slice h ht hd hu
    rw [hb] at this
    exact this
theorem str_reach {ts : List TypeId} {ds : List (DataW H)} (h : (DataW.weightsEach P ts ds).all (· ≤ reachBytes) = true) {j : Nat} {t : TypeId} {s : ByteArray} (ht : ts[j]? = some t) (hd : ds[j]? = some (.lit (.string s.data.toList))) : s.size ≤ 140737488351232 := by
  have h1 := sized_string h ht hd
  rw [Array.length_toList] at h1
  exact h1

/-- The second form's bound. -/
theorem bulk_part {d : DataW H} {l : List (DataW H)} (h : d ∈ l) : Rows.uptoBulk d ≤ Rows.uptoBulkAll l := by
  induction l with
  | nil => cases h
  | cons x r ih =>
    simp only [Rows.uptoBulkAll]
    rcases List.mem_cons.1 h with e | e
    · subst e; omega
    · have := ih e; omega
theorem bulk_pos (d : DataW H) : 1 ≤ Rows.uptoBulk d := by
  cases d with
  | lit l => cases l <;> simp [Rows.uptoBulk]
  | nil => simp [Rows.uptoBulk]
  | ptr d => simp [Rows.uptoBulk]
  | slice elems spare => simp [Rows.uptoBulk]
  | agg parts => simp [Rows.uptoBulk]
  | iface t d => simp [Rows.uptoBulk]
  | map entries => simp [Rows.uptoBulk]
  | held h => simp [Rows.uptoBulk]
theorem bulk_len (l : List (DataW H)) : l.length ≤ Rows.uptoBulkAll l := by
  induction l with
  | nil => simp [Rows.uptoBulkAll]
  | cons x r ih => have := bulk_pos x; simp only [Rows.uptoBulkAll, List.length_cons]; omega
theorem bulk_all {l : List (DataW H)} (hk : Rows.uptoSmall H l = true) : Rows.uptoBulkAll l ≤ 1048576 := of_decide_eq_true hk
theorem bulk_cap {l : List (DataW H)} {d : DataW H} {len cap : Nat} (hk : Rows.uptoSmall H l = true) (hd : d ∈ l) (hc : CapIs d len cap) : cap ≤ 1048576 := by
  have h1 := bulk_all hk
  have h2 := bulk_part hd
  rcases hc with ⟨_, _, rfl⟩ | ⟨es, sp, rfl, _, rfl⟩
  · omega
  · have h3 := bulk_len es
    have h4 := bulk_len sp
    simp only [Rows.uptoBulk] at h2
    omega
theorem bulk_str {l : List (DataW H)} {s : ByteArray} (hk : Rows.uptoSmall H l = true) (hd : DataW.lit (.string s.data.toList) ∈ l) : s.size ≤ 1048576 := by
  have h1 := bulk_all hk
  have h2 := bulk_part hd
  simp only [Rows.uptoBulk, Array.length_toList] at h2
  have e : s.data.size = s.size := rfl
  omega
/-- Texts: how many bytes they have together. -/
def sumLen (ss : List ByteArray) : Nat := (ss.map (·.size)).sum
theorem bulk_strs {l : List (DataW H)} {d : DataW H} {ss : List ByteArray} {len cap : Nat} (hk : Rows.uptoSmall H l = true) (hd : d ∈ l)
    (hc : (d = .nil ∧ len = 0 ∧ cap = 0) ∨ ∃ sp, d = .slice (strs ss) sp ∧ ss.length = len ∧ ss.length + sp.length = cap) (hl : ss.length = len) : sumLen ss + ss.length ≤ 1048576 := by
  have h1 := bulk_all hk
  have h2 := bulk_part hd
  rcases hc with ⟨_, h0, rfl⟩ | ⟨sp, rfl, _, rfl⟩
  · have : ss = [] := List.eq_nil_of_length_eq_zero (by omega)
    subst this
    simp [sumLen]
  · have h3 : ∀ ss : List ByteArray, Rows.uptoBulkAll (strs (H := H) ss) = sumLen ss + ss.length := by
      intro ss
      induction ss with
      | nil => simp [strs, Rows.uptoBulkAll, sumLen]
      | cons s r ih =>
        have e : strs (H := H) (s :: r) = .lit (.string s.data.toList) :: strs r := rfl
        rw [e, Rows.uptoBulkAll, ih]
        simp only [Rows.uptoBulk, sumLen, List.map_cons, List.sum_cons, List.length_cons, Array.length_toList]
        have e2 : s.data.size = s.size := rfl
        omega
    simp only [Rows.uptoBulk, h3] at h2
    omega
end

theorem bd_u64 {n : Int} (h : (Lit.int .u64 n).wf = true) : 0 ≤ n ∧ n ≤ 18446744073709551615 := by simpa [Lit.wf, IntKind.min, IntKind.max, IntKind.signed, IntKind.bits] using h
theorem bd_u8 {n : Int} (h : (Lit.int .u8 n).wf = true) : 0 ≤ n ∧ n ≤ 255 := by simpa [Lit.wf, IntKind.min, IntKind.max, IntKind.signed, IntKind.bits] using h
theorem bd_u16 {n : Int} (h : (Lit.int .u16 n).wf = true) : 0 ≤ n ∧ n ≤ 65535 := by simpa [Lit.wf, IntKind.min, IntKind.max, IntKind.signed, IntKind.bits] using h
theorem bd_u32 {n : Int} (h : (Lit.int .u32 n).wf = true) : 0 ≤ n ∧ n ≤ 4294967295 := by simpa [Lit.wf, IntKind.min, IntKind.max, IntKind.signed, IntKind.bits] using h
theorem bd_i64 {n : Int} (h : (Lit.int .i64 n).wf = true) : -9223372036854775808 ≤ n ∧ n ≤ 9223372036854775807 := by simpa [Lit.wf, IntKind.min, IntKind.max, IntKind.signed, IntKind.bits] using h
end Go.Proofs.Ytnkmpcepdjjopaa
