/-
  Layer 5, for the statement on spoilt frames: the bytes of all frames while bits of one are turned.
-/
import Derived.Test.YtgmmmeghhfdlfaaFrQ
import Derived.Test.YtgmmmeghhfdlfaaMem
namespace Go.Proofs.Ytgmmmeghhfdlfaa
open Go.RowKit

/-- What is behind the number of a frame of x. -/
def fTailY (x : List UInt8) : List UInt8 := x ++ cBs (cSum (fHead x))
theorem fTailY_len (x : List UInt8) : (fTailY x).length = x.length + 4 := by rw [fTailY, List.length_append, cBs_len]
theorem fBytes_two (x : List UInt8) : fBytes x = pPut x.length ++ fTailY x := by rw [fBytes, fTailY]; unfold fHead; simp
/-- All bytes behind j steps. -/
def fC (rows : List (List UInt8)) (k : Nat) (x : List UInt8) (f by_ j : Nat) : List UInt8 := fAll (rows.take k) ++ (pPut x.length ++ fFlip f by_ (fTailY x) j) ++ fAll (rows.drop (k + 1))
theorem rows_cut {rows : List (List UInt8)} {k : Nat} {x : List UInt8} (h : rows[k]? = some x) : rows = rows.take k ++ x :: rows.drop (k + 1) := by
  obtain ⟨hk, rfl⟩ := List.getElem?_eq_some_iff.1 h
  rw [← List.drop_eq_getElem_cons hk, List.take_append_drop]
theorem fAll_cut {rows : List (List UInt8)} {k : Nat} {x : List UInt8} (h : rows[k]? = some x) : fAll rows = fAll (rows.take k) ++ fBytes x ++ fAll (rows.drop (k + 1)) := by
  have e := congrArg fAll (rows_cut h)
  rw [fAll_app, fAll_cons, ← List.append_assoc] at e
  exact e
theorem fC_same {rows : List (List UInt8)} {k : Nat} {x : List UInt8} (h : rows[k]? = some x) {f by_ j : Nat} (hf : fFlip f by_ (fTailY x) j = fTailY x) : fC rows k x f by_ j = fAll rows := by
  rw [fC, hf, ← fBytes_two, ← fAll_cut h]
theorem fC_zero {rows : List (List UInt8)} {k : Nat} {x : List UInt8} (h : rows[k]? = some x) (f by_ : Nat) : fC rows k x f by_ 0 = fAll rows := fC_same h rfl
theorem fC_len {rows : List (List UInt8)} {k : Nat} {x : List UInt8} (h : rows[k]? = some x) (f by_ j : Nat) : (fC rows k x f by_ j).length = (fAll rows).length := by
  rw [← fC_zero h f by_]
  simp only [fC, List.length_append, fFlip_len]
theorem fC_off {rows : List (List UInt8)} {k : Nat} {x : List UInt8} {f by_ j : Nat} (h : by_.testBit j = false) : fC rows k x f by_ (j + 1) = fC rows k x f by_ j := by
  unfold fC
  congr 3
  rw [fFlip, h]
  simp
theorem fC_on {rows : List (List UInt8)} {k : Nat} {x : List UInt8} {f by_ j : Nat} (h : by_.testBit j = true) (hj : f + j < 8 * (x.length + 4)) :
    fC rows k x f by_ (j + 1) = (fC rows k x f by_ j).modify ((fAll (rows.take k)).length + pSize x.length + (f + j) / 8) (fun c => c ^^^ UInt8.ofNat (128 >>> ((f + j) % 8))) := by
  have hl : (fFlip f by_ (fTailY x) j).length = x.length + 4 := by rw [fFlip_len, fTailY_len]
  have hd : (f + j) / 8 < x.length + 4 := by omega
  have e : fFlip f by_ (fTailY x) (j + 1) = (fFlip f by_ (fTailY x) j).modify ((f + j) / 8) (fun c => c ^^^ UInt8.ofNat (128 >>> ((f + j) % 8))) := by rw [fFlip, h]; rfl
  unfold fC
  rw [e, modify_app_lt _ _ _ _ (by rw [List.length_append, List.length_append, pPut_len, hl]; omega), Nat.add_assoc, modify_app_ge]
  congr 2
  have hp : pSize x.length + (f + j) / 8 = (pPut x.length).length + (f + j) / 8 := by rw [pPut_len]
  rw [hp, modify_app_ge]
/-- Bits that are others: found out, the ones ahead are told. -/
theorem fC_any {rows : List (List UInt8)} {k : Nat} {x : List UInt8} (h : rows[k]? = some x) (hl : ∀ y ∈ rows, y.length ≤ 1048576) {f by_ i : Nat} (hi : i ≤ 32) (hb : f + i ≤ 8 * (x.length + 4)) (ha : ∃ j, j < i ∧ by_.testBit j = true) :
    fScan (fC rows k x f by_ i) = (rows.take k, (fAll (rows.take k)).length, 50) := by
  have hx : x.length ≤ 1048576 := hl x (List.mem_of_getElem? h)
  have hg : cGood (pPut x.length ++ fTailY x) = true := by rw [← fBytes_two, fBytes]; exact cGood_self _
  have h2 := fFlip_good (p := pPut x.length) (l := fTailY x) (by rw [fTailY_len]; omega) hg f by_ i hi (by rw [fTailY_len]; exact hb) ha
  have h3 := fScan_spoilt (rows.take k) (fun y hy => hl y (List.mem_of_mem_take hy)) hx (y := fFlip f by_ (fTailY x) i) (by rw [fFlip_len, fTailY_len]) h2 (fAll (rows.drop (k + 1)))
  unfold fC
  rw [List.append_assoc]
  exact h3
theorem fC_none {rows : List (List UInt8)} {k : Nat} {x : List UInt8} (h : rows[k]? = some x) {f by_ i : Nat} (ha : ∀ j, j < i → by_.testBit j = false) : fC rows k x f by_ i = fAll rows := fC_same h (fFlip_none f by_ _ i ha)
/-- Whether a bit was turned. -/
def fAny (by_ i : Nat) : Bool := (List.range i).any by_.testBit
theorem fAny_next (by_ i : Nat) : fAny by_ (i + 1) = (fAny by_ i || by_.testBit i) := by simp [fAny, List.range_succ]
theorem fAny_true {by_ i : Nat} (h : fAny by_ i = true) : ∃ j, j < i ∧ by_.testBit j = true := by simpa [fAny] using h
theorem fAny_false {by_ i : Nat} (h : fAny by_ i = false) : ∀ j, j < i → by_.testBit j = false := by simpa [fAny] using h
/-- What Scan tells at the end. -/
theorem fC_end {rows : List (List UInt8)} {k : Nat} {x : List UInt8} (h : rows[k]? = some x) (hl : ∀ y ∈ rows, y.length ≤ 1048576) {f by_ i : Nat} (hi : i ≤ 32) (hb : f + i ≤ 8 * (x.length + 4)) :
    (fAny by_ i = true ∧ fScan (fC rows k x f by_ i) = (rows.take k, (fAll (rows.take k)).length, 50)) ∨ (fAny by_ i = false ∧ fScan (fC rows k x f by_ i) = (rows, (fAll rows).length, 0)) := by
  cases ha : fAny by_ i with
  | true => exact .inl ⟨rfl, fC_any h hl hi hb (fAny_true ha)⟩
  | false => exact .inr ⟨rfl, by rw [fC_none h (fAny_false ha)]; exact fScan_back rows hl⟩

/-! ### One step in memory -/
theorem xor_mask (b : UInt8) (s : Nat) (hs : s < 8) : bits .xor .u8 (b.toNat : Int) ((128 >>> s : Nat) : Int) = ((b ^^^ UInt8.ofNat (128 >>> s)).toNat : Int) := by
  have key : ∀ n : Nat, n < 256 → ∀ s : Nat, s < 8 → bits .xor .u8 (n : Int) ((128 >>> s : Nat) : Int) = ((UInt8.ofNat n ^^^ UInt8.ofNat (128 >>> s)).toNat : Int) := by decide +kernel
  have := key b.toNat b.toNat_lt s hs
  simpa using this
theorem modify_set {α : Type} (g : α → α) : ∀ (l : List α) (i : Nat) (a : α), l[i]? = some a → l.modify i g = l.set i (g a)
  | [], i, a, h => by simp at h
  | b :: l, 0, a, h => by
    obtain rfl : b = a := by simpa using h
    simp
  | b :: l, i + 1, a, h => by
    have := modify_set g l i a (by simpa using h)
    simp [this]
/-- The byte at i of a row of the call's own, and what the row is behind the store of another one. -/
theorem own_flip {w : World} {base g N c i s : Nat} {E : TypeId} {L : List UInt8} (ho : Own w base E 1 (some ⟨g, 0, none⟩) N c (vbs L)) (hi : i < N) (hs : s < 8) :
    ∃ b : UInt8, w.cell? ⟨g, i, none⟩ = some (.int .u8 (b.toNat : Int)) ∧ w.frozen? ⟨g, i, none⟩ = false ∧ ∀ v : Int, v = bits .xor .u8 (b.toNat : Int) ((128 >>> s : Nat) : Int) →
      Own (w.setCell ⟨g, i, none⟩ (.int .u8 v)) base E 1 (some ⟨g, 0, none⟩) N c (vbs (L.modify i (fun c => c ^^^ UInt8.ofNat (128 >>> s)))) ∧ Turn w (w.setCell ⟨g, i, none⟩ (.int .u8 v)) (some g) := by
  have hl := ho.len
  rw [vbs_len] at hl
  obtain ⟨b, hb⟩ : ∃ b, L[i]? = some b := ⟨L[i]'(by omega), List.getElem?_eq_getElem (by omega)⟩
  refine ⟨b, ?_, ho.frozen i, fun v hv => ⟨?_, ho.storeTurn i _⟩⟩
  · rw [ho.cell (by omega), vbs, List.getElem?_map, hb]; rfl
  · have h := ho.store i (.int .u8 v)
    have e : (vbs L).set i (.int .u8 v) = vbs (L.modify i (fun c => c ^^^ UInt8.ofNat (128 >>> s))) := by
      rw [modify_set _ L i b hb, vbs, vbs, List.map_set, hv, xor_mask b s hs]
      rfl
    rw [e] at h
    exact h
end Go.Proofs.Ytgmmmeghhfdlfaa
