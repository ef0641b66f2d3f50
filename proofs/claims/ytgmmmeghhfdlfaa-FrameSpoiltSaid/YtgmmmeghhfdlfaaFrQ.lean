/-
  Layer 5, the pure side of the statement on spoilt frames: bits turned one by one.
-/
import Derived.Test.YtgmmmeghhfdlfaaFrP
namespace Go.Proofs.Ytgmmmeghhfdlfaa

/-- Bits first, first + 1, .. of bytes turned where the word has a one: i steps. -/
def fFlip (first by_ : Nat) (l : List UInt8) : Nat → List UInt8
  | 0 => l
  | i + 1 => if by_.testBit i then (fFlip first by_ l i).modify ((first + i) / 8) (fun c => c ^^^ UInt8.ofNat (128 >>> ((first + i) % 8))) else fFlip first by_ l i
theorem fFlip_len (first by_ : Nat) (l : List UInt8) (i : Nat) : (fFlip first by_ l i).length = l.length := by
  induction i with
  | zero => rfl
  | succ i ih => unfold fFlip; split <;> simp [ih]
theorem cXor_zero (l : List UInt8) : cXor l (List.replicate l.length 0) = l := by
  induction l with
  | nil => rfl
  | cons c l ih =>
    show (c ^^^ 0) :: cXor l (List.replicate l.length 0) = c :: l
    rw [ih]
    simp
theorem cXor_modify (m : UInt8) : ∀ (l d : List UInt8) (k : Nat), l.length = d.length → cXor l (d.modify k (fun c => c ^^^ m)) = (cXor l d).modify k (fun c => c ^^^ m)
  | [], [], k, _ => by simp [cXor]
  | c :: l, e :: d, 0, _ => by simp [cXor, UInt8.xor_assoc]
  | c :: l, e :: d, k + 1, h => by
    have := cXor_modify m l d k (by simpa using h)
    simp only [List.modify_succ_cons]
    show (c ^^^ e) :: cXor l _ = ((c ^^^ e) :: cXor l d).modify (k + 1) _
    rw [this, List.modify_succ_cons]
theorem fFlip_xor (first by_ : Nat) (l : List UInt8) (i : Nat) : fFlip first by_ l i = cXor l (fFlip first by_ (List.replicate l.length 0) i) := by
  induction i with
  | zero => exact (cXor_zero l).symm
  | succ i ih =>
    unfold fFlip
    split
    · rw [cXor_modify _ _ _ _ (by rw [fFlip_len]; simp), ih]
    · exact ih
theorem rep_add {α : Type} (m n : Nat) (a : α) : List.replicate (m + n) a = List.replicate m a ++ List.replicate n a := List.replicate_append_replicate.symm
theorem bAll_zeros (n : Nat) : bAll (List.replicate n 0) = List.replicate (8 * n) false := by
  induction n with
  | zero => rfl
  | succ n ih =>
    rw [List.replicate_succ]
    show bBits 0 ++ bAll (List.replicate n 0) = _
    rw [ih, show 8 * (n + 1) = 8 + 8 * n by omega, rep_add]
    rfl
theorem modify_mid {α : Type} (f : α → α) (a : List α) (x : α) (b : List α) (n : Nat) (h : n = a.length) : (a ++ x :: b).modify n f = a ++ f x :: b := by
  subst h
  have := modify_app_ge f a (x :: b) 0
  simpa using this
/-- The bits that are turned, as a word. -/
def fWord (by_ i : Nat) : List Bool := (List.range i).map by_.testBit
theorem fFlip_bits (first by_ n : Nat) (i : Nat) (h : first + i ≤ 8 * n) : bAll (fFlip first by_ (List.replicate n 0) i) = List.replicate first false ++ fWord by_ i ++ List.replicate (8 * n - first - i) false := by
  induction i with
  | zero =>
    rw [fFlip, bAll_zeros, fWord]
    simp only [List.range_zero, List.map_nil, List.append_nil, Nat.sub_zero]
    rw [← rep_add]
    congr 1
    omega
  | succ i ih =>
    have ih := ih (by omega)
    have hw : fWord by_ (i + 1) = fWord by_ i ++ [by_.testBit i] := by simp [fWord, List.range_succ]
    have hr : List.replicate (8 * n - first - i) false = false :: List.replicate (8 * n - first - (i + 1)) false := by
      rw [← List.replicate_succ]; congr 1; omega
    have hl : (List.replicate first false ++ fWord by_ i).length = first + i := by simp [fWord]
    unfold fFlip
    rw [hw]
    cases hb : by_.testBit i with
    | true =>
      rw [if_pos rfl, bAll_flip _ _ (by rw [fFlip_len]; simp; omega), ih, hr, modify_mid _ _ _ _ _ hl.symm]
      simp
    | false =>
      rw [if_neg (by simp), ih, hr]
      simp
/-- A word of which a bit is one among the first i. -/
theorem fWord_any {by_ i : Nat} : true ∈ fWord by_ i ↔ ∃ j, j < i ∧ by_.testBit j = true := by
  simp only [fWord, List.mem_map, List.mem_range]
/-- (P5.6) Up to 32 bits in a row behind the number: found out, or none is another. -/
theorem fFlip_good {p l : List UInt8} (h4 : 4 ≤ l.length) (h : cGood (p ++ l) = true) (first by_ i : Nat) (hi : i ≤ 32) (hb : first + i ≤ 8 * l.length) (ha : ∃ j, j < i ∧ by_.testBit j = true) :
    cGood (p ++ fFlip first by_ l i) = false := by
  rw [fFlip_xor]
  exact cGood_burst (by rw [fFlip_len]; simp) h4 h (fFlip_bits first by_ l.length i hb) (by simp [fWord]; exact hi) (fWord_any.2 ha)
theorem fFlip_none (first by_ : Nat) (l : List UInt8) (i : Nat) (h : ∀ j, j < i → by_.testBit j = false) : fFlip first by_ l i = l := by
  induction i with
  | zero => rfl
  | succ i ih =>
    unfold fFlip
    rw [h i (by omega)]
    simp only [Bool.false_eq_true, if_false]
    exact ih fun j hj => h j (by omega)
end Go.Proofs.Ytgmmmeghhfdlfaa
