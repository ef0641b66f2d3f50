/-
  Layer 5, the pure side of a burst: bytes of which up to 32 bits in a row are others have another sum.
-/
import Derived.Test.YtnkmpcepdjjopaaCrcP
namespace Go.Proofs.Ytnkmpcepdjjopaa
set_option linter.unusedSimpArgs false
set_option linter.unusedVariables false

/-- A step that takes a bit in at the top. -/
def bStep (s : BitVec 32) (b : Bool) : BitVec 32 := cStep (s ^^^ (if b then 0x80000000#32 else 0#32))
def bGo (s : BitVec 32) (l : List Bool) : BitVec 32 := l.foldl bStep s
/-- The bits of a byte, the highest first. -/
def bBits (c : UInt8) : List Bool := [c.toNat.testBit 7, c.toNat.testBit 6, c.toNat.testBit 5, c.toNat.testBit 4, c.toNat.testBit 3, c.toNat.testBit 2, c.toNat.testBit 1, c.toNat.testBit 0]
def bAll (l : List UInt8) : List Bool := l.flatMap bBits
/-- Up to 32 bits as a word, the first one at the top. -/
def bWord : List Bool → BitVec 32
  | [] => 0#32
  | b :: r => (if b then 0x80000000#32 else 0#32) ^^^ (bWord r >>> 1)

theorem cStep_zero : cStep 0#32 = 0#32 := by decide
theorem cSteps_zero (n : Nat) : cSteps n 0#32 = 0#32 := by
  induction n with
  | zero => rfl
  | succ n ih => rw [cSteps, cStep_zero, ih]
theorem xor_self_eq {s t : BitVec 32} (h : s ^^^ t = 0#32) : s = t := by
  have : s ^^^ t ^^^ t = 0#32 ^^^ t := by rw [h]
  rwa [BitVec.xor_assoc, BitVec.xor_self, BitVec.xor_zero, BitVec.zero_xor] at this
/-- A step loses nothing: the divisor is odd. -/
theorem cStep_ne {s : BitVec 32} (h : cStep s = 0#32) : s = 0#32 := by
  unfold cStep at h
  cases hm : s.msb with
  | true =>
    rw [hm, if_pos rfl] at h
    have e := xor_self_eq h
    have : (s <<< 1).getLsbD 0 = cD.getLsbD 0 := by rw [e]
    simp [cD] at this
  | false =>
    rw [hm] at h
    simp only [Bool.false_eq_true, if_false] at h
    have h1 : (s <<< 1).toNat = 0 := by rw [h]; rfl
    rw [BitVec.toNat_shiftLeft, Nat.shiftLeft_eq] at h1
    have h2 : s.toNat < 2 ^ 31 := by
      have := BitVec.msb_eq_decide s
      rw [hm] at this
      simp at this
      omega
    apply BitVec.eq_of_toNat_eq
    simp
    omega
theorem cSteps_ne (n : Nat) : ∀ {s : BitVec 32}, cSteps n s = 0#32 → s = 0#32 := by
  induction n with
  | zero => intro s h; exact h
  | succ n ih => intro s h; exact cStep_ne (ih h)

theorem bGo_app (s : BitVec 32) (l m : List Bool) : bGo s (l ++ m) = bGo (bGo s l) m := by simp [bGo]
theorem bGo_noughts (n : Nat) : ∀ s, bGo s (List.replicate n false) = cSteps n s := by
  induction n with
  | zero => intro s; rfl
  | succ n ih =>
    intro s
    rw [List.replicate_succ]
    show bGo (bStep s false) (List.replicate n false) = _
    rw [ih, bStep, cSteps]
    simp
/-- Bits that come in at the top, one by one: as if they had stood there at first. -/
theorem shr_step (s : BitVec 32) : cStep (s >>> 1) = s >>> 1 <<< 1 := by
  have hm : (s >>> 1).msb = false := by
    rw [BitVec.msb_eq_decide, BitVec.toNat_ushiftRight, Nat.shiftRight_eq_div_pow]
    have := s.isLt
    simp
    omega
  rw [cStep, hm]
  rfl
/-- The last one of n bits stands at place 32 - n; below it there is nought. -/
theorem bWord_low (l : List Bool) (hl : l.length ≤ 32) : ∀ i, i < 32 - l.length → (bWord l).getLsbD i = false := by
  induction l with
  | nil => intro i _; simp [bWord]
  | cons b r ih =>
    intro i hi
    rw [List.length_cons] at hl hi
    have h31 : ((if b then 0x80000000#32 else 0#32) : BitVec 32).getLsbD i = false := by
      cases b
      · simp
      · have key : ∀ i, i < 31 → (0x80000000#32).getLsbD i = false := by decide +kernel
        exact key i (by omega)
    rw [bWord, BitVec.getLsbD_xor, h31, BitVec.getLsbD_ushiftRight, ih (by omega) (1 + i) (by omega)]
    rfl
theorem shr_back {s : BitVec 32} (h : s.getLsbD 0 = false) : s >>> 1 <<< 1 = s := by
  apply BitVec.eq_of_getLsbD_eq
  intro i hi
  rw [BitVec.getLsbD_shiftLeft, BitVec.getLsbD_ushiftRight]
  by_cases h0 : i = 0
  · subst h0; simp; rw [← BitVec.getLsbD_eq_getElem]; exact h.symm ▸ rfl
  · simp [hi, show ¬ i < 1 by omega, show 1 + (i - 1) = i by omega]
theorem bGo_word (l : List Bool) (hl : l.length ≤ 32) : ∀ s, bGo s l = cSteps l.length (s ^^^ bWord l) := by
  induction l with
  | nil => intro s; simp [bGo, bWord, cSteps]
  | cons b r ih =>
    intro s
    rw [List.length_cons] at hl ⊢
    show bGo (bStep s b) r = _
    rw [ih (by omega), cSteps, bWord]
    congr 1
    have e : bWord r = cStep (bWord r >>> 1) := by
      rw [shr_step, shr_back]
      exact bWord_low r (by omega) 0 (by omega)
    rw [bStep, ← BitVec.xor_assoc, cStep_xor (s ^^^ _) (bWord r >>> 1), ← e]
theorem bWord_zero (l : List Bool) (hl : l.length ≤ 32) (h : bWord l = 0#32) : ∀ b ∈ l, b = false := by
  induction l with
  | nil => intro b hb; cases hb
  | cons b r ih =>
    rw [List.length_cons] at hl
    rw [bWord] at h
    have hb : b = false := by
      cases b with
      | false => rfl
      | true =>
        have : ((0x80000000#32 : BitVec 32) ^^^ (bWord r >>> 1)).getLsbD 31 = (0#32).getLsbD 31 := by
          simp only [if_true] at h; rw [h]
        rw [BitVec.getLsbD_xor, BitVec.getLsbD_ushiftRight] at this
        simp at this
    subst hb
    simp only [Bool.false_eq_true, if_false, BitVec.zero_xor] at h
    have h0 : bWord r = 0#32 := by
      rw [← shr_back (bWord_low r (by omega) 0 (by omega)), h]
      simp
    intro c hc
    rcases List.mem_cons.1 hc with rfl | hc
    · rfl
    · exact ih (by omega) h0 c hc
/-- Bits of which up to 32 in a row are not all nought, and all others are, leave a sum that is not nought. -/
theorem bGo_burst (a b : Nat) (w : List Bool) (hw : w.length ≤ 32) (h1 : true ∈ w) : bGo 0#32 (List.replicate a false ++ w ++ List.replicate b false) ≠ 0#32 := by
  intro h
  rw [bGo_app, bGo_app, bGo_noughts a, cSteps_zero, bGo_noughts b] at h
  have h2 := cSteps_ne b h
  rw [bGo_word w hw, BitVec.zero_xor] at h2
  have h3 := bWord_zero w hw (cSteps_ne _ h2) true h1
  cases h3

theorem bWord_byte (c : UInt8) : bWord (bBits c) = cTop c := by
  have key : ∀ n, n < 256 → bWord (bBits (UInt8.ofNat n)) = cTop (UInt8.ofNat n) := by decide +kernel
  have := key c.toNat c.toNat_lt
  simpa using this
theorem cByte_bits (s : BitVec 32) (c : UInt8) : cByte s c = bGo s (bBits c) := by
  rw [bGo_word _ (by simp [bBits]), bWord_byte]
  rfl
theorem cGo_bits (l : List UInt8) : ∀ s, cGo s l = bGo s (bAll l) := by
  induction l with
  | nil => intro s; rfl
  | cons c r ih =>
    intro s
    show cGo (cByte s c) r = bGo s (bBits c ++ bAll r)
    rw [bGo_app, ih, cByte_bits]

/-! ### Two lists of bytes xored -/
theorem cTop_xor (c d : UInt8) : cTop (c ^^^ d) = cTop c ^^^ cTop d := by
  unfold cTop
  rw [← BitVec.shiftLeft_xor_distrib]
  congr 1
  apply BitVec.eq_of_toNat_eq
  have h1 := c.toNat_lt
  have h2 := d.toNat_lt
  have h3 : c.toNat ^^^ d.toNat < 2 ^ 8 := Nat.xor_lt_two_pow (by omega) (by omega)
  have e1 : (BitVec.ofNat 32 (c ^^^ d).toNat).toNat = c.toNat ^^^ d.toNat := by
    rw [BitVec.toNat_ofNat, UInt8.toNat_xor]; omega
  have e2 : (BitVec.ofNat 32 c.toNat).toNat = c.toNat := by rw [BitVec.toNat_ofNat]; omega
  have e3 : (BitVec.ofNat 32 d.toNat).toNat = d.toNat := by rw [BitVec.toNat_ofNat]; omega
  rw [e1, BitVec.toNat_xor, e2, e3]
theorem cByte_xor2 (s t : BitVec 32) (c d : UInt8) : cByte (s ^^^ t) (c ^^^ d) = cByte s c ^^^ cByte t d := by
  unfold cByte
  rw [← cSteps_xor, cTop_xor]
  generalize cTop c = x
  generalize cTop d = y
  rw [show s ^^^ t ^^^ (x ^^^ y) = s ^^^ x ^^^ (t ^^^ y) by ac_rfl]
/-- Bytes xored, one by one. -/
def cXor (l d : List UInt8) : List UInt8 := List.zipWith (fun a b => a ^^^ b) l d
theorem cGo_xor2 : ∀ (l d : List UInt8) (s t : BitVec 32), l.length = d.length → cGo (s ^^^ t) (cXor l d) = cGo s l ^^^ cGo t d
  | [], [], _, _, _ => rfl
  | c :: l, e :: d, s, t, h => by
    show cGo (cByte (s ^^^ t) (c ^^^ e)) (cXor l d) = cGo (cByte s c) l ^^^ cGo (cByte t e) d
    rw [cByte_xor2]
    exact cGo_xor2 l d _ _ (by simpa using h)
theorem cXor_self_eq : ∀ (l d : List UInt8), l.length = d.length → (∀ c ∈ cXor l d, c = 0) → l = d
  | [], [], _, _ => rfl
  | c :: l, e :: d, h, hz => by
    have h0 : c ^^^ e = 0 := hz _ (by simp [cXor])
    have : c = e := by
      have h2 : c ^^^ e ^^^ e = 0 ^^^ e := by rw [h0]
      simpa [UInt8.xor_assoc] using h2
    rw [this, cXor_self_eq l d (by simpa using h) (fun x hx => hz x (by simp [cXor] at hx ⊢; exact .inr hx))]
theorem bBits_zero {c : UInt8} (h : ∀ b ∈ bBits c, b = false) : c = 0 := by
  have key : ∀ n, n < 256 → (∀ b ∈ bBits (UInt8.ofNat n), b = false) → UInt8.ofNat n = 0 := by decide +kernel
  have := key c.toNat c.toNat_lt (by simpa using h)
  simpa using this
theorem bAll_len (l : List UInt8) : (bAll l).length = 8 * l.length := by
  induction l with
  | nil => rfl
  | cons c r ih =>
    show (bBits c ++ bAll r).length = _
    rw [List.length_append, ih, List.length_cons]
    simp [bBits]
    omega
theorem bAll_zero {l : List UInt8} (h : ∀ b ∈ bAll l, b = false) : ∀ c ∈ l, c = 0 := by
  intro c hc
  exact bBits_zero fun b hb => h b (List.mem_flatMap.2 ⟨c, hc, hb⟩)
/-- Four bytes behind a sum that come to nought are that sum's. -/
theorem cGo_four {t : BitVec 32} {y : List UInt8} (hy : y.length = 4) (h : cGo t y = 0#32) : y = cBs t := by
  have hl : y.length = (cBs t).length := by rw [hy]; rfl
  have h2 := cGo_xor2 y (cBs t) t t hl
  rw [h, cGo_self, BitVec.xor_self, BitVec.xor_self, cGo_bits] at h2
  have hlen : (cXor y (cBs t)).length = 4 := by simp [cXor, hy, cBs]
  have hb : (bAll (cXor y (cBs t))).length ≤ 32 := by rw [bAll_len, hlen]; decide
  rw [bGo_word _ hb, BitVec.zero_xor] at h2
  exact cXor_self_eq y (cBs t) hl (bAll_zero (bWord_zero _ hb (cSteps_ne _ h2)))
theorem cGood_iff {l : List UInt8} (h : 4 ≤ l.length) : cGood l = (cSum l == 0#32) := by
  have hs : cSum l = cGo (cSum (l.take (l.length - 4))) (l.drop (l.length - 4)) := by
    rw [cSum, cSum, cGo_app, List.take_append_drop]
  unfold cGood
  rw [decide_eq_true h, Bool.true_and, Bool.eq_iff_iff, beq_iff_eq, beq_iff_eq, hs]
  constructor
  · intro e
    rw [← e]
    exact cGo_self _
  · intro e
    exact (cGo_four (by simp; omega) e).symm
/-- Bytes that end with their sum, of which others are xored behind the first ones: they end with their sum just if what is xored comes to nought. -/
theorem cGood_xor {p l d : List UInt8} (hl : l.length = d.length) (h4 : 4 ≤ l.length) (h : cGood (p ++ l) = true) : cGood (p ++ cXor l d) = (cGo 0#32 d == 0#32) := by
  have hx : (cXor l d).length = l.length := by simp [cXor, hl]
  rw [cGood_iff (by rw [List.length_append]; omega)] at h
  rw [cGood_iff (by rw [List.length_append, hx]; omega)]
  have h1 : cSum (p ++ l) = 0#32 := by simpa using h
  have e : cSum (p ++ cXor l d) = cGo 0#32 d := by
    have e0 : cGo (cSum p) (cXor l d) = cGo (cSum p ^^^ 0#32) (cXor l d) := by rw [BitVec.xor_zero]
    rw [cSum, ← cGo_app] at h1 ⊢
    rw [show cGo 0xffffffff#32 p = cSum p from rfl] at h1 ⊢
    rw [e0, cGo_xor2 l d _ _ hl, h1, BitVec.zero_xor]
  rw [e]
/-- A burst is found out. -/
theorem cGood_burst {p l d : List UInt8} (hl : l.length = d.length) (h4 : 4 ≤ l.length) (h : cGood (p ++ l) = true) {a b : Nat} {w : List Bool} (hd : bAll d = List.replicate a false ++ w ++ List.replicate b false) (hw : w.length ≤ 32) (h1 : true ∈ w) :
    cGood (p ++ cXor l d) = false := by
  rw [cGood_xor hl h4 h, cGo_bits, hd]
  simpa using bGo_burst a b w hw h1

/-! ### One bit of bytes -/
theorem modify_app_lt {α : Type} (f : α → α) : ∀ (l m : List α) (n : Nat), n < l.length → (l ++ m).modify n f = l.modify n f ++ m
  | a :: l, m, 0, _ => by simp
  | a :: l, m, n + 1, h => by
    have := modify_app_lt f l m n (by simpa using h)
    simp [this]
theorem modify_app_ge {α : Type} (f : α → α) : ∀ (l m : List α) (n : Nat), (l ++ m).modify (l.length + n) f = l ++ m.modify n f
  | [], m, n => by simp
  | a :: l, m, n => by
    have := modify_app_ge f l m n
    rw [List.length_cons, show l.length + 1 + n = l.length + n + 1 by omega]
    simp [this]
/-- The mask of bit k of a byte, the highest first. -/
theorem bBits_flip (c : UInt8) (k : Nat) (hk : k < 8) : bBits (c ^^^ UInt8.ofNat (128 >>> k)) = (bBits c).modify k (fun b => !b) := by
  have key : ∀ n, n < 256 → ∀ k, k < 8 → bBits (UInt8.ofNat n ^^^ UInt8.ofNat (128 >>> k)) = (bBits (UInt8.ofNat n)).modify k (fun b => !b) := by decide +kernel
  have := key c.toNat c.toNat_lt k hk
  simpa using this
theorem bAll_flip : ∀ (l : List UInt8) (n : Nat), n < 8 * l.length → bAll (l.modify (n / 8) (fun c => c ^^^ UInt8.ofNat (128 >>> (n % 8)))) = (bAll l).modify n (fun b => !b)
  | [], n, h => by simp at h
  | c :: r, n, h => by
    have h8 : (bBits c).length = 8 := rfl
    by_cases hn : n < 8
    · rw [Nat.div_eq_of_lt hn, Nat.mod_eq_of_lt hn, List.modify_zero_cons]
      show bBits (c ^^^ UInt8.ofNat (128 >>> n)) ++ bAll r = (bBits c ++ bAll r).modify n _
      rw [bBits_flip c n hn, modify_app_lt _ _ _ _ (by rw [h8]; exact hn)]
    · obtain ⟨m, rfl⟩ : ∃ m, n = 8 + m := ⟨n - 8, by omega⟩
      rw [show (8 + m) / 8 = m / 8 + 1 by omega, show (8 + m) % 8 = m % 8 by omega, List.modify_succ_cons]
      show bBits c ++ bAll (r.modify (m / 8) _) = (bBits c ++ bAll r).modify (8 + m) _
      rw [bAll_flip r m (by rw [List.length_cons] at h; omega), ← h8, modify_app_ge]
end Go.Proofs.Ytnkmpcepdjjopaa
