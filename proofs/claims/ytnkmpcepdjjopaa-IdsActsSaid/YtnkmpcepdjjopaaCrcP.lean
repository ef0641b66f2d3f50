/-
  Layer 2, its pure side: sums of 32 bits, bit by bit; what they are of bytes, of bytes and others behind them, of sums xored, and of bytes with their sum behind them.
-/
import Derived.Test.YtnkmpcepdjjopaaMem
import Derived.Laws.BitsAllLaws
namespace Go.Proofs.Ytnkmpcepdjjopaa
set_option linter.unusedSimpArgs false
set_option linter.unusedVariables false
open Go.RowKit

/-- The divisor. -/
def cD : BitVec 32 := 0x04c11db7#32
/-- One bit leaves at the top. -/
def cStep (s : BitVec 32) : BitVec 32 := if s.msb then (s <<< 1) ^^^ cD else s <<< 1
def cSteps : Nat → BitVec 32 → BitVec 32
  | 0, s => s
  | n + 1, s => cSteps n (cStep s)
/-- A byte at the top of 32 bits. -/
def cTop (c : UInt8) : BitVec 32 := BitVec.ofNat 32 c.toNat <<< 24
def cByte (s : BitVec 32) (c : UInt8) : BitVec 32 := cSteps 8 (s ^^^ cTop c)
def cGo (s : BitVec 32) (l : List UInt8) : BitVec 32 := l.foldl cByte s
def cSum (l : List UInt8) : BitVec 32 := cGo 0xffffffff#32 l
/-- A sum as an integer. -/
def cV (s : BitVec 32) : Int := (s.toNat : Int)

theorem cV_bd (s : BitVec 32) : 0 ≤ cV s ∧ cV s ≤ 4294967295 := by
  have h := s.isLt
  unfold cV
  omega
theorem cV_inj {s t : BitVec 32} (h : cV s = cV t) : s = t := by
  unfold cV at h
  exact BitVec.eq_of_toNat_eq (by omega)
theorem cV_of {n : Int} (h0 : 0 ≤ n) (h1 : n ≤ 4294967295) : ∃ s, n = cV s := by
  obtain ⟨k, rfl⟩ := Int.eq_ofNat_of_zero_le h0
  refine ⟨BitVec.ofNat 32 k, ?_⟩
  unfold cV
  rw [BitVec.toNat_ofNat, Nat.mod_eq_of_lt (by omega)]
theorem cV_xor (s t : BitVec 32) : bits .xor .u32 (cV s) (cV t) = cV (s ^^^ t) := by
  unfold cV
  rw [u32_xor_nat _ _ s.isLt t.isLt, BitVec.toNat_xor]
theorem cV_or (s t : BitVec 32) : bits .or .u32 (cV s) (cV t) = cV (s ||| t) := by
  unfold cV
  rw [u32_or_nat _ _ s.isLt t.isLt, BitVec.toNat_or]
theorem cV_shl (s : BitVec 32) (k : Nat) : cV s * 2 ^ k % 4294967296 = cV (s <<< k) := by
  unfold cV
  rw [BitVec.toNat_shiftLeft, Nat.shiftLeft_eq]
  simp
theorem cV_shr (s : BitVec 32) (k : Nat) : cV s / 2 ^ k = cV (s >>> k) := by
  unfold cV
  rw [BitVec.toNat_ushiftRight, Nat.shiftRight_eq_div_pow]
  simp

/-- One bit, as the code does it. -/
theorem cStep_code (s : BitVec 32) : bits .xor .u32 (cV s * 2 % 4294967296) (cV s / 2147483648 * 79764919) = cV (cStep s) := by
  have e2 : cV s * (2 : Int) % (4294967296 : Int) = cV (s <<< 1) := by
    unfold cV
    rw [BitVec.toNat_shiftLeft, Nat.shiftLeft_eq]
    omega
  have hb := s.isLt
  have hm : s.msb = decide (2 ^ 31 ≤ s.toNat) := by rw [BitVec.msb_eq_decide]
  have e3 : cV s / 2147483648 * 79764919 = cV (if s.msb then cD else 0#32) := by
    rw [hm]
    by_cases h : 2 ^ 31 ≤ s.toNat
    · rw [decide_eq_true h, if_pos rfl]
      show (s.toNat : Int) / 2147483648 * 79764919 = 79764919
      omega
    · rw [decide_eq_false h]
      show (s.toNat : Int) / 2147483648 * 79764919 = 0
      omega
  rw [e2, e3, cV_xor]
  unfold cStep
  cases s.msb <;> simp

theorem cIdx {j : Nat} (h : j < 16) : (j : Int) * 268435456 = cV (BitVec.ofNat 32 j <<< 28) := by
  unfold cV
  rw [BitVec.toNat_shiftLeft, BitVec.toNat_ofNat, Nat.shiftLeft_eq]
  omega
theorem cStep_hi {s : BitVec 32} (h : (2147483648 : Int) ≤ cV s) : bits .xor .u32 (cV s * (2 : Int) % (4294967296 : Int)) (79764919 : Int) = cV (cStep s) := by
  have e := cStep_code s
  have hb := cV_bd s
  have e2 : cV s / (2147483648 : Int) * (79764919 : Int) = (79764919 : Int) := by omega
  rw [e2] at e
  exact e
theorem cStep_lo {s : BitVec 32} (h : cV s < (2147483648 : Int)) : cV s * (2 : Int) = cV (cStep s) := by
  unfold cV at h ⊢
  have hm : s.msb = false := by rw [BitVec.msb_eq_decide]; simp; omega
  have hs : cStep s = s <<< 1 := by rw [cStep, hm]; rfl
  rw [hs, BitVec.toNat_shiftLeft, Nat.shiftLeft_eq]
  omega
theorem cTop_code (c : UInt8) : (c.toNat : Int) * 16777216 = cV (cTop c) := by
  have := c.toNat_lt
  unfold cV cTop
  rw [BitVec.toNat_shiftLeft, BitVec.toNat_ofNat, Nat.shiftLeft_eq]
  omega
theorem cLo_code (s : BitVec 32) : cV s * (16 : Int) % (4294967296 : Int) = cV (s <<< 4) := by
  unfold cV
  rw [BitVec.toNat_shiftLeft, Nat.shiftLeft_eq]
  omega
theorem cStep_xor (s t : BitVec 32) : cStep (s ^^^ t) = cStep s ^^^ cStep t := by
  unfold cStep
  rw [BitVec.msb_xor, BitVec.shiftLeft_xor_distrib]
  cases s.msb <;> cases t.msb <;> simp
  · ac_rfl
  · ac_rfl
  · generalize cD = d
    generalize s <<< 1 = x
    generalize t <<< 1 = y
    rw [show x ^^^ d ^^^ (y ^^^ d) = x ^^^ y ^^^ (d ^^^ d) by ac_rfl, BitVec.xor_self, BitVec.xor_zero]
theorem cSteps_xor (n : Nat) : ∀ s t, cSteps n (s ^^^ t) = cSteps n s ^^^ cSteps n t := by
  induction n with
  | zero => intro s t; rfl
  | succ n ih => intro s t; rw [cSteps, cSteps, cSteps, cStep_xor, ih]
theorem cSteps_add (n m : Nat) : ∀ s, cSteps (n + m) s = cSteps m (cSteps n s) := by
  induction n with
  | zero => intro s; rw [Nat.zero_add]; rfl
  | succ n ih => intro s; rw [Nat.succ_add, cSteps, cSteps, ih]
theorem cSteps_last (n : Nat) (s : BitVec 32) : cSteps (n + 1) s = cStep (cSteps n s) := by
  rw [cSteps_add n 1]; rfl
/-- Bits that are nought at the top leave without a trace. -/
theorem cSteps_low (n : Nat) : ∀ s : BitVec 32, s.toNat * 2 ^ n < 2 ^ 32 → cSteps n s = s <<< n := by
  induction n with
  | zero => intro s _; simp [cSteps]
  | succ n ih =>
    intro s h
    have h2 : s.toNat * 2 * 2 ^ n < 2 ^ 32 := by rw [Nat.mul_assoc, ← Nat.pow_succ']; exact h
    have h1 : s.toNat * 2 < 2 ^ 32 := by
      have := Nat.le_mul_of_pos_right (s.toNat * 2) (Nat.two_pow_pos n)
      omega
    have hm : s.msb = false := by rw [BitVec.msb_eq_decide]; simp; omega
    have hs : cStep s = s <<< 1 := by rw [cStep, hm]; rfl
    have ht : (s <<< 1).toNat = s.toNat * 2 := by
      rw [BitVec.toNat_shiftLeft, Nat.shiftLeft_eq, Nat.pow_one, Nat.mod_eq_of_lt h1]
    rw [cSteps, hs, ih _ (by rw [ht]; exact h2), ← BitVec.shiftLeft_add, Nat.add_comm]
/-- Half a byte leaves at once. -/
theorem cHalf (s : BitVec 32) : cSteps 4 s = (s <<< 4) ^^^ cSteps 4 ((s >>> 28) <<< 28) := by
  have e : s = (s &&& 0x0fffffff#32) ^^^ ((s >>> 28) <<< 28) := by
    apply BitVec.eq_of_getLsbD_eq
    intro i hi
    simp only [BitVec.getLsbD_xor, BitVec.getLsbD_and, BitVec.getLsbD_shiftLeft, BitVec.getLsbD_ushiftRight]
    have key : ∀ i, i < 32 → ((0x0fffffff#32).getLsbD i = decide (i < 28)) := by decide +kernel
    rw [key i hi]
    by_cases h : i < 28
    · simp [h]
    · simp [h, hi, show 28 + (i - 28) = i by omega]
  have h4 : cSteps 4 (s &&& 0x0fffffff#32) = s <<< 4 := by
    rw [cSteps_low]
    · apply BitVec.eq_of_toNat_eq
      simp only [BitVec.toNat_shiftLeft, BitVec.toNat_and, Nat.shiftLeft_eq]
      rw [show (0x0fffffff#32).toNat = 2 ^ 28 - 1 from rfl, Nat.and_two_pow_sub_one_eq_mod]
      omega
    · rw [BitVec.toNat_and, show (0x0fffffff#32).toNat = 2 ^ 28 - 1 from rfl, Nat.and_two_pow_sub_one_eq_mod]
      omega
  rw [← h4, ← cSteps_xor, ← e]
/-- The table of half bytes. -/
def cTab (i : Nat) : BitVec 32 := cSteps 4 (BitVec.ofNat 32 i <<< 28)
/-- The number of the half byte at the top, and what the table has for it. -/
def cHi (s : BitVec 32) : Nat := (s >>> 28).toNat
def cTb (s : BitVec 32) : BitVec 32 := cTab (cHi s)
theorem cHi_code (s : BitVec 32) : Int.toNat (cV s / (268435456 : Int)) = cHi s := by
  unfold cV
  rw [cHi, BitVec.toNat_ushiftRight, Nat.shiftRight_eq_div_pow]
  omega
theorem cHi_lt (s : BitVec 32) : cHi s < 16 := by
  have := s.isLt
  rw [cHi, BitVec.toNat_ushiftRight, Nat.shiftRight_eq_div_pow]
  omega
theorem cHalf_tab (s : BitVec 32) : (s <<< 4) ^^^ cTb s = cSteps 4 s := by
  rw [cHalf s, cTb, cHi, cTab, BitVec.ofNat_toNat, BitVec.setWidth_eq]
theorem cByte_tab (s : BitVec 32) (c : UInt8) (x y : BitVec 32) (hx : s ^^^ cTop c = x) (hy : (x <<< 4) ^^^ cTb x = y) : (y <<< 4) ^^^ cTb y = cByte s c := by
  subst hx
  rw [cHalf_tab] at hy ⊢
  subst hy
  rw [cByte, ← cSteps_add]

theorem cGo_nil (s : BitVec 32) : cGo s [] = s := rfl
theorem cGo_app (s : BitVec 32) (l m : List UInt8) : cGo (cGo s l) m = cGo s (l ++ m) := by simp [cGo]
theorem cGo_last (s : BitVec 32) (l : List UInt8) (c : UInt8) : cGo s (l ++ [c]) = cByte (cGo s l) c := by simp [cGo]
theorem cByte_xor (s t : BitVec 32) (c : UInt8) : cByte (s ^^^ t) c = cByte s 0 ^^^ cByte t c := by
  unfold cByte
  rw [← cSteps_xor]
  congr 1
  have : cTop 0 = 0#32 := by decide
  rw [this, BitVec.xor_zero, BitVec.xor_assoc]
theorem cGo_xor (l : List UInt8) : ∀ s t, cGo (s ^^^ t) l = cGo s (List.replicate l.length 0) ^^^ cGo t l := by
  induction l with
  | nil => intro s t; rfl
  | cons c r ih =>
    intro s t
    show cGo (cByte (s ^^^ t) c) r = cGo (cByte s 0) (List.replicate r.length 0) ^^^ cGo (cByte t c) r
    rw [cByte_xor, ih]

/-- A sum's bytes, the highest first. -/
def cBs (s : BitVec 32) : List UInt8 := [UInt8.ofNat (s.toNat / 16777216), UInt8.ofNat (s.toNat / 65536), UInt8.ofNat (s.toNat / 256), UInt8.ofNat s.toNat]
theorem cTop_nat (x : Nat) : (cTop (UInt8.ofNat x)).toNat = x % 256 * 16777216 := by
  unfold cTop
  rw [BitVec.toNat_shiftLeft, BitVec.toNat_ofNat, Nat.shiftLeft_eq, UInt8.toNat_ofNat']
  omega
/-- The top byte goes out by itself: the other three move up. -/
theorem cByte_self (s : BitVec 32) : cByte s (UInt8.ofNat (s.toNat / 16777216)) = s <<< 8 := by
  have e : s = (s &&& 0x00ffffff#32) ^^^ cTop (UInt8.ofNat (s.toNat / 16777216)) := by
    have h1 : cTop (UInt8.ofNat (s.toNat / 16777216)) = (s >>> 24) <<< 24 := by
      apply BitVec.eq_of_toNat_eq
      rw [cTop_nat, BitVec.toNat_shiftLeft, BitVec.toNat_ushiftRight, Nat.shiftLeft_eq, Nat.shiftRight_eq_div_pow]
      have := s.isLt
      omega
    rw [h1]
    apply BitVec.eq_of_getLsbD_eq
    intro i hi
    simp only [BitVec.getLsbD_xor, BitVec.getLsbD_and, BitVec.getLsbD_shiftLeft, BitVec.getLsbD_ushiftRight]
    have key : ∀ i, i < 32 → ((0x00ffffff#32).getLsbD i = decide (i < 24)) := by decide +kernel
    rw [key i hi]
    by_cases h : i < 24
    · simp [h]
    · simp [h, hi, show 24 + (i - 24) = i by omega]
  have e2 : s ^^^ cTop (UInt8.ofNat (s.toNat / 16777216)) = s &&& 0x00ffffff#32 := by
    generalize cTop (UInt8.ofNat (s.toNat / 16777216)) = t at e
    generalize s &&& 0x00ffffff#32 = u at e
    rw [e, BitVec.xor_assoc, BitVec.xor_self, BitVec.xor_zero]
  rw [cByte, e2, cSteps_low]
  · apply BitVec.eq_of_toNat_eq
    simp only [BitVec.toNat_shiftLeft, BitVec.toNat_and, Nat.shiftLeft_eq]
    rw [show (0x00ffffff#32).toNat = 2 ^ 24 - 1 from rfl, Nat.and_two_pow_sub_one_eq_mod]
    omega
  · rw [BitVec.toNat_and, show (0x00ffffff#32).toNat = 2 ^ 24 - 1 from rfl, Nat.and_two_pow_sub_one_eq_mod]
    omega
theorem cGo_self (s : BitVec 32) : cGo s (cBs s) = 0#32 := by
  have sh : ∀ (k : Nat) (j : Nat), (s <<< k).toNat / 16777216 = s.toNat * 2 ^ k % 4294967296 / 16777216 := fun k j => by
    rw [BitVec.toNat_shiftLeft, Nat.shiftLeft_eq]
  have u8 : ∀ x y : Nat, x % 256 = y % 256 → UInt8.ofNat x = UInt8.ofNat y := fun x y h => by
    apply UInt8.toNat_inj.1
    simpa using h
  show cByte (cByte (cByte (cByte s _) _) _) _ = _
  rw [cByte_self]
  have e1 : UInt8.ofNat (s.toNat / 65536) = UInt8.ofNat ((s <<< 8).toNat / 16777216) := u8 _ _ (by rw [sh 8 0]; omega)
  rw [e1, cByte_self, ← BitVec.shiftLeft_add]
  have e2 : UInt8.ofNat (s.toNat / 256) = UInt8.ofNat ((s <<< (8 + 8)).toNat / 16777216) := u8 _ _ (by rw [sh (8 + 8) 0]; omega)
  rw [e2, cByte_self, ← BitVec.shiftLeft_add]
  have e3 : UInt8.ofNat s.toNat = UInt8.ofNat ((s <<< (8 + 8 + 8)).toNat / 16777216) := u8 _ _ (by rw [sh (8 + 8 + 8) 0]; omega)
  rw [e3, cByte_self, ← BitVec.shiftLeft_add]
  exact BitVec.shiftLeft_eq_zero (by decide)
theorem cSum_nought (l : List UInt8) : cSum (l ++ cBs (cSum l)) = 0#32 := by
  rw [cSum, ← cGo_app]
  exact cGo_self _

/-- The sum that four bytes are, the highest first. -/
def cOf (l : List UInt8) : BitVec 32 := l.foldl (fun s c => (s <<< 8) ||| BitVec.ofNat 32 c.toNat) 0#32
theorem cOf_last (l : List UInt8) (c : UInt8) : cOf (l ++ [c]) = (cOf l <<< 8) ||| BitVec.ofNat 32 c.toNat := by simp [cOf]
theorem cOr_code (s : BitVec 32) (c : UInt8) : bits .or .u32 (cV s * (256 : Int) % (4294967296 : Int)) (c.toNat : Int) = cV ((s <<< 8) ||| BitVec.ofNat 32 c.toNat) := by
  have := c.toNat_lt
  have e1 : cV s * (256 : Int) % (4294967296 : Int) = cV (s <<< 8) := by
    unfold cV
    rw [BitVec.toNat_shiftLeft, Nat.shiftLeft_eq]
    omega
  have e2 : (c.toNat : Int) = cV (BitVec.ofNat 32 c.toNat) := by
    unfold cV
    rw [BitVec.toNat_ofNat, Nat.mod_eq_of_lt (by omega)]
  rw [e1, e2, cV_or]
theorem cOf_bytes {l : List UInt8} (h : l.length = 4) : cBs (cOf l) = l := by
  match l, h with
  | [a, b, c, d], _ =>
    have ha := a.toNat_lt
    have hb := b.toNat_lt
    have hc := c.toNat_lt
    have hd := d.toNat_lt
    have e : (cOf [a, b, c, d]).toNat = a.toNat * 16777216 + b.toNat * 65536 + c.toNat * 256 + d.toNat := by
      have or8 : ∀ (s : BitVec 32) (x : UInt8), s.toNat < 16777216 → ((s <<< 8) ||| BitVec.ofNat 32 x.toNat).toNat = s.toNat * 256 + x.toNat := by
        intro s x hs
        have hx := x.toNat_lt
        rw [BitVec.toNat_or, BitVec.toNat_shiftLeft, BitVec.toNat_ofNat, Nat.shiftLeft_eq, Nat.mod_eq_of_lt (by omega), Nat.mod_eq_of_lt (by omega)]
        have h := Nat.two_pow_add_eq_or_of_lt (i := 8) (b := x.toNat) (by omega) s.toNat
        rw [Nat.mul_comm] at h
        exact h.symm
      show ((((0#32 <<< 8 ||| BitVec.ofNat 32 a.toNat) <<< 8 ||| BitVec.ofNat 32 b.toNat) <<< 8 ||| BitVec.ofNat 32 c.toNat) <<< 8 ||| BitVec.ofNat 32 d.toNat).toNat = _
      have h1 := or8 0#32 a (by simp)
      have h2 := or8 _ b (by rw [h1]; simp; omega)
      have h3 := or8 _ c (by rw [h2, h1]; simp; omega)
      have h4 := or8 _ d (by rw [h3, h2, h1]; simp; omega)
      rw [h4, h3, h2, h1]
      simp
      omega
    unfold cBs
    rw [e]
    have u8 : ∀ (x : Nat) (y : UInt8), x % 256 = y.toNat → UInt8.ofNat x = y := fun x y h => by
      apply UInt8.toNat_inj.1
      simpa using h
    rw [u8 _ a (by omega), u8 _ b (by omega), u8 _ c (by omega), u8 _ d (by omega)]
theorem cBs_inj {s t : BitVec 32} (h : cBs s = cBs t) : s = t := by
  unfold cBs at h
  simp only [List.cons.injEq, and_true] at h
  obtain ⟨h1, h2, h3, h4⟩ := h
  have k : ∀ x y : Nat, UInt8.ofNat x = UInt8.ofNat y → x % 256 = y % 256 := fun x y h => by
    have := congrArg UInt8.toNat h
    simpa using this
  have h1 := k _ _ h1
  have h2 := k _ _ h2
  have h3 := k _ _ h3
  have h4 := k _ _ h4
  have hs := s.isLt
  have ht := t.isLt
  exact BitVec.eq_of_toNat_eq (by omega)
/-- Whether bytes end with their sum. -/
def cGood (l : List UInt8) : Bool := decide (4 ≤ l.length) && (cBs (cSum (l.take (l.length - 4))) == l.drop (l.length - 4))
theorem cGood_of {l : List UInt8} (h : 4 ≤ l.length) : cGood l = (cOf (l.drop (l.length - 4)) == cSum (l.take (l.length - 4))) := by
  have h4 : (l.drop (l.length - 4)).length = 4 := by simp; omega
  unfold cGood
  rw [decide_eq_true h, Bool.true_and, Bool.eq_iff_iff, beq_iff_eq, beq_iff_eq]
  constructor
  · intro e
    rw [← cOf_bytes h4] at e
    exact (cBs_inj e).symm
  · intro e
    rw [← e, cOf_bytes h4]
theorem cGood_self (l : List UInt8) : cGood (l ++ cBs (cSum l)) = true := by
  have h : (cBs (cSum l)).length = 4 := rfl
  unfold cGood
  rw [List.length_append, h, Nat.add_sub_cancel, List.take_left, List.drop_left]
  simp
end Go.Proofs.Ytnkmpcepdjjopaa
