/-
  Numbers whose first byte says how many bytes they have, as plain functions on lists of bytes, and what they come to. No program is named here.
-/
import Derived.Test.YtnkmpcepdjjopaaMem
namespace Go.Proofs.Ytnkmpcepdjjopaa
set_option linter.unusedSimpArgs false
set_option linter.unusedVariables false

/-- How many bytes a number has; 0: it has none. -/
def pSize (n : Nat) : Nat := if n < 64 then 1 else if n < 16384 then 2 else if n < 1073741824 then 4 else if n < 4611686018427387904 then 8 else 0

/-- k bytes of n, the highest first. -/
def be : Nat → Nat → List UInt8
  | 0, _ => []
  | k + 1, n => UInt8.ofNat (n / 256 ^ k) :: be k n
/-- The number of bytes behind a number. -/
def ube (n : Nat) (l : List UInt8) : Nat := l.foldl (fun n c => n * 256 + c.toNat) n
/-- The highest two bits of the first byte. -/
def mark (k : Nat) : Nat := if k = 2 then 64 else if k = 4 then 128 else if k = 8 then 192 else 0

/-- The bytes of n. -/
def pPut (n : Nat) : List UInt8 :=
  match be (pSize n) n with
  | [] => []
  | c :: r => UInt8.ofNat (c.toNat + mark (pSize n)) :: r

/-- How many bytes the first one says. -/
def pLen (b : UInt8) : Nat := if b.toNat < 64 then 1 else if b.toNat < 128 then 2 else if b.toNat < 192 then 4 else 8

/-- The number with which bytes begin, how many these are, and the error. -/
def pTake : List UInt8 → Nat × Nat × Nat
  | [] => (0, 0, 3)
  | b :: r => if r.length + 1 < pLen b then (0, 0, 3) else if pSize (ube (b.toNat % 64) (r.take (pLen b - 1))) = pLen b then (ube (b.toNat % 64) (r.take (pLen b - 1)), pLen b, 0) else (0, 0, 4)

theorem u8_of {x : Nat} (h : x < 256) : (UInt8.ofNat x).toNat = x := by
  rw [UInt8.toNat_ofNat']
  exact Nat.mod_eq_of_lt h
theorem pLen_pos (b : UInt8) : 0 < pLen b := by
  unfold pLen
  repeat' split
  all_goals omega
theorem pSize_cases (n : Nat) : (n < 64 ∧ pSize n = 1) ∨ (64 ≤ n ∧ n < 16384 ∧ pSize n = 2) ∨ (16384 ≤ n ∧ n < 1073741824 ∧ pSize n = 4) ∨ (1073741824 ≤ n ∧ n < 4611686018427387904 ∧ pSize n = 8) ∨ (4611686018427387904 ≤ n ∧ pSize n = 0) := by
  unfold pSize
  by_cases h1 : n < 64
  · simp [h1]
  by_cases h2 : n < 16384
  · simp [h1, h2]; omega
  by_cases h3 : n < 1073741824
  · simp [h1, h2, h3]; omega
  by_cases h4 : n < 4611686018427387904
  · simp [h1, h2, h3, h4]; omega
  · simp [h1, h2, h3, h4]; omega
theorem pSize_le (n : Nat) : pSize n ≤ 8 := by rcases pSize_cases n with h | h | h | h | h <;> omega

theorem be_len (k n : Nat) : (be k n).length = k := by
  induction k with
  | zero => rfl
  | succ k ih => simp [be, ih]
theorem pPut_len (n : Nat) : (pPut n).length = pSize n := by
  have h := be_len (pSize n) n
  unfold pPut
  cases hb : be (pSize n) n with
  | nil => rw [hb] at h; simpa using h
  | cons c r => rw [hb] at h; simpa using h

theorem ube_cons (n : Nat) (c : UInt8) (l : List UInt8) : ube n (c :: l) = ube (n * 256 + c.toNat) l := rfl
theorem ube_snoc (n : Nat) (c : UInt8) (l : List UInt8) : ube n (l ++ [c]) = ube n l * 256 + c.toNat := by simp [ube]
theorem ube_ge (n : Nat) (l : List UInt8) : n * 256 ^ l.length ≤ ube n l ∧ ube n l < (n + 1) * 256 ^ l.length := by
  induction l generalizing n with
  | nil => simp [ube]
  | cons c l ih =>
    have h := ih (n * 256 + c.toNat)
    have hc : c.toNat < 256 := c.toNat_lt
    rw [ube_cons, List.length_cons, Nat.pow_succ]
    have e1 : n * (256 ^ l.length * 256) = n * 256 * 256 ^ l.length := by rw [Nat.mul_assoc, Nat.mul_comm 256]
    have e2 : (n + 1) * (256 ^ l.length * 256) = (n + 1) * 256 * 256 ^ l.length := by rw [Nat.mul_assoc, Nat.mul_comm 256]
    have h1 : n * 256 * 256 ^ l.length ≤ (n * 256 + c.toNat) * 256 ^ l.length := Nat.mul_le_mul_right _ (by omega)
    have h2 : (n * 256 + c.toNat + 1) * 256 ^ l.length ≤ (n + 1) * 256 * 256 ^ l.length := Nat.mul_le_mul_right _ (by omega)
    rw [e1, e2]
    exact ⟨Nat.le_trans h1 h.1, Nat.lt_of_lt_of_le h.2 h2⟩
/-- The bytes of a number are that number's. -/
theorem ube_be (k n m : Nat) : ube m (be k n) = m * 256 ^ k + n % 256 ^ k := by
  induction k generalizing m with
  | zero => simp [be, ube, Nat.mod_one]
  | succ k ih =>
    rw [be, ube_cons, ih]
    have e : (UInt8.ofNat (n / 256 ^ k)).toNat = n / 256 ^ k % 256 := by simp
    rw [e, Nat.pow_succ, Nat.mod_mul, Nat.add_mul, Nat.mul_assoc, Nat.mul_comm 256 (256 ^ k), Nat.mul_comm (n / 256 ^ k % 256)]
    omega
theorem be_ube (j m : Nat) (l : List UInt8) (h : l.length = j) : be j (ube m l) = l := by
  induction l generalizing j m with
  | nil => subst h; rfl
  | cons c l ih =>
    subst h
    rw [List.length_cons, be, ube_cons, ih _ _ rfl]
    have hb := ube_ge (m * 256 + c.toNat) l
    have hp : 0 < 256 ^ l.length := Nat.pow_pos (by omega)
    have hd : ube (m * 256 + c.toNat) l / 256 ^ l.length = m * 256 + c.toNat := by
      rw [Nat.div_eq_iff hp]
      generalize 256 ^ l.length = p at *
      generalize ube (m * 256 + c.toNat) l = u at *
      have e : (m * 256 + c.toNat + 1) * p = (m * 256 + c.toNat) * p + p := by rw [Nat.add_mul, Nat.one_mul]
      rw [e] at hb
      exact ⟨hb.1, by omega⟩
    rw [hd]
    congr 1
    have e : UInt8.ofNat (m * 256 + c.toNat) = c := by
      apply UInt8.toNat_inj.1
      have hc := c.toNat_lt
      simp
    exact e
theorem ube_div (m : Nat) (l : List UInt8) : ube m l / 256 ^ l.length = m := by
  have hb := ube_ge m l
  have hp : 0 < 256 ^ l.length := Nat.pow_pos (by omega)
  rw [Nat.div_eq_iff hp]
  generalize 256 ^ l.length = p at *
  generalize ube m l = u at *
  have e : (m + 1) * p = m * p + p := by rw [Nat.add_mul, Nat.one_mul]
  rw [e] at hb
  exact ⟨hb.1, by omega⟩

/-- A number's bytes, the first one by itself. -/
theorem pPut_form {n : Nat} (h : pSize n ≠ 0) : ∃ j b, pSize n = j + 1 ∧ j ≤ 7 ∧ n / 256 ^ j < 64 ∧ pPut n = b :: be j n ∧ b.toNat = n / 256 ^ j + mark (j + 1) ∧ pLen b = j + 1 ∧ b.toNat % 64 = n / 256 ^ j := by
  have key : ∀ j m : Nat, pSize n = j + 1 → j ≤ 7 → mark (j + 1) = m → n / 256 ^ j < 64 → m ≤ 192 → m % 64 = 0 → (∀ x, x < 64 → (if x + m < 64 then 1 else if x + m < 128 then 2 else if x + m < 192 then 4 else 8) = j + 1) →
      ∃ j b, pSize n = j + 1 ∧ j ≤ 7 ∧ n / 256 ^ j < 64 ∧ pPut n = b :: be j n ∧ b.toNat = n / 256 ^ j + mark (j + 1) ∧ pLen b = j + 1 ∧ b.toNat % 64 = n / 256 ^ j := by
    intro j m hs hj hm hd hm1 hm2 hl
    have e1 : (UInt8.ofNat (n / 256 ^ j)).toNat = n / 256 ^ j := u8_of (Nat.lt_of_lt_of_le hd (by omega))
    have e2 : (UInt8.ofNat (n / 256 ^ j + m)).toNat = n / 256 ^ j + m := u8_of (by generalize n / 256 ^ j = x at *; omega)
    refine ⟨j, UInt8.ofNat (n / 256 ^ j + m), hs, hj, hd, ?_, by rw [e2, hm], ?_, by rw [e2]; omega⟩
    · unfold pPut
      rw [hs, be]
      simp only []
      rw [e1, hm]
    · unfold pLen
      rw [e2]
      exact hl _ hd
  rcases pSize_cases n with h1 | h1 | h1 | h1 | h1
  · exact key 0 0 (by omega) (by omega) rfl (by omega) (by omega) (by omega) (fun x hx => by rw [if_pos (by omega)])
  · exact key 1 64 (by omega) (by omega) rfl (by omega) (by omega) (by omega) (fun x hx => by rw [if_neg (by omega), if_pos (by omega)])
  · exact key 3 128 (by omega) (by omega) rfl (by omega) (by omega) (by omega) (fun x hx => by rw [if_neg (by omega), if_neg (by omega), if_pos (by omega)])
  · exact key 7 192 (by omega) (by omega) rfl (by omega) (by omega) (by omega) (fun x hx => by rw [if_neg (by omega), if_neg (by omega), if_neg (by omega)])
  · omega

theorem pTake_put {n : Nat} (h : pSize n ≠ 0) (r : List UInt8) : pTake (pPut n ++ r) = (n, pSize n, 0) := by
  obtain ⟨j, b, hs, hj, hd, hp, hb, hl, hm⟩ := pPut_form h
  have hbl := be_len j n
  rw [hp, List.cons_append, pTake, hl, hm]
  rw [if_neg (by rw [List.length_append, hbl]; omega)]
  have e : (be j n ++ r).take (j + 1 - 1) = be j n := by
    rw [Nat.add_sub_cancel, List.take_append_of_le_length (by omega), List.take_of_length_le (by omega)]
  rw [e, ube_be]
  have e2 : n / 256 ^ j * 256 ^ j + n % 256 ^ j = n := Nat.div_add_mod' n (256 ^ j)
  rw [e2, if_pos hs, hs]

theorem pTake_short {n k : Nat} (hk : k < pSize n) : pTake ((pPut n).take k) = (0, 0, 3) := by
  obtain ⟨j, b, hs, hj, hd, hp, hb, hl, hm⟩ := pPut_form (n := n) (by omega)
  have hbl := be_len j n
  rw [hp]
  cases k with
  | zero => rfl
  | succ k =>
    rw [List.take_succ_cons, pTake, hl, if_pos]
    rw [List.length_take, hbl]
    omega

theorem pTake_ok {l : List UInt8} {n k : Nat} (h : pTake l = (n, k, 0)) : pSize n = k ∧ 0 < k ∧ k ≤ l.length ∧ pPut n = l.take k := by
  cases l with
  | nil => simp [pTake] at h
  | cons b r =>
    rw [pTake] at h
    split at h
    · simp at h
    rename_i hlen
    split at h
    · rename_i hs
      simp only [Prod.mk.injEq, and_true] at h
      obtain ⟨rfl, rfl⟩ := h
      have hpos : 0 < pLen b := pLen_pos b
      have hne : pSize (ube (b.toNat % 64) (r.take (pLen b - 1))) ≠ 0 := by omega
      refine ⟨hs, hpos, by rw [List.length_cons]; omega, ?_⟩
      obtain ⟨j, b', hs', hj, hd, hp, hb, hl, hm⟩ := pPut_form hne
      have hj' : pLen b - 1 = j := by omega
      have hlen2 : (r.take (pLen b - 1)).length = j := by rw [List.length_take]; omega
      rw [hp]
      have hdiv := ube_div (b.toNat % 64) (r.take (pLen b - 1))
      rw [hlen2] at hdiv
      have hbe := be_ube j (b.toNat % 64) (r.take (pLen b - 1)) hlen2
      have hb2 : b' = b := by
        apply UInt8.toNat_inj.1
        rw [hb, hdiv, ← hs', hs]
        unfold pLen mark
        have := b.toNat_lt
        by_cases c1 : b.toNat < 64
        · simp [c1]
        by_cases c2 : b.toNat < 128
        · simp [c1, c2]; omega
        by_cases c3 : b.toNat < 192
        · simp [c1, c2, c3]; omega
        · simp [c1, c2, c3]; omega
      rw [hbe, hb2]
      have e : pLen b = (pLen b - 1) + 1 := by omega
      rw [e, List.take_succ_cons]
      rw [Nat.add_sub_cancel]
    · simp only [Prod.mk.injEq] at h
      omega

/-- The order of bytes, and of numbers of one size. -/
theorem less_be (j a b : Nat) (ha : a < 256 ^ j) (hb : b < 256 ^ j) : Op.bytesLess (be j a) (be j b) = decide (a < b) := by
  induction j generalizing a b with
  | zero => simp at ha hb; subst ha; subst hb; rfl
  | succ j ih =>
    have hp : 0 < 256 ^ j := Nat.pow_pos (by omega)
    rw [be, be]
    have mod_be : ∀ n, be j n = be j (n % 256 ^ j) := by
      intro n
      have h1 := ube_be j n 0
      have h2 := be_ube j 0 (be j n) (be_len j n)
      rw [h1] at h2
      simpa using h2.symm
    have e1 : (UInt8.ofNat (a / 256 ^ j)).toNat = a / 256 ^ j := u8_of (by rw [Nat.div_lt_iff_lt_mul hp]; rw [Nat.pow_succ, Nat.mul_comm] at ha; exact ha)
    have e2 : (UInt8.ofNat (b / 256 ^ j)).toNat = b / 256 ^ j := u8_of (by rw [Nat.div_lt_iff_lt_mul hp]; rw [Nat.pow_succ, Nat.mul_comm] at hb; exact hb)
    have hma : a % 256 ^ j < 256 ^ j := Nat.mod_lt _ hp
    have hmb : b % 256 ^ j < 256 ^ j := Nat.mod_lt _ hp
    have hda := Nat.div_add_mod' a (256 ^ j)
    have hdb := Nat.div_add_mod' b (256 ^ j)
    rw [Op.bytesLess, mod_be a, mod_be b, ih _ _ hma hmb]
    have c1 : (decide (UInt8.ofNat (a / 256 ^ j) < UInt8.ofNat (b / 256 ^ j))) = decide (a / 256 ^ j < b / 256 ^ j) := by
      rw [decide_eq_decide, UInt8.lt_iff_toNat_lt, e1, e2]
    have c2 : (UInt8.ofNat (a / 256 ^ j) == UInt8.ofNat (b / 256 ^ j)) = decide (a / 256 ^ j = b / 256 ^ j) := by
      rw [Bool.eq_iff_iff, beq_iff_eq, decide_eq_true_iff, ← UInt8.toNat_inj, e1, e2]
    rw [c1, c2]
    generalize 256 ^ j = p at *
    generalize a / p = x at *
    generalize b / p = y at *
    generalize a % p = u at *
    generalize b % p = v at *
    rw [← hda, ← hdb]
    rcases Nat.lt_trichotomy x y with h | h | h
    · have h2 : (x + 1) * p ≤ y * p := Nat.mul_le_mul_right p h
      rw [Nat.add_mul, Nat.one_mul] at h2
      have h3 : x * p + u < y * p + v := by omega
      simp [h, h3]
    · subst h
      simp
    · have h2 : (y + 1) * p ≤ x * p := Nat.mul_le_mul_right p h
      rw [Nat.add_mul, Nat.one_mul] at h2
      have h3 : ¬ x * p + u < y * p + v := by omega
      have h4 : ¬ x < y := by omega
      have h5 : ¬ x = y := by omega
      simp [h3, h4, h5]

theorem less_put {a b : Nat} (h : pSize a = pSize b) (h0 : pSize a ≠ 0) : Op.bytesLess (pPut a) (pPut b) = decide (a < b) := by
  obtain ⟨j, x, hs, hj, hd, hp, hb, hl, hm⟩ := pPut_form h0
  obtain ⟨j', y, hs', hj', hd', hp', hb', hl', hm'⟩ := pPut_form (n := b) (by omega)
  obtain rfl : j' = j := by omega
  have hpow : 0 < 256 ^ j' := Nat.pow_pos (by omega)
  have ha : a < 256 ^ (j' + 1) := by
    rw [Nat.pow_succ, Nat.mul_comm]
    have := (Nat.div_lt_iff_lt_mul hpow).1 hd
    omega
  have hbb : b < 256 ^ (j' + 1) := by
    rw [Nat.pow_succ, Nat.mul_comm]
    have := (Nat.div_lt_iff_lt_mul hpow).1 hd'
    omega
  have hbase := less_be (j' + 1) a b ha hbb
  rw [be, be, Op.bytesLess] at hbase
  have e1 : (UInt8.ofNat (a / 256 ^ j')).toNat = a / 256 ^ j' := u8_of (Nat.lt_of_lt_of_le hd (by omega))
  have e2 : (UInt8.ofNat (b / 256 ^ j')).toNat = b / 256 ^ j' := u8_of (Nat.lt_of_lt_of_le hd' (by omega))
  rw [hp, hp', Op.bytesLess, ← hbase]
  have c1 : decide (x < y) = decide (UInt8.ofNat (a / 256 ^ j') < UInt8.ofNat (b / 256 ^ j')) := by
    rw [decide_eq_decide, UInt8.lt_iff_toNat_lt, UInt8.lt_iff_toNat_lt, e1, e2, hb, hb']; omega
  have c2 : (x == y) = (UInt8.ofNat (a / 256 ^ j') == UInt8.ofNat (b / 256 ^ j')) := by
    rw [Bool.eq_iff_iff, beq_iff_eq, beq_iff_eq, ← UInt8.toNat_inj, ← UInt8.toNat_inj, e1, e2, hb, hb']; omega
  rw [c1, c2]
end Go.Proofs.Ytnkmpcepdjjopaa
