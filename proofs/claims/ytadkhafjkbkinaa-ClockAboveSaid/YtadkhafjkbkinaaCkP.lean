/-
  The pure side of layer 13: clocks as eight integers, what two come to, how they stand, and their bytes.
-/
import Derived.Test.YtadkhafjkbkinaaBas
import Derived.Test.YtadkhafjkbkinaaPfx
namespace Go.Proofs.Ytadkhafjkbkinaa
open Go.RowKit

/-- A clock's numbers as cells. -/
def ck (l : List Int) : List Value := l.map (Value.int .u64)
theorem ck_len (l : List Int) : (ck l).length = l.length := by simp [ck]
theorem ck_one (l : List Int) : ∀ u ∈ ck l, u.oneCell' = true := by
  intro u hu
  obtain ⟨b, _, rfl⟩ := List.mem_map.1 hu
  rfl
theorem ck_at {l : List Int} {j : Nat} {x : Int} (h : l[j]? = some x) : (ck l)[j]? = some (.int .u64 x) := by
  rw [ck, List.getElem?_map, h]; rfl
theorem ck_set (l : List Int) (j : Nat) (x : Int) : (ck l).set j (.int .u64 x) = ck (l.set j x) := by
  rw [ck, ck, List.map_set]
theorem ck_inj {a b : List Int} (h : ck a = ck b) : a = b := by
  induction a generalizing b with
  | nil => cases b with
    | nil => rfl
    | cons y r => simp [ck] at h
  | cons x s ih => cases b with
    | nil => simp [ck] at h
    | cons y r =>
      simp only [ck, List.map_cons, List.cons.injEq] at h
      obtain ⟨h1, h2⟩ := h
      injection h1 with _ h1
      rw [h1, ih h2]

/-- Eight numbers of 64 bits. -/
def Ok8 (l : List Int) : Prop := l.length = 8 ∧ ∀ x ∈ l, 0 ≤ x ∧ x ≤ 18446744073709551615
theorem Ok8.at_ {l : List Int} (h : Ok8 l) {j : Nat} (hj : j < 8) : ∃ x, l[j]? = some x ∧ 0 ≤ x ∧ x ≤ 18446744073709551615 := by
  have h1 : j < l.length := by rw [h.1]; exact hj
  exact ⟨l[j], List.getElem?_eq_getElem h1, h.2 _ (List.getElem_mem h1)⟩
def nul8 : List Int := List.replicate 8 0
theorem nul8_ok : Ok8 nul8 := ⟨rfl, fun x hx => by have := List.eq_of_mem_replicate hx; omega⟩
theorem nul8_at {j : Nat} (hj : j < 8) : nul8[j]? = some 0 := by
  rw [nul8, List.getElem?_replicate, if_pos hj]

/-- The first j of r, and what is behind them of z. -/
def part8 (r z : List Int) (j : Nat) : List Int := r.take j ++ z.drop j
theorem part8_zero (r z : List Int) : part8 r z 0 = z := by simp [part8]
theorem part8_all {r z : List Int} (hr : r.length = 8) (hz : z.length = 8) : part8 r z 8 = r := by
  simp [part8, List.take_of_length_le (Nat.le_of_eq hr), List.drop_of_length_le (Nat.le_of_eq hz)]
theorem part8_len {r z : List Int} {j : Nat} (hr : r.length = 8) (hz : z.length = 8) (hj : j ≤ 8) : (part8 r z j).length = 8 := by
  simp [part8, hr, hz]; omega
theorem part8_at {r z : List Int} {j : Nat} {x : Int} (hr : r.length = 8) (hj : j < 8) (hx : z[j]? = some x) : (part8 r z j)[j]? = some x := by
  have h1 : (r.take j).length = j := by rw [List.length_take, hr]; omega
  rw [part8, List.getElem?_append_right (by omega), h1, Nat.sub_self, List.getElem?_drop]
  exact hx
theorem part8_next {r z : List Int} {j : Nat} {v : Int} (hr : r.length = 8) (hz : z.length = 8) (hj : j < 8) (hv : r[j]? = some v) : (part8 r z j).set j v = part8 r z (j + 1) := by
  have h1 : (r.take j).length = j := by rw [List.length_take, hr]; omega
  have hd : z.drop j = z[j]'(by omega) :: z.drop (j + 1) := by rw [List.drop_eq_getElem_cons (by omega)]
  rw [part8, part8, List.take_add_one, hv, List.set_append_right _ _ (by omega), h1, Nat.sub_self, hd, List.set_cons_zero]
  simp
theorem part8_set2 {r z : List Int} {j : Nat} {u v : Int} (hr : r.length = 8) (hz : z.length = 8) (hj : j < 8) (hv : r[j]? = some v) : ((part8 r z j).set j u).set j v = part8 r z (j + 1) := by
  rw [List.set_set]; exact part8_next hr hz hj hv

/-- Number by number. -/
def cMax (a b : List Int) : List Int := List.zipWith (fun x y => if x < y then y else x) a b
def cMin (a b : List Int) : List Int := List.zipWith (fun x y => if y < x then y else x) a b
theorem cMax_at {a b : List Int} {j : Nat} {x y : Int} (hx : a[j]? = some x) (hy : b[j]? = some y) : (cMax a b)[j]? = some (if x < y then y else x) := by
  simp [cMax, List.getElem?_zipWith, hx, hy]
theorem cMin_at {a b : List Int} {j : Nat} {x y : Int} (hx : a[j]? = some x) (hy : b[j]? = some y) : (cMin a b)[j]? = some (if y < x then y else x) := by
  simp [cMin, List.getElem?_zipWith, hx, hy]
theorem zip_ok {f : Int → Int → Int} (hf : ∀ x y, f x y = x ∨ f x y = y) {a b : List Int} (ha : Ok8 a) (hb : Ok8 b) : Ok8 (List.zipWith f a b) := by
  refine ⟨by rw [List.length_zipWith, ha.1, hb.1]; rfl, fun z hz => ?_⟩
  obtain ⟨j, hj, rfl⟩ := List.mem_iff_getElem.1 hz
  have hj2 : j < 8 := by rw [List.length_zipWith, ha.1, hb.1] at hj; omega
  rw [List.getElem_zipWith]
  rcases hf (a[j]'(by have := ha.1; omega)) (b[j]'(by have := hb.1; omega)) with h | h
  · rw [h]; exact ha.2 _ (List.getElem_mem _)
  · rw [h]; exact hb.2 _ (List.getElem_mem _)
theorem cMax_ok {a b : List Int} (ha : Ok8 a) (hb : Ok8 b) : Ok8 (cMax a b) := zip_ok (fun x y => by split <;> simp) ha hb
theorem cMin_ok {a b : List Int} (ha : Ok8 a) (hb : Ok8 b) : Ok8 (cMin a b) := zip_ok (fun x y => by split <;> simp) ha hb

/-- No number of a is above b's. -/
def cUp (a b : List Int) : Bool := (List.range 8).all fun j => decide ((a[j]?).getD 0 ≤ (b[j]?).getD 0)
theorem cUp_iff {a b : List Int} (ha : Ok8 a) (hb : Ok8 b) : cUp a b = true ↔ ∀ j x y, j < 8 → a[j]? = some x → b[j]? = some y → x ≤ y := by
  simp only [cUp, List.all_eq_true, List.mem_range, decide_eq_true_eq]
  constructor
  · intro h j x y hj hx hy
    have := h j hj
    rw [hx, hy] at this
    exact this
  · intro h j hj
    obtain ⟨x, hx, _⟩ := ha.at_ hj
    obtain ⟨y, hy, _⟩ := hb.at_ hj
    rw [hx, hy]
    exact h j x y hj hx hy
theorem cUp_no {a b : List Int} {j : Nat} {x y : Int} (hj : j < 8) (hx : a[j]? = some x) (hy : b[j]? = some y) (h : y < x) : cUp a b = false := by
  cases hu : cUp a b with
  | false => rfl
  | true =>
    simp only [cUp, List.all_eq_true, List.mem_range, decide_eq_true_eq] at hu
    have := hu j hj
    rw [hx, hy] at this
    simp only [Option.getD_some] at this
    omega
theorem ext8 {a b : List Int} (ha : Ok8 a) (hb : Ok8 b) (h : ∀ j x y, j < 8 → a[j]? = some x → b[j]? = some y → x = y) : a = b := by
  refine List.ext_getElem (by rw [ha.1, hb.1]) fun j h1 h2 => ?_
  exact h j _ _ (by rw [← ha.1]; exact h1) (List.getElem?_eq_getElem h1) (List.getElem?_eq_getElem h2)
theorem cMax_r {a b : List Int} (ha : Ok8 a) (hb : Ok8 b) : cMax a b = b ↔ cUp a b = true := by
  rw [cUp_iff ha hb]
  constructor
  · intro h j x y hj hx hy
    have h1 := cMax_at hx hy
    rw [h, hy] at h1
    injection h1 with h1
    split at h1 <;> omega
  · intro h
    refine ext8 (cMax_ok ha hb) hb fun j x y hj hx hy => ?_
    obtain ⟨z, hz, _⟩ := ha.at_ hj
    rw [cMax_at hz hy] at hx
    injection hx with hx
    have := h j z y hj hz hy
    split at hx <;> omega
theorem cMax_l {a b : List Int} (ha : Ok8 a) (hb : Ok8 b) : cMax a b = a ↔ cUp b a = true := by
  rw [cUp_iff hb ha]
  constructor
  · intro h j y x hj hy hx
    have h1 := cMax_at hx hy
    rw [h, hx] at h1
    injection h1 with h1
    split at h1 <;> omega
  · intro h
    refine ext8 (cMax_ok ha hb) ha fun j x y hj hx hy => ?_
    obtain ⟨z, hz, _⟩ := hb.at_ hj
    rw [cMax_at hy hz] at hx
    injection hx with hx
    have := h j z y hj hz hy
    split at hx <;> omega
theorem cUp_max_l {a b : List Int} (ha : Ok8 a) (hb : Ok8 b) : cUp a (cMax a b) = true := by
  rw [cUp_iff ha (cMax_ok ha hb)]
  intro j x y hj hx hy
  obtain ⟨z, hz, _⟩ := hb.at_ hj
  rw [cMax_at hx hz] at hy
  injection hy with hy
  split at hy <;> omega
theorem cUp_max_r {a b : List Int} (ha : Ok8 a) (hb : Ok8 b) : cUp b (cMax a b) = true := by
  rw [cUp_iff hb (cMax_ok ha hb)]
  intro j y x hj hy hx
  obtain ⟨z, hz, _⟩ := ha.at_ hj
  rw [cMax_at hz hy] at hx
  injection hx with hx
  split at hx <;> omega
theorem cUp_max_le {a b c : List Int} (ha : Ok8 a) (hb : Ok8 b) (hc : Ok8 c) (h1 : cUp a c = true) (h2 : cUp b c = true) : cUp (cMax a b) c = true := by
  rw [cUp_iff (cMax_ok ha hb) hc]
  rw [cUp_iff ha hc] at h1
  rw [cUp_iff hb hc] at h2
  intro j m y hj hm hy
  obtain ⟨x, hx, _⟩ := ha.at_ hj
  obtain ⟨z, hz, _⟩ := hb.at_ hj
  rw [cMax_at hx hz] at hm
  injection hm with hm
  have := h1 j x y hj hx hy
  have := h2 j z y hj hz hy
  split at hm <;> omega

/-- How two stand. -/
def cOrd (a b : List Int) : Int := if a = b then 0 else if cUp a b = true then 1 else if cUp b a = true then 2 else 3
theorem cOrd_bd (a b : List Int) : 0 ≤ cOrd a b ∧ cOrd a b ≤ 3 := by unfold cOrd; split <;> (try split) <;> (try split) <;> omega
theorem cOrd_up {a b : List Int} (h : cUp a b = true) : cOrd a b ≠ 2 := by
  unfold cOrd; rw [if_pos h]; split <;> omega

/-- The least of all. -/
def cLeast : List (List Int) → List Int
  | [] => nul8
  | c :: r => r.foldl cMin c
theorem cLeast_next (l : List (List Int)) (c : List Int) (h : l ≠ []) : cLeast (l ++ [c]) = cMin (cLeast l) c := by
  cases l with
  | nil => exact absurd rfl h
  | cons x r => simp [cLeast, List.foldl_append]
theorem foldl_ok {f : List Int → List Int → List Int} (hf : ∀ a b, Ok8 a → Ok8 b → Ok8 (f a b)) : ∀ (l : List (List Int)) (a : List Int), Ok8 a → (∀ x ∈ l, Ok8 x) → Ok8 (l.foldl f a)
  | [], a, ha, _ => ha
  | x :: r, a, ha, h => foldl_ok hf r _ (hf a x ha (h x (by simp))) (fun y hy => h y (by simp [hy]))
theorem cLeast_ok (l : List (List Int)) (h : ∀ x ∈ l, Ok8 x) : Ok8 (cLeast l) := by
  cases l with
  | nil => exact nul8_ok
  | cons x r => exact foldl_ok (fun a b ha hb => cMin_ok ha hb) r x (h x (by simp)) (fun y hy => h y (by simp [hy]))

/-- What many know together. -/
def cAll (a : List Int) (l : List (List Int)) : List Int := l.foldl cMax a
theorem cAll_ok {a : List Int} {l : List (List Int)} (ha : Ok8 a) (h : ∀ x ∈ l, Ok8 x) : Ok8 (cAll a l) := foldl_ok (fun _ _ ha hb => cMax_ok ha hb) l a ha h
theorem cAll_next (a : List Int) (l : List (List Int)) (c : List Int) : cAll a (l ++ [c]) = cMax (cAll a l) c := by simp [cAll, List.foldl_append]
/-- Upto is an order, and cAll the least above: so it hangs on neither order nor number. -/
theorem cUp_refl {a : List Int} (ha : Ok8 a) : cUp a a = true := by
  rw [cUp_iff ha ha]
  intro j x y _ hx hy
  rw [hx] at hy
  injection hy with hy
  omega
theorem cUp_trans {a b c : List Int} (ha : Ok8 a) (hb : Ok8 b) (hc : Ok8 c) (h1 : cUp a b = true) (h2 : cUp b c = true) : cUp a c = true := by
  rw [cUp_iff ha hc]
  rw [cUp_iff ha hb] at h1
  rw [cUp_iff hb hc] at h2
  intro j x z hj hx hz
  obtain ⟨y, hy, _⟩ := hb.at_ hj
  have := h1 j x y hj hx hy
  have := h2 j y z hj hy hz
  omega
theorem cUp_anti {a b : List Int} (ha : Ok8 a) (hb : Ok8 b) (h1 : cUp a b = true) (h2 : cUp b a = true) : a = b := by
  rw [cUp_iff ha hb] at h1
  rw [cUp_iff hb ha] at h2
  refine ext8 ha hb fun j x y hj hx hy => ?_
  have := h1 j x y hj hx hy
  have := h2 j y x hj hy hx
  omega
theorem cAll_le {c : List Int} (hc : Ok8 c) : ∀ (l : List (List Int)) (a : List Int), Ok8 a → (∀ x ∈ l, Ok8 x) → cUp a c = true → (∀ x ∈ l, cUp x c = true) → cUp (cAll a l) c = true
  | [], a, ha, _, h1, _ => h1
  | x :: r, a, ha, h, h1, h2 => cAll_le hc r _ (cMax_ok ha (h x (by simp))) (fun y hy => h y (by simp [hy])) (cUp_max_le ha (h x (by simp)) hc h1 (h2 x (by simp))) (fun y hy => h2 y (by simp [hy]))
theorem cAll_ge0 : ∀ (l : List (List Int)) (a : List Int), Ok8 a → (∀ x ∈ l, Ok8 x) → cUp a (cAll a l) = true
  | [], a, ha, _ => cUp_refl ha
  | x :: r, a, ha, h => cUp_trans ha (cMax_ok ha (h x (by simp))) (cAll_ok (l := r) (a := cMax a x) (cMax_ok ha (h x (by simp))) (fun y hy => h y (by simp [hy]))) (cUp_max_l ha (h x (by simp))) (cAll_ge0 r _ (cMax_ok ha (h x (by simp))) (fun y hy => h y (by simp [hy])))
theorem cAll_ge : ∀ (l : List (List Int)) (a : List Int), Ok8 a → (∀ x ∈ l, Ok8 x) → ∀ x ∈ l, cUp x (cAll a l) = true
  | [], _, _, _, x, hx => by cases hx
  | y :: r, a, ha, h, x, hx => by
    have hy := h y (by simp)
    have hr : ∀ z ∈ r, Ok8 z := fun z hz => h z (by simp [hz])
    rcases List.mem_cons.1 hx with rfl | hx2
    · exact cUp_trans hy (cMax_ok ha hy) (cAll_ok (l := r) (a := cMax a x) (cMax_ok ha hy) hr) (cUp_max_r ha hy) (cAll_ge0 r _ (cMax_ok ha hy) hr)
    · exact cAll_ge r _ (cMax_ok ha hy) hr x hx2
/-- Two lists that have the same members come to the same. -/
theorem cAll_same {a : List Int} {l m : List (List Int)} (ha : Ok8 a) (hl : ∀ x ∈ l, Ok8 x) (h1 : ∀ x ∈ l, x ∈ m) (h2 : ∀ x ∈ m, x ∈ l) : cAll a l = cAll a m := by
  have hm : ∀ x ∈ m, Ok8 x := fun x hx => hl x (h2 x hx)
  have ol := cAll_ok (l := l) ha hl
  have om := cAll_ok (l := m) ha hm
  exact cUp_anti ol om (cAll_le om l a ha hl (cAll_ge0 m a ha hm) (fun x hx => cAll_ge m a ha hm x (h1 x hx)))
    (cAll_le ol m a ha hm (cAll_ge0 l a ha hl) (fun x hx => cAll_ge l a ha hl x (h2 x hx)))

/-- A clock's first byte, its numbers' bytes, and whether it has any. -/
def cBits : List Int → Nat
  | [] => 0
  | x :: r => 2 * cBits r + (if 0 < x then 1 else 0)
def cNums (c : List Int) : List UInt8 := c.flatMap fun x => if 0 < x then pPut x.toNat else []
def cBad (c : List Int) : Bool := c.any fun x => decide (4611686018427387903 < x)
def cPut (c : List Int) : List UInt8 := if cBad c = true then [] else UInt8.ofNat (cBits c) :: cNums c
def cErr (c : List Int) : Int := if cBad c = true then 1 else 0
theorem cBits_lt (c : List Int) : cBits c < 2 ^ c.length := by
  induction c with
  | nil => simp [cBits]
  | cons x r ih => rw [cBits, List.length_cons, Nat.pow_succ]; split <;> omega
theorem cBits_next (c : List Int) (j : Nat) (x : Int) (h : c[j]? = some x) : cBits (c.take (j + 1)) = cBits (c.take j) + (if 0 < x then 2 ^ j else 0) := by
  induction c generalizing j with
  | nil => simp at h
  | cons y r ih =>
    cases j with
    | zero =>
      obtain rfl : y = x := by simpa using h
      simp [cBits]
    | succ j =>
      have := ih j (by simpa using h)
      simp only [List.take_succ_cons, cBits, this, Nat.pow_succ]
      split <;> split <;> omega
theorem cBits_bit (c : List Int) (j : Nat) (x : Int) (h : c[j]? = some x) : cBits c / 2 ^ j % 2 = if 0 < x then 1 else 0 := by
  induction c generalizing j with
  | nil => simp at h
  | cons y r ih =>
    cases j with
    | zero =>
      obtain rfl : y = x := by simpa using h
      simp only [cBits, Nat.pow_zero, Nat.div_one]
      split <;> omega
    | succ j =>
      have := ih j (by simpa using h)
      rw [← this, Nat.pow_succ, Nat.mul_comm (2 ^ j) 2, ← Nat.div_div_eq_div_mul, cBits]
      congr 2
      split <;> omega
theorem cBits_drop (c : List Int) (j : Nat) (x : Int) (h : c[j]? = some x) : cBits (c.drop j) = 2 * cBits (c.drop (j + 1)) + (if 0 < x then 1 else 0) := by
  obtain ⟨hj, rfl⟩ := List.getElem?_eq_some_iff.1 h
  rw [List.drop_eq_getElem_cons hj, cBits]
theorem cNums_next (c : List Int) (j : Nat) (x : Int) (h : c[j]? = some x) : cNums (c.take (j + 1)) = cNums (c.take j) ++ (if 0 < x then pPut x.toNat else []) := by
  rw [List.take_add_one, h, cNums, cNums, List.flatMap_append]
  simp
theorem cNums_drop (c : List Int) (j : Nat) (x : Int) (h : c[j]? = some x) : cNums (c.drop j) = (if 0 < x then pPut x.toNat else []) ++ cNums (c.drop (j + 1)) := by
  obtain ⟨hj, rfl⟩ := List.getElem?_eq_some_iff.1 h
  rw [List.drop_eq_getElem_cons hj, cNums, cNums, List.flatMap_cons]
theorem cBad_no {c : List Int} (h : cBad c = false) {j : Nat} {x : Int} (hx : c[j]? = some x) : x ≤ 4611686018427387903 := by
  simp only [cBad, List.any_eq_false, decide_eq_true_eq] at h
  have := h x (List.mem_of_getElem? hx)
  omega
theorem cBad_yes {c : List Int} {j : Nat} {x : Int} (hx : c[j]? = some x) (h : 4611686018427387903 < x) : cBad c = true := by
  simp only [cBad, List.any_eq_true, decide_eq_true_eq]
  exact ⟨x, List.mem_of_getElem? hx, h⟩
theorem cBad_all {c : List Int} (h8 : c.length = 8) (h : ∀ j x, j < 8 → c[j]? = some x → x ≤ 4611686018427387903) : cBad c = false := by
  simp only [cBad, List.any_eq_false, decide_eq_true_eq]
  intro x hx
  obtain ⟨j, hj, rfl⟩ := List.mem_iff_getElem.1 hx
  have := h j _ (by omega) (List.getElem?_eq_getElem hj)
  omega
theorem cNums_len (c : List Int) : (cNums c).length ≤ 8 * c.length := by
  induction c with
  | nil => simp [cNums]
  | cons x r ih =>
    rw [cNums, List.flatMap_cons, List.length_append, List.length_cons]
    have h1 : (if 0 < x then pPut x.toNat else []).length ≤ 8 := by
      split
      · have := pPut_len x.toNat; have := pSize_le x.toNat; omega
      · simp
    have h2 : (List.flatMap (fun x => if 0 < x then pPut x.toNat else []) r).length ≤ 8 * r.length := ih
    omega
/-- A bit more. -/
theorem or_bit (n j : Nat) (hj : j < 8) (hn : n < 2 ^ j) : bits .or .u8 (n : Int) ((2 ^ j : Nat) : Int) = ((n + 2 ^ j : Nat) : Int) := by
  have key : ∀ j : Nat, j < 8 → ∀ n : Nat, n < 2 ^ j → bits .or .u8 (n : Int) ((2 ^ j : Nat) : Int) = ((n + 2 ^ j : Nat) : Int) := by decide +kernel
  exact key j hj n hn
theorem and_one (n : Nat) (hn : n < 256) : bits .and .u8 (n : Int) 1 = ((n % 2 : Nat) : Int) := by
  have key : ∀ n : Nat, n < 256 → bits .and .u8 (n : Int) 1 = ((n % 2 : Nat) : Int) := by decide +kernel
  exact key n hn
end Go.Proofs.Ytadkhafjkbkinaa
