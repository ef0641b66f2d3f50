/-
  Layer 6, its pure side: names, numbers, texts as bytes.
-/
import Derived.Test.YtkljkiambjlnaaaLexQ
namespace Go.Proofs.Ytkljkiambjlnaaa
open Go.RowKit

/-- A whole name, of at most 40 bytes. -/
def wName (l : List UInt8) : Bool :=
  match l with
  | [] => false
  | c :: r => decide (r.length ≤ 39) && wLow c && r.all wIn
/-- The number that digits are. -/
def wNumAt (l : List UInt8) : Nat := l.foldl (fun n c => n * 10 + (c.toNat - 48)) 0
/-- Whether bytes are a number: of digits alone, without noughts ahead, at most 4096. -/
def wOk (l : List UInt8) : Bool := !l.isEmpty && l.all wNum && (decide (l.length = 1) || decide (l[0]? ≠ some 48)) && decide (wNumAt l ≤ 4096)
theorem wNum_mono : ∀ (r : List UInt8) (n : Nat), n ≤ r.foldl (fun n c => n * 10 + (c.toNat - 48)) n
  | [], n => Nat.le_refl _
  | c :: r, n => by
    have := wNum_mono r (n * 10 + (c.toNat - 48))
    simp only [List.foldl_cons]
    omega
theorem wNumAt_take (l : List UInt8) (j : Nat) : wNumAt (l.take j) ≤ wNumAt l := by
  have h := wNum_mono (l.drop j) (wNumAt (l.take j))
  unfold wNumAt at h ⊢
  rw [← List.foldl_append, List.take_append_drop] at h
  exact h
theorem wNumAt_next {l : List UInt8} {j : Nat} {c : UInt8} (h : l[j]? = some c) : wNumAt (l.take (j + 1)) = wNumAt (l.take j) * 10 + (c.toNat - 48) := by
  rw [List.take_add_one, h]; simp [wNumAt]
theorem wOk_not {l : List UInt8} {j : Nat} {c : UInt8} (h : l[j]? = some c) (hc : wNum c = false) : wOk l = false := by
  have : l.all wNum = false := List.all_eq_false.2 ⟨c, List.mem_of_getElem? h, by rw [hc]; simp⟩
  simp [wOk, this]
theorem wOk_great {l : List UInt8} {j : Nat} (h : 4096 < wNumAt (l.take j)) : wOk l = false := by
  have h1 := wNumAt_take l j
  have : decide (wNumAt l ≤ 4096) = false := by rw [decide_eq_false_iff_not]; omega
  simp [wOk, this]
theorem wOk_nought {l : List UInt8} (h : l[0]? = some 48) (hl : 1 < l.length) : wOk l = false := by
  have h1 : decide (l.length = 1) = false := by rw [decide_eq_false_iff_not]; omega
  have h2 : decide (l[0]? ≠ some 48) = false := by rw [decide_eq_false_iff_not]; simp [h]
  simp only [wOk, h1, h2, Bool.or_self, Bool.and_false, Bool.false_and]
theorem wOk_yes {l : List UInt8} (h0 : l ≠ []) (h1 : l.all wNum = true) (h2 : l.length ≤ 1 ∨ l[0]? ≠ some 48) (h3 : wNumAt l ≤ 4096) : wOk l = true := by
  have e0 : l.isEmpty = false := by cases l with
    | nil => exact absurd rfl h0
    | cons c r => rfl
  have hl : l.length ≠ 0 := fun e => h0 (List.eq_nil_of_length_eq_zero e)
  have e2 : (decide (l.length = 1) || decide (l[0]? ≠ some 48)) = true := by
    rw [Bool.or_eq_true, decide_eq_true_iff, decide_eq_true_iff]
    rcases h2 with h2 | h2
    · exact .inl (by omega)
    · exact .inr h2
  simp only [wOk, e0, h1, e2, decide_eq_true h3, Bool.not_false, Bool.and_self]
theorem wLow_cases (c : UInt8) : ((c.toNat : Int) < 97 ∧ wLow c = false) ∨ ((97 : Int) ≤ c.toNat ∧ (c.toNat : Int) ≤ 122 ∧ wLow c = true) ∨ ((97 : Int) ≤ c.toNat ∧ (122 : Int) < c.toNat ∧ wLow c = false) := by
  unfold wLow
  rcases Nat.lt_or_ge c.toNat 97 with h | h
  · exact .inl ⟨by omega, by rw [decide_eq_false_iff_not]; omega⟩
  · rcases Nat.lt_or_ge 122 c.toNat with h2 | h2
    · exact .inr (.inr ⟨by omega, by omega, by rw [decide_eq_false_iff_not]; omega⟩)
    · exact .inr (.inl ⟨by omega, by omega, by rw [decide_eq_true_iff]; omega⟩)
theorem wNum_cases (c : UInt8) : ((c.toNat : Int) < 48 ∧ wNum c = false) ∨ ((48 : Int) ≤ c.toNat ∧ (c.toNat : Int) ≤ 57 ∧ wNum c = true) ∨ ((48 : Int) ≤ c.toNat ∧ (57 : Int) < c.toNat ∧ wNum c = false) := by
  unfold wNum
  rcases Nat.lt_or_ge c.toNat 48 with h | h
  · exact .inl ⟨by omega, by rw [decide_eq_false_iff_not]; omega⟩
  · rcases Nat.lt_or_ge 57 c.toNat with h2 | h2
    · exact .inr (.inr ⟨by omega, by omega, by rw [decide_eq_false_iff_not]; omega⟩)
    · exact .inr (.inl ⟨by omega, by omega, by rw [decide_eq_true_iff]; omega⟩)
/-- A text as bytes. -/
def Tx (s : ByteArray) (l : List UInt8) : Prop := s = txt l
theorem Tx.size {s : ByteArray} {l : List UInt8} (h : Tx s l) : s.size = l.length := by rw [h, txt_size]
theorem Tx.list {s : ByteArray} {l : List UInt8} (h : Tx s l) : s.toList = l := by rw [h]; exact ByteArray.toList_mk l
theorem Tx.at_ {s : ByteArray} {l : List UInt8} (h : Tx s l) {i : Nat} {c : UInt8} (hc : l[i]? = some c) : ∀ hi : i < s.size, s[i]'hi = c := by
  subst h
  intro hi
  obtain ⟨h1, h2⟩ := List.getElem?_eq_some_iff.1 hc
  rw [← h2]
  rfl
theorem all_next {p : UInt8 → Bool} {l : List UInt8} {j : Nat} {c : UInt8} (h : l[j]? = some c) : (l.take (j + 1)).all p = ((l.take j).all p && p c) := by
  rw [List.take_add_one, h]; simp
theorem all_not {p : UInt8 → Bool} {l : List UInt8} {j : Nat} {c : UInt8} (h : l[j]? = some c) (hp : p c = false) : l.all p = false := by
  rw [List.all_eq_false]
  exact ⟨c, List.mem_of_getElem? h, by rw [hp]; simp⟩
/-- A whole name, of at most 40 bytes. -/
theorem wName_nil : wName [] = false := rfl
theorem wName_long {l : List UInt8} (h : 40 < l.length) : wName l = false := by
  cases l with
  | nil => rfl
  | cons c r =>
    rw [List.length_cons] at h
    have : decide (r.length ≤ 39) = false := by rw [decide_eq_false_iff_not]; omega
    simp [wName, this]
theorem wName_first {l : List UInt8} {c : UInt8} (h : l[0]? = some c) (hc : wLow c = false) : wName l = false := by
  cases l with
  | nil => rfl
  | cons d r =>
    obtain rfl : d = c := by simpa using h
    simp [wName, hc]
theorem wName_in {l : List UInt8} {c : UInt8} (h : l[0]? = some c) (hc : wLow c = true) (hl : l.length ≤ 40) : wName l = l.all wIn := by
  cases l with
  | nil => simp at h
  | cons d r =>
    obtain rfl : d = c := by simpa using h
    rw [List.length_cons] at hl
    have h1 : decide (r.length ≤ 39) = true := by rw [decide_eq_true_iff]; omega
    have h2 : wIn d = true := by unfold wIn; rw [hc]; rfl
    simp [wName, hc, h1, h2]
end Go.Proofs.Ytkljkiambjlnaaa
