/-
  Layer 14: acts as they lie in memory.
-/
import Derived.Test.YtogajpiefegdeaaDkA
namespace Go.Proofs.Ytogajpiefegdeaa
set_option linter.unusedSimpArgs false
set_option linter.unusedVariables false
open Go.RowKit

def acc (k f n : Int) (A : Option Addr) (m c : Nat) : List Value := [.int .i64 k, .int .i64 f, .int .i64 n, .slice A m c]
/-- An act, as it lies in memory. -/
structure At where
  k : Int
  f : Int
  m : Int
  A : Option Addr
  n : Nat
  c : Nat
  b : List UInt8
def At.cs (a : At) : List Value := acc a.k a.f a.m a.A a.n a.c
structure At.Ok (w : World) (B : Nat) (a : At) : Prop where
  rd : Rd w B 1 a.A a.n (vbs a.b)
  nc : a.n ≤ a.c
  cm : a.c ≤ maxLen
  few : a.n ≤ 140737488351232
  m0 : -9223372036854775808 ≤ a.m
  m1 : a.m ≤ 9223372036854775807
/-- Acts that are seen through a slice value. -/
def Rq (w : World) (B : Nat) (A : Option Addr) (n : Nat) (qs : List At) : Prop := Rd w B 4 A n (qs.flatMap At.cs) ∧ qs.length = n ∧ ∀ a ∈ qs, a.Ok w B
theorem acts_at : ∀ (qs : List At) (i q : Nat) (a : At), qs[i]? = some a → q < 4 → (qs.flatMap At.cs)[i * 4 + q]? = a.cs[q]?
  | [], i, q, a, h, _ => by simp at h
  | r :: rs, i, q, a, h, hq => by
    have hl : r.cs.length = 4 := rfl
    cases i with
    | zero =>
      obtain rfl : r = a := by simpa using h
      rw [List.flatMap_cons, Nat.zero_mul, Nat.zero_add, List.getElem?_append_left (by omega)]
    | succ i =>
      rw [List.flatMap_cons, List.getElem?_append_right (by omega), hl]
      have e : (i + 1) * 4 + q - 4 = i * 4 + q := by omega
      rw [e]
      exact acts_at rs i q a (by simpa using h) hq
theorem Rq.at_ {w : World} {B n : Nat} {A : Option Addr} {qs : List At} (h : Rq w B A n qs) (hB : B ≤ w.heap.size) {i : Nat} (hi : i < n) :
    ∃ b off a, A = some ⟨b, off, none⟩ ∧ b < B ∧ qs[i]? = some a ∧ a.Ok w B ∧ ∀ V, Turn w V none → V.rangeAt b (off + i * 4) a.cs := by
  have hl : i < qs.length := by rw [h.2.1]; exact hi
  have hc : qs[i]? = some qs[i] := List.getElem?_eq_getElem hl
  obtain ⟨b, off, rfl, hb, hcell⟩ := h.1.head (by omega)
  refine ⟨b, off, _, rfl, hb, hc, h.2.2 _ (List.getElem_mem hl), fun V hV => rng_turn (row := none) (fun q v hv => ?_) hV (by omega) (by simp)⟩
  have hq : q < 4 := (List.getElem?_eq_some_iff.1 hv).1
  have := hcell (i * 4 + q) v (by rw [acts_at qs i q _ hc hq]; exact hv)
  rw [← Nat.add_assoc] at this
  exact this
theorem szAct {k f m : Int} {A : Option Addr} {n c : Nat} : (Try.prog.info? 30).map (·.size) = some (acc k f m A n c).length := by kernel_rfl
theorem bdA1 : Try.prog.built 30 [(0, .int .i64 3)] = some (acc 3 0 0 none 0 0).toArray := by kernel_rfl
theorem bdA2 : Try.prog.built 30 [(0, .int .i64 3), (1, .int .i64 1)] = some (acc 3 1 0 none 0 0).toArray := by kernel_rfl
end Go.Proofs.Ytogajpiefegdeaa
