/-
  Layer 6: rows of tokens in memory: three cells each.
-/
import Derived.Test.YtkljkiambjlnaaaLaw
import Derived.Test.YtkljkiambjlnaaaLexP
namespace Go.Proofs.Ytkljkiambjlnaaa
open Go.RowKit

/-- A token's cells. -/
def tc (t : Tok) : List Value := [.int .i64 (t.k : Int), .string (txt t.s), .int .i64 (t.at_ : Int)]
def tcs (ts : List Tok) : List Value := ts.flatMap tc
theorem tcs_cons (t : Tok) (ts : List Tok) : tcs (t :: ts) = tc t ++ tcs ts := rfl
theorem tcs_app (ts us : List Tok) : tcs (ts ++ us) = tcs ts ++ tcs us := by simp [tcs]
theorem tcs_len (ts : List Tok) : (tcs ts).length = ts.length * 3 := by
  induction ts with
  | nil => rfl
  | cons t ts ih => rw [tcs_cons, List.length_append, ih, List.length_cons]; simp [tc]; omega
theorem tcs_at {ts : List Tok} : ∀ {i : Nat} {t : Tok}, ts[i]? = some t → (tcs ts)[i * 3]? = some (.int .i64 (t.k : Int)) ∧ (tcs ts)[i * 3 + 1]? = some (.string (txt t.s)) ∧ (tcs ts)[i * 3 + 2]? = some (.int .i64 (t.at_ : Int)) := by
  induction ts with
  | nil => intro i t h; simp at h
  | cons u us ih =>
    intro i t h
    cases i with
    | zero =>
      obtain rfl : u = t := by simpa using h
      exact ⟨rfl, rfl, rfl⟩
    | succ i =>
      obtain ⟨h1, h2, h3⟩ := ih (i := i) (t := t) (by simpa using h)
      have e (j : Nat) : (tcs (u :: us))[i * 3 + j + 3]? = (tcs us)[i * 3 + j]? := by
        rw [tcs_cons, show i * 3 + j + 3 = (tc u).length + (i * 3 + j) by simp [tc]; omega, List.getElem?_append_right (by omega)]
        congr 1
        omega
      refine ⟨?_, ?_, ?_⟩
      · rw [show (i + 1) * 3 = i * 3 + 0 + 3 by omega, e 0]; exact h1
      · rw [show (i + 1) * 3 + 1 = i * 3 + 1 + 3 by omega, e 1]; exact h2
      · rw [show (i + 1) * 3 + 2 = i * 3 + 2 + 3 by omega, e 2]; exact h3
theorem tcs_one (ts : List Tok) : ∀ u ∈ tcs ts, u.oneCell' = true := by
  intro u hu
  obtain ⟨t, _, ht⟩ := List.mem_flatMap.1 hu
  simp only [tc, List.mem_cons, List.not_mem_nil, or_false] at ht
  rcases ht with rfl | rfl | rfl <;> rfl
theorem Rd.litS (w : World) (E : TypeId) (sz n : Nat) (cs : List Value) (h : cs.length = n * sz) : Rd (w.alloc (.cells cs.toArray E)) (w.heap.size + 1) sz (some ⟨w.heap.size, 0, none⟩) n cs := by
  refine ⟨h, fun k u hu => ⟨_, rfl, Nat.lt_succ_self _, ?_⟩⟩
  exact World.news_of_block (cs := cs.toArray) (heap_alloc_new w _) k u (by simpa using hu)
end Go.Proofs.Ytkljkiambjlnaaa
