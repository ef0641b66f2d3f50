/-
  Layer 6: the statements' walks, over the contracts of the code's Words, Name and Number.
-/
import Derived.Test.YtkljkiambjlnaaaLa
import Derived.Test.YtkljkiambjlnaaaTk
import Derived.WalkSpells
namespace Go.Proofs.Ytkljkiambjlnaaa
open Go.RowKit

/-- What Words leaves. -/
def WdPost (l : List UInt8) (w : World) (e : Ending) (w' : World) : Prop :=
  (∃ ts A n c, wWords l = .ok ts ∧ e = .returned (.tuple #[.slice A n c, .int .i64 0, .int .i64 0]) ∧ Own w' w.heap.size 31 3 A n c (tcs ts) ∧ Turn w w' none) ∨
  (∃ p er : Nat, wWords l = .error (p, er) ∧ er ≠ 0 ∧ e = .returned (.tuple #[.slice none 0 0, .int .i64 (p : Int), .int .i64 (er : Int)]) ∧ Turn w w' none)
/-- The contracts that the code owes. -/
structure LexDone : Prop where
  words : ∀ (s : ByteArray) (l : List UInt8) (w : World), Tx s l → l.length ≤ 140737488355328 → Calls Try.prog 11 #[.string s] w (WdPost l w)
  name : ∀ (s : ByteArray) (l : List UInt8) (w : World), Tx s l → l.length ≤ 140737488355328 → Calls Try.prog 8 #[.string s] w fun e w' => e = .returned (.bool (wName l)) ∧ Turn w w' none
  number : ∀ (s : ByteArray) (l : List UInt8) (w : World), Tx s l → l.length ≤ 140737488355328 → Calls Try.prog 6 #[.string s] w fun e w' => e = .returned (.tuple #[.int .i64 ((if wOk l then wNumAt l else 0 : Nat) : Int), .bool (wOk l)]) ∧ Turn w w' none

theorem words_ok (D : LexDone) (s : ByteArray) (l : List UInt8) (w : World) (hs : Tx s l) (hl : l.length ≤ 140737488355328) {ts : List Tok} (h : wWords l = .ok ts) :
    Calls Try.prog 11 #[.string s] w fun e w' => ∃ g c, e = .returned (.tuple #[.slice (some ⟨g, 0, none⟩) ts.length c, .int .i64 0, .int .i64 0]) ∧ Own w' w.heap.size 31 3 (some ⟨g, 0, none⟩) ts.length c (tcs ts) ∧ Turn w w' none := by
  refine (D.words s l w hs hl).mono ?_
  rintro e w' (⟨us, A, n, c, h1, rfl, ho, ht⟩ | ⟨p, er, h1, _⟩)
  · rw [h] at h1
    injection h1 with h1
    subst h1
    have hn := ho.len_
    rw [tcs_len] at hn
    obtain rfl : n = ts.length := by omega
    have hp : 0 < ts.length := by
      have := (wWords_ord h).2.1
      cases ts with
      | nil => exact absurd rfl this
      | cons t r => simp
    obtain ⟨g, rfl, _, _⟩ := ho.head hp
    exact ⟨g, c, rfl, ho, ht⟩
  · rw [h] at h1; cases h1
theorem words_no (D : LexDone) (s : ByteArray) (l : List UInt8) (w : World) (hs : Tx s l) (hl : l.length ≤ 140737488355328) {x : Nat × Nat} (h : wWords l = .error x) :
    Calls Try.prog 11 #[.string s] w fun e w' => ∃ p er : Nat, e = .returned (.tuple #[.slice none 0 0, .int .i64 (p : Int), .int .i64 (er : Int)]) ∧ er ≠ 0 ∧ Turn w w' none := by
  refine (D.words s l w hs hl).mono ?_
  rintro e w' (⟨us, A, n, c, h1, _⟩ | ⟨p, er, _, h2, rfl, ht⟩)
  · rw [h] at h1; cases h1
  · exact ⟨p, er, rfl, h2, ht⟩

set_option maxRecDepth 100000 in
set_option maxHeartbeats 800000 in
theorem xlives_any (D : LexDone) (w : World) : Calls Try.prog 10 #[] w fun e w' => e = .returned (.bool true) ∧ Turn w w' none := by
  have hk : wWords [97, 58, 105, 110, 116, 59] = .ok [⟨0, [97], 0⟩, ⟨2, [58], 1⟩, ⟨0, [105, 110, 116], 2⟩, ⟨2, [59], 5⟩, ⟨3, [], 6⟩] := by rfl
  have e4 : ((txt [105, 110, 116]).toList == [105, 110, 116]) = true := by rw [(show Tx (txt [105, 110, 116]) [105, 110, 116] from rfl).list]; decide
  have n1 := hid (show wName [97, 49, 95] = true by decide)
  have n2 := hid (show wName [49, 97] = false by decide)
  go_enter Try.func10, Try.ntmps10
  go_wp2_with (first
    | (go_at_call 11; refine (words_ok D _ [97, 58, 105, 110, 116, 59] _ rfl (by decide) hk).mono ?_; rintro e w1 ⟨g, c, rfl, ho, ht1⟩; have c7 : w1.cell? ⟨g, 7, none⟩ = some (.string (txt [105, 110, 116])) := ho.cell (by decide); have c14 : w1.cell? ⟨g, 14, none⟩ = some (.int .i64 6) := ho.cell (by decide))
    | (go_at_call_of 8 (Value.string ⟨#[97, 49, 95]⟩); refine (D.name _ [97, 49, 95] _ rfl (by decide)).mono ?_; rintro e w2 ⟨rfl, ht2⟩; rw [n1.out])
    | (go_at_call 8; refine (D.name _ [49, 97] _ rfl (by decide)).mono ?_; rintro e w3 ⟨rfl, ht3⟩; rw [n2.out]))
  go_ret
  exact ⟨rfl, (ht1.trans ht2).trans ht3⟩

set_option maxRecDepth 100000 in
set_option maxHeartbeats 800000 in
theorem names_walk (D : LexDone) (s : ByteArray) (l : List UInt8) (w : World) (hs : Tx s l) (hl : l.length ≤ 140737488355328) : Calls Try.prog 3 #[.string s] w fun e w' => e = .returned (.bool true) ∧ Turn w w' none := by
  obtain ⟨b, hb⟩ : ∃ b, b = wOk l := ⟨_, rfl⟩
  obtain ⟨v, hv⟩ : ∃ v : Nat, v = (if wOk l then wNumAt l else 0) := ⟨_, rfl⟩
  obtain ⟨c, hc⟩ : ∃ c, c = wName l := ⟨_, rfl⟩
  have HB := hid hb
  have HV := hid hv
  have HC := hid hc
  clear hb hv hc
  have e1 : ((v : Int) == (v : Int)) = true := by simp
  have e2 : (b == b) = true := by simp
  have e3 : (c == c) = true := by simp
  go_enter Try.func3, Try.ntmps3
  go_wp2_with (first
    | (go_at_call 6; refine (D.number s l _ hs hl).mono ?_; rintro e w1 ⟨rfl, ht1⟩; rw [← HV.out, ← HB.out])
    | (go_at_call 7; refine (rnumber_any s l _ hs (by rw [hs.size]; exact hl)).mono ?_; rintro e w' ⟨rfl, rfl⟩; rw [← HV.out, ← HB.out])
    | (go_at_call 8; refine (D.name s l _ hs hl).mono ?_; rintro e w2 ⟨rfl, ht2⟩; rw [← HC.out])
    | (go_at_call 9; refine (rname_any s l _ hs).mono ?_; rintro e w' ⟨rfl, rfl⟩; rw [← HC.out])
    | (go_at_call 10; refine (xlives_any D _).mono ?_; rintro e w3 ⟨rfl, ht3⟩))
  go_ret
  exact ⟨rfl, (ht1.trans ht2).trans ht3⟩
end Go.Proofs.Ytkljkiambjlnaaa
