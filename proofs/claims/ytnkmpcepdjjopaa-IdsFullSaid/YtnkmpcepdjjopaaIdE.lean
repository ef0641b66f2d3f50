/-
  Layer 16: a table of the call's own; the law's lives.
-/
import Derived.Test.YtnkmpcepdjjopaaIdD
namespace Go.Proofs.Ytnkmpcepdjjopaa
set_option linter.unusedSimpArgs false
set_option linter.unusedVariables false
open Go.RowKit

/-- A table in blocks of its own, made since w0. -/
structure Ot (w0 w : World) (g : Nat) (S : Nat → Prop) (t : Idt) : Prop where
  p : Pt w g S t
  r0 : ∀ i, S i → w0.heap.size ≤ i
  tw : Turn w0 w none
section
variable {w0 w w' : World} {g : Nat} {S : Nat → Prop} {t t' : Idt}
theorem Ot.turn0 (h : Ot w0 w g S t) (ht : Turn w w' none) : Ot w0 w' g S t := ⟨h.p.turn0 ht, h.r0, h.tw.trans ht⟩
theorem Ot.stp (h : Ot w0 w g S t) (s : Stp w w' S g t') : ∃ S', Ot w0 w' g S' t' := by
  obtain ⟨hc, S', hp, hk⟩ := s
  have s0 := h.tw.size
  exact ⟨S', hp, fun k h1 => (hk k h1).elim (h.r0 k) (fun h3 => by omega), ((Chg.of0 h.tw S).trans hc fun i hi => .inl hi).turn h.r0⟩
theorem make16_pt (h : Pt w g S t) {s : List UInt8} (hs : s.length ≤ 140737488355328) (hf : t.L.length ≤ 100000) :
    Calls Try.prog 13 #[.pointer (some ⟨g, 0, none⟩), .string (txt s)] w fun e w' => e = .returned (.tuple #[.int .u64 (((t.make s).2.1 : Nat) : Int), .int .i64 (((t.make s).2.2 : Nat) : Int)]) ∧ Stp w w' S g (t.make s).1 := by
  obtain ⟨m, c, x, y, z, es, h⟩ := h
  exact make16_any h hs hf
theorem of16_pt (h : Pt w g S t) {s : List UInt8} (hs : s.length ≤ maxLen) :
    Calls Try.prog 17 #[.pointer (some ⟨g, 0, none⟩), .string (txt s)] w fun e w' => e = .returned (.tuple #[.int .u64 ((t.of s : Nat) : Int), .bool (decide (t.of s ≠ 0))]) ∧ w = w' := by
  obtain ⟨m, c, x, y, z, es, h⟩ := h
  exact of16_any h hs
theorem len16_pt (h : Pt w g S t) : Calls Try.prog 15 #[.pointer (some ⟨g, 0, none⟩)] w fun e w' => e = .returned (.int .i64 (t.L.length : Int)) ∧ w = w' := by
  obtain ⟨m, c, x, y, z, es, h⟩ := h
  exact len16_any h
theorem text16_pt (h : Pt w g S t) (hf : t.L.length ≤ 100000) (n : Nat) (hn : n ≤ 18446744073709551615) :
    Calls Try.prog 16 #[.pointer (some ⟨g, 0, none⟩), .int .u64 (n : Int)] w fun e w' => e = .returned (.tuple #[.string (txt (t.text n).1), .bool (t.text n).2]) ∧ w = w' := by
  obtain ⟨m, c, x, y, z, es, h⟩ := h
  exact text16_any h hf n hn
end
theorem live1 : (Idt.nu 9).make [97] = (⟨9, [[97]], []⟩, 1, 0) := rfl
theorem live2 : Idt.make ⟨9, [[97]], []⟩ [98] = (⟨9, [[97], [98]], []⟩, 2, 0) := rfl
theorem live3 : Idt.make ⟨9, [[97], [98]], []⟩ [97] = (⟨9, [[97], [98]], []⟩, 1, 0) := rfl
set_option maxRecDepth 100000 in
set_option maxHeartbeats 1600000 in
theorem lives16_any (w : World) : Calls Try.prog 12 #[] w fun e w' => e = .returned (.bool true) ∧ Turn w w' none := by
  have kn := new16_any 9 w (by omega)
  have k1 := fun (w : World) g S (h : Pt w g S (Idt.nu 9)) => make16_pt h (s := [97]) (by simp) (by simp [Idt.nu])
  have k2 := fun (w : World) g S (h : Pt w g S ⟨9, [[97]], []⟩) => make16_pt h (s := [98]) (by simp) (by simp)
  have k3 := fun (w : World) g S (h : Pt w g S ⟨9, [[97], [98]], []⟩) => make16_pt h (s := [97]) (by simp) (by simp)
  simp only [live1] at k1
  simp only [live2] at k2
  simp only [live3] at k3
  have ea : txt [97] = ⟨#[97]⟩ := rfl
  have eb : txt [98] = ⟨#[98]⟩ := rfl
  simp only [ea] at k1 k3
  simp only [eb] at k2
  go_enter Try.func12, Try.ntmps12
  go_wp2_with (first
    | (go_at_call 15; refine (len16_pt p4).mono ?_; rintro e w9 ⟨rfl, rfl⟩)
    | (have q9 := s3; go_at_call 13; refine (k3 _ _ _ p3).mono ?_; rintro e w4 ⟨rfl, s4⟩; obtain ⟨S4, o4⟩ := o3.stp s4; have p4 := o4.p)
    | (have q9 := s2; go_at_call 13; refine (k2 _ _ _ p2).mono ?_; rintro e w3 ⟨rfl, s3⟩; obtain ⟨S3, o3⟩ := o2.stp s3; have p3 := o3.p)
    | (have q9 := o1; go_at_call 13; refine (k1 _ _ _ p1).mono ?_; rintro e w2 ⟨rfl, s2⟩; obtain ⟨S2, o2⟩ := o1.stp s2; have p2 := o2.p)
    | (go_at_call 6; refine kn.mono ?_; rintro e w1 ⟨g, rfl, ⟨S1, p1, r1⟩, t1⟩; have o1 : Ot w w1 g S1 (Idt.nu 9) := ⟨p1, r1, t1⟩))
  go_ret
  exact ⟨rfl, o4.tw⟩
end Go.Proofs.Ytnkmpcepdjjopaa
