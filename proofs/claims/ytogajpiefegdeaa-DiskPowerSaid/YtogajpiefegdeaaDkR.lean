/-
  Layer 14: the disk alone, in blocks made since some world; the law's lives, begins (contracts).
-/
import Derived.Test.YtogajpiefegdeaaDkF
import Derived.Test.YtogajpiefegdeaaDkG
import Derived.Test.YtogajpiefegdeaaDkH
import Derived.Lib.SlBytesConst
namespace Go.Proofs.Ytogajpiefegdeaa
set_option linter.unusedSimpArgs false
set_option linter.unusedVariables false
open Go.RowKit

/-- The disk, in blocks of its own, made since w0. -/
structure Bo (w0 w : World) (g : Nat) (R : Nat → Prop) (D : Dsk) : Prop where
  p : Pk w g R D
  r0 : ∀ k, R k → w0.heap.size ≤ k
  tw : Turn w0 w none
section
variable {w0 w w' : World} {g : Nat} {R : Nat → Prop} {D D' : Dsk}
theorem Bo.turn0 (h : Bo w0 w g R D) (ht : Turn w w' none) : Bo w0 w' g R D := by
  obtain ⟨⟨S, v, u, lv, hp, hR⟩, h2, h3⟩ := h
  exact ⟨⟨S, v, u, lv, hp.turn0 ht, hR⟩, h2, h3.trans ht⟩
theorem Bo.stp (h : Bo w0 w g R D) (s : Stp w w' R g D') : ∃ R', Bo w0 w' g R' D' := by
  obtain ⟨hc, R', hp, hk⟩ := s
  have s0 := h.tw.size
  exact ⟨R', hp, fun k h1 => (hk k h1).elim (h.r0 k) (fun h3 => by omega), ((Chg.of0 h.tw R).trans hc fun i hi => .inl hi).turn h.r0⟩
theorem Bo.lit (h : Bo w0 w g R D) {k : Nat} (e : w.heap.size ≤ k) : ¬ R k := fun hk => by have := h.p.lt hk; omega
end
theorem new_bo (lim : Int) (w : World) :
    Calls Try.prog 8 #[.int .i64 lim] w fun e w' => ∃ g R, e = .returned (.pointer (some ⟨g, 0, none⟩)) ∧ Bo w w' g R (newD lim) :=
  (new_any lim w).mono fun e w' ⟨g, hg, he, hp, ht⟩ => ⟨g, fun k => k = g ∨ False ∨ False, he, ⟨⟨_, _, _, _, hp, fun k => Iff.rfl⟩, fun k hk => by
    rcases hk with rfl | hk | hk
    · exact hg
    · exact hk.elim
    · exact hk.elim, ht⟩⟩
theorem size_pk {w : World} {g : Nat} {R : Nat → Prop} {D : Dsk} (h : Pk w g R D) :
    Calls Try.prog 12 #[.pointer (some ⟨g, 0, none⟩)] w fun e w' => e = .returned (.int .i64 (D.size : Int)) ∧ Turn w w' none := by
  obtain ⟨S, v, u, lv, hp, hR⟩ := h
  exact size_any hp
theorem dead_pk {w : World} {g : Nat} {R : Nat → Prop} {D : Dsk} (h : Pk w g R D) :
    Calls Try.prog 11 #[.pointer (some ⟨g, 0, none⟩)] w fun e w' => e = .returned (.bool D.dead) ∧ w = w' := by
  obtain ⟨S, v, u, lv, hp, hR⟩ := h
  exact dead_any hp
theorem read_bo {w : World} {g : Nat} {R : Nat → Prop} {D : Dsk} (h : Pk w g R D) (n : Int) :
    Calls Try.prog 18 #[.pointer (some ⟨g, 0, none⟩), .int .i64 n] w fun e w' => ∃ A c,
      e = .returned (.tuple #[.slice A (D.rd n).length c, .int .i64 (D.dErr n)]) ∧ Own w' w.heap.size 5 1 A (D.rd n).length c (vbs (D.rd n)) ∧ Turn w w' none := by
  obtain ⟨S, v, u, lv, hp, hR⟩ := h
  exact read_any hp n

def dl0 : Dsk := newD 100
def dl1 : Dsk := dl0.wr 0 [97, 98]
def dl2 : Dsk := dl1.sy 0
def dl3 : Dsk := dl2.wr 0 [99, 100]
def dl4 : Dsk := dl3.crash 1 [120]
theorem dl_all : dl0.wErr 0 [97, 98] = 0 ∧ dl1.cErr 0 = 0 ∧ dl2.wErr 0 [99, 100] = 0 ∧ dl4.dErr 0 = 0 ∧ dl4.rd 0 = [97, 98, 99, 120] ∧ dl4.size = 4 := by decide

set_option maxRecDepth 100000 in
set_option maxHeartbeats 3200000 in
theorem dlives_any (w : World) : Calls Try.prog 14 #[] w fun e w' => e = .returned (.bool true) ∧ Turn w w' none := by
  obtain ⟨e1, e2, e3, e4, e5, e6⟩ := dl_all
  have hnew := new_bo 100 w
  have hw1 : ∀ {V g R}, Bo w V g R dl0 → ∀ A m c B, Rd V B 1 A m (vbs [97, 98]) → B ≤ V.heap.size → m ≤ 140737488355328 → (∀ k, blk A = some k → 0 < m → ¬ R k) → Calls Try.prog 15 #[.pointer (some ⟨g, 0, none⟩), .int .i64 0, .slice A m c] V fun e w' => e = .returned (.int .i64 0) ∧ Stp V w' R g dl1 := by
    intro V g R h A m c B h1 h2 h3 h4
    have k := write_any h.p 0 A m c B [97, 98] h1 h2 h3 h4
    rw [e1] at k
    exact k
  have hw3 : ∀ {V g R}, Bo w V g R dl2 → ∀ A m c B, Rd V B 1 A m (vbs [99, 100]) → B ≤ V.heap.size → m ≤ 140737488355328 → (∀ k, blk A = some k → 0 < m → ¬ R k) → Calls Try.prog 15 #[.pointer (some ⟨g, 0, none⟩), .int .i64 0, .slice A m c] V fun e w' => e = .returned (.int .i64 0) ∧ Stp V w' R g dl3 := by
    intro V g R h A m c B h1 h2 h3 h4
    have k := write_any h.p 0 A m c B [99, 100] h1 h2 h3 h4
    rw [e3] at k
    exact k
  have hs2 : ∀ {V g R}, Bo w V g R dl1 → Calls Try.prog 16 #[.pointer (some ⟨g, 0, none⟩), .int .i64 0] V fun e w' => e = .returned (.int .i64 0) ∧ Stp V w' R g dl2 := by
    intro V g R h
    have k := sync_any h.p 0
    rw [e2] at k
    exact k
  have hr4 : ∀ {V g R}, Bo w V g R dl4 → Calls Try.prog 18 #[.pointer (some ⟨g, 0, none⟩), .int .i64 0] V fun e w' => ∃ A c, e = .returned (.tuple #[.slice A 4 c, .int .i64 0]) ∧ Own w' V.heap.size 5 1 A 4 c (vbs [97, 98, 99, 120]) ∧ Turn V w' none := by
    intro V g R h
    have k := read_bo h.p 0
    rw [e4, e5] at k
    exact k
  have hz4 : ∀ {V g R}, Bo w V g R dl4 → Calls Try.prog 12 #[.pointer (some ⟨g, 0, none⟩)] V fun e w' => e = .returned (.int .i64 4) ∧ Turn V w' none := by
    intro V g R h
    have k := size_pk h.p
    rw [e6] at k
    exact k
  clear e1 e2 e3 e4 e5 e6
  have hq : ((txt [97, 98, 99, 120]).toList == [97, 98, 99, 120]) = true := by rw [txt_eq]; rfl
  have kc := fun (w : World) (C : Array Value) (n c : Nat) => Lib.run_convert_bytes_const (P := Try.prog) w 28 5 C n c Try.underlying28 Try.underlying5
  go_enter Try.func14, Try.ntmps14
  go_wp2_with (first
    | (go_at_call 8; refine hnew.mono ?_; rintro e w1 ⟨g, R1, rfl, h1⟩)
    | (go_at_call 15; refine (hw3 (h3.turn0 ((Turn.refl w3 none).alloc _)) _ _ _ (w3.heap.size + 1) (show Rd (w3.alloc (.cells #[.int .u8 99, .int .u8 100] 5 (2, 3))) _ 1 _ 2 (vbs [99, 100]) from Rd.litF w3 _ (2, 3) (vbs [99, 100])) (by show _ ≤ (w3.heap.push _).size; rw [Array.size_push]; omega) (by omega) (fun k e _ => h3.lit (by simp [blk] at e; omega))).mono ?_; rintro e w4 ⟨rfl, s4⟩; obtain ⟨R4, h4⟩ := (h3.turn0 ((Turn.refl w3 none).alloc _)).stp s4)
    | (go_at_call 15; refine (hw1 (h1.turn0 ((Turn.refl w1 none).alloc _)) _ _ _ (w1.heap.size + 1) (show Rd (w1.alloc (.cells #[.int .u8 97, .int .u8 98] 5 (2, 3))) _ 1 _ 2 (vbs [97, 98]) from Rd.litF w1 _ (2, 3) (vbs [97, 98])) (by show _ ≤ (w1.heap.push _).size; rw [Array.size_push]; omega) (by omega) (fun k e _ => h1.lit (by simp [blk] at e; omega))).mono ?_; rintro e w2 ⟨rfl, s2⟩; obtain ⟨R2, h2⟩ := (h1.turn0 ((Turn.refl w1 none).alloc _)).stp s2)
    | (go_at_call 16; refine (hs2 h2).mono ?_; rintro e w3 ⟨rfl, s3⟩; obtain ⟨R3, h3⟩ := h2.stp s3)
    | (go_at_call 17; refine (crash_any (h4.turn0 ((Turn.refl w4 none).alloc _)).p 1 (by omega) (by omega) _ 1 1 (w4.heap.size + 1) [120] (show Rd (w4.alloc (.cells #[.int .u8 120] 5 (1, 2))) _ 1 _ 1 (vbs [120]) from Rd.litF w4 _ (1, 2) (vbs [120])) (by show _ ≤ (w4.heap.push _).size; rw [Array.size_push]; omega) (by omega) (by omega) (by unfold maxLen; first | omega | (simp; done) | (simp; omega)) (fun k e _ => h4.lit (by simp [blk] at e; omega))).mono ?_; rintro e w5 ⟨rfl, s5⟩; obtain ⟨R5, h5⟩ := (h4.turn0 ((Turn.refl w4 none).alloc _)).stp s5)
    | (go_at_call 18; refine (hr4 h5).mono ?_; rintro e w6 ⟨A6, c6, rfl, ho6, t6⟩; have h6 := h5.turn0 t6; have x6 := str_run w6 (c := c6) ho6.rd)
    | (go_at_call 12; refine (hz4 h6).mono ?_; rintro e w7 ⟨rfl, t7⟩))
  go_ret
  exact ⟨rfl, h6.tw.trans t7⟩
end Go.Proofs.Ytogajpiefegdeaa
