/-
  Layer 16, the code: a text gets the next id; Make.
-/
import Derived.Test.YtnkmpcepdjjopaaIdC
namespace Go.Proofs.Ytnkmpcepdjjopaa
set_option linter.unusedSimpArgs false
set_option linter.unusedVariables false
open Go.RowKit

section
variable {w w' : World} {base b2 sz s2 n m c d : Nat} {E F : TypeId} {A A2 : Option Addr} {xs ys : List Value}
/-- A row of another type turns; this one doesn't. -/
theorem Own.turnO (h : Own w base E sz A n c xs) (k : Own w b2 F s2 A2 m d ys) (ne : E ≠ F) (ht : Turn w w' (blk A2)) : Own w' base E sz A n c xs := by
  refine h.turn ht ?_
  rcases hh : blk A2 with _ | q
  · exact .inl rfl
  · exact .inr (k.notO h (fun e => ne e.symm) hh)
end
theorem Chg.of_blk {w w' : World} {S : Nat → Prop} {A : Option Addr} (ht : Turn w w' (blk A)) (hs : ∀ k, blk A = some k → S k) : Chg w w' S := Chg.of ht fun i e => hs i e
section
variable {w : World} {g m clock : Nat} {S : Nat → Prop} {x y z : Slc} {es : List MapEntry} {t : Idt}
set_option maxRecDepth 100000 in
set_option maxHeartbeats 1600000 in
theorem add16_any (h : PT w g S m clock x y z es t) {s : List UInt8} (hs : s.length ≤ 140737488355328) (h0 : t.of s = 0) (hl : t.L.length < t.lim) (hf : t.L.length ≤ 100000) :
    Calls Try.prog 25 #[.pointer (some ⟨g, 0, none⟩), .string (txt s)] w fun e w' => e = .returned (.int .u64 ((t.L.length + 1 : Nat) : Int)) ∧ Stp w w' S g { t with L := t.L ++ [s] } := by
  have hx := h.hx
  have hy := h.hy
  have xn := h.xn
  have yn := h.yn
  have B0 := h.b
  have m0 := h.mp
  have hz0 := h.hz
  have hen := h.en.put s clock
  have hwf := h.wf.put h0 hl
  have gx := h.gx
  have gy := h.gy
  have mx := h.mx
  have my := h.my
  have mz := h.mz
  have mg := h.notG
  have hno : ∀ e ∈ es, e.key ≠ .string (txt s) := fun e he hk => (h.en.yes h.wf he hk).1 h0
  obtain ⟨k, hkey⟩ := keyS (l := s) (by unfold maxLen; omega)
  obtain ⟨xA, xn', xc⟩ := x
  obtain ⟨yA, yn', yc⟩ := y
  obtain ⟨zA, zn, zc⟩ := z
  simp only at xn yn hx hy hz0 gx gy mx my mz
  subst xn
  subst yn
  simp only [Slc.v] at B0
  have hfl : fvs (t.L.length + 1) t.B = fvs t.L.length t.B ++ [.bool false] := fvs_succ _ _ fun p hp => (h.wf.id p hp).2
  obtain ⟨N, hN⟩ : ∃ N, N = t.L.length := ⟨_, rfl⟩
  rw [← hN] at hx hy B0 hfl hf hen ⊢
  have HN := hid hN
  clear hN
  have HE := hid hen
  have HW := hid hwf
  have HO := hid hno
  have HL := hid hfl
  clear hen hwf hno hfl hl h0
  have c2 : w.cell? ⟨g, 2, none⟩ = some (.slice xA N xc) := B0.ats rfl
  go_enter Try.func25, Try.ntmps25
  go_upto_region 2 with (at_builtin; refine wp_appW rfl _ _ _ rfl elS rfl rfl (hx.alloc _) (Rd.lit w 9 [.string (txt s)]) (by repeat (first | exact ones_nil | refine ones_cons rfl ?_)) (by unfold maxLen; first | omega | (simp; done) | (simp; omega)) (by first | omega | (simp; done) | (simp; omega)) (Nat.zero_le _) ?_; intro A1 c1 w1 ho1 ht1 hb1; have T1 : Turn w w1 (blk xA) := ((Turn.refl w _).alloc _).trans ht1; have B1 := B0.turn T1 (fun e => gx e.symm); have d2 : w1.cell? ⟨g, 2, none⟩ = some (.slice xA N xc) := B1.ats rfl; have f2 := B1.frozen 2)
  have hy1 := hy.turnO hx (by decide) T1
  have hz1 := hz0.turnO hx (by decide) T1
  have m1 := m0.turn T1 (fun e => mx e.symm)
  obtain ⟨w2, hw2⟩ : ∃ w2, w2 = w1.setCell ⟨g, 2, none⟩ (.slice A1 (N + 1) c1) := ⟨_, rfl⟩
  have B2 := B1.sets 2 (.slice A1 (N + 1) c1)
  have T2 := Blk.setTurn w1 g 2 (.slice A1 (N + 1) c1)
  rw [← hw2] at B2 T2 ⊢
  clear hw2
  have B2 : Blk w2 g 55 [.int .u64 (t.lim : Int), .map (some m), .slice A1 (N + 1) c1, .slice yA N yc, .slice zA zn zc].toArray := B2
  have ho2 := ho1.turn T2 (.inr (ho1.notB B1 (by decide)))
  have hy2 := hy1.turn T2 (.inr (hy1.notB B1 (by decide)))
  have hz2 := hz1.turn T2 (.inr (hz1.notB B1 (by decide)))
  have m2 := m1.turn T2 mg
  have c3 : w2.cell? ⟨g, 3, none⟩ = some (.slice yA N yc) := B2.ats rfl
  clear c2 d2 f2
  go_upto_region 3 with (at_builtin; refine wp_appW rfl _ _ _ rfl elF rfl rfl (hy2.alloc _) (Rd.lit w2 4 [.bool false]) (by repeat (first | exact ones_nil | refine ones_cons rfl ?_)) (by unfold maxLen; first | omega | (simp; done) | (simp; omega)) (by first | omega | (simp; done) | (simp; omega)) (Nat.zero_le _) ?_; intro A3 c3' w3 ho3 ht3 hb3; have T3 : Turn w2 w3 (blk yA) := ((Turn.refl w2 _).alloc _).trans ht3; have B3 := B2.turn T3 (fun e => gy e.symm); have d3 : w3.cell? ⟨g, 3, none⟩ = some (.slice yA N yc) := B3.ats rfl; have f3 := B3.frozen 3)
  have hx3 := ho2.turnO hy2 (by decide) T3
  have hz3 := hz2.turnO hy2 (by decide) T3
  have m3 := m2.turn T3 (fun e => my e.symm)
  obtain ⟨w4, hw4⟩ : ∃ w4, w4 = w3.setCell ⟨g, 3, none⟩ (.slice A3 (N + 1) c3') := ⟨_, rfl⟩
  have B4 := B3.sets 3 (.slice A3 (N + 1) c3')
  have T4 := Blk.setTurn w3 g 3 (.slice A3 (N + 1) c3')
  rw [← hw4] at B4 T4 ⊢
  clear hw4
  have B4 : Blk w4 g 55 [.int .u64 (t.lim : Int), .map (some m), .slice A1 (N + 1) c1, .slice A3 (N + 1) c3', .slice zA zn zc].toArray := B4
  have hx4 := hx3.turn T4 (.inr (hx3.notB B3 (by decide)))
  have hy4 := ho3.turn T4 (.inr (ho3.notB B3 (by decide)))
  have hz4 := hz3.turn T4 (.inr (hz3.notB B3 (by decide)))
  have m4 := m3.turn T4 mg
  have c1' : w4.cell? ⟨g, 1, none⟩ = some (.map (some m)) := B4.ats rfl
  have c2 : w4.cell? ⟨g, 2, none⟩ = some (.slice A1 (N + 1) c1) := B4.ats rfl
  clear c3 d3 f3
  obtain ⟨w5, hput, m5, T5⟩ := m4.put keysS Try.underlying52 (.int .u64 ((N + 1 : Nat) : Int)) hkey HO.out
  have hput2 : (Instr.mapUpdate 52 (.map (some m)) (.string (txt s)) (.int .u64 ((N : Int) + 1))).run Try.prog w4 = .ok () w5 := hput
  go_wp2_with (rw [hput2]; go_simp)
  go_ret
  have em : ∀ A n c E sz xs, Own w4 0 E sz A n c xs → blk A ≠ some m := fun A n c E sz xs ho e => by
    obtain ⟨cur, h1, _⟩ := ho.obj e
    rw [m4.blk] at h1
    cases h1
  have sz1 := T1.size
  have sz2 := T2.size
  have sz3 := T3.size
  have sz4 := T4.size
  have sz5 := T5.size
  have C1 : Chg w w1 S := Chg.of_blk T1 h.sx
  have C2 : Chg w1 w2 S := Chg.of T2 fun i e => by injection e with e; exact e ▸ h.sg
  have C3 : Chg w2 w3 S := Chg.of_blk T3 h.sy
  have C4 : Chg w3 w4 S := Chg.of T4 fun i e => by injection e with e; exact e ▸ h.sg
  have C5 : Chg w4 w5 S := Chg.of T5 fun i e => by injection e with e; exact e ▸ h.sm
  have CC := (((C1.trans C2 fun i hi => .inl hi).trans C3 fun i hi => .inl hi).trans C4 fun i hi => .inl hi).trans C5 fun i hi => .inl hi
  have hx5 := hx4.turn T5 (.inr (em _ _ _ _ _ _ hx4))
  have hy5 := hy4.turn T5 (.inr (em _ _ _ _ _ _ hy4))
  have hz5 := hz4.turn T5 (.inr (em _ _ _ _ _ _ hz4))
  have e1 : ∀ k, blk A1 = some k → S k ∨ w.heap.size ≤ k := fun k e => by
    rcases hb1 with q | q
    · exact .inl (h.sx k (q ▸ e))
    · rw [q] at e
      injection e with e
      right
      rw [← e]
      show _ ≤ (w.heap.push _).size
      rw [Array.size_push]; omega
  have e3 : ∀ k, blk A3 = some k → S k ∨ w.heap.size ≤ k := fun k e => by
    rcases hb3 with q | q
    · exact .inl (h.sy k (q ▸ e))
    · rw [q] at e
      injection e with e
      right
      rw [← e]
      show _ ≤ (w2.heap.push _).size
      rw [Array.size_push]; omega
  have hN1 : N + 1 = (t.L ++ [s]).length := by rw [HN.out]; simp
  refine ⟨rfl, CC, fun i => S i ∨ blk A1 = some i ∨ blk A3 = some i, ⟨m, clock + 1, ⟨A1, N + 1, c1⟩, ⟨A3, N + 1, c3'⟩, ⟨zA, zn, zc⟩, _, B4.turn T5 (fun e => mg e.symm), m5, HE.out, ?_, ?_, hz5, .inl h.sg, .inl h.sm, fun k e => .inr (.inl e), fun k e => .inr (.inr e), fun k e => .inl (h.sz k e), ?_, HW.out⟩, ?_⟩
  · show Own w5 0 9 1 A1 (N + 1) c1 (tvs (t.L ++ [s]))
    rw [tvs_app]
    exact hx5
  · show Own w5 0 4 1 A3 (N + 1) c3' (fvs (t.L ++ [s]).length t.B)
    rw [← hN1, HL.out]
    exact hy5
  · rintro i (hi | hi | hi)
    · have := h.lt i hi; omega
    · exact (hx5.block i hi).2
    · exact (hy5.block i hi).2
  · rintro i (hi | hi | hi)
    · exact .inl hi
    · exact e1 i hi
    · exact e3 i hi
/-- Make. -/
def errM (n : Nat) : Value := .int .i64 (n : Int)
set_option maxRecDepth 100000 in
set_option maxHeartbeats 1600000 in
theorem make16_any (h : PT w g S m clock x y z es t) {s : List UInt8} (hs : s.length ≤ 140737488355328) (hf : t.L.length ≤ 100000) :
    Calls Try.prog 13 #[.pointer (some ⟨g, 0, none⟩), .string (txt s)] w fun e w' => e = .returned (.tuple #[.int .u64 (((t.make s).2.1 : Nat) : Int), .int .i64 (((t.make s).2.2 : Nat) : Int)]) ∧ Stp w w' S g (t.make s).1 := by
  have c0 : w.cell? ⟨g, 0, none⟩ = some (.int .u64 (t.lim : Int)) := h.b.ats rfl
  have c1 : w.cell? ⟨g, 1, none⟩ = some (.map (some m)) := h.b.ats rfl
  have c2 : w.cell? ⟨g, 2, none⟩ = some (.slice x.A t.L.length x.c) := by rw [← h.xn]; exact h.b.ats rfl
  have lk := look16 h (s := s) (by unfold maxLen; omega)
  have hlm := h.wf.lm
  have hln := h.wf.ln
  have kc := fun w => sclone16_any s w hs
  rcases t.make_cases s with ⟨h1, h2⟩ | ⟨h1, h3, h2⟩ | ⟨h1, h3, h2⟩
  · rw [h2]
    rw [decide_eq_true h1] at lk
    have hP := Stp.same ⟨m, clock, x, y, z, es, h⟩ (Turn.refl w none)
    have HP := hid hP
    generalize ((t.of s : Nat) : Int) = k at *
    clear h h1 h2 hP
    go_enter Try.func13, Try.ntmps13
    go_wp2_with (rw [lk]; go_simp)
    go_ret2
    exact ⟨rfl, HP.out⟩
  · rw [h2]
    rw [h1] at lk
    have hP := fun q => Stp.same ⟨m, clock, x, y, z, es, h⟩ ((Turn.refl w none).drewN q)
    have HP := hid hP
    generalize t.L.length = L at *
    generalize t.lim = M at *
    clear h h1 h2 hP
    go_enter Try.func13, Try.ntmps13
    go_wp2_with (rw [lk]; go_simp)
    go_quiet (fail)
    go_wp2
    go_ret2
    exact ⟨rfl, HP.out _⟩
  · have ka := fun {w1 : World} (T : Turn w w1 none) => add16_any (h.turn0 T) hs h1 h3 hf
    rw [h2]
    rw [h1] at lk
    obtain ⟨L, hL⟩ : ∃ L, L = t.L.length := ⟨_, rfl⟩
    obtain ⟨M, hM⟩ : ∃ M, M = t.lim := ⟨_, rfl⟩
    simp only [← hL] at ka c2 hf ⊢
    rw [← hM] at c0
    rw [← hL, ← hM] at h3
    rw [← hM] at hlm
    clear h h1 h2 hL hM hln
    go_enter Try.func13, Try.ntmps13
    go_wp2_with (rw [lk]; go_simp)
    go_quiet (fail)
    go_wp2_with (first
      | (go_at_call 26; refine (kc _).mono ?_; rintro e w1 ⟨rfl, t1⟩)
      | (go_at_call 25; refine (ka t1.undrewN).mono ?_; rintro e w2 ⟨rfl, s2⟩))
    go_ret2
    exact ⟨rfl, s2.ahead t1.undrewN⟩
end
end Go.Proofs.Ytnkmpcepdjjopaa
