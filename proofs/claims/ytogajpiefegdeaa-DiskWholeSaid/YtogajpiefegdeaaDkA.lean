/-
  Layer 14: a disk in memory, the code's; call and look (contracts).
-/
import Derived.Test.YtogajpiefegdeaaDkP
namespace Go.Proofs.Ytogajpiefegdeaa
set_option linter.unusedSimpArgs false
set_option linter.unusedVariables false
open Go.RowKit

/-- A slice value. -/
structure Sl where
  A : Option Addr
  n : Nat
  c : Nat
def Sl.v (s : Sl) : Value := .slice s.A s.n s.c
/-- A file in memory: what is written, and what stands fast, in blocks of S; these may share their first bytes. -/
structure Fil (w : World) (S : Nat → Prop) (f : Fi) (v u : Sl) : Prop where
  hv : Own w 0 5 1 v.A v.n v.c (vbs f.all)
  hu : Own w 0 5 1 u.A u.n u.c (vbs f.fa)
  sv : ∀ g, blk v.A = some g → S g
  su : ∀ g, blk u.A = some g → S g
  pre : ∀ g, blk v.A = some g → blk u.A = some g → f.fa <+: f.all
def pdc (D : Dsk) (v u : Nat → Sl) (lv : Int) : List Value :=
  [.int .i64 D.lim, (v 0).v, (u 0).v, .bool (D.f 0).is, (v 1).v, (u 1).v, .bool (D.f 1).is, .bool D.dead, .bool D.armed, .int .i64 lv]
structure PD (w : World) (g : Nat) (S : Nat → Nat → Prop) (v u : Nat → Sl) (lv : Int) (D : Dsk) : Prop where
  b : Blk w g 56 (pdc D v u lv).toArray
  f : ∀ i, i < 2 → Fil w (S i) (D.f i) (v i) (u i)
  ap : ∀ k, S 0 k → ¬ S 1 k
  ng : ∀ i, i < 2 → ¬ S i g
  lt : ∀ i k, i < 2 → S i k → k < w.heap.size
  lv : D.armed = true → D.dead = false → lv = D.lf
  ok : D.Ok
section
variable {w w' : World} {g : Nat} {S : Nat → Nat → Prop} {T R : Nat → Prop} {f : Fi} {v u : Sl} {vs us : Nat → Sl} {lv : Int} {D : Dsk}
theorem Fil.chg (h : Fil w R f v u) (ht : Chg w w' T) (hs : ∀ g, R g → ¬ T g) : Fil w' R f v u :=
  ⟨h.hv.chg ht fun g e => hs g (h.sv g e), h.hu.chg ht fun g e => hs g (h.su g e), h.sv, h.su, h.pre⟩
theorem Fil.mono (h : Fil w R f v u) (k : ∀ g, R g → T g) : Fil w T f v u := ⟨h.hv, h.hu, fun g e => k g (h.sv g e), fun g e => k g (h.su g e), h.pre⟩
theorem Fil.vn (h : Fil w R f v u) : v.n = f.all.length := by have := h.hv.len; rw [vbs_len] at this; exact this.symm
theorem Fil.un (h : Fil w R f v u) : u.n = f.fa.length := by have := h.hu.len; rw [vbs_len] at this; exact this.symm
theorem PD.chg (h : PD w g S vs us lv D) (ht : Chg w w' T) (hg : ¬ T g) (hs : ∀ i k, i < 2 → S i k → ¬ T k) : PD w' g S vs us lv D :=
  ⟨h.b.chg ht hg, fun i hi => (h.f i hi).chg ht (fun k => hs i k hi), h.ap, h.ng, fun i k hi hk => Nat.lt_of_lt_of_le (h.lt i k hi hk) ht.size, h.lv, h.ok⟩
theorem PD.turn0 (h : PD w g S vs us lv D) (ht : Turn w w' none) : PD w' g S vs us lv D := h.chg (T := fun _ => False) (Chg.of0 ht _) (fun h => h) (fun _ _ _ _ h => h)
/-- Only the disk's own cells have turned. -/
theorem PD.own (h : PD w g S vs us lv D) {D2 : Dsk} {lv2 : Int} (ht : Turn w w' (some g)) (hb : Blk w' g 56 (pdc D2 vs us lv2).toArray) (hf : D2.f = D.f) (hl : D2.armed = true → D2.dead = false → lv2 = D2.lf) (hk : D2.Ok) : PD w' g S vs us lv2 D2 :=
  ⟨hb, fun i hi => by rw [hf]; exact (h.f i hi).chg (T := fun k => k = g) (Chg.of ht fun i e => (by injection e with e; exact e.symm)) (fun k hk e => h.ng i hi (e ▸ hk)), h.ap, h.ng, fun i k hi hk => Nat.lt_of_lt_of_le (h.lt i k hi hk) ht.size, hl, hk⟩
end
theorem szC {x y z : Value} : (Try.prog.info? 53).map (·.size) = some ([x, y, z] : List Value).length := by kernel_rfl

set_option maxRecDepth 100000 in
set_option maxHeartbeats 800000 in
theorem look_any {w : World} {g : Nat} {S : Nat → Nat → Prop} {v u : Nat → Sl} {lv : Int} {D : Dsk} (h : PD w g S v u lv D) (n : Int) :
    Calls Try.prog 33 #[.pointer (some ⟨g, 0, none⟩), .int .i64 n] w fun e w' => e = .returned (.int .i64 (D.dErr n)) ∧ w = w' := by
  have c7 := h.b.ats (j := 7) (v := .bool D.dead) rfl
  unfold Dsk.dErr fErr
  cases hd : D.dead with
  | true =>
    rw [hd] at c7
    go_enter Try.func33, Try.ntmps33
    go_wp2
    go_ret
    exact ⟨rfl, rfl⟩
  | false =>
    rw [hd] at c7
    have hq : n < 0 ∨ (¬ n < 0 ∧ 2 ≤ n) ∨ (¬ n < 0 ∧ ¬ 2 ≤ n) := by omega
    rcases hq with hq | ⟨hq, hq2⟩ | ⟨hq, hq2⟩
    · rw [if_neg (by simp), if_pos (.inl hq)]
      go_enter Try.func33, Try.ntmps33
      go_wp2
      go_ret
      exact ⟨rfl, rfl⟩
    · rw [if_neg (by simp), if_pos (.inr (by omega))]
      go_enter Try.func33, Try.ntmps33
      go_wp2
      go_ret
      exact ⟨rfl, rfl⟩
    · rw [if_neg (by simp), if_neg (by omega)]
      go_enter Try.func33, Try.ntmps33
      go_wp2
      go_ret
      exact ⟨rfl, rfl⟩

set_option maxRecDepth 100000 in
set_option maxHeartbeats 800000 in
theorem call_any {w : World} {g : Nat} {S : Nat → Nat → Prop} {v u : Nat → Sl} {lv : Int} {D : Dsk} (h : PD w g S v u lv D) (n : Int) :
    Calls Try.prog 29 #[.pointer (some ⟨g, 0, none⟩), .int .i64 n] w fun e w' => e = .returned (.int .i64 (D.cErr n)) ∧ Turn w w' (some g) ∧ ∃ lv', PD w' g S v u lv' D.cnt := by
  have c7 := h.b.ats (j := 7) (v := .bool D.dead) rfl
  have c8 := h.b.ats (j := 8) (v := .bool D.armed) rfl
  have c9 := h.b.ats (j := 9) (v := .int .i64 lv) rfl
  have f7 := h.b.frozen 7
  have f9 := h.b.frozen 9
  have hok := h.ok.cnt
  have hce : D.cErr n = D.cnt.dErr n := by
    unfold Dsk.cErr Dsk.dErr
    rw [Dsk.cnt_dead]
  rw [hce]
  cases ha : D.armed with
  | false =>
    rw [ha] at c8
    have e : D.gone = D.dead := by simp [Dsk.gone, ha]
    have hp : PD w g S v u lv D.cnt := h.own (Turn.refl w _) (by
      have h2 := h.b
      have e2 : pdc D.cnt v u lv = pdc D v u lv := by simp only [pdc, Dsk.cnt_f, Dsk.cnt_lim, Dsk.cnt_armed, Dsk.cnt_dead, e]
      rw [e2]; exact h2) D.cnt_f (fun h => by rw [Dsk.cnt_armed, ha] at h; cases h) hok
    clear e
    go_enter Try.func29, Try.ntmps29
    go_wp2_with (go_at_call 33; refine (look_any hp n).mono ?_; rintro e w1 ⟨rfl, rfl⟩)
    go_ret
    exact ⟨rfl, Turn.refl w _, lv, hp⟩
  | true =>
    rw [ha] at c8
    cases hd : D.dead with
    | true =>
      rw [hd] at c7
      have e : D.gone = true := by simp [Dsk.gone, hd]
      have hb7 := h.b.sets 7 (.bool true)
      have d9 := hb7.ats (j := 9) (v := .int .i64 lv) rfl
      have d99 := hb7.frozen 9
      have hp : ∀ x, PD ((w.setCell ⟨g, 7, none⟩ (.bool true)).setCell ⟨g, 9, none⟩ (.int .i64 x)) g S v u x D.cnt := fun x =>
        h.own ((Blk.setTurn w g 7 _).trans (Blk.setTurn _ g 9 _)) (by
          have h2 := hb7.sets 9 (.int .i64 x)
          have e2 : pdc D.cnt v u x = ((pdc D v u lv).set 7 (.bool true)).set 9 (.int .i64 x) := by simp only [pdc, Dsk.cnt_f, Dsk.cnt_lim, Dsk.cnt_armed, Dsk.cnt_dead, e]; rfl
          rw [e2]; exact h2) D.cnt_f (fun _ h => by rw [Dsk.cnt_dead, e] at h; cases h) hok
      clear e
      go_enter Try.func29, Try.ntmps29
      go_wp2_with (go_at_call 33; refine (look_any (hp _) n).mono ?_; rintro e w1 ⟨rfl, rfl⟩)
      go_ret
      exact ⟨rfl, (Blk.setTurn w g 7 _).trans (Blk.setTurn _ g 9 _), _, hp _⟩
    | false =>
      rw [hd] at c7
      have hlv := h.lv ha hd
      obtain ⟨l0, l1⟩ := h.ok.a0 ha
      by_cases hz : D.lf = 0
      · have e : D.gone = true := by simp [Dsk.gone, ha, hz]
        have z : lv = 0 := by omega
        have hb7 := h.b.sets 7 (.bool true)
        have d9 := hb7.ats (j := 9) (v := .int .i64 lv) rfl
        have d99 := hb7.frozen 9
        have hp : ∀ x, PD ((w.setCell ⟨g, 7, none⟩ (.bool true)).setCell ⟨g, 9, none⟩ (.int .i64 x)) g S v u x D.cnt := fun x =>
          h.own ((Blk.setTurn w g 7 _).trans (Blk.setTurn _ g 9 _)) (by
            have h2 := hb7.sets 9 (.int .i64 x)
            have e2 : pdc D.cnt v u x = ((pdc D v u lv).set 7 (.bool true)).set 9 (.int .i64 x) := by simp only [pdc, Dsk.cnt_f, Dsk.cnt_lim, Dsk.cnt_armed, Dsk.cnt_dead, e]; rfl
            rw [e2]; exact h2) D.cnt_f (fun _ h => by rw [Dsk.cnt_dead, e] at h; cases h) hok
        clear e hlv l0 l1
        subst z
        go_enter Try.func29, Try.ntmps29
        go_wp2_with (go_at_call 33; refine (look_any (hp _) n).mono ?_; rintro e w1 ⟨rfl, rfl⟩)
        go_ret
        exact ⟨rfl, (Blk.setTurn w g 7 _).trans (Blk.setTurn _ g 9 _), _, hp _⟩
      · have e : D.gone = false := by simp [Dsk.gone, hd, hz]
        have z : (lv == 0) = false := by rw [beq_eq_false_iff_ne]; omega
        have hb7 := h.b.sets 7 (.bool false)
        have d9 := hb7.ats (j := 9) (v := .int .i64 lv) rfl
        have d99 := hb7.frozen 9
        have hp : PD ((w.setCell ⟨g, 7, none⟩ (.bool false)).setCell ⟨g, 9, none⟩ (.int .i64 (lv - 1))) g S v u (lv - 1) D.cnt :=
          h.own ((Blk.setTurn w g 7 _).trans (Blk.setTurn _ g 9 _)) (by
            have h2 := hb7.sets 9 (.int .i64 (lv - 1))
            have e2 : pdc D.cnt v u (lv - 1) = ((pdc D v u lv).set 7 (.bool false)).set 9 (.int .i64 (lv - 1)) := by simp only [pdc, Dsk.cnt_f, Dsk.cnt_lim, Dsk.cnt_armed, Dsk.cnt_dead, e]; rfl
            rw [e2]; exact h2) D.cnt_f (fun _ _ => by
              unfold Dsk.cnt
              rw [e]
              show lv - 1 = D.lf - 1
              omega) hok
        have b0 : 0 < lv := by omega
        have b1 : lv ≤ 9223372036854775807 := by omega
        clear e hlv l0 l1
        go_enter Try.func29, Try.ntmps29
        go_wp2_with (go_at_call 33; refine (look_any hp n).mono ?_; rintro e w1 ⟨rfl, rfl⟩)
        go_ret
        exact ⟨rfl, (Blk.setTurn w g 7 _).trans (Blk.setTurn _ g 9 _), _, hp⟩
end Go.Proofs.Ytogajpiefegdeaa
