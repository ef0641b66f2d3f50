/-
  Layer 14: the document's counts, All, Size, Read (contracts).
-/
import Derived.Test.YtogajpiefegdeaaDkI
namespace Go.Proofs.Ytogajpiefegdeaa
set_option linter.unusedSimpArgs false
set_option linter.unusedVariables false
open Go.RowKit

set_option maxRecDepth 100000 in
set_option maxHeartbeats 1600000 in
theorem rcounts_any {w : World} {r : Nat} {R : Nat → Prop} {x y z : Nat → Sl} {lv : Int} {D : Dsk} (h : RD w r R x y z lv D) (n : Int) :
    Calls Try.prog 35 #[.pointer (some ⟨r, 0, none⟩), .int .i64 n] w fun e w' => e = .returned (.int .i64 (D.cErr n)) ∧ Turn w w' (some r) ∧ ∃ lv', RD w' r R x y z lv' D.cnt := by
  have c9 := h.b.ats (j := 9) (v := .int .i64 lv) rfl
  have c10 := h.b.ats (j := 10) (v := .bool D.armed) rfl
  have c11 := h.b.ats (j := 11) (v := .bool D.dead) rfl
  have f9 := h.b.frozen 9
  have f11 := h.b.frozen 11
  have hok := h.ok.cnt
  cases hd : D.dead with
  | true =>
    have e : D.gone = true := by simp [Dsk.gone, hd]
    have e1 : D.cErr n = 140 := by unfold Dsk.cErr; rw [if_pos e]
    have hc : D.cnt = D := by unfold Dsk.cnt; rw [if_pos e]; rw [← hd]
    rw [e1, hc]
    rw [hd] at c11
    have hb11 := h.b.sets 11 (.bool true)
    have d11 := hb11.ats (j := 11) (v := .bool true) rfl
    have hp1 : RD (w.setCell ⟨r, 11, none⟩ (.bool true)) r R x y z lv D := h.own (Blk.setTurn w r 11 _) (by
      have e2 : (rdc D x y z lv).set 11 (.bool true) = rdc D x y z lv := by
        unfold rdc
        rw [hd]
        rfl
      rw [e2] at hb11; exact hb11) rfl h.lv h.ok
    clear e e1 hc
    cases ha : D.armed with
    | false =>
      rw [ha] at c10
      go_enter Try.func35, Try.ntmps35
      go_wp2
      go_ret
      exact ⟨rfl, Turn.refl w _, lv, h⟩
    | true =>
      rw [ha] at c10
      by_cases z0 : lv = 0
      · have zb : (lv == 0) = true := by rw [z0]; rfl
        go_enter Try.func35, Try.ntmps35
        go_wp2
        go_ret
        exact ⟨rfl, Blk.setTurn w r 11 _, lv, hp1⟩
      · have zb : (lv == 0) = false := by rw [beq_eq_false_iff_ne]; exact z0
        go_enter Try.func35, Try.ntmps35
        go_wp2
        go_ret
        exact ⟨rfl, Turn.refl w _, lv, h⟩
  | false =>
    rw [hd] at c11
    by_cases hg : D.gone = true
    · have ha : D.armed = true := by
        unfold Dsk.gone at hg
        rw [hd] at hg
        simp at hg
        exact hg.1
      have hz : D.lf = 0 := by
        unfold Dsk.gone at hg
        rw [hd] at hg
        simp at hg
        exact hg.2
      have hlv := h.lv ha hd
      rw [hz] at hlv
      have e1 : D.cErr n = 140 := by unfold Dsk.cErr; rw [if_pos hg]
      have hc : D.cnt = { D with dead := true } := by unfold Dsk.cnt; rw [if_pos hg]
      rw [e1, hc]
      have hb11 := h.b.sets 11 (.bool true)
      have d11 := hb11.ats (j := 11) (v := .bool true) rfl
      rw [hc] at hok
      have hp1 : RD (w.setCell ⟨r, 11, none⟩ (.bool true)) r R x y z lv { D with dead := true } := h.own (Blk.setTurn w r 11 _) hb11 rfl (fun _ e => by cases e) hok
      subst hlv
      rw [ha] at c10
      clear e1 hc ha hz hg
      go_enter Try.func35, Try.ntmps35
      go_wp2
      go_ret
      exact ⟨rfl, Blk.setTurn w r 11 _, 0, hp1⟩
    · have e1 : D.cErr n = fErr n := by unfold Dsk.cErr; rw [if_neg hg]
      have hc : D.cnt = { D with lf := D.lf - 1 } := by unfold Dsk.cnt; rw [if_neg hg]
      rw [e1]
      rw [hc] at hok
      have hb9 := fun q => h.b.sets 9 (.int .i64 q)
      have hp1 : ∀ q, (D.armed = true → q = D.lf - 1) → RD (w.setCell ⟨r, 9, none⟩ (.int .i64 q)) r R x y z q D.cnt := fun q hq => by
        rw [hc]
        exact h.own (Blk.setTurn w r 9 _) (hb9 q) rfl (fun ha _ => hq ha) hok
      have hq : n < 0 ∨ (¬ n < 0 ∧ 1 < n) ∨ (¬ n < 0 ∧ ¬ 1 < n) := by omega
      unfold fErr
      cases ha : D.armed with
      | false =>
        rw [ha] at c10
        have hp2 : ∀ q, RD (w.setCell ⟨r, 9, none⟩ (.int .i64 q)) r R x y z q D.cnt := fun q => hp1 q (fun e => by rw [ha] at e; cases e)
        clear e1 hc hg hp1 hb9
        rcases hq with hq | ⟨hq, hq2⟩ | ⟨hq, hq2⟩
        · rw [if_pos (.inl hq)]
          go_enter Try.func35, Try.ntmps35
          go_wp2
          go_ret
          exact ⟨rfl, Blk.setTurn w r 9 _, _, hp2 _⟩
        · rw [if_pos (.inr hq2)]
          go_enter Try.func35, Try.ntmps35
          go_wp2
          go_ret
          exact ⟨rfl, Blk.setTurn w r 9 _, _, hp2 _⟩
        · rw [if_neg (by omega)]
          go_enter Try.func35, Try.ntmps35
          go_wp2
          go_ret
          exact ⟨rfl, Blk.setTurn w r 9 _, _, hp2 _⟩
      | true =>
        rw [ha] at c10
        have hlv := h.lv ha hd
        obtain ⟨l0, l1⟩ := h.ok.a0 ha
        have hn0 : D.lf ≠ 0 := fun e => hg (by simp [Dsk.gone, ha, e])
        have zb : (lv == 0) = false := by rw [beq_eq_false_iff_ne]; omega
        have b0 : 0 < lv := by omega
        have b1 : lv ≤ 9223372036854775807 := by omega
        have hp2 : RD (w.setCell ⟨r, 9, none⟩ (.int .i64 (lv - 1))) r R x y z (lv - 1) D.cnt := hp1 _ (fun _ => by omega)
        clear e1 hc hg hp1 hb9 hlv l0 l1 hn0
        rcases hq with hq | ⟨hq, hq2⟩ | ⟨hq, hq2⟩
        · rw [if_pos (.inl hq)]
          go_enter Try.func35, Try.ntmps35
          go_wp2
          go_ret
          exact ⟨rfl, Blk.setTurn w r 9 _, _, hp2⟩
        · rw [if_pos (.inr hq2)]
          go_enter Try.func35, Try.ntmps35
          go_wp2
          go_ret
          exact ⟨rfl, Blk.setTurn w r 9 _, _, hp2⟩
        · rw [if_neg (by omega)]
          go_enter Try.func35, Try.ntmps35
          go_wp2
          go_ret
          exact ⟨rfl, Blk.setTurn w r 9 _, _, hp2⟩
end Go.Proofs.Ytogajpiefegdeaa
