import Derived.Test.YtjekglnbmccnjaaG15
import Derived.Test.YtjekglnbmccnjaaG14
import Derived.Lib.SlBytesConst
import Derived.Test.YtjekglnbmccnjaaG1
import Derived.Deep.Slices
import Derived.Deep.Strs
import Derived.Test.YtjekglnbmccnjaaG2
set_option linter.unusedSimpArgs false
set_option linter.unusedVariables false
set_option linter.unusedSectionVars false
/-
  Layer 15: the law's does (contract).
-/
namespace Go.Proofs.Ytjekglnbmccnjaa
set_option linter.unusedSimpArgs false
set_option linter.unusedVariables false
open Go.RowKit

set_option maxRecDepth 100000 in
set_option maxHeartbeats 6400000 in
theorem does15_any {w0 w : World} {gp g r : Nat} {D : Dsk} {R T : Nat → Prop} {x y : Option Nat} {B : Nat} (h : Pq w0 w gp g r D D R T x y) (hj : Dj D B) (hB : 16777216 ≤ B) (hB2 : B + 3000 ≤ 1099511627776)
    (kd N : Int) (hN0 : -9223372036854775808 ≤ N) (hN1 : N ≤ 9223372036854775807) (A : Option Addr) (n c Bq : Nat) (b : List UInt8) (hr : Rd w0 Bq 1 A n (vbs b)) (hBq : Bq ≤ w0.heap.size) (hnc : n ≤ c) (hcm : c ≤ maxLen) :
    Calls Try.prog 9 #[.pointer (some ⟨gp, 0, none⟩), .agg (acq kd N A n c).toArray] w fun e w' => e = .returned (.bool true) ∧ ∃ D' R' T' x' y', Pq w0 w' gp g r D' D' R' T' x' y' ∧ Dj D' (B + 3000) := by
  have T0 : ∀ (w : World) cs t, Turn w (w.alloc (.cells cs t)) none := fun w cs t => (Turn.refl w none).alloc _
  have al : ∀ (w : World) (cs : Array Value) (t : TypeId), (w.alloc (.cells cs t)).heap.size = w.heap.size + 1 := fun w cs t => Array.size_push ..
  have ok := h.d.p.ok
  have tw0 := h.d.tw
  have hAT : ∀ n', n' ≤ n → ∀ T' : Nat → Prop, (∀ k, T' k → w0.heap.size ≤ k) → ∀ k, blk A = some k → 0 < n' → ¬ T' k := fun n' hn' T' hT' k e hp hk => by
    have h1 := hr.blkLt (by omega) e
    have h2 := hT' k hk
    omega
  go_enter Try.func9, Try.ntmps9
  go_upto_region 2 with (first
    | (refine wp_bx rfl 36 _ rfl rfl ?_; intro g5 w1 hg5 hb5 t5)
    | (refine wp_ld rfl 36 _ rfl rfl hb5 (Sub.all _) Try.underlying36 rfl szAq ?_)
    | (go_at_call 17; refine (bytes15_any kd N A n c Bq b _ (hr.turn0 (tw0.trans t5) hBq) (Nat.le_trans hBq (tw0.trans t5).size) hnc hcm).mono ?_; rintro e w2 ⟨n', rfl, hn3, hn', hr2, t2⟩))
  have hn3 := hn3.out
  have T2 := t5.trans t2
  have h2 := h.turn0 T2
  have g5lt := hb5.lt
  have hb5 := hb5.turn0 t2
  have c50 := hb5.ats (j := 0) (v := .int .i64 kd) rfl
  have hgp := h.b.lt
  have nR : ¬ R g5 := fun e => by have := h.d.p.lt e; omega
  have nT : ¬ T g5 := fun e => by have := h.d.q.lt e; omega
  have hB3 : Dj D (B + 3000) := hj.mono (by omega)
  have hn3' : n' ≤ 3000 := by rw [hn3, List.length_take]; omega
  obtain ⟨b', hb'⟩ : ∃ b', b.take 3000 = b' := ⟨_, rfl⟩
  have hr0 : Rd w0 Bq 1 A n' (vbs b') := by
    have hl := hr.len
    rw [vbs_len] at hl
    rw [← hb', hn3]
    have h3 := hr.takeB (k := min 3000 n) (by omega)
    rw [List.length_take]
    have e : b.take (min 3000 n) = b.take 3000 := by
      by_cases hq : n ≤ 3000
      · rw [Nat.min_eq_right hq, List.take_of_length_le (by omega), List.take_of_length_le (by omega)]
      · rw [Nat.min_eq_left (by omega)]
    rw [e, ← hl] at h3
    exact h3
  rw [hb'] at hr2 hn3
  have hb3 : b'.length ≤ 3000 := by omega
  clear hb' hr hn3
  have sw := tw0.size
  have sw2 := T2.size
  have own : ∀ {W : World} {A1 : Option Addr} {c1 : Nat}, Own W w2.heap.size 5 1 A1 n' c1 (vbs b') → ∀ k, blk A1 = some k → 0 < n' → ¬ R k := fun {W A1 c1} ho k e _ hk => by
    have h1 := (ho.block k e).1
    have h3 := h.d.p.lt hk
    omega
  have h00 : Own ((World.drew w2).alloc (.cells #[] 5)) w2.heap.size 5 1 (some ⟨w2.heap.size, 0, none⟩) 0 0 [] := Own.made (World.drew w2) _ _ 1 0 #[] (Nat.le_refl _) (by decide) rfl
  have hrA : Rd ((World.drew w2).alloc (.cells #[] 5)) Bq 1 A n' (vbs b') := (hr2.drew).turn0 (T0 _ _ _) (by show Bq ≤ w2.heap.size; omega)
  by_cases q3 : kd = 3
  · subst q3
    have c51 := hb5.ats (j := 1) (v := .int .i64 N) rfl
    have cp0 := h2.b.ats (j := 0) (v := .pointer (some ⟨g, 0, none⟩)) rfl
    go_upto_region 10 with (fail)
    refine wp_region_noPanic ?_
    refine wp_region_held_drew (S := (fun W => W.cell? ⟨gp, 0, none⟩ = some (.pointer (some ⟨g, 0, none⟩)) ∧ W.cell? ⟨g5, 1, none⟩ = some (.int .i64 N))) (by kernel_rfl) (⟨cp0, c51⟩) (fun hHeld => ?_)
    (first | (refine wpAnyH_take (i := 0) (v := undef) rfl (by kernel_rfl) (by kernel_rfl) (by kernel_rfl) (fun _ _ _ h => h) (Or.inr ⟨rfl, rfl⟩) (by assumption) ?_) | (refine wpAnyH_take (i := 0) (v := ?_) rfl (by kernel_rfl) (by kernel_rfl) (by kernel_rfl) (fun _ _ _ h => h) (Or.inl ⟨rfl, ?_⟩) (by assumption) ?_; rotate_left 1; · (intro w hSw; (try dsimp only at hSw); go_simp; (try with_reducible rfl)))); (try simp only [Act.put, List.getElem_toArray, List.getElem_cons_zero, List.getElem_cons_succ, List.setIfInBounds_toArray, List.set_cons_zero, List.set_cons_succ])
    (first | (refine wpAnyH_take (i := 1) (v := undef) rfl (by kernel_rfl) (by kernel_rfl) (by kernel_rfl) (fun _ _ _ h => h) (Or.inr ⟨rfl, rfl⟩) (by assumption) ?_) | (refine wpAnyH_take (i := 1) (v := ?_) rfl (by kernel_rfl) (by kernel_rfl) (by kernel_rfl) (fun _ _ _ h => h) (Or.inl ⟨rfl, ?_⟩) (by assumption) ?_; rotate_left 1; · (intro w hSw; (try dsimp only at hSw); go_simp; (try with_reducible rfl)))); (try simp only [Act.put, List.getElem_toArray, List.getElem_cons_zero, List.getElem_cons_succ, List.setIfInBounds_toArray, List.set_cons_zero, List.set_cons_succ])
    (first | (refine wpAnyH_take (i := 2) (v := undef) rfl (by kernel_rfl) (by kernel_rfl) (by kernel_rfl) (fun _ _ _ h => h) (Or.inr ⟨rfl, rfl⟩) (by assumption) ?_) | (refine wpAnyH_take (i := 2) (v := ?_) rfl (by kernel_rfl) (by kernel_rfl) (by kernel_rfl) (fun _ _ _ h => h) (Or.inl ⟨rfl, ?_⟩) (by assumption) ?_; rotate_left 1; · (intro w hSw; (try dsimp only at hSw); go_simp; (try with_reducible rfl)))); (try simp only [Act.put, List.getElem_toArray, List.getElem_cons_zero, List.getElem_cons_succ, List.setIfInBounds_toArray, List.set_cons_zero, List.set_cons_succ])
    (first | (refine wpAnyH_take (i := 3) (v := undef) rfl (by kernel_rfl) (by kernel_rfl) (by kernel_rfl) (fun _ _ _ h => h) (Or.inr ⟨rfl, rfl⟩) (by assumption) ?_) | (refine wpAnyH_take (i := 3) (v := ?_) rfl (by kernel_rfl) (by kernel_rfl) (by kernel_rfl) (fun _ _ _ h => h) (Or.inl ⟨rfl, ?_⟩) (by assumption) ?_; rotate_left 1; · (intro w hSw; (try dsimp only at hSw); go_simp; (try with_reducible rfl)))); (try simp only [Act.put, List.getElem_toArray, List.getElem_cons_zero, List.getElem_cons_succ, List.setIfInBounds_toArray, List.set_cons_zero, List.set_cons_succ])
    (first | (refine wpAnyH_take (i := 4) (v := undef) rfl (by kernel_rfl) (by kernel_rfl) (by kernel_rfl) (fun _ _ _ h => h) (Or.inr ⟨rfl, rfl⟩) (by assumption) ?_) | (refine wpAnyH_take (i := 4) (v := ?_) rfl (by kernel_rfl) (by kernel_rfl) (by kernel_rfl) (fun _ _ _ h => h) (Or.inl ⟨rfl, ?_⟩) (by assumption) ?_; rotate_left 1; · (intro w hSw; (try dsimp only at hSw); go_simp; (try with_reducible rfl)))); (try simp only [Act.put, List.getElem_toArray, List.getElem_cons_zero, List.getElem_cons_succ, List.setIfInBounds_toArray, List.set_cons_zero, List.set_cons_succ])
    (first | (refine wpAnyH_take (i := 5) (v := undef) rfl (by kernel_rfl) (by kernel_rfl) (by kernel_rfl) (fun _ _ _ h => h) (Or.inr ⟨rfl, rfl⟩) (by assumption) ?_) | (refine wpAnyH_take (i := 5) (v := ?_) rfl (by kernel_rfl) (by kernel_rfl) (by kernel_rfl) (fun _ _ _ h => h) (Or.inl ⟨rfl, ?_⟩) (by assumption) ?_; rotate_left 1; · (intro w hSw; (try dsimp only at hSw); go_simp; (try with_reducible rfl)))); (try simp only [Act.put, List.getElem_toArray, List.getElem_cons_zero, List.getElem_cons_succ, List.setIfInBounds_toArray, List.set_cons_zero, List.set_cons_succ])
    refine wpAnyH_ready (rs := [6]) (by kernel_rfl) (by simp) ?_
    refine AllReadyH.cons rfl (fun K hK => ?_) AllReadyH.nil
    go_simp
    have hd := h2.turn0 (Turn.refl w2 none).drew
    refine (arm_stp hd.d.p N hN1).mono ?_
    rintro e w3 ⟨rfl, s3⟩
    obtain ⟨R3, h3⟩ := hd.stp1 s3
    have b3 := hb5.drew.chg s3.1 nR
    have c51b := b3.ats (j := 1) (v := .int .i64 N) rfl
    have cp1 := h3.b.ats (j := 1) (v := .pointer (some ⟨r, 0, none⟩)) rfl
    refine hK.out _ _ ⟨h3.b.ats (j := 0) rfl, c51b⟩ (fun hHeld => ?_); clear hK K; (try simp only [Act.put, List.getElem_toArray, List.getElem_cons_zero, List.getElem_cons_succ, List.setIfInBounds_toArray, List.set_cons_zero, List.set_cons_succ])
    refine wpAnyH_done (by kernel_rfl) ?_ _
    refine NoPanic.normal ?_
    clear hHeld
    clear cp0 c51
    go_upto_region 11 with (fail)
    refine wp_region_noPanic ?_
    refine wp_region_held_drew (S := (fun W => W.cell? ⟨gp, 1, none⟩ = some (.pointer (some ⟨r, 0, none⟩)) ∧ W.cell? ⟨g5, 1, none⟩ = some (.int .i64 N))) (by kernel_rfl) (⟨cp1, c51b⟩) (fun hHeld => ?_)
    (first | (refine wpAnyH_take (i := 0) (v := undef) rfl (by kernel_rfl) (by kernel_rfl) (by kernel_rfl) (fun _ _ _ h => h) (Or.inr ⟨rfl, rfl⟩) (by assumption) ?_) | (refine wpAnyH_take (i := 0) (v := ?_) rfl (by kernel_rfl) (by kernel_rfl) (by kernel_rfl) (fun _ _ _ h => h) (Or.inl ⟨rfl, ?_⟩) (by assumption) ?_; rotate_left 1; · (intro w hSw; (try dsimp only at hSw); go_simp; (try with_reducible rfl)))); (try simp only [Act.put, List.getElem_toArray, List.getElem_cons_zero, List.getElem_cons_succ, List.setIfInBounds_toArray, List.set_cons_zero, List.set_cons_succ])
    (first | (refine wpAnyH_take (i := 1) (v := undef) rfl (by kernel_rfl) (by kernel_rfl) (by kernel_rfl) (fun _ _ _ h => h) (Or.inr ⟨rfl, rfl⟩) (by assumption) ?_) | (refine wpAnyH_take (i := 1) (v := ?_) rfl (by kernel_rfl) (by kernel_rfl) (by kernel_rfl) (fun _ _ _ h => h) (Or.inl ⟨rfl, ?_⟩) (by assumption) ?_; rotate_left 1; · (intro w hSw; (try dsimp only at hSw); go_simp; (try with_reducible rfl)))); (try simp only [Act.put, List.getElem_toArray, List.getElem_cons_zero, List.getElem_cons_succ, List.setIfInBounds_toArray, List.set_cons_zero, List.set_cons_succ])
    (first | (refine wpAnyH_take (i := 2) (v := undef) rfl (by kernel_rfl) (by kernel_rfl) (by kernel_rfl) (fun _ _ _ h => h) (Or.inr ⟨rfl, rfl⟩) (by assumption) ?_) | (refine wpAnyH_take (i := 2) (v := ?_) rfl (by kernel_rfl) (by kernel_rfl) (by kernel_rfl) (fun _ _ _ h => h) (Or.inl ⟨rfl, ?_⟩) (by assumption) ?_; rotate_left 1; · (intro w hSw; (try dsimp only at hSw); go_simp; (try with_reducible rfl)))); (try simp only [Act.put, List.getElem_toArray, List.getElem_cons_zero, List.getElem_cons_succ, List.setIfInBounds_toArray, List.set_cons_zero, List.set_cons_succ])
    (first | (refine wpAnyH_take (i := 3) (v := undef) rfl (by kernel_rfl) (by kernel_rfl) (by kernel_rfl) (fun _ _ _ h => h) (Or.inr ⟨rfl, rfl⟩) (by assumption) ?_) | (refine wpAnyH_take (i := 3) (v := ?_) rfl (by kernel_rfl) (by kernel_rfl) (by kernel_rfl) (fun _ _ _ h => h) (Or.inl ⟨rfl, ?_⟩) (by assumption) ?_; rotate_left 1; · (intro w hSw; (try dsimp only at hSw); go_simp; (try with_reducible rfl)))); (try simp only [Act.put, List.getElem_toArray, List.getElem_cons_zero, List.getElem_cons_succ, List.setIfInBounds_toArray, List.set_cons_zero, List.set_cons_succ])
    (first | (refine wpAnyH_take (i := 4) (v := undef) rfl (by kernel_rfl) (by kernel_rfl) (by kernel_rfl) (fun _ _ _ h => h) (Or.inr ⟨rfl, rfl⟩) (by assumption) ?_) | (refine wpAnyH_take (i := 4) (v := ?_) rfl (by kernel_rfl) (by kernel_rfl) (by kernel_rfl) (fun _ _ _ h => h) (Or.inl ⟨rfl, ?_⟩) (by assumption) ?_; rotate_left 1; · (intro w hSw; (try dsimp only at hSw); go_simp; (try with_reducible rfl)))); (try simp only [Act.put, List.getElem_toArray, List.getElem_cons_zero, List.getElem_cons_succ, List.setIfInBounds_toArray, List.set_cons_zero, List.set_cons_succ])
    (first | (refine wpAnyH_take (i := 5) (v := undef) rfl (by kernel_rfl) (by kernel_rfl) (by kernel_rfl) (fun _ _ _ h => h) (Or.inr ⟨rfl, rfl⟩) (by assumption) ?_) | (refine wpAnyH_take (i := 5) (v := ?_) rfl (by kernel_rfl) (by kernel_rfl) (by kernel_rfl) (fun _ _ _ h => h) (Or.inl ⟨rfl, ?_⟩) (by assumption) ?_; rotate_left 1; · (intro w hSw; (try dsimp only at hSw); go_simp; (try with_reducible rfl)))); (try simp only [Act.put, List.getElem_toArray, List.getElem_cons_zero, List.getElem_cons_succ, List.setIfInBounds_toArray, List.set_cons_zero, List.set_cons_succ])
    refine wpAnyH_ready (rs := [6]) (by kernel_rfl) (by simp) ?_
    refine AllReadyH.cons rfl (fun K hK => ?_) AllReadyH.nil
    go_simp
    have hd4 := h3.turn0 (Turn.refl w3 none).drew
    refine (rarm_stq hd4.d.q N hN1).mono ?_
    rintro e w4 ⟨rfl, s4⟩
    obtain ⟨T4, h4⟩ := hd4.stq1 s4
    refine hK.out _ _ ⟨h4.b.ats (j := 1) rfl, (b3.drew.chg s4.1 nT).ats (j := 1) rfl⟩ (fun hHeld => ?_); clear hK K; (try simp only [Act.put, List.getElem_toArray, List.getElem_cons_zero, List.getElem_cons_succ, List.setIfInBounds_toArray, List.set_cons_zero, List.set_cons_succ])
    refine wpAnyH_done (by kernel_rfl) ?_ _
    refine NoPanic.normal ?_
    clear hHeld
    go_wp2
    go_ret
    exact ⟨rfl, D.arm N, R3, T4, x, y, h4, hB3.arm N⟩
  by_cases q2 : kd = 2
  · subst q2
    go_wp2_with (first
      | (go_at_call 8; refine (opens_any h2 hj hB (by omega)).mono ?_; rintro e w3 ⟨rfl, R3, T3, x3, y3, h3⟩))
    go_ret
    exact ⟨rfl, _, R3, T3, x3, y3, h3, hB3.openD ok (by omega)⟩
  by_cases q4 : kd = 4
  · subst q4
    have c51 := hb5.ats (j := 1) (v := .int .i64 N) rfl
    have cp0 := h2.b.ats (j := 0) (v := .pointer (some ⟨g, 0, none⟩)) rfl
    go_upto_region 13 with (fail)
    refine wp_region_noPanic ?_
    refine wp_region_held_drew (S := (fun W => W.cell? ⟨gp, 0, none⟩ = some (.pointer (some ⟨g, 0, none⟩)) ∧ W.cell? ⟨g5, 1, none⟩ = some (.int .i64 N))) (by kernel_rfl) (⟨cp0, c51⟩) (fun hHeld => ?_)
    (first | (refine wpAnyH_take (i := 0) (v := undef) rfl (by kernel_rfl) (by kernel_rfl) (by kernel_rfl) (fun _ _ _ h => h) (Or.inr ⟨rfl, rfl⟩) (by assumption) ?_) | (refine wpAnyH_take (i := 0) (v := ?_) rfl (by kernel_rfl) (by kernel_rfl) (by kernel_rfl) (fun _ _ _ h => h) (Or.inl ⟨rfl, ?_⟩) (by assumption) ?_; rotate_left 1; · (intro w hSw; (try dsimp only at hSw); go_simp; (try with_reducible rfl)))); (try simp only [Act.put, List.getElem_toArray, List.getElem_cons_zero, List.getElem_cons_succ, List.setIfInBounds_toArray, List.set_cons_zero, List.set_cons_succ])
    (first | (refine wpAnyH_take (i := 1) (v := undef) rfl (by kernel_rfl) (by kernel_rfl) (by kernel_rfl) (fun _ _ _ h => h) (Or.inr ⟨rfl, rfl⟩) (by assumption) ?_) | (refine wpAnyH_take (i := 1) (v := ?_) rfl (by kernel_rfl) (by kernel_rfl) (by kernel_rfl) (fun _ _ _ h => h) (Or.inl ⟨rfl, ?_⟩) (by assumption) ?_; rotate_left 1; · (intro w hSw; (try dsimp only at hSw); go_simp; (try with_reducible rfl)))); (try simp only [Act.put, List.getElem_toArray, List.getElem_cons_zero, List.getElem_cons_succ, List.setIfInBounds_toArray, List.set_cons_zero, List.set_cons_succ])
    (first | (refine wpAnyH_take (i := 2) (v := undef) rfl (by kernel_rfl) (by kernel_rfl) (by kernel_rfl) (fun _ _ _ h => h) (Or.inr ⟨rfl, rfl⟩) (by assumption) ?_) | (refine wpAnyH_take (i := 2) (v := ?_) rfl (by kernel_rfl) (by kernel_rfl) (by kernel_rfl) (fun _ _ _ h => h) (Or.inl ⟨rfl, ?_⟩) (by assumption) ?_; rotate_left 1; · (intro w hSw; (try dsimp only at hSw); go_simp; (try with_reducible rfl)))); (try simp only [Act.put, List.getElem_toArray, List.getElem_cons_zero, List.getElem_cons_succ, List.setIfInBounds_toArray, List.set_cons_zero, List.set_cons_succ])
    (first | (refine wpAnyH_take (i := 3) (v := undef) rfl (by kernel_rfl) (by kernel_rfl) (by kernel_rfl) (fun _ _ _ h => h) (Or.inr ⟨rfl, rfl⟩) (by assumption) ?_) | (refine wpAnyH_take (i := 3) (v := ?_) rfl (by kernel_rfl) (by kernel_rfl) (by kernel_rfl) (fun _ _ _ h => h) (Or.inl ⟨rfl, ?_⟩) (by assumption) ?_; rotate_left 1; · (intro w hSw; (try dsimp only at hSw); go_simp; (try with_reducible rfl)))); (try simp only [Act.put, List.getElem_toArray, List.getElem_cons_zero, List.getElem_cons_succ, List.setIfInBounds_toArray, List.set_cons_zero, List.set_cons_succ])
    (first | (refine wpAnyH_take (i := 4) (v := undef) rfl (by kernel_rfl) (by kernel_rfl) (by kernel_rfl) (fun _ _ _ h => h) (Or.inr ⟨rfl, rfl⟩) (by assumption) ?_) | (refine wpAnyH_take (i := 4) (v := ?_) rfl (by kernel_rfl) (by kernel_rfl) (by kernel_rfl) (fun _ _ _ h => h) (Or.inl ⟨rfl, ?_⟩) (by assumption) ?_; rotate_left 1; · (intro w hSw; (try dsimp only at hSw); go_simp; (try with_reducible rfl)))); (try simp only [Act.put, List.getElem_toArray, List.getElem_cons_zero, List.getElem_cons_succ, List.setIfInBounds_toArray, List.set_cons_zero, List.set_cons_succ])
    (first | (refine wpAnyH_take (i := 5) (v := undef) rfl (by kernel_rfl) (by kernel_rfl) (by kernel_rfl) (fun _ _ _ h => h) (Or.inr ⟨rfl, rfl⟩) (by assumption) ?_) | (refine wpAnyH_take (i := 5) (v := ?_) rfl (by kernel_rfl) (by kernel_rfl) (by kernel_rfl) (fun _ _ _ h => h) (Or.inl ⟨rfl, ?_⟩) (by assumption) ?_; rotate_left 1; · (intro w hSw; (try dsimp only at hSw); go_simp; (try with_reducible rfl)))); (try simp only [Act.put, List.getElem_toArray, List.getElem_cons_zero, List.getElem_cons_succ, List.setIfInBounds_toArray, List.set_cons_zero, List.set_cons_succ])
    (first | (refine wpAnyH_take (i := 7) (v := undef) rfl (by kernel_rfl) (by kernel_rfl) (by kernel_rfl) (fun _ _ _ h => h) (Or.inr ⟨rfl, rfl⟩) (by assumption) ?_) | (refine wpAnyH_take (i := 7) (v := ?_) rfl (by kernel_rfl) (by kernel_rfl) (by kernel_rfl) (fun _ _ _ h => h) (Or.inl ⟨rfl, ?_⟩) (by assumption) ?_; rotate_left 1; · (intro w hSw; (try dsimp only at hSw); go_simp; (try with_reducible rfl)))); (try simp only [Act.put, List.getElem_toArray, List.getElem_cons_zero, List.getElem_cons_succ, List.setIfInBounds_toArray, List.set_cons_zero, List.set_cons_succ])
    refine wpAnyH_ready (rs := [6]) (by kernel_rfl) (by simp) ?_; refine AllReadyH.cons rfl (fun K hK => ?_) AllReadyH.nil
    go_simp
    refine hK.out _ _ ⟨(h2.b.drew.alloc _).ats rfl, (hb5.drew.alloc _).ats rfl⟩ (fun hHeld => ?_); clear hK K; (try simp only [Act.put, List.getElem_toArray, List.getElem_cons_zero, List.getElem_cons_succ, List.setIfInBounds_toArray, List.set_cons_zero, List.set_cons_succ])
    refine wpAnyH_ready (rs := [8]) (by kernel_rfl) (by simp) ?_; refine AllReadyH.cons rfl (fun K hK => ?_) AllReadyH.nil
    refine st_app (base := w2.heap.size) rfl _ _ _ rfl elB rfl rfl h00 hrA (vbs_one b') (by unfold maxLen; omega) (by omega) (by show _ ≤ (w2.heap.push _).size; rw [Array.size_push]; omega) ?_
    intro A6 c6 w6 ho6 t6' hb6
    have t6 : Turn (World.drew w2) w6 none := (T0 _ _ _).new t6' (fun g hg => by simp [blk] at hg; subst hg; exact Nat.le_refl _)
    clear t6' hb6
    simp only [Nat.zero_add, List.nil_append] at ho6 ⊢
    have h6 := (h2.turn0 (Turn.refl w2 none).drew).turn0 t6
    have hc6 := ho6.cap
    have b6 := hb5.drew.turn0 t6
    refine hK.out _ _ ⟨h6.b.ats (j := 0) rfl, b6.ats (j := 1) rfl⟩ (fun hHeld => ?_); clear hK K; (try simp only [Act.put, List.getElem_toArray, List.getElem_cons_zero, List.getElem_cons_succ, List.setIfInBounds_toArray, List.set_cons_zero, List.set_cons_succ])
    refine wpAnyH_ready (rs := [9]) (by kernel_rfl) (by simp) ?_
    refine AllReadyH.cons rfl (fun K hK => ?_) AllReadyH.nil
    go_simp
    refine (crash_any h6.d.p N hN0 hN1 A6 n' c6 w6.heap.size b' ho6.rd (Nat.le_refl _) (by omega) hc6.1 hc6.2 (own ho6)).mono ?_
    rintro e w3 ⟨rfl, s3⟩
    obtain ⟨R3, h3⟩ := h6.stp1 s3
    have b3 := b6.chg s3.1 nR
    have c51b := b3.ats (j := 1) (v := .int .i64 N) rfl
    have cp1 := h3.b.ats (j := 1) (v := .pointer (some ⟨r, 0, none⟩)) rfl
    refine hK.out _ _ ⟨h3.b.ats (j := 0) rfl, c51b⟩ (fun hHeld => ?_); clear hK K; (try simp only [Act.put, List.getElem_toArray, List.getElem_cons_zero, List.getElem_cons_succ, List.setIfInBounds_toArray, List.set_cons_zero, List.set_cons_succ])
    refine wpAnyH_done (by kernel_rfl) ?_ _
    refine NoPanic.normal ?_
    clear hHeld
    clear cp0 c51
    go_upto_region 14 with (fail)
    refine wp_region_noPanic ?_
    refine wp_region_held_drew (S := (fun W => W.cell? ⟨gp, 1, none⟩ = some (.pointer (some ⟨r, 0, none⟩)) ∧ W.cell? ⟨g5, 1, none⟩ = some (.int .i64 N))) (by kernel_rfl) (⟨cp1, c51b⟩) (fun hHeld => ?_)
    (first | (refine wpAnyH_take (i := 0) (v := undef) rfl (by kernel_rfl) (by kernel_rfl) (by kernel_rfl) (fun _ _ _ h => h) (Or.inr ⟨rfl, rfl⟩) (by assumption) ?_) | (refine wpAnyH_take (i := 0) (v := ?_) rfl (by kernel_rfl) (by kernel_rfl) (by kernel_rfl) (fun _ _ _ h => h) (Or.inl ⟨rfl, ?_⟩) (by assumption) ?_; rotate_left 1; · (intro w hSw; (try dsimp only at hSw); go_simp; (try with_reducible rfl)))); (try simp only [Act.put, List.getElem_toArray, List.getElem_cons_zero, List.getElem_cons_succ, List.setIfInBounds_toArray, List.set_cons_zero, List.set_cons_succ])
    (first | (refine wpAnyH_take (i := 1) (v := undef) rfl (by kernel_rfl) (by kernel_rfl) (by kernel_rfl) (fun _ _ _ h => h) (Or.inr ⟨rfl, rfl⟩) (by assumption) ?_) | (refine wpAnyH_take (i := 1) (v := ?_) rfl (by kernel_rfl) (by kernel_rfl) (by kernel_rfl) (fun _ _ _ h => h) (Or.inl ⟨rfl, ?_⟩) (by assumption) ?_; rotate_left 1; · (intro w hSw; (try dsimp only at hSw); go_simp; (try with_reducible rfl)))); (try simp only [Act.put, List.getElem_toArray, List.getElem_cons_zero, List.getElem_cons_succ, List.setIfInBounds_toArray, List.set_cons_zero, List.set_cons_succ])
    (first | (refine wpAnyH_take (i := 2) (v := undef) rfl (by kernel_rfl) (by kernel_rfl) (by kernel_rfl) (fun _ _ _ h => h) (Or.inr ⟨rfl, rfl⟩) (by assumption) ?_) | (refine wpAnyH_take (i := 2) (v := ?_) rfl (by kernel_rfl) (by kernel_rfl) (by kernel_rfl) (fun _ _ _ h => h) (Or.inl ⟨rfl, ?_⟩) (by assumption) ?_; rotate_left 1; · (intro w hSw; (try dsimp only at hSw); go_simp; (try with_reducible rfl)))); (try simp only [Act.put, List.getElem_toArray, List.getElem_cons_zero, List.getElem_cons_succ, List.setIfInBounds_toArray, List.set_cons_zero, List.set_cons_succ])
    (first | (refine wpAnyH_take (i := 3) (v := undef) rfl (by kernel_rfl) (by kernel_rfl) (by kernel_rfl) (fun _ _ _ h => h) (Or.inr ⟨rfl, rfl⟩) (by assumption) ?_) | (refine wpAnyH_take (i := 3) (v := ?_) rfl (by kernel_rfl) (by kernel_rfl) (by kernel_rfl) (fun _ _ _ h => h) (Or.inl ⟨rfl, ?_⟩) (by assumption) ?_; rotate_left 1; · (intro w hSw; (try dsimp only at hSw); go_simp; (try with_reducible rfl)))); (try simp only [Act.put, List.getElem_toArray, List.getElem_cons_zero, List.getElem_cons_succ, List.setIfInBounds_toArray, List.set_cons_zero, List.set_cons_succ])
    (first | (refine wpAnyH_take (i := 4) (v := undef) rfl (by kernel_rfl) (by kernel_rfl) (by kernel_rfl) (fun _ _ _ h => h) (Or.inr ⟨rfl, rfl⟩) (by assumption) ?_) | (refine wpAnyH_take (i := 4) (v := ?_) rfl (by kernel_rfl) (by kernel_rfl) (by kernel_rfl) (fun _ _ _ h => h) (Or.inl ⟨rfl, ?_⟩) (by assumption) ?_; rotate_left 1; · (intro w hSw; (try dsimp only at hSw); go_simp; (try with_reducible rfl)))); (try simp only [Act.put, List.getElem_toArray, List.getElem_cons_zero, List.getElem_cons_succ, List.setIfInBounds_toArray, List.set_cons_zero, List.set_cons_succ])
    (first | (refine wpAnyH_take (i := 5) (v := undef) rfl (by kernel_rfl) (by kernel_rfl) (by kernel_rfl) (fun _ _ _ h => h) (Or.inr ⟨rfl, rfl⟩) (by assumption) ?_) | (refine wpAnyH_take (i := 5) (v := ?_) rfl (by kernel_rfl) (by kernel_rfl) (by kernel_rfl) (fun _ _ _ h => h) (Or.inl ⟨rfl, ?_⟩) (by assumption) ?_; rotate_left 1; · (intro w hSw; (try dsimp only at hSw); go_simp; (try with_reducible rfl)))); (try simp only [Act.put, List.getElem_toArray, List.getElem_cons_zero, List.getElem_cons_succ, List.setIfInBounds_toArray, List.set_cons_zero, List.set_cons_succ])
    (first | (refine wpAnyH_take (i := 6) (v := undef) rfl (by kernel_rfl) (by kernel_rfl) (by kernel_rfl) (fun _ _ _ h => h) (Or.inr ⟨rfl, rfl⟩) (by assumption) ?_) | (refine wpAnyH_take (i := 6) (v := ?_) rfl (by kernel_rfl) (by kernel_rfl) (by kernel_rfl) (fun _ _ _ h => h) (Or.inl ⟨rfl, ?_⟩) (by assumption) ?_; rotate_left 1; · (intro w hSw; (try dsimp only at hSw); go_simp; (try with_reducible rfl)))); (try simp only [Act.put, List.getElem_toArray, List.getElem_cons_zero, List.getElem_cons_succ, List.setIfInBounds_toArray, List.set_cons_zero, List.set_cons_succ])
    refine wpAnyH_ready (rs := [7]) (by kernel_rfl) (by simp) ?_
    refine AllReadyH.cons rfl (fun K hK => ?_) AllReadyH.nil
    go_simp
    have hd4 := h3.turn0 (Turn.refl w3 none).drew
    refine (rcrash_any hd4.d.q N hN0 hN1 A n' c Bq b' (hr0.turn0 hd4.d.tw hBq) (Nat.le_trans hBq hd4.d.tw.size) (by omega) (hAT n' hn' T h.d.t0)).mono ?_
    rintro e w4 ⟨rfl, s4⟩
    obtain ⟨T4, h4⟩ := hd4.stq1 s4
    refine hK.out _ _ ⟨h4.b.ats (j := 1) rfl, (b3.drew.chg s4.1 nT).ats (j := 1) rfl⟩ (fun hHeld => ?_); clear hK K; (try simp only [Act.put, List.getElem_toArray, List.getElem_cons_zero, List.getElem_cons_succ, List.setIfInBounds_toArray, List.set_cons_zero, List.set_cons_succ])
    refine wpAnyH_done (by kernel_rfl) ?_ _
    refine NoPanic.normal ?_
    clear hHeld
    clear cp1 c51b
    have hj4 : Dj (D.crash N b') (B + 3000) := hj.crash ok hB N (by omega)
    have ok4 := h4.d.p.ok
    go_wp2_with (first
      | (go_at_call 8; refine (opens_any h4 hj4 (by omega) hB2).mono ?_; rintro e w5 ⟨rfl, R5, T5, x5, y5, h5⟩))
    go_ret
    exact ⟨rfl, _, R5, T5, x5, y5, h5, hj4.openD ok4 (by omega)⟩
  by_cases q0 : kd = 0
  · subst q0
    go_upto_region 4 with (fail)
    refine of_codeO (C' := ds4R) (by kernel_rfl) (ds4_any h2 hB3 hB hr0 hBq hn3' (fun V D' R' T' x' y' h3 h4 => ?_))
    go_wp2
    go_ret
    exact ⟨rfl, D', R', T', x', y', h3, h4⟩
  by_cases q1 : kd = 1
  · subst q1
    go_upto_region 6 with (fail)
    refine of_codeO (C' := ds6R) (by kernel_rfl) (ds6_any h2 hB3 hB hr0 hBq hn3' (fun V D' R' T' x' y' h3 h4 => ?_))
    go_wp2
    go_ret
    exact ⟨rfl, D', R', T', x', y', h3, h4⟩
  · have e0 : (kd == 0) = false := by rw [beq_eq_false_iff_ne]; exact q0
    have e1 : (kd == 1) = false := by rw [beq_eq_false_iff_ne]; exact q1
    have e2 : (kd == 2) = false := by rw [beq_eq_false_iff_ne]; exact q2
    have e3 : (kd == 3) = false := by rw [beq_eq_false_iff_ne]; exact q3
    have e4 : (kd == 4) = false := by rw [beq_eq_false_iff_ne]; exact q4
    go_wp2
    go_ret
    exact ⟨rfl, D, R, T, x, y, h2, hB3⟩
end Go.Proofs.Ytjekglnbmccnjaa
/-
  Layer 15: acts as they lie in memory; the law's lives (contract).
-/
namespace Go.Proofs.Ytjekglnbmccnjaa
set_option linter.unusedSimpArgs false
set_option linter.unusedVariables false
open Go.RowKit

/-- An act, as it lies in memory. -/
structure At where
  k : Int
  m : Int
  A : Option Addr
  n : Nat
  c : Nat
  b : List UInt8
def At.cs (a : At) : List Value := acq a.k a.m a.A a.n a.c
structure At.Ok (w : World) (B : Nat) (a : At) : Prop where
  rd : Rd w B 1 a.A a.n (vbs a.b)
  nc : a.n ≤ a.c
  cm : a.c ≤ maxLen
  few : a.n ≤ 140737488351232
  m0 : -9223372036854775808 ≤ a.m
  m1 : a.m ≤ 9223372036854775807
/-- Acts that are seen through a slice value. -/
def Rq (w : World) (B : Nat) (A : Option Addr) (n : Nat) (qs : List At) : Prop := Rd w B 3 A n (qs.flatMap At.cs) ∧ qs.length = n ∧ ∀ a ∈ qs, a.Ok w B
theorem acts_at : ∀ (qs : List At) (i q : Nat) (a : At), qs[i]? = some a → q < 3 → (qs.flatMap At.cs)[i * 3 + q]? = a.cs[q]?
  | [], i, q, a, h, _ => by simp at h
  | r :: rs, i, q, a, h, hq => by
    have hl : r.cs.length = 3 := rfl
    cases i with
    | zero =>
      obtain rfl : r = a := by simpa using h
      rw [List.flatMap_cons, Nat.zero_mul, Nat.zero_add, List.getElem?_append_left (by omega)]
    | succ i =>
      rw [List.flatMap_cons, List.getElem?_append_right (by omega), hl]
      have e : (i + 1) * 3 + q - 3 = i * 3 + q := by omega
      rw [e]
      exact acts_at rs i q a (by simpa using h) hq
theorem Rq.at_ {w : World} {B n : Nat} {A : Option Addr} {qs : List At} (h : Rq w B A n qs) (hB : B ≤ w.heap.size) {i : Nat} (hi : i < n) :
    ∃ b off a, A = some ⟨b, off, none⟩ ∧ b < B ∧ qs[i]? = some a ∧ a.Ok w B ∧ ∀ V, Turn w V none → V.rangeAt b (off + i * 3) a.cs := by
  have hl : i < qs.length := by rw [h.2.1]; exact hi
  have hc : qs[i]? = some qs[i] := List.getElem?_eq_getElem hl
  obtain ⟨b, off, rfl, hb, hcell⟩ := h.1.head (by omega)
  refine ⟨b, off, _, rfl, hb, hc, h.2.2 _ (List.getElem_mem hl), fun V hV => rng_turn (row := none) (fun q v hv => ?_) hV (by omega) (by simp)⟩
  have hq : q < 3 := (List.getElem?_eq_some_iff.1 hv).1
  have := hcell (i * 3 + q) v (by rw [acts_at qs i q _ hc hq]; exact hv)
  rw [← Nat.add_assoc] at this
  exact this
theorem szAct15 {k m : Int} {A : Option Addr} {n c : Nat} : (Try.prog.info? 36).map (·.size) = some (acq k m A n c).length := by kernel_rfl
theorem Bo.stp2 {w0 w w' : World} {g : Nat} {R R' : Nat → Prop} {D D' : Dsk} (h : Bo w0 w g R D) (hc : Chg w w' R) (hp : Pk w' g R' D') (hk : ∀ k, R' k → R k ∨ w.heap.size ≤ k) : Bo w0 w' g R' D' := by
  have s0 := h.tw.size
  exact ⟨hp, fun k h1 => (hk k h1).elim (h.r0 k) (fun h3 => by omega), ((Chg.of0 h.tw R).trans hc fun i hi => .inl hi).turn h.r0⟩
/-- The disk alone, behind a call of a log on it. -/
theorem Bo.lg {w0 w w' : World} {g gw : Nat} {R R' : Nat → Prop} {D D' : Dsk} (h : Bo w0 w g R D) (h0 : w0.heap.size ≤ gw) (hc : Chg w w' (fun k => R k ∨ k = gw)) (hp : Pk w' g R' D') (hk : ∀ k, R' k → R k ∨ w.heap.size ≤ k) : Bo w0 w' g R' D' := by
  have s0 := h.tw.size
  exact ⟨hp, fun k h1 => (hk k h1).elim (h.r0 k) (fun h3 => by omega), ((Chg.of0 h.tw (fun k => R k ∨ k = gw)).trans hc fun i hi => .inl hi).turn fun i hi => hi.elim (h.r0 i) fun e => by omega⟩
theorem apN_appD {D : Dsk} {n : Nat} {b : List UInt8} (hn : n < 4611686018427387904) (hb : b.length ≤ 1048568) : D.apN n b = ((D.appD (fBytes (wRec n b))).1, (D.appD (fBytes (wRec n b))).2, if (D.appD (fBytes (wRec n b))).1 = 0 then n + 1 else n) := by
  unfold Dsk.apN Dsk.appD
  rw [wFr_ok hn hb]
  dsimp only
  rw [if_neg (show ¬ ((0 : Nat) ≠ 0) from fun c => c rfl)]
  by_cases h1 : D.wErr 0 (fBytes (wRec n b)) = 0
  · by_cases h2 : (D.wr 0 (fBytes (wRec n b))).cErr 0 = 0
    · simp [h1, h2]
    · simp [h1, h2]
  · simp [h1]
theorem snN_snapD {D : Dsk} {n : Nat} {b : List UInt8} (hn : n < 4611686018427387904) (hb : b.length ≤ 1048568) : D.snN n b = D.snapD (fBytes (wRec n b)) := by
  unfold Dsk.snN
  rw [wFr_ok hn hb]
  rfl
def ql0 : Dsk := newD 1000
def ql1 : Dsk := (ql0.appD (fBytes (wRec 0 [97]))).2
theorem ql_up : Up ql0 1000 := ⟨rfl, rfl, rfl⟩
theorem ql_app : (ql0.appD (fBytes (wRec 0 [97]))).1 = 0 ∧ (ql1.f 0).all.length = 7 := by decide +kernel
theorem ql_syn : Up ql1 1000 ∧ Syn ql1 { md0 with l := md0.l ++ [[97]] } := by
  obtain ⟨h1, h2⟩ := app_full ql_up (newD_syn 1000) md0_few (by decide) (b := [97]) (by decide)
  refine ⟨h1, ?_⟩
  rcases h2 with ⟨_, h2⟩ | ⟨h2, _⟩
  · exact h2
  · have e := ql_app.1
    have h2 : (ql0.appD (fBytes (wRec 0 [97]))).1 = 8 := h2
    rw [e] at h2
    cases h2
def kq1 : Kp := ⟨false, [], [[97]], 1⟩
theorem ql_open0 : ql0.openD = (0, some kp0, ql0) := open_syn ql_up md0_few.ok (newD_syn 1000)
theorem ql_open1 : ql1.openD = (0, some kq1, ql1) := open_syn ql_syn.1 (md0_few.ok.app (by decide) (by decide)) ql_syn.2
theorem ql_apN : ql0.apN 0 [97] = (0, ql1, 1) := by
  rw [apN_appD (by decide) (by decide), ql_app.1]
  rfl
theorem ql_rd : (ql1.rd 0).length = 7 ∧ ql1.dErr 0 = 0 := ⟨by rw [ql_syn.1.rd0]; exact ql_app.2, ql_syn.1.dErr (.inl rfl)⟩
theorem ql_len {i : Int} : (ql0.rd i).length ≤ 1099511627776 ∧ (ql1.rd i).length ≤ 1099511627776 := by
  have h : ∀ D : Dsk, (D.f 0).all.length ≤ 7 → (D.f 1).all.length ≤ 7 → (D.rd i).length ≤ 1099511627776 := fun D h0 h1 => by
    unfold Dsk.rd
    split
    · rename_i hq
      have hq2 : i = 0 ∨ i = 1 := by
        unfold Dsk.dErr at hq
        split at hq
        · cases hq
        · unfold fErr at hq
          split at hq
          · cases hq
          · omega
      rcases hq2 with rfl | rfl
      · show (D.f 0).all.length ≤ _; omega
      · show (D.f 1).all.length ≤ _; omega
    · simp
  refine ⟨h _ (by decide) (by decide), h _ (by rw [ql_app.2]; decide) ?_⟩
  rw [ql_syn.2.2, stF_all]
  decide

theorem op_yes {R : Nat → Prop} {g : Nat} {D D2 : Dsk} {k : Kp} {w : World} {e : Ending} {w' : World} (hO : D.openD = (0, some k, D2)) (h : OpPost R g D w e w') : OpYes R g k D2 w e w' := by
  rcases h with ⟨h1, _⟩ | ⟨k', D3, h1, h2⟩
  · rw [hO] at h1; cases h1
  · rw [hO] at h1
    simp only [Prod.mk.injEq, Option.some.injEq] at h1
    obtain ⟨_, rfl, rfl⟩ := h1
    exact h2

set_option maxRecDepth 100000 in
set_option maxHeartbeats 6400000 in
theorem qlives_any (w : World) : Calls Try.prog 12 #[] w fun e w' => e = .returned (.bool true) ∧ Turn w w' none := by
  have T0 : ∀ (w : World) cs t, Turn w (w.alloc (.cells cs t)) none := fun w cs t => (Turn.refl w none).alloc _
  have hnew := new_bo 1000 w
  have kc := fun (w : World) (C : Array Value) (n c : Nat) => Lib.run_convert_bytes_const (P := Try.prog) w 34 5 C n c Try.underlying34 Try.underlying5
  have hq : ((txt [97]).toList == [97]) = true := by rw [txt_eq]; rfl
  have hop0 : ∀ {V g R}, Bo w V g R ql0 → Calls Try.prog 13 #[.pointer (some ⟨g, 0, none⟩)] V (OpYes R g kp0 ql0 V) := fun h => (open_any h.p ql_len.1 ql_len.1).mono fun e w' k => op_yes ql_open0 k
  have hop1 : ∀ {V g R}, Bo w V g R ql1 → Calls Try.prog 13 #[.pointer (some ⟨g, 0, none⟩)] V (OpYes R g kq1 ql1 V) := fun h => (open_any h.p ql_len.2 ql_len.2).mono fun e w' k => op_yes ql_open1 k
  have hap : ∀ {V g gw R}, Bo w V g R ql0 → Blk V gw 81 (wlc g 0).toArray → ¬ R gw → ∀ A m c B, Rd V B 1 A m (vbs [97]) → B ≤ V.heap.size → m ≤ 140737488351232 → Calls Try.prog 16 #[.pointer (some ⟨gw, 0, none⟩), .slice A m c] V (LgPost R gw g V 0 ql1 1) := by
    intro V g gw R h hb hn A m c B h1 h2 h3
    have k := append_any h.p hb hn (by decide) A m c B [97] h1 h2 h3
    rw [ql_apN] at k
    exact k
  have hrd : ∀ {V g R}, Bo w V g R ql1 → Calls Try.prog 10 #[.pointer (some ⟨g, 0, none⟩), .int .i64 0] V fun e w' => ∃ A c, e = .returned (.tuple #[.slice A 7 c, .int .i64 0]) ∧ Turn V w' none := by
    intro V g R h
    have k := read_bo h.p 0
    rw [ql_rd.1, ql_rd.2] at k
    exact k.mono fun e w' ⟨A, c, h1, _, h3⟩ => ⟨A, c, h1, h3⟩
  go_enter Try.func12, Try.ntmps12
  go_wp2_with (first
    | (go_at_call 6; refine hnew.mono ?_; rintro e w1 ⟨g, R1, rfl, h1⟩)
    | (go_at_call 13; first
      | (refine (hop1 h5).mono ?_; rintro e w6 ⟨gv, s6, x6, vs6, Q6, R6, rfl, hc6, hp6, hk6, hq6, hb6, hd6, hnq6, hN6⟩; have h6 := h5.stp2 hc6 hp6 hk6; obtain ⟨xA, xn, xc⟩ := x6; obtain rfl : xn = 1 := hq6.rn; obtain ⟨a, m, c, hv, hra, hm1, hm2, _⟩ := hq6.rows 0 [97] rfl; obtain ⟨bx, ox, e6, hbx, hcx⟩ := hq6.rd.head (by show 0 < 1 * 1; decide); have e6 : xA = some ⟨bx, ox, none⟩ := e6; subst e6; have hc0 := hcx 0 _ hv)
      | (refine (hop0 h1).mono ?_; rintro e w2 ⟨gw, s2, x2, vs2, Q2, R2, rfl, hc2, hp2, hk2, hq2, hb2, hd2, hnq2, hN2⟩; have h2 := h1.stp2 hc2 hp2 hk2))
    | (refine wp_st (xs := kpc kq1 s6 ⟨some ⟨bx, ox, none⟩, 1, xc⟩) rfl 46 _ _ rfl rfl rfl (Blk.new w6 _ _) rfl szKp (ones4 rfl rfl rfl rfl) ?_; intro w7 hb7 ht7; have t7 := (T0 w6 _ _).new ht7 (by simp); have r7 := hb7.ats (j := 2) (v := .slice (some ⟨bx, ox, none⟩) 1 xc) rfl; have q7 : w7.cell? ⟨bx, ox, none⟩ = some (.slice a m c) := (t7.cell hbx (by simp)).trans hc0; have x7 := str_run w7 (c := c) (hra.turn0 t7 (Nat.le_refl _)))
    | (refine wp_st (xs := kpc kp0 s2 x2) rfl 46 _ _ rfl rfl rfl (Blk.new w2 _ _) rfl szKp (ones4 rfl rfl rfl rfl) ?_; intro w3 hb3 ht3; have t3 := (T0 w2 _ _).new ht3 (by simp))
    | (go_at_call 16; refine (hap (h2.turn0 (t3.trans ((Turn.refl w3 none).alloc _))) (hb2.turn0 (t3.trans ((Turn.refl w3 none).alloc _))) (hd2 gw (.inr rfl)).2.2 _ _ _ (w3.heap.size + 1) (show Rd (w3.alloc (.cells #[.int .u8 97] 5 (1, 2))) _ 1 _ 1 (vbs [97]) from Rd.litF w3 _ (1, 2) (vbs [97])) (by show _ ≤ (w3.heap.push _).size; rw [Array.size_push]; omega) (by omega)).mono ?_; rintro e w4 ⟨rfl, hc4, R4, hp4, hk4, hb4, hn4⟩; have h4 := (h2.turn0 (t3.trans ((Turn.refl w3 none).alloc _))).lg (by have := (hd2 gw (.inr rfl)).1; have := h1.tw.size; omega) hc4 hp4 hk4)
    | (go_at_call 25; refine (next_any (hb6.turn0 t7)).mono ?_; rintro e w8 ⟨rfl, rfl⟩)
    | (go_at_call 10; refine (hrd h4).mono ?_; rintro e w5 ⟨A5, c5, rfl, t5⟩; have h5 := h4.turn0 t5))
  go_ret
  exact ⟨rfl, (h6.turn0 t7).tw⟩
end Go.Proofs.Ytjekglnbmccnjaa
/-
  Layer 15: the walk of WalActs.
-/
namespace Go.Proofs.Ytjekglnbmccnjaa
set_option linter.unusedSimpArgs false
set_option linter.unusedVariables false
open Go.RowKit

theorem rnew_bq {w0 w : World} {g : Nat} {R : Nat → Prop} {D : Dsk} (h : Bo w0 w g R D) (lim : Int) :
    Calls Try.prog 7 #[.int .i64 lim] w fun e w' => ∃ r T, e = .returned (.pointer (some ⟨r, 0, none⟩)) ∧ Bp w0 w' g r R T D (newD lim) :=
  (rnew_any lim w).mono fun e w' ⟨r, hg, he, hp, ht⟩ => ⟨r, fun k => k = r ∨ False, he, by
    have h2 := h.turn0 ht
    have s0 := h.tw.size
    refine ⟨h2.p, ⟨_, _, _, _, _, hp, fun k => Iff.rfl⟩, fun k h3 h4 => ?_, h2.r0, fun k hk => ?_, h2.tw⟩
    · rcases h4 with rfl | h4
      · exact h.lit hg h3
      · exact h4
    · rcases hk with rfl | hk
      · omega
      · exact hk.elim⟩
theorem bdPr {g r : Nat} : Try.prog.built 31 [(0, .pointer (some ⟨g, 0, none⟩)), (1, .pointer (some ⟨r, 0, none⟩))] = some (prc g r none none).toArray := by kernel_rfl
theorem newD_dj (lim : Int) : Dj (newD lim) 16777216 := fun i _ => by show ([] : List UInt8).length ≤ _; decide

set_option maxRecDepth 100000 in
set_option maxHeartbeats 12800000 in
theorem qacts_walk (L : Int) (A : Option Addr) (n c : Nat) (qs : List At) (w : World) (hr : Rq w w.heap.size A n qs) (hn : n ≤ 140737488351232) :
    Calls Try.prog 3 #[.int .i64 L, .slice A n c] w fun e w' => e = .returned (.bool true) ∧ Turn w w' none := by
  have hdj := newD_dj L
  generalize hD0 : newD L = D0 at *
  have hnew := new_bo L w
  rw [hD0] at hnew
  have hrn := fun {V g R} (h : Bo w V g R D0) => rnew_bq h L
  rw [hD0] at hrn
  clear hD0
  go_enter Try.func3, Try.ntmps3
  go_wp2_with (first
    | (go_at_call 6; refine hnew.mono ?_; rintro e w1 ⟨g, R1, rfl, h1⟩)
    | (go_at_call 7; refine (hrn h1).mono ?_; rintro e w2 ⟨r, T2, rfl, h2⟩)
    | (refine wp_bd rfl 31 _ rfl _ rfl _ bdPr ?_)
    | (refine wp_bx rfl 31 _ rfl rfl ?_; intro gp w3 hgp hb3 t3; have h3 := h2.turn0 t3; have hpq : Pq w w3 gp g r D0 D0 R1 T2 none none := ⟨h3, hb3, fun k => by have := h2.p.lt k; omega, fun k => by have := h2.q.lt k; omega, by have := h2.tw.size; omega, .inl ⟨rfl, rfl⟩⟩; have c30 := hb3.ats (j := 0) (v := .pointer (some ⟨g, 0, none⟩)) rfl)
    | (go_at_call 8; refine (opens_any hpq hdj (by omega) (by omega)).mono ?_; rintro e w4 ⟨rfl, R4, T4, x4, y4, h4⟩; have hj4 := hdj.openD h1.p.ok (by omega)))
  generalize D0.openD.2.2 = D4 at *
  go_loopw [6] (fun i wr => ∃ (j : Nat) (R T : Nat → Prop) (D : Dsk) (x y : Option Nat), j ≤ n ∧ j ≤ 60 ∧ i = .int .i64 (j : Int) ∧ Pq w wr gp g r D D R T x y ∧ Hid (Dj D (16777216 + j * 3000))) (fun i _ => (n - intOf i).toNat)
  case atStart => exact ⟨0, R4, T4, D4, x4, y4, by omega, by omega, rfl, h4, hid hj4⟩
  case round =>
    obtain ⟨j, R, T, D, x, y, hj, hj2, rfl, h, HJ⟩ := hrel
    clear h1 h2 h3 h4 hdj hj4 hpq hnew hrn hb3 c30 t3
    by_cases hjn : j < n ∧ j < 60
    · obtain ⟨hjn, hj3⟩ := hjn
      obtain ⟨b, off, a, rfl, hb, ha, hok, hrng⟩ := hr.at_ (Nat.le_refl _) hjn
      have hcs : a.cs = acq a.k a.m a.A a.n a.c := rfl
      rw [hcs] at hrng
      have hrw := hrng _ h.d.tw
      go_wp2_with (first
        | (refine gd_ldR (by rfl) 36 _ rfl rfl hrw Try.underlying36 rfl szAct15 ?_)
        | (go_at_call 9; refine (does15_any h HJ.out (by omega) (by omega) a.k a.m hok.m0 hok.m1 a.A a.n a.c w.heap.size a.b hok.rd (Nat.le_refl _) hok.nc hok.cm).mono ?_; rintro e w5 ⟨rfl, D5, R5, T5, x5, y5, h5, hj5⟩))
      clear hrw
      go_loopw [7] (fun i wr => ∃ (q : Nat), q ≤ 2 ∧ i = .int .i64 (q : Int) ∧ Turn w5 wr none) (fun i _ => (2 - intOf i).toNat)
      case atStart => exact ⟨0, by omega, rfl, Turn.refl _ _⟩
      case round =>
        obtain ⟨q, hq, rfl, tq⟩ := hrel
        have h6 := h5.turn0 tq
        by_cases hq2 : q < 2
        · have c0 := h6.b.ats (j := 0) (v := .pointer (some ⟨g, 0, none⟩)) rfl
          have hr1 := read_bo h6.d.p (q : Int)
          have hr2 := fun {V} (t : Turn wr V none) => rread_rk (h6.turn0 t).d.q (q : Int)
          have c1 := fun {V} (t : Turn wr V none) => (h6.turn0 t).b.ats (j := 1) (v := .pointer (some ⟨r, 0, none⟩)) rfl
          go_wp2_with (first
            | (go_at_call 10; refine hr1.mono ?_; rintro e w7 ⟨A7, c7, rfl, ho7, t7⟩; have c17 := c1 t7)
            | (go_at_call 11; refine (hr2 t7).mono ?_; rintro e w8 ⟨A8, c8, rfl, ho8, t8⟩; have x7 := str_run w8 (c := c7) (ho7.turn0 t8).rd; have x8 := str_run w8 (c := c8) ho8.rd))
          refine ⟨⟨q + 1, by omega, by go_num, (tq.trans t7).trans t8⟩, ?_⟩
          simp [intOf]; omega
        · obtain rfl : q = 2 := by omega
          go_wp2
          refine ⟨⟨j + 1, R5, T5, D5, x5, y5, by omega, by omega, by go_num, h6, hid (hj5.mono (by omega))⟩, ?_⟩
          simp [intOf]; omega
    · have hcase : ¬ (j : Int) < n ∨ ((j : Int) < n ∧ ¬ (j : Int) < 60) := by omega
      rcases hcase with q | ⟨q, q2⟩
      all_goals
        go_wp2_with (first
          | (go_at_call 12; refine (qlives_any _).mono ?_; rintro e w9 ⟨rfl, t9⟩))
        go_ret
        exact ⟨rfl, h.d.tw.trans t9⟩
end Go.Proofs.Ytjekglnbmccnjaa
/-
  Slices of elements of some cells each: what is seen of them, and how they are read as data. No program is named here.
-/
namespace Go.Proofs.Ytjekglnbmccnjaa
set_option linter.unusedSimpArgs false
set_option linter.unusedVariables false
open Go.ChangeShapes Go.WideShapes Go.ChangeAt Go.RowKit

theorem flat_len {V : Nat → List Value} {sz : Nat} (hV : ∀ i, (V i).length = sz) : ∀ n, ((List.range n).flatMap V).length = n * sz
  | 0 => by simp
  | n + 1 => by
    rw [List.range_succ, List.flatMap_append, List.length_append, flat_len hV n, Nat.succ_mul]
    simp [hV]
theorem flat_at {V : Nat → List Value} {sz : Nat} (hV : ∀ i, (V i).length = sz) : ∀ (n i q : Nat), i < n → q < sz → ((List.range n).flatMap V)[i * sz + q]? = (V i)[q]?
  | 0, _, _, h, _ => absurd h (Nat.not_lt_zero _)
  | n + 1, i, q, h, hq => by
    rw [List.range_succ, List.flatMap_append]
    have hl := flat_len hV n
    by_cases hi : i < n
    · have : i * sz + q < n * sz := by
        have h1 : (i + 1) * sz ≤ n * sz := Nat.mul_le_mul_right _ hi
        rw [Nat.succ_mul] at h1
        omega
      rw [List.getElem?_append_left (by rw [hl]; exact this)]
      exact flat_at hV n i q hi hq
    · obtain rfl : i = n := by omega
      rw [List.getElem?_append_right (by omega), hl, Nat.add_sub_cancel_left]
      simp
section
variable {H : Type} {enc : TypeId × Value → H} {P : Program} {W : World}
/-- Elements of some cells each, one behind another. -/
theorem rd_many {b : Addr} {len sz : Nat} {V : Nat → List Value} (hz : 0 < sz) (hV : ∀ i, (V i).length = sz) (h : ∀ i, i < len → ∀ q v, (V i)[q]? = some v → W.cell? (b.add (i * sz + q)) = some v) : Rd W W.heap.size sz (some b) len ((List.range len).flatMap V) := by
  refine ⟨flat_len hV len, fun k u hu => ?_⟩
  have hk : k < len * sz := by rw [← flat_len hV len]; exact (List.getElem?_eq_some_iff.1 hu).1
  have hi : k / sz < len := Nat.div_lt_of_lt_mul (by rw [Nat.mul_comm]; exact hk)
  have hq : k % sz < sz := Nat.mod_lt _ hz
  have hkk : k / sz * sz + k % sz = k := Nat.div_add_mod' k sz
  rw [← hkk, flat_at hV len _ _ hi hq] at hu
  have hc := h _ hi _ _ hu
  rw [hkk] at hc
  exact ⟨b, rfl, by have := World.block_lt_of_cell? W _ hc; rwa [addr_block] at this, hc⟩
/-- A slice that is read: its elements' cells, and their data. -/
theorem open_many {t e : TypeId} {sz fuel len cap : Nat} {a : Option Addr} {x : DataW H × List MemPlace} (ht : P.underlying t = some (.slice e)) (hsz : P.cellsOf e = sz)
    (h : DataW.trod enc P W 0 (fun _ => true) true fuel t [.slice a len cap] = some x) : (a = none ∧ len = 0 ∧ cap = 0) ∨
    ∃ (b : Addr) (n : Nat) (D : Nat → DataW H × List MemPlace) (C : Nat → List Value) (sp : List (DataW H)), a = some b ∧ len ≤ cap ∧ cap ≤ maxLen ∧ x.1 = .slice ((List.range len).map fun i => (D i).1) sp ∧ len + sp.length = cap ∧
      ∀ i, i < len → (C i).length = sz ∧ (∀ q v, (C i)[q]? = some v → W.cell? (b.add (i * sz + q)) = some v) ∧ DataW.trod enc P W 0 (fun _ => true) true n e (C i) = some (D i) := by
  rcases DataW.trod_slice ht h with ⟨hc, _⟩ | ⟨b, len', cap', elems, rest, n, _, hc, rfl, _, hl, hm, hel, hE, hS, _⟩
  · simp only [List.cons.injEq, Value.slice.injEq, and_true] at hc
    exact .inl hc
  · simp only [List.cons.injEq, Value.slice.injEq, and_true] at hc
    obtain ⟨rfl, rfl, rfl⟩ := hc
    obtain ⟨hr, _⟩ := hS rfl
    right
    have one : ∀ i, i < len → ∃ r : List Value × (DataW H × List MemPlace), r.1.length = sz ∧ (∀ q v, r.1[q]? = some v → W.cell? (b.add (i * sz + q)) = some v) ∧ DataW.trod enc P W 0 (fun _ => true) true n e r.1 = some r.2 ∧ elems[i]? = some r.2 := by
      intro i hi
      have h1 := hE i hi
      have h2 : elems[i]? = some elems[i] := List.getElem?_eq_getElem (by omega)
      rw [h2] at h1
      obtain ⟨cs, h3, h4⟩ := Option.bind_eq_some_iff.1 h1
      obtain ⟨_, h5, h6⟩ := World.cells?_some h3
      rw [hsz] at h5 h6
      refine ⟨(cs, elems[i]), h5, fun q v hq => ?_, h4, h2⟩
      have hq2 : q < sz := by rw [← h5]; exact (List.getElem?_eq_some_iff.1 hq).1
      have h7 := h6 q hq2
      rw [Addr.add_add] at h7
      rw [h7]
      exact hq
    classical
    obtain ⟨F, hF⟩ : ∃ F : Nat → List Value × (DataW H × List MemPlace), ∀ i, i < len → (F i).1.length = sz ∧ (∀ q v, (F i).1[q]? = some v → W.cell? (b.add (i * sz + q)) = some v) ∧ DataW.trod enc P W 0 (fun _ => true) true n e (F i).1 = some (F i).2 ∧ elems[i]? = some (F i).2 :=
      ⟨fun i => if hi : i < len then Classical.choose (one i hi) else ([], (.nil, [])), fun i hi => by
        simp only [dif_pos hi]
        exact Classical.choose_spec (one i hi)⟩
    refine ⟨b, n, fun i => (F i).2, fun i => (F i).1, rest.map (·.1), rfl, hl, hm, ?_, by rw [List.length_map, hr]; omega, fun i hi => ⟨(hF i hi).1, (hF i hi).2.1, (hF i hi).2.2.1⟩⟩
    show DataW.slice (elems.map (·.1)) (rest.map (·.1)) = _
    congr 1
    apply List.ext_getElem?
    intro i
    by_cases hi : i < len
    · rw [List.getElem?_map, List.getElem?_map, (hF i hi).2.2.2, List.getElem?_range hi]
      rfl
    · rw [List.getElem?_eq_none (by rw [List.length_map]; omega), List.getElem?_eq_none (by simp; omega)]
end
end Go.Proofs.Ytjekglnbmccnjaa
/-
  Layer 15: acts that are read as data.
-/
namespace Go.Proofs.Ytjekglnbmccnjaa
set_option linter.unusedSimpArgs false
set_option linter.unusedVariables false
set_option maxRecDepth 100000
open Go.ChangeShapes Go.WideShapes Go.ChangeAt Go.RowKit

section
variable {H : Type} {enc : TypeId × Value → H} {W : World} {r : Reach} {b0 : Nat}
theorem dkc_int : Try.prog.cellsOf 3 = 1 := by kernel_rfl
theorem dkc_slb : Try.prog.cellsOf 34 = 1 := by kernel_rfl
theorem dkc_u8 : Try.prog.cellsOf 5 = 1 := by kernel_rfl
theorem dkc_act : Try.prog.cellsOf 36 = 3 := by kernel_rfl
theorem slb_form {t e : TypeId} {fuel : Nat} {v : Value} {x : DataW H × List MemPlace} (ht : Try.prog.underlying t = some (.slice e)) (h : DataW.trod enc Try.prog W 0 (fun _ => true) true fuel t [v] = some x) : ∃ A n c, v = .slice A n c := by
  rcases DataW.trod_slice ht h with ⟨hc, _⟩ | ⟨b, len', cap', elems, rest, n, _, hc, _⟩
  · simp only [List.cons.injEq, and_true] at hc
    exact ⟨_, _, _, hc⟩
  · simp only [List.cons.injEq, and_true] at hc
    exact ⟨_, _, _, hc⟩
theorem act_at {fuel : Nat} {cs : List Value} {x : DataW H × List MemPlace} (h1 : cs.length = 3) (h2 : DataW.trod enc Try.prog W 0 (fun _ => true) true fuel 36 cs = some x) :
    ∃ a : At, cs = a.cs ∧ ((∀ n ∈ x.1.weights Try.prog 36, n ≤ 140737488351232) → a.Ok W W.heap.size) := by
  obtain ⟨xs, m, _, hD, _, h3, h4⟩ := DataW.trod_struct Try.underlying36 h2
  match cs, h1 with
  | [a0, a1, a3], _ =>
    have g0 : DataW.trod enc Try.prog W 0 (fun _ => true) true m 3 (([a0, a1, a3].drop 0).take (Try.prog.cellsOf 3)) = xs[0]? := h4 0 _ rfl
    have g1 : DataW.trod enc Try.prog W 0 (fun _ => true) true m 3 (([a0, a1, a3].drop 1).take (Try.prog.cellsOf 3)) = xs[1]? := h4 1 _ rfl
    have g3 : DataW.trod enc Try.prog W 0 (fun _ => true) true m 34 (([a0, a1, a3].drop 2).take (Try.prog.cellsOf 34)) = xs[2]? := h4 2 _ rfl
    rw [dkc_int] at g0 g1
    rw [dkc_slb] at g3
    match xs, h3 with
    | [y0, y1, y3], _ =>
      obtain ⟨z0, e0, _⟩ := DataW.trod_int Try.underlying3 g0
      obtain ⟨z1, e1, _, w2⟩ := DataW.trod_int Try.underlying3 g1
      have u0 : a0 = Value.int .i64 z0 := (List.cons.inj (show [a0] = [Value.int .i64 z0] from e0)).1
      have u1 : a1 = Value.int .i64 z1 := (List.cons.inj (show [a1] = [Value.int .i64 z1] from e1)).1
      have g3 : DataW.trod enc Try.prog W 0 (fun _ => true) true m 34 [a3] = some y3 := g3
      obtain ⟨A, n, c, rfl⟩ := slb_form Try.underlying34 g3
      obtain ⟨l, hr, hn, hc, hcap⟩ := open_bytes (a := A) (len := n) (cap := c) (d := y3.1) (p := y3.2) Try.underlying34 Try.underlying5 dkc_u8 ⟨m, by simpa [Value.cells] using g3⟩
      subst u0
      subst u1
      refine ⟨⟨z0, z1, A, n, c, l⟩, rfl, fun hw => ⟨hr, hn, hc, ?_, (bd_i64 w2).1, (bd_i64 w2).2⟩⟩
      rw [hD] at hw
      have h5 : ∀ q ∈ y3.1.weights Try.prog 34, q ≤ 140737488351232 := fun q hq => hw q (by
        rw [DataW.weights, Try.underlying36]
        exact DataW.weights_mem_each (j := 2) (t := 34) rfl rfl q hq)
      show n ≤ _
      rcases hcap with ⟨_, h6, _⟩ | ⟨es, sp, h6, h7, h8⟩
      · omega
      · have h9 := h5 ((es.length + sp.length) * Try.prog.bytesOf 5) (by rw [h6, DataW.weights, Try.underlying34]; simp)
        rw [show Try.prog.bytesOf 5 = 1 by kernel_rfl] at h9
        omega
theorem open_act {v : Value} {d : DataW H} {p : List MemPlace} (hv : Value.okWide Try.prog W r b0 36 v) (h : DataW.Trod enc Try.prog W 0 (fun _ => true) true 36 v d p) :
    ∃ a : At, v = .agg a.cs.toArray ∧ ((∀ n ∈ d.weights Try.prog 36, n ≤ 140737488351232) → a.Ok W W.heap.size) := by
  simp only [Value.okWide, Try.underlying36] at hv
  obtain ⟨cs, rfl, h4, _⟩ := hv
  obtain ⟨fuel, hf⟩ := h
  have hl : cs.toList.length = 3 := by rw [Array.length_toList]; exact h4.trans dkc_act
  obtain ⟨a, ha, hk⟩ := act_at hl hf
  refine ⟨a, ?_, hk⟩
  have e : cs.toList = a.cs := ha
  rw [← e]
theorem dkc_end : Try.prog.cellsOf 42 = 3 := by kernel_rfl
theorem end_at {fuel : Nat} {cs : List Value} {x : DataW H × List MemPlace} (h1 : cs.length = 3) (h2 : DataW.trod enc Try.prog W 0 (fun _ => true) true fuel 42 cs = some x) :
    ∃ a : At, cs = a.cs ∧ ((∀ n ∈ x.1.weights Try.prog 42, n ≤ 140737488351232) → a.Ok W W.heap.size) := by
  obtain ⟨xs, m, _, hD, _, h3, h4⟩ := DataW.trod_struct Try.underlying42 h2
  match cs, h1 with
  | [a0, a1, a3], _ =>
    have g0 : DataW.trod enc Try.prog W 0 (fun _ => true) true m 3 (([a0, a1, a3].drop 0).take (Try.prog.cellsOf 3)) = xs[0]? := h4 0 _ rfl
    have g1 : DataW.trod enc Try.prog W 0 (fun _ => true) true m 3 (([a0, a1, a3].drop 1).take (Try.prog.cellsOf 3)) = xs[1]? := h4 1 _ rfl
    have g3 : DataW.trod enc Try.prog W 0 (fun _ => true) true m 34 (([a0, a1, a3].drop 2).take (Try.prog.cellsOf 34)) = xs[2]? := h4 2 _ rfl
    rw [dkc_int] at g0 g1
    rw [dkc_slb] at g3
    match xs, h3 with
    | [y0, y1, y3], _ =>
      obtain ⟨z0, e0, _⟩ := DataW.trod_int Try.underlying3 g0
      obtain ⟨z1, e1, _, w2⟩ := DataW.trod_int Try.underlying3 g1
      have u0 : a0 = Value.int .i64 z0 := (List.cons.inj (show [a0] = [Value.int .i64 z0] from e0)).1
      have u1 : a1 = Value.int .i64 z1 := (List.cons.inj (show [a1] = [Value.int .i64 z1] from e1)).1
      have g3 : DataW.trod enc Try.prog W 0 (fun _ => true) true m 34 [a3] = some y3 := g3
      obtain ⟨A, n, c, rfl⟩ := slb_form Try.underlying34 g3
      obtain ⟨l, hr, hn, hc, hcap⟩ := open_bytes (a := A) (len := n) (cap := c) (d := y3.1) (p := y3.2) Try.underlying34 Try.underlying5 dkc_u8 ⟨m, by simpa [Value.cells] using g3⟩
      subst u0
      subst u1
      refine ⟨⟨z0, z1, A, n, c, l⟩, rfl, fun hw => ⟨hr, hn, hc, ?_, (bd_i64 w2).1, (bd_i64 w2).2⟩⟩
      rw [hD] at hw
      have h5 : ∀ q ∈ y3.1.weights Try.prog 34, q ≤ 140737488351232 := fun q hq => hw q (by
        rw [DataW.weights, Try.underlying42]
        exact DataW.weights_mem_each (j := 2) (t := 34) rfl rfl q hq)
      show n ≤ _
      rcases hcap with ⟨_, h6, _⟩ | ⟨es, sp, h6, h7, h8⟩
      · omega
      · have h9 := h5 ((es.length + sp.length) * Try.prog.bytesOf 5) (by rw [h6, DataW.weights, Try.underlying34]; simp)
        rw [show Try.prog.bytesOf 5 = 1 by kernel_rfl] at h9
        omega
theorem open_end {v : Value} {d : DataW H} {p : List MemPlace} (hv : Value.okWide Try.prog W r b0 42 v) (h : DataW.Trod enc Try.prog W 0 (fun _ => true) true 42 v d p) :
    ∃ a : At, v = .agg a.cs.toArray ∧ ((∀ n ∈ d.weights Try.prog 42, n ≤ 140737488351232) → a.Ok W W.heap.size) := by
  simp only [Value.okWide, Try.underlying42] at hv
  obtain ⟨cs, rfl, h4, _⟩ := hv
  obtain ⟨fuel, hf⟩ := h
  have hl : cs.toList.length = 3 := by rw [Array.length_toList]; exact h4.trans dkc_end
  obtain ⟨a, ha, hk⟩ := end_at hl hf
  refine ⟨a, ?_, hk⟩
  have e : cs.toList = a.cs := ha
  rw [← e]
theorem open_acts {a : Option Addr} {len cap : Nat} {d : DataW H} {p : List MemPlace} (h : DataW.Trod enc Try.prog W 0 (fun _ => true) true 22 (.slice a len cap) d p) :
    ∃ qs, len ≤ cap ∧ cap ≤ maxLen ∧ ((∀ n ∈ d.weights Try.prog 22, n ≤ 140737488351232) → Rq W W.heap.size a len qs ∧ len ≤ 140737488351232) := by
  obtain ⟨fuel, hf⟩ := h
  rcases open_many Try.underlying22 dkc_act hf with ⟨rfl, rfl, rfl⟩ | ⟨b, n, D, C, sp, rfl, hl, hm, hx, hs, hE⟩
  · exact ⟨[], Nat.le_refl _, Nat.zero_le _, fun _ => ⟨⟨Rd.none_ W _ 3 0, rfl, fun x hx => by cases hx⟩, Nat.zero_le _⟩⟩
  · have one : ∀ i, i < len → ∃ a : At, C i = a.cs ∧ ((∀ n ∈ (D i).1.weights Try.prog 36, n ≤ 140737488351232) → a.Ok W W.heap.size) := fun i hi => act_at (hE i hi).1 (hE i hi).2.2
    have : Inhabited At := ⟨⟨0, 0, none, 0, 0, []⟩⟩
    obtain ⟨F, hF⟩ := Deep.choose_lt one
    refine ⟨(List.range len).map F, hl, hm, fun hw => ⟨⟨?_, by simp, fun x hx2 => ?_⟩, ?_⟩⟩
    · rw [List.flatMap_map]
      refine rd_many (by omega) (fun i => rfl) (fun i hi q v hq => ?_)
      rw [← (hF i hi).1] at hq
      exact (hE i hi).2.1 q v hq
    · obtain ⟨i, hi, rfl⟩ := List.mem_map.1 hx2
      have hi := List.mem_range.1 hi
      have hx : d = .slice ((List.range len).map fun i => (D i).1) sp := hx
      refine (hF i hi).2 fun q hq => hw q ?_
      rw [hx, DataW.weights, Try.underlying22]
      exact List.mem_cons_of_mem _ (List.mem_append_left _ (weights_all (List.mem_map.2 ⟨i, List.mem_range.2 hi, rfl⟩) hq))
    · have hx : d = .slice ((List.range len).map fun i => (D i).1) sp := hx
      have h9 := hw ((((List.range len).map fun i => (D i).1).length + sp.length) * Try.prog.bytesOf 36) (by rw [hx, DataW.weights, Try.underlying22]; simp)
      rw [show Try.prog.bytesOf 36 = 40 by kernel_rfl, List.length_map, List.length_range] at h9
      omega
end
end Go.Proofs.Ytjekglnbmccnjaa
