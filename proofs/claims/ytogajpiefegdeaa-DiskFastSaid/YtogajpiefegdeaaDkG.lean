/-
  Layer 14: Replace (contract of the code).
-/
import Derived.Test.YtogajpiefegdeaaDkE
namespace Go.Proofs.Ytogajpiefegdeaa
set_option linter.unusedSimpArgs false
set_option linter.unusedVariables false
open Go.RowKit

set_option maxRecDepth 100000 in
set_option maxHeartbeats 3200000 in
theorem replace_any {w : World} {g : Nat} {R : Nat → Prop} {D : Dsk} (h : Pk w g R D) (n : Int) (A : Option Addr) (m c B : Nat) (b : List UInt8) (hr : Rd w B 1 A m (vbs b)) (hB : B ≤ w.heap.size) (hm : m ≤ 140737488355328) (hA : ∀ k, blk A = some k → 0 < m → ¬ R k) :
    Calls Try.prog 20 #[.pointer (some ⟨g, 0, none⟩), .int .i64 n, .slice A m c] w fun e w' => e = .returned (.int .i64 (D.rErr n b)) ∧ Stp w w' R g (D.rp n b) := by
  obtain ⟨S, v, u, lv, hp, hR⟩ := h
  have hcl := call_any hp n
  have hml := hr.len
  rw [vbs_len] at hml
  have hgA : blk A = some g → 0 < m → False := fun e hp => hA g e hp ((hR g).1 (.inl rfl))
  rcases cErr_cases D n with ⟨he, j, hj, rfl⟩ | he | he
  · rw [he] at hcl
    have hvb : (v j).n ≤ 140737521909760 := by
      have h2 := (hp.ok.f j hj).all
      have h3 := (hp.f j hj).vn
      omega
    have hwE : D.rErr (j : Int) b = if D.lim < ((D.f (1 - j)).all.length : Int) + m then 8 else 0 := by unfold Dsk.rErr; rw [if_pos he, hml, Int.toNat_natCast]
    have hf1 : D.cnt.f = D.f := D.cnt_f
    have hs1 : D.cnt.size = D.size := by unfold Dsk.size; rw [hf1]
    have hfit : ∀ lv1 W, PD W g S v u lv1 D.cnt → Calls Try.prog 30 #[.pointer (some ⟨g, 0, none⟩), .agg (fc (D.f j) (v j) (u j)).toArray, .int .i64 (m : Int)] W fun e w' => e = .returned (.bool (decide (((D.f (1 - j)).all.length : Int) + m ≤ D.lim))) ∧ Turn W w' none := by
      intro lv1 W hW
      have h2 := fits_any hW (D.f j) (v j) (u j) m hvb (by omega)
      rw [hs1, D.cnt_lim] at h2
      have h3 := (hp.f j hj).vn
      have e : (D.size : Int) - (v j).n + m = ((D.f (1 - j)).all.length : Int) + m := by
        obtain rfl | rfl : j = 0 ∨ j = 1 := by omega
        · have e0 : D.size = (D.f 0).all.length + (D.f 1).all.length := rfl
          show (D.size : Int) - (v 0).n + m = ((D.f 1).all.length : Int) + m
          omega
        · have e0 : D.size = (D.f 0).all.length + (D.f 1).all.length := rfl
          show (D.size : Int) - (v 1).n + m = ((D.f 0).all.length : Int) + m
          omega
      rw [e] at h2
      exact h2
    by_cases hfull : D.lim < ((D.f (1 - j)).all.length : Int) + m
    · have hwr : D.rp (j : Int) b = D.cnt := by unfold Dsk.rp; rw [hwE, if_pos hfull]; rfl
      rw [hwr, hwE, if_pos hfull]
      have hd : decide (((D.f (1 - j)).all.length : Int) + m ≤ D.lim) = false := decide_eq_false (by omega)
      rw [hd] at hfit
      clear hwE hwr hd he hfull
      have hrj := fun lv1 W (hW : PD W g S v u lv1 D.cnt) => rangeJ hW hj
      rw [hf1] at hrj
      clear hs1 hml hf1
      obtain rfl | rfl : j = 0 ∨ j = 1 := by omega
      all_goals
        go_enter Try.func20, Try.ntmps20
        go_wp2_with (first
          | (go_at_call 29; refine hcl.mono ?_; rintro e w1 ⟨rfl, t1, lv1, h1⟩; have hc1 := hrj _ _ h1)
          | (refine gd_ldR (by rfl) 53 _ rfl rfl hc1 Try.underlying53 rfl szC ?_)
          | (refine wp_st (xs := fc (D.f _) (v _) (u _)) rfl 53 _ _ rfl rfl rfl (Blk.new w1 _ _) rfl szC (ones3 rfl rfl rfl) ?_; intro w3 hb3 ht3; have t3 := ((Turn.refl w1 none).alloc _).new ht3 (by simp); have hsl : ∀ x : Sl, x.v = .slice x.A x.n x.c := fun _ => rfl; have c0 := hb3.ats (j := 0) rfl)
          | (refine wp_ld rfl 53 _ rfl rfl hb3 (Sub.all _) Try.underlying53 rfl szC ?_)
          | (go_at_call 30; refine (hfit _ _ (h1.turn0 t3)).mono ?_; rintro e w4 ⟨rfl, t4⟩))
        go_ret
        exact ⟨rfl, (h1.turn0 (t3.trans t4)).no (t1.trans ((t3.trans t4).any _)) hR⟩
    · have hwr : D.rp (j : Int) b = D.cnt.put j ⟨(D.f j).fa, [], b, true⟩ := by unfold Dsk.rp; rw [hwE, if_neg hfull, if_pos rfl, Int.toNat_natCast]
      have hok := (hp.ok.rp (j : Int) b).f j hj
      rw [hwr, hwE, if_neg hfull]
      have hd : decide (((D.f (1 - j)).all.length : Int) + m ≤ D.lim) = true := decide_eq_true (by omega)
      rw [hd] at hfit
      have hl1 := hp.ok.l1
      rw [hwr] at hok
      have hok : (⟨(D.f j).fa, [], b, true⟩ : Fi).Ok := by
        have e : (D.cnt.put j ⟨(D.f j).fa, [], b, true⟩).f j = ⟨(D.f j).fa, [], b, true⟩ := upd_same _ _ _
        rw [e] at hok
        exact hok
      clear hwE hwr hd he hfull hl1
      have hrj := fun lv1 W (hW : PD W g S v u lv1 D.cnt) => rangeJ hW hj
      rw [hf1] at hrj
      have fin : ∀ lv1 w1 w4 w5 w6 A' c2, PD w1 g S v u lv1 D.cnt → Turn w w1 (some g) → Turn w1 w4 none → Own w5 w4.heap.size 5 1 A' m c2 (vbs b) → Turn w4 w5 none → Turn w5 w6 (some g) →
          Blk w6 g 56 (((((pdc D.cnt v u lv1).set (1 + j * 3) (.slice A' m c2)).set (1 + j * 3 + 1) (u j).v).set (1 + j * 3 + 2) (.bool true))).toArray → Stp w w6 R g (D.cnt.put j ⟨(D.f j).fa, [], b, true⟩) := by
        intro lv1 w1 w4 w5 w6 A' c2 h1 t1 t4 hO t5 t6 hb6
        have hf := (h1.turn0 (t4.trans t5)).f j hj
        rw [hf1] at hf
        have hlt := fun k hk => h1.lt j k hj hk
        have s4 := t4.size
        have hO2 := hO.mono (Nat.zero_le _)
        have e : (⟨(D.f j).fa, [], b, true⟩ : Fi).all = b := by simp [Fi.all]
        have k1 : Fil w5 (fun k => S j k ∨ (w1.heap.size ≤ k ∧ k < w5.heap.size)) ⟨(D.f j).fa, [], b, true⟩ ⟨A', m, c2⟩ (u j) :=
          ⟨by rw [e]; exact hO2, hf.hu, fun k hk => .inr (by have h := hO.block k hk; omega), fun k hk => .inl (hf.su k hk), fun k hk hk2 => by
            have h := hO.block k hk
            have h2 := hlt k (hf.su k hk2)
            omega⟩
        exact h1.yes (v := ⟨A', m, c2⟩) t1 hR hj (Chg.of0 (t4.trans t5) (S j)) t6 hb6 k1 (fun k hk => hk) hok
      clear hs1 hml
      obtain rfl | rfl : j = 0 ∨ j = 1 := by omega
      all_goals
        go_enter Try.func20, Try.ntmps20
        go_wp2_with (first
          | (go_at_call 29; refine hcl.mono ?_; rintro e w1 ⟨rfl, t1, lv1, h1⟩; have hc1 := hrj _ _ h1)
          | (refine gd_ldR (by rfl) 53 _ rfl rfl hc1 Try.underlying53 rfl szC ?_)
          | (refine wp_st (xs := fc (D.f _) (v _) (u _)) rfl 53 _ _ rfl rfl rfl (Blk.new w1 _ _) rfl szC (ones3 rfl rfl rfl) ?_; intro w3 hb3 ht3; have t3 := ((Turn.refl w1 none).alloc _).new ht3 (by simp); have hsl : ∀ x : Sl, x.v = .slice x.A x.n x.c := fun _ => rfl; have c0 := hb3.ats (j := 0) rfl)
          | (refine wp_ld rfl 53 _ rfl rfl hb3 (Sub.all _) Try.underlying53 rfl szC ?_)
          | (go_at_call 30; refine (hfit _ _ (h1.turn0 t3)).mono ?_; rintro e w4 ⟨rfl, t4⟩))
        have T4 := t3.trans t4
        have h4 := h1.turn0 T4
        have hb4 := hb3.turn0 t4
        have s1 := t1.size
        have hr4 := ((hr.ne0 hB t1 hgA).turn0 T4 (Nat.le_trans hB s1))
      · have C : ∀ W, Blk W w1.heap.size 53 (fc (D.f 0) (v 0) (u 0)).toArray → W.cell? ⟨w1.heap.size, 1, none⟩ = some (.slice (u 0).A (u 0).n (u 0).c) := fun W h => h.ats (j := 1) rfl
        refine wp_region_noPanic ?_
        refine wp_region_held_drew (S := (fun W => W.cell? ⟨w1.heap.size, 1, none⟩ = some (.slice (u 0).A (u 0).n (u 0).c))) (by kernel_rfl) (C _ hb4.drew) (fun hHeld => ?_)
        (first | (refine wpAnyH_take (i := 0) (v := undef) rfl (by kernel_rfl) (by kernel_rfl) (by kernel_rfl) (fun _ _ _ h => h) (Or.inr ⟨rfl, rfl⟩) (by assumption) ?_) | (refine wpAnyH_take (i := 0) (v := ?_) rfl (by kernel_rfl) (by kernel_rfl) (by kernel_rfl) (fun _ _ _ h => h) (Or.inl ⟨rfl, ?_⟩) (by assumption) ?_; rotate_left 1; · (intro w hSw; (try dsimp only at hSw); go_simp; (try with_reducible rfl)))); (try simp only [Act.put, List.getElem_toArray, List.getElem_cons_zero, List.getElem_cons_succ, List.setIfInBounds_toArray, List.set_cons_zero, List.set_cons_succ])
        (first | (refine wpAnyH_take (i := 1) (v := undef) rfl (by kernel_rfl) (by kernel_rfl) (by kernel_rfl) (fun _ _ _ h => h) (Or.inr ⟨rfl, rfl⟩) (by assumption) ?_) | (refine wpAnyH_take (i := 1) (v := ?_) rfl (by kernel_rfl) (by kernel_rfl) (by kernel_rfl) (fun _ _ _ h => h) (Or.inl ⟨rfl, ?_⟩) (by assumption) ?_; rotate_left 1; · (intro w hSw; (try dsimp only at hSw); go_simp; (try with_reducible rfl)))); (try simp only [Act.put, List.getElem_toArray, List.getElem_cons_zero, List.getElem_cons_succ, List.setIfInBounds_toArray, List.set_cons_zero, List.set_cons_succ])
        (first | (refine wpAnyH_take (i := 2) (v := undef) rfl (by kernel_rfl) (by kernel_rfl) (by kernel_rfl) (fun _ _ _ h => h) (Or.inr ⟨rfl, rfl⟩) (by assumption) ?_) | (refine wpAnyH_take (i := 2) (v := ?_) rfl (by kernel_rfl) (by kernel_rfl) (by kernel_rfl) (fun _ _ _ h => h) (Or.inl ⟨rfl, ?_⟩) (by assumption) ?_; rotate_left 1; · (intro w hSw; (try dsimp only at hSw); go_simp; (try with_reducible rfl)))); (try simp only [Act.put, List.getElem_toArray, List.getElem_cons_zero, List.getElem_cons_succ, List.setIfInBounds_toArray, List.set_cons_zero, List.set_cons_succ])
        (first | (refine wpAnyH_take (i := 4) (v := undef) rfl (by kernel_rfl) (by kernel_rfl) (by kernel_rfl) (fun _ _ _ h => h) (Or.inr ⟨rfl, rfl⟩) (by assumption) ?_) | (refine wpAnyH_take (i := 4) (v := ?_) rfl (by kernel_rfl) (by kernel_rfl) (by kernel_rfl) (fun _ _ _ h => h) (Or.inl ⟨rfl, ?_⟩) (by assumption) ?_; rotate_left 1; · (intro w hSw; (try dsimp only at hSw); go_simp; (try with_reducible rfl)))); (try simp only [Act.put, List.getElem_toArray, List.getElem_cons_zero, List.getElem_cons_succ, List.setIfInBounds_toArray, List.set_cons_zero, List.set_cons_succ])
        (first | (refine wpAnyH_take (i := 5) (v := undef) rfl (by kernel_rfl) (by kernel_rfl) (by kernel_rfl) (fun _ _ _ h => h) (Or.inr ⟨rfl, rfl⟩) (by assumption) ?_) | (refine wpAnyH_take (i := 5) (v := ?_) rfl (by kernel_rfl) (by kernel_rfl) (by kernel_rfl) (fun _ _ _ h => h) (Or.inl ⟨rfl, ?_⟩) (by assumption) ?_; rotate_left 1; · (intro w hSw; (try dsimp only at hSw); go_simp; (try with_reducible rfl)))); (try simp only [Act.put, List.getElem_toArray, List.getElem_cons_zero, List.getElem_cons_succ, List.setIfInBounds_toArray, List.set_cons_zero, List.set_cons_succ])
        (first | (refine wpAnyH_take (i := 7) (v := undef) rfl (by kernel_rfl) (by kernel_rfl) (by kernel_rfl) (fun _ _ _ h => h) (Or.inr ⟨rfl, rfl⟩) (by assumption) ?_) | (refine wpAnyH_take (i := 7) (v := ?_) rfl (by kernel_rfl) (by kernel_rfl) (by kernel_rfl) (fun _ _ _ h => h) (Or.inl ⟨rfl, ?_⟩) (by assumption) ?_; rotate_left 1; · (intro w hSw; (try dsimp only at hSw); go_simp; (try with_reducible rfl)))); (try simp only [Act.put, List.getElem_toArray, List.getElem_cons_zero, List.getElem_cons_succ, List.setIfInBounds_toArray, List.set_cons_zero, List.set_cons_succ])
        (first | (refine wpAnyH_take (i := 8) (v := undef) rfl (by kernel_rfl) (by kernel_rfl) (by kernel_rfl) (fun _ _ _ h => h) (Or.inr ⟨rfl, rfl⟩) (by assumption) ?_) | (refine wpAnyH_take (i := 8) (v := ?_) rfl (by kernel_rfl) (by kernel_rfl) (by kernel_rfl) (fun _ _ _ h => h) (Or.inl ⟨rfl, ?_⟩) (by assumption) ?_; rotate_left 1; · (intro w hSw; (try dsimp only at hSw); go_simp; (try with_reducible rfl)))); (try simp only [Act.put, List.getElem_toArray, List.getElem_cons_zero, List.getElem_cons_succ, List.setIfInBounds_toArray, List.set_cons_zero, List.set_cons_succ])
        refine wpAnyH_ready (rs := [3]) (by kernel_rfl) (by simp) ?_
        refine AllReadyH.cons rfl (fun K hK => ?_) AllReadyH.nil
        go_simp
        refine (clone_any _ _ _ _ _ _ hr4.drew (by have := T4.size; show B ≤ w4.heap.size; omega) (by omega)).mono ?_
        rintro e w5 ⟨A5, c5, rfl, ho5, t5⟩
        have hb5 := hb4.drew.turn0 t5
        have hg5 := h4.b.drew.turn0 t5
        refine hK.out _ _ (C _ hb5) (fun hHeld => ?_); clear hK K; (try simp only [Act.put, List.getElem_toArray, List.getElem_cons_zero, List.getElem_cons_succ, List.setIfInBounds_toArray, List.set_cons_zero, List.set_cons_succ])
        refine wpAnyH_take (i := 6) rfl (by kernel_rfl) (by kernel_rfl) (by kernel_rfl) (fun _ _ _ h => h) (yieldsIf_bd (by rfl) 53 _ rfl #[(0, .slice A5 m c5), (1, .slice (u 0).A (u 0).n (u 0).c), (2, .bool true)] (by first | rfl | kernel_rfl | (simp; done)) _ bdC) (by assumption) ?_
        (try simp only [Act.put, List.getElem_toArray, List.getElem_cons_zero, List.getElem_cons_succ, List.setIfInBounds_toArray, List.set_cons_zero, List.set_cons_succ])
        (first | (refine wpAnyH_take (i := 9) (v := undef) rfl (by kernel_rfl) (by kernel_rfl) (by kernel_rfl) (fun _ _ _ h => h) (Or.inr ⟨rfl, rfl⟩) (by assumption) ?_) | (refine wpAnyH_take (i := 9) (v := ?_) rfl (by kernel_rfl) (by kernel_rfl) (by kernel_rfl) (fun _ _ _ h => h) (Or.inl ⟨rfl, ?_⟩) (by assumption) ?_; rotate_left 1; · (intro w hSw; (try dsimp only at hSw); go_simp; (try with_reducible rfl)))); (try simp only [Act.put, List.getElem_toArray, List.getElem_cons_zero, List.getElem_cons_succ, List.setIfInBounds_toArray, List.set_cons_zero, List.set_cons_succ])
        refine wpAnyH_ready (rs := [10]) (by kernel_rfl) (by simp) ?_; refine AllReadyH.cons rfl (fun K hK => ?_) AllReadyH.nil
        refine gd_dst3 rfl 53 _ _ rfl rfl rfl hg5 (by rw [pdc_len]; omega) (by kernel_rfl) (ones3 rfl rfl rfl) ?_
        intro w6 hb6 t6
        refine hK.out _ _ (C _ (hb5.turn t6 (by have := h1.b.lt; simp; omega))) (fun hHeld => ?_); clear hK K; (try simp only [Act.put, List.getElem_toArray, List.getElem_cons_zero, List.getElem_cons_succ, List.setIfInBounds_toArray, List.set_cons_zero, List.set_cons_succ])
        refine wpAnyH_done (by kernel_rfl) ?_ _
        refine NoPanic.normal ?_
        clear hHeld
        go_wp2
        go_ret
        exact ⟨rfl, fin _ _ _ _ _ _ _ h1 t1 T4 ho5 t5.undrew t6 hb6⟩
      · have C : ∀ W, Blk W w1.heap.size 53 (fc (D.f 1) (v 1) (u 1)).toArray → W.cell? ⟨w1.heap.size, 1, none⟩ = some (.slice (u 1).A (u 1).n (u 1).c) := fun W h => h.ats (j := 1) rfl
        refine wp_region_noPanic ?_
        refine wp_region_held_drew (S := (fun W => W.cell? ⟨w1.heap.size, 1, none⟩ = some (.slice (u 1).A (u 1).n (u 1).c))) (by kernel_rfl) (C _ hb4.drew) (fun hHeld => ?_)
        (first | (refine wpAnyH_take (i := 0) (v := undef) rfl (by kernel_rfl) (by kernel_rfl) (by kernel_rfl) (fun _ _ _ h => h) (Or.inr ⟨rfl, rfl⟩) (by assumption) ?_) | (refine wpAnyH_take (i := 0) (v := ?_) rfl (by kernel_rfl) (by kernel_rfl) (by kernel_rfl) (fun _ _ _ h => h) (Or.inl ⟨rfl, ?_⟩) (by assumption) ?_; rotate_left 1; · (intro w hSw; (try dsimp only at hSw); go_simp; (try with_reducible rfl)))); (try simp only [Act.put, List.getElem_toArray, List.getElem_cons_zero, List.getElem_cons_succ, List.setIfInBounds_toArray, List.set_cons_zero, List.set_cons_succ])
        (first | (refine wpAnyH_take (i := 1) (v := undef) rfl (by kernel_rfl) (by kernel_rfl) (by kernel_rfl) (fun _ _ _ h => h) (Or.inr ⟨rfl, rfl⟩) (by assumption) ?_) | (refine wpAnyH_take (i := 1) (v := ?_) rfl (by kernel_rfl) (by kernel_rfl) (by kernel_rfl) (fun _ _ _ h => h) (Or.inl ⟨rfl, ?_⟩) (by assumption) ?_; rotate_left 1; · (intro w hSw; (try dsimp only at hSw); go_simp; (try with_reducible rfl)))); (try simp only [Act.put, List.getElem_toArray, List.getElem_cons_zero, List.getElem_cons_succ, List.setIfInBounds_toArray, List.set_cons_zero, List.set_cons_succ])
        (first | (refine wpAnyH_take (i := 2) (v := undef) rfl (by kernel_rfl) (by kernel_rfl) (by kernel_rfl) (fun _ _ _ h => h) (Or.inr ⟨rfl, rfl⟩) (by assumption) ?_) | (refine wpAnyH_take (i := 2) (v := ?_) rfl (by kernel_rfl) (by kernel_rfl) (by kernel_rfl) (fun _ _ _ h => h) (Or.inl ⟨rfl, ?_⟩) (by assumption) ?_; rotate_left 1; · (intro w hSw; (try dsimp only at hSw); go_simp; (try with_reducible rfl)))); (try simp only [Act.put, List.getElem_toArray, List.getElem_cons_zero, List.getElem_cons_succ, List.setIfInBounds_toArray, List.set_cons_zero, List.set_cons_succ])
        (first | (refine wpAnyH_take (i := 4) (v := undef) rfl (by kernel_rfl) (by kernel_rfl) (by kernel_rfl) (fun _ _ _ h => h) (Or.inr ⟨rfl, rfl⟩) (by assumption) ?_) | (refine wpAnyH_take (i := 4) (v := ?_) rfl (by kernel_rfl) (by kernel_rfl) (by kernel_rfl) (fun _ _ _ h => h) (Or.inl ⟨rfl, ?_⟩) (by assumption) ?_; rotate_left 1; · (intro w hSw; (try dsimp only at hSw); go_simp; (try with_reducible rfl)))); (try simp only [Act.put, List.getElem_toArray, List.getElem_cons_zero, List.getElem_cons_succ, List.setIfInBounds_toArray, List.set_cons_zero, List.set_cons_succ])
        (first | (refine wpAnyH_take (i := 5) (v := undef) rfl (by kernel_rfl) (by kernel_rfl) (by kernel_rfl) (fun _ _ _ h => h) (Or.inr ⟨rfl, rfl⟩) (by assumption) ?_) | (refine wpAnyH_take (i := 5) (v := ?_) rfl (by kernel_rfl) (by kernel_rfl) (by kernel_rfl) (fun _ _ _ h => h) (Or.inl ⟨rfl, ?_⟩) (by assumption) ?_; rotate_left 1; · (intro w hSw; (try dsimp only at hSw); go_simp; (try with_reducible rfl)))); (try simp only [Act.put, List.getElem_toArray, List.getElem_cons_zero, List.getElem_cons_succ, List.setIfInBounds_toArray, List.set_cons_zero, List.set_cons_succ])
        (first | (refine wpAnyH_take (i := 7) (v := undef) rfl (by kernel_rfl) (by kernel_rfl) (by kernel_rfl) (fun _ _ _ h => h) (Or.inr ⟨rfl, rfl⟩) (by assumption) ?_) | (refine wpAnyH_take (i := 7) (v := ?_) rfl (by kernel_rfl) (by kernel_rfl) (by kernel_rfl) (fun _ _ _ h => h) (Or.inl ⟨rfl, ?_⟩) (by assumption) ?_; rotate_left 1; · (intro w hSw; (try dsimp only at hSw); go_simp; (try with_reducible rfl)))); (try simp only [Act.put, List.getElem_toArray, List.getElem_cons_zero, List.getElem_cons_succ, List.setIfInBounds_toArray, List.set_cons_zero, List.set_cons_succ])
        (first | (refine wpAnyH_take (i := 8) (v := undef) rfl (by kernel_rfl) (by kernel_rfl) (by kernel_rfl) (fun _ _ _ h => h) (Or.inr ⟨rfl, rfl⟩) (by assumption) ?_) | (refine wpAnyH_take (i := 8) (v := ?_) rfl (by kernel_rfl) (by kernel_rfl) (by kernel_rfl) (fun _ _ _ h => h) (Or.inl ⟨rfl, ?_⟩) (by assumption) ?_; rotate_left 1; · (intro w hSw; (try dsimp only at hSw); go_simp; (try with_reducible rfl)))); (try simp only [Act.put, List.getElem_toArray, List.getElem_cons_zero, List.getElem_cons_succ, List.setIfInBounds_toArray, List.set_cons_zero, List.set_cons_succ])
        refine wpAnyH_ready (rs := [3]) (by kernel_rfl) (by simp) ?_
        refine AllReadyH.cons rfl (fun K hK => ?_) AllReadyH.nil
        go_simp
        refine (clone_any _ _ _ _ _ _ hr4.drew (by have := T4.size; show B ≤ w4.heap.size; omega) (by omega)).mono ?_
        rintro e w5 ⟨A5, c5, rfl, ho5, t5⟩
        have hb5 := hb4.drew.turn0 t5
        have hg5 := h4.b.drew.turn0 t5
        refine hK.out _ _ (C _ hb5) (fun hHeld => ?_); clear hK K; (try simp only [Act.put, List.getElem_toArray, List.getElem_cons_zero, List.getElem_cons_succ, List.setIfInBounds_toArray, List.set_cons_zero, List.set_cons_succ])
        refine wpAnyH_take (i := 6) rfl (by kernel_rfl) (by kernel_rfl) (by kernel_rfl) (fun _ _ _ h => h) (yieldsIf_bd (by rfl) 53 _ rfl #[(0, .slice A5 m c5), (1, .slice (u 1).A (u 1).n (u 1).c), (2, .bool true)] (by first | rfl | kernel_rfl | (simp; done)) _ bdC) (by assumption) ?_
        (try simp only [Act.put, List.getElem_toArray, List.getElem_cons_zero, List.getElem_cons_succ, List.setIfInBounds_toArray, List.set_cons_zero, List.set_cons_succ])
        (first | (refine wpAnyH_take (i := 9) (v := undef) rfl (by kernel_rfl) (by kernel_rfl) (by kernel_rfl) (fun _ _ _ h => h) (Or.inr ⟨rfl, rfl⟩) (by assumption) ?_) | (refine wpAnyH_take (i := 9) (v := ?_) rfl (by kernel_rfl) (by kernel_rfl) (by kernel_rfl) (fun _ _ _ h => h) (Or.inl ⟨rfl, ?_⟩) (by assumption) ?_; rotate_left 1; · (intro w hSw; (try dsimp only at hSw); go_simp; (try with_reducible rfl)))); (try simp only [Act.put, List.getElem_toArray, List.getElem_cons_zero, List.getElem_cons_succ, List.setIfInBounds_toArray, List.set_cons_zero, List.set_cons_succ])
        refine wpAnyH_ready (rs := [10]) (by kernel_rfl) (by simp) ?_; refine AllReadyH.cons rfl (fun K hK => ?_) AllReadyH.nil
        refine gd_dst3 rfl 53 _ _ rfl rfl rfl hg5 (by rw [pdc_len]; omega) (by kernel_rfl) (ones3 rfl rfl rfl) ?_
        intro w6 hb6 t6
        refine hK.out _ _ (C _ (hb5.turn t6 (by have := h1.b.lt; simp; omega))) (fun hHeld => ?_); clear hK K; (try simp only [Act.put, List.getElem_toArray, List.getElem_cons_zero, List.getElem_cons_succ, List.setIfInBounds_toArray, List.set_cons_zero, List.set_cons_succ])
        refine wpAnyH_done (by kernel_rfl) ?_ _
        refine NoPanic.normal ?_
        clear hHeld
        go_wp2
        go_ret
        exact ⟨rfl, fin _ _ _ _ _ _ _ h1 t1 T4 ho5 t5.undrew t6 hb6⟩
  all_goals
    have hwE : D.rErr n b = D.cErr n := by unfold Dsk.rErr; rw [he]; rfl
    have hwr : D.rp n b = D.cnt := by unfold Dsk.rp; rw [hwE, he]; rfl
    rw [hwr, hwE]
    rw [he] at hcl
    rw [he]
    clear he hwE hwr
    go_enter Try.func20, Try.ntmps20
    go_wp2_with (first
      | (go_at_call 29; refine hcl.mono ?_; rintro e w1 ⟨rfl, t1, lv1, h1⟩))
    go_ret
    exact ⟨rfl, h1.no t1 hR⟩
end Go.Proofs.Ytogajpiefegdeaa
