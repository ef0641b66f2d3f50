import Derived.Test.YtjekglnbmccnjaaG4
set_option linter.unusedSimpArgs false
set_option linter.unusedVariables false
set_option linter.unusedSectionVars false
/-
  Layer 14: Write and Replace (contracts of the code).
-/
namespace Go.Proofs.Ytjekglnbmccnjaa
set_option linter.unusedSimpArgs false
set_option linter.unusedVariables false
open Go.RowKit

theorem Fil.app {w w' : World} {R : Nat → Prop} {f : Fi} {v u : Sl} (h : Fil w R f v u) (hlt : ∀ k, R k → k < w.heap.size) {A' : Option Addr} {c2 m : Nat} {b : List UInt8} (hO : Own w' 0 5 1 A' (v.n + m) c2 (vbs f.all ++ vbs b))
    (hc : (A' = v.A ∧ c2 = v.c ∧ Turn w w' (blk v.A)) ∨ (blk A' = some w.heap.size ∧ Turn w w' none)) :
    Fil w' (fun k => R k ∨ (w.heap.size ≤ k ∧ k < w'.heap.size)) { f with mo := f.mo ++ b } ⟨A', v.n + m, c2⟩ u ∧ Chg w w' R := by
  have e : vbs f.all ++ vbs b = vbs ({ f with mo := f.mo ++ b } : Fi).all := by rw [all_mo, vbs_append]
  rw [e] at hO
  rcases hc with ⟨rfl, rfl, ht⟩ | ⟨hb, ht⟩
  · refine ⟨⟨hO, ?_, fun g hg => .inl (h.sv g hg), fun g hg => .inl (h.su g hg), fun g hg hg2 => ?_⟩, Chg.of ht fun i hi => h.sv i hi⟩
    · by_cases hs : ∃ g, blk v.A = some g ∧ blk u.A = some g
      · obtain ⟨g, g1, g2⟩ := hs
        obtain ⟨ea, ec⟩ := h.hv.one_ h.hu g1 g2
        obtain ⟨r, hr⟩ := h.pre g g1 g2
        have hun := h.un
        have hvn := h.vn
        have hl := congrArg List.length hr
        rw [List.length_append] at hl
        have hO : Own w' 0 5 1 v.A (v.n + m) v.c (vbs ({ f with mo := f.mo ++ b } : Fi).all) := hO
        have h2 := hO.front (A2 := none) (c2 := 0) (k := u.n) (by omega)
        rw [all_mo, ← hr, List.append_assoc, vbs_take, hun, List.take_left] at h2
        rw [ea, ec, hun]
        exact h2
      · refine h.hu.turn ht ?_
        cases hv : blk v.A with
        | none => exact .inl rfl
        | some g => exact .inr fun e => hs ⟨g, hv, e⟩
    · have hp := h.pre g hg hg2
      rw [all_mo]
      exact hp.trans (List.prefix_append _ _)
  · have hlt2 : w.heap.size < w'.heap.size := (hO.block _ hb).2
    refine ⟨⟨hO, h.hu.turn0 ht, fun g hg => .inr ?_, fun g hg => .inl (h.su g hg), fun g hg hg2 => ?_⟩, Chg.of0 ht _⟩
    · have hg : blk A' = some g := hg
      rw [hb] at hg
      injection hg with hg
      omega
    · have hg : blk A' = some g := hg
      rw [hb] at hg
      injection hg with hg
      have := hlt g (h.su g hg2)
      omega

set_option maxRecDepth 100000 in
set_option maxHeartbeats 3200000 in
theorem write_any {w : World} {g : Nat} {R : Nat → Prop} {D : Dsk} (h : Pk w g R D) (n : Int) (A : Option Addr) (m c B : Nat) (b : List UInt8) (hr : Rd w B 1 A m (vbs b)) (hB : B ≤ w.heap.size) (hm : m ≤ 140737488355328) (hA : ∀ k, blk A = some k → 0 < m → ¬ R k) :
    Calls Try.prog 35 #[.pointer (some ⟨g, 0, none⟩), .int .i64 n, .slice A m c] w fun e w' => e = .returned (.int .i64 (D.wErr n b)) ∧ Stp w w' R g (D.wr n b) := by
  obtain ⟨S, v, u, lv, hp, hR⟩ := h
  have hcl := call_any hp n
  have hml := hr.len
  rw [vbs_len] at hml
  have hgA : blk A = some g → 0 < m → False := fun e hp => hA g e hp ((hR g).1 (.inl rfl))
  rcases cErr_cases D n with ⟨he, j, hj, rfl⟩ | he | he
  · rw [he] at hcl
    have hvb : (v j).n ≤ 140737521909760 := by
      have h2 := (hp.ok.f j hj).all
      have h3 := (hp.f j hj).vn
      omega
    have hwE : D.wErr (j : Int) b = if D.lim < (D.size : Int) + m then 8 else 0 := by unfold Dsk.wErr; rw [if_pos he, hml]
    have hf1 : D.cnt.f = D.f := D.cnt_f
    have hs1 : D.cnt.size = D.size := by unfold Dsk.size; rw [hf1]
    have hfit : ∀ lv1 W, PD W g S v u lv1 D.cnt → Calls Try.prog 53 #[.pointer (some ⟨g, 0, none⟩), .agg (fc (D.f j) (v j) (u j)).toArray, .int .i64 (((v j).n : Int) + (m : Int))] W fun e w' => e = .returned (.bool (decide ((D.size : Int) + m ≤ D.lim))) ∧ Turn W w' none := by
      intro lv1 W hW
      have h2 := fits_any hW (D.f j) (v j) (u j) ((v j).n + m) hvb (by omega)
      rw [Int.natCast_add, hs1, D.cnt_lim] at h2
      have e : (D.size : Int) - (v j).n + (((v j).n : Int) + m) = (D.size : Int) + m := by omega
      rw [e] at h2
      exact h2
    by_cases hfull : D.lim < (D.size : Int) + m
    · have hwr : D.wr (j : Int) b = D.cnt := by unfold Dsk.wr; rw [hwE, if_pos hfull]; rfl
      rw [hwr, hwE, if_pos hfull]
      have hd : decide ((D.size : Int) + m ≤ D.lim) = false := decide_eq_false (by omega)
      rw [hd] at hfit
      clear hwE hwr hd he hfull
      have hrj := fun lv1 W (hW : PD W g S v u lv1 D.cnt) => rangeJ hW hj
      rw [hf1] at hrj
      clear hs1 hml hf1
      obtain rfl | rfl : j = 0 ∨ j = 1 := by omega
      all_goals
        go_enter Try.func35, Try.ntmps35
        go_wp2_with (first
          | (go_at_call 52; refine hcl.mono ?_; rintro e w1 ⟨rfl, t1, lv1, h1⟩; have hc1 := hrj _ _ h1)
          | (refine gd_ldR (by rfl) 61 _ rfl rfl hc1 Try.underlying61 rfl szC ?_)
          | (refine wp_st (xs := fc (D.f _) (v _) (u _)) rfl 61 _ _ rfl rfl rfl (Blk.new w1 _ _) rfl szC (ones3 rfl rfl rfl) ?_; intro w3 hb3 ht3; have t3 := ((Turn.refl w1 none).alloc _).new ht3 (by simp); have hsl : ∀ x : Sl, x.v = .slice x.A x.n x.c := fun _ => rfl; have c0 := hb3.ats (j := 0) rfl)
          | (refine wp_ld rfl 61 _ rfl rfl hb3 (Sub.all _) Try.underlying61 rfl szC ?_)
          | (go_at_call 53; refine (hfit _ _ (h1.turn0 t3)).mono ?_; rintro e w4 ⟨rfl, t4⟩))
        go_ret
        exact ⟨rfl, (h1.turn0 (t3.trans t4)).no (t1.trans ((t3.trans t4).any _)) hR⟩
    · have hwr : D.wr (j : Int) b = D.cnt.put j { D.f j with mo := (D.f j).mo ++ b } := by unfold Dsk.wr; rw [hwE, if_neg hfull, if_pos rfl, Int.toNat_natCast]
      have hok := (hp.ok.wr (j : Int) b).f j hj
      rw [hwr, hwE, if_neg hfull]
      have hd : decide ((D.size : Int) + m ≤ D.lim) = true := decide_eq_true (by omega)
      rw [hd] at hfit
      have hl1 := hp.ok.l1
      have hvm : (v j).n + m ≤ 16777216 := by
        have h2 := D.size_ge hj
        have h3 := (hp.f j hj).vn
        omega
      rw [hwr] at hok
      have hok : ({ D.f j with mo := (D.f j).mo ++ b } : Fi).Ok := by
        have e : (D.cnt.put j { D.f j with mo := (D.f j).mo ++ b }).f j = { D.f j with mo := (D.f j).mo ++ b } := upd_same _ _ _
        rw [e] at hok
        exact hok
      clear hwE hwr hd he hfull hl1
      have hrj := fun lv1 W (hW : PD W g S v u lv1 D.cnt) => rangeJ hW hj
      rw [hf1] at hrj
      have fin : ∀ lv1 w1 w4 w5 w6 A' c2, PD w1 g S v u lv1 D.cnt → Turn w w1 (some g) → Turn w1 w4 none → Own w5 0 5 1 A' ((v j).n + m) c2 (vbs (D.f j).all ++ vbs b) → ((A' = (v j).A ∧ c2 = (v j).c ∧ Turn w4 w5 (blk (v j).A)) ∨ (blk A' = some w4.heap.size ∧ Turn w4 w5 none)) → Turn w5 w6 (some g) →
          Blk w6 g 64 (((((pdc D.cnt v u lv1).set (1 + j * 3) (.slice A' ((v j).n + m) c2)).set (1 + j * 3 + 1) (u j).v).set (1 + j * 3 + 2) (.bool (D.f j).is))).toArray → Stp w w6 R g (D.cnt.put j { D.f j with mo := (D.f j).mo ++ b }) := by
        intro lv1 w1 w4 w5 w6 A' c2 h1 t1 t4 hO hc t6 hb6
        have hf := (h1.turn0 t4).f j hj
        rw [hf1] at hf
        have hlt := fun k hk => (h1.turn0 t4).lt j k hj hk
        obtain ⟨k1, k2⟩ := hf.app hlt hO hc
        have s4 := t4.size
        refine h1.yes (v := ⟨A', (v j).n + m, c2⟩) t1 hR hj ((Chg.of0 t4 (S j)).trans k2 fun i hi => .inl hi) t6 hb6 k1 (fun k hk => hk.imp id fun h => ⟨by omega, h.2⟩) hok
      clear hs1 hml
      obtain rfl | rfl : j = 0 ∨ j = 1 := by omega
      all_goals
        go_enter Try.func35, Try.ntmps35
        go_wp2_with (first
          | (go_at_call 52; refine hcl.mono ?_; rintro e w1 ⟨rfl, t1, lv1, h1⟩; have hc1 := hrj _ _ h1)
          | (refine gd_ldR (by rfl) 61 _ rfl rfl hc1 Try.underlying61 rfl szC ?_)
          | (refine wp_st (xs := fc (D.f _) (v _) (u _)) rfl 61 _ _ rfl rfl rfl (Blk.new w1 _ _) rfl szC (ones3 rfl rfl rfl) ?_; intro w3 hb3 ht3; have t3 := ((Turn.refl w1 none).alloc _).new ht3 (by simp); have hsl : ∀ x : Sl, x.v = .slice x.A x.n x.c := fun _ => rfl; have c0 := hb3.ats (j := 0) rfl)
          | (refine wp_ld rfl 61 _ rfl rfl hb3 (Sub.all _) Try.underlying61 rfl szC ?_)
          | (go_at_call 53; refine (hfit _ _ (h1.turn0 t3)).mono ?_; rintro e w4 ⟨rfl, t4⟩))
        have T4 := t3.trans t4
        have h4 := h1.turn0 T4
        have hb4 := hb3.turn0 t4
        have s1 := t1.size
        have hgR : ∀ i, i < 2 → ¬ S i w1.heap.size := fun i hi e => by have := hp.lt i _ hi e; omega
        have hr4 := ((hr.ne0 hB t1 hgA).turn0 T4 (Nat.le_trans hB s1))
        have hfj := h4.f _ hj
        rw [hf1] at hfj
      · have C : ∀ W, Blk W w1.heap.size 61 (fc (D.f 0) (v 0) (u 0)).toArray → W.cell? ⟨w1.heap.size, 0, none⟩ = some (.slice (v 0).A (v 0).n (v 0).c) ∧ W.cell? ⟨w1.heap.size, 1, none⟩ = some (.slice (u 0).A (u 0).n (u 0).c) ∧ W.cell? ⟨w1.heap.size, 2, none⟩ = some (.bool (D.f 0).is) := fun W h => ⟨h.ats (j := 0) rfl, h.ats (j := 1) rfl, h.ats (j := 2) rfl⟩
        refine wp_region_noPanic ?_
        refine wp_region_held_drew (S := (fun W => W.cell? ⟨w1.heap.size, 0, none⟩ = some (.slice (v 0).A (v 0).n (v 0).c) ∧ W.cell? ⟨w1.heap.size, 1, none⟩ = some (.slice (u 0).A (u 0).n (u 0).c) ∧ W.cell? ⟨w1.heap.size, 2, none⟩ = some (.bool (D.f 0).is))) (by kernel_rfl) (C _ hb4.drew) (fun hHeld => ?_)
        (first | (refine wpAnyH_take (i := 0) (v := undef) rfl (by kernel_rfl) (by kernel_rfl) (by kernel_rfl) (fun _ _ _ h => h) (Or.inr ⟨rfl, rfl⟩) (by assumption) ?_) | (refine wpAnyH_take (i := 0) (v := ?_) rfl (by kernel_rfl) (by kernel_rfl) (by kernel_rfl) (fun _ _ _ h => h) (Or.inl ⟨rfl, ?_⟩) (by assumption) ?_; rotate_left 1; · (intro w hSw; (try dsimp only at hSw); go_simp; (try with_reducible rfl)))); (try simp only [Act.put, List.getElem_toArray, List.getElem_cons_zero, List.getElem_cons_succ, List.setIfInBounds_toArray, List.set_cons_zero, List.set_cons_succ])
        (first | (refine wpAnyH_take (i := 1) (v := undef) rfl (by kernel_rfl) (by kernel_rfl) (by kernel_rfl) (fun _ _ _ h => h) (Or.inr ⟨rfl, rfl⟩) (by assumption) ?_) | (refine wpAnyH_take (i := 1) (v := ?_) rfl (by kernel_rfl) (by kernel_rfl) (by kernel_rfl) (fun _ _ _ h => h) (Or.inl ⟨rfl, ?_⟩) (by assumption) ?_; rotate_left 1; · (intro w hSw; (try dsimp only at hSw); go_simp; (try with_reducible rfl)))); (try simp only [Act.put, List.getElem_toArray, List.getElem_cons_zero, List.getElem_cons_succ, List.setIfInBounds_toArray, List.set_cons_zero, List.set_cons_succ])
        (first | (refine wpAnyH_take (i := 2) (v := undef) rfl (by kernel_rfl) (by kernel_rfl) (by kernel_rfl) (fun _ _ _ h => h) (Or.inr ⟨rfl, rfl⟩) (by assumption) ?_) | (refine wpAnyH_take (i := 2) (v := ?_) rfl (by kernel_rfl) (by kernel_rfl) (by kernel_rfl) (fun _ _ _ h => h) (Or.inl ⟨rfl, ?_⟩) (by assumption) ?_; rotate_left 1; · (intro w hSw; (try dsimp only at hSw); go_simp; (try with_reducible rfl)))); (try simp only [Act.put, List.getElem_toArray, List.getElem_cons_zero, List.getElem_cons_succ, List.setIfInBounds_toArray, List.set_cons_zero, List.set_cons_succ])
        (first | (refine wpAnyH_take (i := 3) (v := undef) rfl (by kernel_rfl) (by kernel_rfl) (by kernel_rfl) (fun _ _ _ h => h) (Or.inr ⟨rfl, rfl⟩) (by assumption) ?_) | (refine wpAnyH_take (i := 3) (v := ?_) rfl (by kernel_rfl) (by kernel_rfl) (by kernel_rfl) (fun _ _ _ h => h) (Or.inl ⟨rfl, ?_⟩) (by assumption) ?_; rotate_left 1; · (intro w hSw; (try dsimp only at hSw); go_simp; (try with_reducible rfl)))); (try simp only [Act.put, List.getElem_toArray, List.getElem_cons_zero, List.getElem_cons_succ, List.setIfInBounds_toArray, List.set_cons_zero, List.set_cons_succ])
        (first | (refine wpAnyH_take (i := 4) (v := undef) rfl (by kernel_rfl) (by kernel_rfl) (by kernel_rfl) (fun _ _ _ h => h) (Or.inr ⟨rfl, rfl⟩) (by assumption) ?_) | (refine wpAnyH_take (i := 4) (v := ?_) rfl (by kernel_rfl) (by kernel_rfl) (by kernel_rfl) (fun _ _ _ h => h) (Or.inl ⟨rfl, ?_⟩) (by assumption) ?_; rotate_left 1; · (intro w hSw; (try dsimp only at hSw); go_simp; (try with_reducible rfl)))); (try simp only [Act.put, List.getElem_toArray, List.getElem_cons_zero, List.getElem_cons_succ, List.setIfInBounds_toArray, List.set_cons_zero, List.set_cons_succ])
        (first | (refine wpAnyH_take (i := 6) (v := undef) rfl (by kernel_rfl) (by kernel_rfl) (by kernel_rfl) (fun _ _ _ h => h) (Or.inr ⟨rfl, rfl⟩) (by assumption) ?_) | (refine wpAnyH_take (i := 6) (v := ?_) rfl (by kernel_rfl) (by kernel_rfl) (by kernel_rfl) (fun _ _ _ h => h) (Or.inl ⟨rfl, ?_⟩) (by assumption) ?_; rotate_left 1; · (intro w hSw; (try dsimp only at hSw); go_simp; (try with_reducible rfl)))); (try simp only [Act.put, List.getElem_toArray, List.getElem_cons_zero, List.getElem_cons_succ, List.setIfInBounds_toArray, List.set_cons_zero, List.set_cons_succ])
        (first | (refine wpAnyH_take (i := 7) (v := undef) rfl (by kernel_rfl) (by kernel_rfl) (by kernel_rfl) (fun _ _ _ h => h) (Or.inr ⟨rfl, rfl⟩) (by assumption) ?_) | (refine wpAnyH_take (i := 7) (v := ?_) rfl (by kernel_rfl) (by kernel_rfl) (by kernel_rfl) (fun _ _ _ h => h) (Or.inl ⟨rfl, ?_⟩) (by assumption) ?_; rotate_left 1; · (intro w hSw; (try dsimp only at hSw); go_simp; (try with_reducible rfl)))); (try simp only [Act.put, List.getElem_toArray, List.getElem_cons_zero, List.getElem_cons_succ, List.setIfInBounds_toArray, List.set_cons_zero, List.set_cons_succ])
        (first | (refine wpAnyH_take (i := 8) (v := undef) rfl (by kernel_rfl) (by kernel_rfl) (by kernel_rfl) (fun _ _ _ h => h) (Or.inr ⟨rfl, rfl⟩) (by assumption) ?_) | (refine wpAnyH_take (i := 8) (v := ?_) rfl (by kernel_rfl) (by kernel_rfl) (by kernel_rfl) (fun _ _ _ h => h) (Or.inl ⟨rfl, ?_⟩) (by assumption) ?_; rotate_left 1; · (intro w hSw; (try dsimp only at hSw); go_simp; (try with_reducible rfl)))); (try simp only [Act.put, List.getElem_toArray, List.getElem_cons_zero, List.getElem_cons_succ, List.setIfInBounds_toArray, List.set_cons_zero, List.set_cons_succ])
        (first | (refine wpAnyH_take (i := 9) (v := undef) rfl (by kernel_rfl) (by kernel_rfl) (by kernel_rfl) (fun _ _ _ h => h) (Or.inr ⟨rfl, rfl⟩) (by assumption) ?_) | (refine wpAnyH_take (i := 9) (v := ?_) rfl (by kernel_rfl) (by kernel_rfl) (by kernel_rfl) (fun _ _ _ h => h) (Or.inl ⟨rfl, ?_⟩) (by assumption) ?_; rotate_left 1; · (intro w hSw; (try dsimp only at hSw); go_simp; (try with_reducible rfl)))); (try simp only [Act.put, List.getElem_toArray, List.getElem_cons_zero, List.getElem_cons_succ, List.setIfInBounds_toArray, List.set_cons_zero, List.set_cons_succ])
        (first | (refine wpAnyH_take (i := 11) (v := undef) rfl (by kernel_rfl) (by kernel_rfl) (by kernel_rfl) (fun _ _ _ h => h) (Or.inr ⟨rfl, rfl⟩) (by assumption) ?_) | (refine wpAnyH_take (i := 11) (v := ?_) rfl (by kernel_rfl) (by kernel_rfl) (by kernel_rfl) (fun _ _ _ h => h) (Or.inl ⟨rfl, ?_⟩) (by assumption) ?_; rotate_left 1; · (intro w hSw; (try dsimp only at hSw); go_simp; (try with_reducible rfl)))); (try simp only [Act.put, List.getElem_toArray, List.getElem_cons_zero, List.getElem_cons_succ, List.setIfInBounds_toArray, List.set_cons_zero, List.set_cons_succ])
        (first | (refine wpAnyH_take (i := 12) (v := undef) rfl (by kernel_rfl) (by kernel_rfl) (by kernel_rfl) (fun _ _ _ h => h) (Or.inr ⟨rfl, rfl⟩) (by assumption) ?_) | (refine wpAnyH_take (i := 12) (v := ?_) rfl (by kernel_rfl) (by kernel_rfl) (by kernel_rfl) (fun _ _ _ h => h) (Or.inl ⟨rfl, ?_⟩) (by assumption) ?_; rotate_left 1; · (intro w hSw; (try dsimp only at hSw); go_simp; (try with_reducible rfl)))); (try simp only [Act.put, List.getElem_toArray, List.getElem_cons_zero, List.getElem_cons_succ, List.setIfInBounds_toArray, List.set_cons_zero, List.set_cons_succ])
        refine wpAnyH_ready (rs := [5]) (by kernel_rfl) (by simp) ?_; refine AllReadyH.cons rfl (fun K hK => ?_) AllReadyH.nil
        refine st_appF rfl _ _ _ rfl elB rfl rfl hfj.hv.drew hr4.drew (vbs_one b) (by omega) (Nat.zero_le _) ?_
        intro A5 c5 w5 ho5 hc5
        have hb5 : Blk w5 w1.heap.size 61 (fc (D.f 0) (v 0) (u 0)).toArray := by
          rcases hc5 with ⟨_, _, t5⟩ | ⟨_, t5⟩
          · exact hb4.drew.turn t5 (fun e => hgR 0 (by omega) (hfj.sv _ e.symm))
          · exact hb4.drew.turn0 t5
        have hg5 : Blk w5 g 64 (pdc D.cnt v u lv1).toArray := by
          rcases hc5 with ⟨_, _, t5⟩ | ⟨_, t5⟩
          · exact h4.b.drew.turn t5 (fun e => hp.ng 0 (by omega) (hfj.sv _ e.symm))
          · exact h4.b.drew.turn0 t5
        refine hK.out _ _ (C _ hb5) (fun hHeld => ?_); clear hK K; (try simp only [Act.put, List.getElem_toArray, List.getElem_cons_zero, List.getElem_cons_succ, List.setIfInBounds_toArray, List.set_cons_zero, List.set_cons_succ])
        refine wpAnyH_take (i := 10) rfl (by kernel_rfl) (by kernel_rfl) (by kernel_rfl) (fun _ _ _ h => h) (yieldsIf_bd (by rfl) 61 _ rfl #[(0, .slice A5 ((v 0).n + m) c5), (1, .slice (u 0).A (u 0).n (u 0).c), (2, .bool (D.f 0).is)] (by first | rfl | kernel_rfl | (simp; done)) _ bdC) (by assumption) ?_
        (try simp only [Act.put, List.getElem_toArray, List.getElem_cons_zero, List.getElem_cons_succ, List.setIfInBounds_toArray, List.set_cons_zero, List.set_cons_succ])
        (first | (refine wpAnyH_take (i := 13) (v := undef) rfl (by kernel_rfl) (by kernel_rfl) (by kernel_rfl) (fun _ _ _ h => h) (Or.inr ⟨rfl, rfl⟩) (by assumption) ?_) | (refine wpAnyH_take (i := 13) (v := ?_) rfl (by kernel_rfl) (by kernel_rfl) (by kernel_rfl) (fun _ _ _ h => h) (Or.inl ⟨rfl, ?_⟩) (by assumption) ?_; rotate_left 1; · (intro w hSw; (try dsimp only at hSw); go_simp; (try with_reducible rfl)))); (try simp only [Act.put, List.getElem_toArray, List.getElem_cons_zero, List.getElem_cons_succ, List.setIfInBounds_toArray, List.set_cons_zero, List.set_cons_succ])
        refine wpAnyH_ready (rs := [14]) (by kernel_rfl) (by simp) ?_; refine AllReadyH.cons rfl (fun K hK => ?_) AllReadyH.nil
        refine gd_dst3 rfl 61 _ _ rfl rfl rfl hg5 (by rw [pdc_len]; omega) (by kernel_rfl) (ones3 rfl rfl rfl) ?_
        intro w6 hb6 t6
        refine hK.out _ _ (C _ (hb5.turn t6 (by have := h1.b.lt; simp; omega))) (fun hHeld => ?_); clear hK K; (try simp only [Act.put, List.getElem_toArray, List.getElem_cons_zero, List.getElem_cons_succ, List.setIfInBounds_toArray, List.set_cons_zero, List.set_cons_succ])
        refine wpAnyH_done (by kernel_rfl) ?_ _
        refine NoPanic.normal ?_
        clear hHeld
        go_wp2
        go_ret
        exact ⟨rfl, fin _ _ _ _ _ _ _ h1 t1 T4 ho5 (hc5.imp (fun h => ⟨h.1, h.2.1, h.2.2.undrew⟩) fun h => ⟨h.1, h.2.undrew⟩) t6 hb6⟩
      · have C : ∀ W, Blk W w1.heap.size 61 (fc (D.f 1) (v 1) (u 1)).toArray → W.cell? ⟨w1.heap.size, 0, none⟩ = some (.slice (v 1).A (v 1).n (v 1).c) ∧ W.cell? ⟨w1.heap.size, 1, none⟩ = some (.slice (u 1).A (u 1).n (u 1).c) ∧ W.cell? ⟨w1.heap.size, 2, none⟩ = some (.bool (D.f 1).is) := fun W h => ⟨h.ats (j := 0) rfl, h.ats (j := 1) rfl, h.ats (j := 2) rfl⟩
        refine wp_region_noPanic ?_
        refine wp_region_held_drew (S := (fun W => W.cell? ⟨w1.heap.size, 0, none⟩ = some (.slice (v 1).A (v 1).n (v 1).c) ∧ W.cell? ⟨w1.heap.size, 1, none⟩ = some (.slice (u 1).A (u 1).n (u 1).c) ∧ W.cell? ⟨w1.heap.size, 2, none⟩ = some (.bool (D.f 1).is))) (by kernel_rfl) (C _ hb4.drew) (fun hHeld => ?_)
        (first | (refine wpAnyH_take (i := 0) (v := undef) rfl (by kernel_rfl) (by kernel_rfl) (by kernel_rfl) (fun _ _ _ h => h) (Or.inr ⟨rfl, rfl⟩) (by assumption) ?_) | (refine wpAnyH_take (i := 0) (v := ?_) rfl (by kernel_rfl) (by kernel_rfl) (by kernel_rfl) (fun _ _ _ h => h) (Or.inl ⟨rfl, ?_⟩) (by assumption) ?_; rotate_left 1; · (intro w hSw; (try dsimp only at hSw); go_simp; (try with_reducible rfl)))); (try simp only [Act.put, List.getElem_toArray, List.getElem_cons_zero, List.getElem_cons_succ, List.setIfInBounds_toArray, List.set_cons_zero, List.set_cons_succ])
        (first | (refine wpAnyH_take (i := 1) (v := undef) rfl (by kernel_rfl) (by kernel_rfl) (by kernel_rfl) (fun _ _ _ h => h) (Or.inr ⟨rfl, rfl⟩) (by assumption) ?_) | (refine wpAnyH_take (i := 1) (v := ?_) rfl (by kernel_rfl) (by kernel_rfl) (by kernel_rfl) (fun _ _ _ h => h) (Or.inl ⟨rfl, ?_⟩) (by assumption) ?_; rotate_left 1; · (intro w hSw; (try dsimp only at hSw); go_simp; (try with_reducible rfl)))); (try simp only [Act.put, List.getElem_toArray, List.getElem_cons_zero, List.getElem_cons_succ, List.setIfInBounds_toArray, List.set_cons_zero, List.set_cons_succ])
        (first | (refine wpAnyH_take (i := 2) (v := undef) rfl (by kernel_rfl) (by kernel_rfl) (by kernel_rfl) (fun _ _ _ h => h) (Or.inr ⟨rfl, rfl⟩) (by assumption) ?_) | (refine wpAnyH_take (i := 2) (v := ?_) rfl (by kernel_rfl) (by kernel_rfl) (by kernel_rfl) (fun _ _ _ h => h) (Or.inl ⟨rfl, ?_⟩) (by assumption) ?_; rotate_left 1; · (intro w hSw; (try dsimp only at hSw); go_simp; (try with_reducible rfl)))); (try simp only [Act.put, List.getElem_toArray, List.getElem_cons_zero, List.getElem_cons_succ, List.setIfInBounds_toArray, List.set_cons_zero, List.set_cons_succ])
        (first | (refine wpAnyH_take (i := 3) (v := undef) rfl (by kernel_rfl) (by kernel_rfl) (by kernel_rfl) (fun _ _ _ h => h) (Or.inr ⟨rfl, rfl⟩) (by assumption) ?_) | (refine wpAnyH_take (i := 3) (v := ?_) rfl (by kernel_rfl) (by kernel_rfl) (by kernel_rfl) (fun _ _ _ h => h) (Or.inl ⟨rfl, ?_⟩) (by assumption) ?_; rotate_left 1; · (intro w hSw; (try dsimp only at hSw); go_simp; (try with_reducible rfl)))); (try simp only [Act.put, List.getElem_toArray, List.getElem_cons_zero, List.getElem_cons_succ, List.setIfInBounds_toArray, List.set_cons_zero, List.set_cons_succ])
        (first | (refine wpAnyH_take (i := 4) (v := undef) rfl (by kernel_rfl) (by kernel_rfl) (by kernel_rfl) (fun _ _ _ h => h) (Or.inr ⟨rfl, rfl⟩) (by assumption) ?_) | (refine wpAnyH_take (i := 4) (v := ?_) rfl (by kernel_rfl) (by kernel_rfl) (by kernel_rfl) (fun _ _ _ h => h) (Or.inl ⟨rfl, ?_⟩) (by assumption) ?_; rotate_left 1; · (intro w hSw; (try dsimp only at hSw); go_simp; (try with_reducible rfl)))); (try simp only [Act.put, List.getElem_toArray, List.getElem_cons_zero, List.getElem_cons_succ, List.setIfInBounds_toArray, List.set_cons_zero, List.set_cons_succ])
        (first | (refine wpAnyH_take (i := 6) (v := undef) rfl (by kernel_rfl) (by kernel_rfl) (by kernel_rfl) (fun _ _ _ h => h) (Or.inr ⟨rfl, rfl⟩) (by assumption) ?_) | (refine wpAnyH_take (i := 6) (v := ?_) rfl (by kernel_rfl) (by kernel_rfl) (by kernel_rfl) (fun _ _ _ h => h) (Or.inl ⟨rfl, ?_⟩) (by assumption) ?_; rotate_left 1; · (intro w hSw; (try dsimp only at hSw); go_simp; (try with_reducible rfl)))); (try simp only [Act.put, List.getElem_toArray, List.getElem_cons_zero, List.getElem_cons_succ, List.setIfInBounds_toArray, List.set_cons_zero, List.set_cons_succ])
        (first | (refine wpAnyH_take (i := 7) (v := undef) rfl (by kernel_rfl) (by kernel_rfl) (by kernel_rfl) (fun _ _ _ h => h) (Or.inr ⟨rfl, rfl⟩) (by assumption) ?_) | (refine wpAnyH_take (i := 7) (v := ?_) rfl (by kernel_rfl) (by kernel_rfl) (by kernel_rfl) (fun _ _ _ h => h) (Or.inl ⟨rfl, ?_⟩) (by assumption) ?_; rotate_left 1; · (intro w hSw; (try dsimp only at hSw); go_simp; (try with_reducible rfl)))); (try simp only [Act.put, List.getElem_toArray, List.getElem_cons_zero, List.getElem_cons_succ, List.setIfInBounds_toArray, List.set_cons_zero, List.set_cons_succ])
        (first | (refine wpAnyH_take (i := 8) (v := undef) rfl (by kernel_rfl) (by kernel_rfl) (by kernel_rfl) (fun _ _ _ h => h) (Or.inr ⟨rfl, rfl⟩) (by assumption) ?_) | (refine wpAnyH_take (i := 8) (v := ?_) rfl (by kernel_rfl) (by kernel_rfl) (by kernel_rfl) (fun _ _ _ h => h) (Or.inl ⟨rfl, ?_⟩) (by assumption) ?_; rotate_left 1; · (intro w hSw; (try dsimp only at hSw); go_simp; (try with_reducible rfl)))); (try simp only [Act.put, List.getElem_toArray, List.getElem_cons_zero, List.getElem_cons_succ, List.setIfInBounds_toArray, List.set_cons_zero, List.set_cons_succ])
        (first | (refine wpAnyH_take (i := 9) (v := undef) rfl (by kernel_rfl) (by kernel_rfl) (by kernel_rfl) (fun _ _ _ h => h) (Or.inr ⟨rfl, rfl⟩) (by assumption) ?_) | (refine wpAnyH_take (i := 9) (v := ?_) rfl (by kernel_rfl) (by kernel_rfl) (by kernel_rfl) (fun _ _ _ h => h) (Or.inl ⟨rfl, ?_⟩) (by assumption) ?_; rotate_left 1; · (intro w hSw; (try dsimp only at hSw); go_simp; (try with_reducible rfl)))); (try simp only [Act.put, List.getElem_toArray, List.getElem_cons_zero, List.getElem_cons_succ, List.setIfInBounds_toArray, List.set_cons_zero, List.set_cons_succ])
        (first | (refine wpAnyH_take (i := 11) (v := undef) rfl (by kernel_rfl) (by kernel_rfl) (by kernel_rfl) (fun _ _ _ h => h) (Or.inr ⟨rfl, rfl⟩) (by assumption) ?_) | (refine wpAnyH_take (i := 11) (v := ?_) rfl (by kernel_rfl) (by kernel_rfl) (by kernel_rfl) (fun _ _ _ h => h) (Or.inl ⟨rfl, ?_⟩) (by assumption) ?_; rotate_left 1; · (intro w hSw; (try dsimp only at hSw); go_simp; (try with_reducible rfl)))); (try simp only [Act.put, List.getElem_toArray, List.getElem_cons_zero, List.getElem_cons_succ, List.setIfInBounds_toArray, List.set_cons_zero, List.set_cons_succ])
        (first | (refine wpAnyH_take (i := 12) (v := undef) rfl (by kernel_rfl) (by kernel_rfl) (by kernel_rfl) (fun _ _ _ h => h) (Or.inr ⟨rfl, rfl⟩) (by assumption) ?_) | (refine wpAnyH_take (i := 12) (v := ?_) rfl (by kernel_rfl) (by kernel_rfl) (by kernel_rfl) (fun _ _ _ h => h) (Or.inl ⟨rfl, ?_⟩) (by assumption) ?_; rotate_left 1; · (intro w hSw; (try dsimp only at hSw); go_simp; (try with_reducible rfl)))); (try simp only [Act.put, List.getElem_toArray, List.getElem_cons_zero, List.getElem_cons_succ, List.setIfInBounds_toArray, List.set_cons_zero, List.set_cons_succ])
        refine wpAnyH_ready (rs := [5]) (by kernel_rfl) (by simp) ?_; refine AllReadyH.cons rfl (fun K hK => ?_) AllReadyH.nil
        refine st_appF rfl _ _ _ rfl elB rfl rfl hfj.hv.drew hr4.drew (vbs_one b) (by omega) (Nat.zero_le _) ?_
        intro A5 c5 w5 ho5 hc5
        have hb5 : Blk w5 w1.heap.size 61 (fc (D.f 1) (v 1) (u 1)).toArray := by
          rcases hc5 with ⟨_, _, t5⟩ | ⟨_, t5⟩
          · exact hb4.drew.turn t5 (fun e => hgR 1 (by omega) (hfj.sv _ e.symm))
          · exact hb4.drew.turn0 t5
        have hg5 : Blk w5 g 64 (pdc D.cnt v u lv1).toArray := by
          rcases hc5 with ⟨_, _, t5⟩ | ⟨_, t5⟩
          · exact h4.b.drew.turn t5 (fun e => hp.ng 1 (by omega) (hfj.sv _ e.symm))
          · exact h4.b.drew.turn0 t5
        refine hK.out _ _ (C _ hb5) (fun hHeld => ?_); clear hK K; (try simp only [Act.put, List.getElem_toArray, List.getElem_cons_zero, List.getElem_cons_succ, List.setIfInBounds_toArray, List.set_cons_zero, List.set_cons_succ])
        refine wpAnyH_take (i := 10) rfl (by kernel_rfl) (by kernel_rfl) (by kernel_rfl) (fun _ _ _ h => h) (yieldsIf_bd (by rfl) 61 _ rfl #[(0, .slice A5 ((v 1).n + m) c5), (1, .slice (u 1).A (u 1).n (u 1).c), (2, .bool (D.f 1).is)] (by first | rfl | kernel_rfl | (simp; done)) _ bdC) (by assumption) ?_
        (try simp only [Act.put, List.getElem_toArray, List.getElem_cons_zero, List.getElem_cons_succ, List.setIfInBounds_toArray, List.set_cons_zero, List.set_cons_succ])
        (first | (refine wpAnyH_take (i := 13) (v := undef) rfl (by kernel_rfl) (by kernel_rfl) (by kernel_rfl) (fun _ _ _ h => h) (Or.inr ⟨rfl, rfl⟩) (by assumption) ?_) | (refine wpAnyH_take (i := 13) (v := ?_) rfl (by kernel_rfl) (by kernel_rfl) (by kernel_rfl) (fun _ _ _ h => h) (Or.inl ⟨rfl, ?_⟩) (by assumption) ?_; rotate_left 1; · (intro w hSw; (try dsimp only at hSw); go_simp; (try with_reducible rfl)))); (try simp only [Act.put, List.getElem_toArray, List.getElem_cons_zero, List.getElem_cons_succ, List.setIfInBounds_toArray, List.set_cons_zero, List.set_cons_succ])
        refine wpAnyH_ready (rs := [14]) (by kernel_rfl) (by simp) ?_; refine AllReadyH.cons rfl (fun K hK => ?_) AllReadyH.nil
        refine gd_dst3 rfl 61 _ _ rfl rfl rfl hg5 (by rw [pdc_len]; omega) (by kernel_rfl) (ones3 rfl rfl rfl) ?_
        intro w6 hb6 t6
        refine hK.out _ _ (C _ (hb5.turn t6 (by have := h1.b.lt; simp; omega))) (fun hHeld => ?_); clear hK K; (try simp only [Act.put, List.getElem_toArray, List.getElem_cons_zero, List.getElem_cons_succ, List.setIfInBounds_toArray, List.set_cons_zero, List.set_cons_succ])
        refine wpAnyH_done (by kernel_rfl) ?_ _
        refine NoPanic.normal ?_
        clear hHeld
        go_wp2
        go_ret
        exact ⟨rfl, fin _ _ _ _ _ _ _ h1 t1 T4 ho5 (hc5.imp (fun h => ⟨h.1, h.2.1, h.2.2.undrew⟩) fun h => ⟨h.1, h.2.undrew⟩) t6 hb6⟩
  all_goals
    have hwE : D.wErr n b = D.cErr n := by unfold Dsk.wErr; rw [he]; rfl
    have hwr : D.wr n b = D.cnt := by unfold Dsk.wr; rw [hwE, he]; rfl
    rw [hwr, hwE]
    rw [he] at hcl
    rw [he]
    clear he hwE hwr
    go_enter Try.func35, Try.ntmps35
    go_wp2_with (first
      | (go_at_call 52; refine hcl.mono ?_; rintro e w1 ⟨rfl, t1, lv1, h1⟩))
    go_ret
    exact ⟨rfl, h1.no t1 hR⟩
end Go.Proofs.Ytjekglnbmccnjaa
/-
  Layer 14: Replace (contract of the code).
-/
namespace Go.Proofs.Ytjekglnbmccnjaa
set_option linter.unusedSimpArgs false
set_option linter.unusedVariables false
open Go.RowKit

set_option maxRecDepth 100000 in
set_option maxHeartbeats 3200000 in
theorem replace_any {w : World} {g : Nat} {R : Nat → Prop} {D : Dsk} (h : Pk w g R D) (n : Int) (A : Option Addr) (m c B : Nat) (b : List UInt8) (hr : Rd w B 1 A m (vbs b)) (hB : B ≤ w.heap.size) (hm : m ≤ 140737488355328) (hA : ∀ k, blk A = some k → 0 < m → ¬ R k) :
    Calls Try.prog 54 #[.pointer (some ⟨g, 0, none⟩), .int .i64 n, .slice A m c] w fun e w' => e = .returned (.int .i64 (D.rErr n b)) ∧ Stp w w' R g (D.rp n b) := by
  obtain ⟨S, v, u, lv, hp, hR⟩ := h
  have hcl := call_any hp n
  have hml := hr.len
  rw [vbs_len] at hml
  have hgA : blk A = some g → 0 < m → False := fun e hp => hA g e hp ((hR g).1 (.inl rfl))
  rcases cErr_cases D n with ⟨he, j, hj, rfl⟩ | he | he
  · rw [he] at hcl
    have hvb : (v j).n ≤ 140737521909760 := by
      have h2 := (hp.ok.f j hj).all
      have h3 := (hp.f j hj).vn
      omega
    have hwE : D.rErr (j : Int) b = if D.lim < ((D.f (1 - j)).all.length : Int) + m then 8 else 0 := by unfold Dsk.rErr; rw [if_pos he, hml, Int.toNat_natCast]
    have hf1 : D.cnt.f = D.f := D.cnt_f
    have hs1 : D.cnt.size = D.size := by unfold Dsk.size; rw [hf1]
    have hfit : ∀ lv1 W, PD W g S v u lv1 D.cnt → Calls Try.prog 53 #[.pointer (some ⟨g, 0, none⟩), .agg (fc (D.f j) (v j) (u j)).toArray, .int .i64 (m : Int)] W fun e w' => e = .returned (.bool (decide (((D.f (1 - j)).all.length : Int) + m ≤ D.lim))) ∧ Turn W w' none := by
      intro lv1 W hW
      have h2 := fits_any hW (D.f j) (v j) (u j) m hvb (by omega)
      rw [hs1, D.cnt_lim] at h2
      have h3 := (hp.f j hj).vn
      have e : (D.size : Int) - (v j).n + m = ((D.f (1 - j)).all.length : Int) + m := by
        obtain rfl | rfl : j = 0 ∨ j = 1 := by omega
        · have e0 : D.size = (D.f 0).all.length + (D.f 1).all.length := rfl
          show (D.size : Int) - (v 0).n + m = ((D.f 1).all.length : Int) + m
          omega
        · have e0 : D.size = (D.f 0).all.length + (D.f 1).all.length := rfl
          show (D.size : Int) - (v 1).n + m = ((D.f 0).all.length : Int) + m
          omega
      rw [e] at h2
      exact h2
    by_cases hfull : D.lim < ((D.f (1 - j)).all.length : Int) + m
    · have hwr : D.rp (j : Int) b = D.cnt := by unfold Dsk.rp; rw [hwE, if_pos hfull]; rfl
      rw [hwr, hwE, if_pos hfull]
      have hd : decide (((D.f (1 - j)).all.length : Int) + m ≤ D.lim) = false := decide_eq_false (by omega)
      rw [hd] at hfit
      clear hwE hwr hd he hfull
      have hrj := fun lv1 W (hW : PD W g S v u lv1 D.cnt) => rangeJ hW hj
      rw [hf1] at hrj
      clear hs1 hml hf1
      obtain rfl | rfl : j = 0 ∨ j = 1 := by omega
      all_goals
        go_enter Try.func54, Try.ntmps54
        go_wp2_with (first
          | (go_at_call 52; refine hcl.mono ?_; rintro e w1 ⟨rfl, t1, lv1, h1⟩; have hc1 := hrj _ _ h1)
          | (refine gd_ldR (by rfl) 61 _ rfl rfl hc1 Try.underlying61 rfl szC ?_)
          | (refine wp_st (xs := fc (D.f _) (v _) (u _)) rfl 61 _ _ rfl rfl rfl (Blk.new w1 _ _) rfl szC (ones3 rfl rfl rfl) ?_; intro w3 hb3 ht3; have t3 := ((Turn.refl w1 none).alloc _).new ht3 (by simp); have hsl : ∀ x : Sl, x.v = .slice x.A x.n x.c := fun _ => rfl; have c0 := hb3.ats (j := 0) rfl)
          | (refine wp_ld rfl 61 _ rfl rfl hb3 (Sub.all _) Try.underlying61 rfl szC ?_)
          | (go_at_call 53; refine (hfit _ _ (h1.turn0 t3)).mono ?_; rintro e w4 ⟨rfl, t4⟩))
        go_ret
        exact ⟨rfl, (h1.turn0 (t3.trans t4)).no (t1.trans ((t3.trans t4).any _)) hR⟩
    · have hwr : D.rp (j : Int) b = D.cnt.put j ⟨(D.f j).fa, [], b, true⟩ := by unfold Dsk.rp; rw [hwE, if_neg hfull, if_pos rfl, Int.toNat_natCast]
      have hok := (hp.ok.rp (j : Int) b).f j hj
      rw [hwr, hwE, if_neg hfull]
      have hd : decide (((D.f (1 - j)).all.length : Int) + m ≤ D.lim) = true := decide_eq_true (by omega)
      rw [hd] at hfit
      have hl1 := hp.ok.l1
      rw [hwr] at hok
      have hok : (⟨(D.f j).fa, [], b, true⟩ : Fi).Ok := by
        have e : (D.cnt.put j ⟨(D.f j).fa, [], b, true⟩).f j = ⟨(D.f j).fa, [], b, true⟩ := upd_same _ _ _
        rw [e] at hok
        exact hok
      clear hwE hwr hd he hfull hl1
      have hrj := fun lv1 W (hW : PD W g S v u lv1 D.cnt) => rangeJ hW hj
      rw [hf1] at hrj
      have fin : ∀ lv1 w1 w4 w5 w6 A' c2, PD w1 g S v u lv1 D.cnt → Turn w w1 (some g) → Turn w1 w4 none → Own w5 w4.heap.size 5 1 A' m c2 (vbs b) → Turn w4 w5 none → Turn w5 w6 (some g) →
          Blk w6 g 64 (((((pdc D.cnt v u lv1).set (1 + j * 3) (.slice A' m c2)).set (1 + j * 3 + 1) (u j).v).set (1 + j * 3 + 2) (.bool true))).toArray → Stp w w6 R g (D.cnt.put j ⟨(D.f j).fa, [], b, true⟩) := by
        intro lv1 w1 w4 w5 w6 A' c2 h1 t1 t4 hO t5 t6 hb6
        have hf := (h1.turn0 (t4.trans t5)).f j hj
        rw [hf1] at hf
        have hlt := fun k hk => h1.lt j k hj hk
        have s4 := t4.size
        have hO2 := hO.mono (Nat.zero_le _)
        have e : (⟨(D.f j).fa, [], b, true⟩ : Fi).all = b := by simp [Fi.all]
        have k1 : Fil w5 (fun k => S j k ∨ (w1.heap.size ≤ k ∧ k < w5.heap.size)) ⟨(D.f j).fa, [], b, true⟩ ⟨A', m, c2⟩ (u j) :=
          ⟨by rw [e]; exact hO2, hf.hu, fun k hk => .inr (by have h := hO.block k hk; omega), fun k hk => .inl (hf.su k hk), fun k hk hk2 => by
            have h := hO.block k hk
            have h2 := hlt k (hf.su k hk2)
            omega⟩
        exact h1.yes (v := ⟨A', m, c2⟩) t1 hR hj (Chg.of0 (t4.trans t5) (S j)) t6 hb6 k1 (fun k hk => hk) hok
      clear hs1 hml
      obtain rfl | rfl : j = 0 ∨ j = 1 := by omega
      all_goals
        go_enter Try.func54, Try.ntmps54
        go_wp2_with (first
          | (go_at_call 52; refine hcl.mono ?_; rintro e w1 ⟨rfl, t1, lv1, h1⟩; have hc1 := hrj _ _ h1)
          | (refine gd_ldR (by rfl) 61 _ rfl rfl hc1 Try.underlying61 rfl szC ?_)
          | (refine wp_st (xs := fc (D.f _) (v _) (u _)) rfl 61 _ _ rfl rfl rfl (Blk.new w1 _ _) rfl szC (ones3 rfl rfl rfl) ?_; intro w3 hb3 ht3; have t3 := ((Turn.refl w1 none).alloc _).new ht3 (by simp); have hsl : ∀ x : Sl, x.v = .slice x.A x.n x.c := fun _ => rfl; have c0 := hb3.ats (j := 0) rfl)
          | (refine wp_ld rfl 61 _ rfl rfl hb3 (Sub.all _) Try.underlying61 rfl szC ?_)
          | (go_at_call 53; refine (hfit _ _ (h1.turn0 t3)).mono ?_; rintro e w4 ⟨rfl, t4⟩))
        have T4 := t3.trans t4
        have h4 := h1.turn0 T4
        have hb4 := hb3.turn0 t4
        have s1 := t1.size
        have hr4 := ((hr.ne0 hB t1 hgA).turn0 T4 (Nat.le_trans hB s1))
      · have C : ∀ W, Blk W w1.heap.size 61 (fc (D.f 0) (v 0) (u 0)).toArray → W.cell? ⟨w1.heap.size, 1, none⟩ = some (.slice (u 0).A (u 0).n (u 0).c) := fun W h => h.ats (j := 1) rfl
        refine wp_region_noPanic ?_
        refine wp_region_held_drew (S := (fun W => W.cell? ⟨w1.heap.size, 1, none⟩ = some (.slice (u 0).A (u 0).n (u 0).c))) (by kernel_rfl) (C _ hb4.drew) (fun hHeld => ?_)
        (first | (refine wpAnyH_take (i := 0) (v := undef) rfl (by kernel_rfl) (by kernel_rfl) (by kernel_rfl) (fun _ _ _ h => h) (Or.inr ⟨rfl, rfl⟩) (by assumption) ?_) | (refine wpAnyH_take (i := 0) (v := ?_) rfl (by kernel_rfl) (by kernel_rfl) (by kernel_rfl) (fun _ _ _ h => h) (Or.inl ⟨rfl, ?_⟩) (by assumption) ?_; rotate_left 1; · (intro w hSw; (try dsimp only at hSw); go_simp; (try with_reducible rfl)))); (try simp only [Act.put, List.getElem_toArray, List.getElem_cons_zero, List.getElem_cons_succ, List.setIfInBounds_toArray, List.set_cons_zero, List.set_cons_succ])
        (first | (refine wpAnyH_take (i := 1) (v := undef) rfl (by kernel_rfl) (by kernel_rfl) (by kernel_rfl) (fun _ _ _ h => h) (Or.inr ⟨rfl, rfl⟩) (by assumption) ?_) | (refine wpAnyH_take (i := 1) (v := ?_) rfl (by kernel_rfl) (by kernel_rfl) (by kernel_rfl) (fun _ _ _ h => h) (Or.inl ⟨rfl, ?_⟩) (by assumption) ?_; rotate_left 1; · (intro w hSw; (try dsimp only at hSw); go_simp; (try with_reducible rfl)))); (try simp only [Act.put, List.getElem_toArray, List.getElem_cons_zero, List.getElem_cons_succ, List.setIfInBounds_toArray, List.set_cons_zero, List.set_cons_succ])
        (first | (refine wpAnyH_take (i := 2) (v := undef) rfl (by kernel_rfl) (by kernel_rfl) (by kernel_rfl) (fun _ _ _ h => h) (Or.inr ⟨rfl, rfl⟩) (by assumption) ?_) | (refine wpAnyH_take (i := 2) (v := ?_) rfl (by kernel_rfl) (by kernel_rfl) (by kernel_rfl) (fun _ _ _ h => h) (Or.inl ⟨rfl, ?_⟩) (by assumption) ?_; rotate_left 1; · (intro w hSw; (try dsimp only at hSw); go_simp; (try with_reducible rfl)))); (try simp only [Act.put, List.getElem_toArray, List.getElem_cons_zero, List.getElem_cons_succ, List.setIfInBounds_toArray, List.set_cons_zero, List.set_cons_succ])
        (first | (refine wpAnyH_take (i := 4) (v := undef) rfl (by kernel_rfl) (by kernel_rfl) (by kernel_rfl) (fun _ _ _ h => h) (Or.inr ⟨rfl, rfl⟩) (by assumption) ?_) | (refine wpAnyH_take (i := 4) (v := ?_) rfl (by kernel_rfl) (by kernel_rfl) (by kernel_rfl) (fun _ _ _ h => h) (Or.inl ⟨rfl, ?_⟩) (by assumption) ?_; rotate_left 1; · (intro w hSw; (try dsimp only at hSw); go_simp; (try with_reducible rfl)))); (try simp only [Act.put, List.getElem_toArray, List.getElem_cons_zero, List.getElem_cons_succ, List.setIfInBounds_toArray, List.set_cons_zero, List.set_cons_succ])
        (first | (refine wpAnyH_take (i := 5) (v := undef) rfl (by kernel_rfl) (by kernel_rfl) (by kernel_rfl) (fun _ _ _ h => h) (Or.inr ⟨rfl, rfl⟩) (by assumption) ?_) | (refine wpAnyH_take (i := 5) (v := ?_) rfl (by kernel_rfl) (by kernel_rfl) (by kernel_rfl) (fun _ _ _ h => h) (Or.inl ⟨rfl, ?_⟩) (by assumption) ?_; rotate_left 1; · (intro w hSw; (try dsimp only at hSw); go_simp; (try with_reducible rfl)))); (try simp only [Act.put, List.getElem_toArray, List.getElem_cons_zero, List.getElem_cons_succ, List.setIfInBounds_toArray, List.set_cons_zero, List.set_cons_succ])
        (first | (refine wpAnyH_take (i := 7) (v := undef) rfl (by kernel_rfl) (by kernel_rfl) (by kernel_rfl) (fun _ _ _ h => h) (Or.inr ⟨rfl, rfl⟩) (by assumption) ?_) | (refine wpAnyH_take (i := 7) (v := ?_) rfl (by kernel_rfl) (by kernel_rfl) (by kernel_rfl) (fun _ _ _ h => h) (Or.inl ⟨rfl, ?_⟩) (by assumption) ?_; rotate_left 1; · (intro w hSw; (try dsimp only at hSw); go_simp; (try with_reducible rfl)))); (try simp only [Act.put, List.getElem_toArray, List.getElem_cons_zero, List.getElem_cons_succ, List.setIfInBounds_toArray, List.set_cons_zero, List.set_cons_succ])
        (first | (refine wpAnyH_take (i := 8) (v := undef) rfl (by kernel_rfl) (by kernel_rfl) (by kernel_rfl) (fun _ _ _ h => h) (Or.inr ⟨rfl, rfl⟩) (by assumption) ?_) | (refine wpAnyH_take (i := 8) (v := ?_) rfl (by kernel_rfl) (by kernel_rfl) (by kernel_rfl) (fun _ _ _ h => h) (Or.inl ⟨rfl, ?_⟩) (by assumption) ?_; rotate_left 1; · (intro w hSw; (try dsimp only at hSw); go_simp; (try with_reducible rfl)))); (try simp only [Act.put, List.getElem_toArray, List.getElem_cons_zero, List.getElem_cons_succ, List.setIfInBounds_toArray, List.set_cons_zero, List.set_cons_succ])
        refine wpAnyH_ready (rs := [3]) (by kernel_rfl) (by simp) ?_
        refine AllReadyH.cons rfl (fun K hK => ?_) AllReadyH.nil
        go_simp
        refine (clone_any _ _ _ _ _ _ hr4.drew (by have := T4.size; show B ≤ w4.heap.size; omega) (by omega)).mono ?_
        rintro e w5 ⟨A5, c5, rfl, ho5, t5⟩
        have hb5 := hb4.drew.turn0 t5
        have hg5 := h4.b.drew.turn0 t5
        refine hK.out _ _ (C _ hb5) (fun hHeld => ?_); clear hK K; (try simp only [Act.put, List.getElem_toArray, List.getElem_cons_zero, List.getElem_cons_succ, List.setIfInBounds_toArray, List.set_cons_zero, List.set_cons_succ])
        refine wpAnyH_take (i := 6) rfl (by kernel_rfl) (by kernel_rfl) (by kernel_rfl) (fun _ _ _ h => h) (yieldsIf_bd (by rfl) 61 _ rfl #[(0, .slice A5 m c5), (1, .slice (u 0).A (u 0).n (u 0).c), (2, .bool true)] (by first | rfl | kernel_rfl | (simp; done)) _ bdC) (by assumption) ?_
        (try simp only [Act.put, List.getElem_toArray, List.getElem_cons_zero, List.getElem_cons_succ, List.setIfInBounds_toArray, List.set_cons_zero, List.set_cons_succ])
        (first | (refine wpAnyH_take (i := 9) (v := undef) rfl (by kernel_rfl) (by kernel_rfl) (by kernel_rfl) (fun _ _ _ h => h) (Or.inr ⟨rfl, rfl⟩) (by assumption) ?_) | (refine wpAnyH_take (i := 9) (v := ?_) rfl (by kernel_rfl) (by kernel_rfl) (by kernel_rfl) (fun _ _ _ h => h) (Or.inl ⟨rfl, ?_⟩) (by assumption) ?_; rotate_left 1; · (intro w hSw; (try dsimp only at hSw); go_simp; (try with_reducible rfl)))); (try simp only [Act.put, List.getElem_toArray, List.getElem_cons_zero, List.getElem_cons_succ, List.setIfInBounds_toArray, List.set_cons_zero, List.set_cons_succ])
        refine wpAnyH_ready (rs := [10]) (by kernel_rfl) (by simp) ?_; refine AllReadyH.cons rfl (fun K hK => ?_) AllReadyH.nil
        refine gd_dst3 rfl 61 _ _ rfl rfl rfl hg5 (by rw [pdc_len]; omega) (by kernel_rfl) (ones3 rfl rfl rfl) ?_
        intro w6 hb6 t6
        refine hK.out _ _ (C _ (hb5.turn t6 (by have := h1.b.lt; simp; omega))) (fun hHeld => ?_); clear hK K; (try simp only [Act.put, List.getElem_toArray, List.getElem_cons_zero, List.getElem_cons_succ, List.setIfInBounds_toArray, List.set_cons_zero, List.set_cons_succ])
        refine wpAnyH_done (by kernel_rfl) ?_ _
        refine NoPanic.normal ?_
        clear hHeld
        go_wp2
        go_ret
        exact ⟨rfl, fin _ _ _ _ _ _ _ h1 t1 T4 ho5 t5.undrew t6 hb6⟩
      · have C : ∀ W, Blk W w1.heap.size 61 (fc (D.f 1) (v 1) (u 1)).toArray → W.cell? ⟨w1.heap.size, 1, none⟩ = some (.slice (u 1).A (u 1).n (u 1).c) := fun W h => h.ats (j := 1) rfl
        refine wp_region_noPanic ?_
        refine wp_region_held_drew (S := (fun W => W.cell? ⟨w1.heap.size, 1, none⟩ = some (.slice (u 1).A (u 1).n (u 1).c))) (by kernel_rfl) (C _ hb4.drew) (fun hHeld => ?_)
        (first | (refine wpAnyH_take (i := 0) (v := undef) rfl (by kernel_rfl) (by kernel_rfl) (by kernel_rfl) (fun _ _ _ h => h) (Or.inr ⟨rfl, rfl⟩) (by assumption) ?_) | (refine wpAnyH_take (i := 0) (v := ?_) rfl (by kernel_rfl) (by kernel_rfl) (by kernel_rfl) (fun _ _ _ h => h) (Or.inl ⟨rfl, ?_⟩) (by assumption) ?_; rotate_left 1; · (intro w hSw; (try dsimp only at hSw); go_simp; (try with_reducible rfl)))); (try simp only [Act.put, List.getElem_toArray, List.getElem_cons_zero, List.getElem_cons_succ, List.setIfInBounds_toArray, List.set_cons_zero, List.set_cons_succ])
        (first | (refine wpAnyH_take (i := 1) (v := undef) rfl (by kernel_rfl) (by kernel_rfl) (by kernel_rfl) (fun _ _ _ h => h) (Or.inr ⟨rfl, rfl⟩) (by assumption) ?_) | (refine wpAnyH_take (i := 1) (v := ?_) rfl (by kernel_rfl) (by kernel_rfl) (by kernel_rfl) (fun _ _ _ h => h) (Or.inl ⟨rfl, ?_⟩) (by assumption) ?_; rotate_left 1; · (intro w hSw; (try dsimp only at hSw); go_simp; (try with_reducible rfl)))); (try simp only [Act.put, List.getElem_toArray, List.getElem_cons_zero, List.getElem_cons_succ, List.setIfInBounds_toArray, List.set_cons_zero, List.set_cons_succ])
        (first | (refine wpAnyH_take (i := 2) (v := undef) rfl (by kernel_rfl) (by kernel_rfl) (by kernel_rfl) (fun _ _ _ h => h) (Or.inr ⟨rfl, rfl⟩) (by assumption) ?_) | (refine wpAnyH_take (i := 2) (v := ?_) rfl (by kernel_rfl) (by kernel_rfl) (by kernel_rfl) (fun _ _ _ h => h) (Or.inl ⟨rfl, ?_⟩) (by assumption) ?_; rotate_left 1; · (intro w hSw; (try dsimp only at hSw); go_simp; (try with_reducible rfl)))); (try simp only [Act.put, List.getElem_toArray, List.getElem_cons_zero, List.getElem_cons_succ, List.setIfInBounds_toArray, List.set_cons_zero, List.set_cons_succ])
        (first | (refine wpAnyH_take (i := 4) (v := undef) rfl (by kernel_rfl) (by kernel_rfl) (by kernel_rfl) (fun _ _ _ h => h) (Or.inr ⟨rfl, rfl⟩) (by assumption) ?_) | (refine wpAnyH_take (i := 4) (v := ?_) rfl (by kernel_rfl) (by kernel_rfl) (by kernel_rfl) (fun _ _ _ h => h) (Or.inl ⟨rfl, ?_⟩) (by assumption) ?_; rotate_left 1; · (intro w hSw; (try dsimp only at hSw); go_simp; (try with_reducible rfl)))); (try simp only [Act.put, List.getElem_toArray, List.getElem_cons_zero, List.getElem_cons_succ, List.setIfInBounds_toArray, List.set_cons_zero, List.set_cons_succ])
        (first | (refine wpAnyH_take (i := 5) (v := undef) rfl (by kernel_rfl) (by kernel_rfl) (by kernel_rfl) (fun _ _ _ h => h) (Or.inr ⟨rfl, rfl⟩) (by assumption) ?_) | (refine wpAnyH_take (i := 5) (v := ?_) rfl (by kernel_rfl) (by kernel_rfl) (by kernel_rfl) (fun _ _ _ h => h) (Or.inl ⟨rfl, ?_⟩) (by assumption) ?_; rotate_left 1; · (intro w hSw; (try dsimp only at hSw); go_simp; (try with_reducible rfl)))); (try simp only [Act.put, List.getElem_toArray, List.getElem_cons_zero, List.getElem_cons_succ, List.setIfInBounds_toArray, List.set_cons_zero, List.set_cons_succ])
        (first | (refine wpAnyH_take (i := 7) (v := undef) rfl (by kernel_rfl) (by kernel_rfl) (by kernel_rfl) (fun _ _ _ h => h) (Or.inr ⟨rfl, rfl⟩) (by assumption) ?_) | (refine wpAnyH_take (i := 7) (v := ?_) rfl (by kernel_rfl) (by kernel_rfl) (by kernel_rfl) (fun _ _ _ h => h) (Or.inl ⟨rfl, ?_⟩) (by assumption) ?_; rotate_left 1; · (intro w hSw; (try dsimp only at hSw); go_simp; (try with_reducible rfl)))); (try simp only [Act.put, List.getElem_toArray, List.getElem_cons_zero, List.getElem_cons_succ, List.setIfInBounds_toArray, List.set_cons_zero, List.set_cons_succ])
        (first | (refine wpAnyH_take (i := 8) (v := undef) rfl (by kernel_rfl) (by kernel_rfl) (by kernel_rfl) (fun _ _ _ h => h) (Or.inr ⟨rfl, rfl⟩) (by assumption) ?_) | (refine wpAnyH_take (i := 8) (v := ?_) rfl (by kernel_rfl) (by kernel_rfl) (by kernel_rfl) (fun _ _ _ h => h) (Or.inl ⟨rfl, ?_⟩) (by assumption) ?_; rotate_left 1; · (intro w hSw; (try dsimp only at hSw); go_simp; (try with_reducible rfl)))); (try simp only [Act.put, List.getElem_toArray, List.getElem_cons_zero, List.getElem_cons_succ, List.setIfInBounds_toArray, List.set_cons_zero, List.set_cons_succ])
        refine wpAnyH_ready (rs := [3]) (by kernel_rfl) (by simp) ?_
        refine AllReadyH.cons rfl (fun K hK => ?_) AllReadyH.nil
        go_simp
        refine (clone_any _ _ _ _ _ _ hr4.drew (by have := T4.size; show B ≤ w4.heap.size; omega) (by omega)).mono ?_
        rintro e w5 ⟨A5, c5, rfl, ho5, t5⟩
        have hb5 := hb4.drew.turn0 t5
        have hg5 := h4.b.drew.turn0 t5
        refine hK.out _ _ (C _ hb5) (fun hHeld => ?_); clear hK K; (try simp only [Act.put, List.getElem_toArray, List.getElem_cons_zero, List.getElem_cons_succ, List.setIfInBounds_toArray, List.set_cons_zero, List.set_cons_succ])
        refine wpAnyH_take (i := 6) rfl (by kernel_rfl) (by kernel_rfl) (by kernel_rfl) (fun _ _ _ h => h) (yieldsIf_bd (by rfl) 61 _ rfl #[(0, .slice A5 m c5), (1, .slice (u 1).A (u 1).n (u 1).c), (2, .bool true)] (by first | rfl | kernel_rfl | (simp; done)) _ bdC) (by assumption) ?_
        (try simp only [Act.put, List.getElem_toArray, List.getElem_cons_zero, List.getElem_cons_succ, List.setIfInBounds_toArray, List.set_cons_zero, List.set_cons_succ])
        (first | (refine wpAnyH_take (i := 9) (v := undef) rfl (by kernel_rfl) (by kernel_rfl) (by kernel_rfl) (fun _ _ _ h => h) (Or.inr ⟨rfl, rfl⟩) (by assumption) ?_) | (refine wpAnyH_take (i := 9) (v := ?_) rfl (by kernel_rfl) (by kernel_rfl) (by kernel_rfl) (fun _ _ _ h => h) (Or.inl ⟨rfl, ?_⟩) (by assumption) ?_; rotate_left 1; · (intro w hSw; (try dsimp only at hSw); go_simp; (try with_reducible rfl)))); (try simp only [Act.put, List.getElem_toArray, List.getElem_cons_zero, List.getElem_cons_succ, List.setIfInBounds_toArray, List.set_cons_zero, List.set_cons_succ])
        refine wpAnyH_ready (rs := [10]) (by kernel_rfl) (by simp) ?_; refine AllReadyH.cons rfl (fun K hK => ?_) AllReadyH.nil
        refine gd_dst3 rfl 61 _ _ rfl rfl rfl hg5 (by rw [pdc_len]; omega) (by kernel_rfl) (ones3 rfl rfl rfl) ?_
        intro w6 hb6 t6
        refine hK.out _ _ (C _ (hb5.turn t6 (by have := h1.b.lt; simp; omega))) (fun hHeld => ?_); clear hK K; (try simp only [Act.put, List.getElem_toArray, List.getElem_cons_zero, List.getElem_cons_succ, List.setIfInBounds_toArray, List.set_cons_zero, List.set_cons_succ])
        refine wpAnyH_done (by kernel_rfl) ?_ _
        refine NoPanic.normal ?_
        clear hHeld
        go_wp2
        go_ret
        exact ⟨rfl, fin _ _ _ _ _ _ _ h1 t1 T4 ho5 t5.undrew t6 hb6⟩
  all_goals
    have hwE : D.rErr n b = D.cErr n := by unfold Dsk.rErr; rw [he]; rfl
    have hwr : D.rp n b = D.cnt := by unfold Dsk.rp; rw [hwE, he]; rfl
    rw [hwr, hwE]
    rw [he] at hcl
    rw [he]
    clear he hwE hwr
    go_enter Try.func54, Try.ntmps54
    go_wp2_with (first
      | (go_at_call 52; refine hcl.mono ?_; rintro e w1 ⟨rfl, t1, lv1, h1⟩))
    go_ret
    exact ⟨rfl, h1.no t1 hR⟩
end Go.Proofs.Ytjekglnbmccnjaa
/-
  Layer 14: what remains of a file; Read, Sync (contracts of the code).
-/
namespace Go.Proofs.Ytjekglnbmccnjaa
set_option linter.unusedSimpArgs false
set_option linter.unusedVariables false
open Go.RowKit

theorem sl_none {w : World} {xs : List Value} {n c : Nat} (h : Own w 0 5 1 none n c xs) : n = 0 ∧ c = 0 := by
  rcases h.2 with ⟨hv, h0⟩ | ⟨g, cap, cur, hv, _⟩
  · injection hv with _ a b; exact ⟨a, b⟩
  · injection hv with a; cases a
theorem pre_le {f : Fi} {x y : Nat} (hi : f.is = false) (hx : x = f.all.length) (hy : y = f.fa.length) : y + f.mo.length = x := by
  rw [hx, hy, Fi.all_pre hi, List.length_append]

set_option maxRecDepth 100000 in
set_option maxHeartbeats 3200000 in
theorem remains_any {w : World} {S : Nat → Prop} {f : Fi} {v u : Sl} (h : Fil w S f v u) (hk : f.Ok) (keep : Int) (k0 : -9223372036854775808 ≤ keep) (k1 : keep ≤ 9223372036854775807) (A : Option Addr) (n c : Nat) (t : List UInt8) (B : Nat)
    (hr : Rd w B 1 A n (vbs t)) (hB : B ≤ w.heap.size) (hn : n ≤ 140737488351232) (hnc : n ≤ c) (hc : c ≤ maxLen) (hS : ∀ k, S k → k < w.heap.size) :
    Calls Try.prog 39 #[.agg (fc f v u).toArray, .int .i64 keep, .slice A n c] w fun e w' =>
      ∃ r : Sl, e = .returned r.v ∧ Own w' 0 5 1 r.A r.n r.c (vbs (f.left keep t)) ∧ (∀ g, blk r.A = some g → S g ∨ (w.heap.size ≤ g ∧ g < w'.heap.size)) ∧ Turn w w' none := by
  have hvn := h.vn
  have hun := h.un
  have hfa := hk.fa
  have hal := hk.all
  cases hi : f.is with
  | true =>
    have hcs : fc f v u = [.slice v.A v.n v.c, .slice u.A u.n u.c, .bool true] := by simp [fc, hi, Sl.v]
    rw [hcs]
    by_cases hp : 0 < keep
    · have e : f.left keep t = f.all := by simp [Fi.left, hi, hp]
      rw [e]
      clear e hvn hun
      go_enter Try.func39, Try.ntmps39
      go_wp2_with (first
        | (refine wp_bx rfl 61 _ rfl rfl ?_; intro g1 w1 hg1 hb1 ht1; have c0 := hb1.ats (j := 0) (v := .slice v.A v.n v.c) rfl; have c2 := hb1.ats (j := 2) (v := .bool true) rfl))
      go_ret
      exact ⟨v, rfl, h.hv.turn0 ht1, fun g hg => .inl (h.sv g hg), ht1⟩
    · have e : f.left keep t = f.fa := by simp [Fi.left, hi, hp]
      rw [e]
      clear e hvn hun
      go_enter Try.func39, Try.ntmps39
      go_wp2_with (first
        | (refine wp_bx rfl 61 _ rfl rfl ?_; intro g1 w1 hg1 hb1 ht1; have c1 := hb1.ats (j := 1) (v := .slice u.A u.n u.c) rfl; have c2 := hb1.ats (j := 2) (v := .bool true) rfl))
      go_ret
      exact ⟨u, rfl, h.hu.turn0 ht1, fun g hg => .inl (h.su g hg), ht1⟩
  | false =>
    have hcs : fc f v u = [.slice v.A v.n v.c, .slice u.A u.n u.c, .bool false] := by simp [fc, hi, Sl.v]
    rw [hcs]
    have hpl := pre_le hi hvn hun
    have hcap := h.hv.cap
    by_cases hm : f.mo = []
    · have e : f.left keep t = f.fa := by simp [Fi.left, hi, hm]
      rw [e]
      clear e
      rw [hm, List.length_nil, Nat.add_zero] at hpl
      clear hvn hun hfa hal hcs hk
      have hcA : (v.A = none ∧ v.n = 0 ∧ v.c = 0) ∨ ∃ a, v.A = some a := by
        cases hA : v.A with
        | none => have h2 := h.hv; rw [hA] at h2; exact .inl ⟨rfl, sl_none h2⟩
        | some a => exact .inr ⟨a, rfl⟩
      rcases hcA with ⟨a1, a2, a3⟩ | ⟨a, hA⟩
      · have a4 : u.n = 0 := by omega
        rw [a1, a2, a3]
        clear a1 a2 a3 hpl hcap
        go_enter Try.func39, Try.ntmps39
        go_wp2_with (first
          | (refine wp_bx rfl 61 _ rfl rfl ?_; intro g1 w1 hg1 hb1 ht1; have c0 := hb1.ats (j := 0) (v := .slice none 0 0) rfl; have c1 := hb1.ats (j := 1) (v := .slice u.A u.n u.c) rfl; have c2 := hb1.ats (j := 2) (v := .bool false) rfl))
        go_ret
        exact ⟨u, by show _ = Ending.returned (Value.slice u.A u.n u.c); rw [a4]; rfl, h.hu.turn0 ht1, fun g hg => .inl (h.su g hg), ht1⟩
      · have hu2 : u.n = v.n := hpl
        rw [hA]
        obtain ⟨vn, hvn2⟩ : ∃ q, q = v.n := ⟨_, rfl⟩
        obtain ⟨vc, hvc2⟩ : ∃ q, q = v.c := ⟨_, rfl⟩
        rw [← hvn2, ← hvc2] at hcap
        rw [← hvn2] at hu2
        rw [← hvn2, ← hvc2]
        have hx : vc ≤ 9223372036854775807 := hcap.2
        clear hvn2 hvc2 hpl
        by_cases hq : vc = vn
        · subst hq
          go_enter Try.func39, Try.ntmps39
          go_wp2_with (first
            | (refine wp_bx rfl 61 _ rfl rfl ?_; intro g1 w1 hg1 hb1 ht1; have c0 := hb1.ats (j := 0) (v := .slice (some a) vc vc) rfl; have c1 := hb1.ats (j := 1) (v := .slice u.A u.n u.c) rfl; have c2 := hb1.ats (j := 2) (v := .bool false) rfl))
          go_ret
          exact ⟨u, by show _ = Ending.returned (Value.slice u.A u.n u.c); rw [hu2]; rfl, h.hu.turn0 ht1, fun g hg => .inl (h.su g hg), ht1⟩
        · have hq2 : vn < vc := by omega
          go_enter Try.func39, Try.ntmps39
          go_wp2_with (first
            | (refine wp_bx rfl 61 _ rfl rfl ?_; intro g1 w1 hg1 hb1 ht1; have c0 := hb1.ats (j := 0) (v := .slice (some a) vn vc) rfl; have c1 := hb1.ats (j := 1) (v := .slice u.A u.n u.c) rfl; have c2 := hb1.ats (j := 2) (v := .bool false) rfl))
          go_ret
          exact ⟨u, by show _ = Ending.returned (Value.slice u.A u.n u.c); rw [hu2]; rfl, h.hu.turn0 ht1, fun g hg => .inl (h.su g hg), ht1⟩
    · have hml : 0 < f.mo.length := List.length_pos_iff.2 hm
      have hvl : v.n ≤ 16777216 := by
        rcases hk.few with ⟨h3, _⟩ | h3
        · exact absurd h3 hm
        · omega
      obtain ⟨KK, hK⟩ : ∃ KK, KK = min (Int.toNat keep) f.mo.length := ⟨_, rfl⟩
      have e : f.left keep t = [f.fa, f.mo.take KK, t].flatten := by
        have e2 : f.mo.take (Int.toNat keep) = f.mo.take KK := by rw [hK, List.take_eq_take_min]
        simp [Fi.left, hi, hm, e2]
      rw [e]
      clear e
      obtain ⟨g0, hA, _, hg0⟩ := h.hv.head (by omega)
      have hrv : Rd w w.heap.size 1 v.A v.n (vbs f.all) := h.hv.rd
      have hru : Rd w w.heap.size 1 u.A u.n (vbs f.fa) := h.hu.rd
      have hcu := h.hu.cap
      rw [hA] at hrv
      have hdr : f.all.drop u.n = f.mo := by rw [Fi.all_pre hi, List.drop_append_of_le_length (by omega), List.drop_of_length_le (by omega), List.nil_append]
      have hne : ¬ v.c = u.n := by omega
      have hrm := hrv.tailB (k := u.n) (c := v.c) (by omega) hcap.1 hne
      rw [hdr] at hrm
      have hKm : KK ≤ v.n - u.n := by rw [hK]; omega
      have hrk := hrm.takeB hKm
      have hKl : (f.mo.take KK).length = KK := by rw [List.length_take]; omega
      have htl := hr.len
      rw [vbs_len] at htl
      have hflat : [f.fa, f.mo.take KK, t].flatten.length ≤ 140737530000000 := by
        simp only [List.flatten_cons, List.flatten_nil, List.length_append, List.length_nil, hKl]
        omega
      rw [hA]
      obtain ⟨vn, hvn2⟩ : ∃ q, q = v.n := ⟨_, rfl⟩
      obtain ⟨vc, hvc2⟩ : ∃ q, q = v.c := ⟨_, rfl⟩
      obtain ⟨un, hun2⟩ : ∃ q, q = u.n := ⟨_, rfl⟩
      rw [← hvn2, ← hvc2] at hcap
      rw [← hvc2, ← hun2] at hne
      rw [← hvn2] at hvl
      rw [← hvn2, ← hun2] at hKm hpl
      rw [← hun2] at hrk hru
      have hrk := hid hrk
      have HF := hid hflat
      clear hflat hrm hrv
      rw [← hun2] at hcu
      rw [← hvn2, ← hvc2, ← hun2]
      have hx : vc ≤ 9223372036854775807 := hcap.2
      have hlt : un < vn := by omega
      have hle : un ≤ vn := by omega
      have hltc : un < vc := by omega
      have hpos : ¬ vn = un := by omega
      have hnbr : (((vn - un : Nat) : Int) == 0) = false := by rw [beq_eq_false_iff_ne]; omega
      have hcas : ((vn - un : Nat) : Int) = (vn : Int) - un := by omega
      have hml2 : f.mo.length = vn - un := by omega
      rw [hml2] at hK
      clear hml hml2 hpl hvn hun hfa hal hcs hk hm hdr hvn2 hvc2 hun2
      go_enter Try.func39, Try.ntmps39
      go_wp2_with (first
        | (refine wp_bx rfl 61 _ rfl rfl ?_; intro g1 w1 hg1 hb1 ht1; have c0 := hb1.ats (j := 0) (v := .slice (some ⟨g0, 0, none⟩) vn vc) rfl; have c1 := hb1.ats (j := 1) (v := .slice u.A un u.c) rfl; have c2 := hb1.ats (j := 2) (v := .bool false) rfl))
      have C1 : ∀ W, Turn (World.drew w1) W none → W.cell? ⟨g1, 1, none⟩ = some (.slice u.A un u.c) := fun W h => (hb1.drew.turn0 h).ats (j := 1) rfl
      have rows : RowsAt w1 w1.heap.size [.slice u.A un u.c, .slice (some ⟨g0, un, none⟩) KK (vc - un), .slice A n c] [f.fa, f.mo.take KK, t] := by
        refine RowsAt.cons ((hru.turn0 ht1 (Nat.le_refl _)).mono ht1.size) hcu.1 hcu.2 (RowsAt.cons ?_ (by omega) (by show _ ≤ 9223372036854775807; omega) (RowsAt.cons ((hr.turn0 ht1 hB).mono (Nat.le_trans hB ht1.size)) hnc hc (RowsAt.nil _ _)))
        have h2 := (hrk.out.turn0 ht1 (Nat.le_refl _)).mono ht1.size
        rw [Nat.zero_add] at h2
        exact h2
      have rows : RowsAt (World.drew w1) (World.drew w1).heap.size [.slice u.A un u.c, .slice (some ⟨g0, un, none⟩) KK (vc - un), .slice A n c] [f.fa, f.mo.take KK, t] := rows
      clear hb1 c0 c1 c2
      have hKc : KK ≤ vc - un := by omega
      have hcase : (keep < 0 ∧ KK = 0) ∨ (0 ≤ keep ∧ keep ≤ (vn : Int) - un ∧ keep = (KK : Int)) ∨ (¬ keep < 0 ∧ (vn : Int) - un < keep ∧ KK = vn - un) := by omega
      clear hK
      rcases hcase with ⟨q1, q2⟩ | ⟨q1, q2, q3⟩ | ⟨q1, q2, q3⟩
      · have hE : (if (vn : Int) - un < 0 then (vn : Int) - un else 0) = (KK : Int) := by rw [if_neg (by omega)]; omega
        clear q2
        refine wp_region_noPanic ?_
        refine wp_region_held_drew (S := fun W => Turn w1 W none) (by kernel_rfl) (Turn.refl _ none).drew (fun hHeld => ?_)
        refine wpAnyH_more (S' := fun W => Turn (World.drew w1) W none) (fun W h => (Turn.refl _ none).drew.trans h) _ _ _ _ ?_
        clear hHeld
        have hHeld : (fun W => Turn (World.drew w1) W none) (World.drew w1) := Turn.refl _ none
        (first | (refine wpAnyH_take (i := 0) (v := undef) rfl (by kernel_rfl) (by kernel_rfl) (by kernel_rfl) (fun _ _ _ h => h) (Or.inr ⟨rfl, rfl⟩) (by assumption) ?_) | (refine wpAnyH_take (i := 0) (v := ?_) rfl (by kernel_rfl) (by kernel_rfl) (by kernel_rfl) (fun _ _ _ h => h) (Or.inl ⟨rfl, ?_⟩) (by assumption) ?_; rotate_left 1; · (intro w hSw; (try dsimp only at hSw); go_simp; (try with_reducible rfl)))); (try simp only [Act.put, List.getElem_toArray, List.getElem_cons_zero, List.getElem_cons_succ, List.setIfInBounds_toArray, List.set_cons_zero, List.set_cons_succ])
        (first | (refine wpAnyH_take (i := 1) (v := undef) rfl (by kernel_rfl) (by kernel_rfl) (by kernel_rfl) (fun _ _ _ h => h) (Or.inr ⟨rfl, rfl⟩) (by assumption) ?_) | (refine wpAnyH_take (i := 1) (v := ?_) rfl (by kernel_rfl) (by kernel_rfl) (by kernel_rfl) (fun _ _ _ h => h) (Or.inl ⟨rfl, ?_⟩) (by assumption) ?_; rotate_left 1; · (intro w hSw; (try dsimp only at hSw); go_simp; (try with_reducible rfl)))); (try simp only [Act.put, List.getElem_toArray, List.getElem_cons_zero, List.getElem_cons_succ, List.setIfInBounds_toArray, List.set_cons_zero, List.set_cons_succ])
        (first | (refine wpAnyH_take (i := 2) (v := undef) rfl (by kernel_rfl) (by kernel_rfl) (by kernel_rfl) (fun _ _ _ h => h) (Or.inr ⟨rfl, rfl⟩) (by assumption) ?_) | (refine wpAnyH_take (i := 2) (v := ?_) rfl (by kernel_rfl) (by kernel_rfl) (by kernel_rfl) (fun _ _ _ h => h) (Or.inl ⟨rfl, ?_⟩) (by assumption) ?_; rotate_left 1; · (intro w hSw; (try dsimp only at hSw); go_simp; (try with_reducible rfl)))); (try simp only [Act.put, List.getElem_toArray, List.getElem_cons_zero, List.getElem_cons_succ, List.setIfInBounds_toArray, List.set_cons_zero, List.set_cons_succ])
        (first | (refine wpAnyH_take (i := 3) (v := undef) rfl (by kernel_rfl) (by kernel_rfl) (by kernel_rfl) (fun _ _ _ h => h) (Or.inr ⟨rfl, rfl⟩) (by assumption) ?_) | (refine wpAnyH_take (i := 3) (v := ?_) rfl (by kernel_rfl) (by kernel_rfl) (by kernel_rfl) (fun _ _ _ h => h) (Or.inl ⟨rfl, ?_⟩) (by assumption) ?_; rotate_left 1; · (intro w hSw; (try dsimp only at hSw); go_simp; (try with_reducible rfl)))); (try simp only [Act.put, List.getElem_toArray, List.getElem_cons_zero, List.getElem_cons_succ, List.setIfInBounds_toArray, List.set_cons_zero, List.set_cons_succ])
        (first | (refine wpAnyH_take (i := 4) (v := undef) rfl (by kernel_rfl) (by kernel_rfl) (by kernel_rfl) (fun _ _ _ h => h) (Or.inr ⟨rfl, rfl⟩) (by assumption) ?_) | (refine wpAnyH_take (i := 4) (v := ?_) rfl (by kernel_rfl) (by kernel_rfl) (by kernel_rfl) (fun _ _ _ h => h) (Or.inl ⟨rfl, ?_⟩) (by assumption) ?_; rotate_left 1; · (intro w hSw; (try dsimp only at hSw); go_simp; (try with_reducible rfl)))); (try simp only [Act.put, List.getElem_toArray, List.getElem_cons_zero, List.getElem_cons_succ, List.setIfInBounds_toArray, List.set_cons_zero, List.set_cons_succ])
        (first | (refine wpAnyH_take (i := 5) (v := undef) rfl (by kernel_rfl) (by kernel_rfl) (by kernel_rfl) (fun _ _ _ h => h) (Or.inr ⟨rfl, rfl⟩) (by assumption) ?_) | (refine wpAnyH_take (i := 5) (v := ?_) rfl (by kernel_rfl) (by kernel_rfl) (by kernel_rfl) (fun _ _ _ h => h) (Or.inl ⟨rfl, ?_⟩) (by assumption) ?_; rotate_left 1; · (intro w hSw; (try dsimp only at hSw); go_simp; (try with_reducible rfl)))); (try simp only [Act.put, List.getElem_toArray, List.getElem_cons_zero, List.getElem_cons_succ, List.setIfInBounds_toArray, List.set_cons_zero, List.set_cons_succ])
        (first | (refine wpAnyH_take (i := 6) (v := undef) rfl (by kernel_rfl) (by kernel_rfl) (by kernel_rfl) (fun _ _ _ h => h) (Or.inr ⟨rfl, rfl⟩) (by assumption) ?_) | (refine wpAnyH_take (i := 6) (v := ?_) rfl (by kernel_rfl) (by kernel_rfl) (by kernel_rfl) (fun _ _ _ h => h) (Or.inl ⟨rfl, ?_⟩) (by assumption) ?_; rotate_left 1; · (intro w hSw; (try dsimp only at hSw); go_simp; (try with_reducible rfl)))); (try simp only [Act.put, List.getElem_toArray, List.getElem_cons_zero, List.getElem_cons_succ, List.setIfInBounds_toArray, List.set_cons_zero, List.set_cons_succ])
        (first | (refine wpAnyH_take (i := 7) (v := undef) rfl (by kernel_rfl) (by kernel_rfl) (by kernel_rfl) (fun _ _ _ h => h) (Or.inr ⟨rfl, rfl⟩) (by assumption) ?_) | (refine wpAnyH_take (i := 7) (v := ?_) rfl (by kernel_rfl) (by kernel_rfl) (by kernel_rfl) (fun _ _ _ h => h) (Or.inl ⟨rfl, ?_⟩) (by assumption) ?_; rotate_left 1; · (intro w hSw; (try dsimp only at hSw); go_simp; (try with_reducible rfl)))); (try simp only [Act.put, List.getElem_toArray, List.getElem_cons_zero, List.getElem_cons_succ, List.setIfInBounds_toArray, List.set_cons_zero, List.set_cons_succ])
        (try simp only [hE])
        (first | (refine wpAnyH_take (i := 8) (v := undef) rfl (by kernel_rfl) (by kernel_rfl) (by kernel_rfl) (fun _ _ _ h => h) (Or.inr ⟨rfl, rfl⟩) (by assumption) ?_) | (refine wpAnyH_take (i := 8) (v := ?_) rfl (by kernel_rfl) (by kernel_rfl) (by kernel_rfl) (fun _ _ _ h => h) (Or.inl ⟨rfl, ?_⟩) (by assumption) ?_; rotate_left 1; · (intro w hSw; (try dsimp only at hSw); go_simp; (try with_reducible rfl)))); (try simp only [Act.put, List.getElem_toArray, List.getElem_cons_zero, List.getElem_cons_succ, List.setIfInBounds_toArray, List.set_cons_zero, List.set_cons_succ])
        (first | (refine wpAnyH_take (i := 9) (v := undef) rfl (by kernel_rfl) (by kernel_rfl) (by kernel_rfl) (fun _ _ _ h => h) (Or.inr ⟨rfl, rfl⟩) (by assumption) ?_) | (refine wpAnyH_take (i := 9) (v := ?_) rfl (by kernel_rfl) (by kernel_rfl) (by kernel_rfl) (fun _ _ _ h => h) (Or.inl ⟨rfl, ?_⟩) (by assumption) ?_; rotate_left 1; · (intro w hSw; (try dsimp only at hSw); go_simp; (try with_reducible rfl)))); (try simp only [Act.put, List.getElem_toArray, List.getElem_cons_zero, List.getElem_cons_succ, List.setIfInBounds_toArray, List.set_cons_zero, List.set_cons_succ])
        refine wpAnyH_ready (rs := [10]) (by kernel_rfl) (by simp) ?_; refine AllReadyH.cons rfl (fun K hK => ?_) AllReadyH.nil
        go_simp
        refine hK.out _ _ ((Turn.refl (World.drew w1) none).alloc _) (fun hHeld => ?_); clear hK K; (try simp only [Act.put, List.getElem_toArray, List.getElem_cons_zero, List.getElem_cons_succ, List.setIfInBounds_toArray, List.set_cons_zero, List.set_cons_succ])
        refine wpAnyH_ready (rs := [11]) (by kernel_rfl) (by simp) ?_
        refine AllReadyH.cons rfl (fun K hK => ?_) AllReadyH.nil
        go_simp
        refine (concat_any _ _ _ _ _ _ _ (rows.lit (Nat.le_refl _) 34) (Nat.le_of_eq (by show _ = (w1.heap.push _).size; rw [Array.size_push]; rfl)) HF.out (by show 3 ≤ _; omega)).mono ?_
        rintro e w4 ⟨A4, c4, rfl, ho4, ht4⟩
        have t4 : Turn w1 w4 none := (((Turn.refl (World.drew w1) none).alloc _).trans ht4).undrew
        have s4 : w.heap.size ≤ (World.alloc (World.drew w1) (.cells ([.slice u.A un u.c, .slice (some ⟨g0, un, none⟩) KK (vc - un), .slice A n c] : List Value).toArray 34)).heap.size := by
          show _ ≤ (w1.heap.push _).size
          rw [Array.size_push]
          have := ht1.size
          omega
        refine hK.out _ _ (((Turn.refl (World.drew w1) none).alloc _).trans ht4) (fun hHeld => ?_); clear hK K; (try simp only [Act.put, List.getElem_toArray, List.getElem_cons_zero, List.getElem_cons_succ, List.setIfInBounds_toArray, List.set_cons_zero, List.set_cons_succ])
        (first | (refine wpAnyH_take (i := 12) (v := undef) rfl (by kernel_rfl) (by kernel_rfl) (by kernel_rfl) (fun _ _ _ h => h) (Or.inr ⟨rfl, rfl⟩) (by assumption) ?_) | (refine wpAnyH_take (i := 12) (v := ?_) rfl (by kernel_rfl) (by kernel_rfl) (by kernel_rfl) (fun _ _ _ h => h) (Or.inl ⟨rfl, ?_⟩) (by assumption) ?_; rotate_left 1; · (intro w hSw; (try dsimp only at hSw); go_simp; (try with_reducible rfl)))); (try simp only [Act.put, List.getElem_toArray, List.getElem_cons_zero, List.getElem_cons_succ, List.setIfInBounds_toArray, List.set_cons_zero, List.set_cons_succ])
        refine wpAnyH_done (by kernel_rfl) ?_ _
        refine NoPanic.normal ?_
        clear hHeld
        go_wp2
        go_ret
        have e : [f.fa, f.mo.take KK, t].flatten.length = f.fa.length + (KK + n) := by
          simp only [List.flatten_cons, List.flatten_nil, List.length_append, List.length_nil, hKl, htl]
          omega
        have ho5 := ho4.mono (Nat.zero_le _)
        rw [e] at ho5
        have e3 : [f.fa, f.mo.take KK, t].flatten = f.fa ++ (f.mo.take KK ++ t) := by simp
        rw [e3] at ho5
        exact ⟨⟨A4, f.fa.length + (KK + n), c4⟩, rfl, ho5, fun g hg => .inr ⟨by have h := Nat.le_trans s4 (ho4.block g hg).1; omega, (ho4.block g hg).2⟩, ht1.trans t4⟩
      · subst q3
        have hE : (if (vn : Int) - un < (if (KK : Int) < 0 then 0 else (KK : Int)) then (vn : Int) - un else if (KK : Int) < 0 then 0 else (KK : Int)) = (KK : Int) := by rw [if_neg (by omega : ¬ (KK : Int) < 0), if_neg (by omega)]
        refine wp_region_noPanic ?_
        refine wp_region_held_drew (S := fun W => Turn w1 W none) (by kernel_rfl) (Turn.refl _ none).drew (fun hHeld => ?_)
        refine wpAnyH_more (S' := fun W => Turn (World.drew w1) W none) (fun W h => (Turn.refl _ none).drew.trans h) _ _ _ _ ?_
        clear hHeld
        have hHeld : (fun W => Turn (World.drew w1) W none) (World.drew w1) := Turn.refl _ none
        (first | (refine wpAnyH_take (i := 0) (v := undef) rfl (by kernel_rfl) (by kernel_rfl) (by kernel_rfl) (fun _ _ _ h => h) (Or.inr ⟨rfl, rfl⟩) (by assumption) ?_) | (refine wpAnyH_take (i := 0) (v := ?_) rfl (by kernel_rfl) (by kernel_rfl) (by kernel_rfl) (fun _ _ _ h => h) (Or.inl ⟨rfl, ?_⟩) (by assumption) ?_; rotate_left 1; · (intro w hSw; (try dsimp only at hSw); go_simp; (try with_reducible rfl)))); (try simp only [Act.put, List.getElem_toArray, List.getElem_cons_zero, List.getElem_cons_succ, List.setIfInBounds_toArray, List.set_cons_zero, List.set_cons_succ])
        (first | (refine wpAnyH_take (i := 1) (v := undef) rfl (by kernel_rfl) (by kernel_rfl) (by kernel_rfl) (fun _ _ _ h => h) (Or.inr ⟨rfl, rfl⟩) (by assumption) ?_) | (refine wpAnyH_take (i := 1) (v := ?_) rfl (by kernel_rfl) (by kernel_rfl) (by kernel_rfl) (fun _ _ _ h => h) (Or.inl ⟨rfl, ?_⟩) (by assumption) ?_; rotate_left 1; · (intro w hSw; (try dsimp only at hSw); go_simp; (try with_reducible rfl)))); (try simp only [Act.put, List.getElem_toArray, List.getElem_cons_zero, List.getElem_cons_succ, List.setIfInBounds_toArray, List.set_cons_zero, List.set_cons_succ])
        (first | (refine wpAnyH_take (i := 2) (v := undef) rfl (by kernel_rfl) (by kernel_rfl) (by kernel_rfl) (fun _ _ _ h => h) (Or.inr ⟨rfl, rfl⟩) (by assumption) ?_) | (refine wpAnyH_take (i := 2) (v := ?_) rfl (by kernel_rfl) (by kernel_rfl) (by kernel_rfl) (fun _ _ _ h => h) (Or.inl ⟨rfl, ?_⟩) (by assumption) ?_; rotate_left 1; · (intro w hSw; (try dsimp only at hSw); go_simp; (try with_reducible rfl)))); (try simp only [Act.put, List.getElem_toArray, List.getElem_cons_zero, List.getElem_cons_succ, List.setIfInBounds_toArray, List.set_cons_zero, List.set_cons_succ])
        (first | (refine wpAnyH_take (i := 3) (v := undef) rfl (by kernel_rfl) (by kernel_rfl) (by kernel_rfl) (fun _ _ _ h => h) (Or.inr ⟨rfl, rfl⟩) (by assumption) ?_) | (refine wpAnyH_take (i := 3) (v := ?_) rfl (by kernel_rfl) (by kernel_rfl) (by kernel_rfl) (fun _ _ _ h => h) (Or.inl ⟨rfl, ?_⟩) (by assumption) ?_; rotate_left 1; · (intro w hSw; (try dsimp only at hSw); go_simp; (try with_reducible rfl)))); (try simp only [Act.put, List.getElem_toArray, List.getElem_cons_zero, List.getElem_cons_succ, List.setIfInBounds_toArray, List.set_cons_zero, List.set_cons_succ])
        (first | (refine wpAnyH_take (i := 4) (v := undef) rfl (by kernel_rfl) (by kernel_rfl) (by kernel_rfl) (fun _ _ _ h => h) (Or.inr ⟨rfl, rfl⟩) (by assumption) ?_) | (refine wpAnyH_take (i := 4) (v := ?_) rfl (by kernel_rfl) (by kernel_rfl) (by kernel_rfl) (fun _ _ _ h => h) (Or.inl ⟨rfl, ?_⟩) (by assumption) ?_; rotate_left 1; · (intro w hSw; (try dsimp only at hSw); go_simp; (try with_reducible rfl)))); (try simp only [Act.put, List.getElem_toArray, List.getElem_cons_zero, List.getElem_cons_succ, List.setIfInBounds_toArray, List.set_cons_zero, List.set_cons_succ])
        (first | (refine wpAnyH_take (i := 5) (v := undef) rfl (by kernel_rfl) (by kernel_rfl) (by kernel_rfl) (fun _ _ _ h => h) (Or.inr ⟨rfl, rfl⟩) (by assumption) ?_) | (refine wpAnyH_take (i := 5) (v := ?_) rfl (by kernel_rfl) (by kernel_rfl) (by kernel_rfl) (fun _ _ _ h => h) (Or.inl ⟨rfl, ?_⟩) (by assumption) ?_; rotate_left 1; · (intro w hSw; (try dsimp only at hSw); go_simp; (try with_reducible rfl)))); (try simp only [Act.put, List.getElem_toArray, List.getElem_cons_zero, List.getElem_cons_succ, List.setIfInBounds_toArray, List.set_cons_zero, List.set_cons_succ])
        (first | (refine wpAnyH_take (i := 6) (v := undef) rfl (by kernel_rfl) (by kernel_rfl) (by kernel_rfl) (fun _ _ _ h => h) (Or.inr ⟨rfl, rfl⟩) (by assumption) ?_) | (refine wpAnyH_take (i := 6) (v := ?_) rfl (by kernel_rfl) (by kernel_rfl) (by kernel_rfl) (fun _ _ _ h => h) (Or.inl ⟨rfl, ?_⟩) (by assumption) ?_; rotate_left 1; · (intro w hSw; (try dsimp only at hSw); go_simp; (try with_reducible rfl)))); (try simp only [Act.put, List.getElem_toArray, List.getElem_cons_zero, List.getElem_cons_succ, List.setIfInBounds_toArray, List.set_cons_zero, List.set_cons_succ])
        (first | (refine wpAnyH_take (i := 7) (v := undef) rfl (by kernel_rfl) (by kernel_rfl) (by kernel_rfl) (fun _ _ _ h => h) (Or.inr ⟨rfl, rfl⟩) (by assumption) ?_) | (refine wpAnyH_take (i := 7) (v := ?_) rfl (by kernel_rfl) (by kernel_rfl) (by kernel_rfl) (fun _ _ _ h => h) (Or.inl ⟨rfl, ?_⟩) (by assumption) ?_; rotate_left 1; · (intro w hSw; (try dsimp only at hSw); go_simp; (try with_reducible rfl)))); (try simp only [Act.put, List.getElem_toArray, List.getElem_cons_zero, List.getElem_cons_succ, List.setIfInBounds_toArray, List.set_cons_zero, List.set_cons_succ])
        (try simp only [hE])
        (first | (refine wpAnyH_take (i := 8) (v := undef) rfl (by kernel_rfl) (by kernel_rfl) (by kernel_rfl) (fun _ _ _ h => h) (Or.inr ⟨rfl, rfl⟩) (by assumption) ?_) | (refine wpAnyH_take (i := 8) (v := ?_) rfl (by kernel_rfl) (by kernel_rfl) (by kernel_rfl) (fun _ _ _ h => h) (Or.inl ⟨rfl, ?_⟩) (by assumption) ?_; rotate_left 1; · (intro w hSw; (try dsimp only at hSw); go_simp; (try with_reducible rfl)))); (try simp only [Act.put, List.getElem_toArray, List.getElem_cons_zero, List.getElem_cons_succ, List.setIfInBounds_toArray, List.set_cons_zero, List.set_cons_succ])
        (first | (refine wpAnyH_take (i := 9) (v := undef) rfl (by kernel_rfl) (by kernel_rfl) (by kernel_rfl) (fun _ _ _ h => h) (Or.inr ⟨rfl, rfl⟩) (by assumption) ?_) | (refine wpAnyH_take (i := 9) (v := ?_) rfl (by kernel_rfl) (by kernel_rfl) (by kernel_rfl) (fun _ _ _ h => h) (Or.inl ⟨rfl, ?_⟩) (by assumption) ?_; rotate_left 1; · (intro w hSw; (try dsimp only at hSw); go_simp; (try with_reducible rfl)))); (try simp only [Act.put, List.getElem_toArray, List.getElem_cons_zero, List.getElem_cons_succ, List.setIfInBounds_toArray, List.set_cons_zero, List.set_cons_succ])
        refine wpAnyH_ready (rs := [10]) (by kernel_rfl) (by simp) ?_; refine AllReadyH.cons rfl (fun K hK => ?_) AllReadyH.nil
        go_simp
        refine hK.out _ _ ((Turn.refl (World.drew w1) none).alloc _) (fun hHeld => ?_); clear hK K; (try simp only [Act.put, List.getElem_toArray, List.getElem_cons_zero, List.getElem_cons_succ, List.setIfInBounds_toArray, List.set_cons_zero, List.set_cons_succ])
        refine wpAnyH_ready (rs := [11]) (by kernel_rfl) (by simp) ?_
        refine AllReadyH.cons rfl (fun K hK => ?_) AllReadyH.nil
        go_simp
        refine (concat_any _ _ _ _ _ _ _ (rows.lit (Nat.le_refl _) 34) (Nat.le_of_eq (by show _ = (w1.heap.push _).size; rw [Array.size_push]; rfl)) HF.out (by show 3 ≤ _; omega)).mono ?_
        rintro e w4 ⟨A4, c4, rfl, ho4, ht4⟩
        have t4 : Turn w1 w4 none := (((Turn.refl (World.drew w1) none).alloc _).trans ht4).undrew
        have s4 : w.heap.size ≤ (World.alloc (World.drew w1) (.cells ([.slice u.A un u.c, .slice (some ⟨g0, un, none⟩) KK (vc - un), .slice A n c] : List Value).toArray 34)).heap.size := by
          show _ ≤ (w1.heap.push _).size
          rw [Array.size_push]
          have := ht1.size
          omega
        refine hK.out _ _ (((Turn.refl (World.drew w1) none).alloc _).trans ht4) (fun hHeld => ?_); clear hK K; (try simp only [Act.put, List.getElem_toArray, List.getElem_cons_zero, List.getElem_cons_succ, List.setIfInBounds_toArray, List.set_cons_zero, List.set_cons_succ])
        (first | (refine wpAnyH_take (i := 12) (v := undef) rfl (by kernel_rfl) (by kernel_rfl) (by kernel_rfl) (fun _ _ _ h => h) (Or.inr ⟨rfl, rfl⟩) (by assumption) ?_) | (refine wpAnyH_take (i := 12) (v := ?_) rfl (by kernel_rfl) (by kernel_rfl) (by kernel_rfl) (fun _ _ _ h => h) (Or.inl ⟨rfl, ?_⟩) (by assumption) ?_; rotate_left 1; · (intro w hSw; (try dsimp only at hSw); go_simp; (try with_reducible rfl)))); (try simp only [Act.put, List.getElem_toArray, List.getElem_cons_zero, List.getElem_cons_succ, List.setIfInBounds_toArray, List.set_cons_zero, List.set_cons_succ])
        refine wpAnyH_done (by kernel_rfl) ?_ _
        refine NoPanic.normal ?_
        clear hHeld
        go_wp2
        go_ret
        have e : [f.fa, f.mo.take KK, t].flatten.length = f.fa.length + (KK + n) := by
          simp only [List.flatten_cons, List.flatten_nil, List.length_append, List.length_nil, hKl, htl]
          omega
        have ho5 := ho4.mono (Nat.zero_le _)
        rw [e] at ho5
        have e3 : [f.fa, f.mo.take KK, t].flatten = f.fa ++ (f.mo.take KK ++ t) := by simp
        rw [e3] at ho5
        exact ⟨⟨A4, f.fa.length + (KK + n), c4⟩, rfl, ho5, fun g hg => .inr ⟨by have h := Nat.le_trans s4 (ho4.block g hg).1; omega, (ho4.block g hg).2⟩, ht1.trans t4⟩
      · have hE : (vn : Int) - un = (KK : Int) := by omega
        have q4 : (KK : Int) < keep := by omega
        clear q2 q3
        refine wp_region_noPanic ?_
        refine wp_region_held_drew (S := fun W => Turn w1 W none) (by kernel_rfl) (Turn.refl _ none).drew (fun hHeld => ?_)
        refine wpAnyH_more (S' := fun W => Turn (World.drew w1) W none) (fun W h => (Turn.refl _ none).drew.trans h) _ _ _ _ ?_
        clear hHeld
        have hHeld : (fun W => Turn (World.drew w1) W none) (World.drew w1) := Turn.refl _ none
        (first | (refine wpAnyH_take (i := 0) (v := undef) rfl (by kernel_rfl) (by kernel_rfl) (by kernel_rfl) (fun _ _ _ h => h) (Or.inr ⟨rfl, rfl⟩) (by assumption) ?_) | (refine wpAnyH_take (i := 0) (v := ?_) rfl (by kernel_rfl) (by kernel_rfl) (by kernel_rfl) (fun _ _ _ h => h) (Or.inl ⟨rfl, ?_⟩) (by assumption) ?_; rotate_left 1; · (intro w hSw; (try dsimp only at hSw); go_simp; (try with_reducible rfl)))); (try simp only [Act.put, List.getElem_toArray, List.getElem_cons_zero, List.getElem_cons_succ, List.setIfInBounds_toArray, List.set_cons_zero, List.set_cons_succ])
        (first | (refine wpAnyH_take (i := 1) (v := undef) rfl (by kernel_rfl) (by kernel_rfl) (by kernel_rfl) (fun _ _ _ h => h) (Or.inr ⟨rfl, rfl⟩) (by assumption) ?_) | (refine wpAnyH_take (i := 1) (v := ?_) rfl (by kernel_rfl) (by kernel_rfl) (by kernel_rfl) (fun _ _ _ h => h) (Or.inl ⟨rfl, ?_⟩) (by assumption) ?_; rotate_left 1; · (intro w hSw; (try dsimp only at hSw); go_simp; (try with_reducible rfl)))); (try simp only [Act.put, List.getElem_toArray, List.getElem_cons_zero, List.getElem_cons_succ, List.setIfInBounds_toArray, List.set_cons_zero, List.set_cons_succ])
        (first | (refine wpAnyH_take (i := 2) (v := undef) rfl (by kernel_rfl) (by kernel_rfl) (by kernel_rfl) (fun _ _ _ h => h) (Or.inr ⟨rfl, rfl⟩) (by assumption) ?_) | (refine wpAnyH_take (i := 2) (v := ?_) rfl (by kernel_rfl) (by kernel_rfl) (by kernel_rfl) (fun _ _ _ h => h) (Or.inl ⟨rfl, ?_⟩) (by assumption) ?_; rotate_left 1; · (intro w hSw; (try dsimp only at hSw); go_simp; (try with_reducible rfl)))); (try simp only [Act.put, List.getElem_toArray, List.getElem_cons_zero, List.getElem_cons_succ, List.setIfInBounds_toArray, List.set_cons_zero, List.set_cons_succ])
        (first | (refine wpAnyH_take (i := 3) (v := undef) rfl (by kernel_rfl) (by kernel_rfl) (by kernel_rfl) (fun _ _ _ h => h) (Or.inr ⟨rfl, rfl⟩) (by assumption) ?_) | (refine wpAnyH_take (i := 3) (v := ?_) rfl (by kernel_rfl) (by kernel_rfl) (by kernel_rfl) (fun _ _ _ h => h) (Or.inl ⟨rfl, ?_⟩) (by assumption) ?_; rotate_left 1; · (intro w hSw; (try dsimp only at hSw); go_simp; (try with_reducible rfl)))); (try simp only [Act.put, List.getElem_toArray, List.getElem_cons_zero, List.getElem_cons_succ, List.setIfInBounds_toArray, List.set_cons_zero, List.set_cons_succ])
        (first | (refine wpAnyH_take (i := 4) (v := undef) rfl (by kernel_rfl) (by kernel_rfl) (by kernel_rfl) (fun _ _ _ h => h) (Or.inr ⟨rfl, rfl⟩) (by assumption) ?_) | (refine wpAnyH_take (i := 4) (v := ?_) rfl (by kernel_rfl) (by kernel_rfl) (by kernel_rfl) (fun _ _ _ h => h) (Or.inl ⟨rfl, ?_⟩) (by assumption) ?_; rotate_left 1; · (intro w hSw; (try dsimp only at hSw); go_simp; (try with_reducible rfl)))); (try simp only [Act.put, List.getElem_toArray, List.getElem_cons_zero, List.getElem_cons_succ, List.setIfInBounds_toArray, List.set_cons_zero, List.set_cons_succ])
        (first | (refine wpAnyH_take (i := 5) (v := undef) rfl (by kernel_rfl) (by kernel_rfl) (by kernel_rfl) (fun _ _ _ h => h) (Or.inr ⟨rfl, rfl⟩) (by assumption) ?_) | (refine wpAnyH_take (i := 5) (v := ?_) rfl (by kernel_rfl) (by kernel_rfl) (by kernel_rfl) (fun _ _ _ h => h) (Or.inl ⟨rfl, ?_⟩) (by assumption) ?_; rotate_left 1; · (intro w hSw; (try dsimp only at hSw); go_simp; (try with_reducible rfl)))); (try simp only [Act.put, List.getElem_toArray, List.getElem_cons_zero, List.getElem_cons_succ, List.setIfInBounds_toArray, List.set_cons_zero, List.set_cons_succ])
        (first | (refine wpAnyH_take (i := 6) (v := undef) rfl (by kernel_rfl) (by kernel_rfl) (by kernel_rfl) (fun _ _ _ h => h) (Or.inr ⟨rfl, rfl⟩) (by assumption) ?_) | (refine wpAnyH_take (i := 6) (v := ?_) rfl (by kernel_rfl) (by kernel_rfl) (by kernel_rfl) (fun _ _ _ h => h) (Or.inl ⟨rfl, ?_⟩) (by assumption) ?_; rotate_left 1; · (intro w hSw; (try dsimp only at hSw); go_simp; (try with_reducible rfl)))); (try simp only [Act.put, List.getElem_toArray, List.getElem_cons_zero, List.getElem_cons_succ, List.setIfInBounds_toArray, List.set_cons_zero, List.set_cons_succ])
        (first | (refine wpAnyH_take (i := 7) (v := undef) rfl (by kernel_rfl) (by kernel_rfl) (by kernel_rfl) (fun _ _ _ h => h) (Or.inr ⟨rfl, rfl⟩) (by assumption) ?_) | (refine wpAnyH_take (i := 7) (v := ?_) rfl (by kernel_rfl) (by kernel_rfl) (by kernel_rfl) (fun _ _ _ h => h) (Or.inl ⟨rfl, ?_⟩) (by assumption) ?_; rotate_left 1; · (intro w hSw; (try dsimp only at hSw); go_simp; (try with_reducible rfl)))); (try simp only [Act.put, List.getElem_toArray, List.getElem_cons_zero, List.getElem_cons_succ, List.setIfInBounds_toArray, List.set_cons_zero, List.set_cons_succ])
        (try simp only [hE])
        (first | (refine wpAnyH_take (i := 8) (v := undef) rfl (by kernel_rfl) (by kernel_rfl) (by kernel_rfl) (fun _ _ _ h => h) (Or.inr ⟨rfl, rfl⟩) (by assumption) ?_) | (refine wpAnyH_take (i := 8) (v := ?_) rfl (by kernel_rfl) (by kernel_rfl) (by kernel_rfl) (fun _ _ _ h => h) (Or.inl ⟨rfl, ?_⟩) (by assumption) ?_; rotate_left 1; · (intro w hSw; (try dsimp only at hSw); go_simp; (try with_reducible rfl)))); (try simp only [Act.put, List.getElem_toArray, List.getElem_cons_zero, List.getElem_cons_succ, List.setIfInBounds_toArray, List.set_cons_zero, List.set_cons_succ])
        (first | (refine wpAnyH_take (i := 9) (v := undef) rfl (by kernel_rfl) (by kernel_rfl) (by kernel_rfl) (fun _ _ _ h => h) (Or.inr ⟨rfl, rfl⟩) (by assumption) ?_) | (refine wpAnyH_take (i := 9) (v := ?_) rfl (by kernel_rfl) (by kernel_rfl) (by kernel_rfl) (fun _ _ _ h => h) (Or.inl ⟨rfl, ?_⟩) (by assumption) ?_; rotate_left 1; · (intro w hSw; (try dsimp only at hSw); go_simp; (try with_reducible rfl)))); (try simp only [Act.put, List.getElem_toArray, List.getElem_cons_zero, List.getElem_cons_succ, List.setIfInBounds_toArray, List.set_cons_zero, List.set_cons_succ])
        refine wpAnyH_ready (rs := [10]) (by kernel_rfl) (by simp) ?_; refine AllReadyH.cons rfl (fun K hK => ?_) AllReadyH.nil
        go_simp
        refine hK.out _ _ ((Turn.refl (World.drew w1) none).alloc _) (fun hHeld => ?_); clear hK K; (try simp only [Act.put, List.getElem_toArray, List.getElem_cons_zero, List.getElem_cons_succ, List.setIfInBounds_toArray, List.set_cons_zero, List.set_cons_succ])
        refine wpAnyH_ready (rs := [11]) (by kernel_rfl) (by simp) ?_
        refine AllReadyH.cons rfl (fun K hK => ?_) AllReadyH.nil
        go_simp
        refine (concat_any _ _ _ _ _ _ _ (rows.lit (Nat.le_refl _) 34) (Nat.le_of_eq (by show _ = (w1.heap.push _).size; rw [Array.size_push]; rfl)) HF.out (by show 3 ≤ _; omega)).mono ?_
        rintro e w4 ⟨A4, c4, rfl, ho4, ht4⟩
        have t4 : Turn w1 w4 none := (((Turn.refl (World.drew w1) none).alloc _).trans ht4).undrew
        have s4 : w.heap.size ≤ (World.alloc (World.drew w1) (.cells ([.slice u.A un u.c, .slice (some ⟨g0, un, none⟩) KK (vc - un), .slice A n c] : List Value).toArray 34)).heap.size := by
          show _ ≤ (w1.heap.push _).size
          rw [Array.size_push]
          have := ht1.size
          omega
        refine hK.out _ _ (((Turn.refl (World.drew w1) none).alloc _).trans ht4) (fun hHeld => ?_); clear hK K; (try simp only [Act.put, List.getElem_toArray, List.getElem_cons_zero, List.getElem_cons_succ, List.setIfInBounds_toArray, List.set_cons_zero, List.set_cons_succ])
        (first | (refine wpAnyH_take (i := 12) (v := undef) rfl (by kernel_rfl) (by kernel_rfl) (by kernel_rfl) (fun _ _ _ h => h) (Or.inr ⟨rfl, rfl⟩) (by assumption) ?_) | (refine wpAnyH_take (i := 12) (v := ?_) rfl (by kernel_rfl) (by kernel_rfl) (by kernel_rfl) (fun _ _ _ h => h) (Or.inl ⟨rfl, ?_⟩) (by assumption) ?_; rotate_left 1; · (intro w hSw; (try dsimp only at hSw); go_simp; (try with_reducible rfl)))); (try simp only [Act.put, List.getElem_toArray, List.getElem_cons_zero, List.getElem_cons_succ, List.setIfInBounds_toArray, List.set_cons_zero, List.set_cons_succ])
        refine wpAnyH_done (by kernel_rfl) ?_ _
        refine NoPanic.normal ?_
        clear hHeld
        go_wp2
        go_ret
        have e : [f.fa, f.mo.take KK, t].flatten.length = f.fa.length + (KK + n) := by
          simp only [List.flatten_cons, List.flatten_nil, List.length_append, List.length_nil, hKl, htl]
          omega
        have ho5 := ho4.mono (Nat.zero_le _)
        rw [e] at ho5
        have e3 : [f.fa, f.mo.take KK, t].flatten = f.fa ++ (f.mo.take KK ++ t) := by simp
        rw [e3] at ho5
        exact ⟨⟨A4, f.fa.length + (KK + n), c4⟩, rfl, ho5, fun g hg => .inr ⟨by have h := Nat.le_trans s4 (ho4.block g hg).1; omega, (ho4.block g hg).2⟩, ht1.trans t4⟩

end Go.Proofs.Ytjekglnbmccnjaa
