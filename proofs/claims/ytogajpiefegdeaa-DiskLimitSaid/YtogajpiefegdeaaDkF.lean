/-
  Layer 14: Write and Replace (contracts of the code).
-/
import Derived.Test.YtogajpiefegdeaaDkE
namespace Go.Proofs.Ytogajpiefegdeaa
set_option linter.unusedSimpArgs false
set_option linter.unusedVariables false
open Go.RowKit

theorem Fil.app {w w' : World} {R : Nat → Prop} {f : Fi} {v u : Sl} (h : Fil w R f v u) (hlt : ∀ k, R k → k < w.heap.size) {A' : Option Addr} {c2 m : Nat} {b : List UInt8} (hO : Own w' 0 5 1 A' (v.n + m) c2 (vbs f.all ++ vbs b))
    (hc : (A' = v.A ∧ c2 = v.c ∧ Turn w w' (blk v.A)) ∨ (blk A' = some w.heap.size ∧ Turn w w' none)) :
    Fil w' (fun k => R k ∨ (w.heap.size ≤ k ∧ k < w'.heap.size)) { f with mo := f.mo ++ b } ⟨A', v.n + m, c2⟩ u ∧ Chg w w' R := by
  have e : vbs f.all ++ vbs b = vbs ({ f with mo := f.mo ++ b } : Fi).all := by rw [all_mo, vbs_append]
  rw [e] at hO
  rcases hc with ⟨rfl, rfl, ht⟩ | ⟨hb, ht⟩
  · refine ⟨⟨hO, ?_, fun g hg => .inl (h.sv g hg), fun g hg => .inl (h.su g hg), fun g hg hg2 => ?_⟩, Chg.of ht fun i hi => h.sv i hi⟩
    · by_cases hs : ∃ g, blk v.A = some g ∧ blk u.A = some g
      · obtain ⟨g, g1, g2⟩ := hs
        obtain ⟨ea, ec⟩ := h.hv.one_ h.hu g1 g2
        obtain ⟨r, hr⟩ := h.pre g g1 g2
        have hun := h.un
        have hvn := h.vn
        have hl := congrArg List.length hr
        rw [List.length_append] at hl
        have hO : Own w' 0 5 1 v.A (v.n + m) v.c (vbs ({ f with mo := f.mo ++ b } : Fi).all) := hO
        have h2 := hO.front (A2 := none) (c2 := 0) (k := u.n) (by omega)
        rw [all_mo, ← hr, List.append_assoc, vbs_take, hun, List.take_left] at h2
        rw [ea, ec, hun]
        exact h2
      · refine h.hu.turn ht ?_
        cases hv : blk v.A with
        | none => exact .inl rfl
        | some g => exact .inr fun e => hs ⟨g, hv, e⟩
    · have hp := h.pre g hg hg2
      rw [all_mo]
      exact hp.trans (List.prefix_append _ _)
  · have hlt2 : w.heap.size < w'.heap.size := (hO.block _ hb).2
    refine ⟨⟨hO, h.hu.turn0 ht, fun g hg => .inr ?_, fun g hg => .inl (h.su g hg), fun g hg hg2 => ?_⟩, Chg.of0 ht _⟩
    · have hg : blk A' = some g := hg
      rw [hb] at hg
      injection hg with hg
      omega
    · have hg : blk A' = some g := hg
      rw [hb] at hg
      injection hg with hg
      have := hlt g (h.su g hg2)
      omega

set_option maxRecDepth 100000 in
set_option maxHeartbeats 3200000 in
theorem write_any {w : World} {g : Nat} {R : Nat → Prop} {D : Dsk} (h : Pk w g R D) (n : Int) (A : Option Addr) (m c B : Nat) (b : List UInt8) (hr : Rd w B 1 A m (vbs b)) (hB : B ≤ w.heap.size) (hm : m ≤ 140737488355328) (hA : ∀ k, blk A = some k → 0 < m → ¬ R k) :
    Calls Try.prog 15 #[.pointer (some ⟨g, 0, none⟩), .int .i64 n, .slice A m c] w fun e w' => e = .returned (.int .i64 (D.wErr n b)) ∧ Stp w w' R g (D.wr n b) := by
  obtain ⟨S, v, u, lv, hp, hR⟩ := h
  have hcl := call_any hp n
  have hml := hr.len
  rw [vbs_len] at hml
  have hgA : blk A = some g → 0 < m → False := fun e hp => hA g e hp ((hR g).1 (.inl rfl))
  rcases cErr_cases D n with ⟨he, j, hj, rfl⟩ | he | he
  · rw [he] at hcl
    have hvb : (v j).n ≤ 140737521909760 := by
      have h2 := (hp.ok.f j hj).all
      have h3 := (hp.f j hj).vn
      omega
    have hwE : D.wErr (j : Int) b = if D.lim < (D.size : Int) + m then 8 else 0 := by unfold Dsk.wErr; rw [if_pos he, hml]
    have hf1 : D.cnt.f = D.f := D.cnt_f
    have hs1 : D.cnt.size = D.size := by unfold Dsk.size; rw [hf1]
    have hfit : ∀ lv1 W, PD W g S v u lv1 D.cnt → Calls Try.prog 30 #[.pointer (some ⟨g, 0, none⟩), .agg (fc (D.f j) (v j) (u j)).toArray, .int .i64 (((v j).n : Int) + (m : Int))] W fun e w' => e = .returned (.bool (decide ((D.size : Int) + m ≤ D.lim))) ∧ Turn W w' none := by
      intro lv1 W hW
      have h2 := fits_any hW (D.f j) (v j) (u j) ((v j).n + m) hvb (by omega)
      rw [Int.natCast_add, hs1, D.cnt_lim] at h2
      have e : (D.size : Int) - (v j).n + (((v j).n : Int) + m) = (D.size : Int) + m := by omega
      rw [e] at h2
      exact h2
    by_cases hfull : D.lim < (D.size : Int) + m
    · have hwr : D.wr (j : Int) b = D.cnt := by unfold Dsk.wr; rw [hwE, if_pos hfull]; rfl
      rw [hwr, hwE, if_pos hfull]
      have hd : decide ((D.size : Int) + m ≤ D.lim) = false := decide_eq_false (by omega)
      rw [hd] at hfit
      clear hwE hwr hd he hfull
      have hrj := fun lv1 W (hW : PD W g S v u lv1 D.cnt) => rangeJ hW hj
      rw [hf1] at hrj
      clear hs1 hml hf1
      obtain rfl | rfl : j = 0 ∨ j = 1 := by omega
      all_goals
        go_enter Try.func15, Try.ntmps15
        go_wp2_with (first
          | (go_at_call 29; refine hcl.mono ?_; rintro e w1 ⟨rfl, t1, lv1, h1⟩; have hc1 := hrj _ _ h1)
          | (refine gd_ldR (by rfl) 53 _ rfl rfl hc1 Try.underlying53 rfl szC ?_)
          | (refine wp_st (xs := fc (D.f _) (v _) (u _)) rfl 53 _ _ rfl rfl rfl (Blk.new w1 _ _) rfl szC (ones3 rfl rfl rfl) ?_; intro w3 hb3 ht3; have t3 := ((Turn.refl w1 none).alloc _).new ht3 (by simp); have hsl : ∀ x : Sl, x.v = .slice x.A x.n x.c := fun _ => rfl; have c0 := hb3.ats (j := 0) rfl)
          | (refine wp_ld rfl 53 _ rfl rfl hb3 (Sub.all _) Try.underlying53 rfl szC ?_)
          | (go_at_call 30; refine (hfit _ _ (h1.turn0 t3)).mono ?_; rintro e w4 ⟨rfl, t4⟩))
        go_ret
        exact ⟨rfl, (h1.turn0 (t3.trans t4)).no (t1.trans ((t3.trans t4).any _)) hR⟩
    · have hwr : D.wr (j : Int) b = D.cnt.put j { D.f j with mo := (D.f j).mo ++ b } := by unfold Dsk.wr; rw [hwE, if_neg hfull, if_pos rfl, Int.toNat_natCast]
      have hok := (hp.ok.wr (j : Int) b).f j hj
      rw [hwr, hwE, if_neg hfull]
      have hd : decide ((D.size : Int) + m ≤ D.lim) = true := decide_eq_true (by omega)
      rw [hd] at hfit
      have hl1 := hp.ok.l1
      have hvm : (v j).n + m ≤ 16777216 := by
        have h2 := D.size_ge hj
        have h3 := (hp.f j hj).vn
        omega
      rw [hwr] at hok
      have hok : ({ D.f j with mo := (D.f j).mo ++ b } : Fi).Ok := by
        have e : (D.cnt.put j { D.f j with mo := (D.f j).mo ++ b }).f j = { D.f j with mo := (D.f j).mo ++ b } := upd_same _ _ _
        rw [e] at hok
        exact hok
      clear hwE hwr hd he hfull hl1
      have hrj := fun lv1 W (hW : PD W g S v u lv1 D.cnt) => rangeJ hW hj
      rw [hf1] at hrj
      have fin : ∀ lv1 w1 w4 w5 w6 A' c2, PD w1 g S v u lv1 D.cnt → Turn w w1 (some g) → Turn w1 w4 none → Own w5 0 5 1 A' ((v j).n + m) c2 (vbs (D.f j).all ++ vbs b) → ((A' = (v j).A ∧ c2 = (v j).c ∧ Turn w4 w5 (blk (v j).A)) ∨ (blk A' = some w4.heap.size ∧ Turn w4 w5 none)) → Turn w5 w6 (some g) →
          Blk w6 g 56 (((((pdc D.cnt v u lv1).set (1 + j * 3) (.slice A' ((v j).n + m) c2)).set (1 + j * 3 + 1) (u j).v).set (1 + j * 3 + 2) (.bool (D.f j).is))).toArray → Stp w w6 R g (D.cnt.put j { D.f j with mo := (D.f j).mo ++ b }) := by
        intro lv1 w1 w4 w5 w6 A' c2 h1 t1 t4 hO hc t6 hb6
        have hf := (h1.turn0 t4).f j hj
        rw [hf1] at hf
        have hlt := fun k hk => (h1.turn0 t4).lt j k hj hk
        obtain ⟨k1, k2⟩ := hf.app hlt hO hc
        have s4 := t4.size
        refine h1.yes (v := ⟨A', (v j).n + m, c2⟩) t1 hR hj ((Chg.of0 t4 (S j)).trans k2 fun i hi => .inl hi) t6 hb6 k1 (fun k hk => hk.imp id fun h => ⟨by omega, h.2⟩) hok
      clear hs1 hml
      obtain rfl | rfl : j = 0 ∨ j = 1 := by omega
      all_goals
        go_enter Try.func15, Try.ntmps15
        go_wp2_with (first
          | (go_at_call 29; refine hcl.mono ?_; rintro e w1 ⟨rfl, t1, lv1, h1⟩; have hc1 := hrj _ _ h1)
          | (refine gd_ldR (by rfl) 53 _ rfl rfl hc1 Try.underlying53 rfl szC ?_)
          | (refine wp_st (xs := fc (D.f _) (v _) (u _)) rfl 53 _ _ rfl rfl rfl (Blk.new w1 _ _) rfl szC (ones3 rfl rfl rfl) ?_; intro w3 hb3 ht3; have t3 := ((Turn.refl w1 none).alloc _).new ht3 (by simp); have hsl : ∀ x : Sl, x.v = .slice x.A x.n x.c := fun _ => rfl; have c0 := hb3.ats (j := 0) rfl)
          | (refine wp_ld rfl 53 _ rfl rfl hb3 (Sub.all _) Try.underlying53 rfl szC ?_)
          | (go_at_call 30; refine (hfit _ _ (h1.turn0 t3)).mono ?_; rintro e w4 ⟨rfl, t4⟩))
        have T4 := t3.trans t4
        have h4 := h1.turn0 T4
        have hb4 := hb3.turn0 t4
        have s1 := t1.size
        have hgR : ∀ i, i < 2 → ¬ S i w1.heap.size := fun i hi e => by have := hp.lt i _ hi e; omega
        have hr4 := ((hr.ne0 hB t1 hgA).turn0 T4 (Nat.le_trans hB s1))
        have hfj := h4.f _ hj
        rw [hf1] at hfj
      · have C : ∀ W, Blk W w1.heap.size 53 (fc (D.f 0) (v 0) (u 0)).toArray → W.cell? ⟨w1.heap.size, 0, none⟩ = some (.slice (v 0).A (v 0).n (v 0).c) ∧ W.cell? ⟨w1.heap.size, 1, none⟩ = some (.slice (u 0).A (u 0).n (u 0).c) ∧ W.cell? ⟨w1.heap.size, 2, none⟩ = some (.bool (D.f 0).is) := fun W h => ⟨h.ats (j := 0) rfl, h.ats (j := 1) rfl, h.ats (j := 2) rfl⟩
        refine wp_region_noPanic ?_
        refine wp_region_held_drew (S := (fun W => W.cell? ⟨w1.heap.size, 0, none⟩ = some (.slice (v 0).A (v 0).n (v 0).c) ∧ W.cell? ⟨w1.heap.size, 1, none⟩ = some (.slice (u 0).A (u 0).n (u 0).c) ∧ W.cell? ⟨w1.heap.size, 2, none⟩ = some (.bool (D.f 0).is))) (by kernel_rfl) (C _ hb4.drew) (fun hHeld => ?_)
        (first | (refine wpAnyH_take (i := 0) (v := undef) rfl (by kernel_rfl) (by kernel_rfl) (by kernel_rfl) (fun _ _ _ h => h) (Or.inr ⟨rfl, rfl⟩) (by assumption) ?_) | (refine wpAnyH_take (i := 0) (v := ?_) rfl (by kernel_rfl) (by kernel_rfl) (by kernel_rfl) (fun _ _ _ h => h) (Or.inl ⟨rfl, ?_⟩) (by assumption) ?_; rotate_left 1; · (intro w hSw; (try dsimp only at hSw); go_simp; (try with_reducible rfl)))); (try simp only [Act.put, List.getElem_toArray, List.getElem_cons_zero, List.getElem_cons_succ, List.setIfInBounds_toArray, List.set_cons_zero, List.set_cons_succ])
        (first | (refine wpAnyH_take (i := 1) (v := undef) rfl (by kernel_rfl) (by kernel_rfl) (by kernel_rfl) (fun _ _ _ h => h) (Or.inr ⟨rfl, rfl⟩) (by assumption) ?_) | (refine wpAnyH_take (i := 1) (v := ?_) rfl (by kernel_rfl) (by kernel_rfl) (by kernel_rfl) (fun _ _ _ h => h) (Or.inl ⟨rfl, ?_⟩) (by assumption) ?_; rotate_left 1; · (intro w hSw; (try dsimp only at hSw); go_simp; (try with_reducible rfl)))); (try simp only [Act.put, List.getElem_toArray, List.getElem_cons_zero, List.getElem_cons_succ, List.setIfInBounds_toArray, List.set_cons_zero, List.set_cons_succ])
        (first | (refine wpAnyH_take (i := 2) (v := undef) rfl (by kernel_rfl) (by kernel_rfl) (by kernel_rfl) (fun _ _ _ h => h) (Or.inr ⟨rfl, rfl⟩) (by assumption) ?_) | (refine wpAnyH_take (i := 2) (v := ?_) rfl (by kernel_rfl) (by kernel_rfl) (by kernel_rfl) (fun _ _ _ h => h) (Or.inl ⟨rfl, ?_⟩) (by assumption) ?_; rotate_left 1; · (intro w hSw; (try dsimp only at hSw); go_simp; (try with_reducible rfl)))); (try simp only [Act.put, List.getElem_toArray, List.getElem_cons_zero, List.getElem_cons_succ, List.setIfInBounds_toArray, List.set_cons_zero, List.set_cons_succ])
        (first | (refine wpAnyH_take (i := 3) (v := undef) rfl (by kernel_rfl) (by kernel_rfl) (by kernel_rfl) (fun _ _ _ h => h) (Or.inr ⟨rfl, rfl⟩) (by assumption) ?_) | (refine wpAnyH_take (i := 3) (v := ?_) rfl (by kernel_rfl) (by kernel_rfl) (by kernel_rfl) (fun _ _ _ h => h) (Or.inl ⟨rfl, ?_⟩) (by assumption) ?_; rotate_left 1; · (intro w hSw; (try dsimp only at hSw); go_simp; (try with_reducible rfl)))); (try simp only [Act.put, List.getElem_toArray, List.getElem_cons_zero, List.getElem_cons_succ, List.setIfInBounds_toArray, List.set_cons_zero, List.set_cons_succ])
        (first | (refine wpAnyH_take (i := 4) (v := undef) rfl (by kernel_rfl) (by kernel_rfl) (by kernel_rfl) (fun _ _ _ h => h) (Or.inr ⟨rfl, rfl⟩) (by assumption) ?_) | (refine wpAnyH_take (i := 4) (v := ?_) rfl (by kernel_rfl) (by kernel_rfl) (by kernel_rfl) (fun _ _ _ h => h) (Or.inl ⟨rfl, ?_⟩) (by assumption) ?_; rotate_left 1; · (intro w hSw; (try dsimp only at hSw); go_simp; (try with_reducible rfl)))); (try simp only [Act.put, List.getElem_toArray, List.getElem_cons_zero, List.getElem_cons_succ, List.setIfInBounds_toArray, List.set_cons_zero, List.set_cons_succ])
        (first | (refine wpAnyH_take (i := 6) (v := undef) rfl (by kernel_rfl) (by kernel_rfl) (by kernel_rfl) (fun _ _ _ h => h) (Or.inr ⟨rfl, rfl⟩) (by assumption) ?_) | (refine wpAnyH_take (i := 6) (v := ?_) rfl (by kernel_rfl) (by kernel_rfl) (by kernel_rfl) (fun _ _ _ h => h) (Or.inl ⟨rfl, ?_⟩) (by assumption) ?_; rotate_left 1; · (intro w hSw; (try dsimp only at hSw); go_simp; (try with_reducible rfl)))); (try simp only [Act.put, List.getElem_toArray, List.getElem_cons_zero, List.getElem_cons_succ, List.setIfInBounds_toArray, List.set_cons_zero, List.set_cons_succ])
        (first | (refine wpAnyH_take (i := 7) (v := undef) rfl (by kernel_rfl) (by kernel_rfl) (by kernel_rfl) (fun _ _ _ h => h) (Or.inr ⟨rfl, rfl⟩) (by assumption) ?_) | (refine wpAnyH_take (i := 7) (v := ?_) rfl (by kernel_rfl) (by kernel_rfl) (by kernel_rfl) (fun _ _ _ h => h) (Or.inl ⟨rfl, ?_⟩) (by assumption) ?_; rotate_left 1; · (intro w hSw; (try dsimp only at hSw); go_simp; (try with_reducible rfl)))); (try simp only [Act.put, List.getElem_toArray, List.getElem_cons_zero, List.getElem_cons_succ, List.setIfInBounds_toArray, List.set_cons_zero, List.set_cons_succ])
        (first | (refine wpAnyH_take (i := 8) (v := undef) rfl (by kernel_rfl) (by kernel_rfl) (by kernel_rfl) (fun _ _ _ h => h) (Or.inr ⟨rfl, rfl⟩) (by assumption) ?_) | (refine wpAnyH_take (i := 8) (v := ?_) rfl (by kernel_rfl) (by kernel_rfl) (by kernel_rfl) (fun _ _ _ h => h) (Or.inl ⟨rfl, ?_⟩) (by assumption) ?_; rotate_left 1; · (intro w hSw; (try dsimp only at hSw); go_simp; (try with_reducible rfl)))); (try simp only [Act.put, List.getElem_toArray, List.getElem_cons_zero, List.getElem_cons_succ, List.setIfInBounds_toArray, List.set_cons_zero, List.set_cons_succ])
        (first | (refine wpAnyH_take (i := 9) (v := undef) rfl (by kernel_rfl) (by kernel_rfl) (by kernel_rfl) (fun _ _ _ h => h) (Or.inr ⟨rfl, rfl⟩) (by assumption) ?_) | (refine wpAnyH_take (i := 9) (v := ?_) rfl (by kernel_rfl) (by kernel_rfl) (by kernel_rfl) (fun _ _ _ h => h) (Or.inl ⟨rfl, ?_⟩) (by assumption) ?_; rotate_left 1; · (intro w hSw; (try dsimp only at hSw); go_simp; (try with_reducible rfl)))); (try simp only [Act.put, List.getElem_toArray, List.getElem_cons_zero, List.getElem_cons_succ, List.setIfInBounds_toArray, List.set_cons_zero, List.set_cons_succ])
        (first | (refine wpAnyH_take (i := 11) (v := undef) rfl (by kernel_rfl) (by kernel_rfl) (by kernel_rfl) (fun _ _ _ h => h) (Or.inr ⟨rfl, rfl⟩) (by assumption) ?_) | (refine wpAnyH_take (i := 11) (v := ?_) rfl (by kernel_rfl) (by kernel_rfl) (by kernel_rfl) (fun _ _ _ h => h) (Or.inl ⟨rfl, ?_⟩) (by assumption) ?_; rotate_left 1; · (intro w hSw; (try dsimp only at hSw); go_simp; (try with_reducible rfl)))); (try simp only [Act.put, List.getElem_toArray, List.getElem_cons_zero, List.getElem_cons_succ, List.setIfInBounds_toArray, List.set_cons_zero, List.set_cons_succ])
        (first | (refine wpAnyH_take (i := 12) (v := undef) rfl (by kernel_rfl) (by kernel_rfl) (by kernel_rfl) (fun _ _ _ h => h) (Or.inr ⟨rfl, rfl⟩) (by assumption) ?_) | (refine wpAnyH_take (i := 12) (v := ?_) rfl (by kernel_rfl) (by kernel_rfl) (by kernel_rfl) (fun _ _ _ h => h) (Or.inl ⟨rfl, ?_⟩) (by assumption) ?_; rotate_left 1; · (intro w hSw; (try dsimp only at hSw); go_simp; (try with_reducible rfl)))); (try simp only [Act.put, List.getElem_toArray, List.getElem_cons_zero, List.getElem_cons_succ, List.setIfInBounds_toArray, List.set_cons_zero, List.set_cons_succ])
        refine wpAnyH_ready (rs := [5]) (by kernel_rfl) (by simp) ?_; refine AllReadyH.cons rfl (fun K hK => ?_) AllReadyH.nil
        refine st_appF rfl _ _ _ rfl elB rfl rfl hfj.hv.drew hr4.drew (vbs_one b) (by omega) (Nat.zero_le _) ?_
        intro A5 c5 w5 ho5 hc5
        have hb5 : Blk w5 w1.heap.size 53 (fc (D.f 0) (v 0) (u 0)).toArray := by
          rcases hc5 with ⟨_, _, t5⟩ | ⟨_, t5⟩
          · exact hb4.drew.turn t5 (fun e => hgR 0 (by omega) (hfj.sv _ e.symm))
          · exact hb4.drew.turn0 t5
        have hg5 : Blk w5 g 56 (pdc D.cnt v u lv1).toArray := by
          rcases hc5 with ⟨_, _, t5⟩ | ⟨_, t5⟩
          · exact h4.b.drew.turn t5 (fun e => hp.ng 0 (by omega) (hfj.sv _ e.symm))
          · exact h4.b.drew.turn0 t5
        refine hK.out _ _ (C _ hb5) (fun hHeld => ?_); clear hK K; (try simp only [Act.put, List.getElem_toArray, List.getElem_cons_zero, List.getElem_cons_succ, List.setIfInBounds_toArray, List.set_cons_zero, List.set_cons_succ])
        refine wpAnyH_take (i := 10) rfl (by kernel_rfl) (by kernel_rfl) (by kernel_rfl) (fun _ _ _ h => h) (yieldsIf_bd (by rfl) 53 _ rfl #[(0, .slice A5 ((v 0).n + m) c5), (1, .slice (u 0).A (u 0).n (u 0).c), (2, .bool (D.f 0).is)] (by first | rfl | kernel_rfl | (simp; done)) _ bdC) (by assumption) ?_
        (try simp only [Act.put, List.getElem_toArray, List.getElem_cons_zero, List.getElem_cons_succ, List.setIfInBounds_toArray, List.set_cons_zero, List.set_cons_succ])
        (first | (refine wpAnyH_take (i := 13) (v := undef) rfl (by kernel_rfl) (by kernel_rfl) (by kernel_rfl) (fun _ _ _ h => h) (Or.inr ⟨rfl, rfl⟩) (by assumption) ?_) | (refine wpAnyH_take (i := 13) (v := ?_) rfl (by kernel_rfl) (by kernel_rfl) (by kernel_rfl) (fun _ _ _ h => h) (Or.inl ⟨rfl, ?_⟩) (by assumption) ?_; rotate_left 1; · (intro w hSw; (try dsimp only at hSw); go_simp; (try with_reducible rfl)))); (try simp only [Act.put, List.getElem_toArray, List.getElem_cons_zero, List.getElem_cons_succ, List.setIfInBounds_toArray, List.set_cons_zero, List.set_cons_succ])
        refine wpAnyH_ready (rs := [14]) (by kernel_rfl) (by simp) ?_; refine AllReadyH.cons rfl (fun K hK => ?_) AllReadyH.nil
        refine gd_dst3 rfl 53 _ _ rfl rfl rfl hg5 (by rw [pdc_len]; omega) (by kernel_rfl) (ones3 rfl rfl rfl) ?_
        intro w6 hb6 t6
        refine hK.out _ _ (C _ (hb5.turn t6 (by have := h1.b.lt; simp; omega))) (fun hHeld => ?_); clear hK K; (try simp only [Act.put, List.getElem_toArray, List.getElem_cons_zero, List.getElem_cons_succ, List.setIfInBounds_toArray, List.set_cons_zero, List.set_cons_succ])
        refine wpAnyH_done (by kernel_rfl) ?_ _
        refine NoPanic.normal ?_
        clear hHeld
        go_wp2
        go_ret
        exact ⟨rfl, fin _ _ _ _ _ _ _ h1 t1 T4 ho5 (hc5.imp (fun h => ⟨h.1, h.2.1, h.2.2.undrew⟩) fun h => ⟨h.1, h.2.undrew⟩) t6 hb6⟩
      · have C : ∀ W, Blk W w1.heap.size 53 (fc (D.f 1) (v 1) (u 1)).toArray → W.cell? ⟨w1.heap.size, 0, none⟩ = some (.slice (v 1).A (v 1).n (v 1).c) ∧ W.cell? ⟨w1.heap.size, 1, none⟩ = some (.slice (u 1).A (u 1).n (u 1).c) ∧ W.cell? ⟨w1.heap.size, 2, none⟩ = some (.bool (D.f 1).is) := fun W h => ⟨h.ats (j := 0) rfl, h.ats (j := 1) rfl, h.ats (j := 2) rfl⟩
        refine wp_region_noPanic ?_
        refine wp_region_held_drew (S := (fun W => W.cell? ⟨w1.heap.size, 0, none⟩ = some (.slice (v 1).A (v 1).n (v 1).c) ∧ W.cell? ⟨w1.heap.size, 1, none⟩ = some (.slice (u 1).A (u 1).n (u 1).c) ∧ W.cell? ⟨w1.heap.size, 2, none⟩ = some (.bool (D.f 1).is))) (by kernel_rfl) (C _ hb4.drew) (fun hHeld => ?_)
        (first | (refine wpAnyH_take (i := 0) (v := undef) rfl (by kernel_rfl) (by kernel_rfl) (by kernel_rfl) (fun _ _ _ h => h) (Or.inr ⟨rfl, rfl⟩) (by assumption) ?_) | (refine wpAnyH_take (i := 0) (v := ?_) rfl (by kernel_rfl) (by kernel_rfl) (by kernel_rfl) (fun _ _ _ h => h) (Or.inl ⟨rfl, ?_⟩) (by assumption) ?_; rotate_left 1; · (intro w hSw; (try dsimp only at hSw); go_simp; (try with_reducible rfl)))); (try simp only [Act.put, List.getElem_toArray, List.getElem_cons_zero, List.getElem_cons_succ, List.setIfInBounds_toArray, List.set_cons_zero, List.set_cons_succ])
        (first | (refine wpAnyH_take (i := 1) (v := undef) rfl (by kernel_rfl) (by kernel_rfl) (by kernel_rfl) (fun _ _ _ h => h) (Or.inr ⟨rfl, rfl⟩) (by assumption) ?_) | (refine wpAnyH_take (i := 1) (v := ?_) rfl (by kernel_rfl) (by kernel_rfl) (by kernel_rfl) (fun _ _ _ h => h) (Or.inl ⟨rfl, ?_⟩) (by assumption) ?_; rotate_left 1; · (intro w hSw; (try dsimp only at hSw); go_simp; (try with_reducible rfl)))); (try simp only [Act.put, List.getElem_toArray, List.getElem_cons_zero, List.getElem_cons_succ, List.setIfInBounds_toArray, List.set_cons_zero, List.set_cons_succ])
        (first | (refine wpAnyH_take (i := 2) (v := undef) rfl (by kernel_rfl) (by kernel_rfl) (by kernel_rfl) (fun _ _ _ h => h) (Or.inr ⟨rfl, rfl⟩) (by assumption) ?_) | (refine wpAnyH_take (i := 2) (v := ?_) rfl (by kernel_rfl) (by kernel_rfl) (by kernel_rfl) (fun _ _ _ h => h) (Or.inl ⟨rfl, ?_⟩) (by assumption) ?_; rotate_left 1; · (intro w hSw; (try dsimp only at hSw); go_simp; (try with_reducible rfl)))); (try simp only [Act.put, List.getElem_toArray, List.getElem_cons_zero, List.getElem_cons_succ, List.setIfInBounds_toArray, List.set_cons_zero, List.set_cons_succ])
        (first | (refine wpAnyH_take (i := 3) (v := undef) rfl (by kernel_rfl) (by kernel_rfl) (by kernel_rfl) (fun _ _ _ h => h) (Or.inr ⟨rfl, rfl⟩) (by assumption) ?_) | (refine wpAnyH_take (i := 3) (v := ?_) rfl (by kernel_rfl) (by kernel_rfl) (by kernel_rfl) (fun _ _ _ h => h) (Or.inl ⟨rfl, ?_⟩) (by assumption) ?_; rotate_left 1; · (intro w hSw; (try dsimp only at hSw); go_simp; (try with_reducible rfl)))); (try simp only [Act.put, List.getElem_toArray, List.getElem_cons_zero, List.getElem_cons_succ, List.setIfInBounds_toArray, List.set_cons_zero, List.set_cons_succ])
        (first | (refine wpAnyH_take (i := 4) (v := undef) rfl (by kernel_rfl) (by kernel_rfl) (by kernel_rfl) (fun _ _ _ h => h) (Or.inr ⟨rfl, rfl⟩) (by assumption) ?_) | (refine wpAnyH_take (i := 4) (v := ?_) rfl (by kernel_rfl) (by kernel_rfl) (by kernel_rfl) (fun _ _ _ h => h) (Or.inl ⟨rfl, ?_⟩) (by assumption) ?_; rotate_left 1; · (intro w hSw; (try dsimp only at hSw); go_simp; (try with_reducible rfl)))); (try simp only [Act.put, List.getElem_toArray, List.getElem_cons_zero, List.getElem_cons_succ, List.setIfInBounds_toArray, List.set_cons_zero, List.set_cons_succ])
        (first | (refine wpAnyH_take (i := 6) (v := undef) rfl (by kernel_rfl) (by kernel_rfl) (by kernel_rfl) (fun _ _ _ h => h) (Or.inr ⟨rfl, rfl⟩) (by assumption) ?_) | (refine wpAnyH_take (i := 6) (v := ?_) rfl (by kernel_rfl) (by kernel_rfl) (by kernel_rfl) (fun _ _ _ h => h) (Or.inl ⟨rfl, ?_⟩) (by assumption) ?_; rotate_left 1; · (intro w hSw; (try dsimp only at hSw); go_simp; (try with_reducible rfl)))); (try simp only [Act.put, List.getElem_toArray, List.getElem_cons_zero, List.getElem_cons_succ, List.setIfInBounds_toArray, List.set_cons_zero, List.set_cons_succ])
        (first | (refine wpAnyH_take (i := 7) (v := undef) rfl (by kernel_rfl) (by kernel_rfl) (by kernel_rfl) (fun _ _ _ h => h) (Or.inr ⟨rfl, rfl⟩) (by assumption) ?_) | (refine wpAnyH_take (i := 7) (v := ?_) rfl (by kernel_rfl) (by kernel_rfl) (by kernel_rfl) (fun _ _ _ h => h) (Or.inl ⟨rfl, ?_⟩) (by assumption) ?_; rotate_left 1; · (intro w hSw; (try dsimp only at hSw); go_simp; (try with_reducible rfl)))); (try simp only [Act.put, List.getElem_toArray, List.getElem_cons_zero, List.getElem_cons_succ, List.setIfInBounds_toArray, List.set_cons_zero, List.set_cons_succ])
        (first | (refine wpAnyH_take (i := 8) (v := undef) rfl (by kernel_rfl) (by kernel_rfl) (by kernel_rfl) (fun _ _ _ h => h) (Or.inr ⟨rfl, rfl⟩) (by assumption) ?_) | (refine wpAnyH_take (i := 8) (v := ?_) rfl (by kernel_rfl) (by kernel_rfl) (by kernel_rfl) (fun _ _ _ h => h) (Or.inl ⟨rfl, ?_⟩) (by assumption) ?_; rotate_left 1; · (intro w hSw; (try dsimp only at hSw); go_simp; (try with_reducible rfl)))); (try simp only [Act.put, List.getElem_toArray, List.getElem_cons_zero, List.getElem_cons_succ, List.setIfInBounds_toArray, List.set_cons_zero, List.set_cons_succ])
        (first | (refine wpAnyH_take (i := 9) (v := undef) rfl (by kernel_rfl) (by kernel_rfl) (by kernel_rfl) (fun _ _ _ h => h) (Or.inr ⟨rfl, rfl⟩) (by assumption) ?_) | (refine wpAnyH_take (i := 9) (v := ?_) rfl (by kernel_rfl) (by kernel_rfl) (by kernel_rfl) (fun _ _ _ h => h) (Or.inl ⟨rfl, ?_⟩) (by assumption) ?_; rotate_left 1; · (intro w hSw; (try dsimp only at hSw); go_simp; (try with_reducible rfl)))); (try simp only [Act.put, List.getElem_toArray, List.getElem_cons_zero, List.getElem_cons_succ, List.setIfInBounds_toArray, List.set_cons_zero, List.set_cons_succ])
        (first | (refine wpAnyH_take (i := 11) (v := undef) rfl (by kernel_rfl) (by kernel_rfl) (by kernel_rfl) (fun _ _ _ h => h) (Or.inr ⟨rfl, rfl⟩) (by assumption) ?_) | (refine wpAnyH_take (i := 11) (v := ?_) rfl (by kernel_rfl) (by kernel_rfl) (by kernel_rfl) (fun _ _ _ h => h) (Or.inl ⟨rfl, ?_⟩) (by assumption) ?_; rotate_left 1; · (intro w hSw; (try dsimp only at hSw); go_simp; (try with_reducible rfl)))); (try simp only [Act.put, List.getElem_toArray, List.getElem_cons_zero, List.getElem_cons_succ, List.setIfInBounds_toArray, List.set_cons_zero, List.set_cons_succ])
        (first | (refine wpAnyH_take (i := 12) (v := undef) rfl (by kernel_rfl) (by kernel_rfl) (by kernel_rfl) (fun _ _ _ h => h) (Or.inr ⟨rfl, rfl⟩) (by assumption) ?_) | (refine wpAnyH_take (i := 12) (v := ?_) rfl (by kernel_rfl) (by kernel_rfl) (by kernel_rfl) (fun _ _ _ h => h) (Or.inl ⟨rfl, ?_⟩) (by assumption) ?_; rotate_left 1; · (intro w hSw; (try dsimp only at hSw); go_simp; (try with_reducible rfl)))); (try simp only [Act.put, List.getElem_toArray, List.getElem_cons_zero, List.getElem_cons_succ, List.setIfInBounds_toArray, List.set_cons_zero, List.set_cons_succ])
        refine wpAnyH_ready (rs := [5]) (by kernel_rfl) (by simp) ?_; refine AllReadyH.cons rfl (fun K hK => ?_) AllReadyH.nil
        refine st_appF rfl _ _ _ rfl elB rfl rfl hfj.hv.drew hr4.drew (vbs_one b) (by omega) (Nat.zero_le _) ?_
        intro A5 c5 w5 ho5 hc5
        have hb5 : Blk w5 w1.heap.size 53 (fc (D.f 1) (v 1) (u 1)).toArray := by
          rcases hc5 with ⟨_, _, t5⟩ | ⟨_, t5⟩
          · exact hb4.drew.turn t5 (fun e => hgR 1 (by omega) (hfj.sv _ e.symm))
          · exact hb4.drew.turn0 t5
        have hg5 : Blk w5 g 56 (pdc D.cnt v u lv1).toArray := by
          rcases hc5 with ⟨_, _, t5⟩ | ⟨_, t5⟩
          · exact h4.b.drew.turn t5 (fun e => hp.ng 1 (by omega) (hfj.sv _ e.symm))
          · exact h4.b.drew.turn0 t5
        refine hK.out _ _ (C _ hb5) (fun hHeld => ?_); clear hK K; (try simp only [Act.put, List.getElem_toArray, List.getElem_cons_zero, List.getElem_cons_succ, List.setIfInBounds_toArray, List.set_cons_zero, List.set_cons_succ])
        refine wpAnyH_take (i := 10) rfl (by kernel_rfl) (by kernel_rfl) (by kernel_rfl) (fun _ _ _ h => h) (yieldsIf_bd (by rfl) 53 _ rfl #[(0, .slice A5 ((v 1).n + m) c5), (1, .slice (u 1).A (u 1).n (u 1).c), (2, .bool (D.f 1).is)] (by first | rfl | kernel_rfl | (simp; done)) _ bdC) (by assumption) ?_
        (try simp only [Act.put, List.getElem_toArray, List.getElem_cons_zero, List.getElem_cons_succ, List.setIfInBounds_toArray, List.set_cons_zero, List.set_cons_succ])
        (first | (refine wpAnyH_take (i := 13) (v := undef) rfl (by kernel_rfl) (by kernel_rfl) (by kernel_rfl) (fun _ _ _ h => h) (Or.inr ⟨rfl, rfl⟩) (by assumption) ?_) | (refine wpAnyH_take (i := 13) (v := ?_) rfl (by kernel_rfl) (by kernel_rfl) (by kernel_rfl) (fun _ _ _ h => h) (Or.inl ⟨rfl, ?_⟩) (by assumption) ?_; rotate_left 1; · (intro w hSw; (try dsimp only at hSw); go_simp; (try with_reducible rfl)))); (try simp only [Act.put, List.getElem_toArray, List.getElem_cons_zero, List.getElem_cons_succ, List.setIfInBounds_toArray, List.set_cons_zero, List.set_cons_succ])
        refine wpAnyH_ready (rs := [14]) (by kernel_rfl) (by simp) ?_; refine AllReadyH.cons rfl (fun K hK => ?_) AllReadyH.nil
        refine gd_dst3 rfl 53 _ _ rfl rfl rfl hg5 (by rw [pdc_len]; omega) (by kernel_rfl) (ones3 rfl rfl rfl) ?_
        intro w6 hb6 t6
        refine hK.out _ _ (C _ (hb5.turn t6 (by have := h1.b.lt; simp; omega))) (fun hHeld => ?_); clear hK K; (try simp only [Act.put, List.getElem_toArray, List.getElem_cons_zero, List.getElem_cons_succ, List.setIfInBounds_toArray, List.set_cons_zero, List.set_cons_succ])
        refine wpAnyH_done (by kernel_rfl) ?_ _
        refine NoPanic.normal ?_
        clear hHeld
        go_wp2
        go_ret
        exact ⟨rfl, fin _ _ _ _ _ _ _ h1 t1 T4 ho5 (hc5.imp (fun h => ⟨h.1, h.2.1, h.2.2.undrew⟩) fun h => ⟨h.1, h.2.undrew⟩) t6 hb6⟩
  all_goals
    have hwE : D.wErr n b = D.cErr n := by unfold Dsk.wErr; rw [he]; rfl
    have hwr : D.wr n b = D.cnt := by unfold Dsk.wr; rw [hwE, he]; rfl
    rw [hwr, hwE]
    rw [he] at hcl
    rw [he]
    clear he hwE hwr
    go_enter Try.func15, Try.ntmps15
    go_wp2_with (first
      | (go_at_call 29; refine hcl.mono ?_; rintro e w1 ⟨rfl, t1, lv1, h1⟩))
    go_ret
    exact ⟨rfl, h1.no t1 hR⟩
end Go.Proofs.Ytogajpiefegdeaa
