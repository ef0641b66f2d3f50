/-
  Layer 14: Crash (contract of the code).
-/
import Derived.Test.YtogajpiefegdeaaDkD
import Derived.Test.YtogajpiefegdeaaDkE
namespace Go.Proofs.Ytogajpiefegdeaa
set_option linter.unusedSimpArgs false
set_option linter.unusedVariables false
open Go.RowKit

/-- The first j files are crashed. -/
def Dsk.cj (D : Dsk) (keep : Int) (t : List UInt8) (j : Nat) : Dsk := { D with f := fun i => if i < j then stF ((D.f i).left keep t) else D.f i, armed := false, dead := false }
theorem cj_next (D : Dsk) (keep : Int) (t : List UInt8) (j : Nat) : (D.cj keep t j).put j (stF ((D.f j).left keep t)) = D.cj keep t (j + 1) := by
  unfold Dsk.cj Dsk.put
  congr 1
  funext i
  by_cases h : i = j
  · subst h
    rw [upd_same, if_pos (by omega)]
  · rw [upd_ne _ _ h]
    show (if i < j then stF ((D.f i).left keep t) else D.f i) = _
    by_cases h2 : i < j
    · rw [if_pos h2, if_pos (by omega)]
    · rw [if_neg h2, if_neg (by omega)]
theorem PD.cong {w : World} {g : Nat} {S : Nat → Nat → Prop} {v u : Nat → Sl} {lv : Int} {D D2 : Dsk} (h : PD w g S v u lv D) (hf : ∀ i, i < 2 → D2.f i = D.f i) (h1 : D2.lim = D.lim) (h2 : D2.armed = D.armed) (h3 : D2.dead = D.dead) (h4 : D2.lf = D.lf) : PD w g S v u lv D2 :=
  ⟨by
    have e : pdc D2 v u lv = pdc D v u lv := by simp only [pdc, h1, h2, h3, hf 0 (by omega), hf 1 (by omega)]
    rw [e]; exact h.b, fun i hi => by rw [hf i hi]; exact h.f i hi, h.ap, h.ng, h.lt, by rw [h2, h3, h4]; exact h.lv, ⟨fun i hi => by rw [hf i hi]; exact h.ok.f i hi, by rw [h1]; exact h.ok.l0, by rw [h1]; exact h.ok.l1, by rw [h2, h4]; exact h.ok.a0⟩⟩

set_option maxRecDepth 100000 in
set_option maxHeartbeats 3200000 in
theorem crash_any {w : World} {g : Nat} {R : Nat → Prop} {D : Dsk} (h : Pk w g R D) (keep : Int) (k0 : -9223372036854775808 ≤ keep) (k1 : keep ≤ 9223372036854775807) (A : Option Addr) (m c B : Nat) (t : List UInt8) (hr : Rd w B 1 A m (vbs t)) (hB : B ≤ w.heap.size) (hm : m ≤ 140737488351232) (hmc : m ≤ c) (hc : c ≤ maxLen) (hA : ∀ k, blk A = some k → 0 < m → ¬ R k) :
    Calls Try.prog 17 #[.pointer (some ⟨g, 0, none⟩), .int .i64 keep, .slice A m c] w fun e w' => e = .returned (.tuple #[]) ∧ Stp w w' R g (D.crash keep t) := by
  obtain ⟨S, v, u, lv, hp, hR⟩ := h
  have hml := hr.len
  rw [vbs_len] at hml
  have hRg : R g := (hR g).1 (.inl rfl)
  have c7 := hp.b.ats (j := 7) (v := .bool D.dead) rfl
  have f7 := hp.b.frozen 7
  have b7 := hp.b.sets 7 (.bool false)
  have c8 := b7.ats (j := 8) (v := .bool D.armed) rfl
  have f8 := b7.frozen 8
  have b8 := b7.sets 8 (.bool false)
  have t8 : Turn w ((w.setCell ⟨g, 7, none⟩ (.bool false)).setCell ⟨g, 8, none⟩ (.bool false)) (some g) := (Blk.setTurn w g 7 _).trans (Blk.setTurn _ g 8 _)
  have h0 : PD ((w.setCell ⟨g, 7, none⟩ (.bool false)).setCell ⟨g, 8, none⟩ (.bool false)) g S v u lv (D.cj keep t 0) :=
    hp.own t8 b8 (by unfold Dsk.cj; simp) (fun e => by cases e) ⟨fun i hi => by have h2 := hp.ok.f i hi; simpa [Dsk.cj] using h2, hp.ok.l0, hp.ok.l1, fun e => by cases e⟩
  have hrg := h0.b.range (fcs_sub _ v u lv)
  have e0 : fcs (D.cj keep t 0) v u = fcs D v u := rfl
  rw [e0] at hrg
  clear b7 b8
  go_enter Try.func17, Try.ntmps17
  go_wp2_with (first
    | (refine gd_ldR (by rfl) 54 _ rfl rfl hrg Try.underlying54 rfl szFs ?_))
  go_loopw [18] (fun i wr => ∃ (j : Nat) (S' : Nat → Nat → Prop) (v' u' : Nat → Sl), j ≤ 2 ∧ i = .int .i64 (j : Int) ∧ PD wr g S' v' u' lv (D.cj keep t j) ∧ (∀ i, j ≤ i → v' i = v i ∧ u' i = u i) ∧ Chg w wr R ∧ (∀ k, (k = g ∨ S' 0 k ∨ S' 1 k) → R k ∨ w.heap.size ≤ k)) (fun i _ => (2 - intOf i).toNat)
  case atStart => exact ⟨0, S, v, u, by omega, rfl, h0, fun _ _ => ⟨rfl, rfl⟩, Chg.of t8 fun i e => by injection e with e; exact e ▸ hRg, fun k hk => .inl ((hR k).1 hk)⟩
  case round =>
    obtain ⟨j, S', v', u', hj, rfl, h1, hvu, hC, hS'⟩ := hrel
    by_cases hj2 : j < 2
    · obtain ⟨ev, eu⟩ := hvu j (Nat.le_refl _)
      have hix := fcs_ix D v u hj2
      have hfj := h1.f j hj2
      have hDj : (D.cj keep t j).f j = D.f j := by simp [Dsk.cj]
      rw [hDj, ev, eu] at hfj
      have hokj := h1.ok.f j hj2
      rw [hDj] at hokj
      have hrt := (hr.chg0 hB hC hA)
      have hrem := fun W (hW : Turn wr W none) => remains_any (hfj.chg (T := fun _ => False) (Chg.of0 hW _) fun _ _ h => h) hokj keep k0 k1 A m c t B (hrt.turn0 hW (Nat.le_trans hB hC.size)) (Nat.le_trans hB (Nat.le_trans hC.size hW.size)) hm hmc hc (fun k hk => Nat.lt_of_lt_of_le (h1.lt j k hj2 hk) hW.size)
      have hlt := h1.b.lt
      have fin : ∀ (r : Sl) (w3 w4 w5 w6 : World), Turn wr w3 none → Turn w3 w4 none → Turn w4 w5 none → Own w5 0 5 1 r.A r.n r.c (vbs ((D.f j).left keep t)) → (∀ k, blk r.A = some k → S' j k ∨ (w3.heap.size ≤ k ∧ k < w4.heap.size)) → Turn w5 w6 (some g) →
          Blk w6 g 56 (((((pdc (D.cj keep t j) v' u' lv).set (1 + j * 3) r.v).set (1 + j * 3 + 1) r.v).set (1 + j * 3 + 2) (.bool false))).toArray →
          ∃ (S'' : Nat → Nat → Prop) (v'' u'' : Nat → Sl), PD w6 g S'' v'' u'' lv (D.cj keep t (j + 1)) ∧ (∀ i, j + 1 ≤ i → v'' i = v i ∧ u'' i = u i) ∧ Chg w w6 R ∧ (∀ k, (k = g ∨ S'' 0 k ∨ S'' 1 k) → R k ∨ w.heap.size ≤ k) := by
        intro r w3 w4 w5 w6 q3 q4 q5 hO hrk q6 hb6
        have T5 : Turn wr w5 none := (q3.trans q4).trans q5
        have s3 := q3.size
        have s5 := q5.size
        have sC := hC.size
        have hT : ∀ k, (S' j k ∨ (w3.heap.size ≤ k ∧ k < w4.heap.size)) → S' j k ∨ (wr.heap.size ≤ k ∧ k < w5.heap.size) := fun k hk => hk.imp id fun h => ⟨by omega, by omega⟩
        have hF : Fil w5 (fun k => S' j k ∨ (w3.heap.size ≤ k ∧ k < w4.heap.size)) (stF ((D.f j).left keep t)) r r := ⟨by rw [stF_all]; exact hO, hO, hrk, hrk, fun _ _ _ => by rw [stF_all]; exact List.prefix_rfl⟩
        have hP := h1.fput (f := stF ((D.f j).left keep t)) (v := r) (u := r) hj2 (Chg.of0 T5 (S' j)) q6 (pdc_put (D.cj keep t j) v' u' lv (stF ((D.f j).left keep t)) r r hj2 ▸ hb6) hF hT (stF_ok (left_len hokj keep (by omega)))
        rw [cj_next] at hP
        refine ⟨_, _, _, hP, fun i hi => ?_, (hC.trans (Chg.of0 T5 R) fun i hi => .inl hi).trans (Chg.of (S := R) q6 fun i e => by injection e with e; exact e ▸ hRg) fun i hi => .inl hi, fun k hk => ?_⟩
        · rw [upd_ne _ _ (by omega), upd_ne _ _ (by omega)]
          exact hvu i (by omega)
        · have one : ∀ i, i < 2 → upd S' j (fun k => S' j k ∨ (w3.heap.size ≤ k ∧ k < w4.heap.size)) i k → R k ∨ w.heap.size ≤ k := fun i hi hq => by
            have sub : ∀ i, i < 2 → S' i k → R k ∨ w.heap.size ≤ k := fun i hi h => hS' k (by
              obtain rfl | rfl : i = 0 ∨ i = 1 := by omega
              · exact .inr (.inl h)
              · exact .inr (.inr h))
            by_cases hij : i = j
            · subst hij
              rw [upd_same] at hq
              rcases hq with h2 | h2
              · exact sub i hi h2
              · exact .inr (by omega)
            · rw [upd_ne _ _ hij] at hq
              exact sub i hi hq
          rcases hk with hk | hk | hk
          · exact .inl (hk ▸ hRg)
          · exact one 0 (by omega) hk
          · exact one 1 (by omega) hk
      clear c7 c8 f7 f8 hrg h0
      obtain rfl | rfl : j = 0 ∨ j = 1 := by omega
      · have hix0 : ∀ W, (Instr.index 54 (.agg (fcs D v u).toArray) (.int .i64 0)).run Try.prog W = .ok (.agg (fc (D.f 0) (v 0) (u 0)).toArray) W := hix
        go_wp2_with (first
          | (refine wp_st (xs := fc (D.f 0) (v 0) (u 0)) rfl 53 _ _ rfl rfl rfl (Blk.new wr _ _) rfl szC (ones3 rfl rfl rfl) ?_; intro w3 hb3 ht3; have t3 := ((Turn.refl wr none).alloc _).new ht3 (by simp)))
        have rg3 : (World.drew w3).rangeAt wr.heap.size 0 (fc (D.f 0) (v 0) (u 0)) := hb3.drew.range (Sub.all _)
        refine wp_region_noPanic ?_
        refine wp_region_held_drew (S := (fun W => W.rangeAt wr.heap.size 0 (fc (D.f 0) (v 0) (u 0)))) (by kernel_rfl) (rg3) (fun hHeld => ?_)
        (first | (refine wpAnyH_take (i := 0) (v := undef) rfl (by kernel_rfl) (by kernel_rfl) (by kernel_rfl) (fun _ _ _ h => h) (Or.inr ⟨rfl, rfl⟩) (by assumption) ?_) | (refine wpAnyH_take (i := 0) (v := ?_) rfl (by kernel_rfl) (by kernel_rfl) (by kernel_rfl) (fun _ _ _ h => h) (Or.inl ⟨rfl, ?_⟩) (by assumption) ?_; rotate_left 1; · (intro w hSw; (try dsimp only at hSw); go_simp; (try with_reducible rfl)))); (try simp only [Act.put, List.getElem_toArray, List.getElem_cons_zero, List.getElem_cons_succ, List.setIfInBounds_toArray, List.set_cons_zero, List.set_cons_succ])
        (first | (refine wpAnyH_take (i := 1) (v := undef) rfl (by kernel_rfl) (by kernel_rfl) (by kernel_rfl) (fun _ _ _ h => h) (Or.inr ⟨rfl, rfl⟩) (by assumption) ?_) | (refine wpAnyH_take (i := 1) (v := ?_) rfl (by kernel_rfl) (by kernel_rfl) (by kernel_rfl) (fun _ _ _ h => h) (Or.inl ⟨rfl, ?_⟩) (by assumption) ?_; rotate_left 1; · (intro w hSw; (try dsimp only at hSw); go_simp; (try with_reducible rfl)))); (try simp only [Act.put, List.getElem_toArray, List.getElem_cons_zero, List.getElem_cons_succ, List.setIfInBounds_toArray, List.set_cons_zero, List.set_cons_succ])
        refine wpAnyH_take (i := 2) rfl (by kernel_rfl) (by kernel_rfl) (by kernel_rfl) (fun _ _ _ h => h) (yieldsIf_load_mid (by rfl) 53 _ rfl wr.heap.size 0 rfl (fc (D.f 0) (v 0) (u 0)) _ (fun W h => h) Try.underlying53 rfl szC) (by assumption) ?_
        (try simp only [Act.put, List.getElem_toArray, List.getElem_cons_zero, List.getElem_cons_succ, List.setIfInBounds_toArray, List.set_cons_zero, List.set_cons_succ])
        (first | (refine wpAnyH_take (i := 3) (v := undef) rfl (by kernel_rfl) (by kernel_rfl) (by kernel_rfl) (fun _ _ _ h => h) (Or.inr ⟨rfl, rfl⟩) (by assumption) ?_) | (refine wpAnyH_take (i := 3) (v := ?_) rfl (by kernel_rfl) (by kernel_rfl) (by kernel_rfl) (fun _ _ _ h => h) (Or.inl ⟨rfl, ?_⟩) (by assumption) ?_; rotate_left 1; · (intro w hSw; (try dsimp only at hSw); go_simp; (try with_reducible rfl)))); (try simp only [Act.put, List.getElem_toArray, List.getElem_cons_zero, List.getElem_cons_succ, List.setIfInBounds_toArray, List.set_cons_zero, List.set_cons_succ])
        (first | (refine wpAnyH_take (i := 4) (v := undef) rfl (by kernel_rfl) (by kernel_rfl) (by kernel_rfl) (fun _ _ _ h => h) (Or.inr ⟨rfl, rfl⟩) (by assumption) ?_) | (refine wpAnyH_take (i := 4) (v := ?_) rfl (by kernel_rfl) (by kernel_rfl) (by kernel_rfl) (fun _ _ _ h => h) (Or.inl ⟨rfl, ?_⟩) (by assumption) ?_; rotate_left 1; · (intro w hSw; (try dsimp only at hSw); go_simp; (try with_reducible rfl)))); (try simp only [Act.put, List.getElem_toArray, List.getElem_cons_zero, List.getElem_cons_succ, List.setIfInBounds_toArray, List.set_cons_zero, List.set_cons_succ])
        (first | (refine wpAnyH_take (i := 7) (v := undef) rfl (by kernel_rfl) (by kernel_rfl) (by kernel_rfl) (fun _ _ _ h => h) (Or.inr ⟨rfl, rfl⟩) (by assumption) ?_) | (refine wpAnyH_take (i := 7) (v := ?_) rfl (by kernel_rfl) (by kernel_rfl) (by kernel_rfl) (fun _ _ _ h => h) (Or.inl ⟨rfl, ?_⟩) (by assumption) ?_; rotate_left 1; · (intro w hSw; (try dsimp only at hSw); go_simp; (try with_reducible rfl)))); (try simp only [Act.put, List.getElem_toArray, List.getElem_cons_zero, List.getElem_cons_succ, List.setIfInBounds_toArray, List.set_cons_zero, List.set_cons_succ])
        (first | (refine wpAnyH_take (i := 8) (v := undef) rfl (by kernel_rfl) (by kernel_rfl) (by kernel_rfl) (fun _ _ _ h => h) (Or.inr ⟨rfl, rfl⟩) (by assumption) ?_) | (refine wpAnyH_take (i := 8) (v := ?_) rfl (by kernel_rfl) (by kernel_rfl) (by kernel_rfl) (fun _ _ _ h => h) (Or.inl ⟨rfl, ?_⟩) (by assumption) ?_; rotate_left 1; · (intro w hSw; (try dsimp only at hSw); go_simp; (try with_reducible rfl)))); (try simp only [Act.put, List.getElem_toArray, List.getElem_cons_zero, List.getElem_cons_succ, List.setIfInBounds_toArray, List.set_cons_zero, List.set_cons_succ])
        refine wpAnyH_ready (rs := [5]) (by kernel_rfl) (by simp) ?_
        refine AllReadyH.cons rfl (fun K hK => ?_) AllReadyH.nil
        go_simp
        refine (hrem _ t3.drew).mono ?_
        rintro e w4 ⟨r, rfl, ho4, hr4, t4⟩
        have rg4 := rng_turn (row := none) rg3 t4 hb3.lt (by simp)
        refine hK.out _ _ rg4 (fun hHeld => ?_); clear hK K; (try simp only [Act.put, List.getElem_toArray, List.getElem_cons_zero, List.getElem_cons_succ, List.setIfInBounds_toArray, List.set_cons_zero, List.set_cons_succ])
        refine wpAnyH_ready (rs := [6]) (by kernel_rfl) (by simp) ?_
        refine AllReadyH.cons rfl (fun K hK => ?_) AllReadyH.nil
        go_simp
        refine (standing_any r _).mono ?_
        rintro e w5 ⟨rfl, t5⟩
        have rg5 := rng_turn (row := none) rg4 t5 (Nat.lt_of_lt_of_le hb3.lt t4.size) (by simp)
        refine hK.out _ _ rg5 (fun hHeld => ?_); clear hK K; (try simp only [Act.put, List.getElem_toArray, List.getElem_cons_zero, List.getElem_cons_succ, List.setIfInBounds_toArray, List.set_cons_zero, List.set_cons_succ])
        (first | (refine wpAnyH_take (i := 9) (v := undef) rfl (by kernel_rfl) (by kernel_rfl) (by kernel_rfl) (fun _ _ _ h => h) (Or.inr ⟨rfl, rfl⟩) (by assumption) ?_) | (refine wpAnyH_take (i := 9) (v := ?_) rfl (by kernel_rfl) (by kernel_rfl) (by kernel_rfl) (fun _ _ _ h => h) (Or.inl ⟨rfl, ?_⟩) (by assumption) ?_; rotate_left 1; · (intro w hSw; (try dsimp only at hSw); go_simp; (try with_reducible rfl)))); (try simp only [Act.put, List.getElem_toArray, List.getElem_cons_zero, List.getElem_cons_succ, List.setIfInBounds_toArray, List.set_cons_zero, List.set_cons_succ])
        have T5 : Turn wr w5 none := (t3.drew.trans t4).trans t5
        refine wpAnyH_ready (rs := [10]) (by kernel_rfl) (by simp) ?_; refine AllReadyH.cons rfl (fun K hK => ?_) AllReadyH.nil
        refine gd_dst3 rfl 53 _ _ rfl rfl rfl (h1.b.turn0 T5) (by rw [pdc_len]; omega) (by kernel_rfl) (ones3 rfl rfl rfl) ?_
        intro w6 hb6 t6
        refine hK.out _ _ (rng_turn rg5 t6 (Nat.lt_of_lt_of_le hb3.lt (t4.trans t5).size) (by simp; omega)) (fun hHeld => ?_); clear hK K; (try simp only [Act.put, List.getElem_toArray, List.getElem_cons_zero, List.getElem_cons_succ, List.setIfInBounds_toArray, List.set_cons_zero, List.set_cons_succ])
        refine wpAnyH_done (by kernel_rfl) ?_ _
        refine NoPanic.normal ?_
        clear hHeld
        go_wp2
        obtain ⟨S'', v'', u'', k1, k2, k3, k4⟩ := fin r _ _ _ _ t3.drew t4 t5 (ho4.turn0 t5) hr4 t6 hb6
        refine ⟨⟨1, S'', v'', u'', by omega, rfl, k1, k2, k3, k4⟩, ?_⟩
        simp [intOf]
      · have hix0 : ∀ W, (Instr.index 54 (.agg (fcs D v u).toArray) (.int .i64 1)).run Try.prog W = .ok (.agg (fc (D.f 1) (v 1) (u 1)).toArray) W := hix
        go_wp2_with (first
          | (refine wp_st (xs := fc (D.f 1) (v 1) (u 1)) rfl 53 _ _ rfl rfl rfl (Blk.new wr _ _) rfl szC (ones3 rfl rfl rfl) ?_; intro w3 hb3 ht3; have t3 := ((Turn.refl wr none).alloc _).new ht3 (by simp)))
        have rg3 : (World.drew w3).rangeAt wr.heap.size 0 (fc (D.f 1) (v 1) (u 1)) := hb3.drew.range (Sub.all _)
        refine wp_region_noPanic ?_
        refine wp_region_held_drew (S := (fun W => W.rangeAt wr.heap.size 0 (fc (D.f 1) (v 1) (u 1)))) (by kernel_rfl) (rg3) (fun hHeld => ?_)
        (first | (refine wpAnyH_take (i := 0) (v := undef) rfl (by kernel_rfl) (by kernel_rfl) (by kernel_rfl) (fun _ _ _ h => h) (Or.inr ⟨rfl, rfl⟩) (by assumption) ?_) | (refine wpAnyH_take (i := 0) (v := ?_) rfl (by kernel_rfl) (by kernel_rfl) (by kernel_rfl) (fun _ _ _ h => h) (Or.inl ⟨rfl, ?_⟩) (by assumption) ?_; rotate_left 1; · (intro w hSw; (try dsimp only at hSw); go_simp; (try with_reducible rfl)))); (try simp only [Act.put, List.getElem_toArray, List.getElem_cons_zero, List.getElem_cons_succ, List.setIfInBounds_toArray, List.set_cons_zero, List.set_cons_succ])
        (first | (refine wpAnyH_take (i := 1) (v := undef) rfl (by kernel_rfl) (by kernel_rfl) (by kernel_rfl) (fun _ _ _ h => h) (Or.inr ⟨rfl, rfl⟩) (by assumption) ?_) | (refine wpAnyH_take (i := 1) (v := ?_) rfl (by kernel_rfl) (by kernel_rfl) (by kernel_rfl) (fun _ _ _ h => h) (Or.inl ⟨rfl, ?_⟩) (by assumption) ?_; rotate_left 1; · (intro w hSw; (try dsimp only at hSw); go_simp; (try with_reducible rfl)))); (try simp only [Act.put, List.getElem_toArray, List.getElem_cons_zero, List.getElem_cons_succ, List.setIfInBounds_toArray, List.set_cons_zero, List.set_cons_succ])
        refine wpAnyH_take (i := 2) rfl (by kernel_rfl) (by kernel_rfl) (by kernel_rfl) (fun _ _ _ h => h) (yieldsIf_load_mid (by rfl) 53 _ rfl wr.heap.size 0 rfl (fc (D.f 1) (v 1) (u 1)) _ (fun W h => h) Try.underlying53 rfl szC) (by assumption) ?_
        (try simp only [Act.put, List.getElem_toArray, List.getElem_cons_zero, List.getElem_cons_succ, List.setIfInBounds_toArray, List.set_cons_zero, List.set_cons_succ])
        (first | (refine wpAnyH_take (i := 3) (v := undef) rfl (by kernel_rfl) (by kernel_rfl) (by kernel_rfl) (fun _ _ _ h => h) (Or.inr ⟨rfl, rfl⟩) (by assumption) ?_) | (refine wpAnyH_take (i := 3) (v := ?_) rfl (by kernel_rfl) (by kernel_rfl) (by kernel_rfl) (fun _ _ _ h => h) (Or.inl ⟨rfl, ?_⟩) (by assumption) ?_; rotate_left 1; · (intro w hSw; (try dsimp only at hSw); go_simp; (try with_reducible rfl)))); (try simp only [Act.put, List.getElem_toArray, List.getElem_cons_zero, List.getElem_cons_succ, List.setIfInBounds_toArray, List.set_cons_zero, List.set_cons_succ])
        (first | (refine wpAnyH_take (i := 4) (v := undef) rfl (by kernel_rfl) (by kernel_rfl) (by kernel_rfl) (fun _ _ _ h => h) (Or.inr ⟨rfl, rfl⟩) (by assumption) ?_) | (refine wpAnyH_take (i := 4) (v := ?_) rfl (by kernel_rfl) (by kernel_rfl) (by kernel_rfl) (fun _ _ _ h => h) (Or.inl ⟨rfl, ?_⟩) (by assumption) ?_; rotate_left 1; · (intro w hSw; (try dsimp only at hSw); go_simp; (try with_reducible rfl)))); (try simp only [Act.put, List.getElem_toArray, List.getElem_cons_zero, List.getElem_cons_succ, List.setIfInBounds_toArray, List.set_cons_zero, List.set_cons_succ])
        (first | (refine wpAnyH_take (i := 7) (v := undef) rfl (by kernel_rfl) (by kernel_rfl) (by kernel_rfl) (fun _ _ _ h => h) (Or.inr ⟨rfl, rfl⟩) (by assumption) ?_) | (refine wpAnyH_take (i := 7) (v := ?_) rfl (by kernel_rfl) (by kernel_rfl) (by kernel_rfl) (fun _ _ _ h => h) (Or.inl ⟨rfl, ?_⟩) (by assumption) ?_; rotate_left 1; · (intro w hSw; (try dsimp only at hSw); go_simp; (try with_reducible rfl)))); (try simp only [Act.put, List.getElem_toArray, List.getElem_cons_zero, List.getElem_cons_succ, List.setIfInBounds_toArray, List.set_cons_zero, List.set_cons_succ])
        (first | (refine wpAnyH_take (i := 8) (v := undef) rfl (by kernel_rfl) (by kernel_rfl) (by kernel_rfl) (fun _ _ _ h => h) (Or.inr ⟨rfl, rfl⟩) (by assumption) ?_) | (refine wpAnyH_take (i := 8) (v := ?_) rfl (by kernel_rfl) (by kernel_rfl) (by kernel_rfl) (fun _ _ _ h => h) (Or.inl ⟨rfl, ?_⟩) (by assumption) ?_; rotate_left 1; · (intro w hSw; (try dsimp only at hSw); go_simp; (try with_reducible rfl)))); (try simp only [Act.put, List.getElem_toArray, List.getElem_cons_zero, List.getElem_cons_succ, List.setIfInBounds_toArray, List.set_cons_zero, List.set_cons_succ])
        refine wpAnyH_ready (rs := [5]) (by kernel_rfl) (by simp) ?_
        refine AllReadyH.cons rfl (fun K hK => ?_) AllReadyH.nil
        go_simp
        refine (hrem _ t3.drew).mono ?_
        rintro e w4 ⟨r, rfl, ho4, hr4, t4⟩
        have rg4 := rng_turn (row := none) rg3 t4 hb3.lt (by simp)
        refine hK.out _ _ rg4 (fun hHeld => ?_); clear hK K; (try simp only [Act.put, List.getElem_toArray, List.getElem_cons_zero, List.getElem_cons_succ, List.setIfInBounds_toArray, List.set_cons_zero, List.set_cons_succ])
        refine wpAnyH_ready (rs := [6]) (by kernel_rfl) (by simp) ?_
        refine AllReadyH.cons rfl (fun K hK => ?_) AllReadyH.nil
        go_simp
        refine (standing_any r _).mono ?_
        rintro e w5 ⟨rfl, t5⟩
        have rg5 := rng_turn (row := none) rg4 t5 (Nat.lt_of_lt_of_le hb3.lt t4.size) (by simp)
        refine hK.out _ _ rg5 (fun hHeld => ?_); clear hK K; (try simp only [Act.put, List.getElem_toArray, List.getElem_cons_zero, List.getElem_cons_succ, List.setIfInBounds_toArray, List.set_cons_zero, List.set_cons_succ])
        (first | (refine wpAnyH_take (i := 9) (v := undef) rfl (by kernel_rfl) (by kernel_rfl) (by kernel_rfl) (fun _ _ _ h => h) (Or.inr ⟨rfl, rfl⟩) (by assumption) ?_) | (refine wpAnyH_take (i := 9) (v := ?_) rfl (by kernel_rfl) (by kernel_rfl) (by kernel_rfl) (fun _ _ _ h => h) (Or.inl ⟨rfl, ?_⟩) (by assumption) ?_; rotate_left 1; · (intro w hSw; (try dsimp only at hSw); go_simp; (try with_reducible rfl)))); (try simp only [Act.put, List.getElem_toArray, List.getElem_cons_zero, List.getElem_cons_succ, List.setIfInBounds_toArray, List.set_cons_zero, List.set_cons_succ])
        have T5 : Turn wr w5 none := (t3.drew.trans t4).trans t5
        refine wpAnyH_ready (rs := [10]) (by kernel_rfl) (by simp) ?_; refine AllReadyH.cons rfl (fun K hK => ?_) AllReadyH.nil
        refine gd_dst3 rfl 53 _ _ rfl rfl rfl (h1.b.turn0 T5) (by rw [pdc_len]; omega) (by kernel_rfl) (ones3 rfl rfl rfl) ?_
        intro w6 hb6 t6
        refine hK.out _ _ (rng_turn rg5 t6 (Nat.lt_of_lt_of_le hb3.lt (t4.trans t5).size) (by simp; omega)) (fun hHeld => ?_); clear hK K; (try simp only [Act.put, List.getElem_toArray, List.getElem_cons_zero, List.getElem_cons_succ, List.setIfInBounds_toArray, List.set_cons_zero, List.set_cons_succ])
        refine wpAnyH_done (by kernel_rfl) ?_ _
        refine NoPanic.normal ?_
        clear hHeld
        go_wp2
        obtain ⟨S'', v'', u'', k1, k2, k3, k4⟩ := fin r _ _ _ _ t3.drew t4 t5 (ho4.turn0 t5) hr4 t6 hb6
        refine ⟨⟨2, S'', v'', u'', by omega, rfl, k1, k2, k3, k4⟩, ?_⟩
        simp [intOf]
    · obtain rfl : j = 2 := by omega
      have h2 : PD wr g S' v' u' lv (D.crash keep t) := h1.cong (fun i hi => by simp [Dsk.cj, Dsk.crash, hi]) rfl rfl rfl rfl
      go_wp2
      go_end0
      exact ⟨rfl, h2.stp hC hS'⟩
end Go.Proofs.Ytogajpiefegdeaa
