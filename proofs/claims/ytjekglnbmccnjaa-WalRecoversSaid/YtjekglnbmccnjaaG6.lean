import Derived.Test.YtjekglnbmccnjaaG5
import Derived.Test.YtjekglnbmccnjaaG4
set_option linter.unusedSimpArgs false
set_option linter.unusedVariables false
set_option linter.unusedSectionVars false
/-
  Layer 14: Crash (contract of the code).
-/
namespace Go.Proofs.Ytjekglnbmccnjaa
set_option linter.unusedSimpArgs false
set_option linter.unusedVariables false
open Go.RowKit

/-- The first j files are crashed. -/
def Dsk.cj (D : Dsk) (keep : Int) (t : List UInt8) (j : Nat) : Dsk := { D with f := fun i => if i < j then stF ((D.f i).left keep t) else D.f i, armed := false, dead := false }
theorem cj_next (D : Dsk) (keep : Int) (t : List UInt8) (j : Nat) : (D.cj keep t j).put j (stF ((D.f j).left keep t)) = D.cj keep t (j + 1) := by
  unfold Dsk.cj Dsk.put
  congr 1
  funext i
  by_cases h : i = j
  · subst h
    rw [upd_same, if_pos (by omega)]
  · rw [upd_ne _ _ h]
    show (if i < j then stF ((D.f i).left keep t) else D.f i) = _
    by_cases h2 : i < j
    · rw [if_pos h2, if_pos (by omega)]
    · rw [if_neg h2, if_neg (by omega)]
theorem PD.cong {w : World} {g : Nat} {S : Nat → Nat → Prop} {v u : Nat → Sl} {lv : Int} {D D2 : Dsk} (h : PD w g S v u lv D) (hf : ∀ i, i < 2 → D2.f i = D.f i) (h1 : D2.lim = D.lim) (h2 : D2.armed = D.armed) (h3 : D2.dead = D.dead) (h4 : D2.lf = D.lf) : PD w g S v u lv D2 :=
  ⟨by
    have e : pdc D2 v u lv = pdc D v u lv := by simp only [pdc, h1, h2, h3, hf 0 (by omega), hf 1 (by omega)]
    rw [e]; exact h.b, fun i hi => by rw [hf i hi]; exact h.f i hi, h.ap, h.ng, h.lt, by rw [h2, h3, h4]; exact h.lv, ⟨fun i hi => by rw [hf i hi]; exact h.ok.f i hi, by rw [h1]; exact h.ok.l0, by rw [h1]; exact h.ok.l1, by rw [h2, h4]; exact h.ok.a0⟩⟩

set_option maxRecDepth 100000 in
set_option maxHeartbeats 3200000 in
theorem crash_any {w : World} {g : Nat} {R : Nat → Prop} {D : Dsk} (h : Pk w g R D) (keep : Int) (k0 : -9223372036854775808 ≤ keep) (k1 : keep ≤ 9223372036854775807) (A : Option Addr) (m c B : Nat) (t : List UInt8) (hr : Rd w B 1 A m (vbs t)) (hB : B ≤ w.heap.size) (hm : m ≤ 140737488351232) (hmc : m ≤ c) (hc : c ≤ maxLen) (hA : ∀ k, blk A = some k → 0 < m → ¬ R k) :
    Calls Try.prog 20 #[.pointer (some ⟨g, 0, none⟩), .int .i64 keep, .slice A m c] w fun e w' => e = .returned (.tuple #[]) ∧ Stp w w' R g (D.crash keep t) := by
  obtain ⟨S, v, u, lv, hp, hR⟩ := h
  have hml := hr.len
  rw [vbs_len] at hml
  have hRg : R g := (hR g).1 (.inl rfl)
  have c7 := hp.b.ats (j := 7) (v := .bool D.dead) rfl
  have f7 := hp.b.frozen 7
  have b7 := hp.b.sets 7 (.bool false)
  have c8 := b7.ats (j := 8) (v := .bool D.armed) rfl
  have f8 := b7.frozen 8
  have b8 := b7.sets 8 (.bool false)
  have t8 : Turn w ((w.setCell ⟨g, 7, none⟩ (.bool false)).setCell ⟨g, 8, none⟩ (.bool false)) (some g) := (Blk.setTurn w g 7 _).trans (Blk.setTurn _ g 8 _)
  have h0 : PD ((w.setCell ⟨g, 7, none⟩ (.bool false)).setCell ⟨g, 8, none⟩ (.bool false)) g S v u lv (D.cj keep t 0) :=
    hp.own t8 b8 (by unfold Dsk.cj; simp) (fun e => by cases e) ⟨fun i hi => by have h2 := hp.ok.f i hi; simpa [Dsk.cj] using h2, hp.ok.l0, hp.ok.l1, fun e => by cases e⟩
  have hrg := h0.b.range (fcs_sub _ v u lv)
  have e0 : fcs (D.cj keep t 0) v u = fcs D v u := rfl
  rw [e0] at hrg
  clear b7 b8
  go_enter Try.func20, Try.ntmps20
  go_wp2_with (first
    | (refine gd_ldR (by rfl) 62 _ rfl rfl hrg Try.underlying62 rfl szFs ?_))
  go_loopw [18] (fun i wr => ∃ (j : Nat) (S' : Nat → Nat → Prop) (v' u' : Nat → Sl), j ≤ 2 ∧ i = .int .i64 (j : Int) ∧ PD wr g S' v' u' lv (D.cj keep t j) ∧ (∀ i, j ≤ i → v' i = v i ∧ u' i = u i) ∧ Chg w wr R ∧ (∀ k, (k = g ∨ S' 0 k ∨ S' 1 k) → R k ∨ w.heap.size ≤ k)) (fun i _ => (2 - intOf i).toNat)
  case atStart => exact ⟨0, S, v, u, by omega, rfl, h0, fun _ _ => ⟨rfl, rfl⟩, Chg.of t8 fun i e => by injection e with e; exact e ▸ hRg, fun k hk => .inl ((hR k).1 hk)⟩
  case round =>
    obtain ⟨j, S', v', u', hj, rfl, h1, hvu, hC, hS'⟩ := hrel
    by_cases hj2 : j < 2
    · obtain ⟨ev, eu⟩ := hvu j (Nat.le_refl _)
      have hix := fcs_ix D v u hj2
      have hfj := h1.f j hj2
      have hDj : (D.cj keep t j).f j = D.f j := by simp [Dsk.cj]
      rw [hDj, ev, eu] at hfj
      have hokj := h1.ok.f j hj2
      rw [hDj] at hokj
      have hrt := (hr.chg0 hB hC hA)
      have hrem := fun W (hW : Turn wr W none) => remains_any (hfj.chg (T := fun _ => False) (Chg.of0 hW _) fun _ _ h => h) hokj keep k0 k1 A m c t B (hrt.turn0 hW (Nat.le_trans hB hC.size)) (Nat.le_trans hB (Nat.le_trans hC.size hW.size)) hm hmc hc (fun k hk => Nat.lt_of_lt_of_le (h1.lt j k hj2 hk) hW.size)
      have hlt := h1.b.lt
      have fin : ∀ (r : Sl) (w3 w4 w5 w6 : World), Turn wr w3 none → Turn w3 w4 none → Turn w4 w5 none → Own w5 0 5 1 r.A r.n r.c (vbs ((D.f j).left keep t)) → (∀ k, blk r.A = some k → S' j k ∨ (w3.heap.size ≤ k ∧ k < w4.heap.size)) → Turn w5 w6 (some g) →
          Blk w6 g 64 (((((pdc (D.cj keep t j) v' u' lv).set (1 + j * 3) r.v).set (1 + j * 3 + 1) r.v).set (1 + j * 3 + 2) (.bool false))).toArray →
          ∃ (S'' : Nat → Nat → Prop) (v'' u'' : Nat → Sl), PD w6 g S'' v'' u'' lv (D.cj keep t (j + 1)) ∧ (∀ i, j + 1 ≤ i → v'' i = v i ∧ u'' i = u i) ∧ Chg w w6 R ∧ (∀ k, (k = g ∨ S'' 0 k ∨ S'' 1 k) → R k ∨ w.heap.size ≤ k) := by
        intro r w3 w4 w5 w6 q3 q4 q5 hO hrk q6 hb6
        have T5 : Turn wr w5 none := (q3.trans q4).trans q5
        have s3 := q3.size
        have s5 := q5.size
        have sC := hC.size
        have hT : ∀ k, (S' j k ∨ (w3.heap.size ≤ k ∧ k < w4.heap.size)) → S' j k ∨ (wr.heap.size ≤ k ∧ k < w5.heap.size) := fun k hk => hk.imp id fun h => ⟨by omega, by omega⟩
        have hF : Fil w5 (fun k => S' j k ∨ (w3.heap.size ≤ k ∧ k < w4.heap.size)) (stF ((D.f j).left keep t)) r r := ⟨by rw [stF_all]; exact hO, hO, hrk, hrk, fun _ _ _ => by rw [stF_all]; exact List.prefix_rfl⟩
        have hP := h1.fput (f := stF ((D.f j).left keep t)) (v := r) (u := r) hj2 (Chg.of0 T5 (S' j)) q6 (pdc_put (D.cj keep t j) v' u' lv (stF ((D.f j).left keep t)) r r hj2 ▸ hb6) hF hT (stF_ok (left_len hokj keep (by omega)))
        rw [cj_next] at hP
        refine ⟨_, _, _, hP, fun i hi => ?_, (hC.trans (Chg.of0 T5 R) fun i hi => .inl hi).trans (Chg.of (S := R) q6 fun i e => by injection e with e; exact e ▸ hRg) fun i hi => .inl hi, fun k hk => ?_⟩
        · rw [upd_ne _ _ (by omega), upd_ne _ _ (by omega)]
          exact hvu i (by omega)
        · have one : ∀ i, i < 2 → upd S' j (fun k => S' j k ∨ (w3.heap.size ≤ k ∧ k < w4.heap.size)) i k → R k ∨ w.heap.size ≤ k := fun i hi hq => by
            have sub : ∀ i, i < 2 → S' i k → R k ∨ w.heap.size ≤ k := fun i hi h => hS' k (by
              obtain rfl | rfl : i = 0 ∨ i = 1 := by omega
              · exact .inr (.inl h)
              · exact .inr (.inr h))
            by_cases hij : i = j
            · subst hij
              rw [upd_same] at hq
              rcases hq with h2 | h2
              · exact sub i hi h2
              · exact .inr (by omega)
            · rw [upd_ne _ _ hij] at hq
              exact sub i hi hq
          rcases hk with hk | hk | hk
          · exact .inl (hk ▸ hRg)
          · exact one 0 (by omega) hk
          · exact one 1 (by omega) hk
      clear c7 c8 f7 f8 hrg h0
      obtain rfl | rfl : j = 0 ∨ j = 1 := by omega
      · have hix0 : ∀ W, (Instr.index 62 (.agg (fcs D v u).toArray) (.int .i64 0)).run Try.prog W = .ok (.agg (fc (D.f 0) (v 0) (u 0)).toArray) W := hix
        go_wp2_with (first
          | (refine wp_st (xs := fc (D.f 0) (v 0) (u 0)) rfl 61 _ _ rfl rfl rfl (Blk.new wr _ _) rfl szC (ones3 rfl rfl rfl) ?_; intro w3 hb3 ht3; have t3 := ((Turn.refl wr none).alloc _).new ht3 (by simp)))
        have rg3 : (World.drew w3).rangeAt wr.heap.size 0 (fc (D.f 0) (v 0) (u 0)) := hb3.drew.range (Sub.all _)
        refine wp_region_noPanic ?_
        refine wp_region_held_drew (S := (fun W => W.rangeAt wr.heap.size 0 (fc (D.f 0) (v 0) (u 0)))) (by kernel_rfl) (rg3) (fun hHeld => ?_)
        (first | (refine wpAnyH_take (i := 0) (v := undef) rfl (by kernel_rfl) (by kernel_rfl) (by kernel_rfl) (fun _ _ _ h => h) (Or.inr ⟨rfl, rfl⟩) (by assumption) ?_) | (refine wpAnyH_take (i := 0) (v := ?_) rfl (by kernel_rfl) (by kernel_rfl) (by kernel_rfl) (fun _ _ _ h => h) (Or.inl ⟨rfl, ?_⟩) (by assumption) ?_; rotate_left 1; · (intro w hSw; (try dsimp only at hSw); go_simp; (try with_reducible rfl)))); (try simp only [Act.put, List.getElem_toArray, List.getElem_cons_zero, List.getElem_cons_succ, List.setIfInBounds_toArray, List.set_cons_zero, List.set_cons_succ])
        (first | (refine wpAnyH_take (i := 1) (v := undef) rfl (by kernel_rfl) (by kernel_rfl) (by kernel_rfl) (fun _ _ _ h => h) (Or.inr ⟨rfl, rfl⟩) (by assumption) ?_) | (refine wpAnyH_take (i := 1) (v := ?_) rfl (by kernel_rfl) (by kernel_rfl) (by kernel_rfl) (fun _ _ _ h => h) (Or.inl ⟨rfl, ?_⟩) (by assumption) ?_; rotate_left 1; · (intro w hSw; (try dsimp only at hSw); go_simp; (try with_reducible rfl)))); (try simp only [Act.put, List.getElem_toArray, List.getElem_cons_zero, List.getElem_cons_succ, List.setIfInBounds_toArray, List.set_cons_zero, List.set_cons_succ])
        refine wpAnyH_take (i := 2) rfl (by kernel_rfl) (by kernel_rfl) (by kernel_rfl) (fun _ _ _ h => h) (yieldsIf_load_mid (by rfl) 61 _ rfl wr.heap.size 0 rfl (fc (D.f 0) (v 0) (u 0)) _ (fun W h => h) Try.underlying61 rfl szC) (by assumption) ?_
        (try simp only [Act.put, List.getElem_toArray, List.getElem_cons_zero, List.getElem_cons_succ, List.setIfInBounds_toArray, List.set_cons_zero, List.set_cons_succ])
        (first | (refine wpAnyH_take (i := 3) (v := undef) rfl (by kernel_rfl) (by kernel_rfl) (by kernel_rfl) (fun _ _ _ h => h) (Or.inr ⟨rfl, rfl⟩) (by assumption) ?_) | (refine wpAnyH_take (i := 3) (v := ?_) rfl (by kernel_rfl) (by kernel_rfl) (by kernel_rfl) (fun _ _ _ h => h) (Or.inl ⟨rfl, ?_⟩) (by assumption) ?_; rotate_left 1; · (intro w hSw; (try dsimp only at hSw); go_simp; (try with_reducible rfl)))); (try simp only [Act.put, List.getElem_toArray, List.getElem_cons_zero, List.getElem_cons_succ, List.setIfInBounds_toArray, List.set_cons_zero, List.set_cons_succ])
        (first | (refine wpAnyH_take (i := 4) (v := undef) rfl (by kernel_rfl) (by kernel_rfl) (by kernel_rfl) (fun _ _ _ h => h) (Or.inr ⟨rfl, rfl⟩) (by assumption) ?_) | (refine wpAnyH_take (i := 4) (v := ?_) rfl (by kernel_rfl) (by kernel_rfl) (by kernel_rfl) (fun _ _ _ h => h) (Or.inl ⟨rfl, ?_⟩) (by assumption) ?_; rotate_left 1; · (intro w hSw; (try dsimp only at hSw); go_simp; (try with_reducible rfl)))); (try simp only [Act.put, List.getElem_toArray, List.getElem_cons_zero, List.getElem_cons_succ, List.setIfInBounds_toArray, List.set_cons_zero, List.set_cons_succ])
        (first | (refine wpAnyH_take (i := 7) (v := undef) rfl (by kernel_rfl) (by kernel_rfl) (by kernel_rfl) (fun _ _ _ h => h) (Or.inr ⟨rfl, rfl⟩) (by assumption) ?_) | (refine wpAnyH_take (i := 7) (v := ?_) rfl (by kernel_rfl) (by kernel_rfl) (by kernel_rfl) (fun _ _ _ h => h) (Or.inl ⟨rfl, ?_⟩) (by assumption) ?_; rotate_left 1; · (intro w hSw; (try dsimp only at hSw); go_simp; (try with_reducible rfl)))); (try simp only [Act.put, List.getElem_toArray, List.getElem_cons_zero, List.getElem_cons_succ, List.setIfInBounds_toArray, List.set_cons_zero, List.set_cons_succ])
        (first | (refine wpAnyH_take (i := 8) (v := undef) rfl (by kernel_rfl) (by kernel_rfl) (by kernel_rfl) (fun _ _ _ h => h) (Or.inr ⟨rfl, rfl⟩) (by assumption) ?_) | (refine wpAnyH_take (i := 8) (v := ?_) rfl (by kernel_rfl) (by kernel_rfl) (by kernel_rfl) (fun _ _ _ h => h) (Or.inl ⟨rfl, ?_⟩) (by assumption) ?_; rotate_left 1; · (intro w hSw; (try dsimp only at hSw); go_simp; (try with_reducible rfl)))); (try simp only [Act.put, List.getElem_toArray, List.getElem_cons_zero, List.getElem_cons_succ, List.setIfInBounds_toArray, List.set_cons_zero, List.set_cons_succ])
        refine wpAnyH_ready (rs := [5]) (by kernel_rfl) (by simp) ?_
        refine AllReadyH.cons rfl (fun K hK => ?_) AllReadyH.nil
        go_simp
        refine (hrem _ t3.drew).mono ?_
        rintro e w4 ⟨r, rfl, ho4, hr4, t4⟩
        have rg4 := rng_turn (row := none) rg3 t4 hb3.lt (by simp)
        refine hK.out _ _ rg4 (fun hHeld => ?_); clear hK K; (try simp only [Act.put, List.getElem_toArray, List.getElem_cons_zero, List.getElem_cons_succ, List.setIfInBounds_toArray, List.set_cons_zero, List.set_cons_succ])
        refine wpAnyH_ready (rs := [6]) (by kernel_rfl) (by simp) ?_
        refine AllReadyH.cons rfl (fun K hK => ?_) AllReadyH.nil
        go_simp
        refine (standing_any r _).mono ?_
        rintro e w5 ⟨rfl, t5⟩
        have rg5 := rng_turn (row := none) rg4 t5 (Nat.lt_of_lt_of_le hb3.lt t4.size) (by simp)
        refine hK.out _ _ rg5 (fun hHeld => ?_); clear hK K; (try simp only [Act.put, List.getElem_toArray, List.getElem_cons_zero, List.getElem_cons_succ, List.setIfInBounds_toArray, List.set_cons_zero, List.set_cons_succ])
        (first | (refine wpAnyH_take (i := 9) (v := undef) rfl (by kernel_rfl) (by kernel_rfl) (by kernel_rfl) (fun _ _ _ h => h) (Or.inr ⟨rfl, rfl⟩) (by assumption) ?_) | (refine wpAnyH_take (i := 9) (v := ?_) rfl (by kernel_rfl) (by kernel_rfl) (by kernel_rfl) (fun _ _ _ h => h) (Or.inl ⟨rfl, ?_⟩) (by assumption) ?_; rotate_left 1; · (intro w hSw; (try dsimp only at hSw); go_simp; (try with_reducible rfl)))); (try simp only [Act.put, List.getElem_toArray, List.getElem_cons_zero, List.getElem_cons_succ, List.setIfInBounds_toArray, List.set_cons_zero, List.set_cons_succ])
        have T5 : Turn wr w5 none := (t3.drew.trans t4).trans t5
        refine wpAnyH_ready (rs := [10]) (by kernel_rfl) (by simp) ?_; refine AllReadyH.cons rfl (fun K hK => ?_) AllReadyH.nil
        refine gd_dst3 rfl 61 _ _ rfl rfl rfl (h1.b.turn0 T5) (by rw [pdc_len]; omega) (by kernel_rfl) (ones3 rfl rfl rfl) ?_
        intro w6 hb6 t6
        refine hK.out _ _ (rng_turn rg5 t6 (Nat.lt_of_lt_of_le hb3.lt (t4.trans t5).size) (by simp; omega)) (fun hHeld => ?_); clear hK K; (try simp only [Act.put, List.getElem_toArray, List.getElem_cons_zero, List.getElem_cons_succ, List.setIfInBounds_toArray, List.set_cons_zero, List.set_cons_succ])
        refine wpAnyH_done (by kernel_rfl) ?_ _
        refine NoPanic.normal ?_
        clear hHeld
        go_wp2
        obtain ⟨S'', v'', u'', k1, k2, k3, k4⟩ := fin r _ _ _ _ t3.drew t4 t5 (ho4.turn0 t5) hr4 t6 hb6
        refine ⟨⟨1, S'', v'', u'', by omega, rfl, k1, k2, k3, k4⟩, ?_⟩
        simp [intOf]
      · have hix0 : ∀ W, (Instr.index 62 (.agg (fcs D v u).toArray) (.int .i64 1)).run Try.prog W = .ok (.agg (fc (D.f 1) (v 1) (u 1)).toArray) W := hix
        go_wp2_with (first
          | (refine wp_st (xs := fc (D.f 1) (v 1) (u 1)) rfl 61 _ _ rfl rfl rfl (Blk.new wr _ _) rfl szC (ones3 rfl rfl rfl) ?_; intro w3 hb3 ht3; have t3 := ((Turn.refl wr none).alloc _).new ht3 (by simp)))
        have rg3 : (World.drew w3).rangeAt wr.heap.size 0 (fc (D.f 1) (v 1) (u 1)) := hb3.drew.range (Sub.all _)
        refine wp_region_noPanic ?_
        refine wp_region_held_drew (S := (fun W => W.rangeAt wr.heap.size 0 (fc (D.f 1) (v 1) (u 1)))) (by kernel_rfl) (rg3) (fun hHeld => ?_)
        (first | (refine wpAnyH_take (i := 0) (v := undef) rfl (by kernel_rfl) (by kernel_rfl) (by kernel_rfl) (fun _ _ _ h => h) (Or.inr ⟨rfl, rfl⟩) (by assumption) ?_) | (refine wpAnyH_take (i := 0) (v := ?_) rfl (by kernel_rfl) (by kernel_rfl) (by kernel_rfl) (fun _ _ _ h => h) (Or.inl ⟨rfl, ?_⟩) (by assumption) ?_; rotate_left 1; · (intro w hSw; (try dsimp only at hSw); go_simp; (try with_reducible rfl)))); (try simp only [Act.put, List.getElem_toArray, List.getElem_cons_zero, List.getElem_cons_succ, List.setIfInBounds_toArray, List.set_cons_zero, List.set_cons_succ])
        (first | (refine wpAnyH_take (i := 1) (v := undef) rfl (by kernel_rfl) (by kernel_rfl) (by kernel_rfl) (fun _ _ _ h => h) (Or.inr ⟨rfl, rfl⟩) (by assumption) ?_) | (refine wpAnyH_take (i := 1) (v := ?_) rfl (by kernel_rfl) (by kernel_rfl) (by kernel_rfl) (fun _ _ _ h => h) (Or.inl ⟨rfl, ?_⟩) (by assumption) ?_; rotate_left 1; · (intro w hSw; (try dsimp only at hSw); go_simp; (try with_reducible rfl)))); (try simp only [Act.put, List.getElem_toArray, List.getElem_cons_zero, List.getElem_cons_succ, List.setIfInBounds_toArray, List.set_cons_zero, List.set_cons_succ])
        refine wpAnyH_take (i := 2) rfl (by kernel_rfl) (by kernel_rfl) (by kernel_rfl) (fun _ _ _ h => h) (yieldsIf_load_mid (by rfl) 61 _ rfl wr.heap.size 0 rfl (fc (D.f 1) (v 1) (u 1)) _ (fun W h => h) Try.underlying61 rfl szC) (by assumption) ?_
        (try simp only [Act.put, List.getElem_toArray, List.getElem_cons_zero, List.getElem_cons_succ, List.setIfInBounds_toArray, List.set_cons_zero, List.set_cons_succ])
        (first | (refine wpAnyH_take (i := 3) (v := undef) rfl (by kernel_rfl) (by kernel_rfl) (by kernel_rfl) (fun _ _ _ h => h) (Or.inr ⟨rfl, rfl⟩) (by assumption) ?_) | (refine wpAnyH_take (i := 3) (v := ?_) rfl (by kernel_rfl) (by kernel_rfl) (by kernel_rfl) (fun _ _ _ h => h) (Or.inl ⟨rfl, ?_⟩) (by assumption) ?_; rotate_left 1; · (intro w hSw; (try dsimp only at hSw); go_simp; (try with_reducible rfl)))); (try simp only [Act.put, List.getElem_toArray, List.getElem_cons_zero, List.getElem_cons_succ, List.setIfInBounds_toArray, List.set_cons_zero, List.set_cons_succ])
        (first | (refine wpAnyH_take (i := 4) (v := undef) rfl (by kernel_rfl) (by kernel_rfl) (by kernel_rfl) (fun _ _ _ h => h) (Or.inr ⟨rfl, rfl⟩) (by assumption) ?_) | (refine wpAnyH_take (i := 4) (v := ?_) rfl (by kernel_rfl) (by kernel_rfl) (by kernel_rfl) (fun _ _ _ h => h) (Or.inl ⟨rfl, ?_⟩) (by assumption) ?_; rotate_left 1; · (intro w hSw; (try dsimp only at hSw); go_simp; (try with_reducible rfl)))); (try simp only [Act.put, List.getElem_toArray, List.getElem_cons_zero, List.getElem_cons_succ, List.setIfInBounds_toArray, List.set_cons_zero, List.set_cons_succ])
        (first | (refine wpAnyH_take (i := 7) (v := undef) rfl (by kernel_rfl) (by kernel_rfl) (by kernel_rfl) (fun _ _ _ h => h) (Or.inr ⟨rfl, rfl⟩) (by assumption) ?_) | (refine wpAnyH_take (i := 7) (v := ?_) rfl (by kernel_rfl) (by kernel_rfl) (by kernel_rfl) (fun _ _ _ h => h) (Or.inl ⟨rfl, ?_⟩) (by assumption) ?_; rotate_left 1; · (intro w hSw; (try dsimp only at hSw); go_simp; (try with_reducible rfl)))); (try simp only [Act.put, List.getElem_toArray, List.getElem_cons_zero, List.getElem_cons_succ, List.setIfInBounds_toArray, List.set_cons_zero, List.set_cons_succ])
        (first | (refine wpAnyH_take (i := 8) (v := undef) rfl (by kernel_rfl) (by kernel_rfl) (by kernel_rfl) (fun _ _ _ h => h) (Or.inr ⟨rfl, rfl⟩) (by assumption) ?_) | (refine wpAnyH_take (i := 8) (v := ?_) rfl (by kernel_rfl) (by kernel_rfl) (by kernel_rfl) (fun _ _ _ h => h) (Or.inl ⟨rfl, ?_⟩) (by assumption) ?_; rotate_left 1; · (intro w hSw; (try dsimp only at hSw); go_simp; (try with_reducible rfl)))); (try simp only [Act.put, List.getElem_toArray, List.getElem_cons_zero, List.getElem_cons_succ, List.setIfInBounds_toArray, List.set_cons_zero, List.set_cons_succ])
        refine wpAnyH_ready (rs := [5]) (by kernel_rfl) (by simp) ?_
        refine AllReadyH.cons rfl (fun K hK => ?_) AllReadyH.nil
        go_simp
        refine (hrem _ t3.drew).mono ?_
        rintro e w4 ⟨r, rfl, ho4, hr4, t4⟩
        have rg4 := rng_turn (row := none) rg3 t4 hb3.lt (by simp)
        refine hK.out _ _ rg4 (fun hHeld => ?_); clear hK K; (try simp only [Act.put, List.getElem_toArray, List.getElem_cons_zero, List.getElem_cons_succ, List.setIfInBounds_toArray, List.set_cons_zero, List.set_cons_succ])
        refine wpAnyH_ready (rs := [6]) (by kernel_rfl) (by simp) ?_
        refine AllReadyH.cons rfl (fun K hK => ?_) AllReadyH.nil
        go_simp
        refine (standing_any r _).mono ?_
        rintro e w5 ⟨rfl, t5⟩
        have rg5 := rng_turn (row := none) rg4 t5 (Nat.lt_of_lt_of_le hb3.lt t4.size) (by simp)
        refine hK.out _ _ rg5 (fun hHeld => ?_); clear hK K; (try simp only [Act.put, List.getElem_toArray, List.getElem_cons_zero, List.getElem_cons_succ, List.setIfInBounds_toArray, List.set_cons_zero, List.set_cons_succ])
        (first | (refine wpAnyH_take (i := 9) (v := undef) rfl (by kernel_rfl) (by kernel_rfl) (by kernel_rfl) (fun _ _ _ h => h) (Or.inr ⟨rfl, rfl⟩) (by assumption) ?_) | (refine wpAnyH_take (i := 9) (v := ?_) rfl (by kernel_rfl) (by kernel_rfl) (by kernel_rfl) (fun _ _ _ h => h) (Or.inl ⟨rfl, ?_⟩) (by assumption) ?_; rotate_left 1; · (intro w hSw; (try dsimp only at hSw); go_simp; (try with_reducible rfl)))); (try simp only [Act.put, List.getElem_toArray, List.getElem_cons_zero, List.getElem_cons_succ, List.setIfInBounds_toArray, List.set_cons_zero, List.set_cons_succ])
        have T5 : Turn wr w5 none := (t3.drew.trans t4).trans t5
        refine wpAnyH_ready (rs := [10]) (by kernel_rfl) (by simp) ?_; refine AllReadyH.cons rfl (fun K hK => ?_) AllReadyH.nil
        refine gd_dst3 rfl 61 _ _ rfl rfl rfl (h1.b.turn0 T5) (by rw [pdc_len]; omega) (by kernel_rfl) (ones3 rfl rfl rfl) ?_
        intro w6 hb6 t6
        refine hK.out _ _ (rng_turn rg5 t6 (Nat.lt_of_lt_of_le hb3.lt (t4.trans t5).size) (by simp; omega)) (fun hHeld => ?_); clear hK K; (try simp only [Act.put, List.getElem_toArray, List.getElem_cons_zero, List.getElem_cons_succ, List.setIfInBounds_toArray, List.set_cons_zero, List.set_cons_succ])
        refine wpAnyH_done (by kernel_rfl) ?_ _
        refine NoPanic.normal ?_
        clear hHeld
        go_wp2
        obtain ⟨S'', v'', u'', k1, k2, k3, k4⟩ := fin r _ _ _ _ t3.drew t4 t5 (ho4.turn0 t5) hr4 t6 hb6
        refine ⟨⟨2, S'', v'', u'', by omega, rfl, k1, k2, k3, k4⟩, ?_⟩
        simp [intOf]
    · obtain rfl : j = 2 := by omega
      have h2 : PD wr g S' v' u' lv (D.crash keep t) := h1.cong (fun i hi => by simp [Dsk.cj, Dsk.crash, hi]) rfl rfl rfl rfl
      go_wp2
      go_end0
      exact ⟨rfl, h2.stp hC hS'⟩
end Go.Proofs.Ytjekglnbmccnjaa
/-
  Layer 14: a disk in memory, the document's; counts, All, Size, New, Arm, Read (contracts).
-/
namespace Go.Proofs.Ytjekglnbmccnjaa
set_option linter.unusedSimpArgs false
set_option linter.unusedVariables false
open Go.RowKit

/-- A row that is read and lies in a block of R. -/
structure Rs (w : World) (R : Nat → Prop) (x : Sl) (l : List UInt8) : Prop where
  rd : Rd w w.heap.size 1 x.A x.n (vbs l)
  s : ∀ k, blk x.A = some k → R k
  nc : x.n ≤ x.c
  cm : x.c ≤ maxLen
structure Rf (w : World) (R : Nat → Prop) (f : Fi) (x y z : Sl) : Prop where
  x : Rs w R x f.fa
  y : Rs w R y f.mo
  z : Rs w R z f.ot
def rdc (D : Dsk) (x y z : Nat → Sl) (lv : Int) : List Value :=
  [(x 0).v, (x 1).v, (y 0).v, (y 1).v, (z 0).v, (z 1).v, .bool (D.f 0).is, .bool (D.f 1).is, .int .i64 D.lim, .int .i64 lv, .bool D.armed, .bool D.dead]
structure RD (w : World) (r : Nat) (R : Nat → Prop) (x y z : Nat → Sl) (lv : Int) (D : Dsk) : Prop where
  b : Blk w r 68 (rdc D x y z lv).toArray
  f : ∀ i, i < 2 → Rf w R (D.f i) (x i) (y i) (z i)
  nr : ¬ R r
  lt : ∀ k, R k → k < w.heap.size
  lv : D.armed = true → D.dead = false → lv = D.lf
  ok : D.Ok
section
variable {w w' w2 : World} {r : Nat} {R T : Nat → Prop} {x y z : Nat → Sl} {lv : Int} {D : Dsk} {a : Sl} {l : List UInt8} {f : Fi} {b c : Sl}
theorem Rs.n (h : Rs w R a l) : a.n = l.length := by have := h.rd.len; rw [vbs_len] at this; exact this.symm
theorem Rs.chg (h : Rs w R a l) (ht : Chg w w' T) (hs : ∀ k, R k → ¬ T k) : Rs w' R a l := ⟨(h.rd.chg (Nat.le_refl _) ht fun g e => hs g (h.s g e)).mono ht.size, h.s, h.nc, h.cm⟩
theorem Rs.mono (h : Rs w R a l) (k : ∀ i, R i → T i) : Rs w T a l := ⟨h.rd, fun i e => k i (h.s i e), h.nc, h.cm⟩
theorem Rs.turn0 (h : Rs w R a l) (ht : Turn w w' none) : Rs w' R a l := h.chg (T := fun _ => False) (Chg.of0 ht _) fun _ _ h => h
theorem Rs.nil (w : World) (R : Nat → Prop) : Rs w R ⟨none, 0, 0⟩ [] := ⟨Rd.none_ w _ 1 0, (fun k e => by cases e), Nat.le_refl _, Nat.zero_le _⟩
theorem Rf.chg (h : Rf w R f a b c) (ht : Chg w w' T) (hs : ∀ k, R k → ¬ T k) : Rf w' R f a b c := ⟨h.x.chg ht hs, h.y.chg ht hs, h.z.chg ht hs⟩
theorem Rf.mono (h : Rf w R f a b c) (k : ∀ i, R i → T i) : Rf w T f a b c := ⟨h.x.mono k, h.y.mono k, h.z.mono k⟩
theorem RD.chg (h : RD w r R x y z lv D) (ht : Chg w w' T) (hr : ¬ T r) (hs : ∀ k, R k → ¬ T k) : RD w' r R x y z lv D :=
  ⟨h.b.chg ht hr, fun i hi => (h.f i hi).chg ht hs, h.nr, fun k hk => Nat.lt_of_lt_of_le (h.lt k hk) ht.size, h.lv, h.ok⟩
theorem RD.turn0 (h : RD w r R x y z lv D) (ht : Turn w w' none) : RD w' r R x y z lv D := h.chg (T := fun _ => False) (Chg.of0 ht _) (fun h => h) fun _ _ h => h
theorem RD.own (h : RD w r R x y z lv D) {D2 : Dsk} {lv2 : Int} (ht : Turn w w' (some r)) (hb : Blk w' r 68 (rdc D2 x y z lv2).toArray) (hf : D2.f = D.f) (hl : D2.armed = true → D2.dead = false → lv2 = D2.lf) (hk : D2.Ok) : RD w' r R x y z lv2 D2 :=
  ⟨hb, fun i hi => by rw [hf]; exact (h.f i hi).chg (T := fun k => k = r) (Chg.of ht fun i e => (by injection e with e; exact e.symm)) (fun k hk e => h.nr (e ▸ hk)), h.nr, fun k hk => Nat.lt_of_lt_of_le (h.lt k hk) ht.size, hl, hk⟩
/-- File j gives place to another one. -/
theorem RD.fput (h : RD w r R x y z lv D) {j : Nat} (hj : j < 2) (t2 : Turn w w2 none) (t3 : Turn w2 w' (some r)) (hb : Blk w' r 68 (rdc (D.put j f) (upd x j a) (upd y j b) (upd z j c) lv).toArray)
    (hf : Rf w2 (fun k => R k ∨ (w.heap.size ≤ k ∧ k < w2.heap.size)) f a b c) (hk : f.Ok) : RD w' r (fun k => R k ∨ (w.heap.size ≤ k ∧ k < w2.heap.size)) (upd x j a) (upd y j b) (upd z j c) lv (D.put j f) := by
  have hl := h.b.lt
  have s2 := t2.size
  have s3 := t3.size
  have ct : Chg w2 w' (fun k => k = r) := Chg.of t3 fun i e => by injection e with e; exact e.symm
  have nr : ∀ k, (R k ∨ (w.heap.size ≤ k ∧ k < w2.heap.size)) → ¬ k = r := fun k hk e => hk.elim (fun h2 => h.nr (e ▸ h2)) (fun h2 => by omega)
  refine ⟨hb, fun i hi => ?_, fun e => nr r e rfl, fun k hk => hk.elim (fun h2 => by have := h.lt k h2; omega) (fun h2 => by omega), h.lv, h.ok.put hk⟩
  by_cases hij : i = j
  · subst hij
    show Rf w' _ (upd D.f i f i) (upd x i a i) (upd y i b i) (upd z i c i)
    rw [upd_same, upd_same, upd_same, upd_same]
    exact hf.chg ct nr
  · show Rf w' _ (upd D.f j f i) (upd x j a i) (upd y j b i) (upd z j c i)
    rw [upd_ne _ _ hij, upd_ne _ _ hij, upd_ne _ _ hij, upd_ne _ _ hij]
    exact (((h.f i hi).chg (T := fun _ => False) (Chg.of0 t2 _) fun _ _ h => h).mono (fun k hk => .inl hk)).chg ct nr
end

set_option maxRecDepth 100000 in
set_option maxHeartbeats 800000 in
theorem rnew_any (lim : Int) (w : World) :
    Calls Try.prog 7 #[.int .i64 lim] w fun e w' => ∃ r, w.heap.size ≤ r ∧ e = .returned (.pointer (some ⟨r, 0, none⟩)) ∧ RD w' r (fun _ => False) (fun _ => ⟨none, 0, 0⟩) (fun _ => ⟨none, 0, 0⟩) (fun _ => ⟨none, 0, 0⟩) 0 (newD lim) ∧ Turn w w' none := by
  have hz : ∀ L, Try.prog.built 68 [(4, .int .i64 L)] = some ([.slice none 0 0, .slice none 0 0, .slice none 0 0, .slice none 0 0, .slice none 0 0, .slice none 0 0, .bool false, .bool false, .int .i64 L, .int .i64 0, .bool false, .bool false] : List Value).toArray := fun L => by kernel_rfl
  have key : ∀ L, L = (newD lim).lim → ∀ r w', w.heap.size = r → Blk w' r 68 ([.slice none 0 0, .slice none 0 0, .slice none 0 0, .slice none 0 0, .slice none 0 0, .slice none 0 0, .bool false, .bool false, .int .i64 L, .int .i64 0, .bool false, .bool false] : List Value).toArray → Turn w w' none →
      RD w' r (fun _ => False) (fun _ => ⟨none, 0, 0⟩) (fun _ => ⟨none, 0, 0⟩) (fun _ => ⟨none, 0, 0⟩) 0 (newD lim) := by
    intro L hL r w' hg hb ht
    subst hL
    exact ⟨hb, fun i _ => ⟨Rs.nil _ _, Rs.nil _ _, Rs.nil _ _⟩, fun h => h, fun _ h => h.elim, (fun h => by simp [newD] at h), newD_ok lim⟩
  have hq : lim < 0 ∨ (¬ lim < 0 ∧ 16777216 < lim) ∨ (¬ lim < 0 ∧ ¬ 16777216 < lim) := by omega
  rcases hq with hq | ⟨hq, hq2⟩ | ⟨hq, hq2⟩
  · have e : 0 = (newD lim).lim := by simp only [newD]; rw [if_pos hq]
    have E := hid e
    clear e
    go_enter Try.func7, Try.ntmps7
    go_wp2_with (first
      | (refine wp_bd rfl 68 _ rfl _ rfl _ (hz _) ?_)
      | (refine wp_bx rfl 68 _ rfl rfl ?_; intro r w1 hg hb1 ht1))
    go_ret
    exact ⟨r, by omega, rfl, key _ E.out r w1 hg hb1 ht1, ht1⟩
  · have e : 16777216 = (newD lim).lim := by simp only [newD]; rw [if_neg hq, if_pos hq2]
    have E := hid e
    clear e
    go_enter Try.func7, Try.ntmps7
    go_wp2_with (first
      | (refine wp_bd rfl 68 _ rfl _ rfl _ (hz _) ?_)
      | (refine wp_bx rfl 68 _ rfl rfl ?_; intro r w1 hg hb1 ht1))
    go_ret
    exact ⟨r, by omega, rfl, key _ E.out r w1 hg hb1 ht1, ht1⟩
  · have e : lim = (newD lim).lim := by simp only [newD]; rw [if_neg hq, if_neg hq2]
    have E := hid e
    clear e
    go_enter Try.func7, Try.ntmps7
    go_wp2_with (first
      | (refine wp_bd rfl 68 _ rfl _ rfl _ (hz _) ?_)
      | (refine wp_bx rfl 68 _ rfl rfl ?_; intro r w1 hg hb1 ht1))
    go_ret
    exact ⟨r, by omega, rfl, key _ E.out r w1 hg hb1 ht1, ht1⟩

set_option maxRecDepth 100000 in
set_option maxHeartbeats 1600000 in
theorem rarm_any {w : World} {r : Nat} {R : Nat → Prop} {x y z : Nat → Sl} {lv : Int} {D : Dsk} (h : RD w r R x y z lv D) (c : Int) (hc : c ≤ 9223372036854775807) :
    Calls Try.prog 28 #[.pointer (some ⟨r, 0, none⟩), .int .i64 c] w fun e w' => e = .returned (.tuple #[]) ∧ Turn w w' (some r) ∧ ∃ lv', RD w' r R x y z lv' (D.arm c) := by
  have f10 := h.b.frozen 10
  have c10 := h.b.ats (j := 10) (v := .bool D.armed) rfl
  have hb10 := h.b.sets 10 (.bool true)
  have d9 := hb10.ats (j := 9) (v := .int .i64 lv) rfl
  have f9 := hb10.frozen 9
  have hp : ∀ q, q = (D.arm c).lf → RD ((w.setCell ⟨r, 10, none⟩ (.bool true)).setCell ⟨r, 9, none⟩ (.int .i64 q)) r R x y z q (D.arm c) := fun q hq =>
    h.own ((Blk.setTurn w r 10 _).trans (Blk.setTurn _ r 9 _)) (hb10.sets 9 (.int .i64 q)) rfl (fun _ _ => hq) (h.ok.arm hc)
  have hm0 : c < 0 → 0 = (D.arm c).lf := fun h => by simp only [Dsk.arm]; rw [if_pos h]
  have hm1 : 0 ≤ c → c = (D.arm c).lf := fun h => by simp only [Dsk.arm]; rw [if_neg (by omega)]
  have H0 := hid hm0
  have H1 := hid hm1
  clear hm0 hm1
  by_cases hq : c < 0
  · go_enter Try.func28, Try.ntmps28
    go_wp2
    go_end0
    exact ⟨rfl, (Blk.setTurn w r 10 _).trans (Blk.setTurn _ r 9 _), _, hp _ (H0.out hq)⟩
  · have hq2 : 0 ≤ c := by omega
    go_enter Try.func28, Try.ntmps28
    go_wp2
    go_end0
    exact ⟨rfl, (Blk.setTurn w r 10 _).trans (Blk.setTurn _ r 9 _), _, hp _ (H1.out hq2)⟩
end Go.Proofs.Ytjekglnbmccnjaa
/-
  Layer 14: the document's counts, All, Size, Read (contracts).
-/
namespace Go.Proofs.Ytjekglnbmccnjaa
set_option linter.unusedSimpArgs false
set_option linter.unusedVariables false
open Go.RowKit

set_option maxRecDepth 100000 in
set_option maxHeartbeats 1600000 in
theorem rcounts_any {w : World} {r : Nat} {R : Nat → Prop} {x y z : Nat → Sl} {lv : Int} {D : Dsk} (h : RD w r R x y z lv D) (n : Int) :
    Calls Try.prog 58 #[.pointer (some ⟨r, 0, none⟩), .int .i64 n] w fun e w' => e = .returned (.int .i64 (D.cErr n)) ∧ Turn w w' (some r) ∧ ∃ lv', RD w' r R x y z lv' D.cnt := by
  have c9 := h.b.ats (j := 9) (v := .int .i64 lv) rfl
  have c10 := h.b.ats (j := 10) (v := .bool D.armed) rfl
  have c11 := h.b.ats (j := 11) (v := .bool D.dead) rfl
  have f9 := h.b.frozen 9
  have f11 := h.b.frozen 11
  have hok := h.ok.cnt
  cases hd : D.dead with
  | true =>
    have e : D.gone = true := by simp [Dsk.gone, hd]
    have e1 : D.cErr n = 140 := by unfold Dsk.cErr; rw [if_pos e]
    have hc : D.cnt = D := by unfold Dsk.cnt; rw [if_pos e]; rw [← hd]
    rw [e1, hc]
    rw [hd] at c11
    have hb11 := h.b.sets 11 (.bool true)
    have d11 := hb11.ats (j := 11) (v := .bool true) rfl
    have hp1 : RD (w.setCell ⟨r, 11, none⟩ (.bool true)) r R x y z lv D := h.own (Blk.setTurn w r 11 _) (by
      have e2 : (rdc D x y z lv).set 11 (.bool true) = rdc D x y z lv := by
        unfold rdc
        rw [hd]
        rfl
      rw [e2] at hb11; exact hb11) rfl h.lv h.ok
    clear e e1 hc
    cases ha : D.armed with
    | false =>
      rw [ha] at c10
      go_enter Try.func58, Try.ntmps58
      go_wp2
      go_ret
      exact ⟨rfl, Turn.refl w _, lv, h⟩
    | true =>
      rw [ha] at c10
      by_cases z0 : lv = 0
      · have zb : (lv == 0) = true := by rw [z0]; rfl
        go_enter Try.func58, Try.ntmps58
        go_wp2
        go_ret
        exact ⟨rfl, Blk.setTurn w r 11 _, lv, hp1⟩
      · have zb : (lv == 0) = false := by rw [beq_eq_false_iff_ne]; exact z0
        go_enter Try.func58, Try.ntmps58
        go_wp2
        go_ret
        exact ⟨rfl, Turn.refl w _, lv, h⟩
  | false =>
    rw [hd] at c11
    by_cases hg : D.gone = true
    · have ha : D.armed = true := by
        unfold Dsk.gone at hg
        rw [hd] at hg
        simp at hg
        exact hg.1
      have hz : D.lf = 0 := by
        unfold Dsk.gone at hg
        rw [hd] at hg
        simp at hg
        exact hg.2
      have hlv := h.lv ha hd
      rw [hz] at hlv
      have e1 : D.cErr n = 140 := by unfold Dsk.cErr; rw [if_pos hg]
      have hc : D.cnt = { D with dead := true } := by unfold Dsk.cnt; rw [if_pos hg]
      rw [e1, hc]
      have hb11 := h.b.sets 11 (.bool true)
      have d11 := hb11.ats (j := 11) (v := .bool true) rfl
      rw [hc] at hok
      have hp1 : RD (w.setCell ⟨r, 11, none⟩ (.bool true)) r R x y z lv { D with dead := true } := h.own (Blk.setTurn w r 11 _) hb11 rfl (fun _ e => by cases e) hok
      subst hlv
      rw [ha] at c10
      clear e1 hc ha hz hg
      go_enter Try.func58, Try.ntmps58
      go_wp2
      go_ret
      exact ⟨rfl, Blk.setTurn w r 11 _, 0, hp1⟩
    · have e1 : D.cErr n = fErr n := by unfold Dsk.cErr; rw [if_neg hg]
      have hc : D.cnt = { D with lf := D.lf - 1 } := by unfold Dsk.cnt; rw [if_neg hg]
      rw [e1]
      rw [hc] at hok
      have hb9 := fun q => h.b.sets 9 (.int .i64 q)
      have hp1 : ∀ q, (D.armed = true → q = D.lf - 1) → RD (w.setCell ⟨r, 9, none⟩ (.int .i64 q)) r R x y z q D.cnt := fun q hq => by
        rw [hc]
        exact h.own (Blk.setTurn w r 9 _) (hb9 q) rfl (fun ha _ => hq ha) hok
      have hq : n < 0 ∨ (¬ n < 0 ∧ 1 < n) ∨ (¬ n < 0 ∧ ¬ 1 < n) := by omega
      unfold fErr
      cases ha : D.armed with
      | false =>
        rw [ha] at c10
        have hp2 : ∀ q, RD (w.setCell ⟨r, 9, none⟩ (.int .i64 q)) r R x y z q D.cnt := fun q => hp1 q (fun e => by rw [ha] at e; cases e)
        clear e1 hc hg hp1 hb9
        rcases hq with hq | ⟨hq, hq2⟩ | ⟨hq, hq2⟩
        · rw [if_pos (.inl hq)]
          go_enter Try.func58, Try.ntmps58
          go_wp2
          go_ret
          exact ⟨rfl, Blk.setTurn w r 9 _, _, hp2 _⟩
        · rw [if_pos (.inr hq2)]
          go_enter Try.func58, Try.ntmps58
          go_wp2
          go_ret
          exact ⟨rfl, Blk.setTurn w r 9 _, _, hp2 _⟩
        · rw [if_neg (by omega)]
          go_enter Try.func58, Try.ntmps58
          go_wp2
          go_ret
          exact ⟨rfl, Blk.setTurn w r 9 _, _, hp2 _⟩
      | true =>
        rw [ha] at c10
        have hlv := h.lv ha hd
        obtain ⟨l0, l1⟩ := h.ok.a0 ha
        have hn0 : D.lf ≠ 0 := fun e => hg (by simp [Dsk.gone, ha, e])
        have zb : (lv == 0) = false := by rw [beq_eq_false_iff_ne]; omega
        have b0 : 0 < lv := by omega
        have b1 : lv ≤ 9223372036854775807 := by omega
        have hp2 : RD (w.setCell ⟨r, 9, none⟩ (.int .i64 (lv - 1))) r R x y z (lv - 1) D.cnt := hp1 _ (fun _ => by omega)
        clear e1 hc hg hp1 hb9 hlv l0 l1 hn0
        rcases hq with hq | ⟨hq, hq2⟩ | ⟨hq, hq2⟩
        · rw [if_pos (.inl hq)]
          go_enter Try.func58, Try.ntmps58
          go_wp2
          go_ret
          exact ⟨rfl, Blk.setTurn w r 9 _, _, hp2⟩
        · rw [if_pos (.inr hq2)]
          go_enter Try.func58, Try.ntmps58
          go_wp2
          go_ret
          exact ⟨rfl, Blk.setTurn w r 9 _, _, hp2⟩
        · rw [if_neg (by omega)]
          go_enter Try.func58, Try.ntmps58
          go_wp2
          go_ret
          exact ⟨rfl, Blk.setTurn w r 9 _, _, hp2⟩
end Go.Proofs.Ytjekglnbmccnjaa
/-
  Layer 14: the document's All, Size, Read (contracts).
-/
namespace Go.Proofs.Ytjekglnbmccnjaa
set_option linter.unusedSimpArgs false
set_option linter.unusedVariables false
open Go.RowKit

theorem cel {w : World} {r : Nat} {l : List Value} {t : TypeId} {k : Nat} {v : Value} (h : Blk w r t l.toArray) (hv : l[k]? = some v) : ∀ W, Turn (World.drew w) W none → W.cell? ⟨r, k, none⟩ = some v := fun _ hW => (h.drew.turn0 hW).ats hv
set_option maxRecDepth 100000 in
set_option maxHeartbeats 3200000 in
theorem rall_any {w : World} {r : Nat} {R : Nat → Prop} {x y z : Nat → Sl} {lv : Int} {D : Dsk} (h : RD w r R x y z lv D) {j : Nat} (hj : j < 2) :
    Calls Try.prog 32 #[.pointer (some ⟨r, 0, none⟩), .int .i64 (j : Int)] w fun e w' => ∃ a : Sl,
      e = .returned a.v ∧ a.n = (D.f j).all.length ∧ Own w' w.heap.size 5 1 a.A a.n a.c (vbs (D.f j).all) ∧ Turn w w' none := by
  have hf := h.f j hj
  have hok := h.ok.f j hj
  have hal := hok.all
  have hfa := hok.fa
  cases hi : (D.f j).is with
  | true =>
    have e : (D.f j).all = (D.f j).ot ++ (D.f j).mo := by simp [Fi.all, hi]
    rw [e, List.length_append] at hal
    rw [e]
    clear e
    obtain rfl | rfl : j = 0 ∨ j = 1 := by omega
    · have c6 := h.b.ats (j := 6) (v := .bool (D.f 0).is) rfl
      rw [hi] at c6
      have C1 := cel h.b (k := 4) (v := .slice (z 0).A (z 0).n (z 0).c) rfl
      have C2 := cel h.b (k := 2) (v := .slice (y 0).A (y 0).n (y 0).c) rfl
      go_enter Try.func32, Try.ntmps32
      go_wp2
      refine wp_region_noPanic ?_
      refine wp_region_held_drew (S := fun W => Turn w W none) (by kernel_rfl) (Turn.refl _ none).drew (fun hHeld => ?_)
      refine wpAnyH_more (S' := fun W => Turn (World.drew w) W none) (fun W h => (Turn.refl _ none).drew.trans h) _ _ _ _ ?_
      clear hHeld
      have hHeld : (fun W => Turn (World.drew w) W none) (World.drew w) := Turn.refl _ none
      (first | (refine wpAnyH_take (i := 1) (v := undef) rfl (by kernel_rfl) (by kernel_rfl) (by kernel_rfl) (fun _ _ _ h => h) (Or.inr ⟨rfl, rfl⟩) (by assumption) ?_) | (refine wpAnyH_take (i := 1) (v := ?_) rfl (by kernel_rfl) (by kernel_rfl) (by kernel_rfl) (fun _ _ _ h => h) (Or.inl ⟨rfl, ?_⟩) (by assumption) ?_; rotate_left 1; · (intro w hSw; (try dsimp only at hSw); go_simp; (try with_reducible rfl)))); (try simp only [Act.put, List.getElem_toArray, List.getElem_cons_zero, List.getElem_cons_succ, List.setIfInBounds_toArray, List.set_cons_zero, List.set_cons_succ])
      (first | (refine wpAnyH_take (i := 2) (v := undef) rfl (by kernel_rfl) (by kernel_rfl) (by kernel_rfl) (fun _ _ _ h => h) (Or.inr ⟨rfl, rfl⟩) (by assumption) ?_) | (refine wpAnyH_take (i := 2) (v := ?_) rfl (by kernel_rfl) (by kernel_rfl) (by kernel_rfl) (fun _ _ _ h => h) (Or.inl ⟨rfl, ?_⟩) (by assumption) ?_; rotate_left 1; · (intro w hSw; (try dsimp only at hSw); go_simp; (try with_reducible rfl)))); (try simp only [Act.put, List.getElem_toArray, List.getElem_cons_zero, List.getElem_cons_succ, List.setIfInBounds_toArray, List.set_cons_zero, List.set_cons_succ])
      (first | (refine wpAnyH_take (i := 3) (v := undef) rfl (by kernel_rfl) (by kernel_rfl) (by kernel_rfl) (fun _ _ _ h => h) (Or.inr ⟨rfl, rfl⟩) (by assumption) ?_) | (refine wpAnyH_take (i := 3) (v := ?_) rfl (by kernel_rfl) (by kernel_rfl) (by kernel_rfl) (fun _ _ _ h => h) (Or.inl ⟨rfl, ?_⟩) (by assumption) ?_; rotate_left 1; · (intro w hSw; (try dsimp only at hSw); go_simp; (try with_reducible rfl)))); (try simp only [Act.put, List.getElem_toArray, List.getElem_cons_zero, List.getElem_cons_succ, List.setIfInBounds_toArray, List.set_cons_zero, List.set_cons_succ])
      (first | (refine wpAnyH_take (i := 4) (v := undef) rfl (by kernel_rfl) (by kernel_rfl) (by kernel_rfl) (fun _ _ _ h => h) (Or.inr ⟨rfl, rfl⟩) (by assumption) ?_) | (refine wpAnyH_take (i := 4) (v := ?_) rfl (by kernel_rfl) (by kernel_rfl) (by kernel_rfl) (fun _ _ _ h => h) (Or.inl ⟨rfl, ?_⟩) (by assumption) ?_; rotate_left 1; · (intro w hSw; (try dsimp only at hSw); go_simp; (try with_reducible rfl)))); (try simp only [Act.put, List.getElem_toArray, List.getElem_cons_zero, List.getElem_cons_succ, List.setIfInBounds_toArray, List.set_cons_zero, List.set_cons_succ])
      (first | (refine wpAnyH_take (i := 5) (v := undef) rfl (by kernel_rfl) (by kernel_rfl) (by kernel_rfl) (fun _ _ _ h => h) (Or.inr ⟨rfl, rfl⟩) (by assumption) ?_) | (refine wpAnyH_take (i := 5) (v := ?_) rfl (by kernel_rfl) (by kernel_rfl) (by kernel_rfl) (fun _ _ _ h => h) (Or.inl ⟨rfl, ?_⟩) (by assumption) ?_; rotate_left 1; · (intro w hSw; (try dsimp only at hSw); go_simp; (try with_reducible rfl)))); (try simp only [Act.put, List.getElem_toArray, List.getElem_cons_zero, List.getElem_cons_succ, List.setIfInBounds_toArray, List.set_cons_zero, List.set_cons_succ])
      (first | (refine wpAnyH_take (i := 6) (v := undef) rfl (by kernel_rfl) (by kernel_rfl) (by kernel_rfl) (fun _ _ _ h => h) (Or.inr ⟨rfl, rfl⟩) (by assumption) ?_) | (refine wpAnyH_take (i := 6) (v := ?_) rfl (by kernel_rfl) (by kernel_rfl) (by kernel_rfl) (fun _ _ _ h => h) (Or.inl ⟨rfl, ?_⟩) (by assumption) ?_; rotate_left 1; · (intro w hSw; (try dsimp only at hSw); go_simp; (try with_reducible rfl)))); (try simp only [Act.put, List.getElem_toArray, List.getElem_cons_zero, List.getElem_cons_succ, List.setIfInBounds_toArray, List.set_cons_zero, List.set_cons_succ])
      (first | (refine wpAnyH_take (i := 8) (v := undef) rfl (by kernel_rfl) (by kernel_rfl) (by kernel_rfl) (fun _ _ _ h => h) (Or.inr ⟨rfl, rfl⟩) (by assumption) ?_) | (refine wpAnyH_take (i := 8) (v := ?_) rfl (by kernel_rfl) (by kernel_rfl) (by kernel_rfl) (fun _ _ _ h => h) (Or.inl ⟨rfl, ?_⟩) (by assumption) ?_; rotate_left 1; · (intro w hSw; (try dsimp only at hSw); go_simp; (try with_reducible rfl)))); (try simp only [Act.put, List.getElem_toArray, List.getElem_cons_zero, List.getElem_cons_succ, List.setIfInBounds_toArray, List.set_cons_zero, List.set_cons_succ])
      (first | (refine wpAnyH_take (i := 9) (v := undef) rfl (by kernel_rfl) (by kernel_rfl) (by kernel_rfl) (fun _ _ _ h => h) (Or.inr ⟨rfl, rfl⟩) (by assumption) ?_) | (refine wpAnyH_take (i := 9) (v := ?_) rfl (by kernel_rfl) (by kernel_rfl) (by kernel_rfl) (fun _ _ _ h => h) (Or.inl ⟨rfl, ?_⟩) (by assumption) ?_; rotate_left 1; · (intro w hSw; (try dsimp only at hSw); go_simp; (try with_reducible rfl)))); (try simp only [Act.put, List.getElem_toArray, List.getElem_cons_zero, List.getElem_cons_succ, List.setIfInBounds_toArray, List.set_cons_zero, List.set_cons_succ])
      (first | (refine wpAnyH_take (i := 10) (v := undef) rfl (by kernel_rfl) (by kernel_rfl) (by kernel_rfl) (fun _ _ _ h => h) (Or.inr ⟨rfl, rfl⟩) (by assumption) ?_) | (refine wpAnyH_take (i := 10) (v := ?_) rfl (by kernel_rfl) (by kernel_rfl) (by kernel_rfl) (fun _ _ _ h => h) (Or.inl ⟨rfl, ?_⟩) (by assumption) ?_; rotate_left 1; · (intro w hSw; (try dsimp only at hSw); go_simp; (try with_reducible rfl)))); (try simp only [Act.put, List.getElem_toArray, List.getElem_cons_zero, List.getElem_cons_succ, List.setIfInBounds_toArray, List.set_cons_zero, List.set_cons_succ])
      (first | (refine wpAnyH_take (i := 11) (v := undef) rfl (by kernel_rfl) (by kernel_rfl) (by kernel_rfl) (fun _ _ _ h => h) (Or.inr ⟨rfl, rfl⟩) (by assumption) ?_) | (refine wpAnyH_take (i := 11) (v := ?_) rfl (by kernel_rfl) (by kernel_rfl) (by kernel_rfl) (fun _ _ _ h => h) (Or.inl ⟨rfl, ?_⟩) (by assumption) ?_; rotate_left 1; · (intro w hSw; (try dsimp only at hSw); go_simp; (try with_reducible rfl)))); (try simp only [Act.put, List.getElem_toArray, List.getElem_cons_zero, List.getElem_cons_succ, List.setIfInBounds_toArray, List.set_cons_zero, List.set_cons_succ])
      (first | (refine wpAnyH_take (i := 12) (v := undef) rfl (by kernel_rfl) (by kernel_rfl) (by kernel_rfl) (fun _ _ _ h => h) (Or.inr ⟨rfl, rfl⟩) (by assumption) ?_) | (refine wpAnyH_take (i := 12) (v := ?_) rfl (by kernel_rfl) (by kernel_rfl) (by kernel_rfl) (fun _ _ _ h => h) (Or.inl ⟨rfl, ?_⟩) (by assumption) ?_; rotate_left 1; · (intro w hSw; (try dsimp only at hSw); go_simp; (try with_reducible rfl)))); (try simp only [Act.put, List.getElem_toArray, List.getElem_cons_zero, List.getElem_cons_succ, List.setIfInBounds_toArray, List.set_cons_zero, List.set_cons_succ])
      (first | (refine wpAnyH_take (i := 13) (v := undef) rfl (by kernel_rfl) (by kernel_rfl) (by kernel_rfl) (fun _ _ _ h => h) (Or.inr ⟨rfl, rfl⟩) (by assumption) ?_) | (refine wpAnyH_take (i := 13) (v := ?_) rfl (by kernel_rfl) (by kernel_rfl) (by kernel_rfl) (fun _ _ _ h => h) (Or.inl ⟨rfl, ?_⟩) (by assumption) ?_; rotate_left 1; · (intro w hSw; (try dsimp only at hSw); go_simp; (try with_reducible rfl)))); (try simp only [Act.put, List.getElem_toArray, List.getElem_cons_zero, List.getElem_cons_succ, List.setIfInBounds_toArray, List.set_cons_zero, List.set_cons_succ])
      refine wpAnyH_ready (rs := [0]) (by kernel_rfl) (by simp) ?_; refine AllReadyH.cons rfl (fun K hK => ?_) AllReadyH.nil
      go_simp
      refine hK.out _ _ ((Turn.refl (World.drew w) none).alloc (.cells #[] 5)) (fun hHeld => ?_); clear hK K; (try simp only [Act.put, List.getElem_toArray, List.getElem_cons_zero, List.getElem_cons_succ, List.setIfInBounds_toArray, List.set_cons_zero, List.set_cons_succ])
      have h00 : Own ((World.drew w).alloc (.cells #[] 5)) w.heap.size 5 1 (some ⟨w.heap.size, 0, none⟩) 0 0 [] := Own.made (World.drew w) _ _ 1 0 #[] (Nat.le_refl _) (by decide) rfl
      refine wpAnyH_ready (rs := [7]) (by kernel_rfl) (by simp) ?_; refine AllReadyH.cons rfl (fun K hK => ?_) AllReadyH.nil
      refine st_appF rfl _ _ _ rfl elB rfl rfl h00 ((hf.z.rd.drew).alloc (Nat.le_refl _) (.cells #[] 5)) (vbs_one (D.f 0).ot) (by have q1 := hf.x.n; have q2 := hf.y.n; have q3 := hf.z.n; omega) (by show _ ≤ (w.heap.push _).size; rw [Array.size_push]; omega) ?_
      intro A5 c5 w5 ho5 hc5
      have t5 : Turn (World.drew w) w5 none := by
        rcases hc5 with ⟨_, _, q⟩ | ⟨_, q⟩
        · exact ((Turn.refl (World.drew w) none).alloc _).new q (fun g hg => by simp [blk] at hg; subst hg; exact Nat.le_refl _)
        · exact ((Turn.refl (World.drew w) none).alloc _).trans q
      simp only [Nat.zero_add, List.nil_append] at ho5 ⊢
      refine hK.out _ _ t5 (fun hHeld => ?_); clear hK K; (try simp only [Act.put, List.getElem_toArray, List.getElem_cons_zero, List.getElem_cons_succ, List.setIfInBounds_toArray, List.set_cons_zero, List.set_cons_succ])
      refine wpAnyH_ready (rs := [14]) (by kernel_rfl) (by simp) ?_; refine AllReadyH.cons rfl (fun K hK => ?_) AllReadyH.nil
      refine st_appF rfl _ _ _ rfl elB rfl rfl ho5 (hf.y.rd.drew.turn0 t5 (Nat.le_refl _)) (vbs_one (D.f 0).mo) (by have q1 := hf.x.n; have q2 := hf.y.n; have q3 := hf.z.n; omega) t5.size ?_
      intro A6 c6 w6 ho6 hc6
      have t6 : Turn (World.drew w) w6 none := by
        rcases hc6 with ⟨_, _, q⟩ | ⟨_, q⟩
        · exact t5.new q (fun g hg => (ho5.block g hg).1)
        · exact t5.trans q
      refine hK.out _ _ t6 (fun hHeld => ?_); clear hK K; (try simp only [Act.put, List.getElem_toArray, List.getElem_cons_zero, List.getElem_cons_succ, List.setIfInBounds_toArray, List.set_cons_zero, List.set_cons_succ])
      (first | (refine wpAnyH_take (i := 15) (v := undef) rfl (by kernel_rfl) (by kernel_rfl) (by kernel_rfl) (fun _ _ _ h => h) (Or.inr ⟨rfl, rfl⟩) (by assumption) ?_) | (refine wpAnyH_take (i := 15) (v := ?_) rfl (by kernel_rfl) (by kernel_rfl) (by kernel_rfl) (fun _ _ _ h => h) (Or.inl ⟨rfl, ?_⟩) (by assumption) ?_; rotate_left 1; · (intro w hSw; (try dsimp only at hSw); go_simp; (try with_reducible rfl)))); (try simp only [Act.put, List.getElem_toArray, List.getElem_cons_zero, List.getElem_cons_succ, List.setIfInBounds_toArray, List.set_cons_zero, List.set_cons_succ])
      refine wpAnyH_done (by kernel_rfl) ?_ _
      refine NoPanic.normal ?_
      clear hHeld
      go_wp2
      go_ret
      refine ⟨⟨A6, (z 0).n + (y 0).n, c6⟩, rfl, by show (z 0).n + (y 0).n = _; have q1 := hf.x.n; have q2 := hf.y.n; have q3 := hf.z.n; omega, ?_, t6.undrew⟩
      rw [vbs_append]
      exact ho6
    · have c6 := h.b.ats (j := 7) (v := .bool (D.f 1).is) rfl
      rw [hi] at c6
      have C1 := cel h.b (k := 5) (v := .slice (z 1).A (z 1).n (z 1).c) rfl
      have C2 := cel h.b (k := 3) (v := .slice (y 1).A (y 1).n (y 1).c) rfl
      go_enter Try.func32, Try.ntmps32
      go_wp2
      refine wp_region_noPanic ?_
      refine wp_region_held_drew (S := fun W => Turn w W none) (by kernel_rfl) (Turn.refl _ none).drew (fun hHeld => ?_)
      refine wpAnyH_more (S' := fun W => Turn (World.drew w) W none) (fun W h => (Turn.refl _ none).drew.trans h) _ _ _ _ ?_
      clear hHeld
      have hHeld : (fun W => Turn (World.drew w) W none) (World.drew w) := Turn.refl _ none
      (first | (refine wpAnyH_take (i := 1) (v := undef) rfl (by kernel_rfl) (by kernel_rfl) (by kernel_rfl) (fun _ _ _ h => h) (Or.inr ⟨rfl, rfl⟩) (by assumption) ?_) | (refine wpAnyH_take (i := 1) (v := ?_) rfl (by kernel_rfl) (by kernel_rfl) (by kernel_rfl) (fun _ _ _ h => h) (Or.inl ⟨rfl, ?_⟩) (by assumption) ?_; rotate_left 1; · (intro w hSw; (try dsimp only at hSw); go_simp; (try with_reducible rfl)))); (try simp only [Act.put, List.getElem_toArray, List.getElem_cons_zero, List.getElem_cons_succ, List.setIfInBounds_toArray, List.set_cons_zero, List.set_cons_succ])
      (first | (refine wpAnyH_take (i := 2) (v := undef) rfl (by kernel_rfl) (by kernel_rfl) (by kernel_rfl) (fun _ _ _ h => h) (Or.inr ⟨rfl, rfl⟩) (by assumption) ?_) | (refine wpAnyH_take (i := 2) (v := ?_) rfl (by kernel_rfl) (by kernel_rfl) (by kernel_rfl) (fun _ _ _ h => h) (Or.inl ⟨rfl, ?_⟩) (by assumption) ?_; rotate_left 1; · (intro w hSw; (try dsimp only at hSw); go_simp; (try with_reducible rfl)))); (try simp only [Act.put, List.getElem_toArray, List.getElem_cons_zero, List.getElem_cons_succ, List.setIfInBounds_toArray, List.set_cons_zero, List.set_cons_succ])
      (first | (refine wpAnyH_take (i := 3) (v := undef) rfl (by kernel_rfl) (by kernel_rfl) (by kernel_rfl) (fun _ _ _ h => h) (Or.inr ⟨rfl, rfl⟩) (by assumption) ?_) | (refine wpAnyH_take (i := 3) (v := ?_) rfl (by kernel_rfl) (by kernel_rfl) (by kernel_rfl) (fun _ _ _ h => h) (Or.inl ⟨rfl, ?_⟩) (by assumption) ?_; rotate_left 1; · (intro w hSw; (try dsimp only at hSw); go_simp; (try with_reducible rfl)))); (try simp only [Act.put, List.getElem_toArray, List.getElem_cons_zero, List.getElem_cons_succ, List.setIfInBounds_toArray, List.set_cons_zero, List.set_cons_succ])
      (first | (refine wpAnyH_take (i := 4) (v := undef) rfl (by kernel_rfl) (by kernel_rfl) (by kernel_rfl) (fun _ _ _ h => h) (Or.inr ⟨rfl, rfl⟩) (by assumption) ?_) | (refine wpAnyH_take (i := 4) (v := ?_) rfl (by kernel_rfl) (by kernel_rfl) (by kernel_rfl) (fun _ _ _ h => h) (Or.inl ⟨rfl, ?_⟩) (by assumption) ?_; rotate_left 1; · (intro w hSw; (try dsimp only at hSw); go_simp; (try with_reducible rfl)))); (try simp only [Act.put, List.getElem_toArray, List.getElem_cons_zero, List.getElem_cons_succ, List.setIfInBounds_toArray, List.set_cons_zero, List.set_cons_succ])
      (first | (refine wpAnyH_take (i := 5) (v := undef) rfl (by kernel_rfl) (by kernel_rfl) (by kernel_rfl) (fun _ _ _ h => h) (Or.inr ⟨rfl, rfl⟩) (by assumption) ?_) | (refine wpAnyH_take (i := 5) (v := ?_) rfl (by kernel_rfl) (by kernel_rfl) (by kernel_rfl) (fun _ _ _ h => h) (Or.inl ⟨rfl, ?_⟩) (by assumption) ?_; rotate_left 1; · (intro w hSw; (try dsimp only at hSw); go_simp; (try with_reducible rfl)))); (try simp only [Act.put, List.getElem_toArray, List.getElem_cons_zero, List.getElem_cons_succ, List.setIfInBounds_toArray, List.set_cons_zero, List.set_cons_succ])
      (first | (refine wpAnyH_take (i := 6) (v := undef) rfl (by kernel_rfl) (by kernel_rfl) (by kernel_rfl) (fun _ _ _ h => h) (Or.inr ⟨rfl, rfl⟩) (by assumption) ?_) | (refine wpAnyH_take (i := 6) (v := ?_) rfl (by kernel_rfl) (by kernel_rfl) (by kernel_rfl) (fun _ _ _ h => h) (Or.inl ⟨rfl, ?_⟩) (by assumption) ?_; rotate_left 1; · (intro w hSw; (try dsimp only at hSw); go_simp; (try with_reducible rfl)))); (try simp only [Act.put, List.getElem_toArray, List.getElem_cons_zero, List.getElem_cons_succ, List.setIfInBounds_toArray, List.set_cons_zero, List.set_cons_succ])
      (first | (refine wpAnyH_take (i := 8) (v := undef) rfl (by kernel_rfl) (by kernel_rfl) (by kernel_rfl) (fun _ _ _ h => h) (Or.inr ⟨rfl, rfl⟩) (by assumption) ?_) | (refine wpAnyH_take (i := 8) (v := ?_) rfl (by kernel_rfl) (by kernel_rfl) (by kernel_rfl) (fun _ _ _ h => h) (Or.inl ⟨rfl, ?_⟩) (by assumption) ?_; rotate_left 1; · (intro w hSw; (try dsimp only at hSw); go_simp; (try with_reducible rfl)))); (try simp only [Act.put, List.getElem_toArray, List.getElem_cons_zero, List.getElem_cons_succ, List.setIfInBounds_toArray, List.set_cons_zero, List.set_cons_succ])
      (first | (refine wpAnyH_take (i := 9) (v := undef) rfl (by kernel_rfl) (by kernel_rfl) (by kernel_rfl) (fun _ _ _ h => h) (Or.inr ⟨rfl, rfl⟩) (by assumption) ?_) | (refine wpAnyH_take (i := 9) (v := ?_) rfl (by kernel_rfl) (by kernel_rfl) (by kernel_rfl) (fun _ _ _ h => h) (Or.inl ⟨rfl, ?_⟩) (by assumption) ?_; rotate_left 1; · (intro w hSw; (try dsimp only at hSw); go_simp; (try with_reducible rfl)))); (try simp only [Act.put, List.getElem_toArray, List.getElem_cons_zero, List.getElem_cons_succ, List.setIfInBounds_toArray, List.set_cons_zero, List.set_cons_succ])
      (first | (refine wpAnyH_take (i := 10) (v := undef) rfl (by kernel_rfl) (by kernel_rfl) (by kernel_rfl) (fun _ _ _ h => h) (Or.inr ⟨rfl, rfl⟩) (by assumption) ?_) | (refine wpAnyH_take (i := 10) (v := ?_) rfl (by kernel_rfl) (by kernel_rfl) (by kernel_rfl) (fun _ _ _ h => h) (Or.inl ⟨rfl, ?_⟩) (by assumption) ?_; rotate_left 1; · (intro w hSw; (try dsimp only at hSw); go_simp; (try with_reducible rfl)))); (try simp only [Act.put, List.getElem_toArray, List.getElem_cons_zero, List.getElem_cons_succ, List.setIfInBounds_toArray, List.set_cons_zero, List.set_cons_succ])
      (first | (refine wpAnyH_take (i := 11) (v := undef) rfl (by kernel_rfl) (by kernel_rfl) (by kernel_rfl) (fun _ _ _ h => h) (Or.inr ⟨rfl, rfl⟩) (by assumption) ?_) | (refine wpAnyH_take (i := 11) (v := ?_) rfl (by kernel_rfl) (by kernel_rfl) (by kernel_rfl) (fun _ _ _ h => h) (Or.inl ⟨rfl, ?_⟩) (by assumption) ?_; rotate_left 1; · (intro w hSw; (try dsimp only at hSw); go_simp; (try with_reducible rfl)))); (try simp only [Act.put, List.getElem_toArray, List.getElem_cons_zero, List.getElem_cons_succ, List.setIfInBounds_toArray, List.set_cons_zero, List.set_cons_succ])
      (first | (refine wpAnyH_take (i := 12) (v := undef) rfl (by kernel_rfl) (by kernel_rfl) (by kernel_rfl) (fun _ _ _ h => h) (Or.inr ⟨rfl, rfl⟩) (by assumption) ?_) | (refine wpAnyH_take (i := 12) (v := ?_) rfl (by kernel_rfl) (by kernel_rfl) (by kernel_rfl) (fun _ _ _ h => h) (Or.inl ⟨rfl, ?_⟩) (by assumption) ?_; rotate_left 1; · (intro w hSw; (try dsimp only at hSw); go_simp; (try with_reducible rfl)))); (try simp only [Act.put, List.getElem_toArray, List.getElem_cons_zero, List.getElem_cons_succ, List.setIfInBounds_toArray, List.set_cons_zero, List.set_cons_succ])
      (first | (refine wpAnyH_take (i := 13) (v := undef) rfl (by kernel_rfl) (by kernel_rfl) (by kernel_rfl) (fun _ _ _ h => h) (Or.inr ⟨rfl, rfl⟩) (by assumption) ?_) | (refine wpAnyH_take (i := 13) (v := ?_) rfl (by kernel_rfl) (by kernel_rfl) (by kernel_rfl) (fun _ _ _ h => h) (Or.inl ⟨rfl, ?_⟩) (by assumption) ?_; rotate_left 1; · (intro w hSw; (try dsimp only at hSw); go_simp; (try with_reducible rfl)))); (try simp only [Act.put, List.getElem_toArray, List.getElem_cons_zero, List.getElem_cons_succ, List.setIfInBounds_toArray, List.set_cons_zero, List.set_cons_succ])
      refine wpAnyH_ready (rs := [0]) (by kernel_rfl) (by simp) ?_; refine AllReadyH.cons rfl (fun K hK => ?_) AllReadyH.nil
      go_simp
      refine hK.out _ _ ((Turn.refl (World.drew w) none).alloc (.cells #[] 5)) (fun hHeld => ?_); clear hK K; (try simp only [Act.put, List.getElem_toArray, List.getElem_cons_zero, List.getElem_cons_succ, List.setIfInBounds_toArray, List.set_cons_zero, List.set_cons_succ])
      have h00 : Own ((World.drew w).alloc (.cells #[] 5)) w.heap.size 5 1 (some ⟨w.heap.size, 0, none⟩) 0 0 [] := Own.made (World.drew w) _ _ 1 0 #[] (Nat.le_refl _) (by decide) rfl
      refine wpAnyH_ready (rs := [7]) (by kernel_rfl) (by simp) ?_; refine AllReadyH.cons rfl (fun K hK => ?_) AllReadyH.nil
      refine st_appF rfl _ _ _ rfl elB rfl rfl h00 ((hf.z.rd.drew).alloc (Nat.le_refl _) (.cells #[] 5)) (vbs_one (D.f 1).ot) (by have q1 := hf.x.n; have q2 := hf.y.n; have q3 := hf.z.n; omega) (by show _ ≤ (w.heap.push _).size; rw [Array.size_push]; omega) ?_
      intro A5 c5 w5 ho5 hc5
      have t5 : Turn (World.drew w) w5 none := by
        rcases hc5 with ⟨_, _, q⟩ | ⟨_, q⟩
        · exact ((Turn.refl (World.drew w) none).alloc _).new q (fun g hg => by simp [blk] at hg; subst hg; exact Nat.le_refl _)
        · exact ((Turn.refl (World.drew w) none).alloc _).trans q
      simp only [Nat.zero_add, List.nil_append] at ho5 ⊢
      refine hK.out _ _ t5 (fun hHeld => ?_); clear hK K; (try simp only [Act.put, List.getElem_toArray, List.getElem_cons_zero, List.getElem_cons_succ, List.setIfInBounds_toArray, List.set_cons_zero, List.set_cons_succ])
      refine wpAnyH_ready (rs := [14]) (by kernel_rfl) (by simp) ?_; refine AllReadyH.cons rfl (fun K hK => ?_) AllReadyH.nil
      refine st_appF rfl _ _ _ rfl elB rfl rfl ho5 (hf.y.rd.drew.turn0 t5 (Nat.le_refl _)) (vbs_one (D.f 1).mo) (by have q1 := hf.x.n; have q2 := hf.y.n; have q3 := hf.z.n; omega) t5.size ?_
      intro A6 c6 w6 ho6 hc6
      have t6 : Turn (World.drew w) w6 none := by
        rcases hc6 with ⟨_, _, q⟩ | ⟨_, q⟩
        · exact t5.new q (fun g hg => (ho5.block g hg).1)
        · exact t5.trans q
      refine hK.out _ _ t6 (fun hHeld => ?_); clear hK K; (try simp only [Act.put, List.getElem_toArray, List.getElem_cons_zero, List.getElem_cons_succ, List.setIfInBounds_toArray, List.set_cons_zero, List.set_cons_succ])
      (first | (refine wpAnyH_take (i := 15) (v := undef) rfl (by kernel_rfl) (by kernel_rfl) (by kernel_rfl) (fun _ _ _ h => h) (Or.inr ⟨rfl, rfl⟩) (by assumption) ?_) | (refine wpAnyH_take (i := 15) (v := ?_) rfl (by kernel_rfl) (by kernel_rfl) (by kernel_rfl) (fun _ _ _ h => h) (Or.inl ⟨rfl, ?_⟩) (by assumption) ?_; rotate_left 1; · (intro w hSw; (try dsimp only at hSw); go_simp; (try with_reducible rfl)))); (try simp only [Act.put, List.getElem_toArray, List.getElem_cons_zero, List.getElem_cons_succ, List.setIfInBounds_toArray, List.set_cons_zero, List.set_cons_succ])
      refine wpAnyH_done (by kernel_rfl) ?_ _
      refine NoPanic.normal ?_
      clear hHeld
      go_wp2
      go_ret
      refine ⟨⟨A6, (z 1).n + (y 1).n, c6⟩, rfl, by show (z 1).n + (y 1).n = _; have q1 := hf.x.n; have q2 := hf.y.n; have q3 := hf.z.n; omega, ?_, t6.undrew⟩
      rw [vbs_append]
      exact ho6
  | false =>
    have e : (D.f j).all = (D.f j).fa ++ (D.f j).mo := by simp [Fi.all, hi]
    rw [e, List.length_append] at hal
    rw [e]
    clear e
    obtain rfl | rfl : j = 0 ∨ j = 1 := by omega
    · have c6 := h.b.ats (j := 6) (v := .bool (D.f 0).is) rfl
      rw [hi] at c6
      have C1 := cel h.b (k := 0) (v := .slice (x 0).A (x 0).n (x 0).c) rfl
      have C2 := cel h.b (k := 2) (v := .slice (y 0).A (y 0).n (y 0).c) rfl
      go_enter Try.func32, Try.ntmps32
      go_wp2
      refine wp_region_noPanic ?_
      refine wp_region_held_drew (S := fun W => Turn w W none) (by kernel_rfl) (Turn.refl _ none).drew (fun hHeld => ?_)
      refine wpAnyH_more (S' := fun W => Turn (World.drew w) W none) (fun W h => (Turn.refl _ none).drew.trans h) _ _ _ _ ?_
      clear hHeld
      have hHeld : (fun W => Turn (World.drew w) W none) (World.drew w) := Turn.refl _ none
      (first | (refine wpAnyH_take (i := 1) (v := undef) rfl (by kernel_rfl) (by kernel_rfl) (by kernel_rfl) (fun _ _ _ h => h) (Or.inr ⟨rfl, rfl⟩) (by assumption) ?_) | (refine wpAnyH_take (i := 1) (v := ?_) rfl (by kernel_rfl) (by kernel_rfl) (by kernel_rfl) (fun _ _ _ h => h) (Or.inl ⟨rfl, ?_⟩) (by assumption) ?_; rotate_left 1; · (intro w hSw; (try dsimp only at hSw); go_simp; (try with_reducible rfl)))); (try simp only [Act.put, List.getElem_toArray, List.getElem_cons_zero, List.getElem_cons_succ, List.setIfInBounds_toArray, List.set_cons_zero, List.set_cons_succ])
      (first | (refine wpAnyH_take (i := 2) (v := undef) rfl (by kernel_rfl) (by kernel_rfl) (by kernel_rfl) (fun _ _ _ h => h) (Or.inr ⟨rfl, rfl⟩) (by assumption) ?_) | (refine wpAnyH_take (i := 2) (v := ?_) rfl (by kernel_rfl) (by kernel_rfl) (by kernel_rfl) (fun _ _ _ h => h) (Or.inl ⟨rfl, ?_⟩) (by assumption) ?_; rotate_left 1; · (intro w hSw; (try dsimp only at hSw); go_simp; (try with_reducible rfl)))); (try simp only [Act.put, List.getElem_toArray, List.getElem_cons_zero, List.getElem_cons_succ, List.setIfInBounds_toArray, List.set_cons_zero, List.set_cons_succ])
      (first | (refine wpAnyH_take (i := 3) (v := undef) rfl (by kernel_rfl) (by kernel_rfl) (by kernel_rfl) (fun _ _ _ h => h) (Or.inr ⟨rfl, rfl⟩) (by assumption) ?_) | (refine wpAnyH_take (i := 3) (v := ?_) rfl (by kernel_rfl) (by kernel_rfl) (by kernel_rfl) (fun _ _ _ h => h) (Or.inl ⟨rfl, ?_⟩) (by assumption) ?_; rotate_left 1; · (intro w hSw; (try dsimp only at hSw); go_simp; (try with_reducible rfl)))); (try simp only [Act.put, List.getElem_toArray, List.getElem_cons_zero, List.getElem_cons_succ, List.setIfInBounds_toArray, List.set_cons_zero, List.set_cons_succ])
      (first | (refine wpAnyH_take (i := 4) (v := undef) rfl (by kernel_rfl) (by kernel_rfl) (by kernel_rfl) (fun _ _ _ h => h) (Or.inr ⟨rfl, rfl⟩) (by assumption) ?_) | (refine wpAnyH_take (i := 4) (v := ?_) rfl (by kernel_rfl) (by kernel_rfl) (by kernel_rfl) (fun _ _ _ h => h) (Or.inl ⟨rfl, ?_⟩) (by assumption) ?_; rotate_left 1; · (intro w hSw; (try dsimp only at hSw); go_simp; (try with_reducible rfl)))); (try simp only [Act.put, List.getElem_toArray, List.getElem_cons_zero, List.getElem_cons_succ, List.setIfInBounds_toArray, List.set_cons_zero, List.set_cons_succ])
      (first | (refine wpAnyH_take (i := 5) (v := undef) rfl (by kernel_rfl) (by kernel_rfl) (by kernel_rfl) (fun _ _ _ h => h) (Or.inr ⟨rfl, rfl⟩) (by assumption) ?_) | (refine wpAnyH_take (i := 5) (v := ?_) rfl (by kernel_rfl) (by kernel_rfl) (by kernel_rfl) (fun _ _ _ h => h) (Or.inl ⟨rfl, ?_⟩) (by assumption) ?_; rotate_left 1; · (intro w hSw; (try dsimp only at hSw); go_simp; (try with_reducible rfl)))); (try simp only [Act.put, List.getElem_toArray, List.getElem_cons_zero, List.getElem_cons_succ, List.setIfInBounds_toArray, List.set_cons_zero, List.set_cons_succ])
      (first | (refine wpAnyH_take (i := 6) (v := undef) rfl (by kernel_rfl) (by kernel_rfl) (by kernel_rfl) (fun _ _ _ h => h) (Or.inr ⟨rfl, rfl⟩) (by assumption) ?_) | (refine wpAnyH_take (i := 6) (v := ?_) rfl (by kernel_rfl) (by kernel_rfl) (by kernel_rfl) (fun _ _ _ h => h) (Or.inl ⟨rfl, ?_⟩) (by assumption) ?_; rotate_left 1; · (intro w hSw; (try dsimp only at hSw); go_simp; (try with_reducible rfl)))); (try simp only [Act.put, List.getElem_toArray, List.getElem_cons_zero, List.getElem_cons_succ, List.setIfInBounds_toArray, List.set_cons_zero, List.set_cons_succ])
      (first | (refine wpAnyH_take (i := 8) (v := undef) rfl (by kernel_rfl) (by kernel_rfl) (by kernel_rfl) (fun _ _ _ h => h) (Or.inr ⟨rfl, rfl⟩) (by assumption) ?_) | (refine wpAnyH_take (i := 8) (v := ?_) rfl (by kernel_rfl) (by kernel_rfl) (by kernel_rfl) (fun _ _ _ h => h) (Or.inl ⟨rfl, ?_⟩) (by assumption) ?_; rotate_left 1; · (intro w hSw; (try dsimp only at hSw); go_simp; (try with_reducible rfl)))); (try simp only [Act.put, List.getElem_toArray, List.getElem_cons_zero, List.getElem_cons_succ, List.setIfInBounds_toArray, List.set_cons_zero, List.set_cons_succ])
      (first | (refine wpAnyH_take (i := 9) (v := undef) rfl (by kernel_rfl) (by kernel_rfl) (by kernel_rfl) (fun _ _ _ h => h) (Or.inr ⟨rfl, rfl⟩) (by assumption) ?_) | (refine wpAnyH_take (i := 9) (v := ?_) rfl (by kernel_rfl) (by kernel_rfl) (by kernel_rfl) (fun _ _ _ h => h) (Or.inl ⟨rfl, ?_⟩) (by assumption) ?_; rotate_left 1; · (intro w hSw; (try dsimp only at hSw); go_simp; (try with_reducible rfl)))); (try simp only [Act.put, List.getElem_toArray, List.getElem_cons_zero, List.getElem_cons_succ, List.setIfInBounds_toArray, List.set_cons_zero, List.set_cons_succ])
      (first | (refine wpAnyH_take (i := 10) (v := undef) rfl (by kernel_rfl) (by kernel_rfl) (by kernel_rfl) (fun _ _ _ h => h) (Or.inr ⟨rfl, rfl⟩) (by assumption) ?_) | (refine wpAnyH_take (i := 10) (v := ?_) rfl (by kernel_rfl) (by kernel_rfl) (by kernel_rfl) (fun _ _ _ h => h) (Or.inl ⟨rfl, ?_⟩) (by assumption) ?_; rotate_left 1; · (intro w hSw; (try dsimp only at hSw); go_simp; (try with_reducible rfl)))); (try simp only [Act.put, List.getElem_toArray, List.getElem_cons_zero, List.getElem_cons_succ, List.setIfInBounds_toArray, List.set_cons_zero, List.set_cons_succ])
      (first | (refine wpAnyH_take (i := 11) (v := undef) rfl (by kernel_rfl) (by kernel_rfl) (by kernel_rfl) (fun _ _ _ h => h) (Or.inr ⟨rfl, rfl⟩) (by assumption) ?_) | (refine wpAnyH_take (i := 11) (v := ?_) rfl (by kernel_rfl) (by kernel_rfl) (by kernel_rfl) (fun _ _ _ h => h) (Or.inl ⟨rfl, ?_⟩) (by assumption) ?_; rotate_left 1; · (intro w hSw; (try dsimp only at hSw); go_simp; (try with_reducible rfl)))); (try simp only [Act.put, List.getElem_toArray, List.getElem_cons_zero, List.getElem_cons_succ, List.setIfInBounds_toArray, List.set_cons_zero, List.set_cons_succ])
      (first | (refine wpAnyH_take (i := 12) (v := undef) rfl (by kernel_rfl) (by kernel_rfl) (by kernel_rfl) (fun _ _ _ h => h) (Or.inr ⟨rfl, rfl⟩) (by assumption) ?_) | (refine wpAnyH_take (i := 12) (v := ?_) rfl (by kernel_rfl) (by kernel_rfl) (by kernel_rfl) (fun _ _ _ h => h) (Or.inl ⟨rfl, ?_⟩) (by assumption) ?_; rotate_left 1; · (intro w hSw; (try dsimp only at hSw); go_simp; (try with_reducible rfl)))); (try simp only [Act.put, List.getElem_toArray, List.getElem_cons_zero, List.getElem_cons_succ, List.setIfInBounds_toArray, List.set_cons_zero, List.set_cons_succ])
      (first | (refine wpAnyH_take (i := 13) (v := undef) rfl (by kernel_rfl) (by kernel_rfl) (by kernel_rfl) (fun _ _ _ h => h) (Or.inr ⟨rfl, rfl⟩) (by assumption) ?_) | (refine wpAnyH_take (i := 13) (v := ?_) rfl (by kernel_rfl) (by kernel_rfl) (by kernel_rfl) (fun _ _ _ h => h) (Or.inl ⟨rfl, ?_⟩) (by assumption) ?_; rotate_left 1; · (intro w hSw; (try dsimp only at hSw); go_simp; (try with_reducible rfl)))); (try simp only [Act.put, List.getElem_toArray, List.getElem_cons_zero, List.getElem_cons_succ, List.setIfInBounds_toArray, List.set_cons_zero, List.set_cons_succ])
      refine wpAnyH_ready (rs := [0]) (by kernel_rfl) (by simp) ?_; refine AllReadyH.cons rfl (fun K hK => ?_) AllReadyH.nil
      go_simp
      refine hK.out _ _ ((Turn.refl (World.drew w) none).alloc (.cells #[] 5)) (fun hHeld => ?_); clear hK K; (try simp only [Act.put, List.getElem_toArray, List.getElem_cons_zero, List.getElem_cons_succ, List.setIfInBounds_toArray, List.set_cons_zero, List.set_cons_succ])
      have h00 : Own ((World.drew w).alloc (.cells #[] 5)) w.heap.size 5 1 (some ⟨w.heap.size, 0, none⟩) 0 0 [] := Own.made (World.drew w) _ _ 1 0 #[] (Nat.le_refl _) (by decide) rfl
      refine wpAnyH_ready (rs := [7]) (by kernel_rfl) (by simp) ?_; refine AllReadyH.cons rfl (fun K hK => ?_) AllReadyH.nil
      refine st_appF rfl _ _ _ rfl elB rfl rfl h00 ((hf.x.rd.drew).alloc (Nat.le_refl _) (.cells #[] 5)) (vbs_one (D.f 0).fa) (by have q1 := hf.x.n; have q2 := hf.y.n; have q3 := hf.z.n; omega) (by show _ ≤ (w.heap.push _).size; rw [Array.size_push]; omega) ?_
      intro A5 c5 w5 ho5 hc5
      have t5 : Turn (World.drew w) w5 none := by
        rcases hc5 with ⟨_, _, q⟩ | ⟨_, q⟩
        · exact ((Turn.refl (World.drew w) none).alloc _).new q (fun g hg => by simp [blk] at hg; subst hg; exact Nat.le_refl _)
        · exact ((Turn.refl (World.drew w) none).alloc _).trans q
      simp only [Nat.zero_add, List.nil_append] at ho5 ⊢
      refine hK.out _ _ t5 (fun hHeld => ?_); clear hK K; (try simp only [Act.put, List.getElem_toArray, List.getElem_cons_zero, List.getElem_cons_succ, List.setIfInBounds_toArray, List.set_cons_zero, List.set_cons_succ])
      refine wpAnyH_ready (rs := [14]) (by kernel_rfl) (by simp) ?_; refine AllReadyH.cons rfl (fun K hK => ?_) AllReadyH.nil
      refine st_appF rfl _ _ _ rfl elB rfl rfl ho5 (hf.y.rd.drew.turn0 t5 (Nat.le_refl _)) (vbs_one (D.f 0).mo) (by have q1 := hf.x.n; have q2 := hf.y.n; have q3 := hf.z.n; omega) t5.size ?_
      intro A6 c6 w6 ho6 hc6
      have t6 : Turn (World.drew w) w6 none := by
        rcases hc6 with ⟨_, _, q⟩ | ⟨_, q⟩
        · exact t5.new q (fun g hg => (ho5.block g hg).1)
        · exact t5.trans q
      refine hK.out _ _ t6 (fun hHeld => ?_); clear hK K; (try simp only [Act.put, List.getElem_toArray, List.getElem_cons_zero, List.getElem_cons_succ, List.setIfInBounds_toArray, List.set_cons_zero, List.set_cons_succ])
      (first | (refine wpAnyH_take (i := 15) (v := undef) rfl (by kernel_rfl) (by kernel_rfl) (by kernel_rfl) (fun _ _ _ h => h) (Or.inr ⟨rfl, rfl⟩) (by assumption) ?_) | (refine wpAnyH_take (i := 15) (v := ?_) rfl (by kernel_rfl) (by kernel_rfl) (by kernel_rfl) (fun _ _ _ h => h) (Or.inl ⟨rfl, ?_⟩) (by assumption) ?_; rotate_left 1; · (intro w hSw; (try dsimp only at hSw); go_simp; (try with_reducible rfl)))); (try simp only [Act.put, List.getElem_toArray, List.getElem_cons_zero, List.getElem_cons_succ, List.setIfInBounds_toArray, List.set_cons_zero, List.set_cons_succ])
      refine wpAnyH_done (by kernel_rfl) ?_ _
      refine NoPanic.normal ?_
      clear hHeld
      go_wp2
      go_ret
      refine ⟨⟨A6, (x 0).n + (y 0).n, c6⟩, rfl, by show (x 0).n + (y 0).n = _; have q1 := hf.x.n; have q2 := hf.y.n; have q3 := hf.z.n; omega, ?_, t6.undrew⟩
      rw [vbs_append]
      exact ho6
    · have c6 := h.b.ats (j := 7) (v := .bool (D.f 1).is) rfl
      rw [hi] at c6
      have C1 := cel h.b (k := 1) (v := .slice (x 1).A (x 1).n (x 1).c) rfl
      have C2 := cel h.b (k := 3) (v := .slice (y 1).A (y 1).n (y 1).c) rfl
      go_enter Try.func32, Try.ntmps32
      go_wp2
      refine wp_region_noPanic ?_
      refine wp_region_held_drew (S := fun W => Turn w W none) (by kernel_rfl) (Turn.refl _ none).drew (fun hHeld => ?_)
      refine wpAnyH_more (S' := fun W => Turn (World.drew w) W none) (fun W h => (Turn.refl _ none).drew.trans h) _ _ _ _ ?_
      clear hHeld
      have hHeld : (fun W => Turn (World.drew w) W none) (World.drew w) := Turn.refl _ none
      (first | (refine wpAnyH_take (i := 1) (v := undef) rfl (by kernel_rfl) (by kernel_rfl) (by kernel_rfl) (fun _ _ _ h => h) (Or.inr ⟨rfl, rfl⟩) (by assumption) ?_) | (refine wpAnyH_take (i := 1) (v := ?_) rfl (by kernel_rfl) (by kernel_rfl) (by kernel_rfl) (fun _ _ _ h => h) (Or.inl ⟨rfl, ?_⟩) (by assumption) ?_; rotate_left 1; · (intro w hSw; (try dsimp only at hSw); go_simp; (try with_reducible rfl)))); (try simp only [Act.put, List.getElem_toArray, List.getElem_cons_zero, List.getElem_cons_succ, List.setIfInBounds_toArray, List.set_cons_zero, List.set_cons_succ])
      (first | (refine wpAnyH_take (i := 2) (v := undef) rfl (by kernel_rfl) (by kernel_rfl) (by kernel_rfl) (fun _ _ _ h => h) (Or.inr ⟨rfl, rfl⟩) (by assumption) ?_) | (refine wpAnyH_take (i := 2) (v := ?_) rfl (by kernel_rfl) (by kernel_rfl) (by kernel_rfl) (fun _ _ _ h => h) (Or.inl ⟨rfl, ?_⟩) (by assumption) ?_; rotate_left 1; · (intro w hSw; (try dsimp only at hSw); go_simp; (try with_reducible rfl)))); (try simp only [Act.put, List.getElem_toArray, List.getElem_cons_zero, List.getElem_cons_succ, List.setIfInBounds_toArray, List.set_cons_zero, List.set_cons_succ])
      (first | (refine wpAnyH_take (i := 3) (v := undef) rfl (by kernel_rfl) (by kernel_rfl) (by kernel_rfl) (fun _ _ _ h => h) (Or.inr ⟨rfl, rfl⟩) (by assumption) ?_) | (refine wpAnyH_take (i := 3) (v := ?_) rfl (by kernel_rfl) (by kernel_rfl) (by kernel_rfl) (fun _ _ _ h => h) (Or.inl ⟨rfl, ?_⟩) (by assumption) ?_; rotate_left 1; · (intro w hSw; (try dsimp only at hSw); go_simp; (try with_reducible rfl)))); (try simp only [Act.put, List.getElem_toArray, List.getElem_cons_zero, List.getElem_cons_succ, List.setIfInBounds_toArray, List.set_cons_zero, List.set_cons_succ])
      (first | (refine wpAnyH_take (i := 4) (v := undef) rfl (by kernel_rfl) (by kernel_rfl) (by kernel_rfl) (fun _ _ _ h => h) (Or.inr ⟨rfl, rfl⟩) (by assumption) ?_) | (refine wpAnyH_take (i := 4) (v := ?_) rfl (by kernel_rfl) (by kernel_rfl) (by kernel_rfl) (fun _ _ _ h => h) (Or.inl ⟨rfl, ?_⟩) (by assumption) ?_; rotate_left 1; · (intro w hSw; (try dsimp only at hSw); go_simp; (try with_reducible rfl)))); (try simp only [Act.put, List.getElem_toArray, List.getElem_cons_zero, List.getElem_cons_succ, List.setIfInBounds_toArray, List.set_cons_zero, List.set_cons_succ])
      (first | (refine wpAnyH_take (i := 5) (v := undef) rfl (by kernel_rfl) (by kernel_rfl) (by kernel_rfl) (fun _ _ _ h => h) (Or.inr ⟨rfl, rfl⟩) (by assumption) ?_) | (refine wpAnyH_take (i := 5) (v := ?_) rfl (by kernel_rfl) (by kernel_rfl) (by kernel_rfl) (fun _ _ _ h => h) (Or.inl ⟨rfl, ?_⟩) (by assumption) ?_; rotate_left 1; · (intro w hSw; (try dsimp only at hSw); go_simp; (try with_reducible rfl)))); (try simp only [Act.put, List.getElem_toArray, List.getElem_cons_zero, List.getElem_cons_succ, List.setIfInBounds_toArray, List.set_cons_zero, List.set_cons_succ])
      (first | (refine wpAnyH_take (i := 6) (v := undef) rfl (by kernel_rfl) (by kernel_rfl) (by kernel_rfl) (fun _ _ _ h => h) (Or.inr ⟨rfl, rfl⟩) (by assumption) ?_) | (refine wpAnyH_take (i := 6) (v := ?_) rfl (by kernel_rfl) (by kernel_rfl) (by kernel_rfl) (fun _ _ _ h => h) (Or.inl ⟨rfl, ?_⟩) (by assumption) ?_; rotate_left 1; · (intro w hSw; (try dsimp only at hSw); go_simp; (try with_reducible rfl)))); (try simp only [Act.put, List.getElem_toArray, List.getElem_cons_zero, List.getElem_cons_succ, List.setIfInBounds_toArray, List.set_cons_zero, List.set_cons_succ])
      (first | (refine wpAnyH_take (i := 8) (v := undef) rfl (by kernel_rfl) (by kernel_rfl) (by kernel_rfl) (fun _ _ _ h => h) (Or.inr ⟨rfl, rfl⟩) (by assumption) ?_) | (refine wpAnyH_take (i := 8) (v := ?_) rfl (by kernel_rfl) (by kernel_rfl) (by kernel_rfl) (fun _ _ _ h => h) (Or.inl ⟨rfl, ?_⟩) (by assumption) ?_; rotate_left 1; · (intro w hSw; (try dsimp only at hSw); go_simp; (try with_reducible rfl)))); (try simp only [Act.put, List.getElem_toArray, List.getElem_cons_zero, List.getElem_cons_succ, List.setIfInBounds_toArray, List.set_cons_zero, List.set_cons_succ])
      (first | (refine wpAnyH_take (i := 9) (v := undef) rfl (by kernel_rfl) (by kernel_rfl) (by kernel_rfl) (fun _ _ _ h => h) (Or.inr ⟨rfl, rfl⟩) (by assumption) ?_) | (refine wpAnyH_take (i := 9) (v := ?_) rfl (by kernel_rfl) (by kernel_rfl) (by kernel_rfl) (fun _ _ _ h => h) (Or.inl ⟨rfl, ?_⟩) (by assumption) ?_; rotate_left 1; · (intro w hSw; (try dsimp only at hSw); go_simp; (try with_reducible rfl)))); (try simp only [Act.put, List.getElem_toArray, List.getElem_cons_zero, List.getElem_cons_succ, List.setIfInBounds_toArray, List.set_cons_zero, List.set_cons_succ])
      (first | (refine wpAnyH_take (i := 10) (v := undef) rfl (by kernel_rfl) (by kernel_rfl) (by kernel_rfl) (fun _ _ _ h => h) (Or.inr ⟨rfl, rfl⟩) (by assumption) ?_) | (refine wpAnyH_take (i := 10) (v := ?_) rfl (by kernel_rfl) (by kernel_rfl) (by kernel_rfl) (fun _ _ _ h => h) (Or.inl ⟨rfl, ?_⟩) (by assumption) ?_; rotate_left 1; · (intro w hSw; (try dsimp only at hSw); go_simp; (try with_reducible rfl)))); (try simp only [Act.put, List.getElem_toArray, List.getElem_cons_zero, List.getElem_cons_succ, List.setIfInBounds_toArray, List.set_cons_zero, List.set_cons_succ])
      (first | (refine wpAnyH_take (i := 11) (v := undef) rfl (by kernel_rfl) (by kernel_rfl) (by kernel_rfl) (fun _ _ _ h => h) (Or.inr ⟨rfl, rfl⟩) (by assumption) ?_) | (refine wpAnyH_take (i := 11) (v := ?_) rfl (by kernel_rfl) (by kernel_rfl) (by kernel_rfl) (fun _ _ _ h => h) (Or.inl ⟨rfl, ?_⟩) (by assumption) ?_; rotate_left 1; · (intro w hSw; (try dsimp only at hSw); go_simp; (try with_reducible rfl)))); (try simp only [Act.put, List.getElem_toArray, List.getElem_cons_zero, List.getElem_cons_succ, List.setIfInBounds_toArray, List.set_cons_zero, List.set_cons_succ])
      (first | (refine wpAnyH_take (i := 12) (v := undef) rfl (by kernel_rfl) (by kernel_rfl) (by kernel_rfl) (fun _ _ _ h => h) (Or.inr ⟨rfl, rfl⟩) (by assumption) ?_) | (refine wpAnyH_take (i := 12) (v := ?_) rfl (by kernel_rfl) (by kernel_rfl) (by kernel_rfl) (fun _ _ _ h => h) (Or.inl ⟨rfl, ?_⟩) (by assumption) ?_; rotate_left 1; · (intro w hSw; (try dsimp only at hSw); go_simp; (try with_reducible rfl)))); (try simp only [Act.put, List.getElem_toArray, List.getElem_cons_zero, List.getElem_cons_succ, List.setIfInBounds_toArray, List.set_cons_zero, List.set_cons_succ])
      (first | (refine wpAnyH_take (i := 13) (v := undef) rfl (by kernel_rfl) (by kernel_rfl) (by kernel_rfl) (fun _ _ _ h => h) (Or.inr ⟨rfl, rfl⟩) (by assumption) ?_) | (refine wpAnyH_take (i := 13) (v := ?_) rfl (by kernel_rfl) (by kernel_rfl) (by kernel_rfl) (fun _ _ _ h => h) (Or.inl ⟨rfl, ?_⟩) (by assumption) ?_; rotate_left 1; · (intro w hSw; (try dsimp only at hSw); go_simp; (try with_reducible rfl)))); (try simp only [Act.put, List.getElem_toArray, List.getElem_cons_zero, List.getElem_cons_succ, List.setIfInBounds_toArray, List.set_cons_zero, List.set_cons_succ])
      refine wpAnyH_ready (rs := [0]) (by kernel_rfl) (by simp) ?_; refine AllReadyH.cons rfl (fun K hK => ?_) AllReadyH.nil
      go_simp
      refine hK.out _ _ ((Turn.refl (World.drew w) none).alloc (.cells #[] 5)) (fun hHeld => ?_); clear hK K; (try simp only [Act.put, List.getElem_toArray, List.getElem_cons_zero, List.getElem_cons_succ, List.setIfInBounds_toArray, List.set_cons_zero, List.set_cons_succ])
      have h00 : Own ((World.drew w).alloc (.cells #[] 5)) w.heap.size 5 1 (some ⟨w.heap.size, 0, none⟩) 0 0 [] := Own.made (World.drew w) _ _ 1 0 #[] (Nat.le_refl _) (by decide) rfl
      refine wpAnyH_ready (rs := [7]) (by kernel_rfl) (by simp) ?_; refine AllReadyH.cons rfl (fun K hK => ?_) AllReadyH.nil
      refine st_appF rfl _ _ _ rfl elB rfl rfl h00 ((hf.x.rd.drew).alloc (Nat.le_refl _) (.cells #[] 5)) (vbs_one (D.f 1).fa) (by have q1 := hf.x.n; have q2 := hf.y.n; have q3 := hf.z.n; omega) (by show _ ≤ (w.heap.push _).size; rw [Array.size_push]; omega) ?_
      intro A5 c5 w5 ho5 hc5
      have t5 : Turn (World.drew w) w5 none := by
        rcases hc5 with ⟨_, _, q⟩ | ⟨_, q⟩
        · exact ((Turn.refl (World.drew w) none).alloc _).new q (fun g hg => by simp [blk] at hg; subst hg; exact Nat.le_refl _)
        · exact ((Turn.refl (World.drew w) none).alloc _).trans q
      simp only [Nat.zero_add, List.nil_append] at ho5 ⊢
      refine hK.out _ _ t5 (fun hHeld => ?_); clear hK K; (try simp only [Act.put, List.getElem_toArray, List.getElem_cons_zero, List.getElem_cons_succ, List.setIfInBounds_toArray, List.set_cons_zero, List.set_cons_succ])
      refine wpAnyH_ready (rs := [14]) (by kernel_rfl) (by simp) ?_; refine AllReadyH.cons rfl (fun K hK => ?_) AllReadyH.nil
      refine st_appF rfl _ _ _ rfl elB rfl rfl ho5 (hf.y.rd.drew.turn0 t5 (Nat.le_refl _)) (vbs_one (D.f 1).mo) (by have q1 := hf.x.n; have q2 := hf.y.n; have q3 := hf.z.n; omega) t5.size ?_
      intro A6 c6 w6 ho6 hc6
      have t6 : Turn (World.drew w) w6 none := by
        rcases hc6 with ⟨_, _, q⟩ | ⟨_, q⟩
        · exact t5.new q (fun g hg => (ho5.block g hg).1)
        · exact t5.trans q
      refine hK.out _ _ t6 (fun hHeld => ?_); clear hK K; (try simp only [Act.put, List.getElem_toArray, List.getElem_cons_zero, List.getElem_cons_succ, List.setIfInBounds_toArray, List.set_cons_zero, List.set_cons_succ])
      (first | (refine wpAnyH_take (i := 15) (v := undef) rfl (by kernel_rfl) (by kernel_rfl) (by kernel_rfl) (fun _ _ _ h => h) (Or.inr ⟨rfl, rfl⟩) (by assumption) ?_) | (refine wpAnyH_take (i := 15) (v := ?_) rfl (by kernel_rfl) (by kernel_rfl) (by kernel_rfl) (fun _ _ _ h => h) (Or.inl ⟨rfl, ?_⟩) (by assumption) ?_; rotate_left 1; · (intro w hSw; (try dsimp only at hSw); go_simp; (try with_reducible rfl)))); (try simp only [Act.put, List.getElem_toArray, List.getElem_cons_zero, List.getElem_cons_succ, List.setIfInBounds_toArray, List.set_cons_zero, List.set_cons_succ])
      refine wpAnyH_done (by kernel_rfl) ?_ _
      refine NoPanic.normal ?_
      clear hHeld
      go_wp2
      go_ret
      refine ⟨⟨A6, (x 1).n + (y 1).n, c6⟩, rfl, by show (x 1).n + (y 1).n = _; have q1 := hf.x.n; have q2 := hf.y.n; have q3 := hf.z.n; omega, ?_, t6.undrew⟩
      rw [vbs_append]
      exact ho6

set_option maxRecDepth 100000 in
set_option maxHeartbeats 800000 in
theorem rdksz_any {w : World} {r : Nat} {R : Nat → Prop} {x y z : Nat → Sl} {lv : Int} {D : Dsk} (h : RD w r R x y z lv D) :
    Calls Try.prog 61 #[.pointer (some ⟨r, 0, none⟩)] w fun e w' => e = .returned (.int .i64 (D.size : Int)) ∧ Turn w w' none := by
  have q0 := (h.ok.f 0 (by omega)).all
  have q1 := (h.ok.f 1 (by omega)).all
  have e0 : (D.size : Int) = ((D.f 0).all.length : Int) + ((D.f 1).all.length : Int) := by simp [Dsk.size]
  have r0 := rall_any h (j := 0) (by omega)
  have r1 := fun W (hW : Turn w W none) => rall_any (h.turn0 hW) (j := 1) (by omega)
  rw [e0]
  clear e0
  generalize (D.f 0).all = l0 at *
  generalize (D.f 1).all = l1 at *
  obtain ⟨n0, hn0⟩ : ∃ n, n = l0.length := ⟨_, rfl⟩
  obtain ⟨n1, hn1⟩ : ∃ n, n = l1.length := ⟨_, rfl⟩
  simp only [← hn0, ← hn1] at *
  have r0 : Calls Try.prog 32 #[.pointer (some ⟨r, 0, none⟩), .int .i64 0] w fun e w' => ∃ (A : Option Addr) (c : Nat), e = .returned (.slice A n0 c) ∧ Turn w w' none := r0.mono fun e w' ⟨a, h1, h2, _, h3⟩ => ⟨a.A, a.c, by rw [h1, ← h2]; rfl, h3⟩
  have r1 : ∀ W, Turn w W none → Calls Try.prog 32 #[.pointer (some ⟨r, 0, none⟩), .int .i64 1] W fun e w' => ∃ (A : Option Addr) (c : Nat), e = .returned (.slice A n1 c) ∧ Turn W w' none := fun W hW => (r1 W hW).mono fun e w' ⟨a, h1, h2, _, h3⟩ => ⟨a.A, a.c, by rw [h1, ← h2]; rfl, h3⟩
  clear hn0 hn1
  go_enter Try.func61, Try.ntmps61
  go_wp2_with (first
    | (go_at_call 32; refine (r1 _ t1).mono ?_; rintro e w2 ⟨A2, c2, rfl, t2⟩)
    | (go_at_call 32; refine r0.mono ?_; rintro e w1 ⟨A1, c1, rfl, t1⟩))
  go_ret
  exact ⟨rfl, t1.trans t2⟩

set_option maxRecDepth 100000 in
set_option maxHeartbeats 800000 in
theorem rread_any {w : World} {r : Nat} {R : Nat → Prop} {x y z : Nat → Sl} {lv : Int} {D : Dsk} (h : RD w r R x y z lv D) (n : Int) :
    Calls Try.prog 11 #[.pointer (some ⟨r, 0, none⟩), .int .i64 n] w fun e w' => ∃ A c,
      e = .returned (.tuple #[.slice A (D.rd n).length c, .int .i64 (D.dErr n)]) ∧ Own w' w.heap.size 5 1 A (D.rd n).length c (vbs (D.rd n)) ∧ Turn w w' none := by
  have c11 := h.b.ats (j := 11) (v := .bool D.dead) rfl
  cases hd : D.dead with
  | true =>
    have e1 : D.dErr n = 140 := by unfold Dsk.dErr; rw [if_pos hd]
    have e2 : D.rd n = [] := by unfold Dsk.rd; rw [e1]; rfl
    rw [e1, e2]
    rw [hd] at c11
    clear e1 e2
    go_enter Try.func11, Try.ntmps11
    go_wp2
    go_ret2
    exact ⟨none, 0, rfl, Own.nil _ _ _ _, Turn.refl w none⟩
  | false =>
    rw [hd] at c11
    have e0 : D.dErr n = fErr n := by unfold Dsk.dErr; rw [if_neg (by rw [hd]; simp)]
    have hq : n < 0 ∨ (¬ n < 0 ∧ 1 < n) ∨ (¬ n < 0 ∧ ¬ 1 < n) := by omega
    rcases hq with hq | ⟨hq, hq2⟩ | ⟨hq, hq2⟩
    · have e1 : D.dErr n = 1 := by rw [e0]; unfold fErr; rw [if_pos (.inl hq)]
      have e2 : D.rd n = [] := by unfold Dsk.rd; rw [e1]; rfl
      rw [e1, e2]
      clear e0 e1 e2
      go_enter Try.func11, Try.ntmps11
      go_wp2
      go_ret2
      exact ⟨none, 0, rfl, Own.nil _ _ _ _, Turn.refl w none⟩
    · have e1 : D.dErr n = 1 := by rw [e0]; unfold fErr; rw [if_pos (.inr hq2)]
      have e2 : D.rd n = [] := by unfold Dsk.rd; rw [e1]; rfl
      rw [e1, e2]
      clear e0 e1 e2
      go_enter Try.func11, Try.ntmps11
      go_wp2
      go_ret2
      exact ⟨none, 0, rfl, Own.nil _ _ _ _, Turn.refl w none⟩
    · obtain ⟨j, hj, rfl⟩ : ∃ j : Nat, j < 2 ∧ n = (j : Int) := ⟨n.toNat, by omega, by omega⟩
      have e1 : D.dErr (j : Int) = 0 := by rw [e0]; unfold fErr; rw [if_neg (by omega)]
      have e2 : D.rd (j : Int) = (D.f j).all := by unfold Dsk.rd; rw [if_pos e1, Int.toNat_natCast]
      rw [e1, e2]
      have ra := rall_any h hj
      clear e0 e1 e2
      go_enter Try.func11, Try.ntmps11
      go_wp2_with (first
        | (go_at_call 32; refine ra.mono ?_; rintro e w2 ⟨a, rfl, hn, ho, t2⟩))
      go_ret2
      exact ⟨a.A, a.c, by rw [← hn]; rfl, by rw [← hn]; exact ho, t2⟩
end Go.Proofs.Ytjekglnbmccnjaa
