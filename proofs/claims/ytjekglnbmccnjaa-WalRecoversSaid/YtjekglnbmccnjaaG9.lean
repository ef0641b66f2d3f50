import Derived.Test.YtjekglnbmccnjaaG7
import Derived.Test.YtjekglnbmccnjaaG6
import Derived.Test.YtjekglnbmccnjaaG8
set_option linter.unusedSimpArgs false
set_option linter.unusedVariables false
set_option linter.unusedSectionVars false
/-
  Layer 14: the document's Crash (contract).
-/
namespace Go.Proofs.Ytjekglnbmccnjaa
set_option linter.unusedSimpArgs false
set_option linter.unusedVariables false
open Go.RowKit

theorem RD.cong {w : World} {r : Nat} {R : Nat → Prop} {x y z : Nat → Sl} {lv : Int} {D D2 : Dsk} (h : RD w r R x y z lv D) (hf : ∀ i, i < 2 → D2.f i = D.f i) (h1 : D2.lim = D.lim) (h2 : D2.armed = D.armed) (h3 : D2.dead = D.dead) (h4 : D2.lf = D.lf) : RD w r R x y z lv D2 :=
  ⟨by
    have e : rdc D2 x y z lv = rdc D x y z lv := by simp only [rdc, h1, h2, h3, hf 0 (by omega), hf 1 (by omega)]
    rw [e]; exact h.b, fun i hi => by rw [hf i hi]; exact h.f i hi, h.nr, h.lt, by rw [h2, h3, h4]; exact h.lv, ⟨fun i hi => by rw [hf i hi]; exact h.ok.f i hi, by rw [h1]; exact h.ok.l0, by rw [h1]; exact h.ok.l1, by rw [h2, h4]; exact h.ok.a0⟩⟩
set_option maxRecDepth 100000 in
set_option maxHeartbeats 6400000 in
theorem rcrash_any {w : World} {r : Nat} {T : Nat → Prop} {D : Dsk} (h : Rk w r T D) (keep : Int) (k0 : -9223372036854775808 ≤ keep) (k1 : keep ≤ 9223372036854775807) (A : Option Addr) (m c B : Nat) (t : List UInt8) (hr : Rd w B 1 A m (vbs t)) (hB : B ≤ w.heap.size) (hm : m ≤ 140737488351232) (hA : ∀ k, blk A = some k → 0 < m → ¬ T k) :
    Calls Try.prog 29 #[.pointer (some ⟨r, 0, none⟩), .int .i64 keep, .slice A m c] w fun e w' => e = .returned (.tuple #[]) ∧ Stq w w' T r (D.crash keep t) := by
  obtain ⟨R, x, y, z, lv, hp, hT⟩ := h
  have hml := hr.len
  rw [vbs_len] at hml
  have hTr : T r := (hT r).1 (.inl rfl)
  have c10 := hp.b.ats (j := 10) (v := .bool D.armed) rfl
  have f10 := hp.b.frozen 10
  have b10 := hp.b.sets 10 (.bool false)
  have c11 := b10.ats (j := 11) (v := .bool D.dead) rfl
  have f11 := b10.frozen 11
  have b11 := b10.sets 11 (.bool false)
  have t11 : Turn w ((w.setCell ⟨r, 10, none⟩ (.bool false)).setCell ⟨r, 11, none⟩ (.bool false)) (some r) := (Blk.setTurn w r 10 _).trans (Blk.setTurn _ r 11 _)
  have h0 : RD ((w.setCell ⟨r, 10, none⟩ (.bool false)).setCell ⟨r, 11, none⟩ (.bool false)) r R x y z lv (D.cj keep t 0) :=
    hp.own t11 b11 (by unfold Dsk.cj; simp) (fun e => by cases e) ⟨fun i hi => by have h2 := hp.ok.f i hi; simpa [Dsk.cj] using h2, hp.ok.l0, hp.ok.l1, fun e => by cases e⟩
  clear b10 b11
  go_enter Try.func29, Try.ntmps29
  go_wp2
  go_loopw [6] (fun i wr => ∃ (j : Nat) (R' : Nat → Prop) (x' y' z' : Nat → Sl), j ≤ 2 ∧ i = .int .i64 (j : Int) ∧ RD wr r R' x' y' z' lv (D.cj keep t j) ∧ Chg w wr T ∧ (∀ k, (k = r ∨ R' k) → T k ∨ w.heap.size ≤ k)) (fun i _ => (2 - intOf i).toNat)
  case atStart => exact ⟨0, R, x, y, z, by omega, rfl, h0, Chg.of t11 fun i e => by injection e with e; exact e ▸ hTr, fun k hk => .inl ((hT k).1 hk)⟩
  case round =>
    obtain ⟨j, R', x', y', z', hj, rfl, h1, hC, hR'⟩ := hrel
    clear c10 c11 f10 f11 h0
    by_cases hj2 : j < 2
    · have hDj : (D.cj keep t j).f j = D.f j := by simp [Dsk.cj]
      have hfj := h1.f j hj2
      rw [hDj] at hfj
      have hokj := h1.ok.f j hj2
      rw [hDj] at hokj
      have hrt := (hr.chg0 hB hC hA)
      have hBr : B ≤ wr.heap.size := Nat.le_trans hB hC.size
      have fin : ∀ (a : Sl) (w5 w6 : World), Turn wr w5 none → Rs w5 (fun k => R' k ∨ (wr.heap.size ≤ k ∧ k < w5.heap.size)) a ((D.f j).left keep t) → Turn w5 w6 (some r) →
          Blk w6 r 68 (rdc ((D.cj keep t j).put j (stF ((D.f j).left keep t))) (upd x' j a) (upd y' j nilS) (upd z' j nilS) lv).toArray →
          ∃ (R'' : Nat → Prop) (x'' y'' z'' : Nat → Sl), RD w6 r R'' x'' y'' z'' lv (D.cj keep t (j + 1)) ∧ Chg w w6 T ∧ (∀ k, (k = r ∨ R'' k) → T k ∨ w.heap.size ≤ k) := by
        intro a w5 w6 t5 hs t6 hb6
        have hP := h1.fput hj2 t5 t6 hb6 ⟨hs, Rs.nil _ _, Rs.nil _ _⟩ (stF_ok (left_len hokj keep (by omega)))
        rw [cj_next] at hP
        have sC := hC.size
        refine ⟨_, _, _, _, hP, (hC.trans (Chg.of0 t5 T) fun i hi => .inl hi).trans (Chg.of (S := T) t6 fun i e => by injection e with e; exact e ▸ hTr) fun i hi => .inl hi, fun k hk => ?_⟩
        rcases hk with hk | hk | hk
        · exact .inl (hk ▸ hTr)
        · exact hR' k (.inr hk)
        · exact .inr (by omega)
      have hal : Calls Try.prog 32 #[.pointer (some ⟨r, 0, none⟩), .int .i64 (j : Int)] wr fun e w' => ∃ (A : Option Addr) (c : Nat), e = .returned (.slice A (D.f j).all.length c) ∧ Own w' wr.heap.size 5 1 A (D.f j).all.length c (vbs (D.f j).all) ∧ Turn wr w' none := by
        have h2 := rall_any h1 hj2
        rw [hDj] at h2
        exact h2.mono fun e w' ⟨a, k1, k2, k3, k4⟩ => ⟨a.A, a.c, by rw [k1, ← k2]; rfl, k2 ▸ k3, k4⟩
      cases hi : (D.f j).is with
      | true =>
        by_cases hkp : 0 < keep
        · have e : (D.f j).left keep t = (D.f j).all := by simp [Fi.left, hi, hkp]
          rw [e] at fin
          clear e
          obtain rfl | rfl : j = 0 ∨ j = 1 := by omega
          · have c6 := h1.b.ats (j := 6) (v := .bool ((D.cj keep t 0).f 0).is) rfl
            rw [hDj, hi] at c6
            go_wp2_with (first
              | (go_at_call 32; refine hal.mono ?_; rintro e w2 ⟨A2, c2, rfl, ho2, t2⟩; have h2 := h1.turn0 t2)
              | (go_at_call 47; refine (rfast_any (j := 0) h2.b hj2 A2 (D.f 0).all.length c2 (D.f 0).all).mono ?_; rintro e w3 ⟨rfl, t6, b6⟩))
            obtain ⟨R'', x'', y'', z'', q1, q2, q3⟩ := fin ⟨A2, (D.f 0).all.length, c2⟩ _ _ t2 (Rs.own (a := ⟨A2, (D.f 0).all.length, c2⟩) ho2 fun i q1 q2 => .inr ⟨q1, q2⟩) t6 b6
            refine ⟨⟨1, R'', x'', y'', z'', by omega, rfl, q1, q2, q3⟩, ?_⟩
            simp [intOf]
          · have c6 := h1.b.ats (j := 7) (v := .bool ((D.cj keep t 1).f 1).is) rfl
            rw [hDj, hi] at c6
            go_wp2_with (first
              | (go_at_call 32; refine hal.mono ?_; rintro e w2 ⟨A2, c2, rfl, ho2, t2⟩; have h2 := h1.turn0 t2)
              | (go_at_call 47; refine (rfast_any (j := 1) h2.b hj2 A2 (D.f 1).all.length c2 (D.f 1).all).mono ?_; rintro e w3 ⟨rfl, t6, b6⟩))
            obtain ⟨R'', x'', y'', z'', q1, q2, q3⟩ := fin ⟨A2, (D.f 1).all.length, c2⟩ _ _ t2 (Rs.own (a := ⟨A2, (D.f 1).all.length, c2⟩) ho2 fun i q1 q2 => .inr ⟨q1, q2⟩) t6 b6
            refine ⟨⟨2, R'', x'', y'', z'', by omega, rfl, q1, q2, q3⟩, ?_⟩
            simp [intOf]
        · have e : (D.f j).left keep t = (D.f j).fa := by simp [Fi.left, hi, hkp]
          rw [e] at fin
          clear e
          obtain rfl | rfl : j = 0 ∨ j = 1 := by omega
          · have c6 := h1.b.ats (j := 6) (v := .bool ((D.cj keep t 0).f 0).is) rfl
            rw [hDj, hi] at c6
            have c0 := h1.b.ats (j := 0) (v := .slice (x' 0).A (x' 0).n (x' 0).c) rfl
            go_wp2_with (first
              | (go_at_call 47; refine (rfast_any (j := 0) h1.b hj2 (x' 0).A (x' 0).n (x' 0).c (D.f 0).fa).mono ?_; rintro e w3 ⟨rfl, t6, b6⟩))
            obtain ⟨R'', x'', y'', z'', q1, q2, q3⟩ := fin (x' 0) _ _ (Turn.refl wr none) (hfj.x.mono fun k hk => .inl hk) t6 b6
            refine ⟨⟨1, R'', x'', y'', z'', by omega, rfl, q1, q2, q3⟩, ?_⟩
            simp [intOf]
          · have c6 := h1.b.ats (j := 7) (v := .bool ((D.cj keep t 1).f 1).is) rfl
            rw [hDj, hi] at c6
            have c0 := h1.b.ats (j := 1) (v := .slice (x' 1).A (x' 1).n (x' 1).c) rfl
            go_wp2_with (first
              | (go_at_call 47; refine (rfast_any (j := 1) h1.b hj2 (x' 1).A (x' 1).n (x' 1).c (D.f 1).fa).mono ?_; rintro e w3 ⟨rfl, t6, b6⟩))
            obtain ⟨R'', x'', y'', z'', q1, q2, q3⟩ := fin (x' 1) _ _ (Turn.refl wr none) (hfj.x.mono fun k hk => .inl hk) t6 b6
            refine ⟨⟨2, R'', x'', y'', z'', by omega, rfl, q1, q2, q3⟩, ?_⟩
            simp [intOf]
      | false =>
        by_cases hmo : (D.f j).mo = []
        · have e : (D.f j).left keep t = (D.f j).fa := by simp [Fi.left, hi, hmo]
          have ef : D.f j = stF (D.f j).fa := by
            have h3 := hokj.no hi
            generalize D.f j = q at *
            obtain ⟨fa, mo, ot, is⟩ := q
            simp only at hi hmo h3
            subst hi; subst hmo; subst h3
            rfl
          have h2 : RD wr r R' x' y' z' lv (D.cj keep t (j + 1)) := h1.cong (fun i hi2 => by
            show (if i < j + 1 then stF ((D.f i).left keep t) else D.f i) = (if i < j then stF ((D.f i).left keep t) else D.f i)
            by_cases h4 : i < j
            · rw [if_pos h4, if_pos (by omega)]
            · rw [if_neg h4]
              by_cases h5 : i = j
              · subst h5
                rw [if_pos (by omega), e, ← ef]
              · rw [if_neg (by omega)]) rfl rfl rfl rfl
          have hyn : (y' j).n = 0 := by rw [hfj.y.n, hmo]; rfl
          clear e ef fin hal
          obtain rfl | rfl : j = 0 ∨ j = 1 := by omega
          · have c6 := h1.b.ats (j := 6) (v := .bool ((D.cj keep t 0).f 0).is) rfl
            rw [hDj, hi] at c6
            have c2 := h1.b.ats (j := 2) (v := .slice (y' 0).A (y' 0).n (y' 0).c) rfl
            rw [hyn] at c2
            go_wp2
            refine ⟨⟨1, R', x', y', z', by omega, rfl, h2, hC, hR'⟩, ?_⟩
            simp [intOf]
          · have c6 := h1.b.ats (j := 7) (v := .bool ((D.cj keep t 1).f 1).is) rfl
            rw [hDj, hi] at c6
            have c2 := h1.b.ats (j := 3) (v := .slice (y' 1).A (y' 1).n (y' 1).c) rfl
            rw [hyn] at c2
            go_wp2
            refine ⟨⟨2, R', x', y', z', by omega, rfl, h2, hC, hR'⟩, ?_⟩
            simp [intOf]
        · have hml : 0 < (y' j).n := by rw [hfj.y.n]; exact List.length_pos_iff.2 hmo
          have hle : (D.f j).left keep t = (D.f j).fa ++ (D.f j).mo.take (Int.toNat keep) ++ t := by simp [Fi.left, hi, hmo]
          have hlen : (D.f j).fa.length + (D.f j).mo.length ≤ 16777216 := by
            rcases hokj.few with ⟨h3, _⟩ | h3
            · exact absurd h3 hmo
            · rw [Fi.all_pre hi, List.length_append] at h3; exact h3
          have hxn := hfj.x.n
          have hyn := hfj.y.n
          obtain ⟨a, hyA⟩ : ∃ a, (y' j).A = some a := by
            cases hq : (y' j).A with
            | none => have h3 := hfj.y.rd; rw [hq] at h3; have := (rd_nil_len h3 (by decide)).1; omega
            | some a => exact ⟨a, rfl⟩
          have hnc := hfj.y.nc
          have hcm := hfj.y.cm
          obtain ⟨yn, hyn2⟩ : ∃ q, q = (y' j).n := ⟨_, rfl⟩
          obtain ⟨yc, hyc2⟩ : ∃ q, q = (y' j).c := ⟨_, rfl⟩
          obtain ⟨xn, hxn2⟩ : ∃ q, q = (x' j).n := ⟨_, rfl⟩
          have hb1 : xn + yn + m + (xn + yn + m) / 4 + 192 ≤ 281474976710656 := by omega
          have hcy : yc ≤ 9223372036854775807 := by rw [hyc2]; exact hcm
          have hnc2 : yn ≤ yc := by omega
          have hpos : 0 < yn := by omega
          have hcase : (keep < 0) ∨ (∃ KK : Nat, keep = (KK : Int) ∧ KK ≤ yn) ∨ (¬ keep < 0 ∧ (yn : Int) < keep) := by
            by_cases q1 : keep < 0
            · exact .inl q1
            · by_cases q2 : (yn : Int) < keep
              · exact .inr (.inr ⟨q1, q2⟩)
              · exact .inr (.inl ⟨keep.toNat, by omega, by omega⟩)
          have hmk : ∀ (k : Nat), (D.f j).mo.take (Int.toNat keep) = (D.f j).mo.take k → ∀ V, Turn wr V none → k ≤ yn → Rd V wr.heap.size 1 (some a) k (vbs ((D.f j).mo.take k)) := fun k _ V hV hk => by
            have h3 := (hfj.y.rd.takeB (k := k) (by omega)).turn0 hV (Nat.le_refl _)
            rw [hyA] at h3
            exact h3
          have c_is : wr.cell? ⟨r, 6 + j, none⟩ = some (.bool false) := by
            obtain rfl | rfl : j = 0 ∨ j = 1 := by omega
            · have q := h1.b.ats (j := 6) (v := .bool ((D.cj keep t 0).f 0).is) rfl; rw [hDj, hi] at q; exact q
            · have q := h1.b.ats (j := 7) (v := .bool ((D.cj keep t 1).f 1).is) rfl; rw [hDj, hi] at q; exact q
          have c_mo : ∀ V, Blk V r 68 (rdc (D.cj keep t j) x' y' z' lv).toArray → V.cell? ⟨r, 2 + j, none⟩ = some (.slice (some a) yn yc) ∧ V.cell? ⟨r, j, none⟩ = some (.slice (x' j).A xn (x' j).c) := fun V hV => by
            rw [hyn2, hyc2, ← hyA, hxn2]
            obtain rfl | rfl : j = 0 ∨ j = 1 := by omega
            · exact ⟨hV.ats (j := 2) rfl, hV.ats (j := 0) rfl⟩
            · exact ⟨hV.ats (j := 3) rfl, hV.ats (j := 1) rfl⟩
          have hx3 := hfj.x.rd
          rw [← hxn2] at hx3
          have hlx := hid hxn
          have hyl := hid (show yn = (D.f j).mo.length by rw [hyn2]; exact hyn)
          clear hal hyn hyn2 hyc2 hxn2 hnc hcm hlen hyA hml hmo hokj hxn
          rcases hcase with hk | ⟨KK, rfl, hk⟩ | ⟨hk, hk2⟩
          · have hkt : (D.f j).mo.take (Int.toNat keep) = (D.f j).mo.take 0 := by rw [Int.toNat_of_nonpos (by omega)]
            rw [hkt] at hle
            have hRk := fun V hV => hmk 0 hkt V hV (by omega)
            rw [hle] at fin
            have hcl : ((D.f j).fa ++ (D.f j).mo.take 0 ++ t).length = xn + 0 + m := by
              have q1 := hlx.out
              have q2 := (hRk wr (Turn.refl wr none)).len
              rw [vbs_len] at q2
              have q3 := hfj.x.n
              have q4 := hr.len
              rw [vbs_len] at q4
              rw [List.length_append, List.length_append, q2, q4]
              have q5 := hx3.len
              rw [vbs_len] at q5
              omega
            clear hkt hmk hlx hyl
            obtain rfl | rfl : j = 0 ∨ j = 1 := by omega
            · obtain ⟨c2, c0⟩ := c_mo wr h1.b
              have c6 : wr.cell? ⟨r, 6, none⟩ = some (.bool false) := c_is
              have c2 : wr.cell? ⟨r, 2, none⟩ = some (.slice (some a) yn yc) := c2
              have c0 : wr.cell? ⟨r, 0, none⟩ = some (.slice (x' 0).A xn (x' 0).c) := c0
              have h00 : Own ((World.drew wr).alloc (.cells #[] 5)) wr.heap.size 5 1 (some ⟨wr.heap.size, 0, none⟩) 0 0 [] := Own.made (World.drew wr) _ _ 1 0 #[] (Nat.le_refl _) (by decide) rfl
              go_wp2
              refine wp_region_noPanic ?_
              refine wp_region_two 21 (fun W => W.cell? ⟨r, 2, none⟩ = some (.slice (some a) yn yc) ∧ W.cell? ⟨r, 0, none⟩ = some (.slice (x' 0).A xn (x' 0).c)) (by kernel_rfl) ⟨c2, c0⟩ (fun hHeld => ?_)
              (refine wpTwo_takeP (i := 0) (v := ?_) (pth := [21]) rfl (by kernel_rfl) (by kernel_rfl) (by kernel_rfl) (by kernel_rfl) (by kernel_rfl) (by kernel_rfl) (by kernel_rfl) (fun _ _ _ h => h) (Or.inl ⟨rfl, ?_⟩) (by assumption) ?_; rotate_left 1; · (intro w hSw; (try dsimp only at hSw); go_simp; (try with_reducible rfl))); (try simp only [Act.put, List.getElem_toArray, List.getElem_cons_zero, List.getElem_cons_succ, List.setIfInBounds_toArray, List.set_cons_zero, List.set_cons_succ])
              (refine wpTwo_takeP (i := 1) (v := ?_) (pth := [21]) rfl (by kernel_rfl) (by kernel_rfl) (by kernel_rfl) (by kernel_rfl) (by kernel_rfl) (by kernel_rfl) (by kernel_rfl) (fun _ _ _ h => h) (Or.inl ⟨rfl, ?_⟩) (by assumption) ?_; rotate_left 1; · (intro w hSw; (try dsimp only at hSw); go_simp; (try with_reducible rfl))); (try simp only [Act.put, List.getElem_toArray, List.getElem_cons_zero, List.getElem_cons_succ, List.setIfInBounds_toArray, List.set_cons_zero, List.set_cons_succ])
              (refine wpTwo_takeP (i := 3) (v := ?_) (pth := [5, 6, 7, 8, 9, 18, 20, 21]) rfl (by kernel_rfl) (by kernel_rfl) (by kernel_rfl) (by kernel_rfl) (by kernel_rfl) (by kernel_rfl) (by kernel_rfl) (fun _ _ _ h => h) (Or.inl ⟨rfl, ?_⟩) (by assumption) ?_; rotate_left 1; · (intro w hSw; (try dsimp only at hSw); go_simp; (try with_reducible rfl))); (try simp only [Act.put, List.getElem_toArray, List.getElem_cons_zero, List.getElem_cons_succ, List.setIfInBounds_toArray, List.set_cons_zero, List.set_cons_succ])
              (refine wpTwo_takeP (i := 4) (v := ?_) (pth := [7, 8, 9, 18, 20, 21]) rfl (by kernel_rfl) (by kernel_rfl) (by kernel_rfl) (by kernel_rfl) (by kernel_rfl) (by kernel_rfl) (by kernel_rfl) (fun _ _ _ h => h) (Or.inl ⟨rfl, ?_⟩) (by assumption) ?_; rotate_left 1; · (intro w hSw; (try dsimp only at hSw); go_simp; (try with_reducible rfl))); (try simp only [Act.put, List.getElem_toArray, List.getElem_cons_zero, List.getElem_cons_succ, List.setIfInBounds_toArray, List.set_cons_zero, List.set_cons_succ])
              (refine wpTwo_takeP (i := 5) (v := ?_) (pth := [6, 7, 8, 9, 18, 20, 21]) rfl (by kernel_rfl) (by kernel_rfl) (by kernel_rfl) (by kernel_rfl) (by kernel_rfl) (by kernel_rfl) (by kernel_rfl) (fun _ _ _ h => h) (Or.inl ⟨rfl, ?_⟩) (by assumption) ?_; rotate_left 1; · (intro w hSw; (try dsimp only at hSw); go_simp; (try with_reducible rfl))); (try simp only [Act.put, List.getElem_toArray, List.getElem_cons_zero, List.getElem_cons_succ, List.setIfInBounds_toArray, List.set_cons_zero, List.set_cons_succ])
              (refine wpTwo_takeP (i := 6) (v := ?_) (pth := [7, 8, 9, 18, 20, 21]) rfl (by kernel_rfl) (by kernel_rfl) (by kernel_rfl) (by kernel_rfl) (by kernel_rfl) (by kernel_rfl) (by kernel_rfl) (fun _ _ _ h => h) (Or.inl ⟨rfl, ?_⟩) (by assumption) ?_; rotate_left 1; · (intro w hSw; (try dsimp only at hSw); go_simp; (try with_reducible rfl))); (try simp only [Act.put, List.getElem_toArray, List.getElem_cons_zero, List.getElem_cons_succ, List.setIfInBounds_toArray, List.set_cons_zero, List.set_cons_succ])
              (refine wpTwo_takeP (i := 7) (v := ?_) (pth := [8, 9, 18, 20, 21]) rfl (by kernel_rfl) (by kernel_rfl) (by kernel_rfl) (by kernel_rfl) (by kernel_rfl) (by kernel_rfl) (by kernel_rfl) (fun _ _ _ h => h) (Or.inl ⟨rfl, ?_⟩) (by assumption) ?_; rotate_left 1; · (intro w hSw; (try dsimp only at hSw); go_simp; (try with_reducible rfl))); (try simp only [Act.put, List.getElem_toArray, List.getElem_cons_zero, List.getElem_cons_succ, List.setIfInBounds_toArray, List.set_cons_zero, List.set_cons_succ])
              (refine wpTwo_takeP (i := 8) (v := ?_) (pth := [9, 18, 20, 21]) rfl (by kernel_rfl) (by kernel_rfl) (by kernel_rfl) (by kernel_rfl) (by kernel_rfl) (by kernel_rfl) (by kernel_rfl) (fun _ _ _ h => h) (Or.inl ⟨rfl, ?_⟩) (by assumption) ?_; rotate_left 1; · (intro w hSw; (try dsimp only at hSw); go_simp; (try with_reducible rfl))); (try simp only [Act.put, List.getElem_toArray, List.getElem_cons_zero, List.getElem_cons_succ, List.setIfInBounds_toArray, List.set_cons_zero, List.set_cons_succ])
              (refine wpTwo_takeP (i := 10) (v := ?_) (pth := [12, 13, 14, 15, 17, 18, 20, 21]) rfl (by kernel_rfl) (by kernel_rfl) (by kernel_rfl) (by kernel_rfl) (by kernel_rfl) (by kernel_rfl) (by kernel_rfl) (fun _ _ _ h => h) (Or.inl ⟨rfl, ?_⟩) (by assumption) ?_; rotate_left 1; · (intro w hSw; (try dsimp only at hSw); go_simp; (try with_reducible rfl))); (try simp only [Act.put, List.getElem_toArray, List.getElem_cons_zero, List.getElem_cons_succ, List.setIfInBounds_toArray, List.set_cons_zero, List.set_cons_succ])
              (refine wpTwo_takeP (i := 11) (v := ?_) (pth := [14, 15, 17, 18, 20, 21]) rfl (by kernel_rfl) (by kernel_rfl) (by kernel_rfl) (by kernel_rfl) (by kernel_rfl) (by kernel_rfl) (by kernel_rfl) (fun _ _ _ h => h) (Or.inl ⟨rfl, ?_⟩) (by assumption) ?_; rotate_left 1; · (intro w hSw; (try dsimp only at hSw); go_simp; (try with_reducible rfl))); (try simp only [Act.put, List.getElem_toArray, List.getElem_cons_zero, List.getElem_cons_succ, List.setIfInBounds_toArray, List.set_cons_zero, List.set_cons_succ])
              (refine wpTwo_takeP (i := 12) (v := ?_) (pth := [13, 14, 15, 17, 18, 20, 21]) rfl (by kernel_rfl) (by kernel_rfl) (by kernel_rfl) (by kernel_rfl) (by kernel_rfl) (by kernel_rfl) (by kernel_rfl) (fun _ _ _ h => h) (Or.inl ⟨rfl, ?_⟩) (by assumption) ?_; rotate_left 1; · (intro w hSw; (try dsimp only at hSw); go_simp; (try with_reducible rfl))); (try simp only [Act.put, List.getElem_toArray, List.getElem_cons_zero, List.getElem_cons_succ, List.setIfInBounds_toArray, List.set_cons_zero, List.set_cons_succ])
              (refine wpTwo_takeP (i := 13) (v := ?_) (pth := [14, 15, 17, 18, 20, 21]) rfl (by kernel_rfl) (by kernel_rfl) (by kernel_rfl) (by kernel_rfl) (by kernel_rfl) (by kernel_rfl) (by kernel_rfl) (fun _ _ _ h => h) (Or.inl ⟨rfl, ?_⟩) (by assumption) ?_; rotate_left 1; · (intro w hSw; (try dsimp only at hSw); go_simp; (try with_reducible rfl))); (try simp only [Act.put, List.getElem_toArray, List.getElem_cons_zero, List.getElem_cons_succ, List.setIfInBounds_toArray, List.set_cons_zero, List.set_cons_succ])
              (refine wpTwo_takeP (i := 14) (v := ?_) (pth := [15, 17, 18, 20, 21]) rfl (by kernel_rfl) (by kernel_rfl) (by kernel_rfl) (by kernel_rfl) (by kernel_rfl) (by kernel_rfl) (by kernel_rfl) (fun _ _ _ h => h) (Or.inl ⟨rfl, ?_⟩) (by assumption) ?_; rotate_left 1; · (intro w hSw; (try dsimp only at hSw); go_simp; (try with_reducible rfl))); (try simp only [Act.put, List.getElem_toArray, List.getElem_cons_zero, List.getElem_cons_succ, List.setIfInBounds_toArray, List.set_cons_zero, List.set_cons_succ])
              (refine wpTwo_takeP (i := 15) (v := ?_) (pth := [17, 18, 20, 21]) rfl (by kernel_rfl) (by kernel_rfl) (by kernel_rfl) (by kernel_rfl) (by kernel_rfl) (by kernel_rfl) (by kernel_rfl) (fun _ _ _ h => h) (Or.inl ⟨rfl, ?_⟩) (by assumption) ?_; rotate_left 1; · (intro w hSw; (try dsimp only at hSw); go_simp; (try with_reducible rfl))); (try simp only [Act.put, List.getElem_toArray, List.getElem_cons_zero, List.getElem_cons_succ, List.setIfInBounds_toArray, List.set_cons_zero, List.set_cons_succ])
              (refine wpTwo_takeP (i := 16) (v := ?_) (pth := [17, 18, 20, 21]) rfl (by kernel_rfl) (by kernel_rfl) (by kernel_rfl) (by kernel_rfl) (by kernel_rfl) (by kernel_rfl) (by kernel_rfl) (fun _ _ _ h => h) (Or.inl ⟨rfl, ?_⟩) (by assumption) ?_; rotate_left 1; · (intro w hSw; (try dsimp only at hSw); go_simp; (try with_reducible rfl))); (try simp only [Act.put, List.getElem_toArray, List.getElem_cons_zero, List.getElem_cons_succ, List.setIfInBounds_toArray, List.set_cons_zero, List.set_cons_succ])
              (refine wpTwo_takeP (i := 17) (v := ?_) (pth := [18, 20, 21]) rfl (by kernel_rfl) (by kernel_rfl) (by kernel_rfl) (by kernel_rfl) (by kernel_rfl) (by kernel_rfl) (by kernel_rfl) (fun _ _ _ h => h) (Or.inl ⟨rfl, ?_⟩) (by assumption) ?_; rotate_left 1; · (intro w hSw; (try dsimp only at hSw); go_simp; (try with_reducible rfl))); (try simp only [Act.put, List.getElem_toArray, List.getElem_cons_zero, List.getElem_cons_succ, List.setIfInBounds_toArray, List.set_cons_zero, List.set_cons_succ])
              (refine wpTwo_takeP (i := 19) (v := ?_) (pth := [20, 21]) rfl (by kernel_rfl) (by kernel_rfl) (by kernel_rfl) (by kernel_rfl) (by kernel_rfl) (by kernel_rfl) (by kernel_rfl) (fun _ _ _ h => h) (Or.inl ⟨rfl, ?_⟩) (by assumption) ?_; rotate_left 1; · (intro w hSw; (try dsimp only at hSw); go_simp; (try with_reducible rfl))); (try simp only [Act.put, List.getElem_toArray, List.getElem_cons_zero, List.getElem_cons_succ, List.setIfInBounds_toArray, List.set_cons_zero, List.set_cons_succ])
              clear c0 c2 c6 hHeld
              refine wpTwo_ready (rs := [2]) (by kernel_rfl) (by simp) ?_
              refine AllTwo.cons rfl (fun K hK => ?_) ?_
              · go_simp
                refine hK.out _ _ (Or.inr (c_mo _ (h1.b.drew.alloc (.cells #[] 5)))) ?_; clear hK K; (try simp only [Act.put, List.getElem_toArray, List.getElem_cons_zero, List.getElem_cons_succ, List.setIfInBounds_toArray, List.set_cons_zero, List.set_cons_succ])
                refine wpTwo_ready (rs := [9]) (by kernel_rfl) (by simp) ?_
                refine AllTwo.cons rfl (fun K hK => ?_) ?_
                · refine st_appF rfl _ _ _ rfl elB rfl rfl h00 ((hx3.drew).alloc (Nat.le_refl _) (.cells #[] 5)) (vbs_one (D.f 0).fa) (by omega) (by show _ ≤ (wr.heap.push _).size; rw [Array.size_push]; omega) ?_
                  intro A5 c5 w5 ho5 hc5
                  have t5 : Turn (World.drew wr) w5 none := by
                    rcases hc5 with ⟨_, _, q⟩ | ⟨_, q⟩
                    · exact ((Turn.refl (World.drew wr) none).alloc _).new q (fun g hg => by simp [blk] at hg; subst hg; exact Nat.le_refl _)
                    · exact ((Turn.refl (World.drew wr) none).alloc _).trans q
                  clear hc5
                  simp only [Nat.zero_add, List.nil_append] at ho5 ⊢
                  refine hK.out _ _ (Or.inr (c_mo _ (h1.b.drew.turn0 t5))) ?_; clear hK K; (try simp only [Act.put, List.getElem_toArray, List.getElem_cons_zero, List.getElem_cons_succ, List.setIfInBounds_toArray, List.set_cons_zero, List.set_cons_succ])
                  refine wpTwo_ready (rs := [18]) (by kernel_rfl) (by simp) ?_
                  refine AllTwo.cons rfl (fun K hK => ?_) ?_
                  · refine st_appF rfl _ _ _ rfl elB rfl rfl ho5 (hRk w5 t5.undrew) (vbs_one ((D.f 0).mo.take 0)) (by omega) t5.size ?_
                    intro A6 c6 w6 ho6 hc6
                    have t6 : Turn (World.drew wr) w6 none := by
                      rcases hc6 with ⟨_, _, q⟩ | ⟨_, q⟩
                      · exact t5.new q (fun g hg => (ho5.block g hg).1)
                      · exact t5.trans q
                    clear hc6
                    refine hK.out _ _ (Or.inr (c_mo _ (h1.b.drew.turn0 t6))) ?_; clear hK K; (try simp only [Act.put, List.getElem_toArray, List.getElem_cons_zero, List.getElem_cons_succ, List.setIfInBounds_toArray, List.set_cons_zero, List.set_cons_succ])
                    refine wpTwo_ready (rs := [20]) (by kernel_rfl) (by simp) ?_
                    refine AllTwo.cons rfl (fun K hK => ?_) ?_
                    · refine st_appF rfl _ _ _ rfl elB rfl rfl ho6 (hrt.drew.turn0 t6 hBr) (vbs_one t) (by omega) t6.size ?_
                      intro A7 c7 w7 ho7 hc7
                      have t7 : Turn (World.drew wr) w7 none := by
                        rcases hc7 with ⟨_, _, q⟩ | ⟨_, q⟩
                        · exact t6.new q (fun g hg => (ho6.block g hg).1)
                        · exact t6.trans q
                      clear hc7
                      refine hK.out _ _ (Or.inr (c_mo _ (h1.b.drew.turn0 t7))) ?_; clear hK K; (try simp only [Act.put, List.getElem_toArray, List.getElem_cons_zero, List.getElem_cons_succ, List.setIfInBounds_toArray, List.set_cons_zero, List.set_cons_succ])
                      refine wpTwo_ready (rs := [21]) (by kernel_rfl) (by simp) ?_
                      refine AllTwo.cons rfl (fun K hK => ?_) ?_
                      · go_simp
                        refine (rfast_any (j := 0) (h1.b.drew.turn0 t7) hj2 A7 (xn + 0 + m) c7 ((D.f 0).fa ++ (D.f 0).mo.take 0 ++ t)).mono ?_
                        rintro e w8 ⟨rfl, t8, b8⟩
                        refine hK.out _ _ (Or.inl rfl) ?_; clear hK K; (try simp only [Act.put, List.getElem_toArray, List.getElem_cons_zero, List.getElem_cons_succ, List.setIfInBounds_toArray, List.set_cons_zero, List.set_cons_succ])
                        refine wpTwo_done (by kernel_rfl) ?_ _
                        refine NoPanic.normal ?_
                        go_wp2
                        have ho8 : Own w7 wr.heap.size 5 1 A7 (xn + 0 + m) c7 (vbs ((D.f 0).fa ++ (D.f 0).mo.take 0 ++ t)) := by rw [vbs_append, vbs_append]; exact ho7
                        obtain ⟨R'', x'', y'', z'', q1, q2, q3⟩ := fin ⟨A7, xn + 0 + m, c7⟩ _ _ t7.undrew (Rs.own (a := ⟨A7, xn + 0 + m, c7⟩) ho8 fun i q1 q2 => .inr ⟨q1, q2⟩) t8 b8
                        refine ⟨⟨1, R'', x'', y'', z'', by omega, rfl, q1, q2, q3⟩, ?_⟩
                        simp [intOf]
                      · exact AllTwo.nil
                    · exact AllTwo.nil
                  · exact AllTwo.nil
                · exact AllTwo.nil
              · exact AllTwo.nil
            · obtain ⟨c2, c0⟩ := c_mo wr h1.b
              have c6 : wr.cell? ⟨r, 7, none⟩ = some (.bool false) := c_is
              have c2 : wr.cell? ⟨r, 3, none⟩ = some (.slice (some a) yn yc) := c2
              have c0 : wr.cell? ⟨r, 1, none⟩ = some (.slice (x' 1).A xn (x' 1).c) := c0
              have h00 : Own ((World.drew wr).alloc (.cells #[] 5)) wr.heap.size 5 1 (some ⟨wr.heap.size, 0, none⟩) 0 0 [] := Own.made (World.drew wr) _ _ 1 0 #[] (Nat.le_refl _) (by decide) rfl
              go_wp2
              refine wp_region_noPanic ?_
              refine wp_region_two 21 (fun W => W.cell? ⟨r, 3, none⟩ = some (.slice (some a) yn yc) ∧ W.cell? ⟨r, 1, none⟩ = some (.slice (x' 1).A xn (x' 1).c)) (by kernel_rfl) ⟨c2, c0⟩ (fun hHeld => ?_)
              (refine wpTwo_takeP (i := 0) (v := ?_) (pth := [21]) rfl (by kernel_rfl) (by kernel_rfl) (by kernel_rfl) (by kernel_rfl) (by kernel_rfl) (by kernel_rfl) (by kernel_rfl) (fun _ _ _ h => h) (Or.inl ⟨rfl, ?_⟩) (by assumption) ?_; rotate_left 1; · (intro w hSw; (try dsimp only at hSw); go_simp; (try with_reducible rfl))); (try simp only [Act.put, List.getElem_toArray, List.getElem_cons_zero, List.getElem_cons_succ, List.setIfInBounds_toArray, List.set_cons_zero, List.set_cons_succ])
              (refine wpTwo_takeP (i := 1) (v := ?_) (pth := [21]) rfl (by kernel_rfl) (by kernel_rfl) (by kernel_rfl) (by kernel_rfl) (by kernel_rfl) (by kernel_rfl) (by kernel_rfl) (fun _ _ _ h => h) (Or.inl ⟨rfl, ?_⟩) (by assumption) ?_; rotate_left 1; · (intro w hSw; (try dsimp only at hSw); go_simp; (try with_reducible rfl))); (try simp only [Act.put, List.getElem_toArray, List.getElem_cons_zero, List.getElem_cons_succ, List.setIfInBounds_toArray, List.set_cons_zero, List.set_cons_succ])
              (refine wpTwo_takeP (i := 3) (v := ?_) (pth := [5, 6, 7, 8, 9, 18, 20, 21]) rfl (by kernel_rfl) (by kernel_rfl) (by kernel_rfl) (by kernel_rfl) (by kernel_rfl) (by kernel_rfl) (by kernel_rfl) (fun _ _ _ h => h) (Or.inl ⟨rfl, ?_⟩) (by assumption) ?_; rotate_left 1; · (intro w hSw; (try dsimp only at hSw); go_simp; (try with_reducible rfl))); (try simp only [Act.put, List.getElem_toArray, List.getElem_cons_zero, List.getElem_cons_succ, List.setIfInBounds_toArray, List.set_cons_zero, List.set_cons_succ])
              (refine wpTwo_takeP (i := 4) (v := ?_) (pth := [7, 8, 9, 18, 20, 21]) rfl (by kernel_rfl) (by kernel_rfl) (by kernel_rfl) (by kernel_rfl) (by kernel_rfl) (by kernel_rfl) (by kernel_rfl) (fun _ _ _ h => h) (Or.inl ⟨rfl, ?_⟩) (by assumption) ?_; rotate_left 1; · (intro w hSw; (try dsimp only at hSw); go_simp; (try with_reducible rfl))); (try simp only [Act.put, List.getElem_toArray, List.getElem_cons_zero, List.getElem_cons_succ, List.setIfInBounds_toArray, List.set_cons_zero, List.set_cons_succ])
              (refine wpTwo_takeP (i := 5) (v := ?_) (pth := [6, 7, 8, 9, 18, 20, 21]) rfl (by kernel_rfl) (by kernel_rfl) (by kernel_rfl) (by kernel_rfl) (by kernel_rfl) (by kernel_rfl) (by kernel_rfl) (fun _ _ _ h => h) (Or.inl ⟨rfl, ?_⟩) (by assumption) ?_; rotate_left 1; · (intro w hSw; (try dsimp only at hSw); go_simp; (try with_reducible rfl))); (try simp only [Act.put, List.getElem_toArray, List.getElem_cons_zero, List.getElem_cons_succ, List.setIfInBounds_toArray, List.set_cons_zero, List.set_cons_succ])
              (refine wpTwo_takeP (i := 6) (v := ?_) (pth := [7, 8, 9, 18, 20, 21]) rfl (by kernel_rfl) (by kernel_rfl) (by kernel_rfl) (by kernel_rfl) (by kernel_rfl) (by kernel_rfl) (by kernel_rfl) (fun _ _ _ h => h) (Or.inl ⟨rfl, ?_⟩) (by assumption) ?_; rotate_left 1; · (intro w hSw; (try dsimp only at hSw); go_simp; (try with_reducible rfl))); (try simp only [Act.put, List.getElem_toArray, List.getElem_cons_zero, List.getElem_cons_succ, List.setIfInBounds_toArray, List.set_cons_zero, List.set_cons_succ])
              (refine wpTwo_takeP (i := 7) (v := ?_) (pth := [8, 9, 18, 20, 21]) rfl (by kernel_rfl) (by kernel_rfl) (by kernel_rfl) (by kernel_rfl) (by kernel_rfl) (by kernel_rfl) (by kernel_rfl) (fun _ _ _ h => h) (Or.inl ⟨rfl, ?_⟩) (by assumption) ?_; rotate_left 1; · (intro w hSw; (try dsimp only at hSw); go_simp; (try with_reducible rfl))); (try simp only [Act.put, List.getElem_toArray, List.getElem_cons_zero, List.getElem_cons_succ, List.setIfInBounds_toArray, List.set_cons_zero, List.set_cons_succ])
              (refine wpTwo_takeP (i := 8) (v := ?_) (pth := [9, 18, 20, 21]) rfl (by kernel_rfl) (by kernel_rfl) (by kernel_rfl) (by kernel_rfl) (by kernel_rfl) (by kernel_rfl) (by kernel_rfl) (fun _ _ _ h => h) (Or.inl ⟨rfl, ?_⟩) (by assumption) ?_; rotate_left 1; · (intro w hSw; (try dsimp only at hSw); go_simp; (try with_reducible rfl))); (try simp only [Act.put, List.getElem_toArray, List.getElem_cons_zero, List.getElem_cons_succ, List.setIfInBounds_toArray, List.set_cons_zero, List.set_cons_succ])
              (refine wpTwo_takeP (i := 10) (v := ?_) (pth := [12, 13, 14, 15, 17, 18, 20, 21]) rfl (by kernel_rfl) (by kernel_rfl) (by kernel_rfl) (by kernel_rfl) (by kernel_rfl) (by kernel_rfl) (by kernel_rfl) (fun _ _ _ h => h) (Or.inl ⟨rfl, ?_⟩) (by assumption) ?_; rotate_left 1; · (intro w hSw; (try dsimp only at hSw); go_simp; (try with_reducible rfl))); (try simp only [Act.put, List.getElem_toArray, List.getElem_cons_zero, List.getElem_cons_succ, List.setIfInBounds_toArray, List.set_cons_zero, List.set_cons_succ])
              (refine wpTwo_takeP (i := 11) (v := ?_) (pth := [14, 15, 17, 18, 20, 21]) rfl (by kernel_rfl) (by kernel_rfl) (by kernel_rfl) (by kernel_rfl) (by kernel_rfl) (by kernel_rfl) (by kernel_rfl) (fun _ _ _ h => h) (Or.inl ⟨rfl, ?_⟩) (by assumption) ?_; rotate_left 1; · (intro w hSw; (try dsimp only at hSw); go_simp; (try with_reducible rfl))); (try simp only [Act.put, List.getElem_toArray, List.getElem_cons_zero, List.getElem_cons_succ, List.setIfInBounds_toArray, List.set_cons_zero, List.set_cons_succ])
              (refine wpTwo_takeP (i := 12) (v := ?_) (pth := [13, 14, 15, 17, 18, 20, 21]) rfl (by kernel_rfl) (by kernel_rfl) (by kernel_rfl) (by kernel_rfl) (by kernel_rfl) (by kernel_rfl) (by kernel_rfl) (fun _ _ _ h => h) (Or.inl ⟨rfl, ?_⟩) (by assumption) ?_; rotate_left 1; · (intro w hSw; (try dsimp only at hSw); go_simp; (try with_reducible rfl))); (try simp only [Act.put, List.getElem_toArray, List.getElem_cons_zero, List.getElem_cons_succ, List.setIfInBounds_toArray, List.set_cons_zero, List.set_cons_succ])
              (refine wpTwo_takeP (i := 13) (v := ?_) (pth := [14, 15, 17, 18, 20, 21]) rfl (by kernel_rfl) (by kernel_rfl) (by kernel_rfl) (by kernel_rfl) (by kernel_rfl) (by kernel_rfl) (by kernel_rfl) (fun _ _ _ h => h) (Or.inl ⟨rfl, ?_⟩) (by assumption) ?_; rotate_left 1; · (intro w hSw; (try dsimp only at hSw); go_simp; (try with_reducible rfl))); (try simp only [Act.put, List.getElem_toArray, List.getElem_cons_zero, List.getElem_cons_succ, List.setIfInBounds_toArray, List.set_cons_zero, List.set_cons_succ])
              (refine wpTwo_takeP (i := 14) (v := ?_) (pth := [15, 17, 18, 20, 21]) rfl (by kernel_rfl) (by kernel_rfl) (by kernel_rfl) (by kernel_rfl) (by kernel_rfl) (by kernel_rfl) (by kernel_rfl) (fun _ _ _ h => h) (Or.inl ⟨rfl, ?_⟩) (by assumption) ?_; rotate_left 1; · (intro w hSw; (try dsimp only at hSw); go_simp; (try with_reducible rfl))); (try simp only [Act.put, List.getElem_toArray, List.getElem_cons_zero, List.getElem_cons_succ, List.setIfInBounds_toArray, List.set_cons_zero, List.set_cons_succ])
              (refine wpTwo_takeP (i := 15) (v := ?_) (pth := [17, 18, 20, 21]) rfl (by kernel_rfl) (by kernel_rfl) (by kernel_rfl) (by kernel_rfl) (by kernel_rfl) (by kernel_rfl) (by kernel_rfl) (fun _ _ _ h => h) (Or.inl ⟨rfl, ?_⟩) (by assumption) ?_; rotate_left 1; · (intro w hSw; (try dsimp only at hSw); go_simp; (try with_reducible rfl))); (try simp only [Act.put, List.getElem_toArray, List.getElem_cons_zero, List.getElem_cons_succ, List.setIfInBounds_toArray, List.set_cons_zero, List.set_cons_succ])
              (refine wpTwo_takeP (i := 16) (v := ?_) (pth := [17, 18, 20, 21]) rfl (by kernel_rfl) (by kernel_rfl) (by kernel_rfl) (by kernel_rfl) (by kernel_rfl) (by kernel_rfl) (by kernel_rfl) (fun _ _ _ h => h) (Or.inl ⟨rfl, ?_⟩) (by assumption) ?_; rotate_left 1; · (intro w hSw; (try dsimp only at hSw); go_simp; (try with_reducible rfl))); (try simp only [Act.put, List.getElem_toArray, List.getElem_cons_zero, List.getElem_cons_succ, List.setIfInBounds_toArray, List.set_cons_zero, List.set_cons_succ])
              (refine wpTwo_takeP (i := 17) (v := ?_) (pth := [18, 20, 21]) rfl (by kernel_rfl) (by kernel_rfl) (by kernel_rfl) (by kernel_rfl) (by kernel_rfl) (by kernel_rfl) (by kernel_rfl) (fun _ _ _ h => h) (Or.inl ⟨rfl, ?_⟩) (by assumption) ?_; rotate_left 1; · (intro w hSw; (try dsimp only at hSw); go_simp; (try with_reducible rfl))); (try simp only [Act.put, List.getElem_toArray, List.getElem_cons_zero, List.getElem_cons_succ, List.setIfInBounds_toArray, List.set_cons_zero, List.set_cons_succ])
              (refine wpTwo_takeP (i := 19) (v := ?_) (pth := [20, 21]) rfl (by kernel_rfl) (by kernel_rfl) (by kernel_rfl) (by kernel_rfl) (by kernel_rfl) (by kernel_rfl) (by kernel_rfl) (fun _ _ _ h => h) (Or.inl ⟨rfl, ?_⟩) (by assumption) ?_; rotate_left 1; · (intro w hSw; (try dsimp only at hSw); go_simp; (try with_reducible rfl))); (try simp only [Act.put, List.getElem_toArray, List.getElem_cons_zero, List.getElem_cons_succ, List.setIfInBounds_toArray, List.set_cons_zero, List.set_cons_succ])
              clear c0 c2 c6 hHeld
              refine wpTwo_ready (rs := [2]) (by kernel_rfl) (by simp) ?_
              refine AllTwo.cons rfl (fun K hK => ?_) ?_
              · go_simp
                refine hK.out _ _ (Or.inr (c_mo _ (h1.b.drew.alloc (.cells #[] 5)))) ?_; clear hK K; (try simp only [Act.put, List.getElem_toArray, List.getElem_cons_zero, List.getElem_cons_succ, List.setIfInBounds_toArray, List.set_cons_zero, List.set_cons_succ])
                refine wpTwo_ready (rs := [9]) (by kernel_rfl) (by simp) ?_
                refine AllTwo.cons rfl (fun K hK => ?_) ?_
                · refine st_appF rfl _ _ _ rfl elB rfl rfl h00 ((hx3.drew).alloc (Nat.le_refl _) (.cells #[] 5)) (vbs_one (D.f 1).fa) (by omega) (by show _ ≤ (wr.heap.push _).size; rw [Array.size_push]; omega) ?_
                  intro A5 c5 w5 ho5 hc5
                  have t5 : Turn (World.drew wr) w5 none := by
                    rcases hc5 with ⟨_, _, q⟩ | ⟨_, q⟩
                    · exact ((Turn.refl (World.drew wr) none).alloc _).new q (fun g hg => by simp [blk] at hg; subst hg; exact Nat.le_refl _)
                    · exact ((Turn.refl (World.drew wr) none).alloc _).trans q
                  clear hc5
                  simp only [Nat.zero_add, List.nil_append] at ho5 ⊢
                  refine hK.out _ _ (Or.inr (c_mo _ (h1.b.drew.turn0 t5))) ?_; clear hK K; (try simp only [Act.put, List.getElem_toArray, List.getElem_cons_zero, List.getElem_cons_succ, List.setIfInBounds_toArray, List.set_cons_zero, List.set_cons_succ])
                  refine wpTwo_ready (rs := [18]) (by kernel_rfl) (by simp) ?_
                  refine AllTwo.cons rfl (fun K hK => ?_) ?_
                  · refine st_appF rfl _ _ _ rfl elB rfl rfl ho5 (hRk w5 t5.undrew) (vbs_one ((D.f 1).mo.take 0)) (by omega) t5.size ?_
                    intro A6 c6 w6 ho6 hc6
                    have t6 : Turn (World.drew wr) w6 none := by
                      rcases hc6 with ⟨_, _, q⟩ | ⟨_, q⟩
                      · exact t5.new q (fun g hg => (ho5.block g hg).1)
                      · exact t5.trans q
                    clear hc6
                    refine hK.out _ _ (Or.inr (c_mo _ (h1.b.drew.turn0 t6))) ?_; clear hK K; (try simp only [Act.put, List.getElem_toArray, List.getElem_cons_zero, List.getElem_cons_succ, List.setIfInBounds_toArray, List.set_cons_zero, List.set_cons_succ])
                    refine wpTwo_ready (rs := [20]) (by kernel_rfl) (by simp) ?_
                    refine AllTwo.cons rfl (fun K hK => ?_) ?_
                    · refine st_appF rfl _ _ _ rfl elB rfl rfl ho6 (hrt.drew.turn0 t6 hBr) (vbs_one t) (by omega) t6.size ?_
                      intro A7 c7 w7 ho7 hc7
                      have t7 : Turn (World.drew wr) w7 none := by
                        rcases hc7 with ⟨_, _, q⟩ | ⟨_, q⟩
                        · exact t6.new q (fun g hg => (ho6.block g hg).1)
                        · exact t6.trans q
                      clear hc7
                      refine hK.out _ _ (Or.inr (c_mo _ (h1.b.drew.turn0 t7))) ?_; clear hK K; (try simp only [Act.put, List.getElem_toArray, List.getElem_cons_zero, List.getElem_cons_succ, List.setIfInBounds_toArray, List.set_cons_zero, List.set_cons_succ])
                      refine wpTwo_ready (rs := [21]) (by kernel_rfl) (by simp) ?_
                      refine AllTwo.cons rfl (fun K hK => ?_) ?_
                      · go_simp
                        refine (rfast_any (j := 1) (h1.b.drew.turn0 t7) hj2 A7 (xn + 0 + m) c7 ((D.f 1).fa ++ (D.f 1).mo.take 0 ++ t)).mono ?_
                        rintro e w8 ⟨rfl, t8, b8⟩
                        refine hK.out _ _ (Or.inl rfl) ?_; clear hK K; (try simp only [Act.put, List.getElem_toArray, List.getElem_cons_zero, List.getElem_cons_succ, List.setIfInBounds_toArray, List.set_cons_zero, List.set_cons_succ])
                        refine wpTwo_done (by kernel_rfl) ?_ _
                        refine NoPanic.normal ?_
                        go_wp2
                        have ho8 : Own w7 wr.heap.size 5 1 A7 (xn + 0 + m) c7 (vbs ((D.f 1).fa ++ (D.f 1).mo.take 0 ++ t)) := by rw [vbs_append, vbs_append]; exact ho7
                        obtain ⟨R'', x'', y'', z'', q1, q2, q3⟩ := fin ⟨A7, xn + 0 + m, c7⟩ _ _ t7.undrew (Rs.own (a := ⟨A7, xn + 0 + m, c7⟩) ho8 fun i q1 q2 => .inr ⟨q1, q2⟩) t8 b8
                        refine ⟨⟨2, R'', x'', y'', z'', by omega, rfl, q1, q2, q3⟩, ?_⟩
                        simp [intOf]
                      · exact AllTwo.nil
                    · exact AllTwo.nil
                  · exact AllTwo.nil
                · exact AllTwo.nil
              · exact AllTwo.nil
          · have hkt : (D.f j).mo.take (Int.toNat (KK : Int)) = (D.f j).mo.take KK := by rw [Int.toNat_natCast]
            rw [hkt] at hle
            have hRk := fun V hV => hmk KK hkt V hV hk
            rw [hle] at fin
            have hcl : ((D.f j).fa ++ (D.f j).mo.take KK ++ t).length = xn + KK + m := by
              have q1 := hlx.out
              have q2 := (hRk wr (Turn.refl wr none)).len
              rw [vbs_len] at q2
              have q3 := hfj.x.n
              have q4 := hr.len
              rw [vbs_len] at q4
              rw [List.length_append, List.length_append, q2, q4]
              have q5 := hx3.len
              rw [vbs_len] at q5
              omega
            clear hkt hmk hlx hyl
            have hKc : KK ≤ yc := by omega
            have hkn : ¬ ((KK : Int) < 0) := by omega
            have hkn2 : ¬ ((yn : Int) < (KK : Int)) := by omega
            obtain rfl | rfl : j = 0 ∨ j = 1 := by omega
            · obtain ⟨c2, c0⟩ := c_mo wr h1.b
              have c6 : wr.cell? ⟨r, 6, none⟩ = some (.bool false) := c_is
              have c2 : wr.cell? ⟨r, 2, none⟩ = some (.slice (some a) yn yc) := c2
              have c0 : wr.cell? ⟨r, 0, none⟩ = some (.slice (x' 0).A xn (x' 0).c) := c0
              have h00 : Own ((World.drew wr).alloc (.cells #[] 5)) wr.heap.size 5 1 (some ⟨wr.heap.size, 0, none⟩) 0 0 [] := Own.made (World.drew wr) _ _ 1 0 #[] (Nat.le_refl _) (by decide) rfl
              go_wp2
              refine wp_region_noPanic ?_
              refine wp_region_two 21 (fun W => W.cell? ⟨r, 2, none⟩ = some (.slice (some a) yn yc) ∧ W.cell? ⟨r, 0, none⟩ = some (.slice (x' 0).A xn (x' 0).c)) (by kernel_rfl) ⟨c2, c0⟩ (fun hHeld => ?_)
              (refine wpTwo_takeP (i := 0) (v := ?_) (pth := [21]) rfl (by kernel_rfl) (by kernel_rfl) (by kernel_rfl) (by kernel_rfl) (by kernel_rfl) (by kernel_rfl) (by kernel_rfl) (fun _ _ _ h => h) (Or.inl ⟨rfl, ?_⟩) (by assumption) ?_; rotate_left 1; · (intro w hSw; (try dsimp only at hSw); go_simp; (try with_reducible rfl))); (try simp only [Act.put, List.getElem_toArray, List.getElem_cons_zero, List.getElem_cons_succ, List.setIfInBounds_toArray, List.set_cons_zero, List.set_cons_succ])
              (refine wpTwo_takeP (i := 1) (v := ?_) (pth := [21]) rfl (by kernel_rfl) (by kernel_rfl) (by kernel_rfl) (by kernel_rfl) (by kernel_rfl) (by kernel_rfl) (by kernel_rfl) (fun _ _ _ h => h) (Or.inl ⟨rfl, ?_⟩) (by assumption) ?_; rotate_left 1; · (intro w hSw; (try dsimp only at hSw); go_simp; (try with_reducible rfl))); (try simp only [Act.put, List.getElem_toArray, List.getElem_cons_zero, List.getElem_cons_succ, List.setIfInBounds_toArray, List.set_cons_zero, List.set_cons_succ])
              (refine wpTwo_takeP (i := 3) (v := ?_) (pth := [5, 6, 7, 8, 9, 18, 20, 21]) rfl (by kernel_rfl) (by kernel_rfl) (by kernel_rfl) (by kernel_rfl) (by kernel_rfl) (by kernel_rfl) (by kernel_rfl) (fun _ _ _ h => h) (Or.inl ⟨rfl, ?_⟩) (by assumption) ?_; rotate_left 1; · (intro w hSw; (try dsimp only at hSw); go_simp; (try with_reducible rfl))); (try simp only [Act.put, List.getElem_toArray, List.getElem_cons_zero, List.getElem_cons_succ, List.setIfInBounds_toArray, List.set_cons_zero, List.set_cons_succ])
              (refine wpTwo_takeP (i := 4) (v := ?_) (pth := [7, 8, 9, 18, 20, 21]) rfl (by kernel_rfl) (by kernel_rfl) (by kernel_rfl) (by kernel_rfl) (by kernel_rfl) (by kernel_rfl) (by kernel_rfl) (fun _ _ _ h => h) (Or.inl ⟨rfl, ?_⟩) (by assumption) ?_; rotate_left 1; · (intro w hSw; (try dsimp only at hSw); go_simp; (try with_reducible rfl))); (try simp only [Act.put, List.getElem_toArray, List.getElem_cons_zero, List.getElem_cons_succ, List.setIfInBounds_toArray, List.set_cons_zero, List.set_cons_succ])
              (refine wpTwo_takeP (i := 5) (v := ?_) (pth := [6, 7, 8, 9, 18, 20, 21]) rfl (by kernel_rfl) (by kernel_rfl) (by kernel_rfl) (by kernel_rfl) (by kernel_rfl) (by kernel_rfl) (by kernel_rfl) (fun _ _ _ h => h) (Or.inl ⟨rfl, ?_⟩) (by assumption) ?_; rotate_left 1; · (intro w hSw; (try dsimp only at hSw); go_simp; (try with_reducible rfl))); (try simp only [Act.put, List.getElem_toArray, List.getElem_cons_zero, List.getElem_cons_succ, List.setIfInBounds_toArray, List.set_cons_zero, List.set_cons_succ])
              (refine wpTwo_takeP (i := 6) (v := ?_) (pth := [7, 8, 9, 18, 20, 21]) rfl (by kernel_rfl) (by kernel_rfl) (by kernel_rfl) (by kernel_rfl) (by kernel_rfl) (by kernel_rfl) (by kernel_rfl) (fun _ _ _ h => h) (Or.inl ⟨rfl, ?_⟩) (by assumption) ?_; rotate_left 1; · (intro w hSw; (try dsimp only at hSw); go_simp; (try with_reducible rfl))); (try simp only [Act.put, List.getElem_toArray, List.getElem_cons_zero, List.getElem_cons_succ, List.setIfInBounds_toArray, List.set_cons_zero, List.set_cons_succ])
              (refine wpTwo_takeP (i := 7) (v := ?_) (pth := [8, 9, 18, 20, 21]) rfl (by kernel_rfl) (by kernel_rfl) (by kernel_rfl) (by kernel_rfl) (by kernel_rfl) (by kernel_rfl) (by kernel_rfl) (fun _ _ _ h => h) (Or.inl ⟨rfl, ?_⟩) (by assumption) ?_; rotate_left 1; · (intro w hSw; (try dsimp only at hSw); go_simp; (try with_reducible rfl))); (try simp only [Act.put, List.getElem_toArray, List.getElem_cons_zero, List.getElem_cons_succ, List.setIfInBounds_toArray, List.set_cons_zero, List.set_cons_succ])
              (refine wpTwo_takeP (i := 8) (v := ?_) (pth := [9, 18, 20, 21]) rfl (by kernel_rfl) (by kernel_rfl) (by kernel_rfl) (by kernel_rfl) (by kernel_rfl) (by kernel_rfl) (by kernel_rfl) (fun _ _ _ h => h) (Or.inl ⟨rfl, ?_⟩) (by assumption) ?_; rotate_left 1; · (intro w hSw; (try dsimp only at hSw); go_simp; (try with_reducible rfl))); (try simp only [Act.put, List.getElem_toArray, List.getElem_cons_zero, List.getElem_cons_succ, List.setIfInBounds_toArray, List.set_cons_zero, List.set_cons_succ])
              (refine wpTwo_takeP (i := 10) (v := ?_) (pth := [12, 13, 14, 15, 17, 18, 20, 21]) rfl (by kernel_rfl) (by kernel_rfl) (by kernel_rfl) (by kernel_rfl) (by kernel_rfl) (by kernel_rfl) (by kernel_rfl) (fun _ _ _ h => h) (Or.inl ⟨rfl, ?_⟩) (by assumption) ?_; rotate_left 1; · (intro w hSw; (try dsimp only at hSw); go_simp; (try with_reducible rfl))); (try simp only [Act.put, List.getElem_toArray, List.getElem_cons_zero, List.getElem_cons_succ, List.setIfInBounds_toArray, List.set_cons_zero, List.set_cons_succ])
              (refine wpTwo_takeP (i := 11) (v := ?_) (pth := [14, 15, 17, 18, 20, 21]) rfl (by kernel_rfl) (by kernel_rfl) (by kernel_rfl) (by kernel_rfl) (by kernel_rfl) (by kernel_rfl) (by kernel_rfl) (fun _ _ _ h => h) (Or.inl ⟨rfl, ?_⟩) (by assumption) ?_; rotate_left 1; · (intro w hSw; (try dsimp only at hSw); go_simp; (try with_reducible rfl))); (try simp only [Act.put, List.getElem_toArray, List.getElem_cons_zero, List.getElem_cons_succ, List.setIfInBounds_toArray, List.set_cons_zero, List.set_cons_succ])
              (refine wpTwo_takeP (i := 12) (v := ?_) (pth := [13, 14, 15, 17, 18, 20, 21]) rfl (by kernel_rfl) (by kernel_rfl) (by kernel_rfl) (by kernel_rfl) (by kernel_rfl) (by kernel_rfl) (by kernel_rfl) (fun _ _ _ h => h) (Or.inl ⟨rfl, ?_⟩) (by assumption) ?_; rotate_left 1; · (intro w hSw; (try dsimp only at hSw); go_simp; (try with_reducible rfl))); (try simp only [Act.put, List.getElem_toArray, List.getElem_cons_zero, List.getElem_cons_succ, List.setIfInBounds_toArray, List.set_cons_zero, List.set_cons_succ])
              (refine wpTwo_takeP (i := 13) (v := ?_) (pth := [14, 15, 17, 18, 20, 21]) rfl (by kernel_rfl) (by kernel_rfl) (by kernel_rfl) (by kernel_rfl) (by kernel_rfl) (by kernel_rfl) (by kernel_rfl) (fun _ _ _ h => h) (Or.inl ⟨rfl, ?_⟩) (by assumption) ?_; rotate_left 1; · (intro w hSw; (try dsimp only at hSw); go_simp; (try with_reducible rfl))); (try simp only [Act.put, List.getElem_toArray, List.getElem_cons_zero, List.getElem_cons_succ, List.setIfInBounds_toArray, List.set_cons_zero, List.set_cons_succ])
              (refine wpTwo_takeP (i := 14) (v := ?_) (pth := [15, 17, 18, 20, 21]) rfl (by kernel_rfl) (by kernel_rfl) (by kernel_rfl) (by kernel_rfl) (by kernel_rfl) (by kernel_rfl) (by kernel_rfl) (fun _ _ _ h => h) (Or.inl ⟨rfl, ?_⟩) (by assumption) ?_; rotate_left 1; · (intro w hSw; (try dsimp only at hSw); go_simp; (try with_reducible rfl))); (try simp only [Act.put, List.getElem_toArray, List.getElem_cons_zero, List.getElem_cons_succ, List.setIfInBounds_toArray, List.set_cons_zero, List.set_cons_succ])
              (refine wpTwo_takeP (i := 15) (v := ?_) (pth := [17, 18, 20, 21]) rfl (by kernel_rfl) (by kernel_rfl) (by kernel_rfl) (by kernel_rfl) (by kernel_rfl) (by kernel_rfl) (by kernel_rfl) (fun _ _ _ h => h) (Or.inl ⟨rfl, ?_⟩) (by assumption) ?_; rotate_left 1; · (intro w hSw; (try dsimp only at hSw); go_simp; (try with_reducible rfl))); (try simp only [Act.put, List.getElem_toArray, List.getElem_cons_zero, List.getElem_cons_succ, List.setIfInBounds_toArray, List.set_cons_zero, List.set_cons_succ])
              (refine wpTwo_takeP (i := 16) (v := ?_) (pth := [17, 18, 20, 21]) rfl (by kernel_rfl) (by kernel_rfl) (by kernel_rfl) (by kernel_rfl) (by kernel_rfl) (by kernel_rfl) (by kernel_rfl) (fun _ _ _ h => h) (Or.inl ⟨rfl, ?_⟩) (by assumption) ?_; rotate_left 1; · (intro w hSw; (try dsimp only at hSw); go_simp; (try with_reducible rfl))); (try simp only [Act.put, List.getElem_toArray, List.getElem_cons_zero, List.getElem_cons_succ, List.setIfInBounds_toArray, List.set_cons_zero, List.set_cons_succ])
              (refine wpTwo_takeP (i := 17) (v := ?_) (pth := [18, 20, 21]) rfl (by kernel_rfl) (by kernel_rfl) (by kernel_rfl) (by kernel_rfl) (by kernel_rfl) (by kernel_rfl) (by kernel_rfl) (fun _ _ _ h => h) (Or.inl ⟨rfl, ?_⟩) (by assumption) ?_; rotate_left 1; · (intro w hSw; (try dsimp only at hSw); go_simp; (try with_reducible rfl))); (try simp only [Act.put, List.getElem_toArray, List.getElem_cons_zero, List.getElem_cons_succ, List.setIfInBounds_toArray, List.set_cons_zero, List.set_cons_succ])
              (refine wpTwo_takeP (i := 19) (v := ?_) (pth := [20, 21]) rfl (by kernel_rfl) (by kernel_rfl) (by kernel_rfl) (by kernel_rfl) (by kernel_rfl) (by kernel_rfl) (by kernel_rfl) (fun _ _ _ h => h) (Or.inl ⟨rfl, ?_⟩) (by assumption) ?_; rotate_left 1; · (intro w hSw; (try dsimp only at hSw); go_simp; (try with_reducible rfl))); (try simp only [Act.put, List.getElem_toArray, List.getElem_cons_zero, List.getElem_cons_succ, List.setIfInBounds_toArray, List.set_cons_zero, List.set_cons_succ])
              clear c0 c2 c6 hHeld
              refine wpTwo_ready (rs := [2]) (by kernel_rfl) (by simp) ?_
              refine AllTwo.cons rfl (fun K hK => ?_) ?_
              · go_simp
                refine hK.out _ _ (Or.inr (c_mo _ (h1.b.drew.alloc (.cells #[] 5)))) ?_; clear hK K; (try simp only [Act.put, List.getElem_toArray, List.getElem_cons_zero, List.getElem_cons_succ, List.setIfInBounds_toArray, List.set_cons_zero, List.set_cons_succ])
                refine wpTwo_ready (rs := [9]) (by kernel_rfl) (by simp) ?_
                refine AllTwo.cons rfl (fun K hK => ?_) ?_
                · refine st_appF rfl _ _ _ rfl elB rfl rfl h00 ((hx3.drew).alloc (Nat.le_refl _) (.cells #[] 5)) (vbs_one (D.f 0).fa) (by omega) (by show _ ≤ (wr.heap.push _).size; rw [Array.size_push]; omega) ?_
                  intro A5 c5 w5 ho5 hc5
                  have t5 : Turn (World.drew wr) w5 none := by
                    rcases hc5 with ⟨_, _, q⟩ | ⟨_, q⟩
                    · exact ((Turn.refl (World.drew wr) none).alloc _).new q (fun g hg => by simp [blk] at hg; subst hg; exact Nat.le_refl _)
                    · exact ((Turn.refl (World.drew wr) none).alloc _).trans q
                  clear hc5
                  simp only [Nat.zero_add, List.nil_append] at ho5 ⊢
                  refine hK.out _ _ (Or.inr (c_mo _ (h1.b.drew.turn0 t5))) ?_; clear hK K; (try simp only [Act.put, List.getElem_toArray, List.getElem_cons_zero, List.getElem_cons_succ, List.setIfInBounds_toArray, List.set_cons_zero, List.set_cons_succ])
                  refine wpTwo_ready (rs := [18]) (by kernel_rfl) (by simp) ?_
                  refine AllTwo.cons rfl (fun K hK => ?_) ?_
                  · refine st_appF rfl _ _ _ rfl elB rfl rfl ho5 (hRk w5 t5.undrew) (vbs_one ((D.f 0).mo.take KK)) (by omega) t5.size ?_
                    intro A6 c6 w6 ho6 hc6
                    have t6 : Turn (World.drew wr) w6 none := by
                      rcases hc6 with ⟨_, _, q⟩ | ⟨_, q⟩
                      · exact t5.new q (fun g hg => (ho5.block g hg).1)
                      · exact t5.trans q
                    clear hc6
                    refine hK.out _ _ (Or.inr (c_mo _ (h1.b.drew.turn0 t6))) ?_; clear hK K; (try simp only [Act.put, List.getElem_toArray, List.getElem_cons_zero, List.getElem_cons_succ, List.setIfInBounds_toArray, List.set_cons_zero, List.set_cons_succ])
                    refine wpTwo_ready (rs := [20]) (by kernel_rfl) (by simp) ?_
                    refine AllTwo.cons rfl (fun K hK => ?_) ?_
                    · refine st_appF rfl _ _ _ rfl elB rfl rfl ho6 (hrt.drew.turn0 t6 hBr) (vbs_one t) (by omega) t6.size ?_
                      intro A7 c7 w7 ho7 hc7
                      have t7 : Turn (World.drew wr) w7 none := by
                        rcases hc7 with ⟨_, _, q⟩ | ⟨_, q⟩
                        · exact t6.new q (fun g hg => (ho6.block g hg).1)
                        · exact t6.trans q
                      clear hc7
                      refine hK.out _ _ (Or.inr (c_mo _ (h1.b.drew.turn0 t7))) ?_; clear hK K; (try simp only [Act.put, List.getElem_toArray, List.getElem_cons_zero, List.getElem_cons_succ, List.setIfInBounds_toArray, List.set_cons_zero, List.set_cons_succ])
                      refine wpTwo_ready (rs := [21]) (by kernel_rfl) (by simp) ?_
                      refine AllTwo.cons rfl (fun K hK => ?_) ?_
                      · go_simp
                        refine (rfast_any (j := 0) (h1.b.drew.turn0 t7) hj2 A7 (xn + KK + m) c7 ((D.f 0).fa ++ (D.f 0).mo.take KK ++ t)).mono ?_
                        rintro e w8 ⟨rfl, t8, b8⟩
                        refine hK.out _ _ (Or.inl rfl) ?_; clear hK K; (try simp only [Act.put, List.getElem_toArray, List.getElem_cons_zero, List.getElem_cons_succ, List.setIfInBounds_toArray, List.set_cons_zero, List.set_cons_succ])
                        refine wpTwo_done (by kernel_rfl) ?_ _
                        refine NoPanic.normal ?_
                        go_wp2
                        have ho8 : Own w7 wr.heap.size 5 1 A7 (xn + KK + m) c7 (vbs ((D.f 0).fa ++ (D.f 0).mo.take KK ++ t)) := by rw [vbs_append, vbs_append]; exact ho7
                        obtain ⟨R'', x'', y'', z'', q1, q2, q3⟩ := fin ⟨A7, xn + KK + m, c7⟩ _ _ t7.undrew (Rs.own (a := ⟨A7, xn + KK + m, c7⟩) ho8 fun i q1 q2 => .inr ⟨q1, q2⟩) t8 b8
                        refine ⟨⟨1, R'', x'', y'', z'', by omega, rfl, q1, q2, q3⟩, ?_⟩
                        simp [intOf]
                      · exact AllTwo.nil
                    · exact AllTwo.nil
                  · exact AllTwo.nil
                · exact AllTwo.nil
              · exact AllTwo.nil
            · obtain ⟨c2, c0⟩ := c_mo wr h1.b
              have c6 : wr.cell? ⟨r, 7, none⟩ = some (.bool false) := c_is
              have c2 : wr.cell? ⟨r, 3, none⟩ = some (.slice (some a) yn yc) := c2
              have c0 : wr.cell? ⟨r, 1, none⟩ = some (.slice (x' 1).A xn (x' 1).c) := c0
              have h00 : Own ((World.drew wr).alloc (.cells #[] 5)) wr.heap.size 5 1 (some ⟨wr.heap.size, 0, none⟩) 0 0 [] := Own.made (World.drew wr) _ _ 1 0 #[] (Nat.le_refl _) (by decide) rfl
              go_wp2
              refine wp_region_noPanic ?_
              refine wp_region_two 21 (fun W => W.cell? ⟨r, 3, none⟩ = some (.slice (some a) yn yc) ∧ W.cell? ⟨r, 1, none⟩ = some (.slice (x' 1).A xn (x' 1).c)) (by kernel_rfl) ⟨c2, c0⟩ (fun hHeld => ?_)
              (refine wpTwo_takeP (i := 0) (v := ?_) (pth := [21]) rfl (by kernel_rfl) (by kernel_rfl) (by kernel_rfl) (by kernel_rfl) (by kernel_rfl) (by kernel_rfl) (by kernel_rfl) (fun _ _ _ h => h) (Or.inl ⟨rfl, ?_⟩) (by assumption) ?_; rotate_left 1; · (intro w hSw; (try dsimp only at hSw); go_simp; (try with_reducible rfl))); (try simp only [Act.put, List.getElem_toArray, List.getElem_cons_zero, List.getElem_cons_succ, List.setIfInBounds_toArray, List.set_cons_zero, List.set_cons_succ])
              (refine wpTwo_takeP (i := 1) (v := ?_) (pth := [21]) rfl (by kernel_rfl) (by kernel_rfl) (by kernel_rfl) (by kernel_rfl) (by kernel_rfl) (by kernel_rfl) (by kernel_rfl) (fun _ _ _ h => h) (Or.inl ⟨rfl, ?_⟩) (by assumption) ?_; rotate_left 1; · (intro w hSw; (try dsimp only at hSw); go_simp; (try with_reducible rfl))); (try simp only [Act.put, List.getElem_toArray, List.getElem_cons_zero, List.getElem_cons_succ, List.setIfInBounds_toArray, List.set_cons_zero, List.set_cons_succ])
              (refine wpTwo_takeP (i := 3) (v := ?_) (pth := [5, 6, 7, 8, 9, 18, 20, 21]) rfl (by kernel_rfl) (by kernel_rfl) (by kernel_rfl) (by kernel_rfl) (by kernel_rfl) (by kernel_rfl) (by kernel_rfl) (fun _ _ _ h => h) (Or.inl ⟨rfl, ?_⟩) (by assumption) ?_; rotate_left 1; · (intro w hSw; (try dsimp only at hSw); go_simp; (try with_reducible rfl))); (try simp only [Act.put, List.getElem_toArray, List.getElem_cons_zero, List.getElem_cons_succ, List.setIfInBounds_toArray, List.set_cons_zero, List.set_cons_succ])
              (refine wpTwo_takeP (i := 4) (v := ?_) (pth := [7, 8, 9, 18, 20, 21]) rfl (by kernel_rfl) (by kernel_rfl) (by kernel_rfl) (by kernel_rfl) (by kernel_rfl) (by kernel_rfl) (by kernel_rfl) (fun _ _ _ h => h) (Or.inl ⟨rfl, ?_⟩) (by assumption) ?_; rotate_left 1; · (intro w hSw; (try dsimp only at hSw); go_simp; (try with_reducible rfl))); (try simp only [Act.put, List.getElem_toArray, List.getElem_cons_zero, List.getElem_cons_succ, List.setIfInBounds_toArray, List.set_cons_zero, List.set_cons_succ])
              (refine wpTwo_takeP (i := 5) (v := ?_) (pth := [6, 7, 8, 9, 18, 20, 21]) rfl (by kernel_rfl) (by kernel_rfl) (by kernel_rfl) (by kernel_rfl) (by kernel_rfl) (by kernel_rfl) (by kernel_rfl) (fun _ _ _ h => h) (Or.inl ⟨rfl, ?_⟩) (by assumption) ?_; rotate_left 1; · (intro w hSw; (try dsimp only at hSw); go_simp; (try with_reducible rfl))); (try simp only [Act.put, List.getElem_toArray, List.getElem_cons_zero, List.getElem_cons_succ, List.setIfInBounds_toArray, List.set_cons_zero, List.set_cons_succ])
              (refine wpTwo_takeP (i := 6) (v := ?_) (pth := [7, 8, 9, 18, 20, 21]) rfl (by kernel_rfl) (by kernel_rfl) (by kernel_rfl) (by kernel_rfl) (by kernel_rfl) (by kernel_rfl) (by kernel_rfl) (fun _ _ _ h => h) (Or.inl ⟨rfl, ?_⟩) (by assumption) ?_; rotate_left 1; · (intro w hSw; (try dsimp only at hSw); go_simp; (try with_reducible rfl))); (try simp only [Act.put, List.getElem_toArray, List.getElem_cons_zero, List.getElem_cons_succ, List.setIfInBounds_toArray, List.set_cons_zero, List.set_cons_succ])
              (refine wpTwo_takeP (i := 7) (v := ?_) (pth := [8, 9, 18, 20, 21]) rfl (by kernel_rfl) (by kernel_rfl) (by kernel_rfl) (by kernel_rfl) (by kernel_rfl) (by kernel_rfl) (by kernel_rfl) (fun _ _ _ h => h) (Or.inl ⟨rfl, ?_⟩) (by assumption) ?_; rotate_left 1; · (intro w hSw; (try dsimp only at hSw); go_simp; (try with_reducible rfl))); (try simp only [Act.put, List.getElem_toArray, List.getElem_cons_zero, List.getElem_cons_succ, List.setIfInBounds_toArray, List.set_cons_zero, List.set_cons_succ])
              (refine wpTwo_takeP (i := 8) (v := ?_) (pth := [9, 18, 20, 21]) rfl (by kernel_rfl) (by kernel_rfl) (by kernel_rfl) (by kernel_rfl) (by kernel_rfl) (by kernel_rfl) (by kernel_rfl) (fun _ _ _ h => h) (Or.inl ⟨rfl, ?_⟩) (by assumption) ?_; rotate_left 1; · (intro w hSw; (try dsimp only at hSw); go_simp; (try with_reducible rfl))); (try simp only [Act.put, List.getElem_toArray, List.getElem_cons_zero, List.getElem_cons_succ, List.setIfInBounds_toArray, List.set_cons_zero, List.set_cons_succ])
              (refine wpTwo_takeP (i := 10) (v := ?_) (pth := [12, 13, 14, 15, 17, 18, 20, 21]) rfl (by kernel_rfl) (by kernel_rfl) (by kernel_rfl) (by kernel_rfl) (by kernel_rfl) (by kernel_rfl) (by kernel_rfl) (fun _ _ _ h => h) (Or.inl ⟨rfl, ?_⟩) (by assumption) ?_; rotate_left 1; · (intro w hSw; (try dsimp only at hSw); go_simp; (try with_reducible rfl))); (try simp only [Act.put, List.getElem_toArray, List.getElem_cons_zero, List.getElem_cons_succ, List.setIfInBounds_toArray, List.set_cons_zero, List.set_cons_succ])
              (refine wpTwo_takeP (i := 11) (v := ?_) (pth := [14, 15, 17, 18, 20, 21]) rfl (by kernel_rfl) (by kernel_rfl) (by kernel_rfl) (by kernel_rfl) (by kernel_rfl) (by kernel_rfl) (by kernel_rfl) (fun _ _ _ h => h) (Or.inl ⟨rfl, ?_⟩) (by assumption) ?_; rotate_left 1; · (intro w hSw; (try dsimp only at hSw); go_simp; (try with_reducible rfl))); (try simp only [Act.put, List.getElem_toArray, List.getElem_cons_zero, List.getElem_cons_succ, List.setIfInBounds_toArray, List.set_cons_zero, List.set_cons_succ])
              (refine wpTwo_takeP (i := 12) (v := ?_) (pth := [13, 14, 15, 17, 18, 20, 21]) rfl (by kernel_rfl) (by kernel_rfl) (by kernel_rfl) (by kernel_rfl) (by kernel_rfl) (by kernel_rfl) (by kernel_rfl) (fun _ _ _ h => h) (Or.inl ⟨rfl, ?_⟩) (by assumption) ?_; rotate_left 1; · (intro w hSw; (try dsimp only at hSw); go_simp; (try with_reducible rfl))); (try simp only [Act.put, List.getElem_toArray, List.getElem_cons_zero, List.getElem_cons_succ, List.setIfInBounds_toArray, List.set_cons_zero, List.set_cons_succ])
              (refine wpTwo_takeP (i := 13) (v := ?_) (pth := [14, 15, 17, 18, 20, 21]) rfl (by kernel_rfl) (by kernel_rfl) (by kernel_rfl) (by kernel_rfl) (by kernel_rfl) (by kernel_rfl) (by kernel_rfl) (fun _ _ _ h => h) (Or.inl ⟨rfl, ?_⟩) (by assumption) ?_; rotate_left 1; · (intro w hSw; (try dsimp only at hSw); go_simp; (try with_reducible rfl))); (try simp only [Act.put, List.getElem_toArray, List.getElem_cons_zero, List.getElem_cons_succ, List.setIfInBounds_toArray, List.set_cons_zero, List.set_cons_succ])
              (refine wpTwo_takeP (i := 14) (v := ?_) (pth := [15, 17, 18, 20, 21]) rfl (by kernel_rfl) (by kernel_rfl) (by kernel_rfl) (by kernel_rfl) (by kernel_rfl) (by kernel_rfl) (by kernel_rfl) (fun _ _ _ h => h) (Or.inl ⟨rfl, ?_⟩) (by assumption) ?_; rotate_left 1; · (intro w hSw; (try dsimp only at hSw); go_simp; (try with_reducible rfl))); (try simp only [Act.put, List.getElem_toArray, List.getElem_cons_zero, List.getElem_cons_succ, List.setIfInBounds_toArray, List.set_cons_zero, List.set_cons_succ])
              (refine wpTwo_takeP (i := 15) (v := ?_) (pth := [17, 18, 20, 21]) rfl (by kernel_rfl) (by kernel_rfl) (by kernel_rfl) (by kernel_rfl) (by kernel_rfl) (by kernel_rfl) (by kernel_rfl) (fun _ _ _ h => h) (Or.inl ⟨rfl, ?_⟩) (by assumption) ?_; rotate_left 1; · (intro w hSw; (try dsimp only at hSw); go_simp; (try with_reducible rfl))); (try simp only [Act.put, List.getElem_toArray, List.getElem_cons_zero, List.getElem_cons_succ, List.setIfInBounds_toArray, List.set_cons_zero, List.set_cons_succ])
              (refine wpTwo_takeP (i := 16) (v := ?_) (pth := [17, 18, 20, 21]) rfl (by kernel_rfl) (by kernel_rfl) (by kernel_rfl) (by kernel_rfl) (by kernel_rfl) (by kernel_rfl) (by kernel_rfl) (fun _ _ _ h => h) (Or.inl ⟨rfl, ?_⟩) (by assumption) ?_; rotate_left 1; · (intro w hSw; (try dsimp only at hSw); go_simp; (try with_reducible rfl))); (try simp only [Act.put, List.getElem_toArray, List.getElem_cons_zero, List.getElem_cons_succ, List.setIfInBounds_toArray, List.set_cons_zero, List.set_cons_succ])
              (refine wpTwo_takeP (i := 17) (v := ?_) (pth := [18, 20, 21]) rfl (by kernel_rfl) (by kernel_rfl) (by kernel_rfl) (by kernel_rfl) (by kernel_rfl) (by kernel_rfl) (by kernel_rfl) (fun _ _ _ h => h) (Or.inl ⟨rfl, ?_⟩) (by assumption) ?_; rotate_left 1; · (intro w hSw; (try dsimp only at hSw); go_simp; (try with_reducible rfl))); (try simp only [Act.put, List.getElem_toArray, List.getElem_cons_zero, List.getElem_cons_succ, List.setIfInBounds_toArray, List.set_cons_zero, List.set_cons_succ])
              (refine wpTwo_takeP (i := 19) (v := ?_) (pth := [20, 21]) rfl (by kernel_rfl) (by kernel_rfl) (by kernel_rfl) (by kernel_rfl) (by kernel_rfl) (by kernel_rfl) (by kernel_rfl) (fun _ _ _ h => h) (Or.inl ⟨rfl, ?_⟩) (by assumption) ?_; rotate_left 1; · (intro w hSw; (try dsimp only at hSw); go_simp; (try with_reducible rfl))); (try simp only [Act.put, List.getElem_toArray, List.getElem_cons_zero, List.getElem_cons_succ, List.setIfInBounds_toArray, List.set_cons_zero, List.set_cons_succ])
              clear c0 c2 c6 hHeld
              refine wpTwo_ready (rs := [2]) (by kernel_rfl) (by simp) ?_
              refine AllTwo.cons rfl (fun K hK => ?_) ?_
              · go_simp
                refine hK.out _ _ (Or.inr (c_mo _ (h1.b.drew.alloc (.cells #[] 5)))) ?_; clear hK K; (try simp only [Act.put, List.getElem_toArray, List.getElem_cons_zero, List.getElem_cons_succ, List.setIfInBounds_toArray, List.set_cons_zero, List.set_cons_succ])
                refine wpTwo_ready (rs := [9]) (by kernel_rfl) (by simp) ?_
                refine AllTwo.cons rfl (fun K hK => ?_) ?_
                · refine st_appF rfl _ _ _ rfl elB rfl rfl h00 ((hx3.drew).alloc (Nat.le_refl _) (.cells #[] 5)) (vbs_one (D.f 1).fa) (by omega) (by show _ ≤ (wr.heap.push _).size; rw [Array.size_push]; omega) ?_
                  intro A5 c5 w5 ho5 hc5
                  have t5 : Turn (World.drew wr) w5 none := by
                    rcases hc5 with ⟨_, _, q⟩ | ⟨_, q⟩
                    · exact ((Turn.refl (World.drew wr) none).alloc _).new q (fun g hg => by simp [blk] at hg; subst hg; exact Nat.le_refl _)
                    · exact ((Turn.refl (World.drew wr) none).alloc _).trans q
                  clear hc5
                  simp only [Nat.zero_add, List.nil_append] at ho5 ⊢
                  refine hK.out _ _ (Or.inr (c_mo _ (h1.b.drew.turn0 t5))) ?_; clear hK K; (try simp only [Act.put, List.getElem_toArray, List.getElem_cons_zero, List.getElem_cons_succ, List.setIfInBounds_toArray, List.set_cons_zero, List.set_cons_succ])
                  refine wpTwo_ready (rs := [18]) (by kernel_rfl) (by simp) ?_
                  refine AllTwo.cons rfl (fun K hK => ?_) ?_
                  · refine st_appF rfl _ _ _ rfl elB rfl rfl ho5 (hRk w5 t5.undrew) (vbs_one ((D.f 1).mo.take KK)) (by omega) t5.size ?_
                    intro A6 c6 w6 ho6 hc6
                    have t6 : Turn (World.drew wr) w6 none := by
                      rcases hc6 with ⟨_, _, q⟩ | ⟨_, q⟩
                      · exact t5.new q (fun g hg => (ho5.block g hg).1)
                      · exact t5.trans q
                    clear hc6
                    refine hK.out _ _ (Or.inr (c_mo _ (h1.b.drew.turn0 t6))) ?_; clear hK K; (try simp only [Act.put, List.getElem_toArray, List.getElem_cons_zero, List.getElem_cons_succ, List.setIfInBounds_toArray, List.set_cons_zero, List.set_cons_succ])
                    refine wpTwo_ready (rs := [20]) (by kernel_rfl) (by simp) ?_
                    refine AllTwo.cons rfl (fun K hK => ?_) ?_
                    · refine st_appF rfl _ _ _ rfl elB rfl rfl ho6 (hrt.drew.turn0 t6 hBr) (vbs_one t) (by omega) t6.size ?_
                      intro A7 c7 w7 ho7 hc7
                      have t7 : Turn (World.drew wr) w7 none := by
                        rcases hc7 with ⟨_, _, q⟩ | ⟨_, q⟩
                        · exact t6.new q (fun g hg => (ho6.block g hg).1)
                        · exact t6.trans q
                      clear hc7
                      refine hK.out _ _ (Or.inr (c_mo _ (h1.b.drew.turn0 t7))) ?_; clear hK K; (try simp only [Act.put, List.getElem_toArray, List.getElem_cons_zero, List.getElem_cons_succ, List.setIfInBounds_toArray, List.set_cons_zero, List.set_cons_succ])
                      refine wpTwo_ready (rs := [21]) (by kernel_rfl) (by simp) ?_
                      refine AllTwo.cons rfl (fun K hK => ?_) ?_
                      · go_simp
                        refine (rfast_any (j := 1) (h1.b.drew.turn0 t7) hj2 A7 (xn + KK + m) c7 ((D.f 1).fa ++ (D.f 1).mo.take KK ++ t)).mono ?_
                        rintro e w8 ⟨rfl, t8, b8⟩
                        refine hK.out _ _ (Or.inl rfl) ?_; clear hK K; (try simp only [Act.put, List.getElem_toArray, List.getElem_cons_zero, List.getElem_cons_succ, List.setIfInBounds_toArray, List.set_cons_zero, List.set_cons_succ])
                        refine wpTwo_done (by kernel_rfl) ?_ _
                        refine NoPanic.normal ?_
                        go_wp2
                        have ho8 : Own w7 wr.heap.size 5 1 A7 (xn + KK + m) c7 (vbs ((D.f 1).fa ++ (D.f 1).mo.take KK ++ t)) := by rw [vbs_append, vbs_append]; exact ho7
                        obtain ⟨R'', x'', y'', z'', q1, q2, q3⟩ := fin ⟨A7, xn + KK + m, c7⟩ _ _ t7.undrew (Rs.own (a := ⟨A7, xn + KK + m, c7⟩) ho8 fun i q1 q2 => .inr ⟨q1, q2⟩) t8 b8
                        refine ⟨⟨2, R'', x'', y'', z'', by omega, rfl, q1, q2, q3⟩, ?_⟩
                        simp [intOf]
                      · exact AllTwo.nil
                    · exact AllTwo.nil
                  · exact AllTwo.nil
                · exact AllTwo.nil
              · exact AllTwo.nil
          · have hkt : (D.f j).mo.take (Int.toNat keep) = (D.f j).mo.take yn := by rw [List.take_of_length_le (by have := hyl.out; omega), List.take_of_length_le (by have := hyl.out; omega)]
            rw [hkt] at hle
            have hRk := fun V hV => hmk yn hkt V hV (Nat.le_refl _)
            rw [hle] at fin
            have hcl : ((D.f j).fa ++ (D.f j).mo.take yn ++ t).length = xn + yn + m := by
              have q1 := hlx.out
              have q2 := (hRk wr (Turn.refl wr none)).len
              rw [vbs_len] at q2
              have q3 := hfj.x.n
              have q4 := hr.len
              rw [vbs_len] at q4
              rw [List.length_append, List.length_append, q2, q4]
              have q5 := hx3.len
              rw [vbs_len] at q5
              omega
            clear hkt hmk hlx hyl
            obtain rfl | rfl : j = 0 ∨ j = 1 := by omega
            · obtain ⟨c2, c0⟩ := c_mo wr h1.b
              have c6 : wr.cell? ⟨r, 6, none⟩ = some (.bool false) := c_is
              have c2 : wr.cell? ⟨r, 2, none⟩ = some (.slice (some a) yn yc) := c2
              have c0 : wr.cell? ⟨r, 0, none⟩ = some (.slice (x' 0).A xn (x' 0).c) := c0
              have h00 : Own ((World.drew wr).alloc (.cells #[] 5)) wr.heap.size 5 1 (some ⟨wr.heap.size, 0, none⟩) 0 0 [] := Own.made (World.drew wr) _ _ 1 0 #[] (Nat.le_refl _) (by decide) rfl
              go_wp2
              refine wp_region_noPanic ?_
              refine wp_region_two 21 (fun W => W.cell? ⟨r, 2, none⟩ = some (.slice (some a) yn yc) ∧ W.cell? ⟨r, 0, none⟩ = some (.slice (x' 0).A xn (x' 0).c)) (by kernel_rfl) ⟨c2, c0⟩ (fun hHeld => ?_)
              (refine wpTwo_takeP (i := 0) (v := ?_) (pth := [21]) rfl (by kernel_rfl) (by kernel_rfl) (by kernel_rfl) (by kernel_rfl) (by kernel_rfl) (by kernel_rfl) (by kernel_rfl) (fun _ _ _ h => h) (Or.inl ⟨rfl, ?_⟩) (by assumption) ?_; rotate_left 1; · (intro w hSw; (try dsimp only at hSw); go_simp; (try with_reducible rfl))); (try simp only [Act.put, List.getElem_toArray, List.getElem_cons_zero, List.getElem_cons_succ, List.setIfInBounds_toArray, List.set_cons_zero, List.set_cons_succ])
              (refine wpTwo_takeP (i := 1) (v := ?_) (pth := [21]) rfl (by kernel_rfl) (by kernel_rfl) (by kernel_rfl) (by kernel_rfl) (by kernel_rfl) (by kernel_rfl) (by kernel_rfl) (fun _ _ _ h => h) (Or.inl ⟨rfl, ?_⟩) (by assumption) ?_; rotate_left 1; · (intro w hSw; (try dsimp only at hSw); go_simp; (try with_reducible rfl))); (try simp only [Act.put, List.getElem_toArray, List.getElem_cons_zero, List.getElem_cons_succ, List.setIfInBounds_toArray, List.set_cons_zero, List.set_cons_succ])
              (refine wpTwo_takeP (i := 3) (v := ?_) (pth := [5, 6, 7, 8, 9, 18, 20, 21]) rfl (by kernel_rfl) (by kernel_rfl) (by kernel_rfl) (by kernel_rfl) (by kernel_rfl) (by kernel_rfl) (by kernel_rfl) (fun _ _ _ h => h) (Or.inl ⟨rfl, ?_⟩) (by assumption) ?_; rotate_left 1; · (intro w hSw; (try dsimp only at hSw); go_simp; (try with_reducible rfl))); (try simp only [Act.put, List.getElem_toArray, List.getElem_cons_zero, List.getElem_cons_succ, List.setIfInBounds_toArray, List.set_cons_zero, List.set_cons_succ])
              (refine wpTwo_takeP (i := 4) (v := ?_) (pth := [7, 8, 9, 18, 20, 21]) rfl (by kernel_rfl) (by kernel_rfl) (by kernel_rfl) (by kernel_rfl) (by kernel_rfl) (by kernel_rfl) (by kernel_rfl) (fun _ _ _ h => h) (Or.inl ⟨rfl, ?_⟩) (by assumption) ?_; rotate_left 1; · (intro w hSw; (try dsimp only at hSw); go_simp; (try with_reducible rfl))); (try simp only [Act.put, List.getElem_toArray, List.getElem_cons_zero, List.getElem_cons_succ, List.setIfInBounds_toArray, List.set_cons_zero, List.set_cons_succ])
              (refine wpTwo_takeP (i := 5) (v := ?_) (pth := [6, 7, 8, 9, 18, 20, 21]) rfl (by kernel_rfl) (by kernel_rfl) (by kernel_rfl) (by kernel_rfl) (by kernel_rfl) (by kernel_rfl) (by kernel_rfl) (fun _ _ _ h => h) (Or.inl ⟨rfl, ?_⟩) (by assumption) ?_; rotate_left 1; · (intro w hSw; (try dsimp only at hSw); go_simp; (try with_reducible rfl))); (try simp only [Act.put, List.getElem_toArray, List.getElem_cons_zero, List.getElem_cons_succ, List.setIfInBounds_toArray, List.set_cons_zero, List.set_cons_succ])
              (refine wpTwo_takeP (i := 6) (v := ?_) (pth := [7, 8, 9, 18, 20, 21]) rfl (by kernel_rfl) (by kernel_rfl) (by kernel_rfl) (by kernel_rfl) (by kernel_rfl) (by kernel_rfl) (by kernel_rfl) (fun _ _ _ h => h) (Or.inl ⟨rfl, ?_⟩) (by assumption) ?_; rotate_left 1; · (intro w hSw; (try dsimp only at hSw); go_simp; (try with_reducible rfl))); (try simp only [Act.put, List.getElem_toArray, List.getElem_cons_zero, List.getElem_cons_succ, List.setIfInBounds_toArray, List.set_cons_zero, List.set_cons_succ])
              (refine wpTwo_takeP (i := 7) (v := ?_) (pth := [8, 9, 18, 20, 21]) rfl (by kernel_rfl) (by kernel_rfl) (by kernel_rfl) (by kernel_rfl) (by kernel_rfl) (by kernel_rfl) (by kernel_rfl) (fun _ _ _ h => h) (Or.inl ⟨rfl, ?_⟩) (by assumption) ?_; rotate_left 1; · (intro w hSw; (try dsimp only at hSw); go_simp; (try with_reducible rfl))); (try simp only [Act.put, List.getElem_toArray, List.getElem_cons_zero, List.getElem_cons_succ, List.setIfInBounds_toArray, List.set_cons_zero, List.set_cons_succ])
              (refine wpTwo_takeP (i := 8) (v := ?_) (pth := [9, 18, 20, 21]) rfl (by kernel_rfl) (by kernel_rfl) (by kernel_rfl) (by kernel_rfl) (by kernel_rfl) (by kernel_rfl) (by kernel_rfl) (fun _ _ _ h => h) (Or.inl ⟨rfl, ?_⟩) (by assumption) ?_; rotate_left 1; · (intro w hSw; (try dsimp only at hSw); go_simp; (try with_reducible rfl))); (try simp only [Act.put, List.getElem_toArray, List.getElem_cons_zero, List.getElem_cons_succ, List.setIfInBounds_toArray, List.set_cons_zero, List.set_cons_succ])
              (refine wpTwo_takeP (i := 10) (v := ?_) (pth := [12, 13, 14, 15, 17, 18, 20, 21]) rfl (by kernel_rfl) (by kernel_rfl) (by kernel_rfl) (by kernel_rfl) (by kernel_rfl) (by kernel_rfl) (by kernel_rfl) (fun _ _ _ h => h) (Or.inl ⟨rfl, ?_⟩) (by assumption) ?_; rotate_left 1; · (intro w hSw; (try dsimp only at hSw); go_simp; (try with_reducible rfl))); (try simp only [Act.put, List.getElem_toArray, List.getElem_cons_zero, List.getElem_cons_succ, List.setIfInBounds_toArray, List.set_cons_zero, List.set_cons_succ])
              (refine wpTwo_takeP (i := 11) (v := ?_) (pth := [14, 15, 17, 18, 20, 21]) rfl (by kernel_rfl) (by kernel_rfl) (by kernel_rfl) (by kernel_rfl) (by kernel_rfl) (by kernel_rfl) (by kernel_rfl) (fun _ _ _ h => h) (Or.inl ⟨rfl, ?_⟩) (by assumption) ?_; rotate_left 1; · (intro w hSw; (try dsimp only at hSw); go_simp; (try with_reducible rfl))); (try simp only [Act.put, List.getElem_toArray, List.getElem_cons_zero, List.getElem_cons_succ, List.setIfInBounds_toArray, List.set_cons_zero, List.set_cons_succ])
              (refine wpTwo_takeP (i := 12) (v := ?_) (pth := [13, 14, 15, 17, 18, 20, 21]) rfl (by kernel_rfl) (by kernel_rfl) (by kernel_rfl) (by kernel_rfl) (by kernel_rfl) (by kernel_rfl) (by kernel_rfl) (fun _ _ _ h => h) (Or.inl ⟨rfl, ?_⟩) (by assumption) ?_; rotate_left 1; · (intro w hSw; (try dsimp only at hSw); go_simp; (try with_reducible rfl))); (try simp only [Act.put, List.getElem_toArray, List.getElem_cons_zero, List.getElem_cons_succ, List.setIfInBounds_toArray, List.set_cons_zero, List.set_cons_succ])
              (refine wpTwo_takeP (i := 13) (v := ?_) (pth := [14, 15, 17, 18, 20, 21]) rfl (by kernel_rfl) (by kernel_rfl) (by kernel_rfl) (by kernel_rfl) (by kernel_rfl) (by kernel_rfl) (by kernel_rfl) (fun _ _ _ h => h) (Or.inl ⟨rfl, ?_⟩) (by assumption) ?_; rotate_left 1; · (intro w hSw; (try dsimp only at hSw); go_simp; (try with_reducible rfl))); (try simp only [Act.put, List.getElem_toArray, List.getElem_cons_zero, List.getElem_cons_succ, List.setIfInBounds_toArray, List.set_cons_zero, List.set_cons_succ])
              (refine wpTwo_takeP (i := 14) (v := ?_) (pth := [15, 17, 18, 20, 21]) rfl (by kernel_rfl) (by kernel_rfl) (by kernel_rfl) (by kernel_rfl) (by kernel_rfl) (by kernel_rfl) (by kernel_rfl) (fun _ _ _ h => h) (Or.inl ⟨rfl, ?_⟩) (by assumption) ?_; rotate_left 1; · (intro w hSw; (try dsimp only at hSw); go_simp; (try with_reducible rfl))); (try simp only [Act.put, List.getElem_toArray, List.getElem_cons_zero, List.getElem_cons_succ, List.setIfInBounds_toArray, List.set_cons_zero, List.set_cons_succ])
              (refine wpTwo_takeP (i := 15) (v := ?_) (pth := [17, 18, 20, 21]) rfl (by kernel_rfl) (by kernel_rfl) (by kernel_rfl) (by kernel_rfl) (by kernel_rfl) (by kernel_rfl) (by kernel_rfl) (fun _ _ _ h => h) (Or.inl ⟨rfl, ?_⟩) (by assumption) ?_; rotate_left 1; · (intro w hSw; (try dsimp only at hSw); go_simp; (try with_reducible rfl))); (try simp only [Act.put, List.getElem_toArray, List.getElem_cons_zero, List.getElem_cons_succ, List.setIfInBounds_toArray, List.set_cons_zero, List.set_cons_succ])
              (refine wpTwo_takeP (i := 16) (v := ?_) (pth := [17, 18, 20, 21]) rfl (by kernel_rfl) (by kernel_rfl) (by kernel_rfl) (by kernel_rfl) (by kernel_rfl) (by kernel_rfl) (by kernel_rfl) (fun _ _ _ h => h) (Or.inl ⟨rfl, ?_⟩) (by assumption) ?_; rotate_left 1; · (intro w hSw; (try dsimp only at hSw); go_simp; (try with_reducible rfl))); (try simp only [Act.put, List.getElem_toArray, List.getElem_cons_zero, List.getElem_cons_succ, List.setIfInBounds_toArray, List.set_cons_zero, List.set_cons_succ])
              (refine wpTwo_takeP (i := 17) (v := ?_) (pth := [18, 20, 21]) rfl (by kernel_rfl) (by kernel_rfl) (by kernel_rfl) (by kernel_rfl) (by kernel_rfl) (by kernel_rfl) (by kernel_rfl) (fun _ _ _ h => h) (Or.inl ⟨rfl, ?_⟩) (by assumption) ?_; rotate_left 1; · (intro w hSw; (try dsimp only at hSw); go_simp; (try with_reducible rfl))); (try simp only [Act.put, List.getElem_toArray, List.getElem_cons_zero, List.getElem_cons_succ, List.setIfInBounds_toArray, List.set_cons_zero, List.set_cons_succ])
              (refine wpTwo_takeP (i := 19) (v := ?_) (pth := [20, 21]) rfl (by kernel_rfl) (by kernel_rfl) (by kernel_rfl) (by kernel_rfl) (by kernel_rfl) (by kernel_rfl) (by kernel_rfl) (fun _ _ _ h => h) (Or.inl ⟨rfl, ?_⟩) (by assumption) ?_; rotate_left 1; · (intro w hSw; (try dsimp only at hSw); go_simp; (try with_reducible rfl))); (try simp only [Act.put, List.getElem_toArray, List.getElem_cons_zero, List.getElem_cons_succ, List.setIfInBounds_toArray, List.set_cons_zero, List.set_cons_succ])
              clear c0 c2 c6 hHeld
              refine wpTwo_ready (rs := [2]) (by kernel_rfl) (by simp) ?_
              refine AllTwo.cons rfl (fun K hK => ?_) ?_
              · go_simp
                refine hK.out _ _ (Or.inr (c_mo _ (h1.b.drew.alloc (.cells #[] 5)))) ?_; clear hK K; (try simp only [Act.put, List.getElem_toArray, List.getElem_cons_zero, List.getElem_cons_succ, List.setIfInBounds_toArray, List.set_cons_zero, List.set_cons_succ])
                refine wpTwo_ready (rs := [9]) (by kernel_rfl) (by simp) ?_
                refine AllTwo.cons rfl (fun K hK => ?_) ?_
                · refine st_appF rfl _ _ _ rfl elB rfl rfl h00 ((hx3.drew).alloc (Nat.le_refl _) (.cells #[] 5)) (vbs_one (D.f 0).fa) (by omega) (by show _ ≤ (wr.heap.push _).size; rw [Array.size_push]; omega) ?_
                  intro A5 c5 w5 ho5 hc5
                  have t5 : Turn (World.drew wr) w5 none := by
                    rcases hc5 with ⟨_, _, q⟩ | ⟨_, q⟩
                    · exact ((Turn.refl (World.drew wr) none).alloc _).new q (fun g hg => by simp [blk] at hg; subst hg; exact Nat.le_refl _)
                    · exact ((Turn.refl (World.drew wr) none).alloc _).trans q
                  clear hc5
                  simp only [Nat.zero_add, List.nil_append] at ho5 ⊢
                  refine hK.out _ _ (Or.inr (c_mo _ (h1.b.drew.turn0 t5))) ?_; clear hK K; (try simp only [Act.put, List.getElem_toArray, List.getElem_cons_zero, List.getElem_cons_succ, List.setIfInBounds_toArray, List.set_cons_zero, List.set_cons_succ])
                  refine wpTwo_ready (rs := [18]) (by kernel_rfl) (by simp) ?_
                  refine AllTwo.cons rfl (fun K hK => ?_) ?_
                  · refine st_appF rfl _ _ _ rfl elB rfl rfl ho5 (hRk w5 t5.undrew) (vbs_one ((D.f 0).mo.take yn)) (by omega) t5.size ?_
                    intro A6 c6 w6 ho6 hc6
                    have t6 : Turn (World.drew wr) w6 none := by
                      rcases hc6 with ⟨_, _, q⟩ | ⟨_, q⟩
                      · exact t5.new q (fun g hg => (ho5.block g hg).1)
                      · exact t5.trans q
                    clear hc6
                    refine hK.out _ _ (Or.inr (c_mo _ (h1.b.drew.turn0 t6))) ?_; clear hK K; (try simp only [Act.put, List.getElem_toArray, List.getElem_cons_zero, List.getElem_cons_succ, List.setIfInBounds_toArray, List.set_cons_zero, List.set_cons_succ])
                    refine wpTwo_ready (rs := [20]) (by kernel_rfl) (by simp) ?_
                    refine AllTwo.cons rfl (fun K hK => ?_) ?_
                    · refine st_appF rfl _ _ _ rfl elB rfl rfl ho6 (hrt.drew.turn0 t6 hBr) (vbs_one t) (by omega) t6.size ?_
                      intro A7 c7 w7 ho7 hc7
                      have t7 : Turn (World.drew wr) w7 none := by
                        rcases hc7 with ⟨_, _, q⟩ | ⟨_, q⟩
                        · exact t6.new q (fun g hg => (ho6.block g hg).1)
                        · exact t6.trans q
                      clear hc7
                      refine hK.out _ _ (Or.inr (c_mo _ (h1.b.drew.turn0 t7))) ?_; clear hK K; (try simp only [Act.put, List.getElem_toArray, List.getElem_cons_zero, List.getElem_cons_succ, List.setIfInBounds_toArray, List.set_cons_zero, List.set_cons_succ])
                      refine wpTwo_ready (rs := [21]) (by kernel_rfl) (by simp) ?_
                      refine AllTwo.cons rfl (fun K hK => ?_) ?_
                      · go_simp
                        refine (rfast_any (j := 0) (h1.b.drew.turn0 t7) hj2 A7 (xn + yn + m) c7 ((D.f 0).fa ++ (D.f 0).mo.take yn ++ t)).mono ?_
                        rintro e w8 ⟨rfl, t8, b8⟩
                        refine hK.out _ _ (Or.inl rfl) ?_; clear hK K; (try simp only [Act.put, List.getElem_toArray, List.getElem_cons_zero, List.getElem_cons_succ, List.setIfInBounds_toArray, List.set_cons_zero, List.set_cons_succ])
                        refine wpTwo_done (by kernel_rfl) ?_ _
                        refine NoPanic.normal ?_
                        go_wp2
                        have ho8 : Own w7 wr.heap.size 5 1 A7 (xn + yn + m) c7 (vbs ((D.f 0).fa ++ (D.f 0).mo.take yn ++ t)) := by rw [vbs_append, vbs_append]; exact ho7
                        obtain ⟨R'', x'', y'', z'', q1, q2, q3⟩ := fin ⟨A7, xn + yn + m, c7⟩ _ _ t7.undrew (Rs.own (a := ⟨A7, xn + yn + m, c7⟩) ho8 fun i q1 q2 => .inr ⟨q1, q2⟩) t8 b8
                        refine ⟨⟨1, R'', x'', y'', z'', by omega, rfl, q1, q2, q3⟩, ?_⟩
                        simp [intOf]
                      · exact AllTwo.nil
                    · exact AllTwo.nil
                  · exact AllTwo.nil
                · exact AllTwo.nil
              · exact AllTwo.nil
            · obtain ⟨c2, c0⟩ := c_mo wr h1.b
              have c6 : wr.cell? ⟨r, 7, none⟩ = some (.bool false) := c_is
              have c2 : wr.cell? ⟨r, 3, none⟩ = some (.slice (some a) yn yc) := c2
              have c0 : wr.cell? ⟨r, 1, none⟩ = some (.slice (x' 1).A xn (x' 1).c) := c0
              have h00 : Own ((World.drew wr).alloc (.cells #[] 5)) wr.heap.size 5 1 (some ⟨wr.heap.size, 0, none⟩) 0 0 [] := Own.made (World.drew wr) _ _ 1 0 #[] (Nat.le_refl _) (by decide) rfl
              go_wp2
              refine wp_region_noPanic ?_
              refine wp_region_two 21 (fun W => W.cell? ⟨r, 3, none⟩ = some (.slice (some a) yn yc) ∧ W.cell? ⟨r, 1, none⟩ = some (.slice (x' 1).A xn (x' 1).c)) (by kernel_rfl) ⟨c2, c0⟩ (fun hHeld => ?_)
              (refine wpTwo_takeP (i := 0) (v := ?_) (pth := [21]) rfl (by kernel_rfl) (by kernel_rfl) (by kernel_rfl) (by kernel_rfl) (by kernel_rfl) (by kernel_rfl) (by kernel_rfl) (fun _ _ _ h => h) (Or.inl ⟨rfl, ?_⟩) (by assumption) ?_; rotate_left 1; · (intro w hSw; (try dsimp only at hSw); go_simp; (try with_reducible rfl))); (try simp only [Act.put, List.getElem_toArray, List.getElem_cons_zero, List.getElem_cons_succ, List.setIfInBounds_toArray, List.set_cons_zero, List.set_cons_succ])
              (refine wpTwo_takeP (i := 1) (v := ?_) (pth := [21]) rfl (by kernel_rfl) (by kernel_rfl) (by kernel_rfl) (by kernel_rfl) (by kernel_rfl) (by kernel_rfl) (by kernel_rfl) (fun _ _ _ h => h) (Or.inl ⟨rfl, ?_⟩) (by assumption) ?_; rotate_left 1; · (intro w hSw; (try dsimp only at hSw); go_simp; (try with_reducible rfl))); (try simp only [Act.put, List.getElem_toArray, List.getElem_cons_zero, List.getElem_cons_succ, List.setIfInBounds_toArray, List.set_cons_zero, List.set_cons_succ])
              (refine wpTwo_takeP (i := 3) (v := ?_) (pth := [5, 6, 7, 8, 9, 18, 20, 21]) rfl (by kernel_rfl) (by kernel_rfl) (by kernel_rfl) (by kernel_rfl) (by kernel_rfl) (by kernel_rfl) (by kernel_rfl) (fun _ _ _ h => h) (Or.inl ⟨rfl, ?_⟩) (by assumption) ?_; rotate_left 1; · (intro w hSw; (try dsimp only at hSw); go_simp; (try with_reducible rfl))); (try simp only [Act.put, List.getElem_toArray, List.getElem_cons_zero, List.getElem_cons_succ, List.setIfInBounds_toArray, List.set_cons_zero, List.set_cons_succ])
              (refine wpTwo_takeP (i := 4) (v := ?_) (pth := [7, 8, 9, 18, 20, 21]) rfl (by kernel_rfl) (by kernel_rfl) (by kernel_rfl) (by kernel_rfl) (by kernel_rfl) (by kernel_rfl) (by kernel_rfl) (fun _ _ _ h => h) (Or.inl ⟨rfl, ?_⟩) (by assumption) ?_; rotate_left 1; · (intro w hSw; (try dsimp only at hSw); go_simp; (try with_reducible rfl))); (try simp only [Act.put, List.getElem_toArray, List.getElem_cons_zero, List.getElem_cons_succ, List.setIfInBounds_toArray, List.set_cons_zero, List.set_cons_succ])
              (refine wpTwo_takeP (i := 5) (v := ?_) (pth := [6, 7, 8, 9, 18, 20, 21]) rfl (by kernel_rfl) (by kernel_rfl) (by kernel_rfl) (by kernel_rfl) (by kernel_rfl) (by kernel_rfl) (by kernel_rfl) (fun _ _ _ h => h) (Or.inl ⟨rfl, ?_⟩) (by assumption) ?_; rotate_left 1; · (intro w hSw; (try dsimp only at hSw); go_simp; (try with_reducible rfl))); (try simp only [Act.put, List.getElem_toArray, List.getElem_cons_zero, List.getElem_cons_succ, List.setIfInBounds_toArray, List.set_cons_zero, List.set_cons_succ])
              (refine wpTwo_takeP (i := 6) (v := ?_) (pth := [7, 8, 9, 18, 20, 21]) rfl (by kernel_rfl) (by kernel_rfl) (by kernel_rfl) (by kernel_rfl) (by kernel_rfl) (by kernel_rfl) (by kernel_rfl) (fun _ _ _ h => h) (Or.inl ⟨rfl, ?_⟩) (by assumption) ?_; rotate_left 1; · (intro w hSw; (try dsimp only at hSw); go_simp; (try with_reducible rfl))); (try simp only [Act.put, List.getElem_toArray, List.getElem_cons_zero, List.getElem_cons_succ, List.setIfInBounds_toArray, List.set_cons_zero, List.set_cons_succ])
              (refine wpTwo_takeP (i := 7) (v := ?_) (pth := [8, 9, 18, 20, 21]) rfl (by kernel_rfl) (by kernel_rfl) (by kernel_rfl) (by kernel_rfl) (by kernel_rfl) (by kernel_rfl) (by kernel_rfl) (fun _ _ _ h => h) (Or.inl ⟨rfl, ?_⟩) (by assumption) ?_; rotate_left 1; · (intro w hSw; (try dsimp only at hSw); go_simp; (try with_reducible rfl))); (try simp only [Act.put, List.getElem_toArray, List.getElem_cons_zero, List.getElem_cons_succ, List.setIfInBounds_toArray, List.set_cons_zero, List.set_cons_succ])
              (refine wpTwo_takeP (i := 8) (v := ?_) (pth := [9, 18, 20, 21]) rfl (by kernel_rfl) (by kernel_rfl) (by kernel_rfl) (by kernel_rfl) (by kernel_rfl) (by kernel_rfl) (by kernel_rfl) (fun _ _ _ h => h) (Or.inl ⟨rfl, ?_⟩) (by assumption) ?_; rotate_left 1; · (intro w hSw; (try dsimp only at hSw); go_simp; (try with_reducible rfl))); (try simp only [Act.put, List.getElem_toArray, List.getElem_cons_zero, List.getElem_cons_succ, List.setIfInBounds_toArray, List.set_cons_zero, List.set_cons_succ])
              (refine wpTwo_takeP (i := 10) (v := ?_) (pth := [12, 13, 14, 15, 17, 18, 20, 21]) rfl (by kernel_rfl) (by kernel_rfl) (by kernel_rfl) (by kernel_rfl) (by kernel_rfl) (by kernel_rfl) (by kernel_rfl) (fun _ _ _ h => h) (Or.inl ⟨rfl, ?_⟩) (by assumption) ?_; rotate_left 1; · (intro w hSw; (try dsimp only at hSw); go_simp; (try with_reducible rfl))); (try simp only [Act.put, List.getElem_toArray, List.getElem_cons_zero, List.getElem_cons_succ, List.setIfInBounds_toArray, List.set_cons_zero, List.set_cons_succ])
              (refine wpTwo_takeP (i := 11) (v := ?_) (pth := [14, 15, 17, 18, 20, 21]) rfl (by kernel_rfl) (by kernel_rfl) (by kernel_rfl) (by kernel_rfl) (by kernel_rfl) (by kernel_rfl) (by kernel_rfl) (fun _ _ _ h => h) (Or.inl ⟨rfl, ?_⟩) (by assumption) ?_; rotate_left 1; · (intro w hSw; (try dsimp only at hSw); go_simp; (try with_reducible rfl))); (try simp only [Act.put, List.getElem_toArray, List.getElem_cons_zero, List.getElem_cons_succ, List.setIfInBounds_toArray, List.set_cons_zero, List.set_cons_succ])
              (refine wpTwo_takeP (i := 12) (v := ?_) (pth := [13, 14, 15, 17, 18, 20, 21]) rfl (by kernel_rfl) (by kernel_rfl) (by kernel_rfl) (by kernel_rfl) (by kernel_rfl) (by kernel_rfl) (by kernel_rfl) (fun _ _ _ h => h) (Or.inl ⟨rfl, ?_⟩) (by assumption) ?_; rotate_left 1; · (intro w hSw; (try dsimp only at hSw); go_simp; (try with_reducible rfl))); (try simp only [Act.put, List.getElem_toArray, List.getElem_cons_zero, List.getElem_cons_succ, List.setIfInBounds_toArray, List.set_cons_zero, List.set_cons_succ])
              (refine wpTwo_takeP (i := 13) (v := ?_) (pth := [14, 15, 17, 18, 20, 21]) rfl (by kernel_rfl) (by kernel_rfl) (by kernel_rfl) (by kernel_rfl) (by kernel_rfl) (by kernel_rfl) (by kernel_rfl) (fun _ _ _ h => h) (Or.inl ⟨rfl, ?_⟩) (by assumption) ?_; rotate_left 1; · (intro w hSw; (try dsimp only at hSw); go_simp; (try with_reducible rfl))); (try simp only [Act.put, List.getElem_toArray, List.getElem_cons_zero, List.getElem_cons_succ, List.setIfInBounds_toArray, List.set_cons_zero, List.set_cons_succ])
              (refine wpTwo_takeP (i := 14) (v := ?_) (pth := [15, 17, 18, 20, 21]) rfl (by kernel_rfl) (by kernel_rfl) (by kernel_rfl) (by kernel_rfl) (by kernel_rfl) (by kernel_rfl) (by kernel_rfl) (fun _ _ _ h => h) (Or.inl ⟨rfl, ?_⟩) (by assumption) ?_; rotate_left 1; · (intro w hSw; (try dsimp only at hSw); go_simp; (try with_reducible rfl))); (try simp only [Act.put, List.getElem_toArray, List.getElem_cons_zero, List.getElem_cons_succ, List.setIfInBounds_toArray, List.set_cons_zero, List.set_cons_succ])
              (refine wpTwo_takeP (i := 15) (v := ?_) (pth := [17, 18, 20, 21]) rfl (by kernel_rfl) (by kernel_rfl) (by kernel_rfl) (by kernel_rfl) (by kernel_rfl) (by kernel_rfl) (by kernel_rfl) (fun _ _ _ h => h) (Or.inl ⟨rfl, ?_⟩) (by assumption) ?_; rotate_left 1; · (intro w hSw; (try dsimp only at hSw); go_simp; (try with_reducible rfl))); (try simp only [Act.put, List.getElem_toArray, List.getElem_cons_zero, List.getElem_cons_succ, List.setIfInBounds_toArray, List.set_cons_zero, List.set_cons_succ])
              (refine wpTwo_takeP (i := 16) (v := ?_) (pth := [17, 18, 20, 21]) rfl (by kernel_rfl) (by kernel_rfl) (by kernel_rfl) (by kernel_rfl) (by kernel_rfl) (by kernel_rfl) (by kernel_rfl) (fun _ _ _ h => h) (Or.inl ⟨rfl, ?_⟩) (by assumption) ?_; rotate_left 1; · (intro w hSw; (try dsimp only at hSw); go_simp; (try with_reducible rfl))); (try simp only [Act.put, List.getElem_toArray, List.getElem_cons_zero, List.getElem_cons_succ, List.setIfInBounds_toArray, List.set_cons_zero, List.set_cons_succ])
              (refine wpTwo_takeP (i := 17) (v := ?_) (pth := [18, 20, 21]) rfl (by kernel_rfl) (by kernel_rfl) (by kernel_rfl) (by kernel_rfl) (by kernel_rfl) (by kernel_rfl) (by kernel_rfl) (fun _ _ _ h => h) (Or.inl ⟨rfl, ?_⟩) (by assumption) ?_; rotate_left 1; · (intro w hSw; (try dsimp only at hSw); go_simp; (try with_reducible rfl))); (try simp only [Act.put, List.getElem_toArray, List.getElem_cons_zero, List.getElem_cons_succ, List.setIfInBounds_toArray, List.set_cons_zero, List.set_cons_succ])
              (refine wpTwo_takeP (i := 19) (v := ?_) (pth := [20, 21]) rfl (by kernel_rfl) (by kernel_rfl) (by kernel_rfl) (by kernel_rfl) (by kernel_rfl) (by kernel_rfl) (by kernel_rfl) (fun _ _ _ h => h) (Or.inl ⟨rfl, ?_⟩) (by assumption) ?_; rotate_left 1; · (intro w hSw; (try dsimp only at hSw); go_simp; (try with_reducible rfl))); (try simp only [Act.put, List.getElem_toArray, List.getElem_cons_zero, List.getElem_cons_succ, List.setIfInBounds_toArray, List.set_cons_zero, List.set_cons_succ])
              clear c0 c2 c6 hHeld
              refine wpTwo_ready (rs := [2]) (by kernel_rfl) (by simp) ?_
              refine AllTwo.cons rfl (fun K hK => ?_) ?_
              · go_simp
                refine hK.out _ _ (Or.inr (c_mo _ (h1.b.drew.alloc (.cells #[] 5)))) ?_; clear hK K; (try simp only [Act.put, List.getElem_toArray, List.getElem_cons_zero, List.getElem_cons_succ, List.setIfInBounds_toArray, List.set_cons_zero, List.set_cons_succ])
                refine wpTwo_ready (rs := [9]) (by kernel_rfl) (by simp) ?_
                refine AllTwo.cons rfl (fun K hK => ?_) ?_
                · refine st_appF rfl _ _ _ rfl elB rfl rfl h00 ((hx3.drew).alloc (Nat.le_refl _) (.cells #[] 5)) (vbs_one (D.f 1).fa) (by omega) (by show _ ≤ (wr.heap.push _).size; rw [Array.size_push]; omega) ?_
                  intro A5 c5 w5 ho5 hc5
                  have t5 : Turn (World.drew wr) w5 none := by
                    rcases hc5 with ⟨_, _, q⟩ | ⟨_, q⟩
                    · exact ((Turn.refl (World.drew wr) none).alloc _).new q (fun g hg => by simp [blk] at hg; subst hg; exact Nat.le_refl _)
                    · exact ((Turn.refl (World.drew wr) none).alloc _).trans q
                  clear hc5
                  simp only [Nat.zero_add, List.nil_append] at ho5 ⊢
                  refine hK.out _ _ (Or.inr (c_mo _ (h1.b.drew.turn0 t5))) ?_; clear hK K; (try simp only [Act.put, List.getElem_toArray, List.getElem_cons_zero, List.getElem_cons_succ, List.setIfInBounds_toArray, List.set_cons_zero, List.set_cons_succ])
                  refine wpTwo_ready (rs := [18]) (by kernel_rfl) (by simp) ?_
                  refine AllTwo.cons rfl (fun K hK => ?_) ?_
                  · refine st_appF rfl _ _ _ rfl elB rfl rfl ho5 (hRk w5 t5.undrew) (vbs_one ((D.f 1).mo.take yn)) (by omega) t5.size ?_
                    intro A6 c6 w6 ho6 hc6
                    have t6 : Turn (World.drew wr) w6 none := by
                      rcases hc6 with ⟨_, _, q⟩ | ⟨_, q⟩
                      · exact t5.new q (fun g hg => (ho5.block g hg).1)
                      · exact t5.trans q
                    clear hc6
                    refine hK.out _ _ (Or.inr (c_mo _ (h1.b.drew.turn0 t6))) ?_; clear hK K; (try simp only [Act.put, List.getElem_toArray, List.getElem_cons_zero, List.getElem_cons_succ, List.setIfInBounds_toArray, List.set_cons_zero, List.set_cons_succ])
                    refine wpTwo_ready (rs := [20]) (by kernel_rfl) (by simp) ?_
                    refine AllTwo.cons rfl (fun K hK => ?_) ?_
                    · refine st_appF rfl _ _ _ rfl elB rfl rfl ho6 (hrt.drew.turn0 t6 hBr) (vbs_one t) (by omega) t6.size ?_
                      intro A7 c7 w7 ho7 hc7
                      have t7 : Turn (World.drew wr) w7 none := by
                        rcases hc7 with ⟨_, _, q⟩ | ⟨_, q⟩
                        · exact t6.new q (fun g hg => (ho6.block g hg).1)
                        · exact t6.trans q
                      clear hc7
                      refine hK.out _ _ (Or.inr (c_mo _ (h1.b.drew.turn0 t7))) ?_; clear hK K; (try simp only [Act.put, List.getElem_toArray, List.getElem_cons_zero, List.getElem_cons_succ, List.setIfInBounds_toArray, List.set_cons_zero, List.set_cons_succ])
                      refine wpTwo_ready (rs := [21]) (by kernel_rfl) (by simp) ?_
                      refine AllTwo.cons rfl (fun K hK => ?_) ?_
                      · go_simp
                        refine (rfast_any (j := 1) (h1.b.drew.turn0 t7) hj2 A7 (xn + yn + m) c7 ((D.f 1).fa ++ (D.f 1).mo.take yn ++ t)).mono ?_
                        rintro e w8 ⟨rfl, t8, b8⟩
                        refine hK.out _ _ (Or.inl rfl) ?_; clear hK K; (try simp only [Act.put, List.getElem_toArray, List.getElem_cons_zero, List.getElem_cons_succ, List.setIfInBounds_toArray, List.set_cons_zero, List.set_cons_succ])
                        refine wpTwo_done (by kernel_rfl) ?_ _
                        refine NoPanic.normal ?_
                        go_wp2
                        have ho8 : Own w7 wr.heap.size 5 1 A7 (xn + yn + m) c7 (vbs ((D.f 1).fa ++ (D.f 1).mo.take yn ++ t)) := by rw [vbs_append, vbs_append]; exact ho7
                        obtain ⟨R'', x'', y'', z'', q1, q2, q3⟩ := fin ⟨A7, xn + yn + m, c7⟩ _ _ t7.undrew (Rs.own (a := ⟨A7, xn + yn + m, c7⟩) ho8 fun i q1 q2 => .inr ⟨q1, q2⟩) t8 b8
                        refine ⟨⟨2, R'', x'', y'', z'', by omega, rfl, q1, q2, q3⟩, ?_⟩
                        simp [intOf]
                      · exact AllTwo.nil
                    · exact AllTwo.nil
                  · exact AllTwo.nil
                · exact AllTwo.nil
              · exact AllTwo.nil
    · obtain rfl : j = 2 := by omega
      have h2 : RD wr r R' x' y' z' lv (D.crash keep t) := h1.cong (fun i hi => by simp [Dsk.cj, Dsk.crash, hi]) rfl rfl rfl rfl
      go_wp2
      go_end0
      exact ⟨rfl, h2.stq hC hR'⟩
end Go.Proofs.Ytjekglnbmccnjaa
