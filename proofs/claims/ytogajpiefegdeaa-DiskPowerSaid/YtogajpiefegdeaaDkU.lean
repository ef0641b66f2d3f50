/-
  Layer 14: the walk of DiskPower.
-/
import Derived.Test.YtogajpiefegdeaaDkT
namespace Go.Proofs.Ytogajpiefegdeaa
set_option linter.unusedSimpArgs false
set_option linter.unusedVariables false
open Go.RowKit

/-- How the power stands behind q calls, armed with N. -/
def Pw (D : Dsk) (N q : Nat) : Prop := (q ≤ N ∧ D.armed = true ∧ D.dead = false ∧ D.lf = (N : Int) - q) ∨ (N < q ∧ D.dead = true)
theorem act_form (D : Dsk) {k : Int} (f m : Int) (b : List UInt8) (k0 : 0 ≤ k) (k2 : k ≤ 2) : D.act k f m b = D.cnt ∨ (D.gone = false ∧ ∃ j x, D.act k f m b = D.cnt.put j x) := by
  have hk : k = 0 ∨ k = 1 ∨ k = 2 := by omega
  rcases hk with rfl | rfl | rfl
  · show D.wr f b = D.cnt ∨ (D.gone = false ∧ ∃ j x, D.wr f b = D.cnt.put j x)
    unfold Dsk.wr
    split
    · rename_i he
      exact .inr ⟨(cErr_zero (wErr_zero he).1).1, _, _, rfl⟩
    · exact .inl rfl
  · show D.rp f b = D.cnt ∨ (D.gone = false ∧ ∃ j x, D.rp f b = D.cnt.put j x)
    unfold Dsk.rp
    split
    · rename_i he
      exact .inr ⟨(cErr_zero (rErr_zero he).1).1, _, _, rfl⟩
    · exact .inl rfl
  · show D.sy f = D.cnt ∨ (D.gone = false ∧ ∃ j x, D.sy f = D.cnt.put j x)
    unfold Dsk.sy
    split
    · rename_i he
      exact .inr ⟨(cErr_zero he).1, _, _, rfl⟩
    · exact .inl rfl
theorem act_pw {D : Dsk} {N q : Nat} (h : Pw D N q) {k : Int} (f m : Int) (b : List UInt8) (k0 : 0 ≤ k) (k2 : k ≤ 2) :
    Pw (D.act k f m b) N (q + 1) ∧ (D.act k f m b).dead = decide (N < q + 1) ∧ (N < q + 1 → (D.act k f m b).size = D.size) := by
  have hc : Pw D.cnt N (q + 1) ∧ D.cnt.dead = decide (N < q + 1) ∧ (N < q + 1 → D.gone = true) := by
    rcases h with ⟨h1, h2, h3, h4⟩ | ⟨h1, h2⟩
    · by_cases hq : q = N
      · subst hq
        have hg : D.gone = true := by simp [Dsk.gone, h2, h4]
        have e : D.cnt.dead = true := by rw [D.cnt_dead, hg]
        exact ⟨.inr ⟨by omega, e⟩, by rw [e, decide_eq_true (by omega)], fun _ => hg⟩
      · have hg : D.gone = false := by
          have : D.lf ≠ 0 := by omega
          simp [Dsk.gone, h3, this]
        have e : D.cnt.dead = false := by rw [D.cnt_dead, hg]
        have e2 : D.cnt.lf = D.lf - 1 := by unfold Dsk.cnt; rw [hg]; rfl
        exact ⟨.inl ⟨by omega, by rw [D.cnt_armed]; exact h2, e, by rw [e2, h4]; omega⟩, by rw [e, decide_eq_false (by omega)], fun h => by omega⟩
    · have hg : D.gone = true := by simp [Dsk.gone, h2]
      have e : D.cnt.dead = true := by rw [D.cnt_dead, hg]
      exact ⟨.inr ⟨by omega, e⟩, by rw [e, decide_eq_true (by omega)], fun _ => hg⟩
  rcases act_form D f m b k0 k2 with e | ⟨hg, j, x, e⟩
  · rw [e]
    exact ⟨hc.1, hc.2.1, fun _ => cnt_size D⟩
  · rw [e]
    refine ⟨hc.1, hc.2.1, fun h => ?_⟩
    have := hc.2.2 h
    rw [hg] at this
    cases this
theorem arm_bp {w0 w : World} {g r : Nat} {R T : Nat → Prop} {D E : Dsk} (h : Bp w0 w g r R T D E) (c : Int) (hc : c ≤ 9223372036854775807) :
    Calls Try.prog 21 #[.pointer (some ⟨g, 0, none⟩), .int .i64 c] w fun e w' => e = .returned (.tuple #[]) ∧ ∃ R', Bp w0 w' g r R' T (D.arm c) E :=
  (arm_stp h.p c hc).mono fun e w' ⟨he, s⟩ => ⟨he, h.stp s⟩
theorem rarm_bp {w0 w : World} {g r : Nat} {R T : Nat → Prop} {D E : Dsk} (h : Bp w0 w g r R T D E) (c : Int) (hc : c ≤ 9223372036854775807) :
    Calls Try.prog 22 #[.pointer (some ⟨r, 0, none⟩), .int .i64 c] w fun e w' => e = .returned (.tuple #[]) ∧ ∃ T', Bp w0 w' g r R T' D (E.arm c) :=
  (rarm_stq h.q c hc).mono fun e w' ⟨he, s⟩ => ⟨he, h.stq s⟩

set_option maxRecDepth 100000 in
set_option maxHeartbeats 12800000 in
theorem power_walk (N : Nat) (hN : N ≤ 255) (A : Option Addr) (n c : Nat) (qs : List At) (w : World) (hr : Rq w w.heap.size A n qs) (hn : n ≤ 140737488351232) :
    Calls Try.prog 7 #[.int .u8 (N : Int), .slice A n c] w fun e w' => e = .returned (.bool true) ∧ Turn w w' none := by
  have hP : Pw ((newD 1048576).arm (N : Int)) N 0 := .inl ⟨by omega, rfl, rfl, by simp only [Dsk.arm]; rw [if_neg (by omega)]; omega⟩
  have HP := hid hP
  clear hP
  go_enter Try.func7, Try.ntmps7
  go_wp2_with (first
    | (go_at_call 8; refine (new_bo 1048576 w).mono ?_; rintro e w1 ⟨g, R1, rfl, h1⟩)
    | (go_at_call 9; refine (rnew_bp h1 1048576).mono ?_; rintro e w2 ⟨r, T2, rfl, h2⟩)
    | (go_at_call 21; refine (arm_bp h2 N (by omega)).mono ?_; rintro e w3 ⟨rfl, R3, h3⟩)
    | (go_at_call 22; refine (rarm_bp h3 N (by omega)).mono ?_; rintro e w4 ⟨rfl, T4, h4⟩))
  go_loopw [7, 8] (fun cl i wr => ∃ (j q : Nat) (R T : Nat → Prop) (D : Dsk), j ≤ n ∧ j ≤ 60 ∧ q ≤ j ∧ i = .int .i64 (j : Int) ∧ cl = .int .i64 (q : Int) ∧ Bp w wr g r R T D D ∧ Hid (Pw D N q)) (fun _ i _ => (n - intOf i).toNat)
  case atStart => exact ⟨0, 0, _, _, _, by omega, by omega, by omega, rfl, rfl, h4, HP⟩
  case round =>
    obtain ⟨j, q, R, T, D, hj, hj2, hq, rfl, rfl, h, HW⟩ := hrel
    clear h1 h2 h3 h4 HP
    by_cases hjn : j < n ∧ j < 60
    · obtain ⟨hjn, hj3⟩ := hjn
      obtain ⟨b, off, a, rfl, hb, ha, hok, hrng⟩ := hr.at_ (Nat.le_refl _) hjn
      have hcs : a.cs = acc a.k a.f a.m a.A a.n a.c := rfl
      rw [hcs] at hrng
      have hrw := hrng _ h.tw
      have hk : a.k < 0 ∨ (¬ a.k < 0 ∧ 2 < a.k) ∨ (¬ a.k < 0 ∧ ¬ 2 < a.k) := by omega
      rcases hk with hk | ⟨hk, hk2⟩ | ⟨hk, hk2⟩
      · go_wp2_with (first
          | (refine gd_ldR (by rfl) 30 _ rfl rfl hrw Try.underlying30 rfl szAct ?_)
          | (refine wp_st (xs := acc a.k a.f a.m a.A a.n a.c) rfl 30 _ _ rfl rfl rfl (Blk.new wr _ _) rfl szAct (ones_cons rfl (ones_cons rfl (ones_cons rfl (ones_cons rfl ones_nil)))) ?_; intro w3 hb3 ht3; have t3 := ((Turn.refl wr none).alloc _).new ht3 (by simp); have c0 := hb3.ats (j := 0) (v := .int .i64 a.k) rfl))
        refine ⟨⟨j + 1, q, R, T, D, by omega, by omega, by omega, rfl, rfl, h.turn0 t3, HW⟩, ?_⟩
        simp [intOf]; omega
      · go_wp2_with (first
          | (refine gd_ldR (by rfl) 30 _ rfl rfl hrw Try.underlying30 rfl szAct ?_)
          | (refine wp_st (xs := acc a.k a.f a.m a.A a.n a.c) rfl 30 _ _ rfl rfl rfl (Blk.new wr _ _) rfl szAct (ones_cons rfl (ones_cons rfl (ones_cons rfl (ones_cons rfl ones_nil)))) ?_; intro w3 hb3 ht3; have t3 := ((Turn.refl wr none).alloc _).new ht3 (by simp); have c0 := hb3.ats (j := 0) (v := .int .i64 a.k) rfl))
        refine ⟨⟨j + 1, q, R, T, D, by omega, by omega, by omega, rfl, rfl, h.turn0 t3, HW⟩, ?_⟩
        simp [intOf]; omega
      · obtain ⟨p1, p2, p3⟩ := act_pw HW.out a.f a.m a.b (show 0 ≤ a.k by omega) (show a.k ≤ 2 by omega)
        have HP1 := hid p1
        have HP3 := hid p3
        have HP2 := hid p2
        clear p1 p2 p3 HW
        by_cases hd : N < q + 1
        · have hdi : (N : Int) < (q : Int) + 1 := by omega
          have e2 : (D.act a.k a.f a.m a.b).dead = true := by rw [HP2.out, decide_eq_true hd]
          have e3 := HP3.out hd
          clear HP2 HP3
          go_wp2_with (first
            | (refine gd_ldR (by rfl) 30 _ rfl rfl hrw Try.underlying30 rfl szAct ?_)
            | (refine wp_st (xs := acc a.k a.f a.m a.A a.n a.c) rfl 30 _ _ rfl rfl rfl (Blk.new wr _ _) rfl szAct (ones_cons rfl (ones_cons rfl (ones_cons rfl (ones_cons rfl ones_nil)))) ?_; intro w3 hb3 ht3; have t3 := ((Turn.refl wr none).alloc _).new ht3 (by simp); have c0 := hb3.ats (j := 0) (v := .int .i64 a.k) rfl)
            | (refine wp_ld rfl 30 _ rfl rfl hb4 (Sub.all _) Try.underlying30 rfl szAct ?_)
            | (go_at_call 12; refine (size_pk h6.p).mono ?_; rw [e3]; rintro e w7 ⟨rfl, t7⟩)
            | (go_at_call 12; refine (size_pk (h.turn0 t3).p).mono ?_; rintro e w4 ⟨rfl, t4⟩; have hb4 := hb3.turn0 t4)
            | (go_at_call 10; refine (does_any ((h.turn0 t3).turn0 t4) a.k a.f a.m hok.m0 hok.m1 a.A a.n a.c w.heap.size a.b hok.rd (Nat.le_refl _) hok.few hok.nc hok.cm).mono ?_; rintro e w5 ⟨rfl, R5, T5, h6⟩)
            | (go_at_call 11; refine (dead_pk h6.p).mono ?_; rw [e2]; rintro e w8 ⟨rfl, rfl⟩))
          refine ⟨⟨j + 1, q + 1, R5, T5, _, by omega, by omega, by omega, rfl, rfl, h6.turn0 t7, HP1⟩, ?_⟩
          simp [intOf]; omega
        · have hdi : ¬ (N : Int) < (q : Int) + 1 := by omega
          have e2 : (D.act a.k a.f a.m a.b).dead = false := by rw [HP2.out, decide_eq_false hd]
          clear HP2 HP3
          go_wp2_with (first
            | (refine gd_ldR (by rfl) 30 _ rfl rfl hrw Try.underlying30 rfl szAct ?_)
            | (refine wp_st (xs := acc a.k a.f a.m a.A a.n a.c) rfl 30 _ _ rfl rfl rfl (Blk.new wr _ _) rfl szAct (ones_cons rfl (ones_cons rfl (ones_cons rfl (ones_cons rfl ones_nil)))) ?_; intro w3 hb3 ht3; have t3 := ((Turn.refl wr none).alloc _).new ht3 (by simp); have c0 := hb3.ats (j := 0) (v := .int .i64 a.k) rfl)
            | (refine wp_ld rfl 30 _ rfl rfl hb4 (Sub.all _) Try.underlying30 rfl szAct ?_)
            | (go_at_call 12; refine (size_pk (h.turn0 t3).p).mono ?_; rintro e w4 ⟨rfl, t4⟩; have hb4 := hb3.turn0 t4)
            | (go_at_call 10; refine (does_any ((h.turn0 t3).turn0 t4) a.k a.f a.m hok.m0 hok.m1 a.A a.n a.c w.heap.size a.b hok.rd (Nat.le_refl _) hok.few hok.nc hok.cm).mono ?_; rintro e w5 ⟨rfl, R5, T5, h6⟩)
            | (go_at_call 11; refine (dead_pk h6.p).mono ?_; rw [e2]; rintro e w8 ⟨rfl, rfl⟩))
          refine ⟨⟨j + 1, q + 1, R5, T5, _, by omega, by omega, by omega, rfl, rfl, h6, HP1⟩, ?_⟩
          simp [intOf]; omega
    · have hcase : ¬ (j : Int) < n ∨ ((j : Int) < n ∧ ¬ (j : Int) < 60) := by omega
      cases hdd : D.dead with
      | true =>
        have hde : D.dErr 0 = 140 := by unfold Dsk.dErr; rw [if_pos hdd]
        have hrd := read_bo h.p 0
        have hdp := fun V (hV : Turn _ V none) => dead_pk (h.turn0 hV).p
        rw [hde] at hrd
        rw [hdd] at hdp
        clear hde hdd
        rcases hcase with q1 | ⟨q1, q2⟩
        all_goals
          go_wp2_with (first
            | (go_at_call 18; refine hrd.mono ?_; rintro e w7 ⟨A7, c7, rfl, ho7, t7⟩)
            | (go_at_call 11; refine (hdp _ t7).mono ?_; rintro e w8 ⟨rfl, rfl⟩)
            | (go_at_call 14; refine (dlives_any _).mono ?_; rintro e w9 ⟨rfl, t9⟩))
          go_ret
          exact ⟨rfl, (h.tw.trans t7).trans t9⟩
      | false =>
        have hde : D.dErr 0 = 0 := by unfold Dsk.dErr; rw [if_neg (by rw [hdd]; simp)]; rfl
        have hrd := read_bo h.p 0
        have hdp := fun V (hV : Turn _ V none) => dead_pk (h.turn0 hV).p
        rw [hde] at hrd
        rw [hdd] at hdp
        clear hde hdd
        rcases hcase with q1 | ⟨q1, q2⟩
        all_goals
          go_wp2_with (first
            | (go_at_call 18; refine hrd.mono ?_; rintro e w7 ⟨A7, c7, rfl, ho7, t7⟩)
            | (go_at_call 11; refine (hdp _ t7).mono ?_; rintro e w8 ⟨rfl, rfl⟩)
            | (go_at_call 14; refine (dlives_any _).mono ?_; rintro e w9 ⟨rfl, t9⟩))
          go_ret
          exact ⟨rfl, (h.tw.trans t7).trans t9⟩
theorem power_walk2 (N : Int) (h0 : 0 ≤ N) (h1 : N ≤ 255) (A : Option Addr) (n c : Nat) (qs : List At) (w : World) (hr : Rq w w.heap.size A n qs) (hn : n ≤ 140737488351232) :
    Calls Try.prog 7 #[.int .u8 N, .slice A n c] w fun e w' => e = .returned (.bool true) ∧ Turn w w' none := by
  obtain ⟨M, rfl⟩ := Int.eq_ofNat_of_zero_le h0
  exact power_walk M (by omega) A n c qs w hr hn
end Go.Proofs.Ytogajpiefegdeaa
