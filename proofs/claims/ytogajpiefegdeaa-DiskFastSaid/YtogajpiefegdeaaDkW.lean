/-
  Layer 14: the walk of DiskWhole.
-/
import Derived.Test.YtogajpiefegdeaaDkR
import Derived.Test.YtogajpiefegdeaaDkSa
import Derived.Laws.BitsLemmas
namespace Go.Proofs.Ytogajpiefegdeaa
set_option linter.unusedSimpArgs false
set_option linter.unusedVariables false
open Go.RowKit

theorem and1 (f : Int) : ∃ j : Nat, j < 2 ∧ bits .and .i64 f 1 = (j : Int) := by
  refine ⟨(BitVec.ofInt 64 f).toNat % 2, Nat.mod_lt _ (by decide), ?_⟩
  have h1 : (BitVec.ofInt 64 f &&& BitVec.ofInt 64 1).toNat = (BitVec.ofInt 64 f).toNat % 2 := by
    rw [BitVec.toNat_and]
    have : (BitVec.ofInt 64 1).toNat = 1 := by decide
    rw [this, Nat.and_one_is_mod]
  have h2 : bits .and .i64 f 1 = IntKind.i64.wrap (((BitVec.ofInt 64 f &&& BitVec.ofInt 64 1).toNat : Nat) : Int) := rfl
  rw [h2, h1, IntKind.wrap_i64]
  omega
/-- A disk whose power is there, and will be. -/
structure Qd (D : Dsk) (L : Int) : Prop where
  a : D.armed = false
  d : D.dead = false
  l : D.lim = L
section
variable {D : Dsk} {L : Int} {j : Nat}
theorem Qd.gone (h : Qd D L) : D.gone = false := by simp [Dsk.gone, h.a, h.d]
theorem Qd.cErr (h : Qd D L) (hj : j < 2) : D.cErr (j : Int) = 0 := by
  unfold Dsk.cErr fErr
  rw [h.gone, if_neg (by simp), if_neg (by omega)]
theorem Qd.cnt (h : Qd D L) : Qd D.cnt L := ⟨by rw [D.cnt_armed]; exact h.a, by rw [D.cnt_dead]; exact h.gone, by rw [D.cnt_lim]; exact h.l⟩
theorem Qd.put (h : Qd D L) (i : Nat) (x : Fi) : Qd (D.put i x) L := ⟨h.a, h.d, h.l⟩
theorem put_same (D : Dsk) (j : Nat) (x : Fi) : (D.put j x).f j = x := upd_same _ _ _
theorem put_ne (D : Dsk) {i j : Nat} (x : Fi) (h : i ≠ j) : (D.put j x).f i = D.f i := upd_ne _ _ h
theorem Qd.wErr (h : Qd D L) (hj : j < 2) (b : List UInt8) (hb : (D.size : Int) + b.length ≤ L) : D.wErr (j : Int) b = 0 := by
  unfold Dsk.wErr
  rw [h.cErr hj, if_pos rfl, h.l, if_neg (by omega)]
theorem Qd.wr (h : Qd D L) (hj : j < 2) (b : List UInt8) (hb : (D.size : Int) + b.length ≤ L) : D.wr (j : Int) b = D.cnt.put j { D.f j with mo := (D.f j).mo ++ b } := by
  unfold Dsk.wr
  rw [if_pos (h.wErr hj b hb), Int.toNat_natCast]
theorem Qd.sy (h : Qd D L) (hj : j < 2) : D.sy (j : Int) = D.cnt.put j (stF (D.f j).all) := by
  unfold Dsk.sy
  rw [if_pos (h.cErr hj), Int.toNat_natCast]
theorem Qd.rErr (h : Qd D L) (hj : j < 2) (b : List UInt8) (hb : ((D.f (1 - j)).all.length : Int) + b.length ≤ L) : D.rErr (j : Int) b = 0 := by
  unfold Dsk.rErr
  rw [h.cErr hj, if_pos rfl, h.l, Int.toNat_natCast, if_neg (by omega)]
theorem Qd.rp (h : Qd D L) (hj : j < 2) (b : List UInt8) (hb : ((D.f (1 - j)).all.length : Int) + b.length ≤ L) : D.rp (j : Int) b = D.cnt.put j ⟨(D.f j).fa, [], b, true⟩ := by
  unfold Dsk.rp
  rw [if_pos (h.rErr hj b hb), Int.toNat_natCast]
theorem Qd.dErr (h : Qd D L) (hj : j < 2) : D.dErr (j : Int) = 0 := by
  unfold Dsk.dErr fErr
  rw [h.d, if_neg (by simp), if_neg (by omega)]
theorem Qd.rd (h : Qd D L) (hj : j < 2) : D.rd (j : Int) = (D.f j).all := by
  unfold Dsk.rd
  rw [if_pos (h.dErr hj), Int.toNat_natCast]
theorem crash_qd (h : D.lim = L) (m : Int) (t : List UInt8) : Qd (D.crash m t) L := ⟨rfl, rfl, h⟩
theorem newD_qd : Qd (newD 1048576) 1048576 := ⟨rfl, rfl, rfl⟩
end
/-- What the law asks of four calls. -/
theorem whole_pure {j : Nat} (hj : j < 2) (a b : List UInt8) (m : Int) (t : List UInt8) (hab : a.length + b.length ≤ 500000) :
    ∃ D1 D2 D3 : Dsk, (newD 1048576).wErr (j : Int) a = 0 ∧ (newD 1048576).wr (j : Int) a = D1 ∧ D1.cErr (j : Int) = 0 ∧ D1.sy (j : Int) = D2 ∧ D2.rErr (j : Int) b = 0 ∧ D2.rp (j : Int) b = D3 ∧
      (D3.crash m t).dErr (j : Int) = 0 ∧ (D3.crash m t).rd (j : Int) = if 0 < m then b else a := by
  have q0 := newD_qd
  have hs0 : (newD 1048576).size = 0 := rfl
  have w1 := q0.wErr hj a (by rw [hs0]; omega)
  have e1 := q0.wr hj a (by rw [hs0]; omega)
  have q1 := q0.cnt.put j { (newD 1048576).f j with mo := ((newD 1048576).f j).mo ++ a }
  have f1 : ((newD 1048576).cnt.put j { (newD 1048576).f j with mo := ((newD 1048576).f j).mo ++ a }).f j = ⟨[], a, [], false⟩ := put_same _ _ _
  have g1 : ((newD 1048576).cnt.put j { (newD 1048576).f j with mo := ((newD 1048576).f j).mo ++ a }).f (1 - j) = stF [] := by
    rw [put_ne _ _ (by omega), Dsk.cnt_f]; rfl
  rw [← e1] at q1 f1 g1
  have e2 := q1.sy hj
  have q2 := q1.cnt.put j (stF (((newD 1048576).wr (j : Int) a).f j).all)
  have f2 : (((newD 1048576).wr (j : Int) a).cnt.put j (stF (((newD 1048576).wr (j : Int) a).f j).all)).f j = stF a := by
    rw [put_same, f1]
    congr 1
  have g2 : (((newD 1048576).wr (j : Int) a).cnt.put j (stF (((newD 1048576).wr (j : Int) a).f j).all)).f (1 - j) = stF [] := by
    rw [put_ne _ _ (by omega), Dsk.cnt_f, g1]
  rw [← e2] at q2 f2 g2
  have hb : ((((newD 1048576).wr (j : Int) a).sy (j : Int)).f (1 - j)).all.length = 0 := by rw [g2]; rfl
  have w3 := q2.rErr hj b (by rw [hb]; omega)
  have e3 := q2.rp hj b (by rw [hb]; omega)
  have q3 := q2.cnt.put j ⟨((((newD 1048576).wr (j : Int) a).sy (j : Int)).f j).fa, [], b, true⟩
  have f3 : ((((newD 1048576).wr (j : Int) a).sy (j : Int)).cnt.put j ⟨((((newD 1048576).wr (j : Int) a).sy (j : Int)).f j).fa, [], b, true⟩).f j = ⟨a, [], b, true⟩ := by
    rw [put_same, f2]; rfl
  rw [← e3] at q3 f3
  have q4 := crash_qd q3.l m t
  refine ⟨_, _, _, w1, rfl, q1.cErr hj, rfl, w3, rfl, q4.dErr hj, ?_⟩
  rw [q4.rd hj]
  show (stF (((((newD 1048576).wr (j : Int) a).sy (j : Int)).rp (j : Int) b).f j |>.left m t)).all = _
  rw [stF_all, f3]
  unfold Fi.left
  rw [if_pos rfl]
  have e : (⟨a, [], b, true⟩ : Fi).all = b := by simp [Fi.all]
  rw [e]

/-- Write and its like, of a disk alone. -/
theorem write_bo {w0 w : World} {g : Nat} {R : Nat → Prop} {D D' : Dsk} (h : Bo w0 w g R D) {j : Nat} {b : List UInt8} (he : D.wErr (j : Int) b = 0) (hd : D.wr (j : Int) b = D') (A : Option Addr) (m c base : Nat) (hb : w0.heap.size ≤ w.heap.size) (hr : Own w base 5 1 A m c (vbs b)) (hm : m ≤ 140737488355328) (hR : ∀ k, R k → k < base) :
    Calls Try.prog 15 #[.pointer (some ⟨g, 0, none⟩), .int .i64 (j : Int), .slice A m c] w fun e w' => e = .returned (.int .i64 0) ∧ ∃ R', Bo w0 w' g R' D' := by
  have k := write_any h.p (j : Int) A m c w.heap.size b hr.rd (Nat.le_refl _) hm (fun k e _ hk => by have h1 := (hr.block k e).1; have h2 := hR k hk; omega)
  rw [he, hd] at k
  exact k.mono fun e w' ⟨h1, h2⟩ => ⟨h1, h.stp h2⟩
theorem replace_bo {w0 w : World} {g : Nat} {R : Nat → Prop} {D D' : Dsk} (h : Bo w0 w g R D) {j : Nat} {b : List UInt8} (he : D.rErr (j : Int) b = 0) (hd : D.rp (j : Int) b = D') (A : Option Addr) (m c base : Nat) (hr : Own w base 5 1 A m c (vbs b)) (hm : m ≤ 140737488355328) (hR : ∀ k, R k → k < base) :
    Calls Try.prog 20 #[.pointer (some ⟨g, 0, none⟩), .int .i64 (j : Int), .slice A m c] w fun e w' => e = .returned (.int .i64 0) ∧ ∃ R', Bo w0 w' g R' D' := by
  have k := replace_any h.p (j : Int) A m c w.heap.size b hr.rd (Nat.le_refl _) hm (fun k e _ hk => by have h1 := (hr.block k e).1; have h2 := hR k hk; omega)
  rw [he, hd] at k
  exact k.mono fun e w' ⟨h1, h2⟩ => ⟨h1, h.stp h2⟩
theorem sync_bo {w0 w : World} {g : Nat} {R : Nat → Prop} {D D' : Dsk} (h : Bo w0 w g R D) {j : Nat} (he : D.cErr (j : Int) = 0) (hd : D.sy (j : Int) = D') :
    Calls Try.prog 16 #[.pointer (some ⟨g, 0, none⟩), .int .i64 (j : Int)] w fun e w' => e = .returned (.int .i64 0) ∧ ∃ R', Bo w0 w' g R' D' := by
  have k := sync_any h.p (j : Int)
  rw [he, hd] at k
  exact k.mono fun e w' ⟨h1, h2⟩ => ⟨h1, h.stp h2⟩
theorem crash_bo {w0 w : World} {g : Nat} {R : Nat → Prop} {D : Dsk} (h : Bo w0 w g R D) (m : Int) (m0 : -9223372036854775808 ≤ m) (m1 : m ≤ 9223372036854775807) {t : List UInt8} (A : Option Addr) (n c base : Nat) (hr : Own w base 5 1 A n c (vbs t)) (hn : n ≤ 140737488351232) (hR : ∀ k, R k → k < base) :
    Calls Try.prog 17 #[.pointer (some ⟨g, 0, none⟩), .int .i64 m, .slice A n c] w fun e w' => e = .returned (.tuple #[]) ∧ ∃ R', Bo w0 w' g R' (D.crash m t) :=
  (crash_any h.p m m0 m1 A n c w.heap.size t hr.rd (Nat.le_refl _) hn hr.cap.1 hr.cap.2 (fun k e _ hk => by have h1 := (hr.block k e).1; have h2 := hR k hk; omega)).mono fun e w' ⟨h1, h2⟩ => ⟨h1, h.stp h2⟩

set_option maxRecDepth 100000 in
set_option maxHeartbeats 12800000 in
theorem whole_walk (A1 : Option Addr) (n1 c1 : Nat) (la : List UInt8) (A2 : Option Addr) (n2 c2 : Nat) (lb : List UInt8) (a : At) (w : World) (r1 : Rd w w.heap.size 1 A1 n1 (vbs la)) (r2 : Rd w w.heap.size 1 A2 n2 (vbs lb)) (hok : a.Ok w w.heap.size)
    (hn1 : n1 ≤ 140737488351232) (hn2 : n2 ≤ 140737488351232) :
    Calls Try.prog 5 #[.slice A1 n1 c1, .slice A2 n2 c2, .agg a.cs.toArray] w fun e w' => e = .returned (.bool true) ∧ Turn w w' none := by
  have l1 := r1.len
  have l2 := r2.len
  rw [vbs_len] at l1 l2
  obtain ⟨j, hj, hbits⟩ := and1 a.f
  by_cases hbig : 500000 < n1 + n2
  · have hbi : (500000 : Int) < (n1 : Int) + (n2 : Int) := by omega
    clear l1 l2
    go_enter Try.func5, Try.ntmps5
    go_wp2_with (first
      | (refine wp_bx rfl 30 _ rfl rfl ?_; intro g5 w0 hg5 hb5 ht5)
      | (go_at_call 8; refine (new_bo 1048576 w0).mono ?_; rintro e w1 ⟨g, R1, rfl, h1⟩))
    go_ret
    exact ⟨rfl, ht5.trans h1.tw⟩
  · have hbi : ¬ (500000 : Int) < (n1 : Int) + (n2 : Int) := by omega
    obtain ⟨D1, D2, D3, p1, p2, p3, p4, p5, p6, p7, p8⟩ := whole_pure hj la lb a.m a.b (by omega)
    have P1 := hid p1
    have P2 := hid p2
    have P3 := hid p3
    have P4 := hid p4
    have P5 := hid p5
    have P6 := hid p6
    have P7 := hid p7
    have P8 := hid p8
    clear p1 p2 p3 p4 p5 p6 p7 p8 l1 l2
    go_enter Try.func5, Try.ntmps5
    go_upto_region 7 with (first
      | (refine wp_bx rfl 30 _ rfl rfl ?_; intro g5 w0 hg5 hb0 ht5)
      | (go_at_call 8; refine (new_bo 1048576 w0).mono ?_; rintro e w1 ⟨g, R1, rfl, h1⟩; have hb5 := hb0.turn0 h1.tw; have c51 := hb5.ats (j := 1) (v := .int .i64 a.f) rfl)
      | (at_builtin; refine gd_app (by rfl) _ _ _ rfl elB rfl rfl (Own.made w4 _ _ 1 0 #[] (Nat.le_refl _) (by decide) rfl) ((r2.turn0 (ht5.trans h4.tw) (Nat.le_refl _)).alloc (ht5.trans h4.tw).size (.cells #[] 5)) (vbs_one lb) (by unfold maxLen; first | omega | (simp; done) | (simp; omega)) (by omega) (by show _ ≤ (w4.heap.push _).size; rw [Array.size_push]; omega) ?_; intro A5 c5 w5 ho5 ht5' hb5'; simp only [Nat.zero_add, List.nil_append] at ho5 ⊢; have T45 : Turn w4 w5 none := ((Turn.refl w4 none).alloc _).new ht5' (fun g hg => (by simp [blk] at hg; subst hg; exact Nat.le_refl _)); clear hb5' ht5')
      | (at_builtin; refine wp_appW rfl _ _ _ rfl elB rfl rfl (Own.made w1 _ _ 1 0 #[] (Nat.le_refl _) (by decide) rfl) ((r1.turn0 (ht5.trans h1.tw) (Nat.le_refl _)).alloc (ht5.trans h1.tw).size (.cells #[] 5)) (vbs_one la) (by unfold maxLen; first | omega | (simp; done) | (simp; omega)) (by first | omega | (simp; done) | (simp; omega)) (by show _ ≤ (w1.heap.push _).size; rw [Array.size_push]; omega) ?_; intro A3 c3 w2 ho2 ht2 hb2; simp only [Nat.zero_add, List.nil_append] at ho2 ⊢; have T12 : Turn w1 w2 none := ((Turn.refl w1 none).alloc _).new ht2 (fun g hg => (by simp [blk] at hg; subst hg; exact Nat.le_refl _)); clear hb2 ht2)
      | (go_at_call 15; refine (write_bo (h1.turn0 T12) P1.out P2.out A3 n1 c3 w1.heap.size (h1.turn0 T12).tw.size ho2 (by omega) (fun k hk => h1.p.lt hk)).mono ?_; rintro e w3 ⟨rfl, R3, h3⟩)
      | (go_at_call 16; refine (sync_bo h3 P3.out P4.out).mono ?_; rintro e w4 ⟨rfl, R4, h4⟩)
      | (go_at_call 20; refine (replace_bo (h4.turn0 T45) P5.out P6.out A5 n2 c5 w4.heap.size ho5 (by omega) (fun k hk => h4.p.lt hk)).mono ?_; rintro e w6 ⟨rfl, R6, h6⟩))
    have hb6 := hb0.turn0 h6.tw
    have CC : ∀ W, Blk W g5 30 a.cs.toArray → W.cell? ⟨g5, 2, none⟩ = some (.int .i64 a.m) ∧ W.cell? ⟨g5, 3, none⟩ = some (.slice a.A a.n a.c) := fun W h => ⟨h.ats (j := 2) (v := .int .i64 a.m) rfl, h.ats (j := 3) (v := .slice a.A a.n a.c) rfl⟩
    have few := hok.few
    have h00 : Own ((World.drew w6).alloc (.cells #[] 5)) w6.heap.size 5 1 (some ⟨w6.heap.size, 0, none⟩) 0 0 [] := Own.made (World.drew w6) _ _ 1 0 #[] (Nat.le_refl _) (by decide) rfl
    have ro6 := (hok.rd.turn0 (ht5.trans h6.tw) (Nat.le_refl _)).drew.alloc (ht5.trans h6.tw).size (.cells #[] 5)
    refine wp_region_noPanic ?_
    refine wp_region_held_drew (S := (fun W => W.cell? ⟨g5, 2, none⟩ = some (.int .i64 a.m) ∧ W.cell? ⟨g5, 3, none⟩ = some (.slice a.A a.n a.c))) (by kernel_rfl) (CC _ hb6.drew) (fun hHeld => ?_)
    (first | (refine wpAnyH_take (i := 0) (v := undef) rfl (by kernel_rfl) (by kernel_rfl) (by kernel_rfl) (fun _ _ _ h => h) (Or.inr ⟨rfl, rfl⟩) (by assumption) ?_) | (refine wpAnyH_take (i := 0) (v := ?_) rfl (by kernel_rfl) (by kernel_rfl) (by kernel_rfl) (fun _ _ _ h => h) (Or.inl ⟨rfl, ?_⟩) (by assumption) ?_; rotate_left 1; · (intro w hSw; (try dsimp only at hSw); go_simp; (try with_reducible rfl)))); (try simp only [Act.put, List.getElem_toArray, List.getElem_cons_zero, List.getElem_cons_succ, List.setIfInBounds_toArray, List.set_cons_zero, List.set_cons_succ])
    (first | (refine wpAnyH_take (i := 1) (v := undef) rfl (by kernel_rfl) (by kernel_rfl) (by kernel_rfl) (fun _ _ _ h => h) (Or.inr ⟨rfl, rfl⟩) (by assumption) ?_) | (refine wpAnyH_take (i := 1) (v := ?_) rfl (by kernel_rfl) (by kernel_rfl) (by kernel_rfl) (fun _ _ _ h => h) (Or.inl ⟨rfl, ?_⟩) (by assumption) ?_; rotate_left 1; · (intro w hSw; (try dsimp only at hSw); go_simp; (try with_reducible rfl)))); (try simp only [Act.put, List.getElem_toArray, List.getElem_cons_zero, List.getElem_cons_succ, List.setIfInBounds_toArray, List.set_cons_zero, List.set_cons_succ])
    (first | (refine wpAnyH_take (i := 2) (v := undef) rfl (by kernel_rfl) (by kernel_rfl) (by kernel_rfl) (fun _ _ _ h => h) (Or.inr ⟨rfl, rfl⟩) (by assumption) ?_) | (refine wpAnyH_take (i := 2) (v := ?_) rfl (by kernel_rfl) (by kernel_rfl) (by kernel_rfl) (fun _ _ _ h => h) (Or.inl ⟨rfl, ?_⟩) (by assumption) ?_; rotate_left 1; · (intro w hSw; (try dsimp only at hSw); go_simp; (try with_reducible rfl)))); (try simp only [Act.put, List.getElem_toArray, List.getElem_cons_zero, List.getElem_cons_succ, List.setIfInBounds_toArray, List.set_cons_zero, List.set_cons_succ])
    (first | (refine wpAnyH_take (i := 4) (v := undef) rfl (by kernel_rfl) (by kernel_rfl) (by kernel_rfl) (fun _ _ _ h => h) (Or.inr ⟨rfl, rfl⟩) (by assumption) ?_) | (refine wpAnyH_take (i := 4) (v := ?_) rfl (by kernel_rfl) (by kernel_rfl) (by kernel_rfl) (fun _ _ _ h => h) (Or.inl ⟨rfl, ?_⟩) (by assumption) ?_; rotate_left 1; · (intro w hSw; (try dsimp only at hSw); go_simp; (try with_reducible rfl)))); (try simp only [Act.put, List.getElem_toArray, List.getElem_cons_zero, List.getElem_cons_succ, List.setIfInBounds_toArray, List.set_cons_zero, List.set_cons_succ])
    (first | (refine wpAnyH_take (i := 5) (v := undef) rfl (by kernel_rfl) (by kernel_rfl) (by kernel_rfl) (fun _ _ _ h => h) (Or.inr ⟨rfl, rfl⟩) (by assumption) ?_) | (refine wpAnyH_take (i := 5) (v := ?_) rfl (by kernel_rfl) (by kernel_rfl) (by kernel_rfl) (fun _ _ _ h => h) (Or.inl ⟨rfl, ?_⟩) (by assumption) ?_; rotate_left 1; · (intro w hSw; (try dsimp only at hSw); go_simp; (try with_reducible rfl)))); (try simp only [Act.put, List.getElem_toArray, List.getElem_cons_zero, List.getElem_cons_succ, List.setIfInBounds_toArray, List.set_cons_zero, List.set_cons_succ])
    refine wpAnyH_ready (rs := [3]) (by kernel_rfl) (by simp) ?_; refine AllReadyH.cons rfl (fun K hK => ?_) AllReadyH.nil
    go_simp
    refine hK.out _ _ (CC _ (hb6.drew.alloc (.cells #[] 5))) (fun hHeld => ?_); clear hK K; (try simp only [Act.put, List.getElem_toArray, List.getElem_cons_zero, List.getElem_cons_succ, List.setIfInBounds_toArray, List.set_cons_zero, List.set_cons_succ])
    refine wpAnyH_ready (rs := [6]) (by kernel_rfl) (by simp) ?_; refine AllReadyH.cons rfl (fun K hK => ?_) AllReadyH.nil
    refine st_appF rfl _ _ _ rfl elB rfl rfl h00 ro6 (vbs_one a.b) (by omega) (by show _ ≤ (w6.heap.push _).size; rw [Array.size_push]; omega) ?_
    intro A7 c7 w7 ho7 hc7
    have t7 : Turn (World.drew w6) w7 none := by
      rcases hc7 with ⟨_, _, q⟩ | ⟨_, q⟩
      · exact ((Turn.refl (World.drew w6) none).alloc _).new q (fun g hg => by simp [blk] at hg; subst hg; exact Nat.le_refl _)
      · exact ((Turn.refl (World.drew w6) none).alloc _).trans q
    clear hc7
    simp only [Nat.zero_add, List.nil_append] at ho7 ⊢
    refine hK.out _ _ (CC _ (hb6.drew.turn0 t7)) (fun hHeld => ?_); clear hK K; (try simp only [Act.put, List.getElem_toArray, List.getElem_cons_zero, List.getElem_cons_succ, List.setIfInBounds_toArray, List.set_cons_zero, List.set_cons_succ])
    refine wpAnyH_ready (rs := [7]) (by kernel_rfl) (by simp) ?_
    refine AllReadyH.cons rfl (fun K hK => ?_) AllReadyH.nil
    go_simp
    refine (crash_bo (h6.turn0 t7.undrew) a.m hok.m0 hok.m1 A7 a.n c7 w6.heap.size ho7 few (fun k hk => h6.p.lt hk)).mono ?_
    rintro e w8 ⟨rfl, R8, h8⟩
    refine hK.out _ _ (CC _ (hb0.turn0 h8.tw)) (fun hHeld => ?_); clear hK K; (try simp only [Act.put, List.getElem_toArray, List.getElem_cons_zero, List.getElem_cons_succ, List.setIfInBounds_toArray, List.set_cons_zero, List.set_cons_succ])
    refine wpAnyH_done (by kernel_rfl) ?_ _
    refine NoPanic.normal ?_
    clear hHeld
    have hrd := read_bo h8.p (j : Int)
    rw [P7.out, P8.out] at hrd
    have hb8 := hb0.turn0 h8.tw
    clear P1 P2 P3 P4 P5 P6 P7 P8 CC
    by_cases hp : 0 < a.m
    · rw [if_pos hp] at hrd
      go_wp2_with (first
        | (go_at_call 18; refine hrd.mono ?_; rintro e w9 ⟨A9, c9, rfl, ho9, t9⟩; have s9 := str_run w9 (c := c9) ho9.rd; have z9 := str_run w9 (c := c2) (r2.turn0 ((ht5.trans h8.tw).trans t9) (Nat.le_refl _)); have c59 := (hb8.turn0 t9).ats (j := 2) (v := .int .i64 a.m) rfl)
        | (go_at_call 14; refine (dlives_any _).mono ?_; rintro e w10 ⟨rfl, t10⟩))
      go_ret
      exact ⟨rfl, ((ht5.trans h8.tw).trans t9).trans t10⟩
    · rw [if_neg hp] at hrd
      go_wp2_with (first
        | (go_at_call 18; refine hrd.mono ?_; rintro e w9 ⟨A9, c9, rfl, ho9, t9⟩; have s9 := str_run w9 (c := c9) ho9.rd; have z9 := str_run w9 (c := c1) (r1.turn0 ((ht5.trans h8.tw).trans t9) (Nat.le_refl _)); have c59 := (hb8.turn0 t9).ats (j := 2) (v := .int .i64 a.m) rfl)
        | (go_at_call 14; refine (dlives_any _).mono ?_; rintro e w10 ⟨rfl, t10⟩))
      go_ret
      exact ⟨rfl, ((ht5.trans h8.tw).trans t9).trans t10⟩
end Go.Proofs.Ytogajpiefegdeaa
