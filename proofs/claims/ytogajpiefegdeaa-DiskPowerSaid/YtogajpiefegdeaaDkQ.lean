/-
  Layer 14: both disks side by side; the law's does (contract).
-/
import Derived.Test.YtogajpiefegdeaaDkSa
import Derived.Test.YtogajpiefegdeaaDkF
import Derived.Test.YtogajpiefegdeaaDkG
import Derived.Test.YtogajpiefegdeaaDkM
import Derived.Test.YtogajpiefegdeaaDkN
import Derived.Test.YtogajpiefegdeaaDkO
namespace Go.Proofs.Ytogajpiefegdeaa
set_option linter.unusedSimpArgs false
set_option linter.unusedVariables false
open Go.RowKit

theorem Rk.lt {w : World} {r : Nat} {T : Nat → Prop} {D : Dsk} (h : Rk w r T D) {k : Nat} (hk : T k) : k < w.heap.size := by
  obtain ⟨R, x, y, z, lv, hp, hT⟩ := h
  rcases (hT k).2 hk with rfl | h1
  · exact hp.b.lt
  · exact hp.lt k h1
theorem Rk.chg {w w' : World} {r : Nat} {T R : Nat → Prop} {D : Dsk} (h : Rk w r T D) (hc : Chg w w' R) (hd : ∀ k, R k → ¬ T k) : Rk w' r T D := by
  obtain ⟨R', x, y, z, lv, hp, hT⟩ := h
  exact ⟨R', x, y, z, lv, hp.chg hc (fun e => hd r e ((hT r).1 (.inl rfl))) (fun k hk e => hd k e ((hT k).1 (.inr hk))), hT⟩
/-- Both disks, each in blocks of its own, made since w0. -/
structure Bp (w0 w : World) (g r : Nat) (R T : Nat → Prop) (D E : Dsk) : Prop where
  p : Pk w g R D
  q : Rk w r T E
  dis : ∀ k, R k → ¬ T k
  r0 : ∀ k, R k → w0.heap.size ≤ k
  t0 : ∀ k, T k → w0.heap.size ≤ k
  tw : Turn w0 w none
section
variable {w0 w w' : World} {g r : Nat} {R T : Nat → Prop} {D E D' : Dsk}
theorem Bp.turn0 (h : Bp w0 w g r R T D E) (ht : Turn w w' none) : Bp w0 w' g r R T D E :=
  ⟨h.p.chg (T := fun _ => False) (Chg.of0 ht _) fun _ _ h => h, h.q.chg (R := fun _ => False) (Chg.of0 ht _) fun _ h => h.elim, h.dis, h.r0, h.t0, h.tw.trans ht⟩
theorem Bp.stp (h : Bp w0 w g r R T D E) (s : Stp w w' R g D') : ∃ R', Bp w0 w' g r R' T D' E := by
  obtain ⟨hc, R', hp, hk⟩ := s
  have s0 := h.tw.size
  refine ⟨R', hp, h.q.chg hc h.dis, fun k h1 h2 => (hk k h1).elim (fun h3 => h.dis k h3 h2) (fun h3 => by have := h.q.lt h2; omega), fun k h1 => (hk k h1).elim (h.r0 k) (fun h3 => by omega), h.t0, ?_⟩
  exact ((Chg.of0 h.tw R).trans hc fun i hi => .inl hi).turn h.r0
theorem Bp.stq (h : Bp w0 w g r R T D E) (s : Stq w w' T r D') : ∃ T', Bp w0 w' g r R T' D D' := by
  obtain ⟨hc, T', hp, hk⟩ := s
  have s0 := h.tw.size
  refine ⟨T', h.p.chg hc h.dis, hp, fun k h1 h2 => (hk k h2).elim (fun h3 => h.dis k h1 h3) (fun h3 => by have := h.p.lt h1; omega), h.r0, fun k h1 => (hk k h1).elim (h.t0 k) (fun h3 => by omega), ?_⟩
  exact ((Chg.of0 h.tw T).trans hc fun i hi => .inl hi).turn h.t0
theorem Rd.blkLt {B n k : Nat} {A : Option Addr} {xs : List Value} (h : Rd w B 1 A n xs) (hn : 0 < n) (e : blk A = some k) : k < B := by
  obtain ⟨b, off, rfl, hb, _⟩ := h.head (by omega)
  injection e with e
  have e : b = k := e
  omega
end
theorem arm_stp {w : World} {g : Nat} {R : Nat → Prop} {D : Dsk} (h : Pk w g R D) (c : Int) (hc : c ≤ 9223372036854775807) :
    Calls Try.prog 21 #[.pointer (some ⟨g, 0, none⟩), .int .i64 c] w fun e w' => e = .returned (.tuple #[]) ∧ Stp w w' R g (D.arm c) := by
  obtain ⟨S, v, u, lv, hp, hR⟩ := h
  exact (arm_any hp c hc).mono fun e w' ⟨he, t1, lv1, h1⟩ => ⟨he, h1.no t1 hR⟩
theorem rarm_stq {w : World} {r : Nat} {T : Nat → Prop} {D : Dsk} (h : Rk w r T D) (c : Int) (hc : c ≤ 9223372036854775807) :
    Calls Try.prog 22 #[.pointer (some ⟨r, 0, none⟩), .int .i64 c] w fun e w' => e = .returned (.tuple #[]) ∧ Stq w w' T r (D.arm c) := by
  obtain ⟨R, x, y, z, lv, hp, hT⟩ := h
  exact (rarm_any hp c hc).mono fun e w' ⟨he, t1, lv1, h1⟩ => ⟨he, h1.no t1 hT⟩
theorem read_pk {w : World} {g : Nat} {R : Nat → Prop} {D : Dsk} (h : Pk w g R D) (n : Int) :
    Calls Try.prog 18 #[.pointer (some ⟨g, 0, none⟩), .int .i64 n] w fun e w' => ∃ A c,
      e = .returned (.tuple #[.slice A (D.rd n).length c, .int .i64 (D.dErr n)]) ∧ Own w' w.heap.size 5 1 A (D.rd n).length c (vbs (D.rd n)) ∧ Turn w w' none := by
  obtain ⟨S, v, u, lv, hp, hR⟩ := h
  exact read_any hp n
theorem rread_rk {w : World} {r : Nat} {T : Nat → Prop} {D : Dsk} (h : Rk w r T D) (n : Int) :
    Calls Try.prog 26 #[.pointer (some ⟨r, 0, none⟩), .int .i64 n] w fun e w' => ∃ A c,
      e = .returned (.tuple #[.slice A (D.rd n).length c, .int .i64 (D.dErr n)]) ∧ Own w' w.heap.size 5 1 A (D.rd n).length c (vbs (D.rd n)) ∧ Turn w w' none := by
  obtain ⟨R, x, y, z, lv, hp, hT⟩ := h
  exact rread_any hp n

/-- What an act leaves. -/
def Dsk.act (D : Dsk) (k f n : Int) (b : List UInt8) : Dsk :=
  if k = 0 then D.wr f b else if k = 1 then D.rp f b else if k = 2 then D.sy f else if k = 4 then D.arm n else if k = 5 then D.crash n b else D
theorem u8_add (b : UInt8) : vb (b + 1) = .int .u8 (((b.toNat : Int) + 1) % 256) := by
  unfold vb
  rw [UInt8.toNat_add]
  have : (1 : UInt8).toNat = 1 := rfl
  rw [this]
  congr 1

set_option maxRecDepth 100000 in
set_option maxHeartbeats 6400000 in
theorem does_any {w0 w : World} {g r : Nat} {R T : Nat → Prop} {D : Dsk} (h : Bp w0 w g r R T D D) (kd fl N : Int) (hN0 : -9223372036854775808 ≤ N) (hN1 : N ≤ 9223372036854775807) (A : Option Addr) (n c B : Nat) (b : List UInt8) (hr : Rd w0 B 1 A n (vbs b)) (hB : B ≤ w0.heap.size) (hn2 : n ≤ 140737488351232) (hnc : n ≤ c) (hcm : c ≤ maxLen) :
    Calls Try.prog 10 #[.pointer (some ⟨g, 0, none⟩), .pointer (some ⟨r, 0, none⟩), .agg (acc kd fl N A n c).toArray] w fun e w' => e = .returned (.bool true) ∧ ∃ R' T', Bp w0 w' g r R' T' (D.act kd fl N b) (D.act kd fl N b) := by
  have hn : n ≤ 140737488355328 := by omega
  have sR : ∀ k, R k → k < w.heap.size := fun k hk => h.p.lt hk
  have sT : ∀ k, T k → k < w.heap.size := fun k hk => h.q.lt hk
  have hAT : ∀ T' : Nat → Prop, (∀ k, T' k → w0.heap.size ≤ k) → ∀ k, blk A = some k → 0 < n → ¬ T' k := fun T' hT' k e hp hk => by
    have h1 := hr.blkLt hp e
    have h2 := hT' k hk
    omega
  go_enter Try.func10, Try.ntmps10
  go_upto_region 2 with (first
    | (refine wp_bx rfl 30 _ rfl rfl ?_; intro g5 w1 hg5 hb5 ht5; have c50 := hb5.ats (j := 0) (v := .int .i64 kd) rfl; have c53 := (hb5.alloc (.cells #[] 5)).ats (j := 3) (v := .slice A n c) rfl)
    | (at_builtin; refine wp_appW rfl _ _ _ rfl elB rfl rfl (Own.made w1 _ _ 1 0 #[] (Nat.le_refl _) (by decide) rfl) ((hr.turn0 (h.tw.trans ht5) hB).alloc (Nat.le_trans hB (h.tw.trans ht5).size) (.cells #[] 5)) (vbs_one b) (by unfold maxLen; first | omega | (simp; done) | (simp; omega)) (by first | omega | (simp; done) | (simp; omega)) (by show _ ≤ (w1.heap.push _).size; rw [Array.size_push]; omega) ?_; intro A1 c1 w2 ho1 ht1 hb1))
  have T12 : Turn w1 w2 none := ((Turn.refl w1 none).alloc _).new ht1 (fun g hg => by simp [blk] at hg; subst hg; exact Nat.le_refl _)
  simp only [Nat.zero_add, List.nil_append] at ho1 ⊢
  clear c50 c53 hb1 ht1
  have h2 := h.turn0 (ht5.trans T12)
  have hb5 := hb5.turn0 T12
  have c50 := hb5.ats (j := 0) (v := .int .i64 kd) rfl
  have c51 := hb5.ats (j := 1) (v := .int .i64 fl) rfl
  have c52 := hb5.ats (j := 2) (v := .int .i64 N) rfl
  have c53 := hb5.ats (j := 3) (v := .slice A n c) rfl
  have nR : ¬ R g5 := fun e => by have := sR g5 e; omega
  have nT : ¬ T g5 := fun e => by have := sT g5 e; omega
  have hOA : ∀ k, blk A1 = some k → 0 < n → ¬ R k := fun k e _ hk => by
    have h1 := (ho1.block k e).1
    have h3 := sR k hk
    have h4 := ht5.size
    omega
  by_cases q0 : kd = 0
  · subst q0
    have e : D.act 0 fl N b = D.wr fl b := rfl
    have E := hid e
    clear e
    go_wp2
    refine wp_region_noPanic ?_
    refine wp_region_held_drew (S := (fun W => W.cell? ⟨g5, 1, none⟩ = some (.int .i64 fl) ∧ W.cell? ⟨g5, 3, none⟩ = some (.slice A n c))) (by kernel_rfl) (⟨c51, c53⟩) (fun hHeld => ?_)
    (first | (refine wpAnyH_take (i := 0) (v := undef) rfl (by kernel_rfl) (by kernel_rfl) (by kernel_rfl) (fun _ _ _ h => h) (Or.inr ⟨rfl, rfl⟩) (by assumption) ?_) | (refine wpAnyH_take (i := 0) (v := ?_) rfl (by kernel_rfl) (by kernel_rfl) (by kernel_rfl) (fun _ _ _ h => h) (Or.inl ⟨rfl, ?_⟩) (by assumption) ?_; rotate_left 1; · (intro w hSw; (try dsimp only at hSw); go_simp; (try with_reducible rfl)))); (try simp only [Act.put, List.getElem_toArray, List.getElem_cons_zero, List.getElem_cons_succ, List.setIfInBounds_toArray, List.set_cons_zero, List.set_cons_succ])
    (first | (refine wpAnyH_take (i := 1) (v := undef) rfl (by kernel_rfl) (by kernel_rfl) (by kernel_rfl) (fun _ _ _ h => h) (Or.inr ⟨rfl, rfl⟩) (by assumption) ?_) | (refine wpAnyH_take (i := 1) (v := ?_) rfl (by kernel_rfl) (by kernel_rfl) (by kernel_rfl) (fun _ _ _ h => h) (Or.inl ⟨rfl, ?_⟩) (by assumption) ?_; rotate_left 1; · (intro w hSw; (try dsimp only at hSw); go_simp; (try with_reducible rfl)))); (try simp only [Act.put, List.getElem_toArray, List.getElem_cons_zero, List.getElem_cons_succ, List.setIfInBounds_toArray, List.set_cons_zero, List.set_cons_succ])
    (first | (refine wpAnyH_take (i := 2) (v := undef) rfl (by kernel_rfl) (by kernel_rfl) (by kernel_rfl) (fun _ _ _ h => h) (Or.inr ⟨rfl, rfl⟩) (by assumption) ?_) | (refine wpAnyH_take (i := 2) (v := ?_) rfl (by kernel_rfl) (by kernel_rfl) (by kernel_rfl) (fun _ _ _ h => h) (Or.inl ⟨rfl, ?_⟩) (by assumption) ?_; rotate_left 1; · (intro w hSw; (try dsimp only at hSw); go_simp; (try with_reducible rfl)))); (try simp only [Act.put, List.getElem_toArray, List.getElem_cons_zero, List.getElem_cons_succ, List.setIfInBounds_toArray, List.set_cons_zero, List.set_cons_succ])
    (first | (refine wpAnyH_take (i := 3) (v := undef) rfl (by kernel_rfl) (by kernel_rfl) (by kernel_rfl) (fun _ _ _ h => h) (Or.inr ⟨rfl, rfl⟩) (by assumption) ?_) | (refine wpAnyH_take (i := 3) (v := ?_) rfl (by kernel_rfl) (by kernel_rfl) (by kernel_rfl) (fun _ _ _ h => h) (Or.inl ⟨rfl, ?_⟩) (by assumption) ?_; rotate_left 1; · (intro w hSw; (try dsimp only at hSw); go_simp; (try with_reducible rfl)))); (try simp only [Act.put, List.getElem_toArray, List.getElem_cons_zero, List.getElem_cons_succ, List.setIfInBounds_toArray, List.set_cons_zero, List.set_cons_succ])
    (first | (refine wpAnyH_take (i := 5) (v := undef) rfl (by kernel_rfl) (by kernel_rfl) (by kernel_rfl) (fun _ _ _ h => h) (Or.inr ⟨rfl, rfl⟩) (by assumption) ?_) | (refine wpAnyH_take (i := 5) (v := ?_) rfl (by kernel_rfl) (by kernel_rfl) (by kernel_rfl) (fun _ _ _ h => h) (Or.inl ⟨rfl, ?_⟩) (by assumption) ?_; rotate_left 1; · (intro w hSw; (try dsimp only at hSw); go_simp; (try with_reducible rfl)))); (try simp only [Act.put, List.getElem_toArray, List.getElem_cons_zero, List.getElem_cons_succ, List.setIfInBounds_toArray, List.set_cons_zero, List.set_cons_succ])
    (first | (refine wpAnyH_take (i := 6) (v := undef) rfl (by kernel_rfl) (by kernel_rfl) (by kernel_rfl) (fun _ _ _ h => h) (Or.inr ⟨rfl, rfl⟩) (by assumption) ?_) | (refine wpAnyH_take (i := 6) (v := ?_) rfl (by kernel_rfl) (by kernel_rfl) (by kernel_rfl) (fun _ _ _ h => h) (Or.inl ⟨rfl, ?_⟩) (by assumption) ?_; rotate_left 1; · (intro w hSw; (try dsimp only at hSw); go_simp; (try with_reducible rfl)))); (try simp only [Act.put, List.getElem_toArray, List.getElem_cons_zero, List.getElem_cons_succ, List.setIfInBounds_toArray, List.set_cons_zero, List.set_cons_succ])
    (first | (refine wpAnyH_take (i := 7) (v := undef) rfl (by kernel_rfl) (by kernel_rfl) (by kernel_rfl) (fun _ _ _ h => h) (Or.inr ⟨rfl, rfl⟩) (by assumption) ?_) | (refine wpAnyH_take (i := 7) (v := ?_) rfl (by kernel_rfl) (by kernel_rfl) (by kernel_rfl) (fun _ _ _ h => h) (Or.inl ⟨rfl, ?_⟩) (by assumption) ?_; rotate_left 1; · (intro w hSw; (try dsimp only at hSw); go_simp; (try with_reducible rfl)))); (try simp only [Act.put, List.getElem_toArray, List.getElem_cons_zero, List.getElem_cons_succ, List.setIfInBounds_toArray, List.set_cons_zero, List.set_cons_succ])
    (first | (refine wpAnyH_take (i := 8) (v := undef) rfl (by kernel_rfl) (by kernel_rfl) (by kernel_rfl) (fun _ _ _ h => h) (Or.inr ⟨rfl, rfl⟩) (by assumption) ?_) | (refine wpAnyH_take (i := 8) (v := ?_) rfl (by kernel_rfl) (by kernel_rfl) (by kernel_rfl) (fun _ _ _ h => h) (Or.inl ⟨rfl, ?_⟩) (by assumption) ?_; rotate_left 1; · (intro w hSw; (try dsimp only at hSw); go_simp; (try with_reducible rfl)))); (try simp only [Act.put, List.getElem_toArray, List.getElem_cons_zero, List.getElem_cons_succ, List.setIfInBounds_toArray, List.set_cons_zero, List.set_cons_succ])
    (first | (refine wpAnyH_take (i := 9) (v := undef) rfl (by kernel_rfl) (by kernel_rfl) (by kernel_rfl) (fun _ _ _ h => h) (Or.inr ⟨rfl, rfl⟩) (by assumption) ?_) | (refine wpAnyH_take (i := 9) (v := ?_) rfl (by kernel_rfl) (by kernel_rfl) (by kernel_rfl) (fun _ _ _ h => h) (Or.inl ⟨rfl, ?_⟩) (by assumption) ?_; rotate_left 1; · (intro w hSw; (try dsimp only at hSw); go_simp; (try with_reducible rfl)))); (try simp only [Act.put, List.getElem_toArray, List.getElem_cons_zero, List.getElem_cons_succ, List.setIfInBounds_toArray, List.set_cons_zero, List.set_cons_succ])
    refine wpAnyH_ready (rs := [4]) (by kernel_rfl) (by simp) ?_
    refine AllReadyH.cons rfl (fun K hK => ?_) AllReadyH.nil
    go_simp
    have hd := h2.turn0 (Turn.refl w2 none).drew
    refine (write_any hd.p fl A1 n c1 w2.heap.size b ho1.rd.drew (Nat.le_refl _) hn hOA).mono ?_
    rintro e w3 ⟨rfl, s3⟩
    obtain ⟨R3, h3⟩ := hd.stp s3
    have b3 := hb5.drew.chg s3.1 nR
    refine hK.out _ _ ⟨b3.ats (j := 1) (v := .int .i64 fl) rfl, b3.ats (j := 3) (v := .slice A n c) rfl⟩ (fun hHeld => ?_); clear hK K; (try simp only [Act.put, List.getElem_toArray, List.getElem_cons_zero, List.getElem_cons_succ, List.setIfInBounds_toArray, List.set_cons_zero, List.set_cons_succ])
    refine wpAnyH_ready (rs := [10]) (by kernel_rfl) (by simp) ?_
    refine AllReadyH.cons rfl (fun K hK => ?_) AllReadyH.nil
    go_simp
    refine (rwrite_any h3.q fl A n c B b (hr.turn0 h3.tw hB) (Nat.le_trans hB h3.tw.size) hn (hAT T h3.t0)).mono ?_
    rintro e w4 ⟨rfl, s4⟩
    obtain ⟨T4, h4⟩ := h3.stq s4
    have b4 := b3.chg s4.1 nT
    refine hK.out _ _ ⟨b4.ats (j := 1) (v := .int .i64 fl) rfl, b4.ats (j := 3) (v := .slice A n c) rfl⟩ (fun hHeld => ?_); clear hK K; (try simp only [Act.put, List.getElem_toArray, List.getElem_cons_zero, List.getElem_cons_succ, List.setIfInBounds_toArray, List.set_cons_zero, List.set_cons_succ])
    (first | (refine wpAnyH_take (i := 11) (v := undef) rfl (by kernel_rfl) (by kernel_rfl) (by kernel_rfl) (fun _ _ _ h => h) (Or.inr ⟨rfl, rfl⟩) (by assumption) ?_) | (refine wpAnyH_take (i := 11) (v := ?_) rfl (by kernel_rfl) (by kernel_rfl) (by kernel_rfl) (fun _ _ _ h => h) (Or.inl ⟨rfl, ?_⟩) (by assumption) ?_; rotate_left 1; · (intro w hSw; (try dsimp only at hSw); go_simp; (try with_reducible rfl)))); (try simp only [Act.put, List.getElem_toArray, List.getElem_cons_zero, List.getElem_cons_succ, List.setIfInBounds_toArray, List.set_cons_zero, List.set_cons_succ])
    (first | (refine wpAnyH_take (i := 12) (v := undef) rfl (by kernel_rfl) (by kernel_rfl) (by kernel_rfl) (fun _ _ _ h => h) (Or.inr ⟨rfl, rfl⟩) (by assumption) ?_) | (refine wpAnyH_take (i := 12) (v := ?_) rfl (by kernel_rfl) (by kernel_rfl) (by kernel_rfl) (fun _ _ _ h => h) (Or.inl ⟨rfl, ?_⟩) (by assumption) ?_; rotate_left 1; · (intro w hSw; (try dsimp only at hSw); go_simp; (try with_reducible rfl)))); (try simp only [Act.put, List.getElem_toArray, List.getElem_cons_zero, List.getElem_cons_succ, List.setIfInBounds_toArray, List.set_cons_zero, List.set_cons_succ])
    refine wpAnyH_done (by kernel_rfl) ?_ _
    refine NoPanic.normal ?_
    clear hHeld
    go_wp2
    go_ret
    exact ⟨rfl, R3, T4, by rw [E.out]; exact h4⟩
  by_cases q1 : kd = 1
  · subst q1
    have e : D.act 1 fl N b = D.rp fl b := rfl
    have E := hid e
    clear e
    go_wp2
    refine wp_region_noPanic ?_
    refine wp_region_held_drew (S := (fun W => W.cell? ⟨g5, 1, none⟩ = some (.int .i64 fl) ∧ W.cell? ⟨g5, 3, none⟩ = some (.slice A n c))) (by kernel_rfl) (⟨c51, c53⟩) (fun hHeld => ?_)
    (first | (refine wpAnyH_take (i := 0) (v := undef) rfl (by kernel_rfl) (by kernel_rfl) (by kernel_rfl) (fun _ _ _ h => h) (Or.inr ⟨rfl, rfl⟩) (by assumption) ?_) | (refine wpAnyH_take (i := 0) (v := ?_) rfl (by kernel_rfl) (by kernel_rfl) (by kernel_rfl) (fun _ _ _ h => h) (Or.inl ⟨rfl, ?_⟩) (by assumption) ?_; rotate_left 1; · (intro w hSw; (try dsimp only at hSw); go_simp; (try with_reducible rfl)))); (try simp only [Act.put, List.getElem_toArray, List.getElem_cons_zero, List.getElem_cons_succ, List.setIfInBounds_toArray, List.set_cons_zero, List.set_cons_succ])
    (first | (refine wpAnyH_take (i := 1) (v := undef) rfl (by kernel_rfl) (by kernel_rfl) (by kernel_rfl) (fun _ _ _ h => h) (Or.inr ⟨rfl, rfl⟩) (by assumption) ?_) | (refine wpAnyH_take (i := 1) (v := ?_) rfl (by kernel_rfl) (by kernel_rfl) (by kernel_rfl) (fun _ _ _ h => h) (Or.inl ⟨rfl, ?_⟩) (by assumption) ?_; rotate_left 1; · (intro w hSw; (try dsimp only at hSw); go_simp; (try with_reducible rfl)))); (try simp only [Act.put, List.getElem_toArray, List.getElem_cons_zero, List.getElem_cons_succ, List.setIfInBounds_toArray, List.set_cons_zero, List.set_cons_succ])
    (first | (refine wpAnyH_take (i := 2) (v := undef) rfl (by kernel_rfl) (by kernel_rfl) (by kernel_rfl) (fun _ _ _ h => h) (Or.inr ⟨rfl, rfl⟩) (by assumption) ?_) | (refine wpAnyH_take (i := 2) (v := ?_) rfl (by kernel_rfl) (by kernel_rfl) (by kernel_rfl) (fun _ _ _ h => h) (Or.inl ⟨rfl, ?_⟩) (by assumption) ?_; rotate_left 1; · (intro w hSw; (try dsimp only at hSw); go_simp; (try with_reducible rfl)))); (try simp only [Act.put, List.getElem_toArray, List.getElem_cons_zero, List.getElem_cons_succ, List.setIfInBounds_toArray, List.set_cons_zero, List.set_cons_succ])
    (first | (refine wpAnyH_take (i := 3) (v := undef) rfl (by kernel_rfl) (by kernel_rfl) (by kernel_rfl) (fun _ _ _ h => h) (Or.inr ⟨rfl, rfl⟩) (by assumption) ?_) | (refine wpAnyH_take (i := 3) (v := ?_) rfl (by kernel_rfl) (by kernel_rfl) (by kernel_rfl) (fun _ _ _ h => h) (Or.inl ⟨rfl, ?_⟩) (by assumption) ?_; rotate_left 1; · (intro w hSw; (try dsimp only at hSw); go_simp; (try with_reducible rfl)))); (try simp only [Act.put, List.getElem_toArray, List.getElem_cons_zero, List.getElem_cons_succ, List.setIfInBounds_toArray, List.set_cons_zero, List.set_cons_succ])
    (first | (refine wpAnyH_take (i := 5) (v := undef) rfl (by kernel_rfl) (by kernel_rfl) (by kernel_rfl) (fun _ _ _ h => h) (Or.inr ⟨rfl, rfl⟩) (by assumption) ?_) | (refine wpAnyH_take (i := 5) (v := ?_) rfl (by kernel_rfl) (by kernel_rfl) (by kernel_rfl) (fun _ _ _ h => h) (Or.inl ⟨rfl, ?_⟩) (by assumption) ?_; rotate_left 1; · (intro w hSw; (try dsimp only at hSw); go_simp; (try with_reducible rfl)))); (try simp only [Act.put, List.getElem_toArray, List.getElem_cons_zero, List.getElem_cons_succ, List.setIfInBounds_toArray, List.set_cons_zero, List.set_cons_succ])
    (first | (refine wpAnyH_take (i := 6) (v := undef) rfl (by kernel_rfl) (by kernel_rfl) (by kernel_rfl) (fun _ _ _ h => h) (Or.inr ⟨rfl, rfl⟩) (by assumption) ?_) | (refine wpAnyH_take (i := 6) (v := ?_) rfl (by kernel_rfl) (by kernel_rfl) (by kernel_rfl) (fun _ _ _ h => h) (Or.inl ⟨rfl, ?_⟩) (by assumption) ?_; rotate_left 1; · (intro w hSw; (try dsimp only at hSw); go_simp; (try with_reducible rfl)))); (try simp only [Act.put, List.getElem_toArray, List.getElem_cons_zero, List.getElem_cons_succ, List.setIfInBounds_toArray, List.set_cons_zero, List.set_cons_succ])
    (first | (refine wpAnyH_take (i := 7) (v := undef) rfl (by kernel_rfl) (by kernel_rfl) (by kernel_rfl) (fun _ _ _ h => h) (Or.inr ⟨rfl, rfl⟩) (by assumption) ?_) | (refine wpAnyH_take (i := 7) (v := ?_) rfl (by kernel_rfl) (by kernel_rfl) (by kernel_rfl) (fun _ _ _ h => h) (Or.inl ⟨rfl, ?_⟩) (by assumption) ?_; rotate_left 1; · (intro w hSw; (try dsimp only at hSw); go_simp; (try with_reducible rfl)))); (try simp only [Act.put, List.getElem_toArray, List.getElem_cons_zero, List.getElem_cons_succ, List.setIfInBounds_toArray, List.set_cons_zero, List.set_cons_succ])
    (first | (refine wpAnyH_take (i := 8) (v := undef) rfl (by kernel_rfl) (by kernel_rfl) (by kernel_rfl) (fun _ _ _ h => h) (Or.inr ⟨rfl, rfl⟩) (by assumption) ?_) | (refine wpAnyH_take (i := 8) (v := ?_) rfl (by kernel_rfl) (by kernel_rfl) (by kernel_rfl) (fun _ _ _ h => h) (Or.inl ⟨rfl, ?_⟩) (by assumption) ?_; rotate_left 1; · (intro w hSw; (try dsimp only at hSw); go_simp; (try with_reducible rfl)))); (try simp only [Act.put, List.getElem_toArray, List.getElem_cons_zero, List.getElem_cons_succ, List.setIfInBounds_toArray, List.set_cons_zero, List.set_cons_succ])
    (first | (refine wpAnyH_take (i := 9) (v := undef) rfl (by kernel_rfl) (by kernel_rfl) (by kernel_rfl) (fun _ _ _ h => h) (Or.inr ⟨rfl, rfl⟩) (by assumption) ?_) | (refine wpAnyH_take (i := 9) (v := ?_) rfl (by kernel_rfl) (by kernel_rfl) (by kernel_rfl) (fun _ _ _ h => h) (Or.inl ⟨rfl, ?_⟩) (by assumption) ?_; rotate_left 1; · (intro w hSw; (try dsimp only at hSw); go_simp; (try with_reducible rfl)))); (try simp only [Act.put, List.getElem_toArray, List.getElem_cons_zero, List.getElem_cons_succ, List.setIfInBounds_toArray, List.set_cons_zero, List.set_cons_succ])
    refine wpAnyH_ready (rs := [4]) (by kernel_rfl) (by simp) ?_
    refine AllReadyH.cons rfl (fun K hK => ?_) AllReadyH.nil
    go_simp
    have hd := h2.turn0 (Turn.refl w2 none).drew
    refine (replace_any hd.p fl A1 n c1 w2.heap.size b ho1.rd.drew (Nat.le_refl _) hn hOA).mono ?_
    rintro e w3 ⟨rfl, s3⟩
    obtain ⟨R3, h3⟩ := hd.stp s3
    have b3 := hb5.drew.chg s3.1 nR
    refine hK.out _ _ ⟨b3.ats (j := 1) (v := .int .i64 fl) rfl, b3.ats (j := 3) (v := .slice A n c) rfl⟩ (fun hHeld => ?_); clear hK K; (try simp only [Act.put, List.getElem_toArray, List.getElem_cons_zero, List.getElem_cons_succ, List.setIfInBounds_toArray, List.set_cons_zero, List.set_cons_succ])
    refine wpAnyH_ready (rs := [10]) (by kernel_rfl) (by simp) ?_
    refine AllReadyH.cons rfl (fun K hK => ?_) AllReadyH.nil
    go_simp
    refine (rreplace_any h3.q fl A n c B b (hr.turn0 h3.tw hB) (Nat.le_trans hB h3.tw.size) hn (hAT T h3.t0)).mono ?_
    rintro e w4 ⟨rfl, s4⟩
    obtain ⟨T4, h4⟩ := h3.stq s4
    have b4 := b3.chg s4.1 nT
    refine hK.out _ _ ⟨b4.ats (j := 1) (v := .int .i64 fl) rfl, b4.ats (j := 3) (v := .slice A n c) rfl⟩ (fun hHeld => ?_); clear hK K; (try simp only [Act.put, List.getElem_toArray, List.getElem_cons_zero, List.getElem_cons_succ, List.setIfInBounds_toArray, List.set_cons_zero, List.set_cons_succ])
    (first | (refine wpAnyH_take (i := 11) (v := undef) rfl (by kernel_rfl) (by kernel_rfl) (by kernel_rfl) (fun _ _ _ h => h) (Or.inr ⟨rfl, rfl⟩) (by assumption) ?_) | (refine wpAnyH_take (i := 11) (v := ?_) rfl (by kernel_rfl) (by kernel_rfl) (by kernel_rfl) (fun _ _ _ h => h) (Or.inl ⟨rfl, ?_⟩) (by assumption) ?_; rotate_left 1; · (intro w hSw; (try dsimp only at hSw); go_simp; (try with_reducible rfl)))); (try simp only [Act.put, List.getElem_toArray, List.getElem_cons_zero, List.getElem_cons_succ, List.setIfInBounds_toArray, List.set_cons_zero, List.set_cons_succ])
    (first | (refine wpAnyH_take (i := 12) (v := undef) rfl (by kernel_rfl) (by kernel_rfl) (by kernel_rfl) (fun _ _ _ h => h) (Or.inr ⟨rfl, rfl⟩) (by assumption) ?_) | (refine wpAnyH_take (i := 12) (v := ?_) rfl (by kernel_rfl) (by kernel_rfl) (by kernel_rfl) (fun _ _ _ h => h) (Or.inl ⟨rfl, ?_⟩) (by assumption) ?_; rotate_left 1; · (intro w hSw; (try dsimp only at hSw); go_simp; (try with_reducible rfl)))); (try simp only [Act.put, List.getElem_toArray, List.getElem_cons_zero, List.getElem_cons_succ, List.setIfInBounds_toArray, List.set_cons_zero, List.set_cons_succ])
    refine wpAnyH_done (by kernel_rfl) ?_ _
    refine NoPanic.normal ?_
    clear hHeld
    go_wp2
    go_ret
    exact ⟨rfl, R3, T4, by rw [E.out]; exact h4⟩
  by_cases q2 : kd = 2
  · subst q2
    have e : D.act 2 fl N b = D.sy fl := rfl
    have E := hid e
    clear e
    go_wp2
    refine wp_region_noPanic ?_
    refine wp_region_held_drew (S := (fun W => W.cell? ⟨g5, 1, none⟩ = some (.int .i64 fl) ∧ W.cell? ⟨g5, 3, none⟩ = some (.slice A n c))) (by kernel_rfl) (⟨c51, c53⟩) (fun hHeld => ?_)
    (first | (refine wpAnyH_take (i := 0) (v := undef) rfl (by kernel_rfl) (by kernel_rfl) (by kernel_rfl) (fun _ _ _ h => h) (Or.inr ⟨rfl, rfl⟩) (by assumption) ?_) | (refine wpAnyH_take (i := 0) (v := ?_) rfl (by kernel_rfl) (by kernel_rfl) (by kernel_rfl) (fun _ _ _ h => h) (Or.inl ⟨rfl, ?_⟩) (by assumption) ?_; rotate_left 1; · (intro w hSw; (try dsimp only at hSw); go_simp; (try with_reducible rfl)))); (try simp only [Act.put, List.getElem_toArray, List.getElem_cons_zero, List.getElem_cons_succ, List.setIfInBounds_toArray, List.set_cons_zero, List.set_cons_succ])
    (first | (refine wpAnyH_take (i := 1) (v := undef) rfl (by kernel_rfl) (by kernel_rfl) (by kernel_rfl) (fun _ _ _ h => h) (Or.inr ⟨rfl, rfl⟩) (by assumption) ?_) | (refine wpAnyH_take (i := 1) (v := ?_) rfl (by kernel_rfl) (by kernel_rfl) (by kernel_rfl) (fun _ _ _ h => h) (Or.inl ⟨rfl, ?_⟩) (by assumption) ?_; rotate_left 1; · (intro w hSw; (try dsimp only at hSw); go_simp; (try with_reducible rfl)))); (try simp only [Act.put, List.getElem_toArray, List.getElem_cons_zero, List.getElem_cons_succ, List.setIfInBounds_toArray, List.set_cons_zero, List.set_cons_succ])
    (first | (refine wpAnyH_take (i := 2) (v := undef) rfl (by kernel_rfl) (by kernel_rfl) (by kernel_rfl) (fun _ _ _ h => h) (Or.inr ⟨rfl, rfl⟩) (by assumption) ?_) | (refine wpAnyH_take (i := 2) (v := ?_) rfl (by kernel_rfl) (by kernel_rfl) (by kernel_rfl) (fun _ _ _ h => h) (Or.inl ⟨rfl, ?_⟩) (by assumption) ?_; rotate_left 1; · (intro w hSw; (try dsimp only at hSw); go_simp; (try with_reducible rfl)))); (try simp only [Act.put, List.getElem_toArray, List.getElem_cons_zero, List.getElem_cons_succ, List.setIfInBounds_toArray, List.set_cons_zero, List.set_cons_succ])
    (first | (refine wpAnyH_take (i := 4) (v := undef) rfl (by kernel_rfl) (by kernel_rfl) (by kernel_rfl) (fun _ _ _ h => h) (Or.inr ⟨rfl, rfl⟩) (by assumption) ?_) | (refine wpAnyH_take (i := 4) (v := ?_) rfl (by kernel_rfl) (by kernel_rfl) (by kernel_rfl) (fun _ _ _ h => h) (Or.inl ⟨rfl, ?_⟩) (by assumption) ?_; rotate_left 1; · (intro w hSw; (try dsimp only at hSw); go_simp; (try with_reducible rfl)))); (try simp only [Act.put, List.getElem_toArray, List.getElem_cons_zero, List.getElem_cons_succ, List.setIfInBounds_toArray, List.set_cons_zero, List.set_cons_succ])
    (first | (refine wpAnyH_take (i := 5) (v := undef) rfl (by kernel_rfl) (by kernel_rfl) (by kernel_rfl) (fun _ _ _ h => h) (Or.inr ⟨rfl, rfl⟩) (by assumption) ?_) | (refine wpAnyH_take (i := 5) (v := ?_) rfl (by kernel_rfl) (by kernel_rfl) (by kernel_rfl) (fun _ _ _ h => h) (Or.inl ⟨rfl, ?_⟩) (by assumption) ?_; rotate_left 1; · (intro w hSw; (try dsimp only at hSw); go_simp; (try with_reducible rfl)))); (try simp only [Act.put, List.getElem_toArray, List.getElem_cons_zero, List.getElem_cons_succ, List.setIfInBounds_toArray, List.set_cons_zero, List.set_cons_succ])
    (first | (refine wpAnyH_take (i := 6) (v := undef) rfl (by kernel_rfl) (by kernel_rfl) (by kernel_rfl) (fun _ _ _ h => h) (Or.inr ⟨rfl, rfl⟩) (by assumption) ?_) | (refine wpAnyH_take (i := 6) (v := ?_) rfl (by kernel_rfl) (by kernel_rfl) (by kernel_rfl) (fun _ _ _ h => h) (Or.inl ⟨rfl, ?_⟩) (by assumption) ?_; rotate_left 1; · (intro w hSw; (try dsimp only at hSw); go_simp; (try with_reducible rfl)))); (try simp only [Act.put, List.getElem_toArray, List.getElem_cons_zero, List.getElem_cons_succ, List.setIfInBounds_toArray, List.set_cons_zero, List.set_cons_succ])
    refine wpAnyH_ready (rs := [3]) (by kernel_rfl) (by simp) ?_
    refine AllReadyH.cons rfl (fun K hK => ?_) AllReadyH.nil
    go_simp
    have hd := h2.turn0 (Turn.refl w2 none).drew
    refine (sync_any hd.p fl).mono ?_
    rintro e w3 ⟨rfl, s3⟩
    obtain ⟨R3, h3⟩ := hd.stp s3
    have b3 := hb5.drew.chg s3.1 nR
    refine hK.out _ _ ⟨b3.ats (j := 1) (v := .int .i64 fl) rfl, b3.ats (j := 3) (v := .slice A n c) rfl⟩ (fun hHeld => ?_); clear hK K; (try simp only [Act.put, List.getElem_toArray, List.getElem_cons_zero, List.getElem_cons_succ, List.setIfInBounds_toArray, List.set_cons_zero, List.set_cons_succ])
    refine wpAnyH_ready (rs := [7]) (by kernel_rfl) (by simp) ?_
    refine AllReadyH.cons rfl (fun K hK => ?_) AllReadyH.nil
    go_simp
    refine (rsync_any h3.q fl).mono ?_
    rintro e w4 ⟨rfl, s4⟩
    obtain ⟨T4, h4⟩ := h3.stq s4
    have b4 := b3.chg s4.1 nT
    refine hK.out _ _ ⟨b4.ats (j := 1) (v := .int .i64 fl) rfl, b4.ats (j := 3) (v := .slice A n c) rfl⟩ (fun hHeld => ?_); clear hK K; (try simp only [Act.put, List.getElem_toArray, List.getElem_cons_zero, List.getElem_cons_succ, List.setIfInBounds_toArray, List.set_cons_zero, List.set_cons_succ])
    (first | (refine wpAnyH_take (i := 8) (v := undef) rfl (by kernel_rfl) (by kernel_rfl) (by kernel_rfl) (fun _ _ _ h => h) (Or.inr ⟨rfl, rfl⟩) (by assumption) ?_) | (refine wpAnyH_take (i := 8) (v := ?_) rfl (by kernel_rfl) (by kernel_rfl) (by kernel_rfl) (fun _ _ _ h => h) (Or.inl ⟨rfl, ?_⟩) (by assumption) ?_; rotate_left 1; · (intro w hSw; (try dsimp only at hSw); go_simp; (try with_reducible rfl)))); (try simp only [Act.put, List.getElem_toArray, List.getElem_cons_zero, List.getElem_cons_succ, List.setIfInBounds_toArray, List.set_cons_zero, List.set_cons_succ])
    (first | (refine wpAnyH_take (i := 9) (v := undef) rfl (by kernel_rfl) (by kernel_rfl) (by kernel_rfl) (fun _ _ _ h => h) (Or.inr ⟨rfl, rfl⟩) (by assumption) ?_) | (refine wpAnyH_take (i := 9) (v := ?_) rfl (by kernel_rfl) (by kernel_rfl) (by kernel_rfl) (fun _ _ _ h => h) (Or.inl ⟨rfl, ?_⟩) (by assumption) ?_; rotate_left 1; · (intro w hSw; (try dsimp only at hSw); go_simp; (try with_reducible rfl)))); (try simp only [Act.put, List.getElem_toArray, List.getElem_cons_zero, List.getElem_cons_succ, List.setIfInBounds_toArray, List.set_cons_zero, List.set_cons_succ])
    refine wpAnyH_done (by kernel_rfl) ?_ _
    refine NoPanic.normal ?_
    clear hHeld
    go_wp2
    go_ret
    exact ⟨rfl, R3, T4, by rw [E.out]; exact h4⟩
  by_cases q3 : kd = 3
  · subst q3
    have e : D.act 3 fl N b = D := rfl
    have E := hid e
    clear e
    cases hl : D.rd fl with
    | nil =>
      have ra := read_pk h2.p fl
      have rb := fun W (hW : Turn w2 W none) => rread_rk (h2.turn0 hW).q fl
      rw [hl] at ra rb
      rw [List.length_nil] at ra rb
      go_wp2_with (first
        | (go_at_call 18; refine ra.mono ?_; rintro e w3 ⟨A3, c3, rfl, ho3, t3⟩; have b3 := hb5.turn0 t3; have d51 := b3.ats (j := 1) (v := .int .i64 fl) rfl)
        | (go_at_call 26; refine (rb _ t3).mono ?_; rintro e w4 ⟨A4, c4, rfl, ho4, t4⟩; have x4 := str_run w4 (c := c3) (ho3.turn0 t4).rd; have y4 := str_run w4 (c := c4) ho4.rd))
      go_ret
      exact ⟨rfl, R, T, by rw [E.out]; exact (h2.turn0 t3).turn0 t4⟩
    | cons b0 l =>
      have ra := read_pk h2.p fl
      have rb := fun W (hW : Turn w2 W none) => rread_rk (h2.turn0 hW).q fl
      rw [hl] at ra rb
      rw [List.length_cons] at ra rb
      have hz0 : (vbs (b0 :: l))[0]? = some (.int .u8 (b0.toNat : Int)) := rfl
      go_wp2_with (first
        | (go_at_call 18; refine ra.mono ?_; rintro e w3 ⟨A3, c3, rfl, ho3, t3⟩; obtain ⟨gx, rfl, lx, mx⟩ := ho3.head (Nat.succ_pos _); have b3 := hb5.turn0 t3; have d51 := b3.ats (j := 1) (v := .int .i64 fl) rfl)
        | (go_at_call 26; refine (rb _ t3).mono ?_; rintro e w4 ⟨A4, c4, rfl, ho4, t4⟩; obtain ⟨gy, rfl, ly, my⟩ := ho4.head (Nat.succ_pos _); have ho3 := ho3.turn0 t4; have hxc : w4.cell? ⟨gx, 0, none⟩ = some (.int .u8 (b0.toNat : Int)) := ho3.cell (i := 0) (by omega); have hxf := ho3.frozen 0; have hyc : w4.cell? ⟨gy, 0, none⟩ = some (.int .u8 (b0.toNat : Int)) := ho4.cell (i := 0) (by omega); have hyf := ho4.frozen 0; have hne : gx ≠ gy := (by omega); have o3 := ho3.store 0 (.int .u8 (((b0.toNat : Int) + 1) % 256)); have p4 := ho4.turn (Blk.setTurn w4 gx 0 (.int .u8 (((b0.toNat : Int) + 1) % 256))) (.inr (fun e => hne (by injection e with e; exact e.symm))); have x6 := o3.turn (Blk.setTurn (w4.setCell ⟨gx, 0, none⟩ (.int .u8 (((b0.toNat : Int) + 1) % 256))) gy 0 (.int .u8 (((b0.toNat : Int) + 1) % 256))) (.inr (fun e => hne (by injection e))); have y6 := p4.store 0 (.int .u8 (((b0.toNat : Int) + 1) % 256)); have e8 : (vbs (b0 :: l)).set 0 (.int .u8 (((b0.toNat : Int) + 1) % 256)) = vbs ((b0 + 1) :: l) := (by rw [← u8_add]; rfl); rw [e8] at x6 y6; have sx := str_run _ (c := c3) x6.rd; have sy := str_run _ (c := c4) y6.rd; have hyc2 := (p4.cell (i := 0) (by omega)).trans hz0; have hyf2 := p4.frozen 0))
      go_ret
      have t6 : Turn w3 ((w4.setCell ⟨gx, 0, none⟩ (.int .u8 (((b0.toNat : Int) + 1) % 256))).setCell ⟨gy, 0, none⟩ (.int .u8 (((b0.toNat : Int) + 1) % 256))) (some gx) := ((t4.any _).trans (Blk.setTurn w4 gx 0 _)).new (Blk.setTurn _ gy 0 _) (fun k e => by injection e with e; omega)
      have t7 : Turn w2 _ none := t3.new t6 (fun k e => by injection e with e; omega)
      exact ⟨rfl, R, T, by rw [E.out]; exact h2.turn0 t7⟩
  by_cases q4 : kd = 4
  · subst q4
    have e : D.act 4 fl N b = D.arm N := rfl
    have E := hid e
    clear e
    go_wp2_with (first
      | (go_at_call 21; refine (arm_stp h2.p N hN1).mono ?_; rintro e w3 ⟨rfl, s3⟩; obtain ⟨R3, h3⟩ := h2.stp s3; have b3 := hb5.chg s3.1 nR; have d52 := b3.ats (j := 2) (v := .int .i64 N) rfl)
      | (go_at_call 22; refine (rarm_stq h3.q N hN1).mono ?_; rintro e w4 ⟨rfl, s4⟩; obtain ⟨T4, h4⟩ := h3.stq s4))
    go_ret
    exact ⟨rfl, R3, T4, by rw [E.out]; exact h4⟩
  by_cases q5 : kd = 5
  · subst q5
    have e : D.act 5 fl N b = D.crash N b := rfl
    have E := hid e
    clear e
    go_wp2_with (first
      | (go_at_call 17; refine (crash_any h2.p N hN0 hN1 A1 n c1 w2.heap.size b ho1.rd (Nat.le_refl _) hn2 ho1.cap.1 ho1.cap.2 hOA).mono ?_; rintro e w3 ⟨rfl, s3⟩; obtain ⟨R3, h3⟩ := h2.stp s3; have b3 := hb5.chg s3.1 nR; have d52 := b3.ats (j := 2) (v := .int .i64 N) rfl; have d53 := b3.ats (j := 3) (v := .slice A n c) rfl)
      | (go_at_call 27; refine (rcrash_any h3.q N hN0 hN1 A n c B b (hr.turn0 h3.tw hB) (Nat.le_trans hB h3.tw.size) hn2 (hAT T h3.t0)).mono ?_; rintro e w4 ⟨rfl, s4⟩; obtain ⟨T4, h4⟩ := h3.stq s4))
    go_ret
    exact ⟨rfl, R3, T4, by rw [E.out]; exact h4⟩
  have e : D.act kd fl N b = D := by simp only [Dsk.act, if_neg q0, if_neg q1, if_neg q2, if_neg q4, if_neg q5]
  have E := hid e
  clear e
  go_wp2
  go_ret
  exact ⟨rfl, R, T, by rw [E.out]; exact h2⟩
end Go.Proofs.Ytogajpiefegdeaa
