/-
  Layer 14: the walk of DiskFast.
-/
import Derived.Test.YtogajpiefegdeaaDkY
namespace Go.Proofs.Ytogajpiefegdeaa
set_option linter.unusedSimpArgs false
set_option linter.unusedVariables false
open Go.RowKit

set_option maxRecDepth 100000 in
set_option maxHeartbeats 3200000 in
theorem begins_any (A : Option Addr) (n c : Nat) (x : List UInt8) (A2 : Option Addr) (n2 c2 : Nat) (y : List UInt8) (B B2 : Nat) (w : World) (hr : Rd w B 1 A n (vbs x)) (hr2 : Rd w B2 1 A2 n2 (vbs y)) (hB : B ≤ w.heap.size) (hB2 : B2 ≤ w.heap.size) (hnc : n ≤ c) (hc : c ≤ maxLen) (hp : y <+: x) :
    Calls Try.prog 19 #[.slice A n c, .slice A2 n2 c2] w fun e w' => e = .returned (.bool true) ∧ Turn w w' none := by
  have l1 := hr.len
  have l2 := hr2.len
  rw [vbs_len] at l1 l2
  have hle := hp.length_le
  have htk : x.take n2 = y := by
    obtain ⟨z, hz⟩ := hp
    rw [← hz, ← l2, List.take_left]
  have hn : n2 ≤ n := by omega
  have hni : (n2 : Int) ≤ (n : Int) := by omega
  have hcx : n2 ≤ c := by omega
  have hc2 : c ≤ 9223372036854775807 := hc
  have C1 : ∀ W, Turn (World.drew w) W none → (convert 28 9 (.slice A n2 c)).run Try.prog W = .ok (.string (txt y)) W := fun W h => by
    have h3 := (hr.takeB hn).drew.turn0 h hB
    rw [htk] at h3
    exact str_run W h3
  have C2 : ∀ W, Turn (World.drew w) W none → (convert 28 9 (.slice A2 n2 c2)).run Try.prog W = .ok (.string (txt y)) W := fun W h => str_run W (hr2.drew.turn0 h hB2)
  clear l1 l2 hle htk
  go_enter Try.func19, Try.ntmps19
  go_wp2
  refine wp_region_noPanic ?_
  refine wp_region_held_drew (S := fun W => Turn w W none) (by kernel_rfl) (Turn.refl _ none).drew (fun hHeld => ?_)
  refine wpAnyH_more (S' := fun W => Turn (World.drew w) W none) (fun W h => (Turn.refl _ none).drew.trans h) _ _ _ _ ?_
  clear hHeld
  have hHeld : (fun W => Turn (World.drew w) W none) (World.drew w) := Turn.refl _ none
  (first | (refine wpAnyH_take (i := 0) (v := undef) rfl (by kernel_rfl) (by kernel_rfl) (by kernel_rfl) (fun _ _ _ h => h) (Or.inr ⟨rfl, rfl⟩) (by assumption) ?_) | (refine wpAnyH_take (i := 0) (v := ?_) rfl (by kernel_rfl) (by kernel_rfl) (by kernel_rfl) (fun _ _ _ h => h) (Or.inl ⟨rfl, ?_⟩) (by assumption) ?_; rotate_left 1; · (intro w hSw; (try dsimp only at hSw); go_simp; (try with_reducible rfl)))); (try simp only [Act.put, List.getElem_toArray, List.getElem_cons_zero, List.getElem_cons_succ, List.setIfInBounds_toArray, List.set_cons_zero, List.set_cons_succ])
  (first | (refine wpAnyH_take (i := 1) (v := undef) rfl (by kernel_rfl) (by kernel_rfl) (by kernel_rfl) (fun _ _ _ h => h) (Or.inr ⟨rfl, rfl⟩) (by assumption) ?_) | (refine wpAnyH_take (i := 1) (v := ?_) rfl (by kernel_rfl) (by kernel_rfl) (by kernel_rfl) (fun _ _ _ h => h) (Or.inl ⟨rfl, ?_⟩) (by assumption) ?_; rotate_left 1; · (intro w hSw; (try dsimp only at hSw); go_simp; (try with_reducible rfl)))); (try simp only [Act.put, List.getElem_toArray, List.getElem_cons_zero, List.getElem_cons_succ, List.setIfInBounds_toArray, List.set_cons_zero, List.set_cons_succ])
  (first | (refine wpAnyH_take (i := 2) (v := undef) rfl (by kernel_rfl) (by kernel_rfl) (by kernel_rfl) (fun _ _ _ h => h) (Or.inr ⟨rfl, rfl⟩) (by assumption) ?_) | (refine wpAnyH_take (i := 2) (v := ?_) rfl (by kernel_rfl) (by kernel_rfl) (by kernel_rfl) (fun _ _ _ h => h) (Or.inl ⟨rfl, ?_⟩) (by assumption) ?_; rotate_left 1; · (intro w hSw; (try dsimp only at hSw); go_simp; (try with_reducible rfl)))); (try simp only [Act.put, List.getElem_toArray, List.getElem_cons_zero, List.getElem_cons_succ, List.setIfInBounds_toArray, List.set_cons_zero, List.set_cons_succ])
  (first | (refine wpAnyH_take (i := 3) (v := undef) rfl (by kernel_rfl) (by kernel_rfl) (by kernel_rfl) (fun _ _ _ h => h) (Or.inr ⟨rfl, rfl⟩) (by assumption) ?_) | (refine wpAnyH_take (i := 3) (v := ?_) rfl (by kernel_rfl) (by kernel_rfl) (by kernel_rfl) (fun _ _ _ h => h) (Or.inl ⟨rfl, ?_⟩) (by assumption) ?_; rotate_left 1; · (intro w hSw; (try dsimp only at hSw); go_simp; (try with_reducible rfl)))); (try simp only [Act.put, List.getElem_toArray, List.getElem_cons_zero, List.getElem_cons_succ, List.setIfInBounds_toArray, List.set_cons_zero, List.set_cons_succ])
  (first | (refine wpAnyH_take (i := 4) (v := undef) rfl (by kernel_rfl) (by kernel_rfl) (by kernel_rfl) (fun _ _ _ h => h) (Or.inr ⟨rfl, rfl⟩) (by assumption) ?_) | (refine wpAnyH_take (i := 4) (v := ?_) rfl (by kernel_rfl) (by kernel_rfl) (by kernel_rfl) (fun _ _ _ h => h) (Or.inl ⟨rfl, ?_⟩) (by assumption) ?_; rotate_left 1; · (intro w hSw; (try dsimp only at hSw); go_simp; (try with_reducible rfl)))); (try simp only [Act.put, List.getElem_toArray, List.getElem_cons_zero, List.getElem_cons_succ, List.setIfInBounds_toArray, List.set_cons_zero, List.set_cons_succ])
  (first | (refine wpAnyH_take (i := 5) (v := undef) rfl (by kernel_rfl) (by kernel_rfl) (by kernel_rfl) (fun _ _ _ h => h) (Or.inr ⟨rfl, rfl⟩) (by assumption) ?_) | (refine wpAnyH_take (i := 5) (v := ?_) rfl (by kernel_rfl) (by kernel_rfl) (by kernel_rfl) (fun _ _ _ h => h) (Or.inl ⟨rfl, ?_⟩) (by assumption) ?_; rotate_left 1; · (intro w hSw; (try dsimp only at hSw); go_simp; (try with_reducible rfl)))); (try simp only [Act.put, List.getElem_toArray, List.getElem_cons_zero, List.getElem_cons_succ, List.setIfInBounds_toArray, List.set_cons_zero, List.set_cons_succ])
  (first | (refine wpAnyH_take (i := 6) (v := undef) rfl (by kernel_rfl) (by kernel_rfl) (by kernel_rfl) (fun _ _ _ h => h) (Or.inr ⟨rfl, rfl⟩) (by assumption) ?_) | (refine wpAnyH_take (i := 6) (v := ?_) rfl (by kernel_rfl) (by kernel_rfl) (by kernel_rfl) (fun _ _ _ h => h) (Or.inl ⟨rfl, ?_⟩) (by assumption) ?_; rotate_left 1; · (intro w hSw; (try dsimp only at hSw); go_simp; (try with_reducible rfl)))); (try simp only [Act.put, List.getElem_toArray, List.getElem_cons_zero, List.getElem_cons_succ, List.setIfInBounds_toArray, List.set_cons_zero, List.set_cons_succ])
  (first | (refine wpAnyH_take (i := 7) (v := undef) rfl (by kernel_rfl) (by kernel_rfl) (by kernel_rfl) (fun _ _ _ h => h) (Or.inr ⟨rfl, rfl⟩) (by assumption) ?_) | (refine wpAnyH_take (i := 7) (v := ?_) rfl (by kernel_rfl) (by kernel_rfl) (by kernel_rfl) (fun _ _ _ h => h) (Or.inl ⟨rfl, ?_⟩) (by assumption) ?_; rotate_left 1; · (intro w hSw; (try dsimp only at hSw); go_simp; (try with_reducible rfl)))); (try simp only [Act.put, List.getElem_toArray, List.getElem_cons_zero, List.getElem_cons_succ, List.setIfInBounds_toArray, List.set_cons_zero, List.set_cons_succ])
  (first | (refine wpAnyH_take (i := 8) (v := undef) rfl (by kernel_rfl) (by kernel_rfl) (by kernel_rfl) (fun _ _ _ h => h) (Or.inr ⟨rfl, rfl⟩) (by assumption) ?_) | (refine wpAnyH_take (i := 8) (v := ?_) rfl (by kernel_rfl) (by kernel_rfl) (by kernel_rfl) (fun _ _ _ h => h) (Or.inl ⟨rfl, ?_⟩) (by assumption) ?_; rotate_left 1; · (intro w hSw; (try dsimp only at hSw); go_simp; (try with_reducible rfl)))); (try simp only [Act.put, List.getElem_toArray, List.getElem_cons_zero, List.getElem_cons_succ, List.setIfInBounds_toArray, List.set_cons_zero, List.set_cons_succ])
  (first | (refine wpAnyH_take (i := 9) (v := undef) rfl (by kernel_rfl) (by kernel_rfl) (by kernel_rfl) (fun _ _ _ h => h) (Or.inr ⟨rfl, rfl⟩) (by assumption) ?_) | (refine wpAnyH_take (i := 9) (v := ?_) rfl (by kernel_rfl) (by kernel_rfl) (by kernel_rfl) (fun _ _ _ h => h) (Or.inl ⟨rfl, ?_⟩) (by assumption) ?_; rotate_left 1; · (intro w hSw; (try dsimp only at hSw); go_simp; (try with_reducible rfl)))); (try simp only [Act.put, List.getElem_toArray, List.getElem_cons_zero, List.getElem_cons_succ, List.setIfInBounds_toArray, List.set_cons_zero, List.set_cons_succ])
  (first | (refine wpAnyH_take (i := 10) (v := undef) rfl (by kernel_rfl) (by kernel_rfl) (by kernel_rfl) (fun _ _ _ h => h) (Or.inr ⟨rfl, rfl⟩) (by assumption) ?_) | (refine wpAnyH_take (i := 10) (v := ?_) rfl (by kernel_rfl) (by kernel_rfl) (by kernel_rfl) (fun _ _ _ h => h) (Or.inl ⟨rfl, ?_⟩) (by assumption) ?_; rotate_left 1; · (intro w hSw; (try dsimp only at hSw); go_simp; (try with_reducible rfl)))); (try simp only [Act.put, List.getElem_toArray, List.getElem_cons_zero, List.getElem_cons_succ, List.setIfInBounds_toArray, List.set_cons_zero, List.set_cons_succ])
  (first | (refine wpAnyH_take (i := 11) (v := undef) rfl (by kernel_rfl) (by kernel_rfl) (by kernel_rfl) (fun _ _ _ h => h) (Or.inr ⟨rfl, rfl⟩) (by assumption) ?_) | (refine wpAnyH_take (i := 11) (v := ?_) rfl (by kernel_rfl) (by kernel_rfl) (by kernel_rfl) (fun _ _ _ h => h) (Or.inl ⟨rfl, ?_⟩) (by assumption) ?_; rotate_left 1; · (intro w hSw; (try dsimp only at hSw); go_simp; (try with_reducible rfl)))); (try simp only [Act.put, List.getElem_toArray, List.getElem_cons_zero, List.getElem_cons_succ, List.setIfInBounds_toArray, List.set_cons_zero, List.set_cons_succ])
  (first | (refine wpAnyH_take (i := 12) (v := undef) rfl (by kernel_rfl) (by kernel_rfl) (by kernel_rfl) (fun _ _ _ h => h) (Or.inr ⟨rfl, rfl⟩) (by assumption) ?_) | (refine wpAnyH_take (i := 12) (v := ?_) rfl (by kernel_rfl) (by kernel_rfl) (by kernel_rfl) (fun _ _ _ h => h) (Or.inl ⟨rfl, ?_⟩) (by assumption) ?_; rotate_left 1; · (intro w hSw; (try dsimp only at hSw); go_simp; (try with_reducible rfl)))); (try simp only [Act.put, List.getElem_toArray, List.getElem_cons_zero, List.getElem_cons_succ, List.setIfInBounds_toArray, List.set_cons_zero, List.set_cons_succ])
  (first | (refine wpAnyH_take (i := 13) (v := undef) rfl (by kernel_rfl) (by kernel_rfl) (by kernel_rfl) (fun _ _ _ h => h) (Or.inr ⟨rfl, rfl⟩) (by assumption) ?_) | (refine wpAnyH_take (i := 13) (v := ?_) rfl (by kernel_rfl) (by kernel_rfl) (by kernel_rfl) (fun _ _ _ h => h) (Or.inl ⟨rfl, ?_⟩) (by assumption) ?_; rotate_left 1; · (intro w hSw; (try dsimp only at hSw); go_simp; (try with_reducible rfl)))); (try simp only [Act.put, List.getElem_toArray, List.getElem_cons_zero, List.getElem_cons_succ, List.setIfInBounds_toArray, List.set_cons_zero, List.set_cons_succ])
  (first | (refine wpAnyH_take (i := 14) (v := undef) rfl (by kernel_rfl) (by kernel_rfl) (by kernel_rfl) (fun _ _ _ h => h) (Or.inr ⟨rfl, rfl⟩) (by assumption) ?_) | (refine wpAnyH_take (i := 14) (v := ?_) rfl (by kernel_rfl) (by kernel_rfl) (by kernel_rfl) (fun _ _ _ h => h) (Or.inl ⟨rfl, ?_⟩) (by assumption) ?_; rotate_left 1; · (intro w hSw; (try dsimp only at hSw); go_simp; (try with_reducible rfl)))); (try simp only [Act.put, List.getElem_toArray, List.getElem_cons_zero, List.getElem_cons_succ, List.setIfInBounds_toArray, List.set_cons_zero, List.set_cons_succ])
  (first | (refine wpAnyH_take (i := 15) (v := undef) rfl (by kernel_rfl) (by kernel_rfl) (by kernel_rfl) (fun _ _ _ h => h) (Or.inr ⟨rfl, rfl⟩) (by assumption) ?_) | (refine wpAnyH_take (i := 15) (v := ?_) rfl (by kernel_rfl) (by kernel_rfl) (by kernel_rfl) (fun _ _ _ h => h) (Or.inl ⟨rfl, ?_⟩) (by assumption) ?_; rotate_left 1; · (intro w hSw; (try dsimp only at hSw); go_simp; (try with_reducible rfl)))); (try simp only [Act.put, List.getElem_toArray, List.getElem_cons_zero, List.getElem_cons_succ, List.setIfInBounds_toArray, List.set_cons_zero, List.set_cons_succ])
  refine wpAnyH_done (by kernel_rfl) ?_ _
  refine NoPanic.normal ?_
  clear hHeld
  go_wp2
  go_ret
  exact ⟨rfl, (Turn.refl w none).drew⟩

/-- A disk that was only written to, in one file. -/
structure Wd (D : Dsk) (j : Nat) (l : List UInt8) : Prop where
  q : Qd D 1048576
  f : D.f j = ⟨[], l, [], false⟩
  o : D.f (1 - j) = stF []
theorem Wd.size {D : Dsk} {j : Nat} {l : List UInt8} (h : Wd D j l) (hj : j < 2) : D.size = l.length := by
  have e : (⟨[], l, [], false⟩ : Fi).all = l := by simp [Fi.all]
  have h1 := h.f
  have h2 := h.o
  obtain rfl | rfl : j = 0 ∨ j = 1 := by omega
  · have h2 : D.f 1 = stF [] := h2
    unfold Dsk.size
    rw [h1, h2, e]; rfl
  · have h2 : D.f 0 = stF [] := h2
    unfold Dsk.size
    rw [h1, h2, e]
    show 0 + _ = _
    omega
theorem Wd.wr {D : Dsk} {j : Nat} {l : List UInt8} (h : Wd D j l) (hj : j < 2) (b : List UInt8) (hb : l.length + b.length < 100000) : D.wErr (j : Int) b = 0 ∧ Wd (D.wr (j : Int) b) j (l ++ b) := by
  have hs := h.size hj
  have hw := h.q.wr hj b (by rw [hs]; omega)
  refine ⟨h.q.wErr hj b (by rw [hs]; omega), ?_⟩
  rw [hw]
  refine ⟨h.q.cnt.put _ _, ?_, ?_⟩
  · rw [put_same, h.f]
  · rw [put_ne _ _ (by omega), Dsk.cnt_f]; exact h.o
theorem newD_wd {j : Nat} (hj : j < 2) : Wd (newD 1048576) j [] := ⟨newD_qd, rfl, rfl⟩
/-- A disk of which such bytes stand fast, and nothing was replaced since. -/
structure Fd (D : Dsk) (j : Nat) (l : List UInt8) : Prop where
  a : D.armed = false
  d : D.dead = false
  f : (D.f j).fa = l
  s : (D.f j).is = false
theorem Wd.sy {D : Dsk} {j : Nat} {l : List UInt8} (h : Wd D j l) (hj : j < 2) : D.cErr (j : Int) = 0 ∧ Fd (D.sy (j : Int)) j l := by
  refine ⟨h.q.cErr hj, ?_⟩
  rw [h.q.sy hj]
  have q2 := h.q.cnt.put j (stF (D.f j).all)
  refine ⟨q2.a, q2.d, ?_, ?_⟩
  · rw [put_same, h.f]; simp [stF, Fi.all]
  · rw [put_same]; rfl
theorem Fd.wr {D : Dsk} {j : Nat} {l : List UInt8} (h : Fd D j l) (b : List UInt8) : Fd (D.wr (j : Int) b) j l := by
  have hg : D.gone = false := by simp [Dsk.gone, h.a, h.d]
  have hc : Fd D.cnt j l := ⟨by rw [D.cnt_armed]; exact h.a, by rw [D.cnt_dead]; exact hg, by rw [D.cnt_f]; exact h.f, by rw [D.cnt_f]; exact h.s⟩
  unfold Dsk.wr
  split
  · refine ⟨hc.a, hc.d, ?_, ?_⟩
    · rw [Int.toNat_natCast, put_same]; exact h.f
    · rw [Int.toNat_natCast, put_same]; exact h.s
  · exact hc
theorem Fd.crash {D : Dsk} {j : Nat} {l : List UInt8} (h : Fd D j l) (hj : j < 2) (m : Int) (t : List UInt8) : (D.crash m t).dErr (j : Int) = 0 ∧ l <+: (D.crash m t).rd (j : Int) := by
  have q4 := crash_qd (L := D.lim) (D := D) rfl m t
  refine ⟨q4.dErr hj, ?_⟩
  rw [q4.rd hj]
  show _ <+: (stF ((D.f j).left m t)).all
  rw [stF_all]
  unfold Fi.left
  rw [if_neg (by rw [h.s]; simp)]
  split
  · rw [h.f]; exact List.prefix_rfl
  · rw [h.f, List.append_assoc]; exact List.prefix_append _ _

theorem writes {w0 w : World} {g : Nat} {R : Nat → Prop} {D : Dsk} (h : Bo w0 w g R D) (j : Nat) {b : List UInt8} (A : Option Addr) (m c base : Nat) (hr : Own w base 5 1 A m c (vbs b)) (hm : m ≤ 140737488355328) (hR : ∀ k, R k → k < base) :
    Calls Try.prog 15 #[.pointer (some ⟨g, 0, none⟩), .int .i64 (j : Int), .slice A m c] w fun e w' => e = .returned (.int .i64 (D.wErr (j : Int) b)) ∧ Chg w w' R ∧ ∃ R', Bo w0 w' g R' (D.wr (j : Int) b) ∧ ∀ k, R' k → R k ∨ w.heap.size ≤ k :=
  (write_any h.p (j : Int) A m c w.heap.size b hr.rd (Nat.le_refl _) hm (fun k e _ hk => by have h1 := (hr.block k e).1; have h2 := hR k hk; omega)).mono fun e w' ⟨h1, h2⟩ => ⟨h1, h2.1, h.stp2 h2⟩

theorem Bo.row {w0 w w' : World} {g : Nat} {R : Nat → Prop} {D : Dsk} (h : Bo w0 w g R D) {row : Option Nat} (ht : Turn w w' row) (hr : ∀ k, row = some k → ¬ R k ∧ w0.heap.size ≤ k) : Bo w0 w' g R D :=
  ⟨h.p.chg (T := fun k => row = some k) (Chg.of ht fun i e => e) fun k hk e => (hr k e).1 hk, h.r0, h.tw.new ht fun k e => (hr k e).2⟩

set_option maxRecDepth 100000 in
set_option maxHeartbeats 12800000 in
theorem fast_walk (A1 : Option Addr) (n1 c1 : Nat) (v1 : List Value) (l1 : List (List UInt8)) (A2 : Option Addr) (n2 c2 : Nat) (v2 : List Value) (l2 : List (List UInt8)) (a : At) (w : World) (r1 : Rw w w.heap.size A1 n1 v1 l1) (r2 : Rw w w.heap.size A2 n2 v2 l2) (hok : a.Ok w w.heap.size)
    (hn1 : n1 ≤ 140737488351232) (hn2 : n2 ≤ 140737488351232) (hx1 : ∀ l ∈ l1, l.length ≤ 140737488351232) (hx2 : ∀ l ∈ l2, l.length ≤ 140737488351232) :
    Calls Try.prog 4 #[.slice A1 n1 c1, .slice A2 n2 c2, .agg a.cs.toArray] w fun e w' => e = .returned (.bool true) ∧ Turn w w' none := by
  obtain ⟨jf, hjf, hbits⟩ := and1 a.f
  have q1 := r1.len
  have q2 := r2.len
  go_enter Try.func4, Try.ntmps4
  go_wp2_with (first
    | (refine wp_bx rfl 30 _ rfl rfl ?_; intro g5 w0 hg5 hb0 ht5)
    | (go_at_call 8; refine (new_bo 1048576 w0).mono ?_; rintro e w1 ⟨g, R1, rfl, h1⟩))
  have hH0 : Own (w1.alloc (.cells #[] 5)) w0.heap.size 5 1 (some ⟨w1.heap.size, 0, none⟩) 0 0 (vbs []) := (Own.made w1 w0.heap.size 5 1 0 #[] h1.tw.size (by decide) rfl)
  go_loopw [8, 9] (fun hv i wr => ∃ (j : Nat) (R : Nat → Prop) (D : Dsk) (H : Option Addr) (hc : Nat), j ≤ n1 ∧ j ≤ 50 ∧ i = .int .i64 (j : Int) ∧ hv = .slice H (l1.take j).flatten.length hc ∧ Bo w0 wr g R D ∧ Hid (Wd D jf (l1.take j).flatten) ∧ Own wr w0.heap.size 5 1 H (l1.take j).flatten.length hc (vbs (l1.take j).flatten) ∧ (∀ k, blk H = some k → ¬ R k) ∧ (l1.take j).flatten.length < 100000) (fun _ i _ => (n1 - intOf i).toNat)
  case atStart =>
    refine ⟨0, R1, newD 1048576, some ⟨w1.heap.size, 0, none⟩, 0, by omega, by omega, rfl, rfl, h1.turn0 ((Turn.refl w1 none).alloc _), hid (newD_wd hjf), hH0, fun k e hk => ?_, by simp⟩
    injection e with e
    have := h1.p.lt hk
    have e : w1.heap.size = k := e
    omega
  case round =>
    obtain ⟨j, R, D, H, hc, hj, hj2, rfl, rfl, h, HW, hH, hdj, hbig⟩ := hrel
    clear h1 hH0
    generalize hF : (l1.take j).flatten = fl at *
    generalize hS : fl.length = S at *
    have HS := hid hS
    have T0 : Turn w wr none := ht5.trans h.tw
    have SS1 : ∀ W, Turn w0 W none → W.cell? ⟨g5, 1, none⟩ = some (.int .i64 a.f) := fun W hW => (hb0.turn0 hW).ats (j := 1) (v := .int .i64 a.f) rfl
    by_cases hjn : j < n1 ∧ j < 50
    · obtain ⟨hjn, hj3⟩ := hjn
      obtain ⟨l, hl8⟩ : ∃ l, l1[j]? = some l := ⟨l1[j]'(by omega), List.getElem?_eq_getElem (by omega)⟩
      obtain ⟨al, m, k, hv, hrl, hmk, hk⟩ := r1.2.2 j l hl8
      obtain ⟨b0, off, rfl, hb0l, hcells⟩ := r1.1.head (by omega)
      have SS2 : ∀ W, Turn w0 W none → W.cell? ⟨b0, off + j, none⟩ = some (.slice al m k) := fun W hW => ((ht5.trans hW).cell (a := ⟨b0, off + j, none⟩) hb0l (by simp)).trans (hcells j _ hv)
      have cl := SS2 wr h.tw
      have hf1 := flat_take hl8
      rw [hF] at hf1
      have hm : l.length = m := by have := hrl.len; rwa [vbs_len] at this
      have hm47 : m ≤ 140737488351232 := by rw [← hm]; exact hx1 l (List.mem_of_getElem? hl8)
      clear hcells
      by_cases hlen : S + m < 100000
      · obtain ⟨Z, hZ⟩ : ∃ Z : Int, (S : Int) + (m : Int) = Z := ⟨_, rfl⟩
        have hleni : Z < 100000 := by omega
        have hwp := HW.out.wr hjf l (by omega)
        obtain ⟨hw0, hw1⟩ := hwp
        have HF := hid hf1
        have HW1 := hid hw1
        have HW0 := hid hw0
        clear hf1 hw0 hw1 HW
        have HM := hid hm
        clear hS hm hF
        have h00 : Own ((World.drew wr).alloc (.cells #[] 5)) wr.heap.size 5 1 (some ⟨wr.heap.size, 0, none⟩) 0 0 [] := Own.made (World.drew wr) _ _ 1 0 #[] (Nat.le_refl _) (by decide) rfl
        have rl6 := (hrl.turn0 T0 (Nat.le_refl _)).drew.alloc T0.size (.cells #[] 5)
        go_wp2
        refine wp_region_noPanic ?_
        refine wp_region_held_drew (S := (fun W => W.cell? ⟨g5, 1, none⟩ = some (.int .i64 a.f) ∧ W.cell? ⟨b0, off + j, none⟩ = some (.slice al m k))) (by kernel_rfl) (⟨SS1 _ h.tw.drew, SS2 _ h.tw.drew⟩) (fun hHeld => ?_)
        (first | (refine wpAnyH_take (i := 0) (v := undef) rfl (by kernel_rfl) (by kernel_rfl) (by kernel_rfl) (fun _ _ _ h => h) (Or.inr ⟨rfl, rfl⟩) (by assumption) ?_) | (refine wpAnyH_take (i := 0) (v := ?_) rfl (by kernel_rfl) (by kernel_rfl) (by kernel_rfl) (fun _ _ _ h => h) (Or.inl ⟨rfl, ?_⟩) (by assumption) ?_; rotate_left 1; · (intro w hSw; (try dsimp only at hSw); go_simp; (try with_reducible rfl)))); (try simp only [Act.put, List.getElem_toArray, List.getElem_cons_zero, List.getElem_cons_succ, List.setIfInBounds_toArray, List.set_cons_zero, List.set_cons_succ])
        (first | (refine wpAnyH_take (i := 1) (v := undef) rfl (by kernel_rfl) (by kernel_rfl) (by kernel_rfl) (fun _ _ _ h => h) (Or.inr ⟨rfl, rfl⟩) (by assumption) ?_) | (refine wpAnyH_take (i := 1) (v := ?_) rfl (by kernel_rfl) (by kernel_rfl) (by kernel_rfl) (fun _ _ _ h => h) (Or.inl ⟨rfl, ?_⟩) (by assumption) ?_; rotate_left 1; · (intro w hSw; (try dsimp only at hSw); go_simp; (try with_reducible rfl)))); (try simp only [Act.put, List.getElem_toArray, List.getElem_cons_zero, List.getElem_cons_succ, List.setIfInBounds_toArray, List.set_cons_zero, List.set_cons_succ])
        (first | (refine wpAnyH_take (i := 2) (v := undef) rfl (by kernel_rfl) (by kernel_rfl) (by kernel_rfl) (fun _ _ _ h => h) (Or.inr ⟨rfl, rfl⟩) (by assumption) ?_) | (refine wpAnyH_take (i := 2) (v := ?_) rfl (by kernel_rfl) (by kernel_rfl) (by kernel_rfl) (fun _ _ _ h => h) (Or.inl ⟨rfl, ?_⟩) (by assumption) ?_; rotate_left 1; · (intro w hSw; (try dsimp only at hSw); go_simp; (try with_reducible rfl)))); (try simp only [Act.put, List.getElem_toArray, List.getElem_cons_zero, List.getElem_cons_succ, List.setIfInBounds_toArray, List.set_cons_zero, List.set_cons_succ])
        (first | (refine wpAnyH_take (i := 3) (v := undef) rfl (by kernel_rfl) (by kernel_rfl) (by kernel_rfl) (fun _ _ _ h => h) (Or.inr ⟨rfl, rfl⟩) (by assumption) ?_) | (refine wpAnyH_take (i := 3) (v := ?_) rfl (by kernel_rfl) (by kernel_rfl) (by kernel_rfl) (fun _ _ _ h => h) (Or.inl ⟨rfl, ?_⟩) (by assumption) ?_; rotate_left 1; · (intro w hSw; (try dsimp only at hSw); go_simp; (try with_reducible rfl)))); (try simp only [Act.put, List.getElem_toArray, List.getElem_cons_zero, List.getElem_cons_succ, List.setIfInBounds_toArray, List.set_cons_zero, List.set_cons_succ])
        (first | (refine wpAnyH_take (i := 5) (v := undef) rfl (by kernel_rfl) (by kernel_rfl) (by kernel_rfl) (fun _ _ _ h => h) (Or.inr ⟨rfl, rfl⟩) (by assumption) ?_) | (refine wpAnyH_take (i := 5) (v := ?_) rfl (by kernel_rfl) (by kernel_rfl) (by kernel_rfl) (fun _ _ _ h => h) (Or.inl ⟨rfl, ?_⟩) (by assumption) ?_; rotate_left 1; · (intro w hSw; (try dsimp only at hSw); go_simp; (try with_reducible rfl)))); (try simp only [Act.put, List.getElem_toArray, List.getElem_cons_zero, List.getElem_cons_succ, List.setIfInBounds_toArray, List.set_cons_zero, List.set_cons_succ])
        (first | (refine wpAnyH_take (i := 6) (v := undef) rfl (by kernel_rfl) (by kernel_rfl) (by kernel_rfl) (fun _ _ _ h => h) (Or.inr ⟨rfl, rfl⟩) (by assumption) ?_) | (refine wpAnyH_take (i := 6) (v := ?_) rfl (by kernel_rfl) (by kernel_rfl) (by kernel_rfl) (fun _ _ _ h => h) (Or.inl ⟨rfl, ?_⟩) (by assumption) ?_; rotate_left 1; · (intro w hSw; (try dsimp only at hSw); go_simp; (try with_reducible rfl)))); (try simp only [Act.put, List.getElem_toArray, List.getElem_cons_zero, List.getElem_cons_succ, List.setIfInBounds_toArray, List.set_cons_zero, List.set_cons_succ])
        (first | (refine wpAnyH_take (i := 7) (v := undef) rfl (by kernel_rfl) (by kernel_rfl) (by kernel_rfl) (fun _ _ _ h => h) (Or.inr ⟨rfl, rfl⟩) (by assumption) ?_) | (refine wpAnyH_take (i := 7) (v := ?_) rfl (by kernel_rfl) (by kernel_rfl) (by kernel_rfl) (fun _ _ _ h => h) (Or.inl ⟨rfl, ?_⟩) (by assumption) ?_; rotate_left 1; · (intro w hSw; (try dsimp only at hSw); go_simp; (try with_reducible rfl)))); (try simp only [Act.put, List.getElem_toArray, List.getElem_cons_zero, List.getElem_cons_succ, List.setIfInBounds_toArray, List.set_cons_zero, List.set_cons_succ])
        (first | (refine wpAnyH_take (i := 8) (v := undef) rfl (by kernel_rfl) (by kernel_rfl) (by kernel_rfl) (fun _ _ _ h => h) (Or.inr ⟨rfl, rfl⟩) (by assumption) ?_) | (refine wpAnyH_take (i := 8) (v := ?_) rfl (by kernel_rfl) (by kernel_rfl) (by kernel_rfl) (fun _ _ _ h => h) (Or.inl ⟨rfl, ?_⟩) (by assumption) ?_; rotate_left 1; · (intro w hSw; (try dsimp only at hSw); go_simp; (try with_reducible rfl)))); (try simp only [Act.put, List.getElem_toArray, List.getElem_cons_zero, List.getElem_cons_succ, List.setIfInBounds_toArray, List.set_cons_zero, List.set_cons_succ])
        refine wpAnyH_ready (rs := [4]) (by kernel_rfl) (by simp) ?_; refine AllReadyH.cons rfl (fun K hK => ?_) AllReadyH.nil
        go_simp
        refine hK.out _ _ ⟨SS1 _ (h.tw.drew.alloc (.cells #[] 5)), SS2 _ (h.tw.drew.alloc (.cells #[] 5))⟩ (fun hHeld => ?_); clear hK K; (try simp only [Act.put, List.getElem_toArray, List.getElem_cons_zero, List.getElem_cons_succ, List.setIfInBounds_toArray, List.set_cons_zero, List.set_cons_succ])
        refine wpAnyH_ready (rs := [9]) (by kernel_rfl) (by simp) ?_; refine AllReadyH.cons rfl (fun K hK => ?_) AllReadyH.nil
        refine st_appF rfl _ _ _ rfl elB rfl rfl h00 rl6 (vbs_one l) (by omega) (by show _ ≤ (wr.heap.push _).size; rw [Array.size_push]; omega) ?_
        intro A7 c7 w7 ho7 hc7
        have t7 : Turn (World.drew wr) w7 none := by
          rcases hc7 with ⟨_, _, q⟩ | ⟨_, q⟩
          · exact ((Turn.refl (World.drew wr) none).alloc _).new q (fun g hg => by simp [blk] at hg; subst hg; exact Nat.le_refl _)
          · exact ((Turn.refl (World.drew wr) none).alloc _).trans q
        clear hc7
        simp only [Nat.zero_add, List.nil_append] at ho7 ⊢
        have h7 := h.turn0 t7.undrew
        refine hK.out _ _ ⟨SS1 _ h7.tw, SS2 _ h7.tw⟩ (fun hHeld => ?_); clear hK K; (try simp only [Act.put, List.getElem_toArray, List.getElem_cons_zero, List.getElem_cons_succ, List.setIfInBounds_toArray, List.set_cons_zero, List.set_cons_succ])
        refine wpAnyH_ready (rs := [10]) (by kernel_rfl) (by simp) ?_
        refine AllReadyH.cons rfl (fun K hK => ?_) AllReadyH.nil
        go_simp
        refine (writes h7 jf A7 m c7 wr.heap.size ho7 (by omega) (fun k hk => h.p.lt hk)).mono ?_
        rw [HW0.out]
        rintro e w8 ⟨rfl, hch, R8, h8, hk8⟩
        refine hK.out _ _ ⟨SS1 _ h8.tw, SS2 _ h8.tw⟩ (fun hHeld => ?_); clear hK K; (try simp only [Act.put, List.getElem_toArray, List.getElem_cons_zero, List.getElem_cons_succ, List.setIfInBounds_toArray, List.set_cons_zero, List.set_cons_succ])
        (first | (refine wpAnyH_take (i := 11) (v := undef) rfl (by kernel_rfl) (by kernel_rfl) (by kernel_rfl) (fun _ _ _ h => h) (Or.inr ⟨rfl, rfl⟩) (by assumption) ?_) | (refine wpAnyH_take (i := 11) (v := ?_) rfl (by kernel_rfl) (by kernel_rfl) (by kernel_rfl) (fun _ _ _ h => h) (Or.inl ⟨rfl, ?_⟩) (by assumption) ?_; rotate_left 1; · (intro w hSw; (try dsimp only at hSw); go_simp; (try with_reducible rfl)))); (try simp only [Act.put, List.getElem_toArray, List.getElem_cons_zero, List.getElem_cons_succ, List.setIfInBounds_toArray, List.set_cons_zero, List.set_cons_succ])
        refine wpAnyH_done (by kernel_rfl) ?_ _
        refine NoPanic.normal ?_
        clear hHeld
        have cl8 := SS2 w8 h8.tw
        have hH8 := (hH.turn0 t7.undrew).chg hch hdj
        have hdk : ∀ k, blk H = some k → ¬ R8 k := fun k e hk => (hk8 k hk).elim (fun h2 => hdj k e h2) (fun h2 => by have h3 := (hH.block k e).2; have h4 := t7.undrew.size; omega)
        have rl8 := hrl.turn0 (ht5.trans h8.tw) (Nat.le_refl _)
        go_wp2_with (first
          | (at_builtin; refine wp_appW rfl _ _ _ rfl elB rfl rfl hH8 rl8 (vbs_one l) (by unfold maxLen; first | omega | (simp; done) | (simp; omega)) (by omega) h8.tw.size ?_; intro A9 c9 w9 ho9 ht9 hb9))
        have h9 : Bo w0 w9 g R8 (D.wr (jf : Int) l) := h8.row ht9 (fun k e => ⟨hdk k e, (hH8.block k e).1⟩)
        refine ⟨⟨j + 1, R8, D.wr (jf : Int) l, A9, c9, by omega, by omega, rfl, ?_, h9, ?_, ?_, fun k e hk => ?_, ?_⟩, ?_⟩
        · rw [HF.out, List.length_append, HS.out, HM.out]
        · rw [HF.out]; exact HW1
        · rw [HF.out, List.length_append, HS.out, HM.out, vbs_append]; exact ho9
        · rcases hb9 with q | q
          · exact hdk k (q ▸ e) hk
          · rw [q] at e
            injection e with e
            have := h8.p.lt hk
            omega
        · rw [HF.out, List.length_append, HS.out, HM.out]; exact hlen
        · simp [intOf]; omega
      · obtain ⟨Z, hZ⟩ : ∃ Z : Int, (S : Int) + (m : Int) = Z := ⟨_, rfl⟩
        have hleni : ¬ Z < 100000 := by omega
        clear hf1 hlen
        obtain ⟨hy1, hy2⟩ := HW.out.sy hjf
        have HY1 := hid hy1
        have HY2 := hid hy2
        clear hy1 hy2 HW hF
        clear hS
        have c51 := SS1 wr h.tw
        have hsy := sync_any h.p (jf : Int)
        rw [HY1.out] at hsy
        go_wp2_with (first
          | (go_at_call 16; refine hsy.mono ?_; rintro e w9 ⟨rfl, s9⟩; obtain ⟨R9, h9, hk9⟩ := h.stp2 s9))
        have hH9 := hH.chg s9.1 hdj
        have hd9 : ∀ k, blk H = some k → ¬ R9 k := fun k e hk => (hk9 k hk).elim (fun h2 => hdj k e h2) (fun h2 => by have h3 := (hH.block k e).2; omega)
        have gH : ∀ k, blk H = some k → k < w9.heap.size := fun k e => (hH9.block k e).2
        clear hsy hdj hH h hk9 s9
        go_loopw [10] (fun i wq => ∃ (j : Nat) (R : Nat → Prop) (D : Dsk), j ≤ n2 ∧ j ≤ 50 ∧ i = .int .i64 (j : Int) ∧ Bo w0 wq g R D ∧ Hid (Fd D jf fl) ∧ Own wq w0.heap.size 5 1 H S hc (vbs fl) ∧ (∀ k, blk H = some k → ¬ R k)) (fun i _ => (n2 - intOf i).toNat)
        case atStart => exact ⟨0, R9, _, by omega, by omega, rfl, h9, HY2, hH9, hd9⟩
        case round =>
          obtain ⟨i2, R, D, hi, hi2, rfl, h, HF2, hH, hdj⟩ := hrel
          clear h9 hH9 hd9 gH
          have T0 : Turn w wr none := ht5.trans h.tw
          by_cases hjn : i2 < n2 ∧ i2 < 50
          · obtain ⟨hjn, hj3⟩ := hjn
            obtain ⟨l, hl8⟩ : ∃ l, l2[i2]? = some l := ⟨l2[i2]'(by omega), List.getElem?_eq_getElem (by omega)⟩
            obtain ⟨al, m, k, hv, hrl, hmk, hk⟩ := r2.2.2 i2 l hl8
            obtain ⟨b0, off, rfl, hb0l, hcells⟩ := r2.1.head (by omega)
            have SS2 : ∀ W, Turn w0 W none → W.cell? ⟨b0, off + i2, none⟩ = some (.slice al m k) := fun W hW => ((ht5.trans hW).cell (a := ⟨b0, off + i2, none⟩) hb0l (by simp)).trans (hcells i2 _ hv)
            have cl := SS2 wr h.tw
            have hm : l.length = m := by have := hrl.len; rwa [vbs_len] at this
            have hm47 : m ≤ 140737488351232 := by rw [← hm]; exact hx2 l (List.mem_of_getElem? hl8)
            clear hcells
            by_cases hlen : m < 5000
            · have hleni : (m : Int) < 5000 := by omega
              have HM := hid hm
              clear hm
              have h00 : Own ((World.drew wr).alloc (.cells #[] 5)) wr.heap.size 5 1 (some ⟨wr.heap.size, 0, none⟩) 0 0 [] := Own.made (World.drew wr) _ _ 1 0 #[] (Nat.le_refl _) (by decide) rfl
              have rl6 := (hrl.turn0 T0 (Nat.le_refl _)).drew.alloc T0.size (.cells #[] 5)
              go_wp2
              refine wp_region_noPanic ?_
              refine wp_region_held_drew (S := (fun W => W.cell? ⟨g5, 1, none⟩ = some (.int .i64 a.f) ∧ W.cell? ⟨b0, off + i2, none⟩ = some (.slice al m k))) (by kernel_rfl) (⟨SS1 _ h.tw.drew, SS2 _ h.tw.drew⟩) (fun hHeld => ?_)
              (first | (refine wpAnyH_take (i := 0) (v := undef) rfl (by kernel_rfl) (by kernel_rfl) (by kernel_rfl) (fun _ _ _ h => h) (Or.inr ⟨rfl, rfl⟩) (by assumption) ?_) | (refine wpAnyH_take (i := 0) (v := ?_) rfl (by kernel_rfl) (by kernel_rfl) (by kernel_rfl) (fun _ _ _ h => h) (Or.inl ⟨rfl, ?_⟩) (by assumption) ?_; rotate_left 1; · (intro w hSw; (try dsimp only at hSw); go_simp; (try with_reducible rfl)))); (try simp only [Act.put, List.getElem_toArray, List.getElem_cons_zero, List.getElem_cons_succ, List.setIfInBounds_toArray, List.set_cons_zero, List.set_cons_succ])
              (first | (refine wpAnyH_take (i := 1) (v := undef) rfl (by kernel_rfl) (by kernel_rfl) (by kernel_rfl) (fun _ _ _ h => h) (Or.inr ⟨rfl, rfl⟩) (by assumption) ?_) | (refine wpAnyH_take (i := 1) (v := ?_) rfl (by kernel_rfl) (by kernel_rfl) (by kernel_rfl) (fun _ _ _ h => h) (Or.inl ⟨rfl, ?_⟩) (by assumption) ?_; rotate_left 1; · (intro w hSw; (try dsimp only at hSw); go_simp; (try with_reducible rfl)))); (try simp only [Act.put, List.getElem_toArray, List.getElem_cons_zero, List.getElem_cons_succ, List.setIfInBounds_toArray, List.set_cons_zero, List.set_cons_succ])
              (first | (refine wpAnyH_take (i := 2) (v := undef) rfl (by kernel_rfl) (by kernel_rfl) (by kernel_rfl) (fun _ _ _ h => h) (Or.inr ⟨rfl, rfl⟩) (by assumption) ?_) | (refine wpAnyH_take (i := 2) (v := ?_) rfl (by kernel_rfl) (by kernel_rfl) (by kernel_rfl) (fun _ _ _ h => h) (Or.inl ⟨rfl, ?_⟩) (by assumption) ?_; rotate_left 1; · (intro w hSw; (try dsimp only at hSw); go_simp; (try with_reducible rfl)))); (try simp only [Act.put, List.getElem_toArray, List.getElem_cons_zero, List.getElem_cons_succ, List.setIfInBounds_toArray, List.set_cons_zero, List.set_cons_succ])
              (first | (refine wpAnyH_take (i := 3) (v := undef) rfl (by kernel_rfl) (by kernel_rfl) (by kernel_rfl) (fun _ _ _ h => h) (Or.inr ⟨rfl, rfl⟩) (by assumption) ?_) | (refine wpAnyH_take (i := 3) (v := ?_) rfl (by kernel_rfl) (by kernel_rfl) (by kernel_rfl) (fun _ _ _ h => h) (Or.inl ⟨rfl, ?_⟩) (by assumption) ?_; rotate_left 1; · (intro w hSw; (try dsimp only at hSw); go_simp; (try with_reducible rfl)))); (try simp only [Act.put, List.getElem_toArray, List.getElem_cons_zero, List.getElem_cons_succ, List.setIfInBounds_toArray, List.set_cons_zero, List.set_cons_succ])
              (first | (refine wpAnyH_take (i := 5) (v := undef) rfl (by kernel_rfl) (by kernel_rfl) (by kernel_rfl) (fun _ _ _ h => h) (Or.inr ⟨rfl, rfl⟩) (by assumption) ?_) | (refine wpAnyH_take (i := 5) (v := ?_) rfl (by kernel_rfl) (by kernel_rfl) (by kernel_rfl) (fun _ _ _ h => h) (Or.inl ⟨rfl, ?_⟩) (by assumption) ?_; rotate_left 1; · (intro w hSw; (try dsimp only at hSw); go_simp; (try with_reducible rfl)))); (try simp only [Act.put, List.getElem_toArray, List.getElem_cons_zero, List.getElem_cons_succ, List.setIfInBounds_toArray, List.set_cons_zero, List.set_cons_succ])
              (first | (refine wpAnyH_take (i := 6) (v := undef) rfl (by kernel_rfl) (by kernel_rfl) (by kernel_rfl) (fun _ _ _ h => h) (Or.inr ⟨rfl, rfl⟩) (by assumption) ?_) | (refine wpAnyH_take (i := 6) (v := ?_) rfl (by kernel_rfl) (by kernel_rfl) (by kernel_rfl) (fun _ _ _ h => h) (Or.inl ⟨rfl, ?_⟩) (by assumption) ?_; rotate_left 1; · (intro w hSw; (try dsimp only at hSw); go_simp; (try with_reducible rfl)))); (try simp only [Act.put, List.getElem_toArray, List.getElem_cons_zero, List.getElem_cons_succ, List.setIfInBounds_toArray, List.set_cons_zero, List.set_cons_succ])
              (first | (refine wpAnyH_take (i := 7) (v := undef) rfl (by kernel_rfl) (by kernel_rfl) (by kernel_rfl) (fun _ _ _ h => h) (Or.inr ⟨rfl, rfl⟩) (by assumption) ?_) | (refine wpAnyH_take (i := 7) (v := ?_) rfl (by kernel_rfl) (by kernel_rfl) (by kernel_rfl) (fun _ _ _ h => h) (Or.inl ⟨rfl, ?_⟩) (by assumption) ?_; rotate_left 1; · (intro w hSw; (try dsimp only at hSw); go_simp; (try with_reducible rfl)))); (try simp only [Act.put, List.getElem_toArray, List.getElem_cons_zero, List.getElem_cons_succ, List.setIfInBounds_toArray, List.set_cons_zero, List.set_cons_succ])
              (first | (refine wpAnyH_take (i := 8) (v := undef) rfl (by kernel_rfl) (by kernel_rfl) (by kernel_rfl) (fun _ _ _ h => h) (Or.inr ⟨rfl, rfl⟩) (by assumption) ?_) | (refine wpAnyH_take (i := 8) (v := ?_) rfl (by kernel_rfl) (by kernel_rfl) (by kernel_rfl) (fun _ _ _ h => h) (Or.inl ⟨rfl, ?_⟩) (by assumption) ?_; rotate_left 1; · (intro w hSw; (try dsimp only at hSw); go_simp; (try with_reducible rfl)))); (try simp only [Act.put, List.getElem_toArray, List.getElem_cons_zero, List.getElem_cons_succ, List.setIfInBounds_toArray, List.set_cons_zero, List.set_cons_succ])
              refine wpAnyH_ready (rs := [4]) (by kernel_rfl) (by simp) ?_; refine AllReadyH.cons rfl (fun K hK => ?_) AllReadyH.nil
              go_simp
              refine hK.out _ _ ⟨SS1 _ (h.tw.drew.alloc (.cells #[] 5)), SS2 _ (h.tw.drew.alloc (.cells #[] 5))⟩ (fun hHeld => ?_); clear hK K; (try simp only [Act.put, List.getElem_toArray, List.getElem_cons_zero, List.getElem_cons_succ, List.setIfInBounds_toArray, List.set_cons_zero, List.set_cons_succ])
              refine wpAnyH_ready (rs := [9]) (by kernel_rfl) (by simp) ?_; refine AllReadyH.cons rfl (fun K hK => ?_) AllReadyH.nil
              refine st_appF rfl _ _ _ rfl elB rfl rfl h00 rl6 (vbs_one l) (by omega) (by show _ ≤ (wr.heap.push _).size; rw [Array.size_push]; omega) ?_
              intro A7 c7 w7 ho7 hc7
              have t7 : Turn (World.drew wr) w7 none := by
                rcases hc7 with ⟨_, _, q⟩ | ⟨_, q⟩
                · exact ((Turn.refl (World.drew wr) none).alloc _).new q (fun g hg => by simp [blk] at hg; subst hg; exact Nat.le_refl _)
                · exact ((Turn.refl (World.drew wr) none).alloc _).trans q
              clear hc7
              simp only [Nat.zero_add, List.nil_append] at ho7 ⊢
              have h7 := h.turn0 t7.undrew
              refine hK.out _ _ ⟨SS1 _ h7.tw, SS2 _ h7.tw⟩ (fun hHeld => ?_); clear hK K; (try simp only [Act.put, List.getElem_toArray, List.getElem_cons_zero, List.getElem_cons_succ, List.setIfInBounds_toArray, List.set_cons_zero, List.set_cons_succ])
              refine wpAnyH_ready (rs := [10]) (by kernel_rfl) (by simp) ?_
              refine AllReadyH.cons rfl (fun K hK => ?_) AllReadyH.nil
              go_simp
              refine (writes h7 jf A7 m c7 wr.heap.size ho7 (by omega) (fun k hk => h.p.lt hk)).mono ?_
              rintro e w8 ⟨rfl, hch, R8, h8, hk8⟩
              refine hK.out _ _ ⟨SS1 _ h8.tw, SS2 _ h8.tw⟩ (fun hHeld => ?_); clear hK K; (try simp only [Act.put, List.getElem_toArray, List.getElem_cons_zero, List.getElem_cons_succ, List.setIfInBounds_toArray, List.set_cons_zero, List.set_cons_succ])
              refine wpAnyH_done (by kernel_rfl) ?_ _
              refine NoPanic.normal ?_
              clear hHeld
              have hH8 := (hH.turn0 t7.undrew).chg hch hdj
              have hdk : ∀ k, blk H = some k → ¬ R8 k := fun k e hk => (hk8 k hk).elim (fun h2 => hdj k e h2) (fun h2 => by have h3 := (hH.block k e).2; have h4 := t7.undrew.size; omega)
              go_wp2
              refine ⟨⟨i2 + 1, R8, _, by omega, by omega, rfl, h8, hid (HF2.out.wr l), hH8, hdk⟩, ?_⟩
              simp [intOf]; omega
            · have hleni : ¬ (m : Int) < 5000 := by omega
              clear hm hlen
              have c51 := SS1 wr h.tw
              go_upto_region 17 with fail
              refine of_codeY (C' := f17R) (by kernel_rfl) (fast17 h hb0 ht5 hok (fun w7 w8 R8 t7 s8 h8 => ?_))
              obtain ⟨y1, y2⟩ := HF2.out.crash hjf a.m a.b
              have hrd := read_bo h8.p (jf : Int)
              rw [y1] at hrd
              have hH8 := (hH.turn0 t7).chg s8 hdj
              have c58 := SS1 w8 h8.tw
              have Y2 := hid y2
              clear y1 y2 c51
              generalize hQ : (D.crash a.m a.b).rd (jf : Int) = Q at *
              generalize hQL : Q.length = QL at *
              clear hQ
              have HQL := hid hQL
              clear hQL
              go_wp2_with (first
                | (go_at_call 18; refine hrd.mono ?_; rintro e w9 ⟨A9, c9, rfl, ho9, t9⟩)
                | (go_at_call 19; refine (begins_any A9 QL c9 Q H S hc fl w9.heap.size w9.heap.size w9 ho9.rd (hH8.turn0 t9).rd (Nat.le_refl _) (Nat.le_refl _) ho9.cap.1 ho9.cap.2 Y2.out).mono ?_; rintro e w10 ⟨rfl, t10⟩)
                | (go_at_call 14; refine (dlives_any _).mono ?_; rintro e w11 ⟨rfl, t11⟩))
              go_ret
              exact ⟨rfl, (((ht5.trans h8.tw).trans t9).trans t10).trans t11⟩
          · have hcase : ¬ (i2 : Int) < n2 ∨ ((i2 : Int) < n2 ∧ ¬ (i2 : Int) < 50) := by omega
            rcases hcase with q | ⟨q, q3⟩
            · skip
              have c51 := SS1 wr h.tw
              go_upto_region 17 with fail
              refine of_codeY (C' := f17R) (by kernel_rfl) (fast17 h hb0 ht5 hok (fun w7 w8 R8 t7 s8 h8 => ?_))
              obtain ⟨y1, y2⟩ := HF2.out.crash hjf a.m a.b
              have hrd := read_bo h8.p (jf : Int)
              rw [y1] at hrd
              have hH8 := (hH.turn0 t7).chg s8 hdj
              have c58 := SS1 w8 h8.tw
              have Y2 := hid y2
              clear y1 y2 c51
              generalize hQ : (D.crash a.m a.b).rd (jf : Int) = Q at *
              generalize hQL : Q.length = QL at *
              clear hQ
              have HQL := hid hQL
              clear hQL
              go_wp2_with (first
                | (go_at_call 18; refine hrd.mono ?_; rintro e w9 ⟨A9, c9, rfl, ho9, t9⟩)
                | (go_at_call 19; refine (begins_any A9 QL c9 Q H S hc fl w9.heap.size w9.heap.size w9 ho9.rd (hH8.turn0 t9).rd (Nat.le_refl _) (Nat.le_refl _) ho9.cap.1 ho9.cap.2 Y2.out).mono ?_; rintro e w10 ⟨rfl, t10⟩)
                | (go_at_call 14; refine (dlives_any _).mono ?_; rintro e w11 ⟨rfl, t11⟩))
              go_ret
              exact ⟨rfl, (((ht5.trans h8.tw).trans t9).trans t10).trans t11⟩
            · skip
              have c51 := SS1 wr h.tw
              go_upto_region 17 with fail
              refine of_codeY (C' := f17R) (by kernel_rfl) (fast17 h hb0 ht5 hok (fun w7 w8 R8 t7 s8 h8 => ?_))
              obtain ⟨y1, y2⟩ := HF2.out.crash hjf a.m a.b
              have hrd := read_bo h8.p (jf : Int)
              rw [y1] at hrd
              have hH8 := (hH.turn0 t7).chg s8 hdj
              have c58 := SS1 w8 h8.tw
              have Y2 := hid y2
              clear y1 y2 c51
              generalize hQ : (D.crash a.m a.b).rd (jf : Int) = Q at *
              generalize hQL : Q.length = QL at *
              clear hQ
              have HQL := hid hQL
              clear hQL
              go_wp2_with (first
                | (go_at_call 18; refine hrd.mono ?_; rintro e w9 ⟨A9, c9, rfl, ho9, t9⟩)
                | (go_at_call 19; refine (begins_any A9 QL c9 Q H S hc fl w9.heap.size w9.heap.size w9 ho9.rd (hH8.turn0 t9).rd (Nat.le_refl _) (Nat.le_refl _) ho9.cap.1 ho9.cap.2 Y2.out).mono ?_; rintro e w10 ⟨rfl, t10⟩)
                | (go_at_call 14; refine (dlives_any _).mono ?_; rintro e w11 ⟨rfl, t11⟩))
              go_ret
              exact ⟨rfl, (((ht5.trans h8.tw).trans t9).trans t10).trans t11⟩
    · have hcase : ¬ (j : Int) < n1 ∨ ((j : Int) < n1 ∧ ¬ (j : Int) < 50) := by omega
      rcases hcase with q | ⟨q, q3⟩
      · skip
        obtain ⟨hy1, hy2⟩ := HW.out.sy hjf
        have HY1 := hid hy1
        have HY2 := hid hy2
        clear hy1 hy2 HW hF
        clear hS
        have c51 := SS1 wr h.tw
        have hsy := sync_any h.p (jf : Int)
        rw [HY1.out] at hsy
        go_wp2_with (first
          | (go_at_call 16; refine hsy.mono ?_; rintro e w9 ⟨rfl, s9⟩; obtain ⟨R9, h9, hk9⟩ := h.stp2 s9))
        have hH9 := hH.chg s9.1 hdj
        have hd9 : ∀ k, blk H = some k → ¬ R9 k := fun k e hk => (hk9 k hk).elim (fun h2 => hdj k e h2) (fun h2 => by have h3 := (hH.block k e).2; omega)
        have gH : ∀ k, blk H = some k → k < w9.heap.size := fun k e => (hH9.block k e).2
        clear hsy hdj hH h hk9 s9
        go_loopw [10] (fun i wq => ∃ (j : Nat) (R : Nat → Prop) (D : Dsk), j ≤ n2 ∧ j ≤ 50 ∧ i = .int .i64 (j : Int) ∧ Bo w0 wq g R D ∧ Hid (Fd D jf fl) ∧ Own wq w0.heap.size 5 1 H S hc (vbs fl) ∧ (∀ k, blk H = some k → ¬ R k)) (fun i _ => (n2 - intOf i).toNat)
        case atStart => exact ⟨0, R9, _, by omega, by omega, rfl, h9, HY2, hH9, hd9⟩
        case round =>
          obtain ⟨i2, R, D, hi, hi2, rfl, h, HF2, hH, hdj⟩ := hrel
          clear h9 hH9 hd9 gH
          have T0 : Turn w wr none := ht5.trans h.tw
          by_cases hjn : i2 < n2 ∧ i2 < 50
          · obtain ⟨hjn, hj3⟩ := hjn
            obtain ⟨l, hl8⟩ : ∃ l, l2[i2]? = some l := ⟨l2[i2]'(by omega), List.getElem?_eq_getElem (by omega)⟩
            obtain ⟨al, m, k, hv, hrl, hmk, hk⟩ := r2.2.2 i2 l hl8
            obtain ⟨b0, off, rfl, hb0l, hcells⟩ := r2.1.head (by omega)
            have SS2 : ∀ W, Turn w0 W none → W.cell? ⟨b0, off + i2, none⟩ = some (.slice al m k) := fun W hW => ((ht5.trans hW).cell (a := ⟨b0, off + i2, none⟩) hb0l (by simp)).trans (hcells i2 _ hv)
            have cl := SS2 wr h.tw
            have hm : l.length = m := by have := hrl.len; rwa [vbs_len] at this
            have hm47 : m ≤ 140737488351232 := by rw [← hm]; exact hx2 l (List.mem_of_getElem? hl8)
            clear hcells
            by_cases hlen : m < 5000
            · have hleni : (m : Int) < 5000 := by omega
              have HM := hid hm
              clear hm
              have h00 : Own ((World.drew wr).alloc (.cells #[] 5)) wr.heap.size 5 1 (some ⟨wr.heap.size, 0, none⟩) 0 0 [] := Own.made (World.drew wr) _ _ 1 0 #[] (Nat.le_refl _) (by decide) rfl
              have rl6 := (hrl.turn0 T0 (Nat.le_refl _)).drew.alloc T0.size (.cells #[] 5)
              go_wp2
              refine wp_region_noPanic ?_
              refine wp_region_held_drew (S := (fun W => W.cell? ⟨g5, 1, none⟩ = some (.int .i64 a.f) ∧ W.cell? ⟨b0, off + i2, none⟩ = some (.slice al m k))) (by kernel_rfl) (⟨SS1 _ h.tw.drew, SS2 _ h.tw.drew⟩) (fun hHeld => ?_)
              (first | (refine wpAnyH_take (i := 0) (v := undef) rfl (by kernel_rfl) (by kernel_rfl) (by kernel_rfl) (fun _ _ _ h => h) (Or.inr ⟨rfl, rfl⟩) (by assumption) ?_) | (refine wpAnyH_take (i := 0) (v := ?_) rfl (by kernel_rfl) (by kernel_rfl) (by kernel_rfl) (fun _ _ _ h => h) (Or.inl ⟨rfl, ?_⟩) (by assumption) ?_; rotate_left 1; · (intro w hSw; (try dsimp only at hSw); go_simp; (try with_reducible rfl)))); (try simp only [Act.put, List.getElem_toArray, List.getElem_cons_zero, List.getElem_cons_succ, List.setIfInBounds_toArray, List.set_cons_zero, List.set_cons_succ])
              (first | (refine wpAnyH_take (i := 1) (v := undef) rfl (by kernel_rfl) (by kernel_rfl) (by kernel_rfl) (fun _ _ _ h => h) (Or.inr ⟨rfl, rfl⟩) (by assumption) ?_) | (refine wpAnyH_take (i := 1) (v := ?_) rfl (by kernel_rfl) (by kernel_rfl) (by kernel_rfl) (fun _ _ _ h => h) (Or.inl ⟨rfl, ?_⟩) (by assumption) ?_; rotate_left 1; · (intro w hSw; (try dsimp only at hSw); go_simp; (try with_reducible rfl)))); (try simp only [Act.put, List.getElem_toArray, List.getElem_cons_zero, List.getElem_cons_succ, List.setIfInBounds_toArray, List.set_cons_zero, List.set_cons_succ])
              (first | (refine wpAnyH_take (i := 2) (v := undef) rfl (by kernel_rfl) (by kernel_rfl) (by kernel_rfl) (fun _ _ _ h => h) (Or.inr ⟨rfl, rfl⟩) (by assumption) ?_) | (refine wpAnyH_take (i := 2) (v := ?_) rfl (by kernel_rfl) (by kernel_rfl) (by kernel_rfl) (fun _ _ _ h => h) (Or.inl ⟨rfl, ?_⟩) (by assumption) ?_; rotate_left 1; · (intro w hSw; (try dsimp only at hSw); go_simp; (try with_reducible rfl)))); (try simp only [Act.put, List.getElem_toArray, List.getElem_cons_zero, List.getElem_cons_succ, List.setIfInBounds_toArray, List.set_cons_zero, List.set_cons_succ])
              (first | (refine wpAnyH_take (i := 3) (v := undef) rfl (by kernel_rfl) (by kernel_rfl) (by kernel_rfl) (fun _ _ _ h => h) (Or.inr ⟨rfl, rfl⟩) (by assumption) ?_) | (refine wpAnyH_take (i := 3) (v := ?_) rfl (by kernel_rfl) (by kernel_rfl) (by kernel_rfl) (fun _ _ _ h => h) (Or.inl ⟨rfl, ?_⟩) (by assumption) ?_; rotate_left 1; · (intro w hSw; (try dsimp only at hSw); go_simp; (try with_reducible rfl)))); (try simp only [Act.put, List.getElem_toArray, List.getElem_cons_zero, List.getElem_cons_succ, List.setIfInBounds_toArray, List.set_cons_zero, List.set_cons_succ])
              (first | (refine wpAnyH_take (i := 5) (v := undef) rfl (by kernel_rfl) (by kernel_rfl) (by kernel_rfl) (fun _ _ _ h => h) (Or.inr ⟨rfl, rfl⟩) (by assumption) ?_) | (refine wpAnyH_take (i := 5) (v := ?_) rfl (by kernel_rfl) (by kernel_rfl) (by kernel_rfl) (fun _ _ _ h => h) (Or.inl ⟨rfl, ?_⟩) (by assumption) ?_; rotate_left 1; · (intro w hSw; (try dsimp only at hSw); go_simp; (try with_reducible rfl)))); (try simp only [Act.put, List.getElem_toArray, List.getElem_cons_zero, List.getElem_cons_succ, List.setIfInBounds_toArray, List.set_cons_zero, List.set_cons_succ])
              (first | (refine wpAnyH_take (i := 6) (v := undef) rfl (by kernel_rfl) (by kernel_rfl) (by kernel_rfl) (fun _ _ _ h => h) (Or.inr ⟨rfl, rfl⟩) (by assumption) ?_) | (refine wpAnyH_take (i := 6) (v := ?_) rfl (by kernel_rfl) (by kernel_rfl) (by kernel_rfl) (fun _ _ _ h => h) (Or.inl ⟨rfl, ?_⟩) (by assumption) ?_; rotate_left 1; · (intro w hSw; (try dsimp only at hSw); go_simp; (try with_reducible rfl)))); (try simp only [Act.put, List.getElem_toArray, List.getElem_cons_zero, List.getElem_cons_succ, List.setIfInBounds_toArray, List.set_cons_zero, List.set_cons_succ])
              (first | (refine wpAnyH_take (i := 7) (v := undef) rfl (by kernel_rfl) (by kernel_rfl) (by kernel_rfl) (fun _ _ _ h => h) (Or.inr ⟨rfl, rfl⟩) (by assumption) ?_) | (refine wpAnyH_take (i := 7) (v := ?_) rfl (by kernel_rfl) (by kernel_rfl) (by kernel_rfl) (fun _ _ _ h => h) (Or.inl ⟨rfl, ?_⟩) (by assumption) ?_; rotate_left 1; · (intro w hSw; (try dsimp only at hSw); go_simp; (try with_reducible rfl)))); (try simp only [Act.put, List.getElem_toArray, List.getElem_cons_zero, List.getElem_cons_succ, List.setIfInBounds_toArray, List.set_cons_zero, List.set_cons_succ])
              (first | (refine wpAnyH_take (i := 8) (v := undef) rfl (by kernel_rfl) (by kernel_rfl) (by kernel_rfl) (fun _ _ _ h => h) (Or.inr ⟨rfl, rfl⟩) (by assumption) ?_) | (refine wpAnyH_take (i := 8) (v := ?_) rfl (by kernel_rfl) (by kernel_rfl) (by kernel_rfl) (fun _ _ _ h => h) (Or.inl ⟨rfl, ?_⟩) (by assumption) ?_; rotate_left 1; · (intro w hSw; (try dsimp only at hSw); go_simp; (try with_reducible rfl)))); (try simp only [Act.put, List.getElem_toArray, List.getElem_cons_zero, List.getElem_cons_succ, List.setIfInBounds_toArray, List.set_cons_zero, List.set_cons_succ])
              refine wpAnyH_ready (rs := [4]) (by kernel_rfl) (by simp) ?_; refine AllReadyH.cons rfl (fun K hK => ?_) AllReadyH.nil
              go_simp
              refine hK.out _ _ ⟨SS1 _ (h.tw.drew.alloc (.cells #[] 5)), SS2 _ (h.tw.drew.alloc (.cells #[] 5))⟩ (fun hHeld => ?_); clear hK K; (try simp only [Act.put, List.getElem_toArray, List.getElem_cons_zero, List.getElem_cons_succ, List.setIfInBounds_toArray, List.set_cons_zero, List.set_cons_succ])
              refine wpAnyH_ready (rs := [9]) (by kernel_rfl) (by simp) ?_; refine AllReadyH.cons rfl (fun K hK => ?_) AllReadyH.nil
              refine st_appF rfl _ _ _ rfl elB rfl rfl h00 rl6 (vbs_one l) (by omega) (by show _ ≤ (wr.heap.push _).size; rw [Array.size_push]; omega) ?_
              intro A7 c7 w7 ho7 hc7
              have t7 : Turn (World.drew wr) w7 none := by
                rcases hc7 with ⟨_, _, q⟩ | ⟨_, q⟩
                · exact ((Turn.refl (World.drew wr) none).alloc _).new q (fun g hg => by simp [blk] at hg; subst hg; exact Nat.le_refl _)
                · exact ((Turn.refl (World.drew wr) none).alloc _).trans q
              clear hc7
              simp only [Nat.zero_add, List.nil_append] at ho7 ⊢
              have h7 := h.turn0 t7.undrew
              refine hK.out _ _ ⟨SS1 _ h7.tw, SS2 _ h7.tw⟩ (fun hHeld => ?_); clear hK K; (try simp only [Act.put, List.getElem_toArray, List.getElem_cons_zero, List.getElem_cons_succ, List.setIfInBounds_toArray, List.set_cons_zero, List.set_cons_succ])
              refine wpAnyH_ready (rs := [10]) (by kernel_rfl) (by simp) ?_
              refine AllReadyH.cons rfl (fun K hK => ?_) AllReadyH.nil
              go_simp
              refine (writes h7 jf A7 m c7 wr.heap.size ho7 (by omega) (fun k hk => h.p.lt hk)).mono ?_
              rintro e w8 ⟨rfl, hch, R8, h8, hk8⟩
              refine hK.out _ _ ⟨SS1 _ h8.tw, SS2 _ h8.tw⟩ (fun hHeld => ?_); clear hK K; (try simp only [Act.put, List.getElem_toArray, List.getElem_cons_zero, List.getElem_cons_succ, List.setIfInBounds_toArray, List.set_cons_zero, List.set_cons_succ])
              refine wpAnyH_done (by kernel_rfl) ?_ _
              refine NoPanic.normal ?_
              clear hHeld
              have hH8 := (hH.turn0 t7.undrew).chg hch hdj
              have hdk : ∀ k, blk H = some k → ¬ R8 k := fun k e hk => (hk8 k hk).elim (fun h2 => hdj k e h2) (fun h2 => by have h3 := (hH.block k e).2; have h4 := t7.undrew.size; omega)
              go_wp2
              refine ⟨⟨i2 + 1, R8, _, by omega, by omega, rfl, h8, hid (HF2.out.wr l), hH8, hdk⟩, ?_⟩
              simp [intOf]; omega
            · have hleni : ¬ (m : Int) < 5000 := by omega
              clear hm hlen
              have c51 := SS1 wr h.tw
              go_upto_region 17 with fail
              refine of_codeY (C' := f17R) (by kernel_rfl) (fast17 h hb0 ht5 hok (fun w7 w8 R8 t7 s8 h8 => ?_))
              obtain ⟨y1, y2⟩ := HF2.out.crash hjf a.m a.b
              have hrd := read_bo h8.p (jf : Int)
              rw [y1] at hrd
              have hH8 := (hH.turn0 t7).chg s8 hdj
              have c58 := SS1 w8 h8.tw
              have Y2 := hid y2
              clear y1 y2 c51
              generalize hQ : (D.crash a.m a.b).rd (jf : Int) = Q at *
              generalize hQL : Q.length = QL at *
              clear hQ
              have HQL := hid hQL
              clear hQL
              go_wp2_with (first
                | (go_at_call 18; refine hrd.mono ?_; rintro e w9 ⟨A9, c9, rfl, ho9, t9⟩)
                | (go_at_call 19; refine (begins_any A9 QL c9 Q H S hc fl w9.heap.size w9.heap.size w9 ho9.rd (hH8.turn0 t9).rd (Nat.le_refl _) (Nat.le_refl _) ho9.cap.1 ho9.cap.2 Y2.out).mono ?_; rintro e w10 ⟨rfl, t10⟩)
                | (go_at_call 14; refine (dlives_any _).mono ?_; rintro e w11 ⟨rfl, t11⟩))
              go_ret
              exact ⟨rfl, (((ht5.trans h8.tw).trans t9).trans t10).trans t11⟩
          · have hcase : ¬ (i2 : Int) < n2 ∨ ((i2 : Int) < n2 ∧ ¬ (i2 : Int) < 50) := by omega
            rcases hcase with q | ⟨q, q3⟩
            · skip
              have c51 := SS1 wr h.tw
              go_upto_region 17 with fail
              refine of_codeY (C' := f17R) (by kernel_rfl) (fast17 h hb0 ht5 hok (fun w7 w8 R8 t7 s8 h8 => ?_))
              obtain ⟨y1, y2⟩ := HF2.out.crash hjf a.m a.b
              have hrd := read_bo h8.p (jf : Int)
              rw [y1] at hrd
              have hH8 := (hH.turn0 t7).chg s8 hdj
              have c58 := SS1 w8 h8.tw
              have Y2 := hid y2
              clear y1 y2 c51
              generalize hQ : (D.crash a.m a.b).rd (jf : Int) = Q at *
              generalize hQL : Q.length = QL at *
              clear hQ
              have HQL := hid hQL
              clear hQL
              go_wp2_with (first
                | (go_at_call 18; refine hrd.mono ?_; rintro e w9 ⟨A9, c9, rfl, ho9, t9⟩)
                | (go_at_call 19; refine (begins_any A9 QL c9 Q H S hc fl w9.heap.size w9.heap.size w9 ho9.rd (hH8.turn0 t9).rd (Nat.le_refl _) (Nat.le_refl _) ho9.cap.1 ho9.cap.2 Y2.out).mono ?_; rintro e w10 ⟨rfl, t10⟩)
                | (go_at_call 14; refine (dlives_any _).mono ?_; rintro e w11 ⟨rfl, t11⟩))
              go_ret
              exact ⟨rfl, (((ht5.trans h8.tw).trans t9).trans t10).trans t11⟩
            · skip
              have c51 := SS1 wr h.tw
              go_upto_region 17 with fail
              refine of_codeY (C' := f17R) (by kernel_rfl) (fast17 h hb0 ht5 hok (fun w7 w8 R8 t7 s8 h8 => ?_))
              obtain ⟨y1, y2⟩ := HF2.out.crash hjf a.m a.b
              have hrd := read_bo h8.p (jf : Int)
              rw [y1] at hrd
              have hH8 := (hH.turn0 t7).chg s8 hdj
              have c58 := SS1 w8 h8.tw
              have Y2 := hid y2
              clear y1 y2 c51
              generalize hQ : (D.crash a.m a.b).rd (jf : Int) = Q at *
              generalize hQL : Q.length = QL at *
              clear hQ
              have HQL := hid hQL
              clear hQL
              go_wp2_with (first
                | (go_at_call 18; refine hrd.mono ?_; rintro e w9 ⟨A9, c9, rfl, ho9, t9⟩)
                | (go_at_call 19; refine (begins_any A9 QL c9 Q H S hc fl w9.heap.size w9.heap.size w9 ho9.rd (hH8.turn0 t9).rd (Nat.le_refl _) (Nat.le_refl _) ho9.cap.1 ho9.cap.2 Y2.out).mono ?_; rintro e w10 ⟨rfl, t10⟩)
                | (go_at_call 14; refine (dlives_any _).mono ?_; rintro e w11 ⟨rfl, t11⟩))
              go_ret
              exact ⟨rfl, (((ht5.trans h8.tw).trans t9).trans t10).trans t11⟩
      · skip
        obtain ⟨hy1, hy2⟩ := HW.out.sy hjf
        have HY1 := hid hy1
        have HY2 := hid hy2
        clear hy1 hy2 HW hF
        clear hS
        have c51 := SS1 wr h.tw
        have hsy := sync_any h.p (jf : Int)
        rw [HY1.out] at hsy
        go_wp2_with (first
          | (go_at_call 16; refine hsy.mono ?_; rintro e w9 ⟨rfl, s9⟩; obtain ⟨R9, h9, hk9⟩ := h.stp2 s9))
        have hH9 := hH.chg s9.1 hdj
        have hd9 : ∀ k, blk H = some k → ¬ R9 k := fun k e hk => (hk9 k hk).elim (fun h2 => hdj k e h2) (fun h2 => by have h3 := (hH.block k e).2; omega)
        have gH : ∀ k, blk H = some k → k < w9.heap.size := fun k e => (hH9.block k e).2
        clear hsy hdj hH h hk9 s9
        go_loopw [10] (fun i wq => ∃ (j : Nat) (R : Nat → Prop) (D : Dsk), j ≤ n2 ∧ j ≤ 50 ∧ i = .int .i64 (j : Int) ∧ Bo w0 wq g R D ∧ Hid (Fd D jf fl) ∧ Own wq w0.heap.size 5 1 H S hc (vbs fl) ∧ (∀ k, blk H = some k → ¬ R k)) (fun i _ => (n2 - intOf i).toNat)
        case atStart => exact ⟨0, R9, _, by omega, by omega, rfl, h9, HY2, hH9, hd9⟩
        case round =>
          obtain ⟨i2, R, D, hi, hi2, rfl, h, HF2, hH, hdj⟩ := hrel
          clear h9 hH9 hd9 gH
          have T0 : Turn w wr none := ht5.trans h.tw
          by_cases hjn : i2 < n2 ∧ i2 < 50
          · obtain ⟨hjn, hj3⟩ := hjn
            obtain ⟨l, hl8⟩ : ∃ l, l2[i2]? = some l := ⟨l2[i2]'(by omega), List.getElem?_eq_getElem (by omega)⟩
            obtain ⟨al, m, k, hv, hrl, hmk, hk⟩ := r2.2.2 i2 l hl8
            obtain ⟨b0, off, rfl, hb0l, hcells⟩ := r2.1.head (by omega)
            have SS2 : ∀ W, Turn w0 W none → W.cell? ⟨b0, off + i2, none⟩ = some (.slice al m k) := fun W hW => ((ht5.trans hW).cell (a := ⟨b0, off + i2, none⟩) hb0l (by simp)).trans (hcells i2 _ hv)
            have cl := SS2 wr h.tw
            have hm : l.length = m := by have := hrl.len; rwa [vbs_len] at this
            have hm47 : m ≤ 140737488351232 := by rw [← hm]; exact hx2 l (List.mem_of_getElem? hl8)
            clear hcells
            by_cases hlen : m < 5000
            · have hleni : (m : Int) < 5000 := by omega
              have HM := hid hm
              clear hm
              have h00 : Own ((World.drew wr).alloc (.cells #[] 5)) wr.heap.size 5 1 (some ⟨wr.heap.size, 0, none⟩) 0 0 [] := Own.made (World.drew wr) _ _ 1 0 #[] (Nat.le_refl _) (by decide) rfl
              have rl6 := (hrl.turn0 T0 (Nat.le_refl _)).drew.alloc T0.size (.cells #[] 5)
              go_wp2
              refine wp_region_noPanic ?_
              refine wp_region_held_drew (S := (fun W => W.cell? ⟨g5, 1, none⟩ = some (.int .i64 a.f) ∧ W.cell? ⟨b0, off + i2, none⟩ = some (.slice al m k))) (by kernel_rfl) (⟨SS1 _ h.tw.drew, SS2 _ h.tw.drew⟩) (fun hHeld => ?_)
              (first | (refine wpAnyH_take (i := 0) (v := undef) rfl (by kernel_rfl) (by kernel_rfl) (by kernel_rfl) (fun _ _ _ h => h) (Or.inr ⟨rfl, rfl⟩) (by assumption) ?_) | (refine wpAnyH_take (i := 0) (v := ?_) rfl (by kernel_rfl) (by kernel_rfl) (by kernel_rfl) (fun _ _ _ h => h) (Or.inl ⟨rfl, ?_⟩) (by assumption) ?_; rotate_left 1; · (intro w hSw; (try dsimp only at hSw); go_simp; (try with_reducible rfl)))); (try simp only [Act.put, List.getElem_toArray, List.getElem_cons_zero, List.getElem_cons_succ, List.setIfInBounds_toArray, List.set_cons_zero, List.set_cons_succ])
              (first | (refine wpAnyH_take (i := 1) (v := undef) rfl (by kernel_rfl) (by kernel_rfl) (by kernel_rfl) (fun _ _ _ h => h) (Or.inr ⟨rfl, rfl⟩) (by assumption) ?_) | (refine wpAnyH_take (i := 1) (v := ?_) rfl (by kernel_rfl) (by kernel_rfl) (by kernel_rfl) (fun _ _ _ h => h) (Or.inl ⟨rfl, ?_⟩) (by assumption) ?_; rotate_left 1; · (intro w hSw; (try dsimp only at hSw); go_simp; (try with_reducible rfl)))); (try simp only [Act.put, List.getElem_toArray, List.getElem_cons_zero, List.getElem_cons_succ, List.setIfInBounds_toArray, List.set_cons_zero, List.set_cons_succ])
              (first | (refine wpAnyH_take (i := 2) (v := undef) rfl (by kernel_rfl) (by kernel_rfl) (by kernel_rfl) (fun _ _ _ h => h) (Or.inr ⟨rfl, rfl⟩) (by assumption) ?_) | (refine wpAnyH_take (i := 2) (v := ?_) rfl (by kernel_rfl) (by kernel_rfl) (by kernel_rfl) (fun _ _ _ h => h) (Or.inl ⟨rfl, ?_⟩) (by assumption) ?_; rotate_left 1; · (intro w hSw; (try dsimp only at hSw); go_simp; (try with_reducible rfl)))); (try simp only [Act.put, List.getElem_toArray, List.getElem_cons_zero, List.getElem_cons_succ, List.setIfInBounds_toArray, List.set_cons_zero, List.set_cons_succ])
              (first | (refine wpAnyH_take (i := 3) (v := undef) rfl (by kernel_rfl) (by kernel_rfl) (by kernel_rfl) (fun _ _ _ h => h) (Or.inr ⟨rfl, rfl⟩) (by assumption) ?_) | (refine wpAnyH_take (i := 3) (v := ?_) rfl (by kernel_rfl) (by kernel_rfl) (by kernel_rfl) (fun _ _ _ h => h) (Or.inl ⟨rfl, ?_⟩) (by assumption) ?_; rotate_left 1; · (intro w hSw; (try dsimp only at hSw); go_simp; (try with_reducible rfl)))); (try simp only [Act.put, List.getElem_toArray, List.getElem_cons_zero, List.getElem_cons_succ, List.setIfInBounds_toArray, List.set_cons_zero, List.set_cons_succ])
              (first | (refine wpAnyH_take (i := 5) (v := undef) rfl (by kernel_rfl) (by kernel_rfl) (by kernel_rfl) (fun _ _ _ h => h) (Or.inr ⟨rfl, rfl⟩) (by assumption) ?_) | (refine wpAnyH_take (i := 5) (v := ?_) rfl (by kernel_rfl) (by kernel_rfl) (by kernel_rfl) (fun _ _ _ h => h) (Or.inl ⟨rfl, ?_⟩) (by assumption) ?_; rotate_left 1; · (intro w hSw; (try dsimp only at hSw); go_simp; (try with_reducible rfl)))); (try simp only [Act.put, List.getElem_toArray, List.getElem_cons_zero, List.getElem_cons_succ, List.setIfInBounds_toArray, List.set_cons_zero, List.set_cons_succ])
              (first | (refine wpAnyH_take (i := 6) (v := undef) rfl (by kernel_rfl) (by kernel_rfl) (by kernel_rfl) (fun _ _ _ h => h) (Or.inr ⟨rfl, rfl⟩) (by assumption) ?_) | (refine wpAnyH_take (i := 6) (v := ?_) rfl (by kernel_rfl) (by kernel_rfl) (by kernel_rfl) (fun _ _ _ h => h) (Or.inl ⟨rfl, ?_⟩) (by assumption) ?_; rotate_left 1; · (intro w hSw; (try dsimp only at hSw); go_simp; (try with_reducible rfl)))); (try simp only [Act.put, List.getElem_toArray, List.getElem_cons_zero, List.getElem_cons_succ, List.setIfInBounds_toArray, List.set_cons_zero, List.set_cons_succ])
              (first | (refine wpAnyH_take (i := 7) (v := undef) rfl (by kernel_rfl) (by kernel_rfl) (by kernel_rfl) (fun _ _ _ h => h) (Or.inr ⟨rfl, rfl⟩) (by assumption) ?_) | (refine wpAnyH_take (i := 7) (v := ?_) rfl (by kernel_rfl) (by kernel_rfl) (by kernel_rfl) (fun _ _ _ h => h) (Or.inl ⟨rfl, ?_⟩) (by assumption) ?_; rotate_left 1; · (intro w hSw; (try dsimp only at hSw); go_simp; (try with_reducible rfl)))); (try simp only [Act.put, List.getElem_toArray, List.getElem_cons_zero, List.getElem_cons_succ, List.setIfInBounds_toArray, List.set_cons_zero, List.set_cons_succ])
              (first | (refine wpAnyH_take (i := 8) (v := undef) rfl (by kernel_rfl) (by kernel_rfl) (by kernel_rfl) (fun _ _ _ h => h) (Or.inr ⟨rfl, rfl⟩) (by assumption) ?_) | (refine wpAnyH_take (i := 8) (v := ?_) rfl (by kernel_rfl) (by kernel_rfl) (by kernel_rfl) (fun _ _ _ h => h) (Or.inl ⟨rfl, ?_⟩) (by assumption) ?_; rotate_left 1; · (intro w hSw; (try dsimp only at hSw); go_simp; (try with_reducible rfl)))); (try simp only [Act.put, List.getElem_toArray, List.getElem_cons_zero, List.getElem_cons_succ, List.setIfInBounds_toArray, List.set_cons_zero, List.set_cons_succ])
              refine wpAnyH_ready (rs := [4]) (by kernel_rfl) (by simp) ?_; refine AllReadyH.cons rfl (fun K hK => ?_) AllReadyH.nil
              go_simp
              refine hK.out _ _ ⟨SS1 _ (h.tw.drew.alloc (.cells #[] 5)), SS2 _ (h.tw.drew.alloc (.cells #[] 5))⟩ (fun hHeld => ?_); clear hK K; (try simp only [Act.put, List.getElem_toArray, List.getElem_cons_zero, List.getElem_cons_succ, List.setIfInBounds_toArray, List.set_cons_zero, List.set_cons_succ])
              refine wpAnyH_ready (rs := [9]) (by kernel_rfl) (by simp) ?_; refine AllReadyH.cons rfl (fun K hK => ?_) AllReadyH.nil
              refine st_appF rfl _ _ _ rfl elB rfl rfl h00 rl6 (vbs_one l) (by omega) (by show _ ≤ (wr.heap.push _).size; rw [Array.size_push]; omega) ?_
              intro A7 c7 w7 ho7 hc7
              have t7 : Turn (World.drew wr) w7 none := by
                rcases hc7 with ⟨_, _, q⟩ | ⟨_, q⟩
                · exact ((Turn.refl (World.drew wr) none).alloc _).new q (fun g hg => by simp [blk] at hg; subst hg; exact Nat.le_refl _)
                · exact ((Turn.refl (World.drew wr) none).alloc _).trans q
              clear hc7
              simp only [Nat.zero_add, List.nil_append] at ho7 ⊢
              have h7 := h.turn0 t7.undrew
              refine hK.out _ _ ⟨SS1 _ h7.tw, SS2 _ h7.tw⟩ (fun hHeld => ?_); clear hK K; (try simp only [Act.put, List.getElem_toArray, List.getElem_cons_zero, List.getElem_cons_succ, List.setIfInBounds_toArray, List.set_cons_zero, List.set_cons_succ])
              refine wpAnyH_ready (rs := [10]) (by kernel_rfl) (by simp) ?_
              refine AllReadyH.cons rfl (fun K hK => ?_) AllReadyH.nil
              go_simp
              refine (writes h7 jf A7 m c7 wr.heap.size ho7 (by omega) (fun k hk => h.p.lt hk)).mono ?_
              rintro e w8 ⟨rfl, hch, R8, h8, hk8⟩
              refine hK.out _ _ ⟨SS1 _ h8.tw, SS2 _ h8.tw⟩ (fun hHeld => ?_); clear hK K; (try simp only [Act.put, List.getElem_toArray, List.getElem_cons_zero, List.getElem_cons_succ, List.setIfInBounds_toArray, List.set_cons_zero, List.set_cons_succ])
              refine wpAnyH_done (by kernel_rfl) ?_ _
              refine NoPanic.normal ?_
              clear hHeld
              have hH8 := (hH.turn0 t7.undrew).chg hch hdj
              have hdk : ∀ k, blk H = some k → ¬ R8 k := fun k e hk => (hk8 k hk).elim (fun h2 => hdj k e h2) (fun h2 => by have h3 := (hH.block k e).2; have h4 := t7.undrew.size; omega)
              go_wp2
              refine ⟨⟨i2 + 1, R8, _, by omega, by omega, rfl, h8, hid (HF2.out.wr l), hH8, hdk⟩, ?_⟩
              simp [intOf]; omega
            · have hleni : ¬ (m : Int) < 5000 := by omega
              clear hm hlen
              have c51 := SS1 wr h.tw
              go_upto_region 17 with fail
              refine of_codeY (C' := f17R) (by kernel_rfl) (fast17 h hb0 ht5 hok (fun w7 w8 R8 t7 s8 h8 => ?_))
              obtain ⟨y1, y2⟩ := HF2.out.crash hjf a.m a.b
              have hrd := read_bo h8.p (jf : Int)
              rw [y1] at hrd
              have hH8 := (hH.turn0 t7).chg s8 hdj
              have c58 := SS1 w8 h8.tw
              have Y2 := hid y2
              clear y1 y2 c51
              generalize hQ : (D.crash a.m a.b).rd (jf : Int) = Q at *
              generalize hQL : Q.length = QL at *
              clear hQ
              have HQL := hid hQL
              clear hQL
              go_wp2_with (first
                | (go_at_call 18; refine hrd.mono ?_; rintro e w9 ⟨A9, c9, rfl, ho9, t9⟩)
                | (go_at_call 19; refine (begins_any A9 QL c9 Q H S hc fl w9.heap.size w9.heap.size w9 ho9.rd (hH8.turn0 t9).rd (Nat.le_refl _) (Nat.le_refl _) ho9.cap.1 ho9.cap.2 Y2.out).mono ?_; rintro e w10 ⟨rfl, t10⟩)
                | (go_at_call 14; refine (dlives_any _).mono ?_; rintro e w11 ⟨rfl, t11⟩))
              go_ret
              exact ⟨rfl, (((ht5.trans h8.tw).trans t9).trans t10).trans t11⟩
          · have hcase : ¬ (i2 : Int) < n2 ∨ ((i2 : Int) < n2 ∧ ¬ (i2 : Int) < 50) := by omega
            rcases hcase with q | ⟨q, q3⟩
            · skip
              have c51 := SS1 wr h.tw
              go_upto_region 17 with fail
              refine of_codeY (C' := f17R) (by kernel_rfl) (fast17 h hb0 ht5 hok (fun w7 w8 R8 t7 s8 h8 => ?_))
              obtain ⟨y1, y2⟩ := HF2.out.crash hjf a.m a.b
              have hrd := read_bo h8.p (jf : Int)
              rw [y1] at hrd
              have hH8 := (hH.turn0 t7).chg s8 hdj
              have c58 := SS1 w8 h8.tw
              have Y2 := hid y2
              clear y1 y2 c51
              generalize hQ : (D.crash a.m a.b).rd (jf : Int) = Q at *
              generalize hQL : Q.length = QL at *
              clear hQ
              have HQL := hid hQL
              clear hQL
              go_wp2_with (first
                | (go_at_call 18; refine hrd.mono ?_; rintro e w9 ⟨A9, c9, rfl, ho9, t9⟩)
                | (go_at_call 19; refine (begins_any A9 QL c9 Q H S hc fl w9.heap.size w9.heap.size w9 ho9.rd (hH8.turn0 t9).rd (Nat.le_refl _) (Nat.le_refl _) ho9.cap.1 ho9.cap.2 Y2.out).mono ?_; rintro e w10 ⟨rfl, t10⟩)
                | (go_at_call 14; refine (dlives_any _).mono ?_; rintro e w11 ⟨rfl, t11⟩))
              go_ret
              exact ⟨rfl, (((ht5.trans h8.tw).trans t9).trans t10).trans t11⟩
            · skip
              have c51 := SS1 wr h.tw
              go_upto_region 17 with fail
              refine of_codeY (C' := f17R) (by kernel_rfl) (fast17 h hb0 ht5 hok (fun w7 w8 R8 t7 s8 h8 => ?_))
              obtain ⟨y1, y2⟩ := HF2.out.crash hjf a.m a.b
              have hrd := read_bo h8.p (jf : Int)
              rw [y1] at hrd
              have hH8 := (hH.turn0 t7).chg s8 hdj
              have c58 := SS1 w8 h8.tw
              have Y2 := hid y2
              clear y1 y2 c51
              generalize hQ : (D.crash a.m a.b).rd (jf : Int) = Q at *
              generalize hQL : Q.length = QL at *
              clear hQ
              have HQL := hid hQL
              clear hQL
              go_wp2_with (first
                | (go_at_call 18; refine hrd.mono ?_; rintro e w9 ⟨A9, c9, rfl, ho9, t9⟩)
                | (go_at_call 19; refine (begins_any A9 QL c9 Q H S hc fl w9.heap.size w9.heap.size w9 ho9.rd (hH8.turn0 t9).rd (Nat.le_refl _) (Nat.le_refl _) ho9.cap.1 ho9.cap.2 Y2.out).mono ?_; rintro e w10 ⟨rfl, t10⟩)
                | (go_at_call 14; refine (dlives_any _).mono ?_; rintro e w11 ⟨rfl, t11⟩))
              go_ret
              exact ⟨rfl, (((ht5.trans h8.tw).trans t9).trans t10).trans t11⟩
end Go.Proofs.Ytogajpiefegdeaa
