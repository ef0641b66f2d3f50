/-
  Layer 14: a disk in memory, the document's; counts, All, Size, New, Arm, Read (contracts).
-/
import Derived.Test.YtogajpiefegdeaaDkE
namespace Go.Proofs.Ytogajpiefegdeaa
set_option linter.unusedSimpArgs false
set_option linter.unusedVariables false
open Go.RowKit

/-- A row that is read and lies in a block of R. -/
structure Rs (w : World) (R : Nat → Prop) (x : Sl) (l : List UInt8) : Prop where
  rd : Rd w w.heap.size 1 x.A x.n (vbs l)
  s : ∀ k, blk x.A = some k → R k
  nc : x.n ≤ x.c
  cm : x.c ≤ maxLen
structure Rf (w : World) (R : Nat → Prop) (f : Fi) (x y z : Sl) : Prop where
  x : Rs w R x f.fa
  y : Rs w R y f.mo
  z : Rs w R z f.ot
def rdc (D : Dsk) (x y z : Nat → Sl) (lv : Int) : List Value :=
  [(x 0).v, (x 1).v, (y 0).v, (y 1).v, (z 0).v, (z 1).v, .bool (D.f 0).is, .bool (D.f 1).is, .int .i64 D.lim, .int .i64 lv, .bool D.armed, .bool D.dead]
structure RD (w : World) (r : Nat) (R : Nat → Prop) (x y z : Nat → Sl) (lv : Int) (D : Dsk) : Prop where
  b : Blk w r 35 (rdc D x y z lv).toArray
  f : ∀ i, i < 2 → Rf w R (D.f i) (x i) (y i) (z i)
  nr : ¬ R r
  lt : ∀ k, R k → k < w.heap.size
  lv : D.armed = true → D.dead = false → lv = D.lf
  ok : D.Ok
section
variable {w w' w2 : World} {r : Nat} {R T : Nat → Prop} {x y z : Nat → Sl} {lv : Int} {D : Dsk} {a : Sl} {l : List UInt8} {f : Fi} {b c : Sl}
theorem Rs.n (h : Rs w R a l) : a.n = l.length := by have := h.rd.len; rw [vbs_len] at this; exact this.symm
theorem Rs.chg (h : Rs w R a l) (ht : Chg w w' T) (hs : ∀ k, R k → ¬ T k) : Rs w' R a l := ⟨(h.rd.chg (Nat.le_refl _) ht fun g e => hs g (h.s g e)).mono ht.size, h.s, h.nc, h.cm⟩
theorem Rs.mono (h : Rs w R a l) (k : ∀ i, R i → T i) : Rs w T a l := ⟨h.rd, fun i e => k i (h.s i e), h.nc, h.cm⟩
theorem Rs.turn0 (h : Rs w R a l) (ht : Turn w w' none) : Rs w' R a l := h.chg (T := fun _ => False) (Chg.of0 ht _) fun _ _ h => h
theorem Rs.nil (w : World) (R : Nat → Prop) : Rs w R ⟨none, 0, 0⟩ [] := ⟨Rd.none_ w _ 1 0, (fun k e => by cases e), Nat.le_refl _, Nat.zero_le _⟩
theorem Rf.chg (h : Rf w R f a b c) (ht : Chg w w' T) (hs : ∀ k, R k → ¬ T k) : Rf w' R f a b c := ⟨h.x.chg ht hs, h.y.chg ht hs, h.z.chg ht hs⟩
theorem Rf.mono (h : Rf w R f a b c) (k : ∀ i, R i → T i) : Rf w T f a b c := ⟨h.x.mono k, h.y.mono k, h.z.mono k⟩
theorem RD.chg (h : RD w r R x y z lv D) (ht : Chg w w' T) (hr : ¬ T r) (hs : ∀ k, R k → ¬ T k) : RD w' r R x y z lv D :=
  ⟨h.b.chg ht hr, fun i hi => (h.f i hi).chg ht hs, h.nr, fun k hk => Nat.lt_of_lt_of_le (h.lt k hk) ht.size, h.lv, h.ok⟩
theorem RD.turn0 (h : RD w r R x y z lv D) (ht : Turn w w' none) : RD w' r R x y z lv D := h.chg (T := fun _ => False) (Chg.of0 ht _) (fun h => h) fun _ _ h => h
theorem RD.own (h : RD w r R x y z lv D) {D2 : Dsk} {lv2 : Int} (ht : Turn w w' (some r)) (hb : Blk w' r 35 (rdc D2 x y z lv2).toArray) (hf : D2.f = D.f) (hl : D2.armed = true → D2.dead = false → lv2 = D2.lf) (hk : D2.Ok) : RD w' r R x y z lv2 D2 :=
  ⟨hb, fun i hi => by rw [hf]; exact (h.f i hi).chg (T := fun k => k = r) (Chg.of ht fun i e => (by injection e with e; exact e.symm)) (fun k hk e => h.nr (e ▸ hk)), h.nr, fun k hk => Nat.lt_of_lt_of_le (h.lt k hk) ht.size, hl, hk⟩
/-- File j gives place to another one. -/
theorem RD.fput (h : RD w r R x y z lv D) {j : Nat} (hj : j < 2) (t2 : Turn w w2 none) (t3 : Turn w2 w' (some r)) (hb : Blk w' r 35 (rdc (D.put j f) (upd x j a) (upd y j b) (upd z j c) lv).toArray)
    (hf : Rf w2 (fun k => R k ∨ (w.heap.size ≤ k ∧ k < w2.heap.size)) f a b c) (hk : f.Ok) : RD w' r (fun k => R k ∨ (w.heap.size ≤ k ∧ k < w2.heap.size)) (upd x j a) (upd y j b) (upd z j c) lv (D.put j f) := by
  have hl := h.b.lt
  have s2 := t2.size
  have s3 := t3.size
  have ct : Chg w2 w' (fun k => k = r) := Chg.of t3 fun i e => by injection e with e; exact e.symm
  have nr : ∀ k, (R k ∨ (w.heap.size ≤ k ∧ k < w2.heap.size)) → ¬ k = r := fun k hk e => hk.elim (fun h2 => h.nr (e ▸ h2)) (fun h2 => by omega)
  refine ⟨hb, fun i hi => ?_, fun e => nr r e rfl, fun k hk => hk.elim (fun h2 => by have := h.lt k h2; omega) (fun h2 => by omega), h.lv, h.ok.put hk⟩
  by_cases hij : i = j
  · subst hij
    show Rf w' _ (upd D.f i f i) (upd x i a i) (upd y i b i) (upd z i c i)
    rw [upd_same, upd_same, upd_same, upd_same]
    exact hf.chg ct nr
  · show Rf w' _ (upd D.f j f i) (upd x j a i) (upd y j b i) (upd z j c i)
    rw [upd_ne _ _ hij, upd_ne _ _ hij, upd_ne _ _ hij, upd_ne _ _ hij]
    exact (((h.f i hi).chg (T := fun _ => False) (Chg.of0 t2 _) fun _ _ h => h).mono (fun k hk => .inl hk)).chg ct nr
end

set_option maxRecDepth 100000 in
set_option maxHeartbeats 800000 in
theorem rnew_any (lim : Int) (w : World) :
    Calls Try.prog 9 #[.int .i64 lim] w fun e w' => ∃ r, w.heap.size ≤ r ∧ e = .returned (.pointer (some ⟨r, 0, none⟩)) ∧ RD w' r (fun _ => False) (fun _ => ⟨none, 0, 0⟩) (fun _ => ⟨none, 0, 0⟩) (fun _ => ⟨none, 0, 0⟩) 0 (newD lim) ∧ Turn w w' none := by
  have hz : ∀ L, Try.prog.built 35 [(4, .int .i64 L)] = some ([.slice none 0 0, .slice none 0 0, .slice none 0 0, .slice none 0 0, .slice none 0 0, .slice none 0 0, .bool false, .bool false, .int .i64 L, .int .i64 0, .bool false, .bool false] : List Value).toArray := fun L => by kernel_rfl
  have key : ∀ L, L = (newD lim).lim → ∀ r w', w.heap.size = r → Blk w' r 35 ([.slice none 0 0, .slice none 0 0, .slice none 0 0, .slice none 0 0, .slice none 0 0, .slice none 0 0, .bool false, .bool false, .int .i64 L, .int .i64 0, .bool false, .bool false] : List Value).toArray → Turn w w' none →
      RD w' r (fun _ => False) (fun _ => ⟨none, 0, 0⟩) (fun _ => ⟨none, 0, 0⟩) (fun _ => ⟨none, 0, 0⟩) 0 (newD lim) := by
    intro L hL r w' hg hb ht
    subst hL
    exact ⟨hb, fun i _ => ⟨Rs.nil _ _, Rs.nil _ _, Rs.nil _ _⟩, fun h => h, fun _ h => h.elim, (fun h => by simp [newD] at h), newD_ok lim⟩
  have hq : lim < 0 ∨ (¬ lim < 0 ∧ 16777216 < lim) ∨ (¬ lim < 0 ∧ ¬ 16777216 < lim) := by omega
  rcases hq with hq | ⟨hq, hq2⟩ | ⟨hq, hq2⟩
  · have e : 0 = (newD lim).lim := by simp only [newD]; rw [if_pos hq]
    have E := hid e
    clear e
    go_enter Try.func9, Try.ntmps9
    go_wp2_with (first
      | (refine wp_bd rfl 35 _ rfl _ rfl _ (hz _) ?_)
      | (refine wp_bx rfl 35 _ rfl rfl ?_; intro r w1 hg hb1 ht1))
    go_ret
    exact ⟨r, by omega, rfl, key _ E.out r w1 hg hb1 ht1, ht1⟩
  · have e : 16777216 = (newD lim).lim := by simp only [newD]; rw [if_neg hq, if_pos hq2]
    have E := hid e
    clear e
    go_enter Try.func9, Try.ntmps9
    go_wp2_with (first
      | (refine wp_bd rfl 35 _ rfl _ rfl _ (hz _) ?_)
      | (refine wp_bx rfl 35 _ rfl rfl ?_; intro r w1 hg hb1 ht1))
    go_ret
    exact ⟨r, by omega, rfl, key _ E.out r w1 hg hb1 ht1, ht1⟩
  · have e : lim = (newD lim).lim := by simp only [newD]; rw [if_neg hq, if_neg hq2]
    have E := hid e
    clear e
    go_enter Try.func9, Try.ntmps9
    go_wp2_with (first
      | (refine wp_bd rfl 35 _ rfl _ rfl _ (hz _) ?_)
      | (refine wp_bx rfl 35 _ rfl rfl ?_; intro r w1 hg hb1 ht1))
    go_ret
    exact ⟨r, by omega, rfl, key _ E.out r w1 hg hb1 ht1, ht1⟩

set_option maxRecDepth 100000 in
set_option maxHeartbeats 1600000 in
theorem rarm_any {w : World} {r : Nat} {R : Nat → Prop} {x y z : Nat → Sl} {lv : Int} {D : Dsk} (h : RD w r R x y z lv D) (c : Int) (hc : c ≤ 9223372036854775807) :
    Calls Try.prog 22 #[.pointer (some ⟨r, 0, none⟩), .int .i64 c] w fun e w' => e = .returned (.tuple #[]) ∧ Turn w w' (some r) ∧ ∃ lv', RD w' r R x y z lv' (D.arm c) := by
  have f10 := h.b.frozen 10
  have c10 := h.b.ats (j := 10) (v := .bool D.armed) rfl
  have hb10 := h.b.sets 10 (.bool true)
  have d9 := hb10.ats (j := 9) (v := .int .i64 lv) rfl
  have f9 := hb10.frozen 9
  have hp : ∀ q, q = (D.arm c).lf → RD ((w.setCell ⟨r, 10, none⟩ (.bool true)).setCell ⟨r, 9, none⟩ (.int .i64 q)) r R x y z q (D.arm c) := fun q hq =>
    h.own ((Blk.setTurn w r 10 _).trans (Blk.setTurn _ r 9 _)) (hb10.sets 9 (.int .i64 q)) rfl (fun _ _ => hq) (h.ok.arm hc)
  have hm0 : c < 0 → 0 = (D.arm c).lf := fun h => by simp only [Dsk.arm]; rw [if_pos h]
  have hm1 : 0 ≤ c → c = (D.arm c).lf := fun h => by simp only [Dsk.arm]; rw [if_neg (by omega)]
  have H0 := hid hm0
  have H1 := hid hm1
  clear hm0 hm1
  by_cases hq : c < 0
  · go_enter Try.func22, Try.ntmps22
    go_wp2
    go_end0
    exact ⟨rfl, (Blk.setTurn w r 10 _).trans (Blk.setTurn _ r 9 _), _, hp _ (H0.out hq)⟩
  · have hq2 : 0 ≤ c := by omega
    go_enter Try.func22, Try.ntmps22
    go_wp2
    go_end0
    exact ⟨rfl, (Blk.setTurn w r 10 _).trans (Blk.setTurn _ r 9 _), _, hp _ (H1.out hq2)⟩
end Go.Proofs.Ytogajpiefegdeaa
