/-
  Layer 14: the walk of DiskLimit.
-/
import Derived.Test.YtogajpiefegdeaaDkSb
namespace Go.Proofs.Ytogajpiefegdeaa
set_option linter.unusedSimpArgs false
set_option linter.unusedVariables false
open Go.RowKit

theorem put_size (D : Dsk) {j : Nat} (hj : j < 2) (x : Fi) : (D.put j x).size + (D.f j).all.length = D.size + x.all.length := by
  have e : ∀ i, (D.put j x).f i = if i = j then x else D.f i := fun i => rfl
  unfold Dsk.size
  rw [e 0, e 1]
  obtain rfl | rfl : j = 0 ∨ j = 1 := by omega
  · simp; omega
  · simp; omega
theorem cnt_size (D : Dsk) : D.cnt.size = D.size := by unfold Dsk.size; rw [D.cnt_f]
theorem put_lim (D : Dsk) (j : Nat) (x : Fi) : (D.put j x).lim = D.lim := rfl
theorem act_lim (D : Dsk) (k f m : Int) (b : List UInt8) (hk : k ≠ 5) (h : (D.size : Int) ≤ D.lim) : ((D.act k f m b).size : Int) ≤ D.lim ∧ (D.act k f m b).lim = D.lim := by
  have hcn : (D.cnt.size : Int) ≤ D.lim ∧ D.cnt.lim = D.lim := by rw [cnt_size, D.cnt_lim]; exact ⟨h, rfl⟩
  have key : ∀ (j : Nat) (x : Fi), j < 2 → (D.size : Int) + x.all.length ≤ D.lim + (D.f j).all.length → ((D.cnt.put j x).size : Int) ≤ D.lim ∧ (D.cnt.put j x).lim = D.lim := fun j x hj hx => by
    have h1 := put_size D.cnt hj x
    rw [cnt_size, D.cnt_f] at h1
    exact ⟨by omega, by rw [put_lim, D.cnt_lim]⟩
  unfold Dsk.act
  split
  · unfold Dsk.wr
    split
    · rename_i h0 he
      obtain ⟨h1, h2⟩ := wErr_zero he
      obtain ⟨_, n0, n1⟩ := cErr_zero h1
      refine key _ _ (by omega) ?_
      rw [all_mo, List.length_append]
      omega
    · exact hcn
  · split
    · unfold Dsk.rp
      split
      · rename_i h0 he
        obtain ⟨h1, h2⟩ := rErr_zero he
        obtain ⟨_, n0, n1⟩ := cErr_zero h1
        refine key _ _ (by omega) ?_
        have e : (⟨(D.f f.toNat).fa, [], b, true⟩ : Fi).all = b := by simp [Fi.all]
        rw [e]
        have hs : D.size = (D.f f.toNat).all.length + (D.f (1 - f.toNat)).all.length := by
          obtain h3 | h3 : f.toNat = 0 ∨ f.toNat = 1 := by omega
          · rw [h3]; rfl
          · rw [h3]; unfold Dsk.size; show _ = _ + (D.f 0).all.length; omega
        omega
      · exact hcn
    · split
      · unfold Dsk.sy
        split
        · rename_i h0 he
          obtain ⟨_, n0, n1⟩ := cErr_zero he
          refine key _ _ (by omega) ?_
          rw [stF_all]
          omega
        · exact hcn
      · split
        · exact ⟨h, rfl⟩
        · exact ⟨h, rfl⟩

set_option maxRecDepth 100000 in
set_option maxHeartbeats 12800000 in
theorem limit_walk (L : Int) (l0 : 0 ≤ L) (l1 : L ≤ 65535) (A : Option Addr) (n c : Nat) (qs : List At) (w : World) (hr : Rq w w.heap.size A n qs) (hn : n ≤ 140737488351232) :
    Calls Try.prog 6 #[.int .u16 L, .slice A n c] w fun e w' => e = .returned (.bool true) ∧ Turn w w' none := by
  have hL : (newD L).lim = L := by simp only [newD]; rw [if_neg (by omega), if_neg (by omega)]
  have hz : (newD L).size = 0 := rfl
  go_enter Try.func6, Try.ntmps6
  go_wp2_with (first
    | (go_at_call 8; refine (new_bo L w).mono ?_; rintro e w1 ⟨g, R1, rfl, h1⟩)
    | (go_at_call 9; refine (rnew_bp h1 L).mono ?_; rintro e w2 ⟨r, T2, rfl, h2⟩))
  go_loopw [7] (fun i wr => ∃ (j : Nat) (R T : Nat → Prop) (D : Dsk), j ≤ n ∧ j ≤ 60 ∧ i = .int .i64 (j : Int) ∧ Bp w wr g r R T D D ∧ Hid ((D.size : Int) ≤ D.lim ∧ D.lim = L)) (fun i _ => (n - intOf i).toNat)
  case atStart => exact ⟨0, _, _, _, by omega, by omega, rfl, h2, hid ⟨by rw [hz, hL]; exact l0, hL⟩⟩
  case round =>
    obtain ⟨j, R, T, D, hj, hj2, rfl, h, HL⟩ := hrel
    clear h1 h2 hL hz
    by_cases hjn : j < n ∧ j < 60
    · obtain ⟨hjn, hj3⟩ := hjn
      obtain ⟨b, off, a, rfl, hb, ha, hok, hrng⟩ := hr.at_ (Nat.le_refl _) hjn
      have hcs : a.cs = acc a.k a.f a.m a.A a.n a.c := rfl
      rw [hcs] at hrng
      have ck : wr.cell? ⟨b, off + j * 4, none⟩ = some (.int .i64 a.k) := hrng _ h.tw 0 _ rfl
      by_cases hk5 : a.k = 5
      · have hk6 : (a.k == 5) = true := by rw [hk5]; rfl
        go_wp2
        refine ⟨⟨j + 1, R, T, D, by omega, by omega, rfl, h, HL⟩, ?_⟩
        simp [intOf]; omega
      · have hk6 : (a.k == 5) = false := by rw [beq_eq_false_iff_ne]; exact hk5
        have hrw := hrng _ h.tw
        go_wp2_with (first
          | (refine gd_ldR (by rfl) 30 _ rfl rfl hrw Try.underlying30 rfl szAct ?_)
          | (go_at_call 10; refine (does_any h a.k a.f a.m hok.m0 hok.m1 a.A a.n a.c w.heap.size a.b hok.rd (Nat.le_refl _) hok.few hok.nc hok.cm).mono ?_; rintro e w3 ⟨rfl, R3, T3, h3⟩; obtain ⟨k1, k2⟩ := act_lim D a.k a.f a.m a.b hk5 HL.out.1; have HL3 := hid (show ((D.act a.k a.f a.m a.b).size : Int) ≤ (D.act a.k a.f a.m a.b).lim ∧ (D.act a.k a.f a.m a.b).lim = L from ⟨by rw [k2]; exact k1, k2.trans HL.out.2⟩); clear k1 k2 HL; generalize D.act a.k a.f a.m a.b = D3 at *; have hle : ¬ L < (D3.size : Int) := (by have := HL3.out; omega))
          | (go_at_call 12; refine (size_pk h3.p).mono ?_; rintro e w4 ⟨rfl, t4⟩))
        refine ⟨⟨j + 1, R3, T3, D3, by omega, by omega, rfl, h3.turn0 t4, HL3⟩, ?_⟩
        simp [intOf]; omega
    · have hcase : ¬ (j : Int) < n ∨ ((j : Int) < n ∧ ¬ (j : Int) < 60) := by omega
      rcases hcase with q | ⟨q, q2⟩
      all_goals
        go_wp2_with (first
          | (go_at_call 14; refine (dlives_any _).mono ?_; rintro e w9 ⟨rfl, t9⟩))
        go_ret
        exact ⟨rfl, h.tw.trans t9⟩
end Go.Proofs.Ytogajpiefegdeaa
