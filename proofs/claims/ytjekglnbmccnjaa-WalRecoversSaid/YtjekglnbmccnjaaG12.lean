import Derived.Test.YtjekglnbmccnjaaG11
import Derived.Test.YtjekglnbmccnjaaG8
set_option linter.unusedSimpArgs false
set_option linter.unusedVariables false
set_option linter.unusedSectionVars false
/-
  Layer 15: the document's Framed, Append, Snap (contracts).
-/
namespace Go.Proofs.Ytjekglnbmccnjaa
set_option linter.unusedSimpArgs false
set_option linter.unusedVariables false
open Go.RowKit

theorem Stq.trans {w w1 w2 : World} {R : Nat → Prop} {g : Nat} {D2 : Dsk} (hc : Chg w w1 R) {R1 : Nat → Prop} (hk : ∀ k, R1 k → R k ∨ w.heap.size ≤ k) (s : Stq w1 w2 R1 g D2) : Stq w w2 R g D2 := by
  obtain ⟨hc2, R2, hp2, hk2⟩ := s
  have := hc.size
  exact ⟨hc.trans hc2 hk, R2, hp2, fun k h => (hk2 k h).elim (hk k) fun h => .inr (by omega)⟩
theorem Rk.turn0 {w w' : World} {r : Nat} {T : Nat → Prop} {D : Dsk} (h : Rk w r T D) (ht : Turn w w' none) : Rk w' r T D := h.chg (R := fun _ => False) (Chg.of0 ht _) fun _ h => h.elim

set_option maxRecDepth 100000 in
set_option maxHeartbeats 800000 in
theorem framed_any {w : World} {gw g n : Nat} (hb : Blk w gw 74 (wlc g n).toArray) (hn : n ≤ 9223372036854775807) (A : Option Addr) (m c B : Nat) (b : List UInt8) (hr : Rd w B 1 A m (vbs b)) (hB : B ≤ w.heap.size) (hm : m ≤ 140737488351232) :
    Calls Try.prog 45 #[.pointer (some ⟨gw, 0, none⟩), .slice A m c] w fun e w' => ∃ A' c',
      e = .returned (.tuple #[.slice A' (wFr n b).1.length c', .int .i64 ((wFr n b).2 : Nat)]) ∧ Own w' w.heap.size 5 1 A' (wFr n b).1.length c' (vbs (wFr n b).1) ∧ Turn w w' none := by
  have hl := hr.len
  rw [vbs_len] at hl
  have al : ∀ (w : World) (cs : Array Value) (t : TypeId), (w.alloc (.cells cs t)).heap.size = w.heap.size + 1 := fun w cs t => Array.size_push ..
  have T0 : ∀ (w : World) cs t, Turn w (w.alloc (.cells cs t)) none := fun w cs t => (Turn.refl w none).alloc _
  have c0 := hb.ats (j := 0) (v := .pointer (some ⟨g, 0, none⟩)) rfl
  have c1 := hb.ats (j := 1) (v := .int .u64 (n : Int)) rfl
  have hb1 := fun cs t => hb.turn0 (T0 w cs t)
  have c1a := fun cs t => (hb1 cs t).ats (j := 1) (v := .int .u64 (n : Int)) rfl
  have hnil : ∀ (A : Option Addr) (w : World), Rd w w.heap.size 1 A 0 (vbs []) := fun A w => Rd.none_ w _ 1 0
  rcases pErr_wFr (n := n) b with ⟨h1, hz, h2, h3⟩ | ⟨h1, h2, h3⟩
  · have H3 := hid h3
    have H2 := hid h2
    clear h3 h2 hl
    go_enter Try.func45, Try.ntmps45
    go_wp2_with (first
      | (go_at_call 59; refine (rput_any _ _ _ _ [] _ _ (hnil _ _) (Nat.le_refl _) (by omega) (by omega) (by omega)).mono ?_; rintro e w1 ⟨A1, c1, rfl, ho1, ht1⟩; rw [Int.toNat_natCast, H2.out]))
    go_ret2
    exact ⟨none, 0, by rw [H3.out]; rfl, by rw [H3.out]; exact Own.nil _ _ _ _, (T0 _ _ _).trans ht1⟩
  · have H3 := hid h3
    have H2 := hid h2
    have hL := hid hl
    have h8 := pSize_le n
    clear h3 h2 hl
    go_enter Try.func45, Try.ntmps45
    go_wp2_with (first
      | (go_at_call 59; refine (rput_any _ _ _ _ [] _ _ (hnil _ _) (Nat.le_refl _) (by omega) (by omega) (by omega)).mono ?_; rintro e w1 ⟨A1, c1, rfl, ho1, ht1⟩; rw [Int.toNat_natCast, H2.out]; simp only [Int.toNat_natCast, List.nil_append, Nat.zero_add] at ho1 ⊢; have T1 := (T0 w _ _).trans ht1; have hr1 := hr.turn0 T1 hB)
      | (at_builtin; refine wp_app rfl _ _ _ rfl elB rfl rfl (ho1.alloc _) (hr1.alloc (Nat.le_trans hB T1.size) _) (vbs_one b) (by unfold maxLen; omega) (by omega) (by have := ht1.size; rw [al] at this; simp; omega) ?_; intro A2 c2 w2 ho2 ht2 hb2)
      | (go_at_call 60; refine (rfput_any _ _ _ [] _ _ _ (wRec n b) w2.heap.size _ (hnil _ _) (by rw [← vbs_append] at ho2; exact ho2.rd) (Nat.le_refl _) (by omega) (by omega)).mono ?_; rintro e w3 ⟨A3, c3, rfl, ho3, ht3⟩))
    go_ret2
    have T2 : Turn w w2 none := (T1.alloc _).new ht2 fun g hg => by have := (ho1.block g hg).1; rw [al] at this; omega
    exact ⟨A3, c3, by rw [H3.out]; rfl, by rw [H3.out]; exact ho3.mono T2.size, T2.trans ht3⟩

theorem Stq.hold {w w' : World} {R : Nat → Prop} {g : Nat} {D' : Dsk} {gw : Nat} {t : TypeId} {cs : Array Value} (s : Stq w w' R g D') (h : Blk w gw t cs) (hn : ¬ R gw) : Blk w' gw t cs ∧ Chg w w' R ∧ ∃ R', Rk w' g R' D' ∧ (∀ k, R' k → R k ∨ w.heap.size ≤ k) ∧ ¬ R' gw := by
  obtain ⟨hc, R', hp, hk⟩ := s
  exact ⟨h.chg hc hn, hc, R', hp, hk, fun c => (hk gw c).elim hn fun c => by have := h.lt; omega⟩
/-- What a call of a log's leaves: the disk, the next number. -/
def LqPost (R : Nat → Prop) (gw g : Nat) (w : World) (x : Int) (D' : Dsk) (n' : Nat) (e : Ending) (w' : World) : Prop :=
  e = .returned (.int .i64 x) ∧ Chg w w' (fun k => R k ∨ k = gw) ∧ ∃ R', Rk w' g R' D' ∧ (∀ k, R' k → R k ∨ w.heap.size ≤ k) ∧ Blk w' gw 74 (wlc g n').toArray ∧ ¬ R' gw
theorem lq_turn {R : Nat → Prop} {gw g n : Nat} {w w' : World} {D : Dsk} (h : Rk w g R D) (hb : Blk w gw 74 (wlc g n).toArray) (hn : ¬ R gw) (ht : Turn w w' none) (x : Int) : LqPost R gw g w x D n (.returned (.int .i64 x)) w' :=
  ⟨rfl, Chg.of0 ht _, R, h.turn0 ht, fun _ h => .inl h, hb.turn0 ht, hn⟩
theorem lq_stp {R : Nat → Prop} {gw g n : Nat} {w w1 w' : World} {D' : Dsk} (hb : Blk w gw 74 (wlc g n).toArray) (hn : ¬ R gw) (ht : Turn w w1 none) (s : Stq w1 w' R g D') (x : Int) : LqPost R gw g w x D' n (.returned (.int .i64 x)) w' := by
  obtain ⟨h1, h2, R', h3, h4, h5⟩ := s.hold (hb.turn0 ht) hn
  have := ht.size
  exact ⟨rfl, (Chg.of0 ht _).trans h2 fun i h => .inl (.inl h), R', h3, fun k hk => (h4 k hk).imp id fun h => by omega, h1, h5⟩

set_option maxRecDepth 100000 in
set_option maxHeartbeats 1600000 in
theorem rappend_any {w : World} {g gw n : Nat} {R : Nat → Prop} {D : Dsk} (h : Rk w g R D) (hb : Blk w gw 74 (wlc g n).toArray) (hR : ¬ R gw) (hn : n ≤ 9223372036854775807) (A : Option Addr) (m c B : Nat) (b : List UInt8) (hr : Rd w B 1 A m (vbs b)) (hB : B ≤ w.heap.size) (hm : m ≤ 140737488351232) :
    Calls Try.prog 26 #[.pointer (some ⟨gw, 0, none⟩), .slice A m c] w (LqPost R gw g w (D.apN n b).1 (D.apN n b).2.1 (D.apN n b).2.2) := by
  have hnum := framed_any hb hn A m c B b hr hB hm
  have c0 := hb.ats (j := 0) (v := .pointer (some ⟨g, 0, none⟩)) rfl
  have c1 := hb.ats (j := 1) (v := .int .u64 (n : Int)) rfl
  have hlen := wFr_len n b
  have hlt := @wFr_lt n b
  unfold Dsk.apN
  obtain ⟨X, E, hX⟩ : ∃ X E, wFr n b = (X, E) := ⟨_, _, rfl⟩
  rw [hX] at hnum hlen hlt ⊢
  have hlen : X.length ≤ 1048600 := hlen
  by_cases hE : E = 0
  · subst hE
    have hlt := hlt rfl
    rw [if_neg (by simp)]
    have hw : ∀ w1 A1 c2, Turn w w1 none → Own w1 w.heap.size 5 1 A1 X.length c2 (vbs X) → Calls Try.prog 46 #[.pointer (some ⟨g, 0, none⟩), .int .i64 0, .slice A1 X.length c2] w1 fun e w' => e = .returned (.int .i64 (D.wErr 0 X)) ∧ Stq w1 w' R g (D.wr 0 X) := fun w1 A1 c2 ht ho =>
      rwrite_any (h.turn0 ht) 0 A1 X.length c2 w1.heap.size X ho.rd (Nat.le_refl _) (by omega) fun k e _ hk => by
        have := (ho.block k e).1
        have := h.lt hk
        omega
    by_cases h1 : D.wErr 0 X = 0
    · rw [if_neg (by simp [h1])]
      rw [h1] at hw
      by_cases h2 : (D.wr 0 X).cErr 0 = 0
      · rw [if_neg (by simp [h2])]
        have hs : ∀ w1 R1, Rk w1 g R1 (D.wr 0 X) → Calls Try.prog 44 #[.pointer (some ⟨g, 0, none⟩), .int .i64 0] w1 fun e w' => e = .returned (.int .i64 0) ∧ Stq w1 w' R1 g ((D.wr 0 X).sy 0) := fun w1 R1 hp => by
          have := rsync_any hp 0
          rw [h2] at this
          exact this
        go_enter Try.func26, Try.ntmps26
        go_wp2_with (first
          | (go_at_call 45; refine hnum.mono ?_; rintro e w1 ⟨A1, c2, rfl, ho1, t1⟩; have c0a := (hb.turn0 t1).ats (j := 0) (v := .pointer (some ⟨g, 0, none⟩)) rfl)
          | (go_at_call 46; refine (hw _ _ _ t1 ho1).mono ?_; rintro e w2 ⟨rfl, s2⟩; obtain ⟨hb2, hc2, R2, hp2, hk2, hn2⟩ := s2.hold (hb.turn0 t1) hR; have c0b := hb2.ats (j := 0) (v := .pointer (some ⟨g, 0, none⟩)) rfl)
          | (go_at_call 44; refine (hs _ _ hp2).mono ?_; rintro e w3 ⟨rfl, s3⟩; obtain ⟨hb3, hc3, R3, hp3, hk3, hn3⟩ := s3.hold hb2 hn2; have c1c := hb3.ats (j := 1) (v := .int .u64 (n : Int)) rfl; have f1c := hb3.frozen 1))
        go_ret
        have hb4 : Blk (w3.setCell ⟨gw, 1, none⟩ (.int .u64 ((n : Int) + 1))) gw 74 (wlc g (n + 1)).toArray := hb3.sets 1 _
        have t4 : Turn w3 (w3.setCell ⟨gw, 1, none⟩ (.int .u64 ((n : Int) + 1))) (some gw) := Blk.setTurn _ _ _ _
        have s1 := t1.size
        have s2 := hc2.size
        refine ⟨rfl, (((Chg.of0 t1 _).trans hc2 fun i h => .inl (.inl h)).trans hc3 fun i hi => ?_).trans (Chg.of (S := fun k => k = gw) t4 fun i e => (by injection e with e; exact e.symm)) fun i hi => .inl (.inr hi), R3, hp3.chg (Chg.of (S := fun k => k = gw) t4 fun i e => (by injection e with e; exact e.symm)) (fun k e hk => hn3 (e ▸ hk)), fun k hk => ?_, hb4, hn3⟩
        · exact (hk2 i hi).imp .inl fun h => by omega
        · rcases hk3 k hk with q | q
          · exact (hk2 k q).imp id fun h => by omega
          · exact .inr (by omega)
      · rw [if_pos h2]
        obtain ⟨E2, hE2⟩ : ∃ E2, (D.wr 0 X).cErr 0 = E2 := ⟨_, rfl⟩
        rw [hE2] at h2 ⊢
        have hs : ∀ w1 R1, Rk w1 g R1 (D.wr 0 X) → Calls Try.prog 44 #[.pointer (some ⟨g, 0, none⟩), .int .i64 0] w1 fun e w' => e = .returned (.int .i64 E2) ∧ Stq w1 w' R1 g ((D.wr 0 X).sy 0) := fun w1 R1 hp => by
          have := rsync_any hp 0
          rw [hE2] at this
          exact this
        have hne : (E2 == 0) = false := by rw [beq_eq_false_iff_ne]; exact h2
        clear hE2
        go_enter Try.func26, Try.ntmps26
        go_wp2_with (first
          | (go_at_call 45; refine hnum.mono ?_; rintro e w1 ⟨A1, c2, rfl, ho1, t1⟩; have c0a := (hb.turn0 t1).ats (j := 0) (v := .pointer (some ⟨g, 0, none⟩)) rfl)
          | (go_at_call 46; refine (hw _ _ _ t1 ho1).mono ?_; rintro e w2 ⟨rfl, s2⟩; obtain ⟨hb2, hc2, R2, hp2, hk2, hn2⟩ := s2.hold (hb.turn0 t1) hR; have c0b := hb2.ats (j := 0) (v := .pointer (some ⟨g, 0, none⟩)) rfl)
          | (go_at_call 44; refine (hs _ _ hp2).mono ?_; rintro e w3 ⟨rfl, s3⟩))
        go_ret
        exact lq_stp hb hR t1 (Stq.trans hc2 hk2 s3) _
    · rw [if_pos h1]
      obtain ⟨E2, hE2⟩ : ∃ E2, D.wErr 0 X = E2 := ⟨_, rfl⟩
      rw [hE2] at h1 hw ⊢
      have hne : (E2 == 0) = false := by rw [beq_eq_false_iff_ne]; exact h1
      clear hE2
      go_enter Try.func26, Try.ntmps26
      go_wp2_with (first
        | (go_at_call 45; refine hnum.mono ?_; rintro e w1 ⟨A1, c2, rfl, ho1, t1⟩; have c0a := (hb.turn0 t1).ats (j := 0) (v := .pointer (some ⟨g, 0, none⟩)) rfl)
        | (go_at_call 46; refine (hw _ _ _ t1 ho1).mono ?_; rintro e w2 ⟨rfl, s2⟩))
      go_ret
      exact lq_stp hb hR t1 s2 _
  · rw [if_pos hE]
    have hne : ((E : Int) == 0) = false := by rw [beq_eq_false_iff_ne]; omega
    have hne2 : ¬ ((E : Int) = 0) := by omega
    go_enter Try.func26, Try.ntmps26
    go_wp2_with (first
      | (go_at_call 45; refine hnum.mono ?_; rintro e w1 ⟨A1, c2, rfl, ho1, t1⟩))
    go_ret
    exact lq_turn h hb hR t1 _

set_option maxRecDepth 100000 in
set_option maxHeartbeats 1600000 in
theorem rsnap_any {w : World} {g gw n : Nat} {R : Nat → Prop} {D : Dsk} (h : Rk w g R D) (hb : Blk w gw 74 (wlc g n).toArray) (hR : ¬ R gw) (hn : n ≤ 9223372036854775807) (A : Option Addr) (m c B : Nat) (b : List UInt8) (hr : Rd w B 1 A m (vbs b)) (hB : B ≤ w.heap.size) (hm : m ≤ 140737488351232) :
    Calls Try.prog 27 #[.pointer (some ⟨gw, 0, none⟩), .slice A m c] w (LqPost R gw g w (D.snN n b).1 (D.snN n b).2 n) := by
  have hnum := framed_any hb hn A m c B b hr hB hm
  have hlen := wFr_len n b
  unfold Dsk.snN
  obtain ⟨X, E, hX⟩ : ∃ X E, wFr n b = (X, E) := ⟨_, _, rfl⟩
  rw [hX] at hnum hlen ⊢
  have hlen : X.length ≤ 1048600 := hlen
  by_cases hE : E = 0
  · subst hE
    rw [if_neg (by simp)]
    have hw : ∀ w1 A1 c2, Turn w w1 none → Own w1 w.heap.size 5 1 A1 X.length c2 (vbs X) → Calls Try.prog 43 #[.pointer (some ⟨g, 0, none⟩), .int .i64 1, .slice A1 X.length c2] w1 fun e w' => e = .returned (.int .i64 (D.rErr 1 X)) ∧ Stq w1 w' R g (D.rp 1 X) := fun w1 A1 c2 ht ho =>
      rreplace_any (h.turn0 ht) 1 A1 X.length c2 w1.heap.size X ho.rd (Nat.le_refl _) (by omega) fun k e _ hk => by
        have := (ho.block k e).1
        have := h.lt hk
        omega
    have hs1 : ∀ w1 R1, Rk w1 g R1 (D.rp 1 X) → Calls Try.prog 44 #[.pointer (some ⟨g, 0, none⟩), .int .i64 1] w1 fun e w' => e = .returned (.int .i64 ((D.rp 1 X).cErr 1)) ∧ Stq w1 w' R1 g ((D.rp 1 X).sy 1) := fun w1 R1 hp => rsync_any hp 1
    have hw2 : ∀ w1 R1, Rk w1 g R1 ((D.rp 1 X).sy 1) → Calls Try.prog 43 #[.pointer (some ⟨g, 0, none⟩), .int .i64 0, .slice none 0 0] w1 fun e w' => e = .returned (.int .i64 (((D.rp 1 X).sy 1).rErr 0 [])) ∧ Stq w1 w' R1 g (((D.rp 1 X).sy 1).rp 0 []) := fun w1 R1 hp =>
      rreplace_any hp 0 none 0 0 w1.heap.size [] (Rd.none_ _ _ 1 0) (Nat.le_refl _) (by omega) fun k e => by cases e
    have hs2 : ∀ w1 R1, Rk w1 g R1 (((D.rp 1 X).sy 1).rp 0 []) → Calls Try.prog 44 #[.pointer (some ⟨g, 0, none⟩), .int .i64 0] w1 fun e w' => e = .returned (.int .i64 ((((D.rp 1 X).sy 1).rp 0 []).cErr 0)) ∧ Stq w1 w' R1 g ((((D.rp 1 X).sy 1).rp 0 []).sy 0) := fun w1 R1 hp => rsync_any hp 0
    unfold Dsk.snapD
    generalize D.rp 1 X = D1 at *
    generalize D1.sy 1 = D2 at *
    generalize D2.rp 0 [] = D3 at *
    generalize D3.sy 0 = D4 at *
    obtain ⟨E1, hE1⟩ : ∃ E1, D.rErr 1 X = E1 := ⟨_, rfl⟩
    obtain ⟨E2, hE2⟩ : ∃ E2, D1.cErr 1 = E2 := ⟨_, rfl⟩
    obtain ⟨E3, hE3⟩ : ∃ E3, D2.rErr 0 [] = E3 := ⟨_, rfl⟩
    obtain ⟨E4, hE4⟩ : ∃ E4, D3.cErr 0 = E4 := ⟨_, rfl⟩
    rw [hE1, hE2, hE3, hE4]
    rw [hE1] at hw
    rw [hE2] at hs1
    rw [hE3] at hw2
    rw [hE4] at hs2
    clear hE1 hE2 hE3 hE4
    by_cases h1 : E1 = 0
    · subst h1
      rw [if_neg (by simp)]
      by_cases h2 : E2 = 0
      · subst h2
        rw [if_neg (by simp)]
        by_cases h3 : E3 = 0
        · subst h3
          rw [if_neg (by simp)]
          go_enter Try.func27, Try.ntmps27
          go_wp2_with (first
            | (go_at_call 45; refine hnum.mono ?_; rintro e w1 ⟨A1, c2, rfl, ho1, t1⟩; have c0a := (hb.turn0 t1).ats (j := 0) (v := .pointer (some ⟨g, 0, none⟩)) rfl)
            | (go_at_call 43; first | (refine (hw2 _ _ hp3).mono ?_; rintro e w4 ⟨rfl, s4⟩; obtain ⟨hb4, hc4, R4, hp4, hk4, hn4⟩ := s4.hold hb3 hn3; have c0d := hb4.ats (j := 0) (v := .pointer (some ⟨g, 0, none⟩)) rfl) | (refine (hw _ _ _ t1 ho1).mono ?_; rintro e w2 ⟨rfl, s2⟩; obtain ⟨hb2, hc2, R2, hp2, hk2, hn2⟩ := s2.hold (hb.turn0 t1) hR; have c0b := hb2.ats (j := 0) (v := .pointer (some ⟨g, 0, none⟩)) rfl))
            | (go_at_call 44; first | (refine (hs2 _ _ hp4).mono ?_; rintro e w5 ⟨rfl, s5⟩) | (refine (hs1 _ _ hp2).mono ?_; rintro e w3 ⟨rfl, s3⟩; obtain ⟨hb3, hc3, R3, hp3, hk3, hn3⟩ := s3.hold hb2 hn2; have c0c := hb3.ats (j := 0) (v := .pointer (some ⟨g, 0, none⟩)) rfl)))
          go_ret
          exact lq_stp hb hR t1 (Stq.trans hc2 hk2 (Stq.trans hc3 hk3 (Stq.trans hc4 hk4 s5))) _
        · rw [if_pos h3]
          have hne : (E3 == 0) = false := by rw [beq_eq_false_iff_ne]; exact h3
          go_enter Try.func27, Try.ntmps27
          go_wp2_with (first
            | (go_at_call 45; refine hnum.mono ?_; rintro e w1 ⟨A1, c2, rfl, ho1, t1⟩; have c0a := (hb.turn0 t1).ats (j := 0) (v := .pointer (some ⟨g, 0, none⟩)) rfl)
            | (go_at_call 43; first | (refine (hw2 _ _ hp3).mono ?_; rintro e w4 ⟨rfl, s4⟩) | (refine (hw _ _ _ t1 ho1).mono ?_; rintro e w2 ⟨rfl, s2⟩; obtain ⟨hb2, hc2, R2, hp2, hk2, hn2⟩ := s2.hold (hb.turn0 t1) hR; have c0b := hb2.ats (j := 0) (v := .pointer (some ⟨g, 0, none⟩)) rfl))
            | (go_at_call 44; (refine (hs1 _ _ hp2).mono ?_; rintro e w3 ⟨rfl, s3⟩; obtain ⟨hb3, hc3, R3, hp3, hk3, hn3⟩ := s3.hold hb2 hn2; have c0c := hb3.ats (j := 0) (v := .pointer (some ⟨g, 0, none⟩)) rfl)))
          go_ret
          exact lq_stp hb hR t1 (Stq.trans hc2 hk2 (Stq.trans hc3 hk3 s4)) _
      · rw [if_pos h2]
        have hne : (E2 == 0) = false := by rw [beq_eq_false_iff_ne]; exact h2
        go_enter Try.func27, Try.ntmps27
        go_wp2_with (first
          | (go_at_call 45; refine hnum.mono ?_; rintro e w1 ⟨A1, c2, rfl, ho1, t1⟩; have c0a := (hb.turn0 t1).ats (j := 0) (v := .pointer (some ⟨g, 0, none⟩)) rfl)
          | (go_at_call 43; (refine (hw _ _ _ t1 ho1).mono ?_; rintro e w2 ⟨rfl, s2⟩; obtain ⟨hb2, hc2, R2, hp2, hk2, hn2⟩ := s2.hold (hb.turn0 t1) hR; have c0b := hb2.ats (j := 0) (v := .pointer (some ⟨g, 0, none⟩)) rfl))
          | (go_at_call 44; (refine (hs1 _ _ hp2).mono ?_; rintro e w3 ⟨rfl, s3⟩)))
        go_ret
        exact lq_stp hb hR t1 (Stq.trans hc2 hk2 s3) _
    · rw [if_pos h1]
      have hne : (E1 == 0) = false := by rw [beq_eq_false_iff_ne]; exact h1
      go_enter Try.func27, Try.ntmps27
      go_wp2_with (first
        | (go_at_call 45; refine hnum.mono ?_; rintro e w1 ⟨A1, c2, rfl, ho1, t1⟩; have c0a := (hb.turn0 t1).ats (j := 0) (v := .pointer (some ⟨g, 0, none⟩)) rfl)
        | (go_at_call 43; (refine (hw _ _ _ t1 ho1).mono ?_; rintro e w2 ⟨rfl, s2⟩)))
      go_ret
      exact lq_stp hb hR t1 s2 _
  · rw [if_pos hE]
    have hne : ((E : Int) == 0) = false := by rw [beq_eq_false_iff_ne]; omega
    have hne2 : ¬ ((E : Int) = 0) := by omega
    go_enter Try.func27, Try.ntmps27
    go_wp2_with (first
      | (go_at_call 45; refine hnum.mono ?_; rintro e w1 ⟨A1, c2, rfl, ho1, t1⟩))
    go_ret
    exact lq_turn h hb hR t1 _
end Go.Proofs.Ytjekglnbmccnjaa
/-
  Layer 15: the document's Open, its end (from the cut on).
-/
namespace Go.Proofs.Ytjekglnbmccnjaa
set_option linter.unusedSimpArgs false
set_option linter.unusedVariables false
open Go.RowKit

theorem bdW2 {g : Nat} {N : Int} : Try.prog.built 74 [(0, .pointer (some ⟨g, 0, none⟩)), (1, .int .u64 N)] = some ([.pointer (some ⟨g, 0, none⟩), .int .u64 N] : List Value).toArray := by kernel_rfl
/-- The code behind its first n parts. -/
def tailO : Nat → Code → Code
  | 0, c => c
  | n + 1, .seq _ c => tailO n c
  | _, c => c
/-- The code of the nth part. -/
def headO (n : Nat) (c : Code) : Code := match tailO n c with
  | .seq r _ => r
  | c => c
theorem of_codeO {P : Program} {C C' : Code} {Q : Exit → Act → World → Prop} {a : Act} {w : World} (h : C = C') (g : Code.wp P C' Q a w) : Code.wp P C Q a w := h ▸ g
noncomputable def roB : Code := (Try.f23.body).getD .skip
/-- What the document's Open leaves: nothing is had, or a log, and what is kept. -/
def RoNo (T : Nat → Prop) (r : Nat) (D : Dsk) (w : World) (e : Ending) (w' : World) : Prop :=
  e = .returned (.tuple #[.pointer none, .agg ([.bool false, .slice none 0 0, .slice none 0 0, .int .u64 0] : List Value).toArray, .int .i64 D.openD.1]) ∧ Stq w w' T r D.openD.2.2
def RoYes (T : Nat → Prop) (r : Nat) (k : Kp) (D2 : Dsk) (w : World) (e : Ending) (w' : World) : Prop :=
  ∃ gw s x vs Q T', e = .returned (.tuple #[.pointer (some ⟨gw, 0, none⟩), .agg (kpc k s x).toArray, .int .i64 0]) ∧ Chg w w' T ∧ Rk w' r T' D2 ∧ (∀ i, T' i → T i ∨ w.heap.size ≤ i) ∧ Kin w' Q k s x vs ∧ Blk w' gw 74 (wlc r k.next).toArray ∧ (∀ i, (Q i ∨ i = gw) → w.heap.size ≤ i ∧ i < w'.heap.size ∧ ¬ T' i) ∧ ¬ Q gw ∧ k.next ≤ 9223372036854775807
def RoPost (T : Nat → Prop) (r : Nat) (D : Dsk) (w : World) (e : Ending) (w' : World) : Prop :=
  (D.openD.2.1 = none ∧ D.openD.1 ≠ 0 ∧ RoNo T r D w e w') ∨ (∃ k D2, D.openD = (0, some k, D2) ∧ RoYes T r k D2 w e w')
theorem Stq.post {w w1 w2 : World} {R : Nat → Prop} {g : Nat} {D2 : Dsk} (s : Stq w w1 R g D2) (ht : Turn w1 w2 none) : Stq w w2 R g D2 := by
  obtain ⟨hc2, R2, hp2, hk2⟩ := s
  exact ⟨hc2.trans (Chg.of0 ht (fun _ => False)) fun i h => h.elim, R2, hp2.turn0 ht, hk2⟩
theorem Stq.refl {w : World} {T : Nat → Prop} {r : Nat} {D : Dsk} (h : Rk w r T D) : Stq w w T r D := ⟨Chg.refl w T, T, h, fun _ h => .inl h⟩
theorem Stq.late {w w5 w6 w8 : World} {T : Nat → Prop} {r gR : Nat} {D2 : Dsk} (t5 : Turn w w5 none) (s : Stq w5 w6 T r D2) (ht : Turn w6 w8 (some gR)) (h1 : w.heap.size ≤ gR) (h2 : gR < w5.heap.size) (hlt : ∀ k, T k → k < w.heap.size) : Stq w w8 T r D2 := by
  obtain ⟨hc2, R2, hp2, hk2⟩ := s
  have := t5.size
  exact ⟨((Chg.of0 t5 T).trans hc2 fun i h => .inl h).trans (T := fun i => i = gR) (Chg.of ht fun i e => by injection e with e; exact e.symm) fun i hi => .inr (by omega), R2, hp2.chg (R := fun i => i = gR) (Chg.of ht fun i e => by injection e with e; exact e.symm) (fun i e hi => (hk2 i hi).elim (fun h => by have := hlt i h; omega) fun h => by omega), fun k hk => (hk2 k hk).imp id fun h => by omega⟩
theorem ro_no {w w' : World} {r : Nat} {T : Nat → Prop} {D D2 : Dsk} {E : Int} (hO : D.openD = (E, none, D2)) (hE : E ≠ 0) (s : Stq w w' T r D2) : RoPost T r D w (.returned (.tuple #[.pointer none, .agg ([.bool false, .slice none 0 0, .slice none 0 0, .int .u64 0] : List Value).toArray, .int .i64 E])) w' :=
  .inl ⟨by rw [hO], by rw [hO]; exact hE, by unfold RoNo; rw [hO]; exact ⟨rfl, s⟩⟩
theorem ro_yes {w w6 w7 w8 w9 : World} {r gR gw : Nat} {T T7 : Nat → Prop} {D D2 : Dsk} {k : Kp} {s x : Sl} {vs : List Value} {Q : Nat → Prop} (h : Rk w r T D) (t6 : Turn w w6 none) (r1 : w.heap.size ≤ gR) (r2 : gR < w6.heap.size)
    (hq : Kin w6 Q k s x vs) (hQ : ∀ i, Q i → w.heap.size ≤ i ∧ i < w6.heap.size ∧ i ≠ gR) (hc : Chg w6 w7 T) (hp : Rk w7 r T7 D2) (hk : ∀ i, T7 i → T i ∨ w6.heap.size ≤ i) (t8 : Turn w7 w8 none) (hgw : gw = w7.heap.size) (hb : Blk w8 gw 74 (wlc r k.next).toArray) (t9 : Turn w8 w9 (some gR))
    (hO : D.openD = (0, some k, D2)) (hN : k.next ≤ 9223372036854775807) : RoPost T r D w (.returned (.tuple #[.pointer (some ⟨gw, 0, none⟩), .agg (kpc k s x).toArray, .int .i64 0])) w9 := by
  have s6 := t6.size
  have s7 := hc.size
  have s8 := t8.size
  have s9 := t9.size
  have hlt := fun i hi => h.lt (k := i) hi
  have hb8 := hb.lt
  have c9 : Chg w8 w9 (fun i => i = gR) := Chg.of t9 fun i e => by injection e with e; exact e.symm
  have q7 := hq.chg hc fun i hi ht => by have := hQ i hi; have := hlt i ht; omega
  have q9 := (q7.turn0 t8).chg c9 fun i hi e => (hQ i hi).2.2 e
  have nT : ∀ i, w.heap.size ≤ i → i < w6.heap.size → ¬ T7 i := fun i h1 h2 h3 => by
    rcases hk i h3 with h4 | h4
    · have := hlt i h4; omega
    · omega
  refine .inr ⟨k, D2, hO, gw, s, x, vs, Q, T7, rfl, ?_, (hp.turn0 t8).chg c9 (fun i e hi => nT i (by omega) (by omega) hi), fun i hi => (hk i hi).imp id fun h => by omega, q9, hb.turn t9 (by simp; omega), fun i hi => ?_, fun hq => by have := hQ gw hq; omega, hN⟩
  · have c1 : Chg w w6 T := Chg.of0 t6 T
    exact ((c1.trans hc fun i h => .inl h).trans (T := fun _ => False) (Chg.of0 t8 _) fun i h => h.elim).trans c9 fun i hi => .inr (by omega)
  · rcases hi with hi | rfl
    · obtain ⟨a1, a2, _⟩ := hQ i hi
      exact ⟨a1, by omega, nT i a1 a2⟩
    · exact ⟨by omega, by omega, fun hr => by have := hp.lt hr; omega⟩
end Go.Proofs.Ytjekglnbmccnjaa
/-
  A region that draws its order: what only computes is taken first, whatever is held and whatever waits for it. No program is named here.
-/
namespace Go.Proofs.Ytjekglnbmccnjaa
set_option linter.unusedSimpArgs false
set_option linter.unusedVariables false
open Go.RowKit

section
variable {P : Program} {ops : Array Oper} {Q : Exit → Act → World → Prop} {md : Region.Mode} {S : World → Prop} {k : Nat}
theorem wpTwo_firstT {i : Nat} {oi : Oper} {v : Value} (hi : ops[i]? = some oi) (hik : i ≠ k) (hsel : ∀ (j : Nat) (o : Oper) cs b, ops[j]? = some o → o.op ≠ .select cs b)
    (hQ : ∀ c a w, Q (.panic c) (a.put oi.dst v) w → Q (.panic c) a w) :
    ∀ (fuel : Nat) (listed : Array Bool) (a : Act) (w : World),
      (∀ j oj, ops[j]? = some oj → j ≠ i → listed.getD j true = false → (∀ e ∈ oj.after, Region.binds md e = true → e.on ≠ i) → oi.apart ops oj = true) →
      i ∈ Region.ready md ops listed → YieldsIf P ops (fun _ => True) oi v a → (listed.getD k true = true ∨ S w) →
      wpTwo P md ops Q S k fuel (listed.setIfInBounds i true) (a.put oi.dst v) w → wpTwo P md ops Q S k (fuel + 1) listed a w := by
  intro fuel
  induction fuel with
  | zero =>
    intro listed a w _ hr hy hS H
    have hS2 : (listed.setIfInBounds i true).getD k true = true ∨ S w := by rw [getD_set_ne true hik]; exact hS
    refine ⟨fun h => (by rw [h] at hr; cases hr), fun j hj => ?_⟩
    by_cases hji : j = i
    · subst hji; exact hy.wpOp hi trivial ⟨hS2, H⟩
    · have := ready_mono hj hji
      rw [H.1] at this
      cases this
  | succ fuel ih =>
    intro listed a w hfree hr hy hS H
    have hS2 : (listed.setIfInBounds i true).getD k true = true ∨ S w := by rw [getD_set_ne true hik]; exact hS
    refine ⟨fun h => (by rw [h] at hr; cases hr), fun j hj => ?_⟩
    by_cases hji : j = i
    · subst hji; exact hy.wpOp hi trivial ⟨hS2, H⟩
    · have h1 := H.2 j (ready_mono hj hji)
      obtain ⟨hjun, oj, hoj, hall⟩ := mem_ready.1 hj
      have hnot : ∀ e ∈ oj.after, Region.binds md e = true → e.on ≠ i := fun e he hb heq => by
        have h1 := hall e he hb
        have h0 := (mem_ready.1 hr).1
        rw [heq] at h1
        rcases Nat.lt_or_ge i listed.size with h' | h'
        · simp [h'] at h0 h1; rw [h0] at h1; cases h1
        · simp [Array.getElem?_eq_none h'] at h1
      have h2 := wpOp_putIf hoj (hfree j oj hoj hji hjun hnot) (fun cs b => hsel i oi cs b hi) (fun cs b => hsel j oj cs b hoj) hQ hy h1
      have hfree' : ∀ m om, ops[m]? = some om → m ≠ i → (listed.setIfInBounds j true).getD m true = false →
          (∀ e ∈ om.after, Region.binds md e = true → e.on ≠ i) → oi.apart ops om = true := fun m om hm hmi hun hno => by
        refine hfree m om hm hmi ?_ hno
        by_cases hjm : j = m
        · subst hjm; exact hjun
        · rw [getD_set_ne true hjm] at hun; exact hun
      refine wpOp_mono (fun a' w' h3 => ?_) h2
      have hS' : (listed.setIfInBounds j true).getD k true = true ∨ S w' := by
        rcases h3.2.1 with h | h
        · rw [Array.setIfInBounds_comm _ _ (Ne.symm hji), getD_set_ne true hik] at h
          exact .inl h
        · exact .inr h
      refine ⟨hS', ih (listed.setIfInBounds j true) a' w' hfree' (ready_mono hr (Ne.symm hji)) h3.1 hS' ?_⟩
      rw [Array.setIfInBounds_comm _ _ hji]
      exact h3.2.2
/-- Number i, which only computes, is taken first. -/
theorem wpTwo_takeT {i : Nat} {oi : Oper} {v : Value} {fuel : Nat} {listed : Array Bool} {a : Act} {w : World} (hi : ops[i]? = some oi) (hik : i ≠ k)
    (hs : Region.noSelect ops = true) (hf : Region.free md ops listed i = true) (hr : (Region.ready md ops listed).contains i = true)
    (hQ : ∀ c a w, Q (.panic c) (a.put oi.dst v) w → Q (.panic c) a w) (hy : YieldsIf P ops (fun _ => True) oi v a) (hS : listed.getD k true = true ∨ S w)
    (h : wpTwo P md ops Q S k fuel (listed.setIfInBounds i true) (a.put oi.dst v) w) : wpTwo P md ops Q S k (fuel + 1) listed a w :=
  wpTwo_firstT hi hik (Region.noSelect_spec hs) hQ fuel listed a w (Region.free_spec hi hf) (by simpa using hr) hy hS h
end
end Go.Proofs.Ytjekglnbmccnjaa
/-
  Layer 15: the document's Open, one record more (a region).
-/
namespace Go.Proofs.Ytjekglnbmccnjaa
set_option linter.unusedSimpArgs false
set_option linter.unusedVariables false
open Go.RowKit

theorem ow_turn {w w' : World} {base n c g : Nat} {E : TypeId} {A : Option Addr} {vs : List Value} {rows : List (List UInt8)} (h : Ow w base E A n c vs rows) (hf : Fr base vs) (ht : Turn w w' (some g)) (hg : g < base) : Ow w' base E A n c vs rows :=
  ⟨h.1.turn ht (.inr fun e => by have := (h.1.block _ e).1; omega), h.2.1, fun i l hi => by
    obtain ⟨a, m, k, h1, h2, h3, h4⟩ := h.2.2 i l hi
    exact ⟨a, m, k, h1, (h2.turnNe ht (Nat.le_refl _) (.inr fun e => by have := hf _ (List.mem_of_getElem? h1) a m k rfl _ e; omega)).mono ht.size, fun b hb => ⟨Nat.lt_of_lt_of_le (h3 b hb).1 ht.size, (h3 b hb).2⟩, h4⟩⟩
def rgnO (n : Nat) : Code → Option Code
  | .region i l b => if i = n then some (.region i l b) else none
  | .seq a b => (rgnO n a).or (rgnO n b)
  | .cond _ a b => (rgnO n a).or (rgnO n b)
  | .block _ b => rgnO n b
  | .scope b => rgnO n b
  | .loop b => rgnO n b
  | _ => none
noncomputable def roR : Code := ((Try.f23.body).bind (rgnO 23)).getD .skip

theorem wrapI {z : Int} (h0 : 0 ≤ z) (h1 : z ≤ 9223372036854775807) : IntKind.i64.wrap z = z := by
  unfold IntKind.wrap
  simp [IntKind.bits, IntKind.signed]
  omega
theorem wrapU {z : Int} (h0 : 0 ≤ z) (h1 : z ≤ 18446744073709551615) : IntKind.u64.wrap z = z := by
  unfold IntKind.wrap
  simp [IntKind.bits, IntKind.signed]
  omega

set_option maxRecDepth 100000 in
set_option maxHeartbeats 6400000 in
theorem ro_next {Q : Exit → Act → World → Prop} {wd w2 : World} {gV gX base bx j k kk m c' nx n2 c2 m3 c3 : Nat} {b : Bool} {S A2 : Option Addr} {vs : List Value} {recs : List (List UInt8)} {x : List UInt8}
    (hV : Blk w2 gV 46 ([.bool b, .slice S m3 c3, .slice A2 n2 c2, .int .u64 (nx : Int)] : List Value).toArray) (hX : Own w2 bx 5 1 (some ⟨gX, 0, none⟩) m c' (vbs x)) (how : Ow w2 base 34 A2 n2 c2 vs recs) (hfr : Fr base vs) (hgb : gV < base) (htr : Turn wd w2 (some gV)) (hwb : wd.heap.size = base)
    (hk0 : 0 < kk) (hkm : kk ≤ m) (hm : m ≤ 1099511627776) (hn2 : n2 ≤ 1099511627776) (hj : j ≤ 1099511627776) (hk : k ≤ 1099511627776) (hnx : nx < 9223372036854775807) {e_0 e_1 e_2 e_3 e_4 e_6 e_7 e_8 e_9 e_10 e_11 e_12 e_13 e_14 e_15 e_17 e_18 e_21 e_22 e_24 e_25 e_26 e_27 e_28 e_29 e_30 e_31 e_32 e_33 e_34 e_35 e_36 e_37 e_38 e_39 e_40 e_41 e_42 e_43 e_44 e_45 e_46 e_47 e_48 e_49 e_50 e_51 e_52 e_53 e_54 e_55 e_56 e_57 e_58 e_59 e_60 e_61 e_62 e_63 e_64 e_65 e_66 e_67 e_68 e_69 e_70 e_71 e_72 e_73 e_74 e_75 e_76 e_77 e_78 e_79 e_80 e_81 e_82 e_83 e_84 e_85 e_86 e_87 e_88 e_89 e_90 e_91 e_92 e_93 e_94 e_95 e_96 e_97 e_98 e_99 e_100 e_101 e_102 e_103 e_104 e_105 e_106 e_107 e_108 e_109 e_110 e_111 e_112 e_113 e_114 e_115 e_116 e_117 e_118 e_119 e_120 e_121 e_122 e_123 e_124 e_125 e_126 e_127 e_128 e_129 e_130 e_131 e_132 e_133 e_134 e_135 e_136 e_137 e_138 e_139 e_140 e_141 e_142 e_143 e_144 e_145 e_146 e_147 e_148 e_149 e_150 e_151 e_152 e_153 e_154 e_155 e_156 e_157 e_158 e_159 e_160 e_161 e_162 e_163 e_164 : Value}
    (HQ : ∀ {z_123 z_124 z_125 z_126 z_127 z_128 z_129 z_130 z_131 z_132 z_133 z_134 z_135 z_136 z_137 z_138 z_139 : Value} (V : World) (A3 : Option Addr) (c4 : Nat) (vs' : List Value), Blk V gV 46 ([.bool b, .slice S m3 c3, .slice A3 (n2 + 1) c4, .int .u64 ((nx : Int) + 1)] : List Value).toArray → Ow V base 34 A3 (n2 + 1) c4 vs' (recs ++ [x.drop kk]) → Fr base vs' → Turn wd V (some gV) →
      Q .normal ⟨List.toArray (e_0 :: e_1 :: e_2 :: e_3 :: e_4 :: .pointer (some ⟨gV, 0, none⟩) :: e_6 :: e_7 :: e_8 :: e_9 :: e_10 :: e_11 :: e_12 :: e_13 :: e_14 :: e_15 :: .int .i64 ((j : Int) + (k : Int)) :: e_17 :: e_18 :: .slice (some ⟨gX, 0, none⟩) m c' :: .int .i64 (k : Int) :: e_21 :: e_22 :: .int .i64 (kk : Int) :: e_24 :: e_25 :: e_26 :: e_27 :: e_28 :: e_29 :: e_30 :: e_31 :: e_32 :: e_33 :: e_34 :: e_35 :: e_36 :: e_37 :: e_38 :: e_39 :: e_40 :: e_41 :: e_42 :: e_43 :: e_44 :: e_45 :: e_46 :: e_47 :: e_48 :: e_49 :: e_50 :: e_51 :: e_52 :: e_53 :: e_54 :: e_55 :: e_56 :: e_57 :: e_58 :: e_59 :: e_60 :: e_61 :: e_62 :: e_63 :: e_64 :: e_65 :: e_66 :: e_67 :: e_68 :: e_69 :: e_70 :: e_71 :: e_72 :: e_73 :: e_74 :: e_75 :: e_76 :: e_77 :: e_78 :: e_79 :: e_80 :: e_81 :: e_82 :: e_83 :: e_84 :: e_85 :: e_86 :: e_87 :: e_88 :: e_89 :: e_90 :: e_91 :: e_92 :: e_93 :: e_94 :: e_95 :: e_96 :: e_97 :: e_98 :: e_99 :: e_100 :: e_101 :: e_102 :: e_103 :: e_104 :: e_105 :: e_106 :: e_107 :: e_108 :: e_109 :: e_110 :: e_111 :: e_112 :: e_113 :: e_114 :: e_115 :: e_116 :: e_117 :: e_118 :: e_119 :: e_120 :: e_121 :: e_122 :: z_123 :: z_124 :: z_125 :: z_126 :: z_127 :: z_128 :: z_129 :: z_130 :: z_131 :: z_132 :: z_133 :: z_134 :: z_135 :: z_136 :: z_137 :: z_138 :: z_139 :: e_140 :: e_141 :: e_142 :: e_143 :: e_144 :: e_145 :: e_146 :: e_147 :: e_148 :: e_149 :: e_150 :: e_151 :: e_152 :: e_153 :: e_154 :: e_155 :: e_156 :: e_157 :: e_158 :: e_159 :: e_160 :: e_161 :: e_162 :: e_163 :: e_164 :: []), []⟩ V) :
    Code.wp Try.prog roR Q ⟨List.toArray (e_0 :: e_1 :: e_2 :: e_3 :: e_4 :: .pointer (some ⟨gV, 0, none⟩) :: e_6 :: e_7 :: e_8 :: e_9 :: e_10 :: e_11 :: e_12 :: e_13 :: e_14 :: e_15 :: .int .i64 (j : Int) :: e_17 :: e_18 :: .slice (some ⟨gX, 0, none⟩) m c' :: .int .i64 (k : Int) :: e_21 :: e_22 :: .int .i64 (kk : Int) :: e_24 :: e_25 :: e_26 :: e_27 :: e_28 :: e_29 :: e_30 :: e_31 :: e_32 :: e_33 :: e_34 :: e_35 :: e_36 :: e_37 :: e_38 :: e_39 :: e_40 :: e_41 :: e_42 :: e_43 :: e_44 :: e_45 :: e_46 :: e_47 :: e_48 :: e_49 :: e_50 :: e_51 :: e_52 :: e_53 :: e_54 :: e_55 :: e_56 :: e_57 :: e_58 :: e_59 :: e_60 :: e_61 :: e_62 :: e_63 :: e_64 :: e_65 :: e_66 :: e_67 :: e_68 :: e_69 :: e_70 :: e_71 :: e_72 :: e_73 :: e_74 :: e_75 :: e_76 :: e_77 :: e_78 :: e_79 :: e_80 :: e_81 :: e_82 :: e_83 :: e_84 :: e_85 :: e_86 :: e_87 :: e_88 :: e_89 :: e_90 :: e_91 :: e_92 :: e_93 :: e_94 :: e_95 :: e_96 :: e_97 :: e_98 :: e_99 :: e_100 :: e_101 :: e_102 :: e_103 :: e_104 :: e_105 :: e_106 :: e_107 :: e_108 :: e_109 :: e_110 :: e_111 :: e_112 :: e_113 :: e_114 :: e_115 :: e_116 :: e_117 :: e_118 :: e_119 :: e_120 :: e_121 :: e_122 :: e_123 :: e_124 :: e_125 :: e_126 :: e_127 :: e_128 :: e_129 :: e_130 :: e_131 :: e_132 :: e_133 :: e_134 :: e_135 :: e_136 :: e_137 :: e_138 :: e_139 :: e_140 :: e_141 :: e_142 :: e_143 :: e_144 :: e_145 :: e_146 :: e_147 :: e_148 :: e_149 :: e_150 :: e_151 :: e_152 :: e_153 :: e_154 :: e_155 :: e_156 :: e_157 :: e_158 :: e_159 :: e_160 :: e_161 :: e_162 :: e_163 :: e_164 :: []), []⟩ w2 := by
  have hbase : base ≤ w2.heap.size := by have := htr.size; omega
  have hrc := hX.rd.cutB (c := c') (k := kk) (by omega) hX.cap.1
  rw [Option.map_some, add_flat, Nat.zero_add] at hrc
  have kc1 : kk ≤ c' := by have := hX.cap.1; omega
  have kc2 : (kk : Int) ≤ (m : Int) := by omega
  have kc4 : (m : Int) ≤ (c' : Int) := by have := hX.cap.1; omega
  have kc3 : c' ≤ 9223372036854775807 := by have := hX.cap.2; unfold maxLen at this; omega
  have cV2 := hV.ats (j := 2) (v := .slice A2 n2 c2) rfl
  have cV3 := hV.ats (j := 3) (v := .int .u64 (nx : Int)) rfl
  have hlx := hX.len
  rw [vbs_len] at hlx
  have T0 : ∀ (w : World) cs t, Turn w (w.alloc (.cells cs t)) none := fun w cs t => (Turn.refl w none).alloc _
  have al : ∀ (w : World) (cs : Array Value) (t : TypeId), (w.alloc (.cells cs t)).heap.size = w.heap.size + 1 := fun w cs t => Array.size_push ..
  have CV : ∀ W, Blk W gV 46 ([.bool b, .slice S m3 c3, .slice A2 n2 c2, .int .u64 (nx : Int)] : List Value).toArray → W.cell? ⟨gV, 2, none⟩ = some (.slice A2 n2 c2) ∧ W.cell? ⟨gV, 3, none⟩ = some (.int .u64 (nx : Int)) := fun W h => ⟨h.ats (j := 2) rfl, h.ats (j := 3) rfl⟩
  have h00 : Own ((World.drew w2).alloc (.cells #[] 5)) w2.heap.size 5 1 (some ⟨w2.heap.size, 0, none⟩) 0 0 [] := Own.made (World.drew w2) _ _ 1 0 #[] (Nat.le_refl _) (by decide) rfl
  by_cases hck : c' = kk
  · rw [if_pos hck] at hrc
    subst c'
    have h0 : m - kk = 0 := by omega
    rw [h0] at hrc
    conv => arg 2; whnf
    refine wp_region_noPanic ?_
    refine wp_region_two 16 (fun W => W.cell? ⟨gV, 2, none⟩ = some (.slice A2 n2 c2) ∧ W.cell? ⟨gV, 3, none⟩ = some (.int .u64 (nx : Int))) (by kernel_rfl) ⟨cV2, cV3⟩ (fun hHeld => ?_)
    (refine wpTwo_takeP (i := 0) (v := ?_) (pth := [16]) rfl (by kernel_rfl) (by kernel_rfl) (by kernel_rfl) (by kernel_rfl) (by kernel_rfl) (by kernel_rfl) (by kernel_rfl) (fun _ _ _ h => h) (Or.inl ⟨rfl, ?_⟩) (by assumption) ?_; rotate_left 1; · (intro w hSw; (try dsimp only at hSw); go_simp; (try with_reducible rfl))); (try simp only [Act.put, List.getElem_toArray, List.getElem_cons_zero, List.getElem_cons_succ, List.setIfInBounds_toArray, List.set_cons_zero, List.set_cons_succ])
    (refine wpTwo_takeP (i := 1) (v := ?_) (pth := [16]) rfl (by kernel_rfl) (by kernel_rfl) (by kernel_rfl) (by kernel_rfl) (by kernel_rfl) (by kernel_rfl) (by kernel_rfl) (fun _ _ _ h => h) (Or.inl ⟨rfl, ?_⟩) (by assumption) ?_; rotate_left 1; · (intro w hSw; (try dsimp only at hSw); go_simp; (try with_reducible rfl))); (try simp only [Act.put, List.getElem_toArray, List.getElem_cons_zero, List.getElem_cons_succ, List.setIfInBounds_toArray, List.set_cons_zero, List.set_cons_succ])
    (refine wpTwo_takeP (i := 3) (v := ?_) (pth := [16]) rfl (by kernel_rfl) (by kernel_rfl) (by kernel_rfl) (by kernel_rfl) (by kernel_rfl) (by kernel_rfl) (by kernel_rfl) (fun _ _ _ h => h) (Or.inl ⟨rfl, ?_⟩) (by assumption) ?_; rotate_left 1; · (intro w hSw; (try dsimp only at hSw); go_simp; (try with_reducible rfl))); (try simp only [Act.put, List.getElem_toArray, List.getElem_cons_zero, List.getElem_cons_succ, List.setIfInBounds_toArray, List.set_cons_zero, List.set_cons_succ])
    (refine wpTwo_takeP (i := 4) (v := ?_) (pth := [16]) rfl (by kernel_rfl) (by kernel_rfl) (by kernel_rfl) (by kernel_rfl) (by kernel_rfl) (by kernel_rfl) (by kernel_rfl) (fun _ _ _ h => h) (Or.inl ⟨rfl, ?_⟩) (by assumption) ?_; rotate_left 1; · (intro w hSw; (try dsimp only at hSw); go_simp; (try with_reducible rfl))); (try simp only [Act.put, List.getElem_toArray, List.getElem_cons_zero, List.getElem_cons_succ, List.setIfInBounds_toArray, List.set_cons_zero, List.set_cons_succ])
    (refine wpTwo_takeP (i := 5) (v := ?_) (pth := [16]) rfl (by kernel_rfl) (by kernel_rfl) (by kernel_rfl) (by kernel_rfl) (by kernel_rfl) (by kernel_rfl) (by kernel_rfl) (fun _ _ _ h => h) (Or.inl ⟨rfl, ?_⟩) (by assumption) ?_; rotate_left 1; · (intro w hSw; (try dsimp only at hSw); go_simp; (try with_reducible rfl))); (try simp only [Act.put, List.getElem_toArray, List.getElem_cons_zero, List.getElem_cons_succ, List.setIfInBounds_toArray, List.set_cons_zero, List.set_cons_succ])
    (refine wpTwo_takeP (i := 9) (v := ?_) (pth := [16]) rfl (by kernel_rfl) (by kernel_rfl) (by kernel_rfl) (by kernel_rfl) (by kernel_rfl) (by kernel_rfl) (by kernel_rfl) (fun _ _ _ h => h) (Or.inl ⟨rfl, ?_⟩) (by assumption) ?_; rotate_left 1; · (intro w hSw; (try dsimp only at hSw); go_simp; (try with_reducible rfl))); (try simp only [Act.put, List.getElem_toArray, List.getElem_cons_zero, List.getElem_cons_succ, List.setIfInBounds_toArray, List.set_cons_zero, List.set_cons_succ])
    (refine wpTwo_takeP (i := 10) (v := ?_) (pth := [16]) rfl (by kernel_rfl) (by kernel_rfl) (by kernel_rfl) (by kernel_rfl) (by kernel_rfl) (by kernel_rfl) (by kernel_rfl) (fun _ _ _ h => h) (Or.inl ⟨rfl, ?_⟩) (by assumption) ?_; rotate_left 1; · (intro w hSw; (try dsimp only at hSw); go_simp; (try with_reducible rfl))); (try simp only [Act.put, List.getElem_toArray, List.getElem_cons_zero, List.getElem_cons_succ, List.setIfInBounds_toArray, List.set_cons_zero, List.set_cons_succ])
    (refine wpTwo_takeT (i := 11) (v := ?_) rfl (by decide) (by kernel_rfl) (by kernel_rfl) (by kernel_rfl) (fun _ _ _ h => h) (Or.inl ⟨rfl, ?_⟩) (Or.inr hHeld) ?_; rotate_left 1; · (intro w hSw; clear hSw; go_simp; (try with_reducible rfl))); (try simp only [Act.put, List.getElem_toArray, List.getElem_cons_zero, List.getElem_cons_succ, List.setIfInBounds_toArray, List.set_cons_zero, List.set_cons_succ])
    (refine wpTwo_takeT (i := 12) (v := ?_) rfl (by decide) (by kernel_rfl) (by kernel_rfl) (by kernel_rfl) (fun _ _ _ h => h) (Or.inl ⟨rfl, ?_⟩) (Or.inr hHeld) ?_; rotate_left 1; · (intro w hSw; clear hSw; go_simp; (try with_reducible rfl))); (try simp only [Act.put, List.getElem_toArray, List.getElem_cons_zero, List.getElem_cons_succ, List.setIfInBounds_toArray, List.set_cons_zero, List.set_cons_succ])
    (refine wpTwo_takeT (i := 13) (v := ?_) rfl (by decide) (by kernel_rfl) (by kernel_rfl) (by kernel_rfl) (fun _ _ _ h => h) (Or.inl ⟨rfl, ?_⟩) (Or.inr hHeld) ?_; rotate_left 1; · (intro w hSw; clear hSw; go_simp; (try with_reducible rfl))); (try simp only [Act.put, List.getElem_toArray, List.getElem_cons_zero, List.getElem_cons_succ, List.setIfInBounds_toArray, List.set_cons_zero, List.set_cons_succ])
    (refine wpTwo_takeT (i := 14) (v := ?_) rfl (by decide) (by kernel_rfl) (by kernel_rfl) (by kernel_rfl) (fun _ _ _ h => h) (Or.inl ⟨rfl, ?_⟩) (Or.inr hHeld) ?_; rotate_left 1; · (intro w hSw; clear hSw; go_simp; (try with_reducible rfl))); (try simp only [Act.put, List.getElem_toArray, List.getElem_cons_zero, List.getElem_cons_succ, List.setIfInBounds_toArray, List.set_cons_zero, List.set_cons_succ])
    clear cV2 cV3 hHeld
    refine wpTwo_ready (rs := [2]) (by kernel_rfl) (by simp) ?_
    refine AllTwo.cons rfl (fun K hK => ?_) ?_
    · go_simp
      refine hK.out _ _ (Or.inr (CV _ (hV.drew.alloc (.cells #[] 5)))) ?_; clear hK K; (try simp only [Act.put, List.getElem_toArray, List.getElem_cons_zero, List.getElem_cons_succ, List.setIfInBounds_toArray, List.set_cons_zero, List.set_cons_succ])
      refine wpTwo_ready (rs := [6]) (by kernel_rfl) (by simp) ?_
      refine AllTwo.cons rfl (fun K hK => ?_) ?_
      · refine st_app (base := w2.heap.size) rfl _ _ _ rfl elB rfl rfl h00 (hrc.drew.turn0 (T0 _ _ _) (Nat.le_refl _)) (vbs_one (x.drop kk)) (by unfold maxLen; omega) (by omega) (by show _ ≤ (w2.heap.push _).size; rw [Array.size_push]; omega) ?_
        intro A6 c6 w6 ho6 t6' hb6
        have t6 : Turn (World.drew w2) w6 none := (T0 _ _ _).new t6' (fun g hg => by simp [blk] at hg; subst hg; exact Nat.le_refl _)
        clear t6' hb6
        simp only [Nat.zero_add, List.nil_append] at ho6 ⊢
        refine hK.out _ _ (Or.inr (CV _ (hV.drew.turn0 t6))) ?_; clear hK K; (try simp only [Act.put, List.getElem_toArray, List.getElem_cons_zero, List.getElem_cons_succ, List.setIfInBounds_toArray, List.set_cons_zero, List.set_cons_succ])
        refine wpTwo_ready (rs := [7]) (by kernel_rfl) (by simp) ?_
        refine AllTwo.cons rfl (fun K hK => ?_) ?_
        · go_simp
          refine hK.out _ _ (Or.inr (CV _ ((hV.drew.turn0 t6).alloc _))) ?_; clear hK K; (try simp only [Act.put, List.getElem_toArray, List.getElem_cons_zero, List.getElem_cons_succ, List.setIfInBounds_toArray, List.set_cons_zero, List.set_cons_succ])
          refine wpTwo_ready (rs := [8]) (by kernel_rfl) (by simp) ?_
          refine AllTwo.cons rfl (fun K hK => ?_) ?_
          · have t7 := t6.trans (T0 w6 #[Value.slice A6 0 c6] 34)
            have s7 := t6.size
            have hd : (World.drew w2).heap.size = w2.heap.size := rfl
            refine st_app (base := base) rfl _ _ _ rfl elR rfl rfl ((how.turn0 t6.undrew).1.alloc _) (Rd.lit _ _ _) (by repeat (first | exact ones_nil | refine ones_cons rfl ?_)) (by unfold maxLen; first | omega | (simp; done) | (simp; omega)) (by first | omega | (simp; done) | (simp; omega)) (by show _ ≤ (w6.heap.push _).size; rw [Array.size_push]; omega) ?_
            intro A3 c4 w8 ho8 t8 hb8
            have hs := ((how.turn0 t6.undrew).turn0 (T0 w6 #[Value.slice A6 0 c6] 34)).snoc (l := x.drop kk) (k := c6) ((ho6.rd.alloc (Nat.le_refl _) _).mono (by rw [al]; omega))
              (fun b hb => by
                have h1 := ho6.block b hb
                have h2 := al w6 #[Value.slice A6 0 c6] 34
                exact ⟨by have := h1.2; first | omega | (rw [al]; omega), fun e2 => by have := (how.1.block _ e2).2; omega⟩) ho6.cap.1 ho6.cap.2 ho8 t8 hb8
            have hfr8 : Fr base (vs ++ [.slice A6 0 c6]) := hfr.snoc fun b hb => by have := (ho6.block b hb).1; omega
            have hA2 : ∀ g, blk A2 = some g → base ≤ g := fun g hg => (how.1.block g hg).1
            have t78 : Turn (World.drew w2) w8 (blk A2) := (t7.any _).trans t8
            have hV8 : Blk w8 gV 46 ([.bool b, .slice S m3 c3, .slice A2 n2 c2, .int .u64 (nx : Int)] : List Value).toArray := hV.drew.turn t78 (fun e => by have := hA2 _ e.symm; omega)
            have hV9 := hV8.sets 2 (.slice A3 (n2 + 1) c4)
            have hV10 := hV9.sets 3 (.int .u64 ((nx : Int) + 1))
            have q2 := hV8.ats (j := 2) (v := .slice A2 n2 c2) rfl
            have q3 := hV9.ats (j := 3) (v := .int .u64 (nx : Int)) rfl
            have f2 := hV8.frozen 2
            have f3 := hV9.frozen 3
            refine hK.out _ _ (Or.inr (CV _ hV8)) ?_; clear hK K; (try simp only [Act.put, List.getElem_toArray, List.getElem_cons_zero, List.getElem_cons_succ, List.setIfInBounds_toArray, List.set_cons_zero, List.set_cons_succ])
            (refine wpTwo_takeT (i := 15) (v := ?_) rfl (by decide) (by kernel_rfl) (by kernel_rfl) (by kernel_rfl) (fun _ _ _ h => h) (Or.inl ⟨rfl, ?_⟩) (Or.inr (CV _ hV8)) ?_; rotate_left 1; · (intro w hSw; clear hSw; go_simp; (try with_reducible rfl))); (try simp only [Act.put, List.getElem_toArray, List.getElem_cons_zero, List.getElem_cons_succ, List.setIfInBounds_toArray, List.set_cons_zero, List.set_cons_succ])
            refine wpTwo_ready (rs := [16]) (by kernel_rfl) (by simp) ?_
            refine AllTwo.cons rfl (fun K hK => ?_) ?_
            · go_simp
              refine hK.out _ _ (Or.inl rfl) ?_; clear hK K; (try simp only [Act.put, List.getElem_toArray, List.getElem_cons_zero, List.getElem_cons_succ, List.setIfInBounds_toArray, List.set_cons_zero, List.set_cons_succ])
              (refine wpTwo_takeT (i := 17) (v := ?_) rfl (by decide) (by kernel_rfl) (by kernel_rfl) (by kernel_rfl) (fun _ _ _ h => h) (Or.inl ⟨rfl, ?_⟩) (Or.inl rfl) ?_; rotate_left 1; · (intro w hSw; clear hSw; go_simp; (try with_reducible rfl))); (try simp only [Act.put, List.getElem_toArray, List.getElem_cons_zero, List.getElem_cons_succ, List.setIfInBounds_toArray, List.set_cons_zero, List.set_cons_succ])
              refine wpTwo_ready (rs := [18]) (by kernel_rfl) (by simp) ?_
              refine AllTwo.cons rfl (fun K hK => ?_) ?_
              · go_simp
                refine hK.out _ _ (Or.inl rfl) ?_; clear hK K; (try simp only [Act.put, List.getElem_toArray, List.getElem_cons_zero, List.getElem_cons_succ, List.setIfInBounds_toArray, List.set_cons_zero, List.set_cons_succ])
                (refine wpTwo_takeT (i := 19) (v := ?_) rfl (by decide) (by kernel_rfl) (by kernel_rfl) (by kernel_rfl) (fun _ _ _ h => h) (Or.inl ⟨rfl, ?_⟩) (Or.inl rfl) ?_; rotate_left 1; · (intro w hSw; clear hSw; go_simp; (try with_reducible rfl))); (try simp only [Act.put, List.getElem_toArray, List.getElem_cons_zero, List.getElem_cons_succ, List.setIfInBounds_toArray, List.set_cons_zero, List.set_cons_succ])
                refine wpTwo_done (by kernel_rfl) ?_ _
                refine NoPanic.normal ?_
                have tV : Turn w8 ((w8.setCell ⟨gV, 2, none⟩ (.slice A3 (n2 + 1) c4)).setCell ⟨gV, 3, none⟩ (.int .u64 ((nx : Int) + 1))) (some gV) := (Blk.setTurn _ _ _ _).trans (Blk.setTurn _ _ _ _)
                rw [wrapI (z := (j : Int) + (k : Int)) (by omega) (by omega), wrapU (z := (nx : Int) + 1) (by omega) (by omega)]
                exact HQ _ A3 c4 _ hV10 (ow_turn hs hfr8 tV hgb) hfr8 (((htr.trans ((t7.undrew).any _)).new t8 (fun g hg => by have := hA2 g hg; omega)).trans tV)
              · exact AllTwo.nil
            · exact AllTwo.nil
          · exact AllTwo.nil
        · exact AllTwo.nil
      · exact AllTwo.nil
    · exact AllTwo.nil
  · rw [if_neg hck] at hrc
    conv => arg 2; whnf
    refine wp_region_noPanic ?_
    refine wp_region_two 16 (fun W => W.cell? ⟨gV, 2, none⟩ = some (.slice A2 n2 c2) ∧ W.cell? ⟨gV, 3, none⟩ = some (.int .u64 (nx : Int))) (by kernel_rfl) ⟨cV2, cV3⟩ (fun hHeld => ?_)
    (refine wpTwo_takeP (i := 0) (v := ?_) (pth := [16]) rfl (by kernel_rfl) (by kernel_rfl) (by kernel_rfl) (by kernel_rfl) (by kernel_rfl) (by kernel_rfl) (by kernel_rfl) (fun _ _ _ h => h) (Or.inl ⟨rfl, ?_⟩) (by assumption) ?_; rotate_left 1; · (intro w hSw; (try dsimp only at hSw); go_simp; (try with_reducible rfl))); (try simp only [Act.put, List.getElem_toArray, List.getElem_cons_zero, List.getElem_cons_succ, List.setIfInBounds_toArray, List.set_cons_zero, List.set_cons_succ])
    (refine wpTwo_takeP (i := 1) (v := ?_) (pth := [16]) rfl (by kernel_rfl) (by kernel_rfl) (by kernel_rfl) (by kernel_rfl) (by kernel_rfl) (by kernel_rfl) (by kernel_rfl) (fun _ _ _ h => h) (Or.inl ⟨rfl, ?_⟩) (by assumption) ?_; rotate_left 1; · (intro w hSw; (try dsimp only at hSw); go_simp; (try with_reducible rfl))); (try simp only [Act.put, List.getElem_toArray, List.getElem_cons_zero, List.getElem_cons_succ, List.setIfInBounds_toArray, List.set_cons_zero, List.set_cons_succ])
    (refine wpTwo_takeP (i := 3) (v := ?_) (pth := [16]) rfl (by kernel_rfl) (by kernel_rfl) (by kernel_rfl) (by kernel_rfl) (by kernel_rfl) (by kernel_rfl) (by kernel_rfl) (fun _ _ _ h => h) (Or.inl ⟨rfl, ?_⟩) (by assumption) ?_; rotate_left 1; · (intro w hSw; (try dsimp only at hSw); go_simp; (try with_reducible rfl))); (try simp only [Act.put, List.getElem_toArray, List.getElem_cons_zero, List.getElem_cons_succ, List.setIfInBounds_toArray, List.set_cons_zero, List.set_cons_succ])
    (refine wpTwo_takeP (i := 4) (v := ?_) (pth := [16]) rfl (by kernel_rfl) (by kernel_rfl) (by kernel_rfl) (by kernel_rfl) (by kernel_rfl) (by kernel_rfl) (by kernel_rfl) (fun _ _ _ h => h) (Or.inl ⟨rfl, ?_⟩) (by assumption) ?_; rotate_left 1; · (intro w hSw; (try dsimp only at hSw); go_simp; (try with_reducible rfl))); (try simp only [Act.put, List.getElem_toArray, List.getElem_cons_zero, List.getElem_cons_succ, List.setIfInBounds_toArray, List.set_cons_zero, List.set_cons_succ])
    (refine wpTwo_takeP (i := 5) (v := ?_) (pth := [16]) rfl (by kernel_rfl) (by kernel_rfl) (by kernel_rfl) (by kernel_rfl) (by kernel_rfl) (by kernel_rfl) (by kernel_rfl) (fun _ _ _ h => h) (Or.inl ⟨rfl, ?_⟩) (by assumption) ?_; rotate_left 1; · (intro w hSw; (try dsimp only at hSw); go_simp; (try with_reducible rfl))); (try simp only [Act.put, List.getElem_toArray, List.getElem_cons_zero, List.getElem_cons_succ, List.setIfInBounds_toArray, List.set_cons_zero, List.set_cons_succ])
    (refine wpTwo_takeP (i := 9) (v := ?_) (pth := [16]) rfl (by kernel_rfl) (by kernel_rfl) (by kernel_rfl) (by kernel_rfl) (by kernel_rfl) (by kernel_rfl) (by kernel_rfl) (fun _ _ _ h => h) (Or.inl ⟨rfl, ?_⟩) (by assumption) ?_; rotate_left 1; · (intro w hSw; (try dsimp only at hSw); go_simp; (try with_reducible rfl))); (try simp only [Act.put, List.getElem_toArray, List.getElem_cons_zero, List.getElem_cons_succ, List.setIfInBounds_toArray, List.set_cons_zero, List.set_cons_succ])
    (refine wpTwo_takeP (i := 10) (v := ?_) (pth := [16]) rfl (by kernel_rfl) (by kernel_rfl) (by kernel_rfl) (by kernel_rfl) (by kernel_rfl) (by kernel_rfl) (by kernel_rfl) (fun _ _ _ h => h) (Or.inl ⟨rfl, ?_⟩) (by assumption) ?_; rotate_left 1; · (intro w hSw; (try dsimp only at hSw); go_simp; (try with_reducible rfl))); (try simp only [Act.put, List.getElem_toArray, List.getElem_cons_zero, List.getElem_cons_succ, List.setIfInBounds_toArray, List.set_cons_zero, List.set_cons_succ])
    (refine wpTwo_takeT (i := 11) (v := ?_) rfl (by decide) (by kernel_rfl) (by kernel_rfl) (by kernel_rfl) (fun _ _ _ h => h) (Or.inl ⟨rfl, ?_⟩) (Or.inr hHeld) ?_; rotate_left 1; · (intro w hSw; clear hSw; go_simp; (try with_reducible rfl))); (try simp only [Act.put, List.getElem_toArray, List.getElem_cons_zero, List.getElem_cons_succ, List.setIfInBounds_toArray, List.set_cons_zero, List.set_cons_succ])
    (refine wpTwo_takeT (i := 12) (v := ?_) rfl (by decide) (by kernel_rfl) (by kernel_rfl) (by kernel_rfl) (fun _ _ _ h => h) (Or.inl ⟨rfl, ?_⟩) (Or.inr hHeld) ?_; rotate_left 1; · (intro w hSw; clear hSw; go_simp; (try with_reducible rfl))); (try simp only [Act.put, List.getElem_toArray, List.getElem_cons_zero, List.getElem_cons_succ, List.setIfInBounds_toArray, List.set_cons_zero, List.set_cons_succ])
    (refine wpTwo_takeT (i := 13) (v := ?_) rfl (by decide) (by kernel_rfl) (by kernel_rfl) (by kernel_rfl) (fun _ _ _ h => h) (Or.inl ⟨rfl, ?_⟩) (Or.inr hHeld) ?_; rotate_left 1; · (intro w hSw; clear hSw; go_simp; (try with_reducible rfl))); (try simp only [Act.put, List.getElem_toArray, List.getElem_cons_zero, List.getElem_cons_succ, List.setIfInBounds_toArray, List.set_cons_zero, List.set_cons_succ])
    (refine wpTwo_takeT (i := 14) (v := ?_) rfl (by decide) (by kernel_rfl) (by kernel_rfl) (by kernel_rfl) (fun _ _ _ h => h) (Or.inl ⟨rfl, ?_⟩) (Or.inr hHeld) ?_; rotate_left 1; · (intro w hSw; clear hSw; go_simp; (try with_reducible rfl))); (try simp only [Act.put, List.getElem_toArray, List.getElem_cons_zero, List.getElem_cons_succ, List.setIfInBounds_toArray, List.set_cons_zero, List.set_cons_succ])
    clear cV2 cV3 hHeld
    refine wpTwo_ready (rs := [2]) (by kernel_rfl) (by simp) ?_
    refine AllTwo.cons rfl (fun K hK => ?_) ?_
    · go_simp
      refine hK.out _ _ (Or.inr (CV _ (hV.drew.alloc (.cells #[] 5)))) ?_; clear hK K; (try simp only [Act.put, List.getElem_toArray, List.getElem_cons_zero, List.getElem_cons_succ, List.setIfInBounds_toArray, List.set_cons_zero, List.set_cons_succ])
      refine wpTwo_ready (rs := [6]) (by kernel_rfl) (by simp) ?_
      refine AllTwo.cons rfl (fun K hK => ?_) ?_
      · refine st_app (base := w2.heap.size) rfl _ _ _ rfl elB rfl rfl h00 (hrc.drew.turn0 (T0 _ _ _) (Nat.le_refl _)) (vbs_one (x.drop kk)) (by unfold maxLen; omega) (by omega) (by show _ ≤ (w2.heap.push _).size; rw [Array.size_push]; omega) ?_
        intro A6 c6 w6 ho6 t6' hb6
        have t6 : Turn (World.drew w2) w6 none := (T0 _ _ _).new t6' (fun g hg => by simp [blk] at hg; subst hg; exact Nat.le_refl _)
        clear t6' hb6
        simp only [Nat.zero_add, List.nil_append] at ho6 ⊢
        refine hK.out _ _ (Or.inr (CV _ (hV.drew.turn0 t6))) ?_; clear hK K; (try simp only [Act.put, List.getElem_toArray, List.getElem_cons_zero, List.getElem_cons_succ, List.setIfInBounds_toArray, List.set_cons_zero, List.set_cons_succ])
        refine wpTwo_ready (rs := [7]) (by kernel_rfl) (by simp) ?_
        refine AllTwo.cons rfl (fun K hK => ?_) ?_
        · go_simp
          refine hK.out _ _ (Or.inr (CV _ ((hV.drew.turn0 t6).alloc _))) ?_; clear hK K; (try simp only [Act.put, List.getElem_toArray, List.getElem_cons_zero, List.getElem_cons_succ, List.setIfInBounds_toArray, List.set_cons_zero, List.set_cons_succ])
          refine wpTwo_ready (rs := [8]) (by kernel_rfl) (by simp) ?_
          refine AllTwo.cons rfl (fun K hK => ?_) ?_
          · have t7 := t6.trans (T0 w6 #[Value.slice A6 (m - kk) c6] 34)
            have s7 := t6.size
            have hd : (World.drew w2).heap.size = w2.heap.size := rfl
            refine st_app (base := base) rfl _ _ _ rfl elR rfl rfl ((how.turn0 t6.undrew).1.alloc _) (Rd.lit _ _ _) (by repeat (first | exact ones_nil | refine ones_cons rfl ?_)) (by unfold maxLen; first | omega | (simp; done) | (simp; omega)) (by first | omega | (simp; done) | (simp; omega)) (by show _ ≤ (w6.heap.push _).size; rw [Array.size_push]; omega) ?_
            intro A3 c4 w8 ho8 t8 hb8
            have hs := ((how.turn0 t6.undrew).turn0 (T0 w6 #[Value.slice A6 (m - kk) c6] 34)).snoc (l := x.drop kk) (k := c6) ((ho6.rd.alloc (Nat.le_refl _) _).mono (by rw [al]; omega))
              (fun b hb => by
                have h1 := ho6.block b hb
                have h2 := al w6 #[Value.slice A6 (m - kk) c6] 34
                exact ⟨by have := h1.2; first | omega | (rw [al]; omega), fun e2 => by have := (how.1.block _ e2).2; omega⟩) ho6.cap.1 ho6.cap.2 ho8 t8 hb8
            have hfr8 : Fr base (vs ++ [.slice A6 (m - kk) c6]) := hfr.snoc fun b hb => by have := (ho6.block b hb).1; omega
            have hA2 : ∀ g, blk A2 = some g → base ≤ g := fun g hg => (how.1.block g hg).1
            have t78 : Turn (World.drew w2) w8 (blk A2) := (t7.any _).trans t8
            have hV8 : Blk w8 gV 46 ([.bool b, .slice S m3 c3, .slice A2 n2 c2, .int .u64 (nx : Int)] : List Value).toArray := hV.drew.turn t78 (fun e => by have := hA2 _ e.symm; omega)
            have hV9 := hV8.sets 2 (.slice A3 (n2 + 1) c4)
            have hV10 := hV9.sets 3 (.int .u64 ((nx : Int) + 1))
            have q2 := hV8.ats (j := 2) (v := .slice A2 n2 c2) rfl
            have q3 := hV9.ats (j := 3) (v := .int .u64 (nx : Int)) rfl
            have f2 := hV8.frozen 2
            have f3 := hV9.frozen 3
            refine hK.out _ _ (Or.inr (CV _ hV8)) ?_; clear hK K; (try simp only [Act.put, List.getElem_toArray, List.getElem_cons_zero, List.getElem_cons_succ, List.setIfInBounds_toArray, List.set_cons_zero, List.set_cons_succ])
            (refine wpTwo_takeT (i := 15) (v := ?_) rfl (by decide) (by kernel_rfl) (by kernel_rfl) (by kernel_rfl) (fun _ _ _ h => h) (Or.inl ⟨rfl, ?_⟩) (Or.inr (CV _ hV8)) ?_; rotate_left 1; · (intro w hSw; clear hSw; go_simp; (try with_reducible rfl))); (try simp only [Act.put, List.getElem_toArray, List.getElem_cons_zero, List.getElem_cons_succ, List.setIfInBounds_toArray, List.set_cons_zero, List.set_cons_succ])
            refine wpTwo_ready (rs := [16]) (by kernel_rfl) (by simp) ?_
            refine AllTwo.cons rfl (fun K hK => ?_) ?_
            · go_simp
              refine hK.out _ _ (Or.inl rfl) ?_; clear hK K; (try simp only [Act.put, List.getElem_toArray, List.getElem_cons_zero, List.getElem_cons_succ, List.setIfInBounds_toArray, List.set_cons_zero, List.set_cons_succ])
              (refine wpTwo_takeT (i := 17) (v := ?_) rfl (by decide) (by kernel_rfl) (by kernel_rfl) (by kernel_rfl) (fun _ _ _ h => h) (Or.inl ⟨rfl, ?_⟩) (Or.inl rfl) ?_; rotate_left 1; · (intro w hSw; clear hSw; go_simp; (try with_reducible rfl))); (try simp only [Act.put, List.getElem_toArray, List.getElem_cons_zero, List.getElem_cons_succ, List.setIfInBounds_toArray, List.set_cons_zero, List.set_cons_succ])
              refine wpTwo_ready (rs := [18]) (by kernel_rfl) (by simp) ?_
              refine AllTwo.cons rfl (fun K hK => ?_) ?_
              · go_simp
                refine hK.out _ _ (Or.inl rfl) ?_; clear hK K; (try simp only [Act.put, List.getElem_toArray, List.getElem_cons_zero, List.getElem_cons_succ, List.setIfInBounds_toArray, List.set_cons_zero, List.set_cons_succ])
                (refine wpTwo_takeT (i := 19) (v := ?_) rfl (by decide) (by kernel_rfl) (by kernel_rfl) (by kernel_rfl) (fun _ _ _ h => h) (Or.inl ⟨rfl, ?_⟩) (Or.inl rfl) ?_; rotate_left 1; · (intro w hSw; clear hSw; go_simp; (try with_reducible rfl))); (try simp only [Act.put, List.getElem_toArray, List.getElem_cons_zero, List.getElem_cons_succ, List.setIfInBounds_toArray, List.set_cons_zero, List.set_cons_succ])
                refine wpTwo_done (by kernel_rfl) ?_ _
                refine NoPanic.normal ?_
                have tV : Turn w8 ((w8.setCell ⟨gV, 2, none⟩ (.slice A3 (n2 + 1) c4)).setCell ⟨gV, 3, none⟩ (.int .u64 ((nx : Int) + 1))) (some gV) := (Blk.setTurn _ _ _ _).trans (Blk.setTurn _ _ _ _)
                rw [wrapI (z := (j : Int) + (k : Int)) (by omega) (by omega), wrapU (z := (nx : Int) + 1) (by omega) (by omega)]
                exact HQ _ A3 c4 _ hV10 (ow_turn hs hfr8 tV hgb) hfr8 (((htr.trans ((t7.undrew).any _)).new t8 (fun g hg => by have := hA2 g hg; omega)).trans tV)
              · exact AllTwo.nil
            · exact AllTwo.nil
          · exact AllTwo.nil
        · exact AllTwo.nil
      · exact AllTwo.nil
    · exact AllTwo.nil
end Go.Proofs.Ytjekglnbmccnjaa
