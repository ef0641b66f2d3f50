/-
  Layer 3: bytes are put behind what was written (contract).
-/
import Derived.Test.YtfmighjblppceaaDoorSd
namespace Go.Proofs.YtfmighjblppceaaDoor
open Go.RowKit

theorem hs_lay (s : W8) (blk : List UInt8) (n : Int) (r : Nat) (x : List UInt8) (h : blk.length = 64) (hr : r + x.length ≤ 64) :
    (hsCells s blk n).take (8 + r) ++ vbs x ++ (hsCells s blk n).drop (8 + r + x.length) = hsCells s (sLay blk r x) n := by
  have hA : (cvs s.list).length = 8 := rfl
  have hB : (vbs blk).length = 64 := by rw [vbs_len, h]
  unfold hsCells
  rw [List.append_assoc (cvs s.list), Nat.add_assoc, List.take_append, List.drop_append, hA, Nat.add_sub_cancel_left, Nat.add_sub_cancel_left, List.take_of_length_le (l := cvs s.list) (by omega),
    (List.drop_eq_nil_of_le (by omega) : (cvs s.list).drop (8 + (r + x.length)) = []), List.take_append_of_le_length (by omega), List.drop_append_of_le_length (by omega), vbs_take, vbs_drop, List.nil_append]
  unfold sLay
  rw [vbs_append, vbs_append]
  simp only [List.append_assoc]
theorem hs_written (s : W8) (blk : List UInt8) (n n' : Int) (h : blk.length = 64) : (hsCells s blk n).set 72 (.int .u64 n') = hsCells s blk n' := by
  unfold hsCells
  rw [List.set_append_right _ _ (by simp [cvs_len, vbs_len, h, W8.list])]
  simp [cvs_len, vbs_len, h, W8.list]
theorem blk_cut (p : Prop) [Decidable p] (A : Option Addr) (k : Nat) : blk (if p then A else Option.map (fun a => a.add k) A) = blk A := by
  split
  · rfl
  · cases A with
    | none => rfl
    | some a => simp [blk, addr_block]

/-- A hash under way stands in block g; l was written. -/
def HIs (w : World) (g : Nat) (l : List UInt8) : Prop := ∃ s blk, HS w g s blk (l.length : Int) ∧ sState l s blk
theorem HS.turn {w w' : World} {g : Nat} {s : W8} {blk : List UInt8} {n : Int} {row : Option Nat} (h : HS w g s blk n) (ht : Turn w w' row) (hr : some g ≠ row) : HS w' g s blk n := ⟨h.1, h.2.turn ht hr⟩
theorem HIs.turn {w w' : World} {g : Nat} {l : List UInt8} {row : Option Nat} (h : HIs w g l) (ht : Turn w w' row) (hr : some g ≠ row) : HIs w' g l := by
  obtain ⟨s, b, h1, h2⟩ := h
  exact ⟨s, b, h1.turn ht hr, h2⟩
theorem HIs.turn0 {w w' : World} {g : Nat} {l : List UInt8} (h : HIs w g l) (ht : Turn w w' none) : HIs w' g l := h.turn ht (by simp)
theorem HIs.lt {w : World} {g : Nat} {l : List UInt8} (h : HIs w g l) : g < w.heap.size := by
  obtain ⟨s, b, h1, h2⟩ := h
  exact h1.2.lt

set_option maxRecDepth 100000 in
set_option maxHeartbeats 1600000 in
theorem write_any (l : List UInt8) (g : Nat) (A : Option Addr) (n c : Nat) (m : List UInt8) (B : Nat) (w : World) (hL : Laid w) (hg : 2 ≤ g) (h : HIs w g l) (hr : Rd w B 1 A n (vbs m)) (hB : B ≤ w.heap.size) (hA : 0 < n → blk A ≠ some g)
    (hnc : n ≤ c) (hc : c ≤ maxLen) (hN : l.length + n ≤ 281474976710656) :
    Calls Tryd.prog 12 #[.pointer (some ⟨g, 0, none⟩), .slice A n c] w fun e w' => e = .returned (.tuple #[]) ∧ HIs w' g (l ++ m) ∧ Turn w w' (some g) := by
  have hml := hr.len
  rw [vbs_len] at hml
  unfold maxLen at hc
  go_enter Tryd.func12, Tryd.ntmps12
  go_wp2_with fail
  go_loopw [1] (fun v wr => ∃ (k n' c' : Nat) (A' : Option Addr), k + n' = n ∧ v = .slice A' n' c' ∧ n' ≤ c' ∧ c' ≤ 9223372036854775807 ∧ HIs wr g (l ++ m.take k) ∧ Rd wr B 1 A' n' (vbs (m.drop k)) ∧ (0 < n' → blk A' ≠ some g) ∧ Turn w wr (some g)) (fun v _ => match v with | .slice _ n' _ => n' | _ => 0)
  case atStart => exact ⟨0, n, c, A, by omega, rfl, hnc, hc, by simpa using h, by simpa using hr, hA, Turn.refl w _⟩
  case round =>
    obtain ⟨k, n', c', A', hkn, rfl, hnc', hc', hH, hr', hA', ht⟩ := hrel
    clear h hr hnc hc hA
    by_cases hn0 : n' = 0
    · subst hn0
      have hmk : m.take k = m := List.take_of_length_le (by omega)
      rw [hmk] at hH
      go_wp2_with fail
      go_end0
      exact ⟨rfl, hH, ht⟩
    · have hA' := hA' (by omega)
      obtain ⟨s, bk, ⟨hbk, hb⟩, hst⟩ := hH
      obtain ⟨N, hNN⟩ : ∃ N, N = (l ++ m.take k).length := ⟨_, rfl⟩
      have hNl : N + n' ≤ 281474976710656 := by rw [hNN, List.length_append, List.length_take]; omega
      rw [← hNN] at hb
      obtain ⟨r, hrr⟩ : ∃ r, r = N % 64 := ⟨_, rfl⟩
      have hr64 : r < 64 := by omega
      have hri : (N : Int) % 64 = (r : Int) := by omega
      have htm : (N : Int).tmod 64 = (r : Int) := by rw [Int.tmod_eq_emod_of_nonneg (by omega)]; omega
      obtain ⟨b0, off, rfl, _, _⟩ := hr'.head (by omega)
      have hw := hb.ats (j := 72) (hsCells_last s (N : Int) hbk)
      have Hh := hid (And.intro hst (And.intro hNN hrr))
      clear hst hNN hrr
      have l0 : (0 : Int) < (n' : Int) := by omega
      have l1 : (r : Int) ≤ 64 := by omega
      have l2 : r ≤ 64 := by omega
      have l3 : ¬ 64 = r := by omega
      go_wp2_with fail
      obtain ⟨kk, hkk⟩ : ∃ kk, kk = Nat.min n' (64 - r) := ⟨_, rfl⟩
      have hk1 : kk ≤ n' := by rw [hkk]; exact Nat.min_le_left _ _
      have hk2 : r + kk ≤ 64 := by
        have h : Nat.min n' (64 - r) ≤ 64 - r := Nat.min_le_right _ _
        rw [← hkk] at h
        omega
      have hk3 : kk = n' ∨ r + kk = 64 := by
        rcases Nat.le_total n' (64 - r) with h | h
        · exact .inl (by rw [hkk]; exact Nat.min_eq_left h)
        · exact .inr (by rw [hkk, show Nat.min n' (64 - r) = 64 - r from Nat.min_eq_right h]; omega)
      have hk0 : 0 < kk := by omega
      have hxl : ((m.drop k).take kk).length = kk := by rw [List.length_take, List.length_drop]; omega
      have Hk := hid hkk
      clear hkk
      refine wp_region_noPanic ?_
      refine wp_region_held_drew (S := fun _ => True) (by kernel_rfl) trivial (fun hHeld => ?_)
      (first | (refine wpAnyH_take (i := 0) (v := undef) rfl (by kernel_rfl) (by kernel_rfl) (by kernel_rfl) (fun _ _ _ h => h) (Or.inr ⟨rfl, rfl⟩) (by assumption) ?_) | (refine wpAnyH_take (i := 0) (v := ?_) rfl (by kernel_rfl) (by kernel_rfl) (by kernel_rfl) (fun _ _ _ h => h) (Or.inl ⟨rfl, ?_⟩) (by assumption) ?_; rotate_left 1; · (intro w hSw; (try dsimp only at hSw); go_simp; (try with_reducible rfl)))); (try simp only [Act.put, List.getElem_toArray, List.getElem_cons_zero, List.getElem_cons_succ, List.setIfInBounds_toArray, List.set_cons_zero, List.set_cons_succ])
      (first | (refine wpAnyH_take (i := 1) (v := undef) rfl (by kernel_rfl) (by kernel_rfl) (by kernel_rfl) (fun _ _ _ h => h) (Or.inr ⟨rfl, rfl⟩) (by assumption) ?_) | (refine wpAnyH_take (i := 1) (v := ?_) rfl (by kernel_rfl) (by kernel_rfl) (by kernel_rfl) (fun _ _ _ h => h) (Or.inl ⟨rfl, ?_⟩) (by assumption) ?_; rotate_left 1; · (intro w hSw; (try dsimp only at hSw); go_simp; (try with_reducible rfl)))); (try simp only [Act.put, List.getElem_toArray, List.getElem_cons_zero, List.getElem_cons_succ, List.setIfInBounds_toArray, List.set_cons_zero, List.set_cons_succ])
      (first | (refine wpAnyH_take (i := 2) (v := undef) rfl (by kernel_rfl) (by kernel_rfl) (by kernel_rfl) (fun _ _ _ h => h) (Or.inr ⟨rfl, rfl⟩) (by assumption) ?_) | (refine wpAnyH_take (i := 2) (v := ?_) rfl (by kernel_rfl) (by kernel_rfl) (by kernel_rfl) (fun _ _ _ h => h) (Or.inl ⟨rfl, ?_⟩) (by assumption) ?_; rotate_left 1; · (intro w hSw; (try dsimp only at hSw); go_simp; (try with_reducible rfl)))); (try simp only [Act.put, List.getElem_toArray, List.getElem_cons_zero, List.getElem_cons_succ, List.setIfInBounds_toArray, List.set_cons_zero, List.set_cons_succ])
      (first | (refine wpAnyH_take (i := 3) (v := undef) rfl (by kernel_rfl) (by kernel_rfl) (by kernel_rfl) (fun _ _ _ h => h) (Or.inr ⟨rfl, rfl⟩) (by assumption) ?_) | (refine wpAnyH_take (i := 3) (v := ?_) rfl (by kernel_rfl) (by kernel_rfl) (by kernel_rfl) (fun _ _ _ h => h) (Or.inl ⟨rfl, ?_⟩) (by assumption) ?_; rotate_left 1; · (intro w hSw; (try dsimp only at hSw); go_simp; (try with_reducible rfl)))); (try simp only [Act.put, List.getElem_toArray, List.getElem_cons_zero, List.getElem_cons_succ, List.setIfInBounds_toArray, List.set_cons_zero, List.set_cons_succ])
      (first | (refine wpAnyH_take (i := 4) (v := undef) rfl (by kernel_rfl) (by kernel_rfl) (by kernel_rfl) (fun _ _ _ h => h) (Or.inr ⟨rfl, rfl⟩) (by assumption) ?_) | (refine wpAnyH_take (i := 4) (v := ?_) rfl (by kernel_rfl) (by kernel_rfl) (by kernel_rfl) (fun _ _ _ h => h) (Or.inl ⟨rfl, ?_⟩) (by assumption) ?_; rotate_left 1; · (intro w hSw; (try dsimp only at hSw); go_simp; (try with_reducible rfl)))); (try simp only [Act.put, List.getElem_toArray, List.getElem_cons_zero, List.getElem_cons_succ, List.setIfInBounds_toArray, List.set_cons_zero, List.set_cons_succ])
      (first | (refine wpAnyH_take (i := 5) (v := undef) rfl (by kernel_rfl) (by kernel_rfl) (by kernel_rfl) (fun _ _ _ h => h) (Or.inr ⟨rfl, rfl⟩) (by assumption) ?_) | (refine wpAnyH_take (i := 5) (v := ?_) rfl (by kernel_rfl) (by kernel_rfl) (by kernel_rfl) (fun _ _ _ h => h) (Or.inl ⟨rfl, ?_⟩) (by assumption) ?_; rotate_left 1; · (intro w hSw; (try dsimp only at hSw); go_simp; (try with_reducible rfl)))); (try simp only [Act.put, List.getElem_toArray, List.getElem_cons_zero, List.getElem_cons_succ, List.setIfInBounds_toArray, List.set_cons_zero, List.set_cons_succ])
      (first | (refine wpAnyH_take (i := 9) (v := undef) rfl (by kernel_rfl) (by kernel_rfl) (by kernel_rfl) (fun _ _ _ h => h) (Or.inr ⟨rfl, rfl⟩) (by assumption) ?_) | (refine wpAnyH_take (i := 9) (v := ?_) rfl (by kernel_rfl) (by kernel_rfl) (by kernel_rfl) (fun _ _ _ h => h) (Or.inl ⟨rfl, ?_⟩) (by assumption) ?_; rotate_left 1; · (intro w hSw; (try dsimp only at hSw); go_simp; (try with_reducible rfl)))); (try simp only [Act.put, List.getElem_toArray, List.getElem_cons_zero, List.getElem_cons_succ, List.setIfInBounds_toArray, List.set_cons_zero, List.set_cons_succ])
      refine wpAnyH_ready (rs := [6]) (by kernel_rfl) (by simp) ?_
      refine AllReadyH.cons rfl (fun K hK => ?_) AllReadyH.nil
      go_simp
      refine hK.out _ _ trivial (fun hHeld => ?_)
      clear hK K
      (try simp only [Act.put, List.getElem_toArray, List.getElem_cons_zero, List.getElem_cons_succ, List.setIfInBounds_toArray, List.set_cons_zero, List.set_cons_succ])
      (first | (refine wpAnyH_take (i := 7) (v := undef) rfl (by kernel_rfl) (by kernel_rfl) (by kernel_rfl) (fun _ _ _ h => h) (Or.inr ⟨rfl, rfl⟩) (by assumption) ?_) | (refine wpAnyH_take (i := 7) (v := ?_) rfl (by kernel_rfl) (by kernel_rfl) (by kernel_rfl) (fun _ _ _ h => h) (Or.inl ⟨rfl, ?_⟩) (by assumption) ?_; rotate_left 1; · (intro w hSw; (try dsimp only at hSw); go_simp; (try with_reducible rfl)))); (try simp only [Act.put, List.getElem_toArray, List.getElem_cons_zero, List.getElem_cons_succ, List.setIfInBounds_toArray, List.set_cons_zero, List.set_cons_succ])
      (first | (refine wpAnyH_take (i := 8) (v := undef) rfl (by kernel_rfl) (by kernel_rfl) (by kernel_rfl) (fun _ _ _ h => h) (Or.inr ⟨rfl, rfl⟩) (by assumption) ?_) | (refine wpAnyH_take (i := 8) (v := ?_) rfl (by kernel_rfl) (by kernel_rfl) (by kernel_rfl) (fun _ _ _ h => h) (Or.inl ⟨rfl, ?_⟩) (by assumption) ?_; rotate_left 1; · (intro w hSw; (try dsimp only at hSw); go_simp; (try with_reducible rfl)))); (try simp only [Act.put, List.getElem_toArray, List.getElem_cons_zero, List.getElem_cons_succ, List.setIfInBounds_toArray, List.set_cons_zero, List.set_cons_succ])
      refine wpAnyH_ready (rs := [10]) (by kernel_rfl) (by simp) ?_
      refine AllReadyH.cons rfl (fun K hK => ?_) AllReadyH.nil
      have hbd := Blk.drew hb
      refine st_cpB (oo := 8 + r) (nn := 64 - r) (cc := 64 - r) (zs := vbs (m.drop k)) rfl _ _ rfl Tryd.underlying22 (by kernel_rfl) rfl rfl hbd hr'.drew (vbs_one _) (by omega) (by omega) (by rw [hsCells_len s _ hbk]; omega) ?_
      intro wr3 hb3 ht3
      rw [← Hk.out]
      refine hK.out _ _ trivial (fun hHeld => ?_)
      clear hK K
      (try simp only [Act.put, List.getElem_toArray, List.getElem_cons_zero, List.getElem_cons_succ, List.setIfInBounds_toArray, List.set_cons_zero, List.set_cons_succ])
      (first | (refine wpAnyH_take (i := 11) (v := undef) rfl (by kernel_rfl) (by kernel_rfl) (by kernel_rfl) (fun _ _ _ h => h) (Or.inr ⟨rfl, rfl⟩) (by assumption) ?_) | (refine wpAnyH_take (i := 11) (v := ?_) rfl (by kernel_rfl) (by kernel_rfl) (by kernel_rfl) (fun _ _ _ h => h) (Or.inl ⟨rfl, ?_⟩) (by assumption) ?_; rotate_left 1; · (intro w hSw; (try dsimp only at hSw); go_simp; (try with_reducible rfl)))); (try simp only [Act.put, List.getElem_toArray, List.getElem_cons_zero, List.getElem_cons_succ, List.setIfInBounds_toArray, List.set_cons_zero, List.set_cons_succ])
      refine wpAnyH_done (by kernel_rfl) ?_ _
      refine NoPanic.normal ?_
      clear hHeld
      have e1 := hs_lay s bk (N : Int) r ((m.drop k).take kk) hbk (by rw [hxl]; omega)
      rw [hxl, ← vbs_take] at e1
      rw [← Hk.out, e1] at hb3
      have hlen : (sLay bk r ((m.drop k).take kk)).length = 64 := sLay_len hbk (by rw [hxl]; omega)
      have ht4 : Turn wr wr3 (some g) := (Turn.refl wr (some g)).drew.trans ht3
      have htr := ht.trans ht4
      obtain ⟨bk', hbk'⟩ : ∃ bk', bk' = sLay bk r ((m.drop k).take kk) := ⟨_, rfl⟩
      rw [← hbk'] at hlen hb3
      have c72 := hb3.ats (j := 72) (hsCells_last s (N : Int) hlen)
      have f72 := hb3.frozen 72
      have hb4 := hb3.sets 72 (.int .u64 ((N : Int) + (kk : Int)))
      rw [hs_written s bk' _ _ hlen] at hb4
      have ht5 := htr.trans (Blk.setTurn wr3 g 72 (.int .u64 ((N : Int) + (kk : Int))))
      have ht6 := ht4.trans (Blk.setTurn wr3 g 72 (.int .u64 ((N : Int) + (kk : Int))))
      have hLr := hL.turn ht5 (by simp; omega)
      have hBr : B ≤ wr.heap.size := Nat.le_trans hB ht.size
      have hcat : l ++ m.take (k + kk) = (l ++ m.take k) ++ (m.drop k).take kk := by rw [List.append_assoc, List.take_add]
      have hcl : (l ++ m.take (k + kk)).length = N + kk := by rw [hcat, List.length_append, hxl, ← Hh.out.2.1]
      have hst := Hh.out.1
      have hrL : (l ++ m.take k).length % 64 = r := by rw [← Hh.out.2.1]; exact Hh.out.2.2.symm
      have hful : r + kk = 64 → sState (l ++ m.take (k + kk)) (sBlock s bk') bk' := by
        intro h
        rw [hcat, hbk', ← hrL]
        exact sState_full hst (by rw [hxl, hrL]; exact h)
      have hprt : ¬ r + kk = 64 → sState (l ++ m.take (k + kk)) s bk' := by
        intro h
        rw [hcat, hbk', ← hrL]
        exact sState_part hst (by rw [hxl, hrL]; omega)
      have hcut : (c' = kk ∧ Rd wr B 1 (some ⟨b0, off, none⟩) (n' - kk) (vbs (m.drop (k + kk)))) ∨ (¬ c' = kk ∧ Rd wr B 1 (some ⟨b0, off + kk, none⟩) (n' - kk) (vbs (m.drop (k + kk)))) := by
        by_cases hck : c' = kk
        · have h2 := hr'.cutB (c := c') hk1 hnc'
          rw [if_pos hck, List.drop_drop] at h2
          exact .inl ⟨hck, h2⟩
        · have h2 := hr'.tailB (c := c') hk1 hnc' hck
          rw [List.drop_drop] at h2
          exact .inr ⟨hck, h2⟩
      have HB := hid (And.intro hbk' (And.intro hful (And.intro hprt hcl)))
      clear hbk' e1 ht3 hful hprt hcl hst hrL hcat htr ht4 ht hb hw hb3 hr' hxl
      have l4 : (kk : Int) ≤ (n' : Int) := by omega
      have l5 : kk ≤ c' := by omega
      have l6 : kk ≤ n' := by omega
      rcases hcut with ⟨hck, hrd⟩ | ⟨hck, hrd⟩
      all_goals
        by_cases hf : r + kk = 64
        · have hz : ((N : Int) + (kk : Int)) % 64 = 0 := by omega
          have hst := hid (HB.out.2.1 hf)
          clear hf htm hri
          go_wp2_with (go_at_call 21; refine (take_any s bk' ((N : Int) + (kk : Int)) g _ hLr hg ⟨hlen, hb4⟩).mono ?_; rintro e w6 ⟨rfl, hs6, ht7⟩)
          have hcl : ((l ++ m.take (k + kk)).length : Int) = (N : Int) + (kk : Int) := by rw [HB.out.2.2.2]; omega
          rw [← hcl] at hs6
          refine ⟨⟨k + kk, _, _, _, ?_, rfl, ?_, ?_, ⟨_, _, hs6, hst.out⟩, hrd.turnNe (ht6.trans ht7) hBr (.inr ?_), ?_, ht5.trans ht7⟩, ?_⟩
          · omega
          · omega
          · omega
          · simpa [blk] using hA'
          · exact fun _ => by simpa [blk] using hA'
          · simp; omega
        · have hz : ¬ ((N : Int) + (kk : Int)) % 64 = 0 := by omega
          have hst := hid (HB.out.2.2.1 hf)
          clear hf htm hri
          go_wp2_with fail
          have hcl : ((l ++ m.take (k + kk)).length : Int) = (N : Int) + (kk : Int) := by rw [HB.out.2.2.2]; omega
          rw [← hcl] at hb4 ht5 ht6 ⊢
          refine ⟨⟨k + kk, _, _, _, ?_, rfl, ?_, ?_, ⟨_, _, ⟨hlen, hb4⟩, hst.out⟩, hrd.turnNe ht6 hBr (.inr ?_), ?_, ht5⟩, ?_⟩
          · omega
          · omega
          · omega
          · simpa [blk] using hA'
          · exact fun _ => by simpa [blk] using hA'
          · simp; omega
end Go.Proofs.YtfmighjblppceaaDoor
