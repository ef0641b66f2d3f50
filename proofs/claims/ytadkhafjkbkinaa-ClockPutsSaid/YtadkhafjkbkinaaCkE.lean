/-
  Layer 13: Put (contract).
-/
import Derived.Test.YtadkhafjkbkinaaCkB
import Derived.Test.YtadkhafjkbkinaaFa
import Derived.Test.YtadkhafjkbkinaaKp
import Derived.OrdersHeld
namespace Go.Proofs.Ytadkhafjkbkinaa
open Go.RowKit

/-- A clock's bytes as far as its first j numbers. -/
def cRaw (c : List Int) : List UInt8 := UInt8.ofNat (cBits c) :: cNums c
theorem cRaw_len (c : List Int) : (cRaw c).length ≤ 1 + 8 * c.length := by
  have := cNums_len c
  simp only [cRaw, List.length_cons]
  omega
theorem cRaw_skip {c : List Int} {j : Nat} {x : Int} (hx : c[j]? = some x) (h : ¬ 0 < x) : cRaw (c.take (j + 1)) = cRaw (c.take j) := by
  rw [cRaw, cRaw, cBits_next c j x hx, cNums_next c j x hx, if_neg h, if_neg h, Nat.add_zero, List.append_nil]
theorem or_bit2 (n j : Nat) (hj : j < 8) (hn : n < 2 ^ j) : bits .or .u8 (n : Int) ((2 : Int) ^ j % 256) = ((n + 2 ^ j : Nat) : Int) := by
  have key : ∀ j : Nat, j < 8 → ∀ n : Nat, n < 2 ^ j → bits .or .u8 (n : Int) ((2 : Int) ^ j % 256) = ((n + 2 ^ j : Nat) : Int) := by decide +kernel
  exact key j hj n hn
theorem cRaw_set {c : List Int} {j : Nat} {x : Int} (hx : c[j]? = some x) (hj : j < 8) (hc : c.length = 8) (h : 0 < x) :
    (vbs (cRaw (c.take j) ++ pPut x.toNat)).set 0 (.int .u8 (bits .or .u8 (cBits (c.take j) : Int) ((2 : Int) ^ j % 256))) = vbs (cRaw (c.take (j + 1))) := by
  have hlt := cBits_lt (c.take j)
  have e : (c.take j).length = j := by rw [List.length_take, hc]; omega
  rw [e] at hlt
  have h7 : 2 ^ j ≤ 2 ^ 7 := Nat.pow_le_pow_right (by omega) (by omega)
  rw [or_bit2 _ j hj hlt, cRaw, cRaw, cBits_next c j x hx, cNums_next c j x hx, if_pos h, if_pos h, List.cons_append, vbs, vbs, List.map_cons, List.map_cons, List.set_cons_zero, vb_of]
  rw [Nat.mod_eq_of_lt (by omega)]
theorem cRaw_more {c : List Int} {j : Nat} {x : Int} (hx : c[j]? = some x) (h : 0 < x) : (cRaw (c.take (j + 1))).length = (cRaw (c.take j)).length + pSize x.toNat := by
  rw [cRaw, cRaw, cNums_next c j x hx, if_pos h]
  simp only [List.length_cons, List.length_append, pPut_len]
  omega
theorem pSize_ok {x : Int} (h0 : 0 ≤ x) (h : x ≤ 4611686018427387903) : pSize x.toNat ≠ 0 := by
  have := size_cases x h0
  omega
theorem pSize_no {x : Int} (h0 : 0 ≤ x) (h : 4611686018427387903 < x) : pSize x.toNat = 0 := by
  have := size_cases x h0
  omega

set_option maxRecDepth 100000 in
set_option maxHeartbeats 1600000 in
theorem cput_any (A : Option Addr) (n d : Nat) (l : List UInt8) (c : List Int) (B : Nat) (w : World) (hr : Rd w B 1 A n (vbs l)) (hB : B ≤ w.heap.size) (hnd : n ≤ d ∧ d ≤ maxLen) (hc : Ok8 c) (hn : n ≤ 140737488355328) :
    Calls Try.prog 17 #[.slice A n d, .agg (ck c).toArray] w fun e w' =>
      ∃ A' c', e = .returned (.tuple #[.slice A' (n + (cPut c).length) c', .int .i64 (cErr c)]) ∧ Own w' w.heap.size 5 1 A' (n + (cPut c).length) c' (vbs (l ++ cPut c)) ∧ Turn w w' none := by
  have hT := Turn.refl w none
  go_enter Try.func17, Try.ntmps17
  go_upto_region 2 with (refine wp_bx rfl 24 _ rfl rfl ?_; intro g1 w1 hg1 hb1 ht1; have hT := hT.trans ht1; skip)
  have ho := Own.full w1 w.heap.size 5 1 1 1 #[.int .u8 0] ht1.size (by decide) (by decide) rfl
  have hb2 := hb1.alloc (.cells #[.int .u8 0] 5)
  have hT2 := hT.alloc (.cells #[.int .u8 0] 5)
  generalize w1.alloc (.cells #[.int .u8 0] 5) = w2 at *
  generalize w1.heap.size = g2 at *
  clear hb1
  go_wp2_with (refine wp_ld rfl 24 _ rfl rfl hb2 (Sub.all (ck (c))) Try.underlying24 rfl (szCk hc.1) ?_)
  go_loopw [6, 12] (fun v i wr => ∃ (j : Nat) (A2 : Option Addr) (c2 : Nat), j ≤ 8 ∧ i = .int .i64 (j : Int) ∧ v = .slice A2 (cRaw (c.take j)).length c2 ∧ Own wr w.heap.size 5 1 A2 (cRaw (c.take j)).length c2 (vbs (cRaw (c.take j))) ∧
    Hid (∀ k x, k < j → c[k]? = some x → x ≤ 4611686018427387903) ∧ Turn w2 wr none) (fun _ i _ => (8 - intOf i).toNat)
  case atStart => exact ⟨0, _, 1, by omega, rfl, rfl, ho, hid (fun k x hk => by omega), Turn.refl w2 _⟩
  case round =>
    obtain ⟨j, A2, c2, hj, rfl, rfl, h2, hall, ht⟩ := hrel
    clear ho hT
    have hTr := hT2.trans ht
    have hl65 := cRaw_len (c.take j)
    rw [List.length_take, hc.1] at hl65
    by_cases hj8 : j < 8
    · obtain ⟨x, hx, hx0, hx1⟩ := hc.at_ hj8
      have hix := ix8 hj8 hx
      rcases Int.lt_or_le 0 x with hxp | hxz
      · have hxz2 : (x == 0) = false := by rw [beq_eq_false_iff_ne]; omega
        by_cases hbig : x ≤ 4611686018427387903
        · obtain ⟨l1, hl1⟩ : ∃ l1, l1 = cRaw (c.take j) := ⟨_, rfl⟩
          rw [← hl1] at h2 hl65
          rw [← hl1]
          obtain ⟨N, hN⟩ : ∃ N, N = l1.length := ⟨_, rfl⟩
          rw [← hN] at h2 hl65
          rw [← hN]
          have HL := hid hl1
          have HN := hid hN
          clear hl1 hN
          have hpe : pErr x.toNat = 0 := if_neg (pSize_ok hx0 hbig)
          go_wp2_with (first
            | (go_at_call 20; refine (put_any _ _ _ _ l1 _ _ h2.rd (Nat.le_refl _) hx0 hx1 (by omega)).mono ?_; rintro e w3 ⟨A3, c3, rfl, ho3, ht3⟩; rw [hpe]))
          obtain ⟨g4, rfl, hg4, hg4s⟩ := ho3.head (by have := pSize_ok hx0 hbig; omega)
          obtain ⟨M, hM⟩ : ∃ M, M = N + pSize x.toNat := ⟨_, rfl⟩
          rw [← hM] at ho3
          rw [← hM]
          have HM := hid hM
          have hMp : 0 < M := by have := pSize_ok hx0 hbig; omega
          have hMpi : (0 : Int) < (M : Int) := by omega
          clear hM
          have hc0 : w3.cell? ⟨g4, 0, none⟩ = some (.int .u8 (cBits (c.take j) : Int)) := by
            have hlt := cBits_lt (c.take j)
            have hlt2 : cBits (c.take j) < 256 := by
              have : (c.take j).length ≤ 7 := by rw [List.length_take, hc.1]; omega
              have h2 : 2 ^ (c.take j).length ≤ 2 ^ 7 := Nat.pow_le_pow_right (by omega) this
              omega
            have h := ho3.cell (i := 0) (by omega)
            rw [h, HL.out, cRaw, List.cons_append, vbs, List.map_cons, List.getElem?_cons_zero, vb_of]
            rw [Nat.mod_eq_of_lt hlt2]
          have hf0 := ho3.frozen 0
          refine wp_region_noPanic ?_
          refine wp_region_held_drew (S := fun _ => True) (by kernel_rfl) trivial (fun hHeld => ?_)
          (first | (refine wpAnyH_take (i := 0) (v := undef) rfl (by kernel_rfl) (by kernel_rfl) (by kernel_rfl) (fun _ _ _ h => h) (Or.inr ⟨rfl, rfl⟩) (by assumption) ?_) | (refine wpAnyH_take (i := 0) (v := ?_) rfl (by kernel_rfl) (by kernel_rfl) (by kernel_rfl) (fun _ _ _ h => h) (Or.inl ⟨rfl, ?_⟩) (by assumption) ?_; rotate_left 1; · (intro w hSw; (try dsimp only at hSw); go_simp; (try with_reducible rfl)))); (try simp only [Act.put, List.getElem_toArray, List.getElem_cons_zero, List.getElem_cons_succ, List.setIfInBounds_toArray, List.set_cons_zero, List.set_cons_succ])
          (first | (refine wpAnyH_take (i := 1) (v := undef) rfl (by kernel_rfl) (by kernel_rfl) (by kernel_rfl) (fun _ _ _ h => h) (Or.inr ⟨rfl, rfl⟩) (by assumption) ?_) | (refine wpAnyH_take (i := 1) (v := ?_) rfl (by kernel_rfl) (by kernel_rfl) (by kernel_rfl) (fun _ _ _ h => h) (Or.inl ⟨rfl, ?_⟩) (by assumption) ?_; rotate_left 1; · (intro w hSw; (try dsimp only at hSw); go_simp; (try with_reducible rfl)))); (try simp only [Act.put, List.getElem_toArray, List.getElem_cons_zero, List.getElem_cons_succ, List.setIfInBounds_toArray, List.set_cons_zero, List.set_cons_succ])
          (first | (refine wpAnyH_take (i := 3) (v := undef) rfl (by kernel_rfl) (by kernel_rfl) (by kernel_rfl) (fun _ _ _ h => h) (Or.inr ⟨rfl, rfl⟩) (by assumption) ?_) | (refine wpAnyH_take (i := 3) (v := ?_) rfl (by kernel_rfl) (by kernel_rfl) (by kernel_rfl) (fun _ _ _ h => h) (Or.inl ⟨rfl, ?_⟩) (by assumption) ?_; rotate_left 1; · (intro w hSw; (try dsimp only at hSw); go_simp; (try with_reducible rfl)))); (try simp only [Act.put, List.getElem_toArray, List.getElem_cons_zero, List.getElem_cons_succ, List.setIfInBounds_toArray, List.set_cons_zero, List.set_cons_succ])
          (first | (refine wpAnyH_take (i := 4) (v := undef) rfl (by kernel_rfl) (by kernel_rfl) (by kernel_rfl) (fun _ _ _ h => h) (Or.inr ⟨rfl, rfl⟩) (by assumption) ?_) | (refine wpAnyH_take (i := 4) (v := ?_) rfl (by kernel_rfl) (by kernel_rfl) (by kernel_rfl) (fun _ _ _ h => h) (Or.inl ⟨rfl, ?_⟩) (by assumption) ?_; rotate_left 1; · (intro w hSw; (try dsimp only at hSw); go_simp; (try with_reducible rfl)))); (try simp only [Act.put, List.getElem_toArray, List.getElem_cons_zero, List.getElem_cons_succ, List.setIfInBounds_toArray, List.set_cons_zero, List.set_cons_succ])
          refine wpAnyH_ready (rs := [2]) (by kernel_rfl) (by simp) ?_; refine AllReadyH.cons rfl (fun K hK => ?_) AllReadyH.nil
          go_simp
          refine hK.out _ _ trivial (fun hHeld => ?_); clear hK K; (try simp only [Act.put, List.getElem_toArray, List.getElem_cons_zero, List.getElem_cons_succ, List.setIfInBounds_toArray, List.set_cons_zero, List.set_cons_succ])
          (first | (refine wpAnyH_take (i := 5) (v := undef) rfl (by kernel_rfl) (by kernel_rfl) (by kernel_rfl) (fun _ _ _ h => h) (Or.inr ⟨rfl, rfl⟩) (by assumption) ?_) | (refine wpAnyH_take (i := 5) (v := ?_) rfl (by kernel_rfl) (by kernel_rfl) (by kernel_rfl) (fun _ _ _ h => h) (Or.inl ⟨rfl, ?_⟩) (by assumption) ?_; rotate_left 1; · (intro w hSw; (try dsimp only at hSw); go_simp; (try with_reducible rfl)))); (try simp only [Act.put, List.getElem_toArray, List.getElem_cons_zero, List.getElem_cons_succ, List.setIfInBounds_toArray, List.set_cons_zero, List.set_cons_succ])
          (first | (refine wpAnyH_take (i := 6) (v := undef) rfl (by kernel_rfl) (by kernel_rfl) (by kernel_rfl) (fun _ _ _ h => h) (Or.inr ⟨rfl, rfl⟩) (by assumption) ?_) | (refine wpAnyH_take (i := 6) (v := ?_) rfl (by kernel_rfl) (by kernel_rfl) (by kernel_rfl) (fun _ _ _ h => h) (Or.inl ⟨rfl, ?_⟩) (by assumption) ?_; rotate_left 1; · (intro w hSw; (try dsimp only at hSw); go_simp; (try with_reducible rfl)))); (try simp only [Act.put, List.getElem_toArray, List.getElem_cons_zero, List.getElem_cons_succ, List.setIfInBounds_toArray, List.set_cons_zero, List.set_cons_succ])
          refine wpAnyH_ready (rs := [7]) (by kernel_rfl) (by simp) ?_; refine AllReadyH.cons rfl (fun K hK => ?_) AllReadyH.nil
          go_simp
          refine hK.out _ _ trivial (fun hHeld => ?_); clear hK K; (try simp only [Act.put, List.getElem_toArray, List.getElem_cons_zero, List.getElem_cons_succ, List.setIfInBounds_toArray, List.set_cons_zero, List.set_cons_succ])
          refine wpAnyH_done (by kernel_rfl) ?_ _
          refine NoPanic.normal ?_
          clear hHeld
          go_wp2_with fail
          have e1 := cRaw_more hx hxp
          rw [← HL.out, ← HN.out, ← HM.out] at e1
          refine ⟨⟨j + 1, some ⟨g4, 0, none⟩, c3, by omega, rfl, by rw [e1], ?_, hid (fun k y hk hky => ?_), ((ht.trans ht3).new (ho3.storeTurn 0 _) (fun g e => by injection e with e; have := ht.size; omega)).drew⟩, ?_⟩
          · rw [e1, ← cRaw_set hx hj8 hc.1 hxp, ← HL.out]
            exact ((ho3.store 0 _).mono hTr.size).drew
          · by_cases hkj : k < j
            · exact hall.out k y hkj hky
            · obtain rfl : k = j := by omega
              rw [hx] at hky
              injection hky with hky
              omega
          · simp [intOf]; omega
        · have hpe : pErr x.toNat = 1 := if_pos (pSize_no hx0 (by omega))
          have hbad := hid (cBad_yes hx (by omega))
          obtain ⟨l1, hl1⟩ : ∃ l1, l1 = cRaw (c.take j) := ⟨_, rfl⟩
          rw [← hl1] at h2 hl65
          rw [← hl1]
          obtain ⟨N, hN⟩ : ∃ N, N = l1.length := ⟨_, rfl⟩
          rw [← hN] at h2 hl65
          rw [← hN]
          clear hl1 hN
          go_wp2_with (first
            | (go_at_call 20; refine (put_any _ _ _ _ l1 _ _ h2.rd (Nat.le_refl _) hx0 hx1 (by omega)).mono ?_; rintro e w3 ⟨A3, c3, rfl, ho3, ht3⟩; rw [hpe])
            | (go_at_call 21; refine (clone_any _ _ _ l B _ (hr.turn0 (hTr.trans ht3) hB) (Nat.le_trans hB (hTr.trans ht3).size) (by omega)).mono ?_; rintro e w5 ⟨A5, c5, rfl, ho5, ht5⟩))
          go_ret2
          have e1 : cPut c = [] := by unfold cPut; rw [if_pos hbad.out]
          have e2 : cErr c = 1 := by unfold cErr; rw [if_pos hbad.out]
          refine ⟨A5, c5, by rw [e1, e2]; rfl, ?_, (hTr.trans ht3).trans ht5⟩
          rw [e1, List.append_nil]
          exact ho5.mono (hTr.trans ht3).size
      · obtain rfl : x = 0 := by omega
        have hsk := cRaw_skip hx (by omega)
        go_wp2_with fail
        refine ⟨⟨j + 1, A2, c2, by omega, rfl, by rw [hsk], by rw [hsk]; exact h2, hid (fun k x hk hkx => ?_), ht⟩, ?_⟩
        · by_cases hkj : k < j
          · exact hall.out k x hkj hkx
          · obtain rfl : k = j := by omega
            rw [hx] at hkx
            injection hkx with hkx
            omega
        · simp [intOf]; omega
    · obtain rfl : j = 8 := by omega
      have ebad : cBad c = false := cBad_all hc.1 hall.out
      have e1 : cPut c = cRaw c := by unfold cPut; rw [ebad]; rfl
      have e2 : cErr c = 0 := by unfold cErr; rw [ebad]; rfl
      have E1 := hid e1
      have E2 := hid e2
      rw [List.take_of_length_le (Nat.le_of_eq hc.1)] at h2 hl65
      rw [List.take_of_length_le (Nat.le_of_eq hc.1)]
      clear e1 e2 ebad
      generalize cRaw c = l1 at *
      have hl := hr.len
      rw [vbs_len] at hl
      obtain ⟨N, hN⟩ : ∃ N, N = l1.length := ⟨_, rfl⟩
      rw [← hN] at h2 hl65
      rw [← hN]
      have HN := hid hN
      have HL := hid hl
      clear hN hl
      have hflat : [l, l1].flatten = l ++ l1 := by simp
      have hRw := (RowsAt.cons (c := d) ((hr.turn0 hTr hB).mono (Nat.le_trans hB hTr.size)) hnd.1 hnd.2 (RowsAt.cons (c := c2) h2.rd h2.cap.1 h2.cap.2 (RowsAt.nil wr _))).lit (Nat.le_refl _) 37
      go_wp2_with (go_at_call 22; refine (concat_any _ 2 2 _ _ _ _ hRw (by show _ ≤ (wr.heap.push _).size; rw [Array.size_push]; exact Nat.le_refl _) (by rw [hflat, List.length_append, ← HN.out, HL.out]; omega) (by decide)).mono ?_; rintro e w5 ⟨A5, c5, rfl, ho5, ht5⟩; rw [hflat, List.length_append, ← HN.out, HL.out] at ho5; rw [hflat, List.length_append, ← HN.out, HL.out])
      go_ret2
      refine ⟨A5, c5, by rw [E1.out, E2.out, ← HN.out]; rfl, ?_, (hTr.alloc _).trans ht5⟩
      rw [E1.out, ← HN.out]
      exact ho5.mono (hTr.alloc _).size
end Go.Proofs.Ytadkhafjkbkinaa
