/-
  Layer 5: the walk of FrameSpoilt.
-/
import Derived.Test.YtgmmmeghhfdlfaaFj
import Derived.Test.YtgmmmeghhfdlfaaFl
namespace Go.Proofs.Ytgmmmeghhfdlfaa
open Go.RowKit

theorem bit_at (b j : Nat) : (((b : Int) / 2 ^ j).tmod 2 == 1) = b.testBit j := by
  have e : ((b : Int) / 2 ^ j) = ((b / 2 ^ j : Nat) : Int) := by rw [Int.natCast_ediv, Int.natCast_pow]; rfl
  rw [e, Int.tmod_eq_emod_of_nonneg (Int.natCast_nonneg _), Nat.testBit_eq_decide_div_mod_eq, Bool.eq_iff_iff, beq_iff_eq, decide_eq_true_iff]
  omega
theorem k_facts {w : World} {B n k : Nat} {A : Option Addr} {vs : List Value} {rows : List (List UInt8)} (hr : Rw w B A n vs rows) {x : List UInt8} (hx : rows[k]? = some x) :
    ∃ b0 off a kk, A = some ⟨b0, off, none⟩ ∧ b0 < B ∧ w.cell? ⟨b0, off + k, none⟩ = some (.slice a x.length kk) := by
  have hk := (List.getElem?_eq_some_iff.1 hx).1
  have hl := hr.len
  obtain ⟨a, m, kk, hv, hrx, _, _⟩ := hr.2.2 k x hx
  obtain ⟨b0, off, rfl, hb, hcells⟩ := hr.1.head (by omega)
  have hm := hrx.len
  rw [vbs_len] at hm
  subst hm
  exact ⟨b0, off, a, kk, rfl, hb, hcells k _ hv⟩

set_option maxRecDepth 100000 in
set_option maxHeartbeats 800000 in
theorem fspoilt_aa (A : Option Addr) (n c : Nat) (vs : List Value) (rows : List (List UInt8)) (which v0 : Int) (by_ : Nat) (w : World) (hr : Rw w w.heap.size A n vs rows) (hnc : n ≤ c) (hc : c ≤ maxLen) (hn : n ≤ 140737488355328) (hx : ∀ x ∈ rows, x.length ≤ 140737488355328)
    (hw0 : 0 ≤ which) (hw1 : which ≤ 255) (hv0 : 0 ≤ v0) (hv1 : v0 ≤ 4294967295) (hv3 : (by_ : Int) ≤ 4294967295)
    (k m H N f : Nat) (x : List UInt8) (hk : which % (n : Int) = (k : Int)) (hkn : (k : Int) < n) (hk8 : Hid (rows[k]? = some x)) (hm : Hid (x.length = m)) (hm20 : m ≤ 20000) (hH : Hid ((fAll (rows.take k)).length = H)) (hN : Hid ((fAll rows).length = N)) (hN2 : N ≤ 22400) (hHN : (H : Int) + pSize m + m + 4 ≤ N) (hHN5 : (H : Int) + m + 5 ≤ N)
    (hf : v0 % (8 * ((m : Int) + 4)) = (f : Int)) (I : Nat) (hI : 32 ≤ I) (hI2 : I ≤ 32) (hIB : (f : Int) + I ≤ 8 * ((m : Int) + 4)) (HA : Hid (fAny by_ I = true)) (HSC : Hid (fScan (fC rows k x f by_ I) = (rows.take k, H, 50))) (HL : Hid (rows.length = n)) (HB : Hid (∀ x ∈ rows, x.length ≤ 1048576)) :
    Calls Try.prog 6 #[.slice A n c, .int .u8 which, .agg #[.int .u32 v0, .int .u32 (by_ : Int)]] w fun e w' => e = .returned (.bool true) ∧ Turn w w' none := by
  obtain ⟨b0, off, a, kk, rfl, hb0, hcell⟩ := k_facts hr hk8.out
  rw [hm.out] at hcell
  have hpm := pSize_le m
  have hn0 : ((n : Int) == 0) = false := by rw [beq_eq_false_iff_ne]; omega
  have HBk : Hid (∀ y ∈ rows.take k, y.length ≤ 1048576) := hid fun y hy => HB.out y (List.mem_of_mem_take hy)
  go_enter Try.func6, Try.ntmps6
  go_wp2_with fail
  generalize hg : w.heap.size = g
  have hbox := Blk.new w 46 #[.int .u32 v0, .int .u32 (by_ : Int)]
  rw [hg] at hbox
  have hT := (Turn.refl w none).alloc (.cells #[.int .u32 v0, .int .u32 (by_ : Int)] 46)
  have c0 := hbox.cell 0
  have c1 := hbox.cell 1
  simp only [List.getElem?_toArray, List.getElem?_cons_zero, List.getElem?_cons_succ] at c0 c1
  generalize w.alloc (.cells #[.int .u32 v0, .int .u32 (by_ : Int)] 46) = wb at *
  go_region_held3 (fun w' => w'.cell? ⟨g, 0, none⟩ = some (.int .u32 v0) ∧ w'.cell? ⟨g, 1, none⟩ = some (.int .u32 (by_ : Int))) (exact ⟨c0, c1⟩) (fail)
  have hT := hT.drew
  clear c0 c1 hbox
  have hrb := hr.turn0 hT (Nat.le_refl _)
  go_upto_region 11 with (first
    | (go_at_call 19; refine (small_or _ _ _ vs rows _ _ hrb hn hx).mono ?_; rintro e w' ⟨⟨rfl, hsm⟩ | rfl, rfl⟩)
    | (go_at_call 13; refine (lives_any _).mono ?_; rintro e w8 ⟨rfl, ht8⟩)
    | (go_at_call_of 20 k; refine (lput_any _ _ _ _ _ _ _ (hrb.take (by omega)) hT.size (by omega) HBk.out (by have := hH.out; omega)).mono ?_; rintro e w1 ⟨A1, c1, rfl, ho1, ht1⟩; rw [hH.out] at ho1; rw [hH.out]; have hT1 := hT.trans ht1)
    | (go_at_call_of 20 n; refine (lput_any _ _ _ vs rows _ _ (hr.turn0 hT1 (Nat.le_refl _)) hT1.size (by omega) HB.out (by have := hN.out; omega)).mono ?_; rintro e w2 ⟨A2, c2, rfl, ho2, ht2⟩; rw [hN.out] at ho2; rw [hN.out]; have hT2 := hT1.trans ht2; have hcell2 := (hT2.cell hb0 (by simp)).trans hcell)
    | (go_at_call 11; refine (rsize_any _ _ (by omega) (by omega)).mono ?_; rintro e w' ⟨rfl, rfl⟩; simp only [Int.toNat_natCast]))
  · have hbits : 8 * ((m : Int) + 4) ≤ 160032 := by omega
    have hbits0 : 0 < 8 * ((m : Int) + 4) := by omega
    have hf2 : (f : Int) < 8 * ((m : Int) + 4) := by have := Int.emod_lt_of_pos v0 hbits0; omega
    have hw32 : IntKind.u32.wrap (8 * ((m : Int) + 4)) = 8 * ((m : Int) + 4) := by rw [IntKind.wrap_u32]; omega
    have htm : v0.tmod (8 * ((m : Int) + 4)) = (f : Int) := by rw [Int.tmod_eq_emod_of_nonneg hv0]; exact hf
    have hw64 := wrapSmall f (by omega)
    obtain ⟨BT, hBT⟩ : ∃ BT : Int, BT = 8 * ((m : Int) + 4) := ⟨_, rfl⟩
    rw [← hBT] at hw32 htm hbits hbits0 hf2 hf hIB
    rw [← hBT]
    have HBT := hid hBT
    clear hBT
    have hBT0 : ¬ BT = 0 := by omega
    refine wp_region_noPanic ?_
    refine wp_region_held_drew (S := fun W => Turn w2 W none) (by kernel_rfl) (Turn.refl _ none).drew (fun hHeld => ?_)
    refine wpAnyH_more (S' := fun W => Turn (World.drew w2) W none) (fun W h => (Turn.refl _ none).drew.trans h) _ _ _ _ ?_
    clear hHeld
    have hHeld : (fun W => Turn (World.drew w2) W none) (World.drew w2) := Turn.refl _ none
    (first | (refine wpAnyH_take (i := 0) (v := undef) rfl (by kernel_rfl) (by kernel_rfl) (by kernel_rfl) (fun _ _ _ h => h) (Or.inr ⟨rfl, rfl⟩) (by assumption) ?_) | (refine wpAnyH_take (i := 0) (v := ?_) rfl (by kernel_rfl) (by kernel_rfl) (by kernel_rfl) (fun _ _ _ h => h) (Or.inl ⟨rfl, ?_⟩) (by assumption) ?_; rotate_left 1; · (intro w hSw; (try dsimp only at hSw); go_simp; (try with_reducible rfl)))); (try simp only [Act.put, List.getElem_toArray, List.getElem_cons_zero, List.getElem_cons_succ, List.setIfInBounds_toArray, List.set_cons_zero, List.set_cons_succ])
    (first | (refine wpAnyH_take (i := 2) (v := undef) rfl (by kernel_rfl) (by kernel_rfl) (by kernel_rfl) (fun _ _ _ h => h) (Or.inr ⟨rfl, rfl⟩) (by assumption) ?_) | (refine wpAnyH_take (i := 2) (v := ?_) rfl (by kernel_rfl) (by kernel_rfl) (by kernel_rfl) (fun _ _ _ h => h) (Or.inl ⟨rfl, ?_⟩) (by assumption) ?_; rotate_left 1; · (intro w hSw; (try dsimp only at hSw); go_simp; (try with_reducible rfl)))); (try simp only [Act.put, List.getElem_toArray, List.getElem_cons_zero, List.getElem_cons_succ, List.setIfInBounds_toArray, List.set_cons_zero, List.set_cons_succ])
    (first | (refine wpAnyH_take (i := 3) (v := undef) rfl (by kernel_rfl) (by kernel_rfl) (by kernel_rfl) (fun _ _ _ h => h) (Or.inr ⟨rfl, rfl⟩) (by assumption) ?_) | (refine wpAnyH_take (i := 3) (v := ?_) rfl (by kernel_rfl) (by kernel_rfl) (by kernel_rfl) (fun _ _ _ h => h) (Or.inl ⟨rfl, ?_⟩) (by assumption) ?_; rotate_left 1; · (intro w hSw; (try dsimp only at hSw); go_simp; (try with_reducible rfl)))); (try simp only [Act.put, List.getElem_toArray, List.getElem_cons_zero, List.getElem_cons_succ, List.setIfInBounds_toArray, List.set_cons_zero, List.set_cons_succ])
    (first | (refine wpAnyH_take (i := 4) (v := undef) rfl (by kernel_rfl) (by kernel_rfl) (by kernel_rfl) (fun _ _ _ h => h) (Or.inr ⟨rfl, rfl⟩) (by assumption) ?_) | (refine wpAnyH_take (i := 4) (v := ?_) rfl (by kernel_rfl) (by kernel_rfl) (by kernel_rfl) (fun _ _ _ h => h) (Or.inl ⟨rfl, ?_⟩) (by assumption) ?_; rotate_left 1; · (intro w hSw; (try dsimp only at hSw); go_simp; (try with_reducible rfl)))); (try simp only [Act.put, List.getElem_toArray, List.getElem_cons_zero, List.getElem_cons_succ, List.setIfInBounds_toArray, List.set_cons_zero, List.set_cons_succ])
    (first | (refine wpAnyH_take (i := 5) (v := undef) rfl (by kernel_rfl) (by kernel_rfl) (by kernel_rfl) (fun _ _ _ h => h) (Or.inr ⟨rfl, rfl⟩) (by assumption) ?_) | (refine wpAnyH_take (i := 5) (v := ?_) rfl (by kernel_rfl) (by kernel_rfl) (by kernel_rfl) (fun _ _ _ h => h) (Or.inl ⟨rfl, ?_⟩) (by assumption) ?_; rotate_left 1; · (intro w hSw; (try dsimp only at hSw); go_simp; (try with_reducible rfl)))); (try simp only [Act.put, List.getElem_toArray, List.getElem_cons_zero, List.getElem_cons_succ, List.setIfInBounds_toArray, List.set_cons_zero, List.set_cons_succ])
    (first | (refine wpAnyH_take (i := 6) (v := undef) rfl (by kernel_rfl) (by kernel_rfl) (by kernel_rfl) (fun _ _ _ h => h) (Or.inr ⟨rfl, rfl⟩) (by assumption) ?_) | (refine wpAnyH_take (i := 6) (v := ?_) rfl (by kernel_rfl) (by kernel_rfl) (by kernel_rfl) (fun _ _ _ h => h) (Or.inl ⟨rfl, ?_⟩) (by assumption) ?_; rotate_left 1; · (intro w hSw; (try dsimp only at hSw); go_simp; (try with_reducible rfl)))); (try simp only [Act.put, List.getElem_toArray, List.getElem_cons_zero, List.getElem_cons_succ, List.setIfInBounds_toArray, List.set_cons_zero, List.set_cons_succ])
    refine wpAnyH_ready (rs := [1]) (by kernel_rfl) (by simp) ?_
    refine AllReadyH.cons rfl (fun K hK => ?_) AllReadyH.nil
    go_simp
    refine (own_any _ _ _ (fAll rows) _ _ ho2.drew.rd (Nat.le_refl _) (by omega)).mono ?_
    rintro e w3 ⟨A3, c3, rfl, ho3, ht3⟩
    refine hK.out _ _ (show Turn _ _ none from ht3) (fun hHeld => ?_)
    clear hK K
    (try simp only [Act.put, List.getElem_toArray, List.getElem_cons_zero, List.getElem_cons_succ, List.setIfInBounds_toArray, List.set_cons_zero, List.set_cons_succ])
    refine wpAnyH_more (S' := fun W => Turn w3 W none) (fun W h => Turn.trans ht3 h) _ _ _ _ ?_
    clear hHeld
    have hHeld : (fun W => Turn w3 W none) w3 := Turn.refl w3 none
    (first | (refine wpAnyH_take (i := 7) (v := undef) rfl (by kernel_rfl) (by kernel_rfl) (by kernel_rfl) (fun _ _ _ h => h) (Or.inr ⟨rfl, rfl⟩) (by assumption) ?_) | (refine wpAnyH_take (i := 7) (v := ?_) rfl (by kernel_rfl) (by kernel_rfl) (by kernel_rfl) (fun _ _ _ h => h) (Or.inl ⟨rfl, ?_⟩) (by assumption) ?_; rotate_left 1; · (intro w hSw; (try dsimp only at hSw); go_simp; (try with_reducible rfl)))); (try simp only [Act.put, List.getElem_toArray, List.getElem_cons_zero, List.getElem_cons_succ, List.setIfInBounds_toArray, List.set_cons_zero, List.set_cons_succ])
    (first | (refine wpAnyH_take (i := 8) (v := undef) rfl (by kernel_rfl) (by kernel_rfl) (by kernel_rfl) (fun _ _ _ h => h) (Or.inr ⟨rfl, rfl⟩) (by assumption) ?_) | (refine wpAnyH_take (i := 8) (v := ?_) rfl (by kernel_rfl) (by kernel_rfl) (by kernel_rfl) (fun _ _ _ h => h) (Or.inl ⟨rfl, ?_⟩) (by assumption) ?_; rotate_left 1; · (intro w hSw; (try dsimp only at hSw); go_simp; (try with_reducible rfl)))); (try simp only [Act.put, List.getElem_toArray, List.getElem_cons_zero, List.getElem_cons_succ, List.setIfInBounds_toArray, List.set_cons_zero, List.set_cons_succ])
    (first | (refine wpAnyH_take (i := 9) (v := undef) rfl (by kernel_rfl) (by kernel_rfl) (by kernel_rfl) (fun _ _ _ h => h) (Or.inr ⟨rfl, rfl⟩) (by assumption) ?_) | (refine wpAnyH_take (i := 9) (v := ?_) rfl (by kernel_rfl) (by kernel_rfl) (by kernel_rfl) (fun _ _ _ h => h) (Or.inl ⟨rfl, ?_⟩) (by assumption) ?_; rotate_left 1; · (intro w hSw; (try dsimp only at hSw); go_simp; (try with_reducible rfl)))); (try simp only [Act.put, List.getElem_toArray, List.getElem_cons_zero, List.getElem_cons_succ, List.setIfInBounds_toArray, List.set_cons_zero, List.set_cons_succ])
    refine wpAnyH_done (by kernel_rfl) ?_ _
    refine NoPanic.normal ?_
    clear hHeld
    have hT3 := hT2.trans ht3.undrew
    obtain ⟨g3, rfl, hg3, hg4⟩ := ho3.head (by omega)
    have hmi : m ≤ 20000 := hm20
    go_upto_region 13 with fail
    have hT3' : Turn w w3 none := hT3
    go_loopw [17, 19] (fun v i wr => ∃ j : Nat, j ≤ I ∧ (f : Int) + j ≤ BT ∧ i = .int .i64 (j : Int) ∧ v = .bool (fAny by_ j) ∧ Own wr w2.heap.size 5 1 (some ⟨g3, 0, none⟩) N c3 (vbs (fC rows k x f by_ j)) ∧ Turn w wr none) (fun _ i _ => (33 - intOf i).toNat)
    case atStart => exact ⟨0, by omega, by omega, rfl, rfl, by rw [fC_zero hk8.out]; exact ho3, hT3'⟩
    case round =>
      obtain ⟨j, hj, hfj, rfl, rfl, ho4, hT4⟩ := hrel
      clear ho3 ht3
      by_cases hin : j < I
      · have hj32i : (j : Int) < 32 := by omega
        have hjB : (f : Int) + j < BT := by have := hIB; omega
        have hb1 := bit_at by_ j
        have hd8 : ((f : Int) + j) / 8 < m + 4 := by have := HBT.out; omega
        have hd0 : 0 ≤ ((f : Int) + j) / 8 := by omega
        cases hbit : by_.testBit j with
        | true =>
          rw [hbit] at hb1
          have hidx : 0 ≤ (H : Int) + (pSize m : Int) + ((f : Int) + j) / 8 ∧ (H : Int) + (pSize m : Int) + ((f : Int) + j) / 8 < N := by omega
          obtain ⟨b, hcb, hfr, hst⟩ := own_flip (i := H + pSize m + (f + j) / 8) (s := (f + j) % 8) ho4 (by omega) (by omega)
          have hb256 := b.toNat_lt
          have hmask : (128 : Int) / 2 ^ ((f + j) % 8) = ((128 >>> ((f + j) % 8) : Nat) : Int) := by rw [Nat.shiftRight_eq_div_pow, Int.natCast_ediv, Int.natCast_pow]; rfl
          obtain ⟨ho5, ht5⟩ := hst (bits .xor .u8 (b.toNat : Int) ((128 : Int) / 2 ^ ((f + j) % 8))) (congrArg (bits .xor .u8 (b.toNat : Int)) hmask)
          clear hst hmask
          have hon := fC_on (rows := rows) (k := k) (x := x) (f := f) hbit (by rw [hm.out]; have := HBT.out; omega)
          rw [hH.out, hm.out] at hon
          rw [← hon] at ho5
          clear hon
          go_wp2
          refine ⟨⟨j + 1, by omega, by omega, by go_num, by rw [fAny_next, hbit, Bool.or_true], ho5, hT4.new ht5 (fun g' e => by injection e with e; have := (ho4.block g3 rfl).1; have := hT2.size; omega)⟩, ?_⟩
          simp [intOf]; omega
        | false =>
          rw [hbit] at hb1
          go_wp2
          refine ⟨⟨j + 1, by omega, by omega, by go_num, by rw [fAny_next, hbit, Bool.or_false], by rw [fC_off hbit]; exact ho4, hT4⟩, ?_⟩
          simp [intOf]; omega
      · obtain rfl : j = I := by omega
        clear hin
        have h32 : (32 : Int) ≤ j := by omega
        have ha := HA.out
        go_wp2_with (first
          | (go_at_call 16; refine (fscan_any _ _ _ (fC rows k x f by_ j) _ _ ho4.rd (Nat.le_refl _) (by omega)).mono ?_; rintro e w6 ⟨L6, n6, c6, vs6, rfl, how6, ht6⟩; rw [HSC.out] at how6; rw [HSC.out]; have hT6 := hT4.trans ht6; have hn6 := how6.rw_.len; rw [List.length_take, HL.out, Nat.min_eq_left (by omega)] at hn6; subst n6)
          | (go_at_call 18; refine (same_self _ _ _ _ _ _ _ _ _ _ _ how6.rw_ (((hr.turn0 hT6 (Nat.le_refl _)).mono hT6.size).take (by omega)) (Nat.le_refl _) (by omega)).mono ?_; rintro e w7 ⟨rfl, ht7⟩; have hT7 := hT6.trans ht7)
          | (go_at_call 13; refine (lives_any _).mono ?_; rintro e w8 ⟨rfl, ht8⟩))
        go_ret
        exact ⟨rfl, hT7.trans ht8⟩
  · go_ret
    exact ⟨rfl, hT.trans ht8⟩

set_option maxRecDepth 100000 in
set_option maxHeartbeats 800000 in
theorem fspoilt_an (A : Option Addr) (n c : Nat) (vs : List Value) (rows : List (List UInt8)) (which v0 : Int) (by_ : Nat) (w : World) (hr : Rw w w.heap.size A n vs rows) (hnc : n ≤ c) (hc : c ≤ maxLen) (hn : n ≤ 140737488355328) (hx : ∀ x ∈ rows, x.length ≤ 140737488355328)
    (hw0 : 0 ≤ which) (hw1 : which ≤ 255) (hv0 : 0 ≤ v0) (hv1 : v0 ≤ 4294967295) (hv3 : (by_ : Int) ≤ 4294967295)
    (k m H N f : Nat) (x : List UInt8) (hk : which % (n : Int) = (k : Int)) (hkn : (k : Int) < n) (hk8 : Hid (rows[k]? = some x)) (hm : Hid (x.length = m)) (hm20 : m ≤ 20000) (hH : Hid ((fAll (rows.take k)).length = H)) (hN : Hid ((fAll rows).length = N)) (hN2 : N ≤ 22400) (hHN : (H : Int) + pSize m + m + 4 ≤ N) (hHN5 : (H : Int) + m + 5 ≤ N)
    (hf : v0 % (8 * ((m : Int) + 4)) = (f : Int)) (I : Nat) (hI : 32 ≤ I) (hI2 : I ≤ 32) (hIB : (f : Int) + I ≤ 8 * ((m : Int) + 4)) (HA : Hid (fAny by_ I = false)) (HSC : Hid (fScan (fC rows k x f by_ I) = (rows, N, 0))) (HL : Hid (rows.length = n)) (HB : Hid (∀ x ∈ rows, x.length ≤ 1048576)) :
    Calls Try.prog 6 #[.slice A n c, .int .u8 which, .agg #[.int .u32 v0, .int .u32 (by_ : Int)]] w fun e w' => e = .returned (.bool true) ∧ Turn w w' none := by
  obtain ⟨b0, off, a, kk, rfl, hb0, hcell⟩ := k_facts hr hk8.out
  rw [hm.out] at hcell
  have hpm := pSize_le m
  have hn0 : ((n : Int) == 0) = false := by rw [beq_eq_false_iff_ne]; omega
  have HBk : Hid (∀ y ∈ rows.take k, y.length ≤ 1048576) := hid fun y hy => HB.out y (List.mem_of_mem_take hy)
  go_enter Try.func6, Try.ntmps6
  go_wp2_with fail
  generalize hg : w.heap.size = g
  have hbox := Blk.new w 46 #[.int .u32 v0, .int .u32 (by_ : Int)]
  rw [hg] at hbox
  have hT := (Turn.refl w none).alloc (.cells #[.int .u32 v0, .int .u32 (by_ : Int)] 46)
  have c0 := hbox.cell 0
  have c1 := hbox.cell 1
  simp only [List.getElem?_toArray, List.getElem?_cons_zero, List.getElem?_cons_succ] at c0 c1
  generalize w.alloc (.cells #[.int .u32 v0, .int .u32 (by_ : Int)] 46) = wb at *
  go_region_held3 (fun w' => w'.cell? ⟨g, 0, none⟩ = some (.int .u32 v0) ∧ w'.cell? ⟨g, 1, none⟩ = some (.int .u32 (by_ : Int))) (exact ⟨c0, c1⟩) (fail)
  have hT := hT.drew
  clear c0 c1 hbox
  have hrb := hr.turn0 hT (Nat.le_refl _)
  go_upto_region 11 with (first
    | (go_at_call 19; refine (small_or _ _ _ vs rows _ _ hrb hn hx).mono ?_; rintro e w' ⟨⟨rfl, hsm⟩ | rfl, rfl⟩)
    | (go_at_call 13; refine (lives_any _).mono ?_; rintro e w8 ⟨rfl, ht8⟩)
    | (go_at_call_of 20 k; refine (lput_any _ _ _ _ _ _ _ (hrb.take (by omega)) hT.size (by omega) HBk.out (by have := hH.out; omega)).mono ?_; rintro e w1 ⟨A1, c1, rfl, ho1, ht1⟩; rw [hH.out] at ho1; rw [hH.out]; have hT1 := hT.trans ht1)
    | (go_at_call_of 20 n; refine (lput_any _ _ _ vs rows _ _ (hr.turn0 hT1 (Nat.le_refl _)) hT1.size (by omega) HB.out (by have := hN.out; omega)).mono ?_; rintro e w2 ⟨A2, c2, rfl, ho2, ht2⟩; rw [hN.out] at ho2; rw [hN.out]; have hT2 := hT1.trans ht2; have hcell2 := (hT2.cell hb0 (by simp)).trans hcell)
    | (go_at_call 11; refine (rsize_any _ _ (by omega) (by omega)).mono ?_; rintro e w' ⟨rfl, rfl⟩; simp only [Int.toNat_natCast]))
  · have hbits : 8 * ((m : Int) + 4) ≤ 160032 := by omega
    have hbits0 : 0 < 8 * ((m : Int) + 4) := by omega
    have hf2 : (f : Int) < 8 * ((m : Int) + 4) := by have := Int.emod_lt_of_pos v0 hbits0; omega
    have hw32 : IntKind.u32.wrap (8 * ((m : Int) + 4)) = 8 * ((m : Int) + 4) := by rw [IntKind.wrap_u32]; omega
    have htm : v0.tmod (8 * ((m : Int) + 4)) = (f : Int) := by rw [Int.tmod_eq_emod_of_nonneg hv0]; exact hf
    have hw64 := wrapSmall f (by omega)
    obtain ⟨BT, hBT⟩ : ∃ BT : Int, BT = 8 * ((m : Int) + 4) := ⟨_, rfl⟩
    rw [← hBT] at hw32 htm hbits hbits0 hf2 hf hIB
    rw [← hBT]
    have HBT := hid hBT
    clear hBT
    have hBT0 : ¬ BT = 0 := by omega
    refine wp_region_noPanic ?_
    refine wp_region_held_drew (S := fun W => Turn w2 W none) (by kernel_rfl) (Turn.refl _ none).drew (fun hHeld => ?_)
    refine wpAnyH_more (S' := fun W => Turn (World.drew w2) W none) (fun W h => (Turn.refl _ none).drew.trans h) _ _ _ _ ?_
    clear hHeld
    have hHeld : (fun W => Turn (World.drew w2) W none) (World.drew w2) := Turn.refl _ none
    (first | (refine wpAnyH_take (i := 0) (v := undef) rfl (by kernel_rfl) (by kernel_rfl) (by kernel_rfl) (fun _ _ _ h => h) (Or.inr ⟨rfl, rfl⟩) (by assumption) ?_) | (refine wpAnyH_take (i := 0) (v := ?_) rfl (by kernel_rfl) (by kernel_rfl) (by kernel_rfl) (fun _ _ _ h => h) (Or.inl ⟨rfl, ?_⟩) (by assumption) ?_; rotate_left 1; · (intro w hSw; (try dsimp only at hSw); go_simp; (try with_reducible rfl)))); (try simp only [Act.put, List.getElem_toArray, List.getElem_cons_zero, List.getElem_cons_succ, List.setIfInBounds_toArray, List.set_cons_zero, List.set_cons_succ])
    (first | (refine wpAnyH_take (i := 2) (v := undef) rfl (by kernel_rfl) (by kernel_rfl) (by kernel_rfl) (fun _ _ _ h => h) (Or.inr ⟨rfl, rfl⟩) (by assumption) ?_) | (refine wpAnyH_take (i := 2) (v := ?_) rfl (by kernel_rfl) (by kernel_rfl) (by kernel_rfl) (fun _ _ _ h => h) (Or.inl ⟨rfl, ?_⟩) (by assumption) ?_; rotate_left 1; · (intro w hSw; (try dsimp only at hSw); go_simp; (try with_reducible rfl)))); (try simp only [Act.put, List.getElem_toArray, List.getElem_cons_zero, List.getElem_cons_succ, List.setIfInBounds_toArray, List.set_cons_zero, List.set_cons_succ])
    (first | (refine wpAnyH_take (i := 3) (v := undef) rfl (by kernel_rfl) (by kernel_rfl) (by kernel_rfl) (fun _ _ _ h => h) (Or.inr ⟨rfl, rfl⟩) (by assumption) ?_) | (refine wpAnyH_take (i := 3) (v := ?_) rfl (by kernel_rfl) (by kernel_rfl) (by kernel_rfl) (fun _ _ _ h => h) (Or.inl ⟨rfl, ?_⟩) (by assumption) ?_; rotate_left 1; · (intro w hSw; (try dsimp only at hSw); go_simp; (try with_reducible rfl)))); (try simp only [Act.put, List.getElem_toArray, List.getElem_cons_zero, List.getElem_cons_succ, List.setIfInBounds_toArray, List.set_cons_zero, List.set_cons_succ])
    (first | (refine wpAnyH_take (i := 4) (v := undef) rfl (by kernel_rfl) (by kernel_rfl) (by kernel_rfl) (fun _ _ _ h => h) (Or.inr ⟨rfl, rfl⟩) (by assumption) ?_) | (refine wpAnyH_take (i := 4) (v := ?_) rfl (by kernel_rfl) (by kernel_rfl) (by kernel_rfl) (fun _ _ _ h => h) (Or.inl ⟨rfl, ?_⟩) (by assumption) ?_; rotate_left 1; · (intro w hSw; (try dsimp only at hSw); go_simp; (try with_reducible rfl)))); (try simp only [Act.put, List.getElem_toArray, List.getElem_cons_zero, List.getElem_cons_succ, List.setIfInBounds_toArray, List.set_cons_zero, List.set_cons_succ])
    (first | (refine wpAnyH_take (i := 5) (v := undef) rfl (by kernel_rfl) (by kernel_rfl) (by kernel_rfl) (fun _ _ _ h => h) (Or.inr ⟨rfl, rfl⟩) (by assumption) ?_) | (refine wpAnyH_take (i := 5) (v := ?_) rfl (by kernel_rfl) (by kernel_rfl) (by kernel_rfl) (fun _ _ _ h => h) (Or.inl ⟨rfl, ?_⟩) (by assumption) ?_; rotate_left 1; · (intro w hSw; (try dsimp only at hSw); go_simp; (try with_reducible rfl)))); (try simp only [Act.put, List.getElem_toArray, List.getElem_cons_zero, List.getElem_cons_succ, List.setIfInBounds_toArray, List.set_cons_zero, List.set_cons_succ])
    (first | (refine wpAnyH_take (i := 6) (v := undef) rfl (by kernel_rfl) (by kernel_rfl) (by kernel_rfl) (fun _ _ _ h => h) (Or.inr ⟨rfl, rfl⟩) (by assumption) ?_) | (refine wpAnyH_take (i := 6) (v := ?_) rfl (by kernel_rfl) (by kernel_rfl) (by kernel_rfl) (fun _ _ _ h => h) (Or.inl ⟨rfl, ?_⟩) (by assumption) ?_; rotate_left 1; · (intro w hSw; (try dsimp only at hSw); go_simp; (try with_reducible rfl)))); (try simp only [Act.put, List.getElem_toArray, List.getElem_cons_zero, List.getElem_cons_succ, List.setIfInBounds_toArray, List.set_cons_zero, List.set_cons_succ])
    refine wpAnyH_ready (rs := [1]) (by kernel_rfl) (by simp) ?_
    refine AllReadyH.cons rfl (fun K hK => ?_) AllReadyH.nil
    go_simp
    refine (own_any _ _ _ (fAll rows) _ _ ho2.drew.rd (Nat.le_refl _) (by omega)).mono ?_
    rintro e w3 ⟨A3, c3, rfl, ho3, ht3⟩
    refine hK.out _ _ (show Turn _ _ none from ht3) (fun hHeld => ?_)
    clear hK K
    (try simp only [Act.put, List.getElem_toArray, List.getElem_cons_zero, List.getElem_cons_succ, List.setIfInBounds_toArray, List.set_cons_zero, List.set_cons_succ])
    refine wpAnyH_more (S' := fun W => Turn w3 W none) (fun W h => Turn.trans ht3 h) _ _ _ _ ?_
    clear hHeld
    have hHeld : (fun W => Turn w3 W none) w3 := Turn.refl w3 none
    (first | (refine wpAnyH_take (i := 7) (v := undef) rfl (by kernel_rfl) (by kernel_rfl) (by kernel_rfl) (fun _ _ _ h => h) (Or.inr ⟨rfl, rfl⟩) (by assumption) ?_) | (refine wpAnyH_take (i := 7) (v := ?_) rfl (by kernel_rfl) (by kernel_rfl) (by kernel_rfl) (fun _ _ _ h => h) (Or.inl ⟨rfl, ?_⟩) (by assumption) ?_; rotate_left 1; · (intro w hSw; (try dsimp only at hSw); go_simp; (try with_reducible rfl)))); (try simp only [Act.put, List.getElem_toArray, List.getElem_cons_zero, List.getElem_cons_succ, List.setIfInBounds_toArray, List.set_cons_zero, List.set_cons_succ])
    (first | (refine wpAnyH_take (i := 8) (v := undef) rfl (by kernel_rfl) (by kernel_rfl) (by kernel_rfl) (fun _ _ _ h => h) (Or.inr ⟨rfl, rfl⟩) (by assumption) ?_) | (refine wpAnyH_take (i := 8) (v := ?_) rfl (by kernel_rfl) (by kernel_rfl) (by kernel_rfl) (fun _ _ _ h => h) (Or.inl ⟨rfl, ?_⟩) (by assumption) ?_; rotate_left 1; · (intro w hSw; (try dsimp only at hSw); go_simp; (try with_reducible rfl)))); (try simp only [Act.put, List.getElem_toArray, List.getElem_cons_zero, List.getElem_cons_succ, List.setIfInBounds_toArray, List.set_cons_zero, List.set_cons_succ])
    (first | (refine wpAnyH_take (i := 9) (v := undef) rfl (by kernel_rfl) (by kernel_rfl) (by kernel_rfl) (fun _ _ _ h => h) (Or.inr ⟨rfl, rfl⟩) (by assumption) ?_) | (refine wpAnyH_take (i := 9) (v := ?_) rfl (by kernel_rfl) (by kernel_rfl) (by kernel_rfl) (fun _ _ _ h => h) (Or.inl ⟨rfl, ?_⟩) (by assumption) ?_; rotate_left 1; · (intro w hSw; (try dsimp only at hSw); go_simp; (try with_reducible rfl)))); (try simp only [Act.put, List.getElem_toArray, List.getElem_cons_zero, List.getElem_cons_succ, List.setIfInBounds_toArray, List.set_cons_zero, List.set_cons_succ])
    refine wpAnyH_done (by kernel_rfl) ?_ _
    refine NoPanic.normal ?_
    clear hHeld
    have hT3 := hT2.trans ht3.undrew
    obtain ⟨g3, rfl, hg3, hg4⟩ := ho3.head (by omega)
    have hmi : m ≤ 20000 := hm20
    go_upto_region 13 with fail
    have hT3' : Turn w w3 none := hT3
    go_loopw [17, 19] (fun v i wr => ∃ j : Nat, j ≤ I ∧ (f : Int) + j ≤ BT ∧ i = .int .i64 (j : Int) ∧ v = .bool (fAny by_ j) ∧ Own wr w2.heap.size 5 1 (some ⟨g3, 0, none⟩) N c3 (vbs (fC rows k x f by_ j)) ∧ Turn w wr none) (fun _ i _ => (33 - intOf i).toNat)
    case atStart => exact ⟨0, by omega, by omega, rfl, rfl, by rw [fC_zero hk8.out]; exact ho3, hT3'⟩
    case round =>
      obtain ⟨j, hj, hfj, rfl, rfl, ho4, hT4⟩ := hrel
      clear ho3 ht3
      by_cases hin : j < I
      · have hj32i : (j : Int) < 32 := by omega
        have hjB : (f : Int) + j < BT := by have := hIB; omega
        have hb1 := bit_at by_ j
        have hd8 : ((f : Int) + j) / 8 < m + 4 := by have := HBT.out; omega
        have hd0 : 0 ≤ ((f : Int) + j) / 8 := by omega
        cases hbit : by_.testBit j with
        | true =>
          rw [hbit] at hb1
          have hidx : 0 ≤ (H : Int) + (pSize m : Int) + ((f : Int) + j) / 8 ∧ (H : Int) + (pSize m : Int) + ((f : Int) + j) / 8 < N := by omega
          obtain ⟨b, hcb, hfr, hst⟩ := own_flip (i := H + pSize m + (f + j) / 8) (s := (f + j) % 8) ho4 (by omega) (by omega)
          have hb256 := b.toNat_lt
          have hmask : (128 : Int) / 2 ^ ((f + j) % 8) = ((128 >>> ((f + j) % 8) : Nat) : Int) := by rw [Nat.shiftRight_eq_div_pow, Int.natCast_ediv, Int.natCast_pow]; rfl
          obtain ⟨ho5, ht5⟩ := hst (bits .xor .u8 (b.toNat : Int) ((128 : Int) / 2 ^ ((f + j) % 8))) (congrArg (bits .xor .u8 (b.toNat : Int)) hmask)
          clear hst hmask
          have hon := fC_on (rows := rows) (k := k) (x := x) (f := f) hbit (by rw [hm.out]; have := HBT.out; omega)
          rw [hH.out, hm.out] at hon
          rw [← hon] at ho5
          clear hon
          go_wp2
          refine ⟨⟨j + 1, by omega, by omega, by go_num, by rw [fAny_next, hbit, Bool.or_true], ho5, hT4.new ht5 (fun g' e => by injection e with e; have := (ho4.block g3 rfl).1; have := hT2.size; omega)⟩, ?_⟩
          simp [intOf]; omega
        | false =>
          rw [hbit] at hb1
          go_wp2
          refine ⟨⟨j + 1, by omega, by omega, by go_num, by rw [fAny_next, hbit, Bool.or_false], by rw [fC_off hbit]; exact ho4, hT4⟩, ?_⟩
          simp [intOf]; omega
      · obtain rfl : j = I := by omega
        clear hin
        have h32 : (32 : Int) ≤ j := by omega
        have ha := HA.out
        go_wp2_with (first
          | (go_at_call 16; refine (fscan_any _ _ _ (fC rows k x f by_ j) _ _ ho4.rd (Nat.le_refl _) (by omega)).mono ?_; rintro e w6 ⟨L6, n6, c6, vs6, rfl, how6, ht6⟩; rw [HSC.out] at how6; rw [HSC.out]; have hT6 := hT4.trans ht6; have hn6 := how6.rw_.len; rw [HL.out] at hn6; subst n6)
          | (go_at_call 18; refine (same_self _ _ _ _ _ _ _ _ _ _ _ how6.rw_ ((hr.turn0 hT6 (Nat.le_refl _)).mono hT6.size) (Nat.le_refl _) (by omega)).mono ?_; rintro e w7 ⟨rfl, ht7⟩; have hT7 := hT6.trans ht7)
          | (go_at_call 13; refine (lives_any _).mono ?_; rintro e w8 ⟨rfl, ht8⟩))
        go_ret
        exact ⟨rfl, hT7.trans ht8⟩
  · go_ret
    exact ⟨rfl, hT.trans ht8⟩

end Go.Proofs.Ytgmmmeghhfdlfaa
