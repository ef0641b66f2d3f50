/-
  Layer 13: the document's Put, and what each statement asks last (contracts).
-/
import Derived.Test.YtadkhafjkbkinaaCkE
namespace Go.Proofs.Ytadkhafjkbkinaa
open Go.RowKit

theorem cNums_skip {c : List Int} {j : Nat} {x : Int} (hx : c[j]? = some x) (h : ¬ 0 < x) : cNums (c.take (j + 1)) = cNums (c.take j) := by
  rw [cNums_next c j x hx, if_neg h, List.append_nil]
set_option maxRecDepth 100000 in
set_option maxHeartbeats 1600000 in
theorem rcput_any (A : Option Addr) (n d : Nat) (l : List UInt8) (c : List Int) (B : Nat) (w : World) (hr : Rd w B 1 A n (vbs l)) (hB : B ≤ w.heap.size) (hc : Ok8 c) (hn : n ≤ 140737488355328) :
    Calls Try.prog 18 #[.slice A n d, .agg (ck c).toArray] w fun e w' =>
      ∃ A' c', e = .returned (.tuple #[.slice A' (n + (cPut c).length) c', .int .i64 (cErr c)]) ∧ Own w' w.heap.size 5 1 A' (n + (cPut c).length) c' (vbs (l ++ cPut c)) ∧ Turn w w' none := by
  have hT := Turn.refl w none
  go_enter Try.func18, Try.ntmps18
  go_upto_region 2 with (refine wp_bx rfl 24 _ rfl rfl ?_; intro g1 w1 hg1 hb1 ht1; have hT := hT.trans ht1; skip)
  have ho : Own (w1.alloc (.cells #[] 5)) w.heap.size 5 1 (some ⟨w1.heap.size, 0, none⟩) 0 0 [] := Own.made w1 _ _ 1 0 #[] ht1.size (by decide) rfl
  have hb2 := hb1.alloc (.cells #[] 5)
  have hT2 := hT.alloc (.cells #[] 5)
  generalize w1.alloc (.cells #[] 5) = w2 at *
  generalize w1.heap.size = g2 at *
  clear hb1
  go_wp2_with fail
  go_loopw [6, 8] (fun v i wr => ∃ q : Nat, q ≤ 8 ∧ i = .int .i64 ((q : Int) - 1) ∧ v = .int .i64 (cBits (c.drop q) : Int) ∧ wr = w2) (fun _ i _ => (intOf i + 1).toNat)
  case atStart => exact ⟨8, by omega, rfl, by rw [List.drop_of_length_le (Nat.le_of_eq hc.1)]; rfl, rfl⟩
  case round =>
    obtain ⟨q, hq, rfl, rfl, rfl⟩ := hrel
    cases q with
    | succ p =>
      obtain ⟨x, hx, hx0, hx1⟩ := hc.at_ (j := p) (by omega)
      have hcell := hb2.ats (ck_at hx)
      have hbt := cBits_lt (c.drop (p + 1))
      have hd : (c.drop (p + 1)).length ≤ 7 := by rw [List.length_drop, hc.1]; omega
      have hd2 : 2 ^ (c.drop (p + 1)).length ≤ 2 ^ 7 := Nat.pow_le_pow_right (by omega) hd
      have hdr := cBits_drop c p x hx
      generalize cBits (c.drop (p + 1)) = t1 at *
      have ht128 : t1 < 128 := by omega
      have e1 : (((p + 1 : Nat) : Int) - 1) = (p : Int) := by omega
      rw [e1]
      have hp8 : p < 8 := by omega
      by_cases h0 : 0 < x
      · rw [if_pos h0] at hdr
        have HD := hid hdr
        clear hdr hbt hd hd2
        go_wp2_with fail
        refine ⟨⟨p, by omega, rfl, by rw [HD.out]; congr 1; omega, trivial⟩, ?_⟩
        simp [intOf]; try omega
      · rw [if_neg h0] at hdr
        have HD := hid hdr
        clear hdr hbt hd hd2
        go_wp2_with fail
        refine ⟨⟨p, by omega, rfl, by rw [HD.out]; congr 1; omega, trivial⟩, ?_⟩
        simp [intOf]; try omega
    | zero =>
      have e1 : (((0 : Nat) : Int) - 1) = -1 := by omega
      rw [e1, List.drop_zero]
      have hB8 := cBits_lt c
      rw [hc.1] at hB8
      go_wp2_with fail
      obtain ⟨wo, rfl⟩ : ∃ wo : World, wo = wr := ⟨_, rfl⟩
      go_loopw [7, 9] (fun v i w3 => ∃ (j : Nat) (A2 : Option Addr) (c2 : Nat), j ≤ 8 ∧ i = .int .i64 (j : Int) ∧ v = .slice A2 (cNums (c.take j)).length c2 ∧ Own w3 w.heap.size 5 1 A2 (cNums (c.take j)).length c2 (vbs (cNums (c.take j))) ∧
        Hid (∀ k x, k < j → c[k]? = some x → x ≤ 4611686018427387903) ∧ Turn wo w3 none) (fun _ i _ => (8 - intOf i).toNat)
      case atStart => exact ⟨0, _, 0, by omega, rfl, rfl, ho, hid (fun k x hk => by omega), Turn.refl wo _⟩
      case round =>
        obtain ⟨w3, rfl⟩ : ∃ w3 : World, w3 = wr := ⟨_, rfl⟩
        obtain ⟨j, A2, c2, hj, rfl, rfl, h2, hall, ht⟩ := hrel
        clear ho hT
        have hTr := hT2.trans ht
        have hb3 := hb2.turn0 ht
        have hl65 := cNums_len (c.take j)
        rw [List.length_take, hc.1] at hl65
        have h0 : Own (w3.alloc (.cells #[] 5)) w3.heap.size 5 1 (some ⟨w3.heap.size, 0, none⟩) 0 0 [] := Own.made w3 _ _ 1 0 #[] (Nat.le_refl _) (by decide) rfl
        have hr1 := (hr.turn0 hTr hB).alloc (Nat.le_trans hB hTr.size) (.cells #[] 5)
        by_cases hj8 : j < 8
        · obtain ⟨x, hx, hx0, hx1⟩ := hc.at_ hj8
          have hcell := hb3.ats (ck_at hx)
          by_cases hbig : x ≤ 4611686018427387903
          · rcases Int.lt_or_le 0 x with hxp | hxz
            · obtain ⟨l1, hl1⟩ : ∃ l1, l1 = cNums (c.take j) := ⟨_, rfl⟩
              rw [← hl1] at h2 hl65
              rw [← hl1]
              obtain ⟨N, hN⟩ : ∃ N, N = l1.length := ⟨_, rfl⟩
              rw [← hN] at h2 hl65
              rw [← hN]
              have HL := hid hl1
              have HN := hid hN
              clear hl1 hN
              have hpe : pErr x.toNat = 0 := if_neg (pSize_ok hx0 hbig)
              go_wp2_with (first
                | (go_at_call 23; refine (rput_any _ _ _ _ l1 _ _ h2.rd (Nat.le_refl _) hx0 hx1 (by omega)).mono ?_; rintro e w4 ⟨A3, c3, rfl, ho3, ht3⟩; rw [hpe]))
              have e1 : cNums (c.take (j + 1)) = l1 ++ pPut x.toNat := by rw [cNums_next c j x hx, if_pos hxp, HL.out]
              have e2 : (cNums (c.take (j + 1))).length = N + pSize x.toNat := by rw [e1, List.length_append, pPut_len, HN.out]
              refine ⟨⟨j + 1, A3, c3, by omega, rfl, by rw [e2], ?_, hid (fun k y hk hky => ?_), ht.trans ht3⟩, ?_⟩
              · rw [e2, e1]; exact ho3.mono hTr.size
              · by_cases hkj : k < j
                · exact hall.out k y hkj hky
                · obtain rfl : k = j := by omega
                  rw [hx] at hky
                  injection hky with hky
                  omega
              · simp [intOf]; omega
            · obtain rfl : x = 0 := by omega
              have hsk := cNums_skip hx (by omega)
              go_wp2_with fail
              refine ⟨⟨j + 1, A2, c2, by omega, rfl, by rw [hsk], by rw [hsk]; exact h2, hid (fun k x hk hkx => ?_), ht⟩, ?_⟩
              · by_cases hkj : k < j
                · exact hall.out k x hkj hkx
                · obtain rfl : k = j := by omega
                  rw [hx] at hkx
                  injection hkx with hkx
                  omega
              · simp [intOf]; omega
          · have hbad := hid (cBad_yes hx (by omega))
            generalize cNums (c.take j) = l1 at *
            go_wp2_with (at_builtin; refine wp_appW rfl _ _ _ rfl elB rfl rfl h0 hr1 (vbs_one l) (by unfold maxLen; first | omega | (simp; done) | (simp; omega)) (by first | omega | (simp; done) | (simp; omega)) (by first | omega | (simp; done) | (simp; omega)) ?_; intro A5 c5 w5 ho5 ht5 hb5)
            go_ret2
            have e1 : cPut c = [] := by unfold cPut; rw [if_pos hbad.out]
            have e2 : cErr c = 1 := by unfold cErr; rw [if_pos hbad.out]
            refine ⟨A5, c5, by rw [e1, e2]; rfl, ?_, hTr.trans (((Turn.refl w3 none).alloc _).new ht5 (fun g hg => by simp [blk] at hg; omega))⟩
            rw [e1, List.append_nil]
            rw [Nat.zero_add, List.nil_append] at ho5
            exact ho5.mono (by have := hTr.size; omega)
        · obtain rfl : j = 8 := by omega
          have ebad : cBad c = false := cBad_all hc.1 hall.out
          have e1 : cPut c = UInt8.ofNat (cBits c) :: cNums c := by unfold cPut; rw [ebad]; rfl
          have e2 : cErr c = 0 := by unfold cErr; rw [ebad]; rfl
          have E1 := hid e1
          have E2 := hid e2
          rw [List.take_of_length_le (Nat.le_of_eq hc.1)] at h2 hl65
          rw [List.take_of_length_le (Nat.le_of_eq hc.1)]
          clear e1 e2 ebad
          generalize cNums c = l1 at *
          have hl := hr.len
          rw [vbs_len] at hl
          obtain ⟨N, hN⟩ : ∃ N, N = l1.length := ⟨_, rfl⟩
          rw [← hN] at h2 hl65
          rw [← hN]
          have HN := hid hN
          have HL := hid hl
          clear hN hl
          generalize hbt : cBits c = t1 at *
          go_wp2_with (first
            | (have q9 := ho6; at_builtin; refine wp_appW rfl _ _ _ rfl elB rfl rfl ho6 h7 (vbs_one l1) (by unfold maxLen; first | omega | (simp; done) | (simp; omega)) (by first | omega | (simp; done) | (simp; omega)) (by have := T6.size; omega) ?_; intro A7 c7 w7 ho7 ht7 hb7)
            | (have q9 := ho5; at_builtin; refine wp_appW rfl _ _ _ rfl elB rfl rfl (ho5.alloc _) (Rd.lit w5 5 [.int .u8 (t1 : Int)]) (by repeat (first | exact ones_nil | refine ones_cons rfl ?_)) (by unfold maxLen; first | omega | (simp; done) | (simp; omega)) (by first | omega | (simp; done) | (simp; omega)) (by show _ ≤ (w5.heap.push _).size; rw [Array.size_push]; simp at hz5; omega) ?_; intro A6 c6 w6 ho6 ht6 hb6; have T6 : Turn w3 w6 none := ((((Turn.refl w3 none).alloc _).new ht5 (fun g hg => by simp [blk] at hg; omega)).alloc _).new ht6 (fun g hg => (ho5.block g hg).1); have h7 := h2.turn0 T6 |>.rd)
            | (at_builtin; refine wp_appW rfl _ _ _ rfl elB rfl rfl h0 hr1 (vbs_one l) (by unfold maxLen; first | omega | (simp; done) | (simp; omega)) (by first | omega | (simp; done) | (simp; omega)) (by first | omega | (simp; done) | (simp; omega)) ?_; intro A5 c5 w5 ho5 ht5 hb5; have hz5 := ht5.size; simp only [Nat.zero_add, List.nil_append] at ho5 ⊢))
          go_ret2
          have hcl : (cPut c).length = N + 1 := by rw [E1.out, List.length_cons, HN.out]
          have hv : vbs l ++ [Value.int .u8 (t1 : Int)] ++ vbs l1 = vbs (l ++ cPut c) := by
            rw [E1.out, vbs_append, List.append_assoc]
            congr 1
            rw [List.cons_append, List.nil_append, vbs, vbs, List.map_cons, vb_of, Nat.mod_eq_of_lt (by omega)]
          have hNN : n + (N + 1) = n + 1 + N := by omega
          refine ⟨A7, c7, by rw [hcl, E2.out, hNN]; rfl, ?_, hTr.trans (T6.new ht7 (fun g hg => (ho6.block g hg).1))⟩
          rw [hcl, hNN, ← hv]
          exact ho7.mono (by have := hTr.size; omega)

def c201 : List Int := [2, 0, 1, 0, 0, 0, 0, 0]
def c1 : List Int := [1, 0, 0, 0, 0, 0, 0, 0]
def c2 : List Int := [2, 0, 0, 0, 0, 0, 0, 0]
theorem put201 : cPut c201 = [5, 2, 1] ∧ cErr c201 = 0 ∧ cOrd c1 c2 = 1 := by decide +kernel
set_option maxHeartbeats 800000 in
theorem klives_any (w : World) : Calls Try.prog 9 #[] w fun e w' => e = .returned (.bool true) ∧ Turn w w' none := by
  have hT := Turn.refl w none
  have o0 : Ok8 c201 := ⟨rfl, by decide⟩
  have o1 : Ok8 c1 := ⟨rfl, by decide⟩
  have o2 : Ok8 c2 := ⟨rfl, by decide⟩
  have b0 : Try.prog.built 24 [(0, .int .u64 2), (1, .int .u64 0), (2, .int .u64 1)] = some (ck c201).toArray := by kernel_rfl
  have b1 : Try.prog.built 24 [(0, .int .u64 1)] = some (ck c1).toArray := by kernel_rfl
  have b2 : Try.prog.built 24 [(0, .int .u64 2)] = some (ck c2).toArray := by kernel_rfl
  have hnil : Rd w w.heap.size 1 none 0 (vbs []) := Rd.none_ w _ 1 0
  obtain ⟨p1, p2, p3⟩ := put201
  have P3 := hid p3
  clear p3
  have hs : ByteArray.mk #[5, 2, 1] = txt [5, 2, 1] := rfl
  go_enter Try.func9, Try.ntmps9
  go_wp2_with (first
    | (refine gd_bd rfl 24 _ rfl _ rfl _ b0 ?_)
    | (refine gd_bd rfl 24 _ rfl _ rfl _ b1 ?_)
    | (refine gd_bd rfl 24 _ rfl _ rfl _ b2 ?_)
    | (go_at_call 17; refine (cput_any _ _ _ [] c201 _ _ hnil (Nat.le_refl _) ⟨Nat.le_refl _, Nat.zero_le _⟩ o0 (by decide)).mono ?_; rintro e w1 ⟨A1, d1, rfl, ho1, ht1⟩; have hT := hT.trans ht1; rw [p1] at ho1; rw [p1, p2]; have ho2 : Own w1 w.heap.size 5 1 A1 3 d1 (vbs [5, 2, 1]) := ho1; have hst := str_run w1 (c := d1) ho2.rd)
    | (go_at_call 10; refine (order_any c1 c2 o1 o2 _).mono ?_; rw [P3.out]; rintro e w2 ⟨rfl, ht2⟩; have hT := hT.trans ht2))
  go_ret
  exact ⟨rfl, hT⟩
end Go.Proofs.Ytadkhafjkbkinaa
