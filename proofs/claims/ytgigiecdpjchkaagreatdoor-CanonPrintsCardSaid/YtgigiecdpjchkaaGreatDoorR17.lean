import Derived.Test.YtgigiecdpjchkaaGreatDoorR13
import Derived.Test.YtgigiecdpjchkaaGreatDoorR1
import Derived.Test.YtgigiecdpjchkaaGreatDoorR5
import Derived.OwnWalk
import Derived.Test.YtgigiecdpjchkaaGreatDoorR16
import Derived.Test.YtgigiecdpjchkaaGreatDoorR8
import Derived.Test.YtgigiecdpjchkaaGreatDoorR2
import Derived.Test.YtgigiecdpjchkaaGreatDoorR11
set_option linter.unusedSimpArgs false
set_option linter.unusedVariables false
set_option linter.unusedSectionVars false
set_option maxRecDepth 100000
set_option maxHeartbeats 6400000
namespace Go.Proofs.YtgigiecdpjchkaaGreatDoor
open Go.RowKit
theorem txt_sub (l : List UInt8) (a m : Nat) : (txt l).extract a (a + m) = txt ((l.drop a).take m) := by
 apply ByteArray.ext
 rw [ByteArray.data_extract]
 simp [txt]
theorem elT0 : El Tryz.prog 81 90 3 32 := El.mk_ Tryz.underlying81 (z := .agg #[.int .i64 0, .string .empty, .int .i64 0]) (by kernel_rfl) rfl (by decide)
def SL : List UInt8 := [40, 41, 91, 93, 123, 125, 60, 62, 124, 58, 59, 44, 63]
theorem sign_is (c : UInt8) : wSign c = SL.contains c := by
 have key : ∀ n : Nat, n < 256 → wSign (UInt8.ofNat n) = SL.contains (UInt8.ofNat n) := by decide +kernel
 have := key c.toNat c.toNat_lt
 simpa using this
theorem rsign_any (c : UInt8) (w : World) : Calls Tryz.prog 77 #[.int .u8 (c.toNat : Int)] w fun e w' => e = .returned (.bool (wSign c)) ∧ w = w' := by
 rw [sign_is]
 have hs : Tx { data := #[40, 41, 91, 93, 123, 125, 60, 62, 124, 58, 59, 44, 63] } SL := rfl
 obtain ⟨S, hS⟩ : ∃ S : ByteArray, S = { data := #[40, 41, 91, 93, 123, 125, 60, 62, 124, 58, 59, 44, 63] } := ⟨_, rfl⟩
 have hsz : S.size = 13 := by rw [hS]; rfl
 have hs : Tx S SL := by rw [hS]; rfl
 go_enter Tryz.func77, Tryz.ntmps77
 rw [← hS]
 clear hS
 go_wp2
 go_loopw [4] (fun i wr => ∃ j : Nat, j ≤ 13 ∧ i = .int .i64 (j : Int) ∧ Hid (∀ m z, m < j → SL[m]? = some z → z ≠ c) ∧ wr = w) (fun i _ => (13 - intOf i).toNat)
 case atStart => exact ⟨0, by omega, rfl, hid (fun m x h => absurd h (Nat.not_lt_zero m)), rfl⟩
 case round =>
  obtain ⟨j, hj, rfl, HNO, rfl⟩ := hrel
  by_cases hjn : j < 13
  ·obtain ⟨y, hy⟩ : ∃ y, SL[j]? = some y := ⟨SL[j]'(by have : SL.length = 13 := rfl; omega), List.getElem?_eq_getElem _⟩
   have hcj := hs.at_ hy
   have HY := hid hy
   clear hy
   by_cases hyc : y = c
   ·have e1 : ((y.toNat : Int) == (c.toNat : Int)) = true := by rw [hyc]; exact beq_self_eq_true _
    have H := hid (show SL.contains c = true by rw [List.contains_iff_mem, ← hyc]; exact List.mem_of_getElem? HY.out)
    clear hyc
    go_wp2
    go_ret
    exact ⟨by rw [H.out]; rfl, rfl⟩
   ·have e1 : ((y.toNat : Int) == (c.toNat : Int)) = false := by
     rw [beq_eq_false_iff_ne]
     intro q
     have : y.toNat = c.toNat := by omega
     exact hyc (UInt8.toNat_inj.1 this)
    have HX := hid hyc
    clear hyc
    go_wp2
    refine ⟨⟨j + 1, by omega, by go_num, hid (fun m z hm hz => ?_), ?_⟩, by simp [intOf]; omega⟩
    ·rcases Nat.lt_or_ge m j with h | h
     ·exact HNO.out m z h hz
     ·obtain rfl : m = j := by omega
      rw [HY.out, Option.some.injEq] at hz
      rw [← hz]
      exact HX.out
    ·first | rfl | trivial
  ·obtain rfl : j = 13 := by omega
   have H := hid (show SL.contains c = false by
    rw [← Bool.not_eq_true, List.contains_iff_mem]
    intro hm
    obtain ⟨m, hml, e⟩ := List.mem_iff_getElem.1 hm
    exact HNO.out m SL[m] hml (List.getElem?_eq_getElem hml) e)
   go_wp2
   go_ret
   exact ⟨by rw [H.out]; rfl, rfl⟩
theorem rskip_any (s : ByteArray) (l : List UInt8) (a : Nat) (w : World) (hs : Tx s l) (hl : l.length ≤ 4096) (ha : a ≤ l.length) :
  Calls Tryz.prog 74 #[.string s, .int .i64 (a : Int)] w fun e w' => e = .returned (.int .i64 ((a + wOver false l a : Nat) : Int)) ∧ w = w' := by
 obtain ⟨n, hn⟩ : ∃ n, l.length = n := ⟨_, rfl⟩
 have hsz : s.size = n := hs.size.trans hn
 obtain ⟨E, hE⟩ : ∃ E, a + wOver false l a = E := ⟨_, rfl⟩
 rw [hE]
 have HE := hid hE
 clear hE
 go_enter Tryz.func74, Tryz.ntmps74
 go_wp2
 go_loopw [1, 5, 6] (fun i b _ wr => ∃ (j : Nat) (note : Bool), j ≤ n ∧ i = .int .i64 (j : Int) ∧ b = .bool note ∧ Hid (j + wOver note l j = E) ∧ wr = w) (fun i _ _ _ => (n - intOf i).toNat)
 case atStart => exact ⟨a, false, by omega, rfl, rfl, HE, rfl⟩
 case round =>
  obtain ⟨j, note, hj, rfl, rfl, HJ, rfl⟩ := hrel
  by_cases hjn : j < n
  ·obtain ⟨c, hc⟩ : ∃ c, l[j]? = some c := ⟨l[j]'(by omega), List.getElem?_eq_getElem (by omega)⟩
   have hcj := hs.at_ hc
   have hin := fun {nt : Bool} (hp : wPass note c = true) (hq : wNote note c = nt) => hid (show j + 1 + wOver nt l (j + 1) = E by
    have h1 := wOver_in hc hp
    rw [hq] at h1
    rw [← HJ.out, h1]
    omega)
   have hout := fun (hp : wPass note c = false) => hid (show j = E by
    have h1 := wOver_out hc hp
    rw [← HJ.out, h1]; rfl)
   have HIN := fun {nt : Bool} => hid (@hin nt)
   have HOUT := hid hout
   clear hin hout hc
   by_cases h35 : c.toNat = 35
   ·have e35 : ((c.toNat : Int) == 35) = true := by rw [beq_iff_eq]; omega
    have e10 : ((c.toNat : Int) == 10) = false := by rw [beq_eq_false_iff_ne]; omega
    have hq : wNote note c = true := by unfold wNote; rw [if_neg (by omega), if_pos h35]
    have HX := HIN.out (by unfold wPass; rw [hq]; rfl) hq
    clear hq h35
    go_wp2
    refine ⟨⟨j + 1, true, by omega, by go_num, rfl, HX, ?_⟩, by simp [intOf]; omega⟩; first | rfl | trivial
   ·have e35 : ((c.toNat : Int) == 35) = false := by rw [beq_eq_false_iff_ne]; omega
    by_cases h10 : c.toNat = 10
    ·have e10 : ((c.toNat : Int) == 10) = true := by rw [beq_iff_eq]; omega
     have e32 : ((c.toNat : Int) != 32) = true := by rw [bne_iff_ne]; omega
     have e9 : ((c.toNat : Int) != 9) = true := by rw [bne_iff_ne]; omega
     have n10 : ((c.toNat : Int) != 10) = false := by rw [bne_eq_false_iff_eq]; omega
     have HX := HIN.out (pass_lf (note := note) h10).1 (pass_lf (note := note) h10).2
     clear h10 h35
     go_wp2
     refine ⟨⟨j + 1, false, by omega, by go_num, rfl, HX, ?_⟩, by simp [intOf]; omega⟩; first | rfl | trivial
    ·have e10 : ((c.toNat : Int) == 10) = false := by rw [beq_eq_false_iff_ne]; omega
     have n10 : ((c.toNat : Int) != 10) = true := by rw [bne_iff_ne]; omega
     have hq : wNote note c = note := by unfold wNote; rw [if_neg h10, if_neg h35]
     cases note with
     | true =>
      have HX := HIN.out (by unfold wPass; rw [hq]; rfl) hq
      clear hq h10 h35
      go_wp2
      refine ⟨⟨j + 1, true, by omega, by go_num, rfl, HX, ?_⟩, by simp [intOf]; omega⟩; first | rfl | trivial
     | false =>
      by_cases h32 : c.toNat = 32
      ·have e32 : ((c.toNat : Int) != 32) = false := by rw [bne_eq_false_iff_eq]; omega
       have HX := HIN.out (by unfold wPass wBlank; rw [decide_eq_true (by omega), Bool.or_true]) hq
       clear hq h10 h35 h32
       go_wp2
       refine ⟨⟨j + 1, false, by omega, by go_num, rfl, HX, ?_⟩, by simp [intOf]; omega⟩; first | rfl | trivial
      ·have e32 : ((c.toNat : Int) != 32) = true := by rw [bne_iff_ne]; omega
       by_cases h9 : c.toNat = 9
       ·have e9 : ((c.toNat : Int) != 9) = false := by rw [bne_eq_false_iff_eq]; omega
        have HX := HIN.out (by unfold wPass wBlank; rw [decide_eq_true (by omega), Bool.or_true]) hq
        clear hq h10 h35 h32 h9
        go_wp2
        refine ⟨⟨j + 1, false, by omega, by go_num, rfl, HX, ?_⟩, by simp [intOf]; omega⟩; first | rfl | trivial
       ·have e9 : ((c.toNat : Int) != 9) = true := by rw [bne_iff_ne]; omega
        by_cases h13 : c.toNat = 13
        ·have e13 : ((c.toNat : Int) != 13) = false := by rw [bne_eq_false_iff_eq]; omega
         have HX := HIN.out (by unfold wPass wBlank; rw [decide_eq_true (by omega), Bool.or_true]) hq
         clear hq h10 h35 h32 h9 h13
         go_wp2
         refine ⟨⟨j + 1, false, by omega, by go_num, rfl, HX, ?_⟩, by simp [intOf]; omega⟩; first | rfl | trivial
        ·have e13 : ((c.toNat : Int) != 13) = true := by rw [bne_iff_ne]; omega
         have HX := HOUT.out (by unfold wPass wBlank; rw [hq, decide_eq_false (by omega)]; rfl)
         clear hq h10 h35 h32 h9 h13
         go_wp2
         go_ret
         exact ⟨by rw [HX.out]; rfl, rfl⟩
  ·obtain rfl : j = n := by omega
   have HX := hid (show j = E by rw [← HJ.out, wOver_end (by omega)]; rfl)
   go_wp2
   go_ret
   exact ⟨by rw [HX.out]; rfl, rfl⟩
def tz0 : List Value := [.int .i64 0, .string ⟨#[]⟩, .int .i64 0]
theorem zTok0 : ∀ w, (zeroValue 90).run Tryz.prog w = .ok (.agg tz0.toArray) w := zero_at (by kernel_rfl)
theorem szTok0 : (Tryz.prog.info? 90).map (·.size) = some 3 := by kernel_rfl
theorem rwords_any (s : ByteArray) (l : List UInt8) (w : World) (hs : Tx s l) : Calls Tryz.prog 48 #[.string s] w (WdPost l w) := by
 obtain ⟨n, hn⟩ : ∃ n, l.length = n := ⟨_, rfl⟩
 have hsz : s.size = n := hs.size.trans hn
 by_cases hlong : 4096 < n
 ·have hli : (4096 : Int) < (n : Int) := by omega
  have HW := hid (wWords_long (l := l) (by omega))
  clear hlong
  go_enter Tryz.func48, Tryz.ntmps48
  go_wp2
  go_ret3
  exact .inr ⟨0, 2, HW.out, by decide, rfl, Turn.refl w none⟩
 have hl4 : l.length ≤ 4096 := by omega
 have hn4 : (n : Int) ≤ 4096 := by omega
 have hnl : ¬((4096 : Int) < (n : Int)) := by omega
 clear hlong
 obtain ⟨E, hE⟩ : ∃ E, 0 + wOver false l 0 = E := ⟨_, rfl⟩
 have HE := hid hE
 have hEn : E ≤ n := by have := wOver_le false l 0; omega
 clear hE
 go_enter Tryz.func48, Tryz.ntmps48
 go_wp2_with (go_at_call 74; refine (rskip_any s l 0 _ hs hl4 (by omega)).mono ?_; rintro e w' ⟨rfl, rfl⟩; rw [HE.out])
 have hA0 : Own (w.alloc (.cells #[] 90)) w.heap.size 90 3 (some ⟨w.heap.size, 0, none⟩) 0 0 (tcs []) := Own.made w _ _ 3 0 #[] (Nat.le_refl _) (by decide) rfl
 have hTA : Turn w (w.alloc (.cells #[] 90)) none := (Turn.refl w none).alloc _
 go_loopw [5, 6] (fun v i wr => ∃ (j e0 N c : Nat) (A : Option Addr) (ts : List Tok), j ≤ n ∧ e0 ≤ n ∧ i = .int .i64 (e0 : Int) ∧ Hid (j + wOver false l j = e0) ∧ v = .slice A N c ∧ N ≤ 1500 ∧ Hid (ts.length = N) ∧ Own wr w.heap.size 90 3 A N c (tcs ts) ∧ Turn w wr none ∧ Hid (WdAt l ts j)) (fun _ i _ => (n - intOf i).toNat)
 case atStart => exact ⟨0, E, 0, 0, _, [], by omega, hEn, rfl, HE, rfl, by omega, hid rfl, hA0, hTA, hid (WdAt.zero hl4)⟩
 case round =>
  obtain ⟨j, e0, N, cc, A, ts, hj, he0, rfl, HJ, rfl, hN, HN, ho, htr, HAT⟩ := hrel
  clear hA0 hTA
  by_cases hjn : e0 < n
  ·obtain ⟨c, hc⟩ : ∃ c, l[e0]? = some c := ⟨l[e0]'(by omega), List.getElem?_eq_getElem (by omega)⟩
   have hcj := hs.at_ hc
   have HC := hid hc
   clear hc
   obtain ⟨E1, hE1⟩ : ∃ E1, e0 + wLen l e0 = E1 := ⟨_, rfl⟩
   have hlt : e0 < E1 := by rw [← hE1]; unfold wLen; rw [drop_at HC.out]; simp only; omega
   have hE1n : E1 ≤ l.length := by have := wLen_le (l := l) (a := e0) (by omega); omega
   have HE1 := hid hE1
   clear hE1
   go_upto_region 8 with (refine wp_var rfl rfl 90 _ _ rfl rfl rfl rfl zTok0 (fun _ => rfl) (xs := [.int .i64 0, .string ⟨#[]⟩, .int .i64 (e0 : Int)]) (fun _ => rfl) rfl szTok0 (ones_cons rfl (ones_cons rfl (ones_cons rfl ones_nil))) ?_; intro g1 w2 hg1 hb2 ht2)
   have T2 : Turn w w2 none := (htr.trans ht2)
   have lg1 := hb2.lt
   have hnw : w.heap.size ≤ g1 := by have := htr.size; omega
   have hne : blk A ≠ some g1 := by intro e; have := (ho.block g1 e).2; omega
   cases h1 : wLow c with
   | true =>
    have HB := hid (show wBegins c = true by unfold wBegins; rw [h1]; rfl)
    have HK := hid (show wKind c = 0 by unfold wKind; rw [h1]; rfl)
    have HL := hid (wLen_name HC.out h1)
    have H1 := hid h1
    clear h1
    go_upto_region 9 with (go_at_call 75; refine (rlow_any c _).mono ?_; rintro e w' ⟨rfl, rfl⟩; rw [H1.out])
    have hbK := hb2.sets 0 (.int .i64 0)
    have f0 := hb2.frozen 0
    have cc0 : w2.cell? ⟨g1, 0, none⟩ = some (.int .i64 0) := hb2.ats rfl
    have TK := T2.new (Blk.setTurn w2 g1 0 (.int .i64 0)) (fun q e => by injection e with e; omega)
    have hoK := Own.turn (ho.turn0 ht2) (Blk.setTurn w2 g1 0 (.int .i64 0)) (.inr hne)
    obtain ⟨wK, hwK⟩ : ∃ wK, wK = w2.setCell ⟨g1, 0, none⟩ (.int .i64 0) := ⟨_, rfl⟩
    rw [← hwK] at hbK TK hoK
    have HW := hid hwK
    clear hwK
    have htr2 := TK
    go_wp2_with (fail)
    rw [← HW.out]
    clear hcj
    go_loopw [8] (fun i wr => ∃ q : Nat, q ≤ n ∧ i = .int .i64 (q : Int) ∧ Hid (q + wRun wIn l q = E1) ∧ wK = wr) (fun i _ => (n - intOf i).toNat)
    case atStart => exact ⟨e0 + 1, by omega, by go_num, hid (by rw [← HE1.out, HL.out]; omega), rfl⟩
    case round =>
     obtain ⟨q, hq, rfl, HQ, rfl⟩ := hrel
     by_cases hqn : q < n
     ·obtain ⟨d, hd⟩ : ∃ d, l[q]? = some d := ⟨l[q]'(by omega), List.getElem?_eq_getElem (by omega)⟩
      have hdj := hs.at_ hd
      have hin := fun (hp : wIn d = true) => hid (show q + 1 + wRun wIn l (q + 1) = E1 by rw [← HQ.out, wRun_in hd hp]; omega)
      have hout := fun (hp : wIn d = false) => (show q = E1 by rw [← HQ.out, wRun_out hd hp]; rfl)
      have HIN := hid hin
      have HOUT := hid hout
      clear hin hout hd
      have hd256 := d.toNat_lt
      have hw : wIn d = (wLow d || wNum d || decide (d.toNat = 95)) := rfl
      cases d1 : wLow d with
      | true =>
       rw [d1, Bool.true_or, Bool.true_or] at hw
       have HX := HIN.out hw
       have D1 := hid d1
       clear d1 hw
       go_wp2_with (go_at_call 75; refine (rlow_any d _).mono ?_; rintro e w' ⟨rfl, rfl⟩; rw [D1.out])
       refine ⟨⟨q + 1, by omega, by go_num, HX, ?_⟩, by simp [intOf]; omega⟩; first | rfl | trivial
      | false =>
       cases d2 : wNum d with
       | true =>
        rw [d1, d2, Bool.false_or, Bool.true_or] at hw
        have HX := HIN.out hw
        have D1 := hid d1
        have D2 := hid d2
        clear d1 d2 hw
        go_wp2_with (first | (go_at_call 75; refine (rlow_any d _).mono ?_; rintro e w' ⟨rfl, rfl⟩; rw [D1.out]) | (go_at_call 76; refine (rnum_any d _).mono ?_; rintro e w' ⟨rfl, rfl⟩; rw [D2.out]))
        refine ⟨⟨q + 1, by omega, by go_num, HX, ?_⟩, by simp [intOf]; omega⟩; first | rfl | trivial
       | false =>
        rw [d1, d2, Bool.false_or, Bool.false_or] at hw
        have D1 := hid d1
        have D2 := hid d2
        clear d1 d2
        by_cases h95 : d.toNat = 95
        ·have HX := HIN.out (hw.trans (decide_eq_true h95))
         have e2 : ((d.toNat : Int) == 95) = true := by rw [h95]; rfl
         clear h95 hw
         go_wp2_with (first | (go_at_call 75; refine (rlow_any d _).mono ?_; rintro e w' ⟨rfl, rfl⟩; rw [D1.out]) | (go_at_call 76; refine (rnum_any d _).mono ?_; rintro e w' ⟨rfl, rfl⟩; rw [D2.out]))
         refine ⟨⟨q + 1, by omega, by go_num, HX, ?_⟩, by simp [intOf]; omega⟩; first | rfl | trivial
        ·have hqE := (HOUT.out (hw.trans (decide_eq_false h95))).symm
         subst hqE
         have e2 : ((d.toNat : Int) == 95) = false := by rw [beq_eq_false_iff_ne]; omega
         clear h95 hw HIN HOUT HQ
         go_upto_region 19 with (first | (go_at_call 75; refine (rlow_any d _).mono ?_; rintro e w' ⟨rfl, rfl⟩; rw [D1.out]) | (go_at_call 76; refine (rnum_any d _).mono ?_; rintro e w' ⟨rfl, rfl⟩; rw [D2.out]))
         by_cases h15 : N = 1500
         ·have h15i : ((N : Int) == 1500) = true := by rw [beq_iff_eq]; omega
          have HE := hid (HAT.out.many (by rw [HJ.out]; exact HC.out) HB.out (by rw [HN.out]; exact h15))
          clear h15
          go_wp2
          go_ret3
          exact .inr ⟨4096, 2, HE.out, by decide, rfl, htr2⟩
         ·have h15i : ((N : Int) == 1500) = false := by rw [beq_eq_false_iff_ne]; omega
          have HX := hid (HAT.out.next (by rw [HJ.out]; exact HC.out) HB.out (by rw [HN.out]; exact h15))
          have hN2 : N < 1500 := by omega
          clear h15
          have hb4 := hbK.sets 1 (.string (s.extract e0 E1))
          have f1 := hbK.frozen 1
          have cc1 : wK.cell? ⟨g1, 1, none⟩ = some (.string ⟨#[]⟩) := hbK.ats rfl
          go_upto_region 22 with (fail)
          have T4 := htr2.new (Blk.setTurn wK g1 1 (.string (s.extract e0 E1))) (fun q e => by injection e with e; omega)
          obtain ⟨w4, hw4⟩ : ∃ w4, w4 = wK.setCell ⟨g1, 1, none⟩ (.string (s.extract e0 E1)) := ⟨_, rfl⟩
          rw [← hw4] at hb4 T4 ⊢
          have ho4 : Own w4 w.heap.size 90 3 A N cc (tcs ts) := by rw [hw4]; exact Own.turn hoK (Blk.setTurn wK g1 1 _) (.inr hne)
          have cat := hb4
          have HS := hid (show s.extract e0 E1 = txt ((l.drop e0).take (wLen l e0)) by rw [hs, ← HE1.out]; exact txt_sub l e0 (wLen l e0))
          clear hw4 hoK hbK
          go_wp2_with (first
           | (refine wp_ld rfl 90 _ rfl rfl hb4 (Sub.all _) Tryz.underlying90 rfl szTok0 ?_)
           | (at_builtin; refine wp_app rfl _ _ _ rfl elT0 rfl rfl (ho4.alloc _) (Rd.litS _ _ 3 1 _ rfl) (by repeat (first | exact ones_nil | refine ones_cons rfl ?_)) (by unfold maxLen; first | omega | (simp; done) | (simp; omega)) (by first | omega | (simp; done) | (simp; omega)) (by have := T4.size; first | omega | (simp; omega)) ?_; intro A3 c3 w3 ho3 ht3 hb3)
           | (go_at_call 74; refine (rskip_any s l E1 _ hs hl4 hE1n).mono ?_; rintro e w' ⟨rfl, rfl⟩))
          have hTs := T4.size
          have T3 : Turn w w3 none := (T4.alloc _).new ht3 (fun g' hg' => (ho4.block g' hg').1)
          rw [HJ.out] at HX
          have HX2 := hid (HX.out)
          refine ⟨⟨E1, E1 + wOver false l E1, N + 1, c3, A3, ts ++ [⟨wKind c, (l.drop e0).take (wLen l e0), e0⟩], by omega, by have := wOver_le false l E1; omega, by go_num, hid rfl, rfl, by omega, hid (by rw [List.length_append, HN.out]; rfl), ?_, T3, ?_⟩, ?_⟩
          ·rw [tcs_app]
           have e2 : tcs [(⟨wKind c, (l.drop e0).take (wLen l e0), e0⟩ : Tok)] = [.int .i64 (0 : Int), .string (s.extract e0 E1), .int .i64 (e0 : Int)] := by rw [HS.out]; show [Value.int .i64 ((wKind c : Nat) : Int), _, _] = _; rw [HK.out]; rfl
           rw [e2]
           exact ho3
          ·rw [← HE1.out]; exact HX2.out
          ·simp [intOf]; omega
     ·have hqn2 : q = n := by omega
      have hqE : E1 = q := by rw [← HQ.out, wRun_end (by omega)]; rfl
      subst hqE
      have l1 : ¬((E1 : Int) < (n : Int)) := by omega
      clear hqn2 HQ
      go_upto_region 19 with (fail)
      by_cases h15 : N = 1500
      ·have h15i : ((N : Int) == 1500) = true := by rw [beq_iff_eq]; omega
       have HE := hid (HAT.out.many (by rw [HJ.out]; exact HC.out) HB.out (by rw [HN.out]; exact h15))
       clear h15
       go_wp2
       go_ret3
       exact .inr ⟨4096, 2, HE.out, by decide, rfl, htr2⟩
      ·have h15i : ((N : Int) == 1500) = false := by rw [beq_eq_false_iff_ne]; omega
       have HX := hid (HAT.out.next (by rw [HJ.out]; exact HC.out) HB.out (by rw [HN.out]; exact h15))
       have hN2 : N < 1500 := by omega
       clear h15
       have hb4 := hbK.sets 1 (.string (s.extract e0 E1))
       have f1 := hbK.frozen 1
       have cc1 : wK.cell? ⟨g1, 1, none⟩ = some (.string ⟨#[]⟩) := hbK.ats rfl
       go_upto_region 22 with (fail)
       have T4 := htr2.new (Blk.setTurn wK g1 1 (.string (s.extract e0 E1))) (fun q e => by injection e with e; omega)
       obtain ⟨w4, hw4⟩ : ∃ w4, w4 = wK.setCell ⟨g1, 1, none⟩ (.string (s.extract e0 E1)) := ⟨_, rfl⟩
       rw [← hw4] at hb4 T4 ⊢
       have ho4 : Own w4 w.heap.size 90 3 A N cc (tcs ts) := by rw [hw4]; exact Own.turn hoK (Blk.setTurn wK g1 1 _) (.inr hne)
       have cat := hb4
       have HS := hid (show s.extract e0 E1 = txt ((l.drop e0).take (wLen l e0)) by rw [hs, ← HE1.out]; exact txt_sub l e0 (wLen l e0))
       clear hw4 hoK hbK
       go_wp2_with (first
        | (refine wp_ld rfl 90 _ rfl rfl hb4 (Sub.all _) Tryz.underlying90 rfl szTok0 ?_)
        | (at_builtin; refine wp_app rfl _ _ _ rfl elT0 rfl rfl (ho4.alloc _) (Rd.litS _ _ 3 1 _ rfl) (by repeat (first | exact ones_nil | refine ones_cons rfl ?_)) (by unfold maxLen; first | omega | (simp; done) | (simp; omega)) (by first | omega | (simp; done) | (simp; omega)) (by have := T4.size; first | omega | (simp; omega)) ?_; intro A3 c3 w3 ho3 ht3 hb3)
        | (go_at_call 74; refine (rskip_any s l E1 _ hs hl4 hE1n).mono ?_; rintro e w' ⟨rfl, rfl⟩))
       have hTs := T4.size
       have T3 : Turn w w3 none := (T4.alloc _).new ht3 (fun g' hg' => (ho4.block g' hg').1)
       rw [HJ.out] at HX
       have HX2 := hid (HX.out)
       refine ⟨⟨E1, E1 + wOver false l E1, N + 1, c3, A3, ts ++ [⟨wKind c, (l.drop e0).take (wLen l e0), e0⟩], by omega, by have := wOver_le false l E1; omega, by go_num, hid rfl, rfl, by omega, hid (by rw [List.length_append, HN.out]; rfl), ?_, T3, ?_⟩, ?_⟩
       ·rw [tcs_app]
        have e2 : tcs [(⟨wKind c, (l.drop e0).take (wLen l e0), e0⟩ : Tok)] = [.int .i64 (0 : Int), .string (s.extract e0 E1), .int .i64 (e0 : Int)] := by rw [HS.out]; show [Value.int .i64 ((wKind c : Nat) : Int), _, _] = _; rw [HK.out]; rfl
        rw [e2]
        exact ho3
       ·rw [← HE1.out]; exact HX2.out
       ·simp [intOf]; omega
   | false =>
    have H1 := hid h1
    cases h2 : wNum c with
    | true =>
     have HB := hid (show wBegins c = true by unfold wBegins; rw [h1, h2]; rfl)
     have HK := hid (show wKind c = 1 by unfold wKind; rw [h1, h2]; rfl)
     have HL := hid (wLen_num HC.out h1 h2)
     have H2 := hid h2
     clear h1 h2
     go_upto_region 13 with (first | (go_at_call 75; refine (rlow_any c _).mono ?_; rintro e w' ⟨rfl, rfl⟩; rw [H1.out]) | (go_at_call 76; refine (rnum_any c _).mono ?_; rintro e w' ⟨rfl, rfl⟩; rw [H2.out]))
     have hbK := hb2.sets 0 (.int .i64 1)
     have f0 := hb2.frozen 0
     have cc0 : w2.cell? ⟨g1, 0, none⟩ = some (.int .i64 0) := hb2.ats rfl
     have TK := T2.new (Blk.setTurn w2 g1 0 (.int .i64 1)) (fun q e => by injection e with e; omega)
     have hoK := Own.turn (ho.turn0 ht2) (Blk.setTurn w2 g1 0 (.int .i64 1)) (.inr hne)
     obtain ⟨wK, hwK⟩ : ∃ wK, wK = w2.setCell ⟨g1, 0, none⟩ (.int .i64 1) := ⟨_, rfl⟩
     rw [← hwK] at hbK TK hoK
     have HW := hid hwK
     clear hwK
     have htr2 := TK
     go_wp2_with (fail)
     rw [← HW.out]
     clear hcj
     go_loopw [8] (fun i wr => ∃ q : Nat, q ≤ n ∧ i = .int .i64 (q : Int) ∧ Hid (q + wRun wNum l q = E1) ∧ wK = wr) (fun i _ => (n - intOf i).toNat)
     case atStart => exact ⟨e0 + 1, by omega, by go_num, hid (by rw [← HE1.out, HL.out]; omega), rfl⟩
     case round =>
      obtain ⟨q, hq, rfl, HQ, rfl⟩ := hrel
      by_cases hqn : q < n
      ·obtain ⟨d, hd⟩ : ∃ d, l[q]? = some d := ⟨l[q]'(by omega), List.getElem?_eq_getElem (by omega)⟩
       have hdj := hs.at_ hd
       have hin := fun (hp : wNum d = true) => hid (show q + 1 + wRun wNum l (q + 1) = E1 by rw [← HQ.out, wRun_in hd hp]; omega)
       have hout := fun (hp : wNum d = false) => (show q = E1 by rw [← HQ.out, wRun_out hd hp]; rfl)
       have HIN := hid hin
       have HOUT := hid hout
       clear hin hout hd
       cases d2 : wNum d with
       | true =>
        have HX := HIN.out d2
        have D2 := hid d2
        clear d2
        go_wp2_with (go_at_call 76; refine (rnum_any d _).mono ?_; rintro e w' ⟨rfl, rfl⟩; rw [D2.out])
        refine ⟨⟨q + 1, by omega, by go_num, HX, ?_⟩, by simp [intOf]; omega⟩; first | rfl | trivial
       | false =>
        have hqE := (HOUT.out d2).symm
        subst hqE
        have D2 := hid d2
        clear d2 HIN HOUT HQ
        go_upto_region 19 with (go_at_call 76; refine (rnum_any d _).mono ?_; rintro e w' ⟨rfl, rfl⟩; rw [D2.out])
        by_cases h15 : N = 1500
        ·have h15i : ((N : Int) == 1500) = true := by rw [beq_iff_eq]; omega
         have HE := hid (HAT.out.many (by rw [HJ.out]; exact HC.out) HB.out (by rw [HN.out]; exact h15))
         clear h15
         go_wp2
         go_ret3
         exact .inr ⟨4096, 2, HE.out, by decide, rfl, htr2⟩
        ·have h15i : ((N : Int) == 1500) = false := by rw [beq_eq_false_iff_ne]; omega
         have HX := hid (HAT.out.next (by rw [HJ.out]; exact HC.out) HB.out (by rw [HN.out]; exact h15))
         have hN2 : N < 1500 := by omega
         clear h15
         have hb4 := hbK.sets 1 (.string (s.extract e0 E1))
         have f1 := hbK.frozen 1
         have cc1 : wK.cell? ⟨g1, 1, none⟩ = some (.string ⟨#[]⟩) := hbK.ats rfl
         go_upto_region 22 with (fail)
         have T4 := htr2.new (Blk.setTurn wK g1 1 (.string (s.extract e0 E1))) (fun q e => by injection e with e; omega)
         obtain ⟨w4, hw4⟩ : ∃ w4, w4 = wK.setCell ⟨g1, 1, none⟩ (.string (s.extract e0 E1)) := ⟨_, rfl⟩
         rw [← hw4] at hb4 T4 ⊢
         have ho4 : Own w4 w.heap.size 90 3 A N cc (tcs ts) := by rw [hw4]; exact Own.turn hoK (Blk.setTurn wK g1 1 _) (.inr hne)
         have cat := hb4
         have HS := hid (show s.extract e0 E1 = txt ((l.drop e0).take (wLen l e0)) by rw [hs, ← HE1.out]; exact txt_sub l e0 (wLen l e0))
         clear hw4 hoK hbK
         go_wp2_with (first
          | (refine wp_ld rfl 90 _ rfl rfl hb4 (Sub.all _) Tryz.underlying90 rfl szTok0 ?_)
          | (at_builtin; refine wp_app rfl _ _ _ rfl elT0 rfl rfl (ho4.alloc _) (Rd.litS _ _ 3 1 _ rfl) (by repeat (first | exact ones_nil | refine ones_cons rfl ?_)) (by unfold maxLen; first | omega | (simp; done) | (simp; omega)) (by first | omega | (simp; done) | (simp; omega)) (by have := T4.size; first | omega | (simp; omega)) ?_; intro A3 c3 w3 ho3 ht3 hb3)
          | (go_at_call 74; refine (rskip_any s l E1 _ hs hl4 hE1n).mono ?_; rintro e w' ⟨rfl, rfl⟩))
         have hTs := T4.size
         have T3 : Turn w w3 none := (T4.alloc _).new ht3 (fun g' hg' => (ho4.block g' hg').1)
         rw [HJ.out] at HX
         have HX2 := hid (HX.out)
         refine ⟨⟨E1, E1 + wOver false l E1, N + 1, c3, A3, ts ++ [⟨wKind c, (l.drop e0).take (wLen l e0), e0⟩], by omega, by have := wOver_le false l E1; omega, by go_num, hid rfl, rfl, by omega, hid (by rw [List.length_append, HN.out]; rfl), ?_, T3, ?_⟩, ?_⟩
         ·rw [tcs_app]
          have e2 : tcs [(⟨wKind c, (l.drop e0).take (wLen l e0), e0⟩ : Tok)] = [.int .i64 (1 : Int), .string (s.extract e0 E1), .int .i64 (e0 : Int)] := by rw [HS.out]; show [Value.int .i64 ((wKind c : Nat) : Int), _, _] = _; rw [HK.out]; rfl
          rw [e2]
          exact ho3
         ·rw [← HE1.out]; exact HX2.out
         ·simp [intOf]; omega
      ·have hqn2 : q = n := by omega
       have hqE : E1 = q := by rw [← HQ.out, wRun_end (by omega)]; rfl
       subst hqE
       have l1 : ¬((E1 : Int) < (n : Int)) := by omega
       clear hqn2 HQ
       go_upto_region 19 with (fail)
       by_cases h15 : N = 1500
       ·have h15i : ((N : Int) == 1500) = true := by rw [beq_iff_eq]; omega
        have HE := hid (HAT.out.many (by rw [HJ.out]; exact HC.out) HB.out (by rw [HN.out]; exact h15))
        clear h15
        go_wp2
        go_ret3
        exact .inr ⟨4096, 2, HE.out, by decide, rfl, htr2⟩
       ·have h15i : ((N : Int) == 1500) = false := by rw [beq_eq_false_iff_ne]; omega
        have HX := hid (HAT.out.next (by rw [HJ.out]; exact HC.out) HB.out (by rw [HN.out]; exact h15))
        have hN2 : N < 1500 := by omega
        clear h15
        have hb4 := hbK.sets 1 (.string (s.extract e0 E1))
        have f1 := hbK.frozen 1
        have cc1 : wK.cell? ⟨g1, 1, none⟩ = some (.string ⟨#[]⟩) := hbK.ats rfl
        go_upto_region 22 with (fail)
        have T4 := htr2.new (Blk.setTurn wK g1 1 (.string (s.extract e0 E1))) (fun q e => by injection e with e; omega)
        obtain ⟨w4, hw4⟩ : ∃ w4, w4 = wK.setCell ⟨g1, 1, none⟩ (.string (s.extract e0 E1)) := ⟨_, rfl⟩
        rw [← hw4] at hb4 T4 ⊢
        have ho4 : Own w4 w.heap.size 90 3 A N cc (tcs ts) := by rw [hw4]; exact Own.turn hoK (Blk.setTurn wK g1 1 _) (.inr hne)
        have cat := hb4
        have HS := hid (show s.extract e0 E1 = txt ((l.drop e0).take (wLen l e0)) by rw [hs, ← HE1.out]; exact txt_sub l e0 (wLen l e0))
        clear hw4 hoK hbK
        go_wp2_with (first
         | (refine wp_ld rfl 90 _ rfl rfl hb4 (Sub.all _) Tryz.underlying90 rfl szTok0 ?_)
         | (at_builtin; refine wp_app rfl _ _ _ rfl elT0 rfl rfl (ho4.alloc _) (Rd.litS _ _ 3 1 _ rfl) (by repeat (first | exact ones_nil | refine ones_cons rfl ?_)) (by unfold maxLen; first | omega | (simp; done) | (simp; omega)) (by first | omega | (simp; done) | (simp; omega)) (by have := T4.size; first | omega | (simp; omega)) ?_; intro A3 c3 w3 ho3 ht3 hb3)
         | (go_at_call 74; refine (rskip_any s l E1 _ hs hl4 hE1n).mono ?_; rintro e w' ⟨rfl, rfl⟩))
        have hTs := T4.size
        have T3 : Turn w w3 none := (T4.alloc _).new ht3 (fun g' hg' => (ho4.block g' hg').1)
        rw [HJ.out] at HX
        have HX2 := hid (HX.out)
        refine ⟨⟨E1, E1 + wOver false l E1, N + 1, c3, A3, ts ++ [⟨wKind c, (l.drop e0).take (wLen l e0), e0⟩], by omega, by have := wOver_le false l E1; omega, by go_num, hid rfl, rfl, by omega, hid (by rw [List.length_append, HN.out]; rfl), ?_, T3, ?_⟩, ?_⟩
        ·rw [tcs_app]
         have e2 : tcs [(⟨wKind c, (l.drop e0).take (wLen l e0), e0⟩ : Tok)] = [.int .i64 (1 : Int), .string (s.extract e0 E1), .int .i64 (e0 : Int)] := by rw [HS.out]; show [Value.int .i64 ((wKind c : Nat) : Int), _, _] = _; rw [HK.out]; rfl
         rw [e2]
         exact ho3
        ·rw [← HE1.out]; exact HX2.out
        ·simp [intOf]; omega
    | false =>
     have H2 := hid h2
     cases h3 : wSign c with
     | true =>
      have HB := hid (show wBegins c = true by unfold wBegins; rw [h1, h2, h3]; rfl)
      have HK := hid (show wKind c = 2 by unfold wKind; rw [h1, h2]; rfl)
      have hqE : E1 = e0 + 1 := by rw [← HE1.out, wLen_sign HC.out h1 h2]
      have hqI : (e0 : Int) + 1 = (E1 : Int) := by omega
      have H3 := hid h3
      have HQE := hid hqE
      clear h1 h2 h3 hqE
      rw [hqI]
      clear hqI
      go_upto_region 17 with (first | (go_at_call 75; refine (rlow_any c _).mono ?_; rintro e w' ⟨rfl, rfl⟩; rw [H1.out]) | (go_at_call 76; refine (rnum_any c _).mono ?_; rintro e w' ⟨rfl, rfl⟩; rw [H2.out]) | (go_at_call 77; refine (rsign_any c _).mono ?_; rintro e w' ⟨rfl, rfl⟩; rw [H3.out]))
      have hbK := hb2.sets 0 (.int .i64 2)
      have f0 := hb2.frozen 0
      have cc0 : w2.cell? ⟨g1, 0, none⟩ = some (.int .i64 0) := hb2.ats rfl
      have TK := T2.new (Blk.setTurn w2 g1 0 (.int .i64 2)) (fun q e => by injection e with e; omega)
      have hoK := Own.turn (ho.turn0 ht2) (Blk.setTurn w2 g1 0 (.int .i64 2)) (.inr hne)
      obtain ⟨wK, hwK⟩ : ∃ wK, wK = w2.setCell ⟨g1, 0, none⟩ (.int .i64 2) := ⟨_, rfl⟩
      rw [← hwK] at hbK TK hoK
      have HW := hid hwK
      clear hwK
      have htr2 := TK
      go_upto_region 19 with (fail)
      rw [← HW.out]
      clear hcj
      by_cases h15 : N = 1500
      ·have h15i : ((N : Int) == 1500) = true := by rw [beq_iff_eq]; omega
       have HE := hid (HAT.out.many (by rw [HJ.out]; exact HC.out) HB.out (by rw [HN.out]; exact h15))
       clear h15
       go_wp2
       go_ret3
       exact .inr ⟨4096, 2, HE.out, by decide, rfl, htr2⟩
      ·have h15i : ((N : Int) == 1500) = false := by rw [beq_eq_false_iff_ne]; omega
       have HX := hid (HAT.out.next (by rw [HJ.out]; exact HC.out) HB.out (by rw [HN.out]; exact h15))
       have hN2 : N < 1500 := by omega
       clear h15
       have hb4 := hbK.sets 1 (.string (s.extract e0 E1))
       have f1 := hbK.frozen 1
       have cc1 : wK.cell? ⟨g1, 1, none⟩ = some (.string ⟨#[]⟩) := hbK.ats rfl
       go_upto_region 22 with (fail)
       have T4 := htr2.new (Blk.setTurn wK g1 1 (.string (s.extract e0 E1))) (fun q e => by injection e with e; omega)
       obtain ⟨w4, hw4⟩ : ∃ w4, w4 = wK.setCell ⟨g1, 1, none⟩ (.string (s.extract e0 E1)) := ⟨_, rfl⟩
       rw [← hw4] at hb4 T4 ⊢
       have ho4 : Own w4 w.heap.size 90 3 A N cc (tcs ts) := by rw [hw4]; exact Own.turn hoK (Blk.setTurn wK g1 1 _) (.inr hne)
       have cat := hb4
       have HS := hid (show s.extract e0 E1 = txt ((l.drop e0).take (wLen l e0)) by rw [hs, ← HE1.out]; exact txt_sub l e0 (wLen l e0))
       clear hw4 hoK hbK
       go_wp2_with (first
        | (refine wp_ld rfl 90 _ rfl rfl hb4 (Sub.all _) Tryz.underlying90 rfl szTok0 ?_)
        | (at_builtin; refine wp_app rfl _ _ _ rfl elT0 rfl rfl (ho4.alloc _) (Rd.litS _ _ 3 1 _ rfl) (by repeat (first | exact ones_nil | refine ones_cons rfl ?_)) (by unfold maxLen; first | omega | (simp; done) | (simp; omega)) (by first | omega | (simp; done) | (simp; omega)) (by have := T4.size; first | omega | (simp; omega)) ?_; intro A3 c3 w3 ho3 ht3 hb3)
        | (go_at_call 74; refine (rskip_any s l E1 _ hs hl4 hE1n).mono ?_; rintro e w' ⟨rfl, rfl⟩))
       have hTs := T4.size
       have T3 : Turn w w3 none := (T4.alloc _).new ht3 (fun g' hg' => (ho4.block g' hg').1)
       rw [HJ.out] at HX
       have HX2 := hid (HX.out)
       refine ⟨⟨E1, E1 + wOver false l E1, N + 1, c3, A3, ts ++ [⟨wKind c, (l.drop e0).take (wLen l e0), e0⟩], by omega, by have := wOver_le false l E1; omega, by go_num, hid rfl, rfl, by omega, hid (by rw [List.length_append, HN.out]; rfl), ?_, T3, ?_⟩, ?_⟩
       ·rw [tcs_app]
        have e2 : tcs [(⟨wKind c, (l.drop e0).take (wLen l e0), e0⟩ : Tok)] = [.int .i64 (2 : Int), .string (s.extract e0 E1), .int .i64 (e0 : Int)] := by rw [HS.out]; show [Value.int .i64 ((wKind c : Nat) : Int), _, _] = _; rw [HK.out]; rfl
        rw [e2]
        exact ho3
       ·rw [← HE1.out]; exact HX2.out
       ·simp [intOf]; omega
     | false =>
      have HX := hid (HAT.out.form (by rw [HJ.out]; exact HC.out) (show wBegins c = false by unfold wBegins; rw [h1, h2, h3]; rfl))
      have H3 := hid h3
      clear h1 h2 h3
      go_wp2_with (first | (go_at_call 75; refine (rlow_any c _).mono ?_; rintro e w' ⟨rfl, rfl⟩; rw [H1.out]) | (go_at_call 76; refine (rnum_any c _).mono ?_; rintro e w' ⟨rfl, rfl⟩; rw [H2.out]) | (go_at_call 77; refine (rsign_any c _).mono ?_; rintro e w' ⟨rfl, rfl⟩; rw [H3.out]))
      go_ret3
      rw [HJ.out] at HX
      exact .inr ⟨e0, 4, HX.out, by decide, rfl, T2⟩
  ·have he : e0 = n := by omega
   have HST := hid (HAT.out.stop (by rw [HJ.out]; omega))
   have l1 : ¬((e0 : Int) < (n : Int)) := by omega
   clear he hjn
   by_cases h15 : N = 1500
   ·have h15i : ((N : Int) == 1500) = true := by rw [beq_iff_eq]; omega
    have HX := hid (HST.out.trans (if_pos (by rw [HN.out]; exact h15)))
    clear h15
    go_wp2
    go_ret3
    exact .inr ⟨4096, 2, HX.out, by decide, rfl, htr⟩
   ·have h15i : ((N : Int) == 1500) = false := by rw [beq_eq_false_iff_ne]; omega
    have HX := hid (HST.out.trans (if_neg (by rw [HN.out]; exact h15)))
    have hN2 : N < 1500 := by omega
    clear h15
    go_wp2_with (at_builtin; refine wp_app rfl _ _ _ rfl elT0 rfl rfl (ho.alloc _) (Rd.litS _ _ 3 1 _ rfl) (by repeat (first | exact ones_nil | refine ones_cons rfl ?_)) (by unfold maxLen; first | omega | (simp; done) | (simp; omega)) (by first | omega | (simp; done) | (simp; omega)) (by have := htr.size; first | omega | (simp; omega)) ?_; intro A3 c3 w3 ho3 ht3 hb3)
    go_ret3
    refine .inl ⟨ts ++ [⟨3, [], l.length⟩], A3, N + 1, c3, HX.out, rfl, ?_, (htr.alloc _).new ht3 (fun g' hg' => (ho.block g' hg').1)⟩
    rw [tcs_app]
    have e2 : tcs [(⟨3, [], l.length⟩ : Tok)] = [.int .i64 3, .string ⟨#[]⟩, .int .i64 (n : Int)] := by rw [hn]; rfl
    rw [e2]
    exact ho3
open Go.RowKit
theorem rres_parse {w : World} {g : Nat} {v x y : Value} (h : Blk w g 24 ([v] : List Value).toArray) (tmps : Array Value) (h2 : tmps.getD 2 undef = .pointer (some ⟨g, 0, none⟩)) (h3 : tmps.getD 3 undef = x) (h4 : tmps.getD 4 undef = y) :
  (results Tryz.f24 tmps).run Tryz.prog w = .ok (.tuple #[.agg #[v], x, y]) w := by
 have hl := run_loadVar_mid (P := Tryz.prog) w g 0 24 [v] _ (h.range (Sub.all _)) Tryz.underlying24 rfl szSch
 rw [Array.getD_eq_getD_getElem?] at h2 h3 h4
 simp [results, Tryz.f24, go_sem, h2, h3, h4] at hl ⊢
 simp [hl]
theorem rwords_ok (l : List UInt8) (w : World) {ts : List Tok} (h : wWords l = .ok ts) :
  Calls Tryz.prog 48 #[.string (txt l)] w fun e w' => ∃ g c, e = .returned (.tuple #[.slice (some ⟨g, 0, none⟩) ts.length c, .int .i64 0, .int .i64 0]) ∧ Own w' w.heap.size 90 3 (some ⟨g, 0, none⟩) ts.length c (tcs ts) ∧ Turn w w' none := by
 refine (rwords_any (txt l) l w rfl).mono ?_
 rintro e w' (⟨us, A, n, c, h1, rfl, ho, ht⟩ | ⟨p, er, h1, _⟩)
 ·rw [h] at h1
  injection h1 with h1
  subst h1
  have hn := ho.len_
  rw [tcs_len] at hn
  obtain rfl : n = ts.length := by omega
  have hp : 0 < ts.length := by
   have := (wWords_ord h).2.1
   cases ts with
   | nil => exact absurd rfl this
   | cons t r => simp
  obtain ⟨g, rfl, _, _⟩ := ho.head hp
  exact ⟨g, c, rfl, ho, ht⟩
 ·rw [h] at h1; cases h1
theorem rparse_any (l : List UInt8) (w : World) : Calls Tryz.prog 24 #[.string (txt l)] w (PaPost l w) := by
 cases hw : wWords l with
 | error p =>
  obtain ⟨p0, er0⟩ := p
  have wd := fun {w : World} => rwords_any (txt l) l w rfl
  have HR := hid (eRead_no hw)
  have HW := hid hw
  clear hw
  go_enter Tryz.func24, Tryz.ntmps24
  go_wp2_with (refine wp_al rfl 24 rfl _ zSch ?_; intro g w1 hg hb1 ht1)
  refine wd.mono ?_
  rintro e w2 (⟨_, _, _, _, q, _⟩ | ⟨p, er, q, hne, rfl, ht2⟩)
  ·rw [HW.out] at q; cases q
  ·rw [HW.out] at q
   injection q with q
   injection q with q1 q2
   subst q1; subst q2
   have hb2 := hb1.turn0 ht2
   have e1 : ((er0 : Int) != 0) = true := by rw [bne_iff_ne]; omega
   go_wp2_with (refine wp_st rfl 24 _ _ rfl rfl rfl hb2 rfl (xs := [.slice none 0 0]) szSch (one1 rfl) ?_; intro w3 hb3 ht3)
   refine bodyPost_ret (rres_parse hb3 _ (by rfl) (by rfl) (by rfl)) rfl ?_
   refine .inr ⟨p0, er0, HR.out, hne, rfl, (ht1.trans ht2).new ht3 (fun q e => by injection e with e; omega)⟩
 | ok T =>
  have wd := fun {w : World} => rwords_ok l w hw
  have htok : TOk T := by obtain ⟨ts, e1, e2, _⟩ := wWords_text hw; exact ⟨ts, e1, e2⟩
  have hfew : T.length ≤ 1500 := by have hl := (wWords_ord hw).1; unfold wWords at hw; rw [if_neg (by omega)] at hw; have := wGo_few _ _ _ _ _ hw (by omega); omega
  have hbr : ∀ i, i < T.length → (tokAt T i).s.length ≤ 4096 := fun i hi => tcs_few hw hi
  have HREL := hid (read_rel hw)
  clear hw
  go_enter Tryz.func24, Tryz.ntmps24
  go_upto_region 5 with (first
   | (refine wp_al rfl 24 rfl _ zSch ?_; intro g w1 hg hb1 ht1)
   | (go_at_call 48; refine wd.mono ?_; rintro e w2 ⟨gw, cw, rfl, ho, ht2⟩)
   | (refine wp_bx rfl 86 _ rfl rfl ?_; intro pB w3 hpB hb3 ht3))
  obtain ⟨b, hb⟩ : ∃ b : QB, b = ⟨⟨w2.heap.size, pB, some ⟨gw, 0, none⟩, cw, T⟩, []⟩ := ⟨_, rfl⟩
  have hw2 := (ht1.trans ht2).size
  have hps : PS w3 b ⟨0, [], 0, 0⟩ := by
   rw [hb]
   refine ⟨by show w2.heap.size ≤ pB; omega, ⟨ht3.size, (fun g h => by cases h)⟩, (fun g h => by cases h), ho.rd.turn0 ht3 (Nat.le_refl _), htok, hfew, hbr, ho.cap, htok.pos, ⟨by decide, fun x h => by simp at h, fun x h => by simp at h, fun x h => by simp at h⟩, _, NR.nil w3 _, hb3, (fun i g h => by cases h)⟩
  have hres3 := (hb1.turn0 ht2).turn0 ht3
  have hgl : g < w2.heap.size := (hb1.turn0 ht2).lt
  have hpbb : pB = b.pB := by rw [hb]
  have hbase : b.base = w2.heap.size := by rw [hb]
  have hTT : T = b.T := by rw [hb]
  subst hpbb
  rw [hTT] at HREL
  have HBA := hid hbase
  clear hb hbase hTT
  obtain ⟨sT, hsT⟩ : ∃ sT, sT = (mTyped b.T 21 0 none ⟨0, [], 0, 0⟩).2 := ⟨_, rfl⟩
  have ty : Calls Tryz.prog 49 #[.pointer (some ⟨b.pB, 0, none⟩), .int .i64 0, .bool false, .slice none 0 0] w3 fun e w' => ∃ i : Nat, e = .returned (.int .i64 (i : Int)) ∧ PS w' b sT ∧ Fq b w3 w' :=
   (rtyp_any 20 0 rfl w3 b ⟨0, [], 0, 0⟩ none none 0 hps rfl (UnOk.none_ _ _ _)).mono fun e w' q => ⟨_, q.1, hsT ▸ q.2.1, q.2.2⟩
  have HSP := hid (show mParse b.T = mBad b.T (decide ((tokAt b.T sT.at_).k ≠ 3)) 4 sT by rw [hsT]; rfl)
  clear hsT
  go_upto_region 6 with (go_at_call 49; refine ty.mono ?_; rintro e w4 ⟨i, rfl, h4, f4⟩)
  obtain ⟨t, ht⟩ : ∃ t, t = tokAt b.T sT.at_ := ⟨_, rfl⟩
  have HT := hid ht
  have q0 := fld0 t.k t.at_ (txt t.s)
  rw [← ht] at HSP
  obtain ⟨is, his⟩ : ∃ is, ((t.k : Int) != 3) = is := ⟨_, rfl⟩
  have hq : decide (t.k ≠ 3) = is := by
   rw [← his]
   by_cases hk : t.k = 3
   ·rw [decide_eq_false (by simp [hk])]; symm; rw [bne_eq_false_iff_eq]; omega
   ·rw [decide_eq_true hk]; symm; rw [bne_iff_ne]; omega
  rw [hq] at HSP
  clear ht hq
  obtain ⟨sP, hsP⟩ : ∃ sP, sP = mBad b.T is 4 sT := ⟨_, rfl⟩
  rw [← hsP] at HSP
  have bd := fun {w : World} (h : PS w b sT) => pbad_any h is 4
  rw [← hsP] at bd
  clear hsP
  go_upto_region 7 with (first
   | (go_at_call 50; refine (bd (h4.turn0 t5)).mono ?_; rintro e w6 ⟨rfl, h6, t6⟩)
   | (go_at_call 51; refine (ptok_t HT h4).mono ?_; rintro e w5 ⟨rfl, t5⟩))
  have f6 : Fq b w3 w6 := (f4.turn t5 hps.hw).trans ((h4.turn0 t5).fq t6)
  have hgb : g < b.base := by rw [HBA.out]; exact hgl
  have hres6 : Blk w6 g 24 ([.slice none 0 0] : List Value).toArray := (f6.1.block g hgb).trans hres3
  have ta : Turn w w6 none := turn_of_below (((ht1.trans ht2).trans ht3).below.trans (f6.1.mono (by rw [HBA.out]; exact hw2)))
  obtain ⟨R, hN, hrb, _, _, p2, p3, p4, _⟩ := h6.opn
  have hok := h6.ok
  have hala : sP.at_ + 1 ≤ 1500 := by have := h6.at_; have := h6.few; omega
  have hrel := HREL.out
  rw [HSP.out] at hrel
  clear wd ty bd q0
  by_cases hz : sP.why = 0
  ·have e1 : ((sP.why : Int) != 0) = false := by rw [bne_eq_false_iff_eq]; omega
   have HR : Hid (eRead l = .ok sP.N) := hid (by
    cases ho : eRead l with
    | error p => obtain ⟨a, e⟩ := p; rw [ho] at hrel; exact absurd (hrel.1.symm.trans hz) hrel.2.2
    | ok N => rw [ho] at hrel; rw [hrel.2])
   clear hrel HREL hz
   go_wp2_with (refine wp_st rfl 24 _ _ rfl rfl rfl hres6 rfl (xs := [.slice (R none).A sP.N.length (R none).c]) szSch (one1 rfl) ?_; intro w7 hb7 ht7)
   refine bodyPost_ret (rres_parse hb7 _ (by rfl) (by rfl) (by rfl)) rfl ?_
   exact .inl ⟨sP.N, _, sP.at_ + 1, HR.out, rfl, ⟨R, (hN.turn hres6 (by decide) ht7).mono (by rw [HBA.out]; exact hw2), rfl⟩, hok, hala, ta.new ht7 (fun q e => by injection e with e; omega)⟩
  ·have e1 : ((sP.why : Int) != 0) = true := by rw [bne_iff_ne]; omega
   have HR : Hid (eRead l = .error (sP.bad, sP.why)) := hid (by
    cases ho : eRead l with
    | error p => obtain ⟨a, e⟩ := p; rw [ho] at hrel; rw [hrel.1, hrel.2.1]
    | ok N => rw [ho] at hrel; exact absurd hrel.1 hz)
   clear hrel HREL
   have HZ := hid hz
   clear hz
   have cg := hres6.cell 0
   have zg := hres6.frozen 0
   have ne6 : g ≠ b.pB := by have := h6.hb; omega
   go_upto_region 8 with (fail)
   refine wp_region_noPanic ?_
   refine wp_region_held_drew (S := (fun W => W.cell? ⟨b.pB, 3, none⟩ = some (.int .i64 (sP.why : Int)) ∧ W.cell? ⟨b.pB, 4, none⟩ = some (.int .i64 (sP.bad : Int)))) (by kernel_rfl) (⟨p3, p4⟩) (fun hHeld => ?_)
   (first | refine tkN 0 ?_ | refine tkY 0 _ ?_); (try simp only [Act.put, zs])
   (first | refine tkN 1 ?_ | refine tkY 1 _ ?_); (try simp only [Act.put, zs])
   (first | refine tkN 2 ?_ | refine tkY 2 _ ?_); (try simp only [Act.put, zs])
   (first | refine tkN 3 ?_ | refine tkY 3 _ ?_); (try simp only [Act.put, zs])
   (first | refine tkN 4 ?_ | refine tkY 4 _ ?_); (try simp only [Act.put, zs])
   (first | refine tkN 5 ?_ | refine tkY 5 _ ?_); (try simp only [Act.put, zs])
   (first | refine tkN 6 ?_ | refine tkY 6 _ ?_); (try simp only [Act.put, zs])
   (first | refine tkN 7 ?_ | refine tkY 7 _ ?_); (try simp only [Act.put, zs])
   (first | refine tkN 8 ?_ | refine tkY 8 _ ?_); (try simp only [Act.put, zs])
   refine wpAnyH_ready (rs := [9]) (by kernel_rfl) (by simp) ?_; refine AllReadyH.cons rfl (fun K hK => ?_) AllReadyH.nil
   go_simp
   refine hK.out _ _ ⟨(World.cell?_setCell_far _ _ _ _ ne6).trans p3, (World.cell?_setCell_far _ _ _ _ ne6).trans p4⟩ (fun hHeld => ?_); clear hK K; (try simp only [Act.put, zs])
   (first | refine tkN 10 ?_ | refine tkY 10 _ ?_); (try simp only [Act.put, zs])
   (first | refine tkN 11 ?_ | refine tkY 11 _ ?_); (try simp only [Act.put, zs])
   refine wpAnyH_done (by kernel_rfl) ?_ _
   refine NoPanic.normal ?_
   clear hHeld
   have hb7 : Blk (w6.setCell ⟨g, 0, none⟩ (.slice none 0 0)).drew g 24 ([.slice none 0 0] : List Value).toArray := by
    have := hres6.sets 0 (.slice none 0 0)
    exact this.drew
   have t7 : Turn w (w6.setCell ⟨g, 0, none⟩ (.slice none 0 0)).drew none := (ta.new (Blk.setTurn w6 g 0 _) (fun q e => by injection e with e; omega)).drew
   go_wp2
   refine bodyPost_ret (rres_parse hb7 _ (by rfl) (by rfl) (by rfl)) rfl ?_
   exact .inr ⟨sP.bad, sP.why, HR.out, HZ.out, rfl, t7⟩
theorem pType_deep : ∀ (f deep : Nat) (un : Option (List Nat)), RdOk (pType f deep un) (20 - deep)
 | 0, _, _ => fun ts N n r N' h => by rw [pType] at h; cases h
 | f + 1, deep, un => fun ts N n r N' h => by
  cases ts with
  | nil => rw [pType_nil] at h; cases h
  | cons t r0 =>
   rw [pType_cons] at h
   unfold pStep at h
   have hd := (ite_none h).1
   replace h := (ite_none h).2
   obtain ⟨gf, hgf⟩ : ∃ gf, 20 - deep = gf + 1 := ⟨19 - deep, by omega⟩
   have HR : ∀ u, RdOk (pType f (deep + 1) u) gf := fun u => by
    have := pType_deep f (deep + 1) u
    rwa [show 20 - (deep + 1) = gf by omega] at this
   rw [hgf]
   cases hk : pKind t with
   | none =>
    rw [hk] at h
    simp only at h
    split at h
    ·rename_i hnm
     cases hc : pCalled N t.2 with
     | none => rw [hc] at h; cases h
     | some n0 =>
      rw [hc] at h
      simp only at h
      split at h
      ·cases h
      ·simp only [Option.some.injEq, Prod.mk.injEq] at h
       obtain ⟨rfl, rfl, rfl⟩ := h
       obtain ⟨x, hx, hlt, h9, hname⟩ := pCalled_some hc
       refine ⟨List.prefix_refl _, [t], rfl, by simp, fun M hM => ?_⟩
       have hkn := hM.2 n0 hlt
       unfold knAt at hkn
       rw [hx] at hkn
       cases hy : M[n0]? with
       | none => rw [hy] at hkn; cases hkn
       | some y =>
        rw [hy] at hkn
        simp only [Option.map_some, Option.some.injEq, Prod.mk.injEq] at hkn
        rw [wTok, hy]
        simp only [if_pos hlt]
        rw [if_pos (by omega), hkn.2, hname, ← pNm_form hnm]
    ·cases h
   | some k =>
    rw [hk] at h
    simp only at h
    obtain ⟨hk12, hform⟩ := pKind_some hk
    replace h := (ite_none h).2
    replace h := (ite_none h).2
    have hh := ite_two h
    clear h
    rcases hh with ⟨hk6, h⟩ | ⟨hk6, h⟩
    ·-- a plain one
     simp only [Option.some.injEq, Prod.mk.injEq] at h
     obtain ⟨rfl, rfl, rfl⟩ := h
     refine ⟨List.prefix_append _ _, [t], rfl, by simp, fun M hM => ?_⟩
     have h0 : M[N.length]? = some (Nd.of k) := by rw [hM.1 N.length (Nat.le_refl _) (by simp)]; simp
     rw [wTok_one h0, if_pos (show (Nd.of k).k < 6 from hk6)]
     rcases hform with ⟨_, rfl⟩ | ⟨h6, _⟩
     ·simp [Nd.of]
     ·omega
    have hr0 := HR none
    have hh := ite_two h
    clear h
    rcases hh with ⟨e6, h⟩ | ⟨e6, h⟩
    ·subst e6
     obtain ⟨rfl, g1, out, rfl, g2⟩ := pOne_ok hr0 h
     refine ⟨g1, t :: (out ++ [(2, [93])]), by simp, by simp, fun M hM => ?_⟩
     obtain ⟨x, hx, hxk, hw⟩ := g2 M hM
     rw [wTok_one hx, hxk, if_neg (by omega), if_pos rfl, hw]
     rcases hform with ⟨h6, _⟩ | ⟨_, rfl⟩
     ·omega
     ·rfl
    have hh := ite_two h
    clear h
    rcases hh with ⟨e7, h⟩ | ⟨e7, h⟩
    ·subst e7
     obtain ⟨rfl, g1, out, rfl, g2⟩ := pOne_ok hr0 h
     refine ⟨g1, t :: (out ++ [(2, [125])]), by simp, by simp, fun M hM => ?_⟩
     obtain ⟨x, hx, hxk, hw⟩ := g2 M hM
     rw [wTok_one hx, hxk, if_neg (by omega), if_neg (by omega), if_pos rfl, hw]
     rcases hform with ⟨h6, _⟩ | ⟨_, rfl⟩
     ·omega
     ·rfl
    have hh := ite_two h
    clear h
    rcases hh with ⟨e8, h⟩ | ⟨e8, h⟩
    ·subst e8
     split at h
     ·rename_i its r1 N1 ha
      simp only [Option.some.injEq, Prod.mk.injEq] at h
      obtain ⟨rfl, rfl, rfl⟩ := h
      obtain ⟨g1, new, out, rfl, hn, rfl, g2⟩ := pAllW_ok (fun its => HR (some its)) f [] r0 _ _ r1 N1 ha
      obtain ⟨m1, m2⟩ := mod_grow (g := fun y => { y with items := its }) g1
      refine ⟨m1, t :: (out ++ [(2, [41])]), by simp, by simp, fun M hM => ?_⟩
      obtain ⟨h3, h4⟩ := Fit.fill (g := fun y => { y with items := its }) ⟨rfl, rfl⟩ g1 hM
      have h5 := g2 M h3
      rw [List.length_append, List.length_singleton] at h5
      rw [wTok_one h4, m2]
      simp only [Nd.of]
      rw [if_neg (by omega), if_neg (by omega), if_neg (by omega), if_pos trivial, h5]
      rcases hform with ⟨h6, _⟩ | ⟨_, rfl⟩
      ·omega
      ·rfl
     ·cases h
    have h9 : 9 ≤ k := by omega
    have ht : t = (0, kwText k) := by
     rcases hform with ⟨_, ht⟩ | ⟨h6, _⟩
     ·exact ht
     ·omega
    cases r0 with
    | nil => simp at h
    | cons a r1 =>
     simp only at h
     split at h
     ·rename_i hna
      rw [Bool.and_eq_true] at hna
      have ha := pNm_form hna.1
      cases r1 with
      | nil => simp at h
      | cons b r2 =>
       simp only at h
       split at h
       ·rename_i e10
        subst e10
        split at h
        ·rename_i hb
         simp only [Option.some.injEq, Prod.mk.injEq] at h
         obtain ⟨rfl, rfl, rfl⟩ := h
         refine ⟨List.prefix_append _ _, [t, a, b], by simp, by simp, fun M hM => ?_⟩
         have h0 : M[N.length]? = some { Nd.of 10 with name := a.2, size := wNumAt b.2 } := by rw [hM.1 N.length (Nat.le_refl _) (by simp)]; simp
         rw [wTok_one h0]
         simp only [Nd.of]
         rw [if_neg (by omega), if_neg (by omega), if_neg (by omega), if_neg (by omega), if_neg (by omega), if_pos trivial, digs_ok hb.2, ← ha, ht]
         have eb : b = (1, b.2) := by rw [← hb.1]
         rw [← eb]
         simp
        ·cases h
       ·split at h
        ·rename_i _ e9
         subst e9
         split at h
         ·rename_i hb
          split at h
          ·rename_i ys r3 hs
           simp only [Option.some.injEq, Prod.mk.injEq] at h
           obtain ⟨rfl, rfl, rfl⟩ := h
           obtain ⟨new, rfl, hn, rfl⟩ := pSyms_ok f [] r2 ys r3 hs
           have eb : b = (2, [60]) := by rw [← hb.1, ← hb.2]
           refine ⟨List.prefix_append _ _, t :: a :: b :: (wSymsT ys ++ [(2, [62])]), by simp, by simp, fun M hM => ?_⟩
           have h0 : M[N.length]? = some { Nd.of 9 with name := a.2, syms := ys } := by rw [hM.1 N.length (Nat.le_refl _) (by simp)]; simp
           rw [wTok_one h0]
           simp only [Nd.of]
           rw [if_neg (by omega), if_neg (by omega), if_neg (by omega), if_neg (by omega), if_pos trivial, ← ha, ht, eb]
           simp
          ·cases h
         ·cases h
        ·rename_i e10 e9
         have e11 : k = 11 := by omega
         subst e11
         split at h
         ·rename_i hb
          split at h
          ·rename_i fs r3 N1 hf
           simp only [Option.some.injEq, Prod.mk.injEq] at h
           obtain ⟨rfl, rfl, rfl⟩ := h
           obtain ⟨g1, new, out, rfl, rfl, g2⟩ := pFields_ok hr0 f [] r2 _ fs r3 N1 hf
           have eb : b = (2, [123]) := by rw [← hb.1, ← hb.2]
           obtain ⟨m1, m2⟩ := mod_grow (g := fun y => { y with fields := fs }) g1
           refine ⟨m1, t :: a :: b :: (out ++ [(2, [125])]), by simp, by simp, fun M hM => ?_⟩
           obtain ⟨h3, h4⟩ := Fit.fill (g := fun y => { y with fields := fs }) ⟨rfl, rfl⟩ g1 hM
           have h5 := g2 M h3
           rw [List.length_append, List.length_singleton] at h5
           rw [wTok_one h4, m2]
           simp only [Nd.of]
           rw [if_neg (by omega), if_neg (by omega), if_neg (by omega), if_neg (by omega), if_neg (by omega), if_neg (by omega), if_pos trivial, h5]
           simp only [Option.map_some]
           rw [← ha, ht, eb]
          ·cases h
         ·cases h
     ·cases h
theorem read_wt {l : List UInt8} {M : List Nd} (h : pRead l = some M) : ∃ out, wTok M 20 0 0 = some (out, M.length) ∧ wTok M 2000 0 0 = some (out, M.length) := by
 unfold pRead at h
 split at h
 ·rename_i toks hw
  unfold pNodes at h
  split at h
  ·rename_i n N hp
   simp only [Option.some.injEq] at h
   subst h
   obtain ⟨_, out, h1, _, h2⟩ := pType_ok 2000 0 none _ [] n [(3, [])] N hp
   obtain ⟨_, out2, g1, _, g2⟩ := pType_deep 2000 0 none _ [] n [(3, [])] N hp
   have h3 := h2 N (Fit.self N)
   have g3 := g2 N (Fit.self N)
   obtain rfl : out = out2 := List.append_cancel_right (h1.symm.trans g1)
   have hn : n = 0 := by
    rw [wTok] at h3
    simp only [List.length_nil] at h3
    split at h3
    ·cases h3
    ·rw [if_neg (Nat.not_lt_zero n)] at h3
     exact Decidable.byContradiction fun e => by rw [if_pos e] at h3; cases h3
   subst hn
   exact ⟨out, g3, h3⟩
  ·cases h
 ·cases h
structure DW where
 S : List UInt8
 nx : Nat
 bad : Bool
abbrev DRec := Int → DW → DW
def dSymG : Bool → List (List UInt8) → List UInt8 → List UInt8
 | _, [], s => s
 | fst, y :: r, s => if 4096 < s.length then s else dSymG false r ((if fst then s else s ++ [44]) ++ y)
def dItG (rec : DRec) : Bool → List Int → DW → DW
 | _, [], st => st
 | fst, y :: r, st => if st.bad then st else dItG rec false r (rec y (if fst then st else { st with S := st.S ++ [124] }))
def dFlG (rec : DRec) : List Gf → DW → DW
 | [], st => st
 | y :: r, st =>
  if st.bad then st
  else
   let st1 := rec y.ty { st with S := (if y.has then st.S ++ y.name ++ [63] else st.S ++ y.name) ++ [58] }
   dFlG rec r { st1 with S := st1.S ++ [59] }
def dDig (n : Int) : List UInt8 := if n < 0 ∨ 4096 < n then [120] else digs 5 n.toNat
def dOpen (k : Nat) : List UInt8 := if 9 ≤ k then kwText k ++ [32] else kwText k
def dShut (k : Nat) : List UInt8 := if k = 6 then [93] else if k = 7 then [125] else if k = 8 then [41] else if k = 9 then [62] else if k = 11 then [125] else []
def dHead (x : Gn) (s : List UInt8) : List UInt8 :=
 let s1 := if 9 ≤ x.k then s ++ dOpen x.k.toNat ++ x.name else s ++ dOpen x.k.toNat
 let s2 := if x.k = 10 then s1 ++ [32] ++ dDig x.size else s1
 if x.k = 9 then dSymG true x.syms (s2 ++ [60]) else s2
def dBegin (rec : DRec) (x : Gn) (st : DW) : DW :=
 if x.k < 0 ∨ 11 < x.k then { st with bad := true }
 else
  let st1 : DW := { st with S := dHead x st.S }
  let st2 := if 5 < x.k ∧ x.k < 9 then dItG rec true x.items st1 else st1
  let st3 := if x.k = 11 then dFlG rec x.fields { st2 with S := st2.S ++ [123] } else st2
  { st3 with S := st3.S ++ dShut x.k.toNat }
def dOff (gs : List Gn) (deep : Nat) (n : Int) (st : DW) : Bool := st.bad || decide (n < 0) || decide ((gs.length : Int) ≤ n) || decide ((st.nx : Int) < n) || decide (20 ≤ deep) || decide (4096 < st.S.length)
def dTyp (gs : List Gn) : Nat → Nat → DRec
 | 0, _, _, st => { st with bad := true }
 | f + 1, deep, n, st =>
  if dOff gs deep n st then { st with bad := true }
  else match gs[n.toNat]? with
   | none => { st with bad := true }
   | some x =>
    if n < (st.nx : Int) then { st with S := st.S ++ x.name, bad := decide (x.k < 9) }
    else dBegin (fun m s => dTyp gs f (deep + 1) m s) x { st with nx := st.nx + 1 }
def DrOk (rec : Wtr) (recD : DRec) : Prop := ∀ n nx out nx' (t : List UInt8), rec n nx = some (out, nx') → (t ++ lText out).length ≤ 4096 → recD (n : Int) ⟨t, nx, false⟩ = ⟨t ++ lText out, nx', false⟩
theorem dItG_ok {rec : Wtr} {recD : DRec} (hr : DrOk rec recD) : ∀ (ys : List Nat) (y nx : Nat) (b : Bool) (out : List TT) (nx' : Nat) (t : List UInt8), wItems rec (y :: ys) nx = some (out, nx') → (t ++ ((if b then [] else [124]) ++ lText out)).length ≤ 4096 →
  dItG recD b ((y :: ys).map Int.ofNat) ⟨t, nx, false⟩ = ⟨t ++ ((if b then [] else [124]) ++ lText out), nx', false⟩
 | [], y, nx, b, out, nx', t, h, hl => by
  have h1 := wItems_one h
  have h2 := hr y nx out nx' (t ++ (if b then [] else [124])) h1 (by rw [List.append_assoc]; exact hl)
  rw [List.map_cons, List.map_nil, dItG]
  have e0 : (if b = true then (⟨t, nx, false⟩ : DW) else ⟨t ++ [124], nx, false⟩) = ⟨t ++ (if b then [] else [124]), nx, false⟩ := by cases b <;> simp
  simp only [Bool.false_eq_true, if_false]
  rw [e0]
  show dItG recD false [] (recD (y : Int) _) = _
  rw [h2, dItG, List.append_assoc]
 | z :: ys, y, nx, b, out, nx', t, h, hl => by
  obtain ⟨o, nx1, o2, h1, h2, rfl⟩ := wItems_more h
  rw [lText_app, lT_cons, lt1_two] at hl ⊢
  have h3 := hr y nx o nx1 (t ++ (if b then [] else [124])) h1 (by simp only [List.length_append] at hl ⊢; omega)
  have h4 := dItG_ok hr ys z nx1 false o2 nx' (t ++ (if b then [] else [124]) ++ lText o) h2 (by simp only [Bool.false_eq_true, if_false, List.length_append] at hl ⊢; omega)
  rw [List.map_cons, dItG]
  have e0 : (if b = true then (⟨t, nx, false⟩ : DW) else ⟨t ++ [124], nx, false⟩) = ⟨t ++ (if b then [] else [124]), nx, false⟩ := by cases b <;> simp
  simp only [Bool.false_eq_true, if_false]
  rw [e0]
  show dItG recD false _ (recD (y : Int) _) = _
  rw [h3, h4]
  simp [List.append_assoc]
theorem dFlG_ok {rec : Wtr} {recD : DRec} (hr : DrOk rec recD) : ∀ (l : List Fl) (nx : Nat) (out : List TT) (nx' : Nat) (t : List UInt8), (∀ f ∈ l, WBr f.name) → wFields rec l nx = some (out, nx') → (t ++ lText out).length ≤ 4096 →
  dFlG recD (l.map Fl.g) ⟨t, nx, false⟩ = ⟨t ++ lText out, nx', false⟩
 | [], nx, out, nx', t, _, h, _ => by
  unfold wFields at h
  injection h with h
  injection h with h1 h2
  subst h1; subst h2
  rw [List.map_nil, dFlG]; simp [lText]
 | y :: ys, nx, out, nx', t, hk, h, hl => by
  rw [wFields] at h
  split at h
  ·cases h
  rename_i o nx1 e1
  split at h
  ·cases h
  rename_i o2 nx2 e2
  injection h with h
  injection h with h1 h2
  subst h1; subst h2
  have hq : lText (if y.has then [((2 : Nat), [63])] else []) = (if y.has then [63] else []) := by
   cases y.has <;> simp [lText, lt1]
  have et : lText ((0, y.name) :: ((if y.has = true then [(2, [63])] else []) ++ (2, [58]) :: (o ++ (2, [59]) :: o2))) = y.name ++ ((if y.has then [63] else []) ++ ([58] ++ (lText o ++ ([59] ++ lText o2)))) := by
   rw [lT_cons, lt1_plain (hk y List.mem_cons_self).2, lText_app, hq, lT_cons, lt1_two, lText_app, lT_cons, lt1_two]
  rw [et] at hl ⊢
  have hl' := hl
  simp only [List.length_append] at hl'
  have h3 := hr y.ty nx o nx1 (((t ++ y.name) ++ (if y.has then [63] else [])) ++ [58]) e1 (by simp only [List.length_append]; omega)
  have h4 := dFlG_ok hr ys nx1 o2 nx2 (((((t ++ y.name) ++ (if y.has then [63] else [])) ++ [58]) ++ lText o) ++ [59]) (fun f hf => hk f (List.mem_cons_of_mem _ hf)) e2 (by simp only [List.length_append]; omega)
  rw [List.map_cons, dFlG]
  have e0 : (if y.g.has = true then t ++ y.g.name ++ [63] else t ++ y.g.name) = (t ++ y.name) ++ (if y.has then [63] else []) := by
   show (if y.has = true then t ++ y.name ++ [63] else t ++ y.name) = _
   cases y.has <;> simp
  simp only [Bool.false_eq_true, if_false]
  rw [e0]
  show dFlG recD _ { recD (y.ty : Int) _ with S := (recD (y.ty : Int) _).S ++ [59] } = _
  rw [h3]
  show dFlG recD _ ⟨_, _, _⟩ = _
  rw [h4]
  simp only [List.append_assoc]
theorem dSymG_ok : ∀ (l : List (List UInt8)) (y : List UInt8) (b : Bool) (t : List UInt8), (∀ s ∈ y :: l, WBr s) → (t ++ ((if b then [] else [44]) ++ lText (wSymsT (y :: l)))).length ≤ 4096 →
  dSymG b (y :: l) t = t ++ ((if b then [] else [44]) ++ lText (wSymsT (y :: l)))
 | [], y, b, t, hk, hl => by
  have et : lText (wSymsT [y]) = y := by simp [wSymsT, lText, lt1_plain (hk y List.mem_cons_self).2]
  rw [et] at hl ⊢
  rw [dSymG, if_neg (by simp only [List.length_append] at hl; omega), dSymG]
  cases b <;> simp
 | z :: l, y, b, t, hk, hl => by
  have et : lText (wSymsT (y :: z :: l)) = y ++ ([44] ++ lText (wSymsT (z :: l))) := by
   rw [wSymsT, lT_cons, lt1_plain (hk y List.mem_cons_self).2]
   simp only [List.isEmpty_cons, Bool.false_eq_true, if_false]
   rw [lT_cons, lt1_two]
  rw [et] at hl ⊢
  have hl' := hl
  simp only [List.length_append] at hl'
  have h4 := dSymG_ok l z false (t ++ (if b then [] else [44]) ++ y) (fun s hs => hk s (List.mem_cons_of_mem _ hs)) (by simp only [Bool.false_eq_true, if_false, List.length_append]; omega)
  have e0 : (if b = true then t else t ++ [44]) ++ y = t ++ (if b then [] else [44]) ++ y := by cases b <;> simp
  rw [dSymG, if_neg (by omega), e0, h4]
  simp [List.append_assoc]
end Go.Proofs.YtgigiecdpjchkaaGreatDoor
