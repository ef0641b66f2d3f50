import Derived.Test.YtgigiecdpjchkaaGreatDoorP12
import Derived.Test.YtgigiecdpjchkaaGreatDoorP1
import Derived.Test.YtgigiecdpjchkaaGreatDoorP8
import Derived.Test.YtgigiecdpjchkaaGreatDoorP4
set_option linter.unusedSimpArgs false
set_option linter.unusedVariables false
set_option linter.unusedSectionVars false
set_option maxRecDepth 100000
set_option maxHeartbeats 6400000
namespace Go.Proofs.YtgigiecdpjchkaaGreatDoor
open Go.RowKit
theorem calledI_at {S : List Nd} {x : List UInt8} {j : Nat} {y : Nd} (hj : S[j]? = some y) (hk : 9 ≤ y.k) (hy : y.name = x) (hno : ∀ m z, m < j → S[m]? = some z → ¬(9 ≤ z.k ∧ z.name = x)) : calledI S x = (j : Int) := by
 have hl : j < S.length := (List.getElem?_eq_some_iff.1 hj).1
 have : pCalled S x = some j := by
  unfold pCalled
  rw [List.findIdx?_eq_some_iff_getElem]
  refine ⟨hl, ?_, fun m hm => ?_⟩
  ·rw [List.getElem?_eq_getElem hl, Option.some.injEq] at hj
   rw [hj, decide_eq_true hk, Bool.true_and]; simpa using hy
  ·have := hno m S[m] hm (List.getElem?_eq_getElem (by omega))
   simpa using this
 unfold calledI
 rw [this]
theorem calledI_none {S : List Nd} {x : List UInt8} (hno : ∀ m z, m < S.length → S[m]? = some z → ¬(9 ≤ z.k ∧ z.name = x)) : calledI S x = -1 := by
 have : pCalled S x = none := by
  unfold pCalled
  rw [List.findIdx?_eq_none_iff]
  intro z hz
  obtain ⟨m, hm, rfl⟩ := List.mem_iff_getElem.1 hz
  have := hno m S[m] hm (List.getElem?_eq_getElem hm)
  simpa using this
 unfold calledI
 rw [this]
section
variable {w w1 : World} {b : QB} {s s' : St} {R R' : Ix → Rw}
theorem PS.nd (h : PS w b s) {i : Nat} {x : Nd} (hx : s.N[i]? = some x) : ∃ R g, NR w b.base R s.N ∧ w.cell? ⟨b.pB, 2, none⟩ = some (.slice (some ⟨g, 0, none⟩) s.N.length (R none).c) ∧ (R none).A = some ⟨g, 0, none⟩ ∧ g < w.heap.size ∧
  ∀ j u, (ndRow R i x)[j]? = some u → w.cell? ⟨g, i * 6 + j, none⟩ = some u := by
 obtain ⟨R, hN, _, _, _, p2, _⟩ := h.opn
 obtain ⟨g, hA, hg, _, hc, _⟩ := hN.at_ hx
 rw [hA] at p2
 exact ⟨R, g, hN, p2, hA, hg, hc⟩
theorem pcalled_any (h : PS w b s) (x : List UInt8) :
  Calls Tryz.prog 80 #[.pointer (some ⟨b.pB, 0, none⟩), .string (txt x)] w fun e w' => e = .returned (.int .i64 (calledI s.N x)) ∧ Turn w w' none := by
 have hS := h.ok.few
 obtain ⟨R, hN, _, _, _, p2, _⟩ := h.opn
 go_enter Tryz.func80, Tryz.ntmps80
 go_wp2
 go_loopw [5] (fun i wr => ∃ j : Nat, j ≤ s.N.length ∧ i = .int .i64 (j : Int) ∧ Hid (∀ m z, m < j → s.N[m]? = some z → ¬(9 ≤ z.k ∧ z.name = x)) ∧ wr = w) (fun i _ => (s.N.length - intOf i).toNat)
 case atStart => exact ⟨0, by omega, rfl, hid (fun m x h => absurd h (Nat.not_lt_zero m)), rfl⟩
 case round =>
  obtain ⟨j, hj, rfl, HNO, rfl⟩ := hrel
  by_cases hjn : j < s.N.length
  ·obtain ⟨y, hy⟩ : ∃ y, s.N[j]? = some y := ⟨s.N[j], List.getElem?_eq_getElem hjn⟩
   obtain ⟨g, hA, hgl, _, hc, _⟩ := hN.at_ hy
   have c0 : wr.cell? ⟨g, j * 6, none⟩ = some (.int .i64 (y.k : Int)) := hc 0 _ rfl
   have c1 : wr.cell? ⟨g, j * 6 + 1, none⟩ = some (.string (txt y.name)) := hc 1 _ rfl
   have HY := hid hy
   clear hy hc
   rw [hA] at p2
   have next (hno : ¬(9 ≤ y.k ∧ y.name = x)) : Hid (∀ m z, m < j + 1 → s.N[m]? = some z → ¬(9 ≤ z.k ∧ z.name = x)) := hid (fun m z hm hz => by
    rcases Nat.lt_or_ge m j with h | h
    ·exact HNO.out m z h hz
    ·obtain rfl : m = j := by omega
     rw [HY.out, Option.some.injEq] at hz
     rw [← hz]
     exact hno)
   have HNX := hid next
   clear next
   by_cases hk : 9 ≤ y.k
   ·have l1 : (9 : Int) ≤ (y.k : Int) := by omega
    by_cases hxy : y.name = x
    ·have e1 : ((txt y.name).toList == (txt x).toList) = true := by rw [tx_beq]; simpa using hxy
     have HX := hid (calledI_at HY.out hk hxy HNO.out)
     clear hxy
     go_wp2
     go_ret
     exact ⟨by rw [HX.out]; rfl, Turn.refl _ _⟩
    ·have e1 : ((txt y.name).toList == (txt x).toList) = false := by rw [tx_beq]; simpa using hxy
     have HX := HNX.out (fun q => hxy q.2)
     clear hxy
     go_wp2
     refine ⟨⟨j + 1, by omega, by go_num, HX, ?_⟩, by simp [intOf]; omega⟩; first | rfl | trivial
   ·have l1 : ¬((9 : Int) ≤ (y.k : Int)) := by omega
    have HX := HNX.out (fun q => hk q.1)
    clear hk
    go_wp2
    refine ⟨⟨j + 1, by omega, by go_num, HX, ?_⟩, by simp [intOf]; omega⟩; first | rfl | trivial
  ·obtain rfl : j = s.N.length := by omega
   have HX := hid (calledI_none HNO.out)
   go_wp2
   go_ret
   exact ⟨by rw [HX.out]; rfl, Turn.refl _ _⟩
def smB (N : List Nd) (k n : Int) (i : Nat) : Bool := decide ((i : Int) = n) || (decide (0 ≤ k) && decide (k < 9) && decide (kindAt N i = some k.toNat))
theorem psame_any (h : PS w b s) (A : Option Addr) (c B : Nat) (l : List Nat) (k n : Int) (hr : Rd w B 1 A l.length (vis (l.map Int.ofNat))) (hl : l.length ≤ 1000000) (hi : ∀ i ∈ l, i < s.N.length) (hB : B ≤ w.heap.size) :
  Calls Tryz.prog 81 #[.pointer (some ⟨b.pB, 0, none⟩), .slice A l.length c, .int .i64 k, .int .i64 n] w fun e w' => e = .returned (.bool (mSame s.N l k n)) ∧ Turn w w' none := by
 have hS := h.ok.few
 have hm0 : mSame s.N l k n = l.any (smB s.N k n) := rfl
 rw [hm0]
 clear hm0
 obtain ⟨R, hN, _, _, _, p2, _⟩ := h.opn
 go_enter Tryz.func81, Tryz.ntmps81
 go_wp2
 go_loopw [9] (fun i wr => ∃ j : Nat, j ≤ l.length ∧ i = .int .i64 (j : Int) ∧ Hid (∀ q i, q < j → l[q]? = some i → smB s.N k n i = false) ∧ Turn w wr none) (fun i _ => (l.length - intOf i).toNat)
 case atStart => exact ⟨0, by omega, rfl, hid (fun m x h => absurd h (Nat.not_lt_zero m)), Turn.refl w none⟩
 case round =>
  obtain ⟨j, hj, rfl, HNO, hTr⟩ := hrel
  have hN := hN.turn0 hTr
  have hr := hr.turn0 hTr hB
  have p2 := (hTr.cell (a := ⟨b.pB, 2, none⟩) (World.block_lt_of_cell? w _ p2) (by simp)).trans p2
  by_cases hjn : j < l.length
  ·obtain ⟨i, hi'⟩ : ∃ i, l[j]? = some i := ⟨l[j], List.getElem?_eq_getElem hjn⟩
   have hiS := hi i (List.mem_of_getElem? hi')
   obtain ⟨y, hy⟩ : ∃ y, s.N[i]? = some y := ⟨s.N[i], List.getElem?_eq_getElem hiS⟩
   obtain ⟨bb, off, hAi, _, hci⟩ := hr.head (by omega)
   have cj : wr.cell? ⟨bb, off + j, none⟩ = some (.int .i64 (i : Int)) := hci j _ (vis_at (n := (i : Int)) (by rw [List.getElem?_map, hi']; rfl))
   obtain ⟨g3, hA3, _, _, hc3, _⟩ := hN.at_ hy
   have d0 : wr.cell? ⟨g3, i * 6, none⟩ = some (.int .i64 (y.k : Int)) := hc3 0 _ rfl
   have HB := hid (show smB s.N k n i = (decide ((i : Int) = n) || (decide (0 ≤ k) && decide (k < 9) && decide (y.k = k.toNat))) by unfold smB kindAt; rw [hy]; simp)
   have HI := hid hi'
   clear hi' hy hci hc3 hr
   rw [hA3] at p2
   have next (hno : smB s.N k n i = false) : Hid (∀ q i, q < j + 1 → l[q]? = some i → smB s.N k n i = false) := hid (fun q i' hq hi'' => by
    rcases Nat.lt_or_ge q j with h | h
    ·exact HNO.out q i' h hi''
    ·obtain rfl : q = j := by omega
     rw [HI.out, Option.some.injEq] at hi''
     rw [← hi'']
     exact hno)
   have HNX := hid next
   clear next hi
   subst hAi
   by_cases hn : (i : Int) = n
   ·have H := hid (any_at HI.out (HB.out.trans (by rw [decide_eq_true hn, Bool.true_or])))
    have e1 : ((i : Int) == n) = true := by rw [beq_iff_eq]; exact hn
    clear hn
    go_wp2_with (fail)
    go_quiet (fail)
    go_wp2
    go_ret
    exact ⟨by rw [H.out]; rfl, hTr.drewN nq⟩
   ·have hnn : ((i : Int) == n) = false := by rw [beq_eq_false_iff_ne]; exact hn
    by_cases hk0 : 0 ≤ k
    ·by_cases hk9 : k < 9
     ·by_cases hyk : y.k = k.toNat
      ·have H := hid (any_at HI.out (HB.out.trans (by rw [decide_eq_true hk0, decide_eq_true hk9, decide_eq_true hyk, Bool.and_self, Bool.and_self, Bool.or_true])))
       have e1 : ((y.k : Int) == k) = true := by rw [beq_iff_eq]; omega
       clear hn hyk
       go_wp2_with (fail)
       go_quiet (fail)
       go_wp2
       go_ret
       exact ⟨by rw [H.out]; rfl, hTr.drewN nq⟩
      ·have e1 : ((y.k : Int) == k) = false := by rw [beq_eq_false_iff_ne]; omega
       have H := HNX.out (HB.out.trans (by rw [decide_eq_false hn, decide_eq_false hyk, Bool.and_false, Bool.false_or]))
       clear hn hyk
       go_wp2_with (fail)
       go_quiet (fail)
       go_wp2
       exact ⟨⟨j + 1, by omega, by go_num, H, hTr.drewN nq⟩, by simp [intOf]; omega⟩
     ·have d9 : decide (k < 9) = false := decide_eq_false hk9
      have d0 : decide (0 ≤ k) = true := decide_eq_true hk0
      have H := HNX.out (HB.out.trans (by rw [decide_eq_false hn, decide_eq_false hk9, Bool.and_false, Bool.false_and, Bool.false_or]))
      clear hn
      go_wp2_with (fail)
      refine wp_region_noPanic ?_
      refine wp_region_held_drew (S := (fun W => W.cell? ⟨bb, off + j, none⟩ = some (.int .i64 (i : Int)))) (by kernel_rfl) (cj) (fun hHeld => ?_)
      (first | refine tkN 0 ?_ | refine tkY 0 _ ?_); (try simp only [Act.put, zs])
      (first | refine tkN 1 ?_ | refine tkY 1 _ ?_); (try simp only [Act.put, zs])
      (first | refine tkN 2 ?_ | refine tkY 2 _ ?_); (try simp only [Act.put, zs])
      (first | refine tkN 3 ?_ | refine tkY 3 _ ?_); (try simp only [Act.put, zs])
      (first | refine tkN 4 ?_ | refine tkY 4 _ ?_); (try simp only [Act.put, zs])
      (first | refine tkN 5 ?_ | refine tkY 5 _ ?_); (try simp only [Act.put, zs])
      (first | refine tkN 6 ?_ | refine tkY 6 _ ?_); (try simp only [Act.put, zs])
      (first | refine tkN 7 ?_ | refine tkY 7 _ ?_); (try simp only [Act.put, zs])
      (first | refine tkN 8 ?_ | refine tkY 8 _ ?_); (try simp only [Act.put, zs])
      (first | refine tkN 9 ?_ | refine tkY 9 _ ?_); (try simp only [Act.put, zs])
      (first | refine tkN 10 ?_ | refine tkY 10 _ ?_); (try simp only [Act.put, zs])
      (first | refine tkN 11 ?_ | refine tkY 11 _ ?_); (try simp only [Act.put, zs])
      (first | refine tkN 12 ?_ | refine tkY 12 _ ?_); (try simp only [Act.put, zs])
      (first | refine tkN 13 ?_ | refine tkY 13 _ ?_); (try simp only [Act.put, zs])
      (first | refine tkN 14 ?_ | refine tkY 14 _ ?_); (try simp only [Act.put, zs])
      (first | refine tkN 15 ?_ | refine tkY 15 _ ?_); (try simp only [Act.put, zs])
      (first | refine tkN 16 ?_ | refine tkY 16 _ ?_); (try simp only [Act.put, zs])
      (first | refine tkN 17 ?_ | refine tkY 17 _ ?_); (try simp only [Act.put, zs])
      (first | refine tkN 18 ?_ | refine tkY 18 _ ?_); (try simp only [Act.put, zs])
      (first | refine tkN 19 ?_ | refine tkY 19 _ ?_); (try simp only [Act.put, zs])
      (first | refine tkN 20 ?_ | refine tkY 20 _ ?_); (try simp only [Act.put, zs])
      (first | refine tkN 21 ?_ | refine tkY 21 _ ?_); (try simp only [Act.put, zs])
      (first | refine tkN 22 ?_ | refine tkY 22 _ ?_); (try simp only [Act.put, zs])
      (first | refine tkN 23 ?_ | refine tkY 23 _ ?_); (try simp only [Act.put, zs])
      (first | refine tkN 24 ?_ | refine tkY 24 _ ?_); (try simp only [Act.put, zs])
      (first | refine tkN 25 ?_ | refine tkY 25 _ ?_); (try simp only [Act.put, zs])
      (first | refine tkN 26 ?_ | refine tkY 26 _ ?_); (try simp only [Act.put, zs])
      (first | refine tkN 27 ?_ | refine tkY 27 _ ?_); (try simp only [Act.put, zs])
      (first | refine tkN 28 ?_ | refine tkY 28 _ ?_); (try simp only [Act.put, zs])
      refine wpAnyH_done (by kernel_rfl) ?_ _
      refine NoPanic.normal ?_
      clear hHeld
      go_wp2
      exact ⟨⟨j + 1, by omega, by go_num, H, hTr.drew⟩, by simp [intOf]; omega⟩
    ·have d0 : decide (0 ≤ k) = false := decide_eq_false hk0
     have H := HNX.out (HB.out.trans (by rw [decide_eq_false hn, decide_eq_false hk0, Bool.false_and, Bool.false_and, Bool.false_or]))
     clear hn
     go_wp2_with (fail)
     refine wp_region_noPanic ?_
     refine wp_region_held_drew (S := (fun W => W.cell? ⟨bb, off + j, none⟩ = some (.int .i64 (i : Int)))) (by kernel_rfl) (cj) (fun hHeld => ?_)
     (first | refine tkN 0 ?_ | refine tkY 0 _ ?_); (try simp only [Act.put, zs])
     (first | refine tkN 1 ?_ | refine tkY 1 _ ?_); (try simp only [Act.put, zs])
     (first | refine tkN 2 ?_ | refine tkY 2 _ ?_); (try simp only [Act.put, zs])
     (first | refine tkN 3 ?_ | refine tkY 3 _ ?_); (try simp only [Act.put, zs])
     (first | refine tkN 4 ?_ | refine tkY 4 _ ?_); (try simp only [Act.put, zs])
     (first | refine tkN 5 ?_ | refine tkY 5 _ ?_); (try simp only [Act.put, zs])
     (first | refine tkN 6 ?_ | refine tkY 6 _ ?_); (try simp only [Act.put, zs])
     (first | refine tkN 7 ?_ | refine tkY 7 _ ?_); (try simp only [Act.put, zs])
     (first | refine tkN 8 ?_ | refine tkY 8 _ ?_); (try simp only [Act.put, zs])
     (first | refine tkN 9 ?_ | refine tkY 9 _ ?_); (try simp only [Act.put, zs])
     (first | refine tkN 10 ?_ | refine tkY 10 _ ?_); (try simp only [Act.put, zs])
     (first | refine tkN 11 ?_ | refine tkY 11 _ ?_); (try simp only [Act.put, zs])
     (first | refine tkN 12 ?_ | refine tkY 12 _ ?_); (try simp only [Act.put, zs])
     (first | refine tkN 13 ?_ | refine tkY 13 _ ?_); (try simp only [Act.put, zs])
     (first | refine tkN 14 ?_ | refine tkY 14 _ ?_); (try simp only [Act.put, zs])
     (first | refine tkN 15 ?_ | refine tkY 15 _ ?_); (try simp only [Act.put, zs])
     (first | refine tkN 16 ?_ | refine tkY 16 _ ?_); (try simp only [Act.put, zs])
     (first | refine tkN 17 ?_ | refine tkY 17 _ ?_); (try simp only [Act.put, zs])
     (first | refine tkN 18 ?_ | refine tkY 18 _ ?_); (try simp only [Act.put, zs])
     (first | refine tkN 19 ?_ | refine tkY 19 _ ?_); (try simp only [Act.put, zs])
     (first | refine tkN 20 ?_ | refine tkY 20 _ ?_); (try simp only [Act.put, zs])
     (first | refine tkN 21 ?_ | refine tkY 21 _ ?_); (try simp only [Act.put, zs])
     (first | refine tkN 22 ?_ | refine tkY 22 _ ?_); (try simp only [Act.put, zs])
     (first | refine tkN 23 ?_ | refine tkY 23 _ ?_); (try simp only [Act.put, zs])
     (first | refine tkN 24 ?_ | refine tkY 24 _ ?_); (try simp only [Act.put, zs])
     (first | refine tkN 25 ?_ | refine tkY 25 _ ?_); (try simp only [Act.put, zs])
     (first | refine tkN 26 ?_ | refine tkY 26 _ ?_); (try simp only [Act.put, zs])
     (first | refine tkN 27 ?_ | refine tkY 27 _ ?_); (try simp only [Act.put, zs])
     (first | refine tkN 28 ?_ | refine tkY 28 _ ?_); (try simp only [Act.put, zs])
     refine wpAnyH_done (by kernel_rfl) ?_ _
     refine NoPanic.normal ?_
     clear hHeld
     go_wp2
     exact ⟨⟨j + 1, by omega, by go_num, H, hTr.drew⟩, by simp [intOf]; omega⟩
  ·obtain rfl : j = l.length := by omega
   have H := hid (any_none HNO.out)
   go_wp2
   go_ret
   exact ⟨by rw [H.out]; rfl, hTr⟩
end
open Go.RowKit
section
variable {w w' w1 : World} {b : QB} {s : St} {R R' : Ix → Rw} {S' : List Nd}
theorem PS.opo (h : PS w b s) : ∃ R, NR w b.base R s.N ∧ Blk w b.pB 86 (psCells b R s).toArray ∧ w.cell? ⟨b.pB, 2, none⟩ = some (.slice (R none).A s.N.length (R none).c) ∧ Offs b R := by
 obtain ⟨R, h1, h2, h3⟩ := h.mem
 refine ⟨R, h1, h2, (h2.cell 2).trans ?_, h3⟩
 show some (Value.slice (R none).A (R none).n (R none).c) = _
 rw [h1.len]
theorem offs_none {r : Rw} (h : Offs b R) (hr : blk r.A = blk (R none).A) : Offs b (upd R none r) := fun i g hg => by
 by_cases hi : i = none
 ·subst hi; rw [upd_same, hr]; exact h none g hg
 ·rw [upd_other _ _ hi]; exact h i g hg
theorem offs_upd {r : Rw} {k : Ix} (h : Offs b R) (hw : Bd b w) (hr : blk r.A = blk (R k).A ∨ ∃ q, blk r.A = some q ∧ w.heap.size ≤ q) : Offs b (upd R k r) := fun i g hg => by
 by_cases hi : i = k
 ·subst hi
  rw [upd_same]
  rcases hr with hr | ⟨q, hr, hq⟩
  ·rw [hr]; exact h i g hg
  ·rw [hr]
   intro e
   injection e with e
   have := hw.2 g hg
   omega
 ·rw [upd_other _ _ hi]; exact h i g hg
theorem PS.renew (h : PS w b s) (f : Fq b w w') (hN : NR w' b.base R' S') (hO : Offs b R') (hrb : Blk w' b.pB 86 (psCells b R s).toArray) (hok : NOk S' (s.at_ + 1)) (v : Value) (hv : v = (R' none).v) :
  PS (w'.setCell ⟨b.pB, 2, none⟩ v) b { s with N := S' } ∧ Fq b w (w'.setCell ⟨b.pB, 2, none⟩ v) := by
 subst hv
 have f2 := Fq.own hrb h.hb (Blk.setTurn w' b.pB 2 (R' none).v) (h.hw.mono f.size) h.outs
 have hbl := f.1.trans f2.1
 refine ⟨⟨h.hb, h.hw.mono hbl.size, h.outs, h.toks.below hbl, h.tok, h.few, h.brief, h.hc, h.at_, hok, R', hN.turn hrb ty_P (Blk.setTurn _ _ _ _), ?_, hO⟩, f.trans f2⟩
 have := hrb.set_ 2 (R' none).v
 simpa [psCells] using this
theorem PS.keep (h : PS w b s) (f : Fq b w w') (hN : NR w' b.base R' S') (hO : Offs b R') (hrb : Blk w' b.pB 86 (psCells b R' { s with N := S' }).toArray) (hok : NOk S' (s.at_ + 1)) : PS w' b { s with N := S' } :=
 ⟨h.hb, h.hw.mono f.size, h.outs, h.toks.below f.1, h.tok, h.few, h.brief, h.hc, h.at_, hok, R', hN, hrb, hO⟩
theorem PS.scalar (h : PS w b s) {i jj g n' c' : Nat} {x : Nd} {u : Value} {gg : Nd → Nd} (hx : s.N[i]? = some x) (hj : jj < 3) (hrow : ∀ R, (ndRow R i x).set jj u = ndRow R i (gg x)) (hs : (gg x).syms = x.syms) (hi : (gg x).items = x.items) (hf : (gg x).fields = x.fields)
  (hk : (gg x).k < 9 → (gg x).name = []) (hg : w.cell? ⟨b.pB, 2, none⟩ = some (.slice (some ⟨g, 0, none⟩) n' c')) : PS (w.setCell ⟨g, i * 6 + jj, none⟩ u) b (s.mod i gg) ∧ Fq b w (w.setCell ⟨g, i * 6 + jj, none⟩ u) := by
 obtain ⟨R, hN, hrb, p2, hO⟩ := h.opo
 rw [hg, Option.some.injEq, Value.slice.injEq] at p2
 have hA : (R none).A = some ⟨g, 0, none⟩ := p2.1.symm
 have ho := hN.own
 rw [hA] at ho
 have f : Fq b w (w.setCell ⟨g, i * 6 + jj, none⟩ u) := Fq.row (A := some ⟨g, 0, none⟩) ho (.inl rfl) (ho.storeTurn _ _) h.hw (by rw [← hA]; exact hO none)
 have hN2 := hN.scalar (gg := gg) hx hA hj (hrow R) hs hi hf
 have hrb2 := hrb.turn (ho.storeTurn (i * 6 + jj) u) (fun e => hN.off hrb ty_P none (by rw [hA]; exact e.symm))
 have hsm := h.ok.small x (List.mem_of_getElem? hx)
 refine ⟨h.keep (S' := s.N.modify i gg) f hN2 (offs_none hO (by rw [hA])) ?_ (h.ok.mod hx (Nat.le_refl _) hk (by rw [hs, hi, hf]; exact hsm) (by rw [hi]; exact h.ok.inn x (List.mem_of_getElem? hx))), f⟩
 have e : psCells b (upd R none ⟨64, 6, some ⟨g, 0, none⟩, s.N.length, (R none).c, ndCells R 0 (s.N.modify i gg)⟩) { s with N := s.N.modify i gg } = psCells b R s := by
  unfold psCells
  rw [upd_same]
  unfold Rw.v
  rw [hA, hN.len]
 rw [e]
 exact hrb2
theorem PS.ne (h : PS w b s) {g n' c' g2 : Nat} {t : TypeId} {cs : Array Value} (hg : w.cell? ⟨b.pB, 2, none⟩ = some (.slice (some ⟨g, 0, none⟩) n' c')) (hB : Blk w g2 t cs) (ht : t ≠ 64 ∧ t ≠ 9 ∧ t ≠ 3 ∧ t ≠ 119) : g ≠ g2 := by
 obtain ⟨R, hN, _, _, _, p2, _⟩ := h.opn
 rw [hg, Option.some.injEq, Value.slice.injEq] at p2
 intro e
 exact hN.off hB ht none (by rw [← p2.1, e]; rfl)
theorem PS.fz (h : PS w b s) {i g n' c' : Nat} {x : Nd} (hx : s.N[i]? = some x) (hg : w.cell? ⟨b.pB, 2, none⟩ = some (.slice (some ⟨g, 0, none⟩) n' c')) (j : Nat) : w.frozen? ⟨g, j, none⟩ = false := by
 obtain ⟨R, hN, _, _, _, p2, _⟩ := h.opn
 rw [hg, Option.some.injEq, Value.slice.injEq] at p2
 obtain ⟨g', hg', _, _, _, hz⟩ := hN.at_ hx
 rw [← p2.1] at hg'
 injection hg' with hg'
 injection hg' with hg'
 subst hg'
 exact hz j
theorem PS.slot (h : PS w b s) (hN : NR w b.base R s.N) (hO : Offs b R) (hrb : Blk w b.pB 86 (psCells b R s).toArray) {i j g : Nat} {x : Nd} {gg : Nd → Nd} (hx : s.N[i]? = some x) (hA : (R none).A = some ⟨g, 0, none⟩) (hj : j < 3) {r : Rw} (ho : r.own w1 b.base)
  (ht : Turn w w1 (blk (R (some (i, j))).A)) (hb : blk r.A = blk (R (some (i, j))).A ∨ ∃ q, blk r.A = some q ∧ w.heap.size ≤ q) (hty : r.E = 9 ∨ r.E = 3 ∨ r.E = 119) (hk : (gg x).k = x.k ∧ (gg x).name = x.name ∧ (gg x).size = x.size)
  (h0 : Sh (if j = 0 then r else R (some (i, 0))) 9 1 (gg x).syms.length (vss (gg x).syms)) (h1 : Sh (if j = 1 then r else R (some (i, 1))) 3 1 (gg x).items.length (vis ((gg x).items.map Int.ofNat)))
  (h2 : Sh (if j = 2 then r else R (some (i, 2))) 119 3 (gg x).fields.length (vfs ((gg x).fields.map Fl.g))) (hok : NOk (s.N.modify i gg) (s.at_ + 1)) :
  PS (w1.setCell ⟨g, i * 6 + (3 + j), none⟩ r.v) b (s.mod i gg) ∧ Fq b w (w1.setCell ⟨g, i * 6 + (3 + j), none⟩ r.v) := by
 have hR : NdTy (R (some (i, j))).E := hN.ty _
 have f1 : Fq b w w1 := Fq.row (hN.aps.own (some (i, j))) hR ht h.hw (hO _)
 have hN2 := hN.slot (gg := gg) hx hA hj ho ht hb hty hk h0 h1 h2
 have hne : blk (R (some (i, j))).A = none ∨ blk (R none).A ≠ blk (R (some (i, j))).A := by
  cases hq : blk (R (some (i, j))).A with
  | none => exact .inl rfl
  | some q => exact .inr fun e => hN.aps.off none (some (i, j)) (by simp) q e hq
 have hown : Own w1 b.base 64 6 (some ⟨g, 0, none⟩) s.N.length (R none).c (ndCells R 0 s.N) := by
  have := hN.own
  rw [hA] at this
  refine Own.turn this ht (hne.imp id fun e => ?_)
  rw [← hA]; exact e
 have f2 : Fq b w1 (w1.setCell ⟨g, i * 6 + (3 + j), none⟩ r.v) := Fq.row (A := some ⟨g, 0, none⟩) hown (.inl rfl) (hown.storeTurn _ _) (h.hw.mono ht.size) (by rw [← hA]; exact hO none)
 have hrb1 := hrb.turn ht (fun e => hN.off hrb ty_P (some (i, j)) e.symm)
 have hrb2 := hrb1.turn (hown.storeTurn (i * 6 + (3 + j)) r.v) (fun e => hN.off hrb ty_P none (by rw [hA]; exact e.symm))
 refine ⟨h.keep (S' := s.N.modify i gg) (f1.trans f2) hN2 (offs_none (offs_upd hO h.hw hb) (by rw [upd_other _ _ (by simp), hA])) ?_ hok, f1.trans f2⟩
 have e : psCells b (upd (upd R (some (i, j)) r) none ⟨64, 6, some ⟨g, 0, none⟩, s.N.length, (R none).c, ndCells (upd R (some (i, j)) r) 0 (s.N.modify i gg)⟩) { s with N := s.N.modify i gg } = psCells b R s := by
  unfold psCells
  rw [upd_same]
  unfold Rw.v
  rw [hA, hN.len]
 rw [e]
 exact hrb2
theorem PS.push (h : PS w b s) (hN : NR w b.base R s.N) (hO : Offs b R) (hrb : Blk w b.pB 86 (psCells b R s).toArray) (hS : s.N.length < 200) (k : Nat) {A : Option Addr} {c : Nat} (ho : Own w1 b.base 64 6 A (s.N.length + 1) c (ndCells R 0 s.N ++ ndZ k))
  (ht : Turn w w1 (blk (R none).A)) (hb : blk A = blk (R none).A ∨ blk A = some w.heap.size) :
  PS (w1.setCell ⟨b.pB, 2, none⟩ (.slice A (s.N.length + 1) c)) b { s with N := s.N ++ [Nd.of k] } ∧ Fq b w (w1.setCell ⟨b.pB, 2, none⟩ (.slice A (s.N.length + 1) c)) := by
 have hN2 := hN.push k ho ht hb
 have f1 : Fq b w w1 := Fq.row (hN.aps.own none) (hN.ty _) ht h.hw (hO _)
 have hrb1 := hrb.turn ht (fun e => hN.off hrb ty_P none e.symm)
 exact h.renew f1 hN2 (offs_upd hO h.hw (hb.imp id fun e => ⟨_, e, Nat.le_refl _⟩)) hrb1 (h.ok.push hS k) _ (by rw [upd_same]; rfl)
structure QdAt (w : World) (b : QB) (s : St) (R : Ix → Rw) (g i : Nat) (x : Nd) : Prop where
 hN : NR w b.base R s.N
 hO : Offs b R
 hrb : Blk w b.pB 86 (psCells b R s).toArray
 p2 : w.cell? ⟨b.pB, 2, none⟩ = some (.slice (some ⟨g, 0, none⟩) s.N.length (R none).c)
 hA : (R none).A = some ⟨g, 0, none⟩
 n0 : w.cell? ⟨g, i * 6, none⟩ = some (.int .i64 (x.k : Int))
 n1 : w.cell? ⟨g, i * 6 + 1, none⟩ = some (.string (txt x.name))
 n2 : w.cell? ⟨g, i * 6 + 2, none⟩ = some (.int .i64 (x.size : Int))
 n3 : w.cell? ⟨g, i * 6 + 3, none⟩ = some (.slice (R (some (i, 0))).A x.syms.length (R (some (i, 0))).c)
 n4 : w.cell? ⟨g, i * 6 + 4, none⟩ = some (.slice (R (some (i, 1))).A x.items.length (R (some (i, 1))).c)
 n5 : w.cell? ⟨g, i * 6 + 5, none⟩ = some (.slice (R (some (i, 2))).A x.fields.length (R (some (i, 2))).c)
 fz : ∀ j, w.frozen? ⟨g, j, none⟩ = false
 ne : g ≠ b.pB
theorem PS.ndAt (h : PS w b s) {i : Nat} {x : Nd} (hx : s.N[i]? = some x) : ∃ R g, QdAt w b s R g i x := by
 obtain ⟨R, hN, hrb, p2, hO⟩ := h.opo
 obtain ⟨g, hA, hg, _, hc, hz⟩ := hN.at_ hx
 rw [hA] at p2
 refine ⟨R, g, hN, hO, hrb, p2, hA, hc 0 _ rfl, hc 1 _ rfl, hc 2 _ rfl, (hc 3 _ rfl).trans ?_, (hc 4 _ rfl).trans ?_, (hc 5 _ rfl).trans ?_, hz, h.ne p2 hrb ty_P⟩
 ·show some (Value.slice _ (R (some (i, 0))).n _) = _
  rw [(hN.syms i x hx).2.2.1]
 ·show some (Value.slice _ (R (some (i, 1))).n _) = _
  rw [(hN.items i x hx).2.2.1]
 ·show some (Value.slice _ (R (some (i, 2))).n _) = _
  rw [(hN.fields i x hx).2.2.1]
theorem QdAt.q1 {i g : Nat} {x : Nd} (h : QdAt w b s R g i x) (j : Nat) : some b.pB ≠ blk (R (some (i, j))).A := fun e => h.hN.off h.hrb ty_P _ e.symm
theorem QdAt.q2 {i g : Nat} {x : Nd} (h : QdAt w b s R g i x) (j : Nat) : some g ≠ blk (R (some (i, j))).A := fun e => h.hN.aps.off none (some (i, j)) (by simp) g (by rw [h.hA]; rfl) e.symm
theorem QdAt.q3 {i g g2 : Nat} {x : Nd} {cs : Array Value} {t : TypeId} (h : QdAt w b s R g i x) (j : Nat) (hb : Blk w g2 t cs) (ht : t ≠ 64 ∧ t ≠ 9 ∧ t ≠ 3 ∧ t ≠ 119) : some g2 ≠ blk (R (some (i, j))).A := fun e => h.hN.off hb ht _ e.symm
def QB.add (b : QB) (g : Nat) : QB := { b with out := g :: b.out }
theorem PS.add (h : PS w b s) (ht : Turn w w' none) {g : Nat} (hg : w.heap.size ≤ g) (hl : g < w'.heap.size) : PS w' (b.add g) s := by
 obtain ⟨R, h1, h2, h3⟩ := h.mem
 have hp := h2.lt
 have k := h.turn0 ht
 refine ⟨k.hb, ⟨k.hw.1, fun q hq => ?_⟩, fun q hq => ?_, k.toks, k.tok, k.few, k.brief, k.hc, k.at_, k.ok, R, h1.turn0 ht, h2.turn0 ht, fun i q hq => ?_⟩
 ·rcases List.mem_cons.1 hq with rfl | hq
  ·exact hl
  ·exact k.hw.2 q hq
 ·rcases List.mem_cons.1 hq with rfl | hq
  ·intro e
   have e2 : q = b.pB := e
   omega
  ·exact k.outs q hq
 ·rcases List.mem_cons.1 hq with rfl | hq
  ·intro e; have := (h1.aps.lt i e).2; omega
  ·exact h3 i q hq
theorem PS.drop {g : Nat} (h : PS w (b.add g) s) : PS w b s := by
 obtain ⟨R, h1, h2, h3⟩ := h.mem
 exact ⟨h.hb, ⟨h.hw.1, fun q hq => h.hw.2 q (List.mem_cons_of_mem _ hq)⟩, fun q hq => h.outs q (List.mem_cons_of_mem _ hq), h.toks, h.tok, h.few, h.brief, h.hc, h.at_, h.ok, R, h1, h2, fun i q hq => h3 i q (List.mem_cons_of_mem _ hq)⟩
theorem Fq.drop {g : Nat} (h : Fq (b.add g) w w') : Fq b w w' := ⟨h.1, h.2.1, fun q hq => h.2.2 q (List.mem_cons_of_mem _ hq)⟩
theorem PS.turnO (h : PS w b s) {g : Nat} (hg : g ∈ b.out) (hb : b.base ≤ g) (ht : Turn w w' (some g)) : PS w' b s := by
 obtain ⟨R, h1, h2, h3⟩ := h.mem
 have hbl : Below b.base w w' := below_turn ht h.hw.1 hb
 exact ⟨h.hb, h.hw.mono ht.size, h.outs, h.toks.below hbl, h.tok, h.few, h.brief, h.hc, h.at_, h.ok, R, ⟨h1.aps.turn ht (fun i => h3 i g hg), h1.arr, h1.syms, h1.items, h1.fields, h1.far, h1.ty⟩, h2.turn ht (fun e => h.outs g hg (by injection e with e; exact e.symm)), h3⟩
theorem Fq.turnNew {g : Nat} (h : Fq b w w') (k : Turn w' w1 (some g)) (hb : Bd b w) (hg : w.heap.size ≤ g) : Fq b w w1 :=
 ⟨h.1.trans (below_turn k (Nat.le_trans hb.1 h.size) (Nat.le_trans hb.1 hg)), fun g' t cs hB a1 a2 a3 a4 a5 => (h.2.1 g' t cs hB a1 a2 a3 a4 a5).turn k (by intro e; injection e with e; have := hB.lt; omega),
  fun g' hg' => (k.block g' (Nat.lt_of_lt_of_le (hb.2 g' hg') h.size) (by intro e; injection e with e; have := hb.2 g' hg'; omega)).trans (h.2.2 g' hg')⟩
end
def Up (m : Nat) (s s' : St) : Prop := s.at_ ≤ s'.at_ ∧ s.N.length ≤ s'.N.length ∧ ∀ i, i < m → s'.N[i]? = s.N[i]?
section
variable {T : List Tok} {s s' s'' : St} {m n : Nat}
theorem Up.refl (m : Nat) (s : St) : Up m s s := ⟨Nat.le_refl _, Nat.le_refl _, fun _ _ => rfl⟩
theorem Up.trans (h : Up m s s') (k : Up m s' s'') : Up m s s'' := ⟨Nat.le_trans h.1 k.1, Nat.le_trans h.2.1 k.2.1, fun i hi => (k.2.2 i hi).trans (h.2.2 i hi)⟩
theorem Up.mono (h : Up m s s') (hn : n ≤ m) : Up n s s' := ⟨h.1, h.2.1, fun i hi => h.2.2 i (by omega)⟩
theorem mBad_N (is : Bool) (e : Nat) (s : St) : (mBad T is e s).N = s.N ∧ (mBad T is e s).at_ = s.at_ := by unfold mBad; split <;> exact ⟨rfl, rfl⟩
theorem mOn_N (s : St) : (mOn T s).N = s.N ∧ (mOn T s).why = s.why ∧ s.at_ ≤ (mOn T s).at_ := by
 unfold mOn; split
 ·exact ⟨rfl, rfl, Nat.le_succ _⟩
 ·exact ⟨rfl, rfl, Nat.le_refl _⟩
theorem up_bad (is : Bool) (e : Nat) : Up m s (mBad T is e s) := by
 obtain ⟨h1, h2⟩ := mBad_N (T := T) is e s
 exact ⟨by rw [h2]; exact Nat.le_refl _, by rw [h1]; exact Nat.le_refl _, fun i _ => by rw [h1]⟩
theorem up_on : Up m s (mOn T s) := by
 obtain ⟨h1, _, h2⟩ := mOn_N (T := T) s
 exact ⟨h2, by rw [h1]; exact Nat.le_refl _, fun i _ => by rw [h1]⟩
theorem mSg_N (x : List UInt8) (s : St) : (mSg T x s).N = s.N := by unfold mSg; rw [(mOn_N _).1, (mBad_N _ _ _).1]
theorem mNm_N (s : St) : (mNm T s).N = s.N ∧ (mNm T s).at_ = s.at_ := mBad_N _ _ _
theorem up_sg (x : List UInt8) : Up m s (mSg T x s) := (up_bad _ _).trans up_on
theorem up_nm : Up m s (mNm T s) := up_bad _ _
theorem up_mod (g : Nd → Nd) (h : m ≤ n) : Up m s (s.mod n g) := ⟨Nat.le_refl _, by show _ ≤ (s.N.modify n g).length; rw [List.length_modify]; exact Nat.le_refl _, fun i hi => by
 show (s.N.modify n g)[i]? = _
 rw [List.getElem?_modify]
 have hne : ¬n = i := by omega
 cases s.N[i]? <;> simp [hne]⟩
def RUp (rec : MRd) : Prop := ∀ s, Up s.N.length s (rec s).2
theorem up_one {rec : MRd} (hr : RUp rec) (shut : List UInt8) (h : m ≤ n) (hs : m ≤ s.N.length) : Up m s (mOne T rec n shut s) := by
 unfold mOne
 exact (((hr s).mono hs).trans (up_mod _ h)).trans (up_sg _)
theorem up_allS {rec : List Nat → MRd} (hr : ∀ u, RUp (rec u)) (h : m ≤ n) (hs : m ≤ s.N.length) : Up m s (mAllS rec n s) := by
 unfold mAllS
 exact ((hr _ s).mono hs).trans (up_mod _ h)
theorem up_all {rec : List Nat → MRd} (hr : ∀ u, RUp (rec u)) (h : m ≤ n) : ∀ (g : Nat) (s : St), m ≤ s.N.length → Up m s (mAll T rec n g s)
 | 0, s, _ => Up.refl _ _
 | g + 1, s, hs => by
  have h1 : Up m s (mAllS rec n s) := up_allS hr h hs
  rw [mAll]
  split
  ·exact Up.refl _ _
  ·split
   ·exact h1.trans up_on
   ·have h2 : Up m s (mSg T [124] (mAllS rec n s)) := h1.trans (up_sg _)
    exact h2.trans (up_all hr h g _ (Nat.le_trans hs h2.2.1))
theorem up_symS (h : m ≤ n) : Up m s (mSymS T n s) := by
 unfold mSymS
 exact ((up_nm.trans (up_bad _ _)).trans (up_mod _ h)).trans up_on
theorem up_syms (h : m ≤ n) : ∀ (g : Nat) (s : St), Up m s (mSyms T n g s)
 | 0, s => Up.refl _ _
 | g + 1, s => by
  have h1 : Up m s (mSymS T n s) := up_symS h
  rw [mSyms]
  split
  ·exact Up.refl _ _
  ·split
   ·exact h1.trans up_on
   ·exact (h1.trans (up_sg _)).trans (up_syms h g _)
theorem up_fldA : Up m s (mFldA T n s) := by
 unfold mFldA
 exact (up_nm.trans (up_bad _ _)).trans up_on
theorem up_fldB : Up m s (mFldB T n s) := by
 unfold mFldB
 split
 ·exact (up_fldA.trans up_on).trans (up_sg _)
 ·exact up_fldA.trans (up_sg _)
theorem up_fldC {rec : MRd} (hr : RUp rec) (h : m ≤ n) (hs : m ≤ s.N.length) : Up m s (mFldC T rec n s) := by
 have h1 : Up m s (mFldB T n s) := up_fldB
 unfold mFldC
 exact ((h1.trans ((hr _).mono (Nat.le_trans hs h1.2.1))).trans (up_sg _)).trans (up_mod _ h)
theorem up_fldL {rec : MRd} (hr : RUp rec) (h : m ≤ n) : ∀ (g : Nat) (s : St), m ≤ s.N.length → Up m s (mFldL T rec n g s).2
 | 0, s, _ => Up.refl _ _
 | g + 1, s, hs => by
  rw [mFldL]
  split
  ·exact Up.refl _ _
  ·split
   ·exact up_fldB
   ·have h2 : Up m s (mFldC T rec n s) := up_fldC hr h hs
    exact h2.trans (up_fldL hr h g _ (Nat.le_trans hs h2.2.1))
theorem up_flds {rec : MRd} (hr : RUp rec) (h : m ≤ n) (hs : m ≤ s.N.length) : Up m s (mFlds T rec n s) := by
 have h1 : Up m s (mSg T [123] s) := up_sg _
 have h2 := h1.trans (up_fldL (T := T) hr h (T.length + 1) _ (Nat.le_trans hs h1.2.1))
 unfold mFlds
 split
 ·exact h2
 ·exact h2.trans (up_sg _)
theorem up_defA (h : m ≤ n) : Up m s (mDefA T n s) := by
 unfold mDefA
 exact ((up_nm.trans (up_bad _ _)).trans (up_mod _ h)).trans up_on
theorem up_def {rec : MRd} (hr : RUp rec) (h : m ≤ n) (hs : m ≤ s.N.length) (k : Int) : Up m s (mDef T rec n k s) := by
 have h1 : Up m s (mDefA T n s) := up_defA h
 unfold mDef
 split
 ·unfold mFix
  exact ((h1.trans (up_bad _ _)).trans (up_mod _ h)).trans up_on
 ·split
  ·exact h1.trans (up_flds hr h (Nat.le_trans hs h1.2.1))
  ·exact (h1.trans (up_sg _)).trans (up_syms h _ _)
theorem up_push (k : Nat) : Up s.N.length s { s with N := s.N ++ [Nd.of k] } := ⟨Nat.le_refl _, by simp, fun i hi => by show (s.N ++ _)[i]? = _; rw [List.getElem?_append_left hi]⟩
theorem up_body {rec : Option (List Nat) → MRd} (hr : ∀ u, RUp (rec u)) (k : Int) : Up s.N.length s (mBody T rec k s).2 := by
 have h1 := up_push (s := s) k.toNat
 have hl : s.N.length ≤ ({ s with N := s.N ++ [Nd.of k.toNat] } : St).N.length := by simp
 unfold mBody
 simp only
 split
 ·exact h1
 ·split
  ·exact h1.trans (up_one (hr none) _ (Nat.le_refl _) hl)
  ·split
   ·exact h1.trans (up_one (hr none) _ (Nat.le_refl _) hl)
   ·split
    ·exact h1.trans (up_all (fun u => hr (some u)) (Nat.le_refl _) _ _ hl)
    ·exact h1.trans (up_def (hr none) (Nat.le_refl _) hl k)
theorem mPre_N (deep : Nat) (un : Option (List Nat)) (k n : Int) (s : St) : (mPre T deep un k n s).N = s.N ∧ (mPre T deep un k n s).at_ = s.at_ := by
 unfold mPre
 rw [(mBad_N _ _ _).1, (mBad_N _ _ _).1, (mBad_N _ _ _).1, (mBad_N _ _ _).1, (mBad_N _ _ _).2, (mBad_N _ _ _).2, (mBad_N _ _ _).2, (mBad_N _ _ _).2]
 split
 ·exact mNm_N s
 ·exact ⟨rfl, rfl⟩
theorem up_pre (deep : Nat) (un : Option (List Nat)) (k n : Int) : Up m s (mPre T deep un k n s) := by
 obtain ⟨h1, h2⟩ := mPre_N (T := T) deep un k n s
 exact ⟨by rw [h2]; exact Nat.le_refl _, by rw [h1]; exact Nat.le_refl _, fun i _ => by rw [h1]⟩
theorem up_typed : ∀ (f deep : Nat) (un : Option (List Nat)), RUp (mTyped T f deep un)
 | 0, _, _ => fun s => Up.refl _ _
 | f + 1, deep, un => fun s => by
  rw [mTyped]
  split
  ·exact up_pre _ _ _ _
  ·split
   ·exact (up_pre _ _ _ _).trans up_on
   ·have h1 : Up s.N.length s (mOn T (mPre T deep un (kNo (tokAt T s.at_)) (mName (tokAt T s.at_) s (kNo (tokAt T s.at_))) s)) := (up_pre _ _ _ _).trans up_on
    have h2 := up_body (T := T) (s := mOn T (mPre T deep un (kNo (tokAt T s.at_)) (mName (tokAt T s.at_) s (kNo (tokAt T s.at_))) s)) (fun u => up_typed f (deep + 1) u) (kNo (tokAt T s.at_))
    have hl : (mOn T (mPre T deep un (kNo (tokAt T s.at_)) (mName (tokAt T s.at_) s (kNo (tokAt T s.at_))) s)).N.length = s.N.length := by rw [(mOn_N _).1, (mPre_N _ _ _ _ _).1]
    rw [hl] at h2
    exact h1.trans h2
theorem calledI_lt {N : List Nd} {x : List UInt8} (h : 0 ≤ calledI N x) : (calledI N x).toNat < N.length := by
 unfold calledI at h ⊢
 cases hc : pCalled N x with
 | none => rw [hc] at h; simp at h
 | some n =>
  obtain ⟨_, _, hl, _⟩ := pCalled_some hc
  simpa using hl
theorem typed_lt (f deep : Nat) (un : Option (List Nat)) (hp : 0 < s.N.length) : (mTyped T f deep un s).1 < (mTyped T f deep un s).2.N.length := by
 have hu := up_typed (T := T) f deep un s
 cases f with
 | zero => exact hp
 | succ f =>
  rw [mTyped] at hu ⊢
  split
  ·rename_i h1
   rw [if_pos h1] at hu
   exact Nat.lt_of_lt_of_le hp hu.2.1
  ·rename_i h1
   split
   ·rename_i h2
    show (mName (tokAt T s.at_) s (kNo (tokAt T s.at_))).toNat < (mOn T _).N.length
    rw [(mOn_N _).1, (mPre_N _ _ _ _ _).1]
    unfold mName
    rw [if_pos h2]
    by_cases h3 : calledI s.N (tokAt T s.at_).s < 0
    ·have : (calledI s.N (tokAt T s.at_).s).toNat = 0 := by omega
     rw [this]; exact hp
    ·exact calledI_lt (by omega)
   ·show (mOn T _).N.length < (mBody T _ _ _).2.N.length
    generalize mOn T _ = s1
    have hb : ∀ k : Int, s1.N.length < ({ s1 with N := s1.N ++ [Nd.of k.toNat] } : St).N.length := fun k => by simp
    have key : ∀ {s2 : St} (k : Int), Up s1.N.length { s1 with N := s1.N ++ [Nd.of k.toNat] } s2 → s1.N.length < s2.N.length := fun k h => Nat.lt_of_lt_of_le (hb k) h.2.1
    have hr : ∀ u, RUp (mTyped T f (deep + 1) u) := fun u => up_typed f (deep + 1) u
    have hl : ∀ k : Int, s1.N.length ≤ ({ s1 with N := s1.N ++ [Nd.of k.toNat] } : St).N.length := fun k => by simp
    unfold mBody
    simp only
    split
    ·exact hb _
    ·split
     ·exact key _ (up_one (hr none) _ (Nat.le_refl _) (hl _))
     ·split
      ·exact key _ (up_one (hr none) _ (Nat.le_refl _) (hl _))
      ·split
       ·exact key _ (up_all (fun u => hr (some u)) (Nat.le_refl _) _ _ (hl _))
       ·exact key _ (up_def (hr none) (Nat.le_refl _) (hl _) _)
end
open Go.RowKit
def Uf (b : QB) (w : World) (s : St) (e : Ending) (w' : World) : Prop := e = .returned (.tuple #[]) ∧ PS w' b s ∧ Fq b w w'
structure UnOk (w : World) (b : QB) (s : St) (A : Option Addr) (l : List Nat) : Prop where
 rd : Rd w w.heap.size 1 A l.length (vis (l.map Int.ofNat))
 off : blk A ≠ some b.pB
 inn : ∀ i ∈ l, i < s.N.length
 few : l.length ≤ 1000000
def TypQ (f d : Nat) : Prop := ∀ (w : World) (b : QB) (s : St) (un : Option (List Nat)) (A : Option Addr) (c : Nat), PS w b s → s.why = 0 → UnOk w b s A (un.getD []) →
 Calls Tryz.prog 49 #[.pointer (some ⟨b.pB, 0, none⟩), .int .i64 (d : Int), .bool un.isSome, .slice A (un.getD []).length c] w fun e w' =>
  e = .returned (.int .i64 ((mTyped b.T f d un s).1 : Int)) ∧ PS w' b (mTyped b.T f d un s).2 ∧ Fq b w w'
theorem UnOk.none_ (w : World) (b : QB) (s : St) : UnOk w b s none ((none : Option (List Nat)).getD []) := ⟨Rd.none_ w _ 1 0, by simp [blk], fun i h => (by cases h), by simp⟩
def qm (w : World) (b : QB) : Nat := match w.cell? ⟨b.pB, 3, none⟩, w.cell? ⟨b.pB, 1, none⟩ with
 | some (.int _ e), some (.int _ a) => if e = 0 then b.T.length - a.toNat + 1 else 0
 | _, _ => 0
section
variable {w w' : World} {b : QB} {s s' : St}
theorem PS.qm (h : PS w b s) : qm w b = if s.why = 0 then b.T.length - s.at_ + 1 else 0 := by
 obtain ⟨R, _, _, _, p1, _, p3, _⟩ := h.opn
 unfold Go.Proofs.YtgigiecdpjchkaaGreatDoor.qm
 rw [p3, p1]
 simp only [Int.toNat_natCast]
 by_cases hz : s.why = 0
 ·rw [if_pos hz, if_pos (by omega)]
 ·rw [if_neg hz, if_neg (by omega)]
theorem PS.p3 (h : PS w b s) : w.cell? ⟨b.pB, 3, none⟩ = some (.int .i64 (s.why : Int)) := by
 obtain ⟨R, _, _, _, _, _, p3, _⟩ := h.opn
 exact p3
theorem mSg_adv {T : List Tok} (hT : TOk T) {x : List UInt8} (h0 : s.why = 0) (hl : s.at_ < T.length) (hz : (mSg T x s).why = 0) : (mSg T x s).at_ = s.at_ + 1 := by
 by_cases hx : (tokAt T s.at_).k = 2 ∧ (tokAt T s.at_).s = x
 ·rw [(mSg_yes hT h0 hl hx).1]
 ·have := (mSg_no (T := T) h0 hx).1
  rw [this] at hz; cases hz
theorem mAll_stuck {T : List Tok} {rec : List Nat → MRd} {m g : Nat} (h : s.why ≠ 0) : mAll T rec m g s = s := by
 cases g with
 | zero => rfl
 | succ g => rw [mAll, if_pos h]
def AllI (b : QB) (w : World) (rec : List Nat → MRd) (m : Nat) (F : St) (wr : World) : Prop :=
 ∃ g s, PS wr b s ∧ mAll b.T rec m g s = F ∧ (s.why = 0 → b.T.length - s.at_ < g ∧ ∃ x, s.N[m]? = some x ∧ x.items.length ≤ s.at_) ∧ m < s.N.length ∧ Fq b w wr
theorem pall_any {f d : Nat} (hd : d ≤ 20) (TQ : TypQ f (d + 1)) (h : PS w b s) {m : Nat} {x : Nd} (hx : s.N[m]? = some x) (hxl : x.items.length ≤ s.at_) :
  Calls Tryz.prog 84 #[.pointer (some ⟨b.pB, 0, none⟩), .int .i64 (m : Int), .int .i64 (d : Int)] w (Uf b w (mAll b.T (fun u => mTyped b.T f (d + 1) (some u)) m (b.T.length + 1) s)) := by
 have hw := h.hw
 have hml := (List.getElem?_eq_some_iff.1 hx).1
 obtain ⟨rec, hrec⟩ : ∃ rec : List Nat → MRd, rec = fun u => mTyped b.T f (d + 1) (some u) := ⟨_, rfl⟩
 have hrup : ∀ u, RUp (rec u) := by rw [hrec]; exact fun u => up_typed f (d + 1) (some u)
 have hlt : ∀ u (s : St), 0 < s.N.length → (rec u s).1 < (rec u s).2.N.length := by rw [hrec]; exact fun u s => typed_lt f (d + 1) (some u)
 have TR : ∀ (w : World) (b' : QB) (s : St) (u : List Nat) (A : Option Addr) (c : Nat), b'.T = b.T → PS w b' s → s.why = 0 → UnOk w b' s A u →
   Calls Tryz.prog 49 #[.pointer (some ⟨b'.pB, 0, none⟩), .int .i64 ((d : Int) + 1), .bool true, .slice A u.length c] w fun e w' =>
    e = .returned (.int .i64 ((rec u s).1 : Int)) ∧ PS w' b' (rec u s).2 ∧ Fq b' w w' := by
  intro w b' s u A c hb h h0 hu
  have := TQ w b' s (some u) A c h h0 hu
  rw [hrec]
  rw [hb] at this
  exact this
 rw [← hrec]
 obtain ⟨FIN, hFIN⟩ : ∃ F, F = mAll b.T rec m (b.T.length + 1) s := ⟨_, rfl⟩
 rw [← hFIN]
 have hI : Hid (AllI b w rec m FIN w) := hid ⟨b.T.length + 1, s, h, hFIN.symm, fun _ => ⟨by omega, x, hx, hxl⟩, hml, Fq.refl _ _⟩
 have hdw : IntKind.i64.wrap ((d : Int) + 1) = (d : Int) + 1 := by rw [IntKind.wrap_i64]; omega
 clear hFIN hx hxl hml hrec TQ h
 go_enter Tryz.func84, Tryz.ntmps84
 go_wp2
 go_loopw [6] (fun i wr => Hid (AllI b w rec m FIN wr)) (fun _ wr => qm wr b)
 case atStart => exact hI
 case round =>
  clear hI
  obtain ⟨g1, s1, h1, hF, hg, hml, f1⟩ := hrel.out
  have HF := hid hF
  have hqm := hid h1.qm
  clear hrel hF
  have p3 := h1.p3
  by_cases hz : s1.why = 0
  ·have e1 : ((s1.why : Int) == 0) = true := by rw [beq_iff_eq]; omega
   obtain ⟨hgl, x, hx, hxl⟩ := hg hz
   have HZ := hid (And.intro hz hgl)
   clear hz hg hgl
   obtain ⟨R1, g0, nd⟩ := h1.ndAt hx
   have p2 := nd.p2
   have n4 := nd.n4
   have hfew := h1.few
   have hat := h1.at_
   have hu : UnOk wr b s1 (R1 (some (m, 1))).A x.items := ⟨((nd.hN.items m x hx).own (nd.hN.aps.own _)).rd, fun e => nd.q1 1 e.symm, h1.ok.inn x (List.mem_of_getElem? hx), by omega⟩
   have key := fun (c : Nat) => TR wr b s1 x.items _ c rfl h1 HZ.out.1 hu
   obtain ⟨i, hi⟩ : ∃ i, i = (rec x.items s1).1 := ⟨_, rfl⟩
   obtain ⟨s3, hs3⟩ : ∃ s3, s3 = (rec x.items s1).2 := ⟨_, rfl⟩
   have hup := hrup x.items s1
   have hil := hlt x.items s1 (by omega)
   rw [← hi, ← hs3] at key
   rw [← hs3] at hup
   rw [← hi, ← hs3] at hil
   have hn3 : s3.N[m]? = some x := (hup.2.2 m hml).trans hx
   have hMS := hid (show mAllS rec m s1 = s3.mod m fun y => { y with items := y.items ++ [i] } by
    unfold mAllS
    rw [show itemsAt s1.N m = x.items by unfold itemsAt; rw [hx], ← hi, ← hs3])
   have HUP := hid hup
   have HM3 : m < s3.N.length := Nat.lt_of_lt_of_le hml hup.2.1
   clear hi hs3 hup
   go_upto_region 2 with (go_at_call 49; refine (key _).mono ?_; rintro e w3 ⟨rfl, h3, f3⟩)
   have hsm := h3.ok.small x (List.mem_of_getElem? hn3)
   have hxk := h3.ok.names x (List.mem_of_getElem? hn3)
   have hinn := h3.ok.inn x (List.mem_of_getElem? hn3)
   have hok4 : NOk (s3.N.modify m fun y => { y with items := y.items ++ [i] }) (s3.at_ + 1) := h3.ok.mod hn3 (Nat.le_refl _) hxk ⟨hsm.1, by have := HUP.out.1; show (x.items ++ [i]).length ≤ _; rw [List.length_append]; show x.items.length + 1 ≤ _; omega, hsm.2.2⟩ (fun j hj => by
    have hj : j ∈ x.items ++ [i] := hj
    rcases List.mem_append.1 hj with hj | hj
    ·exact hinn j hj
    ·obtain rfl : j = i := by simpa using hj
     exact hil)
   obtain ⟨NL, hNL⟩ : ∃ NL, s3.N.length = NL := ⟨_, rfl⟩
   have HNL := hid hNL
   clear hNL p2 n4 p3 key hu nd
   obtain ⟨R, g, nd3⟩ := h3.ndAt hn3
   have hN := nd3.hN
   have hrb := nd3.hrb
   have p2 := nd3.p2
   have n3 := nd3.n4
   have hgp := nd3.ne
   have hA := nd3.hA
   have hO := (hN.items m x hn3).own (hN.aps.own _)
   have lp := hrb.lt
   have lg := World.block_lt_of_cell? w3 _ nd3.n0
   have q1 := nd3.q1 1
   have q2 := nd3.q2 1
   have hown := nd3.hN.own
   rw [nd3.hA] at hown
   have fz3 := nd3.fz (m * 6 + 4)
   have tA : Turn w3 (w3.alloc (.cells #[Value.int .i64 (i : Int)] 3)).drew none := ((Turn.refl w3 none).alloc _).drew
   have pA := (tA.cell (a := ⟨b.pB, 2, none⟩) lp (by simp)).trans p2
   have nA := (tA.cell (a := ⟨g, m * 6 + 4, none⟩) lg (by simp)).trans n3
   have hwA : b.base ≤ (w3.alloc (.cells #[Value.int .i64 (i : Int)] 3)).drew.heap.size := Nat.le_trans h3.hw.1 tA.size
   have hsA : w3.heap.size ≤ (w3.alloc (.cells #[Value.int .i64 (i : Int)] 3)).drew.heap.size := tA.size
   have hmi : m < NL := by rw [← HNL.out]; exact (List.getElem?_eq_some_iff.1 hn3).1
   rw [HNL.out] at p2 pA
   refine wp_region_noPanic ?_
   refine wp_region_held_drew (S := (fun W => W.cell? ⟨b.pB, 2, none⟩ = some (.slice (some ⟨g, 0, none⟩) NL (R none).c))) (by kernel_rfl) (p2) (fun hHeld => ?_)
   (first | refine tkN 0 ?_ | refine tkY 0 _ ?_); (try simp only [Act.put, zs])
   (first | refine tkN 1 ?_ | refine tkY 1 _ ?_); (try simp only [Act.put, zs])
   (first | refine tkN 2 ?_ | refine tkY 2 _ ?_); (try simp only [Act.put, zs])
   (first | refine tkN 3 ?_ | refine tkY 3 _ ?_); (try simp only [Act.put, zs])
   (first | refine tkN 4 ?_ | refine tkY 4 _ ?_); (try simp only [Act.put, zs])
   (first | refine tkN 5 ?_ | refine tkY 5 _ ?_); (try simp only [Act.put, zs])
   (first | refine tkN 6 ?_ | refine tkY 6 _ ?_); (try simp only [Act.put, zs])
   (first | refine tkN 7 ?_ | refine tkY 7 _ ?_); (try simp only [Act.put, zs])
   (first | refine tkN 8 ?_ | refine tkY 8 _ ?_); (try simp only [Act.put, zs])
   (first | refine tkN 9 ?_ | refine tkY 9 _ ?_); (try simp only [Act.put, zs])
   (first | refine tkN 10 ?_ | refine tkY 10 _ ?_); (try simp only [Act.put, zs])
   (first | refine tkN 11 ?_ | refine tkY 11 _ ?_); (try simp only [Act.put, zs])
   (first | refine tkN 13 ?_ | refine tkY 13 _ ?_); (try simp only [Act.put, zs])
   refine wpAnyH_ready (rs := [12, 14]) (by kernel_rfl) (by simp) ?_; refine AllReadyH.cons rfl (fun K hK => ?_) (AllReadyH.cons rfl (fun K hK => ?_) AllReadyH.nil)
   ·go_simp
    refine hK.out _ _ p2 (fun hHeld => ?_); clear hK K; (try simp only [Act.put, zs])
    refine wpAnyH_ready (rs := [14]) (by kernel_rfl) (by simp) ?_; refine AllReadyH.cons rfl (fun K hK => ?_) AllReadyH.nil
    go_simp
    refine hK.out _ _ pA (fun hHeld => ?_); clear hK K; (try simp only [Act.put, zs])
    refine wpAnyH_ready (rs := [15]) (by kernel_rfl) (by simp) ?_; refine AllReadyH.cons rfl (fun K hK => ?_) AllReadyH.nil
    refine st_app (base := b.base) rfl _ _ _ rfl elI rfl rfl (hO.alloc _).drew (Rd.litS w3 _ 1 1 [Value.int .i64 (i : Int)] rfl).drew (by repeat (first | exact ones_nil | refine ones_cons rfl ?_)) (by unfold maxLen; first | omega | (simp; done) | (simp; omega)) (by first | omega | (simp; done) | (simp; omega)) hwA ?_
    intro A5 c5 w5 ho5 ht5 hb5
    have ht6 : Turn w3 w5 (blk (R (some (m, 1))).A) := (((Turn.refl w3 _).alloc _).drew).trans ht5
    have k1 := (ht6.cell (a := ⟨b.pB, 2, none⟩) lp q1).trans p2
    have k3 := (ht6.cell (a := ⟨g, m * 6 + 4, none⟩) lg q2).trans n3
    have fz5 := (hown.turn ht6 (.inr q2)).frozen (m * 6 + 4)
    refine hK.out _ _ k1 (fun hHeld => ?_); clear hK K; (try simp only [Act.put, zs])
    (first | refine tkN 16 ?_ | refine tkY 16 _ ?_); (try simp only [Act.put, zs])
    (first | refine tkN 17 ?_ | refine tkY 17 _ ?_); (try simp only [Act.put, zs])
    refine wpAnyH_ready (rs := [18]) (by kernel_rfl) (by simp) ?_; refine AllReadyH.cons rfl (fun K hK => ?_) AllReadyH.nil
    go_simp
    refine hK.out _ _ ((World.cell?_setCell_far _ _ _ _ hgp).trans k1) (fun hHeld => ?_); clear hK K; (try simp only [Act.put, zs])
    refine wpAnyH_done (by kernel_rfl) ?_ _
    refine NoPanic.normal ?_
    clear hHeld
    obtain ⟨h4, f4⟩ := h3.slot (w1 := w5) (gg := fun y => { y with items := y.items ++ [i] }) (r := ⟨3, 1, A5, x.items.length + 1, c5, vis (x.items.map Int.ofNat) ++ [Value.int .i64 (i : Int)]⟩) hN nd3.hO hrb hn3 hA (j := 1) (by omega) ho5 ht6 (hb5.imp id fun e => ⟨_, e, hsA⟩) (.inr (.inl rfl)) ⟨rfl, rfl, rfl⟩
     (hN.syms m x hn3) ⟨rfl, rfl, by simp, by simp [vis]⟩ (hN.fields m x hn3) hok4
    rw [← hMS.out] at h4
    obtain ⟨w6, hw6⟩ : ∃ w6, w6 = w5.setCell ⟨g, m * 6 + (3 + 1), none⟩ (Rw.v ⟨3, 1, A5, x.items.length + 1, c5, vis (x.items.map Int.ofNat) ++ [Value.int .i64 (i : Int)]⟩) := ⟨_, rfl⟩
    rw [← hw6] at h4 f4
    have F6 := (f1.trans f3).trans f4
    have hwv : w5.setCell ⟨g, m * 6 + 4, none⟩ (.slice A5 (x.items.length + 1) c5) = w6 := hw6.symm
    rw [hwv]
    obtain ⟨s4, hs4⟩ : ∃ s4, s4 = mAllS rec m s1 := ⟨_, rfl⟩
    have h4a : s4.at_ = s3.at_ ∧ s4.N.length = s3.N.length ∧ s4.N[m]? = some { x with items := x.items ++ [i] } := by
     rw [hs4, hMS.out]
     refine ⟨rfl, by show (s3.N.modify m _).length = _; rw [List.length_modify], ?_⟩
     show (s3.N.modify m _)[m]? = _
     rw [List.getElem?_modify, hn3]
     simp
    have HS4 := hid (And.intro h4a hs4)
    rw [← hs4] at h4
    clear hw6 hwv hs4 h4a
    obtain ⟨g', rfl⟩ : ∃ g', g1 = g' + 1 := ⟨g1 - 1, by have := HZ.out.2; omega⟩
    have HF2 := HF.out
    rw [mAll, if_neg (by simp [HZ.out.1]), ← HS4.out.2] at HF2
    have hh := phere_any h4 [41]
    cases hb : mHere b.T [41] s4 with
    | true =>
     rw [hb] at hh
     rw [if_pos hb] at HF2
     have HX := hid HF2
     clear hb HF2
     go_wp2_with (first
      | (go_at_call 122; refine hh.mono ?_; rintro e w7 ⟨rfl, ht7⟩)
      | (go_at_call 82; refine (pon_any (h4.turn0 ht7)).mono ?_; rintro e w8 ⟨rfl, h8, ht8⟩))
     go_end0
     exact ⟨rfl, by rw [← HX.out]; exact h8, (F6.turn ht7 hw).trans ((h4.turn0 ht7).fq ht8)⟩
    | false =>
     rw [hb] at hh
     rw [if_neg (by rw [hb]; decide)] at HF2
     have HX := hid HF2
     clear hb HF2
     go_wp2_with (first
      | (go_at_call 122; refine hh.mono ?_; rintro e w7 ⟨rfl, ht7⟩)
      | (go_at_call 83; refine (psign_any (h4.turn0 ht7) [124]).mono ?_; rintro e w8 ⟨rfl, h8, ht8⟩))
     have hs4w : s4.why = 0 → (mSg b.T [124] s4).why = 0 → (mSg b.T [124] s4).at_ = s4.at_ + 1 := fun q1 q2 => mSg_adv h4.tok q1 h4.at_ q2
     have hs4s : s4.why ≠ 0 → (mSg b.T [124] s4).why ≠ 0 := fun q => by rw [mSg_stuck _ q]; exact q
     have hNs := mSg_N (T := b.T) [124] s4
     have hat4 := HS4.out.1.1
     have hat3 := HUP.out.1
     refine ⟨hid ⟨g', mSg b.T [124] s4, h8, HX.out, fun hz5 => ?_, ?_, (F6.turn ht7 hw).trans ((h4.turn0 ht7).fq ht8)⟩, ?_⟩
     ·have hz4 : s4.why = 0 := Classical.byContradiction fun q => hs4s q hz5
      have ha5 := hs4w hz4 hz5
      refine ⟨by have := HZ.out.2; have := h8.at_; omega, _, by rw [hNs]; exact HS4.out.1.2.2, ?_⟩
      show (x.items ++ [i]).length ≤ _
      rw [List.length_append]
      show x.items.length + 1 ≤ _
      omega
     ·rw [hNs, HS4.out.1.2.1]; exact HM3
     ·rw [h8.qm, hqm.out, if_pos HZ.out.1]
      by_cases hz5 : (mSg b.T [124] s4).why = 0
      ·have hz4 : s4.why = 0 := Classical.byContradiction fun q => hs4s q hz5
       have ha5 := hs4w hz4 hz5
       have := h8.at_
       rw [if_pos hz5]
       omega
      ·rw [if_neg hz5]; omega
   ·go_simp
    refine hK.out _ _ pA (fun hHeld => ?_); clear hK K; (try simp only [Act.put, zs])
    refine wpAnyH_ready (rs := [12]) (by kernel_rfl) (by simp) ?_; refine AllReadyH.cons rfl (fun K hK => ?_) AllReadyH.nil
    go_simp
    refine hK.out _ _ pA (fun hHeld => ?_); clear hK K; (try simp only [Act.put, zs])
    refine wpAnyH_ready (rs := [15]) (by kernel_rfl) (by simp) ?_; refine AllReadyH.cons rfl (fun K hK => ?_) AllReadyH.nil
    refine st_app (base := b.base) rfl _ _ _ rfl elI rfl rfl (hO.alloc _).drew (Rd.litS w3 _ 1 1 [Value.int .i64 (i : Int)] rfl).drew (by repeat (first | exact ones_nil | refine ones_cons rfl ?_)) (by unfold maxLen; first | omega | (simp; done) | (simp; omega)) (by first | omega | (simp; done) | (simp; omega)) hwA ?_
    intro A5 c5 w5 ho5 ht5 hb5
    have ht6 : Turn w3 w5 (blk (R (some (m, 1))).A) := (((Turn.refl w3 _).alloc _).drew).trans ht5
    have k1 := (ht6.cell (a := ⟨b.pB, 2, none⟩) lp q1).trans p2
    have k3 := (ht6.cell (a := ⟨g, m * 6 + 4, none⟩) lg q2).trans n3
    have fz5 := (hown.turn ht6 (.inr q2)).frozen (m * 6 + 4)
    refine hK.out _ _ k1 (fun hHeld => ?_); clear hK K; (try simp only [Act.put, zs])
    (first | refine tkN 16 ?_ | refine tkY 16 _ ?_); (try simp only [Act.put, zs])
    (first | refine tkN 17 ?_ | refine tkY 17 _ ?_); (try simp only [Act.put, zs])
    refine wpAnyH_ready (rs := [18]) (by kernel_rfl) (by simp) ?_; refine AllReadyH.cons rfl (fun K hK => ?_) AllReadyH.nil
    go_simp
    refine hK.out _ _ ((World.cell?_setCell_far _ _ _ _ hgp).trans k1) (fun hHeld => ?_); clear hK K; (try simp only [Act.put, zs])
    refine wpAnyH_done (by kernel_rfl) ?_ _
    refine NoPanic.normal ?_
    clear hHeld
    obtain ⟨h4, f4⟩ := h3.slot (w1 := w5) (gg := fun y => { y with items := y.items ++ [i] }) (r := ⟨3, 1, A5, x.items.length + 1, c5, vis (x.items.map Int.ofNat) ++ [Value.int .i64 (i : Int)]⟩) hN nd3.hO hrb hn3 hA (j := 1) (by omega) ho5 ht6 (hb5.imp id fun e => ⟨_, e, hsA⟩) (.inr (.inl rfl)) ⟨rfl, rfl, rfl⟩
     (hN.syms m x hn3) ⟨rfl, rfl, by simp, by simp [vis]⟩ (hN.fields m x hn3) hok4
    rw [← hMS.out] at h4
    obtain ⟨w6, hw6⟩ : ∃ w6, w6 = w5.setCell ⟨g, m * 6 + (3 + 1), none⟩ (Rw.v ⟨3, 1, A5, x.items.length + 1, c5, vis (x.items.map Int.ofNat) ++ [Value.int .i64 (i : Int)]⟩) := ⟨_, rfl⟩
    rw [← hw6] at h4 f4
    have F6 := (f1.trans f3).trans f4
    have hwv : w5.setCell ⟨g, m * 6 + 4, none⟩ (.slice A5 (x.items.length + 1) c5) = w6 := hw6.symm
    rw [hwv]
    obtain ⟨s4, hs4⟩ : ∃ s4, s4 = mAllS rec m s1 := ⟨_, rfl⟩
    have h4a : s4.at_ = s3.at_ ∧ s4.N.length = s3.N.length ∧ s4.N[m]? = some { x with items := x.items ++ [i] } := by
     rw [hs4, hMS.out]
     refine ⟨rfl, by show (s3.N.modify m _).length = _; rw [List.length_modify], ?_⟩
     show (s3.N.modify m _)[m]? = _
     rw [List.getElem?_modify, hn3]
     simp
    have HS4 := hid (And.intro h4a hs4)
    rw [← hs4] at h4
    clear hw6 hwv hs4 h4a
    obtain ⟨g', rfl⟩ : ∃ g', g1 = g' + 1 := ⟨g1 - 1, by have := HZ.out.2; omega⟩
    have HF2 := HF.out
    rw [mAll, if_neg (by simp [HZ.out.1]), ← HS4.out.2] at HF2
    have hh := phere_any h4 [41]
    cases hb : mHere b.T [41] s4 with
    | true =>
     rw [hb] at hh
     rw [if_pos hb] at HF2
     have HX := hid HF2
     clear hb HF2
     go_wp2_with (first
      | (go_at_call 122; refine hh.mono ?_; rintro e w7 ⟨rfl, ht7⟩)
      | (go_at_call 82; refine (pon_any (h4.turn0 ht7)).mono ?_; rintro e w8 ⟨rfl, h8, ht8⟩))
     go_end0
     exact ⟨rfl, by rw [← HX.out]; exact h8, (F6.turn ht7 hw).trans ((h4.turn0 ht7).fq ht8)⟩
    | false =>
     rw [hb] at hh
     rw [if_neg (by rw [hb]; decide)] at HF2
     have HX := hid HF2
     clear hb HF2
     go_wp2_with (first
      | (go_at_call 122; refine hh.mono ?_; rintro e w7 ⟨rfl, ht7⟩)
      | (go_at_call 83; refine (psign_any (h4.turn0 ht7) [124]).mono ?_; rintro e w8 ⟨rfl, h8, ht8⟩))
     have hs4w : s4.why = 0 → (mSg b.T [124] s4).why = 0 → (mSg b.T [124] s4).at_ = s4.at_ + 1 := fun q1 q2 => mSg_adv h4.tok q1 h4.at_ q2
     have hs4s : s4.why ≠ 0 → (mSg b.T [124] s4).why ≠ 0 := fun q => by rw [mSg_stuck _ q]; exact q
     have hNs := mSg_N (T := b.T) [124] s4
     have hat4 := HS4.out.1.1
     have hat3 := HUP.out.1
     refine ⟨hid ⟨g', mSg b.T [124] s4, h8, HX.out, fun hz5 => ?_, ?_, (F6.turn ht7 hw).trans ((h4.turn0 ht7).fq ht8)⟩, ?_⟩
     ·have hz4 : s4.why = 0 := Classical.byContradiction fun q => hs4s q hz5
      have ha5 := hs4w hz4 hz5
      refine ⟨by have := HZ.out.2; have := h8.at_; omega, _, by rw [hNs]; exact HS4.out.1.2.2, ?_⟩
      show (x.items ++ [i]).length ≤ _
      rw [List.length_append]
      show x.items.length + 1 ≤ _
      omega
     ·rw [hNs, HS4.out.1.2.1]; exact HM3
     ·rw [h8.qm, hqm.out, if_pos HZ.out.1]
      by_cases hz5 : (mSg b.T [124] s4).why = 0
      ·have hz4 : s4.why = 0 := Classical.byContradiction fun q => hs4s q hz5
       have ha5 := hs4w hz4 hz5
       have := h8.at_
       rw [if_pos hz5]
       omega
      ·rw [if_neg hz5]; omega
  ·have e1 : ((s1.why : Int) == 0) = false := by rw [beq_eq_false_iff_ne]; omega
   have HX := hid (show s1 = FIN by rw [← HF.out, mAll_stuck hz])
   clear hz hg
   go_wp2
   go_end0
   exact ⟨rfl, by rw [← HX.out]; exact h1, f1⟩
end
end Go.Proofs.YtgigiecdpjchkaaGreatDoor
