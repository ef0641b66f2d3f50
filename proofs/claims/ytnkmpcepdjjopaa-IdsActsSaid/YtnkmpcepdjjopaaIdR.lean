/-
  Layer 16, the document's table in memory: Text, Map, Make.
-/
import Derived.Test.YtnkmpcepdjjopaaIdQ
import Derived.Test.YtnkmpcepdjjopaaIdD
namespace Go.Proofs.Ytnkmpcepdjjopaa
set_option linter.unusedSimpArgs false
set_option linter.unusedVariables false
open Go.RowKit

section
variable {w : World} {r : Nat} {T : Nat → Prop} {x z : Slc} {t : Idt}
set_option maxRecDepth 100000 in
set_option maxHeartbeats 1600000 in
theorem rtext16_any (h : RT w r T x z t) (hf : t.L.length ≤ 100000) (n : Nat) (hn : n ≤ 18446744073709551615) :
    Calls Try.prog 21 #[.pointer (some ⟨r, 0, none⟩), .int .u64 (n : Int)] w fun e w' => e = .returned (.tuple #[.string (txt (t.text n).1), .bool (t.text n).2]) ∧ w = w' := by
  have hx := h.hx
  have xn := h.xn
  rw [xn] at hx
  have c1 : w.cell? ⟨r, 1, none⟩ = some (.slice x.A t.L.length x.c) := by rw [← xn]; exact h.b.ats rfl
  unfold Idt.text
  by_cases h1 : n < 1
  · rw [if_pos (.inl h1)]
    go_enter Try.func21, Try.ntmps21
    go_wp2
    go_ret2
    exact ⟨rfl, rfl⟩
  · by_cases h2 : t.L.length < n
    · rw [if_pos (.inr h2)]
      obtain ⟨N, hN⟩ : ∃ N, N = t.L.length := ⟨_, rfl⟩
      rw [← hN] at c1 h2 hf
      clear hN hx
      go_enter Try.func21, Try.ntmps21
      go_wp2
      go_ret2
      exact ⟨rfl, rfl⟩
    · rw [if_neg (by omega)]
      obtain ⟨k, rfl⟩ : ∃ k, n = k + 1 := ⟨n - 1, by omega⟩
      obtain ⟨l, hl⟩ : ∃ l, t.L[k]? = some l := ⟨_, List.getElem?_eq_getElem (by omega)⟩
      have hd : t.L.getD (k + 1 - 1) [] = l := by simp [List.getD, hl]
      rw [hd]
      obtain ⟨gx, hA, _, _⟩ := hx.head (by omega)
      rw [hA] at hx c1
      have cx := hx.cell (i := k) (by omega)
      rw [tvs_at hl] at cx
      obtain ⟨N, hN⟩ : ∃ N, N = t.L.length := ⟨_, rfl⟩
      rw [← hN] at c1 h2 hf
      have hwk : IntKind.u64.wrap (k : Int) = (k : Int) := by rw [IntKind.wrap_u64]; omega
      clear hN hx hl hd
      go_enter Try.func21, Try.ntmps21
      go_wp2
      go_ret2
      exact ⟨rfl, rfl⟩
set_option maxRecDepth 100000 in
set_option maxHeartbeats 1600000 in
theorem rmap16_any (h : RT w r T x z t) (hf : t.B.length ≤ 100000) (q : Nat) :
    Calls Try.prog 23 #[.pointer (some ⟨r, 0, none⟩), .int .u64 (q : Int)] w fun e w' => e = .returned (.tuple #[.int .u64 ((iMap t.B q : Nat) : Int), .bool (decide (iMap t.B q ≠ 0))]) ∧ w = w' := by
  have hz := h.hz
  have zn := h.zn
  rw [zn] at hz
  have c2 : w.cell? ⟨r, 2, none⟩ = some (.slice z.A t.B.length z.c) := by rw [← zn]; exact h.b.ats rfl
  obtain ⟨F, hF⟩ : ∃ F, F = iMap t.B q := ⟨_, rfl⟩
  rw [← hF]
  have HF := hid hF
  clear hF
  obtain ⟨N, hN⟩ : ∃ N, N = t.B.length := ⟨_, rfl⟩
  rw [← hN] at hz c2 hf
  have HN := hid hN
  clear hN
  go_enter Try.func23, Try.ntmps23
  go_wp2
  go_loopw [6] (fun i wr => ∃ j : Nat, j ≤ N ∧ i = .int .i64 (j : Int) ∧ Hid (∀ k p, k < j → t.B[k]? = some p → p.1 ≠ q) ∧ w = wr) (fun i _ => (N - intOf i).toNat)
  case atStart => exact ⟨0, by omega, rfl, hid (fun k p hk => by omega), rfl⟩
  case round =>
    obtain ⟨j, hj, rfl, HJ, rfl⟩ := hrel
    by_cases hjn : j < N
    · obtain ⟨p, hp⟩ : ∃ p, t.B[j]? = some p := ⟨_, List.getElem?_eq_getElem (by have := HN.out; omega)⟩
      obtain ⟨gz, hA, _, _⟩ := hz.head (by omega)
      rw [hA] at hz c2
      have cx : w.cell? ⟨gz, j * 2, none⟩ = some (.int .u64 (p.1 : Int)) := hz.bnd hp 0 _ rfl
      have cy : w.cell? ⟨gz, j * 2 + 1, none⟩ = some (.int .u64 (p.2 : Int)) := hz.bnd hp 1 _ rfl
      have hw1 : wrap64 ((j : Int) + 1) = (j : Int) + 1 := by unfold wrap64; omega
      by_cases hc : p.1 = q
      · have hm := List.mem_of_getElem? hp
        have h2 := h.wf.id p hm
        have HL := hid (show F = p.2 by rw [HF.out, ← hc, iMap_of h.wf.up hm])
        have H2 := hid h2
        subst hc
        clear hp hm h2
        go_wp2
        go_ret2
        refine ⟨?_, rfl⟩
        rw [HL.out, decide_eq_true (by have := H2.out; omega)]
        rfl
      · have HL := hid (show ∀ k p, k < j + 1 → t.B[k]? = some p → p.1 ≠ q by
          intro k p2 hk e
          rcases Nat.lt_or_ge k j with c | c
          · exact HJ.out k p2 c e
          · obtain rfl : k = j := by omega
            rw [hp] at e
            rw [← Option.some.inj e]
            exact hc)
        have hne : ((p.1 : Int) == (q : Int)) = false := by rw [beq_eq_false_iff_ne]; omega
        clear hp
        go_wp2
        refine ⟨⟨j + 1, by omega, rfl, HL, trivial⟩, ?_⟩
        simp [intOf]; omega
    · obtain rfl : j = N := by omega
      have HL := hid (show F = 0 by
        rw [HF.out, iMap_none (fun p hp => by
          obtain ⟨k, hk⟩ := List.getElem?_of_mem hp
          exact HJ.out k p (by have := (List.getElem?_eq_some_iff.1 hk).1; have := HN.out; omega) hk)])
      go_wp2
      go_ret2
      exact ⟨by rw [HL.out]; rfl, rfl⟩
set_option maxRecDepth 100000 in
set_option maxHeartbeats 1600000 in
theorem rmake16_any (h : RT w r T x z t) {s : List UInt8} (hf : t.L.length ≤ 100000) :
    Calls Try.prog 18 #[.pointer (some ⟨r, 0, none⟩), .string (txt s)] w fun e w' => e = .returned (.tuple #[.int .u64 (((t.make s).2.1 : Nat) : Int), .int .i64 (((t.make s).2.2 : Nat) : Int)]) ∧ Stq w w' T r (t.make s).1 := by
  have c0 : w.cell? ⟨r, 0, none⟩ = some (.int .u64 (t.lim : Int)) := h.b.ats rfl
  have c1 : w.cell? ⟨r, 1, none⟩ = some (.slice x.A t.L.length x.c) := by rw [← h.xn]; exact h.b.ats rfl
  have ko := rof16_any h hf s
  have hlm := h.wf.lm
  rcases t.make_cases s with ⟨h1, h2⟩ | ⟨h1, h3, h2⟩ | ⟨h1, h3, h2⟩
  · rw [h2]
    rw [decide_eq_true h1] at ko
    have HP := hid (Stq.same (⟨x, z, h⟩ : Rt16 w r T t) (Turn.refl w none))
    generalize ((t.of s : Nat) : Int) = k at *
    clear h h1 h2
    go_enter Try.func18, Try.ntmps18
    go_wp2_with (go_at_call 20; refine ko.mono ?_; rintro e w1 ⟨rfl, rfl⟩)
    go_ret2
    exact ⟨rfl, HP.out⟩
  · rw [h2]
    rw [h1] at ko
    have HP := hid (fun q => Stq.same (⟨x, z, h⟩ : Rt16 w r T t) ((Turn.refl w none).drewN q))
    generalize t.L.length = L at *
    generalize t.lim = M at *
    clear h h1 h2
    go_enter Try.func18, Try.ntmps18
    go_wp2_with (go_at_call 20; refine ko.mono ?_; rintro e w1 ⟨rfl, rfl⟩)
    go_quiet (fail)
    go_wp2
    go_ret2
    exact ⟨rfl, HP.out _⟩
  · rw [h2]
    rw [h1] at ko
    have hwf := h.wf.put h1 h3
    have hx := h.hx
    have hz := h.hz
    have B0 := h.b
    have xn := h.xn
    have gx := h.gx
    rw [xn] at hx
    have sx := h.sx
    obtain ⟨xA, xn', xc⟩ := x
    obtain ⟨zA, zn, zc⟩ := z
    simp only at xn hx gx sx c1
    subst xn
    simp only [Slc.v] at B0
    obtain ⟨N, hN⟩ : ∃ N, N = t.L.length := ⟨_, rfl⟩
    rw [← hN] at hx B0 hf c1 h3 ⊢
    obtain ⟨M, hM⟩ : ∃ M, M = t.lim := ⟨_, rfl⟩
    rw [← hM] at c0 h3 hlm
    have HN := hid hN
    have HW := hid hwf
    clear hN hM hwf h1 h2
    go_enter Try.func18, Try.ntmps18
    go_wp2_with (go_at_call 20; refine ko.mono ?_; rintro e w1 ⟨rfl, rfl⟩)
    go_quiet (fail)
    obtain ⟨v, hv⟩ : ∃ v, v = w.drewN nq := ⟨_, rfl⟩
    have T0 : Turn w v none := by rw [hv]; exact (Turn.refl w none).drewN _
    rw [← hv]
    clear hv
    have Bv := B0.turn0 T0
    have hxv := hx.turn0 T0
    have e1 : v.cell? ⟨r, 1, none⟩ = some (.slice xA N xc) := Bv.ats rfl
    go_upto_region 7 with (at_builtin; refine wp_appW rfl _ _ _ rfl elS rfl rfl (hxv.alloc _) (Rd.lit v 9 [.string (txt s)]) (by repeat (first | exact ones_nil | refine ones_cons rfl ?_)) (by unfold maxLen; first | omega | (simp; done) | (simp; omega)) (by first | omega | (simp; done) | (simp; omega)) (Nat.zero_le _) ?_; intro A1 c2 w1 ho1 ht1 hb1; have T1 : Turn v w1 (blk xA) := ((Turn.refl v _).alloc _).trans ht1; have B1 := Bv.turn T1 (fun e => gx e.symm); have d2 : w1.cell? ⟨r, 1, none⟩ = some (.slice xA N xc) := B1.ats rfl; have f2 := B1.frozen 1)
    have hz1 := (hz.turn0 T0).turnO hxv (by decide) T1
    obtain ⟨w2, hw2⟩ : ∃ w2, w2 = w1.setCell ⟨r, 1, none⟩ (.slice A1 (N + 1) c2) := ⟨_, rfl⟩
    have B2 := B1.sets 1 (.slice A1 (N + 1) c2)
    have T2 := Blk.setTurn w1 r 1 (.slice A1 (N + 1) c2)
    rw [← hw2] at B2 T2 ⊢
    clear hw2
    have B2 : Blk w2 r 37 [.int .u64 (t.lim : Int), .slice A1 (N + 1) c2, .slice zA zn zc].toArray := B2
    have ho2 := ho1.turn T2 (.inr (ho1.notB B1 (by decide)))
    have hz2 := hz1.turn T2 (.inr (hz1.notB B1 (by decide)))
    have c1' : w2.cell? ⟨r, 1, none⟩ = some (.slice A1 (N + 1) c2) := B2.ats rfl
    go_wp2
    go_ret2
    have C0 : Chg w v T := Chg.of0 T0 T
    have C1 : Chg v w1 T := Chg.of_blk T1 sx
    have C2 : Chg w1 w2 T := Chg.of T2 fun i e => by injection e with e; exact e ▸ h.sr
    have CC := (C0.trans C1 fun i hi => .inl hi).trans C2 fun i hi => .inl hi
    have s0 := T0.size
    have s1 := T1.size
    have s2 := T2.size
    refine ⟨rfl, CC, fun i => T i ∨ blk A1 = some i, ⟨⟨A1, N + 1, c2⟩, ⟨zA, zn, zc⟩, B2, ?_, hz2, .inl h.sr, fun k e => .inr e, fun k e => .inl (h.sz k e), ?_, HW.out⟩, ?_⟩
    · show Own w2 0 9 1 A1 (N + 1) c2 (tvs (t.L ++ [s]))
      rw [tvs_app]
      exact ho2
    · rintro i (hi | hi)
      · have := h.lt i hi; omega
      · exact (ho2.block i hi).2
    · rintro i (hi | hi)
      · exact .inl hi
      · rcases hb1 with q | q
        · exact .inl (sx i (q ▸ hi))
        · rw [q] at hi
          injection hi with hi
          right
          rw [← hi]
          show _ ≤ (v.heap.push _).size
          rw [Array.size_push]; omega
end
end Go.Proofs.Ytnkmpcepdjjopaa
