/-
  Layer 16, the document's table in memory: New, Of, Text, Map.
-/
import Derived.Test.YtnkmpcepdjjopaaIdG
namespace Go.Proofs.Ytnkmpcepdjjopaa
set_option linter.unusedSimpArgs false
set_option linter.unusedVariables false
open Go.RowKit

/-- A table of the document's, in blocks of T. -/
structure RT (w : World) (r : Nat) (T : Nat → Prop) (x z : Slc) (t : Idt) : Prop where
  b : Blk w r 37 [.int .u64 (t.lim : Int), x.v, z.v].toArray
  hx : Own w 0 9 1 x.A x.n x.c (tvs t.L)
  hz : Own w 0 50 2 z.A z.n z.c (bvs t.B)
  sr : T r
  sx : ∀ k, blk x.A = some k → T k
  sz : ∀ k, blk z.A = some k → T k
  lt : ∀ i, T i → i < w.heap.size
  wf : t.Wf
section
variable {w w' : World} {r : Nat} {T R : Nat → Prop} {x z : Slc} {t : Idt}
theorem RT.xn (h : RT w r T x z t) : x.n = t.L.length := by have := h.hx.len; rw [tvs_len] at this; exact this.symm
theorem RT.zn (h : RT w r T x z t) : z.n = t.B.length := by have := h.hz.len_; rw [bvs_len] at this; omega
theorem RT.chg (h : RT w r T x z t) (ht : Chg w w' R) (hs : ∀ i, T i → ¬ R i) : RT w' r T x z t :=
  ⟨h.b.chg ht (hs r h.sr), h.hx.chg ht fun k e => hs k (h.sx k e), h.hz.chg ht fun k e => hs k (h.sz k e), h.sr, h.sx, h.sz, fun i hi => Nat.lt_of_lt_of_le (h.lt i hi) ht.size, h.wf⟩
theorem RT.turn0 (h : RT w r T x z t) (ht : Turn w w' none) : RT w' r T x z t := h.chg (Chg.of0 ht fun _ => False) fun _ _ h => h
theorem RT.gx (h : RT w r T x z t) : blk x.A ≠ some r := h.hx.notB h.b (by decide)
theorem RT.gz (h : RT w r T x z t) : blk z.A ≠ some r := h.hz.notB h.b (by decide)
end
/-- The same, its parts left out. -/
def Rt16 (w : World) (r : Nat) (T : Nat → Prop) (t : Idt) : Prop := ∃ x z, RT w r T x z t
def Stq (w w' : World) (T : Nat → Prop) (r : Nat) (t : Idt) : Prop := Chg w w' T ∧ ∃ T', Rt16 w' r T' t ∧ ∀ i, T' i → T i ∨ w.heap.size ≤ i
section
variable {w w' w2 : World} {r : Nat} {T R : Nat → Prop} {t : Idt}
theorem Rt16.chg (h : Rt16 w r T t) (ht : Chg w w' R) (hs : ∀ i, T i → ¬ R i) : Rt16 w' r T t := by
  obtain ⟨x, z, h⟩ := h
  exact ⟨x, z, h.chg ht hs⟩
theorem Rt16.turn0 (h : Rt16 w r T t) (ht : Turn w w' none) : Rt16 w' r T t := h.chg (Chg.of0 ht fun _ => False) fun _ _ h => h
theorem Rt16.lt (h : Rt16 w r T t) {i : Nat} (hi : T i) : i < w.heap.size := by
  obtain ⟨x, z, h⟩ := h
  exact h.lt i hi
theorem Rt16.wf (h : Rt16 w r T t) : t.Wf := by
  obtain ⟨x, z, h⟩ := h
  exact h.wf
theorem Stq.same (h : Rt16 w r T t) (ht : Turn w w' none) : Stq w w' T r t := ⟨Chg.of0 ht T, T, h.turn0 ht, fun i hi => .inl hi⟩
end
theorem Stq.comp {w w2 w3 : World} {T T' : Nat → Prop} {r : Nat} {t : Idt} (hc : Chg w w2 T) (hk : ∀ i, T' i → T i ∨ w.heap.size ≤ i) (k : Stq w2 w3 T' r t) : Stq w w3 T r t := by
  obtain ⟨k1, S2, k2, k3⟩ := k
  exact ⟨hc.trans k1 hk, S2, k2, fun i hi => (k3 i hi).elim (hk i) fun h => .inr (Nat.le_trans hc.size h)⟩
theorem tx_list (l : List UInt8) : (txt l).toList = l := ByteArray.toList_mk l
theorem bdRtab (n : Int) : Try.prog.built 37 [(0, .int .u64 n)] = some ([.int .u64 n, .slice none 0 0, .slice none 0 0] : List Value).toArray := by kernel_rfl
set_option maxRecDepth 100000 in
set_option maxHeartbeats 800000 in
theorem rnew16_any (n : Nat) (w : World) :
    Calls Try.prog 7 #[.int .u64 (n : Int)] w fun e w' => ∃ r, e = .returned (.pointer (some ⟨r, 0, none⟩)) ∧ (∃ T, Rt16 w' r T (Idt.nu n) ∧ ∀ i, T i → w.heap.size ≤ i) ∧ Turn w w' none := by
  have key : ∀ q r w', q = (((Idt.nu n).lim : Nat) : Int) → w.heap.size = r → Blk w' r 37 ([.int .u64 q, .slice none 0 0, .slice none 0 0] : List Value).toArray → 
      ∃ T, Rt16 w' r T (Idt.nu n) ∧ (∀ i, T i → w.heap.size ≤ i) := by
    intro q r w' hq hg hb
    subst hq
    have hl := hb.lt
    refine ⟨fun i => i = r, ⟨⟨none, 0, 0⟩, ⟨none, 0, 0⟩, hb, Own.nil _ _ _ _, Own.nil _ _ _ _, rfl, ?_, ?_, ?_, Idt.nu_wf n⟩, ?_⟩
    · intro k e; cases e
    · intro k e; cases e
    · rintro i rfl; omega
    · rintro i rfl; omega
  by_cases hn : n ≤ 2147483647
  · have e : (n : Int) = (((Idt.nu n).lim : Nat) : Int) := by simp only [Idt.nu]; omega
    have E := hid e
    clear e
    go_enter Try.func7, Try.ntmps7
    go_wp2_with (first
      | (refine wp_bd rfl 37 _ rfl _ rfl _ (bdRtab _) ?_)
      | (refine wp_bx rfl 37 _ rfl rfl ?_; intro r w1 hg hb1 ht1))
    go_ret
    exact ⟨r, rfl, key _ r w1 E.out hg hb1, ht1⟩
  · have e : (2147483647 : Int) = (((Idt.nu n).lim : Nat) : Int) := by simp only [Idt.nu]; omega
    have E := hid e
    clear e
    go_enter Try.func7, Try.ntmps7
    go_wp2_with (first
      | (refine wp_bd rfl 37 _ rfl _ rfl _ (bdRtab _) ?_)
      | (refine wp_bx rfl 37 _ rfl rfl ?_; intro r w1 hg hb1 ht1))
    go_ret
    exact ⟨r, rfl, key _ r w1 E.out hg hb1, ht1⟩
section
variable {w : World} {r : Nat} {T : Nat → Prop} {x z : Slc} {t : Idt}
set_option maxRecDepth 100000 in
set_option maxHeartbeats 1600000 in
theorem rof16_any (h : RT w r T x z t) (hf : t.L.length ≤ 100000) (s : List UInt8) :
    Calls Try.prog 20 #[.pointer (some ⟨r, 0, none⟩), .string (txt s)] w fun e w' => e = .returned (.tuple #[.int .u64 ((t.of s : Nat) : Int), .bool (decide (t.of s ≠ 0))]) ∧ w = w' := by
  have hx := h.hx
  have xn := h.xn
  rw [xn] at hx
  have c1 : w.cell? ⟨r, 1, none⟩ = some (.slice x.A t.L.length x.c) := by rw [← xn]; exact h.b.ats rfl
  obtain ⟨F, hF⟩ : ∃ F, F = t.of s := ⟨_, rfl⟩
  rw [← hF]
  have HF := hid hF
  clear hF
  obtain ⟨N, hN⟩ : ∃ N, N = t.L.length := ⟨_, rfl⟩
  rw [← hN] at hx c1 hf
  have HN := hid hN
  clear hN
  go_enter Try.func20, Try.ntmps20
  go_wp2
  go_loopw [6] (fun i wr => ∃ j : Nat, j ≤ N ∧ i = .int .i64 (j : Int) ∧ Hid (∀ k, k < j → t.L[k]? ≠ some s) ∧ w = wr) (fun i _ => (N - intOf i).toNat)
  case atStart => exact ⟨0, by omega, rfl, hid (fun k hk => by omega), rfl⟩
  case round =>
    obtain ⟨j, hj, rfl, HJ, rfl⟩ := hrel
    by_cases hjn : j < N
    · obtain ⟨l, hl⟩ : ∃ l, t.L[j]? = some l := ⟨_, List.getElem?_eq_getElem (by have := HN.out; omega)⟩
      obtain ⟨gx, hA, _, _⟩ := hx.head (by omega)
      rw [hA] at hx c1
      have cx := hx.cell (i := j) (by omega)
      rw [tvs_at hl] at cx
      have hw1 : wrap64 ((j : Int) + 1) = (j : Int) + 1 := by unfold wrap64; omega
      by_cases hc : l = s
      · have HL := hid (show F = j + 1 by
          rw [HF.out, Idt.of, iPos_eq (by rw [hl, hc]) HJ.out, if_pos (by have := HN.out; omega)])
        subst hc
        clear hl
        go_wp2
        go_ret2
        exact ⟨by rw [HL.out]; rfl, rfl⟩
      · have HL := hid (show ∀ k, k < j + 1 → t.L[k]? ≠ some s by
          intro k hk e
          rcases Nat.lt_or_ge k j with c | c
          · exact HJ.out k c e
          · obtain rfl : k = j := by omega
            rw [hl] at e
            exact hc (Option.some.inj e))
        have hne : ¬ (txt l).toList = (txt s).toList := fun e => hc (by rw [tx_list, tx_list] at e; exact e)
        have hbe : ((txt l).toList == (txt s).toList) = false := by rw [beq_eq_false_iff_ne]; exact hne
        clear hl
        go_wp2
        refine ⟨⟨j + 1, by omega, rfl, HL, trivial⟩, ?_⟩
        simp [intOf]; omega
    · obtain rfl : j = N := by omega
      have HL := hid (show F = 0 by
        rw [HF.out, Idt.of, iPos_all (fun k hk => HJ.out k (by have := HN.out; omega)), if_neg (by omega)])
      go_wp2
      go_ret2
      exact ⟨by rw [HL.out]; rfl, rfl⟩
end
end Go.Proofs.Ytnkmpcepdjjopaa
