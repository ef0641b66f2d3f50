/-
  Layer 16, the document's table in memory: Bind, whole.
-/
import Derived.Test.YtnkmpcepdjjopaaIdT
namespace Go.Proofs.Ytnkmpcepdjjopaa
set_option linter.unusedSimpArgs false
set_option linter.unusedVariables false
open Go.RowKit

theorem iAt_lt {B : List (Nat × Nat)} {x j : Nat} {b : Nat × Nat} (h : j < iAt B x) (hb : B[j]? = some b) : b.1 < x := by
  induction B generalizing j with
  | nil => simp at hb
  | cons p l ih =>
    rw [iAt] at h
    split at h
    · rename_i c
      cases j with
      | zero => obtain rfl : p = b := by simpa using hb
                exact c
      | succ j => exact ih (j := j) (by omega) (by simpa using hb)
    · omega
theorem iAt_ge {B : List (Nat × Nat)} {x : Nat} {b : Nat × Nat} (hb : B[iAt B x]? = some b) : x ≤ b.1 := by
  induction B with
  | nil => simp at hb
  | cons p l ih =>
    rw [iAt] at hb
    split at hb
    · exact ih (by simpa using hb)
    · rename_i c
      obtain rfl : p = b := by simpa using hb
      omega
theorem bvs_two (a b : Nat) : bvs [(a, b)] = [Value.int .u64 (a : Int), .int .u64 (b : Int)] := rfl
theorem outAt_few {w : World} {base n c k j : Nat} {A : Option Addr} {B l : List (Nat × Nat)} {p : Nat × Nat} (h : Own w base 50 2 A n c (bvs l)) (e : l = outAt B k j p) (hj : j ≤ B.length) : n ≤ j + 1 := by
  have h1 := h.len_
  have h2 := outAt_len (k := k) (p := p) hj
  rw [bvs_len, e] at h1
  omega
section
variable {w : World} {r : Nat} {T : Nat → Prop} {x z : Slc} {t : Idt}
set_option maxRecDepth 100000 in
set_option maxHeartbeats 6400000 in
theorem rbindC16_any (h : RT w r T x z t) {q : Nat} {s : List UInt8} (hq : ¬ (q = 0 ∨ 2147483647 < q)) (hm : iMap t.B q = 0) (hk : ¬ (t.of s ≠ 0 ∧ ∃ p ∈ t.B, p.2 = t.of s)) (hf : t.B.length ≤ 100000) (hf2 : t.L.length < 100000) :
    Calls Try.prog 19 #[.pointer (some ⟨r, 0, none⟩), .int .u64 (q : Int), .string (txt s)] w fun e w' => e = .returned (.tuple #[.int .u64 (((t.bind q s).2.1 : Nat) : Int), .int .i64 (((t.bind q s).2.2 : Nat) : Int)]) ∧ Stq w w' T r (t.bind q s).1 := by
  have hb : t.bind q s = if (t.make s).2.2 ≠ 0 then ((t.make s).1, 0, (t.make s).2.2) else ({ (t.make s).1 with B := iIns q (t.make s).2.1 t.B }, (t.make s).2.1, 0) := by
    rw [Idt.bind, if_neg hq, if_neg (by omega), if_neg hk]
  have hwf := h.wf.bind q s
  have ko := rof16_any h (by omega) s
  have km := rmap16_any h hf q
  rw [hm, decide_eq_false (by simp)] at km
  have kM := rmake16_any h (s := s) (by omega)
  have hno := h.wf.nomap hm
  have hins := fun y => iAt_ins (y := y) h.wf.up hno
  have hat := iAt_le t.B q
  have hlt : ∀ j b, j < iAt t.B q → t.B[j]? = some b → b.1 < q := fun j b hj hb => iAt_lt hj hb
  have hge : ∀ b, t.B[iAt t.B q]? = some b → q < b.1 := fun b hb => by
    have h1 := iAt_ge hb
    have h2 := hno b (List.mem_of_getElem? hb)
    omega
  have hmB := t.make_B s
  have her : (t.make s).2.2 = 0 ∨ (t.make s).2.2 = 8 := by
    rcases t.make_cases s with ⟨_, h2⟩ | ⟨_, _, h2⟩ | ⟨_, _, h2⟩ <;> rw [h2] <;> simp
  obtain ⟨mk, hmk⟩ : ∃ mk, mk = t.make s := ⟨_, rfl⟩
  rw [← hmk] at hb kM hmB her
  obtain ⟨t1, id, er⟩ := mk
  simp only at hb kM hmB her
  obtain ⟨k, hk0⟩ : ∃ k, k = iAt t.B q := ⟨_, rfl⟩
  rw [← hk0] at hins hat hlt hge
  have hz := h.hz
  have zn := h.zn
  rw [zn] at hz
  have c2 : w.cell? ⟨r, 2, none⟩ = some (.slice z.A t.B.length z.c) := by rw [← zn]; exact h.b.ats rfl
  obtain ⟨i, hi⟩ : ∃ i, i = t.of s := ⟨_, rfl⟩
  rw [← hi] at ko hk
  obtain ⟨D, hD⟩ : ∃ D, D = decide (i ≠ 0) := ⟨_, rfl⟩
  rw [← hD] at ko
  have HD := hid hD
  obtain ⟨N, hN⟩ : ∃ N, N = t.B.length := ⟨_, rfl⟩
  rw [← hN] at hz c2 hf hat
  have HN := hid hN
  have HK := hid hk
  have HB := hid hb
  have HW := hid hwf
  have HI := hid hins
  have HLT := hid hlt
  have HGE := hid hge
  have HMB := hid hmB
  have q0 : ¬ q = 0 := by omega
  have q1 : ¬ 2147483647 < q := by omega
  have hq0 : ((q : Int) == 0) = false := by rw [beq_eq_false_iff_ne]; omega
  obtain ⟨RS, hRS⟩ : ∃ RS, RS = t.bind q s := ⟨_, rfl⟩
  rw [← hRS]
  have HR := hid hRS
  clear hN hk hi hm hq hD hb hwf hins hlt hge hmB hno hmk hk0 zn hRS
  go_enter Try.func19, Try.ntmps19
  go_wp2_with (first
    | (go_at_call 20; refine ko.mono ?_; rintro e w1 ⟨rfl, rfl⟩)
    | (go_at_call 23; refine km.mono ?_; rintro e w1 ⟨rfl, rfl⟩))
  go_loopw [12] (fun v wr => ∃ j : Nat, j ≤ N ∧ v = .int .i64 (j : Int) ∧ w = wr) (fun v _ => (N - intOf v).toNat)
  case atStart => exact ⟨0, by omega, rfl, rfl⟩
  case round =>
    obtain ⟨j, hj, rfl, rfl⟩ := hrel
    by_cases hjn : j < N
    · obtain ⟨p, hp⟩ : ∃ p, t.B[j]? = some p := ⟨_, List.getElem?_eq_getElem (by have := HN.out; omega)⟩
      obtain ⟨gz, hA, _, _⟩ := hz.head (by omega)
      rw [hA] at hz c2
      have cy : w.cell? ⟨gz, j * 2 + 1, none⟩ = some (.int .u64 (p.2 : Int)) := hz.bnd hp 1 _ rfl
      have hw1 : wrap64 ((j : Int) + 1) = (j : Int) + 1 := by unfold wrap64; omega
      cases D with
      | false =>
        clear hp
        go_wp2
        refine ⟨⟨j + 1, by omega, rfl, trivial⟩, ?_⟩
        simp [intOf]; omega
      | true =>
        have hne : ((p.2 : Int) == (i : Int)) = false := by
          rw [beq_eq_false_iff_ne]
          intro e
          exact HK.out ⟨by have := HD.out; simpa using this, p, List.mem_of_getElem? hp, by omega⟩
        clear hp
        go_wp2
        refine ⟨⟨j + 1, by omega, rfl, trivial⟩, ?_⟩
        simp [intOf]; omega
    · obtain rfl : N = j := by omega
      rcases her with rfl | rfl
      · have hb := HB.out
        rw [if_neg (by simp)] at hb
        obtain ⟨p, hp⟩ : ∃ p, p = (q, id) := ⟨_, rfl⟩
        have HP := hid hp
        clear hp
        go_upto_region 18 with (go_at_call 18; refine kM.mono ?_; rintro e w2 ⟨rfl, hc, T2, ⟨x2, z2, h2⟩, hk2⟩)
        have hB1 : t1.B = t.B := HMB.out
        have hz2 := h2.hz
        have zn2 := h2.zn
        rw [hB1] at hz2 zn2
        rw [zn2, ← HN.out] at hz2
        have B2 := h2.b
        have D2 : ∀ w', Turn w2 w' none → w'.cell? ⟨r, 2, none⟩ = some (.slice z2.A N z2.c) := fun w' T => by
          have := (h2.b.turn0 T).ats (j := 2) (v := z2.v) rfl
          rw [this, Slc.v, zn2, HN.out]
        have hO0 : Own (w2.alloc (.cells #[] 50)) w2.heap.size 50 2 (some ⟨w2.heap.size, 0, none⟩) 0 0 [] := Own.made w2 _ _ 2 0 #[] (Nat.le_refl _) (by decide) rfl
        have T0 : Turn w2 (w2.alloc (.cells #[] 50)) none := (Turn.refl w2 none).alloc _
        have hbd := bdBd (q : Int) (id : Int)
        clear c2 hz hjn hb B2
        go_wp2_with fail
        go_loopw [14, 15, 16] (fun o b v wr => ∃ (j : Nat) (O : Option Addr) (m c' : Nat) (l : List (Nat × Nat)), j ≤ N ∧ v = .int .i64 (j : Int) ∧ b = .bool (decide (k < j)) ∧ o = .slice O m c' ∧ Own wr w2.heap.size 50 2 O m c' (bvs l) ∧ Hid (l = outAt t.B k j p) ∧ Turn w2 wr none) (fun _ _ v _ => (N - intOf v).toNat)
        case atStart => exact ⟨0, _, 0, 0, [], by omega, rfl, by rw [decide_eq_false (by omega)], rfl, hO0, hid (outAt_zero _ _ _).symm, T0⟩
        case round =>
          obtain ⟨j, O, m, c', l, hj, rfl, rfl, rfl, hO, HL, htr⟩ := hrel
          have hmj := outAt_few hO HL.out (by have := HN.out; omega)
          clear hO0 T0
          have d2 := D2 _ htr
          have hw1 : wrap64 ((j : Int) + 1) = (j : Int) + 1 := by unfold wrap64; omega
          by_cases hjn : j < N
          · obtain ⟨b, hb⟩ : ∃ b, t.B[j]? = some b := ⟨_, List.getElem?_eq_getElem (by have := HN.out; omega)⟩
            obtain ⟨gz, hA, _, _⟩ := hz2.head (by omega)
            rw [hA] at hz2
            have D3 : ∀ w', Turn w2 w' none → w'.cell? ⟨r, 2, none⟩ = some (.slice (some ⟨gz, 0, none⟩) N z2.c) := fun w' T => by rw [← hA]; exact D2 w' T
            rw [hA] at d2
            have RZ : ∀ w', Turn w2 w' none → w'.rangeAt gz (j * 2) ([.int .u64 (b.1 : Int), .int .u64 (b.2 : Int)] : List Value) := fun w' T => (hz2.turn0 T).bnd hb
            have cb : wr.cell? ⟨gz, j * 2, none⟩ = some (.int .u64 (b.1 : Int)) := by have := RZ wr htr 0 _ rfl; rwa [Nat.add_zero] at this
            have R1 := RZ wr htr
            have hbase := htr.size
            rcases Nat.lt_trichotomy j k with hjk | hjk | hjk
            · have h1 := HLT.out j b hjk hb
              have HL2 := hid (show l ++ [b] = outAt t.B k (j + 1) p by rw [HL.out, outAt_put hb (by omega)])
              rw [decide_eq_false (show ¬ k < j by omega)]
              have e1 : decide (k < j + 1) = false := decide_eq_false (by omega)
              clear hb hz2 HL
              go_wp2_with (first
                | (refine wpList_load_mid rfl 50 _ rfl gz (j * 2) rfl [.int .u64 (b.1 : Int), .int .u64 (b.2 : Int)] _ R1 Try.underlying50 rfl szBd ?_)
                | (at_builtin; refine wp_appW rfl _ _ _ rfl elBd rfl rfl (hO.alloc _) (pLit wr (b.1 : Int) (b.2 : Int)) (by repeat (first | exact ones_nil | refine ones_cons rfl ?_)) (by unfold maxLen; first | omega | (simp; done) | (simp; omega)) (by first | omega | (simp; done) | (simp; omega)) (by show _ ≤ (wr.heap.push _).size; rw [Array.size_push]; omega) ?_; intro A3 c3 w3 ho3 ht3 hb3))
              rw [← bvs_two, ← bvs_app] at ho3
              refine ⟨⟨j + 1, A3, m + 1, c3, l ++ [b], by omega, rfl, by rw [e1], rfl, ho3, HL2, (htr.alloc _).new ht3 (fun g hg => (hO.block g hg).1)⟩, ?_⟩
              simp [intOf]; omega
            · subst hjk
              have h1 := HGE.out b hb
              have h1' : (q : Int) < (b.1 : Int) := by omega
              have HL2 := hid (show l ++ [p] ++ [b] = outAt t.B j (j + 1) p by rw [HL.out, outAt_both hb])
              rw [decide_eq_false (show ¬ j < j by omega)]
              have e1 : decide (j < j + 1) = true := decide_eq_true (by omega)
              clear hb hz2 HL
              go_upto_region 23 with (first
                | (refine wp_bd rfl 50 _ rfl _ rfl _ hbd ?_)
                | (at_builtin; refine wp_appW rfl _ _ _ rfl elBd rfl rfl (hO.alloc _) (pLit wr (q : Int) (id : Int)) (by repeat (first | exact ones_nil | refine ones_cons rfl ?_)) (by unfold maxLen; first | omega | (simp; done) | (simp; omega)) (by first | omega | (simp; done) | (simp; omega)) (by show _ ≤ (wr.heap.push _).size; rw [Array.size_push]; omega) ?_; intro A3 c3 w3 ho3 ht3 hb3))
              rw [← bvs_two, ← HP.out, ← bvs_app] at ho3
              have t3 : Turn w2 w3 none := (htr.alloc _).new ht3 (fun g hg => (hO.block g hg).1)
              have d3 := D3 _ t3
              have R3 := RZ _ t3
              have hbase3 := t3.size
              go_wp2_with (first
                | (refine wpList_load_mid rfl 50 _ rfl gz (j * 2) rfl [.int .u64 (b.1 : Int), .int .u64 (b.2 : Int)] _ R3 Try.underlying50 rfl szBd ?_)
                | (at_builtin; refine wp_appW rfl _ _ _ rfl elBd rfl rfl (ho3.alloc _) (pLit w3 (b.1 : Int) (b.2 : Int)) (by repeat (first | exact ones_nil | refine ones_cons rfl ?_)) (by unfold maxLen; first | omega | (simp; done) | (simp; omega)) (by first | omega | (simp; done) | (simp; omega)) (by show _ ≤ (w3.heap.push _).size; rw [Array.size_push]; omega) ?_; intro A4 c4 w4 ho4 ht4 hb4))
              rw [← bvs_two, ← bvs_app] at ho4
              refine ⟨⟨j + 1, A4, m + 1 + 1, c4, l ++ [p] ++ [b], by omega, rfl, by rw [e1], rfl, ho4, HL2, (t3.alloc _).new ht4 (fun g hg => (ho3.block g hg).1)⟩, ?_⟩
              simp [intOf]; omega
            · have HL2 := hid (show l ++ [b] = outAt t.B k (j + 1) p by rw [HL.out, outAt_put hb (by omega)])
              rw [decide_eq_true (show k < j by omega)]
              have e1 : decide (k < j + 1) = true := decide_eq_true (by omega)
              clear hb hz2 HL
              go_wp2_with (first
                | (refine wpList_load_mid rfl 50 _ rfl gz (j * 2) rfl [.int .u64 (b.1 : Int), .int .u64 (b.2 : Int)] _ R1 Try.underlying50 rfl szBd ?_)
                | (at_builtin; refine wp_appW rfl _ _ _ rfl elBd rfl rfl (hO.alloc _) (pLit wr (b.1 : Int) (b.2 : Int)) (by repeat (first | exact ones_nil | refine ones_cons rfl ?_)) (by unfold maxLen; first | omega | (simp; done) | (simp; omega)) (by first | omega | (simp; done) | (simp; omega)) (by show _ ≤ (wr.heap.push _).size; rw [Array.size_push]; omega) ?_; intro A3 c3 w3 ho3 ht3 hb3))
              rw [← bvs_two, ← bvs_app] at ho3
              refine ⟨⟨j + 1, A3, m + 1, c3, l ++ [b], by omega, rfl, by rw [e1], rfl, ho3, HL2, (htr.alloc _).new ht3 (fun g hg => (hO.block g hg).1)⟩, ?_⟩
              simp [intOf]; omega
          · obtain rfl : N = j := by omega
            have hbase := htr.size
            have hin := HI.out id
            have hb0 := HB.out
            rw [if_neg (by simp)] at hb0
            have key : ∀ (w4 : World) (A4 : Option Addr) (n4 c4 : Nat) (l4 : List (Nat × Nat)), l4 = iIns q id t.B → Own w4 w2.heap.size 50 2 A4 n4 c4 (bvs l4) → Turn w2 w4 none →
                Stq w (w4.setCell ⟨r, 2, none⟩ (.slice A4 n4 c4)) T r RS.1 := by
              intro w4 A4 n4 c4 l4 hl4 ho4 t4
              have B4 := (h2.b.turn0 t4).sets 2 (.slice A4 n4 c4)
              have T5 := Blk.setTurn w4 r 2 (.slice A4 n4 c4)
              have hx4 := h2.hx.turn0 t4
              have ho5 := ho4.turn T5 (.inr (ho4.notB (h2.b.turn0 t4) (by decide)))
              have hx5 := hx4.turn T5 (.inr (hx4.notB (h2.b.turn0 t4) (by decide)))
              have hwf := HW.out
              rw [HR.out]
              rw [hb0] at hwf ⊢
              have z4 := t4.size
              have z5 := T5.size
              have C4 : Chg w2 w4 T2 := Chg.of0 t4 T2
              have C5 : Chg w4 (w4.setCell ⟨r, 2, none⟩ (.slice A4 n4 c4)) T2 := Chg.of T5 fun i e => by injection e with e; exact e ▸ h2.sr
              refine Stq.comp hc hk2 ⟨C4.trans C5 fun i hi => .inl hi, fun i => T2 i ∨ blk A4 = some i, ⟨x2, ⟨A4, n4, c4⟩, B4, hx5, ?_, .inl h2.sr, fun k e => .inl (h2.sx k e), fun k e => .inr e, ?_, hwf⟩, ?_⟩
              · show Own _ 0 50 2 A4 n4 c4 (bvs (iIns q id t.B))
                rw [← hl4]
                exact ho5.mono (Nat.zero_le _)
              · rintro i (hi | hi)
                · have := h2.lt i hi; omega
                · exact (ho5.block i hi).2
              · rintro i (hi | hi)
                · exact .inl hi
                · exact .inr (ho4.block i hi).1
            have KEY := hid key
            have hRS : RS.2 = (id, 0) := by rw [HR.out, hb0]
            have HRS := hid hRS
            have fr := fun w4 (t4 : Turn w2 w4 none) => (h2.b.turn0 t4).frozen 2
            clear key hb0 hRS
            rcases Nat.lt_or_ge k N with hkN | hkN
            · have e4 : l = iIns q id t.B := by
                rw [hin, HL.out, ← HP.out]
                unfold outAt
                rw [if_neg (by omega), show (t.B.drop k).take (N - k) = t.B.drop k from List.take_of_length_le (by rw [List.length_drop]; have := HN.out; omega)]
              have E4 := hid e4
              clear e4 hin HL
              rw [decide_eq_true hkN]
              have f2 := fr _ htr
              go_wp2
              go_ret2
              have hf := KEY.out wr O m c' l E4.out hO htr
              exact ⟨by rw [HRS.out]; rfl, hf⟩
            · obtain rfl : k = N := by omega
              have e4 : l ++ [p] = iIns q id t.B := by
                rw [hin, HL.out, ← HP.out]
                unfold outAt
                rw [if_pos (Nat.le_refl _), show t.B.drop k = [] from List.drop_of_length_le (by have := HN.out; omega)]
              have E4 := hid e4
              clear e4 hin HL
              rw [decide_eq_false (by omega)]
              go_upto_region 26 with (first
                | (refine wp_bd rfl 50 _ rfl _ rfl _ hbd ?_)
                | (at_builtin; refine wp_appW rfl _ _ _ rfl elBd rfl rfl (hO.alloc _) (pLit wr (q : Int) (id : Int)) (by repeat (first | exact ones_nil | refine ones_cons rfl ?_)) (by unfold maxLen; first | omega | (simp; done) | (simp; omega)) (by first | omega | (simp; done) | (simp; omega)) (by show _ ≤ (wr.heap.push _).size; rw [Array.size_push]; omega) ?_; intro A3 c3 w3 ho3 ht3 hb3))
              rw [← bvs_two, ← HP.out, ← bvs_app] at ho3
              have t3 : Turn w2 w3 none := (htr.alloc _).new ht3 (fun g hg => (hO.block g hg).1)
              have f2 := fr _ t3
              have d3 := D2 _ t3
              go_wp2
              go_ret2
              have hf := KEY.out w3 A3 (m + 1) c3 (l ++ [p]) E4.out ho3 t3
              exact ⟨by rw [HRS.out]; rfl, hf⟩
      · have hb := HB.out
        rw [if_pos (by simp)] at hb
        have e := HR.out.trans hb
        have E := hid e
        clear e hb
        go_wp2_with (go_at_call 18; refine kM.mono ?_; rintro e w2 ⟨rfl, s2⟩)
        go_ret2
        exact ⟨by rw [E.out]; rfl, by rw [E.out]; exact s2⟩
end
end Go.Proofs.Ytnkmpcepdjjopaa
