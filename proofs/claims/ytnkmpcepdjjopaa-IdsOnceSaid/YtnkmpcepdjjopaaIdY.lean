/-
  Layer 16: IdsOnce's walk.
-/
import Derived.Test.YtnkmpcepdjjopaaIdX
namespace Go.Proofs.Ytnkmpcepdjjopaa
set_option linter.unusedSimpArgs false
set_option linter.unusedVariables false
open Go.RowKit

theorem take_put {L : List (List UInt8)} {k : Nat} {s : List UInt8} (h : L[k]? = some s) : L.take (k + 1) = L.take k ++ [s] := by rw [List.take_add_one, h]; rfl
theorem Idt.act_mem {t : Idt} {a : A16} {s : List UInt8} (h : s ∈ (t.act a).L) : s ∈ t.L ∨ s = a.s := by
  have hm : ∀ {s}, s ∈ (t.make a.s).1.L → s ∈ t.L ∨ s = a.s := by
    intro s h
    rcases t.make_cases a.s with ⟨_, h2⟩ | ⟨_, _, h2⟩ | ⟨_, _, h2⟩
    · rw [h2] at h; exact .inl h
    · rw [h2] at h; exact .inl h
    · rw [h2] at h
      rcases List.mem_append.1 h with h | h
      · exact .inl h
      · exact .inr (by simpa using h)
  unfold Idt.act at h
  split at h
  · exact hm h
  · rw [Idt.bind] at h
    split at h
    · exact .inl h
    split at h
    · split at h <;> exact .inl h
    split at h
    · exact .inl h
    split at h
    · exact hm h
    · exact hm h
theorem w64k {k : Nat} (h : k ≤ 1000) : wrap64 ((k : Int) + 1) = (k : Int) + 1 := by unfold wrap64; omega
theorem wU64k {k : Nat} (h : k ≤ 1000) : IntKind.u64.wrap ((k : Int) + 1) = (k : Int) + 1 := by rw [IntKind.wrap_u64]; omega
theorem text16_k {w : World} {g k : Nat} {S : Nat → Prop} {t : Idt} {s : List UInt8} (h : Pt w g S t) (hs : t.L[k]? = some s) (hl : t.L.length ≤ 1000) :
    Calls Try.prog 16 #[.pointer (some ⟨g, 0, none⟩), .int .u64 ((k : Int) + 1)] w fun e w' => e = .returned (.tuple #[.string (txt s), .bool true]) ∧ w = w' := by
  have hk := (List.getElem?_eq_some_iff.1 hs).1
  have kT := text16_pt h (by omega) (k + 1) (by omega)
  rw [Idt.text_at hs] at kT
  exact kT
theorem of16_k {w : World} {g k : Nat} {S : Nat → Prop} {t : Idt} {s : List UInt8} (h : Pt w g S t) (hs : t.L[k]? = some s) (hl : s.length ≤ maxLen) :
    Calls Try.prog 17 #[.pointer (some ⟨g, 0, none⟩), .string (txt s)] w fun e w' => e = .returned (.tuple #[.int .u64 ((k : Int) + 1), .bool true]) ∧ w = w' := by
  have kO := of16_pt h hl
  rw [Idt.of_at h.wf hs, decide_eq_true (show k + 1 ≠ 0 by omega)] at kO
  exact kO
theorem Idt.Wf.pair {t : Idt} (w : t.Wf) {i j : Nat} {p q : Nat × Nat} (h : i < j) (hp : t.B[i]? = some p) (hq : t.B[j]? = some q) : ((p.2 : Int) == (q.2 : Int)) = false ∧ (p.1 : Int) < (q.1 : Int) := by
  have hj := (List.getElem?_eq_some_iff.1 hq).1
  have h1 := (List.pairwise_iff_getElem.mp w.up) i j (by omega) hj h
  have h2 := (List.pairwise_iff_getElem.mp w.to) i j (by omega) hj h
  rw [List.getElem?_eq_getElem (by omega)] at hp
  rw [List.getElem?_eq_getElem hj] at hq
  have e1 := Option.some.inj hp
  have e2 := Option.some.inj hq
  rw [e1, e2] at h1 h2
  exact ⟨by rw [beq_eq_false_iff_ne]; omega, by omega⟩
theorem Ot.stp2 {w0 w w' : World} {g : Nat} {S S' : Nat → Prop} {t t' : Idt} (h : Ot w0 w g S t) (hc : Chg w w' S) (hp : Pt w' g S' t') (hk : ∀ i, S' i → S i ∨ w.heap.size ≤ i) : Ot w0 w' g S' t' := by
  have s0 := h.tw.size
  exact ⟨hp, fun k h1 => (hk k h1).elim (h.r0 k) (fun h3 => by omega), ((Chg.of0 h.tw S).trans hc fun i hi => .inl hi).turn h.r0⟩
set_option maxRecDepth 100000 in
set_option maxHeartbeats 6400000 in
theorem once16_walk (lim : Nat) (hlim : lim ≤ 18446744073709551615) (A : Option Addr) (n c : Nat) (l : List A16) (w : World) (hr : Ra16 w w.heap.size A n l) (hnc : n ≤ c) (hc : c ≤ maxLen) :
    Calls Try.prog 4 #[.int .u64 (lim : Int), .slice A n c] w fun e w' => e = .returned (.bool true) ∧ Turn w w' none := by
  have hn : n ≤ 9223372036854775807 := by unfold maxLen at hc; omega
  have kn := new16_any lim w hlim
  have kl := fun w => lives16_any w
  go_enter Try.func4, Try.ntmps4
  go_upto_region 4 with (go_at_call 6; refine kn.mono ?_; rintro e w1 ⟨g, rfl, ⟨S1, p1, r1⟩, t1⟩)
  have h0 : Own (w1.alloc (.cells #[] 9)) w.heap.size 9 1 (some ⟨w1.heap.size, 0, none⟩) 0 0 (tvs []) := Own.made w1 _ _ 1 0 #[] t1.size (by decide) rfl
  have o1 : Ot w (w1.alloc (.cells #[] 9)) g S1 (Idt.nu lim) := Ot.turn0 ⟨p1, r1, t1⟩ ((Turn.refl w1 none).alloc _)
  have n1 : ∀ k, blk (some (⟨w1.heap.size, 0, none⟩ : Addr)) = some k → ¬ S1 k := fun k e hS => by
    injection e with e
    have := p1.lt hS
    have e : w1.heap.size = k := e
    omega
  clear kn p1 r1 t1 hlim
  go_wp2_with fail
  go_loopw [6, 7] (fun ws i wr => ∃ (j : Nat) (S : Nat → Prop) (t : Idt) (D : Option Addr) (m d : Nat), j ≤ n ∧ j ≤ 60 ∧ i = .int .i64 (j : Int) ∧ ws = .slice D m d ∧ Ot w wr g S t ∧ Own wr w.heap.size 9 1 D m d (tvs t.L) ∧ (∀ k, blk D = some k → ¬ S k) ∧ t.L.length ≤ j ∧ t.B.length ≤ j ∧ Hid (∀ s ∈ t.L, s.length ≤ 140737488355328)) (fun _ i _ => (n - intOf i).toNat)
  case atStart => exact ⟨0, S1, _, _, 0, 0, by omega, by omega, rfl, rfl, o1, h0, n1, Nat.le_refl _, Nat.le_refl _, hid (fun s h => by cases h)⟩
  case round =>
    obtain ⟨j, S, t, D, m, d, hj, hj6, rfl, rfl, o, hD, nD, hL, hB, HT1⟩ := hrel
    clear o1 h0 n1
    have hw1 : wrap64 ((j : Int) + 1) = (j : Int) + 1 := by unfold wrap64; omega
    by_cases hjn : j < n
    · by_cases hj60 : j < 60
      · obtain ⟨a, ha⟩ : ∃ a, l[j]? = some a := ⟨_, List.getElem?_eq_getElem (by rw [hr.len]; exact hjn)⟩
        have hok := hr.ok a (List.mem_of_getElem? ha)
        obtain ⟨ab, ao, rfl, RA⟩ := hr.at_ ha
        have hfew := t.act_few a
        have tw := o.tw
        have hm : m = t.L.length := by have := hD.len; rw [tvs_len] at this; exact this.symm
        have ck := RA wr tw 0 _ rfl
        rw [Nat.add_zero] at ck
        have cs2 : wr.cell? ⟨ab, ao + j * 3 + 2, none⟩ = some (.string (txt a.s)) := RA wr tw 2 _ rfl
        have cs1 : ∀ W, Turn w W none → W.cell? ⟨ab, ao + j * 3 + 1, none⟩ = some (.int .u64 (a.x : Int)) := fun W T => RA W T 1 _ rfl
        have cs3 : ∀ W, Turn w W none → W.cell? ⟨ab, ao + j * 3 + 2, none⟩ = some (.string (txt a.s)) := fun W T => RA W T 2 _ rfl
        have kM := make16_pt o.p (s := a.s) hok.s (by omega)
        have kB := bindT16_pt (o.turn0 (Turn.refl wr none).drew).p (q := a.x) (s := a.s) hok.s (by omega) (by omega)
        have hpre : t.L <+: (t.act a).L := by
          unfold Idt.act
          split
          · exact t.make_pre a.s
          · exact t.bind_pre a.x a.s
        obtain ⟨t2, ht2⟩ : ∃ t2, t2 = t.act a := ⟨_, rfl⟩
        have HT2 := hid (show ∀ s ∈ t2.L, s.length ≤ 140737488355328 by
          intro s h
          rw [ht2] at h
          rcases Idt.act_mem h with h | h
          · exact HT1.out s h
          · rw [h]; exact hok.s)
        rw [← ht2] at hpre hfew
        have hL2 : t2.L.length ≤ j + 1 := by omega
        have hB2 : t2.B.length ≤ j + 1 := by omega
        have hl1000 : t2.L.length ≤ 1000 := by omega
        have hpl := hpre.length_le
        have htk : t.L = t2.L.take m := by rw [hm]; exact List.prefix_iff_eq_take.1 hpre
        rw [← hm] at hpl
        rw [htk] at hD
        have HTK := hid htk
        clear hpre htk hm
        by_cases hk : a.k = 0
        · have hact : (t.make a.s).1 = t2 := by rw [ht2]; unfold Idt.act; rw [if_pos hk]
          rw [hact] at kM
          rw [hk] at ck
          clear ht2 hfew hact
          go_upto_region 11 with (go_at_call 13; refine kM.mono ?_; rintro e w2 ⟨rfl, hc2, S2, hp2, hk2⟩)
          have o2 := o.stp2 hc2 hp2 hk2
          have hD2 := hD.chg hc2 nD
          have nD2 : ∀ k, blk D = some k → ¬ S2 k := fun k e h => (hk2 k h).elim (nD k e) fun h3 => by have := (hD.block k e).2; omega
          have hwf2 := o2.p.wf
          clear hw1 hD nD o hk2 hc2 hp2 kM kB hL hB cs1 cs2 cs3 ck RA
          go_wp2_with fail
          go_loopw [6, 8] (fun ws kk wr => ∃ (k m' : Nat) (D' : Option Addr) (d' : Nat), k ≤ t2.L.length ∧ kk = .int .i64 (k : Int) ∧ ws = .slice D' m' d' ∧ Ot w wr g S2 t2 ∧ Own wr w.heap.size 9 1 D' m' d' (tvs (t2.L.take m')) ∧ Hid (m' = max k m) ∧ (∀ q, blk D' = some q → ¬ S2 q)) (fun _ kk _ => (t2.L.length - intOf kk).toNat)
          case atStart => exact ⟨0, m, D, d, by omega, rfl, rfl, o2, hD2, hid (by omega), nD2⟩
          case round =>
            obtain ⟨k, m', D', d', hkl, rfl, rfl, o3, hD3, HM, nD3⟩ := hrel
            clear o2 hD2 nD2
            have hk62 : k ≤ 1000 := Nat.le_trans hkl (Nat.le_trans hL2 (Nat.succ_le_succ (Nat.le_trans hj6 (by decide))))
            have kLen := len16_pt o3.p
            by_cases hkn : k < t2.L.length
            · obtain ⟨s, hs⟩ : ∃ s, t2.L[k]? = some s := ⟨_, List.getElem?_eq_getElem hkn⟩
              have kT := text16_k o3.p hs hl1000
              have kO := of16_k o3.p hs (Nat.le_trans (HT2.out s (List.mem_of_getElem? hs)) (by decide))
              have hbe : ((txt s).toList == (txt s).toList) = true := beq_self_eq_true _
              obtain ⟨N2, hN2⟩ : ∃ N2, N2 = t2.L.length := ⟨_, rfl⟩
              rw [← hN2] at kLen hkn hkl
              have HS := hid hs
              have HN2 := hid hN2
              clear hs hN2
              by_cases hkm : k < m'
              · obtain ⟨gd, rfl, _, _⟩ := hD3.head (by omega)
                have cd := hD3.cell (i := k) (by omega)
                rw [tvs_at (l := s) (by rw [List.getElem?_take, if_pos hkm]; exact HS.out)] at cd
                have HM2 := hid (show m' = max (k + 1) m by have := HM.out; omega)
                have hmi : (k : Int) < (m' : Int) := by omega
                have hmn : ((k : Int) == (m' : Int)) = false := by rw [beq_eq_false_iff_ne]; omega
                have kb62 : (k : Int) ≤ 1000 := by omega
                go_wp2_with (first
                  | (go_at_call 15; refine kLen.mono ?_; rintro e w5 ⟨rfl, rfl⟩)
                  | (go_at_call 16; refine kT.mono ?_; rintro e w5 ⟨rfl, rfl⟩)
                  | (go_at_call 17; refine kO.mono ?_; rintro e w5 ⟨rfl, rfl⟩))
                refine ⟨⟨k + 1, m', _, d', by have := HN2.out; omega, rfl, rfl, o3, hD3, HM2, nD3⟩, ?_⟩
                have := HN2.out
                simp [intOf]; omega
              · obtain rfl : m' = k := by have := HM.out; omega
                have hz3 := o3.tw.size
                have HM2 := hid (show m' + 1 = max (m' + 1) m by have := HM.out; omega)
                have HT := hid (show tvs (t2.L.take (m' + 1)) = tvs (t2.L.take m') ++ [.string (txt s)] by rw [take_put HS.out, tvs_app]; rfl)
                have kb62 : (m' : Int) ≤ 1000 := by omega
                go_wp2_with (first
                  | (at_builtin; refine wp_appW rfl _ _ _ rfl elS rfl rfl (hD3.alloc _) (Rd.lit wr 9 [.string (txt s)]) (by repeat (first | exact ones_nil | refine ones_cons rfl ?_)) (by unfold maxLen; first | omega | (simp; done) | (simp; omega)) (by first | omega | (simp; done) | (simp; omega)) (by show _ ≤ (wr.heap.push _).size; rw [Array.size_push]; omega) ?_; intro D5 d5 w5 ho5 ht5 hb5)
                  | (go_at_call 15; refine kLen.mono ?_; rintro e w5 ⟨rfl, rfl⟩)
                  | (go_at_call 16; refine kT.mono ?_; rintro e w5 ⟨rfl, rfl⟩)
                  | (go_at_call 17; refine kO.mono ?_; rintro e w5 ⟨rfl, rfl⟩))
                rw [← HT.out] at ho5
                have C5 : Chg (wr.alloc (.cells #[.string (txt s)] 9)) w5 (fun i => blk D' = some i) := Chg.of_blk ht5 fun k e => e
                have o4 := o3.turn0 ((Turn.refl wr none).alloc (.cells #[.string (txt s)] 9))
                have o5 : Ot w w5 g S2 t2 := ⟨o4.p.chg C5 (fun i hi e => nD3 i e hi), o4.r0, o4.tw.new ht5 (fun q e => (hD3.block q e).1)⟩
                refine ⟨⟨m' + 1, m' + 1, D5, d5, by have := HN2.out; omega, rfl, rfl, o5, ho5, HM2, fun q e hS => ?_⟩, ?_⟩
                · rcases hb5 with h5 | h5
                  · exact nD3 q (h5 ▸ e) hS
                  · rw [h5] at e
                    injection e with e
                    have h6 := o3.p.lt hS
                    have h7 : (wr.alloc (.cells #[.string (txt s)] 9)).heap.size = wr.heap.size + 1 := Array.size_push ..
                    omega
                · have := HN2.out
                  simp [intOf]; omega
            · obtain rfl : t2.L.length = k := by omega
              have hmm : m' = t2.L.length := by have := HM.out; omega
              have kBo := bounds16_pt o3.p (Nat.le_trans hB2 (Nat.le_trans (Nat.succ_le_succ hj6) (by decide)))
              have hNB : t2.B.length ≤ 1000 := Nat.le_trans hB2 (Nat.le_trans (Nat.succ_le_succ hj6) (by decide))
              subst hmm
              rw [List.take_length] at hD3
              obtain ⟨N2, hN2⟩ : ∃ N2, N2 = t2.L.length := ⟨_, rfl⟩
              rw [← hN2] at kLen hD3
              rw [← hN2]
              have HN2 := hid hN2
              obtain ⟨NB, hNB2⟩ : ∃ NB, NB = t2.B.length := ⟨_, rfl⟩
              rw [← hNB2] at kBo hNB
              have HNB := hid hNB2
              have hl1k : N2 ≤ 1000 := by rw [hN2]; exact hl1000
              clear hN2 hNB2 hkl hkn hl1000 hpl
              obtain ⟨wv, hwv⟩ : ∃ wv : World, wv = wr := ⟨_, rfl⟩
              subst hwv
              go_wp2_with (first
                | (go_at_call 15; refine kLen.mono ?_; rintro e w5 ⟨rfl, rfl⟩)
                | (go_at_call 11; refine kBo.mono ?_; rintro e w4 ⟨BA, bc, rfl, hO4, t4⟩))
              go_loopw [14] (fun v wq => ∃ kk : Nat, kk ≤ NB ∧ v = .int .i64 (kk : Int) ∧ Turn w4 wq none) (fun v _ => (NB - intOf v).toNat)
              case atStart => exact ⟨0, Nat.zero_le _, rfl, Turn.refl w4 none⟩
              case round =>
                obtain ⟨kk, hkk, rfl, tq⟩ := hrel
                have hki : (kk : Int) ≤ 1000 := by omega
                obtain ⟨wo, hwo⟩ : ∃ wo : World, wo = wr := ⟨_, rfl⟩
                subst hwo
                by_cases hkb : kk < NB
                · obtain ⟨q, hq⟩ : ∃ q, t2.B[kk]? = some q := ⟨_, List.getElem?_eq_getElem (by have := HNB.out; omega)⟩
                  obtain ⟨gB, rfl, _, _⟩ := hO4.head (by omega)
                  have HQ := hid hq
                  have cq := fun {W} (T : Turn w4 W none) => (hO4.turn0 T).bnd hq
                  clear hq
                  go_wp2_with fail
                  go_loopw [15] (fun v wq => ∃ jj : Nat, jj ≤ kk ∧ v = .int .i64 (jj : Int) ∧ Turn w4 wq none) (fun v _ => (kk - intOf v).toNat)
                  case atStart => exact ⟨0, Nat.zero_le _, rfl, tq⟩
                  case round =>
                    obtain ⟨jj, hjj, rfl, tz⟩ := hrel
                    have hji : (jj : Int) ≤ 1000 := by omega
                    by_cases hjk : jj < kk
                    · obtain ⟨p, hp⟩ : ∃ p, t2.B[jj]? = some p := ⟨_, List.getElem?_eq_getElem (by have := HNB.out; omega)⟩
                      have hpq := hwf2.pair hjk hp HQ.out
                      have cp := (hO4.turn0 tz).bnd hp
                      have p0 : wr.cell? ⟨gB, jj * 2, none⟩ = some (.int .u64 (p.1 : Int)) := cp 0 _ rfl
                      have p1 : wr.cell? ⟨gB, jj * 2 + 1, none⟩ = some (.int .u64 (p.2 : Int)) := cp 1 _ rfl
                      have q0 : wr.cell? ⟨gB, kk * 2, none⟩ = some (.int .u64 (q.1 : Int)) := cq tz 0 _ rfl
                      have q1 : wr.cell? ⟨gB, kk * 2 + 1, none⟩ = some (.int .u64 (q.2 : Int)) := cq tz 1 _ rfl
                      have hne : ((p.2 : Int) == (q.2 : Int)) = false := hpq.1
                      have hlt : (p.1 : Int) < (q.1 : Int) := hpq.2
                      have hnl : ¬ (q.1 : Int) ≤ (p.1 : Int) := by omega
                      clear hp hpq cp
                      go_upto_region 27 with fail
                      go_quiet (fail)
                      go_wp2
                      refine ⟨⟨jj + 1, by omega, rfl, tz.drewN _⟩, ?_⟩
                      simp [intOf]; omega
                    · obtain rfl : kk = jj := by omega
                      go_wp2
                      refine ⟨⟨kk + 1, by omega, rfl, tz⟩, ?_⟩
                      simp [intOf]; omega
                · obtain rfl : NB = kk := by omega
                  have tt : Turn wv wo none := t4.trans tq
                  have o6 := o3.turn0 tt
                  have kL6 := len16_pt o6.p
                  rw [← HN2.out] at kL6
                  go_wp2_with (go_at_call 15; refine kL6.mono ?_; rintro e w5 ⟨rfl, rfl⟩)
                  refine ⟨⟨j + 1, S2, t2, D', N2, d', by omega, by omega, rfl, rfl, o6, hD3.turn0 tt, nD3, hL2, hB2, HT2⟩, ?_⟩
                  simp [intOf]; omega
        · have hact : (t.bind a.x a.s).1 = t2 := by rw [ht2]; unfold Idt.act; rw [if_neg hk]
          have hk0 : (a.k == 0) = false := by rw [beq_eq_false_iff_ne]; exact hk
          rw [hact] at kB
          clear ht2 hfew hact
          go_upto_region 10 with fail
          refine wp_region_noPanic ?_
          refine wp_region_held_drew (S := fun W => Turn w W none) (by kernel_rfl) tw.drew (fun hHeld => ?_)
          (first | (refine wpAnyH_take (i := 0) (v := undef) rfl (by kernel_rfl) (by kernel_rfl) (by kernel_rfl) (fun _ _ _ h => h) (Or.inr ⟨rfl, rfl⟩) (by assumption) ?_) | (refine wpAnyH_take (i := 0) (v := ?_) rfl (by kernel_rfl) (by kernel_rfl) (by kernel_rfl) (fun _ _ _ h => h) (Or.inl ⟨rfl, ?_⟩) (by assumption) ?_; rotate_left 1; · (intro w hSw; (try dsimp only at hSw); go_simp; (try with_reducible rfl)))); (try simp only [Act.put, List.getElem_toArray, List.getElem_cons_zero, List.getElem_cons_succ, List.setIfInBounds_toArray, List.set_cons_zero, List.set_cons_succ])
          (first | (refine wpAnyH_take (i := 1) (v := undef) rfl (by kernel_rfl) (by kernel_rfl) (by kernel_rfl) (fun _ _ _ h => h) (Or.inr ⟨rfl, rfl⟩) (by assumption) ?_) | (refine wpAnyH_take (i := 1) (v := ?_) rfl (by kernel_rfl) (by kernel_rfl) (by kernel_rfl) (fun _ _ _ h => h) (Or.inl ⟨rfl, ?_⟩) (by assumption) ?_; rotate_left 1; · (intro w hSw; (try dsimp only at hSw); go_simp; (try with_reducible rfl)))); (try simp only [Act.put, List.getElem_toArray, List.getElem_cons_zero, List.getElem_cons_succ, List.setIfInBounds_toArray, List.set_cons_zero, List.set_cons_succ])
          (first | (refine wpAnyH_take (i := 2) (v := undef) rfl (by kernel_rfl) (by kernel_rfl) (by kernel_rfl) (fun _ _ _ h => h) (Or.inr ⟨rfl, rfl⟩) (by assumption) ?_) | (refine wpAnyH_take (i := 2) (v := ?_) rfl (by kernel_rfl) (by kernel_rfl) (by kernel_rfl) (fun _ _ _ h => h) (Or.inl ⟨rfl, ?_⟩) (by assumption) ?_; rotate_left 1; · (intro w hSw; (try dsimp only at hSw); go_simp; (try with_reducible rfl)))); (try simp only [Act.put, List.getElem_toArray, List.getElem_cons_zero, List.getElem_cons_succ, List.setIfInBounds_toArray, List.set_cons_zero, List.set_cons_succ])
          (first | (refine wpAnyH_take (i := 3) (v := undef) rfl (by kernel_rfl) (by kernel_rfl) (by kernel_rfl) (fun _ _ _ h => h) (Or.inr ⟨rfl, rfl⟩) (by assumption) ?_) | (refine wpAnyH_take (i := 3) (v := ?_) rfl (by kernel_rfl) (by kernel_rfl) (by kernel_rfl) (fun _ _ _ h => h) (Or.inl ⟨rfl, ?_⟩) (by assumption) ?_; rotate_left 1; · (intro w hSw; (try dsimp only at hSw); go_simp; (try with_reducible rfl)))); (try simp only [Act.put, List.getElem_toArray, List.getElem_cons_zero, List.getElem_cons_succ, List.setIfInBounds_toArray, List.set_cons_zero, List.set_cons_succ])
          (first | (refine wpAnyH_take (i := 4) (v := undef) rfl (by kernel_rfl) (by kernel_rfl) (by kernel_rfl) (fun _ _ _ h => h) (Or.inr ⟨rfl, rfl⟩) (by assumption) ?_) | (refine wpAnyH_take (i := 4) (v := ?_) rfl (by kernel_rfl) (by kernel_rfl) (by kernel_rfl) (fun _ _ _ h => h) (Or.inl ⟨rfl, ?_⟩) (by assumption) ?_; rotate_left 1; · (intro w hSw; (try dsimp only at hSw); go_simp; (try with_reducible rfl)))); (try simp only [Act.put, List.getElem_toArray, List.getElem_cons_zero, List.getElem_cons_succ, List.setIfInBounds_toArray, List.set_cons_zero, List.set_cons_succ])
          (first | (refine wpAnyH_take (i := 5) (v := undef) rfl (by kernel_rfl) (by kernel_rfl) (by kernel_rfl) (fun _ _ _ h => h) (Or.inr ⟨rfl, rfl⟩) (by assumption) ?_) | (refine wpAnyH_take (i := 5) (v := ?_) rfl (by kernel_rfl) (by kernel_rfl) (by kernel_rfl) (fun _ _ _ h => h) (Or.inl ⟨rfl, ?_⟩) (by assumption) ?_; rotate_left 1; · (intro w hSw; (try dsimp only at hSw); go_simp; (try with_reducible rfl)))); (try simp only [Act.put, List.getElem_toArray, List.getElem_cons_zero, List.getElem_cons_succ, List.setIfInBounds_toArray, List.set_cons_zero, List.set_cons_succ])
          (first | (refine wpAnyH_take (i := 6) (v := undef) rfl (by kernel_rfl) (by kernel_rfl) (by kernel_rfl) (fun _ _ _ h => h) (Or.inr ⟨rfl, rfl⟩) (by assumption) ?_) | (refine wpAnyH_take (i := 6) (v := ?_) rfl (by kernel_rfl) (by kernel_rfl) (by kernel_rfl) (fun _ _ _ h => h) (Or.inl ⟨rfl, ?_⟩) (by assumption) ?_; rotate_left 1; · (intro w hSw; (try dsimp only at hSw); go_simp; (try with_reducible rfl)))); (try simp only [Act.put, List.getElem_toArray, List.getElem_cons_zero, List.getElem_cons_succ, List.setIfInBounds_toArray, List.set_cons_zero, List.set_cons_succ])
          (first | (refine wpAnyH_take (i := 7) (v := undef) rfl (by kernel_rfl) (by kernel_rfl) (by kernel_rfl) (fun _ _ _ h => h) (Or.inr ⟨rfl, rfl⟩) (by assumption) ?_) | (refine wpAnyH_take (i := 7) (v := ?_) rfl (by kernel_rfl) (by kernel_rfl) (by kernel_rfl) (fun _ _ _ h => h) (Or.inl ⟨rfl, ?_⟩) (by assumption) ?_; rotate_left 1; · (intro w hSw; (try dsimp only at hSw); go_simp; (try with_reducible rfl)))); (try simp only [Act.put, List.getElem_toArray, List.getElem_cons_zero, List.getElem_cons_succ, List.setIfInBounds_toArray, List.set_cons_zero, List.set_cons_succ])
          (first | (refine wpAnyH_take (i := 8) (v := undef) rfl (by kernel_rfl) (by kernel_rfl) (by kernel_rfl) (fun _ _ _ h => h) (Or.inr ⟨rfl, rfl⟩) (by assumption) ?_) | (refine wpAnyH_take (i := 8) (v := ?_) rfl (by kernel_rfl) (by kernel_rfl) (by kernel_rfl) (fun _ _ _ h => h) (Or.inl ⟨rfl, ?_⟩) (by assumption) ?_; rotate_left 1; · (intro w hSw; (try dsimp only at hSw); go_simp; (try with_reducible rfl)))); (try simp only [Act.put, List.getElem_toArray, List.getElem_cons_zero, List.getElem_cons_succ, List.setIfInBounds_toArray, List.set_cons_zero, List.set_cons_succ])
          (first | (refine wpAnyH_take (i := 9) (v := undef) rfl (by kernel_rfl) (by kernel_rfl) (by kernel_rfl) (fun _ _ _ h => h) (Or.inr ⟨rfl, rfl⟩) (by assumption) ?_) | (refine wpAnyH_take (i := 9) (v := ?_) rfl (by kernel_rfl) (by kernel_rfl) (by kernel_rfl) (fun _ _ _ h => h) (Or.inl ⟨rfl, ?_⟩) (by assumption) ?_; rotate_left 1; · (intro w hSw; (try dsimp only at hSw); go_simp; (try with_reducible rfl)))); (try simp only [Act.put, List.getElem_toArray, List.getElem_cons_zero, List.getElem_cons_succ, List.setIfInBounds_toArray, List.set_cons_zero, List.set_cons_succ])
          (first | (refine wpAnyH_take (i := 10) (v := undef) rfl (by kernel_rfl) (by kernel_rfl) (by kernel_rfl) (fun _ _ _ h => h) (Or.inr ⟨rfl, rfl⟩) (by assumption) ?_) | (refine wpAnyH_take (i := 10) (v := ?_) rfl (by kernel_rfl) (by kernel_rfl) (by kernel_rfl) (fun _ _ _ h => h) (Or.inl ⟨rfl, ?_⟩) (by assumption) ?_; rotate_left 1; · (intro w hSw; (try dsimp only at hSw); go_simp; (try with_reducible rfl)))); (try simp only [Act.put, List.getElem_toArray, List.getElem_cons_zero, List.getElem_cons_succ, List.setIfInBounds_toArray, List.set_cons_zero, List.set_cons_succ])
          refine wpAnyH_ready (rs := [11]) (by kernel_rfl) (by simp) ?_
          refine AllReadyH.cons rfl (fun K hK => ?_) AllReadyH.nil
          go_simp
          refine kB.mono ?_
          rintro e w2 ⟨rfl, hc2, S2, hp2, hk2⟩
          go_simp
          have o2 := (o.turn0 (Turn.refl wr none).drew).stp2 hc2 hp2 hk2
          have hD2 := hD.drew.chg hc2 nD
          have nD2 : ∀ k, blk D = some k → ¬ S2 k := fun k e h => (hk2 k h).elim (nD k e) fun h3 => by have := (hD.drew.block k e).2; omega
          refine hK.out _ _ (o2.tw) (fun hHeld => ?_)
          clear hK K
          (try simp only [Act.put, List.getElem_toArray, List.getElem_cons_zero, List.getElem_cons_succ, List.setIfInBounds_toArray, List.set_cons_zero, List.set_cons_succ])
          refine wpAnyH_done (by kernel_rfl) ?_ _
          refine NoPanic.normal ?_
          clear hHeld
          go_upto_region 11 with fail
          have hwf2 := o2.p.wf
          clear hw1 hD nD o hk2 hc2 hp2 kM kB hL hB cs1 cs2 cs3 ck RA
          go_wp2_with fail
          go_loopw [6, 8] (fun ws kk wr => ∃ (k m' : Nat) (D' : Option Addr) (d' : Nat), k ≤ t2.L.length ∧ kk = .int .i64 (k : Int) ∧ ws = .slice D' m' d' ∧ Ot w wr g S2 t2 ∧ Own wr w.heap.size 9 1 D' m' d' (tvs (t2.L.take m')) ∧ Hid (m' = max k m) ∧ (∀ q, blk D' = some q → ¬ S2 q)) (fun _ kk _ => (t2.L.length - intOf kk).toNat)
          case atStart => exact ⟨0, m, D, d, by omega, rfl, rfl, o2, hD2, hid (by omega), nD2⟩
          case round =>
            obtain ⟨k, m', D', d', hkl, rfl, rfl, o3, hD3, HM, nD3⟩ := hrel
            clear o2 hD2 nD2
            have hk62 : k ≤ 1000 := Nat.le_trans hkl (Nat.le_trans hL2 (Nat.succ_le_succ (Nat.le_trans hj6 (by decide))))
            have kLen := len16_pt o3.p
            by_cases hkn : k < t2.L.length
            · obtain ⟨s, hs⟩ : ∃ s, t2.L[k]? = some s := ⟨_, List.getElem?_eq_getElem hkn⟩
              have kT := text16_k o3.p hs hl1000
              have kO := of16_k o3.p hs (Nat.le_trans (HT2.out s (List.mem_of_getElem? hs)) (by decide))
              have hbe : ((txt s).toList == (txt s).toList) = true := beq_self_eq_true _
              obtain ⟨N2, hN2⟩ : ∃ N2, N2 = t2.L.length := ⟨_, rfl⟩
              rw [← hN2] at kLen hkn hkl
              have HS := hid hs
              have HN2 := hid hN2
              clear hs hN2
              by_cases hkm : k < m'
              · obtain ⟨gd, rfl, _, _⟩ := hD3.head (by omega)
                have cd := hD3.cell (i := k) (by omega)
                rw [tvs_at (l := s) (by rw [List.getElem?_take, if_pos hkm]; exact HS.out)] at cd
                have HM2 := hid (show m' = max (k + 1) m by have := HM.out; omega)
                have hmi : (k : Int) < (m' : Int) := by omega
                have hmn : ((k : Int) == (m' : Int)) = false := by rw [beq_eq_false_iff_ne]; omega
                have kb62 : (k : Int) ≤ 1000 := by omega
                go_wp2_with (first
                  | (go_at_call 15; refine kLen.mono ?_; rintro e w5 ⟨rfl, rfl⟩)
                  | (go_at_call 16; refine kT.mono ?_; rintro e w5 ⟨rfl, rfl⟩)
                  | (go_at_call 17; refine kO.mono ?_; rintro e w5 ⟨rfl, rfl⟩))
                refine ⟨⟨k + 1, m', _, d', by have := HN2.out; omega, rfl, rfl, o3, hD3, HM2, nD3⟩, ?_⟩
                have := HN2.out
                simp [intOf]; omega
              · obtain rfl : m' = k := by have := HM.out; omega
                have hz3 := o3.tw.size
                have HM2 := hid (show m' + 1 = max (m' + 1) m by have := HM.out; omega)
                have HT := hid (show tvs (t2.L.take (m' + 1)) = tvs (t2.L.take m') ++ [.string (txt s)] by rw [take_put HS.out, tvs_app]; rfl)
                have kb62 : (m' : Int) ≤ 1000 := by omega
                go_wp2_with (first
                  | (at_builtin; refine wp_appW rfl _ _ _ rfl elS rfl rfl (hD3.alloc _) (Rd.lit wr 9 [.string (txt s)]) (by repeat (first | exact ones_nil | refine ones_cons rfl ?_)) (by unfold maxLen; first | omega | (simp; done) | (simp; omega)) (by first | omega | (simp; done) | (simp; omega)) (by show _ ≤ (wr.heap.push _).size; rw [Array.size_push]; omega) ?_; intro D5 d5 w5 ho5 ht5 hb5)
                  | (go_at_call 15; refine kLen.mono ?_; rintro e w5 ⟨rfl, rfl⟩)
                  | (go_at_call 16; refine kT.mono ?_; rintro e w5 ⟨rfl, rfl⟩)
                  | (go_at_call 17; refine kO.mono ?_; rintro e w5 ⟨rfl, rfl⟩))
                rw [← HT.out] at ho5
                have C5 : Chg (wr.alloc (.cells #[.string (txt s)] 9)) w5 (fun i => blk D' = some i) := Chg.of_blk ht5 fun k e => e
                have o4 := o3.turn0 ((Turn.refl wr none).alloc (.cells #[.string (txt s)] 9))
                have o5 : Ot w w5 g S2 t2 := ⟨o4.p.chg C5 (fun i hi e => nD3 i e hi), o4.r0, o4.tw.new ht5 (fun q e => (hD3.block q e).1)⟩
                refine ⟨⟨m' + 1, m' + 1, D5, d5, by have := HN2.out; omega, rfl, rfl, o5, ho5, HM2, fun q e hS => ?_⟩, ?_⟩
                · rcases hb5 with h5 | h5
                  · exact nD3 q (h5 ▸ e) hS
                  · rw [h5] at e
                    injection e with e
                    have h6 := o3.p.lt hS
                    have h7 : (wr.alloc (.cells #[.string (txt s)] 9)).heap.size = wr.heap.size + 1 := Array.size_push ..
                    omega
                · have := HN2.out
                  simp [intOf]; omega
            · obtain rfl : t2.L.length = k := by omega
              have hmm : m' = t2.L.length := by have := HM.out; omega
              have kBo := bounds16_pt o3.p (Nat.le_trans hB2 (Nat.le_trans (Nat.succ_le_succ hj6) (by decide)))
              have hNB : t2.B.length ≤ 1000 := Nat.le_trans hB2 (Nat.le_trans (Nat.succ_le_succ hj6) (by decide))
              subst hmm
              rw [List.take_length] at hD3
              obtain ⟨N2, hN2⟩ : ∃ N2, N2 = t2.L.length := ⟨_, rfl⟩
              rw [← hN2] at kLen hD3
              rw [← hN2]
              have HN2 := hid hN2
              obtain ⟨NB, hNB2⟩ : ∃ NB, NB = t2.B.length := ⟨_, rfl⟩
              rw [← hNB2] at kBo hNB
              have HNB := hid hNB2
              have hl1k : N2 ≤ 1000 := by rw [hN2]; exact hl1000
              clear hN2 hNB2 hkl hkn hl1000 hpl
              obtain ⟨wv, hwv⟩ : ∃ wv : World, wv = wr := ⟨_, rfl⟩
              subst hwv
              go_wp2_with (first
                | (go_at_call 15; refine kLen.mono ?_; rintro e w5 ⟨rfl, rfl⟩)
                | (go_at_call 11; refine kBo.mono ?_; rintro e w4 ⟨BA, bc, rfl, hO4, t4⟩))
              go_loopw [14] (fun v wq => ∃ kk : Nat, kk ≤ NB ∧ v = .int .i64 (kk : Int) ∧ Turn w4 wq none) (fun v _ => (NB - intOf v).toNat)
              case atStart => exact ⟨0, Nat.zero_le _, rfl, Turn.refl w4 none⟩
              case round =>
                obtain ⟨kk, hkk, rfl, tq⟩ := hrel
                have hki : (kk : Int) ≤ 1000 := by omega
                obtain ⟨wo, hwo⟩ : ∃ wo : World, wo = wr := ⟨_, rfl⟩
                subst hwo
                by_cases hkb : kk < NB
                · obtain ⟨q, hq⟩ : ∃ q, t2.B[kk]? = some q := ⟨_, List.getElem?_eq_getElem (by have := HNB.out; omega)⟩
                  obtain ⟨gB, rfl, _, _⟩ := hO4.head (by omega)
                  have HQ := hid hq
                  have cq := fun {W} (T : Turn w4 W none) => (hO4.turn0 T).bnd hq
                  clear hq
                  go_wp2_with fail
                  go_loopw [15] (fun v wq => ∃ jj : Nat, jj ≤ kk ∧ v = .int .i64 (jj : Int) ∧ Turn w4 wq none) (fun v _ => (kk - intOf v).toNat)
                  case atStart => exact ⟨0, Nat.zero_le _, rfl, tq⟩
                  case round =>
                    obtain ⟨jj, hjj, rfl, tz⟩ := hrel
                    have hji : (jj : Int) ≤ 1000 := by omega
                    by_cases hjk : jj < kk
                    · obtain ⟨p, hp⟩ : ∃ p, t2.B[jj]? = some p := ⟨_, List.getElem?_eq_getElem (by have := HNB.out; omega)⟩
                      have hpq := hwf2.pair hjk hp HQ.out
                      have cp := (hO4.turn0 tz).bnd hp
                      have p0 : wr.cell? ⟨gB, jj * 2, none⟩ = some (.int .u64 (p.1 : Int)) := cp 0 _ rfl
                      have p1 : wr.cell? ⟨gB, jj * 2 + 1, none⟩ = some (.int .u64 (p.2 : Int)) := cp 1 _ rfl
                      have q0 : wr.cell? ⟨gB, kk * 2, none⟩ = some (.int .u64 (q.1 : Int)) := cq tz 0 _ rfl
                      have q1 : wr.cell? ⟨gB, kk * 2 + 1, none⟩ = some (.int .u64 (q.2 : Int)) := cq tz 1 _ rfl
                      have hne : ((p.2 : Int) == (q.2 : Int)) = false := hpq.1
                      have hlt : (p.1 : Int) < (q.1 : Int) := hpq.2
                      have hnl : ¬ (q.1 : Int) ≤ (p.1 : Int) := by omega
                      clear hp hpq cp
                      go_upto_region 27 with fail
                      go_quiet (fail)
                      go_wp2
                      refine ⟨⟨jj + 1, by omega, rfl, tz.drewN _⟩, ?_⟩
                      simp [intOf]; omega
                    · obtain rfl : kk = jj := by omega
                      go_wp2
                      refine ⟨⟨kk + 1, by omega, rfl, tz⟩, ?_⟩
                      simp [intOf]; omega
                · obtain rfl : NB = kk := by omega
                  have tt : Turn wv wo none := t4.trans tq
                  have o6 := o3.turn0 tt
                  have kL6 := len16_pt o6.p
                  rw [← HN2.out] at kL6
                  go_wp2_with (go_at_call 15; refine kL6.mono ?_; rintro e w5 ⟨rfl, rfl⟩)
                  refine ⟨⟨j + 1, S2, t2, D', N2, d', by omega, by omega, rfl, rfl, o6, hD3.turn0 tt, nD3, hL2, hB2, HT2⟩, ?_⟩
                  simp [intOf]; omega
      · obtain rfl : j = 60 := by omega
        go_wp2_with (go_at_call 12; refine (kl _).mono ?_; rintro e w5 ⟨rfl, t5⟩)
        go_ret
        exact ⟨rfl, o.tw.trans t5⟩
    · obtain rfl : n = j := by omega
      go_wp2_with (go_at_call 12; refine (kl _).mono ?_; rintro e w5 ⟨rfl, t5⟩)
      go_ret
      exact ⟨rfl, o.tw.trans t5⟩
theorem once16_read (lim : Int) (h0 : 0 ≤ lim) (h1 : lim ≤ 18446744073709551615) (A : Option Addr) (n c : Nat) (l : List A16) (w : World) (hr : Ra16 w w.heap.size A n l) (hnc : n ≤ c) (hc : c ≤ maxLen) :
    Calls Try.prog 4 #[.int .u64 lim, .slice A n c] w fun e w' => e = .returned (.bool true) ∧ Turn w w' none := by
  obtain ⟨k, rfl⟩ : ∃ k : Nat, lim = (k : Int) := ⟨lim.toNat, by omega⟩
  exact once16_walk k (by omega) A n c l w hr hnc hc
end Go.Proofs.Ytnkmpcepdjjopaa
