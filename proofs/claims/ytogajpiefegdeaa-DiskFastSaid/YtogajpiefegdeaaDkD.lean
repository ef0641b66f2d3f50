/-
  Layer 14: what remains of a file; Read, Sync (contracts of the code).
-/
import Derived.Test.YtogajpiefegdeaaDkC
namespace Go.Proofs.Ytogajpiefegdeaa
set_option linter.unusedSimpArgs false
set_option linter.unusedVariables false
open Go.RowKit

theorem sl_none {w : World} {xs : List Value} {n c : Nat} (h : Own w 0 5 1 none n c xs) : n = 0 ∧ c = 0 := by
  rcases h.2 with ⟨hv, h0⟩ | ⟨g, cap, cur, hv, _⟩
  · injection hv with _ a b; exact ⟨a, b⟩
  · injection hv with a; cases a
theorem pre_le {f : Fi} {x y : Nat} (hi : f.is = false) (hx : x = f.all.length) (hy : y = f.fa.length) : y + f.mo.length = x := by
  rw [hx, hy, Fi.all_pre hi, List.length_append]

set_option maxRecDepth 100000 in
set_option maxHeartbeats 3200000 in
theorem remains_any {w : World} {S : Nat → Prop} {f : Fi} {v u : Sl} (h : Fil w S f v u) (hk : f.Ok) (keep : Int) (k0 : -9223372036854775808 ≤ keep) (k1 : keep ≤ 9223372036854775807) (A : Option Addr) (n c : Nat) (t : List UInt8) (B : Nat)
    (hr : Rd w B 1 A n (vbs t)) (hB : B ≤ w.heap.size) (hn : n ≤ 140737488351232) (hnc : n ≤ c) (hc : c ≤ maxLen) (hS : ∀ k, S k → k < w.heap.size) :
    Calls Try.prog 32 #[.agg (fc f v u).toArray, .int .i64 keep, .slice A n c] w fun e w' =>
      ∃ r : Sl, e = .returned r.v ∧ Own w' 0 5 1 r.A r.n r.c (vbs (f.left keep t)) ∧ (∀ g, blk r.A = some g → S g ∨ (w.heap.size ≤ g ∧ g < w'.heap.size)) ∧ Turn w w' none := by
  have hvn := h.vn
  have hun := h.un
  have hfa := hk.fa
  have hal := hk.all
  cases hi : f.is with
  | true =>
    have hcs : fc f v u = [.slice v.A v.n v.c, .slice u.A u.n u.c, .bool true] := by simp [fc, hi, Sl.v]
    rw [hcs]
    by_cases hp : 0 < keep
    · have e : f.left keep t = f.all := by simp [Fi.left, hi, hp]
      rw [e]
      clear e hvn hun
      go_enter Try.func32, Try.ntmps32
      go_wp2_with (first
        | (refine wp_bx rfl 53 _ rfl rfl ?_; intro g1 w1 hg1 hb1 ht1; have c0 := hb1.ats (j := 0) (v := .slice v.A v.n v.c) rfl; have c2 := hb1.ats (j := 2) (v := .bool true) rfl))
      go_ret
      exact ⟨v, rfl, h.hv.turn0 ht1, fun g hg => .inl (h.sv g hg), ht1⟩
    · have e : f.left keep t = f.fa := by simp [Fi.left, hi, hp]
      rw [e]
      clear e hvn hun
      go_enter Try.func32, Try.ntmps32
      go_wp2_with (first
        | (refine wp_bx rfl 53 _ rfl rfl ?_; intro g1 w1 hg1 hb1 ht1; have c1 := hb1.ats (j := 1) (v := .slice u.A u.n u.c) rfl; have c2 := hb1.ats (j := 2) (v := .bool true) rfl))
      go_ret
      exact ⟨u, rfl, h.hu.turn0 ht1, fun g hg => .inl (h.su g hg), ht1⟩
  | false =>
    have hcs : fc f v u = [.slice v.A v.n v.c, .slice u.A u.n u.c, .bool false] := by simp [fc, hi, Sl.v]
    rw [hcs]
    have hpl := pre_le hi hvn hun
    have hcap := h.hv.cap
    by_cases hm : f.mo = []
    · have e : f.left keep t = f.fa := by simp [Fi.left, hi, hm]
      rw [e]
      clear e
      rw [hm, List.length_nil, Nat.add_zero] at hpl
      clear hvn hun hfa hal hcs hk
      have hcA : (v.A = none ∧ v.n = 0 ∧ v.c = 0) ∨ ∃ a, v.A = some a := by
        cases hA : v.A with
        | none => have h2 := h.hv; rw [hA] at h2; exact .inl ⟨rfl, sl_none h2⟩
        | some a => exact .inr ⟨a, rfl⟩
      rcases hcA with ⟨a1, a2, a3⟩ | ⟨a, hA⟩
      · have a4 : u.n = 0 := by omega
        rw [a1, a2, a3]
        clear a1 a2 a3 hpl hcap
        go_enter Try.func32, Try.ntmps32
        go_wp2_with (first
          | (refine wp_bx rfl 53 _ rfl rfl ?_; intro g1 w1 hg1 hb1 ht1; have c0 := hb1.ats (j := 0) (v := .slice none 0 0) rfl; have c1 := hb1.ats (j := 1) (v := .slice u.A u.n u.c) rfl; have c2 := hb1.ats (j := 2) (v := .bool false) rfl))
        go_ret
        exact ⟨u, by show _ = Ending.returned (Value.slice u.A u.n u.c); rw [a4]; rfl, h.hu.turn0 ht1, fun g hg => .inl (h.su g hg), ht1⟩
      · have hu2 : u.n = v.n := hpl
        rw [hA]
        obtain ⟨vn, hvn2⟩ : ∃ q, q = v.n := ⟨_, rfl⟩
        obtain ⟨vc, hvc2⟩ : ∃ q, q = v.c := ⟨_, rfl⟩
        rw [← hvn2, ← hvc2] at hcap
        rw [← hvn2] at hu2
        rw [← hvn2, ← hvc2]
        have hx : vc ≤ 9223372036854775807 := hcap.2
        clear hvn2 hvc2 hpl
        by_cases hq : vc = vn
        · subst hq
          go_enter Try.func32, Try.ntmps32
          go_wp2_with (first
            | (refine wp_bx rfl 53 _ rfl rfl ?_; intro g1 w1 hg1 hb1 ht1; have c0 := hb1.ats (j := 0) (v := .slice (some a) vc vc) rfl; have c1 := hb1.ats (j := 1) (v := .slice u.A u.n u.c) rfl; have c2 := hb1.ats (j := 2) (v := .bool false) rfl))
          go_ret
          exact ⟨u, by show _ = Ending.returned (Value.slice u.A u.n u.c); rw [hu2]; rfl, h.hu.turn0 ht1, fun g hg => .inl (h.su g hg), ht1⟩
        · have hq2 : vn < vc := by omega
          go_enter Try.func32, Try.ntmps32
          go_wp2_with (first
            | (refine wp_bx rfl 53 _ rfl rfl ?_; intro g1 w1 hg1 hb1 ht1; have c0 := hb1.ats (j := 0) (v := .slice (some a) vn vc) rfl; have c1 := hb1.ats (j := 1) (v := .slice u.A u.n u.c) rfl; have c2 := hb1.ats (j := 2) (v := .bool false) rfl))
          go_ret
          exact ⟨u, by show _ = Ending.returned (Value.slice u.A u.n u.c); rw [hu2]; rfl, h.hu.turn0 ht1, fun g hg => .inl (h.su g hg), ht1⟩
    · have hml : 0 < f.mo.length := List.length_pos_iff.2 hm
      have hvl : v.n ≤ 16777216 := by
        rcases hk.few with ⟨h3, _⟩ | h3
        · exact absurd h3 hm
        · omega
      obtain ⟨KK, hK⟩ : ∃ KK, KK = min (Int.toNat keep) f.mo.length := ⟨_, rfl⟩
      have e : f.left keep t = [f.fa, f.mo.take KK, t].flatten := by
        have e2 : f.mo.take (Int.toNat keep) = f.mo.take KK := by rw [hK, List.take_eq_take_min]
        simp [Fi.left, hi, hm, e2]
      rw [e]
      clear e
      obtain ⟨g0, hA, _, hg0⟩ := h.hv.head (by omega)
      have hrv : Rd w w.heap.size 1 v.A v.n (vbs f.all) := h.hv.rd
      have hru : Rd w w.heap.size 1 u.A u.n (vbs f.fa) := h.hu.rd
      have hcu := h.hu.cap
      rw [hA] at hrv
      have hdr : f.all.drop u.n = f.mo := by rw [Fi.all_pre hi, List.drop_append_of_le_length (by omega), List.drop_of_length_le (by omega), List.nil_append]
      have hne : ¬ v.c = u.n := by omega
      have hrm := hrv.tailB (k := u.n) (c := v.c) (by omega) hcap.1 hne
      rw [hdr] at hrm
      have hKm : KK ≤ v.n - u.n := by rw [hK]; omega
      have hrk := hrm.takeB hKm
      have hKl : (f.mo.take KK).length = KK := by rw [List.length_take]; omega
      have htl := hr.len
      rw [vbs_len] at htl
      have hflat : [f.fa, f.mo.take KK, t].flatten.length ≤ 140737530000000 := by
        simp only [List.flatten_cons, List.flatten_nil, List.length_append, List.length_nil, hKl]
        omega
      rw [hA]
      obtain ⟨vn, hvn2⟩ : ∃ q, q = v.n := ⟨_, rfl⟩
      obtain ⟨vc, hvc2⟩ : ∃ q, q = v.c := ⟨_, rfl⟩
      obtain ⟨un, hun2⟩ : ∃ q, q = u.n := ⟨_, rfl⟩
      rw [← hvn2, ← hvc2] at hcap
      rw [← hvc2, ← hun2] at hne
      rw [← hvn2] at hvl
      rw [← hvn2, ← hun2] at hKm hpl
      rw [← hun2] at hrk hru
      have hrk := hid hrk
      have HF := hid hflat
      clear hflat hrm hrv
      rw [← hun2] at hcu
      rw [← hvn2, ← hvc2, ← hun2]
      have hx : vc ≤ 9223372036854775807 := hcap.2
      have hlt : un < vn := by omega
      have hle : un ≤ vn := by omega
      have hltc : un < vc := by omega
      have hpos : ¬ vn = un := by omega
      have hnbr : (((vn - un : Nat) : Int) == 0) = false := by rw [beq_eq_false_iff_ne]; omega
      have hcas : ((vn - un : Nat) : Int) = (vn : Int) - un := by omega
      have hml2 : f.mo.length = vn - un := by omega
      rw [hml2] at hK
      clear hml hml2 hpl hvn hun hfa hal hcs hk hm hdr hvn2 hvc2 hun2
      go_enter Try.func32, Try.ntmps32
      go_wp2_with (first
        | (refine wp_bx rfl 53 _ rfl rfl ?_; intro g1 w1 hg1 hb1 ht1; have c0 := hb1.ats (j := 0) (v := .slice (some ⟨g0, 0, none⟩) vn vc) rfl; have c1 := hb1.ats (j := 1) (v := .slice u.A un u.c) rfl; have c2 := hb1.ats (j := 2) (v := .bool false) rfl))
      have C1 : ∀ W, Turn (World.drew w1) W none → W.cell? ⟨g1, 1, none⟩ = some (.slice u.A un u.c) := fun W h => (hb1.drew.turn0 h).ats (j := 1) rfl
      have rows : RowsAt w1 w1.heap.size [.slice u.A un u.c, .slice (some ⟨g0, un, none⟩) KK (vc - un), .slice A n c] [f.fa, f.mo.take KK, t] := by
        refine RowsAt.cons ((hru.turn0 ht1 (Nat.le_refl _)).mono ht1.size) hcu.1 hcu.2 (RowsAt.cons ?_ (by omega) (by show _ ≤ 9223372036854775807; omega) (RowsAt.cons ((hr.turn0 ht1 hB).mono (Nat.le_trans hB ht1.size)) hnc hc (RowsAt.nil _ _)))
        have h2 := (hrk.out.turn0 ht1 (Nat.le_refl _)).mono ht1.size
        rw [Nat.zero_add] at h2
        exact h2
      have rows : RowsAt (World.drew w1) (World.drew w1).heap.size [.slice u.A un u.c, .slice (some ⟨g0, un, none⟩) KK (vc - un), .slice A n c] [f.fa, f.mo.take KK, t] := rows
      clear hb1 c0 c1 c2
      have hKc : KK ≤ vc - un := by omega
      have hcase : (keep < 0 ∧ KK = 0) ∨ (0 ≤ keep ∧ keep ≤ (vn : Int) - un ∧ keep = (KK : Int)) ∨ (¬ keep < 0 ∧ (vn : Int) - un < keep ∧ KK = vn - un) := by omega
      clear hK
      rcases hcase with ⟨q1, q2⟩ | ⟨q1, q2, q3⟩ | ⟨q1, q2, q3⟩
      · have hE : (if (vn : Int) - un < 0 then (vn : Int) - un else 0) = (KK : Int) := by rw [if_neg (by omega)]; omega
        clear q2
        refine wp_region_noPanic ?_
        refine wp_region_held_drew (S := fun W => Turn w1 W none) (by kernel_rfl) (Turn.refl _ none).drew (fun hHeld => ?_)
        refine wpAnyH_more (S' := fun W => Turn (World.drew w1) W none) (fun W h => (Turn.refl _ none).drew.trans h) _ _ _ _ ?_
        clear hHeld
        have hHeld : (fun W => Turn (World.drew w1) W none) (World.drew w1) := Turn.refl _ none
        (first | (refine wpAnyH_take (i := 0) (v := undef) rfl (by kernel_rfl) (by kernel_rfl) (by kernel_rfl) (fun _ _ _ h => h) (Or.inr ⟨rfl, rfl⟩) (by assumption) ?_) | (refine wpAnyH_take (i := 0) (v := ?_) rfl (by kernel_rfl) (by kernel_rfl) (by kernel_rfl) (fun _ _ _ h => h) (Or.inl ⟨rfl, ?_⟩) (by assumption) ?_; rotate_left 1; · (intro w hSw; (try dsimp only at hSw); go_simp; (try with_reducible rfl)))); (try simp only [Act.put, List.getElem_toArray, List.getElem_cons_zero, List.getElem_cons_succ, List.setIfInBounds_toArray, List.set_cons_zero, List.set_cons_succ])
        (first | (refine wpAnyH_take (i := 1) (v := undef) rfl (by kernel_rfl) (by kernel_rfl) (by kernel_rfl) (fun _ _ _ h => h) (Or.inr ⟨rfl, rfl⟩) (by assumption) ?_) | (refine wpAnyH_take (i := 1) (v := ?_) rfl (by kernel_rfl) (by kernel_rfl) (by kernel_rfl) (fun _ _ _ h => h) (Or.inl ⟨rfl, ?_⟩) (by assumption) ?_; rotate_left 1; · (intro w hSw; (try dsimp only at hSw); go_simp; (try with_reducible rfl)))); (try simp only [Act.put, List.getElem_toArray, List.getElem_cons_zero, List.getElem_cons_succ, List.setIfInBounds_toArray, List.set_cons_zero, List.set_cons_succ])
        (first | (refine wpAnyH_take (i := 2) (v := undef) rfl (by kernel_rfl) (by kernel_rfl) (by kernel_rfl) (fun _ _ _ h => h) (Or.inr ⟨rfl, rfl⟩) (by assumption) ?_) | (refine wpAnyH_take (i := 2) (v := ?_) rfl (by kernel_rfl) (by kernel_rfl) (by kernel_rfl) (fun _ _ _ h => h) (Or.inl ⟨rfl, ?_⟩) (by assumption) ?_; rotate_left 1; · (intro w hSw; (try dsimp only at hSw); go_simp; (try with_reducible rfl)))); (try simp only [Act.put, List.getElem_toArray, List.getElem_cons_zero, List.getElem_cons_succ, List.setIfInBounds_toArray, List.set_cons_zero, List.set_cons_succ])
        (first | (refine wpAnyH_take (i := 3) (v := undef) rfl (by kernel_rfl) (by kernel_rfl) (by kernel_rfl) (fun _ _ _ h => h) (Or.inr ⟨rfl, rfl⟩) (by assumption) ?_) | (refine wpAnyH_take (i := 3) (v := ?_) rfl (by kernel_rfl) (by kernel_rfl) (by kernel_rfl) (fun _ _ _ h => h) (Or.inl ⟨rfl, ?_⟩) (by assumption) ?_; rotate_left 1; · (intro w hSw; (try dsimp only at hSw); go_simp; (try with_reducible rfl)))); (try simp only [Act.put, List.getElem_toArray, List.getElem_cons_zero, List.getElem_cons_succ, List.setIfInBounds_toArray, List.set_cons_zero, List.set_cons_succ])
        (first | (refine wpAnyH_take (i := 4) (v := undef) rfl (by kernel_rfl) (by kernel_rfl) (by kernel_rfl) (fun _ _ _ h => h) (Or.inr ⟨rfl, rfl⟩) (by assumption) ?_) | (refine wpAnyH_take (i := 4) (v := ?_) rfl (by kernel_rfl) (by kernel_rfl) (by kernel_rfl) (fun _ _ _ h => h) (Or.inl ⟨rfl, ?_⟩) (by assumption) ?_; rotate_left 1; · (intro w hSw; (try dsimp only at hSw); go_simp; (try with_reducible rfl)))); (try simp only [Act.put, List.getElem_toArray, List.getElem_cons_zero, List.getElem_cons_succ, List.setIfInBounds_toArray, List.set_cons_zero, List.set_cons_succ])
        (first | (refine wpAnyH_take (i := 5) (v := undef) rfl (by kernel_rfl) (by kernel_rfl) (by kernel_rfl) (fun _ _ _ h => h) (Or.inr ⟨rfl, rfl⟩) (by assumption) ?_) | (refine wpAnyH_take (i := 5) (v := ?_) rfl (by kernel_rfl) (by kernel_rfl) (by kernel_rfl) (fun _ _ _ h => h) (Or.inl ⟨rfl, ?_⟩) (by assumption) ?_; rotate_left 1; · (intro w hSw; (try dsimp only at hSw); go_simp; (try with_reducible rfl)))); (try simp only [Act.put, List.getElem_toArray, List.getElem_cons_zero, List.getElem_cons_succ, List.setIfInBounds_toArray, List.set_cons_zero, List.set_cons_succ])
        (first | (refine wpAnyH_take (i := 6) (v := undef) rfl (by kernel_rfl) (by kernel_rfl) (by kernel_rfl) (fun _ _ _ h => h) (Or.inr ⟨rfl, rfl⟩) (by assumption) ?_) | (refine wpAnyH_take (i := 6) (v := ?_) rfl (by kernel_rfl) (by kernel_rfl) (by kernel_rfl) (fun _ _ _ h => h) (Or.inl ⟨rfl, ?_⟩) (by assumption) ?_; rotate_left 1; · (intro w hSw; (try dsimp only at hSw); go_simp; (try with_reducible rfl)))); (try simp only [Act.put, List.getElem_toArray, List.getElem_cons_zero, List.getElem_cons_succ, List.setIfInBounds_toArray, List.set_cons_zero, List.set_cons_succ])
        (first | (refine wpAnyH_take (i := 7) (v := undef) rfl (by kernel_rfl) (by kernel_rfl) (by kernel_rfl) (fun _ _ _ h => h) (Or.inr ⟨rfl, rfl⟩) (by assumption) ?_) | (refine wpAnyH_take (i := 7) (v := ?_) rfl (by kernel_rfl) (by kernel_rfl) (by kernel_rfl) (fun _ _ _ h => h) (Or.inl ⟨rfl, ?_⟩) (by assumption) ?_; rotate_left 1; · (intro w hSw; (try dsimp only at hSw); go_simp; (try with_reducible rfl)))); (try simp only [Act.put, List.getElem_toArray, List.getElem_cons_zero, List.getElem_cons_succ, List.setIfInBounds_toArray, List.set_cons_zero, List.set_cons_succ])
        (try simp only [hE])
        (first | (refine wpAnyH_take (i := 8) (v := undef) rfl (by kernel_rfl) (by kernel_rfl) (by kernel_rfl) (fun _ _ _ h => h) (Or.inr ⟨rfl, rfl⟩) (by assumption) ?_) | (refine wpAnyH_take (i := 8) (v := ?_) rfl (by kernel_rfl) (by kernel_rfl) (by kernel_rfl) (fun _ _ _ h => h) (Or.inl ⟨rfl, ?_⟩) (by assumption) ?_; rotate_left 1; · (intro w hSw; (try dsimp only at hSw); go_simp; (try with_reducible rfl)))); (try simp only [Act.put, List.getElem_toArray, List.getElem_cons_zero, List.getElem_cons_succ, List.setIfInBounds_toArray, List.set_cons_zero, List.set_cons_succ])
        (first | (refine wpAnyH_take (i := 9) (v := undef) rfl (by kernel_rfl) (by kernel_rfl) (by kernel_rfl) (fun _ _ _ h => h) (Or.inr ⟨rfl, rfl⟩) (by assumption) ?_) | (refine wpAnyH_take (i := 9) (v := ?_) rfl (by kernel_rfl) (by kernel_rfl) (by kernel_rfl) (fun _ _ _ h => h) (Or.inl ⟨rfl, ?_⟩) (by assumption) ?_; rotate_left 1; · (intro w hSw; (try dsimp only at hSw); go_simp; (try with_reducible rfl)))); (try simp only [Act.put, List.getElem_toArray, List.getElem_cons_zero, List.getElem_cons_succ, List.setIfInBounds_toArray, List.set_cons_zero, List.set_cons_succ])
        refine wpAnyH_ready (rs := [10]) (by kernel_rfl) (by simp) ?_; refine AllReadyH.cons rfl (fun K hK => ?_) AllReadyH.nil
        go_simp
        refine hK.out _ _ ((Turn.refl (World.drew w1) none).alloc _) (fun hHeld => ?_); clear hK K; (try simp only [Act.put, List.getElem_toArray, List.getElem_cons_zero, List.getElem_cons_succ, List.setIfInBounds_toArray, List.set_cons_zero, List.set_cons_succ])
        refine wpAnyH_ready (rs := [11]) (by kernel_rfl) (by simp) ?_
        refine AllReadyH.cons rfl (fun K hK => ?_) AllReadyH.nil
        go_simp
        refine (concat_any _ _ _ _ _ _ _ (rows.lit (Nat.le_refl _) 28) (Nat.le_of_eq (by show _ = (w1.heap.push _).size; rw [Array.size_push]; rfl)) HF.out (by show 3 ≤ _; omega)).mono ?_
        rintro e w4 ⟨A4, c4, rfl, ho4, ht4⟩
        have t4 : Turn w1 w4 none := (((Turn.refl (World.drew w1) none).alloc _).trans ht4).undrew
        have s4 : w.heap.size ≤ (World.alloc (World.drew w1) (.cells ([.slice u.A un u.c, .slice (some ⟨g0, un, none⟩) KK (vc - un), .slice A n c] : List Value).toArray 28)).heap.size := by
          show _ ≤ (w1.heap.push _).size
          rw [Array.size_push]
          have := ht1.size
          omega
        refine hK.out _ _ (((Turn.refl (World.drew w1) none).alloc _).trans ht4) (fun hHeld => ?_); clear hK K; (try simp only [Act.put, List.getElem_toArray, List.getElem_cons_zero, List.getElem_cons_succ, List.setIfInBounds_toArray, List.set_cons_zero, List.set_cons_succ])
        (first | (refine wpAnyH_take (i := 12) (v := undef) rfl (by kernel_rfl) (by kernel_rfl) (by kernel_rfl) (fun _ _ _ h => h) (Or.inr ⟨rfl, rfl⟩) (by assumption) ?_) | (refine wpAnyH_take (i := 12) (v := ?_) rfl (by kernel_rfl) (by kernel_rfl) (by kernel_rfl) (fun _ _ _ h => h) (Or.inl ⟨rfl, ?_⟩) (by assumption) ?_; rotate_left 1; · (intro w hSw; (try dsimp only at hSw); go_simp; (try with_reducible rfl)))); (try simp only [Act.put, List.getElem_toArray, List.getElem_cons_zero, List.getElem_cons_succ, List.setIfInBounds_toArray, List.set_cons_zero, List.set_cons_succ])
        refine wpAnyH_done (by kernel_rfl) ?_ _
        refine NoPanic.normal ?_
        clear hHeld
        go_wp2
        go_ret
        have e : [f.fa, f.mo.take KK, t].flatten.length = f.fa.length + (KK + n) := by
          simp only [List.flatten_cons, List.flatten_nil, List.length_append, List.length_nil, hKl, htl]
          omega
        have ho5 := ho4.mono (Nat.zero_le _)
        rw [e] at ho5
        have e3 : [f.fa, f.mo.take KK, t].flatten = f.fa ++ (f.mo.take KK ++ t) := by simp
        rw [e3] at ho5
        exact ⟨⟨A4, f.fa.length + (KK + n), c4⟩, rfl, ho5, fun g hg => .inr ⟨by have h := Nat.le_trans s4 (ho4.block g hg).1; omega, (ho4.block g hg).2⟩, ht1.trans t4⟩
      · subst q3
        have hE : (if (vn : Int) - un < (if (KK : Int) < 0 then 0 else (KK : Int)) then (vn : Int) - un else if (KK : Int) < 0 then 0 else (KK : Int)) = (KK : Int) := by rw [if_neg (by omega : ¬ (KK : Int) < 0), if_neg (by omega)]
        refine wp_region_noPanic ?_
        refine wp_region_held_drew (S := fun W => Turn w1 W none) (by kernel_rfl) (Turn.refl _ none).drew (fun hHeld => ?_)
        refine wpAnyH_more (S' := fun W => Turn (World.drew w1) W none) (fun W h => (Turn.refl _ none).drew.trans h) _ _ _ _ ?_
        clear hHeld
        have hHeld : (fun W => Turn (World.drew w1) W none) (World.drew w1) := Turn.refl _ none
        (first | (refine wpAnyH_take (i := 0) (v := undef) rfl (by kernel_rfl) (by kernel_rfl) (by kernel_rfl) (fun _ _ _ h => h) (Or.inr ⟨rfl, rfl⟩) (by assumption) ?_) | (refine wpAnyH_take (i := 0) (v := ?_) rfl (by kernel_rfl) (by kernel_rfl) (by kernel_rfl) (fun _ _ _ h => h) (Or.inl ⟨rfl, ?_⟩) (by assumption) ?_; rotate_left 1; · (intro w hSw; (try dsimp only at hSw); go_simp; (try with_reducible rfl)))); (try simp only [Act.put, List.getElem_toArray, List.getElem_cons_zero, List.getElem_cons_succ, List.setIfInBounds_toArray, List.set_cons_zero, List.set_cons_succ])
        (first | (refine wpAnyH_take (i := 1) (v := undef) rfl (by kernel_rfl) (by kernel_rfl) (by kernel_rfl) (fun _ _ _ h => h) (Or.inr ⟨rfl, rfl⟩) (by assumption) ?_) | (refine wpAnyH_take (i := 1) (v := ?_) rfl (by kernel_rfl) (by kernel_rfl) (by kernel_rfl) (fun _ _ _ h => h) (Or.inl ⟨rfl, ?_⟩) (by assumption) ?_; rotate_left 1; · (intro w hSw; (try dsimp only at hSw); go_simp; (try with_reducible rfl)))); (try simp only [Act.put, List.getElem_toArray, List.getElem_cons_zero, List.getElem_cons_succ, List.setIfInBounds_toArray, List.set_cons_zero, List.set_cons_succ])
        (first | (refine wpAnyH_take (i := 2) (v := undef) rfl (by kernel_rfl) (by kernel_rfl) (by kernel_rfl) (fun _ _ _ h => h) (Or.inr ⟨rfl, rfl⟩) (by assumption) ?_) | (refine wpAnyH_take (i := 2) (v := ?_) rfl (by kernel_rfl) (by kernel_rfl) (by kernel_rfl) (fun _ _ _ h => h) (Or.inl ⟨rfl, ?_⟩) (by assumption) ?_; rotate_left 1; · (intro w hSw; (try dsimp only at hSw); go_simp; (try with_reducible rfl)))); (try simp only [Act.put, List.getElem_toArray, List.getElem_cons_zero, List.getElem_cons_succ, List.setIfInBounds_toArray, List.set_cons_zero, List.set_cons_succ])
        (first | (refine wpAnyH_take (i := 3) (v := undef) rfl (by kernel_rfl) (by kernel_rfl) (by kernel_rfl) (fun _ _ _ h => h) (Or.inr ⟨rfl, rfl⟩) (by assumption) ?_) | (refine wpAnyH_take (i := 3) (v := ?_) rfl (by kernel_rfl) (by kernel_rfl) (by kernel_rfl) (fun _ _ _ h => h) (Or.inl ⟨rfl, ?_⟩) (by assumption) ?_; rotate_left 1; · (intro w hSw; (try dsimp only at hSw); go_simp; (try with_reducible rfl)))); (try simp only [Act.put, List.getElem_toArray, List.getElem_cons_zero, List.getElem_cons_succ, List.setIfInBounds_toArray, List.set_cons_zero, List.set_cons_succ])
        (first | (refine wpAnyH_take (i := 4) (v := undef) rfl (by kernel_rfl) (by kernel_rfl) (by kernel_rfl) (fun _ _ _ h => h) (Or.inr ⟨rfl, rfl⟩) (by assumption) ?_) | (refine wpAnyH_take (i := 4) (v := ?_) rfl (by kernel_rfl) (by kernel_rfl) (by kernel_rfl) (fun _ _ _ h => h) (Or.inl ⟨rfl, ?_⟩) (by assumption) ?_; rotate_left 1; · (intro w hSw; (try dsimp only at hSw); go_simp; (try with_reducible rfl)))); (try simp only [Act.put, List.getElem_toArray, List.getElem_cons_zero, List.getElem_cons_succ, List.setIfInBounds_toArray, List.set_cons_zero, List.set_cons_succ])
        (first | (refine wpAnyH_take (i := 5) (v := undef) rfl (by kernel_rfl) (by kernel_rfl) (by kernel_rfl) (fun _ _ _ h => h) (Or.inr ⟨rfl, rfl⟩) (by assumption) ?_) | (refine wpAnyH_take (i := 5) (v := ?_) rfl (by kernel_rfl) (by kernel_rfl) (by kernel_rfl) (fun _ _ _ h => h) (Or.inl ⟨rfl, ?_⟩) (by assumption) ?_; rotate_left 1; · (intro w hSw; (try dsimp only at hSw); go_simp; (try with_reducible rfl)))); (try simp only [Act.put, List.getElem_toArray, List.getElem_cons_zero, List.getElem_cons_succ, List.setIfInBounds_toArray, List.set_cons_zero, List.set_cons_succ])
        (first | (refine wpAnyH_take (i := 6) (v := undef) rfl (by kernel_rfl) (by kernel_rfl) (by kernel_rfl) (fun _ _ _ h => h) (Or.inr ⟨rfl, rfl⟩) (by assumption) ?_) | (refine wpAnyH_take (i := 6) (v := ?_) rfl (by kernel_rfl) (by kernel_rfl) (by kernel_rfl) (fun _ _ _ h => h) (Or.inl ⟨rfl, ?_⟩) (by assumption) ?_; rotate_left 1; · (intro w hSw; (try dsimp only at hSw); go_simp; (try with_reducible rfl)))); (try simp only [Act.put, List.getElem_toArray, List.getElem_cons_zero, List.getElem_cons_succ, List.setIfInBounds_toArray, List.set_cons_zero, List.set_cons_succ])
        (first | (refine wpAnyH_take (i := 7) (v := undef) rfl (by kernel_rfl) (by kernel_rfl) (by kernel_rfl) (fun _ _ _ h => h) (Or.inr ⟨rfl, rfl⟩) (by assumption) ?_) | (refine wpAnyH_take (i := 7) (v := ?_) rfl (by kernel_rfl) (by kernel_rfl) (by kernel_rfl) (fun _ _ _ h => h) (Or.inl ⟨rfl, ?_⟩) (by assumption) ?_; rotate_left 1; · (intro w hSw; (try dsimp only at hSw); go_simp; (try with_reducible rfl)))); (try simp only [Act.put, List.getElem_toArray, List.getElem_cons_zero, List.getElem_cons_succ, List.setIfInBounds_toArray, List.set_cons_zero, List.set_cons_succ])
        (try simp only [hE])
        (first | (refine wpAnyH_take (i := 8) (v := undef) rfl (by kernel_rfl) (by kernel_rfl) (by kernel_rfl) (fun _ _ _ h => h) (Or.inr ⟨rfl, rfl⟩) (by assumption) ?_) | (refine wpAnyH_take (i := 8) (v := ?_) rfl (by kernel_rfl) (by kernel_rfl) (by kernel_rfl) (fun _ _ _ h => h) (Or.inl ⟨rfl, ?_⟩) (by assumption) ?_; rotate_left 1; · (intro w hSw; (try dsimp only at hSw); go_simp; (try with_reducible rfl)))); (try simp only [Act.put, List.getElem_toArray, List.getElem_cons_zero, List.getElem_cons_succ, List.setIfInBounds_toArray, List.set_cons_zero, List.set_cons_succ])
        (first | (refine wpAnyH_take (i := 9) (v := undef) rfl (by kernel_rfl) (by kernel_rfl) (by kernel_rfl) (fun _ _ _ h => h) (Or.inr ⟨rfl, rfl⟩) (by assumption) ?_) | (refine wpAnyH_take (i := 9) (v := ?_) rfl (by kernel_rfl) (by kernel_rfl) (by kernel_rfl) (fun _ _ _ h => h) (Or.inl ⟨rfl, ?_⟩) (by assumption) ?_; rotate_left 1; · (intro w hSw; (try dsimp only at hSw); go_simp; (try with_reducible rfl)))); (try simp only [Act.put, List.getElem_toArray, List.getElem_cons_zero, List.getElem_cons_succ, List.setIfInBounds_toArray, List.set_cons_zero, List.set_cons_succ])
        refine wpAnyH_ready (rs := [10]) (by kernel_rfl) (by simp) ?_; refine AllReadyH.cons rfl (fun K hK => ?_) AllReadyH.nil
        go_simp
        refine hK.out _ _ ((Turn.refl (World.drew w1) none).alloc _) (fun hHeld => ?_); clear hK K; (try simp only [Act.put, List.getElem_toArray, List.getElem_cons_zero, List.getElem_cons_succ, List.setIfInBounds_toArray, List.set_cons_zero, List.set_cons_succ])
        refine wpAnyH_ready (rs := [11]) (by kernel_rfl) (by simp) ?_
        refine AllReadyH.cons rfl (fun K hK => ?_) AllReadyH.nil
        go_simp
        refine (concat_any _ _ _ _ _ _ _ (rows.lit (Nat.le_refl _) 28) (Nat.le_of_eq (by show _ = (w1.heap.push _).size; rw [Array.size_push]; rfl)) HF.out (by show 3 ≤ _; omega)).mono ?_
        rintro e w4 ⟨A4, c4, rfl, ho4, ht4⟩
        have t4 : Turn w1 w4 none := (((Turn.refl (World.drew w1) none).alloc _).trans ht4).undrew
        have s4 : w.heap.size ≤ (World.alloc (World.drew w1) (.cells ([.slice u.A un u.c, .slice (some ⟨g0, un, none⟩) KK (vc - un), .slice A n c] : List Value).toArray 28)).heap.size := by
          show _ ≤ (w1.heap.push _).size
          rw [Array.size_push]
          have := ht1.size
          omega
        refine hK.out _ _ (((Turn.refl (World.drew w1) none).alloc _).trans ht4) (fun hHeld => ?_); clear hK K; (try simp only [Act.put, List.getElem_toArray, List.getElem_cons_zero, List.getElem_cons_succ, List.setIfInBounds_toArray, List.set_cons_zero, List.set_cons_succ])
        (first | (refine wpAnyH_take (i := 12) (v := undef) rfl (by kernel_rfl) (by kernel_rfl) (by kernel_rfl) (fun _ _ _ h => h) (Or.inr ⟨rfl, rfl⟩) (by assumption) ?_) | (refine wpAnyH_take (i := 12) (v := ?_) rfl (by kernel_rfl) (by kernel_rfl) (by kernel_rfl) (fun _ _ _ h => h) (Or.inl ⟨rfl, ?_⟩) (by assumption) ?_; rotate_left 1; · (intro w hSw; (try dsimp only at hSw); go_simp; (try with_reducible rfl)))); (try simp only [Act.put, List.getElem_toArray, List.getElem_cons_zero, List.getElem_cons_succ, List.setIfInBounds_toArray, List.set_cons_zero, List.set_cons_succ])
        refine wpAnyH_done (by kernel_rfl) ?_ _
        refine NoPanic.normal ?_
        clear hHeld
        go_wp2
        go_ret
        have e : [f.fa, f.mo.take KK, t].flatten.length = f.fa.length + (KK + n) := by
          simp only [List.flatten_cons, List.flatten_nil, List.length_append, List.length_nil, hKl, htl]
          omega
        have ho5 := ho4.mono (Nat.zero_le _)
        rw [e] at ho5
        have e3 : [f.fa, f.mo.take KK, t].flatten = f.fa ++ (f.mo.take KK ++ t) := by simp
        rw [e3] at ho5
        exact ⟨⟨A4, f.fa.length + (KK + n), c4⟩, rfl, ho5, fun g hg => .inr ⟨by have h := Nat.le_trans s4 (ho4.block g hg).1; omega, (ho4.block g hg).2⟩, ht1.trans t4⟩
      · have hE : (vn : Int) - un = (KK : Int) := by omega
        have q4 : (KK : Int) < keep := by omega
        clear q2 q3
        refine wp_region_noPanic ?_
        refine wp_region_held_drew (S := fun W => Turn w1 W none) (by kernel_rfl) (Turn.refl _ none).drew (fun hHeld => ?_)
        refine wpAnyH_more (S' := fun W => Turn (World.drew w1) W none) (fun W h => (Turn.refl _ none).drew.trans h) _ _ _ _ ?_
        clear hHeld
        have hHeld : (fun W => Turn (World.drew w1) W none) (World.drew w1) := Turn.refl _ none
        (first | (refine wpAnyH_take (i := 0) (v := undef) rfl (by kernel_rfl) (by kernel_rfl) (by kernel_rfl) (fun _ _ _ h => h) (Or.inr ⟨rfl, rfl⟩) (by assumption) ?_) | (refine wpAnyH_take (i := 0) (v := ?_) rfl (by kernel_rfl) (by kernel_rfl) (by kernel_rfl) (fun _ _ _ h => h) (Or.inl ⟨rfl, ?_⟩) (by assumption) ?_; rotate_left 1; · (intro w hSw; (try dsimp only at hSw); go_simp; (try with_reducible rfl)))); (try simp only [Act.put, List.getElem_toArray, List.getElem_cons_zero, List.getElem_cons_succ, List.setIfInBounds_toArray, List.set_cons_zero, List.set_cons_succ])
        (first | (refine wpAnyH_take (i := 1) (v := undef) rfl (by kernel_rfl) (by kernel_rfl) (by kernel_rfl) (fun _ _ _ h => h) (Or.inr ⟨rfl, rfl⟩) (by assumption) ?_) | (refine wpAnyH_take (i := 1) (v := ?_) rfl (by kernel_rfl) (by kernel_rfl) (by kernel_rfl) (fun _ _ _ h => h) (Or.inl ⟨rfl, ?_⟩) (by assumption) ?_; rotate_left 1; · (intro w hSw; (try dsimp only at hSw); go_simp; (try with_reducible rfl)))); (try simp only [Act.put, List.getElem_toArray, List.getElem_cons_zero, List.getElem_cons_succ, List.setIfInBounds_toArray, List.set_cons_zero, List.set_cons_succ])
        (first | (refine wpAnyH_take (i := 2) (v := undef) rfl (by kernel_rfl) (by kernel_rfl) (by kernel_rfl) (fun _ _ _ h => h) (Or.inr ⟨rfl, rfl⟩) (by assumption) ?_) | (refine wpAnyH_take (i := 2) (v := ?_) rfl (by kernel_rfl) (by kernel_rfl) (by kernel_rfl) (fun _ _ _ h => h) (Or.inl ⟨rfl, ?_⟩) (by assumption) ?_; rotate_left 1; · (intro w hSw; (try dsimp only at hSw); go_simp; (try with_reducible rfl)))); (try simp only [Act.put, List.getElem_toArray, List.getElem_cons_zero, List.getElem_cons_succ, List.setIfInBounds_toArray, List.set_cons_zero, List.set_cons_succ])
        (first | (refine wpAnyH_take (i := 3) (v := undef) rfl (by kernel_rfl) (by kernel_rfl) (by kernel_rfl) (fun _ _ _ h => h) (Or.inr ⟨rfl, rfl⟩) (by assumption) ?_) | (refine wpAnyH_take (i := 3) (v := ?_) rfl (by kernel_rfl) (by kernel_rfl) (by kernel_rfl) (fun _ _ _ h => h) (Or.inl ⟨rfl, ?_⟩) (by assumption) ?_; rotate_left 1; · (intro w hSw; (try dsimp only at hSw); go_simp; (try with_reducible rfl)))); (try simp only [Act.put, List.getElem_toArray, List.getElem_cons_zero, List.getElem_cons_succ, List.setIfInBounds_toArray, List.set_cons_zero, List.set_cons_succ])
        (first | (refine wpAnyH_take (i := 4) (v := undef) rfl (by kernel_rfl) (by kernel_rfl) (by kernel_rfl) (fun _ _ _ h => h) (Or.inr ⟨rfl, rfl⟩) (by assumption) ?_) | (refine wpAnyH_take (i := 4) (v := ?_) rfl (by kernel_rfl) (by kernel_rfl) (by kernel_rfl) (fun _ _ _ h => h) (Or.inl ⟨rfl, ?_⟩) (by assumption) ?_; rotate_left 1; · (intro w hSw; (try dsimp only at hSw); go_simp; (try with_reducible rfl)))); (try simp only [Act.put, List.getElem_toArray, List.getElem_cons_zero, List.getElem_cons_succ, List.setIfInBounds_toArray, List.set_cons_zero, List.set_cons_succ])
        (first | (refine wpAnyH_take (i := 5) (v := undef) rfl (by kernel_rfl) (by kernel_rfl) (by kernel_rfl) (fun _ _ _ h => h) (Or.inr ⟨rfl, rfl⟩) (by assumption) ?_) | (refine wpAnyH_take (i := 5) (v := ?_) rfl (by kernel_rfl) (by kernel_rfl) (by kernel_rfl) (fun _ _ _ h => h) (Or.inl ⟨rfl, ?_⟩) (by assumption) ?_; rotate_left 1; · (intro w hSw; (try dsimp only at hSw); go_simp; (try with_reducible rfl)))); (try simp only [Act.put, List.getElem_toArray, List.getElem_cons_zero, List.getElem_cons_succ, List.setIfInBounds_toArray, List.set_cons_zero, List.set_cons_succ])
        (first | (refine wpAnyH_take (i := 6) (v := undef) rfl (by kernel_rfl) (by kernel_rfl) (by kernel_rfl) (fun _ _ _ h => h) (Or.inr ⟨rfl, rfl⟩) (by assumption) ?_) | (refine wpAnyH_take (i := 6) (v := ?_) rfl (by kernel_rfl) (by kernel_rfl) (by kernel_rfl) (fun _ _ _ h => h) (Or.inl ⟨rfl, ?_⟩) (by assumption) ?_; rotate_left 1; · (intro w hSw; (try dsimp only at hSw); go_simp; (try with_reducible rfl)))); (try simp only [Act.put, List.getElem_toArray, List.getElem_cons_zero, List.getElem_cons_succ, List.setIfInBounds_toArray, List.set_cons_zero, List.set_cons_succ])
        (first | (refine wpAnyH_take (i := 7) (v := undef) rfl (by kernel_rfl) (by kernel_rfl) (by kernel_rfl) (fun _ _ _ h => h) (Or.inr ⟨rfl, rfl⟩) (by assumption) ?_) | (refine wpAnyH_take (i := 7) (v := ?_) rfl (by kernel_rfl) (by kernel_rfl) (by kernel_rfl) (fun _ _ _ h => h) (Or.inl ⟨rfl, ?_⟩) (by assumption) ?_; rotate_left 1; · (intro w hSw; (try dsimp only at hSw); go_simp; (try with_reducible rfl)))); (try simp only [Act.put, List.getElem_toArray, List.getElem_cons_zero, List.getElem_cons_succ, List.setIfInBounds_toArray, List.set_cons_zero, List.set_cons_succ])
        (try simp only [hE])
        (first | (refine wpAnyH_take (i := 8) (v := undef) rfl (by kernel_rfl) (by kernel_rfl) (by kernel_rfl) (fun _ _ _ h => h) (Or.inr ⟨rfl, rfl⟩) (by assumption) ?_) | (refine wpAnyH_take (i := 8) (v := ?_) rfl (by kernel_rfl) (by kernel_rfl) (by kernel_rfl) (fun _ _ _ h => h) (Or.inl ⟨rfl, ?_⟩) (by assumption) ?_; rotate_left 1; · (intro w hSw; (try dsimp only at hSw); go_simp; (try with_reducible rfl)))); (try simp only [Act.put, List.getElem_toArray, List.getElem_cons_zero, List.getElem_cons_succ, List.setIfInBounds_toArray, List.set_cons_zero, List.set_cons_succ])
        (first | (refine wpAnyH_take (i := 9) (v := undef) rfl (by kernel_rfl) (by kernel_rfl) (by kernel_rfl) (fun _ _ _ h => h) (Or.inr ⟨rfl, rfl⟩) (by assumption) ?_) | (refine wpAnyH_take (i := 9) (v := ?_) rfl (by kernel_rfl) (by kernel_rfl) (by kernel_rfl) (fun _ _ _ h => h) (Or.inl ⟨rfl, ?_⟩) (by assumption) ?_; rotate_left 1; · (intro w hSw; (try dsimp only at hSw); go_simp; (try with_reducible rfl)))); (try simp only [Act.put, List.getElem_toArray, List.getElem_cons_zero, List.getElem_cons_succ, List.setIfInBounds_toArray, List.set_cons_zero, List.set_cons_succ])
        refine wpAnyH_ready (rs := [10]) (by kernel_rfl) (by simp) ?_; refine AllReadyH.cons rfl (fun K hK => ?_) AllReadyH.nil
        go_simp
        refine hK.out _ _ ((Turn.refl (World.drew w1) none).alloc _) (fun hHeld => ?_); clear hK K; (try simp only [Act.put, List.getElem_toArray, List.getElem_cons_zero, List.getElem_cons_succ, List.setIfInBounds_toArray, List.set_cons_zero, List.set_cons_succ])
        refine wpAnyH_ready (rs := [11]) (by kernel_rfl) (by simp) ?_
        refine AllReadyH.cons rfl (fun K hK => ?_) AllReadyH.nil
        go_simp
        refine (concat_any _ _ _ _ _ _ _ (rows.lit (Nat.le_refl _) 28) (Nat.le_of_eq (by show _ = (w1.heap.push _).size; rw [Array.size_push]; rfl)) HF.out (by show 3 ≤ _; omega)).mono ?_
        rintro e w4 ⟨A4, c4, rfl, ho4, ht4⟩
        have t4 : Turn w1 w4 none := (((Turn.refl (World.drew w1) none).alloc _).trans ht4).undrew
        have s4 : w.heap.size ≤ (World.alloc (World.drew w1) (.cells ([.slice u.A un u.c, .slice (some ⟨g0, un, none⟩) KK (vc - un), .slice A n c] : List Value).toArray 28)).heap.size := by
          show _ ≤ (w1.heap.push _).size
          rw [Array.size_push]
          have := ht1.size
          omega
        refine hK.out _ _ (((Turn.refl (World.drew w1) none).alloc _).trans ht4) (fun hHeld => ?_); clear hK K; (try simp only [Act.put, List.getElem_toArray, List.getElem_cons_zero, List.getElem_cons_succ, List.setIfInBounds_toArray, List.set_cons_zero, List.set_cons_succ])
        (first | (refine wpAnyH_take (i := 12) (v := undef) rfl (by kernel_rfl) (by kernel_rfl) (by kernel_rfl) (fun _ _ _ h => h) (Or.inr ⟨rfl, rfl⟩) (by assumption) ?_) | (refine wpAnyH_take (i := 12) (v := ?_) rfl (by kernel_rfl) (by kernel_rfl) (by kernel_rfl) (fun _ _ _ h => h) (Or.inl ⟨rfl, ?_⟩) (by assumption) ?_; rotate_left 1; · (intro w hSw; (try dsimp only at hSw); go_simp; (try with_reducible rfl)))); (try simp only [Act.put, List.getElem_toArray, List.getElem_cons_zero, List.getElem_cons_succ, List.setIfInBounds_toArray, List.set_cons_zero, List.set_cons_succ])
        refine wpAnyH_done (by kernel_rfl) ?_ _
        refine NoPanic.normal ?_
        clear hHeld
        go_wp2
        go_ret
        have e : [f.fa, f.mo.take KK, t].flatten.length = f.fa.length + (KK + n) := by
          simp only [List.flatten_cons, List.flatten_nil, List.length_append, List.length_nil, hKl, htl]
          omega
        have ho5 := ho4.mono (Nat.zero_le _)
        rw [e] at ho5
        have e3 : [f.fa, f.mo.take KK, t].flatten = f.fa ++ (f.mo.take KK ++ t) := by simp
        rw [e3] at ho5
        exact ⟨⟨A4, f.fa.length + (KK + n), c4⟩, rfl, ho5, fun g hg => .inr ⟨by have h := Nat.le_trans s4 (ho4.block g hg).1; omega, (ho4.block g hg).2⟩, ht1.trans t4⟩

end Go.Proofs.Ytogajpiefegdeaa
