import Derived.Test.YtgigiecdpjchkaaGreatDoorR18
import Derived.Test.YtgigiecdpjchkaaGreatDoorR11
import Derived.Test.YtgigiecdpjchkaaGreatDoorR1
import Derived.Deep.RegionHeld
set_option linter.unusedSimpArgs false
set_option linter.unusedVariables false
set_option linter.unusedSectionVars false
set_option maxRecDepth 100000
set_option maxHeartbeats 6400000
namespace Go.Proofs.YtgigiecdpjchkaaGreatDoor
open Go.RowKit
theorem keepc {w w' : World} {a : Addr} {v : Value} (h : Turn w w' none) (c : w.cell? a = some v) : w'.cell? a = some v := (h.cell (World.block_lt_of_cell? w _ c) (by simp)).trans c
theorem Sc.cells {w : World} {B n j : Nat} {A : Option Addr} {gs : List Gn} {x : Gn} (h : Sc w B A n gs) (hx : gs[j]? = some x) : ∃ b off As sc Ai ic Af fc, A = some ⟨b, off, none⟩ ∧
  NdV w B (.agg #[.int .i64 x.k, .string (txt x.name), .int .i64 x.size, .slice As x.syms.length sc, .slice Ai x.items.length ic, .slice Af x.fields.length fc]) x ∧
  w.cell? ⟨b, off + j * 6, none⟩ = some (.int .i64 x.k) ∧ w.cell? ⟨b, off + j * 6 + 1, none⟩ = some (.string (txt x.name)) ∧ w.cell? ⟨b, off + j * 6 + 2, none⟩ = some (.int .i64 x.size) ∧
  w.cell? ⟨b, off + j * 6 + 3, none⟩ = some (.slice As x.syms.length sc) ∧ w.cell? ⟨b, off + j * 6 + 4, none⟩ = some (.slice Ai x.items.length ic) ∧ w.cell? ⟨b, off + j * 6 + 5, none⟩ = some (.slice Af x.fields.length fc) := by
 obtain ⟨h1, vs, h2, h3⟩ := h
 have hi : j < gs.length := (List.getElem?_eq_some_iff.1 hx).1
 obtain ⟨b, off, rfl, _, e3⟩ := h2.head (by omega)
 have hn := h3 j x hx
 obtain ⟨v3, e3', A3, c3, rfl, r3, _⟩ := hn.syms
 obtain ⟨v4, e4, A4, c4, rfl, r4, _⟩ := hn.items
 obtain ⟨v5, e5, A5, c5, rfl, r5, _⟩ := hn.fields
 refine ⟨b, off, A3, c3, A4, c4, A5, c5, rfl, ⟨A3, c3, A4, c4, A5, c5, rfl, r3, r4, r5⟩, e3 _ _ hn.k, ?_, ?_, ?_, ?_, ?_⟩
 ·rw [Nat.add_assoc]; exact e3 _ _ hn.name
 ·rw [Nat.add_assoc]; exact e3 _ _ hn.size
 ·rw [Nat.add_assoc]; exact e3 _ _ e3'
 ·rw [Nat.add_assoc]; exact e3 _ _ e4
 ·rw [Nat.add_assoc]; exact e3 _ _ e5
theorem rsame_any {A B : Option Addr} {n m c d : Nat} {l k : List Gn} {D : Nat} {w : World} (ha : Sc w D A n l) (hb : Sc w D B m k) (hD : D ≤ w.heap.size) (hn : n ≤ 1000000) (hs : ∀ x ∈ l, x.syms.length ≤ 1000000 ∧ x.items.length ≤ 1000000 ∧ x.fields.length ≤ 1000000) :
  Calls Tryz.prog 25 #[.agg #[.slice A n c], .agg #[.slice B m d]] w fun e w' => e = .returned (.bool (l == k)) ∧ Turn w w' none := by
 have hl := ha.1
 have hk := hb.1
 by_cases hnm : n = m
 ·subst hnm
  have hnn : ((n : Int) != (n : Int)) = false := by simp
  have hlk : l.length = k.length := by omega
  have HA := hid hl
  have HB := hid hk
  clear hl hk
  go_enter Tryz.func25, Tryz.ntmps25
  go_upto_region 1 with (first
   | (have q9 := hg; refine wp_bx rfl 24 _ rfl rfl ?_; intro g2 w2 hg2 hb2 ht2)
   | (refine wp_bx rfl 24 _ rfl rfl ?_; intro g w1 hg hb1 ht1))
  have hb3 := hb1.turn0 ht2
  have tt := ht1.trans ht2
  have k0 : w2.cell? ⟨g, 0, none⟩ = some (.slice A n c) := hb3.ats (xs := [_]) rfl
  have m0 : w2.cell? ⟨g2, 0, none⟩ = some (.slice B n d) := hb2.ats (xs := [_]) rfl
  go_wp2_with fail
  go_loopw [5] (fun i wr => ∃ j : Nat, j ≤ n ∧ i = .int .i64 (j : Int) ∧ Hid (l.take j = k.take j) ∧ Turn w2 wr none) (fun i _ => (n - intOf i).toNat)
  case atStart => exact ⟨0, by omega, rfl, hid rfl, Turn.refl w2 none⟩
  case round =>
   obtain ⟨j, hj, rfl, HE, htr⟩ := hrel
   have hwr : wrap64 ((j : Int) + 1) = (j : Int) + 1 := by unfold wrap64; omega
   have k0' := keepc htr k0
   have m0' := keepc htr m0
   have tr := tt.trans htr
   by_cases hjn : j < n
   ·have hjl : j < l.length := by rw [HA.out]; exact hjn
    have hjk : j < k.length := by rw [HB.out]; exact hjn
    obtain ⟨x, hx⟩ : ∃ x, l[j]? = some x := ⟨l[j], List.getElem?_eq_getElem hjl⟩
    obtain ⟨y, hy⟩ : ∃ y, k[j]? = some y := ⟨k[j], List.getElem?_eq_getElem hjk⟩
    obtain ⟨b1, o1, As, sc, Ai, ic, Af, fc, rfl, v1, a0, a1, a2, a3, a4, a5⟩ := (ha.turn0 tr hD).cells hx
    obtain ⟨b2, o2, Bs, tc, Bi, jc, Bf, gc, rfl, v2, d0, d1, d2, d3, d4, d5⟩ := (hb.turn0 tr hD).cells hy
    obtain ⟨l1, l2, l3⟩ := hs x (List.mem_of_getElem? hx)
    have hDr : D ≤ wr.heap.size := Nat.le_trans hD tr.size
    have nd := rnode_any (v1.turn0 (Turn.refl wr none).drew hDr) (v2.turn0 (Turn.refl wr none).drew hDr) hDr l1 l2 l3
    have HX := hid hx
    have HY := hid hy
    clear hx hy v1 v2 hjl hjk k0 m0
    by_cases hxy : x = y
    ·rw [decide_eq_true hxy] at nd
     have HXY := hid hxy
     clear hxy
     go_wp2_with (fail)
     refine wp_region_noPanic ?_
     refine wp_region_held_drew (S := (fun W => W.cell? ⟨g, 0, none⟩ = some (.slice (some ⟨b1, o1, none⟩) n c) ∧ W.cell? ⟨g2, 0, none⟩ = some (.slice (some ⟨b2, o2, none⟩) n d) ∧ W.cell? ⟨b1, o1 + j * 6, none⟩ = some (.int .i64 x.k) ∧ W.cell? ⟨b1, o1 + j * 6 + 1, none⟩ = some (.string (txt x.name)) ∧ W.cell? ⟨b1, o1 + j * 6 + 2, none⟩ = some (.int .i64 x.size) ∧ W.cell? ⟨b1, o1 + j * 6 + 3, none⟩ = some (.slice As x.syms.length sc) ∧ W.cell? ⟨b1, o1 + j * 6 + 4, none⟩ = some (.slice Ai x.items.length ic) ∧ W.cell? ⟨b1, o1 + j * 6 + 5, none⟩ = some (.slice Af x.fields.length fc) ∧ W.cell? ⟨b2, o2 + j * 6, none⟩ = some (.int .i64 y.k) ∧ W.cell? ⟨b2, o2 + j * 6 + 1, none⟩ = some (.string (txt y.name)) ∧ W.cell? ⟨b2, o2 + j * 6 + 2, none⟩ = some (.int .i64 y.size) ∧ W.cell? ⟨b2, o2 + j * 6 + 3, none⟩ = some (.slice Bs y.syms.length tc) ∧ W.cell? ⟨b2, o2 + j * 6 + 4, none⟩ = some (.slice Bi y.items.length jc) ∧ W.cell? ⟨b2, o2 + j * 6 + 5, none⟩ = some (.slice Bf y.fields.length gc))) (by kernel_rfl) (⟨k0', m0', a0, a1, a2, a3, a4, a5, d0, d1, d2, d3, d4, d5⟩) (fun hHeld => ?_)
     (first | refine tkN 0 ?_ | refine tkY 0 _ ?_); (try simp only [Act.put, zs])
     (first | refine tkN 1 ?_ | refine tkY 1 _ ?_); (try simp only [Act.put, zs])
     (first | refine tkN 2 ?_ | refine tkY 2 _ ?_); (try simp only [Act.put, zs])
     (first | refine tkN 3 ?_ | refine tkY 3 _ ?_); (try simp only [Act.put, zs])
     (first | refine tkN 4 ?_ | refine tkY 4 _ ?_); (try simp only [Act.put, zs])
     (first | refine tkN 5 ?_ | refine tkY 5 _ ?_); (try simp only [Act.put, zs])
     (first | refine tkN 6 ?_ | refine tkY 6 _ ?_); (try simp only [Act.put, zs])
     (first | refine tkN 7 ?_ | refine tkY 7 _ ?_); (try simp only [Act.put, zs])
     (first | refine tkN 8 ?_ | refine tkY 8 _ ?_); (try simp only [Act.put, zs])
     (first | refine tkN 9 ?_ | refine tkY 9 _ ?_); (try simp only [Act.put, zs])
     refine wpAnyH_ready (rs := [10]) (by kernel_rfl) (by simp) ?_; refine AllReadyH.cons rfl (fun K hK => ?_) AllReadyH.nil
     go_simp
     go_at_call 52
     refine nd.mono ?_
     rintro e w6 ⟨rfl, ht6⟩
     go_simp
     refine hK.out _ _ ⟨keepc ht6 k0', keepc ht6 m0', keepc ht6 a0, keepc ht6 a1, keepc ht6 a2, keepc ht6 a3, keepc ht6 a4, keepc ht6 a5, keepc ht6 d0, keepc ht6 d1, keepc ht6 d2, keepc ht6 d3, keepc ht6 d4, keepc ht6 d5⟩ (fun hHeld => ?_); clear hK K; (try simp only [Act.put, zs])
     (first | refine tkN 11 ?_ | refine tkY 11 _ ?_); (try simp only [Act.put, zs])
     refine wpAnyH_done (by kernel_rfl) ?_ _
     refine NoPanic.normal ?_
     clear hHeld
     go_wp2
     refine ⟨⟨j + 1, by omega, by go_num, hid (take_next1 HX.out (by rw [HXY.out]; exact HY.out) HE.out), htr.drew.trans ht6⟩, by simp [intOf]; omega⟩
    ·rw [decide_eq_false hxy] at nd
     have H := hid (beq_diff HX.out HY.out hxy)
     clear hxy
     go_wp2_with (fail)
     refine wp_region_noPanic ?_
     refine wp_region_held_drew (S := (fun W => W.cell? ⟨g, 0, none⟩ = some (.slice (some ⟨b1, o1, none⟩) n c) ∧ W.cell? ⟨g2, 0, none⟩ = some (.slice (some ⟨b2, o2, none⟩) n d) ∧ W.cell? ⟨b1, o1 + j * 6, none⟩ = some (.int .i64 x.k) ∧ W.cell? ⟨b1, o1 + j * 6 + 1, none⟩ = some (.string (txt x.name)) ∧ W.cell? ⟨b1, o1 + j * 6 + 2, none⟩ = some (.int .i64 x.size) ∧ W.cell? ⟨b1, o1 + j * 6 + 3, none⟩ = some (.slice As x.syms.length sc) ∧ W.cell? ⟨b1, o1 + j * 6 + 4, none⟩ = some (.slice Ai x.items.length ic) ∧ W.cell? ⟨b1, o1 + j * 6 + 5, none⟩ = some (.slice Af x.fields.length fc) ∧ W.cell? ⟨b2, o2 + j * 6, none⟩ = some (.int .i64 y.k) ∧ W.cell? ⟨b2, o2 + j * 6 + 1, none⟩ = some (.string (txt y.name)) ∧ W.cell? ⟨b2, o2 + j * 6 + 2, none⟩ = some (.int .i64 y.size) ∧ W.cell? ⟨b2, o2 + j * 6 + 3, none⟩ = some (.slice Bs y.syms.length tc) ∧ W.cell? ⟨b2, o2 + j * 6 + 4, none⟩ = some (.slice Bi y.items.length jc) ∧ W.cell? ⟨b2, o2 + j * 6 + 5, none⟩ = some (.slice Bf y.fields.length gc))) (by kernel_rfl) (⟨k0', m0', a0, a1, a2, a3, a4, a5, d0, d1, d2, d3, d4, d5⟩) (fun hHeld => ?_)
     (first | refine tkN 0 ?_ | refine tkY 0 _ ?_); (try simp only [Act.put, zs])
     (first | refine tkN 1 ?_ | refine tkY 1 _ ?_); (try simp only [Act.put, zs])
     (first | refine tkN 2 ?_ | refine tkY 2 _ ?_); (try simp only [Act.put, zs])
     (first | refine tkN 3 ?_ | refine tkY 3 _ ?_); (try simp only [Act.put, zs])
     (first | refine tkN 4 ?_ | refine tkY 4 _ ?_); (try simp only [Act.put, zs])
     (first | refine tkN 5 ?_ | refine tkY 5 _ ?_); (try simp only [Act.put, zs])
     (first | refine tkN 6 ?_ | refine tkY 6 _ ?_); (try simp only [Act.put, zs])
     (first | refine tkN 7 ?_ | refine tkY 7 _ ?_); (try simp only [Act.put, zs])
     (first | refine tkN 8 ?_ | refine tkY 8 _ ?_); (try simp only [Act.put, zs])
     (first | refine tkN 9 ?_ | refine tkY 9 _ ?_); (try simp only [Act.put, zs])
     refine wpAnyH_ready (rs := [10]) (by kernel_rfl) (by simp) ?_; refine AllReadyH.cons rfl (fun K hK => ?_) AllReadyH.nil
     go_simp
     go_at_call 52
     refine nd.mono ?_
     rintro e w6 ⟨rfl, ht6⟩
     go_simp
     refine hK.out _ _ ⟨keepc ht6 k0', keepc ht6 m0', keepc ht6 a0, keepc ht6 a1, keepc ht6 a2, keepc ht6 a3, keepc ht6 a4, keepc ht6 a5, keepc ht6 d0, keepc ht6 d1, keepc ht6 d2, keepc ht6 d3, keepc ht6 d4, keepc ht6 d5⟩ (fun hHeld => ?_); clear hK K; (try simp only [Act.put, zs])
     (first | refine tkN 11 ?_ | refine tkY 11 _ ?_); (try simp only [Act.put, zs])
     refine wpAnyH_done (by kernel_rfl) ?_ _
     refine NoPanic.normal ?_
     clear hHeld
     go_wp2
     go_ret
     exact ⟨by rw [H.out]; rfl, tr.drew.trans ht6⟩
   ·obtain rfl : j = n := by omega
    have H := hid (beq_all hlk (by rw [HA.out]; exact HE.out))
    go_wp2
    go_ret
    exact ⟨by rw [H.out]; rfl, tr⟩
 ·have hne : ((n : Int) != (m : Int)) = true := by rw [bne_iff_ne]; omega
  have H := hid (beq_len (l := l) (m := k) (by omega))
  clear hl hk
  go_enter Tryz.func25, Tryz.ntmps25
  go_upto_region 1 with (first
   | (have q9 := hg; refine wp_bx rfl 24 _ rfl rfl ?_; intro g2 w2 hg2 hb2 ht2)
   | (refine wp_bx rfl 24 _ rfl rfl ?_; intro g w1 hg hb1 ht1))
  have hb3 := hb1.turn0 ht2
  have tt := ht1.trans ht2
  have k0 : w2.cell? ⟨g, 0, none⟩ = some (.slice A n c) := hb3.ats (xs := [_]) rfl
  have m0 : w2.cell? ⟨g2, 0, none⟩ = some (.slice B m d) := hb2.ats (xs := [_]) rfl
  go_wp2_with fail
  go_ret
  exact ⟨by rw [H.out]; rfl, tt⟩
open Go.RowKit
section
variable {P : Program} {ops : Array Oper} {Q : Exit → Act → World → Prop} {md : Region.Mode} {S : World → Prop} {k : Nat}
def wpTwo (P : Program) (md : Region.Mode) (ops : Array Oper) (Q : Exit → Act → World → Prop) (S : World → Prop) (k : Nat) : Nat → Array Bool → Act → World → Prop
 | 0, listed, a, w => Region.ready md ops listed = [] ∧ Q .normal a w
 | fuel + 1, listed, a, w =>
  (Region.ready md ops listed = [] → Q .normal a w) ∧
  ∀ i ∈ Region.ready md ops listed, wpOp P ops Q i (fun a' w' => ((listed.setIfInBounds i true).getD k true = true ∨ S w') ∧ wpTwo P md ops Q S k fuel (listed.setIfInBounds i true) a' w') a w
def AllTwo (P : Program) (md : Region.Mode) (ops : Array Oper) (Q : Exit → Act → World → Prop) (S : World → Prop) (k fuel : Nat) (listed : Array Bool) (a : Act) (w : World) (rs : List Nat) : Prop :=
 ∀ i ∈ rs, wpOp P ops Q i (fun a' w' => ((listed.setIfInBounds i true).getD k true = true ∨ S w') ∧ wpTwo P md ops Q S k fuel (listed.setIfInBounds i true) a' w') a w
theorem AllTwo.nil {fuel : Nat} {listed : Array Bool} {a : Act} {w : World} : AllTwo P md ops Q S k fuel listed a w [] := fun _ h => by cases h
theorem AllTwo.cons {fuel : Nat} {listed : Array Bool} {a : Act} {w : World} {i : Nat} {o : Oper} {rs : List Nat} (ho : ops[i]? = some o)
  (h : ∀ K' : Act → World → Prop, Shut (∀ a w, ((listed.setIfInBounds i true).getD k true = true ∨ S w) → wpTwo P md ops Q S k fuel (listed.setIfInBounds i true) a w → K' a w) → if Region.wanted o (yielded ops a.tmps) = true then Oper.wp P o a w K' Q else K' (a.put o.dst undef) w)
  (hs : AllTwo P md ops Q S k fuel listed a w rs) : AllTwo P md ops Q S k fuel listed a w (i :: rs) := fun j hj => by
 rcases List.mem_cons.1 hj with rfl | hj
 ·exact wpOp_step ho (fun K' hK => h K' (fun a w hS hW => hK a w ⟨hS, hW⟩))
 ·exact hs j hj
end
open Go.RowKit
structure OwN (w : World) (base : Nat) (vs : List Value) (i : Nat) (x : Gn) : Prop where
 k : vs[i * 6]? = some (.int .i64 x.k)
 name : vs[i * 6 + 1]? = some (.string (txt x.name))
 size : vs[i * 6 + 2]? = some (.int .i64 x.size)
 syms : ∃ A c, vs[i * 6 + 3]? = some (.slice A x.syms.length c) ∧ Own w base 9 1 A x.syms.length c (vss x.syms)
 items : ∃ A c, vs[i * 6 + 4]? = some (.slice A x.items.length c) ∧ Own w base 3 1 A x.items.length c (vis x.items)
 fields : ∃ A c, vs[i * 6 + 5]? = some (.slice A x.fields.length c) ∧ Own w base 119 3 A x.fields.length c (vfs x.fields)
section
variable {w w' : World} {base i : Nat} {vs vs' : List Value} {x : Gn}
theorem OwN.turn0 (h : OwN w base vs i x) (ht : Turn w w' none) : OwN w' base vs i x :=
 ⟨h.k, h.name, h.size, h.syms.imp fun _ q => q.imp fun _ q => ⟨q.1, q.2.turn0 ht⟩, h.items.imp fun _ q => q.imp fun _ q => ⟨q.1, q.2.turn0 ht⟩, h.fields.imp fun _ q => q.imp fun _ q => ⟨q.1, q.2.turn0 ht⟩⟩
theorem OwN.turnB (h : OwN w base vs i x) {g : Nat} {t : TypeId} {cs : Array Value} (k : Blk w g t cs) (h1 : t ≠ 9) (h2 : t ≠ 3) (h3 : t ≠ 119) (ht : Turn w w' (some g)) : OwN w' base vs i x :=
 ⟨h.k, h.name, h.size, h.syms.imp fun _ q => q.imp fun _ q => ⟨q.1, q.2.turn ht (.inr (q.2.not_blk k h1))⟩, h.items.imp fun _ q => q.imp fun _ q => ⟨q.1, q.2.turn ht (.inr (q.2.not_blk k h2))⟩, h.fields.imp fun _ q => q.imp fun _ q => ⟨q.1, q.2.turn ht (.inr (q.2.not_blk k h3))⟩⟩
theorem OwN.more (h : OwN w base vs i x) (hi : i * 6 + 6 ≤ vs.length) : OwN w base (vs ++ vs') i x := by
 have e : ∀ j v, vs[i * 6 + j]? = some v → (vs ++ vs')[i * 6 + j]? = some v := fun j v hv => by
  rw [List.getElem?_append_left (List.getElem?_eq_some_iff.1 hv).1]; exact hv
 exact ⟨e 0 _ h.k, e 1 _ h.name, e 2 _ h.size, h.syms.imp fun _ q => q.imp fun _ q => ⟨e 3 _ q.1, q.2⟩, h.items.imp fun _ q => q.imp fun _ q => ⟨e 4 _ q.1, q.2⟩, h.fields.imp fun _ q => q.imp fun _ q => ⟨e 5 _ q.1, q.2⟩⟩
theorem OwN.nd (h : OwN w base vs i x) : NdIn w w.heap.size vs i x :=
 ⟨h.k, h.name, h.size, h.syms.elim fun A q => q.elim fun c q => ⟨_, q.1, A, c, rfl, q.2.rd, q.2.cap⟩, h.items.elim fun A q => q.elim fun c q => ⟨_, q.1, A, c, rfl, q.2.rd, q.2.cap⟩, h.fields.elim fun A q => q.elim fun c q => ⟨_, q.1, A, c, rfl, q.2.rd, q.2.cap⟩⟩
end
open Go.RowKit
section
variable {w w' : World} {b : DB} {st : DW}
theorem dtyp_back (h : Dv w b st) {n : Int} {d : Nat} (hd : d ≤ 20) (hoff : dOff b.gs d n st = false) {x : Gn} (hx : b.gs[n.toNat]? = some x) (hn : n < (st.nx : Int)) :
  Calls Tryz.prog 46 #[.pointer (some ⟨b.pW, 0, none⟩), .int .i64 n, .int .i64 (d : Int)] w (Ud b w { st with S := st.S ++ x.name, bad := decide (x.k < 9) }) := by
 have hlen := h.len
 have hfew := h.few
 have c0 := h.w0
 have c1 := h.w1
 have c2 := h.w2
 have c3 := h.w3
 have zf := h.blk.frozen 3
 unfold dOff at hoff
 simp only [Bool.or_eq_false_iff, decide_eq_false_iff_not] at hoff
 rw [← hlen] at hoff
 clear hlen
 obtain ⟨⟨⟨⟨⟨hb, i0⟩, i1⟩, i2⟩, i3⟩, i4⟩ := hoff
 rw [hb] at c3
 obtain ⟨m, rfl⟩ : ∃ m : Nat, n = (m : Int) := ⟨n.toNat, by omega⟩
 rw [Int.toNat_natCast] at hx
 have i3 : ¬(20 : Int) ≤ (d : Int) := by omega
 have i4 : ¬(4096 : Int) < (st.S.length : Int) := by omega
 have HG := h.ok x (List.mem_of_getElem? hx)
 have hsz : (txt st.S).size = st.S.length := txt_size _
 obtain ⟨X, hX⟩ : ∃ X, X = txt st.S := ⟨_, rfl⟩
 rw [← hX] at c1 hsz
 clear hX
 obtain ⟨hv1, t1⟩ := h.setB false
 have hv1 : Dv (w.setCell ⟨b.pW, 3, none⟩ (.bool false)) b st := by
  have : ({ st with bad := false } : DW) = st := by rw [← hb]
  rwa [this] at hv1
 go_enter Tryz.func46, Tryz.ntmps46
 go_upto_region 2 with (fail)
 clear c0 c1 c2 c3 zf hsz
 obtain ⟨w1, hw1⟩ : ∃ w1, w1 = w.setCell ⟨b.pW, 3, none⟩ (.bool false) := ⟨_, rfl⟩
 rw [← hw1] at hv1 t1
 rw [← hw1]
 clear hw1
 have c0 := hv1.w0
 obtain ⟨b1, o1, As, sc, Ai, ic, Af, fc, hA, nv, a0, a1, a2, a3, a4, a5⟩ := hv1.sc.cells hx
 rw [hA] at c0
 go_upto_region 3 with (first
  | (refine wp_al rfl 64 rfl _ zNdv ?_; intro p w4 hp hb4 ht4)
  | (refine wp_st rfl 64 _ _ rfl rfl rfl hb4 rfl (xs := [.int .i64 x.k, .string (txt x.name), .int .i64 x.size, .slice As x.syms.length sc, .slice Ai x.items.length ic, .slice Af x.fields.length fc]) szNd (ones_cons rfl (ones_cons rfl (ones_cons rfl (ones_cons rfl (ones_cons rfl (ones_cons rfl ones_nil)))))) ?_; intro w5 hb5 ht5))
 have t05 : Turn w1 w5 none := ht4.new ht5 (fun g' e => by injection e with e; omega)
 have hv5 := hv1.turn0 t05
 have b2 := hv5.w2
 have k0 : w5.cell? ⟨p, 0, none⟩ = some (.int .i64 x.k) := hb5.ats rfl
 have k1 : w5.cell? ⟨p, 1, none⟩ = some (.string (txt x.name)) := hb5.ats rfl
 have lp := hb5.lt
 have npW : p ≠ b.pW := by have := hv1.blk.lt; omega
 have zf := hv5.blk.frozen 3
 have b3 := hv5.w3
 rw [hb] at b3
 obtain ⟨kb, hkb⟩ : ∃ kb, decide (x.k < 9) = kb := ⟨_, rfl⟩
 clear c0 a0 a1 a2 a3 a4 a5
 go_upto_region 5 with (fail)
 obtain ⟨hv6, t6⟩ := hv5.setB kb
 obtain ⟨w6, hw6⟩ : ∃ w6, w6 = w5.setCell ⟨b.pW, 3, none⟩ (.bool kb) := ⟨_, rfl⟩
 rw [← hw6] at hv6 t6
 rw [← hw6]
 clear hw6 k0 b2 b3 zf
 have k1 : w6.cell? ⟨p, 1, none⟩ = some (.string (txt x.name)) := (t6.cell (a := ⟨p, 1, none⟩) lp (fun e => npW (by injection e))).trans k1
 obtain ⟨Y, hY⟩ : ∃ Y, Y = txt x.name := ⟨_, rfl⟩
 obtain ⟨Z, hZ⟩ : ∃ Z, Z = txt st.S := ⟨_, rfl⟩
 have hZY := hid (show Z ++ Y = txt (st.S ++ x.name) by rw [hZ, hY, txt_app2])
 have c1 : w6.cell? ⟨b.pW, 1, none⟩ = some (.string (txt st.S)) := hv6.w1
 rw [← hZ] at c1
 rw [← hY] at k1
 have q1 : ¬ 9223372036854775807 < Z.size + Y.size := by rw [hZ, hY, txt_size, txt_size]; have := HG.nm; omega
 have zf := hv6.blk.frozen 1
 have lw := hv6.blk.lt
 clear hZ hY
 refine wp_region_noPanic ?_
 refine wp_region_held_drew (S := (fun W => W.cell? ⟨p, 1, none⟩ = some (.string Y))) (by kernel_rfl) (k1) (fun hHeld => ?_)
 (first | refine tkN 0 ?_ | refine tkY 0 _ ?_); (try simp only [Act.put, zs])
 (first | refine tkN 1 ?_ | refine tkY 1 _ ?_); (try simp only [Act.put, zs])
 (first | refine tkN 2 ?_ | refine tkY 2 _ ?_); (try simp only [Act.put, zs])
 (first | refine tkN 3 ?_ | refine tkY 3 _ ?_); (try simp only [Act.put, zs])
 (first | refine tkN 5 ?_ | refine tkY 5 _ ?_); (try simp only [Act.put, zs])
 (first | refine tkN 6 ?_ | refine tkY 6 _ ?_); (try simp only [Act.put, zs])
 refine wpAnyH_ready (rs := [4]) (by kernel_rfl) (by simp) ?_; refine AllReadyH.cons rfl (fun K hK => ?_) AllReadyH.nil
 go_simp
 refine hK.out _ _ k1 (fun hHeld => ?_); clear hK K; (try simp only [Act.put, zs])
 (first | refine tkN 7 ?_ | refine tkY 7 _ ?_); (try simp only [Act.put, zs])
 (first | refine tkN 8 ?_ | refine tkY 8 _ ?_); (try simp only [Act.put, zs])
 (first | refine tkN 9 ?_ | refine tkY 9 _ ?_); (try simp only [Act.put, zs])
 refine wpAnyH_ready (rs := [10]) (by kernel_rfl) (by simp) ?_; refine AllReadyH.cons rfl (fun K hK => ?_) AllReadyH.nil
 go_simp
 refine hK.out _ _ ((World.cell?_setCell_far _ _ _ _ npW.symm).trans k1) (fun hHeld => ?_); clear hK K; (try simp only [Act.put, zs])
 refine wpAnyH_done (by kernel_rfl) ?_ _
 refine NoPanic.normal ?_
 clear hHeld
 obtain ⟨hv7, t7⟩ := hv6.setS (st.S ++ x.name)
 rw [← hZY.out] at hv7 t7
 have hv8 := hv7.turn0 (Turn.refl _ none).drew
 have t8 := t7.drew
 rw [← hkb]
 go_wp2
 go_end0
 have e : ({ st with S := st.S ++ x.name, bad := decide (x.k < 9) } : DW) = { st with bad := kb, S := st.S ++ x.name } := by rw [hkb]
 exact ⟨rfl, by first | exact hv8 | (rw [hkb]; exact hv8), ((t1.trans (t05.any _)).trans t6).trans t8⟩
end
open Go.RowKit
noncomputable def wtB : Code := (Tryz.f46.body).getD .skip
def opL : List Value := (List.range 12).map fun k => .string (txt (dOpen k))
def shL : List Value := (List.range 12).map fun k => .string (txt (dShut k))
theorem opL_at {k : Nat} (h : k < 12) : opL[k]? = some (.string (txt (dOpen k))) := by
 unfold opL
 rw [List.getElem?_map, List.getElem?_range h]
 rfl
theorem shL_at {k : Nat} (h : k < 12) : shL[k]? = some (.string (txt (dShut k))) := by
 unfold shL
 rw [List.getElem?_map, List.getElem?_range h]
 rfl
def ndC (x : Gn) (As : Option Addr) (sc : Nat) (Ai : Option Addr) (ic : Nat) (Af : Option Addr) (fc : Nat) : List Value := [.int .i64 x.k, .string (txt x.name), .int .i64 x.size, .slice As x.syms.length sc, .slice Ai x.items.length ic, .slice Af x.fields.length fc]
structure Tv (w : World) (b : DB) (st : DW) (x : Gn) (p g : Nat) (As : Option Addr) (sc : Nat) (Ai : Option Addr) (ic : Nat) (Af : Option Addr) (fc : Nat) : Prop where
 dv : Dv w b st
 nb : Blk w p 64 (ndC x As sc Ai ic Af fc).toArray
 sh : Blk w g 9 shL.toArray
 hp : b.pW < p
 hg : b.pW < g
 rs : Rd w b.base 1 As x.syms.length (vss x.syms)
 ri : Rd w b.base 1 Ai x.items.length (vis x.items)
 rf : Rd w b.base 3 Af x.fields.length (vfs x.fields)
 ok : GOk x
section
variable {w w' w0 : World} {b : DB} {st st' FIN : DW} {x : Gn} {p g : Nat} {As : Option Addr} {sc : Nat} {Ai : Option Addr} {ic : Nat} {Af : Option Addr} {fc : Nat} {d f k : Nat}
theorem Tv.turn (h : Tv w b st x p g As sc Ai ic Af fc) (t : Turn w w' (some b.pW)) (hv : Dv w' b st') : Tv w' b st' x p g As sc Ai ic Af fc := by
 have hb : ∀ q : Nat, some b.pW = some q → b.base ≤ q := fun q e => by injection e with e; have := h.dv.lo; omega
 exact ⟨hv, h.nb.turn t (fun e => by injection e with e; have := h.hp; omega), h.sh.turn t (fun e => by injection e with e; have := h.hg; omega), h.hp, h.hg, h.rs.turn t h.dv.size hb, h.ri.turn t h.dv.size hb, h.rf.turn t h.dv.size hb, h.ok⟩
theorem Tv.k0 (h : Tv w b st x p g As sc Ai ic Af fc) : w.cell? ⟨p, 0, none⟩ = some (.int .i64 x.k) := h.nb.cell 0
theorem Tv.k1 (h : Tv w b st x p g As sc Ai ic Af fc) : w.cell? ⟨p, 1, none⟩ = some (.string (txt x.name)) := h.nb.cell 1
theorem Tv.k2 (h : Tv w b st x p g As sc Ai ic Af fc) : w.cell? ⟨p, 2, none⟩ = some (.int .i64 x.size) := h.nb.cell 2
theorem Tv.k3 (h : Tv w b st x p g As sc Ai ic Af fc) : w.cell? ⟨p, 3, none⟩ = some (.slice As x.syms.length sc) := h.nb.cell 3
theorem Tv.k4 (h : Tv w b st x p g As sc Ai ic Af fc) : w.cell? ⟨p, 4, none⟩ = some (.slice Ai x.items.length ic) := h.nb.cell 4
theorem Tv.k5 (h : Tv w b st x p g As sc Ai ic Af fc) : w.cell? ⟨p, 5, none⟩ = some (.slice Af x.fields.length fc) := h.nb.cell 5
theorem Tv.s0 (h : Tv w b st x p g As sc Ai ic Af fc) (hk : k < 12) : w.cell? ⟨g, k, none⟩ = some (.string (txt (dShut k))) := (h.sh.cell k).trans (by rw [List.getElem?_toArray]; exact shL_at hk)
theorem wt_end (h : Tv w b st x p g As sc Ai ic Af fc) (hk : x.k = (k : Int)) (hk12 : k < 12) (hl : st.S.length ≤ 18014398509481984) (t0 : Turn w0 w (some b.pW)) (HF : Hid (FIN = { st with S := st.S ++ dShut k })) {e_1 e_3 e_4 e_5 e_7 e_9 e_10 e_11 e_12 e_13 e_14 e_15 e_16 e_17 e_18 e_19 e_20 e_21 e_22 e_23 e_24 e_25 e_26 e_27 e_28 e_29 e_30 e_31 e_32 e_33 e_34 e_35 e_36 e_37 e_38 e_39 e_40 e_41 e_42 e_43 e_44 e_45 e_46 e_47 e_48 e_49 e_50 e_51 e_52 e_53 e_54 e_55 e_56 e_57 e_58 e_59 e_60 e_61 e_62 e_63 e_64 e_65 e_66 e_67 e_68 e_69 e_70 e_71 e_72 e_73 e_74 e_75 e_76 e_77 e_78 e_79 e_80 e_81 e_82 e_83 e_84 e_85 e_86 e_87 e_88 e_89 e_90 e_91 e_92 e_93 e_94 e_95 e_96 e_97 e_98 e_99 e_100 e_101 e_102 e_103 e_104 e_105 e_106 e_107 e_108 e_109 e_110 e_111 e_112 e_113 e_114 e_115 e_116 e_117 e_118 e_119 e_120 e_121 e_122 e_123 e_124 e_125 e_126 e_127 e_128 e_129 e_130 e_131 e_132 e_133 e_134 e_135 e_136 e_137 e_138 e_139 e_140 e_141 e_142 e_143 e_144 e_145 e_146 e_147 e_148 e_149 e_150 e_151 e_152 e_153 e_154 e_155 e_156 e_157 e_158 e_159 e_160 e_161 e_162 e_163 e_164 e_165 e_166 e_167 e_168 e_169 e_170 e_171 e_172 e_173 e_174 e_175 e_176 e_177 e_178 e_179 e_180 e_181 e_182 e_183 e_184 e_185 e_186 e_187 e_188 e_189 e_190 e_191 e_192 e_193 e_194 e_195 e_196 e_197 e_198 e_199 e_200 e_201 e_202 e_203 e_204 e_205 e_206 e_207 e_208 e_209 e_210 e_211 e_212 e_213 e_214 e_215 e_216 e_217 e_218 e_219 e_220 e_221 e_222 e_223 e_224 e_225 e_226 e_227 e_228 e_229 e_230 e_231 e_232 e_233 e_234 e_235 e_236 e_237 e_238 e_239 e_240 e_241 e_242 e_243 e_244 e_245 e_246 e_247 e_248 e_249 e_250 e_251 e_252 e_253 e_254 e_255 e_256 e_257 e_258 e_259 e_260 e_261 e_262 e_263 e_264 e_265 e_266 e_267 e_268 : Value} :
  Code.wp Tryz.prog (tailOf 14 wtB) (bodyPost Tryz.prog Tryz.f46 (Ud b w0 FIN)) ⟨List.toArray (.pointer (some ⟨b.pW, 0, none⟩) :: e_1 :: .int .i64 (d : Int) :: e_3 :: e_4 :: e_5 :: .pointer (some ⟨p, 0, none⟩) :: e_7 :: .slice (some ⟨g, 0, none⟩) 12 12 :: e_9 :: e_10 :: e_11 :: e_12 :: e_13 :: e_14 :: e_15 :: e_16 :: e_17 :: e_18 :: e_19 :: e_20 :: e_21 :: e_22 :: e_23 :: e_24 :: e_25 :: e_26 :: e_27 :: e_28 :: e_29 :: e_30 :: e_31 :: e_32 :: e_33 :: e_34 :: e_35 :: e_36 :: e_37 :: e_38 :: e_39 :: e_40 :: e_41 :: e_42 :: e_43 :: e_44 :: e_45 :: e_46 :: e_47 :: e_48 :: e_49 :: e_50 :: e_51 :: e_52 :: e_53 :: e_54 :: e_55 :: e_56 :: e_57 :: e_58 :: e_59 :: e_60 :: e_61 :: e_62 :: e_63 :: e_64 :: e_65 :: e_66 :: e_67 :: e_68 :: e_69 :: e_70 :: e_71 :: e_72 :: e_73 :: e_74 :: e_75 :: e_76 :: e_77 :: e_78 :: e_79 :: e_80 :: e_81 :: e_82 :: e_83 :: e_84 :: e_85 :: e_86 :: e_87 :: e_88 :: e_89 :: e_90 :: e_91 :: e_92 :: e_93 :: e_94 :: e_95 :: e_96 :: e_97 :: e_98 :: e_99 :: e_100 :: e_101 :: e_102 :: e_103 :: e_104 :: e_105 :: e_106 :: e_107 :: e_108 :: e_109 :: e_110 :: e_111 :: e_112 :: e_113 :: e_114 :: e_115 :: e_116 :: e_117 :: e_118 :: e_119 :: e_120 :: e_121 :: e_122 :: e_123 :: e_124 :: e_125 :: e_126 :: e_127 :: e_128 :: e_129 :: e_130 :: e_131 :: e_132 :: e_133 :: e_134 :: e_135 :: e_136 :: e_137 :: e_138 :: e_139 :: e_140 :: e_141 :: e_142 :: e_143 :: e_144 :: e_145 :: e_146 :: e_147 :: e_148 :: e_149 :: e_150 :: e_151 :: e_152 :: e_153 :: e_154 :: e_155 :: e_156 :: e_157 :: e_158 :: e_159 :: e_160 :: e_161 :: e_162 :: e_163 :: e_164 :: e_165 :: e_166 :: e_167 :: e_168 :: e_169 :: e_170 :: e_171 :: e_172 :: e_173 :: e_174 :: e_175 :: e_176 :: e_177 :: e_178 :: e_179 :: e_180 :: e_181 :: e_182 :: e_183 :: e_184 :: e_185 :: e_186 :: e_187 :: e_188 :: e_189 :: e_190 :: e_191 :: e_192 :: e_193 :: e_194 :: e_195 :: e_196 :: e_197 :: e_198 :: e_199 :: e_200 :: e_201 :: e_202 :: e_203 :: e_204 :: e_205 :: e_206 :: e_207 :: e_208 :: e_209 :: e_210 :: e_211 :: e_212 :: e_213 :: e_214 :: e_215 :: e_216 :: e_217 :: e_218 :: e_219 :: e_220 :: e_221 :: e_222 :: e_223 :: e_224 :: e_225 :: e_226 :: e_227 :: e_228 :: e_229 :: e_230 :: e_231 :: e_232 :: e_233 :: e_234 :: e_235 :: e_236 :: e_237 :: e_238 :: e_239 :: e_240 :: e_241 :: e_242 :: e_243 :: e_244 :: e_245 :: e_246 :: e_247 :: e_248 :: e_249 :: e_250 :: e_251 :: e_252 :: e_253 :: e_254 :: e_255 :: e_256 :: e_257 :: e_258 :: e_259 :: e_260 :: e_261 :: e_262 :: e_263 :: e_264 :: e_265 :: e_266 :: e_267 :: e_268 :: []), []⟩ w := by
 have c1 := h.dv.w1
 have k0 := h.k0
 have s0 := h.s0 hk12
 rw [hk] at k0
 have npW : p ≠ b.pW := by have := h.hp; omega
 have ngW : g ≠ b.pW := by have := h.hg; omega
 have kI : (k : Int) < 12 := by omega
 have hdl := dShut_len k
 obtain ⟨Y, hY⟩ : ∃ Y, Y = txt (dShut k) := ⟨_, rfl⟩
 obtain ⟨Z, hZ⟩ : ∃ Z, Z = txt st.S := ⟨_, rfl⟩
 have hZY := hid (show Z ++ Y = txt (st.S ++ dShut k) by rw [hZ, hY, txt_app2])
 rw [← hZ] at c1
 rw [← hY] at s0
 have q1 : ¬ 9223372036854775807 < Z.size + Y.size := by rw [hZ, hY, txt_size, txt_size]; omega
 have zf := h.dv.blk.frozen 1
 have lw := h.dv.blk.lt
 have HV := hid h
 clear hZ hY hk h hdl
 conv => arg 2; whnf
 refine wp_region_noPanic ?_
 refine wp_region_held_drew (S := (fun W => W.cell? ⟨p, 0, none⟩ = some (.int .i64 (k : Int)) ∧ W.cell? ⟨g, k, none⟩ = some (.string Y))) (by kernel_rfl) (⟨k0, s0⟩) (fun hHeld => ?_)
 (first | refine tkN 0 ?_ | refine tkY 0 _ ?_); (try simp only [Act.put, zs])
 (first | refine tkN 1 ?_ | refine tkY 1 _ ?_); (try simp only [Act.put, zs])
 (first | refine tkN 2 ?_ | refine tkY 2 _ ?_); (try simp only [Act.put, zs])
 (first | refine tkN 3 ?_ | refine tkY 3 _ ?_); (try simp only [Act.put, zs])
 (first | refine tkN 5 ?_ | refine tkY 5 _ ?_); (try simp only [Act.put, zs])
 (first | refine tkN 6 ?_ | refine tkY 6 _ ?_); (try simp only [Act.put, zs])
 (first | refine tkN 7 ?_ | refine tkY 7 _ ?_); (try simp only [Act.put, zs])
 (first | refine tkN 8 ?_ | refine tkY 8 _ ?_); (try simp only [Act.put, zs])
 (first | refine tkN 9 ?_ | refine tkY 9 _ ?_); (try simp only [Act.put, zs])
 refine wpAnyH_ready (rs := [4]) (by kernel_rfl) (by simp) ?_; refine AllReadyH.cons rfl (fun K hK => ?_) AllReadyH.nil
 go_simp
 refine hK.out _ _ ⟨k0, s0⟩ (fun hHeld => ?_); clear hK K; (try simp only [Act.put, zs])
 (first | refine tkN 10 ?_ | refine tkY 10 _ ?_); (try simp only [Act.put, zs])
 (first | refine tkN 11 ?_ | refine tkY 11 _ ?_); (try simp only [Act.put, zs])
 (first | refine tkN 12 ?_ | refine tkY 12 _ ?_); (try simp only [Act.put, zs])
 refine wpAnyH_ready (rs := [13]) (by kernel_rfl) (by simp) ?_; refine AllReadyH.cons rfl (fun K hK => ?_) AllReadyH.nil
 go_simp
 refine hK.out _ _ ⟨(World.cell?_setCell_far _ _ _ _ npW.symm).trans k0, (World.cell?_setCell_far _ _ _ _ ngW.symm).trans s0⟩ (fun hHeld => ?_); clear hK K; (try simp only [Act.put, zs])
 refine wpAnyH_done (by kernel_rfl) ?_ _
 refine NoPanic.normal ?_
 clear hHeld
 obtain ⟨hv7, t7⟩ := HV.out.dv.setS (st.S ++ dShut k)
 rw [← hZY.out] at hv7 t7
 have hv8 := hv7.turn0 (Turn.refl _ none).drew
 have t8 := t7.drew
 go_wp2
 go_end0
 rw [HF.out]
 exact ⟨rfl, hv8, t0.trans t8⟩
theorem wt_skip (h : Tv w b st x p g As sc Ai ic Af fc) (hk : x.k = (k : Int)) (hk12 : k < 12) (hk6 : k < 6 ∨ k = 9 ∨ k = 10) (hl : st.S.length ≤ 18014398509481984) (t0 : Turn w0 w (some b.pW)) (HF : Hid (FIN = { st with S := st.S ++ dShut k })) {KK : Act → World → Prop} (hKK : ∀ a w, Code.wp Tryz.prog (tailOf 13 wtB) (bodyPost Tryz.prog Tryz.f46 (Ud b w0 FIN)) a w → KK a w) {K2 : Act → World → Prop} (hK2 : ∀ a w, Code.wp Tryz.prog (tailOf 1 (headOf 12 wtB)) (Exit.then KK (bodyPost Tryz.prog Tryz.f46 (Ud b w0 FIN))) a w → K2 a w) {e_1 e_3 e_4 e_5 e_7 e_9 e_10 e_11 e_12 e_13 e_14 e_15 e_16 e_17 e_18 e_19 e_20 e_21 e_22 e_23 e_24 e_25 e_26 e_27 e_28 e_29 e_30 e_31 e_32 e_33 e_34 e_35 e_36 e_37 e_38 e_39 e_40 e_41 e_42 e_43 e_44 e_45 e_46 e_47 e_48 e_49 e_50 e_51 e_52 e_53 e_54 e_55 e_56 e_57 e_58 e_59 e_60 e_61 e_62 e_63 e_64 e_65 e_66 e_67 e_68 e_69 e_70 e_71 e_72 e_73 e_74 e_75 e_76 e_77 e_78 e_79 e_80 e_81 e_82 e_83 e_84 e_85 e_86 e_87 e_88 e_89 e_90 e_91 e_92 e_93 e_94 e_95 e_96 e_97 e_98 e_99 e_100 e_101 e_102 e_103 e_104 e_105 e_106 e_107 e_108 e_109 e_110 e_111 e_112 e_113 e_114 e_115 e_116 e_117 e_118 e_119 e_120 e_121 e_122 e_123 e_124 e_125 e_126 e_127 e_128 e_129 e_130 e_131 e_132 e_133 e_134 e_135 e_136 e_137 e_138 e_139 e_140 e_141 e_142 e_143 e_144 e_145 e_146 e_147 e_148 e_149 e_150 e_151 e_152 e_153 e_154 e_155 e_156 e_157 e_158 e_159 e_160 e_161 e_162 e_163 e_164 e_165 e_166 e_167 e_168 e_169 e_170 e_171 e_172 e_173 e_174 e_175 e_176 e_177 e_178 e_179 e_180 e_181 e_182 e_183 e_184 e_185 e_186 e_187 e_188 e_189 e_190 e_191 e_192 e_193 e_194 e_195 e_196 e_197 e_198 e_199 e_200 e_201 e_202 e_203 e_204 e_205 e_206 e_207 e_208 e_209 e_210 e_211 e_212 e_213 e_214 e_215 e_216 e_217 e_218 e_219 e_220 e_221 e_222 e_223 e_224 e_225 e_226 e_227 e_228 e_229 e_230 e_231 e_232 e_233 e_234 e_235 e_236 e_237 e_238 e_239 e_240 e_241 e_242 e_243 e_244 e_245 e_246 e_247 e_248 e_249 e_250 e_251 e_252 e_253 e_254 e_255 e_256 e_257 e_258 e_259 e_260 e_261 e_262 e_263 e_264 e_265 e_266 e_267 e_268 : Value} :
  Code.wp Tryz.prog (headOf 0 (headOf 12 wtB)) (Exit.then K2 (Exit.then KK (bodyPost Tryz.prog Tryz.f46 (Ud b w0 FIN)))) ⟨List.toArray (.pointer (some ⟨b.pW, 0, none⟩) :: e_1 :: .int .i64 (d : Int) :: e_3 :: e_4 :: e_5 :: .pointer (some ⟨p, 0, none⟩) :: e_7 :: .slice (some ⟨g, 0, none⟩) 12 12 :: e_9 :: e_10 :: e_11 :: e_12 :: e_13 :: e_14 :: e_15 :: e_16 :: e_17 :: e_18 :: e_19 :: e_20 :: e_21 :: e_22 :: e_23 :: e_24 :: e_25 :: e_26 :: e_27 :: e_28 :: e_29 :: e_30 :: e_31 :: e_32 :: e_33 :: e_34 :: e_35 :: e_36 :: e_37 :: e_38 :: e_39 :: e_40 :: e_41 :: e_42 :: e_43 :: e_44 :: e_45 :: e_46 :: e_47 :: e_48 :: e_49 :: e_50 :: e_51 :: e_52 :: e_53 :: e_54 :: e_55 :: e_56 :: e_57 :: e_58 :: e_59 :: e_60 :: e_61 :: e_62 :: e_63 :: e_64 :: e_65 :: e_66 :: e_67 :: e_68 :: e_69 :: e_70 :: e_71 :: e_72 :: e_73 :: e_74 :: e_75 :: e_76 :: e_77 :: e_78 :: e_79 :: e_80 :: e_81 :: e_82 :: e_83 :: e_84 :: e_85 :: e_86 :: e_87 :: e_88 :: e_89 :: e_90 :: e_91 :: e_92 :: e_93 :: e_94 :: e_95 :: e_96 :: e_97 :: e_98 :: e_99 :: e_100 :: e_101 :: e_102 :: e_103 :: e_104 :: e_105 :: e_106 :: e_107 :: e_108 :: e_109 :: e_110 :: e_111 :: e_112 :: e_113 :: e_114 :: e_115 :: e_116 :: e_117 :: e_118 :: e_119 :: e_120 :: e_121 :: e_122 :: e_123 :: e_124 :: e_125 :: e_126 :: e_127 :: e_128 :: e_129 :: e_130 :: e_131 :: e_132 :: e_133 :: e_134 :: e_135 :: e_136 :: e_137 :: e_138 :: e_139 :: e_140 :: e_141 :: e_142 :: e_143 :: e_144 :: e_145 :: e_146 :: e_147 :: e_148 :: e_149 :: e_150 :: e_151 :: e_152 :: e_153 :: e_154 :: e_155 :: e_156 :: e_157 :: e_158 :: e_159 :: e_160 :: e_161 :: e_162 :: e_163 :: e_164 :: e_165 :: e_166 :: e_167 :: e_168 :: e_169 :: e_170 :: e_171 :: e_172 :: e_173 :: e_174 :: e_175 :: e_176 :: e_177 :: e_178 :: e_179 :: e_180 :: e_181 :: e_182 :: e_183 :: e_184 :: e_185 :: e_186 :: e_187 :: e_188 :: e_189 :: e_190 :: e_191 :: e_192 :: e_193 :: e_194 :: e_195 :: e_196 :: e_197 :: e_198 :: e_199 :: e_200 :: e_201 :: e_202 :: e_203 :: e_204 :: e_205 :: e_206 :: e_207 :: e_208 :: e_209 :: e_210 :: e_211 :: e_212 :: e_213 :: e_214 :: e_215 :: e_216 :: e_217 :: e_218 :: e_219 :: e_220 :: e_221 :: e_222 :: e_223 :: e_224 :: e_225 :: e_226 :: e_227 :: e_228 :: e_229 :: e_230 :: e_231 :: e_232 :: e_233 :: e_234 :: e_235 :: e_236 :: e_237 :: e_238 :: e_239 :: e_240 :: e_241 :: e_242 :: e_243 :: e_244 :: e_245 :: e_246 :: e_247 :: e_248 :: e_249 :: e_250 :: e_251 :: e_252 :: e_253 :: e_254 :: e_255 :: e_256 :: e_257 :: e_258 :: e_259 :: e_260 :: e_261 :: e_262 :: e_263 :: e_264 :: e_265 :: e_266 :: e_267 :: e_268 :: []), []⟩ w := by
 have k0 := h.k0
 rw [hk] at k0
 have e11 : ((k : Int) == 11) = false := by rw [beq_eq_false_iff_ne]; omega
 have HV := hid h
 have HK := hid hk
 have HL := hid hl
 have HT := hid t0
 rcases (show ¬(5 : Int) < (k : Int) ∨ ((5 : Int) < (k : Int) ∧ ¬(k : Int) < 9) by omega) with e5 | ⟨e5, e9⟩
 all_goals
  clear h hk t0 hl hk6
  conv => arg 2; whnf
  conv at hKK => enter [a, w, 1, 2]; whnf
  conv at hK2 => enter [a, w, 1, 2]; whnf
  go_wp2_with (fail)
  go_loopw [10] (fun i wr => i = .int .i64 0 ∧ w = wr) (fun _ _ => 0)
  case atStart => exact ⟨rfl, rfl⟩
  case round =>
   obtain ⟨rfl, rfl⟩ := hrel
   go_upto_region 33 with (fail)
   exact of_code2 (C' := tailOf 14 wtB) (by kernel_rfl) (wt_end HV.out HK.out hk12 HL.out HT.out HF)
theorem wt_rec (hd : d < 20) (hf : f ≤ 20) (TQ : DrQ f (d + 1)) (h : Tv w b st x p g As sc Ai ic Af fc) (hk : x.k = 11) (hl : st.S.length ≤ 1125899906842624) (t0 : Turn w0 w (some b.pW)) (HF : Hid (FIN = { dFlG (dTyp b.gs f (d + 1)) x.fields { st with S := st.S ++ [123] } with S := (dFlG (dTyp b.gs f (d + 1)) x.fields { st with S := st.S ++ [123] }).S ++ dShut 11 })) {KK : Act → World → Prop} (hKK : ∀ a w, Code.wp Tryz.prog (tailOf 13 wtB) (bodyPost Tryz.prog Tryz.f46 (Ud b w0 FIN)) a w → KK a w) {K2 : Act → World → Prop} (hK2 : ∀ a w, Code.wp Tryz.prog (tailOf 1 (headOf 12 wtB)) (Exit.then KK (bodyPost Tryz.prog Tryz.f46 (Ud b w0 FIN))) a w → K2 a w) {e_1 e_3 e_4 e_5 e_7 e_9 e_10 e_11 e_12 e_13 e_14 e_15 e_16 e_17 e_18 e_19 e_20 e_21 e_22 e_23 e_24 e_25 e_26 e_27 e_28 e_29 e_30 e_31 e_32 e_33 e_34 e_35 e_36 e_37 e_38 e_39 e_40 e_41 e_42 e_43 e_44 e_45 e_46 e_47 e_48 e_49 e_50 e_51 e_52 e_53 e_54 e_55 e_56 e_57 e_58 e_59 e_60 e_61 e_62 e_63 e_64 e_65 e_66 e_67 e_68 e_69 e_70 e_71 e_72 e_73 e_74 e_75 e_76 e_77 e_78 e_79 e_80 e_81 e_82 e_83 e_84 e_85 e_86 e_87 e_88 e_89 e_90 e_91 e_92 e_93 e_94 e_95 e_96 e_97 e_98 e_99 e_100 e_101 e_102 e_103 e_104 e_105 e_106 e_107 e_108 e_109 e_110 e_111 e_112 e_113 e_114 e_115 e_116 e_117 e_118 e_119 e_120 e_121 e_122 e_123 e_124 e_125 e_126 e_127 e_128 e_129 e_130 e_131 e_132 e_133 e_134 e_135 e_136 e_137 e_138 e_139 e_140 e_141 e_142 e_143 e_144 e_145 e_146 e_147 e_148 e_149 e_150 e_151 e_152 e_153 e_154 e_155 e_156 e_157 e_158 e_159 e_160 e_161 e_162 e_163 e_164 e_165 e_166 e_167 e_168 e_169 e_170 e_171 e_172 e_173 e_174 e_175 e_176 e_177 e_178 e_179 e_180 e_181 e_182 e_183 e_184 e_185 e_186 e_187 e_188 e_189 e_190 e_191 e_192 e_193 e_194 e_195 e_196 e_197 e_198 e_199 e_200 e_201 e_202 e_203 e_204 e_205 e_206 e_207 e_208 e_209 e_210 e_211 e_212 e_213 e_214 e_215 e_216 e_217 e_218 e_219 e_220 e_221 e_222 e_223 e_224 e_225 e_226 e_227 e_228 e_229 e_230 e_231 e_232 e_233 e_234 e_235 e_236 e_237 e_238 e_239 e_240 e_241 e_242 e_243 e_244 e_245 e_246 e_247 e_248 e_249 e_250 e_251 e_252 e_253 e_254 e_255 e_256 e_257 e_258 e_259 e_260 e_261 e_262 e_263 e_264 e_265 e_266 e_267 e_268 : Value} :
  Code.wp Tryz.prog (headOf 0 (headOf 12 wtB)) (Exit.then K2 (Exit.then KK (bodyPost Tryz.prog Tryz.f46 (Ud b w0 FIN)))) ⟨List.toArray (.pointer (some ⟨b.pW, 0, none⟩) :: e_1 :: .int .i64 (d : Int) :: e_3 :: e_4 :: e_5 :: .pointer (some ⟨p, 0, none⟩) :: e_7 :: .slice (some ⟨g, 0, none⟩) 12 12 :: e_9 :: e_10 :: e_11 :: e_12 :: e_13 :: e_14 :: e_15 :: e_16 :: e_17 :: e_18 :: e_19 :: e_20 :: e_21 :: e_22 :: e_23 :: e_24 :: e_25 :: e_26 :: e_27 :: e_28 :: e_29 :: e_30 :: e_31 :: e_32 :: e_33 :: e_34 :: e_35 :: e_36 :: e_37 :: e_38 :: e_39 :: e_40 :: e_41 :: e_42 :: e_43 :: e_44 :: e_45 :: e_46 :: e_47 :: e_48 :: e_49 :: e_50 :: e_51 :: e_52 :: e_53 :: e_54 :: e_55 :: e_56 :: e_57 :: e_58 :: e_59 :: e_60 :: e_61 :: e_62 :: e_63 :: e_64 :: e_65 :: e_66 :: e_67 :: e_68 :: e_69 :: e_70 :: e_71 :: e_72 :: e_73 :: e_74 :: e_75 :: e_76 :: e_77 :: e_78 :: e_79 :: e_80 :: e_81 :: e_82 :: e_83 :: e_84 :: e_85 :: e_86 :: e_87 :: e_88 :: e_89 :: e_90 :: e_91 :: e_92 :: e_93 :: e_94 :: e_95 :: e_96 :: e_97 :: e_98 :: e_99 :: e_100 :: e_101 :: e_102 :: e_103 :: e_104 :: e_105 :: e_106 :: e_107 :: e_108 :: e_109 :: e_110 :: e_111 :: e_112 :: e_113 :: e_114 :: e_115 :: e_116 :: e_117 :: e_118 :: e_119 :: e_120 :: e_121 :: e_122 :: e_123 :: e_124 :: e_125 :: e_126 :: e_127 :: e_128 :: e_129 :: e_130 :: e_131 :: e_132 :: e_133 :: e_134 :: e_135 :: e_136 :: e_137 :: e_138 :: e_139 :: e_140 :: e_141 :: e_142 :: e_143 :: e_144 :: e_145 :: e_146 :: e_147 :: e_148 :: e_149 :: e_150 :: e_151 :: e_152 :: e_153 :: e_154 :: e_155 :: e_156 :: e_157 :: e_158 :: e_159 :: e_160 :: e_161 :: e_162 :: e_163 :: e_164 :: e_165 :: e_166 :: e_167 :: e_168 :: e_169 :: e_170 :: e_171 :: e_172 :: e_173 :: e_174 :: e_175 :: e_176 :: e_177 :: e_178 :: e_179 :: e_180 :: e_181 :: e_182 :: e_183 :: e_184 :: e_185 :: e_186 :: e_187 :: e_188 :: e_189 :: e_190 :: e_191 :: e_192 :: e_193 :: e_194 :: e_195 :: e_196 :: e_197 :: e_198 :: e_199 :: e_200 :: e_201 :: e_202 :: e_203 :: e_204 :: e_205 :: e_206 :: e_207 :: e_208 :: e_209 :: e_210 :: e_211 :: e_212 :: e_213 :: e_214 :: e_215 :: e_216 :: e_217 :: e_218 :: e_219 :: e_220 :: e_221 :: e_222 :: e_223 :: e_224 :: e_225 :: e_226 :: e_227 :: e_228 :: e_229 :: e_230 :: e_231 :: e_232 :: e_233 :: e_234 :: e_235 :: e_236 :: e_237 :: e_238 :: e_239 :: e_240 :: e_241 :: e_242 :: e_243 :: e_244 :: e_245 :: e_246 :: e_247 :: e_248 :: e_249 :: e_250 :: e_251 :: e_252 :: e_253 :: e_254 :: e_255 :: e_256 :: e_257 :: e_258 :: e_259 :: e_260 :: e_261 :: e_262 :: e_263 :: e_264 :: e_265 :: e_266 :: e_267 :: e_268 :: []), []⟩ w := by
 have k0 := h.k0
 rw [hk] at k0
 have HV := hid h
 have HK := hid (show x.k = ((11 : Nat) : Int) from hk)
 have HT := hid t0
 have e5 : (5 : Int) < 11 := by omega
 have e9 : ¬(11 : Int) < 9 := by omega
 have c1 := h.dv.w1
 obtain ⟨Z, hZ⟩ : ∃ Z, Z = txt st.S := ⟨_, rfl⟩
 have hZY := hid (show Z ++ { data := #[123] } = txt (st.S ++ [123]) by rw [hZ]; exact txt_app2 _ [123])
 rw [← hZ] at c1
 have q1 : ¬ 9223372036854775807 < Z.size + 1 := by rw [hZ, txt_size]; omega
 have zf := h.dv.blk.frozen 1
 have lw := h.dv.blk.lt
 obtain ⟨hv7, t7⟩ := h.dv.setS (st.S ++ [123])
 rw [← hZY.out] at hv7 t7
 have h7 := h.turn t7 hv7
 have l7 : (st.S ++ [123]).length ≤ 1125899906842625 := by rw [List.length_append, List.length_singleton]; omega
 have hff := h.ok.lf
 have hfl := h.ok.fl
 have key := dfields_any hd hf TQ hv7 (cf := fc) h7.rf hff hfl (by show (st.S ++ [123]).length ≤ _; omega)
 obtain ⟨M, hM⟩ : ∃ M, M = dFlG (dTyp b.gs f (d + 1)) x.fields { st with S := st.S ++ [123] } := ⟨_, rfl⟩
 have hML : M.S.length ≤ 18014398509481984 := by
  have h1 := dFlG_len (dTyp_len h.dv.gbr f (d + 1)) (show 4096 ≤ dLim f by unfold dLim; omega) x.fields { st with S := st.S ++ [123] } hfl
  rw [← hM] at h1
  have e : ({ st with S := st.S ++ [123] } : DW).S.length = (st.S ++ [123]).length := rfl
  have hlim : dLim f ≤ 1125899906842624 + 20 * 562949953421312 := by unfold dLim; have := Nat.mul_le_mul_right 562949953421312 hf; omega
  rw [e] at h1
  omega
 rw [← hM] at key HF
 have HH := hid (And.intro h7 t7)
 have k5 := h7.k5
 have np := h7.hp
 clear h hk t0 hl hZ hM h7 t7 hv7 TQ hfl hff
 conv => arg 2; whnf
 conv at hKK => enter [a, w, 1, 2]; whnf
 conv at hK2 => enter [a, w, 1, 2]; whnf
 go_wp2_with (fail)
 go_loopw [10] (fun i wr => i = .int .i64 0 ∧ w = wr) (fun _ _ => 0)
 case atStart => exact ⟨rfl, rfl⟩
 case round =>
  obtain ⟨rfl, rfl⟩ := hrel
  go_upto_region 32 with (fail)
  obtain ⟨w7, hw7⟩ : ∃ w', w' = w.setCell ⟨b.pW, 1, none⟩ (.string (Z ++ { data := #[123] })) := ⟨_, rfl⟩
  rw [← hw7] at HH key k5
  rw [← hw7]
  clear hw7 c1 k0 zf q1
  go_upto_region 33 with (go_at_call 73; refine key.mono ?_; rintro e w8 ⟨rfl, hv8, t8⟩)
  exact of_code2 (C' := tailOf 14 wtB) (by kernel_rfl) (wt_end (HH.out.1.turn t8 hv8) HK.out (by omega) hML ((HT.out.trans HH.out.2).trans t8) HF)
end
open Go.RowKit
section
variable {w w' w0 : World} {b : DB} {st st' FIN : DW} {x : Gn} {p g : Nat} {As : Option Addr} {sc : Nat} {Ai : Option Addr} {ic : Nat} {Af : Option Addr} {fc : Nat} {d f k : Nat}
theorem dItG_nil {rec : DRec} {l : List Int} {j : Nat} {q : Bool} (h : l.length ≤ j) : dItG rec q (l.drop j) st = st := by
 rw [List.drop_eq_nil_of_le h, dItG]
theorem dItG_bad {rec : DRec} {l : List Int} {q : Bool} (h : st.bad = true) : dItG rec q l st = st := by
 cases l with
 | nil => rw [dItG]
 | cons y l => rw [dItG, if_pos h]
theorem dItG_next {rec : DRec} {l : List Int} {j : Nat} {y : Int} {q : Bool} (h : l[j]? = some y) (hb : st.bad = false) : dItG rec q (l.drop j) st = dItG rec false (l.drop (j + 1)) (rec y (if q then st else { st with S := st.S ++ [124] })) := by
 have hj := (List.getElem?_eq_some_iff.1 h).1
 have e : l.drop j = y :: l.drop (j + 1) := by
  rw [List.drop_eq_getElem_cons hj]
  rw [List.getElem?_eq_getElem hj] at h
  injection h with h
  rw [h]
 rw [e, dItG, if_neg (by rw [hb]; decide)]
def ItB (st : DW) : Prop := (st.bad = false → st.S.length ≤ 1125899906842624 + 21 * 562949953421312) ∧ st.S.length ≤ 1125899906842624 + 21 * 562949953421312 + 1
theorem wt_items (hd : d < 20) (hf : f ≤ 20) (TQ : DrQ f (d + 1)) (h : Tv w b st x p g As sc Ai ic Af fc) (hk : x.k = (k : Int)) (hk6 : 5 < k) (hk9 : k < 9) (hl : st.S.length ≤ 1125899906842624) (t0 : Turn w0 w (some b.pW)) (HF : Hid (FIN = { dItG (dTyp b.gs f (d + 1)) true x.items st with S := (dItG (dTyp b.gs f (d + 1)) true x.items st).S ++ dShut k })) {KK : Act → World → Prop} (hKK : ∀ a w, Code.wp Tryz.prog (tailOf 13 wtB) (bodyPost Tryz.prog Tryz.f46 (Ud b w0 FIN)) a w → KK a w) {K2 : Act → World → Prop} (hK2 : ∀ a w, Code.wp Tryz.prog (tailOf 1 (headOf 12 wtB)) (Exit.then KK (bodyPost Tryz.prog Tryz.f46 (Ud b w0 FIN))) a w → K2 a w) {e_1 e_3 e_4 e_5 e_7 e_9 e_10 e_11 e_12 e_13 e_14 e_15 e_16 e_17 e_18 e_19 e_20 e_21 e_22 e_23 e_24 e_25 e_26 e_27 e_28 e_29 e_30 e_31 e_32 e_33 e_34 e_35 e_36 e_37 e_38 e_39 e_40 e_41 e_42 e_43 e_44 e_45 e_46 e_47 e_48 e_49 e_50 e_51 e_52 e_53 e_54 e_55 e_56 e_57 e_58 e_59 e_60 e_61 e_62 e_63 e_64 e_65 e_66 e_67 e_68 e_69 e_70 e_71 e_72 e_73 e_74 e_75 e_76 e_77 e_78 e_79 e_80 e_81 e_82 e_83 e_84 e_85 e_86 e_87 e_88 e_89 e_90 e_91 e_92 e_93 e_94 e_95 e_96 e_97 e_98 e_99 e_100 e_101 e_102 e_103 e_104 e_105 e_106 e_107 e_108 e_109 e_110 e_111 e_112 e_113 e_114 e_115 e_116 e_117 e_118 e_119 e_120 e_121 e_122 e_123 e_124 e_125 e_126 e_127 e_128 e_129 e_130 e_131 e_132 e_133 e_134 e_135 e_136 e_137 e_138 e_139 e_140 e_141 e_142 e_143 e_144 e_145 e_146 e_147 e_148 e_149 e_150 e_151 e_152 e_153 e_154 e_155 e_156 e_157 e_158 e_159 e_160 e_161 e_162 e_163 e_164 e_165 e_166 e_167 e_168 e_169 e_170 e_171 e_172 e_173 e_174 e_175 e_176 e_177 e_178 e_179 e_180 e_181 e_182 e_183 e_184 e_185 e_186 e_187 e_188 e_189 e_190 e_191 e_192 e_193 e_194 e_195 e_196 e_197 e_198 e_199 e_200 e_201 e_202 e_203 e_204 e_205 e_206 e_207 e_208 e_209 e_210 e_211 e_212 e_213 e_214 e_215 e_216 e_217 e_218 e_219 e_220 e_221 e_222 e_223 e_224 e_225 e_226 e_227 e_228 e_229 e_230 e_231 e_232 e_233 e_234 e_235 e_236 e_237 e_238 e_239 e_240 e_241 e_242 e_243 e_244 e_245 e_246 e_247 e_248 e_249 e_250 e_251 e_252 e_253 e_254 e_255 e_256 e_257 e_258 e_259 e_260 e_261 e_262 e_263 e_264 e_265 e_266 e_267 e_268 : Value} :
  Code.wp Tryz.prog (headOf 0 (headOf 12 wtB)) (Exit.then K2 (Exit.then KK (bodyPost Tryz.prog Tryz.f46 (Ud b w0 FIN)))) ⟨List.toArray (.pointer (some ⟨b.pW, 0, none⟩) :: e_1 :: .int .i64 (d : Int) :: e_3 :: e_4 :: e_5 :: .pointer (some ⟨p, 0, none⟩) :: e_7 :: .slice (some ⟨g, 0, none⟩) 12 12 :: e_9 :: e_10 :: e_11 :: e_12 :: e_13 :: e_14 :: e_15 :: e_16 :: e_17 :: e_18 :: e_19 :: e_20 :: e_21 :: e_22 :: e_23 :: e_24 :: e_25 :: e_26 :: e_27 :: e_28 :: e_29 :: e_30 :: e_31 :: e_32 :: e_33 :: e_34 :: e_35 :: e_36 :: e_37 :: e_38 :: e_39 :: e_40 :: e_41 :: e_42 :: e_43 :: e_44 :: e_45 :: e_46 :: e_47 :: e_48 :: e_49 :: e_50 :: e_51 :: e_52 :: e_53 :: e_54 :: e_55 :: e_56 :: e_57 :: e_58 :: e_59 :: e_60 :: e_61 :: e_62 :: e_63 :: e_64 :: e_65 :: e_66 :: e_67 :: e_68 :: e_69 :: e_70 :: e_71 :: e_72 :: e_73 :: e_74 :: e_75 :: e_76 :: e_77 :: e_78 :: e_79 :: e_80 :: e_81 :: e_82 :: e_83 :: e_84 :: e_85 :: e_86 :: e_87 :: e_88 :: e_89 :: e_90 :: e_91 :: e_92 :: e_93 :: e_94 :: e_95 :: e_96 :: e_97 :: e_98 :: e_99 :: e_100 :: e_101 :: e_102 :: e_103 :: e_104 :: e_105 :: e_106 :: e_107 :: e_108 :: e_109 :: e_110 :: e_111 :: e_112 :: e_113 :: e_114 :: e_115 :: e_116 :: e_117 :: e_118 :: e_119 :: e_120 :: e_121 :: e_122 :: e_123 :: e_124 :: e_125 :: e_126 :: e_127 :: e_128 :: e_129 :: e_130 :: e_131 :: e_132 :: e_133 :: e_134 :: e_135 :: e_136 :: e_137 :: e_138 :: e_139 :: e_140 :: e_141 :: e_142 :: e_143 :: e_144 :: e_145 :: e_146 :: e_147 :: e_148 :: e_149 :: e_150 :: e_151 :: e_152 :: e_153 :: e_154 :: e_155 :: e_156 :: e_157 :: e_158 :: e_159 :: e_160 :: e_161 :: e_162 :: e_163 :: e_164 :: e_165 :: e_166 :: e_167 :: e_168 :: e_169 :: e_170 :: e_171 :: e_172 :: e_173 :: e_174 :: e_175 :: e_176 :: e_177 :: e_178 :: e_179 :: e_180 :: e_181 :: e_182 :: e_183 :: e_184 :: e_185 :: e_186 :: e_187 :: e_188 :: e_189 :: e_190 :: e_191 :: e_192 :: e_193 :: e_194 :: e_195 :: e_196 :: e_197 :: e_198 :: e_199 :: e_200 :: e_201 :: e_202 :: e_203 :: e_204 :: e_205 :: e_206 :: e_207 :: e_208 :: e_209 :: e_210 :: e_211 :: e_212 :: e_213 :: e_214 :: e_215 :: e_216 :: e_217 :: e_218 :: e_219 :: e_220 :: e_221 :: e_222 :: e_223 :: e_224 :: e_225 :: e_226 :: e_227 :: e_228 :: e_229 :: e_230 :: e_231 :: e_232 :: e_233 :: e_234 :: e_235 :: e_236 :: e_237 :: e_238 :: e_239 :: e_240 :: e_241 :: e_242 :: e_243 :: e_244 :: e_245 :: e_246 :: e_247 :: e_248 :: e_249 :: e_250 :: e_251 :: e_252 :: e_253 :: e_254 :: e_255 :: e_256 :: e_257 :: e_258 :: e_259 :: e_260 :: e_261 :: e_262 :: e_263 :: e_264 :: e_265 :: e_266 :: e_267 :: e_268 :: []), []⟩ w := by
 obtain ⟨rec, hrec⟩ : ∃ rec : DRec, rec = dTyp b.gs f (d + 1) := ⟨_, rfl⟩
 have hlen : DLen rec (dLim f) := by rw [hrec]; exact dTyp_len h.dv.gbr f (d + 1)
 have TR : ∀ (w : World) (st : DW) (n : Int), Dv w b st → st.S.length ≤ 18014398509481984 → Calls Tryz.prog 46 #[.pointer (some ⟨b.pW, 0, none⟩), .int .i64 n, .int .i64 ((d : Int) + 1)] w (Ud b w (rec n st)) := by
  intro w st n h1 h2
  rw [hrec]
  exact TQ w b st n h1 h2
 rw [← hrec] at HF
 have hlim : dLim f ≤ 1125899906842624 + 20 * 562949953421312 := by unfold dLim; have := Nat.mul_le_mul_right 562949953421312 hf; omega
 obtain ⟨MID, hMID⟩ : ∃ F, F = dItG rec true x.items st := ⟨_, rfl⟩
 rw [← hMID] at HF
 have hdw : IntKind.i64.wrap ((d : Int) + 1) = (d : Int) + 1 := by rw [IntKind.wrap_i64]; omega
 have hbs := h.dv.size
 have HK := hid hk
 have HT := hid t0
 have HV := hid h
 have e5 : (5 : Int) < (k : Int) := by omega
 have e9 : (k : Int) < 9 := by omega
 have e11 : ((k : Int) == 11) = false := by rw [beq_eq_false_iff_ne]; omega
 have lli := h.ok.li
 have HLIM := hid hlim
 have HI := hid (show dItG rec true x.items st = MID from hMID.symm)
 clear hrec TQ h hk t0 hMID
 conv => arg 2; whnf
 conv at hKK => enter [a, w, 1, 2]; whnf
 conv at hK2 => enter [a, w, 1, 2]; whnf
 go_wp2_with (fail)
 go_loopw [10] (fun i wr => ∃ (j : Nat) (cur : DW), j ≤ x.items.length ∧ i = .int .i64 (j : Int) ∧ Tv wr b cur x p g As sc Ai ic Af fc ∧ Hid (dItG rec (decide (j = 0)) (x.items.drop j) cur = MID) ∧ Turn w wr (some b.pW) ∧ ItB cur) (fun i _ => (x.items.length - intOf i).toNat)
 case atStart => exact ⟨0, st, by omega, rfl, HV.out, HI, Turn.refl _ _, ⟨fun _ => by omega, by omega⟩⟩
 case round =>
  obtain ⟨j, cur, hj, rfl, hv, HM, tr, HB⟩ := hrel
  clear HI HV hl
  have b3 := hv.dv.w3
  have k0 := hv.k0
  rw [HK.out] at k0
  have k4 := hv.k4
  by_cases hjl : j < x.items.length
  case neg =>
   have l1 : ¬((j : Int) < (x.items.length : Int)) := by omega
   have HX := hid (show cur = MID by rw [← HM.out, dItG_nil (by omega)])
   have hcl : MID.S.length ≤ 18014398509481984 := by have := HB.2; rw [HX.out] at this; omega
   go_upto_region 33 with (fail)
   exact of_code2 (C' := tailOf 14 wtB) (by kernel_rfl) (wt_end (HX.out ▸ hv) HK.out (by omega) hcl (HT.out.trans tr) HF)
  case pos =>
  have l1 : (j : Int) < (x.items.length : Int) := by omega
  cases hb : cur.bad with
  | true =>
   rw [hb] at b3
   have HX := hid (show cur = MID by rw [← HM.out, dItG_bad hb])
   have hcl : MID.S.length ≤ 18014398509481984 := by have := HB.2; rw [HX.out] at this; omega
   clear hb
   go_upto_region 33 with (fail)
   exact of_code2 (C' := tailOf 14 wtB) (by kernel_rfl) (wt_end (HX.out ▸ hv) HK.out (by omega) hcl (HT.out.trans tr) HF)
  | false =>
   rw [hb] at b3
   obtain ⟨y, hy⟩ : ∃ y, x.items[j]? = some y := ⟨x.items[j], List.getElem?_eq_getElem hjl⟩
   have hcl := HB.1 hb
   have HN := hid ((dItG_next (rec := rec) (q := decide (j = 0)) hy hb).symm.trans HM.out)
   have v1 := vis_at hy
   obtain ⟨bb, off, hA, hbb, hc⟩ := hv.ri.head (by omega)
   have c0 := hc _ _ v1
   have nb : bb ≠ b.pW := by have := hv.dv.lo; omega
   have m1 : some bb ≠ some b.pW := fun e => nb (by injection e)
   have lb := World.block_lt_of_cell? wr _ c0
   have lp := hv.nb.lt
   have mp : some p ≠ some b.pW := fun e => by injection e with e; have := hv.hp; omega
   clear hy hb HM HB v1 hc
   have HV := hid hv
   clear hv
   rw [hA] at k4
   have HA := hid hA
   clear hA
   by_cases hj0 : j = 0
   ·have j0 : ¬(0 < j) := by omega
    have hcs : cur.S.length ≤ 18014398509481984 := by omega
    obtain ⟨d4, hd4⟩ : ∃ d, d = rec y cur := ⟨_, rfl⟩
    have key := TR wr cur y HV.out.dv hcs
    have hl4 := hlen y cur
    rw [← hd4] at key hl4
    have HD := hid (show dItG rec false (x.items.drop (j + 1)) d4 = MID by rw [hd4, ← HN.out, decide_eq_true hj0]; rfl)
    have HL4 := hid hl4
    have HCL := hid hcl
    clear hd4 hj0 hl4 hcl hcs hlim
    go_wp2_with (go_at_call 46; refine key.mono ?_; rintro e w4 ⟨rfl, hv4, t4⟩)
    refine ⟨⟨j + 1, d4, by omega, by go_num, HV.out.turn t4 hv4, hid ?_, tr.trans t4, ?_⟩, by simp [intOf]; omega⟩
    ·rw [← HD.out, decide_eq_false (by omega)]
    ·have hcl := HCL.out
     have hlim := HLIM.out
     unfold ItB
     rcases HL4.out with ⟨q1, q⟩ | ⟨_, q⟩
     ·rw [q]
      exact ⟨(fun q2 => by rw [q1] at q2; cases q2), by omega⟩
     ·exact ⟨fun _ => by omega, by omega⟩
   ·have j0 : 0 < j := by omega
    obtain ⟨X3, hX3⟩ : ∃ X, X = txt cur.S := ⟨_, rfl⟩
    have HX3 := hid (show X3 ++ { data := #[124] } = txt (cur.S ++ [124]) by rw [hX3]; exact txt_app2 _ [124])
    have b1 := HV.out.dv.w1
    rw [← hX3] at b1
    have q1 : ¬ 9223372036854775807 < X3.size + 1 := by rw [hX3, txt_size]; omega
    have zf := HV.out.dv.blk.frozen 1
    have lw := HV.out.dv.blk.lt
    clear hX3
    obtain ⟨s3, hs3⟩ : ∃ s3 : DW, s3 = { cur with S := cur.S ++ [124] } := ⟨_, rfl⟩
    have l3 : s3.S.length ≤ 1125899906842624 + 21 * 562949953421312 + 1 := by rw [hs3]; show (cur.S ++ [124]).length ≤ _; rw [List.length_append, List.length_singleton]; omega
    obtain ⟨hv3, t3⟩ := HV.out.dv.setS (cur.S ++ [124])
    rw [← HX3.out, ← hs3] at hv3
    rw [← HX3.out] at t3
    obtain ⟨d4, hd4⟩ : ∃ d, d = rec y s3 := ⟨_, rfl⟩
    have key := TR _ s3 y hv3 (by omega)
    have hl4 := hlen y s3
    rw [← hd4] at key hl4
    have HD := hid (show dItG rec false (x.items.drop (j + 1)) d4 = MID by rw [hd4, hs3, ← HN.out, decide_eq_false hj0]; rfl)
    have h3 := HV.out.turn t3 hv3
    have k43 := (t3.cell (a := ⟨p, 4, none⟩) lp mp).trans k4
    have c03 := (t3.cell (a := ⟨bb, off + j, none⟩) lb m1).trans c0
    have HH := hid (And.intro h3 t3)
    have HL4 := hid hl4
    have HCL := hid l3
    clear hd4 hj0 hs3 h3 hv3 t3 hl4 hcl l3 hlim
    go_upto_region 29 with (fail)
    obtain ⟨w3, hw3⟩ : ∃ w', w' = wr.setCell ⟨b.pW, 1, none⟩ (.string (X3 ++ { data := #[124] })) := ⟨_, rfl⟩
    rw [← hw3] at HH key k43 c03
    rw [← hw3]
    clear hw3 b1 zf k0 k4 c0 b3
    go_wp2_with (go_at_call 46; refine key.mono ?_; rintro e w4 ⟨rfl, hv4, t4⟩)
    refine ⟨⟨j + 1, d4, by omega, by go_num, HH.out.1.turn t4 hv4, hid ?_, (tr.trans HH.out.2).trans t4, ?_⟩, by simp [intOf]; omega⟩
    ·rw [← HD.out, decide_eq_false (by omega)]
    ·have hcl := HCL.out
     have hlim := HLIM.out
     unfold ItB
     rcases HL4.out with ⟨q1, q⟩ | ⟨_, q⟩
     ·rw [q]
      exact ⟨(fun q2 => by rw [q1] at q2; cases q2), by omega⟩
     ·exact ⟨fun _ => by omega, by omega⟩
end
end Go.Proofs.YtgigiecdpjchkaaGreatDoor
