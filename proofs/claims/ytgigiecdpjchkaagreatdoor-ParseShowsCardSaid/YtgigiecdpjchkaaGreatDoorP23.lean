import Derived.Test.YtgigiecdpjchkaaGreatDoorP22
import Derived.Test.YtgigiecdpjchkaaGreatDoorP19
import Derived.Test.YtgigiecdpjchkaaGreatDoorP1
import Derived.Test.YtgigiecdpjchkaaGreatDoorP11
import Derived.Test.YtgigiecdpjchkaaGreatDoorP18
set_option linter.unusedSimpArgs false
set_option linter.unusedVariables false
set_option linter.unusedSectionVars false
set_option maxRecDepth 100000
set_option maxHeartbeats 6400000
namespace Go.Proofs.YtgigiecdpjchkaaGreatDoor
open Go.RowKit
structure EB where
 pD : Nat
 base : Nat
 A : Option Addr
 n : Nat
 c : Nat
 M : List Nd
structure Ev (w : World) (b : EB) (nx : Nat) : Prop where
 lo : b.base ≤ b.pD
 sc : Sc w b.base b.A b.n (b.M.map Nd.g)
 few : b.M.length ≤ 200
 ok : ∀ x ∈ b.M.map Nd.g, GOk x
 wf : ∀ x ∈ b.M, WfN b.M.length x
 nx_ : nx ≤ b.M.length
 blk : Blk w b.pD 79 ([.slice b.A b.n b.c, .int .i64 (nx : Int)] : List Value).toArray
section
variable {w w' : World} {b : EB} {nx : Nat}
theorem Ev.size (h : Ev w b nx) : b.base ≤ w.heap.size := Nat.le_trans h.lo (Nat.le_of_lt h.blk.lt)
theorem Ev.turn0 (h : Ev w b nx) (t : Turn w w' none) : Ev w' b nx := ⟨h.lo, h.sc.turn0 t h.size, h.few, h.ok, h.wf, h.nx_, h.blk.turn0 t⟩
theorem Ev.w0 (h : Ev w b nx) : w.cell? ⟨b.pD, 0, none⟩ = some (.slice b.A b.n b.c) := h.blk.cell 0
theorem Ev.w1 (h : Ev w b nx) : w.cell? ⟨b.pD, 1, none⟩ = some (.int .i64 (nx : Int)) := h.blk.cell 1
theorem Ev.len (h : Ev w b nx) : b.n = b.M.length := by have := h.sc.1; rw [List.length_map] at this; exact this.symm
theorem Ev.setN (h : Ev w b nx) {m : Nat} (hm : m ≤ b.M.length) : Ev (w.setCell ⟨b.pD, 1, none⟩ (.int .i64 (m : Int))) b m ∧ Turn w (w.setCell ⟨b.pD, 1, none⟩ (.int .i64 (m : Int))) (some b.pD) := by
 have t := Blk.setTurn w b.pD 1 (.int .i64 (m : Int))
 exact ⟨⟨h.lo, h.sc.turn t h.size (fun g e => by injection e with e; have := h.lo; omega), h.few, h.ok, h.wf, hm, h.blk.sets 1 (.int .i64 (m : Int))⟩, t⟩
def EdP (b : EB) (w : World) (r : Nat × Nat) (e : Ending) (w' : World) : Prop := e = .returned (.int .i64 (r.1 : Int)) ∧ Ev w' b r.2 ∧ Turn w w' (some b.pD)
def DeQ (f : Nat) : Prop := ∀ (w : World) (b : EB) (nx n : Nat), Ev w b nx → n < b.M.length → b.M.length < nx + f →
 Calls Tryz.prog 47 #[.pointer (some ⟨b.pD, 0, none⟩), .int .i64 (n : Int)] w (EdP b w (dAt b.M f n nx))
theorem dAll_up {rec : Nat → Nat → Nat × Nat} (h : ∀ n nx, nx ≤ (rec n nx).2) : ∀ (l : List Nat) (nx : Nat), nx ≤ (dAll rec l nx).2
 | [], nx => Nat.le_refl _
 | y :: l, nx => by rw [dAll]; exact Nat.le_trans (h y nx) (dAll_up h l _)
theorem dAt_up (M : List Nd) : ∀ (f n nx : Nat), nx ≤ (dAt M f n nx).2
 | 0, n, nx => Nat.le_refl _
 | f + 1, n, nx => by
  rw [dAt]
  split
  ·exact Nat.le_refl _
  ·split
   ·exact Nat.le_refl _
   ·rename_i x hx
    have := dAll_up (dAt_up M f) (x.items ++ x.fields.map (·.ty)) (nx + 1)
    simp only
    omega
theorem dAll_few {rec : Nat → Nat → Nat × Nat} {k : Nat} (h : ∀ n nx, (rec n nx).1 ≤ k) : ∀ (l : List Nat) (nx : Nat), (dAll rec l nx).1 ≤ k
 | [], nx => Nat.zero_le _
 | y :: l, nx => by rw [dAll]; have := h y nx; have := dAll_few h l (rec y nx).2; simp only; omega
theorem dAt_few (M : List Nd) : ∀ (f n nx : Nat), (dAt M f n nx).1 ≤ f
 | 0, n, nx => Nat.le_refl _
 | f + 1, n, nx => by
  rw [dAt]
  split
  ·simp
  ·split
   ·simp
   ·rename_i x hx
    have := dAll_few (dAt_few M f) (x.items ++ x.fields.map (·.ty)) (nx + 1)
    simp only
    omega
theorem vis_snoc (l : List Int) (i : Int) : vis l ++ [.int .i64 i] = vis (l ++ [i]) := by simp [vis]
def kids (x : Nd) : List Nat := x.items ++ x.fields.map (·.ty)
theorem kids_g (x : Nd) : x.g.items ++ x.g.fields.map (·.ty) = (kids x).map Int.ofNat := by
 show x.items.map Int.ofNat ++ (x.fields.map Fl.g).map (·.ty) = _
 unfold kids
 rw [List.map_append, List.map_map, List.map_map]
 rfl
theorem deep_begin {f n : Nat} (hf : f ≤ 300) (TQ : DeQ f) (h : Ev w b nx) (hn : n < b.M.length) (hfu : b.M.length < nx + (f + 1)) (hnx : ¬ n < nx) {x : Nd} (hx : b.M[n]? = some x) :
  Calls Tryz.prog 47 #[.pointer (some ⟨b.pD, 0, none⟩), .int .i64 (n : Int)] w (EdP b w ((dAll (dAt b.M f) (kids x) (nx + 1)).1 + 1, (dAll (dAt b.M f) (kids x) (nx + 1)).2)) := by
 have hlen := h.len
 have hfew := h.few
 have c1 := h.w1
 have zf := h.blk.frozen 1
 have lw := h.blk.lt
 have i1 : ¬ (n : Int) < (nx : Int) := by omega
 have hww : IntKind.i64.wrap ((nx : Int) + 1) = (nx : Int) + 1 := by rw [IntKind.wrap_i64]; omega
 obtain ⟨h1, t1⟩ := h.setN (m := nx + 1) (by omega)
 rw [Int.natCast_add] at h1 t1
 have HH := hid (And.intro h1 t1)
 have HN := hid hnx
 have HL := hid hlen
 have HF := hid hfu
 have hxg : (b.M.map Nd.g)[n]? = some x.g := by rw [List.getElem?_map, hx]; rfl
 have HX := hid hxg
 have hwf := h.wf x (List.mem_of_getElem? hx)
 have hgk := h.ok x.g (List.mem_of_getElem? hxg)
 have hki := hgk.li
 have hkf := hgk.lf
 obtain ⟨R, hR⟩ : ∃ R, R = dAll (dAt b.M f) (kids x) (nx + 1) := ⟨_, rfl⟩
 rw [← hR]
 have hkl : ∀ y ∈ kids x, y < b.M.length := by
  intro y hy
  unfold kids at hy
  rcases List.mem_append.1 hy with hy | hy
  ·exact hwf.items_lt y hy
  ·obtain ⟨z, hz, rfl⟩ := List.mem_map.1 hy
   exact hwf.fld z hz
 have HR := hid hR
 have HK := hid hkl
 have KG := hid (kids_g x)
 have klen : (kids x).length = x.g.items.length + x.g.fields.length := by
  have := congrArg List.length (kids_g x)
  rw [List.length_append, List.length_map, List.length_map] at this
  exact this.symm
 obtain ⟨gi, hgi⟩ : ∃ gi, gi = x.g.items := ⟨_, rfl⟩
 obtain ⟨gf, hgf⟩ : ∃ gf, gf = x.g.fields := ⟨_, rfl⟩
 have HGG := hid (And.intro hgi hgf)
 rw [← hgi] at hki KG klen
 rw [← hgf] at hkf KG klen
 have HKL := hid klen
 clear h1 t1 hxg hwf hgk hR hkl hnx hlen hfu hx hgi hgf klen
 have hnl : n < b.n := by rw [HL.out]; exact hn
 go_enter Tryz.func47, Tryz.ntmps47
 go_upto_region 4 with (fail)
 obtain ⟨w1, hw1⟩ : ∃ w1, w1 = w.setCell ⟨b.pD, 1, none⟩ (.int .i64 ((nx : Int) + 1)) := ⟨_, rfl⟩
 have h1 : Ev w1 b (nx + 1) := by rw [hw1]; exact HH.out.1
 have t1 : Turn w w1 (some b.pD) := by rw [hw1]; exact HH.out.2
 rw [← hw1]
 clear hw1 c1 zf hww HH lw h
 obtain ⟨b1, o1, As, sc, Ai, ic, Af, fc, hA, nv, a0, a1, a2, a3, a4, a5⟩ := h1.sc.cells HX.out
 obtain ⟨As', sc', Ai', ic', Af', fc', ev, rs, ri, rf⟩ := nv
 injection ev with ev
 injection ev with ev
 simp only [List.cons.injEq, Value.slice.injEq, and_true, true_and] at ev
 obtain ⟨⟨rfl, rfl⟩, ⟨rfl, rfl⟩, rfl, rfl⟩ := ev
 rw [← HGG.out.1] at a4 ri
 rw [← HGG.out.2] at a5 rf
 clear a0 a1 a2 a3 rs As sc
 have c0 := h1.w0
 rw [hA] at c0
 have HA := hid hA
 have l0 := h1.blk.lt
 have lb := World.block_lt_of_cell? w1 _ a5
 have bs1 := h1.size
 have h0 : Own (w1.alloc (.cells #[] 3)) w1.heap.size 3 1 (some ⟨w1.heap.size, 0, none⟩) 0 0 [] := Own.made w1 _ _ 1 0 #[] (Nat.le_refl _) (by decide) rfl
 have ri1 := ri.alloc bs1 (.cells #[] 3)
 have tal : Turn w1 (w1.alloc (.cells #[] 3)) none := (Turn.refl w1 none).alloc _
 have c0a := keepc tal c0
 have a4a := keepc tal a4
 have HS := hid (And.intro h1 t1)
 clear hA h1 t1
 go_upto_region 5 with (at_builtin; refine wp_app rfl _ _ _ rfl elI rfl rfl h0 ri1 (by intro u hu; unfold vis at hu; obtain ⟨z, _, rfl⟩ := List.mem_map.1 hu; rfl) (by unfold maxLen; first | omega | (simp; done) | (simp; omega)) (by first | omega | (simp; done) | (simp; omega)) (by first | omega | (simp; done) | (simp; omega)) ?_; intro A5 c5 w5 ho5 ht5 hb5)
 have T5 : Turn w1 w5 none := tal.new ht5 (fun g e => by simp [blk] at e; omega)
 rw [List.nil_append] at ho5
 clear h0 ri1 tal c0a a4a ht5 hb5
 go_wp2_with (fail)
 go_loopw [5, 7] (fun u i wr => ∃ (j : Nat) (A : Option Addr) (c : Nat), j ≤ gf.length ∧ i = .int .i64 (j : Int) ∧ u = .slice A (gi.length + j) c ∧ Own wr w1.heap.size 3 1 A (gi.length + j) c (vis (gi ++ (gf.take j).map (·.ty))) ∧ Turn w1 wr none) (fun _ i _ => (gf.length - intOf i).toNat)
 case atStart => exact ⟨0, A5, c5, by omega, rfl, by simp, by simpa using ho5, T5⟩
 case round =>
  obtain ⟨j, A, c, hj, rfl, rfl, ho, tr⟩ := hrel
  clear ho5 T5
  have c0r := keepc tr c0
  have a5r := keepc tr a5
  by_cases hjl : j < gf.length
  ·have l1 : (j : Int) < (gf.length : Int) := by omega
   obtain ⟨y, hy⟩ : ∃ y, gf[j]? = some y := ⟨gf[j], List.getElem?_eq_getElem hjl⟩
   obtain ⟨v1, v2, v3⟩ := vfs_at4 gf hy
   have rfr := rf.turn0 tr bs1
   obtain ⟨bb, off, hF, hbb, hc⟩ := rfr.head (by omega)
   have c2 := hc _ _ v3
   rw [← Nat.add_assoc] at c2
   rw [hF] at a5r
   have hsz := tr.size
   have tal : Turn wr (wr.alloc (.cells #[Value.int .i64 y.ty] 3)) none := (Turn.refl wr none).alloc _
   have c0b := keepc tal c0r
   have a5b := keepc tal a5r
   have c2b := keepc tal c2
   have HY := hid (show (gf.take j).map (·.ty) ++ [y.ty] = (gf.take (j + 1)).map (·.ty) by rw [List.take_add_one, hy]; simp)
   clear hy v1 v2 v3 hc
   go_wp2_with (at_builtin; refine wp_app rfl _ _ _ rfl elI rfl rfl (ho.alloc _) (Rd.litS wr _ 1 1 [Value.int .i64 y.ty] rfl) (by repeat (first | exact ones_nil | refine ones_cons rfl ?_)) (by unfold maxLen; first | omega | (simp; done) | (simp; omega)) (by first | omega | (simp; done) | (simp; omega)) (by have := tal.size; omega) ?_; intro A6 c6 w6 ho6 ht6 hb6)
   refine ⟨⟨j + 1, A6, c6, by omega, by go_num, by rw [Nat.add_assoc], ?_, ?_⟩, by simp [intOf]; omega⟩
   ·rw [vis_snoc, List.append_assoc, HY.out] at ho6
    exact ho6
   ·exact (tr.trans tal).new ht6 (fun g e => ho.block g e |>.1)
  ·obtain rfl : j = gf.length := by omega
   rw [List.take_length, KG.out, ← HKL.out] at ho
   rw [← HKL.out]
   obtain ⟨L, hL⟩ : ∃ L, L = (kids x).length := ⟨_, rfl⟩
   rw [← hL] at ho
   rw [← hL]
   have HLL := hid hL
   have hL2 : L ≤ 2000000 := by have := HKL.out; omega
   clear hL
   have hrd := ho.rd
   have hcap := ho.cap
   have hev := HS.out.1.turn0 tr
   have hblk := ho.block
   obtain ⟨wo, rfl⟩ : ∃ wo : World, wo = wr := ⟨_, rfl⟩
   go_wp2_with (fail)
   go_loopw [6, 8] (fun m i wq => ∃ (j cur mo : Nat), j ≤ L ∧ m = .int .i64 (mo : Int) ∧ i = .int .i64 (j : Int) ∧ Ev wq b cur ∧ Hid ((max mo (dAll (dAt b.M f) ((kids x).drop j) cur).1, (dAll (dAt b.M f) ((kids x).drop j) cur).2) = R) ∧ Turn wo wq (some b.pD) ∧ Hid (nx + 1 ≤ cur ∧ mo ≤ 300)) (fun _ i _ => (L - intOf i).toNat)
   case atStart => exact ⟨0, nx + 1, 0, by omega, rfl, rfl, hev, hid (by rw [HR.out, Nat.zero_max]; rfl), Turn.refl _ _, hid ⟨Nat.le_refl _, by omega⟩⟩
   case round =>
    obtain ⟨j, cur, mo, hj, rfl, rfl, hv, HM, tq, HB⟩ := hrel
    have hmo := HB.out.2
    by_cases hjl : j < L
    ·have l1 : (j : Int) < (L : Int) := by omega
     have hjk : j < (kids x).length := by rw [← HLL.out]; exact hjl
     obtain ⟨y, hy⟩ : ∃ y, (kids x)[j]? = some y := ⟨(kids x)[j], List.getElem?_eq_getElem hjk⟩
     have hyl := HK.out y (List.mem_of_getElem? hy)
     have rdq := hrd.turnNe tq (Nat.le_refl _) (.inr (fun e => by have := (hblk b.pD e).1; omega))
     obtain ⟨bb, off, hF, hbb, hc⟩ := rdq.head (by omega)
     have c2 := hc j (.int .i64 (y : Int)) (by rw [vis_at (l := (kids x).map Int.ofNat) (n := (y : Int)) (by rw [List.getElem?_map, hy]; rfl)])
     have hdr : (kids x).drop j = y :: (kids x).drop (j + 1) := by
      rw [List.drop_eq_getElem_cons hjk]
      rw [List.getElem?_eq_getElem hjk] at hy
      injection hy with hy
      rw [hy]
     have hM := HM.out
     rw [hdr, dAll] at hM
     have key := TQ wr b cur y hv hyl (by have := HF.out; have := HB.out.1; omega)
     have up := dAt_up b.M f y cur
     have fe := dAt_few b.M f y cur
     obtain ⟨r, hr⟩ : ∃ r, r = dAt b.M f y cur := ⟨_, rfl⟩
     rw [← hr] at key hM up fe
     simp only at hM
     have HM2 := hid hM
     have HUP := hid up
     have hbl : bb < wr.heap.size := World.block_lt_of_cell? wr _ c2
     subst hF
     clear hy hc hdr hM hr up HM hjk
     go_upto_region 13 with (go_at_call 47; refine key.mono ?_; rintro e w7 ⟨rfl, hv7, t7⟩)
     obtain ⟨q, hq⟩ : ∃ q, q = r.1 := ⟨_, rfl⟩
     rw [← hq] at fe
     rw [← hq]
     have HQ := hid hq
     clear hq
     by_cases hlt : mo < q
     ·have l2 : (mo : Int) < (q : Int) := by omega
      go_wp2
      refine ⟨⟨j + 1, r.2, q, by omega, rfl, by go_num, hv7, hid ?_, tq.trans t7, hid ⟨by have := HUP.out; have := HB.out.1; omega, by omega⟩⟩, by simp [intOf]; omega⟩
      rw [← HM2.out, ← HQ.out]
      congr 1
      omega
     ·have l2 : ¬ (mo : Int) < (q : Int) := by omega
      go_wp2
      refine ⟨⟨j + 1, r.2, mo, by omega, rfl, by go_num, hv7, hid ?_, tq.trans t7, hid ⟨by have := HUP.out; have := HB.out.1; omega, by omega⟩⟩, by simp [intOf]; omega⟩
      rw [← HM2.out, ← HQ.out]
      congr 1
      omega
    ·obtain rfl : j = L := by omega
     have HZ := hid (show (mo, cur) = R by rw [← HM.out, List.drop_eq_nil_of_le (by rw [← HLL.out]; exact Nat.le_refl _), dAll_nil]; simp)
     go_wp2
     go_ret
     have e1 : R.1 = mo := by rw [← HZ.out]
     have e2 : R.2 = cur := by rw [← HZ.out]
     refine ⟨?_, by show Ev wr b R.2; rw [e2]; exact hv, (HS.out.2.trans (tr.any _)).trans tq⟩
     show _ = Ending.returned (.int .i64 ((R.1 + 1 : Nat) : Int))
     rw [e1]
     rfl
theorem deep_any : ∀ f, f ≤ 300 → DeQ f
 | 0, _ => fun w b nx n h hn hf => by have := h.nx_; omega
 | f + 1, hf => fun w b nx n h hn hfu => by
  obtain ⟨x, hx⟩ : ∃ x, b.M[n]? = some x := ⟨b.M[n], List.getElem?_eq_getElem hn⟩
  rw [dAt]
  by_cases hnx : n < nx
  ·rw [if_pos hnx]
   have c1 := h.w1
   have i1 : (n : Int) < (nx : Int) := by omega
   have HH := hid h
   clear hnx hx h
   go_enter Tryz.func47, Tryz.ntmps47
   go_wp2
   go_ret
   exact ⟨rfl, HH.out, Turn.refl _ _⟩
  ·rw [if_neg hnx, hx]
   exact deep_begin (by omega) (deep_any f (by omega)) h hn hfu hnx hx
end
open Go.RowKit
theorem rshV_eq (gs : List Gn) : rshV gs = shV gs := by
 unfold rshV shV
 rw [dShow_eq]
 cases cShow gs with
 | none => rfl
 | some p => rfl
section
variable {w : World} {n c : Nat} {A : Option Addr} {gs : List Gn}
theorem rshow_sv (hs : Sv w A n c gs) : Calls Tryz.prog 15 #[.agg #[.slice A n c]] w fun e w' => e = shV gs ∧ Turn w w' none := by
 rw [← rshV_eq]
 exact rshow_any hs.sc (Nat.le_refl _) hs.few hs.ok hs.cap
theorem rdepth_sv (hs : Sv w A n c gs) : Calls Tryz.prog 17 #[.agg #[.slice A n c]] w fun e w' => e = dpV gs ∧ Turn w w' none := by
 have sh := fun {w1 : World} (t : Turn w w1 none) => rshow_sv (hs.turn t)
 unfold shV at sh
 unfold dpV
 cases ho : cShow gs with
 | none =>
  rw [ho] at sh
  clear ho
  go_enter Tryz.func17, Tryz.ntmps17
  go_wp2_with (first
   | (refine wp_bx rfl 24 _ rfl rfl ?_; intro g0 w1 hg0 hb0 ht0)
   | (refine wp_ld rfl 24 _ rfl rfl hb0 (Sub.all [.slice A n c]) Tryz.underlying24 rfl szSch ?_)
   | (go_at_call 15; refine (sh ht0).mono ?_; rintro e w2 ⟨rfl, ht2⟩))
  go_ret
  exact ⟨rfl, ht0.trans ht2⟩
 | some p =>
  obtain ⟨t, dp⟩ := p
  rw [ho] at sh
  obtain ⟨N, hr, hN⟩ := cShow_read ho
  have hwf := eRead_wf hr
  have hpos := eRead_pos hr
  have hfew := read_few hr
  rw [← hN] at ho
  have hdp := cShow_deep hwf ho
  have HB := hid (show ∀ (w4 : World) (b : EB), b.M = N → Ev w4 b 0 → Calls Tryz.prog 47 #[.pointer (some ⟨b.pD, 0, none⟩), .int .i64 0] w4 fun e w' => e = .returned (.int .i64 (dp : Int)) ∧ Turn w4 w' (some b.pD) from fun w4 b hM hE => by
   have h := deep_any (N.length + 1) (by omega) w4 b 0 0 hE (by rw [hM]; exact hpos) (by rw [hM]; omega)
   refine h.mono ?_
   rintro e w' ⟨rfl, _, t⟩
   exact ⟨by rw [hM, hdp], t⟩)
  have HS := hid (And.intro hs (And.intro hN (And.intro hwf hfew)))
  clear hdp hwf hpos hfew hr ho hN hs
  go_enter Tryz.func17, Tryz.ntmps17
  go_upto_region 5 with (first
   | (refine wp_bx rfl 79 _ rfl rfl ?_; intro pD w3 hpD hb3 ht3)
   | (refine wp_bx rfl 24 _ rfl rfl ?_; intro g0 w1 hg0 hb0 ht0)
   | (have q9 := hb2; refine wp_ld rfl 24 _ rfl rfl hb2 (Sub.all [.slice A n c]) Tryz.underlying24 rfl szSch ?_)
   | (refine wp_ld rfl 24 _ rfl rfl hb0 (Sub.all [.slice A n c]) Tryz.underlying24 rfl szSch ?_)
   | (go_at_call 15; refine (sh ht0).mono ?_; rintro e w2 ⟨rfl, ht2⟩; have hb2 := hb0.turn0 ht2))
  obtain ⟨hs, hN, hwf, hfew⟩ := HS.out
  obtain ⟨b, hb⟩ : ∃ b : EB, b = ⟨pD, w2.heap.size, A, n, c, N⟩ := ⟨_, rfl⟩
  have t02 := ht0.trans ht2
  have hE : Ev w3 b 0 := by
   rw [hb]
   have h2 := (hs.turn t02).sc
   refine ⟨by show w2.heap.size ≤ pD; omega, ?_, hfew, ?_, hwf, Nat.zero_le _, hb3⟩
   ·show Sc w3 w2.heap.size A n (N.map Nd.g)
    rw [hN]
    exact h2.turn0 ht3 (Nat.le_refl _)
   ·show ∀ x ∈ N.map Nd.g, GOk x
    rw [hN]
    exact hs.ok
  have hpD2 : b.pD = pD := by rw [hb]
  have key := HB.out w3 b (by rw [hb]) hE
  rw [hpD2] at key
  clear hE hb hN hs hwf hfew hpD2
  go_wp2_with (go_at_call 47; refine key.mono ?_; rintro e w4 ⟨rfl, t4⟩)
  go_ret
  exact ⟨rfl, (t02.trans ht3).new t4 (fun q e => by injection e with e; have := t02.size; omega)⟩
end
open Go.RowKit
theorem Sv.own {w w' : World} {A A' : Option Addr} {n c c' : Nat} {gs : List Gn} (h : Sv w A n c gs) (hs : Sc w' w'.heap.size A' n gs) (h1 : n ≤ c') (h2 : c' ≤ maxLen) : Sv w' A' n c' gs := ⟨hs, h.ok, h.few, h1, h2⟩
open Go.RowKit
theorem shV_form (gs : List Gn) : ∃ (S : ByteArray) (E D : Int), shV gs = .returned (.tuple #[.string S, .int .i64 E]) ∧ dpV gs = .returned (.int .i64 D) := by
 unfold shV dpV
 cases cShow gs with
 | none => exact ⟨_, _, _, rfl, rfl⟩
 | some p => exact ⟨_, _, _, rfl, rfl⟩
section
variable {w : World} {A : Option Addr} {n c : Nat} {l : List Gn}
theorem shows_small (hT : LT w) (ha : Gvn w A n c l) (hs : smlB l = false) : Calls Tryz.prog 3 #[.agg #[.slice A n c]] w fun e w' => e = .returned (.bool true) ∧ Turn w w' none := by
 have sa := fun {w1 : World} (t : Turn w w1 none) => rsmall_any (c := c) (ha.turn t).sc (Nat.le_refl _) ha.few ha.big
 have lv := fun {w1 : World} (t : Turn w w1 none) => lives_any w1 (hT.turn t)
 rw [hs] at sa
 clear hs ha
 go_enter Tryz.func3, Tryz.ntmps3
 go_wp2_with (first
  | (refine wp_bx rfl 24 _ rfl rfl ?_; intro g w1 hg hb1 ht1)
  | (refine wp_ld rfl 24 _ rfl rfl hb1 (Sub.all [.slice A n c]) Tryz.underlying24 rfl szSch ?_)
  | (go_at_call 11; refine (sa ht1).mono ?_; rintro e w3 ⟨rfl, ht3⟩)
  | (go_at_call 12; refine (lv (ht1.trans ht3)).mono ?_; rintro e w4 ⟨rfl, ht4⟩))
 go_ret
 exact ⟨rfl, (ht1.trans ht3).trans ht4⟩
theorem shows_big (hT : LT w) (ha : Gvn w A n c l) (hs : smlB l = true) : Calls Tryz.prog 3 #[.agg #[.slice A n c]] w fun e w' => e = .returned (.bool true) ∧ Turn w w' none := by
 have sa := fun {w1 : World} (t : Turn w w1 none) => rsmall_any (c := c) (ha.turn t).sc (Nat.le_refl _) ha.few ha.big
 have lv := fun {w1 : World} (t : Turn w w1 none) => lives_any w1 (hT.turn t)
 have va := ha.sv hs
 rw [hs] at sa
 obtain ⟨S, E, D, eS, eD⟩ := shV_form l
 have cs := fun {w1 : World} {A1 : Option Addr} {c1 : Nat} (t : Turn w w1 none) (h : Sv w1 A1 n c1 l) => show_any (c := c1) itoa_ok (hT.turn t).lf (hT.turn t).tab (hT.turn t).pos h.sc (Nat.le_refl _) h.few h.ok h.cap
 have cd := fun {w1 : World} {A1 : Option Addr} {c1 : Nat} (t : Turn w w1 none) (h : Sv w1 A1 n c1 l) => depth_any (c := c1) itoa_ok (hT.turn t).lf (hT.turn t).tab (hT.turn t).pos h.sc (Nat.le_refl _) h.few h.ok h.cap
 have rs := fun {w1 : World} (t : Turn w w1 none) => rshow_sv (va.turn t)
 have rd := fun {w1 : World} (t : Turn w w1 none) => rdepth_sv (va.turn t)
 have ow := fun {w1 : World} (t : Turn w w1 none) => rown_any (c := c) (va.turn t).sc (Nat.le_refl _) va.few (fun x hx => ⟨(va.ok x hx).ls, (va.ok x hx).li, (va.ok x hx).lf⟩)
 simp only [eS, eD] at cs cd rs rd
 have HV := hid va
 clear hs ha eS eD va
 go_enter Tryz.func3, Tryz.ntmps3
 go_upto_region 5 with (first
  | (refine wp_bx rfl 24 _ rfl rfl ?_; intro g w1 hg hb1 ht1)
  | (have q9 := hb5; refine wp_ld rfl 24 _ rfl rfl hb5 (Sub.all [.slice A n c]) Tryz.underlying24 rfl szSch ?_)
  | (have q9 := hb3; refine wp_ld rfl 24 _ rfl rfl hb3 (Sub.all [.slice A n c]) Tryz.underlying24 rfl szSch ?_)
  | (refine wp_ld rfl 24 _ rfl rfl hb1 (Sub.all [.slice A n c]) Tryz.underlying24 rfl szSch ?_)
  | (go_at_call 11; refine (sa ht1).mono ?_; rintro e w3 ⟨rfl, ht3⟩; have hb3 := hb1.turn0 ht3; have T3 := ht1.trans ht3)
  | (go_at_call 14; refine (ow T3).mono ?_; rintro e w4 ⟨A4, c4, rfl, s4, m4, x4, ht4⟩; have T4 := T3.trans ht4; have v4 := (HV.out.turn T4).own s4 m4 x4)
  | (go_at_call 13; refine (cs T4 v4).mono ?_; rintro e w5 ⟨rfl, ht5⟩; have T5 := T4.trans ht5; have hb5 := (hb3.turn0 ht4).turn0 ht5)
  | (go_at_call 15; refine (rs T5).mono ?_; rintro e w6 ⟨rfl, ht6⟩))
 have T6 := T5.trans ht6
 have hb6 := hb5.turn0 ht6
 clear hb1 hb3 hb5 T3 T4 T5 s4 v4 ht1 ht3 ht4 ht5 ht6 sa cs rs
 have T6 := T6.drew
 have hb6 : Blk w6.drew g 24 ([.slice A n c] : List Value).toArray := hb6.drew
 have HC : ∀ W, Turn (World.drew w6) W none → W.cell? ⟨g, 0, none⟩ = some (.slice A n c) := fun W t => (hb6.turn0 t).ats rfl
 clear hb6
 refine wp_region_noPanic ?_
 refine wp_region_held_drew (S := fun W => Turn w6 W none) (by kernel_rfl) (Turn.refl _ none).drew (fun hHeld => ?_)
 refine wpAnyH_more (S' := fun W => Turn (World.drew w6) W none) (fun W h => (Turn.refl _ none).drew.trans h) _ _ _ _ ?_
 clear hHeld
 have hHeld : (fun W => Turn (World.drew w6) W none) (World.drew w6) := Turn.refl _ none
 (first | refine tkN 0 ?_ | refine tkY 0 _ ?_); (try simp only [Act.put, zs])
 (first | refine tkN 1 ?_ | refine tkY 1 _ ?_); (try simp only [Act.put, zs])
 (first | refine tkN 2 ?_ | refine tkY 2 _ ?_); (try simp only [Act.put, zs])
 (first | refine tkN 3 ?_ | refine tkY 3 _ ?_); (try simp only [Act.put, zs])
 (first | refine tkN 4 ?_ | refine tkY 4 _ ?_); (try simp only [Act.put, zs])
 (first | refine tkN 5 ?_ | refine tkY 5 _ ?_); (try simp only [Act.put, zs])
 (first | refine tkN 6 ?_ | refine tkY 6 _ ?_); (try simp only [Act.put, zs])
 (first | refine tkN 7 ?_ | refine tkY 7 _ ?_); (try simp only [Act.put, zs])
 (first | refine tkN 8 ?_ | refine tkY 8 _ ?_); (try simp only [Act.put, zs])
 (first | refine tkN 9 ?_ | refine tkY 9 _ ?_); (try simp only [Act.put, zs])
 (first | refine tkN 12 ?_ | refine tkY 12 _ ?_); (try simp only [Act.put, zs])
 refine wpAnyH_ready (rs := [10]) (by kernel_rfl) (by simp) ?_
 refine AllReadyH.cons rfl (fun K hK => ?_) AllReadyH.nil
 go_simp
 refine (ow T6).mono ?_
 rintro e w7 ⟨A7, c7, rfl, s7, m7, x7, ht7⟩
 have v7 := (HV.out.turn (T6.trans ht7)).own s7 m7 x7
 have T7 := T6.trans ht7
 refine hK.out _ _ (show Turn _ _ none from ht7) (fun hHeld => ?_)
 clear hK K
 (try simp only [Act.put, zs])
 refine wpAnyH_more (S' := fun W => Turn w7 W none) (fun W h => Turn.trans ht7 h) _ _ _ _ ?_
 clear hHeld
 have hHeld : (fun W => Turn w7 W none) w7 := Turn.refl w7 none
 refine wpAnyH_ready (rs := [11]) (by kernel_rfl) (by simp) ?_
 refine AllReadyH.cons rfl (fun K hK => ?_) AllReadyH.nil
 go_simp
 refine (cd T7 v7).mono ?_
 rintro e w8 ⟨rfl, ht8⟩
 have T8 := T7.trans ht8
 refine hK.out _ _ (show Turn _ _ none from ht8) (fun hHeld => ?_)
 clear hK K
 (try simp only [Act.put, zs])
 refine wpAnyH_more (S' := fun W => Turn w8 W none) (fun W h => Turn.trans ht8 h) _ _ _ _ ?_
 clear hHeld
 have hHeld : (fun W => Turn w8 W none) w8 := Turn.refl w8 none
 refine wpAnyH_ready (rs := [13]) (by kernel_rfl) (by simp) ?_
 refine AllReadyH.cons rfl (fun K hK => ?_) AllReadyH.nil
 go_simp
 refine (rd T8).mono ?_
 rintro e w9 ⟨rfl, ht9⟩
 have T9 := T8.trans ht9
 refine hK.out _ _ (show Turn _ _ none from ht9) (fun hHeld => ?_)
 clear hK K
 (try simp only [Act.put, zs])
 refine wpAnyH_more (S' := fun W => Turn w9 W none) (fun W h => Turn.trans ht9 h) _ _ _ _ ?_
 clear hHeld
 have hHeld : (fun W => Turn w9 W none) w9 := Turn.refl w9 none
 (first | refine tkN 14 ?_ | refine tkY 14 _ ?_); (try simp only [Act.put, zs])
 (first | refine tkN 15 ?_ | refine tkY 15 _ ?_); (try simp only [Act.put, zs])
 (first | refine tkN 16 ?_ | refine tkY 16 _ ?_); (try simp only [Act.put, zs])
 refine wpAnyH_ready (rs := [17]) (by kernel_rfl) (by simp) ?_
 refine AllReadyH.cons rfl (fun K hK => ?_) AllReadyH.nil
 go_simp
 refine (lv T9).mono ?_
 rintro e w10 ⟨rfl, ht10⟩
 have T10 := T9.trans ht10
 refine hK.out _ _ (show Turn _ _ none from ht10) (fun hHeld => ?_)
 clear hK K
 (try simp only [Act.put, zs])
 refine wpAnyH_more (S' := fun W => Turn w10 W none) (fun W h => Turn.trans ht10 h) _ _ _ _ ?_
 clear hHeld
 have hHeld : (fun W => Turn w10 W none) w10 := Turn.refl w10 none
 (first | refine tkN 18 ?_ | refine tkY 18 _ ?_); (try simp only [Act.put, zs])
 (first | refine tkN 19 ?_ | refine tkY 19 _ ?_); (try simp only [Act.put, zs])
 refine wpAnyH_done (by kernel_rfl) ?_ _
 refine NoPanic.normal ?_
 clear hHeld
 go_wp2
 go_ret
 exact ⟨rfl, T10⟩
theorem shows_walk (hT : LT w) (ha : Gvn w A n c l) : Calls Tryz.prog 3 #[.agg #[.slice A n c]] w fun e w' => e = .returned (.bool true) ∧ Turn w w' none := by
 cases hs : smlB l with
 | false => exact shows_small hT ha hs
 | true => exact shows_big hT ha hs
end
end Go.Proofs.YtgigiecdpjchkaaGreatDoor
