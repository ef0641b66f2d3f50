import Derived.Test.YtgigiecdpjchkaaGreatDoorC15
import Derived.Test.YtgigiecdpjchkaaGreatDoorC1
import Derived.Test.YtgigiecdpjchkaaGreatDoorC8
import Derived.Test.YtgigiecdpjchkaaGreatDoorC9
import Derived.Deep.RegionHeld
set_option linter.unusedSimpArgs false
set_option linter.unusedVariables false
set_option linter.unusedSectionVars false
set_option maxRecDepth 100000
set_option maxHeartbeats 6400000
namespace Go.Proofs.YtgigiecdpjchkaaGreatDoor
open Go.RowKit
structure DB where
 pW : Nat
 base : Nat
 A : Option Addr
 n : Nat
 c : Nat
 gs : List Gn
def dwCells (b : DB) (st : DW) : List Value := [.slice b.A b.n b.c, .string (txt st.S), .int .i64 (st.nx : Int), .bool st.bad]
structure Dv (w : World) (b : DB) (st : DW) : Prop where
 lo : b.base ≤ b.pW
 sc : Sc w b.base b.A b.n b.gs
 ok : ∀ x ∈ b.gs, GOk x
 few : b.n ≤ 1000000
 cap : b.n ≤ b.c ∧ b.c ≤ maxLen
 blk : Blk w b.pW 75 (dwCells b st).toArray
def Ud (b : DB) (w : World) (st : DW) (e : Ending) (w' : World) : Prop := e = .returned (.tuple #[]) ∧ Dv w' b st ∧ Turn w w' (some b.pW)
def DrQ (f d : Nat) : Prop := ∀ (w : World) (b : DB) (st : DW) (n : Int), Dv w b st → st.S.length ≤ 18014398509481984 →
 Calls Tryz.prog 46 #[.pointer (some ⟨b.pW, 0, none⟩), .int .i64 n, .int .i64 (d : Int)] w (Ud b w (dTyp b.gs f d n st))
section
variable {w w' : World} {b : DB} {st : DW}
theorem Dv.size (h : Dv w b st) : b.base ≤ w.heap.size := Nat.le_trans h.lo (Nat.le_of_lt h.blk.lt)
theorem Dv.turn0 (h : Dv w b st) (t : Turn w w' none) : Dv w' b st := ⟨h.lo, h.sc.turn0 t h.size, h.ok, h.few, h.cap, h.blk.turn0 t⟩
theorem Dv.gbr (h : Dv w b st) : GBr b.gs := fun x hx => ⟨by have := (h.ok x hx).nm; omega, (h.ok x hx).sy, (h.ok x hx).fl⟩
theorem Dv.setS (h : Dv w b st) (s : List UInt8) : Dv (w.setCell ⟨b.pW, 1, none⟩ (.string (txt s))) b { st with S := s } ∧ Turn w (w.setCell ⟨b.pW, 1, none⟩ (.string (txt s))) (some b.pW) := by
 have t := Blk.setTurn w b.pW 1 (.string (txt s))
 exact ⟨⟨h.lo, h.sc.turn t h.size (fun g e => by injection e with e; have := h.lo; omega), h.ok, h.few, h.cap, h.blk.sets 1 (.string (txt s))⟩, t⟩
theorem Dv.w1 (h : Dv w b st) : w.cell? ⟨b.pW, 1, none⟩ = some (.string (txt st.S)) := h.blk.cell 1
theorem Dv.w3 (h : Dv w b st) : w.cell? ⟨b.pW, 3, none⟩ = some (.bool st.bad) := h.blk.cell 3
theorem vfs_at4 (l : List Gf) : ∀ {i : Nat} {x : Gf}, l[i]? = some x → (vfs l)[i * 3]? = some (.string (txt x.name)) ∧ (vfs l)[i * 3 + 1]? = some (.bool x.has) ∧ (vfs l)[i * 3 + 2]? = some (.int .i64 x.ty) := by
 induction l with
 | nil => intro i x h; simp at h
 | cons y l ih =>
  intro i x h
  cases i with
  | zero =>
   obtain rfl : y = x := by simpa using h
   exact ⟨rfl, rfl, rfl⟩
  | succ i =>
   have := ih (i := i) (x := x) (by simpa using h)
   rw [show (i + 1) * 3 = i * 3 + 1 + 1 + 1 by omega]
   exact this
theorem dFlG_nil {rec : DRec} {l : List Gf} {j : Nat} (h : l.length ≤ j) : dFlG rec (l.drop j) st = st := by
 rw [List.drop_eq_nil_of_le h, dFlG]
theorem dFlG_bad {rec : DRec} {l : List Gf} (h : st.bad = true) : dFlG rec l st = st := by
 cases l with
 | nil => rw [dFlG]
 | cons y l => rw [dFlG, if_pos h]
theorem dFlG_next {rec : DRec} {l : List Gf} {j : Nat} {y : Gf} (h : l[j]? = some y) (hb : st.bad = false) : dFlG rec (l.drop j) st = dFlG rec (l.drop (j + 1)) { rec y.ty { st with S := (if y.has then st.S ++ y.name ++ [63] else st.S ++ y.name) ++ [58] } with S := (rec y.ty { st with S := (if y.has then st.S ++ y.name ++ [63] else st.S ++ y.name) ++ [58] }).S ++ [59] } := by
 have hj := (List.getElem?_eq_some_iff.1 h).1
 have e : l.drop j = y :: l.drop (j + 1) := by
  rw [List.drop_eq_getElem_cons hj]
  rw [List.getElem?_eq_getElem hj] at h
  injection h with h
  rw [h]
 rw [e, dFlG, if_neg (by rw [hb]; decide)]
theorem dfields_any {f d : Nat} (hd : d < 20) (hf : f ≤ 20) (TQ : DrQ f (d + 1)) (h : Dv w b st) {l : List Gf} {F : Option Addr} {cf : Nat} (hr : Rd w b.base 3 F l.length (vfs l)) (hl : l.length ≤ 1000000) (hn : ∀ y ∈ l, y.name.length ≤ 140737488355328) (hS : st.S.length ≤ 1125899906842624 + 21 * 562949953421312) :
  Calls Tryz.prog 73 #[.pointer (some ⟨b.pW, 0, none⟩), .slice F l.length cf, .int .i64 (d : Int)] w (Ud b w (dFlG (dTyp b.gs f (d + 1)) l st)) := by
 obtain ⟨rec, hrec⟩ : ∃ rec : DRec, rec = dTyp b.gs f (d + 1) := ⟨_, rfl⟩
 have hlen : DLen rec (dLim f) := by rw [hrec]; exact dTyp_len h.gbr f (d + 1)
 have TR : ∀ (w : World) (st : DW) (n : Int), Dv w b st → st.S.length ≤ 18014398509481984 → Calls Tryz.prog 46 #[.pointer (some ⟨b.pW, 0, none⟩), .int .i64 n, .int .i64 ((d : Int) + 1)] w (Ud b w (rec n st)) := by
  intro w st n h1 h2
  rw [hrec]
  exact TQ w b st n h1 h2
 rw [← hrec]
 have hlim : dLim f ≤ 1125899906842624 + 20 * 562949953421312 := by unfold dLim; have := Nat.mul_le_mul_right 562949953421312 hf; omega
 obtain ⟨FIN, hFIN⟩ : ∃ F, F = dFlG rec l st := ⟨_, rfl⟩
 rw [← hFIN]
 have hdw : IntKind.i64.wrap ((d : Int) + 1) = (d : Int) + 1 := by rw [IntKind.wrap_i64]; omega
 have hbs := h.size
 clear hrec TQ
 go_enter Tryz.func73, Tryz.ntmps73
 go_wp2
 go_loopw [6] (fun i wr => ∃ (j : Nat) (cur : DW), j ≤ l.length ∧ i = .int .i64 (j : Int) ∧ Dv wr b cur ∧ Hid (dFlG rec (l.drop j) cur = FIN) ∧ Turn w wr (some b.pW) ∧ Hid (cur.bad = false → cur.S.length ≤ 1125899906842624 + 21 * 562949953421312)) (fun i _ => (l.length - intOf i).toNat)
 case atStart => exact ⟨0, st, by omega, rfl, h, hid hFIN.symm, Turn.refl _ _, hid fun _ => hS⟩
 case round =>
  obtain ⟨j, cur, hj, rfl, hv, HF, tr, HB⟩ := hrel
  clear hFIN
  have b3 := hv.w3
  by_cases hjl : j < l.length
  case neg =>
   have l1 : ¬((j : Int) < (l.length : Int)) := by omega
   have HX := hid (show cur = FIN by rw [← HF.out, dFlG_nil (by omega)])
   go_wp2
   go_end0
   rw [← HX.out]
   exact ⟨rfl, hv, tr⟩
  case pos =>
  have l1 : (j : Int) < (l.length : Int) := by omega
  cases hb : cur.bad with
  | true =>
   rw [hb] at b3
   have HX := hid (show cur = FIN by rw [← HF.out, dFlG_bad hb])
   clear hb
   go_wp2
   go_end0
   rw [← HX.out]
   exact ⟨rfl, hv, tr⟩
  | false =>
   rw [hb] at b3
   obtain ⟨y, hy⟩ : ∃ y, l[j]? = some y := ⟨l[j], List.getElem?_eq_getElem hjl⟩
   have hcl := HB.out hb
   have HN := hid ((dFlG_next (rec := rec) hy hb).symm.trans HF.out)
   have hyn := hn y (List.mem_of_getElem? hy)
   obtain ⟨v1, v2, v3⟩ := vfs_at4 l hy
   have hr2 := hr.turn tr hbs (fun g e => by injection e with e; have := h.lo; omega)
   obtain ⟨bb, off, hF, hbb, hc⟩ := hr2.head (by omega)
   have c0 := hc _ _ v1
   have c1 := hc _ _ v2
   have c2 := hc _ _ v3
   rw [← Nat.add_assoc] at c1 c2
   have nb : bb ≠ b.pW := by have := h.lo; omega
   have m1 : some bb ≠ some b.pW := fun e => nb (by injection e)
   clear hy hb HB HF v1 v2 v3 hc hr2
   subst hF
   obtain ⟨X, hX⟩ : ∃ X, X = txt cur.S := ⟨_, rfl⟩
   obtain ⟨Y, hY⟩ : ∃ Y, Y = txt y.name := ⟨_, rfl⟩
   have zX : X.size = cur.S.length := by rw [hX, txt_size]
   have zY : Y.size = y.name.length := by rw [hY, txt_size]
   have hXY := hid (show X ++ Y = txt (cur.S ++ y.name) by rw [hX, hY, txt_app2])
   have b1 := hv.w1
   rw [← hX] at b1
   rw [← hY] at c0
   clear hX hY
   have q1 : ¬ 9223372036854775807 < X.size + Y.size := by omega
   have HZ := hid (And.intro zX zY)
   clear zX zY
   have zf := hv.blk.frozen 1
   have lw := hv.blk.lt
   have lb := World.block_lt_of_cell? wr _ c0
   go_upto_region 3 with (fail)
   refine wp_region_noPanic ?_
   refine wp_region_held_drew (S := (fun W => W.cell? ⟨bb, off + j * 3, none⟩ = some (.string Y))) (by kernel_rfl) (c0) (fun hHeld => ?_)
   (first | refine tkN 0 (by assumption) ?_ | (refine tkY 0 ?_ ?_ (by assumption) ?_; rotate_left 1; · (intro w hSw; (try dsimp only at hSw); go_simp; (try with_reducible rfl)))); (try simp only [Act.put, zA, zB, zC, zD, zE, zF])
   (first | refine tkN 1 (by assumption) ?_ | (refine tkY 1 ?_ ?_ (by assumption) ?_; rotate_left 1; · (intro w hSw; (try dsimp only at hSw); go_simp; (try with_reducible rfl)))); (try simp only [Act.put, zA, zB, zC, zD, zE, zF])
   (first | refine tkN 2 (by assumption) ?_ | (refine tkY 2 ?_ ?_ (by assumption) ?_; rotate_left 1; · (intro w hSw; (try dsimp only at hSw); go_simp; (try with_reducible rfl)))); (try simp only [Act.put, zA, zB, zC, zD, zE, zF])
   (first | refine tkN 3 (by assumption) ?_ | (refine tkY 3 ?_ ?_ (by assumption) ?_; rotate_left 1; · (intro w hSw; (try dsimp only at hSw); go_simp; (try with_reducible rfl)))); (try simp only [Act.put, zA, zB, zC, zD, zE, zF])
   (first | refine tkN 5 (by assumption) ?_ | (refine tkY 5 ?_ ?_ (by assumption) ?_; rotate_left 1; · (intro w hSw; (try dsimp only at hSw); go_simp; (try with_reducible rfl)))); (try simp only [Act.put, zA, zB, zC, zD, zE, zF])
   (first | refine tkN 6 (by assumption) ?_ | (refine tkY 6 ?_ ?_ (by assumption) ?_; rotate_left 1; · (intro w hSw; (try dsimp only at hSw); go_simp; (try with_reducible rfl)))); (try simp only [Act.put, zA, zB, zC, zD, zE, zF])
   (first | refine tkN 7 (by assumption) ?_ | (refine tkY 7 ?_ ?_ (by assumption) ?_; rotate_left 1; · (intro w hSw; (try dsimp only at hSw); go_simp; (try with_reducible rfl)))); (try simp only [Act.put, zA, zB, zC, zD, zE, zF])
   (first | refine tkN 8 (by assumption) ?_ | (refine tkY 8 ?_ ?_ (by assumption) ?_; rotate_left 1; · (intro w hSw; (try dsimp only at hSw); go_simp; (try with_reducible rfl)))); (try simp only [Act.put, zA, zB, zC, zD, zE, zF])
   (first | refine tkN 9 (by assumption) ?_ | (refine tkY 9 ?_ ?_ (by assumption) ?_; rotate_left 1; · (intro w hSw; (try dsimp only at hSw); go_simp; (try with_reducible rfl)))); (try simp only [Act.put, zA, zB, zC, zD, zE, zF])
   refine wpAnyH_ready (rs := [4]) (by kernel_rfl) (by simp) ?_; refine AllReadyH.cons rfl (fun K hK => ?_) AllReadyH.nil
   go_simp
   refine hK.out _ _ c0 (fun hHeld => ?_); clear hK K; (try simp only [Act.put, zA, zB, zC, zD, zE, zF])
   (first | refine tkN 10 (by assumption) ?_ | (refine tkY 10 ?_ ?_ (by assumption) ?_; rotate_left 1; · (intro w hSw; (try dsimp only at hSw); go_simp; (try with_reducible rfl)))); (try simp only [Act.put, zA, zB, zC, zD, zE, zF])
   (first | refine tkN 11 (by assumption) ?_ | (refine tkY 11 ?_ ?_ (by assumption) ?_; rotate_left 1; · (intro w hSw; (try dsimp only at hSw); go_simp; (try with_reducible rfl)))); (try simp only [Act.put, zA, zB, zC, zD, zE, zF])
   (first | refine tkN 12 (by assumption) ?_ | (refine tkY 12 ?_ ?_ (by assumption) ?_; rotate_left 1; · (intro w hSw; (try dsimp only at hSw); go_simp; (try with_reducible rfl)))); (try simp only [Act.put, zA, zB, zC, zD, zE, zF])
   refine wpAnyH_ready (rs := [13]) (by kernel_rfl) (by simp) ?_; refine AllReadyH.cons rfl (fun K hK => ?_) AllReadyH.nil
   go_simp
   refine hK.out _ _ ((World.cell?_setCell_far _ _ _ _ nb.symm).trans c0) (fun hHeld => ?_); clear hK K; (try simp only [Act.put, zA, zB, zC, zD, zE, zF])
   refine wpAnyH_done (by kernel_rfl) ?_ _
   refine NoPanic.normal ?_
   clear hHeld
   obtain ⟨hv1, t1⟩ := hv.setS (cur.S ++ y.name)
   rw [← hXY.out] at hv1 t1
   have hv1 := hv1.turn0 (Turn.refl _ none).drew
   have t1 := t1.drew
   obtain ⟨w1, hw1⟩ : ∃ w1, w1 = (wr.setCell ⟨b.pW, 1, none⟩ (.string (X ++ Y))).drew := ⟨_, rfl⟩
   rw [← hw1] at hv1 t1
   rw [← hw1]
   clear hw1
   obtain ⟨s1, hs1⟩ : ∃ s, s = cur.S ++ y.name := ⟨_, rfl⟩
   rw [← hs1] at hv1
   have l1s : s1.length ≤ 1125899906842624 + 21 * 562949953421312 + 140737488355328 := by rw [hs1, List.length_append]; omega
   have HS1 := hid hs1
   clear hs1 b1 zf lw q1 b3
   have c11 := (t1.cell (a := ⟨bb, off + j * 3 + 1, none⟩) lb m1).trans c1
   have c21 := (t1.cell (a := ⟨bb, off + j * 3 + 2, none⟩) lb m1).trans c2
   have lb1 := Nat.lt_of_lt_of_le lb t1.size
   cases hh : y.has with
   | true =>
    rw [hh] at c11
    have HH := hid (show ((if y.has then cur.S ++ y.name ++ [63] else cur.S ++ y.name) ++ [58]) = (s1 ++ [63]) ++ [58] by rw [hh, HS1.out]; rfl)
    clear hh
    obtain ⟨X2, hX2⟩ : ∃ X, X = txt s1 := ⟨_, rfl⟩
    have HX2 := hid (show X2 ++ { data := #[63] } = txt (s1 ++ [63]) by rw [hX2]; exact txt_app2 _ [63])
    have b1 := hv1.w1
    rw [← hX2] at b1
    have q1 : ¬ 9223372036854775807 < X2.size + 1 := by rw [hX2, txt_size]; omega
    have zf := hv1.blk.frozen 1
    have lw := hv1.blk.lt
    clear hX2
    go_upto_region 6 with (fail)
    obtain ⟨hv2, t2⟩ := hv1.setS (s1 ++ [63])
    rw [← HX2.out] at hv2 t2
    obtain ⟨w2, hw2⟩ : ∃ w', w' = w1.setCell ⟨b.pW, 1, none⟩ (.string (X2 ++ { data := #[63] })) := ⟨_, rfl⟩
    rw [← hw2] at hv2 t2
    rw [← hw2]
    clear hw2 b1 q1 zf lw
    have l2 : (s1 ++ [63]).length ≤ 1125899906842624 + 21 * 562949953421312 + 140737488355329 := by rw [List.length_append, List.length_singleton]; omega
    have c22 := (t2.cell (a := ⟨bb, off + j * 3 + 2, none⟩) lb1 m1).trans c21
    have T2 := t1.trans t2
    obtain ⟨X3, hX3⟩ : ∃ X, X = txt (s1 ++ [63]) := ⟨_, rfl⟩
    have HX3 := hid (show X3 ++ { data := #[58] } = txt ((s1 ++ [63]) ++ [58]) by rw [hX3]; exact txt_app2 _ [58])
    have b1 := hv2.w1
    rw [← hX3] at b1
    have q1 : ¬ 9223372036854775807 < X3.size + 1 := by rw [hX3, txt_size]; omega
    have zf := hv2.blk.frozen 1
    have lw := hv2.blk.lt
    clear hX3
    go_upto_region 7 with (fail)
    obtain ⟨hv3, t3⟩ := hv2.setS ((s1 ++ [63]) ++ [58])
    rw [← HX3.out] at hv3 t3
    obtain ⟨w3, hw3⟩ : ∃ w', w' = w2.setCell ⟨b.pW, 1, none⟩ (.string (X3 ++ { data := #[58] })) := ⟨_, rfl⟩
    rw [← hw3] at hv3 t3
    rw [← hw3]
    clear hw3 b1 q1 zf lw
    have l3 : ((s1 ++ [63]) ++ [58]).length ≤ 18014398509481984 := by have := l2; rw [List.length_append, List.length_singleton]; omega
    have c23 := (t3.cell (a := ⟨bb, off + j * 3 + 2, none⟩) (Nat.lt_of_lt_of_le lb T2.size) m1).trans c22
    have T3 := T2.trans t3
    obtain ⟨d4, hd4⟩ : ∃ d, d = rec y.ty { cur with S := (s1 ++ [63]) ++ [58] } := ⟨_, rfl⟩
    have key := TR w3 { cur with S := (s1 ++ [63]) ++ [58] } y.ty hv3 l3
    have hl4 := hlen y.ty { cur with S := (s1 ++ [63]) ++ [58] }
    rw [← hd4] at key hl4
    have HD := hid hd4
    clear hd4
    have hv3k := hv3
    go_upto_region 8 with (go_at_call 46; refine key.mono ?_; rintro e w4 ⟨rfl, hv4, t4⟩)
    have l4 : d4.S.length ≤ 18014398509481983 := by
     rcases hl4 with ⟨_, q⟩ | ⟨_, q⟩
     ·rw [q]
      show ((s1 ++ [63]) ++ [58]).length ≤ _
      rw [List.length_append, List.length_singleton]
      omega
     ·omega
    obtain ⟨X5, hX5⟩ : ∃ X, X = txt d4.S := ⟨_, rfl⟩
    have HX5 := hid (show X5 ++ { data := #[59] } = txt (d4.S ++ [59]) by rw [hX5]; exact txt_app2 _ [59])
    have b1 := hv4.w1
    rw [← hX5] at b1
    have q1 : ¬ 9223372036854775807 < X5.size + 1 := by rw [hX5, txt_size]; omega
    have zf := hv4.blk.frozen 1
    have lw := hv4.blk.lt
    clear hX5
    go_wp2
    obtain ⟨hv5, t5⟩ := hv4.setS (d4.S ++ [59])
    rw [← HX5.out] at hv5 t5
    have T5 := (T3.trans t4).trans t5
    refine ⟨⟨j + 1, _, by omega, by go_num, hv5, hid ?_, tr.trans T5, hid fun hq => ?_⟩, by simp [intOf]; omega⟩
    ·rw [← HN.out, HH.out, HD.out]
    ·show (d4.S ++ [59]).length ≤ _
     rw [List.length_append, List.length_singleton]
     rcases hl4 with ⟨q, _⟩ | ⟨_, q⟩
     ·have hq : d4.bad = false := hq
      rw [hq] at q; cases q
     ·omega
   | false =>
    rw [hh] at c11
    have HH := hid (show ((if y.has then cur.S ++ y.name ++ [63] else cur.S ++ y.name) ++ [58]) = s1 ++ [58] by rw [hh, HS1.out]; rfl)
    clear hh
    have l2 : s1.length ≤ 1125899906842624 + 21 * 562949953421312 + 140737488355329 := by omega
    obtain ⟨X3, hX3⟩ : ∃ X, X = txt s1 := ⟨_, rfl⟩
    have HX3 := hid (show X3 ++ { data := #[58] } = txt (s1 ++ [58]) by rw [hX3]; exact txt_app2 _ [58])
    have b1 := hv1.w1
    rw [← hX3] at b1
    have q1 : ¬ 9223372036854775807 < X3.size + 1 := by rw [hX3, txt_size]; omega
    have zf := hv1.blk.frozen 1
    have lw := hv1.blk.lt
    clear hX3
    go_upto_region 7 with (fail)
    obtain ⟨hv3, t3⟩ := hv1.setS (s1 ++ [58])
    rw [← HX3.out] at hv3 t3
    obtain ⟨w3, hw3⟩ : ∃ w', w' = w1.setCell ⟨b.pW, 1, none⟩ (.string (X3 ++ { data := #[58] })) := ⟨_, rfl⟩
    rw [← hw3] at hv3 t3
    rw [← hw3]
    clear hw3 b1 q1 zf lw
    have l3 : (s1 ++ [58]).length ≤ 18014398509481984 := by have := l2; rw [List.length_append, List.length_singleton]; omega
    have c23 := (t3.cell (a := ⟨bb, off + j * 3 + 2, none⟩) (Nat.lt_of_lt_of_le lb t1.size) m1).trans c21
    have T3 := t1.trans t3
    obtain ⟨d4, hd4⟩ : ∃ d, d = rec y.ty { cur with S := s1 ++ [58] } := ⟨_, rfl⟩
    have key := TR w3 { cur with S := s1 ++ [58] } y.ty hv3 l3
    have hl4 := hlen y.ty { cur with S := s1 ++ [58] }
    rw [← hd4] at key hl4
    have HD := hid hd4
    clear hd4
    have hv3k := hv3
    go_upto_region 8 with (go_at_call 46; refine key.mono ?_; rintro e w4 ⟨rfl, hv4, t4⟩)
    have l4 : d4.S.length ≤ 18014398509481983 := by
     rcases hl4 with ⟨_, q⟩ | ⟨_, q⟩
     ·rw [q]
      show (s1 ++ [58]).length ≤ _
      rw [List.length_append, List.length_singleton]
      omega
     ·omega
    obtain ⟨X5, hX5⟩ : ∃ X, X = txt d4.S := ⟨_, rfl⟩
    have HX5 := hid (show X5 ++ { data := #[59] } = txt (d4.S ++ [59]) by rw [hX5]; exact txt_app2 _ [59])
    have b1 := hv4.w1
    rw [← hX5] at b1
    have q1 : ¬ 9223372036854775807 < X5.size + 1 := by rw [hX5, txt_size]; omega
    have zf := hv4.blk.frozen 1
    have lw := hv4.blk.lt
    clear hX5
    go_wp2
    obtain ⟨hv5, t5⟩ := hv4.setS (d4.S ++ [59])
    rw [← HX5.out] at hv5 t5
    have T5 := (T3.trans t4).trans t5
    refine ⟨⟨j + 1, _, by omega, by go_num, hv5, hid ?_, tr.trans T5, hid fun hq => ?_⟩, by simp [intOf]; omega⟩
    ·rw [← HN.out, HH.out, HD.out]
    ·show (d4.S ++ [59]).length ≤ _
     rw [List.length_append, List.length_singleton]
     rcases hl4 with ⟨q, _⟩ | ⟨_, q⟩
     ·have hq : d4.bad = false := hq
      rw [hq] at q; cases q
     ·omega
end
open Go.RowKit
section
variable {w w' : World} {b : DB} {st : DW}
theorem Dv.setB (h : Dv w b st) (v : Bool) : Dv (w.setCell ⟨b.pW, 3, none⟩ (.bool v)) b { st with bad := v } ∧ Turn w (w.setCell ⟨b.pW, 3, none⟩ (.bool v)) (some b.pW) := by
 have t := Blk.setTurn w b.pW 3 (.bool v)
 exact ⟨⟨h.lo, h.sc.turn t h.size (fun g e => by injection e with e; have := h.lo; omega), h.ok, h.few, h.cap, h.blk.sets 3 (.bool v)⟩, t⟩
theorem Dv.w0 (h : Dv w b st) : w.cell? ⟨b.pW, 0, none⟩ = some (.slice b.A b.n b.c) := h.blk.cell 0
theorem Dv.w2 (h : Dv w b st) : w.cell? ⟨b.pW, 2, none⟩ = some (.int .i64 (st.nx : Int)) := h.blk.cell 2
theorem Dv.len (h : Dv w b st) : b.n = b.gs.length := h.sc.1.symm
theorem dtyp_off (h : Dv w b st) {n : Int} {d : Nat} (hd : d ≤ 20) (hoff : dOff b.gs d n st = true) :
  Calls Tryz.prog 46 #[.pointer (some ⟨b.pW, 0, none⟩), .int .i64 n, .int .i64 (d : Int)] w (Ud b w { st with bad := true }) := by
 have hlen := h.len
 have c0 := h.w0
 have c1 := h.w1
 have c2 := h.w2
 have c3 := h.w3
 have zf := h.blk.frozen 3
 obtain ⟨hv, tv⟩ := h.setB true
 have HV := hid (And.intro hv tv)
 clear hv tv
 unfold dOff at hoff
 simp only [Bool.or_eq_true, decide_eq_true_eq] at hoff
 rw [← hlen] at hoff
 have hsz : (txt st.S).size = st.S.length := txt_size _
 obtain ⟨X, hX⟩ : ∃ X, X = txt st.S := ⟨_, rfl⟩
 rw [← hX] at c1 hsz
 clear hX hlen
 cases hb : st.bad with
 | true =>
  rw [hb] at c3
  clear hoff hb
  go_enter Tryz.func46, Tryz.ntmps46
  go_wp2
  go_end0
  exact ⟨rfl, HV.out.1, HV.out.2⟩
 | false =>
  rw [hb] at c3 hoff
  clear hb
  simp only [Bool.false_eq_true, false_or] at hoff
  by_cases a0 : n < 0
  ·have i0 : n < 0 := by omega
   clear hoff
   go_enter Tryz.func46, Tryz.ntmps46
   go_wp2
   go_end0
   exact ⟨rfl, HV.out.1, HV.out.2⟩
  have i0 : ¬n < 0 := by omega
  by_cases a1 : (b.n : Int) ≤ n
  ·have i1 : (b.n : Int) ≤ n := by omega
   clear hoff
   go_enter Tryz.func46, Tryz.ntmps46
   go_wp2
   go_end0
   exact ⟨rfl, HV.out.1, HV.out.2⟩
  have i1 : ¬(b.n : Int) ≤ n := by omega
  by_cases a2 : (st.nx : Int) < n
  ·have i2 : (st.nx : Int) < n := by omega
   clear hoff
   go_enter Tryz.func46, Tryz.ntmps46
   go_wp2
   go_end0
   exact ⟨rfl, HV.out.1, HV.out.2⟩
  have i2 : ¬(st.nx : Int) < n := by omega
  by_cases a3 : 20 ≤ d
  ·have i3 : (20 : Int) ≤ (d : Int) := by omega
   clear hoff a3
   go_enter Tryz.func46, Tryz.ntmps46
   go_wp2
   go_end0
   exact ⟨rfl, HV.out.1, HV.out.2⟩
  have i3 : ¬(20 : Int) ≤ (d : Int) := by omega
  have i9 : (4096 : Int) < (st.S.length : Int) := by omega
  clear hoff
  go_enter Tryz.func46, Tryz.ntmps46
  go_wp2
  go_end0
  exact ⟨rfl, HV.out.1, HV.out.2⟩
end
open Go.RowKit
theorem rnode_any {w : World} {B : Nat} {v u : Value} {x y : Gn} (hx : NdV w B v x) (hy : NdV w B u y) (hB : B ≤ w.heap.size) (ls : x.syms.length ≤ 1000000) (li : x.items.length ≤ 1000000) (lf : x.fields.length ≤ 1000000) :
  Calls Tryz.prog 52 #[v, u] w fun e w' => e = .returned (.bool (decide (x = y))) ∧ Turn w w' none := by
 obtain ⟨As, sc, Ai, ic, Af, fc, rfl, r3, r4, r5⟩ := hx
 obtain ⟨Bs, tc, Bi, jc, Bf, gc, rfl, q3, q4, q5⟩ := hy
 have ex : x = y ↔ x.k = y.k ∧ x.name = y.name ∧ x.size = y.size ∧ x.syms = y.syms ∧ x.items = y.items ∧ x.fields = y.fields := by
  cases x; cases y; simp only [Gn.mk.injEq]
 by_cases n0 : x.k = y.k
 case neg =>
  have e0 : (x.k != y.k) = true := by rw [bne_iff_ne]; omega
  have H := hid (show decide (x = y) = false by simp [ex, n0])
  clear ex n0
  go_enter Tryz.func52, Tryz.ntmps52
  go_upto_region 1 with (first
   | (have q9 := hg; refine wp_bx rfl 64 _ rfl rfl ?_; intro g2 w2 hg2 hb2 ht2)
   | (refine wp_bx rfl 64 _ rfl rfl ?_; intro g w1 hg hb1 ht1))
  have hb3 := hb1.turn0 ht2
  have tt := ht1.trans ht2
  have k0 : w2.cell? ⟨g, 0, none⟩ = some (.int .i64 x.k) := hb3.ats (xs := [_, _, _, _, _, _]) rfl
  have k1 : w2.cell? ⟨g, 1, none⟩ = some (.string (txt x.name)) := hb3.ats (xs := [_, _, _, _, _, _]) rfl
  have k2 : w2.cell? ⟨g, 2, none⟩ = some (.int .i64 x.size) := hb3.ats (xs := [_, _, _, _, _, _]) rfl
  have k3 : w2.cell? ⟨g, 3, none⟩ = some (.slice As x.syms.length sc) := hb3.ats (xs := [_, _, _, _, _, _]) rfl
  have k4 : w2.cell? ⟨g, 4, none⟩ = some (.slice Ai x.items.length ic) := hb3.ats (xs := [_, _, _, _, _, _]) rfl
  have k5 : w2.cell? ⟨g, 5, none⟩ = some (.slice Af x.fields.length fc) := hb3.ats (xs := [_, _, _, _, _, _]) rfl
  have m0 : w2.cell? ⟨g2, 0, none⟩ = some (.int .i64 y.k) := hb2.ats (xs := [_, _, _, _, _, _]) rfl
  have m1 : w2.cell? ⟨g2, 1, none⟩ = some (.string (txt y.name)) := hb2.ats (xs := [_, _, _, _, _, _]) rfl
  have m2 : w2.cell? ⟨g2, 2, none⟩ = some (.int .i64 y.size) := hb2.ats (xs := [_, _, _, _, _, _]) rfl
  have m3 : w2.cell? ⟨g2, 3, none⟩ = some (.slice Bs y.syms.length tc) := hb2.ats (xs := [_, _, _, _, _, _]) rfl
  have m4 : w2.cell? ⟨g2, 4, none⟩ = some (.slice Bi y.items.length jc) := hb2.ats (xs := [_, _, _, _, _, _]) rfl
  have m5 : w2.cell? ⟨g2, 5, none⟩ = some (.slice Bf y.fields.length gc) := hb2.ats (xs := [_, _, _, _, _, _]) rfl
  go_wp2_with fail
  go_ret
  exact ⟨by rw [H.out]; rfl, tt⟩
 by_cases n1 : x.name = y.name
 case neg =>
  have e0 : (x.k != y.k) = false := by rw [n0]; simp
  have e1 : ((txt x.name).toList == (txt y.name).toList) = false := by rw [tx_beq]; simpa using n1
  have e1b : ((txt x.name).toList != (txt y.name).toList) = true := by rw [bne, e1]; rfl
  have H := hid (show decide (x = y) = false by simp [ex, n1])
  clear ex n0 n1
  go_enter Tryz.func52, Tryz.ntmps52
  go_upto_region 1 with (first
   | (have q9 := hg; refine wp_bx rfl 64 _ rfl rfl ?_; intro g2 w2 hg2 hb2 ht2)
   | (refine wp_bx rfl 64 _ rfl rfl ?_; intro g w1 hg hb1 ht1))
  have hb3 := hb1.turn0 ht2
  have tt := ht1.trans ht2
  have k0 : w2.cell? ⟨g, 0, none⟩ = some (.int .i64 x.k) := hb3.ats (xs := [_, _, _, _, _, _]) rfl
  have k1 : w2.cell? ⟨g, 1, none⟩ = some (.string (txt x.name)) := hb3.ats (xs := [_, _, _, _, _, _]) rfl
  have k2 : w2.cell? ⟨g, 2, none⟩ = some (.int .i64 x.size) := hb3.ats (xs := [_, _, _, _, _, _]) rfl
  have k3 : w2.cell? ⟨g, 3, none⟩ = some (.slice As x.syms.length sc) := hb3.ats (xs := [_, _, _, _, _, _]) rfl
  have k4 : w2.cell? ⟨g, 4, none⟩ = some (.slice Ai x.items.length ic) := hb3.ats (xs := [_, _, _, _, _, _]) rfl
  have k5 : w2.cell? ⟨g, 5, none⟩ = some (.slice Af x.fields.length fc) := hb3.ats (xs := [_, _, _, _, _, _]) rfl
  have m0 : w2.cell? ⟨g2, 0, none⟩ = some (.int .i64 y.k) := hb2.ats (xs := [_, _, _, _, _, _]) rfl
  have m1 : w2.cell? ⟨g2, 1, none⟩ = some (.string (txt y.name)) := hb2.ats (xs := [_, _, _, _, _, _]) rfl
  have m2 : w2.cell? ⟨g2, 2, none⟩ = some (.int .i64 y.size) := hb2.ats (xs := [_, _, _, _, _, _]) rfl
  have m3 : w2.cell? ⟨g2, 3, none⟩ = some (.slice Bs y.syms.length tc) := hb2.ats (xs := [_, _, _, _, _, _]) rfl
  have m4 : w2.cell? ⟨g2, 4, none⟩ = some (.slice Bi y.items.length jc) := hb2.ats (xs := [_, _, _, _, _, _]) rfl
  have m5 : w2.cell? ⟨g2, 5, none⟩ = some (.slice Bf y.fields.length gc) := hb2.ats (xs := [_, _, _, _, _, _]) rfl
  go_wp2_with fail
  go_ret
  exact ⟨by rw [H.out]; rfl, tt⟩
 by_cases n2 : x.size = y.size
 case neg =>
  have e0 : (x.k != y.k) = false := by rw [n0]; simp
  have e1 : ((txt x.name).toList == (txt y.name).toList) = true := by rw [tx_beq]; simpa using n1
  have e1b : ((txt x.name).toList != (txt y.name).toList) = false := by rw [bne, e1]; rfl
  have e2 : (x.size != y.size) = true := by rw [bne_iff_ne]; omega
  have H := hid (show decide (x = y) = false by simp [ex, n2])
  clear ex n0 n1 n2
  go_enter Tryz.func52, Tryz.ntmps52
  go_upto_region 1 with (first
   | (have q9 := hg; refine wp_bx rfl 64 _ rfl rfl ?_; intro g2 w2 hg2 hb2 ht2)
   | (refine wp_bx rfl 64 _ rfl rfl ?_; intro g w1 hg hb1 ht1))
  have hb3 := hb1.turn0 ht2
  have tt := ht1.trans ht2
  have k0 : w2.cell? ⟨g, 0, none⟩ = some (.int .i64 x.k) := hb3.ats (xs := [_, _, _, _, _, _]) rfl
  have k1 : w2.cell? ⟨g, 1, none⟩ = some (.string (txt x.name)) := hb3.ats (xs := [_, _, _, _, _, _]) rfl
  have k2 : w2.cell? ⟨g, 2, none⟩ = some (.int .i64 x.size) := hb3.ats (xs := [_, _, _, _, _, _]) rfl
  have k3 : w2.cell? ⟨g, 3, none⟩ = some (.slice As x.syms.length sc) := hb3.ats (xs := [_, _, _, _, _, _]) rfl
  have k4 : w2.cell? ⟨g, 4, none⟩ = some (.slice Ai x.items.length ic) := hb3.ats (xs := [_, _, _, _, _, _]) rfl
  have k5 : w2.cell? ⟨g, 5, none⟩ = some (.slice Af x.fields.length fc) := hb3.ats (xs := [_, _, _, _, _, _]) rfl
  have m0 : w2.cell? ⟨g2, 0, none⟩ = some (.int .i64 y.k) := hb2.ats (xs := [_, _, _, _, _, _]) rfl
  have m1 : w2.cell? ⟨g2, 1, none⟩ = some (.string (txt y.name)) := hb2.ats (xs := [_, _, _, _, _, _]) rfl
  have m2 : w2.cell? ⟨g2, 2, none⟩ = some (.int .i64 y.size) := hb2.ats (xs := [_, _, _, _, _, _]) rfl
  have m3 : w2.cell? ⟨g2, 3, none⟩ = some (.slice Bs y.syms.length tc) := hb2.ats (xs := [_, _, _, _, _, _]) rfl
  have m4 : w2.cell? ⟨g2, 4, none⟩ = some (.slice Bi y.items.length jc) := hb2.ats (xs := [_, _, _, _, _, _]) rfl
  have m5 : w2.cell? ⟨g2, 5, none⟩ = some (.slice Bf y.fields.length gc) := hb2.ats (xs := [_, _, _, _, _, _]) rfl
  go_wp2_with fail
  go_ret
  exact ⟨by rw [H.out]; rfl, tt⟩
 by_cases n3 : x.fields.length = y.fields.length
 case neg =>
  have e0 : (x.k != y.k) = false := by rw [n0]; simp
  have e1 : ((txt x.name).toList == (txt y.name).toList) = true := by rw [tx_beq]; simpa using n1
  have e1b : ((txt x.name).toList != (txt y.name).toList) = false := by rw [bne, e1]; rfl
  have e2 : (x.size != y.size) = false := by rw [n2]; simp
  have e3 : ((x.fields.length : Int) != (y.fields.length : Int)) = true := by rw [bne_iff_ne]; omega
  have H := hid (show decide (x = y) = false by rw [decide_eq_false_iff_not]; rintro rfl; exact n3 rfl)
  clear ex n0 n1 n2 n3
  go_enter Tryz.func52, Tryz.ntmps52
  go_upto_region 1 with (first
   | (have q9 := hg; refine wp_bx rfl 64 _ rfl rfl ?_; intro g2 w2 hg2 hb2 ht2)
   | (refine wp_bx rfl 64 _ rfl rfl ?_; intro g w1 hg hb1 ht1))
  have hb3 := hb1.turn0 ht2
  have tt := ht1.trans ht2
  have k0 : w2.cell? ⟨g, 0, none⟩ = some (.int .i64 x.k) := hb3.ats (xs := [_, _, _, _, _, _]) rfl
  have k1 : w2.cell? ⟨g, 1, none⟩ = some (.string (txt x.name)) := hb3.ats (xs := [_, _, _, _, _, _]) rfl
  have k2 : w2.cell? ⟨g, 2, none⟩ = some (.int .i64 x.size) := hb3.ats (xs := [_, _, _, _, _, _]) rfl
  have k3 : w2.cell? ⟨g, 3, none⟩ = some (.slice As x.syms.length sc) := hb3.ats (xs := [_, _, _, _, _, _]) rfl
  have k4 : w2.cell? ⟨g, 4, none⟩ = some (.slice Ai x.items.length ic) := hb3.ats (xs := [_, _, _, _, _, _]) rfl
  have k5 : w2.cell? ⟨g, 5, none⟩ = some (.slice Af x.fields.length fc) := hb3.ats (xs := [_, _, _, _, _, _]) rfl
  have m0 : w2.cell? ⟨g2, 0, none⟩ = some (.int .i64 y.k) := hb2.ats (xs := [_, _, _, _, _, _]) rfl
  have m1 : w2.cell? ⟨g2, 1, none⟩ = some (.string (txt y.name)) := hb2.ats (xs := [_, _, _, _, _, _]) rfl
  have m2 : w2.cell? ⟨g2, 2, none⟩ = some (.int .i64 y.size) := hb2.ats (xs := [_, _, _, _, _, _]) rfl
  have m3 : w2.cell? ⟨g2, 3, none⟩ = some (.slice Bs y.syms.length tc) := hb2.ats (xs := [_, _, _, _, _, _]) rfl
  have m4 : w2.cell? ⟨g2, 4, none⟩ = some (.slice Bi y.items.length jc) := hb2.ats (xs := [_, _, _, _, _, _]) rfl
  have m5 : w2.cell? ⟨g2, 5, none⟩ = some (.slice Bf y.fields.length gc) := hb2.ats (xs := [_, _, _, _, _, _]) rfl
  go_wp2_with fail
  go_ret
  exact ⟨by rw [H.out]; rfl, tt⟩
 have e0 : (x.k != y.k) = false := by rw [n0]; simp
 have e1 : ((txt x.name).toList == (txt y.name).toList) = true := by rw [tx_beq]; simpa using n1
 have e1b : ((txt x.name).toList != (txt y.name).toList) = false := by rw [bne, e1]; rfl
 have e2 : (x.size != y.size) = false := by rw [n2]; simp
 have e3 : ((x.fields.length : Int) != (y.fields.length : Int)) = false := by rw [n3]; simp
 have HN := hid (show (x = y) ↔ x.fields = y.fields ∧ x.syms = y.syms ∧ x.items = y.items by rw [ex]; constructor <;> (intro h; simp_all))
 have HL := hid n3
 clear ex n0 n1 n2 n3
 go_enter Tryz.func52, Tryz.ntmps52
 go_upto_region 1 with (first
  | (have q9 := hg; refine wp_bx rfl 64 _ rfl rfl ?_; intro g2 w2 hg2 hb2 ht2)
  | (refine wp_bx rfl 64 _ rfl rfl ?_; intro g w1 hg hb1 ht1))
 have hb3 := hb1.turn0 ht2
 have tt := ht1.trans ht2
 have k0 : w2.cell? ⟨g, 0, none⟩ = some (.int .i64 x.k) := hb3.ats (xs := [_, _, _, _, _, _]) rfl
 have k1 : w2.cell? ⟨g, 1, none⟩ = some (.string (txt x.name)) := hb3.ats (xs := [_, _, _, _, _, _]) rfl
 have k2 : w2.cell? ⟨g, 2, none⟩ = some (.int .i64 x.size) := hb3.ats (xs := [_, _, _, _, _, _]) rfl
 have k3 : w2.cell? ⟨g, 3, none⟩ = some (.slice As x.syms.length sc) := hb3.ats (xs := [_, _, _, _, _, _]) rfl
 have k4 : w2.cell? ⟨g, 4, none⟩ = some (.slice Ai x.items.length ic) := hb3.ats (xs := [_, _, _, _, _, _]) rfl
 have k5 : w2.cell? ⟨g, 5, none⟩ = some (.slice Af x.fields.length fc) := hb3.ats (xs := [_, _, _, _, _, _]) rfl
 have m0 : w2.cell? ⟨g2, 0, none⟩ = some (.int .i64 y.k) := hb2.ats (xs := [_, _, _, _, _, _]) rfl
 have m1 : w2.cell? ⟨g2, 1, none⟩ = some (.string (txt y.name)) := hb2.ats (xs := [_, _, _, _, _, _]) rfl
 have m2 : w2.cell? ⟨g2, 2, none⟩ = some (.int .i64 y.size) := hb2.ats (xs := [_, _, _, _, _, _]) rfl
 have m3 : w2.cell? ⟨g2, 3, none⟩ = some (.slice Bs y.syms.length tc) := hb2.ats (xs := [_, _, _, _, _, _]) rfl
 have m4 : w2.cell? ⟨g2, 4, none⟩ = some (.slice Bi y.items.length jc) := hb2.ats (xs := [_, _, _, _, _, _]) rfl
 have m5 : w2.cell? ⟨g2, 5, none⟩ = some (.slice Bf y.fields.length gc) := hb2.ats (xs := [_, _, _, _, _, _]) rfl
 go_wp2_with fail
 go_loopw [5] (fun i wr => ∃ j : Nat, j ≤ x.fields.length ∧ i = .int .i64 (j : Int) ∧ Hid (x.fields.take j = y.fields.take j) ∧ Turn w2 wr none) (fun i _ => (x.fields.length - intOf i).toNat)
 case atStart => exact ⟨0, by omega, rfl, hid rfl, Turn.refl w2 none⟩
 case round =>
  obtain ⟨j, hj, rfl, HE, htr⟩ := hrel
  have hwr : wrap64 ((j : Int) + 1) = (j : Int) + 1 := by unfold wrap64; omega
  have k5' := (htr.cell (a := ⟨g, 5, none⟩) hb3.lt (by simp)).trans k5
  have m5' := (htr.cell (a := ⟨g2, 5, none⟩) hb2.lt (by simp)).trans m5
  have tr := tt.trans htr
  by_cases hjn : j < x.fields.length
  ·have hjk : j < y.fields.length := by have := HL.out; omega
   obtain ⟨a, ha⟩ : ∃ a, x.fields[j]? = some a := ⟨x.fields[j], List.getElem?_eq_getElem hjn⟩
   obtain ⟨b, hb⟩ : ∃ b, y.fields[j]? = some b := ⟨y.fields[j], List.getElem?_eq_getElem hjk⟩
   obtain ⟨b1, o1, rfl, _, h1⟩ := (r5.turn0 tr hB).head (by omega)
   obtain ⟨b2, o2, rfl, _, h2⟩ := (q5.turn0 tr hB).head (by omega)
   obtain ⟨p0, p1, p2⟩ := vfs_at ha
   obtain ⟨s0, s1, s2⟩ := vfs_at hb
   have a0 := h1 _ _ p0
   have a1 : wr.cell? ⟨b1, o1 + j * 3 + 1, none⟩ = some (.bool a.has) := by rw [Nat.add_assoc]; exact h1 _ _ p1
   have a2 : wr.cell? ⟨b1, o1 + j * 3 + 2, none⟩ = some (.int .i64 a.ty) := by rw [Nat.add_assoc]; exact h1 _ _ p2
   have d0 := h2 _ _ s0
   have d1 : wr.cell? ⟨b2, o2 + j * 3 + 1, none⟩ = some (.bool b.has) := by rw [Nat.add_assoc]; exact h2 _ _ s1
   have d2 : wr.cell? ⟨b2, o2 + j * 3 + 2, none⟩ = some (.int .i64 b.ty) := by rw [Nat.add_assoc]; exact h2 _ _ s2
   have hgd : Tryz.prog.eqGuardType Tryz.prog.depth 119 = false := by kernel_rfl
   have HX := hid ha
   have HY := hid hb
   clear p0 p1 p2 s0 s1 s2 h1 h2 ha hb k0 k1 k2 k3 k4 k5 m0 m1 m2 m3 m4 m5 e0 e1 e1b e2 e3
   by_cases hxy : a = b
   ·have e := feq a b
    rw [decide_eq_true hxy] at e
    have HXY := hid hxy
    clear hxy
    go_wp2_with (fail)
    refine wp_region_noPanic ?_
    refine wp_region_held_drew (S := (fun W => W.cell? ⟨g, 5, none⟩ = some (.slice (some ⟨b1, o1, none⟩) x.fields.length fc) ∧ W.cell? ⟨g2, 5, none⟩ = some (.slice (some ⟨b2, o2, none⟩) y.fields.length gc) ∧ W.cell? ⟨b1, o1 + j * 3, none⟩ = some (.string (txt a.name)) ∧ W.cell? ⟨b1, o1 + j * 3 + 1, none⟩ = some (.bool a.has) ∧ W.cell? ⟨b1, o1 + j * 3 + 2, none⟩ = some (.int .i64 a.ty) ∧ W.cell? ⟨b2, o2 + j * 3, none⟩ = some (.string (txt b.name)) ∧ W.cell? ⟨b2, o2 + j * 3 + 1, none⟩ = some (.bool b.has) ∧ W.cell? ⟨b2, o2 + j * 3 + 2, none⟩ = some (.int .i64 b.ty))) (by kernel_rfl) (⟨k5', m5', a0, a1, a2, d0, d1, d2⟩) (fun hHeld => ?_)
    (first | refine tkN 0 (by assumption) ?_ | (refine tkY 0 ?_ ?_ (by assumption) ?_; rotate_left 1; · (intro w hSw; (try dsimp only at hSw); go_simp; (try with_reducible rfl)))); (try simp only [Act.put, zA, zB, zC, zD, zE, zF])
    (first | refine tkN 1 (by assumption) ?_ | (refine tkY 1 ?_ ?_ (by assumption) ?_; rotate_left 1; · (intro w hSw; (try dsimp only at hSw); go_simp; (try with_reducible rfl)))); (try simp only [Act.put, zA, zB, zC, zD, zE, zF])
    (first | refine tkN 2 (by assumption) ?_ | (refine tkY 2 ?_ ?_ (by assumption) ?_; rotate_left 1; · (intro w hSw; (try dsimp only at hSw); go_simp; (try with_reducible rfl)))); (try simp only [Act.put, zA, zB, zC, zD, zE, zF])
    (first | refine tkN 3 (by assumption) ?_ | (refine tkY 3 ?_ ?_ (by assumption) ?_; rotate_left 1; · (intro w hSw; (try dsimp only at hSw); go_simp; (try with_reducible rfl)))); (try simp only [Act.put, zA, zB, zC, zD, zE, zF])
    (first | refine tkN 4 (by assumption) ?_ | (refine tkY 4 ?_ ?_ (by assumption) ?_; rotate_left 1; · (intro w hSw; (try dsimp only at hSw); go_simp; (try with_reducible rfl)))); (try simp only [Act.put, zA, zB, zC, zD, zE, zF])
    (first | refine tkN 5 (by assumption) ?_ | (refine tkY 5 ?_ ?_ (by assumption) ?_; rotate_left 1; · (intro w hSw; (try dsimp only at hSw); go_simp; (try with_reducible rfl)))); (try simp only [Act.put, zA, zB, zC, zD, zE, zF])
    (first | refine tkN 6 (by assumption) ?_ | (refine tkY 6 ?_ ?_ (by assumption) ?_; rotate_left 1; · (intro w hSw; (try dsimp only at hSw); go_simp; (try with_reducible rfl)))); (try simp only [Act.put, zA, zB, zC, zD, zE, zF])
    (first | refine tkN 7 (by assumption) ?_ | (refine tkY 7 ?_ ?_ (by assumption) ?_; rotate_left 1; · (intro w hSw; (try dsimp only at hSw); go_simp; (try with_reducible rfl)))); (try simp only [Act.put, zA, zB, zC, zD, zE, zF])
    (first | refine tkN 8 (by assumption) ?_ | (refine tkY 8 ?_ ?_ (by assumption) ?_; rotate_left 1; · (intro w hSw; (try dsimp only at hSw); go_simp; (try with_reducible rfl)))); (try simp only [Act.put, zA, zB, zC, zD, zE, zF])
    (first | refine tkN 9 (by assumption) ?_ | (refine tkY 9 ?_ ?_ (by assumption) ?_; rotate_left 1; · (intro w hSw; (try dsimp only at hSw); go_simp; (try with_reducible rfl)))); (try simp only [Act.put, zA, zB, zC, zD, zE, zF])
    (first | refine tkN 10 (by assumption) ?_ | (refine tkY 10 ?_ ?_ (by assumption) ?_; rotate_left 1; · (intro w hSw; (try dsimp only at hSw); go_simp; (try with_reducible rfl)))); (try simp only [Act.put, zA, zB, zC, zD, zE, zF])
    refine wpAnyH_done (by kernel_rfl) ?_ _
    refine NoPanic.normal ?_
    clear hHeld
    go_wp2
    refine ⟨⟨j + 1, by omega, by go_num, hid (take_next1 HX.out (by rw [HXY.out]; exact HY.out) HE.out), htr.drew⟩, by simp [intOf]; omega⟩
   ·have e := feq a b
    rw [decide_eq_false hxy] at e
    have H := hid (show decide (x = y) = false by
     rw [decide_eq_false_iff_not, HN.out]
     rintro ⟨h1, _⟩
     have hx := HX.out
     rw [h1, HY.out] at hx
     exact hxy (Option.some.inj hx).symm)
    clear hxy
    go_wp2_with (fail)
    refine wp_region_noPanic ?_
    refine wp_region_held_drew (S := (fun W => W.cell? ⟨g, 5, none⟩ = some (.slice (some ⟨b1, o1, none⟩) x.fields.length fc) ∧ W.cell? ⟨g2, 5, none⟩ = some (.slice (some ⟨b2, o2, none⟩) y.fields.length gc) ∧ W.cell? ⟨b1, o1 + j * 3, none⟩ = some (.string (txt a.name)) ∧ W.cell? ⟨b1, o1 + j * 3 + 1, none⟩ = some (.bool a.has) ∧ W.cell? ⟨b1, o1 + j * 3 + 2, none⟩ = some (.int .i64 a.ty) ∧ W.cell? ⟨b2, o2 + j * 3, none⟩ = some (.string (txt b.name)) ∧ W.cell? ⟨b2, o2 + j * 3 + 1, none⟩ = some (.bool b.has) ∧ W.cell? ⟨b2, o2 + j * 3 + 2, none⟩ = some (.int .i64 b.ty))) (by kernel_rfl) (⟨k5', m5', a0, a1, a2, d0, d1, d2⟩) (fun hHeld => ?_)
    (first | refine tkN 0 (by assumption) ?_ | (refine tkY 0 ?_ ?_ (by assumption) ?_; rotate_left 1; · (intro w hSw; (try dsimp only at hSw); go_simp; (try with_reducible rfl)))); (try simp only [Act.put, zA, zB, zC, zD, zE, zF])
    (first | refine tkN 1 (by assumption) ?_ | (refine tkY 1 ?_ ?_ (by assumption) ?_; rotate_left 1; · (intro w hSw; (try dsimp only at hSw); go_simp; (try with_reducible rfl)))); (try simp only [Act.put, zA, zB, zC, zD, zE, zF])
    (first | refine tkN 2 (by assumption) ?_ | (refine tkY 2 ?_ ?_ (by assumption) ?_; rotate_left 1; · (intro w hSw; (try dsimp only at hSw); go_simp; (try with_reducible rfl)))); (try simp only [Act.put, zA, zB, zC, zD, zE, zF])
    (first | refine tkN 3 (by assumption) ?_ | (refine tkY 3 ?_ ?_ (by assumption) ?_; rotate_left 1; · (intro w hSw; (try dsimp only at hSw); go_simp; (try with_reducible rfl)))); (try simp only [Act.put, zA, zB, zC, zD, zE, zF])
    (first | refine tkN 4 (by assumption) ?_ | (refine tkY 4 ?_ ?_ (by assumption) ?_; rotate_left 1; · (intro w hSw; (try dsimp only at hSw); go_simp; (try with_reducible rfl)))); (try simp only [Act.put, zA, zB, zC, zD, zE, zF])
    (first | refine tkN 5 (by assumption) ?_ | (refine tkY 5 ?_ ?_ (by assumption) ?_; rotate_left 1; · (intro w hSw; (try dsimp only at hSw); go_simp; (try with_reducible rfl)))); (try simp only [Act.put, zA, zB, zC, zD, zE, zF])
    (first | refine tkN 6 (by assumption) ?_ | (refine tkY 6 ?_ ?_ (by assumption) ?_; rotate_left 1; · (intro w hSw; (try dsimp only at hSw); go_simp; (try with_reducible rfl)))); (try simp only [Act.put, zA, zB, zC, zD, zE, zF])
    (first | refine tkN 7 (by assumption) ?_ | (refine tkY 7 ?_ ?_ (by assumption) ?_; rotate_left 1; · (intro w hSw; (try dsimp only at hSw); go_simp; (try with_reducible rfl)))); (try simp only [Act.put, zA, zB, zC, zD, zE, zF])
    (first | refine tkN 8 (by assumption) ?_ | (refine tkY 8 ?_ ?_ (by assumption) ?_; rotate_left 1; · (intro w hSw; (try dsimp only at hSw); go_simp; (try with_reducible rfl)))); (try simp only [Act.put, zA, zB, zC, zD, zE, zF])
    (first | refine tkN 9 (by assumption) ?_ | (refine tkY 9 ?_ ?_ (by assumption) ?_; rotate_left 1; · (intro w hSw; (try dsimp only at hSw); go_simp; (try with_reducible rfl)))); (try simp only [Act.put, zA, zB, zC, zD, zE, zF])
    (first | refine tkN 10 (by assumption) ?_ | (refine tkY 10 ?_ ?_ (by assumption) ?_; rotate_left 1; · (intro w hSw; (try dsimp only at hSw); go_simp; (try with_reducible rfl)))); (try simp only [Act.put, zA, zB, zC, zD, zE, zF])
    refine wpAnyH_done (by kernel_rfl) ?_ _
    refine NoPanic.normal ?_
    clear hHeld
    go_wp2
    go_ret
    exact ⟨by rw [H.out]; rfl, tr.drew⟩
  ·obtain rfl : j = x.fields.length := by omega
   have hf : x.fields = y.fields := by
    have h := HE.out
    rwa [List.take_length, HL.out, List.take_length] at h
   have k3' := (htr.cell (a := ⟨g, 3, none⟩) hb3.lt (by simp)).trans k3
   have m3' := (htr.cell (a := ⟨g2, 3, none⟩) hb2.lt (by simp)).trans m3
   have k4' := (htr.cell (a := ⟨g, 4, none⟩) hb3.lt (by simp)).trans k4
   have m4' := (htr.cell (a := ⟨g2, 4, none⟩) hb2.lt (by simp)).trans m4
   have hsz := htr.size
   have te := rtexts_any As Bs _ _ sc tc x.syms y.syms B wr rfl rfl (r3.turn0 tr hB) (q3.turn0 tr hB) (Nat.le_trans hB tr.size) ls
   have te2 := fun {w3 : World} (h : Turn wr w3 none) => rints_any Ai Bi _ _ ic jc x.items y.items B w3 rfl rfl ((r4.turn0 tr hB).turn0 h (Nat.le_trans hB tr.size)) ((q4.turn0 tr hB).turn0 h (Nat.le_trans hB tr.size)) (Nat.le_trans (Nat.le_trans hB tr.size) h.size) li
   have k4n := fun {w3 : World} (h : Turn wr w3 none) => (h.cell (a := ⟨g, 4, none⟩) (Nat.lt_of_lt_of_le hb3.lt hsz) (by simp)).trans k4'
   have m4n := fun {w3 : World} (h : Turn wr w3 none) => (h.cell (a := ⟨g2, 4, none⟩) (Nat.lt_of_lt_of_le hb2.lt hsz) (by simp)).trans m4'
   have HF := hid hf
   clear k0 k1 k2 k3 k4 k5 m0 m1 m2 m3 m4 m5 e0 e1 e1b e2 e3 hf k4' m4'
   by_cases hs : x.syms = y.syms
   ·have es : (x.syms == y.syms) = true := by simpa using hs
    have H := hid (show decide (x = y) = (x.items == y.items) by
     rw [Bool.eq_iff_iff, decide_eq_true_iff, beq_iff_eq, HN.out]
     exact ⟨fun h => h.2.2, fun h => ⟨HF.out, hs, h⟩⟩)
    rw [es] at te
    clear hs es
    go_wp2_with (first
     | (go_at_call 86; refine te.mono ?_; rintro e w3 ⟨rfl, ht3⟩; have k4' := k4n ht3; have m4' := m4n ht3)
     | (go_at_call 87; refine (te2 ht3).mono ?_; rintro e w4 ⟨rfl, ht4⟩))
    go_ret
    exact ⟨by rw [H.out]; rfl, (tr.trans ht3).trans ht4⟩
   ·have es : (x.syms == y.syms) = false := by simpa using hs
    have H := hid (show decide (x = y) = false by
     rw [decide_eq_false_iff_not, HN.out]
     rintro ⟨_, h, _⟩
     exact hs h)
    rw [es] at te
    clear hs es
    go_wp2_with (go_at_call 86; refine te.mono ?_; rintro e w3 ⟨rfl, ht3⟩)
    go_ret
    exact ⟨by rw [H.out]; rfl, tr.trans ht3⟩
open Go.RowKit
theorem keepc {w w' : World} {a : Addr} {v : Value} (h : Turn w w' none) (c : w.cell? a = some v) : w'.cell? a = some v := (h.cell (World.block_lt_of_cell? w _ c) (by simp)).trans c
theorem Sc.cells {w : World} {B n j : Nat} {A : Option Addr} {gs : List Gn} {x : Gn} (h : Sc w B A n gs) (hx : gs[j]? = some x) : ∃ b off As sc Ai ic Af fc, A = some ⟨b, off, none⟩ ∧
  NdV w B (.agg #[.int .i64 x.k, .string (txt x.name), .int .i64 x.size, .slice As x.syms.length sc, .slice Ai x.items.length ic, .slice Af x.fields.length fc]) x ∧
  w.cell? ⟨b, off + j * 6, none⟩ = some (.int .i64 x.k) ∧ w.cell? ⟨b, off + j * 6 + 1, none⟩ = some (.string (txt x.name)) ∧ w.cell? ⟨b, off + j * 6 + 2, none⟩ = some (.int .i64 x.size) ∧
  w.cell? ⟨b, off + j * 6 + 3, none⟩ = some (.slice As x.syms.length sc) ∧ w.cell? ⟨b, off + j * 6 + 4, none⟩ = some (.slice Ai x.items.length ic) ∧ w.cell? ⟨b, off + j * 6 + 5, none⟩ = some (.slice Af x.fields.length fc) := by
 obtain ⟨h1, vs, h2, h3⟩ := h
 have hi : j < gs.length := (List.getElem?_eq_some_iff.1 hx).1
 obtain ⟨b, off, rfl, _, e3⟩ := h2.head (by omega)
 have hn := h3 j x hx
 obtain ⟨v3, e3', A3, c3, rfl, r3, _⟩ := hn.syms
 obtain ⟨v4, e4, A4, c4, rfl, r4, _⟩ := hn.items
 obtain ⟨v5, e5, A5, c5, rfl, r5, _⟩ := hn.fields
 refine ⟨b, off, A3, c3, A4, c4, A5, c5, rfl, ⟨A3, c3, A4, c4, A5, c5, rfl, r3, r4, r5⟩, e3 _ _ hn.k, ?_, ?_, ?_, ?_, ?_⟩
 ·rw [Nat.add_assoc]; exact e3 _ _ hn.name
 ·rw [Nat.add_assoc]; exact e3 _ _ hn.size
 ·rw [Nat.add_assoc]; exact e3 _ _ e3'
 ·rw [Nat.add_assoc]; exact e3 _ _ e4
 ·rw [Nat.add_assoc]; exact e3 _ _ e5
theorem rsame_any {A B : Option Addr} {n m c d : Nat} {l k : List Gn} {D : Nat} {w : World} (ha : Sc w D A n l) (hb : Sc w D B m k) (hD : D ≤ w.heap.size) (hn : n ≤ 1000000) (hs : ∀ x ∈ l, x.syms.length ≤ 1000000 ∧ x.items.length ≤ 1000000 ∧ x.fields.length ≤ 1000000) :
  Calls Tryz.prog 25 #[.agg #[.slice A n c], .agg #[.slice B m d]] w fun e w' => e = .returned (.bool (l == k)) ∧ Turn w w' none := by
 have hl := ha.1
 have hk := hb.1
 by_cases hnm : n = m
 ·subst hnm
  have hnn : ((n : Int) != (n : Int)) = false := by simp
  have hlk : l.length = k.length := by omega
  have HA := hid hl
  have HB := hid hk
  clear hl hk
  go_enter Tryz.func25, Tryz.ntmps25
  go_upto_region 1 with (first
   | (have q9 := hg; refine wp_bx rfl 24 _ rfl rfl ?_; intro g2 w2 hg2 hb2 ht2)
   | (refine wp_bx rfl 24 _ rfl rfl ?_; intro g w1 hg hb1 ht1))
  have hb3 := hb1.turn0 ht2
  have tt := ht1.trans ht2
  have k0 : w2.cell? ⟨g, 0, none⟩ = some (.slice A n c) := hb3.ats (xs := [_]) rfl
  have m0 : w2.cell? ⟨g2, 0, none⟩ = some (.slice B n d) := hb2.ats (xs := [_]) rfl
  go_wp2_with fail
  go_loopw [5] (fun i wr => ∃ j : Nat, j ≤ n ∧ i = .int .i64 (j : Int) ∧ Hid (l.take j = k.take j) ∧ Turn w2 wr none) (fun i _ => (n - intOf i).toNat)
  case atStart => exact ⟨0, by omega, rfl, hid rfl, Turn.refl w2 none⟩
  case round =>
   obtain ⟨j, hj, rfl, HE, htr⟩ := hrel
   have hwr : wrap64 ((j : Int) + 1) = (j : Int) + 1 := by unfold wrap64; omega
   have k0' := keepc htr k0
   have m0' := keepc htr m0
   have tr := tt.trans htr
   by_cases hjn : j < n
   ·have hjl : j < l.length := by rw [HA.out]; exact hjn
    have hjk : j < k.length := by rw [HB.out]; exact hjn
    obtain ⟨x, hx⟩ : ∃ x, l[j]? = some x := ⟨l[j], List.getElem?_eq_getElem hjl⟩
    obtain ⟨y, hy⟩ : ∃ y, k[j]? = some y := ⟨k[j], List.getElem?_eq_getElem hjk⟩
    obtain ⟨b1, o1, As, sc, Ai, ic, Af, fc, rfl, v1, a0, a1, a2, a3, a4, a5⟩ := (ha.turn0 tr hD).cells hx
    obtain ⟨b2, o2, Bs, tc, Bi, jc, Bf, gc, rfl, v2, d0, d1, d2, d3, d4, d5⟩ := (hb.turn0 tr hD).cells hy
    obtain ⟨l1, l2, l3⟩ := hs x (List.mem_of_getElem? hx)
    have hDr : D ≤ wr.heap.size := Nat.le_trans hD tr.size
    have nd := rnode_any (v1.turn0 (Turn.refl wr none).drew hDr) (v2.turn0 (Turn.refl wr none).drew hDr) hDr l1 l2 l3
    have HX := hid hx
    have HY := hid hy
    clear hx hy v1 v2 hjl hjk k0 m0
    by_cases hxy : x = y
    ·rw [decide_eq_true hxy] at nd
     have HXY := hid hxy
     clear hxy
     go_wp2_with (fail)
     refine wp_region_noPanic ?_
     refine wp_region_held_drew (S := (fun W => W.cell? ⟨g, 0, none⟩ = some (.slice (some ⟨b1, o1, none⟩) n c) ∧ W.cell? ⟨g2, 0, none⟩ = some (.slice (some ⟨b2, o2, none⟩) n d) ∧ W.cell? ⟨b1, o1 + j * 6, none⟩ = some (.int .i64 x.k) ∧ W.cell? ⟨b1, o1 + j * 6 + 1, none⟩ = some (.string (txt x.name)) ∧ W.cell? ⟨b1, o1 + j * 6 + 2, none⟩ = some (.int .i64 x.size) ∧ W.cell? ⟨b1, o1 + j * 6 + 3, none⟩ = some (.slice As x.syms.length sc) ∧ W.cell? ⟨b1, o1 + j * 6 + 4, none⟩ = some (.slice Ai x.items.length ic) ∧ W.cell? ⟨b1, o1 + j * 6 + 5, none⟩ = some (.slice Af x.fields.length fc) ∧ W.cell? ⟨b2, o2 + j * 6, none⟩ = some (.int .i64 y.k) ∧ W.cell? ⟨b2, o2 + j * 6 + 1, none⟩ = some (.string (txt y.name)) ∧ W.cell? ⟨b2, o2 + j * 6 + 2, none⟩ = some (.int .i64 y.size) ∧ W.cell? ⟨b2, o2 + j * 6 + 3, none⟩ = some (.slice Bs y.syms.length tc) ∧ W.cell? ⟨b2, o2 + j * 6 + 4, none⟩ = some (.slice Bi y.items.length jc) ∧ W.cell? ⟨b2, o2 + j * 6 + 5, none⟩ = some (.slice Bf y.fields.length gc))) (by kernel_rfl) (⟨k0', m0', a0, a1, a2, a3, a4, a5, d0, d1, d2, d3, d4, d5⟩) (fun hHeld => ?_)
     (first | refine tkN 0 (by assumption) ?_ | (refine tkY 0 ?_ ?_ (by assumption) ?_; rotate_left 1; · (intro w hSw; (try dsimp only at hSw); go_simp; (try with_reducible rfl)))); (try simp only [Act.put, zA, zB, zC, zD, zE, zF])
     (first | refine tkN 1 (by assumption) ?_ | (refine tkY 1 ?_ ?_ (by assumption) ?_; rotate_left 1; · (intro w hSw; (try dsimp only at hSw); go_simp; (try with_reducible rfl)))); (try simp only [Act.put, zA, zB, zC, zD, zE, zF])
     (first | refine tkN 2 (by assumption) ?_ | (refine tkY 2 ?_ ?_ (by assumption) ?_; rotate_left 1; · (intro w hSw; (try dsimp only at hSw); go_simp; (try with_reducible rfl)))); (try simp only [Act.put, zA, zB, zC, zD, zE, zF])
     (first | refine tkN 3 (by assumption) ?_ | (refine tkY 3 ?_ ?_ (by assumption) ?_; rotate_left 1; · (intro w hSw; (try dsimp only at hSw); go_simp; (try with_reducible rfl)))); (try simp only [Act.put, zA, zB, zC, zD, zE, zF])
     (first | refine tkN 4 (by assumption) ?_ | (refine tkY 4 ?_ ?_ (by assumption) ?_; rotate_left 1; · (intro w hSw; (try dsimp only at hSw); go_simp; (try with_reducible rfl)))); (try simp only [Act.put, zA, zB, zC, zD, zE, zF])
     (first | refine tkN 5 (by assumption) ?_ | (refine tkY 5 ?_ ?_ (by assumption) ?_; rotate_left 1; · (intro w hSw; (try dsimp only at hSw); go_simp; (try with_reducible rfl)))); (try simp only [Act.put, zA, zB, zC, zD, zE, zF])
     (first | refine tkN 6 (by assumption) ?_ | (refine tkY 6 ?_ ?_ (by assumption) ?_; rotate_left 1; · (intro w hSw; (try dsimp only at hSw); go_simp; (try with_reducible rfl)))); (try simp only [Act.put, zA, zB, zC, zD, zE, zF])
     (first | refine tkN 7 (by assumption) ?_ | (refine tkY 7 ?_ ?_ (by assumption) ?_; rotate_left 1; · (intro w hSw; (try dsimp only at hSw); go_simp; (try with_reducible rfl)))); (try simp only [Act.put, zA, zB, zC, zD, zE, zF])
     (first | refine tkN 8 (by assumption) ?_ | (refine tkY 8 ?_ ?_ (by assumption) ?_; rotate_left 1; · (intro w hSw; (try dsimp only at hSw); go_simp; (try with_reducible rfl)))); (try simp only [Act.put, zA, zB, zC, zD, zE, zF])
     (first | refine tkN 9 (by assumption) ?_ | (refine tkY 9 ?_ ?_ (by assumption) ?_; rotate_left 1; · (intro w hSw; (try dsimp only at hSw); go_simp; (try with_reducible rfl)))); (try simp only [Act.put, zA, zB, zC, zD, zE, zF])
     refine wpAnyH_ready (rs := [10]) (by kernel_rfl) (by simp) ?_; refine AllReadyH.cons rfl (fun K hK => ?_) AllReadyH.nil
     go_simp
     go_at_call 52
     refine nd.mono ?_
     rintro e w6 ⟨rfl, ht6⟩
     go_simp
     refine hK.out _ _ ⟨keepc ht6 k0', keepc ht6 m0', keepc ht6 a0, keepc ht6 a1, keepc ht6 a2, keepc ht6 a3, keepc ht6 a4, keepc ht6 a5, keepc ht6 d0, keepc ht6 d1, keepc ht6 d2, keepc ht6 d3, keepc ht6 d4, keepc ht6 d5⟩ (fun hHeld => ?_); clear hK K; (try simp only [Act.put, zA, zB, zC, zD, zE, zF])
     (first | refine tkN 11 (by assumption) ?_ | (refine tkY 11 ?_ ?_ (by assumption) ?_; rotate_left 1; · (intro w hSw; (try dsimp only at hSw); go_simp; (try with_reducible rfl)))); (try simp only [Act.put, zA, zB, zC, zD, zE, zF])
     refine wpAnyH_done (by kernel_rfl) ?_ _
     refine NoPanic.normal ?_
     clear hHeld
     go_wp2
     refine ⟨⟨j + 1, by omega, by go_num, hid (take_next1 HX.out (by rw [HXY.out]; exact HY.out) HE.out), htr.drew.trans ht6⟩, by simp [intOf]; omega⟩
    ·rw [decide_eq_false hxy] at nd
     have H := hid (beq_diff HX.out HY.out hxy)
     clear hxy
     go_wp2_with (fail)
     refine wp_region_noPanic ?_
     refine wp_region_held_drew (S := (fun W => W.cell? ⟨g, 0, none⟩ = some (.slice (some ⟨b1, o1, none⟩) n c) ∧ W.cell? ⟨g2, 0, none⟩ = some (.slice (some ⟨b2, o2, none⟩) n d) ∧ W.cell? ⟨b1, o1 + j * 6, none⟩ = some (.int .i64 x.k) ∧ W.cell? ⟨b1, o1 + j * 6 + 1, none⟩ = some (.string (txt x.name)) ∧ W.cell? ⟨b1, o1 + j * 6 + 2, none⟩ = some (.int .i64 x.size) ∧ W.cell? ⟨b1, o1 + j * 6 + 3, none⟩ = some (.slice As x.syms.length sc) ∧ W.cell? ⟨b1, o1 + j * 6 + 4, none⟩ = some (.slice Ai x.items.length ic) ∧ W.cell? ⟨b1, o1 + j * 6 + 5, none⟩ = some (.slice Af x.fields.length fc) ∧ W.cell? ⟨b2, o2 + j * 6, none⟩ = some (.int .i64 y.k) ∧ W.cell? ⟨b2, o2 + j * 6 + 1, none⟩ = some (.string (txt y.name)) ∧ W.cell? ⟨b2, o2 + j * 6 + 2, none⟩ = some (.int .i64 y.size) ∧ W.cell? ⟨b2, o2 + j * 6 + 3, none⟩ = some (.slice Bs y.syms.length tc) ∧ W.cell? ⟨b2, o2 + j * 6 + 4, none⟩ = some (.slice Bi y.items.length jc) ∧ W.cell? ⟨b2, o2 + j * 6 + 5, none⟩ = some (.slice Bf y.fields.length gc))) (by kernel_rfl) (⟨k0', m0', a0, a1, a2, a3, a4, a5, d0, d1, d2, d3, d4, d5⟩) (fun hHeld => ?_)
     (first | refine tkN 0 (by assumption) ?_ | (refine tkY 0 ?_ ?_ (by assumption) ?_; rotate_left 1; · (intro w hSw; (try dsimp only at hSw); go_simp; (try with_reducible rfl)))); (try simp only [Act.put, zA, zB, zC, zD, zE, zF])
     (first | refine tkN 1 (by assumption) ?_ | (refine tkY 1 ?_ ?_ (by assumption) ?_; rotate_left 1; · (intro w hSw; (try dsimp only at hSw); go_simp; (try with_reducible rfl)))); (try simp only [Act.put, zA, zB, zC, zD, zE, zF])
     (first | refine tkN 2 (by assumption) ?_ | (refine tkY 2 ?_ ?_ (by assumption) ?_; rotate_left 1; · (intro w hSw; (try dsimp only at hSw); go_simp; (try with_reducible rfl)))); (try simp only [Act.put, zA, zB, zC, zD, zE, zF])
     (first | refine tkN 3 (by assumption) ?_ | (refine tkY 3 ?_ ?_ (by assumption) ?_; rotate_left 1; · (intro w hSw; (try dsimp only at hSw); go_simp; (try with_reducible rfl)))); (try simp only [Act.put, zA, zB, zC, zD, zE, zF])
     (first | refine tkN 4 (by assumption) ?_ | (refine tkY 4 ?_ ?_ (by assumption) ?_; rotate_left 1; · (intro w hSw; (try dsimp only at hSw); go_simp; (try with_reducible rfl)))); (try simp only [Act.put, zA, zB, zC, zD, zE, zF])
     (first | refine tkN 5 (by assumption) ?_ | (refine tkY 5 ?_ ?_ (by assumption) ?_; rotate_left 1; · (intro w hSw; (try dsimp only at hSw); go_simp; (try with_reducible rfl)))); (try simp only [Act.put, zA, zB, zC, zD, zE, zF])
     (first | refine tkN 6 (by assumption) ?_ | (refine tkY 6 ?_ ?_ (by assumption) ?_; rotate_left 1; · (intro w hSw; (try dsimp only at hSw); go_simp; (try with_reducible rfl)))); (try simp only [Act.put, zA, zB, zC, zD, zE, zF])
     (first | refine tkN 7 (by assumption) ?_ | (refine tkY 7 ?_ ?_ (by assumption) ?_; rotate_left 1; · (intro w hSw; (try dsimp only at hSw); go_simp; (try with_reducible rfl)))); (try simp only [Act.put, zA, zB, zC, zD, zE, zF])
     (first | refine tkN 8 (by assumption) ?_ | (refine tkY 8 ?_ ?_ (by assumption) ?_; rotate_left 1; · (intro w hSw; (try dsimp only at hSw); go_simp; (try with_reducible rfl)))); (try simp only [Act.put, zA, zB, zC, zD, zE, zF])
     (first | refine tkN 9 (by assumption) ?_ | (refine tkY 9 ?_ ?_ (by assumption) ?_; rotate_left 1; · (intro w hSw; (try dsimp only at hSw); go_simp; (try with_reducible rfl)))); (try simp only [Act.put, zA, zB, zC, zD, zE, zF])
     refine wpAnyH_ready (rs := [10]) (by kernel_rfl) (by simp) ?_; refine AllReadyH.cons rfl (fun K hK => ?_) AllReadyH.nil
     go_simp
     go_at_call 52
     refine nd.mono ?_
     rintro e w6 ⟨rfl, ht6⟩
     go_simp
     refine hK.out _ _ ⟨keepc ht6 k0', keepc ht6 m0', keepc ht6 a0, keepc ht6 a1, keepc ht6 a2, keepc ht6 a3, keepc ht6 a4, keepc ht6 a5, keepc ht6 d0, keepc ht6 d1, keepc ht6 d2, keepc ht6 d3, keepc ht6 d4, keepc ht6 d5⟩ (fun hHeld => ?_); clear hK K; (try simp only [Act.put, zA, zB, zC, zD, zE, zF])
     (first | refine tkN 11 (by assumption) ?_ | (refine tkY 11 ?_ ?_ (by assumption) ?_; rotate_left 1; · (intro w hSw; (try dsimp only at hSw); go_simp; (try with_reducible rfl)))); (try simp only [Act.put, zA, zB, zC, zD, zE, zF])
     refine wpAnyH_done (by kernel_rfl) ?_ _
     refine NoPanic.normal ?_
     clear hHeld
     go_wp2
     go_ret
     exact ⟨by rw [H.out]; rfl, tr.drew.trans ht6⟩
   ·obtain rfl : j = n := by omega
    have H := hid (beq_all hlk (by rw [HA.out]; exact HE.out))
    go_wp2
    go_ret
    exact ⟨by rw [H.out]; rfl, tr⟩
 ·have hne : ((n : Int) != (m : Int)) = true := by rw [bne_iff_ne]; omega
  have H := hid (beq_len (l := l) (m := k) (by omega))
  clear hl hk
  go_enter Tryz.func25, Tryz.ntmps25
  go_upto_region 1 with (first
   | (have q9 := hg; refine wp_bx rfl 24 _ rfl rfl ?_; intro g2 w2 hg2 hb2 ht2)
   | (refine wp_bx rfl 24 _ rfl rfl ?_; intro g w1 hg hb1 ht1))
  have hb3 := hb1.turn0 ht2
  have tt := ht1.trans ht2
  have k0 : w2.cell? ⟨g, 0, none⟩ = some (.slice A n c) := hb3.ats (xs := [_]) rfl
  have m0 : w2.cell? ⟨g2, 0, none⟩ = some (.slice B m d) := hb2.ats (xs := [_]) rfl
  go_wp2_with fail
  go_ret
  exact ⟨by rw [H.out]; rfl, tt⟩
open Go.RowKit
section
variable {P : Program} {ops : Array Oper} {Q : Exit → Act → World → Prop} {md : Region.Mode} {S : World → Prop} {k : Nat}
def wpTwo (P : Program) (md : Region.Mode) (ops : Array Oper) (Q : Exit → Act → World → Prop) (S : World → Prop) (k : Nat) : Nat → Array Bool → Act → World → Prop
 | 0, listed, a, w => Region.ready md ops listed = [] ∧ Q .normal a w
 | fuel + 1, listed, a, w =>
  (Region.ready md ops listed = [] → Q .normal a w) ∧
  ∀ i ∈ Region.ready md ops listed, wpOp P ops Q i (fun a' w' => ((listed.setIfInBounds i true).getD k true = true ∨ S w') ∧ wpTwo P md ops Q S k fuel (listed.setIfInBounds i true) a' w') a w
def AllTwo (P : Program) (md : Region.Mode) (ops : Array Oper) (Q : Exit → Act → World → Prop) (S : World → Prop) (k fuel : Nat) (listed : Array Bool) (a : Act) (w : World) (rs : List Nat) : Prop :=
 ∀ i ∈ rs, wpOp P ops Q i (fun a' w' => ((listed.setIfInBounds i true).getD k true = true ∨ S w') ∧ wpTwo P md ops Q S k fuel (listed.setIfInBounds i true) a' w') a w
theorem AllTwo.nil {fuel : Nat} {listed : Array Bool} {a : Act} {w : World} : AllTwo P md ops Q S k fuel listed a w [] := fun _ h => by cases h
theorem AllTwo.cons {fuel : Nat} {listed : Array Bool} {a : Act} {w : World} {i : Nat} {o : Oper} {rs : List Nat} (ho : ops[i]? = some o)
  (h : ∀ K' : Act → World → Prop, Shut (∀ a w, ((listed.setIfInBounds i true).getD k true = true ∨ S w) → wpTwo P md ops Q S k fuel (listed.setIfInBounds i true) a w → K' a w) → if Region.wanted o (yielded ops a.tmps) = true then Oper.wp P o a w K' Q else K' (a.put o.dst undef) w)
  (hs : AllTwo P md ops Q S k fuel listed a w rs) : AllTwo P md ops Q S k fuel listed a w (i :: rs) := fun j hj => by
 rcases List.mem_cons.1 hj with rfl | hj
 ·exact wpOp_step ho (fun K' hK => h K' (fun a w hS hW => hK a w ⟨hS, hW⟩))
 ·exact hs j hj
end
open Go.RowKit
structure OwN (w : World) (base : Nat) (vs : List Value) (i : Nat) (x : Gn) : Prop where
 k : vs[i * 6]? = some (.int .i64 x.k)
 name : vs[i * 6 + 1]? = some (.string (txt x.name))
 size : vs[i * 6 + 2]? = some (.int .i64 x.size)
 syms : ∃ A c, vs[i * 6 + 3]? = some (.slice A x.syms.length c) ∧ Own w base 9 1 A x.syms.length c (vss x.syms)
 items : ∃ A c, vs[i * 6 + 4]? = some (.slice A x.items.length c) ∧ Own w base 3 1 A x.items.length c (vis x.items)
 fields : ∃ A c, vs[i * 6 + 5]? = some (.slice A x.fields.length c) ∧ Own w base 119 3 A x.fields.length c (vfs x.fields)
section
variable {w w' : World} {base i : Nat} {vs vs' : List Value} {x : Gn}
theorem OwN.turn0 (h : OwN w base vs i x) (ht : Turn w w' none) : OwN w' base vs i x :=
 ⟨h.k, h.name, h.size, h.syms.imp fun _ q => q.imp fun _ q => ⟨q.1, q.2.turn0 ht⟩, h.items.imp fun _ q => q.imp fun _ q => ⟨q.1, q.2.turn0 ht⟩, h.fields.imp fun _ q => q.imp fun _ q => ⟨q.1, q.2.turn0 ht⟩⟩
theorem OwN.turnB (h : OwN w base vs i x) {g : Nat} {t : TypeId} {cs : Array Value} (k : Blk w g t cs) (h1 : t ≠ 9) (h2 : t ≠ 3) (h3 : t ≠ 119) (ht : Turn w w' (some g)) : OwN w' base vs i x :=
 ⟨h.k, h.name, h.size, h.syms.imp fun _ q => q.imp fun _ q => ⟨q.1, q.2.turn ht (.inr (q.2.not_blk k h1))⟩, h.items.imp fun _ q => q.imp fun _ q => ⟨q.1, q.2.turn ht (.inr (q.2.not_blk k h2))⟩, h.fields.imp fun _ q => q.imp fun _ q => ⟨q.1, q.2.turn ht (.inr (q.2.not_blk k h3))⟩⟩
theorem OwN.more (h : OwN w base vs i x) (hi : i * 6 + 6 ≤ vs.length) : OwN w base (vs ++ vs') i x := by
 have e : ∀ j v, vs[i * 6 + j]? = some v → (vs ++ vs')[i * 6 + j]? = some v := fun j v hv => by
  rw [List.getElem?_append_left (List.getElem?_eq_some_iff.1 hv).1]; exact hv
 exact ⟨e 0 _ h.k, e 1 _ h.name, e 2 _ h.size, h.syms.imp fun _ q => q.imp fun _ q => ⟨e 3 _ q.1, q.2⟩, h.items.imp fun _ q => q.imp fun _ q => ⟨e 4 _ q.1, q.2⟩, h.fields.imp fun _ q => q.imp fun _ q => ⟨e 5 _ q.1, q.2⟩⟩
theorem OwN.nd (h : OwN w base vs i x) : NdIn w w.heap.size vs i x :=
 ⟨h.k, h.name, h.size, h.syms.elim fun A q => q.elim fun c q => ⟨_, q.1, A, c, rfl, q.2.rd, q.2.cap⟩, h.items.elim fun A q => q.elim fun c q => ⟨_, q.1, A, c, rfl, q.2.rd, q.2.cap⟩, h.fields.elim fun A q => q.elim fun c q => ⟨_, q.1, A, c, rfl, q.2.rd, q.2.cap⟩⟩
end
open Go.RowKit
section
variable {w w' : World} {b : DB} {st : DW}
theorem dtyp_back (h : Dv w b st) {n : Int} {d : Nat} (hd : d ≤ 20) (hoff : dOff b.gs d n st = false) {x : Gn} (hx : b.gs[n.toNat]? = some x) (hn : n < (st.nx : Int)) :
  Calls Tryz.prog 46 #[.pointer (some ⟨b.pW, 0, none⟩), .int .i64 n, .int .i64 (d : Int)] w (Ud b w { st with S := st.S ++ x.name, bad := decide (x.k < 9) }) := by
 have hlen := h.len
 have hfew := h.few
 have c0 := h.w0
 have c1 := h.w1
 have c2 := h.w2
 have c3 := h.w3
 have zf := h.blk.frozen 3
 unfold dOff at hoff
 simp only [Bool.or_eq_false_iff, decide_eq_false_iff_not] at hoff
 rw [← hlen] at hoff
 clear hlen
 obtain ⟨⟨⟨⟨⟨hb, i0⟩, i1⟩, i2⟩, i3⟩, i4⟩ := hoff
 rw [hb] at c3
 obtain ⟨m, rfl⟩ : ∃ m : Nat, n = (m : Int) := ⟨n.toNat, by omega⟩
 rw [Int.toNat_natCast] at hx
 have i3 : ¬(20 : Int) ≤ (d : Int) := by omega
 have i4 : ¬(4096 : Int) < (st.S.length : Int) := by omega
 have HG := h.ok x (List.mem_of_getElem? hx)
 have hsz : (txt st.S).size = st.S.length := txt_size _
 obtain ⟨X, hX⟩ : ∃ X, X = txt st.S := ⟨_, rfl⟩
 rw [← hX] at c1 hsz
 clear hX
 obtain ⟨hv1, t1⟩ := h.setB false
 have hv1 : Dv (w.setCell ⟨b.pW, 3, none⟩ (.bool false)) b st := by
  have : ({ st with bad := false } : DW) = st := by rw [← hb]
  rwa [this] at hv1
 go_enter Tryz.func46, Tryz.ntmps46
 go_upto_region 2 with (fail)
 clear c0 c1 c2 c3 zf hsz
 obtain ⟨w1, hw1⟩ : ∃ w1, w1 = w.setCell ⟨b.pW, 3, none⟩ (.bool false) := ⟨_, rfl⟩
 rw [← hw1] at hv1 t1
 rw [← hw1]
 clear hw1
 have c0 := hv1.w0
 obtain ⟨b1, o1, As, sc, Ai, ic, Af, fc, hA, nv, a0, a1, a2, a3, a4, a5⟩ := hv1.sc.cells hx
 rw [hA] at c0
 go_upto_region 3 with (first
  | (refine wp_al rfl 64 rfl _ zNdv ?_; intro p w4 hp hb4 ht4)
  | (refine wp_st rfl 64 _ _ rfl rfl rfl hb4 rfl (xs := [.int .i64 x.k, .string (txt x.name), .int .i64 x.size, .slice As x.syms.length sc, .slice Ai x.items.length ic, .slice Af x.fields.length fc]) szNd (ones_cons rfl (ones_cons rfl (ones_cons rfl (ones_cons rfl (ones_cons rfl (ones_cons rfl ones_nil)))))) ?_; intro w5 hb5 ht5))
 have t05 : Turn w1 w5 none := ht4.new ht5 (fun g' e => by injection e with e; omega)
 have hv5 := hv1.turn0 t05
 have b2 := hv5.w2
 have k0 : w5.cell? ⟨p, 0, none⟩ = some (.int .i64 x.k) := hb5.ats rfl
 have k1 : w5.cell? ⟨p, 1, none⟩ = some (.string (txt x.name)) := hb5.ats rfl
 have lp := hb5.lt
 have npW : p ≠ b.pW := by have := hv1.blk.lt; omega
 have zf := hv5.blk.frozen 3
 have b3 := hv5.w3
 rw [hb] at b3
 obtain ⟨kb, hkb⟩ : ∃ kb, decide (x.k < 9) = kb := ⟨_, rfl⟩
 clear c0 a0 a1 a2 a3 a4 a5
 go_upto_region 5 with (fail)
 obtain ⟨hv6, t6⟩ := hv5.setB kb
 obtain ⟨w6, hw6⟩ : ∃ w6, w6 = w5.setCell ⟨b.pW, 3, none⟩ (.bool kb) := ⟨_, rfl⟩
 rw [← hw6] at hv6 t6
 rw [← hw6]
 clear hw6 k0 b2 b3 zf
 have k1 : w6.cell? ⟨p, 1, none⟩ = some (.string (txt x.name)) := (t6.cell (a := ⟨p, 1, none⟩) lp (fun e => npW (by injection e))).trans k1
 obtain ⟨Y, hY⟩ : ∃ Y, Y = txt x.name := ⟨_, rfl⟩
 obtain ⟨Z, hZ⟩ : ∃ Z, Z = txt st.S := ⟨_, rfl⟩
 have hZY := hid (show Z ++ Y = txt (st.S ++ x.name) by rw [hZ, hY, txt_app2])
 have c1 : w6.cell? ⟨b.pW, 1, none⟩ = some (.string (txt st.S)) := hv6.w1
 rw [← hZ] at c1
 rw [← hY] at k1
 have q1 : ¬ 9223372036854775807 < Z.size + Y.size := by rw [hZ, hY, txt_size, txt_size]; have := HG.nm; omega
 have zf := hv6.blk.frozen 1
 have lw := hv6.blk.lt
 clear hZ hY
 refine wp_region_noPanic ?_
 refine wp_region_held_drew (S := (fun W => W.cell? ⟨p, 1, none⟩ = some (.string Y))) (by kernel_rfl) (k1) (fun hHeld => ?_)
 (first | refine tkN 0 (by assumption) ?_ | (refine tkY 0 ?_ ?_ (by assumption) ?_; rotate_left 1; · (intro w hSw; (try dsimp only at hSw); go_simp; (try with_reducible rfl)))); (try simp only [Act.put, zA, zB, zC, zD, zE, zF])
 (first | refine tkN 1 (by assumption) ?_ | (refine tkY 1 ?_ ?_ (by assumption) ?_; rotate_left 1; · (intro w hSw; (try dsimp only at hSw); go_simp; (try with_reducible rfl)))); (try simp only [Act.put, zA, zB, zC, zD, zE, zF])
 (first | refine tkN 2 (by assumption) ?_ | (refine tkY 2 ?_ ?_ (by assumption) ?_; rotate_left 1; · (intro w hSw; (try dsimp only at hSw); go_simp; (try with_reducible rfl)))); (try simp only [Act.put, zA, zB, zC, zD, zE, zF])
 (first | refine tkN 3 (by assumption) ?_ | (refine tkY 3 ?_ ?_ (by assumption) ?_; rotate_left 1; · (intro w hSw; (try dsimp only at hSw); go_simp; (try with_reducible rfl)))); (try simp only [Act.put, zA, zB, zC, zD, zE, zF])
 (first | refine tkN 5 (by assumption) ?_ | (refine tkY 5 ?_ ?_ (by assumption) ?_; rotate_left 1; · (intro w hSw; (try dsimp only at hSw); go_simp; (try with_reducible rfl)))); (try simp only [Act.put, zA, zB, zC, zD, zE, zF])
 (first | refine tkN 6 (by assumption) ?_ | (refine tkY 6 ?_ ?_ (by assumption) ?_; rotate_left 1; · (intro w hSw; (try dsimp only at hSw); go_simp; (try with_reducible rfl)))); (try simp only [Act.put, zA, zB, zC, zD, zE, zF])
 refine wpAnyH_ready (rs := [4]) (by kernel_rfl) (by simp) ?_; refine AllReadyH.cons rfl (fun K hK => ?_) AllReadyH.nil
 go_simp
 refine hK.out _ _ k1 (fun hHeld => ?_); clear hK K; (try simp only [Act.put, zA, zB, zC, zD, zE, zF])
 (first | refine tkN 7 (by assumption) ?_ | (refine tkY 7 ?_ ?_ (by assumption) ?_; rotate_left 1; · (intro w hSw; (try dsimp only at hSw); go_simp; (try with_reducible rfl)))); (try simp only [Act.put, zA, zB, zC, zD, zE, zF])
 (first | refine tkN 8 (by assumption) ?_ | (refine tkY 8 ?_ ?_ (by assumption) ?_; rotate_left 1; · (intro w hSw; (try dsimp only at hSw); go_simp; (try with_reducible rfl)))); (try simp only [Act.put, zA, zB, zC, zD, zE, zF])
 (first | refine tkN 9 (by assumption) ?_ | (refine tkY 9 ?_ ?_ (by assumption) ?_; rotate_left 1; · (intro w hSw; (try dsimp only at hSw); go_simp; (try with_reducible rfl)))); (try simp only [Act.put, zA, zB, zC, zD, zE, zF])
 refine wpAnyH_ready (rs := [10]) (by kernel_rfl) (by simp) ?_; refine AllReadyH.cons rfl (fun K hK => ?_) AllReadyH.nil
 go_simp
 refine hK.out _ _ ((World.cell?_setCell_far _ _ _ _ npW.symm).trans k1) (fun hHeld => ?_); clear hK K; (try simp only [Act.put, zA, zB, zC, zD, zE, zF])
 refine wpAnyH_done (by kernel_rfl) ?_ _
 refine NoPanic.normal ?_
 clear hHeld
 obtain ⟨hv7, t7⟩ := hv6.setS (st.S ++ x.name)
 rw [← hZY.out] at hv7 t7
 have hv8 := hv7.turn0 (Turn.refl _ none).drew
 have t8 := t7.drew
 rw [← hkb]
 go_wp2
 go_end0
 have e : ({ st with S := st.S ++ x.name, bad := decide (x.k < 9) } : DW) = { st with bad := kb, S := st.S ++ x.name } := by rw [hkb]
 exact ⟨rfl, by first | exact hv8 | (rw [hkb]; exact hv8), ((t1.trans (t05.any _)).trans t6).trans t8⟩
end
end Go.Proofs.YtgigiecdpjchkaaGreatDoor
