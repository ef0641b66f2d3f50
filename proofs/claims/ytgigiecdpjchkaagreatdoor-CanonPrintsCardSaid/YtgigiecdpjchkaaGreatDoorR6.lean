import Derived.Test.YtgigiecdpjchkaaGreatDoorR3
import Derived.Test.YtgigiecdpjchkaaGreatDoorR5
import Derived.Deep.RegionHeld3
import Derived.Test.YtgigiecdpjchkaaGreatDoorR1
import Derived.Deep.RegionLaw
set_option linter.unusedSimpArgs false
set_option linter.unusedVariables false
set_option linter.unusedSectionVars false
set_option maxRecDepth 100000
set_option maxHeartbeats 6400000
namespace Go.Proofs.YtgigiecdpjchkaaGreatDoor
open Go.RowKit
def rsCells (A0 : Option Addr) (c0 : Nat) (T : List Tok) (R : Ix → Rw) (a : Nat) : List Value := [.slice A0 T.length c0, .int .i64 (a : Int), (R none).v]
structure RB where
 base : Nat
 pB : Nat
 A0 : Option Addr
 c0 : Nat
 T : List Tok
structure NOk (S : List Nd) (a : Nat) : Prop where
 few : S.length ≤ 200
 names : ∀ x ∈ S, x.k < 9 → x.name = []
 small : ∀ x ∈ S, x.syms.length ≤ a ∧ x.items.length ≤ a ∧ x.fields.length ≤ a
 inn : ∀ x ∈ S, ∀ i ∈ x.items, i < S.length
structure RS (w : World) (b : RB) (a : Nat) (S : List Nd) : Prop where
 hb : b.base ≤ b.pB
 hw : b.base ≤ w.heap.size
 h0 : 1 < b.base
 laid : LF w
 toks : Rd w b.base 3 b.A0 b.T.length (tcs b.T)
 tok : TOk b.T
 few : b.T.length ≤ 1500
 brief : ∀ i, i < b.T.length → (tokAt b.T i).s.length ≤ 4096
 hc : b.T.length ≤ b.c0 ∧ b.c0 ≤ maxLen
 at_ : a ≤ b.T.length
 ok : NOk S a
 mem : ∃ R, NR w b.base R S ∧ Blk w b.pB 110 (rsCells b.A0 b.c0 b.T R a).toArray
section
variable {w w' : World} {b : RB} {a : Nat} {S : List Nd}
theorem ty_R : 110 ≠ 64 ∧ 110 ≠ 9 ∧ 110 ≠ 3 ∧ 110 ≠ 119 := by decide
theorem NOk.mono {a' : Nat} (h : NOk S a) (ha : a ≤ a') : NOk S a' := ⟨h.few, h.names, fun x hx => by have := h.small x hx; omega, h.inn⟩
theorem RS.turn0 (h : RS w b a S) (ht : Turn w w' none) : RS w' b a S := by
 obtain ⟨R, h1, h2⟩ := h.mem
 exact ⟨h.hb, Nat.le_trans h.hw ht.size, h.h0, h.laid.turn ht, h.toks.turn0 ht h.hw, h.tok, h.few, h.brief, h.hc, h.at_, h.ok, R, h1.turn0 ht, h2.turn0 ht⟩
theorem RS.opn (h : RS w b a S) : ∃ R, NR w b.base R S ∧ Blk w b.pB 110 (rsCells b.A0 b.c0 b.T R a).toArray ∧
  w.cell? ⟨b.pB, 0, none⟩ = some (.slice b.A0 b.T.length b.c0) ∧ w.cell? ⟨b.pB, 1, none⟩ = some (.int .i64 (a : Int)) ∧ w.cell? ⟨b.pB, 2, none⟩ = some (.slice (R none).A S.length (R none).c) ∧
  ∀ j, w.frozen? ⟨b.pB, j, none⟩ = false := by
 obtain ⟨R, h1, h2⟩ := h.mem
 refine ⟨R, h1, h2, h2.cell 0, h2.cell 1, (h2.cell 2).trans ?_, fun j => h2.frozen j⟩
 show some (Value.slice (R none).A (R none).n (R none).c) = _
 rw [h1.len]
theorem RS.tk (h : RS w b a S) {i : Nat} (hi : i < b.T.length) : ∃ bb off, b.A0 = some ⟨bb, off, none⟩ ∧ w.cell? ⟨bb, off + i * 3, none⟩ = some (.int .i64 ((tokAt b.T i).k : Int)) ∧
  w.cell? ⟨bb, off + i * 3 + 1, none⟩ = some (.string (txt (tokAt b.T i).s)) ∧ w.cell? ⟨bb, off + i * 3 + 2, none⟩ = some (.int .i64 ((tokAt b.T i).at_ : Int)) := by
 obtain ⟨bb, off, e, _, hc⟩ := h.toks.head (by omega)
 have ht : b.T[i]? = some (tokAt b.T i) := by
  unfold tokAt
  rw [List.getD_eq_getElem?_getD, List.getElem?_eq_getElem hi]
  rfl
 obtain ⟨h1, h2, h3⟩ := tcs_at ht
 refine ⟨bb, off, e, hc _ _ h1, ?_, ?_⟩
 ·rw [Nat.add_assoc]; exact hc _ _ h2
 ·rw [Nat.add_assoc]; exact hc _ _ h3
theorem RS.setAt (h : RS w b a S) {a' : Nat} (v : Int) (hv : v = (a' : Int)) (ha : a ≤ a') (hl : a' ≤ b.T.length) : RS (w.setCell ⟨b.pB, 1, none⟩ (.int .i64 v)) b a' S ∧ Fr b.base w (w.setCell ⟨b.pB, 1, none⟩ (.int .i64 v)) := by
 subst hv
 obtain ⟨R, h1, h2⟩ := h.mem
 have hT : Turn w (w.setCell ⟨b.pB, 1, none⟩ (.int .i64 (a' : Int))) (some b.pB) := Blk.setTurn w b.pB 1 _
 have hbl : Below b.base w (w.setCell ⟨b.pB, 1, none⟩ (.int .i64 (a' : Int))) := (Below.refl b.base w).setCell (p := ⟨b.pB, 1, none⟩) h.hb _
 refine ⟨⟨h.hb, Nat.le_trans h.hw hT.size, h.h0, h.laid.below hbl h.h0, h.toks.below hbl, h.tok, h.few, h.brief, h.hc, hl, h.ok.mono ha, R, h1.turn h2 ty_R hT, ?_⟩, hbl, ?_⟩
 ·have := h2.set_ 1 (.int .i64 (a' : Int))
  simpa [rsCells] using this
 ·intro g t cs hB _ _ _ _ a5
  refine hB.turn hT ?_
  intro e
  injection e with e
  subst e
  have e := (show w.heap[b.pB]? = _ from h2).symm.trans (show w.heap[b.pB]? = _ from hB)
  simp only [Option.some.injEq, Obj.cells.injEq] at e
  exact a5 e.2.1.symm
theorem RS.turnB (h : RS w b a S) {g : Nat} {t : TypeId} {cs : Array Value} (hB : Blk w g t cs) (ht : t ≠ 64 ∧ t ≠ 9 ∧ t ≠ 3 ∧ t ≠ 119 ∧ t ≠ 110) (hg : b.base ≤ g) (hT : Turn w w' (some g)) : RS w' b a S := by
 obtain ⟨R, h1, h2⟩ := h.mem
 have hbl : Below b.base w w' := below_turn hT h.hw hg
 refine ⟨h.hb, Nat.le_trans h.hw hT.size, h.h0, h.laid.below hbl h.h0, h.toks.below hbl, h.tok, h.few, h.brief, h.hc, h.at_, h.ok, R, h1.turn hB ⟨ht.1, ht.2.1, ht.2.2.1, ht.2.2.2.1⟩ hT, h2.turn hT ?_⟩
 intro e
 injection e with e
 subst e
 have e := (show w.heap[b.pB]? = _ from h2).symm.trans (show w.heap[b.pB]? = _ from hB)
 simp only [Option.some.injEq, Obj.cells.injEq] at e
 exact ht.2.2.2.2 e.2.1.symm
theorem RS.turnT (h : RS w b a S) {g : Nat} {cs : Array Value} (hB : Blk w g 90 cs) (hg : b.base ≤ g) (hT : Turn w w' (some g)) : RS w' b a S := h.turnB hB (by decide) hg hT
end
def tkV (t : Tok) : Value := .agg (tc t).toArray
def giveV (p e : Nat) : Ending := .panicked [{ v := .iface 112 (.agg #[.int .i64 (p : Int), .int .i64 (e : Int)]), recovered := false }]
def tz : List Value := [.int .i64 0, .string ⟨#[]⟩, .int .i64 0]
theorem zTok : ∀ w, (zeroValue 90).run Tryz.prog w = .ok (.agg tz.toArray) w := zero_at (by kernel_rfl)
theorem szTok : (Tryz.prog.info? 90).map (·.size) = some 3 := by kernel_rfl
theorem tc_one (t : Tok) : ∀ u ∈ tc t, u.oneCell' = true := by
 intro u hu
 simp only [tc, List.mem_cons, List.not_mem_nil, or_false] at hu
 rcases hu with rfl | rfl | rfl <;> rfl
section
variable {w w' : World} {g : Nat} {t : Tok}
theorem tok0 (h : Blk w g 90 (tc t).toArray) : w.cell? ⟨g, 0, none⟩ = some (.int .i64 (t.k : Int)) := h.ats rfl
theorem tok1 (h : Blk w g 90 (tc t).toArray) : w.cell? ⟨g, 1, none⟩ = some (.string (txt t.s)) := h.ats rfl
theorem tok2 (h : Blk w g 90 (tc t).toArray) : w.cell? ⟨g, 2, none⟩ = some (.int .i64 (t.at_ : Int)) := h.ats rfl
end
theorem take_any {w : World} {b : RB} {a : Nat} {S : List Nd} (h : RS w b a S) (ha : a < b.T.length) :
  Calls Tryz.prog 113 #[.pointer (some ⟨b.pB, 0, none⟩)] w fun e w' => e = .returned (tkV (tokAt b.T a)) ∧ RS w' b (a + 1) S ∧ Fr b.base w w' := by
 have hwr : IntKind.i64.wrap ((a : Int) + 1) = ((a + 1 : Nat) : Int) := by have := h.few; rw [IntKind.wrap_i64]; omega
 obtain ⟨t, ht⟩ : ∃ t, t = tokAt b.T a := ⟨_, rfl⟩
 rw [← ht]
 have HT := hid ht
 clear ht
 go_enter Tryz.func113, Tryz.ntmps113
 go_wp2_with (refine wp_al rfl 90 rfl _ zTok ?_; intro g1 w1 hg1 hb1 ht1)
 have h1 := h.turn0 ht1
 obtain ⟨R, _, hrb, p0, p1, _, hf⟩ := h1.opn
 obtain ⟨bb, off, hA0, t0, t1, t2⟩ := h1.tk ha
 rw [← HT.out] at t0 t1 t2
 rw [hA0] at p0
 have hl1 := hrb.lt
 have hl2 := World.block_lt_of_cell? w1 _ t0
 go_region_held3 (fun W => W.cell? ⟨b.pB, 0, none⟩ = some (.slice (some ⟨bb, off, none⟩) b.T.length b.c0) ∧ W.cell? ⟨b.pB, 1, none⟩ = some (.int .i64 (a : Int)) ∧ W.cell? ⟨bb, off + a * 3, none⟩ = some (.int .i64 (t.k : Int)) ∧
  W.cell? ⟨bb, off + a * 3 + 1, none⟩ = some (.string (txt t.s)) ∧ W.cell? ⟨bb, off + a * 3 + 2, none⟩ = some (.int .i64 (t.at_ : Int))) (go_keep) (fail)
 obtain ⟨W, hW⟩ : ∃ W, W = (w1.alloc (.cells (tc t).toArray 90)).drew := ⟨_, rfl⟩
 have hbt : Blk W w1.heap.size 90 (tc t).toArray := by rw [hW]; exact (Blk.new w1 _ _).drew
 have hT : Turn w1 W none := by rw [hW]; exact ((Turn.refl w1 none).alloc _).drew
 have e1 : World.drew (w1.alloc (Obj.cells #[Value.int IntKind.i64 (t.k : Int), Value.string (txt t.s), Value.int IntKind.i64 (t.at_ : Int)] 90)) = W := hW.symm
 rw [e1]
 clear e1 hW p0 p1 hf t0 t1 t2 hrb
 have h2 := h1.turn0 hT
 have hres := hb1.turn0 hT
 obtain ⟨_, _, _, _, p1, _, hf⟩ := h2.opn
 have hf1 := hf 1
 obtain ⟨h3, f3⟩ := h2.setAt (a' := a + 1) ((a : Int) + 1) (by omega) (by omega) (by omega)
 have hbt3 := f3.tok hbt
 have hres3 := f3.tok hres
 go_wp2_with (first
  | (refine wp_ld rfl 90 _ rfl rfl hbt3 (Sub.all (tc t)) Tryz.underlying90 rfl szTok ?_)
  | (refine wp_st rfl 90 _ _ rfl rfl rfl hres3 rfl szTok (tc_one t) ?_; intro w4 hb4 ht4))
 have hw := h.hw
 refine ret_cell Tryz.results113 rfl rfl hb4 Tryz.underlying90 rfl szTok ⟨rfl, h3.turnT hres3 (by omega) ht4, ?_⟩
 exact (((Fr.of_turn (ht1.trans hT) hw).trans f3).turnNew ht4 hw (by omega))
open Go.RowKit
def Gv (b : RB) (w : World) (p er : Nat) (e : Ending) (w' : World) : Prop := e = giveV p er ∧ Fr b.base w w'
def Un (b : RB) (w : World) (a : Nat) (S : List Nd) (e : Ending) (w' : World) : Prop := e = .returned (.tuple #[]) ∧ RS w' b a S ∧ Fr b.base w w'
theorem refuse_any (t : Tok) (er : Nat) (w : World) : Calls Tryz.prog 114 #[.agg (tc t).toArray, .int .i64 (er : Int)] w fun e w' => e = giveV t.at_ er ∧ Turn w w' none := by
 go_enter Tryz.func114, Tryz.ntmps114
 go_wp2_with (refine wp_bx rfl 90 _ rfl rfl ?_; intro g w1 hg hb ht; have c2 := tok2 hb)
 exact ⟨rfl, rfl, ht⟩
theorem kw_any (l : List UInt8) (w : World) (hL : LF w) (hl : l.length ≤ 140737488355328) : Calls Tryz.prog 191 #[.string (txt l)] w fun e w' => e = .returned (.bool (keyW l)) ∧ Turn w w' none := by
 cases hn : wName l with
 | false =>
  have H := hid (show keyW l = false by unfold keyW; rw [hn]; rfl)
  go_enter Tryz.func191, Tryz.ntmps191
  go_wp2_with (go_at_call 144; refine (lexDone.name _ l _ rfl hl).mono ?_; rintro e w1 ⟨rfl, ht1⟩; rw [hn])
  go_ret
  exact ⟨by rw [H.out]; rfl, ht1⟩
 | true =>
  have H := hid (show keyW l = (wordNo l != -1) by unfold keyW wordNo; rw [hn]; cases pWord l <;> rfl)
  obtain ⟨x, hx⟩ : ∃ x, wordNo l = x := ⟨_, rfl⟩
  have HX := hid hx
  clear hx
  go_enter Tryz.func191, Tryz.ntmps191
  go_wp2_with (first
   | (go_at_call 144; refine (lexDone.name _ l _ rfl hl).mono ?_; rintro e w1 ⟨rfl, ht1⟩; rw [hn])
   | (go_at_call 142; refine (kind_any l _ (hL.turn ht1)).mono ?_; rintro e w2 ⟨rfl, ht2⟩; rw [HX.out]))
  go_ret
  exact ⟨by rw [H.out, HX.out]; rfl, ht1.trans ht2⟩
theorem tcs_few {l : List UInt8} {T : List Tok} (h : wWords l = .ok T) {i : Nat} (hi : i < T.length) : (tokAt T i).s.length ≤ 4096 := by
 obtain ⟨h1, _, h2⟩ := wWords_ord h
 have ht : T[i]? = some (tokAt T i) := by
  unfold tokAt
  rw [List.getD_eq_getElem?_getD, List.getElem?_eq_getElem hi]
  rfl
 have := (h2 i _ ht).1
 omega
section
variable {w : World} {b : RB} {a : Nat} {S : List Nd}
theorem take_t {t : Tok} (HT : Hid (t = tokAt b.T a)) (h : RS w b a S) (ha : a < b.T.length) :
  Calls Tryz.prog 113 #[.pointer (some ⟨b.pB, 0, none⟩)] w fun e w' => e = .returned (tkV t) ∧ RS w' b (a + 1) S ∧ Fr b.base w w' := by
 rw [HT.out]; exact take_any h ha
theorem skip_any (h : RS w b a S) (ha : a < b.T.length) (x : List UInt8) :
  Calls Tryz.prog 176 #[.pointer (some ⟨b.pB, 0, none⟩), .string (txt x)] w fun e w' => e = .returned (.bool ((tokAt b.T a).s == x)) ∧ RS w' b (if (tokAt b.T a).s = x then a + 1 else a) S ∧ Fr b.base w w' := by
 have hw := h.hw
 have hfew := h.few
 obtain ⟨t, ht⟩ : ∃ t, t = tokAt b.T a := ⟨_, rfl⟩
 rw [← ht]
 have HT := hid ht
 clear ht
 obtain ⟨R, _, hrb, p0, p1, _, hf⟩ := h.opn
 obtain ⟨bb, off, hA0, t0, t1, t2⟩ := h.tk ha
 rw [← HT.out] at t0 t1 t2
 rw [hA0] at p0
 have hf1 := hf 1
 by_cases hx : t.s = x
 ·have e1 : ((txt t.s).toList == (txt x).toList) = true := by rw [tx_beq]; simpa using hx
  have e2 : ((txt t.s).toList != (txt x).toList) = false := by rw [bne, e1]; rfl
  have H := hid (show (t.s == x) = true by simpa using hx)
  rw [if_pos hx]
  clear hx
  go_enter Tryz.func176, Tryz.ntmps176
  go_wp2_with (fail)
  go_quiet (fail)
  have hT : Turn w (w.drewN nq) none := (Turn.refl w none).drewN nq
  have h1 := h.turn0 hT
  obtain ⟨h3, f3⟩ := h1.setAt (a' := a + 1) ((a : Int) + 1) (by omega) (by omega) (by omega)
  go_wp2
  go_ret
  exact ⟨by rw [H.out]; rfl, h3, (Fr.of_turn hT hw).trans f3⟩
 ·have e1 : ((txt t.s).toList == (txt x).toList) = false := by rw [tx_beq]; simpa using hx
  have e2 : ((txt t.s).toList != (txt x).toList) = true := by rw [bne, e1]; rfl
  have H := hid (show (t.s == x) = false by simpa using hx)
  rw [if_neg hx]
  clear hx
  go_enter Tryz.func176, Tryz.ntmps176
  go_wp2_with (fail)
  go_quiet (fail)
  have hT : Turn w (w.drewN nq) none := (Turn.refl w none).drewN nq
  go_wp2
  go_ret
  exact ⟨by rw [H.out]; rfl, h.turn0 hT, Fr.of_turn hT hw⟩
theorem sign_ok (h : RS w b a S) (ha : a < b.T.length) (x : List UInt8) (hx : (tokAt b.T a).s = x) :
  Calls Tryz.prog 171 #[.pointer (some ⟨b.pB, 0, none⟩), .string (txt x)] w (Un b w (a + 1) S) := by
 have hw := h.hw
 obtain ⟨t, ht⟩ : ∃ t, t = tokAt b.T a := ⟨_, rfl⟩
 rw [← ht] at hx
 have key := take_any h ha
 rw [← ht] at key
 clear ht
 have e1 : ((txt t.s).toList == (txt x).toList) = true := by rw [tx_beq]; simpa using hx
 have e2 : ((txt t.s).toList != (txt x).toList) = false := by rw [bne, e1]; rfl
 clear hx
 go_enter Tryz.func171, Tryz.ntmps171
 go_wp2_with (first
  | (go_at_call 113; refine key.mono ?_; rintro e w1 ⟨rfl, h1, f1⟩)
  | (refine wp_var rfl rfl 90 _ _ rfl rfl rfl rfl zTok (fun _ => rfl) (xs := tc t) (fun _ => rfl) rfl szTok (tc_one t) ?_; intro g2 w2 hgg2 hb2 ht2; have c1 := tok1 hb2; have c0 := tok0 hb2))
 go_end0
 exact ⟨rfl, h1.turn0 ht2, f1.turn ht2 hw⟩
theorem sign_bad (h : RS w b a S) (ha : a < b.T.length) (x : List UInt8) (hx : ¬(tokAt b.T a).s = x) :
  Calls Tryz.prog 171 #[.pointer (some ⟨b.pB, 0, none⟩), .string (txt x)] w (Gv b w (tokAt b.T a).at_ 4) := by
 have hw := h.hw
 obtain ⟨t, ht⟩ : ∃ t, t = tokAt b.T a := ⟨_, rfl⟩
 rw [← ht] at hx ⊢
 have key := take_any h ha
 rw [← ht] at key
 clear ht
 have e1 : ((txt t.s).toList == (txt x).toList) = false := by rw [tx_beq]; simpa using hx
 have e2 : ((txt t.s).toList != (txt x).toList) = true := by rw [bne, e1]; rfl
 clear hx
 go_enter Tryz.func171, Tryz.ntmps171
 go_wp2_with (first
  | (go_at_call 113; refine key.mono ?_; rintro e w1 ⟨rfl, h1, f1⟩)
  | (refine wp_var rfl rfl 90 _ _ rfl rfl rfl rfl zTok (fun _ => rfl) (xs := tc t) (fun _ => rfl) rfl szTok (tc_one t) ?_; intro g2 w2 hgg2 hb2 ht2; have c1 := tok1 hb2; have c0 := tok0 hb2)
  | (refine wp_ld rfl 90 _ rfl rfl hb2 (Sub.all (tc t)) Tryz.underlying90 rfl szTok ?_)
  | (go_at_call 114; refine (refuse_any t 4 _).mono ?_; rintro e w3 ⟨rfl, ht3⟩; unfold giveV))
 exact ⟨rfl, rfl, (f1.turn ht2 hw).turn ht3 hw⟩
def MorePost (b : RB) (w : World) (a : Nat) (S : List Nd) (x y : List UInt8) (e : Ending) (w' : World) : Prop :=
 if (tokAt b.T a).s = x then e = .returned (.bool true) ∧ RS w' b (a + 1) S ∧ Fr b.base w w'
 else if (tokAt b.T a).s = y then e = .returned (.bool false) ∧ RS w' b (a + 1) S ∧ Fr b.base w w'
 else Gv b w (tokAt b.T a).at_ 4 e w'
theorem more_any (h : RS w b a S) (ha : a < b.T.length) (x y : List UInt8) :
  Calls Tryz.prog 172 #[.pointer (some ⟨b.pB, 0, none⟩), .string (txt x), .string (txt y)] w (MorePost b w a S x y) := by
 have key := skip_any h ha x
 unfold MorePost
 by_cases hx : (tokAt b.T a).s = x
 ·have e0 : ((tokAt b.T a).s == x) = true := by simpa using hx
  rw [if_pos hx, e0] at key
  simp only [if_pos hx]
  go_enter Tryz.func172, Tryz.ntmps172
  go_wp2_with (go_at_call 176; refine key.mono ?_; rintro e w1 ⟨rfl, h1, f1⟩)
  go_ret
  exact ⟨rfl, h1, f1⟩
 ·have e0 : ((tokAt b.T a).s == x) = false := by simpa using hx
  rw [if_neg hx, e0] at key
  simp only [if_neg hx]
  by_cases hy : (tokAt b.T a).s = y
  ·simp only [if_pos hy]
   go_enter Tryz.func172, Tryz.ntmps172
   go_wp2_with (first
    | (go_at_call 176; refine key.mono ?_; rintro e w1 ⟨rfl, h1, f1⟩)
    | (go_at_call 171; refine (sign_ok h1 ha y hy).mono ?_; rintro e w2 ⟨rfl, h2, f2⟩))
   go_ret
   exact ⟨rfl, h2, f1.trans f2⟩
  ·simp only [if_neg hy]
   go_enter Tryz.func172, Tryz.ntmps172
   go_wp2_with (first
    | (go_at_call 176; refine key.mono ?_; rintro e w1 ⟨rfl, h1, f1⟩)
    | (go_at_call 171; refine (sign_bad h1 ha y hy).mono ?_; rintro e w2 ⟨rfl, f2⟩; unfold giveV))
   exact ⟨rfl, rfl, f1.trans f2⟩
def NamePost (b : RB) (w : World) (a : Nat) (S : List Nd) (e : Ending) (w' : World) : Prop :=
 if pNm (tokAt b.T a).tt = true then e = .returned (tkV (tokAt b.T a)) ∧ RS w' b (a + 1) S ∧ Fr b.base w w'
 else Gv b w (tokAt b.T a).at_ 4 e w'
theorem name_any_ (h : RS w b a S) (ha : a < b.T.length) :
  Calls Tryz.prog 184 #[.pointer (some ⟨b.pB, 0, none⟩)] w (NamePost b w a S) := by
 have hw := h.hw
 have hl := h.brief _ ha
 unfold NamePost
 rw [tk_nm h.tok ha]
 obtain ⟨t, ht⟩ : ∃ t, t = tokAt b.T a := ⟨_, rfl⟩
 rw [← ht] at hl ⊢
 have HT := hid ht
 clear ht
 cases hn : wName t.s with
 | false =>
  simp only [Bool.false_and, Bool.false_eq_true, if_false]
  have HN := hid hn
  clear hn
  go_enter Tryz.func184, Tryz.ntmps184
  go_wp2_with (first
   | (go_at_call 113; refine (take_t HT (h.turn0 ht0) ha).mono ?_; rintro e w1 ⟨rfl, h1, f1⟩)
   | (refine wp_var rfl rfl 90 _ _ rfl rfl rfl rfl zTok (fun _ => rfl) (xs := tc t) (fun _ => rfl) rfl szTok (tc_one t) ?_; intro g2 w2 hgg2 hb2 ht2; have c1 := tok1 hb2; have c0 := tok0 hb2)
   | (refine wp_al rfl 90 rfl _ zTok ?_; intro g0 w0 hg0 hb0 ht0)
   | (refine wp_ld rfl 90 _ rfl rfl (hb2.turn0 ht4) (Sub.all (tc t)) Tryz.underlying90 rfl szTok ?_)
   | (go_at_call 114; refine (refuse_any t 4 _).mono ?_; rintro e w3 ⟨rfl, ht3⟩; unfold giveV)
   | (go_at_call 144; refine (lexDone.name _ t.s _ rfl (by omega)).mono ?_; rintro e w4 ⟨rfl, ht4⟩; rw [HN.out]))
  exact ⟨rfl, rfl, ((((Fr.of_turn ht0 hw).trans f1).turn ht2 hw).turn ht4 hw).turn ht3 hw⟩
 | true =>
  have HN := hid hn
  clear hn
  cases hk : keyW t.s with
  | true =>
   have HK := hid hk
   clear hk
   simp only [Bool.not_true, Bool.and_false, Bool.false_eq_true, if_false]
   go_enter Tryz.func184, Tryz.ntmps184
   go_wp2_with (first
    | (go_at_call 113; refine (take_t HT (h.turn0 ht0) ha).mono ?_; rintro e w1 ⟨rfl, h1, f1⟩)
    | (refine wp_var rfl rfl 90 _ _ rfl rfl rfl rfl zTok (fun _ => rfl) (xs := tc t) (fun _ => rfl) rfl szTok (tc_one t) ?_; intro g2 w2 hgg2 hb2 ht2; have c1 := tok1 hb2; have c0 := tok0 hb2)
    | (refine wp_al rfl 90 rfl _ zTok ?_; intro g0 w0 hg0 hb0 ht0)
    | (refine wp_ld rfl 90 _ rfl rfl ((hb2.turn0 ht4).turn0 ht5) (Sub.all (tc t)) Tryz.underlying90 rfl szTok ?_)
    | (go_at_call 114; refine (refuse_any t 4 _).mono ?_; rintro e w3 ⟨rfl, ht3⟩; unfold giveV)
    | (go_at_call 144; refine (lexDone.name _ t.s _ rfl (by omega)).mono ?_; rintro e w4 ⟨rfl, ht4⟩; rw [HN.out]; have c1 := tok1 (hb2.turn0 ht4))
    | (go_at_call 191; refine (kw_any t.s _ ((h1.turn0 ht2).turn0 ht4).laid (by omega)).mono ?_; rintro e w5 ⟨rfl, ht5⟩; rw [HK.out]))
   exact ⟨rfl, rfl, (((((Fr.of_turn ht0 hw).trans f1).turn ht2 hw).turn ht4 hw).turn ht5 hw).turn ht3 hw⟩
  | false =>
   have HK := hid hk
   clear hk
   simp only [Bool.not_false, Bool.and_true, if_true]
   go_enter Tryz.func184, Tryz.ntmps184
   go_wp2_with (first
    | (go_at_call 113; refine (take_t HT (h.turn0 ht0) ha).mono ?_; rintro e w1 ⟨rfl, h1, f1⟩)
    | (refine wp_var rfl rfl 90 _ _ rfl rfl rfl rfl zTok (fun _ => rfl) (xs := tc t) (fun _ => rfl) rfl szTok (tc_one t) ?_; intro g2 w2 hgg2 hb2 ht2; have c1 := tok1 hb2; have c0 := tok0 hb2)
    | (refine wp_al rfl 90 rfl _ zTok ?_; intro g0 w0 hg0 hb0 ht0)
    | (refine wp_ld rfl 90 _ rfl rfl ((hb2.turn0 ht4).turn0 ht5) (Sub.all (tc t)) Tryz.underlying90 rfl szTok ?_)
    | (go_at_call 144; refine (lexDone.name _ t.s _ rfl (by omega)).mono ?_; rintro e w4 ⟨rfl, ht4⟩; rw [HN.out]; have c1 := tok1 (hb2.turn0 ht4))
    | (go_at_call 191; refine (kw_any t.s _ ((h1.turn0 ht2).turn0 ht4).laid (by omega)).mono ?_; rintro e w5 ⟨rfl, ht5⟩; rw [HK.out]; have hres : Blk w5 g0 90 tz.toArray := (((f1.tok hb0).turn0 ht2).turn0 ht4).turn0 ht5)
    | (refine wp_st rfl 90 _ _ rfl rfl rfl hres rfl szTok (tc_one t) ?_; intro w6 hb6 ht6))
   have h5 := ((h1.turn0 ht2).turn0 ht4).turn0 ht5
   refine ret_cell Tryz.results184 rfl rfl hb6 Tryz.underlying90 rfl szTok ⟨rfl, h5.turnT hres (by omega) ht6, ?_⟩
   exact (((((Fr.of_turn ht0 hw).trans f1).turn ht2 hw).turn ht4 hw).turn ht5 hw).turnNew ht6 hw (by omega)
end
open Go.RowKit
def fnd (S : List Nd) (x : List UInt8) : Int := match S.findIdx? (fun y => y.name == x) with
 | some n => (n : Int)
 | none => -1
theorem fnd_at {S : List Nd} {x : List UInt8} {j : Nat} {y : Nd} (hj : S[j]? = some y) (hy : y.name = x) (hno : ∀ m z, m < j → S[m]? = some z → z.name ≠ x) : fnd S x = (j : Int) := by
 have hl : j < S.length := (List.getElem?_eq_some_iff.1 hj).1
 have : S.findIdx? (fun y => y.name == x) = some j := by
  rw [List.findIdx?_eq_some_iff_getElem]
  refine ⟨hl, ?_, fun m hm => ?_⟩
  ·rw [List.getElem?_eq_getElem hl, Option.some.injEq] at hj
   rw [hj]; simpa using hy
  ·have := hno m S[m] hm (List.getElem?_eq_getElem (by omega))
   simpa using this
 unfold fnd
 rw [this]
theorem fnd_none {S : List Nd} {x : List UInt8} (hno : ∀ m z, m < S.length → S[m]? = some z → z.name ≠ x) : fnd S x = -1 := by
 have : S.findIdx? (fun y => y.name == x) = none := by
  rw [List.findIdx?_eq_none_iff]
  intro z hz
  obtain ⟨m, hm, rfl⟩ := List.mem_iff_getElem.1 hz
  have := hno m S[m] hm (List.getElem?_eq_getElem hm)
  simpa using this
 unfold fnd
 rw [this]
theorem findIdx_congr {α : Type} {p q : α → Bool} : ∀ {l : List α}, (∀ y ∈ l, p y = q y) → l.findIdx? p = l.findIdx? q
 | [], _ => rfl
 | y :: l, h => by
  rw [List.findIdx?_cons, List.findIdx?_cons, h y (List.mem_cons_self ..), findIdx_congr fun z hz => h z (List.mem_cons_of_mem _ hz)]
theorem fnd_called {S : List Nd} {a : Nat} {x : List UInt8} (h : NOk S a) (hx : x ≠ []) : fnd S x = match pCalled S x with
  | some n => (n : Int)
  | none => -1 := by
 have : S.findIdx? (fun y => y.name == x) = pCalled S x := by
  unfold pCalled
  refine findIdx_congr fun y hy => ?_
  by_cases hk : 9 ≤ y.k
  ·rw [decide_eq_true hk, Bool.true_and]
  ·rw [decide_eq_false hk, Bool.false_and, h.names y hy (by omega), beq_eq_false_iff_ne]
   exact fun e => hx e.symm
 unfold fnd
 rw [this]
section
variable {w : World} {base : Nat} {R : Ix → Rw} {S : List Nd}
theorem szNd : (Tryz.prog.info? 64).map (·.size) = some 6 := by kernel_rfl
theorem NR.range (h : NR w base R S) {i g : Nat} {x : Nd} (hx : S[i]? = some x) (hg : (R none).A = some ⟨g, 0, none⟩) : w.rangeAt g (i * 6) (ndRow R i x) := by
 obtain ⟨g', hg', _, _, hc, _⟩ := h.at_ hx
 rw [hg] at hg'
 injection hg' with hg'
 injection hg' with hg'
 subst hg'
 exact fun j v hv => hc j v hv
theorem findC_any (i : Nat) (y : Nd) (x : List UInt8) (g : Nat) (w : World) (hg : w.cell? ⟨g, 0, none⟩ = some (.string (txt x))) :
  Calls Tryz.prog 168 #[.agg (ndRow R i y).toArray, .pointer (some ⟨g, 0, none⟩)] w fun e w' => e = .returned (.bool (y.name == x)) ∧ Turn w w' none := by
 have hgl := World.block_lt_of_cell? w _ hg
 go_enter Tryz.func168, Tryz.ntmps168
 go_wp2_with (refine wp_bx rfl 64 _ rfl rfl ?_; intro g2 w2 hg2 hb2 ht2; have c1 : w2.cell? ⟨g2, 1, none⟩ = some (.string (txt y.name)) := hb2.ats rfl; have hg' : w2.cell? ⟨g, 0, none⟩ = some (.string (txt x)) := (ht2.cell (a := ⟨g, 0, none⟩) hgl (by simp)).trans hg)
 go_ret
 refine ⟨?_, ht2⟩
 show Ending.returned (.bool ((txt y.name).toList == (txt x).toList)) = _
 rw [tx_beq]
theorem idxf_any (h : NR w base R S) (hS : S.length ≤ 200) (x : List UInt8) (g : Nat) (hg : w.cell? ⟨g, 0, none⟩ = some (.string (txt x))) :
  Calls Tryz.prog 167 #[.slice (R none).A S.length (R none).c, .func (.func 168) #[] #[.pointer (some ⟨g, 0, none⟩)]] w fun e w' => e = .returned (.int .i64 (fnd S x)) ∧ Turn w w' none := by
 have hgl := World.block_lt_of_cell? w _ hg
 go_enter Tryz.func167, Tryz.ntmps167
 go_wp2
 go_loopw [8] (fun i wr => ∃ j : Nat, j ≤ S.length ∧ i = .int .i64 (j : Int) ∧ Hid (∀ m z, m < j → S[m]? = some z → z.name ≠ x) ∧ Turn w wr none) (fun i _ => (S.length - intOf i).toNat)
 case atStart => exact ⟨0, by omega, rfl, hid (fun m x h => absurd h (Nat.not_lt_zero m)), Turn.refl w none⟩
 case round =>
  obtain ⟨j, hj, rfl, HNO, htr⟩ := hrel
  by_cases hjn : j < S.length
  ·obtain ⟨y, hy⟩ : ∃ y, S[j]? = some y := ⟨S[j], List.getElem?_eq_getElem hjn⟩
   have h2 := h.turn0 htr
   obtain ⟨g2, hA, hg2l, _, _, _⟩ := h2.at_ hy
   have hr := h2.range hy hA
   have hgr : wr.cell? ⟨g, 0, none⟩ = some (.string (txt x)) := (htr.cell (a := ⟨g, 0, none⟩) hgl (by simp)).trans hg
   have key := findC_any (R := R) j y x g wr hgr
   have HY := hid hy
   clear hy
   rw [hA]
   by_cases hxy : y.name = x
   ·have e0 : (y.name == x) = true := by simpa using hxy
    rw [e0] at key
    have HX := hid hxy
    clear hxy
    go_wp2_with (first
     | (refine wpList_load_mid rfl 64 _ rfl g2 (j * 6) rfl (ndRow R j y) _ hr Tryz.underlying64 rfl szNd ?_)
     | (go_at_call 168; refine key.mono ?_; rintro e w2 ⟨rfl, ht2⟩))
    go_ret
    exact ⟨by rw [fnd_at HY.out HX.out HNO.out]; rfl, htr.trans ht2⟩
   ·have e0 : (y.name == x) = false := by simpa using hxy
    rw [e0] at key
    have HX := hid hxy
    clear hxy
    go_wp2_with (first
     | (refine wpList_load_mid rfl 64 _ rfl g2 (j * 6) rfl (ndRow R j y) _ hr Tryz.underlying64 rfl szNd ?_)
     | (go_at_call 168; refine key.mono ?_; rintro e w2 ⟨rfl, ht2⟩))
    refine ⟨⟨j + 1, by omega, by go_num, hid (fun m z hm hz => ?_), htr.trans ht2⟩, by simp [intOf]; omega⟩
    rcases Nat.lt_or_ge m j with h | h
    ·exact HNO.out m z h hz
    ·obtain rfl : m = j := by omega
     rw [HY.out, Option.some.injEq] at hz
     rw [← hz]
     exact HX.out
  ·obtain rfl : j = S.length := by omega
   go_wp2
   go_ret
   exact ⟨by rw [fnd_none HNO.out]; rfl, htr⟩
end
theorem find_any {w : World} {b : RB} {a : Nat} {S : List Nd} (h : RS w b a S) (x : List UInt8) :
  Calls Tryz.prog 143 #[.pointer (some ⟨b.pB, 0, none⟩), .string (txt x)] w fun e w' => e = .returned (.int .i64 (fnd S x)) ∧ Turn w w' none := by
 have hS := h.ok.few
 obtain ⟨W, hW⟩ : ∃ W, W = w.alloc (.cells #[.string (txt x)] 9) := ⟨_, rfl⟩
 have hT : Turn w W none := by rw [hW]; exact (Turn.refl w none).alloc _
 have hb : Blk W w.heap.size 9 #[.string (txt x)] := by rw [hW]; exact Blk.new w _ _
 obtain ⟨R, hN, _, _, _, p2, _⟩ := (h.turn0 hT).opn
 have key := idxf_any hN hS x w.heap.size (hb.cell 0)
 subst hW
 go_enter Tryz.func143, Tryz.ntmps143
 go_wp2_with (go_at_call 167; refine key.mono ?_; rintro e w2 ⟨rfl, ht2⟩)
 go_ret
 exact ⟨rfl, hT.trans ht2⟩
open Go.RowKit
def apB (S : List Nd) (k n : Int) (i : Nat) : Bool := decide ((i : Int) = n) || (decide (k < 9) && match S[i]? with
 | some y => decide ((y.k : Int) = k)
 | none => false)
theorem any_at {α : Type} {p : α → Bool} {l : List α} {j : Nat} {x : α} (h : l[j]? = some x) (hp : p x = true) : l.any p = true := List.any_eq_true.2 ⟨x, List.mem_of_getElem? h, hp⟩
theorem any_none {α : Type} {p : α → Bool} {l : List α} (h : ∀ m x, m < l.length → l[m]? = some x → p x = false) : l.any p = false := by
 rw [List.any_eq_false]
 intro x hx
 obtain ⟨m, hm, rfl⟩ := List.mem_iff_getElem.1 hx
 rw [h m l[m] hm (List.getElem?_eq_getElem hm)]
 simp
section
variable {w : World} {b : RB} {a : Nat} {S : List Nd}
theorem RS.nd (h : RS w b a S) {i : Nat} {x : Nd} (hx : S[i]? = some x) : ∃ R g, NR w b.base R S ∧ w.cell? ⟨b.pB, 2, none⟩ = some (.slice (some ⟨g, 0, none⟩) S.length (R none).c) ∧ (R none).A = some ⟨g, 0, none⟩ ∧ g < w.heap.size ∧
  ∀ j u, (ndRow R i x)[j]? = some u → w.cell? ⟨g, i * 6 + j, none⟩ = some u := by
 obtain ⟨R, hN, _, _, _, p2, _⟩ := h.opn
 obtain ⟨g, hA, hg, _, hc, _⟩ := hN.at_ hx
 rw [hA] at p2
 exact ⟨R, g, hN, p2, hA, hg, hc⟩
theorem apart_top (h : RS w b a S) (t : Tok) (k n : Int) :
  Calls Tryz.prog 145 #[.pointer (some ⟨b.pB, 0, none⟩), .agg (tc t).toArray, .int .i64 (-1), .int .i64 k, .int .i64 n] w (Un b w a S) := by
 have hw := h.hw
 go_enter Tryz.func145, Tryz.ntmps145
 go_wp2_with (refine wp_bx rfl 90 _ rfl rfl ?_; intro g2 w2 hg2 hb2 ht2)
 go_end0
 exact ⟨rfl, h.turn0 ht2, Fr.of_turn ht2 hw⟩
theorem apart_free (h : RS w b a S) (t : Tok) (k n : Int) {m : Nat} {x : Nd} (hm : S[m]? = some x) (hx : x.k ≠ 8) :
  Calls Tryz.prog 145 #[.pointer (some ⟨b.pB, 0, none⟩), .agg (tc t).toArray, .int .i64 (m : Int), .int .i64 k, .int .i64 n] w (Un b w a S) := by
 have hw := h.hw
 have hml : m < S.length := (List.getElem?_eq_some_iff.1 hm).1
 have e1 : ((m : Int) == -1) = false := by rw [beq_eq_false_iff_ne]; omega
 have e2 : ((x.k : Int) != 8) = true := by rw [bne_iff_ne]; omega
 go_enter Tryz.func145, Tryz.ntmps145
 go_wp2_with (refine wp_bx rfl 90 _ rfl rfl ?_; intro g2 w2 hg2 hb2 ht2; obtain ⟨R, g, hN, p2, hA, hgl, hc⟩ := (h.turn0 ht2).nd hm; have c0 : w2.cell? ⟨g, m * 6, none⟩ = some (.int .i64 (x.k : Int)) := hc 0 _ rfl)
 go_end0
 exact ⟨rfl, h.turn0 ht2, Fr.of_turn ht2 hw⟩
theorem apart_two (h : RS w b a S) (t : Tok) (n : Int) {m : Nat} {x : Nd} (hm : S[m]? = some x) (hx : x.k = 8) :
  Calls Tryz.prog 145 #[.pointer (some ⟨b.pB, 0, none⟩), .agg (tc t).toArray, .int .i64 (m : Int), .int .i64 8, .int .i64 n] w (Gv b w t.at_ 4) := by
 have hw := h.hw
 have hml : m < S.length := (List.getElem?_eq_some_iff.1 hm).1
 have e1 : ((m : Int) == -1) = false := by rw [beq_eq_false_iff_ne]; omega
 go_enter Tryz.func145, Tryz.ntmps145
 go_wp2_with (first
  | (refine wp_bx rfl 90 _ rfl rfl ?_; intro g2 w2 hg2 hb2 ht2; obtain ⟨R, g, hN, p2, hA, hgl, hc⟩ := (h.turn0 ht2).nd hm; have c0 : w2.cell? ⟨g, m * 6, none⟩ = some (.int .i64 8) := (hc 0 _ rfl).trans (by rw [hx]; rfl))
  | (refine wp_ld rfl 90 _ rfl rfl hb2 (Sub.all (tc t)) Tryz.underlying90 rfl szTok ?_)
  | (go_at_call 114; refine (refuse_any t 4 _).mono ?_; rintro e w3 ⟨rfl, ht3⟩; unfold giveV))
 exact ⟨rfl, rfl, (Fr.of_turn ht2 hw).turn ht3 hw⟩
def ApPost (b : RB) (w : World) (a : Nat) (S : List Nd) (p : Nat) (bad : Bool) (e : Ending) (w' : World) : Prop := if bad = true then Gv b w p 6 e w' else Un b w a S e w'
theorem apart_any (h : RS w b a S) (t : Tok) (k n : Int) (hk : k ≠ 8) {m : Nat} {x : Nd} (hm : S[m]? = some x) (hx : x.k = 8) :
  Calls Tryz.prog 145 #[.pointer (some ⟨b.pB, 0, none⟩), .agg (tc t).toArray, .int .i64 (m : Int), .int .i64 k, .int .i64 n] w
   (ApPost b w a S t.at_ (x.items.any (apB S k n))) := by
 have hw := h.hw
 have hfew := h.few
 have hat := h.at_
 have hsm := h.ok.small x (List.mem_of_getElem? hm)
 have hin := h.ok.inn x (List.mem_of_getElem? hm)
 have hS := h.ok.few
 have hml : m < S.length := (List.getElem?_eq_some_iff.1 hm).1
 have e1 : ((m : Int) == -1) = false := by rw [beq_eq_false_iff_ne]; omega
 have e8 : (k == 8) = false := by rw [beq_eq_false_iff_ne]; omega
 go_enter Tryz.func145, Tryz.ntmps145
 go_wp2_with (refine wp_bx rfl 90 _ rfl rfl ?_; intro g2 w2 hg2 hb2 ht2; obtain ⟨R, g, hN, p2, hA, hgl, hc⟩ := (h.turn0 ht2).nd hm; have c0 : w2.cell? ⟨g, m * 6, none⟩ = some (.int .i64 8) := (hc 0 _ rfl).trans (by rw [hx]; rfl); have c4 : w2.cell? ⟨g, m * 6 + 4, none⟩ = some (.slice (R (some (m, 1))).A x.items.length (R (some (m, 1))).c) := (hc 4 _ rfl).trans (by show some (Value.slice _ (R (some (m, 1))).n _) = _; rw [(hN.items m x hm).2.2.1]))
 have hO := (hN.items m x hm).own (hN.aps.own _)
 have hrd := hO.rd
 have h2 := h.turn0 ht2
 go_loopw [38] (fun i wr => ∃ j : Nat, j ≤ x.items.length ∧ i = .int .i64 (j : Int) ∧ Hid (∀ q i, q < j → x.items[q]? = some i → apB S k n i = false) ∧ wr = w2) (fun i _ => (x.items.length - intOf i).toNat)
 case atStart => exact ⟨0, by omega, rfl, hid (fun m x h => absurd h (Nat.not_lt_zero m)), rfl⟩
 case round =>
  obtain ⟨j, hj, rfl, HNO, rfl⟩ := hrel
  by_cases hjn : j < x.items.length
  ·obtain ⟨i, hi⟩ : ∃ i, x.items[j]? = some i := ⟨x.items[j], List.getElem?_eq_getElem hjn⟩
   have hiS := hin i (List.mem_of_getElem? hi)
   obtain ⟨y, hy⟩ : ∃ y, S[i]? = some y := ⟨S[i], List.getElem?_eq_getElem hiS⟩
   obtain ⟨bb, off, hAi, _, hci⟩ := hrd.head (by omega)
   have cj : wr.cell? ⟨bb, off + j, none⟩ = some (.int .i64 (i : Int)) := hci j _ (vis_at (n := (i : Int)) (by rw [List.getElem?_map, hi]; rfl))
   obtain ⟨g3, hA3, _, _, hc3, _⟩ := hN.at_ hy
   obtain rfl : g3 = g := by rw [hA] at hA3; injection hA3 with hA3; injection hA3 with hA3; exact hA3.symm
   have d0 : wr.cell? ⟨g3, i * 6, none⟩ = some (.int .i64 (y.k : Int)) := hc3 0 _ rfl
   have HB := hid (show apB S k n i = (decide ((i : Int) = n) || (decide (k < 9) && decide ((y.k : Int) = k))) by unfold apB; rw [hy])
   have HI := hid hi
   clear hi hy hci hc3 hrd hO hin
   have next (hno : apB S k n i = false) : Hid (∀ q i, q < j + 1 → x.items[q]? = some i → apB S k n i = false) := hid (fun q i' hq hi' => by
    rcases Nat.lt_or_ge q j with h | h
    ·exact HNO.out q i' h hi'
    ·obtain rfl : q = j := by omega
     rw [HI.out, Option.some.injEq] at hi'
     rw [← hi']
     exact hno)
   have HNX := hid next
   clear next
   by_cases hn : (i : Int) = n
   ·have H := hid (any_at HI.out (HB.out.trans (by rw [decide_eq_true hn, Bool.true_or])))
    go_wp2_with (first
     | (refine wp_ld rfl 90 _ rfl rfl hb2 (Sub.all (tc t)) Tryz.underlying90 rfl szTok ?_)
     | (go_at_call 114; refine (refuse_any t 6 _).mono ?_; rintro e w3 ⟨rfl, ht3⟩; unfold giveV))
    refine ⟨rfl, ?_⟩
    unfold ApPost
    rw [if_pos H.out]
    exact ⟨rfl, (Fr.of_turn ht2 hw).turn ht3 hw⟩
   ·have hnn : ((i : Int) == n) = false := by rw [beq_eq_false_iff_ne]; exact hn
    by_cases hk9 : k < 9
    ·by_cases hyk : (y.k : Int) = k
     ·have H := hid (any_at HI.out (HB.out.trans (by rw [decide_eq_true hk9, decide_eq_true hyk, Bool.and_true, Bool.or_true])))
      go_wp2_with (first
       | (refine wp_ld rfl 90 _ rfl rfl hb2 (Sub.all (tc t)) Tryz.underlying90 rfl szTok ?_)
       | (go_at_call 114; refine (refuse_any t 6 _).mono ?_; rintro e w3 ⟨rfl, ht3⟩; unfold giveV))
      refine ⟨rfl, ?_⟩
      unfold ApPost
      rw [if_pos H.out]
      exact ⟨rfl, (Fr.of_turn ht2 hw).turn ht3 hw⟩
     ·have hyy : ((y.k : Int) == k) = false := by rw [beq_eq_false_iff_ne]; exact hyk
      have H := HNX.out (HB.out.trans (by rw [decide_eq_false hn, decide_eq_false hyk, Bool.and_false, Bool.false_or]))
      go_wp2
      refine ⟨⟨j + 1, by omega, by go_num, H, ?_⟩, by simp [intOf]; omega⟩; first | rfl | trivial
    ·have H := HNX.out (HB.out.trans (by rw [decide_eq_false hn, decide_eq_false hk9, Bool.false_and, Bool.false_or]))
     go_wp2
     refine ⟨⟨j + 1, by omega, by go_num, H, ?_⟩, by simp [intOf]; omega⟩; first | rfl | trivial
  ·obtain rfl : j = x.items.length := by omega
   have H := hid (any_none HNO.out)
   go_wp2
   go_end0
   unfold ApPost
   rw [if_neg (by rw [H.out]; decide)]
   exact ⟨rfl, h2, Fr.of_turn ht2 hw⟩
end
open Go.RowKit
theorem elNd : El Tryz.prog 22 64 6 104 := El.mk_ Tryz.underlying22 (z := .agg #[.int .i64 0, .string .empty, .int .i64 0, .slice none 0 0, .slice none 0 0, .slice none 0 0]) (by kernel_rfl) rfl (by decide)
theorem elI : El Tryz.prog 61 3 1 8 := El.mk_ Tryz.underlying61 (z := .int .i64 0) (by kernel_rfl) rfl (by decide)
theorem elS : El Tryz.prog 46 9 1 16 := El.mk_ Tryz.underlying46 (z := .string .empty) (by kernel_rfl) rfl (by decide)
theorem elF : El Tryz.prog 62 119 3 32 := El.mk_ Tryz.underlying62 (z := .agg #[.string .empty, .bool false, .int .i64 0]) (by kernel_rfl) rfl (by decide)
def NdTy (E : TypeId) : Prop := E = 64 ∨ E = 9 ∨ E = 3 ∨ E = 119
section
variable {w w' : World} {base sz n c g : Nat} {E : TypeId} {A : Option Addr} {xs : List Value}
theorem Fr.row (ho : Own w base E sz A n c xs) (hE : NdTy E) (ht : Turn w w' (blk A)) (hb : base ≤ w.heap.size) : Fr base w w' := by
 cases hA : blk A with
 | none => rw [hA] at ht; exact Fr.of_turn ht hb
 | some g =>
  rw [hA] at ht
  refine ⟨below_turn ht hb (ho.block g hA).1, fun g' t cs hB a1 a2 a3 a4 a5 => hB.turn ht ?_⟩
  intro e
  injection e with e
  subst e
  refine ho.not_blk hB ?_ hA
  rcases hE with rfl | rfl | rfl | rfl
  ·exact a1
  ·exact a2
  ·exact a3
  ·exact a4
end
section
variable {w w' : World} {b : RB} {a : Nat} {S S' : List Nd} {R R' : Ix → Rw}
theorem Fr.own (hrb : Blk w b.pB 110 (rsCells b.A0 b.c0 b.T R a).toArray) (hb : b.base ≤ b.pB) (i : Nat) (u : Value) : Fr b.base w (w.setCell ⟨b.pB, i, none⟩ u) := by
 refine ⟨(Below.refl b.base w).setCell (p := ⟨b.pB, i, none⟩) hb _, fun g t cs hB _ _ _ _ a5 => hB.turn (Blk.setTurn w b.pB i u) ?_⟩
 intro e
 injection e with e
 subst e
 have e := (show w.heap[b.pB]? = _ from hrb).symm.trans (show w.heap[b.pB]? = _ from hB)
 simp only [Option.some.injEq, Obj.cells.injEq] at e
 exact a5 e.2.1.symm
theorem RS.renew (h : RS w b a S) (f : Fr b.base w w') (hN : NR w' b.base R' S') (hrb : Blk w' b.pB 110 (rsCells b.A0 b.c0 b.T R a).toArray) (hok : NOk S' a) (v : Value) (hv : v = (R' none).v) :
  RS (w'.setCell ⟨b.pB, 2, none⟩ v) b a S' ∧ Fr b.base w (w'.setCell ⟨b.pB, 2, none⟩ v) := by
 subst hv
 have f2 := Fr.own hrb h.hb 2 (R' none).v
 have hbl := f.1.trans f2.1
 refine ⟨⟨h.hb, Nat.le_trans h.hw hbl.size, h.h0, h.laid.below hbl h.h0, h.toks.below hbl, h.tok, h.few, h.brief, h.hc, h.at_, hok, R', hN.turn hrb ty_R (Blk.setTurn _ _ _ _), ?_⟩, f.trans f2⟩
 have := hrb.set_ 2 (R' none).v
 simpa [rsCells] using this
theorem RS.keep (h : RS w b a S) (f : Fr b.base w w') (hN : NR w' b.base R' S') (hrb : Blk w' b.pB 110 (rsCells b.A0 b.c0 b.T R' a).toArray) (hok : NOk S' a) : RS w' b a S' :=
 ⟨h.hb, Nat.le_trans h.hw f.size, h.h0, h.laid.below f.1 h.h0, h.toks.below f.1, h.tok, h.few, h.brief, h.hc, h.at_, hok, R', hN, hrb⟩
theorem NOk.push (h : NOk S a) (hS : S.length < 200) (k : Nat) : NOk (S ++ [Nd.of k]) a := by
 have hm : ∀ x ∈ S ++ [Nd.of k], x ∈ S ∨ x = Nd.of k := fun x hx => by simpa using hx
 refine ⟨by simp; omega, fun x hx hk => ?_, fun x hx => ?_, fun x hx i hi => ?_⟩
 ·rcases hm x hx with hx | rfl
  ·exact h.names x hx hk
  ·rfl
 ·rcases hm x hx with hx | rfl
  ·exact h.small x hx
  ·exact ⟨Nat.zero_le _, Nat.zero_le _, Nat.zero_le _⟩
 ·rcases hm x hx with hx | rfl
  ·have := h.inn x hx i hi; simp; omega
  ·cases hi
theorem NOk.mod (h : NOk S a) {i a' : Nat} {x : Nd} {gg : Nd → Nd} (hx : S[i]? = some x) (ha : a ≤ a') (hn : (gg x).k < 9 → (gg x).name = []) (hs : (gg x).syms.length ≤ a' ∧ (gg x).items.length ≤ a' ∧ (gg x).fields.length ≤ a') (hi : ∀ j ∈ (gg x).items, j < S.length) : NOk (S.modify i gg) a' := by
 have hm : ∀ y ∈ S.modify i gg, y ∈ S ∨ y = gg x := fun y hy => by
  obtain ⟨k, hk⟩ := List.mem_iff_getElem?.1 hy
  rw [List.getElem?_modify] at hk
  by_cases hik : i = k
  ·subst hik
   rw [hx] at hk
   simp at hk
   exact .inr hk.symm
  ·simp [hik] at hk
   exact .inl (List.mem_of_getElem? hk)
 refine ⟨by rw [List.length_modify]; exact h.few, fun y hy hk => ?_, fun y hy => ?_, fun y hy j hj => ?_⟩
 ·rcases hm y hy with hy | rfl
  ·exact h.names y hy hk
  ·exact hn hk
 ·rcases hm y hy with hy | rfl
  ·have := h.small y hy; omega
  ·exact hs
 ·rw [List.length_modify]
  rcases hm y hy with hy | rfl
  ·exact h.inn y hy j hj
  ·exact hi j hj
end
open Go.RowKit
section
variable {w : World} {b : RB} {a : Nat} {S : List Nd}
theorem RS.scalar (h : RS w b a S) {i jj g n' c' : Nat} {x : Nd} {u : Value} {gg : Nd → Nd} (hx : S[i]? = some x) (hj : jj < 3) (hrow : ∀ R, (ndRow R i x).set jj u = ndRow R i (gg x)) (hs : (gg x).syms = x.syms) (hi : (gg x).items = x.items) (hf : (gg x).fields = x.fields)
  (hk : (gg x).k < 9 → (gg x).name = []) (hg : w.cell? ⟨b.pB, 2, none⟩ = some (.slice (some ⟨g, 0, none⟩) n' c')) : RS (w.setCell ⟨g, i * 6 + jj, none⟩ u) b a (S.modify i gg) ∧ Fr b.base w (w.setCell ⟨g, i * 6 + jj, none⟩ u) := by
 obtain ⟨R, hN, hrb, _, _, p2, _⟩ := h.opn
 rw [hg, Option.some.injEq, Value.slice.injEq] at p2
 have hA : (R none).A = some ⟨g, 0, none⟩ := p2.1.symm
 have ho := hN.own
 rw [hA] at ho
 have f : Fr b.base w (w.setCell ⟨g, i * 6 + jj, none⟩ u) := Fr.row (A := some ⟨g, 0, none⟩) ho (.inl rfl) (ho.storeTurn _ _) h.hw
 have hN2 := hN.scalar (gg := gg) hx hA hj (hrow R) hs hi hf
 have hrb2 := hrb.turn (ho.storeTurn (i * 6 + jj) u) (fun e => hN.off hrb ty_R none (by rw [hA]; exact e.symm))
 have hsm := h.ok.small x (List.mem_of_getElem? hx)
 refine ⟨h.keep f hN2 ?_ (h.ok.mod hx (Nat.le_refl _) hk (by rw [hs, hi, hf]; exact hsm) (by rw [hi]; exact h.ok.inn x (List.mem_of_getElem? hx))), f⟩
 have e : rsCells b.A0 b.c0 b.T (upd R none ⟨64, 6, some ⟨g, 0, none⟩, S.length, (R none).c, ndCells R 0 (S.modify i gg)⟩) a = rsCells b.A0 b.c0 b.T R a := by
  unfold rsCells
  rw [upd_same]
  unfold Rw.v
  rw [hA, hN.len]
 rw [e]
 exact hrb2
theorem RS.ne (h : RS w b a S) {g n' c' g2 : Nat} {t : TypeId} {cs : Array Value} (hg : w.cell? ⟨b.pB, 2, none⟩ = some (.slice (some ⟨g, 0, none⟩) n' c')) (hB : Blk w g2 t cs) (ht : t ≠ 64 ∧ t ≠ 9 ∧ t ≠ 3 ∧ t ≠ 119) : g ≠ g2 := by
 obtain ⟨R, hN, _, _, _, p2, _⟩ := h.opn
 rw [hg, Option.some.injEq, Value.slice.injEq] at p2
 intro e
 exact hN.off hB ht none (by rw [← p2.1, e]; rfl)
theorem RS.blkR (h : RS w b a S) : ∃ cs, Blk w b.pB 110 cs := let ⟨_, _, h2⟩ := h.mem; ⟨_, h2⟩
theorem RS.fz (h : RS w b a S) {i g n' c' : Nat} {x : Nd} (hx : S[i]? = some x) (hg : w.cell? ⟨b.pB, 2, none⟩ = some (.slice (some ⟨g, 0, none⟩) n' c')) (j : Nat) : w.frozen? ⟨g, j, none⟩ = false := by
 obtain ⟨R, hN, _, _, _, p2, _⟩ := h.opn
 rw [hg, Option.some.injEq, Value.slice.injEq] at p2
 obtain ⟨g', hg', _, _, _, hz⟩ := hN.at_ hx
 rw [← p2.1] at hg'
 injection hg' with hg'
 injection hg' with hg'
 subst hg'
 exact hz j
def TitlePost (b : RB) (w : World) (a : Nat) (S : List Nd) (n : Nat) (e : Ending) (w' : World) : Prop :=
 if pNm (tokAt b.T a).tt = true then (if (pCalled S (tokAt b.T a).s).isSome = true then Gv b w (tokAt b.T a).at_ 6 e w' else Un b w (a + 1) (S.modify n fun y => { y with name := (tokAt b.T a).s }) e w')
 else Gv b w (tokAt b.T a).at_ 4 e w'
theorem title_any (h : RS w b a S) (ha : a < b.T.length) {n : Nat} {x : Nd} (hn : S[n]? = some x) (hx : 9 ≤ x.k) :
  Calls Tryz.prog 173 #[.pointer (some ⟨b.pB, 0, none⟩), .int .i64 (n : Int)] w (TitlePost b w a S n) := by
 have hw := h.hw
 have hnl : n < S.length := (List.getElem?_eq_some_iff.1 hn).1
 have key := name_any_ h ha
 unfold NamePost at key
 unfold TitlePost
 by_cases hp : pNm (tokAt b.T a).tt = true
 case neg =>
  simp only [if_neg hp] at key ⊢
  go_enter Tryz.func173, Tryz.ntmps173
  go_wp2_with (go_at_call 184; refine key.mono ?_; rintro e w1 ⟨rfl, f1⟩; unfold giveV)
  exact ⟨rfl, rfl, f1⟩
 case pos =>
  have hne : (tokAt b.T a).s ≠ [] := pNm_ne hp
  simp only [if_pos hp] at key ⊢
  obtain ⟨t, ht⟩ : ∃ t, t = tokAt b.T a := ⟨_, rfl⟩
  rw [← ht] at key hne ⊢
  clear ht hp
  have hfc := fnd_called h.ok hne
  cases hc : pCalled S t.s with
  | some m =>
   rw [hc] at hfc
   simp only [Option.isSome_some, if_true]
   have hf := fun {w : World} (h : RS w b (a + 1) S) => find_any h t.s
   rw [hfc] at hf
   clear hfc hc
   go_enter Tryz.func173, Tryz.ntmps173
   go_wp2_with (first
    | (go_at_call 184; refine key.mono ?_; rintro e w1 ⟨rfl, h1, f1⟩)
    | (refine wp_var rfl rfl 90 _ _ rfl rfl rfl rfl zTok (fun _ => rfl) (xs := tc t) (fun _ => rfl) rfl szTok (tc_one t) ?_; intro g2 w2 hgg2 hb2 ht2; have c1 := tok1 hb2; have c0 := tok0 hb2)
    | (go_at_call 143; refine (hf (h1.turn0 ht2)).mono ?_; rintro e w3 ⟨rfl, ht3⟩)
    | (refine wp_ld rfl 90 _ rfl rfl (hb2.turn0 ht3) (Sub.all (tc t)) Tryz.underlying90 rfl szTok ?_)
    | (go_at_call 114; refine (refuse_any t 6 _).mono ?_; rintro e w4 ⟨rfl, ht4⟩; unfold giveV))
   exact ⟨rfl, rfl, ((f1.turn ht2 hw).turn ht3 hw).turn ht4 hw⟩
  | none =>
   rw [hc] at hfc
   simp only [Option.isSome_none, Bool.false_eq_true, if_false]
   have hf := fun {w : World} (h : RS w b (a + 1) S) => find_any h t.s
   rw [hfc] at hf
   clear hfc hc
   go_enter Tryz.func173, Tryz.ntmps173
   go_wp2_with (first
    | (go_at_call 184; refine key.mono ?_; rintro e w1 ⟨rfl, h1, f1⟩)
    | (refine wp_var rfl rfl 90 _ _ rfl rfl rfl rfl zTok (fun _ => rfl) (xs := tc t) (fun _ => rfl) rfl szTok (tc_one t) ?_; intro g2 w2 hgg2 hb2 ht2; have c1 := tok1 hb2; have c0 := tok0 hb2)
    | (go_at_call 143; refine (hf (h1.turn0 ht2)).mono ?_; rintro e w3 ⟨rfl, ht3⟩))
   have h3 := (h1.turn0 ht2).turn0 ht3
   have d1 := tok1 (hb2.turn0 ht3)
   obtain ⟨R, g, hN, p2, hA, hg, hcs⟩ := h3.nd hn
   have fz := h3.fz hn p2 (n * 6 + 1)
   have cn : w3.cell? ⟨g, n * 6 + 1, none⟩ = some (.string (txt x.name)) := hcs 1 _ rfl
   have f3 := (f1.turn ht2 hw).turn ht3 hw
   obtain ⟨_, hbR⟩ := h3.blkR
   have ne1 : g ≠ b.pB := h3.ne p2 hbR ty_R
   have ne2 : g ≠ g2 := h3.ne p2 (hb2.turn0 ht3) (by decide)
   obtain ⟨h4, f4⟩ := h3.scalar (jj := 1) (u := .string (txt t.s)) (gg := fun y => { y with name := t.s }) hn (by omega) (fun R => rfl) rfl rfl rfl (fun (hk : x.k < 9) => by omega) p2
   go_region_held3 (fun W => W.cell? ⟨b.pB, 2, none⟩ = some (.slice (some ⟨g, 0, none⟩) S.length (R none).c) ∧ W.cell? ⟨g2, 1, none⟩ = some (.string (txt t.s))) (go_keep) (fail)
   go_wp2
   go_end0
   have hd := Turn.drew (Turn.refl (w3.setCell ⟨g, n * 6 + 1, none⟩ (.string (txt t.s))) none)
   exact ⟨rfl, h4.turn0 hd, (f3.trans f4).turn hd hw⟩
def SizePost (b : RB) (w : World) (a : Nat) (S : List Nd) (n : Nat) (e : Ending) (w' : World) : Prop :=
 if wOk (tokAt b.T a).s = true then Un b w (a + 1) (S.modify n fun y => { y with size := wNumAt (tokAt b.T a).s }) e w' else Gv b w (tokAt b.T a).at_ 4 e w'
theorem size_any (h : RS w b a S) (ha : a < b.T.length) {n : Nat} {x : Nd} (hn : S[n]? = some x) (hx : 9 ≤ x.k) :
  Calls Tryz.prog 175 #[.pointer (some ⟨b.pB, 0, none⟩), .int .i64 (n : Int)] w (SizePost b w a S n) := by
 have hw := h.hw
 have hl := h.brief _ ha
 have hnl : n < S.length := (List.getElem?_eq_some_iff.1 hn).1
 unfold SizePost
 obtain ⟨t, ht⟩ : ∃ t, t = tokAt b.T a := ⟨_, rfl⟩
 rw [← ht] at hl ⊢
 have HT := hid ht
 clear ht
 have num := fun w => lexDone.number _ t.s w rfl (by omega)
 by_cases hp : wOk t.s = true
 case neg =>
  rw [if_neg hp, show wOk t.s = false by simpa using hp] at num
  simp only [if_neg hp]
  go_enter Tryz.func175, Tryz.ntmps175
  go_wp2_with (first
   | (go_at_call 113; refine (take_t HT h ha).mono ?_; rintro e w1 ⟨rfl, h1, f1⟩)
   | (refine wp_var rfl rfl 90 _ _ rfl rfl rfl rfl zTok (fun _ => rfl) (xs := tc t) (fun _ => rfl) rfl szTok (tc_one t) ?_; intro g2 w2 hgg2 hb2 ht2; have c1 := tok1 hb2; have c0 := tok0 hb2)
   | (go_at_call 185; refine (num _).mono ?_; rintro e w3 ⟨rfl, ht3⟩)
   | (refine wp_ld rfl 90 _ rfl rfl (hb2.turn0 ht3) (Sub.all (tc t)) Tryz.underlying90 rfl szTok ?_)
   | (go_at_call 114; refine (refuse_any t 4 _).mono ?_; rintro e w4 ⟨rfl, ht4⟩; unfold giveV))
  exact ⟨rfl, rfl, ((f1.turn ht2 hw).turn ht3 hw).turn ht4 hw⟩
 case pos =>
  rw [if_pos hp, hp] at num
  obtain ⟨z, hz⟩ : ∃ z, z = wNumAt t.s := ⟨_, rfl⟩
  simp only [if_pos hp]
  rw [← hz] at num ⊢
  clear hz
  go_enter Tryz.func175, Tryz.ntmps175
  go_upto_region 4 with (first
   | (go_at_call 113; refine (take_t HT h ha).mono ?_; rintro e w1 ⟨rfl, h1, f1⟩)
   | (refine wp_var rfl rfl 90 _ _ rfl rfl rfl rfl zTok (fun _ => rfl) (xs := tc t) (fun _ => rfl) rfl szTok (tc_one t) ?_; intro g2 w2 hgg2 hb2 ht2; have c1 := tok1 hb2; have c0 := tok0 hb2)
   | (go_at_call 185; refine (num _).mono ?_; rintro e w3 ⟨rfl, ht3⟩))
  have h3 := (h1.turn0 ht2).turn0 ht3
  obtain ⟨R, g, hN, p2, hA, hg, hcs⟩ := h3.nd hn
  have fz := h3.fz hn p2 (n * 6 + 2)
  have cn : w3.cell? ⟨g, n * 6 + 2, none⟩ = some (.int .i64 (x.size : Int)) := hcs 2 _ rfl
  have f3 := (f1.turn ht2 hw).turn ht3 hw
  obtain ⟨h4, f4⟩ := h3.scalar (jj := 2) (u := .int .i64 (z : Int)) (gg := fun y => { y with size := z }) hn (by omega) (fun R => rfl) rfl rfl rfl (fun (hk : x.k < 9) => by omega) p2
  go_wp2
  go_end0
  exact ⟨rfl, h4, f3.trans f4⟩
end
open Go.RowKit
section
variable {w w1 : World} {b : RB} {a : Nat} {S : List Nd} {R : Ix → Rw}
theorem RS.slot (h : RS w b a S) (hN : NR w b.base R S) (hrb : Blk w b.pB 110 (rsCells b.A0 b.c0 b.T R a).toArray) {i j g : Nat} {x : Nd} {gg : Nd → Nd} (hx : S[i]? = some x) (hA : (R none).A = some ⟨g, 0, none⟩) (hj : j < 3) {r : Rw} (ho : r.own w1 b.base)
  (ht : Turn w w1 (blk (R (some (i, j))).A)) (hb : blk r.A = blk (R (some (i, j))).A ∨ ∃ q, blk r.A = some q ∧ w.heap.size ≤ q) (hty : r.E = 9 ∨ r.E = 3 ∨ r.E = 119) (hk : (gg x).k = x.k ∧ (gg x).name = x.name ∧ (gg x).size = x.size)
  (h0 : Sh (if j = 0 then r else R (some (i, 0))) 9 1 (gg x).syms.length (vss (gg x).syms)) (h1 : Sh (if j = 1 then r else R (some (i, 1))) 3 1 (gg x).items.length (vis ((gg x).items.map Int.ofNat)))
  (h2 : Sh (if j = 2 then r else R (some (i, 2))) 119 3 (gg x).fields.length (vfs ((gg x).fields.map Fl.g))) (hok : NOk (S.modify i gg) a) :
  RS (w1.setCell ⟨g, i * 6 + (3 + j), none⟩ r.v) b a (S.modify i gg) ∧ Fr b.base w (w1.setCell ⟨g, i * 6 + (3 + j), none⟩ r.v) := by
 have hR : NdTy (R (some (i, j))).E := hN.ty _
 have f1 : Fr b.base w w1 := Fr.row (hN.aps.own (some (i, j))) hR ht h.hw
 have hN2 := hN.slot (gg := gg) hx hA hj ho ht hb hty hk h0 h1 h2
 have hne : blk (R (some (i, j))).A = none ∨ blk (R none).A ≠ blk (R (some (i, j))).A := by
  cases hq : blk (R (some (i, j))).A with
  | none => exact .inl rfl
  | some q => exact .inr fun e => hN.aps.off none (some (i, j)) (by simp) q e hq
 have hown : Own w1 b.base 64 6 (some ⟨g, 0, none⟩) S.length (R none).c (ndCells R 0 S) := by
  have := hN.own
  rw [hA] at this
  refine Own.turn this ht (hne.imp id fun e => ?_)
  rw [← hA]; exact e
 have f2 : Fr b.base w1 (w1.setCell ⟨g, i * 6 + (3 + j), none⟩ r.v) := Fr.row (A := some ⟨g, 0, none⟩) hown (.inl rfl) (hown.storeTurn _ _) (Nat.le_trans h.hw ht.size)
 have hrb1 := hrb.turn ht (fun e => hN.off hrb ty_R (some (i, j)) e.symm)
 have hrb2 := hrb1.turn (hown.storeTurn (i * 6 + (3 + j)) r.v) (fun e => hN.off hrb ty_R none (by rw [hA]; exact e.symm))
 refine ⟨h.keep (f1.trans f2) hN2 ?_ hok, f1.trans f2⟩
 have e : rsCells b.A0 b.c0 b.T (upd (upd R (some (i, j)) r) none ⟨64, 6, some ⟨g, 0, none⟩, S.length, (R none).c, ndCells (upd R (some (i, j)) r) 0 (S.modify i gg)⟩) a = rsCells b.A0 b.c0 b.T R a := by
  unfold rsCells
  rw [upd_same]
  unfold Rw.v
  rw [hA, hN.len]
 rw [e]
 exact hrb2
structure NdAt (w : World) (b : RB) (a : Nat) (S : List Nd) (R : Ix → Rw) (g i : Nat) (x : Nd) : Prop where
 hN : NR w b.base R S
 hrb : Blk w b.pB 110 (rsCells b.A0 b.c0 b.T R a).toArray
 p2 : w.cell? ⟨b.pB, 2, none⟩ = some (.slice (some ⟨g, 0, none⟩) S.length (R none).c)
 hA : (R none).A = some ⟨g, 0, none⟩
 n0 : w.cell? ⟨g, i * 6, none⟩ = some (.int .i64 (x.k : Int))
 n3 : w.cell? ⟨g, i * 6 + 3, none⟩ = some (.slice (R (some (i, 0))).A x.syms.length (R (some (i, 0))).c)
 n4 : w.cell? ⟨g, i * 6 + 4, none⟩ = some (.slice (R (some (i, 1))).A x.items.length (R (some (i, 1))).c)
 n5 : w.cell? ⟨g, i * 6 + 5, none⟩ = some (.slice (R (some (i, 2))).A x.fields.length (R (some (i, 2))).c)
 fz : ∀ j, w.frozen? ⟨g, j, none⟩ = false
 ne : g ≠ b.pB
theorem RS.ndAt (h : RS w b a S) {i : Nat} {x : Nd} (hx : S[i]? = some x) : ∃ R g, NdAt w b a S R g i x := by
 obtain ⟨R, hN, hrb, _, _, p2, _⟩ := h.opn
 obtain ⟨g, hA, hg, _, hc, hz⟩ := hN.at_ hx
 rw [hA] at p2
 refine ⟨R, g, hN, hrb, p2, hA, hc 0 _ rfl, (hc 3 _ rfl).trans ?_, (hc 4 _ rfl).trans ?_, (hc 5 _ rfl).trans ?_, hz, h.ne p2 hrb ty_R⟩
 ·show some (Value.slice _ (R (some (i, 0))).n _) = _
  rw [(hN.syms i x hx).2.2.1]
 ·show some (Value.slice _ (R (some (i, 1))).n _) = _
  rw [(hN.items i x hx).2.2.1]
 ·show some (Value.slice _ (R (some (i, 2))).n _) = _
  rw [(hN.fields i x hx).2.2.1]
theorem NdAt.turn0 {i g : Nat} {x : Nd} (h : NdAt w b a S R g i x) (ht : Turn w w1 none) : NdAt w1 b a S R g i x := by
 have lp := h.hrb.lt
 have lg := World.block_lt_of_cell? w _ h.n0
 have hc : ∀ j v, w.cell? ⟨g, j, none⟩ = some v → w1.cell? ⟨g, j, none⟩ = some v := fun j v hv => (ht.cell (a := ⟨g, j, none⟩) lg (by simp)).trans hv
 refine ⟨h.hN.turn0 ht, h.hrb.turn0 ht, (ht.cell (a := ⟨b.pB, 2, none⟩) lp (by simp)).trans h.p2, h.hA, hc _ _ h.n0, hc _ _ h.n3, hc _ _ h.n4, hc _ _ h.n5, fun j => ?_, h.ne⟩
 have ho := h.hN.turn0 ht |>.own
 rw [h.hA] at ho
 exact ho.frozen j
theorem NdAt.q1 {i g : Nat} {x : Nd} (h : NdAt w b a S R g i x) (j : Nat) : some b.pB ≠ blk (R (some (i, j))).A := fun e => h.hN.off h.hrb ty_R _ e.symm
theorem NdAt.q2 {i g : Nat} {x : Nd} (h : NdAt w b a S R g i x) (j : Nat) : some g ≠ blk (R (some (i, j))).A := fun e => h.hN.aps.off none (some (i, j)) (by simp) g (by rw [h.hA]; rfl) e.symm
theorem NdAt.q3 {i g g2 : Nat} {x : Nd} {cs : Array Value} (h : NdAt w b a S R g i x) (j : Nat) (hb : Blk w g2 90 cs) : some g2 ≠ blk (R (some (i, j))).A := fun e => h.hN.off hb (by decide) _ e.symm
end
theorem index_s_any (A : Option Addr) (n c : Nat) (l : List (List UInt8)) (x : List UInt8) (B : Nat) (w : World) (hl : l.length = n) (ha : Rd w B 1 A n (vss l)) (hn : n ≤ 1000000) :
  Calls Tryz.prog 103 #[.slice A n c, .string (txt x)] w fun e w' => (∃ i : Int, e = .returned (.int .i64 i) ∧ decide (0 ≤ i) = l.contains x) ∧ w = w' := by
 go_enter Tryz.func103, Tryz.ntmps103
 go_wp2
 go_loopw [8] (fun i wr => ∃ j : Nat, j ≤ n ∧ i = .int .i64 (j : Int) ∧ Hid (∀ m z, m < j → l[m]? = some z → z ≠ x) ∧ wr = w) (fun i _ => (n - intOf i).toNat)
 case atStart => exact ⟨0, by omega, rfl, hid (fun m x h => absurd h (Nat.not_lt_zero m)), rfl⟩
 case round =>
  obtain ⟨j, hj, rfl, HNO, rfl⟩ := hrel
  by_cases hjn : j < n
  ·obtain ⟨y, hy⟩ : ∃ y, l[j]? = some y := ⟨l[j]'(by omega), List.getElem?_eq_getElem (by omega)⟩
   obtain ⟨b1, o1, rfl, _, h1⟩ := ha.head (by omega)
   have hc1 := h1 j _ (vss_at hy)
   have HY := hid hy
   clear h1 hy
   by_cases hxy : y = x
   ·have e1 : ((txt x).toList == (txt y).toList) = true := by rw [tx_beq]; simpa using hxy.symm
    have HX := hid hxy
    clear hxy
    go_wp2
    go_ret
    refine ⟨⟨(j : Int), rfl, ?_⟩, rfl⟩
    rw [decide_eq_true (by omega)]
    symm
    rw [List.contains_iff_mem, ← HX.out]
    exact List.mem_of_getElem? HY.out
   ·have e1 : ((txt x).toList == (txt y).toList) = false := by rw [tx_beq]; simpa using fun e => hxy e.symm
    have HX := hid hxy
    clear hxy
    go_wp2
    refine ⟨⟨j + 1, by omega, by go_num, hid (fun m z hm hz => ?_), ?_⟩, by simp [intOf]; omega⟩
    ·rcases Nat.lt_or_ge m j with h | h
     ·exact HNO.out m z h hz
     ·obtain rfl : m = j := by omega
      rw [HY.out, Option.some.injEq] at hz
      rw [← hz]
      exact HX.out
    ·first | rfl | trivial
  ·obtain rfl : j = n := by omega
   go_wp2
   go_ret
   refine ⟨⟨-1, rfl, ?_⟩, rfl⟩
   rw [decide_eq_false (by omega)]
   symm
   rw [← Bool.not_eq_true, List.contains_iff_mem]
   intro hm
   obtain ⟨m, hml, e⟩ := List.mem_iff_getElem.1 hm
   exact HNO.out m l[m] (by omega) (List.getElem?_eq_getElem hml) e
theorem contains_any (A : Option Addr) (n c : Nat) (l : List (List UInt8)) (x : List UInt8) (B : Nat) (w : World) (hl : l.length = n) (ha : Rd w B 1 A n (vss l)) (hn : n ≤ 1000000) :
  Calls Tryz.prog 96 #[.slice A n c, .string (txt x)] w fun e w' => e = .returned (.bool (l.contains x)) ∧ w = w' := by
 go_enter Tryz.func96, Tryz.ntmps96
 go_wp2_with (go_at_call 103; refine (index_s_any A n c l x B _ hl ha hn).mono ?_; rintro e w2 ⟨⟨i, rfl, hi⟩, rfl⟩; have HI := hid hi; clear hi)
 go_ret
 exact ⟨by rw [← HI.out]; rfl, rfl⟩
open Go.RowKit
theorem quiet_eq {P : Program} {f : FuncId} {args : Array Value} {w : World} {n : Nat} {v : Value}
  (h : Calls P f args (w.drewN n) fun e w' => e = .returned v ∧ w.drewN n = w') : Calls P f args (w.drewN n) fun e w'' => e = .returned v ∧ ∃ m, w'' = w.drewN m :=
 h.mono fun _ _ ⟨he, hm⟩ => ⟨he, n, hm.symm⟩
def SymPost (b : RB) (w : World) (a : Nat) (S : List Nd) (n : Nat) (ys : List (List UInt8)) (e : Ending) (w' : World) : Prop :=
 if pNm (tokAt b.T a).tt = true then (if ys.contains (tokAt b.T a).s = true then Gv b w (tokAt b.T a).at_ 6 e w' else Un b w (a + 1) (S.modify n fun y => { y with syms := y.syms ++ [(tokAt b.T a).s] }) e w')
 else Gv b w (tokAt b.T a).at_ 4 e w'
theorem symbol_any {w : World} {b : RB} {a : Nat} {S : List Nd} (h : RS w b a S) (ha : a < b.T.length) {n : Nat} {x : Nd} (hn : S[n]? = some x) (hx : 9 ≤ x.k) :
  Calls Tryz.prog 174 #[.pointer (some ⟨b.pB, 0, none⟩), .int .i64 (n : Int)] w (SymPost b w a S n x.syms) := by
 have hw := h.hw
 have hnl : n < S.length := (List.getElem?_eq_some_iff.1 hn).1
 have hsm := h.ok.small x (List.mem_of_getElem? hn)
 have hin := h.ok.inn x (List.mem_of_getElem? hn)
 have hfew := h.few
 have key := name_any_ h ha
 unfold NamePost at key
 unfold SymPost
 by_cases hp : pNm (tokAt b.T a).tt = true
 case neg =>
  simp only [if_neg hp] at key ⊢
  go_enter Tryz.func174, Tryz.ntmps174
  go_wp2_with (go_at_call 184; refine key.mono ?_; rintro e w1 ⟨rfl, f1⟩; unfold giveV)
  exact ⟨rfl, rfl, f1⟩
 case pos =>
  simp only [if_pos hp] at key ⊢
  obtain ⟨t, ht⟩ : ∃ t, t = tokAt b.T a := ⟨_, rfl⟩
  rw [← ht] at key ⊢
  clear ht hp
  have hc1 := fun (A : Option Addr) (c B : Nat) (w : World) (hr : Rd w B 1 A x.syms.length (vss x.syms)) => contains_any A _ c x.syms t.s B w rfl hr (by omega)
  cases hc : x.syms.contains t.s with
  | true =>
   rw [hc] at hc1
   simp only [if_true]
   have HC := hid hc
   clear hc
   go_enter Tryz.func174, Tryz.ntmps174
   go_wp2_with (first
    | (go_at_call 184; refine key.mono ?_; rintro e w1 ⟨rfl, h1, f1⟩)
    | (refine wp_var rfl rfl 90 _ _ rfl rfl rfl rfl zTok (fun _ => rfl) (xs := tc t) (fun _ => rfl) rfl szTok (tc_one t) ?_; intro g2 w2 hgg2 hb2 ht2; have c1 := tok1 hb2; have c0 := tok0 hb2))
   have h2 := h1.turn0 ht2
   obtain ⟨R, g, nd⟩ := h2.ndAt hn
   have p2 := nd.p2
   have n3 := nd.n3
   have hr := ((nd.hN.syms n x hn).own (nd.hN.aps.own _)).rd
   go_quiet ((go_at_call 96; exact quiet_eq (hc1 _ _ _ _ hr)))
   have hT : Turn w2 (w2.drewN nq) none := (Turn.refl w2 none).drewN nq
   go_wp2_with (first
    | (refine wp_ld rfl 90 _ rfl rfl (hb2.turn0 hT) (Sub.all (tc t)) Tryz.underlying90 rfl szTok ?_)
    | (go_at_call 114; refine (refuse_any t 6 _).mono ?_; rintro e w4 ⟨rfl, ht4⟩; unfold giveV))
   exact ⟨rfl, rfl, ((f1.turn ht2 hw).turn hT hw).turn ht4 hw⟩
  | false =>
   rw [hc] at hc1
   simp only [Bool.false_eq_true, if_false]
   have HC := hid hc
   clear hc
   go_enter Tryz.func174, Tryz.ntmps174
   go_wp2_with (first
    | (go_at_call 184; refine key.mono ?_; rintro e w1 ⟨rfl, h1, f1⟩)
    | (refine wp_var rfl rfl 90 _ _ rfl rfl rfl rfl zTok (fun _ => rfl) (xs := tc t) (fun _ => rfl) rfl szTok (tc_one t) ?_; intro g2 w2 hgg2 hb2 ht2; have c1 := tok1 hb2; have c0 := tok0 hb2))
   have h2 := h1.turn0 ht2
   obtain ⟨R, g, nd⟩ := h2.ndAt hn
   have p2 := nd.p2
   have n3 := nd.n3
   have hr := ((nd.hN.syms n x hn).own (nd.hN.aps.own _)).rd
   go_quiet ((go_at_call 96; exact quiet_eq (hc1 _ _ _ _ hr)))
   have hT : Turn w2 (w2.drewN nq) none := (Turn.refl w2 none).drewN nq
   go_wp2_with (fail)
   obtain ⟨w3, hw3⟩ : ∃ w3, w3 = w2.drewN nq := ⟨_, rfl⟩
   rw [← hw3]
   rw [← hw3] at hT
   clear hw3
   have h3 := h2.turn0 hT
   have hb3 := hb2.turn0 hT
   have d1 := tok1 hb3
   have f3 := (f1.turn ht2 hw).turn hT hw
   clear p2 n3 hr
   have nd3 := nd.turn0 hT
   have hN := nd3.hN
   have hrb := nd3.hrb
   have p2 := nd3.p2
   have n3 := nd3.n3
   have hgp := nd3.ne
   have hw3 := h3.hw
   have hown := nd3.hN.own
   rw [nd3.hA] at hown
   have fz3 := nd3.fz (n * 6 + 3)
   have hO := (hN.syms n x hn).own (hN.aps.own _)
   have lp := hrb.lt
   have lg := World.block_lt_of_cell? w3 _ nd3.n0
   have l2 := hb3.lt
   have q1 := nd3.q1 0
   have q2 := nd3.q2 0
   have q3 := nd3.q3 0 hb3
   have ne2 : g ≠ g2 := h3.ne p2 hb3 (by decide)
   have tA : Turn w3 (w3.alloc (.cells #[.string (txt t.s)] 9)).drew none := ((Turn.refl w3 none).alloc _).drew
   have pA := (tA.cell (a := ⟨b.pB, 2, none⟩) lp (by simp)).trans p2
   have dA := (tA.cell (a := ⟨g2, 1, none⟩) l2 (by simp)).trans d1
   have nA := (tA.cell (a := ⟨g, n * 6 + 3, none⟩) lg (by simp)).trans n3
   have hwA : b.base ≤ (w3.alloc (.cells #[.string (txt t.s)] 9)).drew.heap.size := Nat.le_trans h3.hw tA.size
   have hsA : w3.heap.size ≤ (w3.alloc (.cells #[.string (txt t.s)] 9)).drew.heap.size := tA.size
   have hA := nd3.hA
   refine wp_region_noPanic ?_
   refine wp_region_held_drew (S := (fun W => W.cell? ⟨b.pB, 2, none⟩ = some (.slice (some ⟨g, 0, none⟩) S.length (R none).c) ∧ W.cell? ⟨g2, 1, none⟩ = some (.string (txt t.s)))) (by kernel_rfl) (⟨p2, d1⟩) (fun hHeld => ?_)
   (first | refine tkN 0 ?_ | refine tkY 0 _ ?_); (try simp only [Act.put, zs])
   (first | refine tkN 1 ?_ | refine tkY 1 _ ?_); (try simp only [Act.put, zs])
   (first | refine tkN 2 ?_ | refine tkY 2 _ ?_); (try simp only [Act.put, zs])
   (first | refine tkN 3 ?_ | refine tkY 3 _ ?_); (try simp only [Act.put, zs])
   (first | refine tkN 4 ?_ | refine tkY 4 _ ?_); (try simp only [Act.put, zs])
   (first | refine tkN 5 ?_ | refine tkY 5 _ ?_); (try simp only [Act.put, zs])
   (first | refine tkN 6 ?_ | refine tkY 6 _ ?_); (try simp only [Act.put, zs])
   (first | refine tkN 7 ?_ | refine tkY 7 _ ?_); (try simp only [Act.put, zs])
   (first | refine tkN 8 ?_ | refine tkY 8 _ ?_); (try simp only [Act.put, zs])
   (first | refine tkN 9 ?_ | refine tkY 9 _ ?_); (try simp only [Act.put, zs])
   (first | refine tkN 10 ?_ | refine tkY 10 _ ?_); (try simp only [Act.put, zs])
   (first | refine tkN 11 ?_ | refine tkY 11 _ ?_); (try simp only [Act.put, zs])
   (first | refine tkN 13 ?_ | refine tkY 13 _ ?_); (try simp only [Act.put, zs])
   (first | refine tkN 14 ?_ | refine tkY 14 _ ?_); (try simp only [Act.put, zs])
   refine wpAnyH_ready (rs := [12, 15]) (by kernel_rfl) (by simp) ?_; refine AllReadyH.cons rfl (fun K hK => ?_) (AllReadyH.cons rfl (fun K hK => ?_) AllReadyH.nil)
   ·go_simp
    refine hK.out _ _ ⟨p2, d1⟩ (fun hHeld => ?_); clear hK K; (try simp only [Act.put, zs])
    refine wpAnyH_ready (rs := [15]) (by kernel_rfl) (by simp) ?_; refine AllReadyH.cons rfl (fun K hK => ?_) AllReadyH.nil
    go_simp
    refine hK.out _ _ ⟨pA, dA⟩ (fun hHeld => ?_); clear hK K; (try simp only [Act.put, zs])
    refine wpAnyH_ready (rs := [16]) (by kernel_rfl) (by simp) ?_; refine AllReadyH.cons rfl (fun K hK => ?_) AllReadyH.nil
    refine st_app (base := b.base) rfl _ _ _ rfl elS rfl rfl (hO.alloc _).drew (Rd.litS w3 _ 1 1 [.string (txt t.s)] rfl).drew (by repeat (first | exact ones_nil | refine ones_cons rfl ?_)) (by unfold maxLen; first | omega | (simp; done) | (simp; omega)) (by first | omega | (simp; done) | (simp; omega)) hwA ?_
    intro A5 c5 w5 ho5 ht5 hb5
    have ht6 : Turn w3 w5 (blk (R (some (n, 0))).A) := (((Turn.refl w3 _).alloc _).drew).trans ht5
    have k1 := (ht6.cell (a := ⟨b.pB, 2, none⟩) lp q1).trans p2
    have k2 := (ht6.cell (a := ⟨g2, 1, none⟩) l2 q3).trans d1
    have k3 := (ht6.cell (a := ⟨g, n * 6 + 3, none⟩) lg q2).trans n3
    have fz5 := (hown.turn ht6 (.inr q2)).frozen (n * 6 + 3)
    refine hK.out _ _ ⟨k1, k2⟩ (fun hHeld => ?_); clear hK K; (try simp only [Act.put, zs])
    (first | refine tkN 17 ?_ | refine tkY 17 _ ?_); (try simp only [Act.put, zs])
    (first | refine tkN 18 ?_ | refine tkY 18 _ ?_); (try simp only [Act.put, zs])
    refine wpAnyH_ready (rs := [19]) (by kernel_rfl) (by simp) ?_; refine AllReadyH.cons rfl (fun K hK => ?_) AllReadyH.nil
    go_simp
    refine hK.out _ _ ⟨(World.cell?_setCell_far _ _ _ _ hgp).trans k1, (World.cell?_setCell_far _ _ _ _ ne2).trans k2⟩ (fun hHeld => ?_); clear hK K; (try simp only [Act.put, zs])
    refine wpAnyH_done (by kernel_rfl) ?_ _
    refine NoPanic.normal ?_
    clear hHeld
    obtain ⟨h4, f4⟩ := h3.slot (w1 := w5) (gg := fun y => { y with syms := y.syms ++ [t.s] }) (r := ⟨9, 1, A5, x.syms.length + 1, c5, vss x.syms ++ [Value.string (txt t.s)]⟩) hN hrb hn hA (j := 0) (by omega) ho5 ht6 (hb5.imp id fun e => ⟨_, e, hsA⟩) (.inl rfl) ⟨rfl, rfl, rfl⟩
     ⟨rfl, rfl, by simp, by simp [vss]⟩ (hN.items n x hn) (hN.fields n x hn) (h3.ok.mod hn (Nat.le_refl _) (fun (hk : x.k < 9) => by omega) ⟨by simp; omega, by show x.items.length ≤ a + 1; omega, by show x.fields.length ≤ a + 1; omega⟩ hin)
    go_wp2
    go_end0
    exact ⟨rfl, h4, f3.trans f4⟩
   ·go_simp
    refine hK.out _ _ ⟨pA, dA⟩ (fun hHeld => ?_); clear hK K; (try simp only [Act.put, zs])
    refine wpAnyH_ready (rs := [12]) (by kernel_rfl) (by simp) ?_; refine AllReadyH.cons rfl (fun K hK => ?_) AllReadyH.nil
    go_simp
    refine hK.out _ _ ⟨pA, dA⟩ (fun hHeld => ?_); clear hK K; (try simp only [Act.put, zs])
    refine wpAnyH_ready (rs := [16]) (by kernel_rfl) (by simp) ?_; refine AllReadyH.cons rfl (fun K hK => ?_) AllReadyH.nil
    refine st_app (base := b.base) rfl _ _ _ rfl elS rfl rfl (hO.alloc _).drew (Rd.litS w3 _ 1 1 [.string (txt t.s)] rfl).drew (by repeat (first | exact ones_nil | refine ones_cons rfl ?_)) (by unfold maxLen; first | omega | (simp; done) | (simp; omega)) (by first | omega | (simp; done) | (simp; omega)) hwA ?_
    intro A5 c5 w5 ho5 ht5 hb5
    have ht6 : Turn w3 w5 (blk (R (some (n, 0))).A) := (((Turn.refl w3 _).alloc _).drew).trans ht5
    have k1 := (ht6.cell (a := ⟨b.pB, 2, none⟩) lp q1).trans p2
    have k2 := (ht6.cell (a := ⟨g2, 1, none⟩) l2 q3).trans d1
    have k3 := (ht6.cell (a := ⟨g, n * 6 + 3, none⟩) lg q2).trans n3
    have fz5 := (hown.turn ht6 (.inr q2)).frozen (n * 6 + 3)
    refine hK.out _ _ ⟨k1, k2⟩ (fun hHeld => ?_); clear hK K; (try simp only [Act.put, zs])
    (first | refine tkN 17 ?_ | refine tkY 17 _ ?_); (try simp only [Act.put, zs])
    (first | refine tkN 18 ?_ | refine tkY 18 _ ?_); (try simp only [Act.put, zs])
    refine wpAnyH_ready (rs := [19]) (by kernel_rfl) (by simp) ?_; refine AllReadyH.cons rfl (fun K hK => ?_) AllReadyH.nil
    go_simp
    refine hK.out _ _ ⟨(World.cell?_setCell_far _ _ _ _ hgp).trans k1, (World.cell?_setCell_far _ _ _ _ ne2).trans k2⟩ (fun hHeld => ?_); clear hK K; (try simp only [Act.put, zs])
    refine wpAnyH_done (by kernel_rfl) ?_ _
    refine NoPanic.normal ?_
    clear hHeld
    obtain ⟨h4, f4⟩ := h3.slot (w1 := w5) (gg := fun y => { y with syms := y.syms ++ [t.s] }) (r := ⟨9, 1, A5, x.syms.length + 1, c5, vss x.syms ++ [Value.string (txt t.s)]⟩) hN hrb hn hA (j := 0) (by omega) ho5 ht6 (hb5.imp id fun e => ⟨_, e, hsA⟩) (.inl rfl) ⟨rfl, rfl, rfl⟩
     ⟨rfl, rfl, by simp, by simp [vss]⟩ (hN.items n x hn) (hN.fields n x hn) (h3.ok.mod hn (Nat.le_refl _) (fun (hk : x.k < 9) => by omega) ⟨by simp; omega, by show x.items.length ≤ a + 1; omega, by show x.fields.length ≤ a + 1; omega⟩ hin)
    go_wp2
    go_end0
    exact ⟨rfl, h4, f3.trans f4⟩
end Go.Proofs.YtgigiecdpjchkaaGreatDoor
