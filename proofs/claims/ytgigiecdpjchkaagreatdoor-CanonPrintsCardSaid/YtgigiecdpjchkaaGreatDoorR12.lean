import Derived.Test.YtgigiecdpjchkaaGreatDoorR11
import Derived.Test.YtgigiecdpjchkaaGreatDoorR1
import Derived.Laws.IdiomStrings
import Derived.Laws.ResultCell
import Derived.OwnWalk
set_option linter.unusedSimpArgs false
set_option linter.unusedVariables false
set_option linter.unusedSectionVars false
set_option maxRecDepth 100000
set_option maxHeartbeats 6400000
namespace Go.Proofs.YtgigiecdpjchkaaGreatDoor.Sha
open Go.RowKit
theorem nul64 : ∀ w, (zeroValue 184).run Tryz.prog w = .ok (.agg (cvs (List.replicate 64 0#32)).toArray) w := zero_at (by kernel_rfl)
theorem sz64w {xs : List Value} (h : xs.length = 64) : (Tryz.prog.info? 184).map (·.size) = some xs.length := by rw [h]; kernel_rfl
theorem sz64b {xs : List Value} (h : xs.length = 64) : (Tryz.prog.info? 163).map (·.size) = some xs.length := by rw [h]; kernel_rfl
theorem cells_agg (cs : Array Value) : (Value.agg cs).cells = cs := rfl
theorem spread_any (m : List UInt8) (hm : m.length = 64) (w : World) :
  Calls Tryz.prog 153 #[.agg (vbs m).toArray] w fun e w' => e = .returned (.agg (cvs (sSpread m)).toArray) ∧ Turn w w' none := by
 have hT := Turn.refl w none
 obtain ⟨X, hX⟩ : ∃ X, X = cvs (sSpread m) := ⟨_, rfl⟩
 have hX1 : X.length = 64 := by rw [hX, cvs_len, sSpread_len]
 have hX2 : ∀ u ∈ X, u.oneCell' = true := by rw [hX]; exact cvs_one _
 rw [← hX]
 have HX := hid hX
 clear hX
 go_enter Tryz.func153, Tryz.ntmps153
 go_wp2_with (first
  | (refine wp_bx rfl 163 _ rfl rfl ?_; intro g1 w1 hg1 hb1 ht1; have hT := hT.trans ht1)
  | (refine wp_al rfl 184 rfl _ nul64 ?_; first
    | (have hh := hb2; clear hh; intro g3 w3 hg3 hb3 ht3; have hT := hT.trans ht3; have g23 : g2 < g3 := (by rw [← hg3]; exact hb2.lt); have hb2 := hb2.turn0 ht3; have hb1 := hb1.turn0 ht3; rw [cells_agg] at hb3)
    | (intro g2 w2 hg2 hb2 ht2; have hT := hT.trans ht2; have hb1 := hb1.turn0 ht2; rw [cells_agg] at hb2))
  | (refine wp_ld rfl 163 _ rfl rfl hb1 (Sub.all _) Tryz.underlying163 rfl (sz64b (by rw [vbs_len, hm])) ?_))
 have hs1 := ht1.size
 have hs2 := ht2.size
 have g12 := hb1.lt
 have g02 : w.heap.size ≤ g3 := by omega
 clear hb1 ht1 ht2 ht3
 go_loopw [8] (fun i wr => ∃ j : Nat, j ≤ 64 ∧ i = .int .i64 (j : Int) ∧ Blk wr g3 184 (cvs (sPart m j)).toArray ∧ Turn w3 wr (some g3)) (fun i _ => (64 - intOf i).toNat)
 case atStart => exact ⟨0, by omega, rfl, by rw [sPart_zero]; exact hb3, Turn.refl w3 _⟩
 case round =>
  obtain ⟨j, hj, rfl, hb, ht⟩ := hrel
  clear hb3
  by_cases hj64 : j < 64
  ·obtain ⟨c, hc⟩ : ∃ c, m[j]? = some c := ⟨m[j]'(by omega), List.getElem?_eq_getElem (by omega)⟩
   have hix := fun W : World => run_ix (P := Tryz.prog) (w := W) Tryz.underlying163 Tryz.underlying5 (by kernel_rfl) hj64 (show (vbs m).toArray[j]? = some (.int .u8 (c.toNat : Int)) by rw [List.getElem?_toArray, vbs, List.getElem?_map, hc]; rfl)
   have hcell := hb.ats (cvs_at (sPart_at m j (j / 4) (by omega)))
   have hfr := hb.frozen (j / 4)
   have hc256 := c.toNat_lt
   have hx := cV_bd (sWord (((m.take j).drop (4 * (j / 4))).take 4))
   go_wp2_with fail
   rw [cOr_code]
   refine ⟨⟨j + 1, by omega, rfl, ?_, ht.trans (Blk.setTurn wr g3 _ _)⟩, ?_⟩
   ·rw [← sPart_next hj64 hc, ← cvs_set]
    exact hb.sets _ _
   ·simp [intOf]; omega
  ·have hjj : j = 64 := by omega
   rw [hjj, sPart_all hm] at hb
   clear hjj
   go_wp2_with fail
   go_loopw [6] (fun v wr2 => ∃ i n : Nat, i = 16 + n ∧ n ≤ 48 ∧ v = .int .i64 (i : Int) ∧ Blk wr2 g3 184 (cvs (sTab m n)).toArray ∧ Turn w3 wr2 (some g3)) (fun i _ => (64 - intOf i).toNat)
   case atStart => exact ⟨16, 0, rfl, by omega, rfl, hb, ht⟩
   case round =>
    obtain ⟨i, n, hi, hn, rfl, hb, ht⟩ := hrel
    by_cases hn48 : n < 48
    ·obtain ⟨k16, hk16⟩ : ∃ k, k = i - 16 := ⟨_, rfl⟩
     obtain ⟨k15, hk15⟩ : ∃ k, k = i - 15 := ⟨_, rfl⟩
     obtain ⟨k7, hk7⟩ : ∃ k, k = i - 7 := ⟨_, rfl⟩
     obtain ⟨k2, hk2⟩ : ∃ k, k = i - 2 := ⟨_, rfl⟩
     have q16 := hb.ats (cvs_at (sTab_at m n k16 (by omega)))
     have w16 : IntKind.i64.wrap ((i : Int) - 16) = (k16 : Int) := by rw [IntKind.wrap_i64]; omega
     have l16 : (k16 : Int) < 64 := by omega
     have m16 : k16 < 64 := by omega
     have q15 := hb.ats (cvs_at (sTab_at m n k15 (by omega)))
     have w15 : IntKind.i64.wrap ((i : Int) - 15) = (k15 : Int) := by rw [IntKind.wrap_i64]; omega
     have l15 : (k15 : Int) < 64 := by omega
     have m15 : k15 < 64 := by omega
     have q7 := hb.ats (cvs_at (sTab_at m n k7 (by omega)))
     have w7 : IntKind.i64.wrap ((i : Int) - 7) = (k7 : Int) := by rw [IntKind.wrap_i64]; omega
     have l7 : (k7 : Int) < 64 := by omega
     have m7 : k7 < 64 := by omega
     have q2 := hb.ats (cvs_at (sTab_at m n k2 (by omega)))
     have w2 : IntKind.i64.wrap ((i : Int) - 2) = (k2 : Int) := by rw [IntKind.wrap_i64]; omega
     have l2 : (k2 : Int) < 64 := by omega
     have m2 : k2 < 64 := by omega
     obtain ⟨z, hz⟩ : ∃ z, (sTab m n)[i]? = some z := ⟨_, List.getElem?_eq_getElem (by rw [sTab_len hn]; omega)⟩
     have q0 := hb.ats (cvs_at hz)
     have qf := hb.frozen i
     have i64 : i < 64 := by omega
     have i64' : (i : Int) < 64 := by omega
     generalize e16 : (sMore (sFirst m 16) n).getD k16 0#32 = x16 at q16
     have d16 := cV_bd x16
     generalize e15 : (sMore (sFirst m 16) n).getD k15 0#32 = x15 at q15
     have d15 := cV_bd x15
     generalize e7 : (sMore (sFirst m 16) n).getD k7 0#32 = x7 at q7
     have d7 := cV_bd x7
     generalize e2 : (sMore (sFirst m 16) n).getD k2 0#32 = x2 at q2
     have d2 := cV_bd x2
     have d5 := cV_bd (sShi x15 7 18 3)
     have d6 := cV_bd (sShi x2 17 19 10)
     have j16 : i ≠ k16 := by omega
     have j15 : i ≠ k15 := by omega
     have j7 : i ≠ k7 := by omega
     have j2 : i ≠ k2 := by omega
     have H := hid (And.intro hi (And.intro hk16 (And.intro hk15 (And.intro hk7 hk2))))
     clear hi hk16 hk15 hk7 hk2
     go_wp2_with fail
     go_region_held3 (fun W => W.cell? ⟨g3, k16, none⟩ = some (.int .u32 (cV x16)) ∧ W.cell? ⟨g3, k15, none⟩ = some (.int .u32 (cV x15)) ∧ W.cell? ⟨g3, k7, none⟩ = some (.int .u32 (cV x7)) ∧ W.cell? ⟨g3, k2, none⟩ = some (.int .u32 (cV x2))) (first | exact ⟨q16, q15, q7, q2⟩ | exact ⟨(cell_set_ne j16).trans q16, (cell_set_ne j15).trans q15, (cell_set_ne j7).trans q7, (cell_set_ne j2).trans q2⟩) (first
      | (go_at_call_of 180 (Value.int .u32 (cV x15)); refine (shifted_of _ x15 rfl _ _ _ 7 18 3 rfl rfl rfl (by decide) (by decide) (by decide) (by decide) (by decide) _).mono ?_; rintro e w' ⟨rfl, q, rfl⟩)
      | (go_at_call_of 180 (Value.int .u32 (cV x2)); refine (shifted_of _ x2 rfl _ _ _ 17 19 10 rfl rfl rfl (by decide) (by decide) (by decide) (by decide) (by decide) _).mono ?_; rintro e w' ⟨rfl, q, rfl⟩))
     rw [cW_add, cW_add, cW_add]
     have hv : ((x16 + sShi x15 7 18 3) + x7) + sShi x2 17 19 10 = sNext (sMore (sFirst m 16) n) i := by
      obtain ⟨hi, hk16, hk15, hk7, hk2⟩ := H.out
      unfold sNext
      rw [← hk16, ← hk15, ← hk7, ← hk2, e16, e15, e7, e2]
     rw [hv]
     go_wp2_with fail
     obtain ⟨hi, hk16, hk15, hk7, hk2⟩ := H.out
     refine ⟨⟨i + 1, n + 1, by omega, by omega, rfl, ?_, ht.trans ((Turn.refl _ _).drewN _ |>.trans (Blk.setTurn _ g3 _ _))⟩, ?_⟩
     ·rw [← sTab_next m n hn48, ← cvs_set, ← hi]
      exact (hb.drewN _).sets _ _
     ·simp [intOf]; omega
    ·obtain rfl : n = 48 := by omega
     subst hi
     have hall : cvs (sTab m 48) = X := by rw [HX.out]; simp [sTab, sSpread]
     rw [hall] at hb
     go_wp2_with (first
      | (refine wp_ld rfl 184 _ rfl rfl hb (Sub.all X) Tryz.underlying184 rfl (sz64w hX1) ?_)
      | (refine wp_st (xs := X) rfl 184 _ _ rfl rfl rfl (hb2.turn ht (by simp; omega)) (by rw [List.size_toArray, cvs_len, hX1]; rfl) (sz64w hX1) hX2 ?_; intro w9 hb9 ht9))
     refine ret_cell rfl rfl rfl hb9 Tryz.underlying184 rfl (sz64w hX1) ⟨rfl, ?_⟩
     exact (hT.new ht (by simp; omega)).new ht9 (by simp; omega)
open Go.RowKit
def Laid (w : World) : Prop := 2 < w.heap.size ∧ (∀ i s, sStart.list[i]? = some s → w.cell? ⟨0, i, none⟩ = some (.int .u32 (cV s))) ∧ ∀ i s, sKeys[i]? = some s → w.cell? ⟨2, i, none⟩ = some (.int .u32 (cV s))
theorem Laid.turn {w w' : World} {row : Option Nat} (h : Laid w) (ht : Turn w w' row) (hr : ∀ g, row = some g → 2 < g) : Laid w' := by
 obtain ⟨h0, h1, h2⟩ := h
 have hs := ht.size
 refine ⟨by omega, fun i s hi => ?_, fun i s hi => ?_⟩
 ·rw [ht.cell (a := ⟨0, i, none⟩) (by simp; omega) (fun e => by have := hr _ e.symm; simp at this)]; exact h1 i s hi
 ·rw [ht.cell (a := ⟨2, i, none⟩) (by simp; omega) (fun e => by have := hr _ e.symm; simp at this)]; exact h2 i s hi
theorem Laid.drewN {w : World} (h : Laid w) (n : Nat) : Laid (w.drewN n) := h
def hsCells (s : W8) (blk : List UInt8) (n : Int) : List Value := cvs s.list ++ vbs blk ++ [.int .u64 n]
theorem hsCells_len (s : W8) {blk : List UInt8} (n : Int) (h : blk.length = 64) : (hsCells s blk n).length = 73 := by simp [hsCells, cvs_len, vbs_len, h, W8.list]
theorem sub_words (s : W8) (blk : List UInt8) (n : Int) : Sub (hsCells s blk n).toArray 0 (cvs s.list) := by
 unfold hsCells
 rw [List.append_assoc]
 exact Sub.fst _ _
theorem sub_block (s : W8) (blk : List UInt8) (n : Int) : Sub (hsCells s blk n).toArray 8 (vbs blk) := Sub.mid _ _ _ 8 rfl
theorem hsCells_last (s : W8) {blk : List UInt8} (n : Int) (h : blk.length = 64) : (hsCells s blk n)[72]? = some (.int .u64 n) := by
 unfold hsCells
 rw [List.getElem?_append_right (by simp [cvs_len, vbs_len, h, W8.list])]
 simp [cvs_len, vbs_len, h, W8.list]
def HS (w : World) (g : Nat) (s : W8) (blk : List UInt8) (n : Int) : Prop := blk.length = 64 ∧ Blk w g 165 (hsCells s blk n).toArray
theorem sz8 {xs : List Value} (h : xs.length = 8) : (Tryz.prog.info? 162).map (·.size) = some xs.length := by rw [h]; kernel_rfl
theorem nul8 : ∀ w, (zeroValue 162).run Tryz.prog w = .ok (.agg (cvs (List.replicate 8 0#32)).toArray) w := zero_at (by kernel_rfl)
theorem spread_of {m : List UInt8} {xs : List Value} {ys : Array Value} (h : xs = vbs m) (hy : ys = xs.toArray) (hm : m.length = 64) (w : World) :
  Calls Tryz.prog 153 #[.agg ys] w fun e w' => e = .returned (.agg (cvs (sSpread m)).toArray) ∧ Turn w w' none := by
 subst hy h; exact spread_any m hm w
theorem take_any (s : W8) (blk : List UInt8) (n : Int) (g : Nat) (w : World) (hL : Laid w) (hg : 2 < g) (h : HS w g s blk n) :
  Calls Tryz.prog 125 #[.pointer (some ⟨g, 0, none⟩)] w fun e w' => e = .returned (.tuple #[]) ∧ HS w' g (sBlock s blk) blk n ∧ Turn w w' (some g) := by
 obtain ⟨hbl, hb⟩ := h
 have hT := Turn.refl w none
 obtain ⟨X, hX⟩ : ∃ X, X = cvs (sSpread blk) := ⟨_, rfl⟩
 have HX := hid hX
 clear hX
 go_enter Tryz.func125, Tryz.ntmps125
 go_wp2_with (first
  | (refine wp_ld rfl 162 _ rfl rfl hb (sub_words s blk n) Tryz.underlying162 rfl (sz8 rfl) ?_)
  | (refine wp_ld rfl 163 _ rfl rfl hb (sub_block s blk n) Tryz.underlying163 rfl (sz64b (by rw [vbs_len, hbl])) ?_)
  | (refine wp_al rfl 162 rfl _ nul8 ?_; intro gv w1 hgv hv ht1; have hT := hT.trans ht1; have hg1 : g < gv := (by rw [← hgv]; exact hb.lt); have hb := hb.turn0 ht1; rw [cells_agg] at hv)
  | (refine wp_st rfl 162 _ _ rfl rfl rfl hv rfl (sz8 rfl) (cvs_one _) ?_; intro w2 hv2 ht2; have hb := hb.turn ht2 (by simp; omega); have hT := hT.new ht2 (by simp; omega))
  | (go_at_call 153; refine (spread_of (m := blk) rfl rfl hbl _).mono ?_; rintro e w3 ⟨rfl, ht3⟩; rw [← HX.out]; have hv3 := hv2.turn0 ht3; have hb := hb.turn0 ht3; have hT := hT.trans ht3))
 have hX1 : X.length = 64 := by rw [HX.out, cvs_len, sSpread_len]
 have hLw := hL.turn hT (by simp)
 clear ht1 ht2 ht3 hv hv2
 go_loopw [18] (fun i wr => ∃ j : Nat, j ≤ 64 ∧ i = .int .i64 (j : Int) ∧ Blk wr gv 162 (cvs (sRun (sSpread blk) s j).list).toArray ∧ Turn w3 wr (some gv)) (fun i _ => (64 - intOf i).toNat)
 case atStart => exact ⟨0, by omega, rfl, hv3, Turn.refl w3 _⟩
 case round =>
  obtain ⟨j, hj, rfl, hv, ht⟩ := hrel
  clear hv3
  by_cases hj64 : j < 64
  ·obtain ⟨x, hx⟩ : ∃ x, (sSpread blk)[j]? = some x := ⟨_, List.getElem?_eq_getElem (by rw [sSpread_len]; exact hj64)⟩
   obtain ⟨k, hk⟩ : ∃ k, sKeys[j]? = some k := ⟨_, List.getElem?_eq_getElem (by rw [sKeys_len]; exact hj64)⟩
   have hix := fun W : World => run_ix (P := Tryz.prog) (w := W) Tryz.underlying184 Tryz.underlying135 (by kernel_rfl) hj64 (show X.toArray[j]? = some (.int .u32 (cV x)) by rw [List.getElem?_toArray, HX.out]; exact cvs_at hx)
   have hLr := hLw.turn ht (by simp; omega)
   have hkc := hLr.2.2 j k hk
   have Hv := hid (show sRun (sSpread blk) s (j + 1) = sRnd (sRun (sSpread blk) s j) k x by
    have e1 : (sSpread blk).getD j 0#32 = x := by rw [List.getD_eq_getElem?_getD, hx]; rfl
    have e2 : sKeys.getD j 0#32 = k := by rw [List.getD_eq_getElem?_getD, hk]; rfl
    rw [sRun, e1, e2])
   clear hx hk
   generalize sRun (sSpread blk) s j = v at hv Hv
   have c0 := hv.ats (j := 0) (v := .int .u32 (cV v.a)) rfl; have c1 := hv.ats (j := 1) (v := .int .u32 (cV v.b)) rfl; have c2 := hv.ats (j := 2) (v := .int .u32 (cV v.c)) rfl; have c3 := hv.ats (j := 3) (v := .int .u32 (cV v.d)) rfl; have c4 := hv.ats (j := 4) (v := .int .u32 (cV v.e)) rfl; have c5 := hv.ats (j := 5) (v := .int .u32 (cV v.f)) rfl; have c6 := hv.ats (j := 6) (v := .int .u32 (cV v.g)) rfl; have c7 := hv.ats (j := 7) (v := .int .u32 (cV v.h)) rfl
   have b0 := cV_bd v.a; have b1 := cV_bd v.b; have b2 := cV_bd v.c; have b3 := cV_bd v.d; have b4 := cV_bd v.e; have b5 := cV_bd v.f; have b6 := cV_bd v.g; have b7 := cV_bd v.h
   have bk := cV_bd k
   have bx := cV_bd x
   have bt1 := cV_bd (sTri v.e 6 11 25)
   have bt2 := cV_bd (sTri v.a 2 13 22)
   have lj : (j : Int) < 64 := by omega
   go_wp2_with fail
   go_quiet (first | (go_at_call_of 154 (Value.int .u32 (cV v.e)); exact quiet_eq (turned_of _ v.e rfl _ _ _ 6 11 25 rfl rfl rfl (by decide) (by decide) (by decide) (by decide) (by decide) (by decide) _)))
   rw [cT1_code]
   generalize ht1v : sT1 v k x = t1
   have bt1v := cV_bd t1
   clear c0 c1 c2 c3 c4 c5 c6 c7 hkc hix bt1
   have hv := hv.drewN nq
   have ht := ht.drewN nq
   generalize wr.drewN nq = wr1 at *
   have c0 := hv.ats (j := 0) (v := .int .u32 (cV v.a)) rfl; have c1 := hv.ats (j := 1) (v := .int .u32 (cV v.b)) rfl; have c2 := hv.ats (j := 2) (v := .int .u32 (cV v.c)) rfl; have c3 := hv.ats (j := 3) (v := .int .u32 (cV v.d)) rfl; have c4 := hv.ats (j := 4) (v := .int .u32 (cV v.e)) rfl; have c5 := hv.ats (j := 5) (v := .int .u32 (cV v.f)) rfl; have c6 := hv.ats (j := 6) (v := .int .u32 (cV v.g)) rfl; have c7 := hv.ats (j := 7) (v := .int .u32 (cV v.h)) rfl
   go_wp2_with fail
   go_quiet (first | (go_at_call_of 154 (Value.int .u32 (cV v.a)); exact quiet_eq (turned_of _ v.a rfl _ _ _ 2 13 22 rfl rfl rfl (by decide) (by decide) (by decide) (by decide) (by decide) (by decide) _)))
   rw [cT2_code]
   generalize ht2v : sT2 v = t2
   have bt2v := cV_bd t2
   clear c0 c1 c2 c3 c4 c5 c6 c7 bt2
   have hv := hv.drewN nq
   have ht := ht.drewN nq
   generalize wr1.drewN nq = wr2 at *
   go_wp2_with fail
   refine wp_region_noPanic ?_
   refine wp_region_held_drew (S := fun _ => True) (by kernel_rfl) trivial (fun hHeld => ?_)
   (first | refine tkN 0 ?_ | refine tkY 0 _ ?_); (try simp only [Act.put, zs])
   (first | refine tkN 1 ?_ | refine tkY 1 _ ?_); (try simp only [Act.put, zs])
   refine wpAnyH_ready (rs := [2]) (by kernel_rfl) (by simp) ?_
   refine AllReadyH.cons rfl (fun K hK => ?_) AllReadyH.nil
   have hvd := Blk.drew hv
   refine st_cpB (zs := (cvs v.list).take 7) rfl _ _ rfl Tryz.underlying131 (by kernel_rfl) rfl rfl hvd (hvd.rdAt (Sub.fst ((cvs v.list).take 7) ((cvs v.list).drop 7))) (fun u hu => cvs_one _ u (List.mem_of_mem_take hu)) (by show 0 < 7; decide) (by show 0 < 7; decide) (by show 1 + 7 ≤ 8; decide) ?_
   intro wr3 hv3 ht3
   refine hK.out _ _ trivial (fun hHeld => ?_)
   clear hK K
   (try simp only [Act.put, zs])
   refine wpAnyH_done (by kernel_rfl) ?_ _
   refine NoPanic.normal ?_
   clear hHeld
   have hv4 : Blk wr3 gv 162 (cvs (W8.list ⟨v.a, v.a, v.b, v.c, v.d, v.e, v.f, v.g⟩)).toArray := hv3
   have ht := ht.drew.trans ht3
   have cz := hv4.ats (j := 0) (v := .int .u32 (cV v.a)) rfl
   have cd := hv4.ats (j := 4) (v := .int .u32 (cV v.d)) rfl
   have fz := hv4.frozen 0
   have fd := hv4.frozen 4
   go_wp2_with fail
   refine ⟨⟨j + 1, by omega, rfl, ?_, ?_⟩, ?_⟩
   ·have h5 := (hv4.sets 4 (.int .u32 (cV (v.d + t1)))).sets 0 (.int .u32 (cV (t1 + t2)))
    rw [cV_add, cV_add, Hv.out]
    rw [← ht1v, ← ht2v] at h5 ⊢
    exact h5
   ·exact ht.trans ((Blk.setTurn _ gv _ _).trans (Blk.setTurn _ gv _ _))
   ·simp [intOf]; omega
  ·have hjj : j = 64 := by omega
   rw [hjj] at hv
   clear hjj
   have hb := hb.turn ht (by simp; omega)
   have hT := hT.new ht (by simp; omega)
   generalize hr : sRun (sSpread blk) s 64 = r at hv
   have hvl : (cvs r.list).length = 8 := rfl
   go_wp2_with (refine wp_ld rfl 162 _ rfl rfl hv (Sub.all _) Tryz.underlying162 rfl (sz8 rfl) ?_)
   go_loopw [82] (fun i wr2 => ∃ q : Nat, q ≤ 8 ∧ i = .int .i64 (q : Int) ∧ Blk wr2 g 165 (cvs (sMix s r q) ++ vbs blk ++ [Value.int .u64 n]).toArray ∧ Turn wr wr2 (some g)) (fun i _ => (8 - intOf i).toNat)
   case atStart => exact ⟨0, by omega, rfl, hb, Turn.refl wr _⟩
   case round =>
    obtain ⟨q, hq, rfl, hb2, ht2⟩ := hrel
    clear hb
    by_cases hq8 : q < 8
    ·obtain ⟨x, y, hy, hx, hset⟩ := sMix_at s r q hq8
     have hix := fun W : World => run_ix (P := Tryz.prog) (w := W) Tryz.underlying162 Tryz.underlying135 (by kernel_rfl) hq8 (show (cvs r.list).toArray[q]? = some (.int .u32 (cV y)) by rw [List.getElem?_toArray]; exact cvs_at hy)
     have hxc := hb2.ats (j := q) (v := .int .u32 (cV x)) (by rw [List.append_assoc, List.getElem?_append_left (by rw [cvs_len, sMix_len _ _ _ hq]; exact hq8)]; exact cvs_at hx)
     have hfr := hb2.frozen q
     have bx := cV_bd x
     have byy := cV_bd y
     have lq : (q : Int) < 8 := by omega
     have hs2 := hid hset
     clear hset hx hy hv
     go_wp2_with fail
     refine wp_region_noPanic ?_
     refine wp_region_held_drew (S := fun _ => True) (by kernel_rfl) trivial (fun hHeld => ?_)
     (first | refine tkN 0 ?_ | refine tkY 0 _ ?_); (try simp only [Act.put, zs])
     (first | refine tkN 1 ?_ | refine tkY 1 _ ?_); (try simp only [Act.put, zs])
     (first | refine tkN 2 ?_ | refine tkY 2 _ ?_); (try simp only [Act.put, zs])
     (first | refine tkN 3 ?_ | refine tkY 3 _ ?_); (try simp only [Act.put, zs])
     (first | refine tkN 4 ?_ | refine tkY 4 _ ?_); (try simp only [Act.put, zs])
     (first | refine tkN 6 ?_ | refine tkY 6 _ ?_); (try simp only [Act.put, zs])
     (first | refine tkN 8 ?_ | refine tkY 8 _ ?_); (try simp only [Act.put, zs])
     (first | refine tkN 9 ?_ | refine tkY 9 _ ?_); (try simp only [Act.put, zs])
     refine wpAnyH_ready (rs := [5]) (by kernel_rfl) (by simp) ?_
     refine AllReadyH.cons rfl (fun K hK => ?_) AllReadyH.nil
     go_simp
     refine hK.out _ _ trivial (fun hHeld => ?_)
     clear hK K
     (try simp only [Act.put, zs])
     (first | refine tkN 7 ?_ | refine tkY 7 _ ?_); (try simp only [Act.put, zs])
     (first | refine tkN 10 ?_ | refine tkY 10 _ ?_); (try simp only [Act.put, zs])
     refine wpAnyH_ready (rs := [11]) (by kernel_rfl) (by simp) ?_
     refine AllReadyH.cons rfl (fun K hK => ?_) AllReadyH.nil
     go_simp
     refine hK.out _ _ trivial (fun hHeld => ?_)
     clear hK K
     (try simp only [Act.put, zs])
     refine wpAnyH_done (by kernel_rfl) ?_ _
     refine NoPanic.normal ?_
     clear hHeld
     rw [cW_add]
     have hb3 : Blk ((wr.setCell ⟨g, q, none⟩ (.int .u32 (cV (x + y)))).drew) g 165 (cvs (sMix s r (q + 1)) ++ vbs blk ++ [Value.int .u64 n]).toArray := by
      have h5 := (hb2.sets q (.int .u32 (cV (x + y)))).drew
      rw [List.append_assoc, List.set_append_left _ _ (by rw [cvs_len, sMix_len _ _ _ hq]; exact hq8), cvs_set, hs2.out, ← List.append_assoc] at h5
      exact h5
     have ht3 := (ht2.trans (Blk.setTurn wr g q (.int .u32 (cV (x + y))))).drew
     clear hb2 ht2
     go_wp2_with fail
     refine ⟨⟨q + 1, by omega, rfl, hb3, ht3⟩, ?_⟩
     simp [intOf]; omega
    ·have hqq : q = 8 := by omega
     rw [hqq, sMix_all] at hb2
     clear hqq
     go_wp2_with fail
     go_end0
     refine ⟨rfl, ⟨hbl, ?_⟩, ?_⟩
     ·unfold sBlock
      rw [hr]
      exact hb2
     ·exact (hT.any (some g)).trans ht2
open Go.RowKit
theorem vbs_zeros (n : Nat) : vbs (List.replicate n 0) = List.replicate n (.int .u8 0) := by
 unfold vbs
 rw [List.map_replicate]
 rfl
theorem sLen_at (N q k : Nat) (hq : q < 8) (hk : k + 8 * q = 56) : (sLen N)[q]? = some (UInt8.ofNat (N * 8 / 2 ^ k)) := by
 have : q = 0 ∨ q = 1 ∨ q = 2 ∨ q = 3 ∨ q = 4 ∨ q = 5 ∨ q = 6 ∨ q = 7 := by omega
 rcases this with rfl | rfl | rfl | rfl | rfl | rfl | rfl | rfl
 ·obtain rfl : k = 56 := by omega
  rfl
 ·obtain rfl : k = 48 := by omega
  rfl
 ·obtain rfl : k = 40 := by omega
  rfl
 ·obtain rfl : k = 32 := by omega
  rfl
 ·obtain rfl : k = 24 := by omega
  rfl
 ·obtain rfl : k = 16 := by omega
  rfl
 ·obtain rfl : k = 8 := by omega
  rfl
 ·obtain rfl : k = 0 := by omega
  show _ = some (UInt8.ofNat (N * 8 / 1))
  rw [Nat.div_one]; try rfl
theorem vb_ofNat (n : Nat) : vb (UInt8.ofNat n) = .int .u8 ((n : Int) % 256) := by
 unfold vb
 congr 1
theorem sLen_len (N : Nat) : (sLen N).length = 8 := rfl
theorem take_nxt {l : List UInt8} {j : Nat} {b : UInt8} (h : l[j]? = some b) : l.take (j + 1) = l.take j ++ [b] := by
 rw [List.take_add_one, h]; rfl
theorem padding_any (s : W8) (blk : List UInt8) (N : Nat) (g : Nat) (w : World) (h : HS w g s blk (N : Int)) (hN : N ≤ 281474976710656) :
  Calls Tryz.prog 126 #[.pointer (some ⟨g, 0, none⟩)] w fun e w' => ∃ A c, e = .returned (.slice A (sZeros N + 9) c) ∧ Own w' w.heap.size 5 1 A (sZeros N + 9) c (vbs (sEnd N)) ∧ Turn w w' none := by
 obtain ⟨hbl, hb⟩ := h
 have hT := Turn.refl w none
 obtain ⟨z, hz⟩ : ∃ z, z = sZeros N := ⟨_, rfl⟩
 have hz64 : z < 64 := by rw [hz]; exact sZeros_lt N
 have hzz : (119 - (N : Int) % 64) % 64 = (z : Int) := by rw [hz]; unfold sZeros; omega
 have hzu := hid hz
 have hw := hb.ats (j := 72) (hsCells_last s (N : Int) hbl)
 clear hz
 go_enter Tryz.func126, Tryz.ntmps126
 go_wp2_with (at_make; refine wp_mk0 rfl _ _ _ rfl elB (z0 := .int .u8 0) (by kernel_rfl) rfl rfl rfl (1 + z) 72 (by omega) rfl (by omega) (by omega) (by unfold maxLen; omega) ?_; intro w8 ho ht8; rw [← vbs_zeros] at ho; have gne : w.heap.size ≠ g := (by have := hb.lt; omega); have hw8 := (hb.turn0 ht8).ats (j := 72) (hsCells_last s (N : Int) hbl); have c0 : w8.cell? ⟨w.heap.size, 0, none⟩ = some (.int .u8 0) := (by rw [ho.cell (by omega), vbs_zeros, List.getElem?_replicate, if_pos (by omega)]); have f0 := ho.frozen 0)
 have ho1 := ho.store 0 (.int .u8 128)
 have e1 : (vbs (List.replicate (1 + z) 0)).set 0 (.int .u8 128) = vbs (128 :: List.replicate z 0 ++ (sLen N).take 0) := by
  rw [Nat.add_comm]; simp [vbs, List.replicate_succ, vb]
 rw [e1] at ho1
 have hT1 : Turn w (w8.setCell ⟨w.heap.size, 0, none⟩ (.int .u8 128)) none := ht8.new (Blk.setTurn _ _ _ _) (by simp)
 generalize w8.setCell ⟨w.heap.size, 0, none⟩ (.int .u8 128) = w9 at *
 clear ho c0 f0 hw8 ht8 hzz hw hb hT e1
 go_loopw [4, 6] (fun b v wr => ∃ (q : Nat) (A : Option Addr) (c : Nat), q ≤ 8 ∧ b = .slice A (1 + z + q) c ∧ v = .int .i64 (56 - 8 * (q : Int)) ∧ Own wr w.heap.size 5 1 A (1 + z + q) c (vbs (128 :: List.replicate z 0 ++ (sLen N).take q)) ∧ Turn w wr none) (fun _ v _ => (intOf v + 8).toNat)
 case atStart => exact ⟨0, _, _, by omega, rfl, rfl, ho1, hT1⟩
 case round =>
  obtain ⟨q, A, c, hq, rfl, rfl, ho, hT⟩ := hrel
  clear ho1 hT1
  by_cases hq8 : q < 8
  ·obtain ⟨k, hk⟩ : ∃ k, k + 8 * q = 56 := ⟨56 - 8 * q, by omega⟩
   have hks : (56 - 8 * (q : Int)) = (k : Int) := by omega
   have hkn : (k : Int) - 8 = 56 - 8 * ((q + 1 : Nat) : Int) := by omega
   have hk64 : k < 64 := by omega
   have hat := hid (sLen_at N q k hq8 hk)
   rw [hks]
   clear hks
   have hkn2 := hid hkn
   have hTs := hT.size
   clear hkn
   go_wp2_with (at_builtin; refine wp_app rfl _ _ _ rfl elB rfl rfl (ho.alloc _) (Rd.lit _ _ _) (by repeat (first | exact ones_nil | refine ones_cons rfl ?_)) (by unfold maxLen; first | omega | (simp; done) | (simp; omega)) (by first | omega | (simp; done) | (simp; omega)) (by first | omega | (simp; done) | (simp; omega)) ?_; intro A1 c1 w1 ho2 ht2 hb2)
   rw [hkn2.out]
   have hT2 : Turn w w1 none := (hT.alloc _).new ht2 (fun g' hg' => (ho.block g' hg').1)
   have e2 : vbs (128 :: List.replicate z 0 ++ (sLen N).take q) ++ [Value.int .u8 ((N : Int) * 8 / 2 ^ k % 256)] = vbs (128 :: List.replicate z 0 ++ (sLen N).take (q + 1)) := by
    rw [take_nxt hat.out, ← List.append_assoc, vbs_append _ [_]]
    congr 1
   rw [e2] at ho2
   refine ⟨⟨q + 1, A1, c1, by omega, rfl, rfl, ho2, hT2⟩, ?_⟩
   simp [intOf]; omega
  ·have hqq : q = 8 := by omega
   have hneg : (56 - 8 * (q : Int)) = -8 := by omega
   rw [hneg]
   clear hneg
   go_wp2_with fail
   go_ret
   refine ⟨A, c, ?_, ?_, hT⟩
   ·rw [hqq, ← hzu.out]
    have : 1 + z + 8 = z + 9 := by omega
    rw [this]
    rfl
   ·have e3 : 128 :: List.replicate z 0 ++ (sLen N).take q = sEnd N := by rw [hqq, hzu.out]; rfl
    rw [e3] at ho
    rw [← hzu.out]
    have : z + 9 = 1 + z + q := by omega
    rw [this]
    exact ho
open Go.RowKit
theorem hs_lay (s : W8) (blk : List UInt8) (n : Int) (r : Nat) (x : List UInt8) (h : blk.length = 64) (hr : r + x.length ≤ 64) :
  (hsCells s blk n).take (8 + r) ++ vbs x ++ (hsCells s blk n).drop (8 + r + x.length) = hsCells s (sLay blk r x) n := by
 have hA : (cvs s.list).length = 8 := rfl
 have hB : (vbs blk).length = 64 := by rw [vbs_len, h]
 unfold hsCells
 rw [List.append_assoc (cvs s.list), Nat.add_assoc, List.take_append, List.drop_append, hA, Nat.add_sub_cancel_left, Nat.add_sub_cancel_left, List.take_of_length_le (l := cvs s.list) (by omega),
  (List.drop_eq_nil_of_le (by omega) : (cvs s.list).drop (8 + (r + x.length)) = []), List.take_append_of_le_length (by omega), List.drop_append_of_le_length (by omega), vbs_take, vbs_drop, List.nil_append]
 unfold sLay
 rw [vbs_append, vbs_append]
 simp only [List.append_assoc]
theorem hs_written (s : W8) (blk : List UInt8) (n n' : Int) (h : blk.length = 64) : (hsCells s blk n).set 72 (.int .u64 n') = hsCells s blk n' := by
 unfold hsCells
 rw [List.set_append_right _ _ (by simp [cvs_len, vbs_len, h, W8.list])]
 simp [cvs_len, vbs_len, h, W8.list]
def HIs (w : World) (g : Nat) (l : List UInt8) : Prop := ∃ s blk, HS w g s blk (l.length : Int) ∧ sState l s blk
theorem HS.turn {w w' : World} {g : Nat} {s : W8} {blk : List UInt8} {n : Int} {row : Option Nat} (h : HS w g s blk n) (ht : Turn w w' row) (hr : some g ≠ row) : HS w' g s blk n := ⟨h.1, h.2.turn ht hr⟩
theorem HIs.turn {w w' : World} {g : Nat} {l : List UInt8} {row : Option Nat} (h : HIs w g l) (ht : Turn w w' row) (hr : some g ≠ row) : HIs w' g l := by
 obtain ⟨s, b, h1, h2⟩ := h
 exact ⟨s, b, h1.turn ht hr, h2⟩
theorem HIs.turn0 {w w' : World} {g : Nat} {l : List UInt8} (h : HIs w g l) (ht : Turn w w' none) : HIs w' g l := h.turn ht (by simp)
theorem HIs.lt {w : World} {g : Nat} {l : List UInt8} (h : HIs w g l) : g < w.heap.size := by
 obtain ⟨s, b, h1, h2⟩ := h
 exact h1.2.lt
theorem write_any (l : List UInt8) (g : Nat) (A : Option Addr) (n c : Nat) (m : List UInt8) (B : Nat) (w : World) (hL : Laid w) (hg : 2 < g) (h : HIs w g l) (hr : Rd w B 1 A n (vbs m)) (hB : B ≤ w.heap.size) (hA : 0 < n → blk A ≠ some g)
  (hnc : n ≤ c) (hc : c ≤ maxLen) (hN : l.length + n ≤ 281474976710656) :
  Calls Tryz.prog 89 #[.pointer (some ⟨g, 0, none⟩), .slice A n c] w fun e w' => e = .returned (.tuple #[]) ∧ HIs w' g (l ++ m) ∧ Turn w w' (some g) := by
 have hml := hr.len
 rw [vbs_len] at hml
 unfold maxLen at hc
 go_enter Tryz.func89, Tryz.ntmps89
 go_wp2_with fail
 go_loopw [1] (fun v wr => ∃ (k n' c' : Nat) (A' : Option Addr), k + n' = n ∧ v = .slice A' n' c' ∧ n' ≤ c' ∧ c' ≤ 9223372036854775807 ∧ HIs wr g (l ++ m.take k) ∧ Rd wr B 1 A' n' (vbs (m.drop k)) ∧ (0 < n' → blk A' ≠ some g) ∧ Turn w wr (some g)) (fun v _ => match v with | .slice _ n' _ => n' | _ => 0)
 case atStart => exact ⟨0, n, c, A, by omega, rfl, hnc, hc, by simpa using h, by simpa using hr, hA, Turn.refl w _⟩
 case round =>
  obtain ⟨k, n', c', A', hkn, rfl, hnc', hc', hH, hr', hA', ht⟩ := hrel
  clear h hr hnc hc hA
  by_cases hn0 : n' = 0
  ·subst hn0
   have hmk : m.take k = m := List.take_of_length_le (by omega)
   rw [hmk] at hH
   go_wp2_with fail
   go_end0
   exact ⟨rfl, hH, ht⟩
  ·have hA' := hA' (by omega)
   obtain ⟨s, bk, ⟨hbk, hb⟩, hst⟩ := hH
   obtain ⟨N, hNN⟩ : ∃ N, N = (l ++ m.take k).length := ⟨_, rfl⟩
   have hNl : N + n' ≤ 281474976710656 := by rw [hNN, List.length_append, List.length_take]; omega
   rw [← hNN] at hb
   obtain ⟨r, hrr⟩ : ∃ r, r = N % 64 := ⟨_, rfl⟩
   have hr64 : r < 64 := by omega
   have hri : (N : Int) % 64 = (r : Int) := by omega
   have htm : (N : Int).tmod 64 = (r : Int) := by rw [Int.tmod_eq_emod_of_nonneg (by omega)]; omega
   obtain ⟨b0, off, rfl, _, _⟩ := hr'.head (by omega)
   have hw := hb.ats (j := 72) (hsCells_last s (N : Int) hbk)
   have Hh := hid (And.intro hst (And.intro hNN hrr))
   clear hst hNN hrr
   have l0 : (0 : Int) < (n' : Int) := by omega
   have l1 : (r : Int) ≤ 64 := by omega
   have l2 : r ≤ 64 := by omega
   have l3 : ¬ 64 = r := by omega
   go_wp2_with fail
   obtain ⟨kk, hkk⟩ : ∃ kk, kk = Nat.min n' (64 - r) := ⟨_, rfl⟩
   have hk1 : kk ≤ n' := by rw [hkk]; exact Nat.min_le_left _ _
   have hk2 : r + kk ≤ 64 := by
    have h : Nat.min n' (64 - r) ≤ 64 - r := Nat.min_le_right _ _
    rw [← hkk] at h
    omega
   have hk3 : kk = n' ∨ r + kk = 64 := by
    rcases Nat.le_total n' (64 - r) with h | h
    ·exact .inl (by rw [hkk]; exact Nat.min_eq_left h)
    ·exact .inr (by rw [hkk, show Nat.min n' (64 - r) = 64 - r from Nat.min_eq_right h]; omega)
   have hk0 : 0 < kk := by omega
   have hxl : ((m.drop k).take kk).length = kk := by rw [List.length_take, List.length_drop]; omega
   have Hk := hid hkk
   clear hkk
   refine wp_region_noPanic ?_
   refine wp_region_held_drew (S := fun _ => True) (by kernel_rfl) trivial (fun hHeld => ?_)
   (first | refine tkN 0 ?_ | refine tkY 0 _ ?_); (try simp only [Act.put, zs])
   (first | refine tkN 1 ?_ | refine tkY 1 _ ?_); (try simp only [Act.put, zs])
   (first | refine tkN 2 ?_ | refine tkY 2 _ ?_); (try simp only [Act.put, zs])
   (first | refine tkN 3 ?_ | refine tkY 3 _ ?_); (try simp only [Act.put, zs])
   (first | refine tkN 4 ?_ | refine tkY 4 _ ?_); (try simp only [Act.put, zs])
   (first | refine tkN 5 ?_ | refine tkY 5 _ ?_); (try simp only [Act.put, zs])
   (first | refine tkN 9 ?_ | refine tkY 9 _ ?_); (try simp only [Act.put, zs])
   refine wpAnyH_ready (rs := [6]) (by kernel_rfl) (by simp) ?_
   refine AllReadyH.cons rfl (fun K hK => ?_) AllReadyH.nil
   go_simp
   refine hK.out _ _ trivial (fun hHeld => ?_)
   clear hK K
   (try simp only [Act.put, zs])
   (first | refine tkN 7 ?_ | refine tkY 7 _ ?_); (try simp only [Act.put, zs])
   (first | refine tkN 8 ?_ | refine tkY 8 _ ?_); (try simp only [Act.put, zs])
   refine wpAnyH_ready (rs := [10]) (by kernel_rfl) (by simp) ?_
   refine AllReadyH.cons rfl (fun K hK => ?_) AllReadyH.nil
   have hbd := Blk.drew hb
   refine st_cpB (oo := 8 + r) (nn := 64 - r) (cc := 64 - r) (zs := vbs (m.drop k)) rfl _ _ rfl Tryz.underlying55 (by kernel_rfl) rfl rfl hbd hr'.drew (vbs_one _) (by omega) (by omega) (by rw [hsCells_len s _ hbk]; omega) ?_
   intro wr3 hb3 ht3
   rw [← Hk.out]
   refine hK.out _ _ trivial (fun hHeld => ?_)
   clear hK K
   (try simp only [Act.put, zs])
   (first | refine tkN 11 ?_ | refine tkY 11 _ ?_); (try simp only [Act.put, zs])
   refine wpAnyH_done (by kernel_rfl) ?_ _
   refine NoPanic.normal ?_
   clear hHeld
   have e1 := hs_lay s bk (N : Int) r ((m.drop k).take kk) hbk (by rw [hxl]; omega)
   rw [hxl, ← vbs_take] at e1
   rw [← Hk.out, e1] at hb3
   have hlen : (sLay bk r ((m.drop k).take kk)).length = 64 := sLay_len hbk (by rw [hxl]; omega)
   have ht4 : Turn wr wr3 (some g) := (Turn.refl wr (some g)).drew.trans ht3
   have htr := ht.trans ht4
   obtain ⟨bk', hbk'⟩ : ∃ bk', bk' = sLay bk r ((m.drop k).take kk) := ⟨_, rfl⟩
   rw [← hbk'] at hlen hb3
   have c72 := hb3.ats (j := 72) (hsCells_last s (N : Int) hlen)
   have f72 := hb3.frozen 72
   have hb4 := hb3.sets 72 (.int .u64 ((N : Int) + (kk : Int)))
   rw [hs_written s bk' _ _ hlen] at hb4
   have ht5 := htr.trans (Blk.setTurn wr3 g 72 (.int .u64 ((N : Int) + (kk : Int))))
   have ht6 := ht4.trans (Blk.setTurn wr3 g 72 (.int .u64 ((N : Int) + (kk : Int))))
   have hLr := hL.turn ht5 (by simp; omega)
   have hBr : B ≤ wr.heap.size := Nat.le_trans hB ht.size
   have hcat : l ++ m.take (k + kk) = (l ++ m.take k) ++ (m.drop k).take kk := by rw [List.append_assoc, List.take_add]
   have hcl : (l ++ m.take (k + kk)).length = N + kk := by rw [hcat, List.length_append, hxl, ← Hh.out.2.1]
   have hst := Hh.out.1
   have hrL : (l ++ m.take k).length % 64 = r := by rw [← Hh.out.2.1]; exact Hh.out.2.2.symm
   have hful : r + kk = 64 → sState (l ++ m.take (k + kk)) (sBlock s bk') bk' := by
    intro h
    rw [hcat, hbk', ← hrL]
    exact sState_full hst (by rw [hxl, hrL]; exact h)
   have hprt : ¬ r + kk = 64 → sState (l ++ m.take (k + kk)) s bk' := by
    intro h
    rw [hcat, hbk', ← hrL]
    exact sState_part hst (by rw [hxl, hrL]; omega)
   have hcut : (c' = kk ∧ Rd wr B 1 (some ⟨b0, off, none⟩) (n' - kk) (vbs (m.drop (k + kk)))) ∨ (¬ c' = kk ∧ Rd wr B 1 (some ⟨b0, off + kk, none⟩) (n' - kk) (vbs (m.drop (k + kk)))) := by
    by_cases hck : c' = kk
    ·have h2 := hr'.cutB (c := c') hk1 hnc'
     rw [if_pos hck, List.drop_drop] at h2
     exact .inl ⟨hck, h2⟩
    ·have h2 := hr'.tailB (c := c') hk1 hnc' hck
     rw [List.drop_drop] at h2
     exact .inr ⟨hck, h2⟩
   have HB := hid (And.intro hbk' (And.intro hful (And.intro hprt hcl)))
   clear hbk' e1 ht3 hful hprt hcl hst hrL hcat htr ht4 ht hb hw hb3 hr' hxl
   have l4 : (kk : Int) ≤ (n' : Int) := by omega
   have l5 : kk ≤ c' := by omega
   have l6 : kk ≤ n' := by omega
   rcases hcut with ⟨hck, hrd⟩ | ⟨hck, hrd⟩
   all_goals
    by_cases hf : r + kk = 64
    ·have hz : ((N : Int) + (kk : Int)) % 64 = 0 := by omega
     have hst := hid (HB.out.2.1 hf)
     clear hf htm hri
     go_wp2_with (go_at_call 125; refine (take_any s bk' ((N : Int) + (kk : Int)) g _ hLr hg ⟨hlen, hb4⟩).mono ?_; rintro e w6 ⟨rfl, hs6, ht7⟩)
     have hcl : ((l ++ m.take (k + kk)).length : Int) = (N : Int) + (kk : Int) := by rw [HB.out.2.2.2]; omega
     rw [← hcl] at hs6
     refine ⟨⟨k + kk, _, _, _, ?_, rfl, ?_, ?_, ⟨_, _, hs6, hst.out⟩, hrd.turnNe (ht6.trans ht7) hBr (.inr ?_), ?_, ht5.trans ht7⟩, ?_⟩
     ·omega
     ·omega
     ·omega
     ·simpa [blk] using hA'
     ·exact fun _ => by simpa [blk] using hA'
     ·simp; omega
    ·have hz : ¬ ((N : Int) + (kk : Int)) % 64 = 0 := by omega
     have hst := hid (HB.out.2.2.1 hf)
     clear hf htm hri
     go_wp2_with fail
     have hcl : ((l ++ m.take (k + kk)).length : Int) = (N : Int) + (kk : Int) := by rw [HB.out.2.2.2]; omega
     rw [← hcl] at hb4 ht5 ht6 ⊢
     refine ⟨⟨k + kk, _, _, _, ?_, rfl, ?_, ?_, ⟨_, _, ⟨hlen, hb4⟩, hst.out⟩, hrd.turnNe ht6 hBr (.inr ?_), ?_, ht5⟩, ?_⟩
     ·omega
     ·omega
     ·omega
     ·simpa [blk] using hA'
     ·exact fun _ => by simpa [blk] using hA'
     ·simp; omega
open Go.RowKit
theorem sz32 {xs : List Value} (h : xs.length = 32) : (Tryz.prog.info? 41).map (·.size) = some xs.length := by rw [h]; kernel_rfl
theorem szH {xs : List Value} (h : xs.length = 73) : (Tryz.prog.info? 165).map (·.size) = some xs.length := by rw [h]; kernel_rfl
theorem nul32 : ∀ w, (zeroValue 41).run Tryz.prog w = .ok (.agg (vbs (List.replicate 32 0)).toArray) w := zero_at (by kernel_rfl)
theorem nulH : ∀ w, (zeroValue 165).run Tryz.prog w = .ok (.agg (hsCells ⟨0#32, 0#32, 0#32, 0#32, 0#32, 0#32, 0#32, 0#32⟩ (List.replicate 64 0) 0).toArray) w := zero_at (by kernel_rfl)
theorem hs_one (s : W8) (blk : List UInt8) (n : Int) : ∀ u ∈ hsCells s blk n, u.oneCell' = true := by
 intro u hu
 unfold hsCells at hu
 rcases List.mem_append.1 hu with hu | hu
 ·rcases List.mem_append.1 hu with hu | hu
  ·exact cvs_one _ u hu
  ·exact vbs_one _ u hu
 ·rw [List.mem_singleton.1 hu]; rfl
theorem vb_b0 (x : BitVec 32) : Value.int .u8 (cV x / 16777216) = vb (UInt8.ofNat (x.toNat / 16777216)) := by
 have := x.isLt
 rw [vb_ofNat]; congr 1; unfold cV; omega
theorem vb_b1 (x : BitVec 32) : Value.int .u8 (cV x / 65536 % 256) = vb (UInt8.ofNat (x.toNat / 65536)) := by
 rw [vb_ofNat]; congr 1
theorem vb_b2 (x : BitVec 32) : Value.int .u8 (cV x / 256 % 256) = vb (UInt8.ofNat (x.toNat / 256)) := by
 rw [vb_ofNat]; congr 1
theorem vb_b3 (x : BitVec 32) : Value.int .u8 (cV x % 256) = vb (UInt8.ofNat x.toNat) := by
 rw [vb_ofNat]; congr 1
theorem vbs_set (l : List UInt8) (i : Nat) (b : UInt8) : (vbs l).set i (vb b) = vbs (l.set i b) := by
 unfold vbs
 rw [List.map_set]
theorem hsum_any (l : List UInt8) (g : Nat) (w : World) (hL : Laid w) (hg : 2 < g) (h : HIs w g l) (hN : l.length ≤ 281474976710000) :
  Calls Tryz.prog 90 #[.pointer (some ⟨g, 0, none⟩)] w fun e w' => e = .returned (.agg (vbs (sHash l)).toArray) ∧ Turn w w' none := by
 obtain ⟨s, blk, hs, hst⟩ := h
 obtain ⟨hbl, hb⟩ := hs
 have hT := Turn.refl w none
 obtain ⟨X, hX⟩ : ∃ X, X = vbs (sHash l) := ⟨_, rfl⟩
 have hX1 : X.length = 32 := by rw [hX, vbs_len, sHash_len]
 have hX2 : ∀ u ∈ X, u.oneCell' = true := by rw [hX]; exact vbs_one _
 rw [← hX]
 have HX := hid hX
 clear hX
 go_enter Tryz.func90, Tryz.ntmps90
 go_wp2_with (first
  | (refine wp_al rfl 41 rfl _ nul32 ?_; intro gr w1 hgr hr ht1; have hT := hT.trans ht1; have hb := hb.turn0 ht1; rw [cells_agg] at hr)
  | (refine wp_ld rfl 165 _ rfl rfl hb (Sub.all _) Tryz.underlying165 rfl (szH (hsCells_len s _ hbl)) ?_)
  | (refine wp_al rfl 165 rfl _ nulH ?_; intro ge w2 hge he ht2; have hT := hT.trans ht2; have hr1 := hr.turn0 ht2; have ger : gr < ge := (by rw [← hge]; exact hr.lt); have gge : g < ge := (by rw [← hge]; exact hb.lt); rw [cells_agg] at he)
  | (refine wp_st rfl 165 _ _ rfl rfl rfl he (by rw [List.size_toArray, hsCells_len _ _ (by simp), hsCells_len s _ hbl]) (szH (hsCells_len s _ hbl)) (hs_one _ _ _) ?_; intro w3 he3 ht3))
 have hT3 := hT.new ht3 (by simp; omega)
 have hTs := hT3.size
 have hr3 := hr1.turn ht3 (by simp; omega)
 clear hb he hr1
 go_wp2_with (go_at_call 126; refine (padding_any s blk l.length ge _ ⟨hbl, he3⟩ (by omega)).mono ?_; rintro e w4 ⟨A, c, rfl, ho, ht4⟩)
 have hE : HIs w4 ge l := ⟨s, blk, ⟨hbl, he3.turn0 ht4⟩, hst⟩
 have hL4 := (hL.turn hT3 (by simp)).turn ht4 (by simp)
 have hAe : Go.Proofs.YtgigiecdpjchkaaGreatDoor.blk A ≠ some ge := by
  intro e
  have := (ho.block ge e).1
  have := he3.lt
  omega
 go_wp2_with (first
  | (go_at_call 89; refine (write_any l ge _ _ _ (sEnd l.length) _ _ hL4 (by omega) hE ho.rd (Nat.le_refl _) (fun _ => hAe) ho.cap.1 ho.cap.2 (by have := sZeros_lt l.length; omega)).mono ?_; rintro e w5 ⟨rfl, hE5, ht5⟩; obtain ⟨s', blk', ⟨hbl', hb5⟩, hst'⟩ := hE5; have hT5 := (hT3.trans ht4).new ht5 (by simp; omega); have hr5 := (hr3.turn0 ht4).turn ht5 (by simp; omega); clear hE ho he3 hr3 ht4 ht5 hL4 hAe)
  | (refine wp_al rfl 41 rfl _ nul32 ?_; intro gs w6 hgs hs6 ht6; have hT6 := hT5.trans ht6; have gsr : gr < gs := (by rw [← hgs]; exact hr5.lt); have hr6 := hr5.turn0 ht6; have hb6 := hb5.turn0 ht6; rw [cells_agg] at hs6)
  | (refine wp_ld rfl 162 _ rfl rfl hb6 (sub_words s' blk' _) Tryz.underlying162 rfl (sz8 rfl) ?_))
 have HY := hid (show X = vbs (sOut s') by rw [sState_out (l := l) hst']; exact HX.out)
 clear hst hst'
 clear hb5 hb6 hr5
 go_loopw [14] (fun i wr => ∃ j : Nat, j ≤ 8 ∧ i = .int .i64 (j : Int) ∧ Blk wr gs 41 (vbs (sOutTo s' j)).toArray ∧ Turn w6 wr (some gs)) (fun i _ => (8 - intOf i).toNat)
 case atStart => exact ⟨0, by omega, rfl, by rw [sOutTo_zero]; exact hs6, Turn.refl w6 _⟩
 case round =>
  obtain ⟨j, hj, rfl, hb, ht⟩ := hrel
  clear hs6
  by_cases hj8 : j < 8
  ·obtain ⟨x, hx, hset⟩ := sOutTo_at s' j hj8
   have hix := fun W : World => run_ix (P := Tryz.prog) (w := W) Tryz.underlying162 Tryz.underlying135 (by kernel_rfl) hj8 (show (cvs s'.list).toArray[j]? = some (.int .u32 (cV x)) by rw [List.getElem?_toArray]; exact cvs_at hx)
   have Hset := hid hset
   have hx0 := cV_bd x
   have hll : (vbs (sOutTo s' j)).length = 32 := by rw [vbs_len, sOutTo_len s' j hj]
   have d0 := hb.ats (j := 4 * j) (List.getElem?_eq_getElem (by omega))
   have d1 := hb.ats (j := 4 * j + 1) (List.getElem?_eq_getElem (by omega))
   have d2 := hb.ats (j := 4 * j + 2) (List.getElem?_eq_getElem (by omega))
   have d3 := hb.ats (j := 4 * j + 3) (List.getElem?_eq_getElem (by omega))
   have f0 := hb.frozen (4 * j)
   have f1 := hb.frozen (4 * j + 1)
   have f2 := hb.frozen (4 * j + 2)
   have f3 := hb.frozen (4 * j + 3)
   clear hset hx
   go_wp2_with fail
   have hb4 := (((hb.sets (4 * j) (.int .u8 (cV x / 16777216))).sets (4 * j + 1) (.int .u8 (cV x / 65536 % 256))).sets (4 * j + 2) (.int .u8 (cV x / 256 % 256))).sets (4 * j + 3) (.int .u8 (cV x % 256))
   rw [vb_b0, vb_b1, vb_b2, vb_b3, vbs_set, vbs_set, vbs_set, vbs_set, Hset.out, ← vb_b0, ← vb_b1, ← vb_b2, ← vb_b3] at hb4
   refine ⟨⟨j + 1, by omega, rfl, hb4, ht.trans ((((Blk.setTurn _ gs _ _).trans (Blk.setTurn _ gs _ _)).trans (Blk.setTurn _ gs _ _)).trans (Blk.setTurn _ gs _ _))⟩, ?_⟩
   simp [intOf]; omega
  ·have hjj : j = 8 := by omega
   rw [hjj, sOutTo_all, ← HY.out] at hb
   clear hjj
   have hr7 := hr6.turn ht (by simp; omega)
   go_wp2_with (first
    | (refine wp_ld rfl 41 _ rfl rfl hb (Sub.all X) Tryz.underlying41 rfl (sz32 hX1) ?_)
    | (refine wp_st (xs := X) rfl 41 _ _ rfl rfl rfl hr7 (by rw [List.size_toArray, vbs_len, hX1]; rfl) (sz32 hX1) hX2 ?_; intro w9 hb9 ht9))
   refine ret_cell rfl rfl rfl hb9 Tryz.underlying41 rfl (sz32 hX1) ⟨rfl, ?_⟩
   exact (hT6.new ht (by simp; omega)).new ht9 (by simp; omega)
open Go.RowKit
theorem Laid.range {w : World} (h : Laid w) : w.rangeAt 0 0 (cvs sStart.list) := fun j v hv => by
 simp only [cvs, List.getElem?_map, Option.map_eq_some_iff] at hv
 obtain ⟨s, h1, rfl⟩ := hv
 rw [Nat.zero_add]
 exact h.2.1 j s h1
def hsNew : List Value := hsCells sStart (List.replicate 64 0) 0
theorem new_any (w : World) (hL : Laid w) :
  Calls Tryz.prog 88 #[] w fun e w' => ∃ g, e = .returned (.pointer (some ⟨g, 0, none⟩)) ∧ w.heap.size ≤ g ∧ HIs w' g [] ∧ Turn w w' none := by
 go_enter Tryz.func88, Tryz.ntmps88
 go_wp2_with (first
  | (refine wpList_load_mid rfl 162 _ rfl 0 0 rfl (cvs sStart.list) _ hL.range Tryz.underlying162 rfl (sz8 rfl) ?_)
  | (refine wp_bd rfl 165 _ rfl _ rfl hsNew.toArray (by kernel_rfl) ?_)
  | (refine wp_bx rfl 165 _ rfl rfl ?_; intro g w1 hg1 hb1 ht1))
 go_ret
 refine ⟨g, rfl, Nat.le_of_eq hg1, ⟨sStart, List.replicate 64 0, ⟨by simp, hb1⟩, sState_nil⟩, ht1⟩
theorem ssum_any (A : Option Addr) (n c : Nat) (m : List UInt8) (B : Nat) (w : World) (hL : Laid w) (hr : Rd w B 1 A n (vbs m)) (hB : B ≤ w.heap.size) (hnc : n ≤ c) (hc : c ≤ maxLen) (hN : n ≤ 281474976710000) :
  Calls Tryz.prog 53 #[.slice A n c] w fun e w' => e = .returned (.agg (vbs (sHash m)).toArray) ∧ Turn w w' none := by
 have hT := Turn.refl w none
 obtain ⟨X, hX⟩ : ∃ X, X = vbs (sHash m) := ⟨_, rfl⟩
 have hX1 : X.length = 32 := by rw [hX, vbs_len, sHash_len]
 have hX2 : ∀ u ∈ X, u.oneCell' = true := by rw [hX]; exact vbs_one _
 rw [← hX]
 have HX := hid hX
 clear hX
 have hml := hr.len
 rw [vbs_len] at hml
 have hL0 := hL.1
 go_enter Tryz.func53, Tryz.ntmps53
 go_wp2_with (first
  | (refine wp_al rfl 41 rfl _ nul32 ?_; intro gr w1 hgr hres ht1; have hT := hT.trans ht1; rw [cells_agg] at hres)
  | (go_at_call 88; refine (new_any _ (hL.turn hT (by simp))).mono ?_; rintro e w2 ⟨g, rfl, hg, hh, ht2⟩; have hT := hT.trans ht2; have hres := hres.turn0 ht2; have hgs := ht1.size; have grg : gr < g := (by have := hgr; have := (Blk.lt (h := ‹Blk w1 gr _ _›)); omega))
  | (go_at_call 89; refine (write_any [] g _ _ _ m B _ (hL.turn hT (by simp)) (by omega) hh (hr.turn0 hT hB) (Nat.le_trans hB hT.size) (fun h0 e => by
    obtain ⟨b0, off, rfl, hb0, _⟩ := hr.head (by omega)
    simp [Go.Proofs.YtgigiecdpjchkaaGreatDoor.blk] at e
    omega) hnc hc (by simp; omega)).mono ?_; rintro e w3 ⟨rfl, hh3, ht3⟩; have hres3 := hres.turn ht3 (by simp; omega); have hT3 := hT.new ht3 (by simp; omega); clear hh hres; rw [List.nil_append] at hh3)
  | (go_at_call 90; refine (hsum_any m g _ (hL.turn hT3 (by simp)) (by omega) hh3 (by omega)).mono ?_; rintro e w4 ⟨rfl, ht4⟩; rw [← HX.out]; have hres4 := hres3.turn0 ht4; have hT4 := hT3.trans ht4)
  | (refine wp_st (xs := X) rfl 41 _ _ rfl rfl rfl hres4 (by rw [List.size_toArray, vbs_len, hX1]; rfl) (sz32 hX1) hX2 ?_; intro w9 hb9 ht9))
 refine ret_cell rfl rfl rfl hb9 Tryz.underlying41 rfl (sz32 hX1) ⟨rfl, ?_⟩
 exact hT4.new ht9 (by have := ht1.size; simp; omega)
open Go.RowKit
def sDig (n : Nat) : UInt8 := ([48, 49, 50, 51, 52, 53, 54, 55, 56, 57, 97, 98, 99, 100, 101, 102] : List UInt8).getD n 0
def sHex (l : List UInt8) : List UInt8 := l.flatMap fun b => [sDig (b.toNat / 16), sDig (b.toNat % 16)]
theorem sHex_len (l : List UInt8) : (sHex l).length = 2 * l.length := by
 induction l with
 | nil => rfl
 | cons b r ih => simp only [sHex, List.flatMap_cons, List.length_append, List.length_cons, List.length_nil] at ih ⊢; omega
theorem sHex_last (l : List UInt8) (b : UInt8) : sHex (l ++ [b]) = sHex l ++ [sDig (b.toNat / 16), sDig (b.toNat % 16)] := by simp [sHex]
theorem str_run (w : World) {B : Nat} {A : Option Addr} {n c : Nat} {l : List UInt8} (h : Rd w B 1 A n (vbs l)) : (convert 55 9 (.slice A n c)).run Tryz.prog w = .ok (.string (txt l)) w :=
 run_txt w B _ _ 5 A n c l Tryz.underlying55 Tryz.underlying5 Tryz.underlying9 h
theorem dig_at (n : Nat) (hn : n < 16) (h : n < ({ data := #[48, 49, 50, 51, 52, 53, 54, 55, 56, 57, 97, 98, 99, 100, 101, 102] } : ByteArray).size) : (({ data := #[48, 49, 50, 51, 52, 53, 54, 55, 56, 57, 97, 98, 99, 100, 101, 102] } : ByteArray)[n]'h) = sDig n := by
 have : n = 0 ∨ n = 1 ∨ n = 2 ∨ n = 3 ∨ n = 4 ∨ n = 5 ∨ n = 6 ∨ n = 7 ∨ n = 8 ∨ n = 9 ∨ n = 10 ∨ n = 11 ∨ n = 12 ∨ n = 13 ∨ n = 14 ∨ n = 15 := by omega
 rcases this with rfl | rfl | rfl | rfl | rfl | rfl | rfl | rfl | rfl | rfl | rfl | rfl | rfl | rfl | rfl | rfl <;> rfl
theorem and15 : ∀ n : Nat, n < 256 → bits .and .u8 (n : Int) 15 = ((n % 16 : Nat) : Int) := by decide +kernel
theorem hex_any (Y : List UInt8) (hY : Y.length = 32) (w : World) :
  Calls Tryz.prog 55 #[.agg (vbs Y).toArray] w fun e w' => e = .returned (.string (txt (sHex Y))) ∧ Turn w w' none := by
 have hT := Turn.refl w none
 go_enter Tryz.func55, Tryz.ntmps55
 go_wp2_with (first
  | (refine wp_bx rfl 41 _ rfl rfl ?_; intro g1 w1 hg1 hb1 ht1; have hT := hT.trans ht1)
  | (refine wp_ld rfl 41 _ rfl rfl hb1 (Sub.all _) Tryz.underlying41 rfl (sz32 (by rw [vbs_len, hY])) ?_))
 go_loopw [3, 7] (fun b i wr => ∃ (j : Nat) (A : Option Addr) (c : Nat), j ≤ 32 ∧ i = .int .i64 (j : Int) ∧ b = .slice A (2 * j) c ∧ Own wr w.heap.size 5 1 A (2 * j) c (vbs (sHex (Y.take j))) ∧ Turn w wr none) (fun _ i _ => (32 - intOf i).toNat)
 case atStart => exact ⟨0, none, 0, by omega, rfl, rfl, Own.nil _ _ _ _, hT⟩
 case round =>
  obtain ⟨j, A, c, hj, rfl, rfl, ho, hT⟩ := hrel
  have hTs := hT.size
  by_cases hj32 : j < 32
  ·obtain ⟨b, hb⟩ : ∃ b, Y[j]? = some b := ⟨Y[j]'(by omega), List.getElem?_eq_getElem (by omega)⟩
   have hix := fun W : World => run_ix (P := Tryz.prog) (w := W) Tryz.underlying41 Tryz.underlying5 (by kernel_rfl) hj32 (show (vbs Y).toArray[j]? = some (.int .u8 (b.toNat : Int)) by rw [List.getElem?_toArray, vbs, List.getElem?_map, hb]; rfl)
   have hb256 := b.toNat_lt
   obtain ⟨n1, hn1⟩ : ∃ n1, n1 = b.toNat / 16 := ⟨_, rfl⟩
   obtain ⟨n2, hn2⟩ : ∃ n2, n2 = b.toNat % 16 := ⟨_, rfl⟩
   have e1 : (b.toNat : Int) / 16 = (n1 : Int) := by omega
   have e2 : bits .and .u8 (b.toNat : Int) 15 = (n2 : Int) := by rw [and15 _ hb256, hn2]
   have l1 : n1 < 16 := by omega
   have l2 : n2 < 16 := by omega
   have l1' : (n1 : Int) < 16 := by omega
   have l2' : (n2 : Int) < 16 := by omega
   have d1 := dig_at n1 l1
   have d2 := dig_at n2 l2
   have hcat : sHex (Y.take j) ++ [sDig n1, sDig n2] = sHex (Y.take (j + 1)) := by rw [take_nxt hb, sHex_last, hn1, hn2]
   have HC := hid hcat
   clear hcat hn1 hn2
   go_wp2_with fail
   refine wp_region_noPanic ?_
   refine wp_region_held_drew (S := fun _ => True) (by kernel_rfl) trivial (fun hHeld => ?_)
   (first | refine tkN 0 ?_ | refine tkY 0 _ ?_); (try simp only [Act.put, zs])
   (first | refine tkN 1 ?_ | refine tkY 1 _ ?_); (try simp only [Act.put, zs])
   (first | refine tkN 2 ?_ | refine tkY 2 _ ?_); (try simp only [Act.put, zs])
   (first | refine tkN 3 ?_ | refine tkY 3 _ ?_); (try simp only [Act.put, zs])
   (first | refine tkN 4 ?_ | refine tkY 4 _ ?_); (try simp only [Act.put, zs])
   (first | refine tkN 5 ?_ | refine tkY 5 _ ?_); (try simp only [Act.put, zs])
   (first | refine tkN 6 ?_ | refine tkY 6 _ ?_); (try simp only [Act.put, zs])
   refine wpAnyH_ready (rs := [7]) (by kernel_rfl) (by simp) ?_
   refine AllReadyH.cons rfl (fun K hK => ?_) AllReadyH.nil
   go_simp
   refine hK.out _ _ trivial (fun hHeld => ?_)
   clear hK K
   (try simp only [Act.put, zs])
   refine wpAnyH_ready (rs := [8]) (by kernel_rfl) (by simp) ?_
   refine AllReadyH.cons rfl (fun K hK => ?_) AllReadyH.nil
   refine st_app rfl _ _ _ rfl elB rfl rfl (ho.alloc _).drew (Rd.lit wr _ [_, _]).drew (by repeat (first | exact ones_nil | refine ones_cons rfl ?_)) (by unfold maxLen; first | omega | (simp; done) | (simp; omega)) (by first | omega | (simp; done) | (simp; omega)) (Nat.le_trans hTs (by show wr.heap.size ≤ (wr.heap.push _).size; rw [Array.size_push]; omega)) ?_
   intro A1 c1 w2 ho2 ht2 hb2
   refine hK.out _ _ trivial (fun hHeld => ?_)
   clear hK K
   (try simp only [Act.put, zs])
   (first | refine tkN 9 ?_ | refine tkY 9 _ ?_); (try simp only [Act.put, zs])
   refine wpAnyH_done (by kernel_rfl) ?_ _
   refine NoPanic.normal ?_
   clear hHeld
   have e3 : vbs (sHex (Y.take j)) ++ [Value.int .u8 ((sDig n1).toNat : Int), Value.int .u8 ((sDig n2).toNat : Int)] = vbs (sHex (Y.take (j + 1))) := by
    rw [← HC.out, vbs_append]
    rfl
   rw [e3] at ho2
   have hT2 : Turn w w2 none := ((hT.alloc _).drew).new ht2 (fun g' hg' => (ho.block g' hg').1)
   clear ho
   go_wp2_with fail
   refine ⟨⟨j + 1, A1, c1, by omega, rfl, rfl, ho2, hT2⟩, ?_⟩
   simp [intOf]; omega
  ·have hjj : j = 32 := by omega
   have hYY : Y.take j = Y := List.take_of_length_le (by omega)
   rw [hYY] at ho
   clear hjj hYY
   have s1 := str_run wr (c := c) ho.rd
   go_wp2_with fail
   go_ret
   exact ⟨rfl, hT⟩
end Go.Proofs.YtgigiecdpjchkaaGreatDoor.Sha
namespace Go.Proofs.YtgigiecdpjchkaaGreatDoor
open Go.RowKit
structure CT (w : World) : Prop where
 lt : LT w
 sha : Sha.Laid w
theorem CT.turn {w w' : World} (h : CT w) (ht : Turn w w' none) : CT w' := ⟨h.lt.turn ht, h.sha.turn ht (by simp)⟩
def cForm (l : List UInt8) : Except PE (List UInt8) := match eRead l with
 | .error e => .error e
 | .ok N => match cShow (N.map Nd.g) with
  | some p => .ok p.1
  | none => .error (0, 1)
theorem form_ok {l t : List UInt8} (h : cForm l = .ok t) : ∃ N d, eRead l = .ok N ∧ cShow (N.map Nd.g) = some (t, d) := by
 unfold cForm at h
 split at h
 ·cases h
 ·rename_i N e
  split at h
  ·rename_i p hp
   injection h with h
   exact ⟨N, p.2, e, by rw [hp, ← h]⟩
  ·cases h
theorem form_no {l : List UInt8} {p : PE} (h : cForm l = .error p) : eRead l = .error p ∨ ∃ N, eRead l = .ok N ∧ cShow (N.map Nd.g) = none ∧ p = (0, 1) := by
 unfold cForm at h
 split at h
 ·rename_i e he
  injection h with h
  rw [← h]
  exact .inl he
 ·rename_i N e
  split at h
  ·cases h
  ·rename_i hp
   injection h with h
   exact .inr ⟨N, e, hp, h.symm⟩
theorem form_back {l : List UInt8} {N : List Nd} (h : eRead l = .ok N) : ∃ t, cForm l = .ok t ∧ eRead t = .ok N ∧ cForm t = .ok t ∧ t.length ≤ l.length ∧ t.length ≤ 4096 := by
 obtain ⟨t, d, h1, h2, h3⟩ := show_back h (read_few h)
 refine ⟨t, ?_, h2, ?_, h3, pRead_long ((eRead_is _ _).1 h2)⟩
 ·unfold cForm; rw [h]; simp only; rw [h1]
 ·unfold cForm; rw [h2]; simp only; rw [h1]
theorem form_len {l t : List UInt8} (h : cForm l = .ok t) : t.length ≤ 4096 := by
 obtain ⟨N, d, h1, _⟩ := form_ok h
 obtain ⟨t', h2, _, _, _, h3⟩ := form_back h1
 rw [h] at h2
 injection h2 with h2
 rw [h2]
 exact h3
section
variable {P : Program} {ops : Array Oper} {rest : List Oper} {a : Act} {w : World} {Q : Exit → Act → World → Prop} {o : Oper}
theorem wp_cvb (hgd : o.guard = none) (src dst e : TypeId) (x : Operand) (ho : o.op = .convert src dst x) (hs : P.underlying src = some .string) (hd : P.underlying dst = some (.slice e)) (he : P.underlying e = some (.int .u8))
  {l : List UInt8} (hx : a.eval x = .string (txt l)) (hl : l.length ≤ maxLen)
  (hK : ∀ g c w', Rd w' w'.heap.size 1 (some ⟨g, 0, none⟩) l.length (vbs l) → l.length ≤ c → c ≤ maxLen → Turn w w' none → wpList P ops Q rest (a.put o.dst (.slice (some ⟨g, 0, none⟩) l.length c)) w') : wpList P ops Q (o :: rest) a w := by
 refine wpList_plain hgd fun K hK2 => ?_
 have hrun := run_bytes_of_string (P := P) w src dst e (txt l) hs hd he
 rw [txt_size] at hrun
 unfold Oper.wp execOp
 simp only [ho, hx, Sem.run_bind, Sem.run_pure, Result.andThen_ok, hrun]
 refine hK2 _ _ (hK _ _ _ ?_ (grownCap_ge w l.length 0 e) (grownCap_le_maxLen w l.length 0 e hl) (((Turn.refl w none).drew).alloc _))
 refine ⟨by rw [vbs_len]; omega, fun k u hu => ⟨_, rfl, ?_, ?_⟩⟩
 ·show w.heap.size < (w.heap.push _).size
  rw [Array.size_push]; omega
 ·rw [add_flat, Nat.zero_add]
  have h1 := cell_of_row _ w.heap.size k _ e _ (heap_alloc_new w.drew (.cells (bytesRow (txt l) (grownCap w l.length 0 e)) e ((bytesRow (txt l) (grownCap w l.length 0 e)).size, (bytesRow (txt l) (grownCap w l.length 0 e)).size + 1)))
  rw [h1]
  have hk : k < (vbs l).length := (List.getElem?_eq_some_iff.1 hu).1
  unfold bytesRow
  rw [Array.getElem?_append_left (by simpa [txt, vbs] using hk)]
  simpa [txt, vbs, vb] using hu
end
theorem ret_two {P : Program} {fn : Func} {R : Ending → World → Prop} {p u : Tmp} {ty : TypeId} {a : Act} {w : World} {g : Nat} {xs : List Value} {d : TypeDesc} {v : Value} (hf : fn.results = #[.cell p ty, .tmp u]) (hp : a.tmps.getD p undef = .pointer (some ⟨g, 0, none⟩)) (hv : a.tmps.getD u undef = v) (hdf : a.defers = []) (h : Blk w g ty xs.toArray)
  (hu : P.underlying ty = some d) (hd : d.isRow = true) (hi : (P.info? ty).map (·.size) = some xs.length) (hR : R (.returned (.tuple #[.agg xs.toArray, v])) w) : bodyPost P fn R .ret a w := by
 refine bodyPost_ret (v := .tuple #[.agg xs.toArray, v]) ?_ hdf hR
 rw [results_cell_tmp hf, hp, hv]
 simp only [asAddr, Sem.run_pure, Result.andThen_ok]
 rw [run_loadVar_mid w g 0 ty xs d (h.range (Sub.all xs)) hu hd hi]
 rfl
section
variable {w : World} {l t : List UInt8}
theorem text_ok (h : cForm l = .ok t) (w : World) (hT : LT w) (hl : l.length ≤ 140737488355328) : Calls Tryz.prog 18 #[.string (txt l)] w fun e w' => e = .returned (.tuple #[.string (txt t), .int .i64 0, .int .i64 0]) ∧ Turn w w' none := by
 obtain ⟨N, d, h1, h2⟩ := form_ok h
 have pa := parse_ok h1 w hT.lf hl
 have sh := fun {w1 : World} {A c} (ht : Turn w w1 none) (q : Sv w1 A N.length c (N.map Nd.g)) => show_ok h2 (hT.turn ht) q
 obtain ⟨gs, hgs⟩ : ∃ gs, gs = N.map Nd.g := ⟨_, rfl⟩
 obtain ⟨n, hn⟩ : ∃ n, n = N.length := ⟨_, rfl⟩
 simp only [← hgs, ← hn] at pa sh
 clear hgs hn h1 h2 h
 go_enter Tryz.func18, Tryz.ntmps18
 go_wp2_with (first
  | (go_at_call 43; refine pa.mono ?_; rintro e w1 ⟨A, c, rfl, v1, _, ht1⟩)
  | (refine wp_var rfl rfl 24 _ _ rfl rfl rfl rfl zSch (fun _ => rfl) (xs := [.slice A n c]) (fun _ => rfl) rfl szSch (one1 rfl) ?_; intro g2 w2 hg2 hb2 ht2; have v2 := v1.turn ht2)
  | (refine wp_ld rfl 24 _ rfl rfl hb2 (Sub.all [.slice A n c]) Tryz.underlying24 rfl szSch ?_)
  | (go_at_call 13; refine (sh (ht1.trans ht2) v2).mono ?_; rintro e w3 ⟨rfl, ht3⟩))
 go_ret3
 exact ⟨rfl, (ht1.trans ht2).trans ht3⟩
theorem text_no {p er : Nat} (h : cForm l = .error (p, er)) (w : World) (hT : LT w) (hl : l.length ≤ 140737488355328) : Calls Tryz.prog 18 #[.string (txt l)] w fun e w' => e = .returned (.tuple #[.string (txt []), .int .i64 (p : Int), .int .i64 (er : Int)]) ∧ ((er : Int) != 0) = true ∧ Turn w w' none := by
 rcases form_no h with h1 | ⟨N, h1, h2, h3⟩
 ·have pa := parse_no h1 w hT.lf hl
  clear h1 h
  go_enter Tryz.func18, Tryz.ntmps18
  go_wp2_with (first
   | (go_at_call 43; refine pa.mono ?_; rintro e w1 ⟨rfl, hne, ht1⟩)
   | (refine wp_var rfl rfl 24 _ _ rfl rfl rfl rfl zSch (fun _ => rfl) (xs := [.slice none 0 0]) (fun _ => rfl) rfl szSch (one1 rfl) ?_; intro g2 w2 hg2 hb2 ht2))
  go_ret3
  exact ⟨rfl, hne, ht1.trans ht2⟩
 ·have pa := parse_ok h1 w hT.lf hl
  have sh := fun {w1 : World} {A c} (ht : Turn w w1 none) (q : Sv w1 A N.length c (N.map Nd.g)) => show_no h2 (hT.turn ht) q
  injection h3 with h3 h4
  obtain ⟨gs, hgs⟩ : ∃ gs, gs = N.map Nd.g := ⟨_, rfl⟩
  obtain ⟨n, hn⟩ : ∃ n, n = N.length := ⟨_, rfl⟩
  simp only [← hgs, ← hn] at pa sh
  subst h3; subst h4
  clear hgs hn h1 h2 h
  go_enter Tryz.func18, Tryz.ntmps18
  go_wp2_with (first
   | (go_at_call 43; refine pa.mono ?_; rintro e w1 ⟨A, c, rfl, v1, _, ht1⟩)
   | (refine wp_var rfl rfl 24 _ _ rfl rfl rfl rfl zSch (fun _ => rfl) (xs := [.slice A n c]) (fun _ => rfl) rfl szSch (one1 rfl) ?_; intro g2 w2 hg2 hb2 ht2; have v2 := v1.turn ht2)
   | (refine wp_ld rfl 24 _ rfl rfl hb2 (Sub.all [.slice A n c]) Tryz.underlying24 rfl szSch ?_)
   | (go_at_call 13; refine (sh (ht1.trans ht2) v2).mono ?_; rintro e w3 ⟨rfl, ht3⟩))
  go_ret3
  exact ⟨rfl, rfl, (ht1.trans ht2).trans ht3⟩
def isForm (l : List UInt8) : Bool := match cForm l with
 | .ok t => t == l
 | .error _ => false
theorem is_any (l : List UInt8) (w : World) (hT : LT w) (hl : l.length ≤ 140737488355328) : Calls Tryz.prog 21 #[.string (txt l)] w fun e w' => e = .returned (.bool (isForm l)) ∧ Turn w w' none := by
 cases h : cForm l with
 | error p =>
  obtain ⟨p, er⟩ := p
  have tx := text_no h w hT hl
  have H := hid (show isForm l = false by unfold isForm; rw [h])
  clear h
  go_enter Tryz.func21, Tryz.ntmps21
  go_wp2_with (go_at_call 18; refine tx.mono ?_; rintro e w1 ⟨rfl, hne, ht1⟩; have heq : ((er : Int) == 0) = false := (by rw [bne_iff_ne] at hne; rw [beq_eq_false_iff_ne]; exact hne))
  go_ret
  exact ⟨by rw [H.out]; rfl, ht1⟩
 | ok t =>
  have tx := text_ok h w hT hl
  have H := hid (show isForm l = ((txt t).toList == (txt l).toList) by rw [tx_beq]; unfold isForm; rw [h])
  clear h
  go_enter Tryz.func21, Tryz.ntmps21
  go_wp2_with (go_at_call 18; refine tx.mono ?_; rintro e w1 ⟨rfl, ht1⟩)
  go_ret
  exact ⟨by rw [H.out]; rfl, ht1⟩
end
end Go.Proofs.YtgigiecdpjchkaaGreatDoor
namespace Go.Proofs.YtgigiecdpjchkaaGreatDoor.L8
open Go.ChangeShapes Go.WideShapes Go.ChangeAt Go.RowKit
open Sha (sStart sKeys cvs cV)
theorem laid_start : (Rows.laid_suffragan_sha_start : DataW Unit) = Lib.tabData .u32 (sStart.list.map cV) := by kernel_rfl
theorem laid_keys : (Rows.laid_suffragan_sha_keys : DataW Unit) = Lib.tabData .u32 (sKeys.map cV) := by kernel_rfl
theorem tab_at {l : List (BitVec 32)} {i : Nat} {s : BitVec 32} (h : l[i]? = some s) : i < (l.map cV).length ∧ (l.map cV).getD i 0 = cV s := by
 have hi := (List.getElem?_eq_some_iff.1 h).1
 refine ⟨by simpa using hi, ?_⟩
 rw [List.getD_eq_getElem?_getD, List.getElem?_map, h]
 rfl
theorem laid_pow : (Rows.laid_internal_strconv_uint64pow10 : DataW Unit) = Lib.tabData .u64 Lib.pow10Tab := by kernel_rfl
theorem laid_first : (Rows.laid_suffragan_parse_first : DataW Unit) = strData kwList := by kernel_rfl
theorem lay_of {W : World} (h : laidMetH Tryz.prog Rows.canonTextsRow.laid W) : CT W := by
 have h' : laidMet Tryz.prog [("math/bits.deBruijn32tab", Rows.laid_math_bits_deBruijn32tab), ("math/bits.deBruijn64tab", Rows.laid_math_bits_deBruijn64tab), ("internal/strconv.uint64pow10", Rows.laid_internal_strconv_uint64pow10), ("suffragan/sha.start", Rows.laid_suffragan_sha_start), ("suffragan/sha.keys", Rows.laid_suffragan_sha_keys), ("suffragan/parse.first", Rows.laid_suffragan_parse_first)] W := h
 rw [laid_pow, laid_first, laid_start, laid_keys] at h'
 obtain ⟨ps, ⟨_, _, _, _, _, _, _, _, _, _, ⟨_, _, _, _, _, _, _, _, _, _, ⟨g0, t0, cs0, f0, p0, q0, hg0, ht0, hv0, hd0, ⟨g2, t2, cs2, f2, p2, q2, hg2, ht2, hv2, hd2, ⟨g3, t3, cs3, f3, p3, q3, hg3, ht3, hv3, hd3, ⟨g1, t1, cs1, f1, p1, q1, hg1, ht1, hv1, hd1, _, _⟩, _⟩, _⟩, _⟩, _⟩, _⟩, _, _⟩ := h'
 have n0 : Tryz.prog.globalNamed "internal/strconv.uint64pow10" = some 3 := by kernel_rfl
 have n1 : Tryz.prog.globalNamed "suffragan/parse.first" = some 1 := by kernel_rfl
 have n2 : Tryz.prog.globalNamed "suffragan/sha.start" = some 0 := by kernel_rfl
 have n3 : Tryz.prog.globalNamed "suffragan/sha.keys" = some 2 := by kernel_rfl
 obtain rfl := Option.some.inj (n0.symm.trans hg0)
 obtain rfl := Option.some.inj (n1.symm.trans hg1)
 obtain rfl := Option.some.inj (n2.symm.trans hg2)
 obtain rfl := Option.some.inj (n3.symm.trans hg3)
 obtain rfl := Option.some.inj ((show (Tryz.prog.globals[3]?).map (·.type) = some 205 by kernel_rfl).symm.trans ht0)
 obtain rfl := Option.some.inj ((show (Tryz.prog.globals[1]?).map (·.type) = some 181 by kernel_rfl).symm.trans ht1)
 obtain rfl := Option.some.inj ((show (Tryz.prog.globals[0]?).map (·.type) = some 162 by kernel_rfl).symm.trans ht2)
 obtain rfl := Option.some.inj ((show (Tryz.prog.globals[2]?).map (·.type) = some 184 by kernel_rfl).symm.trans ht3)
 have T0 : Tab W := by
  unfold Tab Lib.TabIs
  rw [hv0, ← Lib.cells_of_tab Tryz.underlying205 Tryz.underlying133 (by kernel_rfl) (by kernel_rfl) hd0]
 have c1 := cells_of_strs Tryz.underlying181 Tryz.underlying9 (by kernel_rfl) (by kernel_rfl) hd1
 have a1 : LF W := fun i s hi => by
  have h := World.var?_cell n1 hv1 i
  rw [h, ← Array.getElem?_toList, c1, List.getElem?_map, hi]
  rfl
 have T2 : Lib.TabIs Tryz.prog W "suffragan/sha.start" .u32 (sStart.list.map cV) := by
  unfold Lib.TabIs
  rw [hv2, ← Lib.cells_of_tab Tryz.underlying162 Tryz.underlying135 (by kernel_rfl) (by kernel_rfl) hd2]
 have T3 : Lib.TabIs Tryz.prog W "suffragan/sha.keys" .u32 (sKeys.map cV) := by
  unfold Lib.TabIs
  rw [hv3, ← Lib.cells_of_tab Tryz.underlying184 Tryz.underlying135 (by kernel_rfl) (by kernel_rfl) hd3]
 have b0 : ∀ i s, sStart.list[i]? = some s → W.cell? ⟨0, i, none⟩ = some (.int .u32 (cV s)) := fun i s hi => by
  have h := T2.cell n2 i (tab_at hi).1
  rw [(tab_at hi).2] at h
  exact h
 have b1 : ∀ i s, sKeys[i]? = some s → W.cell? ⟨2, i, none⟩ = some (.int .u32 (cV s)) := fun i s hi => by
  have h := T3.cell n3 i (tab_at hi).1
  rw [(tab_at hi).2] at h
  exact h
 have z := World.block_lt_of_cell? W _ (b1 0 _ rfl)
 exact ⟨⟨a1, T0, World.block_lt_of_cell? W _ (T0.cell n0 0 (by decide))⟩, ⟨z, b0, b1⟩⟩
noncomputable def laidWorld (os : Os) : World :=
 { World.holding Tryz.prog os ⟨#[], #[], []⟩ with heap := ((((((World.holding Tryz.prog os ⟨#[], #[], []⟩).heap.modify 5 (laidRow (intRow .u8 Rows.laid_math_bits_deBruijn32tab))).modify 6 (laidRow (intRow .u8 Rows.laid_math_bits_deBruijn64tab))).modify 3 (laidRow (Lib.pow10Tab.map fun z => Value.int .u64 z))).modify 1 (laidRow kwVals)).modify 0 (laidRow (cvs sStart.list))).modify 2 (laidRow (cvs sKeys)) }
theorem laid_met (os : Os) (args : Array Value) : laidMet Tryz.prog Rows.canonTextsRow.laid ((laidWorld os).forCall (fun _ _ => 0) ⟨#[], args, []⟩).memory :=
 laidMet_of_run' 8 (by kernel_rfl) (by kernel_rfl)
end Go.Proofs.YtgigiecdpjchkaaGreatDoor.L8
