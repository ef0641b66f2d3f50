/-
  Layer 3: a block's words (contracts).
-/
import Derived.Test.YtfmighjblppceaaDoorSa
namespace Go.Proofs.YtfmighjblppceaaDoor
open Go.RowKit

theorem nul64 : ∀ w, (zeroValue 51).run Tryd.prog w = .ok (.agg (cvs (List.replicate 64 0#32)).toArray) w := zero_at (by kernel_rfl)
theorem sz64w {xs : List Value} (h : xs.length = 64) : (Tryd.prog.info? 51).map (·.size) = some xs.length := by rw [h]; kernel_rfl
theorem sz64b {xs : List Value} (h : xs.length = 64) : (Tryd.prog.info? 47).map (·.size) = some xs.length := by rw [h]; kernel_rfl
theorem cells_agg (cs : Array Value) : (Value.agg cs).cells = cs := rfl

set_option maxRecDepth 100000 in
set_option maxHeartbeats 800000 in
theorem spread_any (m : List UInt8) (hm : m.length = 64) (w : World) :
    Calls Tryd.prog 23 #[.agg (vbs m).toArray] w fun e w' => e = .returned (.agg (cvs (sSpread m)).toArray) ∧ Turn w w' none := by
  have hT := Turn.refl w none
  obtain ⟨X, hX⟩ : ∃ X, X = cvs (sSpread m) := ⟨_, rfl⟩
  have hX1 : X.length = 64 := by rw [hX, cvs_len, sSpread_len]
  have hX2 : ∀ u ∈ X, u.oneCell' = true := by rw [hX]; exact cvs_one _
  rw [← hX]
  have HX := hid hX
  clear hX
  go_enter Tryd.func23, Tryd.ntmps23
  go_wp2_with (first
    | (refine wp_bx rfl 47 _ rfl rfl ?_; intro g1 w1 hg1 hb1 ht1; have hT := hT.trans ht1)
    | (refine wp_al rfl 51 rfl _ nul64 ?_; first
        | (have hh := hb2; clear hh; intro g3 w3 hg3 hb3 ht3; have hT := hT.trans ht3; have g23 : g2 < g3 := (by rw [← hg3]; exact hb2.lt); have hb2 := hb2.turn0 ht3; have hb1 := hb1.turn0 ht3; rw [cells_agg] at hb3)
        | (intro g2 w2 hg2 hb2 ht2; have hT := hT.trans ht2; have hb1 := hb1.turn0 ht2; rw [cells_agg] at hb2))
    | (refine wp_ld rfl 47 _ rfl rfl hb1 (Sub.all _) Tryd.underlying47 rfl (sz64b (by rw [vbs_len, hm])) ?_))
  have hs1 := ht1.size
  have hs2 := ht2.size
  have g12 := hb1.lt
  have g02 : w.heap.size ≤ g3 := by omega
  clear hb1 ht1 ht2 ht3
  go_loopw [8] (fun i wr => ∃ j : Nat, j ≤ 64 ∧ i = .int .i64 (j : Int) ∧ Blk wr g3 51 (cvs (sPart m j)).toArray ∧ Turn w3 wr (some g3)) (fun i _ => (64 - intOf i).toNat)
  case atStart => exact ⟨0, by omega, rfl, by rw [sPart_zero]; exact hb3, Turn.refl w3 _⟩
  case round =>
    obtain ⟨j, hj, rfl, hb, ht⟩ := hrel
    clear hb3
    by_cases hj64 : j < 64
    · obtain ⟨c, hc⟩ : ∃ c, m[j]? = some c := ⟨m[j]'(by omega), List.getElem?_eq_getElem (by omega)⟩
      have hix := fun W : World => run_ix (P := Tryd.prog) (w := W) Tryd.underlying47 Tryd.underlying5 (by kernel_rfl) hj64 (show (vbs m).toArray[j]? = some (.int .u8 (c.toNat : Int)) by rw [List.getElem?_toArray, vbs, List.getElem?_map, hc]; rfl)
      have hcell := hb.ats (cvs_at (sPart_at m j (j / 4) (by omega)))
      have hfr := hb.frozen (j / 4)
      have hc256 := c.toNat_lt
      have hx := cV_bd (sWord (((m.take j).drop (4 * (j / 4))).take 4))
      go_wp2_with fail
      rw [cOr_code]
      refine ⟨⟨j + 1, by omega, rfl, ?_, ht.trans (Blk.setTurn wr g3 _ _)⟩, ?_⟩
      · rw [← sPart_next hj64 hc, ← cvs_set]
        exact hb.sets _ _
      · simp [intOf]; omega
    · have hjj : j = 64 := by omega
      rw [hjj, sPart_all hm] at hb
      clear hjj
      go_wp2_with fail
      go_loopw [6] (fun v wr2 => ∃ i n : Nat, i = 16 + n ∧ n ≤ 48 ∧ v = .int .i64 (i : Int) ∧ Blk wr2 g3 51 (cvs (sTab m n)).toArray ∧ Turn w3 wr2 (some g3)) (fun i _ => (64 - intOf i).toNat)
      case atStart => exact ⟨16, 0, rfl, by omega, rfl, hb, ht⟩
      case round =>
        obtain ⟨i, n, hi, hn, rfl, hb, ht⟩ := hrel
        by_cases hn48 : n < 48
        · obtain ⟨k16, hk16⟩ : ∃ k, k = i - 16 := ⟨_, rfl⟩
          obtain ⟨k15, hk15⟩ : ∃ k, k = i - 15 := ⟨_, rfl⟩
          obtain ⟨k7, hk7⟩ : ∃ k, k = i - 7 := ⟨_, rfl⟩
          obtain ⟨k2, hk2⟩ : ∃ k, k = i - 2 := ⟨_, rfl⟩
          have q16 := hb.ats (cvs_at (sTab_at m n k16 (by omega)))
          have w16 : IntKind.i64.wrap ((i : Int) - 16) = (k16 : Int) := by rw [IntKind.wrap_i64]; omega
          have l16 : (k16 : Int) < 64 := by omega
          have m16 : k16 < 64 := by omega
          have q15 := hb.ats (cvs_at (sTab_at m n k15 (by omega)))
          have w15 : IntKind.i64.wrap ((i : Int) - 15) = (k15 : Int) := by rw [IntKind.wrap_i64]; omega
          have l15 : (k15 : Int) < 64 := by omega
          have m15 : k15 < 64 := by omega
          have q7 := hb.ats (cvs_at (sTab_at m n k7 (by omega)))
          have w7 : IntKind.i64.wrap ((i : Int) - 7) = (k7 : Int) := by rw [IntKind.wrap_i64]; omega
          have l7 : (k7 : Int) < 64 := by omega
          have m7 : k7 < 64 := by omega
          have q2 := hb.ats (cvs_at (sTab_at m n k2 (by omega)))
          have w2 : IntKind.i64.wrap ((i : Int) - 2) = (k2 : Int) := by rw [IntKind.wrap_i64]; omega
          have l2 : (k2 : Int) < 64 := by omega
          have m2 : k2 < 64 := by omega
          obtain ⟨z, hz⟩ : ∃ z, (sTab m n)[i]? = some z := ⟨_, List.getElem?_eq_getElem (by rw [sTab_len hn]; omega)⟩
          have q0 := hb.ats (cvs_at hz)
          have qf := hb.frozen i
          have i64 : i < 64 := by omega
          have i64' : (i : Int) < 64 := by omega
          generalize e16 : (sMore (sFirst m 16) n).getD k16 0#32 = x16 at q16
          have d16 := cV_bd x16
          generalize e15 : (sMore (sFirst m 16) n).getD k15 0#32 = x15 at q15
          have d15 := cV_bd x15
          generalize e7 : (sMore (sFirst m 16) n).getD k7 0#32 = x7 at q7
          have d7 := cV_bd x7
          generalize e2 : (sMore (sFirst m 16) n).getD k2 0#32 = x2 at q2
          have d2 := cV_bd x2
          have d5 := cV_bd (sShi x15 7 18 3)
          have d6 := cV_bd (sShi x2 17 19 10)
          have j16 : i ≠ k16 := by omega
          have j15 : i ≠ k15 := by omega
          have j7 : i ≠ k7 := by omega
          have j2 : i ≠ k2 := by omega
          have H := hid (And.intro hi (And.intro hk16 (And.intro hk15 (And.intro hk7 hk2))))
          clear hi hk16 hk15 hk7 hk2
          go_wp2_with fail
          go_region_held3 (fun W => W.cell? ⟨g3, k16, none⟩ = some (.int .u32 (cV x16)) ∧ W.cell? ⟨g3, k15, none⟩ = some (.int .u32 (cV x15)) ∧ W.cell? ⟨g3, k7, none⟩ = some (.int .u32 (cV x7)) ∧ W.cell? ⟨g3, k2, none⟩ = some (.int .u32 (cV x2))) (first | exact ⟨q16, q15, q7, q2⟩ | exact ⟨(cell_set_ne j16).trans q16, (cell_set_ne j15).trans q15, (cell_set_ne j7).trans q7, (cell_set_ne j2).trans q2⟩) (first
            | (go_at_call_of 25 (Value.int .u32 (cV x15)); refine (shifted_of _ x15 rfl _ _ _ 7 18 3 rfl rfl rfl (by decide) (by decide) (by decide) (by decide) (by decide) _).mono ?_; rintro e w' ⟨rfl, q, rfl⟩)
            | (go_at_call_of 25 (Value.int .u32 (cV x2)); refine (shifted_of _ x2 rfl _ _ _ 17 19 10 rfl rfl rfl (by decide) (by decide) (by decide) (by decide) (by decide) _).mono ?_; rintro e w' ⟨rfl, q, rfl⟩))
          rw [cW_add, cW_add, cW_add]
          have hv : ((x16 + sShi x15 7 18 3) + x7) + sShi x2 17 19 10 = sNext (sMore (sFirst m 16) n) i := by
            obtain ⟨hi, hk16, hk15, hk7, hk2⟩ := H.out
            unfold sNext
            rw [← hk16, ← hk15, ← hk7, ← hk2, e16, e15, e7, e2]
          rw [hv]
          go_wp2_with fail
          obtain ⟨hi, hk16, hk15, hk7, hk2⟩ := H.out
          refine ⟨⟨i + 1, n + 1, by omega, by omega, rfl, ?_, ht.trans ((Turn.refl _ _).drewN _ |>.trans (Blk.setTurn _ g3 _ _))⟩, ?_⟩
          · rw [← sTab_next m n hn48, ← cvs_set, ← hi]
            exact (hb.drewN _).sets _ _
          · simp [intOf]; omega
        · obtain rfl : n = 48 := by omega
          subst hi
          have hall : cvs (sTab m 48) = X := by rw [HX.out]; simp [sTab, sSpread]
          rw [hall] at hb
          go_wp2_with (first
            | (refine wp_ld rfl 51 _ rfl rfl hb (Sub.all X) Tryd.underlying51 rfl (sz64w hX1) ?_)
            | (refine wp_st (xs := X) rfl 51 _ _ rfl rfl rfl (hb2.turn ht (by simp; omega)) (by rw [List.size_toArray, cvs_len, hX1]; rfl) (sz64w hX1) hX2 ?_; intro w9 hb9 ht9))
          refine ret_cell rfl rfl rfl hb9 Tryd.underlying51 rfl (sz64w hX1) ⟨rfl, ?_⟩
          exact (hT.new ht (by simp; omega)).new ht9 (by simp; omega)
end Go.Proofs.YtfmighjblppceaaDoor
