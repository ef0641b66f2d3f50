/-
  Layer 3: a block is added to the words (contract).
-/
import Derived.Test.YtfmighjblppceaaDoorSb
namespace Go.Proofs.YtfmighjblppceaaDoor
open Go.RowKit

/-- What the package-level variables hold. -/
def Laid (w : World) : Prop := 2 ≤ w.heap.size ∧ (∀ i s, sStart.list[i]? = some s → w.cell? ⟨0, i, none⟩ = some (.int .u32 (cV s))) ∧ ∀ i s, sKeys[i]? = some s → w.cell? ⟨1, i, none⟩ = some (.int .u32 (cV s))
theorem Laid.turn {w w' : World} {row : Option Nat} (h : Laid w) (ht : Turn w w' row) (hr : ∀ g, row = some g → 2 ≤ g) : Laid w' := by
  obtain ⟨h0, h1, h2⟩ := h
  have hs := ht.size
  refine ⟨by omega, fun i s hi => ?_, fun i s hi => ?_⟩
  · rw [ht.cell (a := ⟨0, i, none⟩) (by simp; omega) (fun e => by have := hr _ e.symm; simp at this)]; exact h1 i s hi
  · rw [ht.cell (a := ⟨1, i, none⟩) (by simp; omega) (fun e => by have := hr _ e.symm; simp at this)]; exact h2 i s hi
theorem Laid.drewN {w : World} (h : Laid w) (n : Nat) : Laid (w.drewN n) := h

/-- The cells of a hash under way: its words, its block, how many bytes there were. -/
def hsCells (s : W8) (blk : List UInt8) (n : Int) : List Value := cvs s.list ++ vbs blk ++ [.int .u64 n]
theorem hsCells_len (s : W8) {blk : List UInt8} (n : Int) (h : blk.length = 64) : (hsCells s blk n).length = 73 := by simp [hsCells, cvs_len, vbs_len, h, W8.list]
theorem sub_words (s : W8) (blk : List UInt8) (n : Int) : Sub (hsCells s blk n).toArray 0 (cvs s.list) := by
  unfold hsCells
  rw [List.append_assoc]
  exact Sub.fst _ _
theorem sub_block (s : W8) (blk : List UInt8) (n : Int) : Sub (hsCells s blk n).toArray 8 (vbs blk) := Sub.mid _ _ _ 8 rfl
theorem hsCells_last (s : W8) {blk : List UInt8} (n : Int) (h : blk.length = 64) : (hsCells s blk n)[72]? = some (.int .u64 n) := by
  unfold hsCells
  rw [List.getElem?_append_right (by simp [cvs_len, vbs_len, h, W8.list])]
  simp [cvs_len, vbs_len, h, W8.list]
/-- A hash under way stands in block g. -/
def HS (w : World) (g : Nat) (s : W8) (blk : List UInt8) (n : Int) : Prop := blk.length = 64 ∧ Blk w g 49 (hsCells s blk n).toArray

theorem sz8 {xs : List Value} (h : xs.length = 8) : (Tryd.prog.info? 46).map (·.size) = some xs.length := by rw [h]; kernel_rfl
theorem nul8 : ∀ w, (zeroValue 46).run Tryd.prog w = .ok (.agg (cvs (List.replicate 8 0#32)).toArray) w := zero_at (by kernel_rfl)
theorem spread_of {m : List UInt8} {xs : List Value} {ys : Array Value} (h : xs = vbs m) (hy : ys = xs.toArray) (hm : m.length = 64) (w : World) :
    Calls Tryd.prog 23 #[.agg ys] w fun e w' => e = .returned (.agg (cvs (sSpread m)).toArray) ∧ Turn w w' none := by
  subst hy h; exact spread_any m hm w

set_option maxRecDepth 100000 in
set_option maxHeartbeats 1600000 in
theorem take_any (s : W8) (blk : List UInt8) (n : Int) (g : Nat) (w : World) (hL : Laid w) (hg : 2 ≤ g) (h : HS w g s blk n) :
    Calls Tryd.prog 21 #[.pointer (some ⟨g, 0, none⟩)] w fun e w' => e = .returned (.tuple #[]) ∧ HS w' g (sBlock s blk) blk n ∧ Turn w w' (some g) := by
  obtain ⟨hbl, hb⟩ := h
  have hT := Turn.refl w none
  obtain ⟨X, hX⟩ : ∃ X, X = cvs (sSpread blk) := ⟨_, rfl⟩
  have HX := hid hX
  clear hX
  go_enter Tryd.func21, Tryd.ntmps21
  go_wp2_with (first
    | (refine wp_ld rfl 46 _ rfl rfl hb (sub_words s blk n) Tryd.underlying46 rfl (sz8 rfl) ?_)
    | (refine wp_ld rfl 47 _ rfl rfl hb (sub_block s blk n) Tryd.underlying47 rfl (sz64b (by rw [vbs_len, hbl])) ?_)
    | (refine wp_al rfl 46 rfl _ nul8 ?_; intro gv w1 hgv hv ht1; have hT := hT.trans ht1; have hg1 : g < gv := (by rw [← hgv]; exact hb.lt); have hb := hb.turn0 ht1; rw [cells_agg] at hv)
    | (refine wp_st rfl 46 _ _ rfl rfl rfl hv rfl (sz8 rfl) (cvs_one _) ?_; intro w2 hv2 ht2; have hb := hb.turn ht2 (by simp; omega); have hT := hT.new ht2 (by simp; omega))
    | (go_at_call 23; refine (spread_of (m := blk) rfl rfl hbl _).mono ?_; rintro e w3 ⟨rfl, ht3⟩; rw [← HX.out]; have hv3 := hv2.turn0 ht3; have hb := hb.turn0 ht3; have hT := hT.trans ht3))
  have hX1 : X.length = 64 := by rw [HX.out, cvs_len, sSpread_len]
  have hLw := hL.turn hT (by simp)
  clear ht1 ht2 ht3 hv hv2
  go_loopw [18] (fun i wr => ∃ j : Nat, j ≤ 64 ∧ i = .int .i64 (j : Int) ∧ Blk wr gv 46 (cvs (sRun (sSpread blk) s j).list).toArray ∧ Turn w3 wr (some gv)) (fun i _ => (64 - intOf i).toNat)
  case atStart => exact ⟨0, by omega, rfl, hv3, Turn.refl w3 _⟩
  case round =>
    obtain ⟨j, hj, rfl, hv, ht⟩ := hrel
    clear hv3
    by_cases hj64 : j < 64
    · obtain ⟨x, hx⟩ : ∃ x, (sSpread blk)[j]? = some x := ⟨_, List.getElem?_eq_getElem (by rw [sSpread_len]; exact hj64)⟩
      obtain ⟨k, hk⟩ : ∃ k, sKeys[j]? = some k := ⟨_, List.getElem?_eq_getElem (by rw [sKeys_len]; exact hj64)⟩
      have hix := fun W : World => run_ix (P := Tryd.prog) (w := W) Tryd.underlying51 Tryd.underlying44 (by kernel_rfl) hj64 (show X.toArray[j]? = some (.int .u32 (cV x)) by rw [List.getElem?_toArray, HX.out]; exact cvs_at hx)
      have hLr := hLw.turn ht (by simp; omega)
      have hkc := hLr.2.2 j k hk
      have Hv := hid (show sRun (sSpread blk) s (j + 1) = sRnd (sRun (sSpread blk) s j) k x by
        have e1 : (sSpread blk).getD j 0#32 = x := by rw [List.getD_eq_getElem?_getD, hx]; rfl
        have e2 : sKeys.getD j 0#32 = k := by rw [List.getD_eq_getElem?_getD, hk]; rfl
        rw [sRun, e1, e2])
      clear hx hk
      generalize sRun (sSpread blk) s j = v at hv Hv
      have c0 := hv.ats (j := 0) (v := .int .u32 (cV v.a)) rfl; have c1 := hv.ats (j := 1) (v := .int .u32 (cV v.b)) rfl; have c2 := hv.ats (j := 2) (v := .int .u32 (cV v.c)) rfl; have c3 := hv.ats (j := 3) (v := .int .u32 (cV v.d)) rfl; have c4 := hv.ats (j := 4) (v := .int .u32 (cV v.e)) rfl; have c5 := hv.ats (j := 5) (v := .int .u32 (cV v.f)) rfl; have c6 := hv.ats (j := 6) (v := .int .u32 (cV v.g)) rfl; have c7 := hv.ats (j := 7) (v := .int .u32 (cV v.h)) rfl
      have b0 := cV_bd v.a; have b1 := cV_bd v.b; have b2 := cV_bd v.c; have b3 := cV_bd v.d; have b4 := cV_bd v.e; have b5 := cV_bd v.f; have b6 := cV_bd v.g; have b7 := cV_bd v.h
      have bk := cV_bd k
      have bx := cV_bd x
      have bt1 := cV_bd (sTri v.e 6 11 25)
      have bt2 := cV_bd (sTri v.a 2 13 22)
      have lj : (j : Int) < 64 := by omega
      go_wp2_with fail
      go_quiet (first | (go_at_call_of 24 (Value.int .u32 (cV v.e)); exact quiet_eq (turned_of _ v.e rfl _ _ _ 6 11 25 rfl rfl rfl (by decide) (by decide) (by decide) (by decide) (by decide) (by decide) _)))
      rw [cT1_code]
      generalize ht1v : sT1 v k x = t1
      have bt1v := cV_bd t1
      clear c0 c1 c2 c3 c4 c5 c6 c7 hkc hix bt1
      have hv := hv.drewN nq
      have ht := ht.drewN nq
      generalize wr.drewN nq = wr1 at *
      have c0 := hv.ats (j := 0) (v := .int .u32 (cV v.a)) rfl; have c1 := hv.ats (j := 1) (v := .int .u32 (cV v.b)) rfl; have c2 := hv.ats (j := 2) (v := .int .u32 (cV v.c)) rfl; have c3 := hv.ats (j := 3) (v := .int .u32 (cV v.d)) rfl; have c4 := hv.ats (j := 4) (v := .int .u32 (cV v.e)) rfl; have c5 := hv.ats (j := 5) (v := .int .u32 (cV v.f)) rfl; have c6 := hv.ats (j := 6) (v := .int .u32 (cV v.g)) rfl; have c7 := hv.ats (j := 7) (v := .int .u32 (cV v.h)) rfl
      go_wp2_with fail
      go_quiet (first | (go_at_call_of 24 (Value.int .u32 (cV v.a)); exact quiet_eq (turned_of _ v.a rfl _ _ _ 2 13 22 rfl rfl rfl (by decide) (by decide) (by decide) (by decide) (by decide) (by decide) _)))
      rw [cT2_code]
      generalize ht2v : sT2 v = t2
      have bt2v := cV_bd t2
      clear c0 c1 c2 c3 c4 c5 c6 c7 bt2
      have hv := hv.drewN nq
      have ht := ht.drewN nq
      generalize wr1.drewN nq = wr2 at *
      go_wp2_with fail
      refine wp_region_noPanic ?_
      refine wp_region_held_drew (S := fun _ => True) (by kernel_rfl) trivial (fun hHeld => ?_)
      (first | (refine wpAnyH_take (i := 0) (v := undef) rfl (by kernel_rfl) (by kernel_rfl) (by kernel_rfl) (fun _ _ _ h => h) (Or.inr ⟨rfl, rfl⟩) (by assumption) ?_) | (refine wpAnyH_take (i := 0) (v := ?_) rfl (by kernel_rfl) (by kernel_rfl) (by kernel_rfl) (fun _ _ _ h => h) (Or.inl ⟨rfl, ?_⟩) (by assumption) ?_; rotate_left 1; · (intro w hSw; (try dsimp only at hSw); go_simp; (try with_reducible rfl)))); (try simp only [Act.put, List.getElem_toArray, List.getElem_cons_zero, List.getElem_cons_succ, List.setIfInBounds_toArray, List.set_cons_zero, List.set_cons_succ])
      (first | (refine wpAnyH_take (i := 1) (v := undef) rfl (by kernel_rfl) (by kernel_rfl) (by kernel_rfl) (fun _ _ _ h => h) (Or.inr ⟨rfl, rfl⟩) (by assumption) ?_) | (refine wpAnyH_take (i := 1) (v := ?_) rfl (by kernel_rfl) (by kernel_rfl) (by kernel_rfl) (fun _ _ _ h => h) (Or.inl ⟨rfl, ?_⟩) (by assumption) ?_; rotate_left 1; · (intro w hSw; (try dsimp only at hSw); go_simp; (try with_reducible rfl)))); (try simp only [Act.put, List.getElem_toArray, List.getElem_cons_zero, List.getElem_cons_succ, List.setIfInBounds_toArray, List.set_cons_zero, List.set_cons_succ])
      refine wpAnyH_ready (rs := [2]) (by kernel_rfl) (by simp) ?_
      refine AllReadyH.cons rfl (fun K hK => ?_) AllReadyH.nil
      have hvd := Blk.drew hv
      refine st_cpB (zs := (cvs v.list).take 7) rfl _ _ rfl Tryd.underlying40 (by kernel_rfl) rfl rfl hvd (hvd.rdAt (Sub.fst ((cvs v.list).take 7) ((cvs v.list).drop 7))) (fun u hu => cvs_one _ u (List.mem_of_mem_take hu)) (by show 0 < 7; decide) (by show 0 < 7; decide) (by show 1 + 7 ≤ 8; decide) ?_
      intro wr3 hv3 ht3
      refine hK.out _ _ trivial (fun hHeld => ?_)
      clear hK K
      (try simp only [Act.put, List.getElem_toArray, List.getElem_cons_zero, List.getElem_cons_succ, List.setIfInBounds_toArray, List.set_cons_zero, List.set_cons_succ])
      refine wpAnyH_done (by kernel_rfl) ?_ _
      refine NoPanic.normal ?_
      clear hHeld
      have hv4 : Blk wr3 gv 46 (cvs (W8.list ⟨v.a, v.a, v.b, v.c, v.d, v.e, v.f, v.g⟩)).toArray := hv3
      have ht := ht.drew.trans ht3
      have cz := hv4.ats (j := 0) (v := .int .u32 (cV v.a)) rfl
      have cd := hv4.ats (j := 4) (v := .int .u32 (cV v.d)) rfl
      have fz := hv4.frozen 0
      have fd := hv4.frozen 4
      go_wp2_with fail
      refine ⟨⟨j + 1, by omega, rfl, ?_, ?_⟩, ?_⟩
      · have h5 := (hv4.sets 4 (.int .u32 (cV (v.d + t1)))).sets 0 (.int .u32 (cV (t1 + t2)))
        rw [cV_add, cV_add, Hv.out]
        rw [← ht1v, ← ht2v] at h5 ⊢
        exact h5
      · exact ht.trans ((Blk.setTurn _ gv _ _).trans (Blk.setTurn _ gv _ _))
      · simp [intOf]; omega
    · have hjj : j = 64 := by omega
      rw [hjj] at hv
      clear hjj
      have hb := hb.turn ht (by simp; omega)
      have hT := hT.new ht (by simp; omega)
      generalize hr : sRun (sSpread blk) s 64 = r at hv
      have hvl : (cvs r.list).length = 8 := rfl
      go_wp2_with (refine wp_ld rfl 46 _ rfl rfl hv (Sub.all _) Tryd.underlying46 rfl (sz8 rfl) ?_)
      go_loopw [82] (fun i wr2 => ∃ q : Nat, q ≤ 8 ∧ i = .int .i64 (q : Int) ∧ Blk wr2 g 49 (cvs (sMix s r q) ++ vbs blk ++ [Value.int .u64 n]).toArray ∧ Turn wr wr2 (some g)) (fun i _ => (8 - intOf i).toNat)
      case atStart => exact ⟨0, by omega, rfl, hb, Turn.refl wr _⟩
      case round =>
        obtain ⟨q, hq, rfl, hb2, ht2⟩ := hrel
        clear hb
        by_cases hq8 : q < 8
        · obtain ⟨x, y, hy, hx, hset⟩ := sMix_at s r q hq8
          have hix := fun W : World => run_ix (P := Tryd.prog) (w := W) Tryd.underlying46 Tryd.underlying44 (by kernel_rfl) hq8 (show (cvs r.list).toArray[q]? = some (.int .u32 (cV y)) by rw [List.getElem?_toArray]; exact cvs_at hy)
          have hxc := hb2.ats (j := q) (v := .int .u32 (cV x)) (by rw [List.append_assoc, List.getElem?_append_left (by rw [cvs_len, sMix_len _ _ _ hq]; exact hq8)]; exact cvs_at hx)
          have hfr := hb2.frozen q
          have bx := cV_bd x
          have byy := cV_bd y
          have lq : (q : Int) < 8 := by omega
          have hs2 := hid hset
          clear hset hx hy hv
          go_wp2_with fail
          refine wp_region_noPanic ?_
          refine wp_region_held_drew (S := fun _ => True) (by kernel_rfl) trivial (fun hHeld => ?_)
          (first | (refine wpAnyH_take (i := 0) (v := undef) rfl (by kernel_rfl) (by kernel_rfl) (by kernel_rfl) (fun _ _ _ h => h) (Or.inr ⟨rfl, rfl⟩) (by assumption) ?_) | (refine wpAnyH_take (i := 0) (v := ?_) rfl (by kernel_rfl) (by kernel_rfl) (by kernel_rfl) (fun _ _ _ h => h) (Or.inl ⟨rfl, ?_⟩) (by assumption) ?_; rotate_left 1; · (intro w hSw; (try dsimp only at hSw); go_simp; (try with_reducible rfl)))); (try simp only [Act.put, List.getElem_toArray, List.getElem_cons_zero, List.getElem_cons_succ, List.setIfInBounds_toArray, List.set_cons_zero, List.set_cons_succ])
          (first | (refine wpAnyH_take (i := 1) (v := undef) rfl (by kernel_rfl) (by kernel_rfl) (by kernel_rfl) (fun _ _ _ h => h) (Or.inr ⟨rfl, rfl⟩) (by assumption) ?_) | (refine wpAnyH_take (i := 1) (v := ?_) rfl (by kernel_rfl) (by kernel_rfl) (by kernel_rfl) (fun _ _ _ h => h) (Or.inl ⟨rfl, ?_⟩) (by assumption) ?_; rotate_left 1; · (intro w hSw; (try dsimp only at hSw); go_simp; (try with_reducible rfl)))); (try simp only [Act.put, List.getElem_toArray, List.getElem_cons_zero, List.getElem_cons_succ, List.setIfInBounds_toArray, List.set_cons_zero, List.set_cons_succ])
          (first | (refine wpAnyH_take (i := 2) (v := undef) rfl (by kernel_rfl) (by kernel_rfl) (by kernel_rfl) (fun _ _ _ h => h) (Or.inr ⟨rfl, rfl⟩) (by assumption) ?_) | (refine wpAnyH_take (i := 2) (v := ?_) rfl (by kernel_rfl) (by kernel_rfl) (by kernel_rfl) (fun _ _ _ h => h) (Or.inl ⟨rfl, ?_⟩) (by assumption) ?_; rotate_left 1; · (intro w hSw; (try dsimp only at hSw); go_simp; (try with_reducible rfl)))); (try simp only [Act.put, List.getElem_toArray, List.getElem_cons_zero, List.getElem_cons_succ, List.setIfInBounds_toArray, List.set_cons_zero, List.set_cons_succ])
          (first | (refine wpAnyH_take (i := 3) (v := undef) rfl (by kernel_rfl) (by kernel_rfl) (by kernel_rfl) (fun _ _ _ h => h) (Or.inr ⟨rfl, rfl⟩) (by assumption) ?_) | (refine wpAnyH_take (i := 3) (v := ?_) rfl (by kernel_rfl) (by kernel_rfl) (by kernel_rfl) (fun _ _ _ h => h) (Or.inl ⟨rfl, ?_⟩) (by assumption) ?_; rotate_left 1; · (intro w hSw; (try dsimp only at hSw); go_simp; (try with_reducible rfl)))); (try simp only [Act.put, List.getElem_toArray, List.getElem_cons_zero, List.getElem_cons_succ, List.setIfInBounds_toArray, List.set_cons_zero, List.set_cons_succ])
          (first | (refine wpAnyH_take (i := 4) (v := undef) rfl (by kernel_rfl) (by kernel_rfl) (by kernel_rfl) (fun _ _ _ h => h) (Or.inr ⟨rfl, rfl⟩) (by assumption) ?_) | (refine wpAnyH_take (i := 4) (v := ?_) rfl (by kernel_rfl) (by kernel_rfl) (by kernel_rfl) (fun _ _ _ h => h) (Or.inl ⟨rfl, ?_⟩) (by assumption) ?_; rotate_left 1; · (intro w hSw; (try dsimp only at hSw); go_simp; (try with_reducible rfl)))); (try simp only [Act.put, List.getElem_toArray, List.getElem_cons_zero, List.getElem_cons_succ, List.setIfInBounds_toArray, List.set_cons_zero, List.set_cons_succ])
          (first | (refine wpAnyH_take (i := 6) (v := undef) rfl (by kernel_rfl) (by kernel_rfl) (by kernel_rfl) (fun _ _ _ h => h) (Or.inr ⟨rfl, rfl⟩) (by assumption) ?_) | (refine wpAnyH_take (i := 6) (v := ?_) rfl (by kernel_rfl) (by kernel_rfl) (by kernel_rfl) (fun _ _ _ h => h) (Or.inl ⟨rfl, ?_⟩) (by assumption) ?_; rotate_left 1; · (intro w hSw; (try dsimp only at hSw); go_simp; (try with_reducible rfl)))); (try simp only [Act.put, List.getElem_toArray, List.getElem_cons_zero, List.getElem_cons_succ, List.setIfInBounds_toArray, List.set_cons_zero, List.set_cons_succ])
          (first | (refine wpAnyH_take (i := 8) (v := undef) rfl (by kernel_rfl) (by kernel_rfl) (by kernel_rfl) (fun _ _ _ h => h) (Or.inr ⟨rfl, rfl⟩) (by assumption) ?_) | (refine wpAnyH_take (i := 8) (v := ?_) rfl (by kernel_rfl) (by kernel_rfl) (by kernel_rfl) (fun _ _ _ h => h) (Or.inl ⟨rfl, ?_⟩) (by assumption) ?_; rotate_left 1; · (intro w hSw; (try dsimp only at hSw); go_simp; (try with_reducible rfl)))); (try simp only [Act.put, List.getElem_toArray, List.getElem_cons_zero, List.getElem_cons_succ, List.setIfInBounds_toArray, List.set_cons_zero, List.set_cons_succ])
          (first | (refine wpAnyH_take (i := 9) (v := undef) rfl (by kernel_rfl) (by kernel_rfl) (by kernel_rfl) (fun _ _ _ h => h) (Or.inr ⟨rfl, rfl⟩) (by assumption) ?_) | (refine wpAnyH_take (i := 9) (v := ?_) rfl (by kernel_rfl) (by kernel_rfl) (by kernel_rfl) (fun _ _ _ h => h) (Or.inl ⟨rfl, ?_⟩) (by assumption) ?_; rotate_left 1; · (intro w hSw; (try dsimp only at hSw); go_simp; (try with_reducible rfl)))); (try simp only [Act.put, List.getElem_toArray, List.getElem_cons_zero, List.getElem_cons_succ, List.setIfInBounds_toArray, List.set_cons_zero, List.set_cons_succ])
          refine wpAnyH_ready (rs := [5]) (by kernel_rfl) (by simp) ?_
          refine AllReadyH.cons rfl (fun K hK => ?_) AllReadyH.nil
          go_simp
          refine hK.out _ _ trivial (fun hHeld => ?_)
          clear hK K
          (try simp only [Act.put, List.getElem_toArray, List.getElem_cons_zero, List.getElem_cons_succ, List.setIfInBounds_toArray, List.set_cons_zero, List.set_cons_succ])
          (first | (refine wpAnyH_take (i := 7) (v := undef) rfl (by kernel_rfl) (by kernel_rfl) (by kernel_rfl) (fun _ _ _ h => h) (Or.inr ⟨rfl, rfl⟩) (by assumption) ?_) | (refine wpAnyH_take (i := 7) (v := ?_) rfl (by kernel_rfl) (by kernel_rfl) (by kernel_rfl) (fun _ _ _ h => h) (Or.inl ⟨rfl, ?_⟩) (by assumption) ?_; rotate_left 1; · (intro w hSw; (try dsimp only at hSw); go_simp; (try with_reducible rfl)))); (try simp only [Act.put, List.getElem_toArray, List.getElem_cons_zero, List.getElem_cons_succ, List.setIfInBounds_toArray, List.set_cons_zero, List.set_cons_succ])
          (first | (refine wpAnyH_take (i := 10) (v := undef) rfl (by kernel_rfl) (by kernel_rfl) (by kernel_rfl) (fun _ _ _ h => h) (Or.inr ⟨rfl, rfl⟩) (by assumption) ?_) | (refine wpAnyH_take (i := 10) (v := ?_) rfl (by kernel_rfl) (by kernel_rfl) (by kernel_rfl) (fun _ _ _ h => h) (Or.inl ⟨rfl, ?_⟩) (by assumption) ?_; rotate_left 1; · (intro w hSw; (try dsimp only at hSw); go_simp; (try with_reducible rfl)))); (try simp only [Act.put, List.getElem_toArray, List.getElem_cons_zero, List.getElem_cons_succ, List.setIfInBounds_toArray, List.set_cons_zero, List.set_cons_succ])
          refine wpAnyH_ready (rs := [11]) (by kernel_rfl) (by simp) ?_
          refine AllReadyH.cons rfl (fun K hK => ?_) AllReadyH.nil
          go_simp
          refine hK.out _ _ trivial (fun hHeld => ?_)
          clear hK K
          (try simp only [Act.put, List.getElem_toArray, List.getElem_cons_zero, List.getElem_cons_succ, List.setIfInBounds_toArray, List.set_cons_zero, List.set_cons_succ])
          refine wpAnyH_done (by kernel_rfl) ?_ _
          refine NoPanic.normal ?_
          clear hHeld
          rw [cW_add]
          have hb3 : Blk ((wr.setCell ⟨g, q, none⟩ (.int .u32 (cV (x + y)))).drew) g 49 (cvs (sMix s r (q + 1)) ++ vbs blk ++ [Value.int .u64 n]).toArray := by
            have h5 := (hb2.sets q (.int .u32 (cV (x + y)))).drew
            rw [List.append_assoc, List.set_append_left _ _ (by rw [cvs_len, sMix_len _ _ _ hq]; exact hq8), cvs_set, hs2.out, ← List.append_assoc] at h5
            exact h5
          have ht3 := (ht2.trans (Blk.setTurn wr g q (.int .u32 (cV (x + y))))).drew
          clear hb2 ht2
          go_wp2_with fail
          refine ⟨⟨q + 1, by omega, rfl, hb3, ht3⟩, ?_⟩
          simp [intOf]; omega
        · have hqq : q = 8 := by omega
          rw [hqq, sMix_all] at hb2
          clear hqq
          go_wp2_with fail
          go_end0
          refine ⟨rfl, ⟨hbl, ?_⟩, ?_⟩
          · unfold sBlock
            rw [hr]
            exact hb2
          · exact (hT.any (some g)).trans ht2
end Go.Proofs.YtfmighjblppceaaDoor
