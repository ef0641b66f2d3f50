/-
  Layer 3: a hash begun; the hash of bytes (contracts).
-/
import Derived.Test.YtfmighjblppceaaDoorSf
namespace Go.Proofs.YtfmighjblppceaaDoor
open Go.RowKit

theorem Laid.range {w : World} (h : Laid w) : w.rangeAt 0 0 (cvs sStart.list) := fun j v hv => by
  simp only [cvs, List.getElem?_map, Option.map_eq_some_iff] at hv
  obtain ⟨s, h1, rfl⟩ := hv
  rw [Nat.zero_add]
  exact h.2.1 j s h1
def hsNew : List Value := hsCells sStart (List.replicate 64 0) 0

set_option maxRecDepth 100000 in
set_option maxHeartbeats 1600000 in
theorem new_any (w : World) (hL : Laid w) :
    Calls Tryd.prog 11 #[] w fun e w' => ∃ g, e = .returned (.pointer (some ⟨g, 0, none⟩)) ∧ w.heap.size ≤ g ∧ HIs w' g [] ∧ Turn w w' none := by
  go_enter Tryd.func11, Tryd.ntmps11
  go_wp2_with (first
    | (refine wpList_load_mid rfl 46 _ rfl 0 0 rfl (cvs sStart.list) _ hL.range Tryd.underlying46 rfl (sz8 rfl) ?_)
    | (refine wp_bd rfl 49 _ rfl _ rfl hsNew.toArray (by kernel_rfl) ?_)
    | (refine wp_bx rfl 49 _ rfl rfl ?_; intro g w1 hg1 hb1 ht1))
  go_ret
  refine ⟨g, rfl, Nat.le_of_eq hg1, ⟨sStart, List.replicate 64 0, ⟨by simp, hb1⟩, sState_nil⟩, ht1⟩

set_option maxRecDepth 100000 in
set_option maxHeartbeats 1600000 in
theorem ssum_any (A : Option Addr) (n c : Nat) (m : List UInt8) (B : Nat) (w : World) (hL : Laid w) (hr : Rd w B 1 A n (vbs m)) (hB : B ≤ w.heap.size) (hnc : n ≤ c) (hc : c ≤ maxLen) (hN : n ≤ 281474976710000) :
    Calls Tryd.prog 8 #[.slice A n c] w fun e w' => e = .returned (.agg (vbs (sHash m)).toArray) ∧ Turn w w' none := by
  have hT := Turn.refl w none
  obtain ⟨X, hX⟩ : ∃ X, X = vbs (sHash m) := ⟨_, rfl⟩
  have hX1 : X.length = 32 := by rw [hX, vbs_len, sHash_len]
  have hX2 : ∀ u ∈ X, u.oneCell' = true := by rw [hX]; exact vbs_one _
  rw [← hX]
  have HX := hid hX
  clear hX
  have hml := hr.len
  rw [vbs_len] at hml
  have hL0 := hL.1
  go_enter Tryd.func8, Tryd.ntmps8
  go_wp2_with (first
    | (refine wp_al rfl 25 rfl _ nul32 ?_; intro gr w1 hgr hres ht1; have hT := hT.trans ht1; rw [cells_agg] at hres)
    | (go_at_call 11; refine (new_any _ (hL.turn hT (by simp))).mono ?_; rintro e w2 ⟨g, rfl, hg, hh, ht2⟩; have hT := hT.trans ht2; have hres := hres.turn0 ht2; have hgs := ht1.size; have grg : gr < g := (by have := hgr; have := (Blk.lt (h := ‹Blk w1 gr _ _›)); omega))
    | (go_at_call 12; refine (write_any [] g _ _ _ m B _ (hL.turn hT (by simp)) (by omega) hh (hr.turn0 hT hB) (Nat.le_trans hB hT.size) (fun h0 e => by
        obtain ⟨b0, off, rfl, hb0, _⟩ := hr.head (by omega)
        simp [Go.Proofs.YtfmighjblppceaaDoor.blk] at e
        omega) hnc hc (by simp; omega)).mono ?_; rintro e w3 ⟨rfl, hh3, ht3⟩; have hres3 := hres.turn ht3 (by simp; omega); have hT3 := hT.new ht3 (by simp; omega); clear hh hres; rw [List.nil_append] at hh3)
    | (go_at_call 13; refine (hsum_any m g _ (hL.turn hT3 (by simp)) (by omega) hh3 (by omega)).mono ?_; rintro e w4 ⟨rfl, ht4⟩; rw [← HX.out]; have hres4 := hres3.turn0 ht4; have hT4 := hT3.trans ht4)
    | (refine wp_st (xs := X) rfl 25 _ _ rfl rfl rfl hres4 (by rw [List.size_toArray, vbs_len, hX1]; rfl) (sz32 hX1) hX2 ?_; intro w9 hb9 ht9))
  refine ret_cell rfl rfl rfl hb9 Tryd.underlying25 rfl (sz32 hX1) ⟨rfl, ?_⟩
  exact hT4.new ht9 (by have := ht1.size; simp; omega)

/-- The cells of one of many hashes, behind one another. -/
theorem Rd.part {w : World} {B n : Nat} {b off : Nat} {F : List UInt8} (h : Rd w B 32 (some ⟨b, off, none⟩) n (vbs F)) (j : Nat) : w.rangeAt b (off + j * 32) (vbs ((F.drop (32 * j)).take 32)) := fun i v hv => by
  have h2 : (vbs F)[32 * j + i]? = some v := by
    simp only [vbs, List.getElem?_map, List.getElem?_take, List.getElem?_drop] at hv ⊢
    split at hv
    · exact hv
    · simp at hv
  obtain ⟨a, ha, _, hc⟩ := h.2 _ v h2
  injection ha with ha
  subst ha
  rw [add_flat] at hc
  rw [← hc]
  congr 2
  omega

set_option maxRecDepth 100000 in
set_option maxHeartbeats 1600000 in
theorem sjoin_any (A : Option Addr) (n c : Nat) (F : List UInt8) (B : Nat) (w : World) (hL : Laid w) (hr : Rd w B 32 A n (vbs F)) (hB : B ≤ w.heap.size) (hN : n ≤ 1048576) :
    Calls Tryd.prog 15 #[.slice A n c] w fun e w' => e = .returned (.agg (vbs (sHash F)).toArray) ∧ Turn w w' none := by
  have hT := Turn.refl w none
  obtain ⟨X, hX⟩ : ∃ X, X = vbs (sHash F) := ⟨_, rfl⟩
  have hX1 : X.length = 32 := by rw [hX, vbs_len, sHash_len]
  have hX2 : ∀ u ∈ X, u.oneCell' = true := by rw [hX]; exact vbs_one _
  rw [← hX]
  have HX := hid hX
  clear hX
  have hml : F.length = n * 32 := by have := hr.1; rw [vbs_len] at this; exact this
  have hL0 := hL.1
  go_enter Tryd.func15, Tryd.ntmps15
  go_wp2_with (first
    | (refine wp_al rfl 25 rfl _ nul32 ?_; intro gr w1 hgr hres ht1; have hT := hT.trans ht1; rw [cells_agg] at hres)
    | (go_at_call 11; refine (new_any _ (hL.turn hT (by simp))).mono ?_; rintro e w2 ⟨g, rfl, hg, hh, ht2⟩; have hT := hT.trans ht2; have hres := hres.turn0 ht2; have hgs := ht1.size; have grg : gr < g := (by have := hgr; have := (Blk.lt (h := ‹Blk w1 gr _ _›)); omega)))
  have hs2 := hT.size
  go_loopw [9] (fun i wr => ∃ j : Nat, j ≤ n ∧ i = .int .i64 (j : Int) ∧ HIs wr g (F.take (32 * j)) ∧ Turn w2 wr (some g)) (fun i _ => (n - intOf i).toNat)
  case atStart => exact ⟨0, by omega, rfl, by simpa using hh, Turn.refl w2 _⟩
  case round =>
    obtain ⟨j, hj, rfl, hh, ht⟩ := hrel
    have hTr := hT.new ht (by simp; omega)
    have hsr := hTr.size
    by_cases hjn : j < n
    · have hr1 := hr.turn0 hTr hB
      obtain ⟨b0, off, rfl, hb0, _⟩ := hr.head (by omega)
      have hrg := hr1.part j
      obtain ⟨Y, hY⟩ : ∃ Y, Y = (F.drop (32 * j)).take 32 := ⟨_, rfl⟩
      rw [← hY] at hrg
      have hYl : Y.length = 32 := by rw [hY, List.length_take, List.length_drop]; omega
      have hcat : F.take (32 * j) ++ Y = F.take (32 * (j + 1)) := by rw [hY, ← List.take_add]; congr 1
      have HY := hid hcat
      clear hY hcat
      go_wp2_with (first
        | (refine wpList_load_mid rfl 25 _ rfl b0 _ rfl (vbs Y) _ hrg Tryd.underlying25 rfl (sz32 (by rw [vbs_len, hYl])) ?_)
        | (refine wp_al rfl 25 rfl _ nul32 ?_; intro g5 w5 hg5 hb5 ht5; have hh := hh.turn0 ht5; have hgg : g < g5 := (by rw [← hg5]; exact HIs.lt ‹HIs wr g _›); have hg5l := hb5.lt; rw [cells_agg] at hb5)
        | (refine wp_st (xs := vbs Y) rfl 25 _ _ rfl rfl rfl hb5 (by rw [List.size_toArray, vbs_len, vbs_len, hYl]; rfl) (sz32 (by rw [vbs_len, hYl])) (vbs_one _) ?_; intro w6 hb6 ht6; have hh := hh.turn ht6 (by simp; omega))
        | (go_at_call 12; refine (write_any (F.take (32 * j)) g _ _ _ Y _ _ (hL.turn ((hTr.trans ht5).new ht6 (by simp; omega)) (by simp)) (by omega) hh (by have h9 := hb6.rdAt (Sub.all (vbs Y)); rw [vbs_len, hYl] at h9; exact h9) (by have := hb6.lt; omega) (fun _ e => by
            simp [Go.Proofs.YtfmighjblppceaaDoor.blk] at e
            omega) (by omega) (by unfold maxLen; omega) (by rw [List.length_take]; omega)).mono ?_; rintro e w7 ⟨rfl, hh7, ht7⟩))
      have hs5 := ht.size
      refine ⟨⟨j + 1, by omega, rfl, by rw [← HY.out]; exact hh7, ((ht.trans (ht5.any (some g))).new ht6 (by simp; omega)).trans ht7⟩, ?_⟩
      simp [intOf]; omega
    · have hFF : F.take (32 * j) = F := List.take_of_length_le (by omega)
      rw [hFF] at hh
      have hres3 := hres.turn ht (by simp; omega)
      go_wp2_with (first
        | (go_at_call 13; refine (hsum_any F g _ (hL.turn hTr (by simp)) (by omega) hh (by omega)).mono ?_; rintro e w4 ⟨rfl, ht4⟩; rw [← HX.out]; have hres4 := hres3.turn0 ht4; have hT4 := hTr.trans ht4)
        | (refine wp_st (xs := X) rfl 25 _ _ rfl rfl rfl hres4 (by rw [List.size_toArray, vbs_len, hX1]; rfl) (sz32 hX1) hX2 ?_; intro w9 hb9 ht9))
      refine ret_cell rfl rfl rfl hb9 Tryd.underlying25 rfl (sz32 hX1) ⟨rfl, ?_⟩
      exact hT4.new ht9 (by have := ht1.size; simp; omega)
end Go.Proofs.YtfmighjblppceaaDoor
