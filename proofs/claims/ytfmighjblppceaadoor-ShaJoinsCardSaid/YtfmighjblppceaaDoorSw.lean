/-
  Layer 3: the walk of ShaJoins.
-/
import Derived.Test.YtfmighjblppceaaDoorSt
namespace Go.Proofs.YtfmighjblppceaaDoor
open Go.RowKit

theorem elS : El Tryd.prog 36 25 32 32 := El.mk_ Tryd.underlying36 (z := .agg (vbs (List.replicate 32 0)).toArray) (by kernel_rfl) rfl (by decide)
theorem Rd.elem {w : World} {B n : Nat} {b off : Nat} {F : List UInt8} (h : Rd w B 32 (some ⟨b, off, none⟩) n (vbs F)) (hb : b < B) (j : Nat) (hj : j < n) : Rd w B 1 (some ⟨b, off + j * 32, none⟩) 32 (vbs ((F.drop (32 * j)).take 32)) := by
  have hl : F.length = n * 32 := by have := h.1; rw [vbs_len] at this; exact this
  refine ⟨by rw [vbs_len, List.length_take, List.length_drop]; omega, fun k u hu => ⟨_, rfl, hb, ?_⟩⟩
  rw [add_flat]
  exact h.part j k u hu

set_option maxRecDepth 100000 in
set_option maxHeartbeats 1600000 in
theorem rjoin_any (A : Option Addr) (n c : Nat) (F : List UInt8) (B : Nat) (w : World) (hr : Rd w B 32 A n (vbs F)) (hB : B ≤ w.heap.size) (hN : n ≤ 1000) :
    Calls Tryd.prog 16 #[.slice A n c] w fun e w' => e = .returned (.agg (vbs (sHash F)).toArray) ∧ Turn w w' none := by
  have hT := Turn.refl w none
  obtain ⟨X, hX⟩ : ∃ X, X = vbs (sHash F) := ⟨_, rfl⟩
  have hX1 : X.length = 32 := by rw [hX, vbs_len, sHash_len]
  have hX2 : ∀ u ∈ X, u.oneCell' = true := by rw [hX]; exact vbs_one _
  rw [← hX]
  have HX := hid hX
  clear hX
  have hml : F.length = n * 32 := by have := hr.1; rw [vbs_len] at this; exact this
  go_enter Tryd.func16, Tryd.ntmps16
  go_wp2_with (refine wp_al rfl 25 rfl _ nul32 ?_; intro gr w1 hgr hres ht1; have hT := hT.trans ht1; rw [cells_agg] at hres)
  have hm := Own.made w1 w1.heap.size 5 1 0 #[] (Nat.le_refl _) (by decide) rfl
  have hT1 := (Turn.refl w1 none).alloc (.cells #[] 5)
  go_loopw [3, 4] (fun b i w' => ∃ (j : Nat) (A' : Option Addr) (c' : Nat), j ≤ n ∧ i = .int .i64 (j : Int) ∧ b = .slice A' (32 * j) c' ∧ Own w' w1.heap.size 5 1 A' (32 * j) c' (vbs (F.take (32 * j))) ∧ Turn w1 w' none) (fun _ i _ => (n - intOf i).toNat)
  case atStart => exact ⟨0, _, 0, by omega, rfl, rfl, hm, hT1⟩
  case round =>
    obtain ⟨j, A', c', hj, rfl, rfl, ho, ht⟩ := hrel
    obtain ⟨W2, rfl⟩ : ∃ x, x = wr := ⟨wr, rfl⟩
    clear hm hT1
    have hTr := hT.trans ht
    have hsz := ht.size
    by_cases hjn : j < n
    · have hr1 := hr.turn0 hTr hB
      obtain ⟨b0, off, rfl, hb0, _⟩ := hr.head (by omega)
      have hre := hr1.elem hb0 j hjn
      have hcat : F.take (32 * j) ++ (F.drop (32 * j)).take 32 = F.take (32 * (j + 1)) := by rw [← List.take_add]; congr 1
      have HC := hid hcat
      clear hcat
      go_wp2_with (at_builtin; refine wp_app (base := w1.heap.size) rfl _ _ _ rfl elB rfl rfl ho hre (vbs_one _) (by unfold maxLen; first | omega | (simp; done) | (simp; omega)) (by first | omega | (simp; done) | (simp; omega)) (by omega) ?_; intro A9 c9 w9 ho9 ht9 hb9; have htn := ht.new ht9 (fun g' hg' => (ho.block g' hg').1); clear ho; have ho := ho9; clear ho9; rw [← vbs_append, HC.out] at ho)
      refine ⟨⟨j + 1, A9, c9, by omega, rfl, rfl, ho, htn⟩, ?_⟩
      simp [intOf]; omega
    · have hFF : F.take (32 * j) = F := List.take_of_length_le (by omega)
      rw [hFF] at ho
      have hres2 := hres.turn0 ht
      have hg2 : w.heap.size ≤ gr := by omega
      go_wp2_with (first
        | (go_at_call 10; refine (rsum_any _ _ _ F _ _ ho.rd (Nat.le_refl _) (by omega)).mono ?_; rintro e w4 ⟨rfl, ht4⟩; rw [← HX.out]; have hres4 := hres2.turn0 ht4; have hT4 := hTr.trans ht4)
        | (refine wp_st (xs := X) rfl 25 _ _ rfl rfl rfl hres4 (by rw [List.size_toArray, vbs_len, hX1]; rfl) (sz32 hX1) hX2 ?_; intro w9 hb9 ht9))
      refine ret_cell rfl rfl rfl hb9 Tryd.underlying25 rfl (sz32 hX1) ⟨rfl, ?_⟩
      exact hT4.new ht9 (by simp; omega)

theorem sHex_at : ∀ (Y : List UInt8) (k : Nat) (y : UInt8), Y[k / 2]? = some y → (sHex Y)[k]? = some (sDig (if k % 2 = 1 then y.toNat % 16 else y.toNat / 16))
  | [], k, y, h => by simp at h
  | b :: r, 0, y, h => by
    simp at h
    subst h
    rfl
  | b :: r, 1, y, h => by
    simp at h
    subst h
    rfl
  | b :: r, k + 2, y, h => by
    have h2 : r[k / 2]? = some y := by
      have e : (k + 2) / 2 = k / 2 + 1 := by omega
      rw [e] at h
      simpa using h
    have ih := sHex_at r k y h2
    have e2 : (k + 2) % 2 = k % 2 := by omega
    rw [e2, ← ih]
    rfl
theorem txt_at (L : List UInt8) (k : Nat) (b : UInt8) (hb : L[k]? = some b) (h : k < (txt L).size) : ((txt L)[k]'h) = b := by
  have hk : k < L.length := by rw [txt_size] at h; exact h
  have e : ((txt L)[k]'h) = L[k]'hk := by
    show (txt L).data[k]'_ = _
    simp [txt]
  rw [e]
  rw [List.getElem?_eq_getElem hk] at hb
  injection hb
theorem hex_of {Y : List UInt8} {ys : Array Value} (hy : ys = (vbs Y).toArray) (hY : Y.length = 32) (w : World) :
    Calls Tryd.prog 17 #[.agg ys] w fun e w' => ∃ s : ByteArray, e = .returned (.string s) ∧ s.size = 64 ∧ (∀ (k : Nat) (y : UInt8), Y[k / 2]? = some y → ∀ h : k < s.size, (s[k]'h) = sDig (if k % 2 = 1 then y.toNat % 16 else y.toNat / 16)) ∧ Turn w w' none := by
  subst hy
  refine (hex_any Y hY w).mono fun e w' ⟨he, ht⟩ => ⟨_, he, ?_, fun k y hk h => txt_at _ _ _ (sHex_at Y k y hk) h, ht⟩
  rw [txt_size, sHex_len, hY]

set_option maxRecDepth 100000 in
set_option maxHeartbeats 3200000 in
theorem joins_walk (A : Option Addr) (n c : Nat) (F : List UInt8) (w : World) (hL : Laid w) (hr : Rd w w.heap.size 32 A n (vbs F)) :
    Calls Tryd.prog 6 #[.slice A n c] w fun e w' => e = .returned (.bool true) ∧ Turn w w' none := by
  have hT := Turn.refl w none
  have hml : F.length = n * 32 := by have := hr.1; rw [vbs_len] at this; exact this
  obtain ⟨X, hX⟩ : ∃ X, X = vbs (sHash F) := ⟨_, rfl⟩
  have heq : ∀ W : World, (Op.equalIn 10000 25 (.agg X.toArray) (.agg X.toArray)).run Tryd.prog W = .ok true W := fun W => by rw [hX]; exact eq32 _ (sHash_len F) W
  have HX := hid hX
  clear hX
  by_cases hn : n ≤ 60
  · have hni : ¬ (60 : Int) < (n : Int) := by omega
    go_enter Tryd.func6, Tryd.ntmps6
    go_wp2_with (first
      | (at_builtin; refine wp_app rfl _ _ _ rfl elS rfl rfl (Own.made w w.heap.size _ 32 0 #[] (Nat.le_refl _) (by decide) rfl) (hr.alloc (Nat.le_refl _) _) (vbs_one F) (by unfold maxLen; first | omega | (simp; done) | (simp; omega)) (by first | omega | (simp; done) | (simp; omega)) (by first | omega | (simp; done) | (simp; omega)) ?_; intro A4 c4 w4 ho ht4 hb4; rw [Nat.zero_add, List.nil_append] at ho; have hT : Turn w w4 none := ((Turn.refl w none).alloc _).new ht4 (fun g' hg' => (by simp [Go.Proofs.YtfmighjblppceaaDoor.blk] at hg'; omega)))
      | (go_at_call 15; refine (sjoin_any _ _ _ F _ _ (hL.turn hT (by simp)) ho.rd (Nat.le_refl _) (by omega)).mono ?_; rintro e w5 ⟨rfl, ht5⟩; rw [← HX.out]; have hT := hT.trans ht5; clear ho)
      | (go_at_call 16; refine (rjoin_any _ _ _ F w.heap.size _ (hr.turn0 hT (Nat.le_refl _)) hT.size (by omega)).mono ?_; rintro e w6 ⟨rfl, ht6⟩; rw [← HX.out]; have hT := hT.trans ht6))
    go_loopw [3] (fun v w' => ∃ i : Nat, i ≤ n ∧ v = .int .i64 (i : Int) ∧ Turn w w' none) (fun v _ => (n - intOf v).toNat)
    case atStart => exact ⟨0, by omega, rfl, hT⟩
    case round =>
      obtain ⟨i, hi, rfl, hT⟩ := hrel
      obtain ⟨W2, rfl⟩ : ∃ x, x = wr := ⟨wr, rfl⟩
      by_cases hin : i < n
      · have hr1 := hr.turn0 hT (Nat.le_refl _)
        obtain ⟨b0, off, rfl, hb0, _⟩ := hr.head (by omega)
        obtain ⟨Y, hY⟩ : ∃ Y, Y = (F.drop (32 * i)).take 32 := ⟨_, rfl⟩
        have hrg := hr1.part i
        rw [← hY] at hrg
        have hYl : Y.length = 32 := by rw [hY, List.length_take, List.length_drop]; omega
        have hrd : ∀ W : World, Turn W2 W none → W.rangeAt b0 (off + i * 32) (vbs Y) := fun W h => by
          have := (hr1.turn0 h hT.size).part i
          rw [← hY] at this
          exact this
        have HYY := hid hY
        clear hY
        go_wp2_with (first
          | (refine wpList_load_mid rfl 25 _ rfl b0 _ rfl (vbs Y) _ hrg Tryd.underlying25 rfl (sz32 (by rw [vbs_len, hYl])) ?_)
          | (go_at_call 17; refine (hex_of (Y := Y) rfl hYl _).mono ?_; rintro e w5 ⟨s, rfl, hs64, hsd, ht5⟩))
        have hT5 := hT.trans ht5
        clear hrg
        go_loopw [5] (fun v w' => ∃ k : Nat, k ≤ 64 ∧ v = .int .i64 (k : Int) ∧ Turn w5 w' none) (fun v _ => (64 - intOf v).toNat)
        case atStart => exact ⟨0, by omega, rfl, Turn.refl w5 none⟩
        case round =>
          obtain ⟨k, hk, rfl, htk⟩ := hrel
          obtain ⟨W3, rfl⟩ : ∃ x, x = wr := ⟨wr, rfl⟩
          by_cases hk64 : k < 64
          · obtain ⟨y, hy⟩ : ∃ y, Y[k / 2]? = some y := ⟨_, List.getElem?_eq_getElem (by omega)⟩
            have hcell := hrd W3 (ht5.trans htk) (k / 2) (.int .u8 (y.toNat : Int)) (by rw [vbs, List.getElem?_map, hy]; rfl)
            have hy256 := y.toNat_lt
            obtain ⟨n1, hn1⟩ : ∃ n1, n1 = y.toNat / 16 := ⟨_, rfl⟩
            obtain ⟨n2, hn2⟩ : ∃ n2, n2 = y.toNat % 16 := ⟨_, rfl⟩
            have e1 : (y.toNat : Int) / 16 = (n1 : Int) := by omega
            have e2 : (y.toNat : Int) % 16 = (n2 : Int) := by omega
            have l1 : n1 < 16 := by omega
            have l2 : n2 < 16 := by omega
            have l1' : (n1 : Int) < 16 := by omega
            have l2' : (n2 : Int) < 16 := by omega
            have d1 := dig_at n1 l1
            have d2 := dig_at n2 l2
            have lk : (k : Int) < 64 := by omega
            have lk2 : (k : Int) / 2 < 32 := by omega
            by_cases hk2 : k % 2 = 1
            · have hss : ∀ h : k < s.size, (s[k]'h) = sDig n2 := fun h => by rw [hsd k y hy h, if_pos hk2, hn2]
              have hki : (k : Int) % 2 = 1 := by omega
              clear hsd hy hn1 hn2 hk2
              go_wp2_with fail
              go_quiet (fail)
              go_wp2_with fail
              refine ⟨⟨k + 1, by omega, rfl, htk.drewN nq⟩, ?_⟩
              simp [intOf]; omega
            · have hss : ∀ h : k < s.size, (s[k]'h) = sDig n1 := fun h => by rw [hsd k y hy h, if_neg hk2, hn1]
              have hki : ¬ (k : Int) % 2 = 1 := by omega
              clear hsd hy hn1 hn2 hk2
              go_wp2_with fail
              go_quiet (fail)
              go_wp2_with fail
              refine ⟨⟨k + 1, by omega, rfl, htk.drewN nq⟩, ?_⟩
              simp [intOf]; omega
          · go_wp2_with fail
            refine ⟨⟨i + 1, by omega, rfl, hT5.trans htk⟩, ?_⟩
            simp [intOf]; omega
      · go_wp2_with (go_at_call 7; refine (lives_any _ (hL.turn hT (by simp))).mono ?_; rintro e' w4 ⟨rfl, ht4⟩; have hT := hT.trans ht4)
        go_ret
        exact ⟨rfl, hT⟩
  · have hni : (60 : Int) < (n : Int) := by omega
    go_enter Tryd.func6, Tryd.ntmps6
    go_wp2_with (go_at_call 7; refine (lives_any _ hL).mono ?_; rintro e w4 ⟨rfl, ht4⟩)
    go_ret
    exact ⟨rfl, ht4⟩
end Go.Proofs.YtfmighjblppceaaDoor
