/-
  Layer 2: the walks of the three statements.
-/
import Derived.Test.YtccgloeliohliaaCb
namespace Go.Proofs.Ytccgloeliohliaa
open Go.RowKit

set_option maxRecDepth 100000 in
set_option maxHeartbeats 800000 in
theorem sums_walk (x : Int) (A : Option Addr) (n c : Nat) (l : List UInt8) (w : World) (hr : Rd w w.heap.size 1 A n (vbs l)) (h0 : 0 ≤ x) (h1 : x ≤ 4294967295) (hn : n ≤ 140737488355328) :
    Calls Try.prog 3 #[.int .u32 x, .slice A n c] w fun e w' => e = .returned (.bool true) ∧ Turn w w' none := by
  obtain ⟨s, rfl⟩ := cV_of h0 h1
  have e1 : (cV (cGo s l) == cV (cGo s l)) = true := by simp
  have e2 : (cV (cSum l) == cV (cSum l)) = true := by simp
  go_enter Try.func3, Try.ntmps3
  have hT := Turn.refl w none
  go_wp2_with (first
    | (go_at_call 7; refine (own_any _ _ _ l w.heap.size _ (hr.turn0 hT (Nat.le_refl _)) hT.size hn).mono ?_; rintro e w1 ⟨A1, c1, rfl, ho1, ht1⟩; have hT := hT.trans ht1)
    | (go_at_call 6; refine (go_any s _ _ _ l _ _ ho1.rd (Nat.le_refl _) hn).mono ?_; rintro e w2 ⟨rfl, ht2⟩; have hT := hT.trans ht2; clear ho1)
    | (go_at_call 8; refine (rgo_any s _ _ _ l w.heap.size _ (hr.turn0 hT (Nat.le_refl _)) hn).mono ?_; rintro e w2 ⟨rfl, rfl⟩)
    | (go_at_call 9; refine (sum_any _ _ _ l _ _ ho1.rd (Nat.le_refl _) hn).mono ?_; rintro e w2 ⟨rfl, ht2⟩; have hT := hT.trans ht2; clear ho1)
    | (go_at_call 10; refine (rsum_any _ _ _ l w.heap.size _ (hr.turn0 hT (Nat.le_refl _)) hn).mono ?_; rintro e w2 ⟨rfl, rfl⟩)
    | (go_at_call 11; refine (lives_any _).mono ?_; rintro e w4 ⟨rfl, ht4⟩))
  go_ret
  exact ⟨rfl, hT.trans ht4⟩

theorem mk_here (W : World) (n : Nat) (hm : n ≤ maxLen) : Own (W.alloc (.cells (madeCells #[.int .u8 0] n) 5)) W.heap.size 5 1 (some ⟨W.heap.size, 0, none⟩) n n (vbs (List.replicate n 0)) := by
  have h := Own.full W W.heap.size 5 1 n n (madeCells #[.int .u8 0] n) (Nat.le_refl _) hm (Nat.le_refl _) (by rw [size_madeCells, Nat.mul_one])
  rw [toList_madeCells_one, List.take_replicate, Nat.mul_one, Nat.min_self] at h
  have e : vbs (List.replicate n 0) = List.replicate n (.int .u8 0) := by
    unfold vbs
    rw [List.map_replicate]
    rfl
  rw [e]
  exact h
theorem run_mk (W : World) (n : Nat) (hn : n ≤ 140737488355328) : (Instr.makeSlice 23 (.int .i64 (n : Int)) (.int .i64 (n : Int))).run Try.prog W = .ok (.slice (some ⟨W.heap.size, 0, none⟩) n n) (W.alloc (.cells (madeCells #[.int .u8 0] n) 5)) := by
  obtain ⟨ht, i, z, hi, hz, hsz, hb, hzs, h0⟩ := elB
  have hz0 : (Try.prog.info? 5).map (fun i => i.zero) = some (some (.int .u8 0)) := by kernel_rfl
  have ez : z = .int .u8 0 := by
    rw [hi, Option.map_some, hz] at hz0
    injection hz0 with e
    injection e
  subst ez
  have hr := run_make (P := Try.prog) W _ _ i (.int .u8 0) ht hi hz .i64 .i64 n n (by omega) (by omega) (by rw [hb]; omega) (by omega)
  rw [hr, hsz]
  simp only [Int.toNat_natCast, Nat.mul_one]
  rfl
theorem vbs_zeros (n : Nat) : vbs (List.replicate n 0) = List.replicate n (.int .u8 0) := by
  unfold vbs
  rw [List.map_replicate]
  rfl

set_option maxRecDepth 100000 in
set_option maxHeartbeats 8000000 in
theorem joins_walk (x y : Int) (A : Option Addr) (n c : Nat) (l : List UInt8) (A' : Option Addr) (n' c' : Nat) (l' : List UInt8) (w : World) (hr : Rd w w.heap.size 1 A n (vbs l)) (hr' : Rd w w.heap.size 1 A' n' (vbs l'))
    (h0 : 0 ≤ x) (h1 : x ≤ 4294967295) (h2 : 0 ≤ y) (h3 : y ≤ 4294967295) (hn : n ≤ 1048576) (hn' : n' ≤ 1048576) :
    Calls Try.prog 4 #[.agg #[.int .u32 x, .int .u32 y], .slice A n c, .slice A' n' c'] w fun e w' => e = .returned (.bool true) ∧ Turn w w' none := by
  obtain ⟨s, hs⟩ := cV_of h0 h1
  obtain ⟨t, ht⟩ := cV_of h2 h3
  have hxy := hid (show bits .xor .u32 x y = cV (s ^^^ t) by rw [hs, ht, cV_xor])
  have Hs := hid hs
  have Ht := hid ht
  clear hs ht
  have hl := hr.len
  rw [vbs_len] at hl
  have e1 : (cV (cGo (cGo s l) l') != cV (cGo s (l ++ l'))) = false := by rw [cGo_app]; simp
  have e2 : (cV (cGo (s ^^^ t) l) == bits .xor .u32 (cV (cGo s (List.replicate n 0))) (cV (cGo t l))) = true := by rw [cV_xor, ← hl, ← cGo_xor]; simp
  have hT := Turn.refl w none
  go_enter Try.func4, Try.ntmps4
  go_wp2_with fail
  generalize hg : w.heap.size = g
  have hbox := Blk.new w 29 #[.int .u32 x, .int .u32 y]
  rw [hg] at hbox
  have hT := (Turn.refl w none).alloc (.cells #[.int .u32 x, .int .u32 y] 29)
  have b0 := hbox.cell 0
  have b1 := hbox.cell 1
  simp only [List.getElem?_toArray, List.getElem?_cons_zero, List.getElem?_cons_succ] at b0 b1
  generalize w.alloc (.cells #[.int .u32 x, .int .u32 y] 29) = wb at *
  go_region_held3 (fun w' => w'.cell? ⟨g, 0, none⟩ = some (.int .u32 x) ∧ w'.cell? ⟨g, 1, none⟩ = some (.int .u32 y)) (exact ⟨b0, b1⟩) (fail)
  have hT := hT.drew
  go_wp2_with (first
    | (go_at_call 7; refine (own_any A n c l w.heap.size _ (hr.turn0 hT (Nat.le_refl _)) hT.size (by omega)).mono ?_; rintro e w1 ⟨A1, c1, rfl, ho, ht1⟩; have ho := ho.mono hT.size; have hT := hT.trans ht1)
    | (go_at_call 7; refine (own_any A' n' c' l' w.heap.size _ (hr'.turn0 hT (Nat.le_refl _)) hT.size (by omega)).mono ?_; rintro e w1 ⟨A1, c1, rfl, ho, ht1⟩; have ho := ho.mono hT.size; have hT := hT.trans ht1)
    | (go_at_call_of 6 (Value.int .u32 x); refine (go_of x s _ _ _ _ _ _ Hs.out ho.rd (Nat.le_refl _) (by omega)).mono ?_; rintro e w2 ⟨rfl, ht2⟩; have hT := hT.trans ht2; clear ho)
    | (go_at_call 6; refine (go_any (cGo s l) _ _ _ _ _ _ ho.rd (Nat.le_refl _) (by omega)).mono ?_; rintro e w2 ⟨rfl, ht2⟩; have hT := hT.trans ht2; clear ho)
    | (at_builtin; refine wp_app rfl _ _ _ rfl elB rfl rfl ho (hr'.turn0 hT (Nat.le_refl _)) (vbs_one l') (by unfold maxLen; first | omega | (simp; done) | (simp; omega)) (by first | omega | (simp; done) | (simp; omega)) hT.size ?_; intro A9 c9 w9 ho9 ht9 hb9; have hT := hT.new ht9 (fun g hg => (ho.block g hg).1); clear ho; have ho := ho9; clear ho9; rw [← vbs_append] at ho)
    | (at_make; refine wp_mk0 rfl _ _ _ rfl elB (z0 := .int .u8 0) (by kernel_rfl) rfl rfl rfl n n rfl rfl (Nat.le_refl _) (by omega) (by unfold maxLen; omega) ?_; intro w8 ho ht8; have hT := hT.trans ht8; rw [← vbs_zeros] at ho)
    | (go_at_call 11; refine (lives_any _).mono ?_; rintro e w4 ⟨rfl, ht4⟩; have hT := hT.trans ht4))
  have f1 : IntKind.i64.wrap (n : Int) = (n : Int) := wrapSmall n (by omega)
  have hT0 := hT
  have hT := hT.drew
  have hmx : n ≤ maxLen := by unfold maxLen; omega
  have kmk := fun W : World => run_mk W n (by omega)
  clear ho ht1 ht2 ht9 hb9 e1
  go_region_held3 (fun _ => True) (trivial) (first
    | (go_at_call 7; refine (own_any A n c l w.heap.size _ (hr.turn0 hT (Nat.le_refl _)) hT.size (by omega)).mono ?_; rintro e w1 ⟨A1, c1, rfl, ho, ht1⟩; have hT := hT.trans ht1; (try have hz := hz.turn0 ht1); clear ht1)
    | (go_at_call 7; refine (own_any A n c l w.heap.size _ (hr.turn0 ((hT0.alloc (.cells (madeCells #[.int .u8 0] n) 5)).drew) (Nat.le_refl _)) (hT0.alloc (.cells (madeCells #[.int .u8 0] n) 5)).size (by omega)).mono ?_; rintro e w1 ⟨A1, c1, rfl, ho, ht1⟩; have hT := (hT0.alloc (.cells (madeCells #[.int .u8 0] n) 5)).drew.trans ht1; have hz := (mk_here _ n hmx).drew.turn0 ht1; clear ht1)
    | (go_at_call_of 6 (Value.int .u32 (bits .xor .u32 x y)); refine (go_of (bits .xor .u32 x y) (s ^^^ t) _ _ _ l _ _ hxy.out ho.rd (Nat.le_refl _) (by omega)).mono ?_; rintro e w2 ⟨rfl, ht2⟩; have hT := hT.trans ht2; (try have hz := hz.turn0 ht2); clear ht2)
    | (go_at_call_of 6 (Value.int .u32 (bits .xor .u32 x y)); refine (go_of (bits .xor .u32 x y) (s ^^^ t) _ _ _ l _ _ hxy.out (ho.alloc (.cells (madeCells #[.int .u8 0] n) 5)).rd (Nat.le_refl _) (by omega)).mono ?_; rintro e w2 ⟨rfl, ht2⟩; have hT := (hT.alloc (.cells (madeCells #[.int .u8 0] n) 5)).trans ht2; have hz := (mk_here _ n hmx).turn0 ht2; clear ht2)
    | (go_at_call_of 6 (Value.int .u32 x); refine (go_of x s _ _ _ (List.replicate n 0) _ _ Hs.out hz.rd (Nat.le_refl _) (by omega)).mono ?_; rintro e w2 ⟨rfl, ht2⟩; have hT := hT.trans ht2; clear ht2)
    | (go_at_call_of 6 (Value.int .u32 x); refine (go_of x s _ _ _ (List.replicate n 0) _ _ Hs.out (mk_here _ n hmx).rd (Nat.le_refl _) (by omega)).mono ?_; rintro e w2 ⟨rfl, ht2⟩; have hT := (hT.alloc (.cells (madeCells #[.int .u8 0] n) 5)).trans ht2; clear ht2)
    | (go_at_call_of 6 (Value.int .u32 y); refine (go_of y t _ _ _ l _ _ Ht.out ho.rd (Nat.le_refl _) (by omega)).mono ?_; rintro e w2 ⟨rfl, ht2⟩; have hT := hT.trans ht2; clear ht2)
    | (go_at_call 11; refine (lives_any _).mono ?_; rintro e w4 ⟨rfl, ht4⟩; have hT := hT.trans ht4))
  all_goals
    go_wp2_with fail
    go_ret
    exact ⟨rfl, hT⟩
end Go.Proofs.Ytccgloeliohliaa
