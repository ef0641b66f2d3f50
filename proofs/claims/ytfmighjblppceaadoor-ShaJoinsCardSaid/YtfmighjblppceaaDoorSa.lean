/-
  Layer 3: words that are turned and shifted (contracts).
-/
import Derived.Test.YtfmighjblppceaaDoorArr
import Derived.Test.YtfmighjblppceaaDoorShaP
namespace Go.Proofs.YtfmighjblppceaaDoor
open Go.RowKit

theorem elB : El Tryd.prog 22 5 1 1 := El.mk_ Tryd.underlying22 (z := .int .u8 0) (by kernel_rfl) rfl (by decide)
theorem elW : El Tryd.prog 40 44 1 4 := El.mk_ Tryd.underlying40 (z := .int .u32 0) (by kernel_rfl) rfl (by decide)

theorem neg_and : ∀ n : Nat, n < 32 → 0 < n → bits .and .u64 (IntKind.u64.wrap (-(n : Int))) 31 = ((32 - n : Nat) : Int) := by
  decide +kernel

theorem rotl_any (s : BitVec 32) (n : Nat) (hn : n < 32) (h0 : 0 < n) (w : World) :
    Calls Tryd.prog 27 #[.int .u32 (cV s), .int .i64 (-(n : Int))] w fun e w' => e = .returned (.int .u32 (cV (sRot s n))) ∧ w = w' := by
  have hs := cV_bd s
  have hf := neg_and n hn h0
  obtain ⟨k, hk⟩ : ∃ k, k = 32 - n := ⟨_, rfl⟩
  rw [← hk] at hf
  have hk32 : k < 32 := by omega
  go_enter Tryd.func27, Tryd.ntmps27
  go_wp2
  go_ret
  refine ⟨?_, rfl⟩
  have e : 32 - (32 - n) = n := by omega
  rw [e, cV_shr, cV_shl, cV_or, BitVec.or_comm]
  rfl
theorem right_any (s : BitVec 32) (n : Nat) (hn : n < 32) (h0 : 0 < n) (w : World) :
    Calls Tryd.prog 26 #[.int .u32 (cV s), .int .i64 (n : Int)] w fun e w' => e = .returned (.int .u32 (cV (sRot s n))) ∧ w = w' := by
  have hs := cV_bd s
  go_enter Tryd.func26, Tryd.ntmps26
  go_wp2_with (go_at_call 27; refine (rotl_any s n hn h0 _).mono ?_; rintro e w' ⟨rfl, rfl⟩)
  go_ret
  exact ⟨rfl, rfl⟩
theorem rturn_any (s : BitVec 32) (n : Nat) (hn : n < 32) (h0 : 0 < n) (w : World) :
    Calls Tryd.prog 20 #[.int .u32 (cV s), .int .u64 (n : Int)] w fun e w' => e = .returned (.int .u32 (cV (sRot s n))) ∧ w = w' := by
  have hs := cV_bd s
  go_enter Tryd.func20, Tryd.ntmps20
  go_wp2
  go_ret
  refine ⟨?_, rfl⟩
  rw [cV_shr, cV_shl, cV_or]
  rfl
theorem turned_any (s : BitVec 32) (i j k : Nat) (hi : i < 32) (hj : j < 32) (hk : k < 32) (i0 : 0 < i) (j0 : 0 < j) (k0 : 0 < k) (w : World) :
    Calls Tryd.prog 24 #[.int .u32 (cV s), .int .i64 (i : Int), .int .i64 (j : Int), .int .i64 (k : Int)] w fun e w' => e = .returned (.int .u32 (cV (sTri s i j k))) ∧ w = w' := by
  have hs := cV_bd s
  have b1 := cV_bd (sRot s i)
  have b2 := cV_bd (sRot s j)
  have b3 := cV_bd (sRot s k)
  go_enter Tryd.func24, Tryd.ntmps24
  go_wp2_with (first
    | (go_at_call_of 26 (Value.int .i64 (i : Int)); refine (right_any s i hi i0 _).mono ?_; rintro e w' ⟨rfl, rfl⟩)
    | (go_at_call_of 26 (Value.int .i64 (j : Int)); refine (right_any s j hj j0 _).mono ?_; rintro e w' ⟨rfl, rfl⟩)
    | (go_at_call_of 26 (Value.int .i64 (k : Int)); refine (right_any s k hk k0 _).mono ?_; rintro e w' ⟨rfl, rfl⟩))
  rw [cV_xor, cV_xor]
  go_ret
  exact ⟨rfl, rfl⟩
/-- A callee that turns nothing, in a region that is walked quietly. -/
theorem quiet_eq {P : Program} {f : FuncId} {args : Array Value} {w : World} {n : Nat} {v : Value}
    (h : Calls P f args (w.drewN n) fun e w' => e = .returned v ∧ w.drewN n = w') : Calls P f args (w.drewN n) fun e w'' => e = .returned v ∧ ∃ m, w'' = w.drewN m :=
  h.mono fun _ _ ⟨he, hm⟩ => ⟨he, n, hm.symm⟩
theorem quiet_ex {P : Program} {f : FuncId} {args : Array Value} {w : World} {n : Nat} {v : Value}
    (h : Calls P f args (w.drewN n) fun e w' => e = .returned v ∧ ∃ q, w' = (w.drewN n).drewN q) : Calls P f args (w.drewN n) fun e w'' => e = .returned v ∧ ∃ m, w'' = w.drewN m :=
  Calls.quiet_of h
set_option maxRecDepth 100000 in
theorem shifted_any (s : BitVec 32) (i j k : Nat) (hi : i < 32) (hj : j < 32) (hk : k < 32) (i0 : 0 < i) (j0 : 0 < j) (w : World) :
    Calls Tryd.prog 25 #[.int .u32 (cV s), .int .i64 (i : Int), .int .i64 (j : Int), .int .i64 (k : Int)] w fun e w' => e = .returned (.int .u32 (cV (sShi s i j k))) ∧ ∃ q, w' = w.drewN q := by
  have hs := cV_bd s
  have b1 := cV_bd (sRot s i)
  have b2 := cV_bd (sRot s j)
  go_enter Tryd.func25, Tryd.ntmps25
  go_wp2_with fail
  go_quiet (first
    | (go_at_call_of 26 (Value.int .i64 (i : Int)); exact quiet_eq (right_any s i hi i0 _))
    | (go_at_call_of 26 (Value.int .i64 (j : Int)); exact quiet_eq (right_any s j hj j0 _)))
  rw [cV_xor, cV_shr, cV_xor]
  go_wp2_with fail
  go_ret
  exact ⟨rfl, nq, rfl⟩
theorem turned_of (x : Int) (s : BitVec 32) (h : x = cV s) (a b c : Int) (i j k : Nat) (ha : a = i) (hb : b = j) (hc : c = k) (hi : i < 32) (hj : j < 32) (hk : k < 32) (i0 : 0 < i) (j0 : 0 < j) (k0 : 0 < k) (w : World) :
    Calls Tryd.prog 24 #[.int .u32 x, .int .i64 a, .int .i64 b, .int .i64 c] w fun e w' => e = .returned (.int .u32 (cV (sTri s i j k))) ∧ w = w' := by
  subst h ha hb hc
  exact turned_any s i j k hi hj hk i0 j0 k0 w
theorem shifted_of (x : Int) (s : BitVec 32) (h : x = cV s) (a b c : Int) (i j k : Nat) (ha : a = i) (hb : b = j) (hc : c = k) (hi : i < 32) (hj : j < 32) (hk : k < 32) (i0 : 0 < i) (j0 : 0 < j) (w : World) :
    Calls Tryd.prog 25 #[.int .u32 x, .int .i64 a, .int .i64 b, .int .i64 c] w fun e w' => e = .returned (.int .u32 (cV (sShi s i j k))) ∧ ∃ q, w' = w.drewN q := by
  subst h ha hb hc
  exact shifted_any s i j k hi hj hk i0 j0 w
theorem rturn_of (x : Int) (s : BitVec 32) (h : x = cV s) (a : Int) (i : Nat) (ha : a = i) (hi : i < 32) (i0 : 0 < i) (w : World) :
    Calls Tryd.prog 20 #[.int .u32 x, .int .u64 a] w fun e w' => e = .returned (.int .u32 (cV (sRot s i))) ∧ w = w' := by
  subst h ha
  exact rturn_any s i hi i0 w
end Go.Proofs.YtfmighjblppceaaDoor
