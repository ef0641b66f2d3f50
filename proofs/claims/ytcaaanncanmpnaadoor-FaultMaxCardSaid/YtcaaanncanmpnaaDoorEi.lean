/-
  Layer 4: Way, Root, Grave, Worse (contracts).
-/
import Derived.Test.YtcaaanncanmpnaaDoorEh
import Derived.Deep.LoopGhost
namespace Go.Proofs.YtcaaanncanmpnaaDoor
open Go.RowKit Go.Extern.Stop Go.Stop Go.Extern

/-- Texts as cells. -/
def svs (l : List ByteArray) : List Value := l.map Value.string
theorem svs_one (l : List ByteArray) : ∀ u ∈ svs l, u.oneCell' = true := by
  intro u hu
  obtain ⟨b, _, rfl⟩ := List.mem_map.1 hu
  rfl
theorem svs_len (l : List ByteArray) : (svs l).length = l.length := by simp [svs]
theorem svs_app (l m : List ByteArray) : svs (l ++ m) = svs l ++ svs m := by simp [svs]
theorem elS : El Tryd.prog 22 9 1 16 := El.mk_ Tryd.underlying22 (z := .string ⟨#[]⟩) (by kernel_rfl) rfl (by decide)

/-! ### Grave -/
set_option maxHeartbeats 1600000 in
theorem grave_any (n : Int) (w : World) : Calls Tryd.prog 21 #[.int .i64 n] w fun e w' => e = .returned (.int .i64 (gv n)) ∧ w = w' := by
  by_cases h : n = 0 ∨ n = 1 ∨ n = 2 ∨ n = 3 ∨ n = 4 ∨ n = 5 ∨ n = 6 ∨ n = 7 ∨ n = 8
  · rcases h with rfl | rfl | rfl | rfl | rfl | rfl | rfl | rfl | rfl
    all_goals
      go_enter Tryd.func21, Tryd.ntmps21
      go_wp2_with fail
      go_ret
      exact ⟨rfl, rfl⟩
  · have h0 : ¬ n = 0 := by omega
    have h1 : ¬ n = 1 := by omega
    have h2 : ¬ n = 2 := by omega
    have h3 : ¬ n = 3 := by omega
    have h4 : ¬ n = 4 := by omega
    have h5 : ¬ n = 5 := by omega
    have h6 : ¬ n = 6 := by omega
    have h7 : ¬ n = 7 := by omega
    have h8 : ¬ n = 8 := by omega
    have hv : gv n = 5 := by simp [gv, h0, h1, h2, h3, h4, h5, h6, h7, h8]
    rw [hv]
    clear h hv
    go_enter Tryd.func21, Tryd.ntmps21
    go_wp2_with fail
    go_ret
    exact ⟨rfl, rfl⟩

set_option maxHeartbeats 1600000 in
theorem weight_any (n : Int) (w : World) : Calls Tryd.prog 22 #[.int .i64 n] w fun e w' => e = .returned (.int .i64 (gv n)) ∧ w = w' := by
  by_cases h : n = 0 ∨ n = 1 ∨ n = 2 ∨ n = 3 ∨ n = 4 ∨ n = 5 ∨ n = 6 ∨ n = 7 ∨ n = 8
  · rcases h with rfl | rfl | rfl | rfl | rfl | rfl | rfl | rfl | rfl
    all_goals
      go_enter Tryd.func22, Tryd.ntmps22
      go_wp2_with fail
      go_ret
      exact ⟨rfl, rfl⟩
  · have h0 : ¬ n = 0 := by omega
    have h1 : ¬ n = 1 := by omega
    have h2 : ¬ n = 2 := by omega
    have h3 : ¬ n = 3 := by omega
    have h4 : ¬ n = 4 := by omega
    have h5 : ¬ n = 5 := by omega
    have h6 : ¬ n = 6 := by omega
    have h7 : ¬ n = 7 := by omega
    have h8 : ¬ n = 8 := by omega
    have hv : gv n = 5 := by simp [gv, h0, h1, h2, h3, h4, h5, h6, h7, h8]
    rw [hv]
    clear h hv
    go_enter Tryd.func22, Tryd.ntmps22
    go_wp2_with fail
    go_ret
    exact ⟨rfl, rfl⟩

/-! ### Worse -/
/-- An error, or none. -/
inductive Er where
  | no
  | an (r : Rt) (l : List ByteArray)
def Er.val : Er → Value
  | .no => .nilIface
  | .an r l => ev r l
def Er.why : Er → Int
  | .no => 0
  | .an r _ => r.why
theorem whyE_any (x : Er) (w : World) (hH : Hnd w) : Calls Tryd.prog 11 #[x.val] w fun e w' => e = .returned (.int .i64 x.why) ∧ Turn w w' none := by
  cases x with
  | no => exact why_nil w
  | an r l => exact why_any r l w hH

set_option maxHeartbeats 1600000 in
theorem worse_any (a b : Er) (w : World) (hH : Hnd w) :
    Calls Tryd.prog 23 #[a.val, b.val] w fun e w' => e = .returned (if gv a.why < gv b.why then b.val else a.val) ∧ Turn w w' none := by
  have kb := whyE_any b w hH
  have ka := fun w1 ht => whyE_any a w1 (hH.turn0 (w' := w1) ht)
  generalize a.val = va at *
  generalize b.val = vb at *
  generalize a.why = na at *
  generalize b.why = nb at *
  obtain ⟨p, hp⟩ : ∃ p, gv na = p := ⟨_, rfl⟩
  obtain ⟨q, hq⟩ : ∃ q, gv nb = q := ⟨_, rfl⟩
  have ga := fun w => grave_any na w
  have gb := fun w => grave_any nb w
  rw [hp] at *
  rw [hq] at *
  clear hp hq
  go_enter Tryd.func23, Tryd.ntmps23
  by_cases hpq : p < q
  · rw [if_pos hpq]
    go_wp2_with (first
      | (go_at_call_of 11 vb; refine kb.mono ?_; rintro e w1 ⟨rfl, h1⟩)
      | (go_at_call_of 21 (Value.int .i64 nb); refine (gb _).mono ?_; rintro e w2 ⟨rfl, rfl⟩)
      | (go_at_call_of 11 va; refine (ka _ h1).mono ?_; rintro e w1 ⟨rfl, h2⟩)
      | (go_at_call_of 21 (Value.int .i64 na); refine (ga _).mono ?_; rintro e w2 ⟨rfl, rfl⟩))
    go_ret
    exact ⟨rfl, h1.trans h2⟩
  · rw [if_neg hpq]
    go_wp2_with (first
      | (go_at_call_of 11 vb; refine kb.mono ?_; rintro e w1 ⟨rfl, h1⟩)
      | (go_at_call_of 21 (Value.int .i64 nb); refine (gb _).mono ?_; rintro e w2 ⟨rfl, rfl⟩)
      | (go_at_call_of 11 va; refine (ka _ h1).mono ?_; rintro e w1 ⟨rfl, h2⟩)
      | (go_at_call_of 21 (Value.int .i64 na); refine (ga _).mono ?_; rintro e w2 ⟨rfl, rfl⟩))
    go_ret
    exact ⟨rfl, h1.trans h2⟩
end Go.Proofs.YtcaaanncanmpnaaDoor
