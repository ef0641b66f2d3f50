/-
  Layer 5: the walk of FrameSizes.
-/
import Derived.Test.YtgmmmeghhfdlfaaFg
namespace Go.Proofs.Ytgmmmeghhfdlfaa
open Go.RowKit

theorem fAll_small (rows : List (List UInt8)) : (fAll rows).length ≤ rows.flatten.length + 12 * rows.length := by
  induction rows with
  | nil => simp [fAll]
  | cons x r ih =>
    have h8 := pSize_le x.length
    rw [fAll_cons, List.length_append, fBytes_len, List.flatten_cons, List.length_append, List.length_cons, fSize]
    omega
theorem mem_flat {rows : List (List UInt8)} {x : List UInt8} (h : x ∈ rows) : x.length ≤ rows.flatten.length := by
  induction rows with
  | nil => cases h
  | cons y r ih =>
    rw [List.flatten_cons, List.length_append]
    rcases List.mem_cons.1 h with rfl | h
    · omega
    · have := ih h; omega
/-- What small tells. -/
def Small (rows : List (List UInt8)) : Prop := rows.flatten.length ≤ 20000 ∧ rows.length ≤ 200
theorem Small.all {rows : List (List UInt8)} (h : Small rows) : (fAll rows).length ≤ 22400 := by
  have := fAll_small rows
  have h1 := h.1
  have h2 := h.2
  omega
theorem Small.one {rows : List (List UInt8)} (h : Small rows) : ∀ x ∈ rows, x.length ≤ 20000 := fun x hx => Nat.le_trans (mem_flat hx) h.1

theorem small_or (A : Option Addr) (n c : Nat) (vs : List Value) (rows : List (List UInt8)) (B : Nat) (w : World) (hr : Rw w B A n vs rows) (hn : n ≤ 140737488355328) (hx : ∀ x ∈ rows, x.length ≤ 140737488355328) :
    Calls Try.prog 19 #[.slice A n c] w fun e w' => ((e = .returned (.bool true) ∧ Small rows) ∨ e = .returned (.bool false)) ∧ w = w' :=
  (small_any A n c vs rows B w hr hn hx).mono fun e w' ⟨v, h1, h2, h3⟩ => by
    cases v with
    | true => exact ⟨.inl ⟨h1, h2 rfl⟩, h3⟩
    | false => exact ⟨.inr h1, h3⟩

set_option maxRecDepth 100000 in
set_option maxHeartbeats 800000 in
theorem fsizes_walk (A : Option Addr) (n c : Nat) (vs : List Value) (rows : List (List UInt8)) (w : World) (hr : Rw w w.heap.size A n vs rows) (hn : n ≤ 140737488355328) (hx : ∀ x ∈ rows, x.length ≤ 140737488355328) :
    Calls Try.prog 7 #[.slice A n c] w fun e w' => e = .returned (.bool true) ∧ Turn w w' none := by
  have hl := hr.len
  go_enter Try.func7, Try.ntmps7
  go_wp2_with (first
    | (go_at_call 19; refine (small_or _ _ _ vs rows _ _ hr hn hx).mono ?_; rintro e w' ⟨⟨rfl, hsm⟩ | rfl, rfl⟩)
    | (go_at_call 13; refine (lives_any _).mono ?_; rintro e w8 ⟨rfl, ht8⟩)
    | (go_at_call 20; refine (lput_any _ _ _ vs rows _ _ hr (Nat.le_refl _) (by omega) (fun x hx => Nat.le_trans (hsm.one x hx) (by omega)) (Nat.le_trans hsm.all (by omega))).mono ?_; rintro e w1 ⟨A1, c1, rfl, ho1, ht1⟩))
  · have hall := hsm.all
    go_loopw [5, 6] (fun s i wr => ∃ j : Nat, j ≤ n ∧ i = .int .i64 (j : Int) ∧ s = .int .i64 ((fAll (rows.take j)).length : Int) ∧ w1 = wr) (fun _ i _ => (n - intOf i).toNat)
    case atStart => exact ⟨0, by omega, rfl, rfl, rfl⟩
    case round =>
      obtain ⟨j, hj, rfl, rfl, rfl⟩ := hrel
      have hle := fAll_le rows j
      by_cases hjn : j < n
      · obtain ⟨l, hl8⟩ : ∃ l, rows[j]? = some l := ⟨rows[j]'(by omega), List.getElem?_eq_getElem (by omega)⟩
        have hw := hr.turn0 ht1 (Nat.le_refl _)
        obtain ⟨a, m, k, hv, hrl, hmk, hk⟩ := hw.2.2 j l hl8
        obtain ⟨b0, off, rfl, _, hcells⟩ := hw.1.head (by omega)
        have hcell := hcells j _ hv
        have hm : l.length = m := by have := hrl.len; rwa [vbs_len] at this
        have hlx := hsm.one l (List.mem_of_getElem? hl8)
        have hm20 : m ≤ 20000 := by omega
        have hle2 := fAll_le rows (j + 1)
        have HZ := hid (show zSize (m : Int) = (fSize m : Nat) by unfold zSize; rw [if_pos (by omega), Int.toNat_natCast])
        have hsz := fBytes_len l
        rw [hm] at hsz
        rw [fAll_next hl8, List.length_append, hsz] at hle2
        have HN := hid (show (fAll (rows.take (j + 1))).length = (fAll (rows.take j)).length + fSize m by rw [fAll_next hl8, List.length_append, hsz])
        generalize hS : (fAll (rows.take j)).length = S at *
        generalize hF : fSize m = F at *
        clear hcells
        go_wp2_with (go_at_call 12; refine (fsize_any _ _ (by omega) (by omega)).mono ?_; rintro e w' ⟨rfl, rfl⟩; rw [HZ.out])
        refine ⟨⟨j + 1, by omega, by go_num, by rw [HN.out]; rfl, trivial⟩, ?_⟩
        simp [intOf]; omega
      · obtain rfl : j = n := by omega
        rw [List.take_of_length_le (by omega)]
        generalize hS : (fAll rows).length = S at *
        have hSS : ((S : Int) == (S : Int)) = true := by simp
        go_wp2_with (go_at_call 13; refine (lives_any _).mono ?_; rintro e w8 ⟨rfl, ht8⟩)
        go_ret
        exact ⟨rfl, ht1.trans ht8⟩
  · go_ret
    exact ⟨rfl, ht8⟩
end Go.Proofs.Ytgmmmeghhfdlfaa
