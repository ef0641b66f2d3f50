import Derived.Test.YtjjdhdieihmnnaaGreatDoorG11
import Derived.Test.YtjjdhdieihmnnaaGreatDoorG10
import Derived.Laws.IdiomStrings
import Derived.Laws.ResultCell
import Derived.OwnWalk
import Derived.Test.YtjjdhdieihmnnaaGreatDoorG1
import Derived.Test.YtjjdhdieihmnnaaGreatDoorG8
import Derived.ChangeKeysEq
set_option linter.unusedSimpArgs false
set_option linter.unusedVariables false
set_option linter.unusedSectionVars false
/-
  Layer 3: a hash begun; the hash of bytes (contracts).
-/
namespace Go.Proofs.YtjjdhdieihmnnaaGreatDoor.Sha
open Go.RowKit

theorem Laid.range {w : World} (h : Laid w) : w.rangeAt 0 0 (cvs sStart.list) := fun j v hv => by
  simp only [cvs, List.getElem?_map, Option.map_eq_some_iff] at hv
  obtain ⟨s, h1, rfl⟩ := hv
  rw [Nat.zero_add]
  exact h.2.1 j s h1
def hsNew : List Value := hsCells sStart (List.replicate 64 0) 0

set_option maxRecDepth 100000 in
set_option maxHeartbeats 1600000 in
theorem new_any (w : World) (hL : Laid w) :
    Calls Tryz.prog 69 #[] w fun e w' => ∃ g, e = .returned (.pointer (some ⟨g, 0, none⟩)) ∧ w.heap.size ≤ g ∧ HIs w' g [] ∧ Turn w w' none := by
  go_enter Tryz.func69, Tryz.ntmps69
  go_wp2_with (first
    | (refine wpList_load_mid rfl 133 _ rfl 0 0 rfl (cvs sStart.list) _ hL.range Tryz.underlying133 rfl (sz8 rfl) ?_)
    | (refine wp_bd rfl 136 _ rfl _ rfl hsNew.toArray (by kernel_rfl) ?_)
    | (refine wp_bx rfl 136 _ rfl rfl ?_; intro g w1 hg1 hb1 ht1))
  go_ret
  refine ⟨g, rfl, Nat.le_of_eq hg1, ⟨sStart, List.replicate 64 0, ⟨by simp, hb1⟩, sState_nil⟩, ht1⟩

set_option maxRecDepth 100000 in
set_option maxHeartbeats 1600000 in
theorem ssum_any (A : Option Addr) (n c : Nat) (m : List UInt8) (B : Nat) (w : World) (hL : Laid w) (hr : Rd w B 1 A n (vbs m)) (hB : B ≤ w.heap.size) (hnc : n ≤ c) (hc : c ≤ maxLen) (hN : n ≤ 281474976710000) :
    Calls Tryz.prog 40 #[.slice A n c] w fun e w' => e = .returned (.agg (vbs (sHash m)).toArray) ∧ Turn w w' none := by
  have hT := Turn.refl w none
  obtain ⟨X, hX⟩ : ∃ X, X = vbs (sHash m) := ⟨_, rfl⟩
  have hX1 : X.length = 32 := by rw [hX, vbs_len, sHash_len]
  have hX2 : ∀ u ∈ X, u.oneCell' = true := by rw [hX]; exact vbs_one _
  rw [← hX]
  have HX := hid hX
  clear hX
  have hml := hr.len
  rw [vbs_len] at hml
  have hL0 := hL.1
  go_enter Tryz.func40, Tryz.ntmps40
  go_wp2_with (first
    | (refine wp_al rfl 41 rfl _ nul32 ?_; intro gr w1 hgr hres ht1; have hT := hT.trans ht1; rw [cells_agg] at hres)
    | (go_at_call 69; refine (new_any _ (hL.turn hT (by simp))).mono ?_; rintro e w2 ⟨g, rfl, hg, hh, ht2⟩; have hT := hT.trans ht2; have hres := hres.turn0 ht2; have hgs := ht1.size; have grg : gr < g := (by have := hgr; have := (Blk.lt (h := ‹Blk w1 gr _ _›)); omega))
    | (go_at_call 70; refine (write_any [] g _ _ _ m B _ (hL.turn hT (by simp)) (by omega) hh (hr.turn0 hT hB) (Nat.le_trans hB hT.size) (fun h0 e => by
        obtain ⟨b0, off, rfl, hb0, _⟩ := hr.head (by omega)
        simp [Go.Proofs.YtjjdhdieihmnnaaGreatDoor.blk] at e
        omega) hnc hc (by simp; omega)).mono ?_; rintro e w3 ⟨rfl, hh3, ht3⟩; have hres3 := hres.turn ht3 (by simp; omega); have hT3 := hT.new ht3 (by simp; omega); clear hh hres; rw [List.nil_append] at hh3)
    | (go_at_call 71; refine (hsum_any m g _ (hL.turn hT3 (by simp)) (by omega) hh3 (by omega)).mono ?_; rintro e w4 ⟨rfl, ht4⟩; rw [← HX.out]; have hres4 := hres3.turn0 ht4; have hT4 := hT3.trans ht4)
    | (refine wp_st (xs := X) rfl 41 _ _ rfl rfl rfl hres4 (by rw [List.size_toArray, vbs_len, hX1]; rfl) (sz32 hX1) hX2 ?_; intro w9 hb9 ht9))
  refine ret_cell rfl rfl rfl hb9 Tryz.underlying41 rfl (sz32 hX1) ⟨rfl, ?_⟩
  exact hT4.new ht9 (by have := ht1.size; simp; omega)

end Go.Proofs.YtjjdhdieihmnnaaGreatDoor.Sha
/-
  Layer 3: a hash as digits (contract).
-/
namespace Go.Proofs.YtjjdhdieihmnnaaGreatDoor.Sha
open Go.RowKit

/-- A digit of sixteen. -/
def sDig (n : Nat) : UInt8 := ([48, 49, 50, 51, 52, 53, 54, 55, 56, 57, 97, 98, 99, 100, 101, 102] : List UInt8).getD n 0
/-- The digits of bytes. -/
def sHex (l : List UInt8) : List UInt8 := l.flatMap fun b => [sDig (b.toNat / 16), sDig (b.toNat % 16)]
theorem sHex_len (l : List UInt8) : (sHex l).length = 2 * l.length := by
  induction l with
  | nil => rfl
  | cons b r ih => simp only [sHex, List.flatMap_cons, List.length_append, List.length_cons, List.length_nil] at ih ⊢; omega
theorem sHex_last (l : List UInt8) (b : UInt8) : sHex (l ++ [b]) = sHex l ++ [sDig (b.toNat / 16), sDig (b.toNat % 16)] := by simp [sHex]

theorem str_run (w : World) {B : Nat} {A : Option Addr} {n c : Nat} {l : List UInt8} (h : Rd w B 1 A n (vbs l)) : (convert 55 9 (.slice A n c)).run Tryz.prog w = .ok (.string (txt l)) w :=
  run_txt w B _ _ 5 A n c l Tryz.underlying55 Tryz.underlying5 Tryz.underlying9 h
theorem dig_at (n : Nat) (hn : n < 16) (h : n < ({ data := #[48, 49, 50, 51, 52, 53, 54, 55, 56, 57, 97, 98, 99, 100, 101, 102] } : ByteArray).size) : (({ data := #[48, 49, 50, 51, 52, 53, 54, 55, 56, 57, 97, 98, 99, 100, 101, 102] } : ByteArray)[n]'h) = sDig n := by
  have : n = 0 ∨ n = 1 ∨ n = 2 ∨ n = 3 ∨ n = 4 ∨ n = 5 ∨ n = 6 ∨ n = 7 ∨ n = 8 ∨ n = 9 ∨ n = 10 ∨ n = 11 ∨ n = 12 ∨ n = 13 ∨ n = 14 ∨ n = 15 := by omega
  rcases this with rfl | rfl | rfl | rfl | rfl | rfl | rfl | rfl | rfl | rfl | rfl | rfl | rfl | rfl | rfl | rfl <;> rfl
theorem and15 : ∀ n : Nat, n < 256 → bits .and .u8 (n : Int) 15 = ((n % 16 : Nat) : Int) := by decide +kernel

set_option maxRecDepth 100000 in
set_option maxHeartbeats 1600000 in
theorem hex_any (Y : List UInt8) (hY : Y.length = 32) (w : World) :
    Calls Tryz.prog 42 #[.agg (vbs Y).toArray] w fun e w' => e = .returned (.string (txt (sHex Y))) ∧ Turn w w' none := by
  have hT := Turn.refl w none
  go_enter Tryz.func42, Tryz.ntmps42
  go_wp2_with (first
    | (refine wp_bx rfl 41 _ rfl rfl ?_; intro g1 w1 hg1 hb1 ht1; have hT := hT.trans ht1)
    | (refine wp_ld rfl 41 _ rfl rfl hb1 (Sub.all _) Tryz.underlying41 rfl (sz32 (by rw [vbs_len, hY])) ?_))
  go_loopw [3, 7] (fun b i wr => ∃ (j : Nat) (A : Option Addr) (c : Nat), j ≤ 32 ∧ i = .int .i64 (j : Int) ∧ b = .slice A (2 * j) c ∧ Own wr w.heap.size 5 1 A (2 * j) c (vbs (sHex (Y.take j))) ∧ Turn w wr none) (fun _ i _ => (32 - intOf i).toNat)
  case atStart => exact ⟨0, none, 0, by omega, rfl, rfl, Own.nil _ _ _ _, hT⟩
  case round =>
    obtain ⟨j, A, c, hj, rfl, rfl, ho, hT⟩ := hrel
    have hTs := hT.size
    by_cases hj32 : j < 32
    · obtain ⟨b, hb⟩ : ∃ b, Y[j]? = some b := ⟨Y[j]'(by omega), List.getElem?_eq_getElem (by omega)⟩
      have hix := fun W : World => run_ix (P := Tryz.prog) (w := W) Tryz.underlying41 Tryz.underlying5 (by kernel_rfl) hj32 (show (vbs Y).toArray[j]? = some (.int .u8 (b.toNat : Int)) by rw [List.getElem?_toArray, vbs, List.getElem?_map, hb]; rfl)
      have hb256 := b.toNat_lt
      obtain ⟨n1, hn1⟩ : ∃ n1, n1 = b.toNat / 16 := ⟨_, rfl⟩
      obtain ⟨n2, hn2⟩ : ∃ n2, n2 = b.toNat % 16 := ⟨_, rfl⟩
      have e1 : (b.toNat : Int) / 16 = (n1 : Int) := by omega
      have e2 : bits .and .u8 (b.toNat : Int) 15 = (n2 : Int) := by rw [and15 _ hb256, hn2]
      have l1 : n1 < 16 := by omega
      have l2 : n2 < 16 := by omega
      have l1' : (n1 : Int) < 16 := by omega
      have l2' : (n2 : Int) < 16 := by omega
      have d1 := dig_at n1 l1
      have d2 := dig_at n2 l2
      have hcat : sHex (Y.take j) ++ [sDig n1, sDig n2] = sHex (Y.take (j + 1)) := by rw [take_nxt hb, sHex_last, hn1, hn2]
      have HC := hid hcat
      clear hcat hn1 hn2
      go_wp2_with fail
      refine wp_region_noPanic ?_
      refine wp_region_held_drew (S := fun _ => True) (by kernel_rfl) trivial (fun hHeld => ?_)
      (first | (refine wpAnyH_take (i := 0) (v := undef) rfl (by kernel_rfl) (by kernel_rfl) (by kernel_rfl) (fun _ _ _ h => h) (Or.inr ⟨rfl, rfl⟩) (by assumption) ?_) | (refine wpAnyH_take (i := 0) (v := ?_) rfl (by kernel_rfl) (by kernel_rfl) (by kernel_rfl) (fun _ _ _ h => h) (Or.inl ⟨rfl, ?_⟩) (by assumption) ?_; rotate_left 1; · (intro w hSw; (try dsimp only at hSw); go_simp; (try with_reducible rfl)))); (try simp only [Act.put, List.getElem_toArray, List.getElem_cons_zero, List.getElem_cons_succ, List.setIfInBounds_toArray, List.set_cons_zero, List.set_cons_succ])
      (first | (refine wpAnyH_take (i := 1) (v := undef) rfl (by kernel_rfl) (by kernel_rfl) (by kernel_rfl) (fun _ _ _ h => h) (Or.inr ⟨rfl, rfl⟩) (by assumption) ?_) | (refine wpAnyH_take (i := 1) (v := ?_) rfl (by kernel_rfl) (by kernel_rfl) (by kernel_rfl) (fun _ _ _ h => h) (Or.inl ⟨rfl, ?_⟩) (by assumption) ?_; rotate_left 1; · (intro w hSw; (try dsimp only at hSw); go_simp; (try with_reducible rfl)))); (try simp only [Act.put, List.getElem_toArray, List.getElem_cons_zero, List.getElem_cons_succ, List.setIfInBounds_toArray, List.set_cons_zero, List.set_cons_succ])
      (first | (refine wpAnyH_take (i := 2) (v := undef) rfl (by kernel_rfl) (by kernel_rfl) (by kernel_rfl) (fun _ _ _ h => h) (Or.inr ⟨rfl, rfl⟩) (by assumption) ?_) | (refine wpAnyH_take (i := 2) (v := ?_) rfl (by kernel_rfl) (by kernel_rfl) (by kernel_rfl) (fun _ _ _ h => h) (Or.inl ⟨rfl, ?_⟩) (by assumption) ?_; rotate_left 1; · (intro w hSw; (try dsimp only at hSw); go_simp; (try with_reducible rfl)))); (try simp only [Act.put, List.getElem_toArray, List.getElem_cons_zero, List.getElem_cons_succ, List.setIfInBounds_toArray, List.set_cons_zero, List.set_cons_succ])
      (first | (refine wpAnyH_take (i := 3) (v := undef) rfl (by kernel_rfl) (by kernel_rfl) (by kernel_rfl) (fun _ _ _ h => h) (Or.inr ⟨rfl, rfl⟩) (by assumption) ?_) | (refine wpAnyH_take (i := 3) (v := ?_) rfl (by kernel_rfl) (by kernel_rfl) (by kernel_rfl) (fun _ _ _ h => h) (Or.inl ⟨rfl, ?_⟩) (by assumption) ?_; rotate_left 1; · (intro w hSw; (try dsimp only at hSw); go_simp; (try with_reducible rfl)))); (try simp only [Act.put, List.getElem_toArray, List.getElem_cons_zero, List.getElem_cons_succ, List.setIfInBounds_toArray, List.set_cons_zero, List.set_cons_succ])
      (first | (refine wpAnyH_take (i := 4) (v := undef) rfl (by kernel_rfl) (by kernel_rfl) (by kernel_rfl) (fun _ _ _ h => h) (Or.inr ⟨rfl, rfl⟩) (by assumption) ?_) | (refine wpAnyH_take (i := 4) (v := ?_) rfl (by kernel_rfl) (by kernel_rfl) (by kernel_rfl) (fun _ _ _ h => h) (Or.inl ⟨rfl, ?_⟩) (by assumption) ?_; rotate_left 1; · (intro w hSw; (try dsimp only at hSw); go_simp; (try with_reducible rfl)))); (try simp only [Act.put, List.getElem_toArray, List.getElem_cons_zero, List.getElem_cons_succ, List.setIfInBounds_toArray, List.set_cons_zero, List.set_cons_succ])
      (first | (refine wpAnyH_take (i := 5) (v := undef) rfl (by kernel_rfl) (by kernel_rfl) (by kernel_rfl) (fun _ _ _ h => h) (Or.inr ⟨rfl, rfl⟩) (by assumption) ?_) | (refine wpAnyH_take (i := 5) (v := ?_) rfl (by kernel_rfl) (by kernel_rfl) (by kernel_rfl) (fun _ _ _ h => h) (Or.inl ⟨rfl, ?_⟩) (by assumption) ?_; rotate_left 1; · (intro w hSw; (try dsimp only at hSw); go_simp; (try with_reducible rfl)))); (try simp only [Act.put, List.getElem_toArray, List.getElem_cons_zero, List.getElem_cons_succ, List.setIfInBounds_toArray, List.set_cons_zero, List.set_cons_succ])
      (first | (refine wpAnyH_take (i := 6) (v := undef) rfl (by kernel_rfl) (by kernel_rfl) (by kernel_rfl) (fun _ _ _ h => h) (Or.inr ⟨rfl, rfl⟩) (by assumption) ?_) | (refine wpAnyH_take (i := 6) (v := ?_) rfl (by kernel_rfl) (by kernel_rfl) (by kernel_rfl) (fun _ _ _ h => h) (Or.inl ⟨rfl, ?_⟩) (by assumption) ?_; rotate_left 1; · (intro w hSw; (try dsimp only at hSw); go_simp; (try with_reducible rfl)))); (try simp only [Act.put, List.getElem_toArray, List.getElem_cons_zero, List.getElem_cons_succ, List.setIfInBounds_toArray, List.set_cons_zero, List.set_cons_succ])
      refine wpAnyH_ready (rs := [7]) (by kernel_rfl) (by simp) ?_
      refine AllReadyH.cons rfl (fun K hK => ?_) AllReadyH.nil
      go_simp
      refine hK.out _ _ trivial (fun hHeld => ?_)
      clear hK K
      (try simp only [Act.put, List.getElem_toArray, List.getElem_cons_zero, List.getElem_cons_succ, List.setIfInBounds_toArray, List.set_cons_zero, List.set_cons_succ])
      refine wpAnyH_ready (rs := [8]) (by kernel_rfl) (by simp) ?_
      refine AllReadyH.cons rfl (fun K hK => ?_) AllReadyH.nil
      refine st_app rfl _ _ _ rfl elB rfl rfl (ho.alloc _).drew (Rd.lit wr _ [_, _]).drew (by repeat (first | exact ones_nil | refine ones_cons rfl ?_)) (by unfold maxLen; first | omega | (simp; done) | (simp; omega)) (by first | omega | (simp; done) | (simp; omega)) (Nat.le_trans hTs (by show wr.heap.size ≤ (wr.heap.push _).size; rw [Array.size_push]; omega)) ?_
      intro A1 c1 w2 ho2 ht2 hb2
      refine hK.out _ _ trivial (fun hHeld => ?_)
      clear hK K
      (try simp only [Act.put, List.getElem_toArray, List.getElem_cons_zero, List.getElem_cons_succ, List.setIfInBounds_toArray, List.set_cons_zero, List.set_cons_succ])
      (first | (refine wpAnyH_take (i := 9) (v := undef) rfl (by kernel_rfl) (by kernel_rfl) (by kernel_rfl) (fun _ _ _ h => h) (Or.inr ⟨rfl, rfl⟩) (by assumption) ?_) | (refine wpAnyH_take (i := 9) (v := ?_) rfl (by kernel_rfl) (by kernel_rfl) (by kernel_rfl) (fun _ _ _ h => h) (Or.inl ⟨rfl, ?_⟩) (by assumption) ?_; rotate_left 1; · (intro w hSw; (try dsimp only at hSw); go_simp; (try with_reducible rfl)))); (try simp only [Act.put, List.getElem_toArray, List.getElem_cons_zero, List.getElem_cons_succ, List.setIfInBounds_toArray, List.set_cons_zero, List.set_cons_succ])
      refine wpAnyH_done (by kernel_rfl) ?_ _
      refine NoPanic.normal ?_
      clear hHeld
      have e3 : vbs (sHex (Y.take j)) ++ [Value.int .u8 ((sDig n1).toNat : Int), Value.int .u8 ((sDig n2).toNat : Int)] = vbs (sHex (Y.take (j + 1))) := by
        rw [← HC.out, vbs_append]
        rfl
      rw [e3] at ho2
      have hT2 : Turn w w2 none := ((hT.alloc _).drew).new ht2 (fun g' hg' => (ho.block g' hg').1)
      clear ho
      go_wp2_with fail
      refine ⟨⟨j + 1, A1, c1, by omega, rfl, rfl, ho2, hT2⟩, ?_⟩
      simp [intOf]; omega
    · have hjj : j = 32 := by omega
      have hYY : Y.take j = Y := List.take_of_length_le (by omega)
      rw [hYY] at ho
      clear hjj hYY
      have s1 := str_run wr (c := c) ho.rd
      go_wp2_with fail
      go_ret
      exact ⟨rfl, hT⟩
end Go.Proofs.YtjjdhdieihmnnaaGreatDoor.Sha
/-
  Layer 8: the code's canon: Text, Is, Print, Short.
-/
namespace Go.Proofs.YtjjdhdieihmnnaaGreatDoor
open Go.RowKit

/-- What all of the layer wants of the program's own variables. -/
structure CT (w : World) : Prop where
  lt : LT w
  sha : Sha.Laid w
theorem CT.turn {w w' : World} (h : CT w) (ht : Turn w w' none) : CT w' := ⟨h.lt.turn ht, h.sha.turn ht (by simp)⟩
/-- The one form of a text; or a place and an error. -/
def cForm (l : List UInt8) : Except PE (List UInt8) := match eRead l with
  | .error e => .error e
  | .ok N => match cShow (N.map Nd.g) with
    | some p => .ok p.1
    | none => .error (0, 1)
theorem form_ok {l t : List UInt8} (h : cForm l = .ok t) : ∃ N d, eRead l = .ok N ∧ cShow (N.map Nd.g) = some (t, d) := by
  unfold cForm at h
  split at h
  · cases h
  · rename_i N e
    split at h
    · rename_i p hp
      injection h with h
      exact ⟨N, p.2, e, by rw [hp, ← h]⟩
    · cases h
theorem form_no {l : List UInt8} {p : PE} (h : cForm l = .error p) : eRead l = .error p ∨ ∃ N, eRead l = .ok N ∧ cShow (N.map Nd.g) = none ∧ p = (0, 1) := by
  unfold cForm at h
  split at h
  · rename_i e he
    injection h with h
    rw [← h]
    exact .inl he
  · rename_i N e
    split at h
    · cases h
    · rename_i hp
      injection h with h
      exact .inr ⟨N, e, hp, h.symm⟩
/-- What is read has a form, which is read as the same. -/
theorem form_back {l : List UInt8} {N : List Nd} (h : eRead l = .ok N) : ∃ t, cForm l = .ok t ∧ eRead t = .ok N ∧ cForm t = .ok t ∧ t.length ≤ l.length ∧ t.length ≤ 4096 := by
  obtain ⟨t, d, h1, h2, h3⟩ := show_back h (read_few h)
  refine ⟨t, ?_, h2, ?_, h3, pRead_long ((eRead_is _ _).1 h2)⟩
  · unfold cForm; rw [h]; simp only; rw [h1]
  · unfold cForm; rw [h2]; simp only; rw [h1]
theorem form_len {l t : List UInt8} (h : cForm l = .ok t) : t.length ≤ 4096 := by
  obtain ⟨N, d, h1, _⟩ := form_ok h
  obtain ⟨t', h2, _, _, _, h3⟩ := form_back h1
  rw [h] at h2
  injection h2 with h2
  rw [h2]
  exact h3
section
variable {P : Program} {ops : Array Oper} {rest : List Oper} {a : Act} {w : World} {Q : Exit → Act → World → Prop} {o : Oper}
/-- []byte(s). -/
theorem wp_cvb (hgd : o.guard = none) (src dst e : TypeId) (x : Operand) (ho : o.op = .convert src dst x) (hs : P.underlying src = some .string) (hd : P.underlying dst = some (.slice e)) (he : P.underlying e = some (.int .u8))
    {l : List UInt8} (hx : a.eval x = .string (txt l)) (hl : l.length ≤ maxLen)
    (hK : ∀ g c w', Rd w' w'.heap.size 1 (some ⟨g, 0, none⟩) l.length (vbs l) → l.length ≤ c → c ≤ maxLen → Turn w w' none → wpList P ops Q rest (a.put o.dst (.slice (some ⟨g, 0, none⟩) l.length c)) w') : wpList P ops Q (o :: rest) a w := by
  refine wpList_plain hgd fun K hK2 => ?_
  have hrun := run_bytes_of_string (P := P) w src dst e (txt l) hs hd he
  rw [txt_size] at hrun
  unfold Oper.wp execOp
  simp only [ho, hx, Sem.run_bind, Sem.run_pure, Result.andThen_ok, hrun]
  refine hK2 _ _ (hK _ _ _ ?_ (grownCap_ge w l.length 0 e) (grownCap_le_maxLen w l.length 0 e hl) (((Turn.refl w none).drew).alloc _))
  refine ⟨by rw [vbs_len]; omega, fun k u hu => ⟨_, rfl, ?_, ?_⟩⟩
  · show w.heap.size < (w.heap.push _).size
    rw [Array.size_push]; omega
  · rw [add_flat, Nat.zero_add]
    have h1 := cell_of_row _ w.heap.size k _ e _ (heap_alloc_new w.drew (.cells (bytesRow (txt l) (grownCap w l.length 0 e)) e ((bytesRow (txt l) (grownCap w l.length 0 e)).size, (bytesRow (txt l) (grownCap w l.length 0 e)).size + 1)))
    rw [h1]
    have hk : k < (vbs l).length := (List.getElem?_eq_some_iff.1 hu).1
    unfold bytesRow
    rw [Array.getElem?_append_left (by simpa [txt, vbs] using hk)]
    simpa [txt, vbs, vb] using hu
end
/-- A result that stands in a cell of its own, and one beside. -/
theorem ret_two {P : Program} {fn : Func} {R : Ending → World → Prop} {p u : Tmp} {ty : TypeId} {a : Act} {w : World} {g : Nat} {xs : List Value} {d : TypeDesc} {v : Value} (hf : fn.results = #[.cell p ty, .tmp u]) (hp : a.tmps.getD p undef = .pointer (some ⟨g, 0, none⟩)) (hv : a.tmps.getD u undef = v) (hdf : a.defers = []) (h : Blk w g ty xs.toArray)
    (hu : P.underlying ty = some d) (hd : d.isRow = true) (hi : (P.info? ty).map (·.size) = some xs.length) (hR : R (.returned (.tuple #[.agg xs.toArray, v])) w) : bodyPost P fn R .ret a w := by
  refine bodyPost_ret (v := .tuple #[.agg xs.toArray, v]) ?_ hdf hR
  rw [results_cell_tmp hf, hp, hv]
  simp only [asAddr, Sem.run_pure, Result.andThen_ok]
  rw [run_loadVar_mid w g 0 ty xs d (h.range (Sub.all xs)) hu hd hi]
  rfl
section
variable {w : World} {l t : List UInt8}
set_option maxRecDepth 100000 in
set_option maxHeartbeats 1600000 in
theorem text_ok (h : cForm l = .ok t) (w : World) (hT : LT w) (hl : l.length ≤ 140737488355328) : Calls Tryz.prog 16 #[.string (txt l)] w fun e w' => e = .returned (.tuple #[.string (txt t), .int .i64 0, .int .i64 0]) ∧ Turn w w' none := by
  obtain ⟨N, d, h1, h2⟩ := form_ok h
  have pa := parse_ok h1 w hT.lf hl
  have sh := fun {w1 : World} {A c} (ht : Turn w w1 none) (q : Sv w1 A N.length c (N.map Nd.g)) => show_ok h2 (hT.turn ht) q
  obtain ⟨gs, hgs⟩ : ∃ gs, gs = N.map Nd.g := ⟨_, rfl⟩
  obtain ⟨n, hn⟩ : ∃ n, n = N.length := ⟨_, rfl⟩
  simp only [← hgs, ← hn] at pa sh
  clear hgs hn h1 h2 h
  go_enter Tryz.func16, Tryz.ntmps16
  go_wp2_with (first
    | (go_at_call 31; refine pa.mono ?_; rintro e w1 ⟨A, c, rfl, v1, _, ht1⟩)
    | (refine wp_var rfl rfl 24 _ _ rfl rfl rfl rfl zSch (fun _ => rfl) (xs := [.slice A n c]) (fun _ => rfl) rfl szSch (one1 rfl) ?_; intro g2 w2 hg2 hb2 ht2; have v2 := v1.turn ht2)
    | (refine wp_ld rfl 24 _ rfl rfl hb2 (Sub.all [.slice A n c]) Tryz.underlying24 rfl szSch ?_)
    | (go_at_call 11; refine (sh (ht1.trans ht2) v2).mono ?_; rintro e w3 ⟨rfl, ht3⟩))
  go_ret3
  exact ⟨rfl, (ht1.trans ht2).trans ht3⟩
set_option maxRecDepth 100000 in
set_option maxHeartbeats 1600000 in
theorem text_no {p er : Nat} (h : cForm l = .error (p, er)) (w : World) (hT : LT w) (hl : l.length ≤ 140737488355328) : Calls Tryz.prog 16 #[.string (txt l)] w fun e w' => e = .returned (.tuple #[.string (txt []), .int .i64 (p : Int), .int .i64 (er : Int)]) ∧ ((er : Int) != 0) = true ∧ Turn w w' none := by
  rcases form_no h with h1 | ⟨N, h1, h2, h3⟩
  · have pa := parse_no h1 w hT.lf hl
    clear h1 h
    go_enter Tryz.func16, Tryz.ntmps16
    go_wp2_with (first
      | (go_at_call 31; refine pa.mono ?_; rintro e w1 ⟨rfl, hne, ht1⟩)
      | (refine wp_var rfl rfl 24 _ _ rfl rfl rfl rfl zSch (fun _ => rfl) (xs := [.slice none 0 0]) (fun _ => rfl) rfl szSch (one1 rfl) ?_; intro g2 w2 hg2 hb2 ht2))
    go_ret3
    exact ⟨rfl, hne, ht1.trans ht2⟩
  · have pa := parse_ok h1 w hT.lf hl
    have sh := fun {w1 : World} {A c} (ht : Turn w w1 none) (q : Sv w1 A N.length c (N.map Nd.g)) => show_no h2 (hT.turn ht) q
    injection h3 with h3 h4
    obtain ⟨gs, hgs⟩ : ∃ gs, gs = N.map Nd.g := ⟨_, rfl⟩
    obtain ⟨n, hn⟩ : ∃ n, n = N.length := ⟨_, rfl⟩
    simp only [← hgs, ← hn] at pa sh
    subst h3; subst h4
    clear hgs hn h1 h2 h
    go_enter Tryz.func16, Tryz.ntmps16
    go_wp2_with (first
      | (go_at_call 31; refine pa.mono ?_; rintro e w1 ⟨A, c, rfl, v1, _, ht1⟩)
      | (refine wp_var rfl rfl 24 _ _ rfl rfl rfl rfl zSch (fun _ => rfl) (xs := [.slice A n c]) (fun _ => rfl) rfl szSch (one1 rfl) ?_; intro g2 w2 hg2 hb2 ht2; have v2 := v1.turn ht2)
      | (refine wp_ld rfl 24 _ rfl rfl hb2 (Sub.all [.slice A n c]) Tryz.underlying24 rfl szSch ?_)
      | (go_at_call 11; refine (sh (ht1.trans ht2) v2).mono ?_; rintro e w3 ⟨rfl, ht3⟩))
    go_ret3
    exact ⟨rfl, rfl, (ht1.trans ht2).trans ht3⟩
/-- Whether a text is its own form. -/
def isForm (l : List UInt8) : Bool := match cForm l with
  | .ok t => t == l
  | .error _ => false
set_option maxHeartbeats 800000 in
theorem is_any (l : List UInt8) (w : World) (hT : LT w) (hl : l.length ≤ 140737488355328) : Calls Tryz.prog 19 #[.string (txt l)] w fun e w' => e = .returned (.bool (isForm l)) ∧ Turn w w' none := by
  cases h : cForm l with
  | error p =>
    obtain ⟨p, er⟩ := p
    have tx := text_no h w hT hl
    have H := hid (show isForm l = false by unfold isForm; rw [h])
    clear h
    go_enter Tryz.func19, Tryz.ntmps19
    go_wp2_with (go_at_call 16; refine tx.mono ?_; rintro e w1 ⟨rfl, hne, ht1⟩; have heq : ((er : Int) == 0) = false := (by rw [bne_iff_ne] at hne; rw [beq_eq_false_iff_ne]; exact hne))
    go_ret
    exact ⟨by rw [H.out]; rfl, ht1⟩
  | ok t =>
    have tx := text_ok h w hT hl
    have H := hid (show isForm l = ((txt t).toList == (txt l).toList) by rw [tx_beq]; unfold isForm; rw [h])
    clear h
    go_enter Tryz.func19, Tryz.ntmps19
    go_wp2_with (go_at_call 16; refine tx.mono ?_; rintro e w1 ⟨rfl, ht1⟩)
    go_ret
    exact ⟨by rw [H.out]; rfl, ht1⟩
end
end Go.Proofs.YtjjdhdieihmnnaaGreatDoor
/-
  What the package variables of layer 8 hold where a call begins, out of the row's list; and a world that holds them.
-/
namespace Go.Proofs.YtjjdhdieihmnnaaGreatDoor
open Go.ChangeShapes Go.WideShapes Go.ChangeAt Go.RowKit
open Sha (sStart sKeys cvs cV)

theorem laid_start : (Rows.laid_suffragan_sha_start : DataW Unit) = Lib.tabData .u32 (sStart.list.map cV) := by kernel_rfl
theorem laid_keys : (Rows.laid_suffragan_sha_keys : DataW Unit) = Lib.tabData .u32 (sKeys.map cV) := by kernel_rfl

theorem tab_at {l : List (BitVec 32)} {i : Nat} {s : BitVec 32} (h : l[i]? = some s) : i < (l.map cV).length ∧ (l.map cV).getD i 0 = cV s := by
  have hi := (List.getElem?_eq_some_iff.1 h).1
  refine ⟨by simpa using hi, ?_⟩
  rw [List.getD_eq_getElem?_getD, List.getElem?_map, h]
  rfl

theorem laid_pow : (Rows.laid_internal_strconv_uint64pow10 : DataW Unit) = Lib.tabData .u64 Lib.pow10Tab := by kernel_rfl
theorem laid_first : (Rows.laid_suffragan_parse_first : DataW Unit) = strData kwList := by kernel_rfl

theorem lay_of {W : World} (h : laidMetH Tryz.prog Rows.canonLogsRow.laid W) : CT W := by
  have h' : laidMet Tryz.prog [("math/bits.deBruijn32tab", Rows.laid_math_bits_deBruijn32tab), ("math/bits.deBruijn64tab", Rows.laid_math_bits_deBruijn64tab), ("internal/strconv.uint64pow10", Rows.laid_internal_strconv_uint64pow10), ("suffragan/sha.start", Rows.laid_suffragan_sha_start), ("suffragan/sha.keys", Rows.laid_suffragan_sha_keys), ("suffragan/parse.first", Rows.laid_suffragan_parse_first)] W := h
  rw [laid_pow, laid_first, laid_start, laid_keys] at h'
  obtain ⟨ps, ⟨_, _, _, _, _, _, _, _, _, _, ⟨_, _, _, _, _, _, _, _, _, _, ⟨g0, t0, cs0, f0, p0, q0, hg0, ht0, hv0, hd0, ⟨g2, t2, cs2, f2, p2, q2, hg2, ht2, hv2, hd2, ⟨g3, t3, cs3, f3, p3, q3, hg3, ht3, hv3, hd3, ⟨g1, t1, cs1, f1, p1, q1, hg1, ht1, hv1, hd1, _, _⟩, _⟩, _⟩, _⟩, _⟩, _⟩, _, _⟩ := h'
  have n0 : Tryz.prog.globalNamed "internal/strconv.uint64pow10" = some 3 := by kernel_rfl
  have n1 : Tryz.prog.globalNamed "suffragan/parse.first" = some 1 := by kernel_rfl
  have n2 : Tryz.prog.globalNamed "suffragan/sha.start" = some 0 := by kernel_rfl
  have n3 : Tryz.prog.globalNamed "suffragan/sha.keys" = some 2 := by kernel_rfl
  obtain rfl := Option.some.inj (n0.symm.trans hg0)
  obtain rfl := Option.some.inj (n1.symm.trans hg1)
  obtain rfl := Option.some.inj (n2.symm.trans hg2)
  obtain rfl := Option.some.inj (n3.symm.trans hg3)
  obtain rfl := Option.some.inj ((show (Tryz.prog.globals[3]?).map (·.type) = some 170 by kernel_rfl).symm.trans ht0)
  obtain rfl := Option.some.inj ((show (Tryz.prog.globals[1]?).map (·.type) = some 147 by kernel_rfl).symm.trans ht1)
  obtain rfl := Option.some.inj ((show (Tryz.prog.globals[0]?).map (·.type) = some 133 by kernel_rfl).symm.trans ht2)
  obtain rfl := Option.some.inj ((show (Tryz.prog.globals[2]?).map (·.type) = some 150 by kernel_rfl).symm.trans ht3)
  have T0 : Tab W := by
    unfold Tab Lib.TabIs
    rw [hv0, ← Lib.cells_of_tab Tryz.underlying170 Tryz.underlying91 (by kernel_rfl) (by kernel_rfl) hd0]
  have c1 := cells_of_strs Tryz.underlying147 Tryz.underlying9 (by kernel_rfl) (by kernel_rfl) hd1
  have a1 : LF W := fun i s hi => by
    have h := World.var?_cell n1 hv1 i
    rw [h, ← Array.getElem?_toList, c1, List.getElem?_map, hi]
    rfl
  have T2 : Lib.TabIs Tryz.prog W "suffragan/sha.start" .u32 (sStart.list.map cV) := by
    unfold Lib.TabIs
    rw [hv2, ← Lib.cells_of_tab Tryz.underlying133 Tryz.underlying117 (by kernel_rfl) (by kernel_rfl) hd2]
  have T3 : Lib.TabIs Tryz.prog W "suffragan/sha.keys" .u32 (sKeys.map cV) := by
    unfold Lib.TabIs
    rw [hv3, ← Lib.cells_of_tab Tryz.underlying150 Tryz.underlying117 (by kernel_rfl) (by kernel_rfl) hd3]
  have b0 : ∀ i s, sStart.list[i]? = some s → W.cell? ⟨0, i, none⟩ = some (.int .u32 (cV s)) := fun i s hi => by
    have h := T2.cell n2 i (tab_at hi).1
    rw [(tab_at hi).2] at h
    exact h
  have b1 : ∀ i s, sKeys[i]? = some s → W.cell? ⟨2, i, none⟩ = some (.int .u32 (cV s)) := fun i s hi => by
    have h := T3.cell n3 i (tab_at hi).1
    rw [(tab_at hi).2] at h
    exact h
  have z := World.block_lt_of_cell? W _ (b1 0 _ rfl)
  exact ⟨⟨a1, T0, World.block_lt_of_cell? W _ (T0.cell n0 0 (by decide))⟩, ⟨z, b0, b1⟩⟩

noncomputable def laidWorld (os : Os) : World :=
  { World.holding Tryz.prog os ⟨#[], #[], []⟩ with heap := ((((((World.holding Tryz.prog os ⟨#[], #[], []⟩).heap.modify 5 (laidRow (intRow .u8 Rows.laid_math_bits_deBruijn32tab))).modify 6 (laidRow (intRow .u8 Rows.laid_math_bits_deBruijn64tab))).modify 3 (laidRow (Lib.pow10Tab.map fun z => Value.int .u64 z))).modify 1 (laidRow kwVals)).modify 0 (laidRow (cvs sStart.list))).modify 2 (laidRow (cvs sKeys)) }
theorem laid_met (os : Os) (args : Array Value) : laidMet Tryz.prog Rows.canonLogsRow.laid ((laidWorld os).forCall (fun _ _ => 0) ⟨#[], args, []⟩).memory :=
  laidMet_of_run' 8 (by kernel_rfl) (by kernel_rfl)
end Go.Proofs.YtjjdhdieihmnnaaGreatDoor
/-
  Layer 8: the code's Print, Short; the law's lives.
-/
namespace Go.Proofs.YtjjdhdieihmnnaaGreatDoor
open Go.RowKit

theorem txt_cut (l : List UInt8) (a m : Nat) : (txt l).extract a (a + m) = txt ((l.drop a).take m) := by
  apply ByteArray.ext
  rw [ByteArray.data_extract]
  simp [txt]
set_option maxRecDepth 100000 in
set_option maxHeartbeats 1600000 in
theorem print_ok {l t : List UInt8} (h : cForm l = .ok t) (w : World) (hC : CT w) (hl : l.length ≤ 140737488355328) : Calls Tryz.prog 24 #[.string (txt l)] w fun e w' => e = .returned (.tuple #[.agg (vbs (Sha.sHash t)).toArray, .bool true]) ∧ Turn w w' none := by
  have hlen := form_len h
  have tx := fun {w1 : World} (ht : Turn w w1 none) => text_ok h w1 (hC.turn ht).lt hl
  have hsh := fun {w1 : World} (ht : Turn w w1 none) => (hC.turn ht).sha
  obtain ⟨X, hX⟩ : ∃ X, X = vbs (Sha.sHash t) := ⟨_, rfl⟩
  have hX1 : X.length = 32 := by rw [hX, vbs_len, Sha.sHash_len]
  have hX2 : ∀ u ∈ X, u.oneCell' = true := by rw [hX]; exact vbs_one _
  rw [← hX]
  have HX := hid hX
  clear hX h
  go_enter Tryz.func24, Tryz.ntmps24
  go_wp2_with (first
    | (refine wp_al rfl 41 rfl _ Sha.nul32 ?_; intro gr w1 hgr hres ht1; have hres : Blk w1 gr 41 (vbs (List.replicate 32 0)).toArray := hres)
    | (go_at_call 16; refine (tx ht1).mono ?_; rintro e w2 ⟨rfl, ht2⟩; have T2 := ht1.trans ht2)
    | (refine wp_cvb rfl 9 55 5 _ rfl Tryz.underlying9 Tryz.underlying55 Tryz.underlying5 rfl (by unfold maxLen; omega) ?_; intro g3 c3 w3 hr3 hn3 hc3 ht3; have T3 := T2.trans ht3)
    | (go_at_call 40; refine (Sha.ssum_any _ _ _ t _ _ (hsh T3) hr3 (Nat.le_refl _) hn3 hc3 (by omega)).mono ?_; rintro e w4 ⟨rfl, ht4⟩; rw [← HX.out]; have hres4 := ((hres.turn0 ht2).turn0 ht3).turn0 ht4; have T4 := T3.trans ht4)
    | (refine wp_st (xs := X) rfl 41 _ _ rfl rfl rfl hres4 (by rw [List.size_toArray, vbs_len, hX1]; rfl) (Sha.sz32 hX1) hX2 ?_; intro w9 hb9 ht9))
  refine ret_two rfl rfl rfl rfl hb9 Tryz.underlying41 rfl (Sha.sz32 hX1) ⟨rfl, ?_⟩
  exact T4.new ht9 (fun q e => by injection e with e; omega)
set_option maxRecDepth 100000 in
set_option maxHeartbeats 1600000 in
theorem print_no {l : List UInt8} {p : PE} (h : cForm l = .error p) (w : World) (hC : CT w) (hl : l.length ≤ 140737488355328) : Calls Tryz.prog 24 #[.string (txt l)] w fun e w' => e = .returned (.tuple #[.agg (vbs (List.replicate 32 0)).toArray, .bool false]) ∧ Turn w w' none := by
  obtain ⟨p, er⟩ := p
  have tx := fun {w1 : World} (ht : Turn w w1 none) => text_no h w1 (hC.turn ht).lt hl
  obtain ⟨X, hX⟩ : ∃ X, X = vbs (List.replicate 32 (0 : UInt8)) := ⟨_, rfl⟩
  have hX1 : X.length = 32 := by rw [hX, vbs_len]; rfl
  have hX2 : ∀ u ∈ X, u.oneCell' = true := by rw [hX]; exact vbs_one _
  have bd : ∀ w, (zeroValue 41).run Tryz.prog w = .ok (.agg X.toArray) w := by rw [hX]; exact Sha.nul32
  rw [← hX]
  clear h hX
  go_enter Tryz.func24, Tryz.ntmps24
  go_wp2_with (first
    | (refine wp_al rfl 41 rfl _ bd ?_; intro gr w1 hgr hres ht1; have hres : Blk w1 gr 41 X.toArray := hres)
    | (go_at_call 16; refine (tx ht1).mono ?_; rintro e w2 ⟨rfl, hne, ht2⟩; have hres2 := hres.turn0 ht2)
    | (refine wp_st (xs := X) rfl 41 _ _ rfl rfl rfl hres2 (by rw [List.size_toArray]) (Sha.sz32 hX1) hX2 ?_; intro w9 hb9 ht9))
  refine ret_two rfl rfl rfl rfl hb9 Tryz.underlying41 rfl (Sha.sz32 hX1) ⟨rfl, ?_⟩
  exact (ht1.trans ht2).new ht9 (fun q e => by injection e with e; omega)
/-- The first digits of the print. -/
def shD (t : List UInt8) : List UInt8 := (Sha.sHex (Sha.sHash t)).take 8
theorem shD_len (t : List UInt8) : (shD t).length = 8 := by unfold shD; rw [List.length_take, Sha.sHex_len, Sha.sHash_len]; rfl
set_option maxRecDepth 100000 in
set_option maxHeartbeats 1600000 in
theorem short_ok {l t : List UInt8} (h : cForm l = .ok t) (w : World) (hC : CT w) (hl : l.length ≤ 140737488355328) : Calls Tryz.prog 26 #[.string (txt l)] w fun e w' => e = .returned (.string (txt (shD t))) ∧ Turn w w' none := by
  have pr := print_ok h w hC hl
  obtain ⟨Y, hY⟩ : ∃ Y, Y = Sha.sHash t := ⟨_, rfl⟩
  have hY1 : Y.length = 32 := by rw [hY, Sha.sHash_len]
  rw [← hY] at pr
  have hx := fun w => Sha.hex_any Y hY1 w
  have HD := hid (show shD t = (Sha.sHex Y).take 8 by rw [hY]; rfl)
  have hz : (txt (Sha.sHex Y)).size = 64 := by rw [txt_size, Sha.sHex_len, hY1]
  have hex := txt_cut (Sha.sHex Y) 0 8
  rw [List.drop_zero, ← HD.out] at hex
  obtain ⟨X, hX⟩ : ∃ X, X = vbs Y := ⟨_, rfl⟩
  obtain ⟨Z, hZ⟩ : ∃ Z, Z = txt (Sha.sHex Y) := ⟨_, rfl⟩
  have hX1 : X.length = 32 := by rw [hX, vbs_len]; exact hY1
  have hX2 : ∀ u ∈ X, u.oneCell' = true := by rw [hX]; exact vbs_one _
  rw [← hX] at pr hx
  rw [← hZ] at hx hz hex
  have hex2 : Z.extract 0 8 = txt (shD t) := hex
  clear hY hX hZ h hex
  go_enter Tryz.func26, Tryz.ntmps26
  go_wp2_with (first
    | (go_at_call 24; refine pr.mono ?_; rintro e w1 ⟨rfl, ht1⟩)
    | (refine wp_var rfl rfl 41 _ _ rfl rfl rfl rfl Sha.nul32 (fun _ => rfl) (xs := X) (fun _ => rfl) (by rw [vbs_len, hX1]; rfl) (Sha.sz32 hX1) hX2 ?_; intro g2 w2 hg2 hb2 ht2)
    | (refine wp_ld rfl 41 _ rfl rfl hb2 (Sub.all X) Tryz.underlying41 rfl (Sha.sz32 hX1) ?_)
    | (go_at_call 42; refine (hx _).mono ?_; rintro e w3 ⟨rfl, ht3⟩))
  go_ret
  exact ⟨rfl, (ht1.trans ht2).trans ht3⟩
/-- [ int ] # x -/
def lvA : List UInt8 := [32, 91, 32, 105, 110, 116, 32, 93, 32, 35, 32, 120]
def lvB : List UInt8 := [91, 105, 110, 116, 93]
theorem lv_form : cForm lvA = .ok lvB := by kernel_rfl
theorem lv_formB : cForm lvB = .ok lvB := by kernel_rfl
theorem lv_isB : isForm lvB = true := by kernel_rfl
theorem lvA_txt : txt lvA = { data := #[32, 91, 32, 105, 110, 116, 32, 93, 32, 35, 32, 120] } := rfl
theorem lvB_txt : ((txt lvB).toList == ([91, 105, 110, 116, 93] : List UInt8)) = true := by decide +kernel
set_option maxRecDepth 100000 in
set_option maxHeartbeats 1600000 in
theorem clives_any (w : World) (hC : CT w) : Calls Tryz.prog 21 #[] w fun e w' => e = .returned (.bool true) ∧ Turn w w' none := by
  have tx := text_ok lv_form w hC.lt (by decide)
  have iz := fun {w1 : World} (ht : Turn w w1 none) => is_any lvB w1 (hC.turn ht).lt (by decide)
  rw [lv_isB] at iz
  have sh := fun {w1 : World} (ht : Turn w w1 none) => short_ok lv_formB w1 (hC.turn ht) (by decide)
  obtain ⟨D, hD⟩ : ∃ D, D = txt (shD lvB) := ⟨_, rfl⟩
  have hz : D.size = 8 := by rw [hD, txt_size, shD_len]
  rw [← hD] at sh
  have he := lvB_txt
  clear hD
  go_enter Tryz.func21, Tryz.ntmps21
  go_wp2_with (first
    | (go_at_call 16; refine tx.mono ?_; rintro e w1 ⟨rfl, ht1⟩)
    | (go_at_call 19; refine (iz ht1).mono ?_; rintro e w2 ⟨rfl, ht2⟩)
    | (go_at_call 26; refine (sh (ht1.trans ht2)).mono ?_; rintro e w3 ⟨rfl, ht3⟩))
  go_ret
  exact ⟨rfl, (ht1.trans ht2).trans ht3⟩
end Go.Proofs.YtjjdhdieihmnnaaGreatDoor
/-
  Numbers whose first byte says how many bytes they have, as plain functions on lists of bytes, and what they come to. No program is named here.
-/
namespace Go.Proofs.YtjjdhdieihmnnaaGreatDoor

/-- How many bytes a number has; 0: it has none. -/
def pSize (n : Nat) : Nat := if n < 64 then 1 else if n < 16384 then 2 else if n < 1073741824 then 4 else if n < 4611686018427387904 then 8 else 0

/-- k bytes of n, the highest first. -/
def be : Nat → Nat → List UInt8
  | 0, _ => []
  | k + 1, n => UInt8.ofNat (n / 256 ^ k) :: be k n
/-- The number of bytes behind a number. -/
def ube (n : Nat) (l : List UInt8) : Nat := l.foldl (fun n c => n * 256 + c.toNat) n
/-- The highest two bits of the first byte. -/
def mark (k : Nat) : Nat := if k = 2 then 64 else if k = 4 then 128 else if k = 8 then 192 else 0

/-- The bytes of n. -/
def pPut (n : Nat) : List UInt8 :=
  match be (pSize n) n with
  | [] => []
  | c :: r => UInt8.ofNat (c.toNat + mark (pSize n)) :: r

/-- How many bytes the first one says. -/
def pLen (b : UInt8) : Nat := if b.toNat < 64 then 1 else if b.toNat < 128 then 2 else if b.toNat < 192 then 4 else 8

/-- The number with which bytes begin, how many these are, and the error. -/
def pTake : List UInt8 → Nat × Nat × Nat
  | [] => (0, 0, 3)
  | b :: r => if r.length + 1 < pLen b then (0, 0, 3) else if pSize (ube (b.toNat % 64) (r.take (pLen b - 1))) = pLen b then (ube (b.toNat % 64) (r.take (pLen b - 1)), pLen b, 0) else (0, 0, 4)

theorem u8_of {x : Nat} (h : x < 256) : (UInt8.ofNat x).toNat = x := by
  rw [UInt8.toNat_ofNat']
  exact Nat.mod_eq_of_lt h
theorem pLen_pos (b : UInt8) : 0 < pLen b := by
  unfold pLen
  repeat' split
  all_goals omega
theorem pSize_cases (n : Nat) : (n < 64 ∧ pSize n = 1) ∨ (64 ≤ n ∧ n < 16384 ∧ pSize n = 2) ∨ (16384 ≤ n ∧ n < 1073741824 ∧ pSize n = 4) ∨ (1073741824 ≤ n ∧ n < 4611686018427387904 ∧ pSize n = 8) ∨ (4611686018427387904 ≤ n ∧ pSize n = 0) := by
  unfold pSize
  by_cases h1 : n < 64
  · simp [h1]
  by_cases h2 : n < 16384
  · simp [h1, h2]; omega
  by_cases h3 : n < 1073741824
  · simp [h1, h2, h3]; omega
  by_cases h4 : n < 4611686018427387904
  · simp [h1, h2, h3, h4]; omega
  · simp [h1, h2, h3, h4]; omega
theorem pSize_le (n : Nat) : pSize n ≤ 8 := by rcases pSize_cases n with h | h | h | h | h <;> omega

theorem be_len (k n : Nat) : (be k n).length = k := by
  induction k with
  | zero => rfl
  | succ k ih => simp [be, ih]
theorem pPut_len (n : Nat) : (pPut n).length = pSize n := by
  have h := be_len (pSize n) n
  unfold pPut
  cases hb : be (pSize n) n with
  | nil => rw [hb] at h; simpa using h
  | cons c r => rw [hb] at h; simpa using h

theorem ube_cons (n : Nat) (c : UInt8) (l : List UInt8) : ube n (c :: l) = ube (n * 256 + c.toNat) l := rfl
theorem ube_snoc (n : Nat) (c : UInt8) (l : List UInt8) : ube n (l ++ [c]) = ube n l * 256 + c.toNat := by simp [ube]
theorem ube_ge (n : Nat) (l : List UInt8) : n * 256 ^ l.length ≤ ube n l ∧ ube n l < (n + 1) * 256 ^ l.length := by
  induction l generalizing n with
  | nil => simp [ube]
  | cons c l ih =>
    have h := ih (n * 256 + c.toNat)
    have hc : c.toNat < 256 := c.toNat_lt
    rw [ube_cons, List.length_cons, Nat.pow_succ]
    have e1 : n * (256 ^ l.length * 256) = n * 256 * 256 ^ l.length := by rw [Nat.mul_assoc, Nat.mul_comm 256]
    have e2 : (n + 1) * (256 ^ l.length * 256) = (n + 1) * 256 * 256 ^ l.length := by rw [Nat.mul_assoc, Nat.mul_comm 256]
    have h1 : n * 256 * 256 ^ l.length ≤ (n * 256 + c.toNat) * 256 ^ l.length := Nat.mul_le_mul_right _ (by omega)
    have h2 : (n * 256 + c.toNat + 1) * 256 ^ l.length ≤ (n + 1) * 256 * 256 ^ l.length := Nat.mul_le_mul_right _ (by omega)
    rw [e1, e2]
    exact ⟨Nat.le_trans h1 h.1, Nat.lt_of_lt_of_le h.2 h2⟩
/-- The bytes of a number are that number's. -/
theorem ube_be (k n m : Nat) : ube m (be k n) = m * 256 ^ k + n % 256 ^ k := by
  induction k generalizing m with
  | zero => simp [be, ube, Nat.mod_one]
  | succ k ih =>
    rw [be, ube_cons, ih]
    have e : (UInt8.ofNat (n / 256 ^ k)).toNat = n / 256 ^ k % 256 := by simp
    rw [e, Nat.pow_succ, Nat.mod_mul, Nat.add_mul, Nat.mul_assoc, Nat.mul_comm 256 (256 ^ k), Nat.mul_comm (n / 256 ^ k % 256)]
    omega
theorem be_ube (j m : Nat) (l : List UInt8) (h : l.length = j) : be j (ube m l) = l := by
  induction l generalizing j m with
  | nil => subst h; rfl
  | cons c l ih =>
    subst h
    rw [List.length_cons, be, ube_cons, ih _ _ rfl]
    have hb := ube_ge (m * 256 + c.toNat) l
    have hp : 0 < 256 ^ l.length := Nat.pow_pos (by omega)
    have hd : ube (m * 256 + c.toNat) l / 256 ^ l.length = m * 256 + c.toNat := by
      rw [Nat.div_eq_iff hp]
      generalize 256 ^ l.length = p at *
      generalize ube (m * 256 + c.toNat) l = u at *
      have e : (m * 256 + c.toNat + 1) * p = (m * 256 + c.toNat) * p + p := by rw [Nat.add_mul, Nat.one_mul]
      rw [e] at hb
      exact ⟨hb.1, by omega⟩
    rw [hd]
    congr 1
    have e : UInt8.ofNat (m * 256 + c.toNat) = c := by
      apply UInt8.toNat_inj.1
      have hc := c.toNat_lt
      simp
    exact e
theorem ube_div (m : Nat) (l : List UInt8) : ube m l / 256 ^ l.length = m := by
  have hb := ube_ge m l
  have hp : 0 < 256 ^ l.length := Nat.pow_pos (by omega)
  rw [Nat.div_eq_iff hp]
  generalize 256 ^ l.length = p at *
  generalize ube m l = u at *
  have e : (m + 1) * p = m * p + p := by rw [Nat.add_mul, Nat.one_mul]
  rw [e] at hb
  exact ⟨hb.1, by omega⟩

/-- A number's bytes, the first one by itself. -/
theorem pPut_form {n : Nat} (h : pSize n ≠ 0) : ∃ j b, pSize n = j + 1 ∧ j ≤ 7 ∧ n / 256 ^ j < 64 ∧ pPut n = b :: be j n ∧ b.toNat = n / 256 ^ j + mark (j + 1) ∧ pLen b = j + 1 ∧ b.toNat % 64 = n / 256 ^ j := by
  have key : ∀ j m : Nat, pSize n = j + 1 → j ≤ 7 → mark (j + 1) = m → n / 256 ^ j < 64 → m ≤ 192 → m % 64 = 0 → (∀ x, x < 64 → (if x + m < 64 then 1 else if x + m < 128 then 2 else if x + m < 192 then 4 else 8) = j + 1) →
      ∃ j b, pSize n = j + 1 ∧ j ≤ 7 ∧ n / 256 ^ j < 64 ∧ pPut n = b :: be j n ∧ b.toNat = n / 256 ^ j + mark (j + 1) ∧ pLen b = j + 1 ∧ b.toNat % 64 = n / 256 ^ j := by
    intro j m hs hj hm hd hm1 hm2 hl
    have e1 : (UInt8.ofNat (n / 256 ^ j)).toNat = n / 256 ^ j := u8_of (Nat.lt_of_lt_of_le hd (by omega))
    have e2 : (UInt8.ofNat (n / 256 ^ j + m)).toNat = n / 256 ^ j + m := u8_of (by generalize n / 256 ^ j = x at *; omega)
    refine ⟨j, UInt8.ofNat (n / 256 ^ j + m), hs, hj, hd, ?_, by rw [e2, hm], ?_, by rw [e2]; omega⟩
    · unfold pPut
      rw [hs, be]
      simp only []
      rw [e1, hm]
    · unfold pLen
      rw [e2]
      exact hl _ hd
  rcases pSize_cases n with h1 | h1 | h1 | h1 | h1
  · exact key 0 0 (by omega) (by omega) rfl (by omega) (by omega) (by omega) (fun x hx => by rw [if_pos (by omega)])
  · exact key 1 64 (by omega) (by omega) rfl (by omega) (by omega) (by omega) (fun x hx => by rw [if_neg (by omega), if_pos (by omega)])
  · exact key 3 128 (by omega) (by omega) rfl (by omega) (by omega) (by omega) (fun x hx => by rw [if_neg (by omega), if_neg (by omega), if_pos (by omega)])
  · exact key 7 192 (by omega) (by omega) rfl (by omega) (by omega) (by omega) (fun x hx => by rw [if_neg (by omega), if_neg (by omega), if_neg (by omega)])
  · omega

theorem pTake_put {n : Nat} (h : pSize n ≠ 0) (r : List UInt8) : pTake (pPut n ++ r) = (n, pSize n, 0) := by
  obtain ⟨j, b, hs, hj, hd, hp, hb, hl, hm⟩ := pPut_form h
  have hbl := be_len j n
  rw [hp, List.cons_append, pTake, hl, hm]
  rw [if_neg (by rw [List.length_append, hbl]; omega)]
  have e : (be j n ++ r).take (j + 1 - 1) = be j n := by
    rw [Nat.add_sub_cancel, List.take_append_of_le_length (by omega), List.take_of_length_le (by omega)]
  rw [e, ube_be]
  have e2 : n / 256 ^ j * 256 ^ j + n % 256 ^ j = n := Nat.div_add_mod' n (256 ^ j)
  rw [e2, if_pos hs, hs]

theorem pTake_short {n k : Nat} (hk : k < pSize n) : pTake ((pPut n).take k) = (0, 0, 3) := by
  obtain ⟨j, b, hs, hj, hd, hp, hb, hl, hm⟩ := pPut_form (n := n) (by omega)
  have hbl := be_len j n
  rw [hp]
  cases k with
  | zero => rfl
  | succ k =>
    rw [List.take_succ_cons, pTake, hl, if_pos]
    rw [List.length_take, hbl]
    omega

theorem pTake_ok {l : List UInt8} {n k : Nat} (h : pTake l = (n, k, 0)) : pSize n = k ∧ 0 < k ∧ k ≤ l.length ∧ pPut n = l.take k := by
  cases l with
  | nil => simp [pTake] at h
  | cons b r =>
    rw [pTake] at h
    split at h
    · simp at h
    rename_i hlen
    split at h
    · rename_i hs
      simp only [Prod.mk.injEq, and_true] at h
      obtain ⟨rfl, rfl⟩ := h
      have hpos : 0 < pLen b := pLen_pos b
      have hne : pSize (ube (b.toNat % 64) (r.take (pLen b - 1))) ≠ 0 := by omega
      refine ⟨hs, hpos, by rw [List.length_cons]; omega, ?_⟩
      obtain ⟨j, b', hs', hj, hd, hp, hb, hl, hm⟩ := pPut_form hne
      have hj' : pLen b - 1 = j := by omega
      have hlen2 : (r.take (pLen b - 1)).length = j := by rw [List.length_take]; omega
      rw [hp]
      have hdiv := ube_div (b.toNat % 64) (r.take (pLen b - 1))
      rw [hlen2] at hdiv
      have hbe := be_ube j (b.toNat % 64) (r.take (pLen b - 1)) hlen2
      have hb2 : b' = b := by
        apply UInt8.toNat_inj.1
        rw [hb, hdiv, ← hs', hs]
        unfold pLen mark
        have := b.toNat_lt
        by_cases c1 : b.toNat < 64
        · simp [c1]
        by_cases c2 : b.toNat < 128
        · simp [c1, c2]; omega
        by_cases c3 : b.toNat < 192
        · simp [c1, c2, c3]; omega
        · simp [c1, c2, c3]; omega
      rw [hbe, hb2]
      have e : pLen b = (pLen b - 1) + 1 := by omega
      rw [e, List.take_succ_cons]
      rw [Nat.add_sub_cancel]
    · simp only [Prod.mk.injEq] at h
      omega

/-- The order of bytes, and of numbers of one size. -/
theorem less_be (j a b : Nat) (ha : a < 256 ^ j) (hb : b < 256 ^ j) : Op.bytesLess (be j a) (be j b) = decide (a < b) := by
  induction j generalizing a b with
  | zero => simp at ha hb; subst ha; subst hb; rfl
  | succ j ih =>
    have hp : 0 < 256 ^ j := Nat.pow_pos (by omega)
    rw [be, be]
    have mod_be : ∀ n, be j n = be j (n % 256 ^ j) := by
      intro n
      have h1 := ube_be j n 0
      have h2 := be_ube j 0 (be j n) (be_len j n)
      rw [h1] at h2
      simpa using h2.symm
    have e1 : (UInt8.ofNat (a / 256 ^ j)).toNat = a / 256 ^ j := u8_of (by rw [Nat.div_lt_iff_lt_mul hp]; rw [Nat.pow_succ, Nat.mul_comm] at ha; exact ha)
    have e2 : (UInt8.ofNat (b / 256 ^ j)).toNat = b / 256 ^ j := u8_of (by rw [Nat.div_lt_iff_lt_mul hp]; rw [Nat.pow_succ, Nat.mul_comm] at hb; exact hb)
    have hma : a % 256 ^ j < 256 ^ j := Nat.mod_lt _ hp
    have hmb : b % 256 ^ j < 256 ^ j := Nat.mod_lt _ hp
    have hda := Nat.div_add_mod' a (256 ^ j)
    have hdb := Nat.div_add_mod' b (256 ^ j)
    rw [Op.bytesLess, mod_be a, mod_be b, ih _ _ hma hmb]
    have c1 : (decide (UInt8.ofNat (a / 256 ^ j) < UInt8.ofNat (b / 256 ^ j))) = decide (a / 256 ^ j < b / 256 ^ j) := by
      rw [decide_eq_decide, UInt8.lt_iff_toNat_lt, e1, e2]
    have c2 : (UInt8.ofNat (a / 256 ^ j) == UInt8.ofNat (b / 256 ^ j)) = decide (a / 256 ^ j = b / 256 ^ j) := by
      rw [Bool.eq_iff_iff, beq_iff_eq, decide_eq_true_iff, ← UInt8.toNat_inj, e1, e2]
    rw [c1, c2]
    generalize 256 ^ j = p at *
    generalize a / p = x at *
    generalize b / p = y at *
    generalize a % p = u at *
    generalize b % p = v at *
    rw [← hda, ← hdb]
    rcases Nat.lt_trichotomy x y with h | h | h
    · have h2 : (x + 1) * p ≤ y * p := Nat.mul_le_mul_right p h
      rw [Nat.add_mul, Nat.one_mul] at h2
      have h3 : x * p + u < y * p + v := by omega
      simp [h, h3]
    · subst h
      simp
    · have h2 : (y + 1) * p ≤ x * p := Nat.mul_le_mul_right p h
      rw [Nat.add_mul, Nat.one_mul] at h2
      have h3 : ¬ x * p + u < y * p + v := by omega
      have h4 : ¬ x < y := by omega
      have h5 : ¬ x = y := by omega
      simp [h3, h4, h5]

theorem less_put {a b : Nat} (h : pSize a = pSize b) (h0 : pSize a ≠ 0) : Op.bytesLess (pPut a) (pPut b) = decide (a < b) := by
  obtain ⟨j, x, hs, hj, hd, hp, hb, hl, hm⟩ := pPut_form h0
  obtain ⟨j', y, hs', hj', hd', hp', hb', hl', hm'⟩ := pPut_form (n := b) (by omega)
  obtain rfl : j' = j := by omega
  have hpow : 0 < 256 ^ j' := Nat.pow_pos (by omega)
  have ha : a < 256 ^ (j' + 1) := by
    rw [Nat.pow_succ, Nat.mul_comm]
    have := (Nat.div_lt_iff_lt_mul hpow).1 hd
    omega
  have hbb : b < 256 ^ (j' + 1) := by
    rw [Nat.pow_succ, Nat.mul_comm]
    have := (Nat.div_lt_iff_lt_mul hpow).1 hd'
    omega
  have hbase := less_be (j' + 1) a b ha hbb
  rw [be, be, Op.bytesLess] at hbase
  have e1 : (UInt8.ofNat (a / 256 ^ j')).toNat = a / 256 ^ j' := u8_of (Nat.lt_of_lt_of_le hd (by omega))
  have e2 : (UInt8.ofNat (b / 256 ^ j')).toNat = b / 256 ^ j' := u8_of (Nat.lt_of_lt_of_le hd' (by omega))
  rw [hp, hp', Op.bytesLess, ← hbase]
  have c1 : decide (x < y) = decide (UInt8.ofNat (a / 256 ^ j') < UInt8.ofNat (b / 256 ^ j')) := by
    rw [decide_eq_decide, UInt8.lt_iff_toNat_lt, UInt8.lt_iff_toNat_lt, e1, e2, hb, hb']; omega
  have c2 : (x == y) = (UInt8.ofNat (a / 256 ^ j') == UInt8.ofNat (b / 256 ^ j')) := by
    rw [Bool.eq_iff_iff, beq_iff_eq, beq_iff_eq, ← UInt8.toNat_inj, ← UInt8.toNat_inj, e1, e2, hb, hb']; omega
  rw [c1, c2]
end Go.Proofs.YtjjdhdieihmnnaaGreatDoor
/-
  Layer 1 in a seat of layer 8: what prefix.PutTexts and the document's own Texts do.
-/
namespace Go.Proofs.YtjjdhdieihmnnaaGreatDoor.Pf
open Go.RowKit

theorem size_cases (m : Int) (h0 : 0 ≤ m) : (m < 64 ∧ pSize m.toNat = 1) ∨ (64 ≤ m ∧ m < 16384 ∧ pSize m.toNat = 2) ∨ (16384 ≤ m ∧ m < 1073741824 ∧ pSize m.toNat = 4) ∨
    (1073741824 ≤ m ∧ m < 4611686018427387904 ∧ pSize m.toNat = 8) ∨ (4611686018427387904 ≤ m ∧ pSize m.toNat = 0) := by
  have h := pSize_cases m.toNat
  omega
set_option maxHeartbeats 400000 in
theorem size_any (m : Int) (w : World) (h0 : 0 ≤ m) (h1 : m ≤ 18446744073709551615) :
    Calls Tryz.prog 98 #[.int .u64 m] w fun e w' => e = .returned (.int .i64 (pSize m.toNat : Nat)) ∧ w = w' := by
  rcases size_cases m h0 with ⟨h2, h⟩ | ⟨h2, h3, h⟩ | ⟨h2, h3, h⟩ | ⟨h2, h3, h⟩ | ⟨h2, h⟩
  all_goals
    have H := hid h
    clear h
    go_enter Tryz.func98, Tryz.ntmps98
    go_wp2
    go_ret
    exact ⟨by rw [H.out]; rfl, rfl⟩
set_option maxHeartbeats 400000 in
theorem rsize_any (m : Int) (w : World) (h0 : 0 ≤ m) (h1 : m ≤ 18446744073709551615) :
    Calls Tryz.prog 78 #[.int .u64 m] w fun e w' => e = .returned (.int .i64 (pSize m.toNat : Nat)) ∧ w = w' := by
  rcases size_cases m h0 with ⟨h2, h⟩ | ⟨h2, h3, h⟩ | ⟨h2, h3, h⟩ | ⟨h2, h3, h⟩ | ⟨h2, h⟩
  all_goals
    have H := hid h
    clear h
    go_enter Tryz.func78, Tryz.ntmps78
    go_wp2
    go_ret
    exact ⟨by rw [H.out]; rfl, rfl⟩
set_option maxHeartbeats 400000 in
theorem fresh_any (A : Option Addr) (n c : Nat) (room : Int) (l : List UInt8) (B : Nat) (w : World) (hr : Rd w B 1 A n (vbs l)) (h0 : 0 ≤ room) (h1 : (n : Int) + room ≤ 140737488355328) (hB : B ≤ w.heap.size) :
    Calls Tryz.prog 76 #[.slice A n c, .int .i64 room] w fun e w' =>
      ∃ A' c', e = .returned (.slice A' n c') ∧ Own w' w.heap.size 5 1 A' n c' (vbs l) ∧ Turn w w' none := by
  obtain ⟨r, rfl⟩ := Int.eq_ofNat_of_zero_le h0
  have hlen := hid hr.len
  go_enter Tryz.func76, Tryz.ntmps76
  go_wp2_with (first
    | (at_make; refine wp_mk rfl _ _ _ rfl elB rfl rfl n (n + r) rfl (by omega) (by omega) (by omega) (by unfold maxLen; omega) ?_; intro w1 ys hys hown ht; have hr1 := hr.turn0 ht hB; have hys' := hid hys; clear hys)
    | (refine wp_cp rfl _ _ _ _ rfl elB rfl rfl hown hr1 (vbs_one l) ?_; intro w2 ho2 ht2))
  go_ret
  refine ⟨_, _, rfl, ?_, ht.new ht2 (fun g hg => by simp [blk] at hg; omega)⟩
  have e1 : Nat.min n n = n := Nat.min_self n
  rw [e1, List.take_of_length_le (by rw [hr.len]; exact Nat.le_refl _), List.drop_of_length_le (by rw [hys'.out]; exact Nat.le_refl _), List.append_nil] at ho2
  exact ho2
theorem or_mark (k : Nat) (hk : k = 0 ∨ k = 64 ∨ k = 128 ∨ k = 192) (x : Int) (h0 : 0 ≤ x) (h1 : x < 64) : bits .or .u8 x (k : Int) = x + k := by
  obtain ⟨n, rfl⟩ := Int.eq_ofNat_of_zero_le h0
  have h2 : n < 64 := by omega
  have key : ∀ k ∈ [0, 64, 128, 192], ∀ n : Nat, n < 64 → bits .or .u8 (n : Int) ((k : Nat) : Int) = n + k := by decide +kernel
  exact key k (by simpa using hk) n h2
theorem vb_of (x : Nat) : vb (UInt8.ofNat x) = .int .u8 ((x % 256 : Nat) : Int) := by
  simp [vb]
theorem vput {m : Int} (h0 : 0 ≤ m) {k : Nat} (h : pSize m.toNat = k + 1) {j : Nat} (hj : mark (k + 1) = j) (hj0 : j = 0 ∨ j = 64 ∨ j = 128 ∨ j = 192) (hd : m / 256 ^ k < 64) :
    vbs (pPut m.toNat) = .int .u8 (bits .or .u8 (m / 256 ^ k) (j : Int)) :: vbs (be k m.toNat) := by
  obtain ⟨n, rfl⟩ := Int.eq_ofNat_of_zero_le h0
  rw [Int.toNat_natCast] at *
  have e : ((n : Int) / 256 ^ k) = ((n / 256 ^ k : Nat) : Int) := by rw [Int.natCast_ediv, Int.natCast_pow]; rfl
  have hd' : n / 256 ^ k < 64 := by rw [e] at hd; omega
  rw [e, or_mark j hj0 _ (Int.natCast_nonneg _) (by rw [e] at hd; exact hd)]
  unfold pPut
  rw [h, be]
  simp only [vbs, List.map_cons]
  rw [u8_of (Nat.lt_of_lt_of_le hd' (by omega)), hj, vb_of]
  congr 2
  generalize n / 256 ^ k = x at *
  omega
theorem put_end {w : World} {base g n N c : Nat} {E : TypeId} {l : List UInt8} {m : Int} {v u : Value} {r : List Value} (hown : Own w base E 1 (some ⟨g, 0, none⟩) N c (vbs l ++ v :: r)) (hlen : (vbs l).length = n)
    (hN : N = n + pSize m.toNat) (he : vbs (pPut m.toNat) = u :: r) : Own (w.setCell ⟨g, n, none⟩ u) base E 1 (some ⟨g, 0, none⟩) (n + pSize m.toNat) c (vbs (l ++ pPut m.toNat)) := by
  have h := hown.store n u
  rw [set_len hlen] at h
  rw [vbs_append, he, ← hN]
  exact h
set_option maxHeartbeats 400000 in
theorem putNumber_any (A : Option Addr) (n c : Nat) (m : Int) (l : List UInt8) (base : Nat) (w : World) (hown : Own w base 5 1 A n c (vbs l)) (h0 : 0 ≤ m) (h1 : m < 4611686018427387904)
    (hn : n + 8 ≤ 140737488355328) (hb : base ≤ w.heap.size) :
    Calls Tryz.prog 75 #[.slice A n c, .int .u64 m] w fun e w' =>
      ∃ A' c', e = .returned (.slice A' (n + pSize m.toNat) c') ∧ Own w' base 5 1 A' (n + pSize m.toNat) c' (vbs (l ++ pPut m.toNat)) ∧ Grow w w' A A' := by
  have hlen := hid hown.len
  have hG := Grow.refl w A
  rcases size_cases m h0 with ⟨h2, h⟩ | ⟨h2, h3, h⟩ | ⟨h2, h3, h⟩ | ⟨h2, h3, h⟩ | ⟨h2, h⟩
  case inr.inr.inr.inr => omega
  all_goals
    have H := hid h
    clear h
    go_enter Tryz.func75, Tryz.ntmps75
    go_wp2_with (first
      | (go_at_call 98; refine (size_any _ _ (by omega) (by omega)).mono ?_; rintro e w' ⟨rfl, rfl⟩; rw [H.out])
      | (at_builtin; refine wp_app1 rfl _ _ _ rfl elB rfl rfl (hown.alloc _) (Rd.lit _ _ _) (by repeat (first | exact ones_nil | refine ones_cons rfl ?_)) (by unfold maxLen; first | omega | (simp; done) | (simp; omega)) (by first | omega | (simp; done) | (simp; omega)) (by first | omega | (simp; done) | (simp; omega)) (by first | omega | (simp; done) | (simp; omega)) ?_; intro g c2 w2 hown2 hG2; have hG := (hG.alloc _).trans hG2; have hz := hG.1.size; have hown := hown2; (try simp only [List.append_assoc, List.cons_append, List.nil_append] at hown); clear hown2 hG2; have hc := (hown.cell (i := n) (by first | omega | (simp; done) | (simp; omega))).trans (at_len hlen.out _ _); have hf := hown.frozen n))
    go_ret
    refine ⟨_, c2, by rw [H.out]; rfl, put_end hown hlen.out (by rw [H.out]) ?_, hG.trans ⟨hown.storeTurn n _, .inl rfl⟩⟩
    have H2 := H.out
  · rw [vput h0 (k := 0) H2 (j := 0) rfl (by omega) (by omega)]
    simp [be, vbs]
  · rw [vput h0 (k := 1) H2 (j := 64) rfl (by omega) (by omega)]
    simp [be, vbs, vb_of]
    omega
  · rw [vput h0 (k := 3) H2 (j := 128) rfl (by omega) (by omega)]
    simp [be, vbs, vb_of]
    omega
  · rw [vput h0 (k := 7) H2 (j := 192) rfl (by omega) (by omega)]
    simp [be, vbs, vb_of]
    omega
/-- The error of Put. -/
def pErr (m : Nat) : Int := if pSize m = 0 then 1 else 0
theorem pPut_none {m : Nat} (h : pSize m = 0) : pPut m = [] := by unfold pPut; rw [h]; rfl
/-- Byte number j of a number's bytes. -/
theorem pPut_get {m k j : Nat} (h : pSize m = k) (hj : j < k) : (pPut m)[j]? = some (UInt8.ofNat (m / 256 ^ (k - 1 - j) % 256 + if j = 0 then mark k else 0)) := by
  have be_get : ∀ k n j, j < k → (be k n)[j]? = some (UInt8.ofNat (n / 256 ^ (k - 1 - j))) := by
    intro k
    induction k with
    | zero => intro n j h; omega
    | succ k ih =>
      intro n j h
      rw [be]
      cases j with
      | zero => simp
      | succ j =>
        rw [List.getElem?_cons_succ, ih n j (by omega)]
        have e : k - 1 - j = k + 1 - 1 - (j + 1) := by omega
        rw [e]
  cases k with
  | zero => omega
  | succ k =>
    unfold pPut
    rw [h]
    have h0 := be_get (k + 1) m 0 (by omega)
    cases hb : be (k + 1) m with
    | nil => rw [hb] at h0; simp at h0
    | cons c r =>
      cases j with
      | zero =>
        rw [hb] at h0
        simp only [List.getElem?_cons_zero, Option.some.injEq] at h0
        subst h0
        simp
      | succ j =>
        have h1 := be_get (k + 1) m (j + 1) hj
        rw [hb] at h1
        simp only [List.getElem?_cons_succ] at h1 ⊢
        rw [h1]
        simp only [Nat.add_one_ne_zero, if_false, Nat.add_zero]
        congr 1
        apply UInt8.toNat_inj.1
        simp
theorem shr_byte {m : Int} (h0 : 0 ≤ m) (e c : Nat) : (m / 2 ^ (8 * e) + (c : Int)) % 256 = ((m.toNat / 256 ^ e % 256 + c) % 256 : Nat) := by
  obtain ⟨n, rfl⟩ := Int.eq_ofNat_of_zero_le h0
  have e1 : (2 : Int) ^ (8 * e) = ((256 ^ e : Nat) : Int) := by
    rw [Int.pow_mul, Int.natCast_pow]; rfl
  rw [e1, Int.toNat_natCast, ← Int.natCast_ediv]
  generalize n / 256 ^ e = x
  omega
theorem put_first {m : Int} (h0 : 0 ≤ m) {k mk : Nat} (hk : pSize m.toNat = k) (hm : mark k = mk) (h1 : 0 < k) : ∃ b, (pPut m.toNat)[0]? = some b ∧ Value.int .u8 ((m / 2 ^ (8 * (k - 1)) + (mk : Int)) % 256) = vb b := by
  refine ⟨_, pPut_get hk h1, ?_⟩
  rw [vb_of, shr_byte h0, if_pos rfl, hm]
  rfl
theorem put_later {m : Int} (h0 : 0 ≤ m) {k j : Nat} (hk : pSize m.toNat = k) (hj : j < k) (h1 : j ≠ 0) : ∃ b, (pPut m.toNat)[j]? = some b ∧ Value.int .u8 (m / 2 ^ (8 * (k - 1 - j)) % 256) = vb b := by
  refine ⟨_, pPut_get hk hj, ?_⟩
  rw [vb_of, if_neg h1]
  have h := shr_byte h0 (k - 1 - j) 0
  rw [show ((0 : Nat) : Int) = 0 from rfl, Int.add_zero] at h
  rw [h]
theorem put_round {w : World} {base N c : Nat} {E : TypeId} {A : Option Addr} {l p : List UInt8} {j : Nat} {x : Int} (h : Own w base E 1 A N c (vbs (l ++ p.take j) ++ [.int .u8 x])) (hb : ∃ b, p[j]? = some b ∧ Value.int .u8 x = vb b) :
    Own w base E 1 A N c (vbs (l ++ p.take (j + 1))) := by
  obtain ⟨b, h1, h2⟩ := hb
  rw [take_next h1, ← List.append_assoc, vbs_append]
  rw [h2] at h
  exact h
set_option maxHeartbeats 800000 in
theorem rput_any (A : Option Addr) (n c : Nat) (m : Int) (l : List UInt8) (B : Nat) (w : World) (hr : Rd w B 1 A n (vbs l)) (hB : B ≤ w.heap.size) (h0 : 0 ≤ m) (h1 : m ≤ 18446744073709551615) (hn : n + 8 ≤ 140737488355328) :
    Calls Tryz.prog 48 #[.slice A n c, .int .u64 m] w fun e w' =>
      ∃ A' c', e = .returned (.tuple #[.slice A' (n + pSize m.toNat) c', .int .i64 (pErr m.toNat)]) ∧ Own w' w.heap.size 5 1 A' (n + pSize m.toNat) c' (vbs (l ++ pPut m.toNat)) ∧ Turn w w' none := by
  have hw0 : Own (w.alloc (.cells #[] 5)) w.heap.size 5 1 (some ⟨w.heap.size, 0, none⟩) 0 0 [] := Own.made w _ _ 1 0 #[] (Nat.le_refl _) (by decide) rfl
  have hr1 := hr.alloc hB (.cells #[] 5)
  by_cases hz : pSize m.toNat = 0
  · have H := hid hz
    clear hz
    go_enter Tryz.func48, Tryz.ntmps48
    go_wp2_with (first
      | (go_at_call 78; refine (rsize_any _ _ (by omega) (by omega)).mono ?_; rintro e w' ⟨rfl, rfl⟩; rw [H.out])
      | (at_builtin; refine wp_app rfl _ _ _ rfl elB rfl rfl hw0 hr1 (vbs_one l) (by unfold maxLen; first | omega | (simp; done) | (simp; omega)) (by first | omega | (simp; done) | (simp; omega)) (by first | omega | (simp; done) | (simp; omega)) ?_; intro A1 c1 w1 hown ht hb))
    go_ret2
    refine ⟨A1, c1, ?_, ?_, (Turn.alloc (Turn.refl w none) _).new ht (fun g hg => by simp [blk] at hg; omega)⟩
    · rw [pErr, H.out]; simp
    · rw [H.out, pPut_none H.out, List.append_nil]; simpa using hown
  · have hn0 : n + 0 = n := rfl
    rcases size_cases m h0 with ⟨h2, h⟩ | ⟨h2, h3, h⟩ | ⟨h2, h3, h⟩ | ⟨h2, h3, h⟩ | ⟨h2, h⟩
    case inr.inr.inr.inr => omega
    all_goals
      have H := hid h
      have hpl := hid (pPut_len m.toNat)
      clear hz h hn0
      go_enter Tryz.func48, Tryz.ntmps48
      go_wp2_with (first
        | (go_at_call 78; refine (rsize_any _ _ (by omega) (by omega)).mono ?_; rintro e w' ⟨rfl, rfl⟩; rw [H.out])
        | (at_builtin; refine wp_app rfl _ _ _ rfl elB rfl rfl hw0 hr1 (vbs_one l) (by unfold maxLen; first | omega | (simp; done) | (simp; omega)) (by first | omega | (simp; done) | (simp; omega)) (by first | omega | (simp; done) | (simp; omega)) ?_; intro A1 c1 w1 hown ht hb))
      have ht1 : Turn w w1 none := (Turn.alloc (Turn.refl w none) _).new ht (fun g hg => by simp [blk] at hg; omega)
      go_loopw [6, 9] (fun v i wr => ∃ (j : Nat) (A2 : Option Addr) (c2 : Nat), j ≤ pSize m.toNat ∧ i = .int .i64 ((pSize m.toNat : Int) - 1 - j) ∧ v = .slice A2 (n + j) c2 ∧
          Own wr w.heap.size 5 1 A2 (n + j) c2 (vbs (l ++ (pPut m.toNat).take j)) ∧ Turn w wr none) (fun _ i _ => (intOf i + 1).toNat)
      case atStart => exact ⟨0, A1, c1, by omega, by rw [H.out]; rfl, by simp, by simpa using hown, ht1⟩
      case round =>
        obtain ⟨j, A2, c2, hj, rfl, rfl, ho, htr⟩ := hrel
        have hz := htr.size
        rw [H.out] at hj
        rw [H.out]
        clear hown ht ht1 hb
        go_wp2_with (at_builtin; refine wp_app rfl _ _ _ rfl elB rfl rfl (ho.alloc _) (Rd.lit _ _ _) (by repeat (first | exact ones_nil | refine ones_cons rfl ?_)) (by unfold maxLen; first | omega | (simp; done) | (simp; omega)) (by first | omega | (simp; done) | (simp; omega)) (by first | omega | (simp; done) | (simp; omega)) ?_; intro A3 c3 w3 ho3 ht3 hb3)
        all_goals first
          | (go_ret2
             have hj2 : j = pSize m.toNat := by rw [H.out]; omega
             refine ⟨A2, c2, by rw [pErr, H.out, hj2, H.out]; rfl, ?_, htr⟩
             rw [hj2, List.take_of_length_le (by rw [hpl.out]; exact Nat.le_refl _)] at ho
             exact ho)
          | (go_roundw
             case measure => simp [intOf]; omega
             case rel =>
               have hG3 : Turn w w3 none := (htr.alloc _).new ht3 (fun g hg => (ho.block g hg).1)
               (try simp only [beq_iff_eq, beq_eq_false_iff_ne, ne_eq] at *)
               refine ⟨j + 1, A3, c3, by omega, by go_num, by first | rfl | (congr 1; omega), put_round ho3 ?_, hG3⟩
               first
               | (obtain rfl : j = 0 := by omega
                  first
                  | exact put_first h0 H.out rfl (by omega)
                  | (have h5 := put_first h0 H.out (mk := 0) rfl (by omega)
                     have h6 : (m / 2 ^ (8 * (1 - 1)) + ((0 : Nat) : Int)) % 256 = m := by simp; omega
                     rw [h6] at h5
                     exact h5))
               | exact put_later h0 H.out (by omega) (by omega))
def pText (s : List UInt8) : List UInt8 := pPut s.length ++ s
theorem pText_len (s : List UInt8) : (pText s).length = pSize s.length + s.length := by rw [pText, List.length_append, pPut_len]
theorem infoB : (Tryz.prog.info? 5).map (fun i => (i.zero, i.size, i.bytes)) = some (some (.int .u8 0), 1, 1) := by kernel_rfl
set_option maxHeartbeats 400000 in
theorem putText_any (A : Option Addr) (n c : Nat) (s : ByteArray) (l : List UInt8) (base : Nat) (w : World) (hown : Own w base 5 1 A n c (vbs l)) (hn : n + 8 + s.size ≤ 140737488355328) (hb : base ≤ w.heap.size) :
    Calls Tryz.prog 77 #[.slice A n c, .string s] w fun e w' =>
      ∃ A' c', e = .returned (.slice A' (n + pSize s.size + s.size) c') ∧ Own w' base 5 1 A' (n + pSize s.size + s.size) c' (vbs (l ++ pText s.data.toList)) ∧ Grow w w' A A' := by
  have hk := pSize_le s.size
  have hs2 : (s.size : Int) ≤ 140737488355328 := by omega
  go_enter Tryz.func77, Tryz.ntmps77
  go_wp2_with (first
    | (go_at_call 75; refine (putNumber_any _ _ _ _ l _ _ hown (by omega) (by omega) (by omega) hb).mono ?_; rintro e w1 ⟨A1, c1, rfl, ho1, hG1⟩; rw [Int.toNat_natCast]; rw [Int.toNat_natCast] at ho1; have hz := hG1.1.size)
    | (at_builtin; refine wp_apps rfl _ _ _ _ rfl Tryz.underlying55 Tryz.underlying9 infoB rfl rfl ho1 (by unfold maxLen; first | omega | (simp; done) | (simp; omega)) (by first | omega | (simp; done) | (simp; omega)) (by first | omega | (simp; done) | (simp; omega)) ?_; intro A2 c2 w2 ho2 ht2 hb2))
  go_ret
  refine ⟨A2, c2, rfl, ?_, hG1.step ht2 hb2⟩
  rw [← vbs_append, List.append_assoc] at ho2
  have e : pText s.data.toList = pPut s.size ++ s.data.toList := by unfold pText; rw [Array.length_toList]; rfl
  rw [e]
  exact ho2
theorem pText_eq (s : ByteArray) : pText s.data.toList = pPut s.size ++ s.data.toList := by unfold pText; rw [Array.length_toList]; rfl
set_option maxHeartbeats 400000 in
theorem rtext_any (A : Option Addr) (n c : Nat) (s : ByteArray) (l : List UInt8) (B : Nat) (w : World) (hr : Rd w B 1 A n (vbs l)) (hB : B ≤ w.heap.size) (hn : n + 8 + s.size ≤ 140737488355328) :
    Calls Tryz.prog 49 #[.slice A n c, .string s] w fun e w' =>
      ∃ A' c', e = .returned (.slice A' (n + pSize s.size + s.size) c') ∧ Own w' w.heap.size 5 1 A' (n + pSize s.size + s.size) c' (vbs (l ++ pText s.data.toList)) ∧ Turn w w' none := by
  have hs2 : (s.size : Int) ≤ 140737488355328 := by omega
  have hk := pSize_le s.size
  go_enter Tryz.func49, Tryz.ntmps49
  go_wp2_with (first
    | (go_at_call 48; refine (rput_any _ _ _ _ l B _ hr hB (by omega) (by omega) (by omega)).mono ?_; rintro e w1 ⟨A1, c1, rfl, ho1, ht1⟩; rw [Int.toNat_natCast]; rw [Int.toNat_natCast] at ho1)
    | (at_builtin; refine wp_apps rfl _ _ _ _ rfl Tryz.underlying55 Tryz.underlying9 infoB rfl rfl ho1 (by unfold maxLen; first | omega | (simp; done) | (simp; omega)) (by first | omega | (simp; done) | (simp; omega)) ht1.size ?_; intro A2 c2 w2 ho2 ht2 hb2))
  go_ret
  refine ⟨A2, c2, rfl, ?_, ht1.new ht2 fun g hg => (ho1.block g hg).1⟩
  rw [← vbs_append, List.append_assoc] at ho2
  rw [pText_eq]
  exact ho2
/-- The cells of texts. -/
def tvs (ss : List ByteArray) : List Value := ss.map Value.string
theorem tvs_len (ss : List ByteArray) : (tvs ss).length = ss.length := by simp [tvs]
theorem tvs_one (ss : List ByteArray) : ∀ u ∈ tvs ss, u.oneCell' = true := by
  intro u hu
  obtain ⟨b, _, rfl⟩ := List.mem_map.1 hu
  rfl
theorem tvs_get {ss : List ByteArray} {k : Nat} {s : ByteArray} (h : ss[k]? = some s) : (tvs ss)[k]? = some (.string s) := by simp [tvs, h]
/-- The first i texts' bytes. -/
def textsTo (ss : List ByteArray) (i : Nat) : List UInt8 := ((ss.take i).map fun s => pText s.data.toList).flatten
def pTexts (ss : List ByteArray) : List UInt8 := pPut ss.length ++ textsTo ss ss.length
theorem textsTo_zero (ss : List ByteArray) : textsTo ss 0 = [] := by simp [textsTo]
theorem textsTo_succ {ss : List ByteArray} {i : Nat} {s : ByteArray} (h : ss[i]? = some s) : textsTo ss (i + 1) = textsTo ss i ++ pText s.data.toList := by
  unfold textsTo
  rw [List.take_add_one, h]
  simp
theorem pText_lenB (s : ByteArray) : (pText s.data.toList).length = pSize s.size + s.size := by
  rw [pText_eq, List.length_append, pPut_len, Array.length_toList]
  rfl
/-- How many bytes the texts have together. -/
def sumSz (ss : List ByteArray) : Nat := (ss.map (·.size)).sum
theorem sumSz_take {ss : List ByteArray} {i : Nat} {s : ByteArray} (h : ss[i]? = some s) : sumSz (ss.take (i + 1)) = sumSz (ss.take i) + s.size := by
  unfold sumSz
  rw [List.take_add_one, h]
  simp
theorem sumSz_le (ss : List ByteArray) (i : Nat) : sumSz (ss.take i) ≤ sumSz ss := by
  unfold sumSz
  conv => rhs; rw [← List.take_append_drop i ss, List.map_append, List.sum_append]
  omega
theorem sumSz_at {ss : List ByteArray} {i : Nat} {s : ByteArray} (h : ss[i]? = some s) : sumSz (ss.take i) + s.size ≤ sumSz ss := by
  have := sumSz_le ss (i + 1)
  rw [sumSz_take h] at this
  exact this
theorem textsTo_len (ss : List ByteArray) (i : Nat) : (textsTo ss i).length ≤ 8 * i + sumSz (ss.take i) := by
  induction i with
  | zero => simp [textsTo]
  | succ i ih =>
    cases h : ss[i]? with
    | none =>
      have e : ss.take (i + 1) = ss.take i := by rw [List.take_add_one, h]; simp
      unfold textsTo at ih ⊢
      rw [e]
      omega
    | some s =>
      rw [textsTo_succ h, List.length_append, sumSz_take h, pText_lenB]
      have := pSize_le s.size
      omega
theorem elS : El Tryz.prog 53 9 1 16 := El.mk_ Tryz.underlying53 (z := .string ⟨#[]⟩) (by kernel_rfl) rfl (by decide)
set_option maxHeartbeats 400000 in
theorem putTexts_any (A : Option Addr) (n c : Nat) (T : Option Addr) (m d : Nat) (l : List UInt8) (ss : List ByteArray) (B : Nat) (w : World) (hr : Rd w B 1 A n (vbs l)) (ht : Rd w B 1 T m (tvs ss)) (hB : B ≤ w.heap.size)
    (hn : n ≤ 1048576) (hs : sumSz ss + m ≤ 1048576) :
    Calls Tryz.prog 47 #[.slice A n c, .slice T m d] w fun e w' =>
      ∃ A' N c', e = .returned (.slice A' N c') ∧ Own w' w.heap.size 5 1 A' N c' (vbs (l ++ pTexts ss)) ∧ Turn w w' none := by
  have hm := ht.len
  rw [tvs_len] at hm
  have HM := hid hm
  have hk := pSize_le ss.length
  have hl := hid hr.len
  clear hm
  go_enter Tryz.func47, Tryz.ntmps47
  go_wp2_with (first
    | (go_at_call 76; refine (fresh_any _ _ _ _ l B _ hr (by omega) (by omega) hB).mono ?_; rintro e w1 ⟨A1, c1, rfl, ho1, ht1⟩)
    | (go_at_call 75; refine (putNumber_any _ _ _ _ l _ _ ho1 (by omega) (by omega) (by omega) ht1.size).mono ?_; rintro e w2 ⟨A2, c2, rfl, ho2, hG2⟩; have ht2 := hG2.fresh ht1 fun g hg => (ho1.block g hg).1))
  rw [Int.toNat_natCast] at ho2
  go_loopw [5, 16] (fun v i wr => ∃ (j : Nat) (A3 : Option Addr) (N c3 : Nat), j ≤ m ∧ i = .int .i64 j ∧ v = .slice A3 N c3 ∧
      Own wr w.heap.size 5 1 A3 N c3 (vbs (l ++ (pPut ss.length ++ textsTo ss j))) ∧ Turn w wr none) (fun _ i _ => m - (intOf i).toNat)
  case atStart => exact ⟨0, A2, _, c2, Nat.zero_le _, rfl, rfl, by rw [textsTo_zero, List.append_nil, HM.out]; exact ho2, ht2⟩
  case round =>
    obtain ⟨j, A3, N, c3, hj, rfl, rfl, ho3, ht3⟩ := hrel
    have hm47 : (m : Int) ≤ 1048576 := by omega
    by_cases hlt : j < m
    · obtain ⟨s, hsj⟩ : ∃ s, ss[j]? = some s := ⟨ss[j]'(by rw [HM.out]; exact hlt), List.getElem?_eq_getElem _⟩
      obtain ⟨b0, off, rfl, _, hcells⟩ := (ht.turn0 ht3 hB).head (by omega)
      have hc := hcells j _ (tvs_get hsj)
      have hNl := ho3.len
      have h1 := textsTo_len ss j
      have h2 := sumSz_at hsj
      have hN : N + 8 + s.size ≤ 140737488355328 := by
        rw [vbs_len, List.length_append, List.length_append, pPut_len] at hNl
        have := hl.out
        rw [vbs_len] at this
        omega
      have HSJ := hid hsj
      clear hcells hsj hNl h1 h2 ho1 ho2 hG2 ht1 ht2
      go_wp2_with (go_at_call 77; refine (putText_any _ _ _ _ _ _ _ ho3 (by omega) ht3.size).mono ?_; rintro e w4 ⟨A4, c4, rfl, ho4, hG4⟩)
      go_roundw
      case measure => simp [intOf]; omega
      case rel => exact ⟨j + 1, A4, _, c4, by omega, by go_num, rfl, by rw [textsTo_succ HSJ.out, ← List.append_assoc (pPut ss.length), ← List.append_assoc]; exact ho4, hG4.fresh ht3 fun g hg => (ho3.block g hg).1⟩
    · have hjm : j = m := by omega
      have e : textsTo ss j = textsTo ss ss.length := by rw [hjm, HM.out]
      have E := hid e
      clear e hjm ho1 ho2 hG2 ht1 ht2
      go_wp2
      go_ret
      exact ⟨A3, N, c3, rfl, by rw [E.out] at ho3; exact ho3, ht3⟩
set_option maxHeartbeats 400000 in
theorem rtexts_any (A : Option Addr) (n c : Nat) (T : Option Addr) (m d : Nat) (l : List UInt8) (ss : List ByteArray) (B : Nat) (w : World) (hr : Rd w B 1 A n (vbs l)) (ht : Rd w B 1 T m (tvs ss)) (hB : B ≤ w.heap.size)
    (hn : n ≤ 1048576) (hs : sumSz ss + m ≤ 1048576) :
    Calls Tryz.prog 30 #[.slice A n c, .slice T m d] w fun e w' =>
      ∃ A' N c', e = .returned (.slice A' N c') ∧ Own w' w.heap.size 5 1 A' N c' (vbs (l ++ pTexts ss)) ∧ Turn w w' none := by
  have hm := ht.len
  rw [tvs_len] at hm
  have HM := hid hm
  have hk := pSize_le ss.length
  have hl := hid hr.len
  clear hm
  go_enter Tryz.func30, Tryz.ntmps30
  go_wp2_with (go_at_call 48; refine (rput_any _ _ _ _ l B _ hr hB (by omega) (by omega) (by omega)).mono ?_; rintro e w2 ⟨A2, c2, rfl, ho2, ht2⟩)
  rw [Int.toNat_natCast] at ho2
  go_loopw [5, 7] (fun v i wr => ∃ (j : Nat) (A3 : Option Addr) (N c3 : Nat), j ≤ m ∧ i = .int .i64 j ∧ v = .slice A3 N c3 ∧
      Own wr w.heap.size 5 1 A3 N c3 (vbs (l ++ (pPut ss.length ++ textsTo ss j))) ∧ Turn w wr none) (fun _ i _ => m - (intOf i).toNat)
  case atStart => exact ⟨0, A2, _, c2, Nat.zero_le _, rfl, rfl, by rw [textsTo_zero, List.append_nil, HM.out]; exact ho2, ht2⟩
  case round =>
    obtain ⟨j, A3, N, c3, hj, rfl, rfl, ho3, ht3⟩ := hrel
    have hm47 : (m : Int) ≤ 1048576 := by omega
    by_cases hlt : j < m
    · obtain ⟨s, hsj⟩ : ∃ s, ss[j]? = some s := ⟨ss[j]'(by rw [HM.out]; exact hlt), List.getElem?_eq_getElem _⟩
      obtain ⟨b0, off, rfl, _, hcells⟩ := (ht.turn0 ht3 hB).head (by omega)
      have hc := hcells j _ (tvs_get hsj)
      have hNl := ho3.len
      have h1 := textsTo_len ss j
      have h2 := sumSz_at hsj
      have hN : N + 8 + s.size ≤ 140737488355328 := by
        rw [vbs_len, List.length_append, List.length_append, pPut_len] at hNl
        have := hl.out
        rw [vbs_len] at this
        omega
      have HSJ := hid hsj
      clear hcells hsj hNl h1 h2 ho2 ht2
      go_wp2_with (go_at_call 49; refine (rtext_any _ _ _ _ _ _ _ ho3.rd (Nat.le_refl _) (by omega)).mono ?_; rintro e w4 ⟨A4, c4, rfl, ho4, ht4⟩)
      go_roundw
      case measure => simp [intOf]; omega
      case rel => exact ⟨j + 1, A4, _, c4, by omega, by go_num, rfl, by rw [textsTo_succ HSJ.out, ← List.append_assoc (pPut ss.length), ← List.append_assoc]; exact ho4.mono ht3.size, ht3.trans ht4⟩
    · have hjm : j = m := by omega
      have e : textsTo ss j = textsTo ss ss.length := by rw [hjm, HM.out]
      have E := hid e
      clear e hjm ho2 ht2
      go_wp2
      go_ret
      exact ⟨A3, N, c3, rfl, by rw [E.out] at ho3; exact ho3, ht3⟩
end Go.Proofs.YtjjdhdieihmnnaaGreatDoor.Pf
/-
  Layer 3: two hashes that are the same compare so.
-/
namespace Go.Proofs.YtjjdhdieihmnnaaGreatDoor.Sha
open Go.RowKit

theorem part_byte {cs : Array Value} {j : Nat} {v : Value} (hv : cs[j]? = some v) (w : World) : (part 5 cs j).run Tryz.prog w = .ok v w := by
  have hag : (isAgg 5).run Tryz.prog w = .ok false w := by
    unfold isAgg
    rw [Sem.run_bind, run_underlying Tryz.underlying5 w]
    rfl
  simp [part, hag, hv]
theorem eqItems_same (l : List UInt8) (w : World) : ∀ is : List Nat, (∀ i ∈ is, i < l.length) → (Op.eqItems 9999 5 1 (vbs l).toArray (vbs l).toArray is).run Tryz.prog w = .ok true w
  | [], _ => by simp [Op.eqItems]
  | i :: is, h => by
    have hi := h i (by simp)
    have hv : (vbs l).toArray[i * 1]? = some (.int .u8 ((l[i]'hi).toNat : Int)) := by
      rw [Nat.mul_one, List.getElem?_toArray, vbs, List.getElem?_map, List.getElem?_eq_getElem hi]
      rfl
    have ih := eqItems_same l w is (fun j hj => h j (by simp [hj]))
    simp only [Op.eqItems, Sem.run_bind, part_byte hv, Result.andThen_ok, run_equalIn_int w 9998 5 .u8 .u8 _ _ Tryz.underlying5, beq_self_eq_true, Bool.not_true, Bool.false_eq_true, if_false]
    exact ih
theorem eq32 (l : List UInt8) (h : l.length = 32) (w : World) : (Op.equalIn 10000 41 (.agg (vbs l).toArray) (.agg (vbs l).toArray)).run Tryz.prog w = .ok true w := by
  obtain ⟨i, hi⟩ : ∃ i, Tryz.prog.info? 5 = some i := by
    obtain ⟨_, i, z, hi, _⟩ := elB
    exact ⟨i, hi⟩
  rw [run_equalIn_array w 9999 _ _ Tryz.underlying41 hi]
  have hc : Tryz.prog.cellsOf 5 = 1 := by kernel_rfl
  rw [hc]
  exact eqItems_same l w _ (fun j hj => by rw [h]; simpa using hj)

end Go.Proofs.YtjjdhdieihmnnaaGreatDoor.Sha
/-
  Layer 3: the document's own numbers, and its hash (contracts).
-/
namespace Go.Proofs.YtjjdhdieihmnnaaGreatDoor.Sha
open Go.RowKit

set_option maxRecDepth 100000 in
set_option maxHeartbeats 1600000 in
theorem rwords_any (w : World) : Calls Tryz.prog 72 #[] w fun e w' => ∃ g, e = .returned (.slice (some ⟨g, 0, none⟩) 8 8) ∧ w.heap.size ≤ g ∧ Blk w' g 117 (cvs sStart.list).toArray ∧ Turn w w' none := by
  go_enter Tryz.func72, Tryz.ntmps72
  go_wp2_with fail
  go_ret
  exact ⟨_, rfl, Nat.le_refl _, Blk.new w 117 (cvs sStart.list).toArray, (Turn.refl w none).alloc _⟩
set_option maxRecDepth 100000 in
set_option maxHeartbeats 1600000 in
theorem rroots_any (w : World) : Calls Tryz.prog 73 #[] w fun e w' => ∃ g, e = .returned (.slice (some ⟨g, 0, none⟩) 64 64) ∧ w.heap.size ≤ g ∧ Blk w' g 117 (cvs sKeys).toArray ∧ Turn w w' none := by
  go_enter Tryz.func73, Tryz.ntmps73
  go_wp2_with fail
  go_ret
  exact ⟨_, rfl, Nat.le_refl _, Blk.new w 117 (cvs sKeys).toArray, (Turn.refl w none).alloc _⟩
end Go.Proofs.YtjjdhdieihmnnaaGreatDoor.Sha
/-
  Layer 3: the loops of the document's hash, by name.
-/
namespace Go.Proofs.YtjjdhdieihmnnaaGreatDoor.Sha
open Go.RowKit

/-- the loops of a code that stand in no other loop -/
def loopsOf : Code → List Code
  | .seq a b => loopsOf a ++ loopsOf b
  | .cond _ a b => loopsOf a ++ loopsOf b
  | .block _ b => loopsOf b
  | .scope b => loopsOf b
  | .loop b => [.loop b]
  | _ => []

def inLoop : Code → Code
  | .loop b => b
  | c => c

/-- the hash's outer loops -/
noncomputable def sumL (k : Nat) : Code := ((Tryz.f41.body.map loopsOf).getD []).getD k .skip

/-- the loops of the hash's loop over the blocks -/
noncomputable def sumM (k : Nat) : Code := (loopsOf (inLoop (sumL 2))).getD k .skip

end Go.Proofs.YtjjdhdieihmnnaaGreatDoor.Sha
