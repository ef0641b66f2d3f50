import Derived.Test.YtgigiecdpjchkaaGreatDoorR17
import Derived.Test.YtgigiecdpjchkaaGreatDoorR1
import Derived.Test.YtgigiecdpjchkaaGreatDoorR11
import Derived.Test.YtgigiecdpjchkaaGreatDoorR10
import Derived.Laws.BytesArg
set_option linter.unusedSimpArgs false
set_option linter.unusedVariables false
set_option linter.unusedSectionVars false
set_option maxRecDepth 100000
set_option maxHeartbeats 6400000
namespace Go.Proofs.YtgigiecdpjchkaaGreatDoor
theorem dItems_ok {rec : Wtr} {recD : DRec} (hr : DrOk rec recD) {l : List Nat} {nx : Nat} {out : List TT} {nx' : Nat} {t : List UInt8} (h : wItems rec l nx = some (out, nx')) (hl : (t ++ lText out).length ≤ 4096) :
  dItG recD true (l.map Int.ofNat) ⟨t, nx, false⟩ = ⟨t ++ lText out, nx', false⟩ := by
 cases l with
 | nil =>
  unfold wItems at h
  injection h with h
  injection h with h1 h2
  subst h1; subst h2
  rw [List.map_nil, dItG]; simp [lText]
 | cons y ys =>
  have := dItG_ok hr ys y nx true out nx' t h (by simpa using hl)
  simpa using this
theorem dSyms_ok {l : List (List UInt8)} {t : List UInt8} (hk : ∀ s ∈ l, WBr s) (hl : (t ++ lText (wSymsT l)).length ≤ 4096) : dSymG true l t = t ++ lText (wSymsT l) := by
 cases l with
 | nil => rw [dSymG]; simp [wSymsT, lText]
 | cons y ys =>
  have := dSymG_ok ys y true t hk (by simpa using hl)
  simpa using this
theorem dBegin_leaf {rec : DRec} {x : Gn} {t : List UInt8} {nx : Nat} (h0 : ¬(x.k < 0 ∨ 11 < x.k)) (h1 : ¬(5 < x.k ∧ x.k < 9)) (h2 : ¬x.k = 11) : dBegin rec x ⟨t, nx, false⟩ = ⟨dHead x t ++ dShut x.k.toNat, nx, false⟩ := by
 unfold dBegin
 rw [if_neg h0]
 simp only [if_neg h1, if_neg h2]
theorem dBegin_items {rec : DRec} {x : Gn} {t : List UInt8} {nx : Nat} (h1 : 5 < x.k ∧ x.k < 9) : dBegin rec x ⟨t, nx, false⟩ = { dItG rec true x.items ⟨dHead x t, nx, false⟩ with S := (dItG rec true x.items ⟨dHead x t, nx, false⟩).S ++ dShut x.k.toNat } := by
 unfold dBegin
 rw [if_neg (by omega)]
 simp only [if_pos h1, if_neg (show ¬x.k = 11 by omega)]
theorem dBegin_rec {rec : DRec} {x : Gn} {t : List UInt8} {nx : Nat} (h1 : x.k = 11) : dBegin rec x ⟨t, nx, false⟩ = { dFlG rec x.fields ⟨dHead x t ++ [123], nx, false⟩ with S := (dFlG rec x.fields ⟨dHead x t ++ [123], nx, false⟩).S ++ dShut x.k.toNat } := by
 unfold dBegin
 rw [if_neg (by omega)]
 simp only [if_neg (show ¬(5 < x.k ∧ x.k < 9) by omega), if_pos h1]
theorem dTyp_ok {M : List Nd} (hM : ABr M) : ∀ (f deep : Nat), deep + f ≤ 20 → DrOk (wTok M f) (dTyp (M.map Nd.g) f deep)
 | 0, _, _, _, _, _, _, _, h, _ => by rw [wTok] at h; cases h
 | f + 1, deep, hd, n, nx, out, nx', t, h, hl => by
  rw [wTok] at h
  cases hx : M[n]? with
  | none => rw [hx] at h; cases h
  | some x =>
   rw [hx] at h
   simp only at h
   have hn : n < M.length := (List.getElem?_eq_some_iff.1 hx).1
   obtain ⟨k1, k2, k3, k4⟩ := hM x (List.mem_of_getElem? hx)
   have IH := dTyp_ok hM f (deep + 1) (by omega)
   have hgx : (M.map Nd.g)[(n : Int).toNat]? = some x.g := by rw [Int.toNat_natCast, List.getElem?_map, hx]; rfl
   have htl : t.length ≤ 4096 := by rw [List.length_append] at hl; omega
   have off : n ≤ nx → dOff (M.map Nd.g) deep (n : Int) ⟨t, nx, false⟩ = false := fun hnx => by
    unfold dOff
    rw [List.length_map]
    simp only [Bool.or_eq_false_iff, decide_eq_false_iff_not]
    refine ⟨⟨⟨⟨⟨trivial, ?_⟩, ?_⟩, ?_⟩, ?_⟩, ?_⟩ <;> omega
   rw [dTyp]
   by_cases c1 : n < nx
   ·rw [if_pos c1] at h
    split at h
    ·rename_i h9
     injection h with h
     injection h with h1 h2
     subst h1; subst h2
     rw [off (by omega), if_neg (by decide), hgx]
     simp only
     rw [if_pos (by omega)]
     have et : lText [(0, x.name)] = x.name := by simp [lText, lt1_plain k1.2]
     rw [et]
     show (⟨t ++ x.name, nx, decide ((x.k : Int) < 9)⟩ : DW) = _
     rw [decide_eq_false (by omega)]
    ·cases h
   rw [if_neg c1] at h
   by_cases c2 : n ≠ nx
   ·rw [if_pos c2] at h; cases h
   rw [if_neg c2] at h
   have c3 : n = nx := by omega
   rw [off (by omega), if_neg (by decide), hgx]
   simp only
   rw [if_neg (by omega)]
   have hkk : x.g.k = (x.k : Int) := rfl
   show dBegin _ x.g ⟨t, nx + 1, false⟩ = _
   by_cases b6 : x.k < 6
   ·rw [if_pos b6] at h
    injection h with h
    injection h with h1 h2
    subst h1; subst h2
    have et : lText [(0, kwText x.k)] = kwText x.k := by simp [lText, lt1_plain (kw_not b6)]
    rw [et, dBegin_leaf (by omega) (by omega) (by omega)]
    have e1 : dHead x.g t = t ++ kwText x.k := by
     unfold dHead
     rw [hkk]
     simp only [Int.toNat_natCast]
     rw [if_neg (show ¬(x.k : Int) = 9 by omega), if_neg (show ¬(x.k : Int) = 10 by omega), if_neg (show ¬(9 : Int) ≤ (x.k : Int) by omega)]
     unfold dOpen
     rw [if_neg (by omega)]
    have e2 : dShut x.g.k.toNat = [] := by
     rw [hkk, Int.toNat_natCast]
     unfold dShut
     rw [if_neg (by omega), if_neg (by omega), if_neg (by omega), if_neg (by omega), if_neg (by omega)]
    rw [e1, e2, List.append_nil]
   rw [if_neg b6] at h
   by_cases e6 : x.k = 6
   ·rw [if_pos e6] at h
    obtain ⟨o', h1, rfl⟩ := map_some h
    simp only at hl ⊢
    rw [lT_cons, lt1_two, lText_app, lT_cons, lt1_two] at hl ⊢
    have hl' := hl
    simp only [List.length_append, lText, List.length_nil] at hl'
    have hk6 : x.g.k = 6 := by rw [hkk]; omega
    have h2 := dItems_ok IH (t := t ++ [91]) h1 (by simp only [List.length_append]; omega)
    rw [dBegin_items (by omega)]
    have e1 : dHead x.g t = t ++ [91] := by
     unfold dHead
     rw [hk6]
     rfl
    rw [e1]
    show (⟨(dItG _ true (x.items.map Int.ofNat) _).S ++ _, (dItG _ true (x.items.map Int.ofNat) _).nx, (dItG _ true (x.items.map Int.ofNat) _).bad⟩ : DW) = _
    rw [h2, hk6]
    show (⟨_ ++ [93], nx', false⟩ : DW) = _
    simp [lText, List.append_assoc]
   rw [if_neg e6] at h
   by_cases e7 : x.k = 7
   ·rw [if_pos e7] at h
    obtain ⟨o', h1, rfl⟩ := map_some h
    simp only at hl ⊢
    rw [lT_cons, lt1_two, lText_app, lT_cons, lt1_two] at hl ⊢
    have hl' := hl
    simp only [List.length_append, lText, List.length_nil] at hl'
    have hk7 : x.g.k = 7 := by rw [hkk]; omega
    have h2 := dItems_ok IH (t := t ++ [123]) h1 (by simp only [List.length_append]; omega)
    rw [dBegin_items (by omega)]
    have e1 : dHead x.g t = t ++ [123] := by
     unfold dHead
     rw [hk7]
     rfl
    rw [e1]
    show (⟨(dItG _ true (x.items.map Int.ofNat) _).S ++ _, (dItG _ true (x.items.map Int.ofNat) _).nx, (dItG _ true (x.items.map Int.ofNat) _).bad⟩ : DW) = _
    rw [h2, hk7]
    show (⟨_ ++ [125], nx', false⟩ : DW) = _
    simp [lText, List.append_assoc]
   rw [if_neg e7] at h
   by_cases e8 : x.k = 8
   ·rw [if_pos e8] at h
    obtain ⟨o', h1, rfl⟩ := map_some h
    simp only at hl ⊢
    rw [lT_cons, lt1_two, lText_app, lT_cons, lt1_two] at hl ⊢
    have hl' := hl
    simp only [List.length_append, lText, List.length_nil] at hl'
    have hk8 : x.g.k = 8 := by rw [hkk]; omega
    have h2 := dItems_ok IH (t := t ++ [40]) h1 (by simp only [List.length_append]; omega)
    rw [dBegin_items (by omega)]
    have e1 : dHead x.g t = t ++ [40] := by
     unfold dHead
     rw [hk8]
     rfl
    rw [e1]
    show (⟨(dItG _ true (x.items.map Int.ofNat) _).S ++ _, (dItG _ true (x.items.map Int.ofNat) _).nx, (dItG _ true (x.items.map Int.ofNat) _).bad⟩ : DW) = _
    rw [h2, hk8]
    show (⟨_ ++ [41], nx', false⟩ : DW) = _
    simp [lText, List.append_assoc]
   rw [if_neg e8] at h
   by_cases e9 : x.k = 9
   ·rw [if_pos e9] at h
    injection h with h
    injection h with h1 h2
    subst h1; subst h2
    rw [lT_cons, lt1_kw (by decide), lT_cons, lt1_plain k1.2, lT_cons, lt1_two, lText_app, lT_cons, lt1_two] at hl ⊢
    have hl' := hl
    simp only [List.length_append, lText, List.length_nil] at hl'
    have hk9 : x.g.k = 9 := by rw [hkk]; omega
    rw [dBegin_leaf (by omega) (by omega) (by omega)]
    have e1 : dHead x.g t = t ++ (kwText 9 ++ [32]) ++ x.name ++ [60] ++ lText (wSymsT x.syms) := by
     unfold dHead
     rw [hk9]
     show dSymG true x.syms (t ++ (kwText 9 ++ [32]) ++ x.name ++ [60]) = _
     exact dSyms_ok k2 (by simp only [List.length_append, List.length_cons, List.length_nil] at hl' ⊢; omega)
    rw [e1, hk9]
    show (⟨_ ++ [62], nx + 1, false⟩ : DW) = _
    simp [lText, List.append_assoc]
   rw [if_neg e9] at h
   by_cases e10 : x.k = 10
   ·rw [if_pos e10] at h
    injection h with h
    injection h with h1 h2
    subst h1; subst h2
    have hk10 : x.g.k = 10 := by rw [hkk]; omega
    rw [lT_cons, lt1_kw (by decide), lT_cons, lt1_plain k1.2, lT_cons, lt1_num]
    rw [dBegin_leaf (by omega) (by omega) (by omega)]
    have ed : dDig x.g.size = digs 5 x.size := by
     show dDig (x.size : Int) = _
     unfold dDig
     rw [if_neg (by omega), Int.toNat_natCast]
    have e1 : dHead x.g t = t ++ (kwText 10 ++ [32]) ++ x.name ++ [32] ++ digs 5 x.size := by
     unfold dHead
     rw [hk10, ed]
     rfl
    rw [e1, hk10]
    show (⟨_ ++ [], nx + 1, false⟩ : DW) = _
    simp [lText, List.append_assoc]
   rw [if_neg e10] at h
   by_cases e11 : x.k = 11
   ·rw [if_pos e11] at h
    obtain ⟨o', h1, rfl⟩ := map_some h
    simp only at hl ⊢
    rw [lT_cons, lt1_kw (by decide), lT_cons, lt1_plain k1.2, lT_cons, lt1_two, lText_app, lT_cons, lt1_two] at hl ⊢
    have hl' := hl
    simp only [List.length_append, lText, List.length_nil] at hl'
    have hk11 : x.g.k = 11 := by rw [hkk]; omega
    have h2 := dFlG_ok IH x.fields (nx + 1) o' nx' (t ++ (kwText 11 ++ [32]) ++ x.name ++ [123]) k3 h1 (by simp only [List.length_append, List.length_cons, List.length_nil] at hl' ⊢; omega)
    rw [dBegin_rec hk11]
    have e1 : dHead x.g t = t ++ (kwText 11 ++ [32]) ++ x.name := by
     unfold dHead
     rw [hk11]
     rfl
    rw [e1]
    show (⟨(dFlG _ (x.fields.map Fl.g) _).S ++ _, (dFlG _ (x.fields.map Fl.g) _).nx, (dFlG _ (x.fields.map Fl.g) _).bad⟩ : DW) = _
    rw [h2, hk11]
    show (⟨_ ++ [125], nx', false⟩ : DW) = _
    simp [lText, List.append_assoc]
   rw [if_neg e11] at h
   cases h
def dTop (gs : List Gn) : DW := dTyp gs 20 0 0 ⟨[], 0, false⟩
def dShow (gs : List Gn) : Option (List UInt8) :=
 if (dTop gs).bad = true ∨ (dTop gs).nx ≠ gs.length then none
 else match eRead (dTop gs).S with
  | .ok N => if N.map Nd.g = gs then some (dTop gs).S else none
  | .error _ => none
theorem dTop_read {l : List UInt8} {N : List Nd} (h : eRead l = .ok N) : ∃ t dp, dTop (N.map Nd.g) = ⟨t, N.length, false⟩ ∧ cTop (N.map Nd.g) = some (t, N.length, dp) ∧ eRead t = .ok N ∧ t.length ≤ l.length := by
 have hN := read_few h
 have hp := (eRead_is l N).1 h
 obtain ⟨out, h1, _, h3, h4⟩ := pRead_text hp
 obtain ⟨out2, g1, g2⟩ := read_wt hp
 obtain rfl : out2 = out := by
  rw [h1] at g2
  injection g2 with g2
  injection g2 with g2
  exact g2.symm
 have h5 := pRead_long hp
 rw [wTok_fuel N 2000 (N.length + 1) 0 0 (by omega) (by omega)] at h1
 obtain ⟨dp, h6⟩ := wTok_text (read_br h) (N.length + 1) 0 0 0 out2 N.length [] 0 h1 (by simpa using Nat.le_trans h4 h5)
 have h7 := dTyp_ok (read_br h) 20 0 (by omega) 0 0 out2 N.length [] g1 (by simpa using Nat.le_trans h4 h5)
 refine ⟨lText out2, dp, h7, ?_, (eRead_is _ _).2 h3, h4⟩
 unfold cTop
 rw [List.length_map]
 exact h6
theorem dShow_read {l : List UInt8} {N : List Nd} (h : eRead l = .ok N) : ∃ t dp, dShow (N.map Nd.g) = some t ∧ cShow (N.map Nd.g) = some (t, dp) ∧ eRead t = .ok N ∧ t.length ≤ l.length := by
 obtain ⟨t, dp, h1, h2, h3, h4⟩ := dTop_read h
 refine ⟨t, dp, ?_, ?_, h3, h4⟩
 ·unfold dShow
  rw [h1, if_neg (by simp)]
  simp only [h3, if_true]
 ·unfold cShow
  rw [h2]
  simp only [h3, if_true]
theorem dShow_eq (gs : List Gn) : dShow gs = (cShow gs).map Prod.fst := by
 cases hd : dShow gs with
 | some t =>
  unfold dShow at hd
  split at hd
  ·cases hd
  ·rename_i hb
   cases hr : eRead (dTop gs).S with
   | error e => rw [hr] at hd; cases hd
   | ok N =>
    rw [hr] at hd
    simp only at hd
    split at hd
    ·rename_i hg
     obtain ⟨t2, dp, h1, h2, _⟩ := dShow_read hr
     rw [hg] at h1 h2
     rw [h2]
     have : dShow gs = some t := by
      unfold dShow
      rw [if_neg hb, hr]
      simp only [hg, if_true]
      exact hd
     rw [this] at h1
     injection h1 with h1
     rw [h1]
     rfl
    ·cases hd
 | none =>
  cases hc : cShow gs with
  | none => rfl
  | some p =>
   obtain ⟨t, dp⟩ := p
   unfold cShow at hc
   split at hc
   ·cases hc
   ·rename_i st hst
    cases hr : eRead st.1 with
    | error e => rw [hr] at hc; cases hc
    | ok N =>
     rw [hr] at hc
     simp only at hc
     split at hc
     ·rename_i hg
      obtain ⟨t2, dp2, h1, _⟩ := dShow_read hr
      rw [hg, hd] at h1
      cases h1
     ·cases hc
open Go.RowKit
theorem txt_app2 (a b : List UInt8) : txt a ++ txt b = txt (a ++ b) := by
 apply ByteArray.ext
 rw [ByteArray.data_append]
 simp [txt]
theorem digs_few : ∀ f n, (digs f n).length ≤ f
 | 0, _ => by rw [digs]; simp
 | f + 1, n => by
  rw [digs]
  split
  ·simp
  ·rw [List.length_append]
   have := digs_few f (n / 10)
   simp only [List.length_singleton]
   omega
theorem rdig_one (n : Nat) (hn : n < 10) (w : World) : Calls Tryz.prog 72 #[.int .i64 (n : Int)] w fun e w' => e = .returned (.string (txt [UInt8.ofNat (48 + n)])) ∧ Turn w w' none := by
 have a1 : ¬((n : Int) < 0) := by omega
 have a2 : ¬((4096 : Int) < (n : Int)) := by omega
 have a3 : (n : Int) < 10 := by omega
 have w1 : IntKind.u8.wrap (n : Int) = (n : Int) := by simp [IntKind.wrap, IntKind.bits, IntKind.signed]; omega
 have w2 : IntKind.u8.wrap (48 + (n : Int)) = 48 + (n : Int) := by simp [IntKind.wrap, IntKind.bits, IntKind.signed]; omega
 obtain ⟨z, hz⟩ : ∃ z : Int, z = 48 + (n : Int) := ⟨_, rfl⟩
 have hcv : (convert 55 9 (.slice (some ⟨w.heap.size, 0, none⟩) 1 1)).run Tryz.prog (w.alloc (.cells #[Value.int .u8 z] 5)) = .ok (.string (txt [UInt8.ofNat (48 + n)])) (w.alloc (.cells #[Value.int .u8 z] 5)) := by
  have hb : Blk (w.alloc (.cells #[Value.int .u8 z] 5)) w.heap.size 5 #[Value.int .u8 z] := Blk.new w _ _
  have := run_convert_bytes_arg (P := Tryz.prog) (w.alloc (.cells #[Value.int .u8 z] 5)) 55 5 Tryz.underlying55 Tryz.underlying5 w.heap.size 0 1 1 [z] rfl (fun i hi => by
   obtain rfl : i = 0 := by omega
   exact hb.ats (j := 0) rfl) 9 Tryz.underlying9
  rw [this]
  congr 2
  unfold strOfNums txt
  simp only [List.map_cons, List.map_nil]
  rw [hz]
  congr 3
 have tW : Turn w (w.alloc (.cells #[Value.int .u8 z] 5)) none := (Turn.refl w none).alloc _
 rw [← hz] at w2
 have hz2 := hz.symm
 clear hz
 go_enter Tryz.func72, Tryz.ntmps72
 go_wp2
 go_ret
 exact ⟨rfl, tW⟩
theorem rdig_no (n : Int) (hn : n < 0 ∨ 4096 < n) (w : World) : Calls Tryz.prog 72 #[.int .i64 n] w fun e w' => e = .returned (.string (txt [120])) ∧ Turn w w' none := by
 by_cases h0 : n < 0
 ·clear hn
  go_enter Tryz.func72, Tryz.ntmps72
  go_wp2
  go_ret
  exact ⟨rfl, Turn.refl _ _⟩
 ·have h1 : (4096 : Int) < n := by omega
  clear hn
  go_enter Tryz.func72, Tryz.ntmps72
  go_wp2
  go_ret
  exact ⟨rfl, Turn.refl _ _⟩
theorem rdig_any : ∀ (f n : Nat), n < 10 ^ f → 0 < f → f ≤ 5 → n ≤ 4096 → ∀ w, Calls Tryz.prog 72 #[.int .i64 (n : Int)] w fun e w' => e = .returned (.string (txt (digs f n))) ∧ Turn w w' none
 | 0, _, _, h, _, _, _ => absurd h (Nat.lt_irrefl 0)
 | f + 1, n, hn, _, hf5, h4, w => by
  rw [digs]
  by_cases h10 : n < 10
  ·rw [if_pos h10]
   exact rdig_one n h10 w
  ·rw [if_neg h10]
   have hf : 0 < f := by
    cases f with
    | zero => simp at hn; omega
    | succ f => omega
   have d1 := rdig_any f (n / 10) (by rw [Nat.pow_succ] at hn; omega) hf (by omega) (by omega)
   have d2 := rdig_one (n % 10) (by omega)
   have HX := hid (show txt (digs f (n / 10)) ++ txt [UInt8.ofNat (48 + n % 10)] = txt (digs f (n / 10) ++ [UInt8.ofNat (48 + n % 10)]) from txt_app2 _ _)
   obtain ⟨X, hX⟩ : ∃ X, X = txt (digs f (n / 10)) := ⟨_, rfl⟩
   obtain ⟨Y, hY⟩ : ∃ Y, Y = txt [UInt8.ofNat (48 + n % 10)] := ⟨_, rfl⟩
   obtain ⟨Z, hZ⟩ : ∃ Z, Z = txt (digs f (n / 10) ++ [UInt8.ofNat (48 + n % 10)]) := ⟨_, rfl⟩
   have e1 : Int.tdiv (n : Int) 10 = ((n / 10 : Nat) : Int) := by rw [Int.tdiv_eq_ediv_of_nonneg (by omega)]; omega
   have e2 : Int.tmod (n : Int) 10 = ((n % 10 : Nat) : Int) := by rw [Int.tmod_eq_emod_of_nonneg (by omega)]; omega
   obtain ⟨q1, hq1⟩ : ∃ q, q = n / 10 := ⟨_, rfl⟩
   obtain ⟨q2, hq2⟩ : ∃ q, q = n % 10 := ⟨_, rfl⟩
   rw [← hX] at d1
   rw [← hY] at d2
   rw [← hX, ← hY, ← hZ] at HX
   rw [← hZ]
   rw [← hq1] at d1 e1
   rw [← hq2] at d2 e2
   have a1 : ¬((n : Int) < 0) := by omega
   have a2 : ¬((4096 : Int) < (n : Int)) := by omega
   have a3 : ¬((n : Int) < 10) := by omega
   have w1 : IntKind.i64.wrap (q1 : Int) = (q1 : Int) := by rw [IntKind.wrap_i64]; omega
   have w2 : IntKind.i64.wrap (q2 : Int) = (q2 : Int) := by rw [IntKind.wrap_i64]; omega
   have b1 : X.size ≤ 5 := by rw [hX, txt_size]; exact Nat.le_trans (digs_few _ _) (by omega)
   have b2 : Y.size = 1 := by rw [hY, txt_size]; rfl
   have b3 : ¬ 9223372036854775807 < X.size + Y.size := by omega
   have b4 : ¬ 9223372036854775807 < X.size + 1 := by omega
   clear hX hY hZ hq1 hq2 h10 hn
   go_enter Tryz.func72, Tryz.ntmps72
   go_wp2_with (first
    | (go_at_call 72; refine (d1 _).mono ?_; rintro e w1 ⟨rfl, t1⟩; clear d1)
    | (go_at_call 72; refine (d2 _).mono ?_; rintro e w2 ⟨rfl, t2⟩))
   go_ret
   exact ⟨by rw [← HX.out]; rfl, t1.trans t2⟩
theorem rdigits_any (n : Int) (w : World) : Calls Tryz.prog 72 #[.int .i64 n] w fun e w' => e = .returned (.string (txt (dDig n))) ∧ Turn w w' none := by
 unfold dDig
 by_cases h : n < 0 ∨ 4096 < n
 ·rw [if_pos h]; exact rdig_no n h w
 ·rw [if_neg h]
  obtain ⟨m, rfl⟩ : ∃ m : Nat, n = (m : Int) := ⟨n.toNat, by omega⟩
  rw [Int.toNat_natCast]
  exact rdig_any 5 m (by omega) (by omega) (by omega) (by omega) w
def GBr (gs : List Gn) : Prop := ∀ x ∈ gs, x.name.length ≤ 140737488355328 ∧ (∀ s ∈ x.syms, s.length ≤ 140737488355328) ∧ ∀ y ∈ x.fields, y.name.length ≤ 140737488355328
def dLim (f : Nat) : Nat := 1125899906842624 + f * 562949953421312
def DLen (rec : DRec) (L : Nat) : Prop := ∀ n st, ((rec n st).bad = true ∧ (rec n st).S = st.S) ∨ (st.S.length ≤ 4096 ∧ (rec n st).S.length ≤ L)
theorem dSymG_len : ∀ (l : List (List UInt8)) (b : Bool) (s : List UInt8), (∀ y ∈ l, y.length ≤ 140737488355328) → (dSymG b l s).length ≤ max s.length 140737488360000
 | [], b, s, _ => by rw [dSymG]; exact Nat.le_max_left _ _
 | y :: r, b, s, h => by
  rw [dSymG]
  split
  ·exact Nat.le_max_left _ _
  ·rename_i hs
   have hy := h y List.mem_cons_self
   have := dSymG_len r false ((if b then s else s ++ [44]) ++ y) (fun z hz => h z (List.mem_cons_of_mem _ hz))
   have hl : ((if b then s else s ++ [44]) ++ y).length ≤ 140737488360000 := by
    rw [List.length_append]
    cases b <;> simp <;> omega
   omega
theorem dItG_len {rec : DRec} {L : Nat} (hr : DLen rec L) (hL : 4096 ≤ L) : ∀ (l : List Int) (b : Bool) (st : DW), (dItG rec b l st).S.length ≤ max (st.S.length + 1) (L + 1)
 | [], b, st => by rw [dItG]; omega
 | y :: r, b, st => by
  rw [dItG]
  split
  ·omega
  ·have h2 : (if b then st else { st with S := st.S ++ [124] } : DW).S.length ≤ st.S.length + 1 := by cases b <;> simp
   rcases hr y (if b then st else { st with S := st.S ++ [124] }) with ⟨h1, h3⟩ | ⟨_, h3⟩
   ·have e : dItG rec false r (rec y (if b then st else { st with S := st.S ++ [124] })) = rec y (if b then st else { st with S := st.S ++ [124] }) := by
     cases r with
     | nil => rw [dItG]
     | cons z r => rw [dItG, if_pos h1]
    rw [e, h3]
    omega
   ·have := dItG_len hr hL r false (rec y (if b then st else { st with S := st.S ++ [124] }))
    omega
theorem dFlG_len {rec : DRec} {L : Nat} (hr : DLen rec L) (hL : 4096 ≤ L) : ∀ (l : List Gf) (st : DW), (∀ y ∈ l, y.name.length ≤ 140737488355328) → (dFlG rec l st).S.length ≤ max (st.S.length + 140737488355331) (L + 140737488355332)
 | [], st, _ => by rw [dFlG]; omega
 | y :: r, st, h => by
  rw [dFlG]
  split
  ·omega
  ·have hy := h y List.mem_cons_self
   obtain ⟨s0, hs0⟩ : ∃ s0 : DW, s0 = { st with S := (if y.has then st.S ++ y.name ++ [63] else st.S ++ y.name) ++ [58] } := ⟨_, rfl⟩
   have h2 : s0.S.length ≤ st.S.length + 140737488355330 := by
    rw [hs0]
    cases y.has <;> simp <;> omega
   rw [← hs0]
   show (dFlG rec r { rec y.ty s0 with S := (rec y.ty s0).S ++ [59] }).S.length ≤ _
   rcases hr y.ty s0 with ⟨h1, h3⟩ | ⟨_, h3⟩
   ·have e : dFlG rec r { rec y.ty s0 with S := (rec y.ty s0).S ++ [59] } = { rec y.ty s0 with S := (rec y.ty s0).S ++ [59] } := by
     cases r with
     | nil => rw [dFlG]
     | cons z r => rw [dFlG, if_pos h1]
    rw [e]
    show ((rec y.ty s0).S ++ [59]).length ≤ _
    rw [h3, List.length_append, List.length_singleton]
    omega
   ·have := dFlG_len hr hL r { rec y.ty s0 with S := (rec y.ty s0).S ++ [59] } (fun z hz => h z (List.mem_cons_of_mem _ hz))
    have e2 : ({ rec y.ty s0 with S := (rec y.ty s0).S ++ [59] } : DW).S.length = (rec y.ty s0).S.length + 1 := by
     show ((rec y.ty s0).S ++ [59]).length = _
     rw [List.length_append, List.length_singleton]
    omega
theorem digs_few5 (f n : Nat) : (digs f n).length ≤ f := by
 induction f generalizing n with
 | zero => rw [digs]; simp
 | succ f ih =>
  rw [digs]
  split
  ·simp
  ·rw [List.length_append]
   have := ih (n / 10)
   simp only [List.length_singleton]
   omega
theorem kw_few : ∀ k, (kwText k).length ≤ 6 := by
 intro k
 by_cases h : k < 12
 ·have : ∀ k : Fin 12, (kwText k.1).length ≤ 6 := by decide
  exact this ⟨k, h⟩
 ·unfold kwText
  rw [List.getD_eq_getElem?_getD, List.getElem?_eq_none (show kwList.length ≤ k from Nat.le_of_not_lt h)]
  simp
theorem dHead_len {x : Gn} {s : List UInt8} (hs : s.length ≤ 4096) (h1 : x.name.length ≤ 140737488355328) (h2 : ∀ y ∈ x.syms, y.length ≤ 140737488355328) : (dHead x s).length ≤ 140737488365000 := by
 have ho : (dOpen x.k.toNat).length ≤ 7 := by
  unfold dOpen
  have := kw_few x.k.toNat
  split
  ·rw [List.length_append, List.length_singleton]; omega
  ·omega
 have hd : (dDig x.size).length ≤ 5 := by
  unfold dDig
  split
  ·simp
  ·exact digs_few5 _ _
 obtain ⟨s1, hs1⟩ : ∃ s1, s1 = if 9 ≤ x.k then s ++ dOpen x.k.toNat ++ x.name else s ++ dOpen x.k.toNat := ⟨_, rfl⟩
 have l1 : s1.length ≤ 140737488359500 := by
  rw [hs1]
  split <;> simp only [List.length_append] <;> omega
 obtain ⟨s2, hs2⟩ : ∃ s2, s2 = if x.k = 10 then s1 ++ [32] ++ dDig x.size else s1 := ⟨_, rfl⟩
 have l2 : s2.length ≤ 140737488359510 := by
  rw [hs2]
  split
  ·simp only [List.length_append, List.length_singleton]; omega
  ·omega
 have e : dHead x s = if x.k = 9 then dSymG true x.syms (s2 ++ [60]) else s2 := by rw [hs2, hs1]; rfl
 rw [e]
 split
 ·have := dSymG_len x.syms true (s2 ++ [60]) h2
  rw [List.length_append, List.length_singleton] at this
  omega
 ·omega
theorem dShut_len (k : Nat) : (dShut k).length ≤ 1 := by unfold dShut; repeat (first | split | simp)
theorem dBegin_len {rec : DRec} {L : Nat} (hr : DLen rec L) (hL : 1125899906842624 ≤ L) {x : Gn} {st : DW} (hs : st.S.length ≤ 4096) (h : x.name.length ≤ 140737488355328 ∧ (∀ s ∈ x.syms, s.length ≤ 140737488355328) ∧ ∀ y ∈ x.fields, y.name.length ≤ 140737488355328) : (dBegin rec x st).S.length ≤ L + 562949953421312 := by
 unfold dBegin
 split
 ·show st.S.length ≤ _; omega
 ·have hh := dHead_len hs h.1 h.2.1
  obtain ⟨s1, hs1⟩ : ∃ s1 : DW, s1 = { st with S := dHead x st.S } := ⟨_, rfl⟩
  have l1 : s1.S.length ≤ 140737488365000 := by rw [hs1]; exact hh
  rw [← hs1]
  obtain ⟨s2, hs2⟩ : ∃ s2 : DW, s2 = if 5 < x.k ∧ x.k < 9 then dItG rec true x.items s1 else s1 := ⟨_, rfl⟩
  have l2 : s2.S.length ≤ L + 1 := by
   rw [hs2]
   split
   ·have := dItG_len hr (by omega) x.items true s1; omega
   ·omega
  obtain ⟨s3, hs3⟩ : ∃ s3 : DW, s3 = if x.k = 11 then dFlG rec x.fields { s2 with S := s2.S ++ [123] } else s2 := ⟨_, rfl⟩
  have l3 : s3.S.length ≤ L + 140737488355340 := by
   rw [hs3]
   split
   ·have := dFlG_len hr (by omega) x.fields { s2 with S := s2.S ++ [123] } h.2.2
    have e : ({ s2 with S := s2.S ++ [123] } : DW).S.length = s2.S.length + 1 := by
     show (s2.S ++ [123]).length = _
     rw [List.length_append, List.length_singleton]
    omega
   ·omega
  have := dShut_len x.k.toNat
  show (let s2 := if 5 < x.k ∧ x.k < 9 then dItG rec true x.items s1 else s1; (({ (if x.k = 11 then dFlG rec x.fields { s2 with S := s2.S ++ [123] } else s2) with S := (if x.k = 11 then dFlG rec x.fields { s2 with S := s2.S ++ [123] } else s2).S ++ dShut x.k.toNat } : DW)).S).length ≤ _
  simp only
  rw [← hs2, ← hs3, List.length_append]
  omega
theorem dTyp_len {gs : List Gn} (hG : GBr gs) : ∀ (f deep : Nat), DLen (dTyp gs f deep) (dLim f)
 | 0, deep => fun n st => .inl ⟨rfl, rfl⟩
 | f + 1, deep => fun n st => by
  rw [dTyp]
  split
  ·exact .inl ⟨rfl, rfl⟩
  ·rename_i hoff
   have h4 : st.S.length ≤ 4096 := by
    unfold dOff at hoff
    simp only [Bool.or_eq_true, decide_eq_true_eq, not_or] at hoff
    omega
   split
   ·exact .inl ⟨rfl, rfl⟩
   ·rename_i x hx
    have hg := hG x (List.mem_of_getElem? hx)
    refine .inr ⟨h4, ?_⟩
    split
    ·show (st.S ++ x.name).length ≤ _
     rw [List.length_append]
     unfold dLim
     have := hg.1
     omega
    ·have := dBegin_len (dTyp_len hG f (deep + 1)) (show 1125899906842624 ≤ dLim f by unfold dLim; omega) (x := x) (st := { st with nx := st.nx + 1 }) h4 hg
     have e : dLim (f + 1) = dLim f + 562949953421312 := by unfold dLim; omega
     rw [e]
     exact this
open Go.RowKit
structure DB where
 pW : Nat
 base : Nat
 A : Option Addr
 n : Nat
 c : Nat
 gs : List Gn
def dwCells (b : DB) (st : DW) : List Value := [.slice b.A b.n b.c, .string (txt st.S), .int .i64 (st.nx : Int), .bool st.bad]
structure Dv (w : World) (b : DB) (st : DW) : Prop where
 lo : b.base ≤ b.pW
 sc : Sc w b.base b.A b.n b.gs
 ok : ∀ x ∈ b.gs, GOk x
 few : b.n ≤ 1000000
 cap : b.n ≤ b.c ∧ b.c ≤ maxLen
 blk : Blk w b.pW 75 (dwCells b st).toArray
def Ud (b : DB) (w : World) (st : DW) (e : Ending) (w' : World) : Prop := e = .returned (.tuple #[]) ∧ Dv w' b st ∧ Turn w w' (some b.pW)
def DrQ (f d : Nat) : Prop := ∀ (w : World) (b : DB) (st : DW) (n : Int), Dv w b st → st.S.length ≤ 18014398509481984 →
 Calls Tryz.prog 46 #[.pointer (some ⟨b.pW, 0, none⟩), .int .i64 n, .int .i64 (d : Int)] w (Ud b w (dTyp b.gs f d n st))
section
variable {w w' : World} {b : DB} {st : DW}
theorem Dv.size (h : Dv w b st) : b.base ≤ w.heap.size := Nat.le_trans h.lo (Nat.le_of_lt h.blk.lt)
theorem Dv.turn0 (h : Dv w b st) (t : Turn w w' none) : Dv w' b st := ⟨h.lo, h.sc.turn0 t h.size, h.ok, h.few, h.cap, h.blk.turn0 t⟩
theorem Dv.gbr (h : Dv w b st) : GBr b.gs := fun x hx => ⟨by have := (h.ok x hx).nm; omega, (h.ok x hx).sy, (h.ok x hx).fl⟩
theorem Dv.setS (h : Dv w b st) (s : List UInt8) : Dv (w.setCell ⟨b.pW, 1, none⟩ (.string (txt s))) b { st with S := s } ∧ Turn w (w.setCell ⟨b.pW, 1, none⟩ (.string (txt s))) (some b.pW) := by
 have t := Blk.setTurn w b.pW 1 (.string (txt s))
 exact ⟨⟨h.lo, h.sc.turn t h.size (fun g e => by injection e with e; have := h.lo; omega), h.ok, h.few, h.cap, h.blk.sets 1 (.string (txt s))⟩, t⟩
theorem Dv.w1 (h : Dv w b st) : w.cell? ⟨b.pW, 1, none⟩ = some (.string (txt st.S)) := h.blk.cell 1
theorem Dv.w3 (h : Dv w b st) : w.cell? ⟨b.pW, 3, none⟩ = some (.bool st.bad) := h.blk.cell 3
theorem vfs_at4 (l : List Gf) : ∀ {i : Nat} {x : Gf}, l[i]? = some x → (vfs l)[i * 3]? = some (.string (txt x.name)) ∧ (vfs l)[i * 3 + 1]? = some (.bool x.has) ∧ (vfs l)[i * 3 + 2]? = some (.int .i64 x.ty) := by
 induction l with
 | nil => intro i x h; simp at h
 | cons y l ih =>
  intro i x h
  cases i with
  | zero =>
   obtain rfl : y = x := by simpa using h
   exact ⟨rfl, rfl, rfl⟩
  | succ i =>
   have := ih (i := i) (x := x) (by simpa using h)
   rw [show (i + 1) * 3 = i * 3 + 1 + 1 + 1 by omega]
   exact this
theorem dFlG_nil {rec : DRec} {l : List Gf} {j : Nat} (h : l.length ≤ j) : dFlG rec (l.drop j) st = st := by
 rw [List.drop_eq_nil_of_le h, dFlG]
theorem dFlG_bad {rec : DRec} {l : List Gf} (h : st.bad = true) : dFlG rec l st = st := by
 cases l with
 | nil => rw [dFlG]
 | cons y l => rw [dFlG, if_pos h]
theorem dFlG_next {rec : DRec} {l : List Gf} {j : Nat} {y : Gf} (h : l[j]? = some y) (hb : st.bad = false) : dFlG rec (l.drop j) st = dFlG rec (l.drop (j + 1)) { rec y.ty { st with S := (if y.has then st.S ++ y.name ++ [63] else st.S ++ y.name) ++ [58] } with S := (rec y.ty { st with S := (if y.has then st.S ++ y.name ++ [63] else st.S ++ y.name) ++ [58] }).S ++ [59] } := by
 have hj := (List.getElem?_eq_some_iff.1 h).1
 have e : l.drop j = y :: l.drop (j + 1) := by
  rw [List.drop_eq_getElem_cons hj]
  rw [List.getElem?_eq_getElem hj] at h
  injection h with h
  rw [h]
 rw [e, dFlG, if_neg (by rw [hb]; decide)]
theorem dfields_any {f d : Nat} (hd : d < 20) (hf : f ≤ 20) (TQ : DrQ f (d + 1)) (h : Dv w b st) {l : List Gf} {F : Option Addr} {cf : Nat} (hr : Rd w b.base 3 F l.length (vfs l)) (hl : l.length ≤ 1000000) (hn : ∀ y ∈ l, y.name.length ≤ 140737488355328) (hS : st.S.length ≤ 1125899906842624 + 21 * 562949953421312) :
  Calls Tryz.prog 73 #[.pointer (some ⟨b.pW, 0, none⟩), .slice F l.length cf, .int .i64 (d : Int)] w (Ud b w (dFlG (dTyp b.gs f (d + 1)) l st)) := by
 obtain ⟨rec, hrec⟩ : ∃ rec : DRec, rec = dTyp b.gs f (d + 1) := ⟨_, rfl⟩
 have hlen : DLen rec (dLim f) := by rw [hrec]; exact dTyp_len h.gbr f (d + 1)
 have TR : ∀ (w : World) (st : DW) (n : Int), Dv w b st → st.S.length ≤ 18014398509481984 → Calls Tryz.prog 46 #[.pointer (some ⟨b.pW, 0, none⟩), .int .i64 n, .int .i64 ((d : Int) + 1)] w (Ud b w (rec n st)) := by
  intro w st n h1 h2
  rw [hrec]
  exact TQ w b st n h1 h2
 rw [← hrec]
 have hlim : dLim f ≤ 1125899906842624 + 20 * 562949953421312 := by unfold dLim; have := Nat.mul_le_mul_right 562949953421312 hf; omega
 obtain ⟨FIN, hFIN⟩ : ∃ F, F = dFlG rec l st := ⟨_, rfl⟩
 rw [← hFIN]
 have hdw : IntKind.i64.wrap ((d : Int) + 1) = (d : Int) + 1 := by rw [IntKind.wrap_i64]; omega
 have hbs := h.size
 clear hrec TQ
 go_enter Tryz.func73, Tryz.ntmps73
 go_wp2
 go_loopw [6] (fun i wr => ∃ (j : Nat) (cur : DW), j ≤ l.length ∧ i = .int .i64 (j : Int) ∧ Dv wr b cur ∧ Hid (dFlG rec (l.drop j) cur = FIN) ∧ Turn w wr (some b.pW) ∧ Hid (cur.bad = false → cur.S.length ≤ 1125899906842624 + 21 * 562949953421312)) (fun i _ => (l.length - intOf i).toNat)
 case atStart => exact ⟨0, st, by omega, rfl, h, hid hFIN.symm, Turn.refl _ _, hid fun _ => hS⟩
 case round =>
  obtain ⟨j, cur, hj, rfl, hv, HF, tr, HB⟩ := hrel
  clear hFIN
  have b3 := hv.w3
  by_cases hjl : j < l.length
  case neg =>
   have l1 : ¬((j : Int) < (l.length : Int)) := by omega
   have HX := hid (show cur = FIN by rw [← HF.out, dFlG_nil (by omega)])
   go_wp2
   go_end0
   rw [← HX.out]
   exact ⟨rfl, hv, tr⟩
  case pos =>
  have l1 : (j : Int) < (l.length : Int) := by omega
  cases hb : cur.bad with
  | true =>
   rw [hb] at b3
   have HX := hid (show cur = FIN by rw [← HF.out, dFlG_bad hb])
   clear hb
   go_wp2
   go_end0
   rw [← HX.out]
   exact ⟨rfl, hv, tr⟩
  | false =>
   rw [hb] at b3
   obtain ⟨y, hy⟩ : ∃ y, l[j]? = some y := ⟨l[j], List.getElem?_eq_getElem hjl⟩
   have hcl := HB.out hb
   have HN := hid ((dFlG_next (rec := rec) hy hb).symm.trans HF.out)
   have hyn := hn y (List.mem_of_getElem? hy)
   obtain ⟨v1, v2, v3⟩ := vfs_at4 l hy
   have hr2 := hr.turn tr hbs (fun g e => by injection e with e; have := h.lo; omega)
   obtain ⟨bb, off, hF, hbb, hc⟩ := hr2.head (by omega)
   have c0 := hc _ _ v1
   have c1 := hc _ _ v2
   have c2 := hc _ _ v3
   rw [← Nat.add_assoc] at c1 c2
   have nb : bb ≠ b.pW := by have := h.lo; omega
   have m1 : some bb ≠ some b.pW := fun e => nb (by injection e)
   clear hy hb HB HF v1 v2 v3 hc hr2
   subst hF
   obtain ⟨X, hX⟩ : ∃ X, X = txt cur.S := ⟨_, rfl⟩
   obtain ⟨Y, hY⟩ : ∃ Y, Y = txt y.name := ⟨_, rfl⟩
   have zX : X.size = cur.S.length := by rw [hX, txt_size]
   have zY : Y.size = y.name.length := by rw [hY, txt_size]
   have hXY := hid (show X ++ Y = txt (cur.S ++ y.name) by rw [hX, hY, txt_app2])
   have b1 := hv.w1
   rw [← hX] at b1
   rw [← hY] at c0
   clear hX hY
   have q1 : ¬ 9223372036854775807 < X.size + Y.size := by omega
   have HZ := hid (And.intro zX zY)
   clear zX zY
   have zf := hv.blk.frozen 1
   have lw := hv.blk.lt
   have lb := World.block_lt_of_cell? wr _ c0
   go_upto_region 3 with (fail)
   refine wp_region_noPanic ?_
   refine wp_region_held_drew (S := (fun W => W.cell? ⟨bb, off + j * 3, none⟩ = some (.string Y))) (by kernel_rfl) (c0) (fun hHeld => ?_)
   (first | refine tkN 0 ?_ | refine tkY 0 _ ?_); (try simp only [Act.put, zs])
   (first | refine tkN 1 ?_ | refine tkY 1 _ ?_); (try simp only [Act.put, zs])
   (first | refine tkN 2 ?_ | refine tkY 2 _ ?_); (try simp only [Act.put, zs])
   (first | refine tkN 3 ?_ | refine tkY 3 _ ?_); (try simp only [Act.put, zs])
   (first | refine tkN 5 ?_ | refine tkY 5 _ ?_); (try simp only [Act.put, zs])
   (first | refine tkN 6 ?_ | refine tkY 6 _ ?_); (try simp only [Act.put, zs])
   (first | refine tkN 7 ?_ | refine tkY 7 _ ?_); (try simp only [Act.put, zs])
   (first | refine tkN 8 ?_ | refine tkY 8 _ ?_); (try simp only [Act.put, zs])
   (first | refine tkN 9 ?_ | refine tkY 9 _ ?_); (try simp only [Act.put, zs])
   refine wpAnyH_ready (rs := [4]) (by kernel_rfl) (by simp) ?_; refine AllReadyH.cons rfl (fun K hK => ?_) AllReadyH.nil
   go_simp
   refine hK.out _ _ c0 (fun hHeld => ?_); clear hK K; (try simp only [Act.put, zs])
   (first | refine tkN 10 ?_ | refine tkY 10 _ ?_); (try simp only [Act.put, zs])
   (first | refine tkN 11 ?_ | refine tkY 11 _ ?_); (try simp only [Act.put, zs])
   (first | refine tkN 12 ?_ | refine tkY 12 _ ?_); (try simp only [Act.put, zs])
   refine wpAnyH_ready (rs := [13]) (by kernel_rfl) (by simp) ?_; refine AllReadyH.cons rfl (fun K hK => ?_) AllReadyH.nil
   go_simp
   refine hK.out _ _ ((World.cell?_setCell_far _ _ _ _ nb.symm).trans c0) (fun hHeld => ?_); clear hK K; (try simp only [Act.put, zs])
   refine wpAnyH_done (by kernel_rfl) ?_ _
   refine NoPanic.normal ?_
   clear hHeld
   obtain ⟨hv1, t1⟩ := hv.setS (cur.S ++ y.name)
   rw [← hXY.out] at hv1 t1
   have hv1 := hv1.turn0 (Turn.refl _ none).drew
   have t1 := t1.drew
   obtain ⟨w1, hw1⟩ : ∃ w1, w1 = (wr.setCell ⟨b.pW, 1, none⟩ (.string (X ++ Y))).drew := ⟨_, rfl⟩
   rw [← hw1] at hv1 t1
   rw [← hw1]
   clear hw1
   obtain ⟨s1, hs1⟩ : ∃ s, s = cur.S ++ y.name := ⟨_, rfl⟩
   rw [← hs1] at hv1
   have l1s : s1.length ≤ 1125899906842624 + 21 * 562949953421312 + 140737488355328 := by rw [hs1, List.length_append]; omega
   have HS1 := hid hs1
   clear hs1 b1 zf lw q1 b3
   have c11 := (t1.cell (a := ⟨bb, off + j * 3 + 1, none⟩) lb m1).trans c1
   have c21 := (t1.cell (a := ⟨bb, off + j * 3 + 2, none⟩) lb m1).trans c2
   have lb1 := Nat.lt_of_lt_of_le lb t1.size
   cases hh : y.has with
   | true =>
    rw [hh] at c11
    have HH := hid (show ((if y.has then cur.S ++ y.name ++ [63] else cur.S ++ y.name) ++ [58]) = (s1 ++ [63]) ++ [58] by rw [hh, HS1.out]; rfl)
    clear hh
    obtain ⟨X2, hX2⟩ : ∃ X, X = txt s1 := ⟨_, rfl⟩
    have HX2 := hid (show X2 ++ { data := #[63] } = txt (s1 ++ [63]) by rw [hX2]; exact txt_app2 _ [63])
    have b1 := hv1.w1
    rw [← hX2] at b1
    have q1 : ¬ 9223372036854775807 < X2.size + 1 := by rw [hX2, txt_size]; omega
    have zf := hv1.blk.frozen 1
    have lw := hv1.blk.lt
    clear hX2
    go_upto_region 6 with (fail)
    obtain ⟨hv2, t2⟩ := hv1.setS (s1 ++ [63])
    rw [← HX2.out] at hv2 t2
    obtain ⟨w2, hw2⟩ : ∃ w', w' = w1.setCell ⟨b.pW, 1, none⟩ (.string (X2 ++ { data := #[63] })) := ⟨_, rfl⟩
    rw [← hw2] at hv2 t2
    rw [← hw2]
    clear hw2 b1 q1 zf lw
    have l2 : (s1 ++ [63]).length ≤ 1125899906842624 + 21 * 562949953421312 + 140737488355329 := by rw [List.length_append, List.length_singleton]; omega
    have c22 := (t2.cell (a := ⟨bb, off + j * 3 + 2, none⟩) lb1 m1).trans c21
    have T2 := t1.trans t2
    obtain ⟨X3, hX3⟩ : ∃ X, X = txt (s1 ++ [63]) := ⟨_, rfl⟩
    have HX3 := hid (show X3 ++ { data := #[58] } = txt ((s1 ++ [63]) ++ [58]) by rw [hX3]; exact txt_app2 _ [58])
    have b1 := hv2.w1
    rw [← hX3] at b1
    have q1 : ¬ 9223372036854775807 < X3.size + 1 := by rw [hX3, txt_size]; omega
    have zf := hv2.blk.frozen 1
    have lw := hv2.blk.lt
    clear hX3
    go_upto_region 7 with (fail)
    obtain ⟨hv3, t3⟩ := hv2.setS ((s1 ++ [63]) ++ [58])
    rw [← HX3.out] at hv3 t3
    obtain ⟨w3, hw3⟩ : ∃ w', w' = w2.setCell ⟨b.pW, 1, none⟩ (.string (X3 ++ { data := #[58] })) := ⟨_, rfl⟩
    rw [← hw3] at hv3 t3
    rw [← hw3]
    clear hw3 b1 q1 zf lw
    have l3 : ((s1 ++ [63]) ++ [58]).length ≤ 18014398509481984 := by have := l2; rw [List.length_append, List.length_singleton]; omega
    have c23 := (t3.cell (a := ⟨bb, off + j * 3 + 2, none⟩) (Nat.lt_of_lt_of_le lb T2.size) m1).trans c22
    have T3 := T2.trans t3
    obtain ⟨d4, hd4⟩ : ∃ d, d = rec y.ty { cur with S := (s1 ++ [63]) ++ [58] } := ⟨_, rfl⟩
    have key := TR w3 { cur with S := (s1 ++ [63]) ++ [58] } y.ty hv3 l3
    have hl4 := hlen y.ty { cur with S := (s1 ++ [63]) ++ [58] }
    rw [← hd4] at key hl4
    have HD := hid hd4
    clear hd4
    have hv3k := hv3
    go_upto_region 8 with (go_at_call 46; refine key.mono ?_; rintro e w4 ⟨rfl, hv4, t4⟩)
    have l4 : d4.S.length ≤ 18014398509481983 := by
     rcases hl4 with ⟨_, q⟩ | ⟨_, q⟩
     ·rw [q]
      show ((s1 ++ [63]) ++ [58]).length ≤ _
      rw [List.length_append, List.length_singleton]
      omega
     ·omega
    obtain ⟨X5, hX5⟩ : ∃ X, X = txt d4.S := ⟨_, rfl⟩
    have HX5 := hid (show X5 ++ { data := #[59] } = txt (d4.S ++ [59]) by rw [hX5]; exact txt_app2 _ [59])
    have b1 := hv4.w1
    rw [← hX5] at b1
    have q1 : ¬ 9223372036854775807 < X5.size + 1 := by rw [hX5, txt_size]; omega
    have zf := hv4.blk.frozen 1
    have lw := hv4.blk.lt
    clear hX5
    go_wp2
    obtain ⟨hv5, t5⟩ := hv4.setS (d4.S ++ [59])
    rw [← HX5.out] at hv5 t5
    have T5 := (T3.trans t4).trans t5
    refine ⟨⟨j + 1, _, by omega, by go_num, hv5, hid ?_, tr.trans T5, hid fun hq => ?_⟩, by simp [intOf]; omega⟩
    ·rw [← HN.out, HH.out, HD.out]
    ·show (d4.S ++ [59]).length ≤ _
     rw [List.length_append, List.length_singleton]
     rcases hl4 with ⟨q, _⟩ | ⟨_, q⟩
     ·have hq : d4.bad = false := hq
      rw [hq] at q; cases q
     ·omega
   | false =>
    rw [hh] at c11
    have HH := hid (show ((if y.has then cur.S ++ y.name ++ [63] else cur.S ++ y.name) ++ [58]) = s1 ++ [58] by rw [hh, HS1.out]; rfl)
    clear hh
    have l2 : s1.length ≤ 1125899906842624 + 21 * 562949953421312 + 140737488355329 := by omega
    obtain ⟨X3, hX3⟩ : ∃ X, X = txt s1 := ⟨_, rfl⟩
    have HX3 := hid (show X3 ++ { data := #[58] } = txt (s1 ++ [58]) by rw [hX3]; exact txt_app2 _ [58])
    have b1 := hv1.w1
    rw [← hX3] at b1
    have q1 : ¬ 9223372036854775807 < X3.size + 1 := by rw [hX3, txt_size]; omega
    have zf := hv1.blk.frozen 1
    have lw := hv1.blk.lt
    clear hX3
    go_upto_region 7 with (fail)
    obtain ⟨hv3, t3⟩ := hv1.setS (s1 ++ [58])
    rw [← HX3.out] at hv3 t3
    obtain ⟨w3, hw3⟩ : ∃ w', w' = w1.setCell ⟨b.pW, 1, none⟩ (.string (X3 ++ { data := #[58] })) := ⟨_, rfl⟩
    rw [← hw3] at hv3 t3
    rw [← hw3]
    clear hw3 b1 q1 zf lw
    have l3 : (s1 ++ [58]).length ≤ 18014398509481984 := by have := l2; rw [List.length_append, List.length_singleton]; omega
    have c23 := (t3.cell (a := ⟨bb, off + j * 3 + 2, none⟩) (Nat.lt_of_lt_of_le lb t1.size) m1).trans c21
    have T3 := t1.trans t3
    obtain ⟨d4, hd4⟩ : ∃ d, d = rec y.ty { cur with S := s1 ++ [58] } := ⟨_, rfl⟩
    have key := TR w3 { cur with S := s1 ++ [58] } y.ty hv3 l3
    have hl4 := hlen y.ty { cur with S := s1 ++ [58] }
    rw [← hd4] at key hl4
    have HD := hid hd4
    clear hd4
    have hv3k := hv3
    go_upto_region 8 with (go_at_call 46; refine key.mono ?_; rintro e w4 ⟨rfl, hv4, t4⟩)
    have l4 : d4.S.length ≤ 18014398509481983 := by
     rcases hl4 with ⟨_, q⟩ | ⟨_, q⟩
     ·rw [q]
      show (s1 ++ [58]).length ≤ _
      rw [List.length_append, List.length_singleton]
      omega
     ·omega
    obtain ⟨X5, hX5⟩ : ∃ X, X = txt d4.S := ⟨_, rfl⟩
    have HX5 := hid (show X5 ++ { data := #[59] } = txt (d4.S ++ [59]) by rw [hX5]; exact txt_app2 _ [59])
    have b1 := hv4.w1
    rw [← hX5] at b1
    have q1 : ¬ 9223372036854775807 < X5.size + 1 := by rw [hX5, txt_size]; omega
    have zf := hv4.blk.frozen 1
    have lw := hv4.blk.lt
    clear hX5
    go_wp2
    obtain ⟨hv5, t5⟩ := hv4.setS (d4.S ++ [59])
    rw [← HX5.out] at hv5 t5
    have T5 := (T3.trans t4).trans t5
    refine ⟨⟨j + 1, _, by omega, by go_num, hv5, hid ?_, tr.trans T5, hid fun hq => ?_⟩, by simp [intOf]; omega⟩
    ·rw [← HN.out, HH.out, HD.out]
    ·show (d4.S ++ [59]).length ≤ _
     rw [List.length_append, List.length_singleton]
     rcases hl4 with ⟨q, _⟩ | ⟨_, q⟩
     ·have hq : d4.bad = false := hq
      rw [hq] at q; cases q
     ·omega
end
open Go.RowKit
section
variable {w w' : World} {b : DB} {st : DW}
theorem Dv.setB (h : Dv w b st) (v : Bool) : Dv (w.setCell ⟨b.pW, 3, none⟩ (.bool v)) b { st with bad := v } ∧ Turn w (w.setCell ⟨b.pW, 3, none⟩ (.bool v)) (some b.pW) := by
 have t := Blk.setTurn w b.pW 3 (.bool v)
 exact ⟨⟨h.lo, h.sc.turn t h.size (fun g e => by injection e with e; have := h.lo; omega), h.ok, h.few, h.cap, h.blk.sets 3 (.bool v)⟩, t⟩
theorem Dv.w0 (h : Dv w b st) : w.cell? ⟨b.pW, 0, none⟩ = some (.slice b.A b.n b.c) := h.blk.cell 0
theorem Dv.w2 (h : Dv w b st) : w.cell? ⟨b.pW, 2, none⟩ = some (.int .i64 (st.nx : Int)) := h.blk.cell 2
theorem Dv.len (h : Dv w b st) : b.n = b.gs.length := h.sc.1.symm
theorem dtyp_off (h : Dv w b st) {n : Int} {d : Nat} (hd : d ≤ 20) (hoff : dOff b.gs d n st = true) :
  Calls Tryz.prog 46 #[.pointer (some ⟨b.pW, 0, none⟩), .int .i64 n, .int .i64 (d : Int)] w (Ud b w { st with bad := true }) := by
 have hlen := h.len
 have c0 := h.w0
 have c1 := h.w1
 have c2 := h.w2
 have c3 := h.w3
 have zf := h.blk.frozen 3
 obtain ⟨hv, tv⟩ := h.setB true
 have HV := hid (And.intro hv tv)
 clear hv tv
 unfold dOff at hoff
 simp only [Bool.or_eq_true, decide_eq_true_eq] at hoff
 rw [← hlen] at hoff
 have hsz : (txt st.S).size = st.S.length := txt_size _
 obtain ⟨X, hX⟩ : ∃ X, X = txt st.S := ⟨_, rfl⟩
 rw [← hX] at c1 hsz
 clear hX hlen
 cases hb : st.bad with
 | true =>
  rw [hb] at c3
  clear hoff hb
  go_enter Tryz.func46, Tryz.ntmps46
  go_wp2
  go_end0
  exact ⟨rfl, HV.out.1, HV.out.2⟩
 | false =>
  rw [hb] at c3 hoff
  clear hb
  simp only [Bool.false_eq_true, false_or] at hoff
  by_cases a0 : n < 0
  ·have i0 : n < 0 := by omega
   clear hoff
   go_enter Tryz.func46, Tryz.ntmps46
   go_wp2
   go_end0
   exact ⟨rfl, HV.out.1, HV.out.2⟩
  have i0 : ¬n < 0 := by omega
  by_cases a1 : (b.n : Int) ≤ n
  ·have i1 : (b.n : Int) ≤ n := by omega
   clear hoff
   go_enter Tryz.func46, Tryz.ntmps46
   go_wp2
   go_end0
   exact ⟨rfl, HV.out.1, HV.out.2⟩
  have i1 : ¬(b.n : Int) ≤ n := by omega
  by_cases a2 : (st.nx : Int) < n
  ·have i2 : (st.nx : Int) < n := by omega
   clear hoff
   go_enter Tryz.func46, Tryz.ntmps46
   go_wp2
   go_end0
   exact ⟨rfl, HV.out.1, HV.out.2⟩
  have i2 : ¬(st.nx : Int) < n := by omega
  by_cases a3 : 20 ≤ d
  ·have i3 : (20 : Int) ≤ (d : Int) := by omega
   clear hoff a3
   go_enter Tryz.func46, Tryz.ntmps46
   go_wp2
   go_end0
   exact ⟨rfl, HV.out.1, HV.out.2⟩
  have i3 : ¬(20 : Int) ≤ (d : Int) := by omega
  have i9 : (4096 : Int) < (st.S.length : Int) := by omega
  clear hoff
  go_enter Tryz.func46, Tryz.ntmps46
  go_wp2
  go_end0
  exact ⟨rfl, HV.out.1, HV.out.2⟩
end
open Go.RowKit
theorem rnode_any {w : World} {B : Nat} {v u : Value} {x y : Gn} (hx : NdV w B v x) (hy : NdV w B u y) (hB : B ≤ w.heap.size) (ls : x.syms.length ≤ 1000000) (li : x.items.length ≤ 1000000) (lf : x.fields.length ≤ 1000000) :
  Calls Tryz.prog 52 #[v, u] w fun e w' => e = .returned (.bool (decide (x = y))) ∧ Turn w w' none := by
 obtain ⟨As, sc, Ai, ic, Af, fc, rfl, r3, r4, r5⟩ := hx
 obtain ⟨Bs, tc, Bi, jc, Bf, gc, rfl, q3, q4, q5⟩ := hy
 have ex : x = y ↔ x.k = y.k ∧ x.name = y.name ∧ x.size = y.size ∧ x.syms = y.syms ∧ x.items = y.items ∧ x.fields = y.fields := by
  cases x; cases y; simp only [Gn.mk.injEq]
 by_cases n0 : x.k = y.k
 case neg =>
  have e0 : (x.k != y.k) = true := by rw [bne_iff_ne]; omega
  have H := hid (show decide (x = y) = false by simp [ex, n0])
  clear ex n0
  go_enter Tryz.func52, Tryz.ntmps52
  go_upto_region 1 with (first
   | (have q9 := hg; refine wp_bx rfl 64 _ rfl rfl ?_; intro g2 w2 hg2 hb2 ht2)
   | (refine wp_bx rfl 64 _ rfl rfl ?_; intro g w1 hg hb1 ht1))
  have hb3 := hb1.turn0 ht2
  have tt := ht1.trans ht2
  have k0 : w2.cell? ⟨g, 0, none⟩ = some (.int .i64 x.k) := hb3.ats (xs := [_, _, _, _, _, _]) rfl
  have k1 : w2.cell? ⟨g, 1, none⟩ = some (.string (txt x.name)) := hb3.ats (xs := [_, _, _, _, _, _]) rfl
  have k2 : w2.cell? ⟨g, 2, none⟩ = some (.int .i64 x.size) := hb3.ats (xs := [_, _, _, _, _, _]) rfl
  have k3 : w2.cell? ⟨g, 3, none⟩ = some (.slice As x.syms.length sc) := hb3.ats (xs := [_, _, _, _, _, _]) rfl
  have k4 : w2.cell? ⟨g, 4, none⟩ = some (.slice Ai x.items.length ic) := hb3.ats (xs := [_, _, _, _, _, _]) rfl
  have k5 : w2.cell? ⟨g, 5, none⟩ = some (.slice Af x.fields.length fc) := hb3.ats (xs := [_, _, _, _, _, _]) rfl
  have m0 : w2.cell? ⟨g2, 0, none⟩ = some (.int .i64 y.k) := hb2.ats (xs := [_, _, _, _, _, _]) rfl
  have m1 : w2.cell? ⟨g2, 1, none⟩ = some (.string (txt y.name)) := hb2.ats (xs := [_, _, _, _, _, _]) rfl
  have m2 : w2.cell? ⟨g2, 2, none⟩ = some (.int .i64 y.size) := hb2.ats (xs := [_, _, _, _, _, _]) rfl
  have m3 : w2.cell? ⟨g2, 3, none⟩ = some (.slice Bs y.syms.length tc) := hb2.ats (xs := [_, _, _, _, _, _]) rfl
  have m4 : w2.cell? ⟨g2, 4, none⟩ = some (.slice Bi y.items.length jc) := hb2.ats (xs := [_, _, _, _, _, _]) rfl
  have m5 : w2.cell? ⟨g2, 5, none⟩ = some (.slice Bf y.fields.length gc) := hb2.ats (xs := [_, _, _, _, _, _]) rfl
  go_wp2_with fail
  go_ret
  exact ⟨by rw [H.out]; rfl, tt⟩
 by_cases n1 : x.name = y.name
 case neg =>
  have e0 : (x.k != y.k) = false := by rw [n0]; simp
  have e1 : ((txt x.name).toList == (txt y.name).toList) = false := by rw [tx_beq]; simpa using n1
  have e1b : ((txt x.name).toList != (txt y.name).toList) = true := by rw [bne, e1]; rfl
  have H := hid (show decide (x = y) = false by simp [ex, n1])
  clear ex n0 n1
  go_enter Tryz.func52, Tryz.ntmps52
  go_upto_region 1 with (first
   | (have q9 := hg; refine wp_bx rfl 64 _ rfl rfl ?_; intro g2 w2 hg2 hb2 ht2)
   | (refine wp_bx rfl 64 _ rfl rfl ?_; intro g w1 hg hb1 ht1))
  have hb3 := hb1.turn0 ht2
  have tt := ht1.trans ht2
  have k0 : w2.cell? ⟨g, 0, none⟩ = some (.int .i64 x.k) := hb3.ats (xs := [_, _, _, _, _, _]) rfl
  have k1 : w2.cell? ⟨g, 1, none⟩ = some (.string (txt x.name)) := hb3.ats (xs := [_, _, _, _, _, _]) rfl
  have k2 : w2.cell? ⟨g, 2, none⟩ = some (.int .i64 x.size) := hb3.ats (xs := [_, _, _, _, _, _]) rfl
  have k3 : w2.cell? ⟨g, 3, none⟩ = some (.slice As x.syms.length sc) := hb3.ats (xs := [_, _, _, _, _, _]) rfl
  have k4 : w2.cell? ⟨g, 4, none⟩ = some (.slice Ai x.items.length ic) := hb3.ats (xs := [_, _, _, _, _, _]) rfl
  have k5 : w2.cell? ⟨g, 5, none⟩ = some (.slice Af x.fields.length fc) := hb3.ats (xs := [_, _, _, _, _, _]) rfl
  have m0 : w2.cell? ⟨g2, 0, none⟩ = some (.int .i64 y.k) := hb2.ats (xs := [_, _, _, _, _, _]) rfl
  have m1 : w2.cell? ⟨g2, 1, none⟩ = some (.string (txt y.name)) := hb2.ats (xs := [_, _, _, _, _, _]) rfl
  have m2 : w2.cell? ⟨g2, 2, none⟩ = some (.int .i64 y.size) := hb2.ats (xs := [_, _, _, _, _, _]) rfl
  have m3 : w2.cell? ⟨g2, 3, none⟩ = some (.slice Bs y.syms.length tc) := hb2.ats (xs := [_, _, _, _, _, _]) rfl
  have m4 : w2.cell? ⟨g2, 4, none⟩ = some (.slice Bi y.items.length jc) := hb2.ats (xs := [_, _, _, _, _, _]) rfl
  have m5 : w2.cell? ⟨g2, 5, none⟩ = some (.slice Bf y.fields.length gc) := hb2.ats (xs := [_, _, _, _, _, _]) rfl
  go_wp2_with fail
  go_ret
  exact ⟨by rw [H.out]; rfl, tt⟩
 by_cases n2 : x.size = y.size
 case neg =>
  have e0 : (x.k != y.k) = false := by rw [n0]; simp
  have e1 : ((txt x.name).toList == (txt y.name).toList) = true := by rw [tx_beq]; simpa using n1
  have e1b : ((txt x.name).toList != (txt y.name).toList) = false := by rw [bne, e1]; rfl
  have e2 : (x.size != y.size) = true := by rw [bne_iff_ne]; omega
  have H := hid (show decide (x = y) = false by simp [ex, n2])
  clear ex n0 n1 n2
  go_enter Tryz.func52, Tryz.ntmps52
  go_upto_region 1 with (first
   | (have q9 := hg; refine wp_bx rfl 64 _ rfl rfl ?_; intro g2 w2 hg2 hb2 ht2)
   | (refine wp_bx rfl 64 _ rfl rfl ?_; intro g w1 hg hb1 ht1))
  have hb3 := hb1.turn0 ht2
  have tt := ht1.trans ht2
  have k0 : w2.cell? ⟨g, 0, none⟩ = some (.int .i64 x.k) := hb3.ats (xs := [_, _, _, _, _, _]) rfl
  have k1 : w2.cell? ⟨g, 1, none⟩ = some (.string (txt x.name)) := hb3.ats (xs := [_, _, _, _, _, _]) rfl
  have k2 : w2.cell? ⟨g, 2, none⟩ = some (.int .i64 x.size) := hb3.ats (xs := [_, _, _, _, _, _]) rfl
  have k3 : w2.cell? ⟨g, 3, none⟩ = some (.slice As x.syms.length sc) := hb3.ats (xs := [_, _, _, _, _, _]) rfl
  have k4 : w2.cell? ⟨g, 4, none⟩ = some (.slice Ai x.items.length ic) := hb3.ats (xs := [_, _, _, _, _, _]) rfl
  have k5 : w2.cell? ⟨g, 5, none⟩ = some (.slice Af x.fields.length fc) := hb3.ats (xs := [_, _, _, _, _, _]) rfl
  have m0 : w2.cell? ⟨g2, 0, none⟩ = some (.int .i64 y.k) := hb2.ats (xs := [_, _, _, _, _, _]) rfl
  have m1 : w2.cell? ⟨g2, 1, none⟩ = some (.string (txt y.name)) := hb2.ats (xs := [_, _, _, _, _, _]) rfl
  have m2 : w2.cell? ⟨g2, 2, none⟩ = some (.int .i64 y.size) := hb2.ats (xs := [_, _, _, _, _, _]) rfl
  have m3 : w2.cell? ⟨g2, 3, none⟩ = some (.slice Bs y.syms.length tc) := hb2.ats (xs := [_, _, _, _, _, _]) rfl
  have m4 : w2.cell? ⟨g2, 4, none⟩ = some (.slice Bi y.items.length jc) := hb2.ats (xs := [_, _, _, _, _, _]) rfl
  have m5 : w2.cell? ⟨g2, 5, none⟩ = some (.slice Bf y.fields.length gc) := hb2.ats (xs := [_, _, _, _, _, _]) rfl
  go_wp2_with fail
  go_ret
  exact ⟨by rw [H.out]; rfl, tt⟩
 by_cases n3 : x.fields.length = y.fields.length
 case neg =>
  have e0 : (x.k != y.k) = false := by rw [n0]; simp
  have e1 : ((txt x.name).toList == (txt y.name).toList) = true := by rw [tx_beq]; simpa using n1
  have e1b : ((txt x.name).toList != (txt y.name).toList) = false := by rw [bne, e1]; rfl
  have e2 : (x.size != y.size) = false := by rw [n2]; simp
  have e3 : ((x.fields.length : Int) != (y.fields.length : Int)) = true := by rw [bne_iff_ne]; omega
  have H := hid (show decide (x = y) = false by rw [decide_eq_false_iff_not]; rintro rfl; exact n3 rfl)
  clear ex n0 n1 n2 n3
  go_enter Tryz.func52, Tryz.ntmps52
  go_upto_region 1 with (first
   | (have q9 := hg; refine wp_bx rfl 64 _ rfl rfl ?_; intro g2 w2 hg2 hb2 ht2)
   | (refine wp_bx rfl 64 _ rfl rfl ?_; intro g w1 hg hb1 ht1))
  have hb3 := hb1.turn0 ht2
  have tt := ht1.trans ht2
  have k0 : w2.cell? ⟨g, 0, none⟩ = some (.int .i64 x.k) := hb3.ats (xs := [_, _, _, _, _, _]) rfl
  have k1 : w2.cell? ⟨g, 1, none⟩ = some (.string (txt x.name)) := hb3.ats (xs := [_, _, _, _, _, _]) rfl
  have k2 : w2.cell? ⟨g, 2, none⟩ = some (.int .i64 x.size) := hb3.ats (xs := [_, _, _, _, _, _]) rfl
  have k3 : w2.cell? ⟨g, 3, none⟩ = some (.slice As x.syms.length sc) := hb3.ats (xs := [_, _, _, _, _, _]) rfl
  have k4 : w2.cell? ⟨g, 4, none⟩ = some (.slice Ai x.items.length ic) := hb3.ats (xs := [_, _, _, _, _, _]) rfl
  have k5 : w2.cell? ⟨g, 5, none⟩ = some (.slice Af x.fields.length fc) := hb3.ats (xs := [_, _, _, _, _, _]) rfl
  have m0 : w2.cell? ⟨g2, 0, none⟩ = some (.int .i64 y.k) := hb2.ats (xs := [_, _, _, _, _, _]) rfl
  have m1 : w2.cell? ⟨g2, 1, none⟩ = some (.string (txt y.name)) := hb2.ats (xs := [_, _, _, _, _, _]) rfl
  have m2 : w2.cell? ⟨g2, 2, none⟩ = some (.int .i64 y.size) := hb2.ats (xs := [_, _, _, _, _, _]) rfl
  have m3 : w2.cell? ⟨g2, 3, none⟩ = some (.slice Bs y.syms.length tc) := hb2.ats (xs := [_, _, _, _, _, _]) rfl
  have m4 : w2.cell? ⟨g2, 4, none⟩ = some (.slice Bi y.items.length jc) := hb2.ats (xs := [_, _, _, _, _, _]) rfl
  have m5 : w2.cell? ⟨g2, 5, none⟩ = some (.slice Bf y.fields.length gc) := hb2.ats (xs := [_, _, _, _, _, _]) rfl
  go_wp2_with fail
  go_ret
  exact ⟨by rw [H.out]; rfl, tt⟩
 have e0 : (x.k != y.k) = false := by rw [n0]; simp
 have e1 : ((txt x.name).toList == (txt y.name).toList) = true := by rw [tx_beq]; simpa using n1
 have e1b : ((txt x.name).toList != (txt y.name).toList) = false := by rw [bne, e1]; rfl
 have e2 : (x.size != y.size) = false := by rw [n2]; simp
 have e3 : ((x.fields.length : Int) != (y.fields.length : Int)) = false := by rw [n3]; simp
 have HN := hid (show (x = y) ↔ x.fields = y.fields ∧ x.syms = y.syms ∧ x.items = y.items by rw [ex]; constructor <;> (intro h; simp_all))
 have HL := hid n3
 clear ex n0 n1 n2 n3
 go_enter Tryz.func52, Tryz.ntmps52
 go_upto_region 1 with (first
  | (have q9 := hg; refine wp_bx rfl 64 _ rfl rfl ?_; intro g2 w2 hg2 hb2 ht2)
  | (refine wp_bx rfl 64 _ rfl rfl ?_; intro g w1 hg hb1 ht1))
 have hb3 := hb1.turn0 ht2
 have tt := ht1.trans ht2
 have k0 : w2.cell? ⟨g, 0, none⟩ = some (.int .i64 x.k) := hb3.ats (xs := [_, _, _, _, _, _]) rfl
 have k1 : w2.cell? ⟨g, 1, none⟩ = some (.string (txt x.name)) := hb3.ats (xs := [_, _, _, _, _, _]) rfl
 have k2 : w2.cell? ⟨g, 2, none⟩ = some (.int .i64 x.size) := hb3.ats (xs := [_, _, _, _, _, _]) rfl
 have k3 : w2.cell? ⟨g, 3, none⟩ = some (.slice As x.syms.length sc) := hb3.ats (xs := [_, _, _, _, _, _]) rfl
 have k4 : w2.cell? ⟨g, 4, none⟩ = some (.slice Ai x.items.length ic) := hb3.ats (xs := [_, _, _, _, _, _]) rfl
 have k5 : w2.cell? ⟨g, 5, none⟩ = some (.slice Af x.fields.length fc) := hb3.ats (xs := [_, _, _, _, _, _]) rfl
 have m0 : w2.cell? ⟨g2, 0, none⟩ = some (.int .i64 y.k) := hb2.ats (xs := [_, _, _, _, _, _]) rfl
 have m1 : w2.cell? ⟨g2, 1, none⟩ = some (.string (txt y.name)) := hb2.ats (xs := [_, _, _, _, _, _]) rfl
 have m2 : w2.cell? ⟨g2, 2, none⟩ = some (.int .i64 y.size) := hb2.ats (xs := [_, _, _, _, _, _]) rfl
 have m3 : w2.cell? ⟨g2, 3, none⟩ = some (.slice Bs y.syms.length tc) := hb2.ats (xs := [_, _, _, _, _, _]) rfl
 have m4 : w2.cell? ⟨g2, 4, none⟩ = some (.slice Bi y.items.length jc) := hb2.ats (xs := [_, _, _, _, _, _]) rfl
 have m5 : w2.cell? ⟨g2, 5, none⟩ = some (.slice Bf y.fields.length gc) := hb2.ats (xs := [_, _, _, _, _, _]) rfl
 go_wp2_with fail
 go_loopw [5] (fun i wr => ∃ j : Nat, j ≤ x.fields.length ∧ i = .int .i64 (j : Int) ∧ Hid (x.fields.take j = y.fields.take j) ∧ Turn w2 wr none) (fun i _ => (x.fields.length - intOf i).toNat)
 case atStart => exact ⟨0, by omega, rfl, hid rfl, Turn.refl w2 none⟩
 case round =>
  obtain ⟨j, hj, rfl, HE, htr⟩ := hrel
  have hwr : wrap64 ((j : Int) + 1) = (j : Int) + 1 := by unfold wrap64; omega
  have k5' := (htr.cell (a := ⟨g, 5, none⟩) hb3.lt (by simp)).trans k5
  have m5' := (htr.cell (a := ⟨g2, 5, none⟩) hb2.lt (by simp)).trans m5
  have tr := tt.trans htr
  by_cases hjn : j < x.fields.length
  ·have hjk : j < y.fields.length := by have := HL.out; omega
   obtain ⟨a, ha⟩ : ∃ a, x.fields[j]? = some a := ⟨x.fields[j], List.getElem?_eq_getElem hjn⟩
   obtain ⟨b, hb⟩ : ∃ b, y.fields[j]? = some b := ⟨y.fields[j], List.getElem?_eq_getElem hjk⟩
   obtain ⟨b1, o1, rfl, _, h1⟩ := (r5.turn0 tr hB).head (by omega)
   obtain ⟨b2, o2, rfl, _, h2⟩ := (q5.turn0 tr hB).head (by omega)
   obtain ⟨p0, p1, p2⟩ := vfs_at ha
   obtain ⟨s0, s1, s2⟩ := vfs_at hb
   have a0 := h1 _ _ p0
   have a1 : wr.cell? ⟨b1, o1 + j * 3 + 1, none⟩ = some (.bool a.has) := by rw [Nat.add_assoc]; exact h1 _ _ p1
   have a2 : wr.cell? ⟨b1, o1 + j * 3 + 2, none⟩ = some (.int .i64 a.ty) := by rw [Nat.add_assoc]; exact h1 _ _ p2
   have d0 := h2 _ _ s0
   have d1 : wr.cell? ⟨b2, o2 + j * 3 + 1, none⟩ = some (.bool b.has) := by rw [Nat.add_assoc]; exact h2 _ _ s1
   have d2 : wr.cell? ⟨b2, o2 + j * 3 + 2, none⟩ = some (.int .i64 b.ty) := by rw [Nat.add_assoc]; exact h2 _ _ s2
   have hgd : Tryz.prog.eqGuardType Tryz.prog.depth 119 = false := by kernel_rfl
   have HX := hid ha
   have HY := hid hb
   clear p0 p1 p2 s0 s1 s2 h1 h2 ha hb k0 k1 k2 k3 k4 k5 m0 m1 m2 m3 m4 m5 e0 e1 e1b e2 e3
   by_cases hxy : a = b
   ·have e := feq a b
    rw [decide_eq_true hxy] at e
    have HXY := hid hxy
    clear hxy
    go_wp2_with (fail)
    refine wp_region_noPanic ?_
    refine wp_region_held_drew (S := (fun W => W.cell? ⟨g, 5, none⟩ = some (.slice (some ⟨b1, o1, none⟩) x.fields.length fc) ∧ W.cell? ⟨g2, 5, none⟩ = some (.slice (some ⟨b2, o2, none⟩) y.fields.length gc) ∧ W.cell? ⟨b1, o1 + j * 3, none⟩ = some (.string (txt a.name)) ∧ W.cell? ⟨b1, o1 + j * 3 + 1, none⟩ = some (.bool a.has) ∧ W.cell? ⟨b1, o1 + j * 3 + 2, none⟩ = some (.int .i64 a.ty) ∧ W.cell? ⟨b2, o2 + j * 3, none⟩ = some (.string (txt b.name)) ∧ W.cell? ⟨b2, o2 + j * 3 + 1, none⟩ = some (.bool b.has) ∧ W.cell? ⟨b2, o2 + j * 3 + 2, none⟩ = some (.int .i64 b.ty))) (by kernel_rfl) (⟨k5', m5', a0, a1, a2, d0, d1, d2⟩) (fun hHeld => ?_)
    (first | refine tkN 0 ?_ | refine tkY 0 _ ?_); (try simp only [Act.put, zs])
    (first | refine tkN 1 ?_ | refine tkY 1 _ ?_); (try simp only [Act.put, zs])
    (first | refine tkN 2 ?_ | refine tkY 2 _ ?_); (try simp only [Act.put, zs])
    (first | refine tkN 3 ?_ | refine tkY 3 _ ?_); (try simp only [Act.put, zs])
    (first | refine tkN 4 ?_ | refine tkY 4 _ ?_); (try simp only [Act.put, zs])
    (first | refine tkN 5 ?_ | refine tkY 5 _ ?_); (try simp only [Act.put, zs])
    (first | refine tkN 6 ?_ | refine tkY 6 _ ?_); (try simp only [Act.put, zs])
    (first | refine tkN 7 ?_ | refine tkY 7 _ ?_); (try simp only [Act.put, zs])
    (first | refine tkN 8 ?_ | refine tkY 8 _ ?_); (try simp only [Act.put, zs])
    (first | refine tkN 9 ?_ | refine tkY 9 _ ?_); (try simp only [Act.put, zs])
    (first | refine tkN 10 ?_ | refine tkY 10 _ ?_); (try simp only [Act.put, zs])
    refine wpAnyH_done (by kernel_rfl) ?_ _
    refine NoPanic.normal ?_
    clear hHeld
    go_wp2
    refine ⟨⟨j + 1, by omega, by go_num, hid (take_next1 HX.out (by rw [HXY.out]; exact HY.out) HE.out), htr.drew⟩, by simp [intOf]; omega⟩
   ·have e := feq a b
    rw [decide_eq_false hxy] at e
    have H := hid (show decide (x = y) = false by
     rw [decide_eq_false_iff_not, HN.out]
     rintro ⟨h1, _⟩
     have hx := HX.out
     rw [h1, HY.out] at hx
     exact hxy (Option.some.inj hx).symm)
    clear hxy
    go_wp2_with (fail)
    refine wp_region_noPanic ?_
    refine wp_region_held_drew (S := (fun W => W.cell? ⟨g, 5, none⟩ = some (.slice (some ⟨b1, o1, none⟩) x.fields.length fc) ∧ W.cell? ⟨g2, 5, none⟩ = some (.slice (some ⟨b2, o2, none⟩) y.fields.length gc) ∧ W.cell? ⟨b1, o1 + j * 3, none⟩ = some (.string (txt a.name)) ∧ W.cell? ⟨b1, o1 + j * 3 + 1, none⟩ = some (.bool a.has) ∧ W.cell? ⟨b1, o1 + j * 3 + 2, none⟩ = some (.int .i64 a.ty) ∧ W.cell? ⟨b2, o2 + j * 3, none⟩ = some (.string (txt b.name)) ∧ W.cell? ⟨b2, o2 + j * 3 + 1, none⟩ = some (.bool b.has) ∧ W.cell? ⟨b2, o2 + j * 3 + 2, none⟩ = some (.int .i64 b.ty))) (by kernel_rfl) (⟨k5', m5', a0, a1, a2, d0, d1, d2⟩) (fun hHeld => ?_)
    (first | refine tkN 0 ?_ | refine tkY 0 _ ?_); (try simp only [Act.put, zs])
    (first | refine tkN 1 ?_ | refine tkY 1 _ ?_); (try simp only [Act.put, zs])
    (first | refine tkN 2 ?_ | refine tkY 2 _ ?_); (try simp only [Act.put, zs])
    (first | refine tkN 3 ?_ | refine tkY 3 _ ?_); (try simp only [Act.put, zs])
    (first | refine tkN 4 ?_ | refine tkY 4 _ ?_); (try simp only [Act.put, zs])
    (first | refine tkN 5 ?_ | refine tkY 5 _ ?_); (try simp only [Act.put, zs])
    (first | refine tkN 6 ?_ | refine tkY 6 _ ?_); (try simp only [Act.put, zs])
    (first | refine tkN 7 ?_ | refine tkY 7 _ ?_); (try simp only [Act.put, zs])
    (first | refine tkN 8 ?_ | refine tkY 8 _ ?_); (try simp only [Act.put, zs])
    (first | refine tkN 9 ?_ | refine tkY 9 _ ?_); (try simp only [Act.put, zs])
    (first | refine tkN 10 ?_ | refine tkY 10 _ ?_); (try simp only [Act.put, zs])
    refine wpAnyH_done (by kernel_rfl) ?_ _
    refine NoPanic.normal ?_
    clear hHeld
    go_wp2
    go_ret
    exact ⟨by rw [H.out]; rfl, tr.drew⟩
  ·obtain rfl : j = x.fields.length := by omega
   have hf : x.fields = y.fields := by
    have h := HE.out
    rwa [List.take_length, HL.out, List.take_length] at h
   have k3' := (htr.cell (a := ⟨g, 3, none⟩) hb3.lt (by simp)).trans k3
   have m3' := (htr.cell (a := ⟨g2, 3, none⟩) hb2.lt (by simp)).trans m3
   have k4' := (htr.cell (a := ⟨g, 4, none⟩) hb3.lt (by simp)).trans k4
   have m4' := (htr.cell (a := ⟨g2, 4, none⟩) hb2.lt (by simp)).trans m4
   have hsz := htr.size
   have te := rtexts_any As Bs _ _ sc tc x.syms y.syms B wr rfl rfl (r3.turn0 tr hB) (q3.turn0 tr hB) (Nat.le_trans hB tr.size) ls
   have te2 := fun {w3 : World} (h : Turn wr w3 none) => rints_any Ai Bi _ _ ic jc x.items y.items B w3 rfl rfl ((r4.turn0 tr hB).turn0 h (Nat.le_trans hB tr.size)) ((q4.turn0 tr hB).turn0 h (Nat.le_trans hB tr.size)) (Nat.le_trans (Nat.le_trans hB tr.size) h.size) li
   have k4n := fun {w3 : World} (h : Turn wr w3 none) => (h.cell (a := ⟨g, 4, none⟩) (Nat.lt_of_lt_of_le hb3.lt hsz) (by simp)).trans k4'
   have m4n := fun {w3 : World} (h : Turn wr w3 none) => (h.cell (a := ⟨g2, 4, none⟩) (Nat.lt_of_lt_of_le hb2.lt hsz) (by simp)).trans m4'
   have HF := hid hf
   clear k0 k1 k2 k3 k4 k5 m0 m1 m2 m3 m4 m5 e0 e1 e1b e2 e3 hf k4' m4'
   by_cases hs : x.syms = y.syms
   ·have es : (x.syms == y.syms) = true := by simpa using hs
    have H := hid (show decide (x = y) = (x.items == y.items) by
     rw [Bool.eq_iff_iff, decide_eq_true_iff, beq_iff_eq, HN.out]
     exact ⟨fun h => h.2.2, fun h => ⟨HF.out, hs, h⟩⟩)
    rw [es] at te
    clear hs es
    go_wp2_with (first
     | (go_at_call 86; refine te.mono ?_; rintro e w3 ⟨rfl, ht3⟩; have k4' := k4n ht3; have m4' := m4n ht3)
     | (go_at_call 87; refine (te2 ht3).mono ?_; rintro e w4 ⟨rfl, ht4⟩))
    go_ret
    exact ⟨by rw [H.out]; rfl, (tr.trans ht3).trans ht4⟩
   ·have es : (x.syms == y.syms) = false := by simpa using hs
    have H := hid (show decide (x = y) = false by
     rw [decide_eq_false_iff_not, HN.out]
     rintro ⟨_, h, _⟩
     exact hs h)
    rw [es] at te
    clear hs es
    go_wp2_with (go_at_call 86; refine te.mono ?_; rintro e w3 ⟨rfl, ht3⟩)
    go_ret
    exact ⟨by rw [H.out]; rfl, tr.trans ht3⟩
end Go.Proofs.YtgigiecdpjchkaaGreatDoor
