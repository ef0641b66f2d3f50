import Derived.Test.YtgigiecdpjchkaaGreatDoorP10
import Derived.Test.YtgigiecdpjchkaaGreatDoorP2
import Derived.Test.YtgigiecdpjchkaaGreatDoorP1
import Derived.Test.YtgigiecdpjchkaaGreatDoorP3
import Derived.Test.YtgigiecdpjchkaaGreatDoorP6
import Derived.Test.YtgigiecdpjchkaaGreatDoorRows
import Derived.WalkKit
import Derived.ProofKit
import Derived.OpenShut
import Derived.Deep.DeepHandedRow
import Derived.Lib.LaidTab
set_option linter.unusedSimpArgs false
set_option linter.unusedVariables false
set_option linter.unusedSectionVars false
set_option maxRecDepth 100000
set_option maxHeartbeats 6400000
namespace Go.Proofs.YtgigiecdpjchkaaGreatDoor
theorem digs_dec : ∀ (f u : Nat), u < 10 ^ f → 0 < f → digs f u = Lib.decDigits u
 | 0, _, _, h => absurd h (Nat.lt_irrefl 0)
 | f + 1, u, h, _ => by
  rw [digs, Lib.decDigits]
  split
  ·rfl
  ·cases f with
   | zero => simp at h; omega
   | succ f =>
    rw [digs_dec (f + 1) (u / 10) (by rw [Nat.pow_succ] at h; omega) (by omega)]
def WrOk (rec : Wtr) (recC : Int → St3 → Option St3) : Prop := ∀ n nx out nx' (t : List UInt8) dp, rec n nx = some (out, nx') → (t ++ lText out).length ≤ 4096 → ∃ dp', recC (n : Int) (t, nx, dp) = some (t ++ lText out, nx', dp')
theorem wp_y {s t : List UInt8} {q : Nat × Nat} (h : (t ++ s).length ≤ 4096) : wpt s (t, q) = some (t ++ s, q) := wpt_yes (st := (t, q)) h
theorem lT_cons (u : TT) (o : List TT) : lText (u :: o) = lt1 u ++ lText o := rfl
theorem wItems_one {rec : Wtr} {y nx : Nat} {out : List TT} {nx' : Nat} (h : wItems rec [y] nx = some (out, nx')) : rec y nx = some (out, nx') := by
 unfold wItems at h
 split at h
 ·cases h
 ·rename_i o nx1 e
  rw [e]
  simpa using h
theorem wItems_more {rec : Wtr} {y z nx : Nat} {ys : List Nat} {out : List TT} {nx' : Nat} (h : wItems rec (y :: z :: ys) nx = some (out, nx')) : ∃ o nx1 o2, rec y nx = some (o, nx1) ∧ wItems rec (z :: ys) nx1 = some (o2, nx') ∧ out = o ++ (2, [124]) :: o2 := by
 rw [wItems] at h
 split at h
 ·cases h
 ·rename_i o nx1 e
  simp only [List.isEmpty_cons, Bool.false_eq_true, if_false] at h
  split at h
  ·cases h
  ·rename_i o2 nx2 e2
   injection h with h
   injection h with h1 h2
   subst h1; subst h2
   exact ⟨o, nx1, o2, e, e2, rfl⟩
theorem cItG_ok {rec : Wtr} {recC : Int → St3 → Option St3} (hr : WrOk rec recC) : ∀ (ys : List Nat) (y nx : Nat) (b : Bool) (out : List TT) (nx' : Nat) (t : List UInt8) (dp : Nat), wItems rec (y :: ys) nx = some (out, nx') → (t ++ ((if b then [] else [124]) ++ lText out)).length ≤ 4096 →
  ∃ dp', cItG recC b ((y :: ys).map Int.ofNat) (t, nx, dp) = some (t ++ ((if b then [] else [124]) ++ lText out), nx', dp')
 | [], y, nx, b, out, nx', t, dp, h, hl => by
  have h1 := wItems_one h
  have e0 : (if b then some (t, nx, dp) else wpt [124] (t, nx, dp)) = some (t ++ (if b then [] else [124]), nx, dp) := by
   cases b with
   | true => simp
   | false => simp only [Bool.false_eq_true, if_false] at hl ⊢; exact wp_y (by simp only [List.length_append] at hl ⊢; omega)
  obtain ⟨dp', h2⟩ := hr y nx out nx' (t ++ (if b then [] else [124])) dp h1 (by rw [List.append_assoc]; exact hl)
  refine ⟨dp', ?_⟩
  rw [List.map_cons, List.map_nil, cItG, e0, Option.bind_some]
  show (recC (y : Int) _).bind _ = _
  rw [h2, Option.bind_some, cItG, List.append_assoc]
 | z :: ys, y, nx, b, out, nx', t, dp, h, hl => by
  obtain ⟨o, nx1, o2, h1, h2, rfl⟩ := wItems_more h
  rw [lText_app, lT_cons, lt1_two] at hl ⊢
  have e0 : (if b then some (t, nx, dp) else wpt [124] (t, nx, dp)) = some (t ++ (if b then [] else [124]), nx, dp) := by
   cases b with
   | true => simp
   | false => simp only [Bool.false_eq_true, if_false] at hl ⊢; exact wp_y (by simp only [List.length_append] at hl ⊢; omega)
  obtain ⟨dp1, h3⟩ := hr y nx o nx1 (t ++ (if b then [] else [124])) dp h1 (by simp only [List.length_append] at hl ⊢; omega)
  obtain ⟨dp', h4⟩ := cItG_ok hr ys z nx1 false o2 nx' (t ++ (if b then [] else [124]) ++ lText o) dp1 h2 (by simp only [Bool.false_eq_true, if_false, List.length_append] at hl ⊢; omega)
  refine ⟨dp', ?_⟩
  rw [List.map_cons, cItG, e0, Option.bind_some]
  show (recC (y : Int) _).bind _ = _
  rw [h3, Option.bind_some, h4]
  simp [List.append_assoc]
theorem cItems_ok {rec : Wtr} {recC : Int → St3 → Option St3} (hr : WrOk rec recC) {l : List Nat} {nx : Nat} {out : List TT} {nx' : Nat} {t : List UInt8} {dp : Nat} {fin : List UInt8} (h : wItems rec l nx = some (out, nx')) (hl : (t ++ (lText out ++ fin)).length ≤ 4096) :
  ∃ dp', cItems recC (l.map Int.ofNat) fin (t, nx, dp) = some (t ++ (lText out ++ fin), nx', dp') := by
 cases l with
 | nil =>
  unfold wItems at h
  injection h with h
  injection h with h1 h2
  subst h1; subst h2
  refine ⟨dp, ?_⟩
  unfold cItems
  rw [List.map_nil, cItG, Option.bind_some]
  exact wp_y hl
 | cons y ys =>
  obtain ⟨dp', h1⟩ := cItG_ok hr ys y nx true out nx' t dp h (by simp only [if_true, List.nil_append, List.length_append] at hl ⊢; omega)
  refine ⟨dp', ?_⟩
  unfold cItems
  rw [h1, Option.bind_some]
  simp only [if_true, List.nil_append]
  rw [wp_y (by rw [List.append_assoc]; exact hl), List.append_assoc]
theorem wpt_if3 {b : Bool} {s t : List UInt8} {q : Nat × Nat} (h : (t ++ if b then s else []).length ≤ 4096) : (if b then wpt s (t, q) else some (t, q)) = some (t ++ (if b then s else []), q) := by
 cases b with
 | true => simp only [if_true] at h ⊢; exact wp_y h
 | false => simp
theorem cFlG_ok {rec : Wtr} {recC : Int → St3 → Option St3} (hr : WrOk rec recC) : ∀ (l : List Fl) (nx : Nat) (out : List TT) (nx' : Nat) (t : List UInt8) (dp : Nat), (∀ f ∈ l, WBr f.name) → wFields rec l nx = some (out, nx') → (t ++ lText out).length ≤ 4096 →
  ∃ dp', cFlG recC (l.map Fl.g) (t, nx, dp) = some (t ++ lText out, nx', dp')
 | [], nx, out, nx', t, dp, _, h, _ => by
  unfold wFields at h
  injection h with h
  injection h with h1 h2
  subst h1; subst h2
  exact ⟨dp, by rw [List.map_nil, cFlG]; simp [lText]⟩
 | y :: ys, nx, out, nx', t, dp, hk, h, hl => by
  rw [wFields] at h
  split at h
  ·cases h
  rename_i o nx1 e1
  split at h
  ·cases h
  rename_i o2 nx2 e2
  injection h with h
  injection h with h1 h2
  subst h1; subst h2
  have hq : lText (if y.has then [((2 : Nat), [63])] else []) = (if y.has then [63] else []) := by
   cases y.has <;> simp [lText, lt1]
  have et : lText ((0, y.name) :: ((if y.has = true then [(2, [63])] else []) ++ (2, [58]) :: (o ++ (2, [59]) :: o2))) = y.name ++ ((if y.has then [63] else []) ++ ([58] ++ (lText o ++ ([59] ++ lText o2)))) := by
   rw [lT_cons, lt1_plain (hk y List.mem_cons_self).2, lText_app, hq, lT_cons, lt1_two, lText_app, lT_cons, lt1_two]
  rw [et] at hl ⊢
  have hl' := hl
  simp only [List.length_append] at hl'
  obtain ⟨dp1, h3⟩ := hr y.ty nx o nx1 (((t ++ y.name) ++ (if y.has then [63] else [])) ++ [58]) dp e1 (by simp only [List.length_append]; omega)
  obtain ⟨dp', h4⟩ := cFlG_ok hr ys nx1 o2 nx2 (((((t ++ y.name) ++ (if y.has then [63] else [])) ++ [58]) ++ lText o) ++ [59]) dp1 (fun f hf => hk f (List.mem_cons_of_mem _ hf)) e2 (by simp only [List.length_append]; omega)
  refine ⟨dp', ?_⟩
  rw [List.map_cons, cFlG]
  show (wpt y.name (t, nx, dp)).bind _ = _
  rw [wp_y (by simp only [List.length_append]; omega), Option.bind_some]
  rw [show y.g.has = y.has from rfl]
  rw [wpt_if3 (by simp only [List.length_append]; omega), Option.bind_some, wp_y (by simp only [List.length_append]; omega), Option.bind_some]
  show (recC (y.ty : Int) _).bind _ = _
  rw [h3, Option.bind_some, wp_y (by simp only [List.length_append]; omega), Option.bind_some, h4]
  simp only [List.append_assoc]
theorem cSymG_ok : ∀ (l : List (List UInt8)) (y : List UInt8) (b : Bool) (t : List UInt8) (q : Nat × Nat), (∀ s ∈ y :: l, WBr s) → (t ++ ((if b then [] else [44]) ++ lText (wSymsT (y :: l)))).length ≤ 4096 →
  cSymG b (y :: l) (t, q) = some (t ++ ((if b then [] else [44]) ++ lText (wSymsT (y :: l))), q)
 | [], y, b, t, q, hk, hl => by
  have et : lText (wSymsT [y]) = y := by simp [wSymsT, lText, lt1_plain (hk y List.mem_cons_self).2]
  rw [et] at hl ⊢
  have e0 : (if b then some (t, q) else wpt [44] (t, q)) = some (t ++ (if b then [] else [44]), q) := by
   cases b with
   | true => simp
   | false => simp only [Bool.false_eq_true, if_false] at hl ⊢; exact wp_y (by simp only [List.length_append] at hl ⊢; omega)
  rw [cSymG, e0, Option.bind_some, wp_y (by rw [List.append_assoc]; exact hl), Option.bind_some, cSymG, List.append_assoc]
 | z :: l, y, b, t, q, hk, hl => by
  have et : lText (wSymsT (y :: z :: l)) = y ++ ([44] ++ lText (wSymsT (z :: l))) := by
   rw [wSymsT, lT_cons, lt1_plain (hk y List.mem_cons_self).2]
   simp only [List.isEmpty_cons, Bool.false_eq_true, if_false]
   rw [lT_cons, lt1_two]
  rw [et] at hl ⊢
  have hl' := hl
  simp only [List.length_append] at hl'
  have e0 : (if b then some (t, q) else wpt [44] (t, q)) = some (t ++ (if b then [] else [44]), q) := by
   cases b with
   | true => simp
   | false => simp only [Bool.false_eq_true, if_false] at hl ⊢; exact wp_y (by simp only [List.length_append] at hl ⊢; omega)
  rw [cSymG, e0, Option.bind_some, wp_y (by simp only [List.length_append]; omega), Option.bind_some, cSymG_ok l z false _ q (fun s hs => hk s (List.mem_cons_of_mem _ hs)) (by simp only [Bool.false_eq_true, if_false, List.length_append] at hl' ⊢; omega)]
  simp only [Bool.false_eq_true, if_false, List.append_assoc]
theorem cSyms_ok {l : List (List UInt8)} {t : List UInt8} {q : Nat × Nat} (hk : ∀ s ∈ l, WBr s) (hl : (t ++ ([60] ++ (lText (wSymsT l) ++ [62]))).length ≤ 4096) : cSyms l (t, q) = some (t ++ ([60] ++ (lText (wSymsT l) ++ [62])), q) := by
 have hl' := hl
 simp only [List.length_append] at hl'
 unfold cSyms
 rw [wp_y (by simp only [List.length_append]; omega), Option.bind_some]
 cases l with
 | nil =>
  rw [cSymG, Option.bind_some, wp_y (by simp [wSymsT, lText] at hl' ⊢; omega)]
  simp [wSymsT, lText]
 | cons y l =>
  rw [cSymG_ok l y true _ q hk (by simp only [if_true, List.nil_append, List.length_append]; omega), Option.bind_some]
  simp only [if_true, List.nil_append]
  rw [wp_y (by simp only [List.length_append]; omega)]
  simp only [List.append_assoc]
theorem cFields_ok {rec : Wtr} {recC : Int → St3 → Option St3} (hr : WrOk rec recC) {l : List Fl} {nx : Nat} {out : List TT} {nx' : Nat} {t : List UInt8} {dp : Nat} (hk : ∀ f ∈ l, WBr f.name) (h : wFields rec l nx = some (out, nx')) (hl : (t ++ ([123] ++ (lText out ++ [125]))).length ≤ 4096) :
  ∃ dp', cFields recC (l.map Fl.g) (t, nx, dp) = some (t ++ ([123] ++ (lText out ++ [125])), nx', dp') := by
 have hl' := hl
 simp only [List.length_append] at hl'
 obtain ⟨dp', h1⟩ := cFlG_ok hr l nx out nx' (t ++ [123]) dp hk h (by simp only [List.length_append]; omega)
 refine ⟨dp', ?_⟩
 unfold cFields
 rw [wp_y (by simp only [List.length_append]; omega), Option.bind_some, h1, Option.bind_some, wp_y (by simp only [List.length_append]; omega)]
 simp only [List.append_assoc]
theorem map_some {a : Option (List TT × Nat)} {g : List TT × Nat → List TT} {o : List TT} {nx : Nat} (h : a.map (fun p => (g p, p.2)) = some (o, nx)) : ∃ o', a = some (o', nx) ∧ o = g (o', nx) := by
 cases a with
 | none => cases h
 | some p =>
  obtain ⟨o', n⟩ := p
  simp only [Option.map_some, Option.some.injEq, Prod.mk.injEq] at h
  obtain ⟨h1, h2⟩ := h
  subst h2
  exact ⟨o', rfl, h1.symm⟩
theorem wTok_text {M : List Nd} (hM : ABr M) : ∀ (f deep : Nat), WrOk (wTok M f) (cTyp (M.map Nd.g) f deep)
 | 0, _, _, _, _, _, _, _, h, _ => by rw [wTok] at h; cases h
 | f + 1, deep, n, nx, out, nx', t, dp, h, hl => by
  rw [wTok] at h
  cases hx : M[n]? with
  | none => rw [hx] at h; cases h
  | some x =>
   rw [hx] at h
   simp only at h
   have hn : n < M.length := (List.getElem?_eq_some_iff.1 hx).1
   obtain ⟨k1, k2, k3, k4⟩ := hM x (List.mem_of_getElem? hx)
   have IH := wTok_text hM f (deep + 1)
   have hgx : (M.map Nd.g)[(n : Int).toNat]? = some x.g := by rw [Int.toNat_natCast, List.getElem?_map, hx]; rfl
   rw [cTyp]
   by_cases c1 : n < nx
   ·rw [if_pos c1] at h
    split at h
    ·injection h with h
     injection h with h1 h2
     subst h1; subst h2
     rw [if_neg (by rw [List.length_map]; simp only; omega), hgx]
     simp only
     rw [if_pos (by omega)]
     have et : lText [(0, x.name)] = x.name := by simp [lText, lt1_plain k1.2]
     rw [et] at hl ⊢
     exact ⟨_, wp_y hl⟩
    ·cases h
   rw [if_neg c1] at h
   by_cases c2 : n ≠ nx
   ·rw [if_pos c2] at h; cases h
   rw [if_neg c2] at h
   have c3 : n = nx := by omega
   rw [if_neg (by rw [List.length_map]; simp only; omega), hgx]
   simp only
   rw [if_neg (by omega)]
   have hkk : x.g.k = (x.k : Int) := rfl
   unfold cBegin
   rw [hkk]
   by_cases b6 : x.k < 6
   ·rw [if_pos b6] at h
    injection h with h
    injection h with h1 h2
    subst h1; subst h2
    have et : lText [(0, kwText x.k)] = kwText x.k := by simp [lText, lt1_plain (kw_not b6)]
    rw [et] at hl ⊢
    rw [if_neg (by omega), Int.toNat_natCast, wp_y hl, Option.bind_some, if_neg (by omega), if_neg (by omega), if_neg (by omega), if_neg (by omega), if_neg (by omega), if_neg (by omega)]
    exact ⟨_, rfl⟩
   rw [if_neg b6] at h
   by_cases e6 : x.k = 6
   ·rw [if_pos e6] at h
    obtain ⟨o', h1, rfl⟩ := map_some h
    simp only at hl ⊢
    rw [lT_cons, lt1_two, lText_app, lT_cons, lt1_two] at hl ⊢
    have hl' := hl
    simp only [List.length_append, lText, List.length_nil] at hl'
    obtain ⟨dp', h2⟩ := cItems_ok IH (fin := [93]) (t := t ++ [91]) (dp := max dp (deep + 1)) h1 (by simp only [List.length_append]; omega)
    refine ⟨dp', ?_⟩
    rw [e6]
    rw [if_neg (by omega)]
    show (wpt [91] _).bind _ = _
    rw [wp_y (by simp only [List.length_append]; omega), Option.bind_some, if_pos (by omega)]
    show cItems _ (x.items.map Int.ofNat) _ _ = _
    rw [h2]
    simp [lText]
   rw [if_neg e6] at h
   by_cases e7 : x.k = 7
   ·rw [if_pos e7] at h
    obtain ⟨o', h1, rfl⟩ := map_some h
    simp only at hl ⊢
    rw [lT_cons, lt1_two, lText_app, lT_cons, lt1_two] at hl ⊢
    have hl' := hl
    simp only [List.length_append, lText, List.length_nil] at hl'
    obtain ⟨dp', h2⟩ := cItems_ok IH (fin := [125]) (t := t ++ [123]) (dp := max dp (deep + 1)) h1 (by simp only [List.length_append]; omega)
    refine ⟨dp', ?_⟩
    rw [e7]
    rw [if_neg (by omega)]
    show (wpt [123] _).bind _ = _
    rw [wp_y (by simp only [List.length_append]; omega), Option.bind_some, if_neg (by omega), if_pos (by omega)]
    show cItems _ (x.items.map Int.ofNat) _ _ = _
    rw [h2]
    simp [lText]
   rw [if_neg e7] at h
   by_cases e8 : x.k = 8
   ·rw [if_pos e8] at h
    obtain ⟨o', h1, rfl⟩ := map_some h
    simp only at hl ⊢
    rw [lT_cons, lt1_two, lText_app, lT_cons, lt1_two] at hl ⊢
    have hl' := hl
    simp only [List.length_append, lText, List.length_nil] at hl'
    obtain ⟨dp', h2⟩ := cItems_ok IH (fin := [41]) (t := t ++ [40]) (dp := max dp (deep + 1)) h1 (by simp only [List.length_append]; omega)
    refine ⟨dp', ?_⟩
    rw [e8]
    rw [if_neg (by omega)]
    show (wpt [40] _).bind _ = _
    rw [wp_y (by simp only [List.length_append]; omega), Option.bind_some, if_neg (by omega), if_neg (by omega), if_pos (by omega)]
    show cItems _ (x.items.map Int.ofNat) _ _ = _
    rw [h2]
    simp [lText]
   rw [if_neg e8] at h
   by_cases e9 : x.k = 9
   ·rw [if_pos e9] at h
    injection h with h
    injection h with h1 h2
    subst h1; subst h2
    rw [lT_cons, lt1_kw (by decide), lT_cons, lt1_plain k1.2, lT_cons, lt1_two, lText_app, lT_cons, lt1_two] at hl ⊢
    have hl' := hl
    simp only [List.length_append, lText, List.length_nil] at hl'
    refine ⟨max dp (deep + 1), ?_⟩
    rw [e9]
    rw [if_neg (by omega)]
    show (wpt (kwText 9) _).bind _ = _
    rw [wp_y (by simp only [List.length_append]; omega), Option.bind_some, if_neg (by omega), if_neg (by omega), if_neg (by omega), if_pos (by omega)]
    show (wpt (32 :: x.name) _).bind _ = _
    rw [wp_y (by simp only [List.length_append, List.length_cons, List.length_nil] at hl' ⊢; omega), Option.bind_some]
    show cSyms x.syms _ = _
    rw [cSyms_ok k2 (by simp only [List.length_append, List.length_cons, List.length_nil] at hl' ⊢; omega)]
    simp [lText, List.append_assoc]
   rw [if_neg e9] at h
   by_cases e10 : x.k = 10
   ·rw [if_pos e10] at h
    injection h with h
    injection h with h1 h2
    subst h1; subst h2
    have hd : digs 5 x.size = Lib.itoa x.g.size := by
     show _ = Lib.itoa (x.size : Int)
     unfold Lib.itoa
     rw [if_neg (by omega), Int.toNat_natCast]
     exact digs_dec 5 x.size (by omega) (by omega)
    rw [lT_cons, lt1_kw (by decide), lT_cons, lt1_plain k1.2, lT_cons, lt1_num, hd] at hl ⊢
    have hl' := hl
    simp only [List.length_append, lText, List.length_nil, List.length_cons] at hl'
    refine ⟨max dp (deep + 1), ?_⟩
    rw [e10]
    rw [if_neg (by omega)]
    show (wpt (kwText 10) _).bind _ = _
    rw [wp_y (by simp only [List.length_append]; omega), Option.bind_some, if_neg (by omega), if_neg (by omega), if_neg (by omega), if_neg (by omega), if_pos (by omega)]
    show wpt (32 :: (x.name ++ 32 :: Lib.itoa x.g.size)) _ = _
    rw [wp_y (by simp only [List.length_append, List.length_cons, List.length_nil] at hl' ⊢; omega)]
    simp [lText, List.append_assoc]
   rw [if_neg e10] at h
   by_cases e11 : x.k = 11
   ·rw [if_pos e11] at h
    obtain ⟨o', h1, rfl⟩ := map_some h
    simp only at hl ⊢
    rw [lT_cons, lt1_kw (by decide), lT_cons, lt1_plain k1.2, lT_cons, lt1_two, lText_app, lT_cons, lt1_two] at hl ⊢
    have hl' := hl
    simp only [List.length_append, lText, List.length_nil] at hl'
    obtain ⟨dp', h2⟩ := cFields_ok IH (t := t ++ kwText 11 ++ 32 :: x.name) (dp := max dp (deep + 1)) k3 h1 (by simp only [List.length_append, List.length_cons, List.length_nil] at hl' ⊢; omega)
    refine ⟨dp', ?_⟩
    rw [e11]
    rw [if_neg (by omega)]
    show (wpt (kwText 11) _).bind _ = _
    rw [wp_y (by simp only [List.length_append]; omega), Option.bind_some, if_neg (by omega), if_neg (by omega), if_neg (by omega), if_neg (by omega), if_neg (by omega), if_pos (by omega)]
    show (wpt (32 :: x.name) _).bind _ = _
    rw [wp_y (by simp only [List.length_append, List.length_cons, List.length_nil] at hl' ⊢; omega), Option.bind_some]
    show cFields _ (x.fields.map Fl.g) _ = _
    rw [h2]
    simp [lText, List.append_assoc]
   rw [if_neg e11] at h
   cases h
theorem read_br {l : List UInt8} {N : List Nd} (h : eRead l = .ok N) : ABr N := by
 unfold eRead at h
 cases hw : wWords l with
 | error e => rw [hw] at h; cases h
 | ok toks =>
  rw [hw] at h
  simp only at h
  have hT : TBr toks := fun t ht => by
   obtain ⟨i, hi, rfl⟩ := List.mem_iff_getElem.1 ht
   have := tcs_few hw hi
   unfold tokAt at this
   rw [List.getD_eq_getElem?_getD, List.getElem?_eq_getElem hi] at this
   exact this
  split at h
  ·cases h
  ·cases h
  ·rename_i n t r N1 e
   split at h
   ·injection h with h
    subst h
    exact (eType_br _ _ _ _ _ _ _ _ hT (fun x hx => by cases hx) e).2
   ·cases h
open Go.RowKit
structure LT (w : World) : Prop where
 lf : LF w
 tab : Tab w
 pos : 3 < w.heap.size
theorem LT.turn {w w' : World} (h : LT w) (ht : Turn w w' none) : LT w' := ⟨h.lf.turn ht, h.tab.same (World.grownBy.block ht _ h.pos (by simp)), Nat.lt_of_lt_of_le h.pos ht.size⟩
theorem ok_of {l : List UInt8} {N : List Nd} {a : Nat} (h : eRead l = .ok N) (hN : NOk N a) (ha : a ≤ 1500) : ∀ x ∈ N.map Nd.g, GOk x := by
 intro x hx
 obtain ⟨y, hy, rfl⟩ := List.mem_map.1 hx
 obtain ⟨k1, k2, k3, k4⟩ := read_br h y hy
 have hs := hN.small y hy
 refine ⟨by show y.syms.length ≤ _; omega, by show (y.items.map Int.ofNat).length ≤ _; rw [List.length_map]; omega, by show (y.fields.map Fl.g).length ≤ _; rw [List.length_map]; omega, by have := k1.1; show y.name.length ≤ _; omega, fun s hs => by have := (k2 s hs).1; omega, fun f hf => ?_, by show _ ≤ (y.size : Int) ∧ (y.size : Int) ≤ _; omega⟩
 obtain ⟨z, hz, rfl⟩ := List.mem_map.1 hf
 have := (k3 z hz).1
 show z.name.length ≤ _
 omega
structure Sv (w : World) (A : Option Addr) (n c : Nat) (gs : List Gn) : Prop where
 sc : Sc w w.heap.size A n gs
 ok : ∀ x ∈ gs, GOk x
 few : n ≤ 1000000
 cap : n ≤ c ∧ c ≤ maxLen
theorem Sv.turn {w w' : World} {A : Option Addr} {n c : Nat} {gs : List Gn} (h : Sv w A n c gs) (ht : Turn w w' none) : Sv w' A n c gs := ⟨(h.sc.turn0 ht (Nat.le_refl _)).mono ht.size, h.ok, h.few, h.cap⟩
theorem parse_ok {l : List UInt8} {N : List Nd} (h : eRead l = .ok N) (w : World) (hL : LF w) (hl : l.length ≤ 140737488355328) : Calls Tryz.prog 43 #[.string (txt l)] w fun e w' => ∃ A c, e = .returned (.tuple #[.agg #[.slice A N.length c], .int .i64 0, .int .i64 0]) ∧ Sv w' A N.length c (N.map Nd.g) ∧ N.length ≤ 200 ∧ Turn w w' none := by
 refine (parse_any l w hL hl).mono ?_
 rintro e w' (⟨N', v, a, q, rfl, ⟨R, hR, rfl⟩, hok, ha, ht⟩ | ⟨p, er, q, _⟩)
 ·rw [h] at q
  injection q with q
  subst q
  exact ⟨_, _, rfl, ⟨hR.sc, ok_of h hok ha, by have := hok.few; omega, hR.own.cap⟩, hok.few, ht⟩
 ·rw [h] at q; cases q
theorem show_ok {w : World} {A : Option Addr} {n c : Nat} {gs : List Gn} {t : List UInt8} {d : Nat} (h : cShow gs = some (t, d)) (hT : LT w) (hs : Sv w A n c gs) : Calls Tryz.prog 13 #[.agg #[.slice A n c]] w fun e w' => e = .returned (.tuple #[.string (txt t), .int .i64 0]) ∧ Turn w w' none := by
 refine (show_any itoa_ok hT.lf hT.tab hT.pos hs.sc (Nat.le_refl _) hs.few hs.ok hs.cap).mono ?_
 rintro e w' ⟨rfl, ht⟩
 unfold shV
 rw [h]
 exact ⟨rfl, ht⟩
theorem depth_ok {w : World} {A : Option Addr} {n c : Nat} {gs : List Gn} {t : List UInt8} {d : Nat} (h : cShow gs = some (t, d)) (hT : LT w) (hs : Sv w A n c gs) : Calls Tryz.prog 16 #[.agg #[.slice A n c]] w fun e w' => e = .returned (.int .i64 (d : Int)) ∧ Turn w w' none := by
 refine (depth_any itoa_ok hT.lf hT.tab hT.pos hs.sc (Nat.le_refl _) hs.few hs.ok hs.cap).mono ?_
 rintro e w' ⟨rfl, ht⟩
 unfold dpV
 rw [h]
 exact ⟨rfl, ht⟩
def lvT : List UInt8 := [114, 101, 99, 111, 114, 100, 32, 112, 123, 97, 63, 58, 40, 110, 117, 108, 108, 124, 112, 41, 59, 125]
def lvN : List Nd := [⟨11, [112], 0, [], [], [⟨[97], 1, true⟩]⟩, ⟨8, [], 0, [], [2, 0], []⟩, ⟨0, [], 0, [], [], []⟩]
theorem lv_read : eRead lvT = .ok lvN := by kernel_rfl
theorem lv_show : cShow (lvN.map Nd.g) = some (lvT, 3) := by kernel_rfl
theorem lv_txt : ((txt lvT).toList == ([114, 101, 99, 111, 114, 100, 32, 112, 123, 97, 63, 58, 40, 110, 117, 108, 108, 124, 112, 41, 59, 125] : List UInt8)) = true := by decide +kernel
theorem lives_any (w : World) (hT : LT w) : Calls Tryz.prog 12 #[] w fun e w' => e = .returned (.bool true) ∧ Turn w w' none := by
 have pa := parse_ok lv_read w hT.lf (by decide)
 rw [show lvN.length = 3 from rfl] at pa
 have sh := fun {w' : World} {A c} (ht : Turn w w' none) (hs : Sv w' A 3 c (lvN.map Nd.g)) => show_ok lv_show (hT.turn ht) hs
 have dp := fun {w' : World} {A c} (ht : Turn w w' none) (hs : Sv w' A 3 c (lvN.map Nd.g)) => depth_ok lv_show (hT.turn ht) hs
 have he := lv_txt
 go_enter Tryz.func12, Tryz.ntmps12
 go_wp2_with (first
  | (go_at_call 43; refine pa.mono ?_; rintro e w1 ⟨A, c, rfl, hs, _, ht1⟩)
  | (refine wp_var rfl rfl 24 _ _ rfl rfl rfl rfl zSch (fun _ => rfl) (xs := [.slice A 3 c]) (fun _ => rfl) rfl szSch (one1 rfl) ?_; intro g2 w2 hg2 hb2 ht2; have hs2 := hs.turn ht2)
  | (refine wp_ld rfl 24 _ rfl rfl hb3 (Sub.all [.slice A 3 c]) Tryz.underlying24 rfl szSch ?_)
  | (refine wp_ld rfl 24 _ rfl rfl hb2 (Sub.all [.slice A 3 c]) Tryz.underlying24 rfl szSch ?_)
  | (go_at_call 13; refine (sh (ht1.trans ht2) hs2).mono ?_; rintro e w3 ⟨rfl, ht3⟩; have hb3 := hb2.turn0 ht3; have c3 : w3.cell? ⟨g2, 0, none⟩ = some (.slice A 3 c) := hb3.ats rfl)
  | (go_at_call 16; refine (dp ((ht1.trans ht2).trans ht3) (hs2.turn ht3)).mono ?_; rintro e w4 ⟨rfl, ht4⟩))
 go_ret
 exact ⟨rfl, ((ht1.trans ht2).trans ht3).trans ht4⟩
theorem key_eq (l : List UInt8) : keyW l = isKey l := by
 unfold keyW isKey wordNo
 cases h : pWord l with
 | none => simp
 | some k =>
  obtain ⟨hk, rfl⟩ := pWord_some h
  rw [kwText_name k hk]
  show (decide (k < 6 ∨ 8 < k) && true) = decide (0 ≤ (k : Int) ∧ ((k : Int) < 6 ∨ 8 < (k : Int)))
  rw [Bool.and_true]
  exact decide_eq_decide.2 (by omega)
open Go.ChangeShapes Go.WideShapes Go.ChangeAt Go.RowKit
def strData {H : Type} (ss : List (List UInt8)) : DataW H := .agg (ss.map fun s => .lit (.string s))
theorem cells_of_strs {H : Type} {enc : TypeId × Value → H} {P : Program} {w : World} {base : Nat} {sp : Nat → Bool} {held : Bool} {fuel : Nat} {t e : TypeId} {n : Nat} {cs : List Value} {ss : List (List UInt8)} {p : List MemPlace}
  (ht : P.underlying t = some (.array n e)) (he : P.underlying e = some .string) (hce : P.cellsOf e = 1) (hct : P.cellsOf t = n)
  (h : DataW.trod enc P w base sp held fuel t cs = some (strData ss, p)) : cs = ss.map fun s => Value.string (txt s) := by
 cases fuel with
 | zero => simp [DataW.trod] at h
 | succ fuel =>
  simp only [DataW.trod, ht, hce, hct, Nat.mul_one] at h
  split at h
  ·rename_i hl
   obtain ⟨xs, hm, hx⟩ := Option.map_eq_some_iff.1 h
   have hxs : xs.map (·.1) = ss.map fun s => (DataW.lit (.string s) : DataW H) := by
    have := congrArg Prod.fst hx
    simpa [strData] using this
   have hxl : xs.length = n := by simpa using Lib.mapM_length hm
   have hsl : ss.length = n := by
    have := congrArg List.length hxs
    simp at this
    omega
   apply List.ext_getElem?
   intro i
   by_cases hi : i < n
   ·obtain ⟨b, hb, hf⟩ := Lib.mapM_at hm i i (by simp [hi])
    obtain ⟨s, hc, rfl, _⟩ := DataW.trod_string he hf
    have h1 : cs[i]? = some (.string s) := by
     have := congrArg (·[0]?) hc
     simpa [List.getElem?_take, List.getElem?_drop] using this
    have h2 : (xs.map (·.1))[i]? = some (DataW.lit (.string s.data.toList) : DataW H) := by simp [hb]
    rw [hxs] at h2
    simp only [List.getElem?_map, Option.map_eq_some_iff, DataW.lit.injEq, Lit.string.injEq] at h2
    obtain ⟨z', hz', hzz⟩ := h2
    rw [h1, List.getElem?_map, hz', hzz]
    show _ = some (Value.string (txt s.data.toList))
    rw [txt_of]
   ·rw [List.getElem?_eq_none (by omega), List.getElem?_eq_none (by simp; omega)]
  ·cases h
def laidRow (cs : List Value) : Obj → Obj
 | .cells _ t frozen => .cells cs.toArray t frozen
 | o => o
def intRow (k : IntKind) : DataW Unit → List Value
 | .agg l => l.map fun
  | .lit (.int _ n) => .int k n
  | _ => undef
 | _ => []
end Go.Proofs.YtgigiecdpjchkaaGreatDoor
namespace Go.Proofs.YtgigiecdpjchkaaGreatDoor.L7
open Go.ChangeShapes Go.WideShapes Go.ChangeAt Go.RowKit
theorem laid_pow : (Rows.laid_internal_strconv_uint64pow10 : DataW Unit) = Lib.tabData .u64 Lib.pow10Tab := by kernel_rfl
theorem laid_first : (Rows.laid_suffragan_parse_first : DataW Unit) = strData kwList := by kernel_rfl
theorem lay_of {W : World} (h : laidMetH Tryz.prog Rows.parseShowsRow.laid W) : LT W := by
 have h' : laidMet Tryz.prog [("math/bits.deBruijn32tab", Rows.laid_math_bits_deBruijn32tab), ("math/bits.deBruijn64tab", Rows.laid_math_bits_deBruijn64tab), ("internal/strconv.uint64pow10", Rows.laid_internal_strconv_uint64pow10), ("suffragan/parse.first", Rows.laid_suffragan_parse_first)] W := h
 rw [laid_pow, laid_first] at h'
 obtain ⟨ps, ⟨_, _, _, _, _, _, _, _, _, _, ⟨_, _, _, _, _, _, _, _, _, _, ⟨g0, t0, cs0, f0, p0, q0, hg0, ht0, hv0, hd0, ⟨g1, t1, cs1, f1, p1, q1, hg1, ht1, hv1, hd1, _, _⟩, _⟩, _⟩, _⟩, _, _⟩ := h'
 have n0 : Tryz.prog.globalNamed "internal/strconv.uint64pow10" = some 3 := by kernel_rfl
 have n1 : Tryz.prog.globalNamed "suffragan/parse.first" = some 1 := by kernel_rfl
 obtain rfl := Option.some.inj (n0.symm.trans hg0)
 obtain rfl := Option.some.inj (n1.symm.trans hg1)
 obtain rfl := Option.some.inj ((show (Tryz.prog.globals[3]?).map (·.type) = some 205 by kernel_rfl).symm.trans ht0)
 obtain rfl := Option.some.inj ((show (Tryz.prog.globals[1]?).map (·.type) = some 181 by kernel_rfl).symm.trans ht1)
 have T0 : Tab W := by
  unfold Tab Lib.TabIs
  rw [hv0, ← Lib.cells_of_tab Tryz.underlying205 Tryz.underlying133 (by kernel_rfl) (by kernel_rfl) hd0]
 have c1 := cells_of_strs Tryz.underlying181 Tryz.underlying9 (by kernel_rfl) (by kernel_rfl) hd1
 have a1 : LF W := fun i s hi => by
  have h := World.var?_cell n1 hv1 i
  rw [h, ← Array.getElem?_toList, c1, List.getElem?_map, hi]
  rfl
 refine ⟨a1, T0, World.block_lt_of_cell? W _ (T0.cell n0 0 (by decide))⟩
noncomputable def laidWorld (os : Os) : World :=
 { World.holding Tryz.prog os ⟨#[], #[], []⟩ with heap := ((((World.holding Tryz.prog os ⟨#[], #[], []⟩).heap.modify 5 (laidRow (intRow .u8 Rows.laid_math_bits_deBruijn32tab))).modify 6 (laidRow (intRow .u8 Rows.laid_math_bits_deBruijn64tab))).modify 3 (laidRow (Lib.pow10Tab.map fun z => Value.int .u64 z))).modify 1 (laidRow kwVals) }
theorem laid_met (os : Os) (args : Array Value) : laidMet Tryz.prog Rows.parseShowsRow.laid ((laidWorld os).forCall (fun _ _ => 0) ⟨#[], args, []⟩).memory :=
 laidMet_of_run' 8 (by kernel_rfl) (by kernel_rfl)
end Go.Proofs.YtgigiecdpjchkaaGreatDoor.L7
namespace Go.Proofs.YtgigiecdpjchkaaGreatDoor
open Go.RowKit
theorem rnode_any {w : World} {B : Nat} {v u : Value} {x y : Gn} (hx : NdV w B v x) (hy : NdV w B u y) (hB : B ≤ w.heap.size) (ls : x.syms.length ≤ 1000000) (li : x.items.length ≤ 1000000) (lf : x.fields.length ≤ 1000000) :
  Calls Tryz.prog 52 #[v, u] w fun e w' => e = .returned (.bool (decide (x = y))) ∧ Turn w w' none := by
 obtain ⟨As, sc, Ai, ic, Af, fc, rfl, r3, r4, r5⟩ := hx
 obtain ⟨Bs, tc, Bi, jc, Bf, gc, rfl, q3, q4, q5⟩ := hy
 have ex : x = y ↔ x.k = y.k ∧ x.name = y.name ∧ x.size = y.size ∧ x.syms = y.syms ∧ x.items = y.items ∧ x.fields = y.fields := by
  cases x; cases y; simp only [Gn.mk.injEq]
 by_cases n0 : x.k = y.k
 case neg =>
  have e0 : (x.k != y.k) = true := by rw [bne_iff_ne]; omega
  have H := hid (show decide (x = y) = false by simp [ex, n0])
  clear ex n0
  go_enter Tryz.func52, Tryz.ntmps52
  go_upto_region 1 with (first
   | (have q9 := hg; refine wp_bx rfl 64 _ rfl rfl ?_; intro g2 w2 hg2 hb2 ht2)
   | (refine wp_bx rfl 64 _ rfl rfl ?_; intro g w1 hg hb1 ht1))
  have hb3 := hb1.turn0 ht2
  have tt := ht1.trans ht2
  have k0 : w2.cell? ⟨g, 0, none⟩ = some (.int .i64 x.k) := hb3.ats (xs := [_, _, _, _, _, _]) rfl
  have k1 : w2.cell? ⟨g, 1, none⟩ = some (.string (txt x.name)) := hb3.ats (xs := [_, _, _, _, _, _]) rfl
  have k2 : w2.cell? ⟨g, 2, none⟩ = some (.int .i64 x.size) := hb3.ats (xs := [_, _, _, _, _, _]) rfl
  have k3 : w2.cell? ⟨g, 3, none⟩ = some (.slice As x.syms.length sc) := hb3.ats (xs := [_, _, _, _, _, _]) rfl
  have k4 : w2.cell? ⟨g, 4, none⟩ = some (.slice Ai x.items.length ic) := hb3.ats (xs := [_, _, _, _, _, _]) rfl
  have k5 : w2.cell? ⟨g, 5, none⟩ = some (.slice Af x.fields.length fc) := hb3.ats (xs := [_, _, _, _, _, _]) rfl
  have m0 : w2.cell? ⟨g2, 0, none⟩ = some (.int .i64 y.k) := hb2.ats (xs := [_, _, _, _, _, _]) rfl
  have m1 : w2.cell? ⟨g2, 1, none⟩ = some (.string (txt y.name)) := hb2.ats (xs := [_, _, _, _, _, _]) rfl
  have m2 : w2.cell? ⟨g2, 2, none⟩ = some (.int .i64 y.size) := hb2.ats (xs := [_, _, _, _, _, _]) rfl
  have m3 : w2.cell? ⟨g2, 3, none⟩ = some (.slice Bs y.syms.length tc) := hb2.ats (xs := [_, _, _, _, _, _]) rfl
  have m4 : w2.cell? ⟨g2, 4, none⟩ = some (.slice Bi y.items.length jc) := hb2.ats (xs := [_, _, _, _, _, _]) rfl
  have m5 : w2.cell? ⟨g2, 5, none⟩ = some (.slice Bf y.fields.length gc) := hb2.ats (xs := [_, _, _, _, _, _]) rfl
  go_wp2_with fail
  go_ret
  exact ⟨by rw [H.out]; rfl, tt⟩
 by_cases n1 : x.name = y.name
 case neg =>
  have e0 : (x.k != y.k) = false := by rw [n0]; simp
  have e1 : ((txt x.name).toList == (txt y.name).toList) = false := by rw [tx_beq]; simpa using n1
  have e1b : ((txt x.name).toList != (txt y.name).toList) = true := by rw [bne, e1]; rfl
  have H := hid (show decide (x = y) = false by simp [ex, n1])
  clear ex n0 n1
  go_enter Tryz.func52, Tryz.ntmps52
  go_upto_region 1 with (first
   | (have q9 := hg; refine wp_bx rfl 64 _ rfl rfl ?_; intro g2 w2 hg2 hb2 ht2)
   | (refine wp_bx rfl 64 _ rfl rfl ?_; intro g w1 hg hb1 ht1))
  have hb3 := hb1.turn0 ht2
  have tt := ht1.trans ht2
  have k0 : w2.cell? ⟨g, 0, none⟩ = some (.int .i64 x.k) := hb3.ats (xs := [_, _, _, _, _, _]) rfl
  have k1 : w2.cell? ⟨g, 1, none⟩ = some (.string (txt x.name)) := hb3.ats (xs := [_, _, _, _, _, _]) rfl
  have k2 : w2.cell? ⟨g, 2, none⟩ = some (.int .i64 x.size) := hb3.ats (xs := [_, _, _, _, _, _]) rfl
  have k3 : w2.cell? ⟨g, 3, none⟩ = some (.slice As x.syms.length sc) := hb3.ats (xs := [_, _, _, _, _, _]) rfl
  have k4 : w2.cell? ⟨g, 4, none⟩ = some (.slice Ai x.items.length ic) := hb3.ats (xs := [_, _, _, _, _, _]) rfl
  have k5 : w2.cell? ⟨g, 5, none⟩ = some (.slice Af x.fields.length fc) := hb3.ats (xs := [_, _, _, _, _, _]) rfl
  have m0 : w2.cell? ⟨g2, 0, none⟩ = some (.int .i64 y.k) := hb2.ats (xs := [_, _, _, _, _, _]) rfl
  have m1 : w2.cell? ⟨g2, 1, none⟩ = some (.string (txt y.name)) := hb2.ats (xs := [_, _, _, _, _, _]) rfl
  have m2 : w2.cell? ⟨g2, 2, none⟩ = some (.int .i64 y.size) := hb2.ats (xs := [_, _, _, _, _, _]) rfl
  have m3 : w2.cell? ⟨g2, 3, none⟩ = some (.slice Bs y.syms.length tc) := hb2.ats (xs := [_, _, _, _, _, _]) rfl
  have m4 : w2.cell? ⟨g2, 4, none⟩ = some (.slice Bi y.items.length jc) := hb2.ats (xs := [_, _, _, _, _, _]) rfl
  have m5 : w2.cell? ⟨g2, 5, none⟩ = some (.slice Bf y.fields.length gc) := hb2.ats (xs := [_, _, _, _, _, _]) rfl
  go_wp2_with fail
  go_ret
  exact ⟨by rw [H.out]; rfl, tt⟩
 by_cases n2 : x.size = y.size
 case neg =>
  have e0 : (x.k != y.k) = false := by rw [n0]; simp
  have e1 : ((txt x.name).toList == (txt y.name).toList) = true := by rw [tx_beq]; simpa using n1
  have e1b : ((txt x.name).toList != (txt y.name).toList) = false := by rw [bne, e1]; rfl
  have e2 : (x.size != y.size) = true := by rw [bne_iff_ne]; omega
  have H := hid (show decide (x = y) = false by simp [ex, n2])
  clear ex n0 n1 n2
  go_enter Tryz.func52, Tryz.ntmps52
  go_upto_region 1 with (first
   | (have q9 := hg; refine wp_bx rfl 64 _ rfl rfl ?_; intro g2 w2 hg2 hb2 ht2)
   | (refine wp_bx rfl 64 _ rfl rfl ?_; intro g w1 hg hb1 ht1))
  have hb3 := hb1.turn0 ht2
  have tt := ht1.trans ht2
  have k0 : w2.cell? ⟨g, 0, none⟩ = some (.int .i64 x.k) := hb3.ats (xs := [_, _, _, _, _, _]) rfl
  have k1 : w2.cell? ⟨g, 1, none⟩ = some (.string (txt x.name)) := hb3.ats (xs := [_, _, _, _, _, _]) rfl
  have k2 : w2.cell? ⟨g, 2, none⟩ = some (.int .i64 x.size) := hb3.ats (xs := [_, _, _, _, _, _]) rfl
  have k3 : w2.cell? ⟨g, 3, none⟩ = some (.slice As x.syms.length sc) := hb3.ats (xs := [_, _, _, _, _, _]) rfl
  have k4 : w2.cell? ⟨g, 4, none⟩ = some (.slice Ai x.items.length ic) := hb3.ats (xs := [_, _, _, _, _, _]) rfl
  have k5 : w2.cell? ⟨g, 5, none⟩ = some (.slice Af x.fields.length fc) := hb3.ats (xs := [_, _, _, _, _, _]) rfl
  have m0 : w2.cell? ⟨g2, 0, none⟩ = some (.int .i64 y.k) := hb2.ats (xs := [_, _, _, _, _, _]) rfl
  have m1 : w2.cell? ⟨g2, 1, none⟩ = some (.string (txt y.name)) := hb2.ats (xs := [_, _, _, _, _, _]) rfl
  have m2 : w2.cell? ⟨g2, 2, none⟩ = some (.int .i64 y.size) := hb2.ats (xs := [_, _, _, _, _, _]) rfl
  have m3 : w2.cell? ⟨g2, 3, none⟩ = some (.slice Bs y.syms.length tc) := hb2.ats (xs := [_, _, _, _, _, _]) rfl
  have m4 : w2.cell? ⟨g2, 4, none⟩ = some (.slice Bi y.items.length jc) := hb2.ats (xs := [_, _, _, _, _, _]) rfl
  have m5 : w2.cell? ⟨g2, 5, none⟩ = some (.slice Bf y.fields.length gc) := hb2.ats (xs := [_, _, _, _, _, _]) rfl
  go_wp2_with fail
  go_ret
  exact ⟨by rw [H.out]; rfl, tt⟩
 by_cases n3 : x.fields.length = y.fields.length
 case neg =>
  have e0 : (x.k != y.k) = false := by rw [n0]; simp
  have e1 : ((txt x.name).toList == (txt y.name).toList) = true := by rw [tx_beq]; simpa using n1
  have e1b : ((txt x.name).toList != (txt y.name).toList) = false := by rw [bne, e1]; rfl
  have e2 : (x.size != y.size) = false := by rw [n2]; simp
  have e3 : ((x.fields.length : Int) != (y.fields.length : Int)) = true := by rw [bne_iff_ne]; omega
  have H := hid (show decide (x = y) = false by rw [decide_eq_false_iff_not]; rintro rfl; exact n3 rfl)
  clear ex n0 n1 n2 n3
  go_enter Tryz.func52, Tryz.ntmps52
  go_upto_region 1 with (first
   | (have q9 := hg; refine wp_bx rfl 64 _ rfl rfl ?_; intro g2 w2 hg2 hb2 ht2)
   | (refine wp_bx rfl 64 _ rfl rfl ?_; intro g w1 hg hb1 ht1))
  have hb3 := hb1.turn0 ht2
  have tt := ht1.trans ht2
  have k0 : w2.cell? ⟨g, 0, none⟩ = some (.int .i64 x.k) := hb3.ats (xs := [_, _, _, _, _, _]) rfl
  have k1 : w2.cell? ⟨g, 1, none⟩ = some (.string (txt x.name)) := hb3.ats (xs := [_, _, _, _, _, _]) rfl
  have k2 : w2.cell? ⟨g, 2, none⟩ = some (.int .i64 x.size) := hb3.ats (xs := [_, _, _, _, _, _]) rfl
  have k3 : w2.cell? ⟨g, 3, none⟩ = some (.slice As x.syms.length sc) := hb3.ats (xs := [_, _, _, _, _, _]) rfl
  have k4 : w2.cell? ⟨g, 4, none⟩ = some (.slice Ai x.items.length ic) := hb3.ats (xs := [_, _, _, _, _, _]) rfl
  have k5 : w2.cell? ⟨g, 5, none⟩ = some (.slice Af x.fields.length fc) := hb3.ats (xs := [_, _, _, _, _, _]) rfl
  have m0 : w2.cell? ⟨g2, 0, none⟩ = some (.int .i64 y.k) := hb2.ats (xs := [_, _, _, _, _, _]) rfl
  have m1 : w2.cell? ⟨g2, 1, none⟩ = some (.string (txt y.name)) := hb2.ats (xs := [_, _, _, _, _, _]) rfl
  have m2 : w2.cell? ⟨g2, 2, none⟩ = some (.int .i64 y.size) := hb2.ats (xs := [_, _, _, _, _, _]) rfl
  have m3 : w2.cell? ⟨g2, 3, none⟩ = some (.slice Bs y.syms.length tc) := hb2.ats (xs := [_, _, _, _, _, _]) rfl
  have m4 : w2.cell? ⟨g2, 4, none⟩ = some (.slice Bi y.items.length jc) := hb2.ats (xs := [_, _, _, _, _, _]) rfl
  have m5 : w2.cell? ⟨g2, 5, none⟩ = some (.slice Bf y.fields.length gc) := hb2.ats (xs := [_, _, _, _, _, _]) rfl
  go_wp2_with fail
  go_ret
  exact ⟨by rw [H.out]; rfl, tt⟩
 have e0 : (x.k != y.k) = false := by rw [n0]; simp
 have e1 : ((txt x.name).toList == (txt y.name).toList) = true := by rw [tx_beq]; simpa using n1
 have e1b : ((txt x.name).toList != (txt y.name).toList) = false := by rw [bne, e1]; rfl
 have e2 : (x.size != y.size) = false := by rw [n2]; simp
 have e3 : ((x.fields.length : Int) != (y.fields.length : Int)) = false := by rw [n3]; simp
 have HN := hid (show (x = y) ↔ x.fields = y.fields ∧ x.syms = y.syms ∧ x.items = y.items by rw [ex]; constructor <;> (intro h; simp_all))
 have HL := hid n3
 clear ex n0 n1 n2 n3
 go_enter Tryz.func52, Tryz.ntmps52
 go_upto_region 1 with (first
  | (have q9 := hg; refine wp_bx rfl 64 _ rfl rfl ?_; intro g2 w2 hg2 hb2 ht2)
  | (refine wp_bx rfl 64 _ rfl rfl ?_; intro g w1 hg hb1 ht1))
 have hb3 := hb1.turn0 ht2
 have tt := ht1.trans ht2
 have k0 : w2.cell? ⟨g, 0, none⟩ = some (.int .i64 x.k) := hb3.ats (xs := [_, _, _, _, _, _]) rfl
 have k1 : w2.cell? ⟨g, 1, none⟩ = some (.string (txt x.name)) := hb3.ats (xs := [_, _, _, _, _, _]) rfl
 have k2 : w2.cell? ⟨g, 2, none⟩ = some (.int .i64 x.size) := hb3.ats (xs := [_, _, _, _, _, _]) rfl
 have k3 : w2.cell? ⟨g, 3, none⟩ = some (.slice As x.syms.length sc) := hb3.ats (xs := [_, _, _, _, _, _]) rfl
 have k4 : w2.cell? ⟨g, 4, none⟩ = some (.slice Ai x.items.length ic) := hb3.ats (xs := [_, _, _, _, _, _]) rfl
 have k5 : w2.cell? ⟨g, 5, none⟩ = some (.slice Af x.fields.length fc) := hb3.ats (xs := [_, _, _, _, _, _]) rfl
 have m0 : w2.cell? ⟨g2, 0, none⟩ = some (.int .i64 y.k) := hb2.ats (xs := [_, _, _, _, _, _]) rfl
 have m1 : w2.cell? ⟨g2, 1, none⟩ = some (.string (txt y.name)) := hb2.ats (xs := [_, _, _, _, _, _]) rfl
 have m2 : w2.cell? ⟨g2, 2, none⟩ = some (.int .i64 y.size) := hb2.ats (xs := [_, _, _, _, _, _]) rfl
 have m3 : w2.cell? ⟨g2, 3, none⟩ = some (.slice Bs y.syms.length tc) := hb2.ats (xs := [_, _, _, _, _, _]) rfl
 have m4 : w2.cell? ⟨g2, 4, none⟩ = some (.slice Bi y.items.length jc) := hb2.ats (xs := [_, _, _, _, _, _]) rfl
 have m5 : w2.cell? ⟨g2, 5, none⟩ = some (.slice Bf y.fields.length gc) := hb2.ats (xs := [_, _, _, _, _, _]) rfl
 go_wp2_with fail
 go_loopw [5] (fun i wr => ∃ j : Nat, j ≤ x.fields.length ∧ i = .int .i64 (j : Int) ∧ Hid (x.fields.take j = y.fields.take j) ∧ Turn w2 wr none) (fun i _ => (x.fields.length - intOf i).toNat)
 case atStart => exact ⟨0, by omega, rfl, hid rfl, Turn.refl w2 none⟩
 case round =>
  obtain ⟨j, hj, rfl, HE, htr⟩ := hrel
  have hwr : wrap64 ((j : Int) + 1) = (j : Int) + 1 := by unfold wrap64; omega
  have k5' := (htr.cell (a := ⟨g, 5, none⟩) hb3.lt (by simp)).trans k5
  have m5' := (htr.cell (a := ⟨g2, 5, none⟩) hb2.lt (by simp)).trans m5
  have tr := tt.trans htr
  by_cases hjn : j < x.fields.length
  ·have hjk : j < y.fields.length := by have := HL.out; omega
   obtain ⟨a, ha⟩ : ∃ a, x.fields[j]? = some a := ⟨x.fields[j], List.getElem?_eq_getElem hjn⟩
   obtain ⟨b, hb⟩ : ∃ b, y.fields[j]? = some b := ⟨y.fields[j], List.getElem?_eq_getElem hjk⟩
   obtain ⟨b1, o1, rfl, _, h1⟩ := (r5.turn0 tr hB).head (by omega)
   obtain ⟨b2, o2, rfl, _, h2⟩ := (q5.turn0 tr hB).head (by omega)
   obtain ⟨p0, p1, p2⟩ := vfs_at ha
   obtain ⟨s0, s1, s2⟩ := vfs_at hb
   have a0 := h1 _ _ p0
   have a1 : wr.cell? ⟨b1, o1 + j * 3 + 1, none⟩ = some (.bool a.has) := by rw [Nat.add_assoc]; exact h1 _ _ p1
   have a2 : wr.cell? ⟨b1, o1 + j * 3 + 2, none⟩ = some (.int .i64 a.ty) := by rw [Nat.add_assoc]; exact h1 _ _ p2
   have d0 := h2 _ _ s0
   have d1 : wr.cell? ⟨b2, o2 + j * 3 + 1, none⟩ = some (.bool b.has) := by rw [Nat.add_assoc]; exact h2 _ _ s1
   have d2 : wr.cell? ⟨b2, o2 + j * 3 + 2, none⟩ = some (.int .i64 b.ty) := by rw [Nat.add_assoc]; exact h2 _ _ s2
   have hgd : Tryz.prog.eqGuardType Tryz.prog.depth 119 = false := by kernel_rfl
   have HX := hid ha
   have HY := hid hb
   clear p0 p1 p2 s0 s1 s2 h1 h2 ha hb k0 k1 k2 k3 k4 k5 m0 m1 m2 m3 m4 m5 e0 e1 e1b e2 e3
   by_cases hxy : a = b
   ·have e := feq a b
    rw [decide_eq_true hxy] at e
    have HXY := hid hxy
    clear hxy
    go_wp2_with (fail)
    refine wp_region_noPanic ?_
    refine wp_region_held_drew (S := (fun W => W.cell? ⟨g, 5, none⟩ = some (.slice (some ⟨b1, o1, none⟩) x.fields.length fc) ∧ W.cell? ⟨g2, 5, none⟩ = some (.slice (some ⟨b2, o2, none⟩) y.fields.length gc) ∧ W.cell? ⟨b1, o1 + j * 3, none⟩ = some (.string (txt a.name)) ∧ W.cell? ⟨b1, o1 + j * 3 + 1, none⟩ = some (.bool a.has) ∧ W.cell? ⟨b1, o1 + j * 3 + 2, none⟩ = some (.int .i64 a.ty) ∧ W.cell? ⟨b2, o2 + j * 3, none⟩ = some (.string (txt b.name)) ∧ W.cell? ⟨b2, o2 + j * 3 + 1, none⟩ = some (.bool b.has) ∧ W.cell? ⟨b2, o2 + j * 3 + 2, none⟩ = some (.int .i64 b.ty))) (by kernel_rfl) (⟨k5', m5', a0, a1, a2, d0, d1, d2⟩) (fun hHeld => ?_)
    (first | refine tkN 0 ?_ | refine tkY 0 _ ?_); (try simp only [Act.put, zs])
    (first | refine tkN 1 ?_ | refine tkY 1 _ ?_); (try simp only [Act.put, zs])
    (first | refine tkN 2 ?_ | refine tkY 2 _ ?_); (try simp only [Act.put, zs])
    (first | refine tkN 3 ?_ | refine tkY 3 _ ?_); (try simp only [Act.put, zs])
    (first | refine tkN 4 ?_ | refine tkY 4 _ ?_); (try simp only [Act.put, zs])
    (first | refine tkN 5 ?_ | refine tkY 5 _ ?_); (try simp only [Act.put, zs])
    (first | refine tkN 6 ?_ | refine tkY 6 _ ?_); (try simp only [Act.put, zs])
    (first | refine tkN 7 ?_ | refine tkY 7 _ ?_); (try simp only [Act.put, zs])
    (first | refine tkN 8 ?_ | refine tkY 8 _ ?_); (try simp only [Act.put, zs])
    (first | refine tkN 9 ?_ | refine tkY 9 _ ?_); (try simp only [Act.put, zs])
    (first | refine tkN 10 ?_ | refine tkY 10 _ ?_); (try simp only [Act.put, zs])
    refine wpAnyH_done (by kernel_rfl) ?_ _
    refine NoPanic.normal ?_
    clear hHeld
    go_wp2
    refine ⟨⟨j + 1, by omega, by go_num, hid (take_next1 HX.out (by rw [HXY.out]; exact HY.out) HE.out), htr.drew⟩, by simp [intOf]; omega⟩
   ·have e := feq a b
    rw [decide_eq_false hxy] at e
    have H := hid (show decide (x = y) = false by
     rw [decide_eq_false_iff_not, HN.out]
     rintro ⟨h1, _⟩
     have hx := HX.out
     rw [h1, HY.out] at hx
     exact hxy (Option.some.inj hx).symm)
    clear hxy
    go_wp2_with (fail)
    refine wp_region_noPanic ?_
    refine wp_region_held_drew (S := (fun W => W.cell? ⟨g, 5, none⟩ = some (.slice (some ⟨b1, o1, none⟩) x.fields.length fc) ∧ W.cell? ⟨g2, 5, none⟩ = some (.slice (some ⟨b2, o2, none⟩) y.fields.length gc) ∧ W.cell? ⟨b1, o1 + j * 3, none⟩ = some (.string (txt a.name)) ∧ W.cell? ⟨b1, o1 + j * 3 + 1, none⟩ = some (.bool a.has) ∧ W.cell? ⟨b1, o1 + j * 3 + 2, none⟩ = some (.int .i64 a.ty) ∧ W.cell? ⟨b2, o2 + j * 3, none⟩ = some (.string (txt b.name)) ∧ W.cell? ⟨b2, o2 + j * 3 + 1, none⟩ = some (.bool b.has) ∧ W.cell? ⟨b2, o2 + j * 3 + 2, none⟩ = some (.int .i64 b.ty))) (by kernel_rfl) (⟨k5', m5', a0, a1, a2, d0, d1, d2⟩) (fun hHeld => ?_)
    (first | refine tkN 0 ?_ | refine tkY 0 _ ?_); (try simp only [Act.put, zs])
    (first | refine tkN 1 ?_ | refine tkY 1 _ ?_); (try simp only [Act.put, zs])
    (first | refine tkN 2 ?_ | refine tkY 2 _ ?_); (try simp only [Act.put, zs])
    (first | refine tkN 3 ?_ | refine tkY 3 _ ?_); (try simp only [Act.put, zs])
    (first | refine tkN 4 ?_ | refine tkY 4 _ ?_); (try simp only [Act.put, zs])
    (first | refine tkN 5 ?_ | refine tkY 5 _ ?_); (try simp only [Act.put, zs])
    (first | refine tkN 6 ?_ | refine tkY 6 _ ?_); (try simp only [Act.put, zs])
    (first | refine tkN 7 ?_ | refine tkY 7 _ ?_); (try simp only [Act.put, zs])
    (first | refine tkN 8 ?_ | refine tkY 8 _ ?_); (try simp only [Act.put, zs])
    (first | refine tkN 9 ?_ | refine tkY 9 _ ?_); (try simp only [Act.put, zs])
    (first | refine tkN 10 ?_ | refine tkY 10 _ ?_); (try simp only [Act.put, zs])
    refine wpAnyH_done (by kernel_rfl) ?_ _
    refine NoPanic.normal ?_
    clear hHeld
    go_wp2
    go_ret
    exact ⟨by rw [H.out]; rfl, tr.drew⟩
  ·obtain rfl : j = x.fields.length := by omega
   have hf : x.fields = y.fields := by
    have h := HE.out
    rwa [List.take_length, HL.out, List.take_length] at h
   have k3' := (htr.cell (a := ⟨g, 3, none⟩) hb3.lt (by simp)).trans k3
   have m3' := (htr.cell (a := ⟨g2, 3, none⟩) hb2.lt (by simp)).trans m3
   have k4' := (htr.cell (a := ⟨g, 4, none⟩) hb3.lt (by simp)).trans k4
   have m4' := (htr.cell (a := ⟨g2, 4, none⟩) hb2.lt (by simp)).trans m4
   have hsz := htr.size
   have te := rtexts_any As Bs _ _ sc tc x.syms y.syms B wr rfl rfl (r3.turn0 tr hB) (q3.turn0 tr hB) (Nat.le_trans hB tr.size) ls
   have te2 := fun {w3 : World} (h : Turn wr w3 none) => rints_any Ai Bi _ _ ic jc x.items y.items B w3 rfl rfl ((r4.turn0 tr hB).turn0 h (Nat.le_trans hB tr.size)) ((q4.turn0 tr hB).turn0 h (Nat.le_trans hB tr.size)) (Nat.le_trans (Nat.le_trans hB tr.size) h.size) li
   have k4n := fun {w3 : World} (h : Turn wr w3 none) => (h.cell (a := ⟨g, 4, none⟩) (Nat.lt_of_lt_of_le hb3.lt hsz) (by simp)).trans k4'
   have m4n := fun {w3 : World} (h : Turn wr w3 none) => (h.cell (a := ⟨g2, 4, none⟩) (Nat.lt_of_lt_of_le hb2.lt hsz) (by simp)).trans m4'
   have HF := hid hf
   clear k0 k1 k2 k3 k4 k5 m0 m1 m2 m3 m4 m5 e0 e1 e1b e2 e3 hf k4' m4'
   by_cases hs : x.syms = y.syms
   ·have es : (x.syms == y.syms) = true := by simpa using hs
    have H := hid (show decide (x = y) = (x.items == y.items) by
     rw [Bool.eq_iff_iff, decide_eq_true_iff, beq_iff_eq, HN.out]
     exact ⟨fun h => h.2.2, fun h => ⟨HF.out, hs, h⟩⟩)
    rw [es] at te
    clear hs es
    go_wp2_with (first
     | (go_at_call 86; refine te.mono ?_; rintro e w3 ⟨rfl, ht3⟩; have k4' := k4n ht3; have m4' := m4n ht3)
     | (go_at_call 87; refine (te2 ht3).mono ?_; rintro e w4 ⟨rfl, ht4⟩))
    go_ret
    exact ⟨by rw [H.out]; rfl, (tr.trans ht3).trans ht4⟩
   ·have es : (x.syms == y.syms) = false := by simpa using hs
    have H := hid (show decide (x = y) = false by
     rw [decide_eq_false_iff_not, HN.out]
     rintro ⟨_, h, _⟩
     exact hs h)
    rw [es] at te
    clear hs es
    go_wp2_with (go_at_call 86; refine te.mono ?_; rintro e w3 ⟨rfl, ht3⟩)
    go_ret
    exact ⟨by rw [H.out]; rfl, tr.trans ht3⟩
open Go.RowKit
theorem keepc {w w' : World} {a : Addr} {v : Value} (h : Turn w w' none) (c : w.cell? a = some v) : w'.cell? a = some v := (h.cell (World.block_lt_of_cell? w _ c) (by simp)).trans c
theorem Sc.cells {w : World} {B n j : Nat} {A : Option Addr} {gs : List Gn} {x : Gn} (h : Sc w B A n gs) (hx : gs[j]? = some x) : ∃ b off As sc Ai ic Af fc, A = some ⟨b, off, none⟩ ∧
  NdV w B (.agg #[.int .i64 x.k, .string (txt x.name), .int .i64 x.size, .slice As x.syms.length sc, .slice Ai x.items.length ic, .slice Af x.fields.length fc]) x ∧
  w.cell? ⟨b, off + j * 6, none⟩ = some (.int .i64 x.k) ∧ w.cell? ⟨b, off + j * 6 + 1, none⟩ = some (.string (txt x.name)) ∧ w.cell? ⟨b, off + j * 6 + 2, none⟩ = some (.int .i64 x.size) ∧
  w.cell? ⟨b, off + j * 6 + 3, none⟩ = some (.slice As x.syms.length sc) ∧ w.cell? ⟨b, off + j * 6 + 4, none⟩ = some (.slice Ai x.items.length ic) ∧ w.cell? ⟨b, off + j * 6 + 5, none⟩ = some (.slice Af x.fields.length fc) := by
 obtain ⟨h1, vs, h2, h3⟩ := h
 have hi : j < gs.length := (List.getElem?_eq_some_iff.1 hx).1
 obtain ⟨b, off, rfl, _, e3⟩ := h2.head (by omega)
 have hn := h3 j x hx
 obtain ⟨v3, e3', A3, c3, rfl, r3, _⟩ := hn.syms
 obtain ⟨v4, e4, A4, c4, rfl, r4, _⟩ := hn.items
 obtain ⟨v5, e5, A5, c5, rfl, r5, _⟩ := hn.fields
 refine ⟨b, off, A3, c3, A4, c4, A5, c5, rfl, ⟨A3, c3, A4, c4, A5, c5, rfl, r3, r4, r5⟩, e3 _ _ hn.k, ?_, ?_, ?_, ?_, ?_⟩
 ·rw [Nat.add_assoc]; exact e3 _ _ hn.name
 ·rw [Nat.add_assoc]; exact e3 _ _ hn.size
 ·rw [Nat.add_assoc]; exact e3 _ _ e3'
 ·rw [Nat.add_assoc]; exact e3 _ _ e4
 ·rw [Nat.add_assoc]; exact e3 _ _ e5
theorem rsame_any {A B : Option Addr} {n m c d : Nat} {l k : List Gn} {D : Nat} {w : World} (ha : Sc w D A n l) (hb : Sc w D B m k) (hD : D ≤ w.heap.size) (hn : n ≤ 1000000) (hs : ∀ x ∈ l, x.syms.length ≤ 1000000 ∧ x.items.length ≤ 1000000 ∧ x.fields.length ≤ 1000000) :
  Calls Tryz.prog 25 #[.agg #[.slice A n c], .agg #[.slice B m d]] w fun e w' => e = .returned (.bool (l == k)) ∧ Turn w w' none := by
 have hl := ha.1
 have hk := hb.1
 by_cases hnm : n = m
 ·subst hnm
  have hnn : ((n : Int) != (n : Int)) = false := by simp
  have hlk : l.length = k.length := by omega
  have HA := hid hl
  have HB := hid hk
  clear hl hk
  go_enter Tryz.func25, Tryz.ntmps25
  go_upto_region 1 with (first
   | (have q9 := hg; refine wp_bx rfl 24 _ rfl rfl ?_; intro g2 w2 hg2 hb2 ht2)
   | (refine wp_bx rfl 24 _ rfl rfl ?_; intro g w1 hg hb1 ht1))
  have hb3 := hb1.turn0 ht2
  have tt := ht1.trans ht2
  have k0 : w2.cell? ⟨g, 0, none⟩ = some (.slice A n c) := hb3.ats (xs := [_]) rfl
  have m0 : w2.cell? ⟨g2, 0, none⟩ = some (.slice B n d) := hb2.ats (xs := [_]) rfl
  go_wp2_with fail
  go_loopw [5] (fun i wr => ∃ j : Nat, j ≤ n ∧ i = .int .i64 (j : Int) ∧ Hid (l.take j = k.take j) ∧ Turn w2 wr none) (fun i _ => (n - intOf i).toNat)
  case atStart => exact ⟨0, by omega, rfl, hid rfl, Turn.refl w2 none⟩
  case round =>
   obtain ⟨j, hj, rfl, HE, htr⟩ := hrel
   have hwr : wrap64 ((j : Int) + 1) = (j : Int) + 1 := by unfold wrap64; omega
   have k0' := keepc htr k0
   have m0' := keepc htr m0
   have tr := tt.trans htr
   by_cases hjn : j < n
   ·have hjl : j < l.length := by rw [HA.out]; exact hjn
    have hjk : j < k.length := by rw [HB.out]; exact hjn
    obtain ⟨x, hx⟩ : ∃ x, l[j]? = some x := ⟨l[j], List.getElem?_eq_getElem hjl⟩
    obtain ⟨y, hy⟩ : ∃ y, k[j]? = some y := ⟨k[j], List.getElem?_eq_getElem hjk⟩
    obtain ⟨b1, o1, As, sc, Ai, ic, Af, fc, rfl, v1, a0, a1, a2, a3, a4, a5⟩ := (ha.turn0 tr hD).cells hx
    obtain ⟨b2, o2, Bs, tc, Bi, jc, Bf, gc, rfl, v2, d0, d1, d2, d3, d4, d5⟩ := (hb.turn0 tr hD).cells hy
    obtain ⟨l1, l2, l3⟩ := hs x (List.mem_of_getElem? hx)
    have hDr : D ≤ wr.heap.size := Nat.le_trans hD tr.size
    have nd := rnode_any (v1.turn0 (Turn.refl wr none).drew hDr) (v2.turn0 (Turn.refl wr none).drew hDr) hDr l1 l2 l3
    have HX := hid hx
    have HY := hid hy
    clear hx hy v1 v2 hjl hjk k0 m0
    by_cases hxy : x = y
    ·rw [decide_eq_true hxy] at nd
     have HXY := hid hxy
     clear hxy
     go_wp2_with (fail)
     refine wp_region_noPanic ?_
     refine wp_region_held_drew (S := (fun W => W.cell? ⟨g, 0, none⟩ = some (.slice (some ⟨b1, o1, none⟩) n c) ∧ W.cell? ⟨g2, 0, none⟩ = some (.slice (some ⟨b2, o2, none⟩) n d) ∧ W.cell? ⟨b1, o1 + j * 6, none⟩ = some (.int .i64 x.k) ∧ W.cell? ⟨b1, o1 + j * 6 + 1, none⟩ = some (.string (txt x.name)) ∧ W.cell? ⟨b1, o1 + j * 6 + 2, none⟩ = some (.int .i64 x.size) ∧ W.cell? ⟨b1, o1 + j * 6 + 3, none⟩ = some (.slice As x.syms.length sc) ∧ W.cell? ⟨b1, o1 + j * 6 + 4, none⟩ = some (.slice Ai x.items.length ic) ∧ W.cell? ⟨b1, o1 + j * 6 + 5, none⟩ = some (.slice Af x.fields.length fc) ∧ W.cell? ⟨b2, o2 + j * 6, none⟩ = some (.int .i64 y.k) ∧ W.cell? ⟨b2, o2 + j * 6 + 1, none⟩ = some (.string (txt y.name)) ∧ W.cell? ⟨b2, o2 + j * 6 + 2, none⟩ = some (.int .i64 y.size) ∧ W.cell? ⟨b2, o2 + j * 6 + 3, none⟩ = some (.slice Bs y.syms.length tc) ∧ W.cell? ⟨b2, o2 + j * 6 + 4, none⟩ = some (.slice Bi y.items.length jc) ∧ W.cell? ⟨b2, o2 + j * 6 + 5, none⟩ = some (.slice Bf y.fields.length gc))) (by kernel_rfl) (⟨k0', m0', a0, a1, a2, a3, a4, a5, d0, d1, d2, d3, d4, d5⟩) (fun hHeld => ?_)
     (first | refine tkN 0 ?_ | refine tkY 0 _ ?_); (try simp only [Act.put, zs])
     (first | refine tkN 1 ?_ | refine tkY 1 _ ?_); (try simp only [Act.put, zs])
     (first | refine tkN 2 ?_ | refine tkY 2 _ ?_); (try simp only [Act.put, zs])
     (first | refine tkN 3 ?_ | refine tkY 3 _ ?_); (try simp only [Act.put, zs])
     (first | refine tkN 4 ?_ | refine tkY 4 _ ?_); (try simp only [Act.put, zs])
     (first | refine tkN 5 ?_ | refine tkY 5 _ ?_); (try simp only [Act.put, zs])
     (first | refine tkN 6 ?_ | refine tkY 6 _ ?_); (try simp only [Act.put, zs])
     (first | refine tkN 7 ?_ | refine tkY 7 _ ?_); (try simp only [Act.put, zs])
     (first | refine tkN 8 ?_ | refine tkY 8 _ ?_); (try simp only [Act.put, zs])
     (first | refine tkN 9 ?_ | refine tkY 9 _ ?_); (try simp only [Act.put, zs])
     refine wpAnyH_ready (rs := [10]) (by kernel_rfl) (by simp) ?_; refine AllReadyH.cons rfl (fun K hK => ?_) AllReadyH.nil
     go_simp
     go_at_call 52
     refine nd.mono ?_
     rintro e w6 ⟨rfl, ht6⟩
     go_simp
     refine hK.out _ _ ⟨keepc ht6 k0', keepc ht6 m0', keepc ht6 a0, keepc ht6 a1, keepc ht6 a2, keepc ht6 a3, keepc ht6 a4, keepc ht6 a5, keepc ht6 d0, keepc ht6 d1, keepc ht6 d2, keepc ht6 d3, keepc ht6 d4, keepc ht6 d5⟩ (fun hHeld => ?_); clear hK K; (try simp only [Act.put, zs])
     (first | refine tkN 11 ?_ | refine tkY 11 _ ?_); (try simp only [Act.put, zs])
     refine wpAnyH_done (by kernel_rfl) ?_ _
     refine NoPanic.normal ?_
     clear hHeld
     go_wp2
     refine ⟨⟨j + 1, by omega, by go_num, hid (take_next1 HX.out (by rw [HXY.out]; exact HY.out) HE.out), htr.drew.trans ht6⟩, by simp [intOf]; omega⟩
    ·rw [decide_eq_false hxy] at nd
     have H := hid (beq_diff HX.out HY.out hxy)
     clear hxy
     go_wp2_with (fail)
     refine wp_region_noPanic ?_
     refine wp_region_held_drew (S := (fun W => W.cell? ⟨g, 0, none⟩ = some (.slice (some ⟨b1, o1, none⟩) n c) ∧ W.cell? ⟨g2, 0, none⟩ = some (.slice (some ⟨b2, o2, none⟩) n d) ∧ W.cell? ⟨b1, o1 + j * 6, none⟩ = some (.int .i64 x.k) ∧ W.cell? ⟨b1, o1 + j * 6 + 1, none⟩ = some (.string (txt x.name)) ∧ W.cell? ⟨b1, o1 + j * 6 + 2, none⟩ = some (.int .i64 x.size) ∧ W.cell? ⟨b1, o1 + j * 6 + 3, none⟩ = some (.slice As x.syms.length sc) ∧ W.cell? ⟨b1, o1 + j * 6 + 4, none⟩ = some (.slice Ai x.items.length ic) ∧ W.cell? ⟨b1, o1 + j * 6 + 5, none⟩ = some (.slice Af x.fields.length fc) ∧ W.cell? ⟨b2, o2 + j * 6, none⟩ = some (.int .i64 y.k) ∧ W.cell? ⟨b2, o2 + j * 6 + 1, none⟩ = some (.string (txt y.name)) ∧ W.cell? ⟨b2, o2 + j * 6 + 2, none⟩ = some (.int .i64 y.size) ∧ W.cell? ⟨b2, o2 + j * 6 + 3, none⟩ = some (.slice Bs y.syms.length tc) ∧ W.cell? ⟨b2, o2 + j * 6 + 4, none⟩ = some (.slice Bi y.items.length jc) ∧ W.cell? ⟨b2, o2 + j * 6 + 5, none⟩ = some (.slice Bf y.fields.length gc))) (by kernel_rfl) (⟨k0', m0', a0, a1, a2, a3, a4, a5, d0, d1, d2, d3, d4, d5⟩) (fun hHeld => ?_)
     (first | refine tkN 0 ?_ | refine tkY 0 _ ?_); (try simp only [Act.put, zs])
     (first | refine tkN 1 ?_ | refine tkY 1 _ ?_); (try simp only [Act.put, zs])
     (first | refine tkN 2 ?_ | refine tkY 2 _ ?_); (try simp only [Act.put, zs])
     (first | refine tkN 3 ?_ | refine tkY 3 _ ?_); (try simp only [Act.put, zs])
     (first | refine tkN 4 ?_ | refine tkY 4 _ ?_); (try simp only [Act.put, zs])
     (first | refine tkN 5 ?_ | refine tkY 5 _ ?_); (try simp only [Act.put, zs])
     (first | refine tkN 6 ?_ | refine tkY 6 _ ?_); (try simp only [Act.put, zs])
     (first | refine tkN 7 ?_ | refine tkY 7 _ ?_); (try simp only [Act.put, zs])
     (first | refine tkN 8 ?_ | refine tkY 8 _ ?_); (try simp only [Act.put, zs])
     (first | refine tkN 9 ?_ | refine tkY 9 _ ?_); (try simp only [Act.put, zs])
     refine wpAnyH_ready (rs := [10]) (by kernel_rfl) (by simp) ?_; refine AllReadyH.cons rfl (fun K hK => ?_) AllReadyH.nil
     go_simp
     go_at_call 52
     refine nd.mono ?_
     rintro e w6 ⟨rfl, ht6⟩
     go_simp
     refine hK.out _ _ ⟨keepc ht6 k0', keepc ht6 m0', keepc ht6 a0, keepc ht6 a1, keepc ht6 a2, keepc ht6 a3, keepc ht6 a4, keepc ht6 a5, keepc ht6 d0, keepc ht6 d1, keepc ht6 d2, keepc ht6 d3, keepc ht6 d4, keepc ht6 d5⟩ (fun hHeld => ?_); clear hK K; (try simp only [Act.put, zs])
     (first | refine tkN 11 ?_ | refine tkY 11 _ ?_); (try simp only [Act.put, zs])
     refine wpAnyH_done (by kernel_rfl) ?_ _
     refine NoPanic.normal ?_
     clear hHeld
     go_wp2
     go_ret
     exact ⟨by rw [H.out]; rfl, tr.drew.trans ht6⟩
   ·obtain rfl : j = n := by omega
    have H := hid (beq_all hlk (by rw [HA.out]; exact HE.out))
    go_wp2
    go_ret
    exact ⟨by rw [H.out]; rfl, tr⟩
 ·have hne : ((n : Int) != (m : Int)) = true := by rw [bne_iff_ne]; omega
  have H := hid (beq_len (l := l) (m := k) (by omega))
  clear hl hk
  go_enter Tryz.func25, Tryz.ntmps25
  go_upto_region 1 with (first
   | (have q9 := hg; refine wp_bx rfl 24 _ rfl rfl ?_; intro g2 w2 hg2 hb2 ht2)
   | (refine wp_bx rfl 24 _ rfl rfl ?_; intro g w1 hg hb1 ht1))
  have hb3 := hb1.turn0 ht2
  have tt := ht1.trans ht2
  have k0 : w2.cell? ⟨g, 0, none⟩ = some (.slice A n c) := hb3.ats (xs := [_]) rfl
  have m0 : w2.cell? ⟨g2, 0, none⟩ = some (.slice B m d) := hb2.ats (xs := [_]) rfl
  go_wp2_with fail
  go_ret
  exact ⟨by rw [H.out]; rfl, tt⟩
open Go.RowKit
def gsz (x : Gn) : Nat := x.syms.length + x.items.length + x.fields.length
def smN (n : Nat) : List Gn → Nat
 | [] => n
 | x :: r => if n ≤ 3000 then smN (n + gsz x) r else n
def smlB (l : List Gn) : Bool := decide (smN l.length l ≤ 3000)
theorem smN_le : ∀ (l : List Gn) (n : Nat), n ≤ smN n l
 | [], n => Nat.le_refl _
 | x :: r, n => by
  rw [smN]
  split
  ·exact Nat.le_trans (Nat.le_add_right _ _) (smN_le r _)
  ·exact Nat.le_refl _
theorem smN_all : ∀ (l : List Gn) (n : Nat), smN n l ≤ 3000 → ∀ x ∈ l, gsz x ≤ 3000
 | [], _, _, x, hx => by cases hx
 | y :: r, n, h, x, hx => by
  rw [smN] at h
  split at h
  ·have h1 := smN_le r (n + gsz y)
   rcases List.mem_cons.1 hx with rfl | h2
   ·omega
   ·exact smN_all r _ h x h2
  ·omega
theorem smN_big {l : List Gn} {n : Nat} (h : ¬n ≤ 3000) : smN n l = n := by
 cases l with
 | nil => rfl
 | cons x r => rw [smN, if_neg h]
theorem smlB_all {l : List Gn} (h : smlB l = true) : l.length ≤ 3000 ∧ ∀ x ∈ l, gsz x ≤ 3000 := by
 unfold smlB at h
 rw [decide_eq_true_iff] at h
 exact ⟨Nat.le_trans (smN_le _ _) h, smN_all _ _ h⟩
theorem rsmall_any {A : Option Addr} {n c : Nat} {l : List Gn} {D : Nat} {w : World} (ha : Sc w D A n l) (hD : D ≤ w.heap.size) (hn : n ≤ 281474976710656) (hs : ∀ x ∈ l, x.syms.length ≤ 281474976710656 ∧ x.items.length ≤ 281474976710656 ∧ x.fields.length ≤ 281474976710656) :
  Calls Tryz.prog 11 #[.agg #[.slice A n c]] w fun e w' => e = .returned (.bool (smlB l)) ∧ Turn w w' none := by
 have hl := ha.1
 have HA := hid hl
 clear hl
 go_enter Tryz.func11, Tryz.ntmps11
 go_upto_region 1 with (refine wp_bx rfl 24 _ rfl rfl ?_; intro g w1 hg hb1 ht1)
 have k0 : w1.cell? ⟨g, 0, none⟩ = some (.slice A n c) := hb1.ats (xs := [_]) rfl
 go_wp2_with fail
 go_loopw [3, 4] (fun s i wr => ∃ j m : Nat, j ≤ n ∧ i = .int .i64 (j : Int) ∧ s = .int .i64 (m : Int) ∧ m ≤ 1125899906842624 ∧ Hid (smN m (l.drop j) = smN l.length l) ∧ Turn w1 wr none) (fun s i _ => (n - intOf i).toNat)
 case atStart => exact ⟨0, n, by omega, rfl, rfl, by omega, hid (by rw [List.drop_zero, HA.out]), Turn.refl w1 none⟩
 case round =>
  obtain ⟨j, m, hj, rfl, rfl, hm, HE, htr⟩ := hrel
  have k0' := keepc htr k0
  have tr := ht1.trans htr
  by_cases hjn : j < n
  ·by_cases hm3 : m ≤ 3000
   ·have hjl : j < l.length := by rw [HA.out]; exact hjn
    obtain ⟨x, hx⟩ : ∃ x, l[j]? = some x := ⟨l[j], List.getElem?_eq_getElem hjl⟩
    obtain ⟨b1, o1, As, sc, Ai, ic, Af, fc, rfl, v1, a0, a1, a2, a3, a4, a5⟩ := (ha.turn0 tr hD).cells hx
    obtain ⟨l1, l2, l3⟩ := hs x (List.mem_of_getElem? hx)
    have hm3i : (m : Int) ≤ 3000 := by omega
    have hw1 : IntKind.i64.wrap ((m : Int) + (x.syms.length : Int)) = (m : Int) + (x.syms.length : Int) := by rw [IntKind.wrap_i64]; omega
    have hw2 : IntKind.i64.wrap ((m : Int) + (x.syms.length : Int) + (x.items.length : Int)) = (m : Int) + (x.syms.length : Int) + (x.items.length : Int) := by rw [IntKind.wrap_i64]; omega
    have hw3 : IntKind.i64.wrap ((m : Int) + (x.syms.length : Int) + (x.items.length : Int) + (x.fields.length : Int)) = (m : Int) + (x.syms.length : Int) + (x.items.length : Int) + (x.fields.length : Int) := by rw [IntKind.wrap_i64]; omega
    have hwr : IntKind.i64.wrap ((j : Int) + 1) = (j : Int) + 1 := by rw [IntKind.wrap_i64]; omega
    have hd : l.drop j = x :: l.drop (j + 1) := by
     rw [List.drop_eq_getElem_cons hjl]
     congr 1
     exact (List.getElem?_eq_some_iff.1 hx).2
    have HD := hid hd
    clear hd hx v1 hjl a0 a1 a2 k0
    go_wp2_with (fail)
    refine wp_region_noPanic ?_
    refine wp_region_held_drew (S := (fun W => W.cell? ⟨g, 0, none⟩ = some (.slice (some ⟨b1, o1, none⟩) n c) ∧ W.cell? ⟨b1, o1 + j * 6 + 3, none⟩ = some (.slice As x.syms.length sc) ∧ W.cell? ⟨b1, o1 + j * 6 + 4, none⟩ = some (.slice Ai x.items.length ic) ∧ W.cell? ⟨b1, o1 + j * 6 + 5, none⟩ = some (.slice Af x.fields.length fc))) (by kernel_rfl) (⟨k0', a3, a4, a5⟩) (fun hHeld => ?_)
    (first | refine tkN 0 ?_ | refine tkY 0 _ ?_); (try simp only [Act.put, zs])
    (first | refine tkN 1 ?_ | refine tkY 1 _ ?_); (try simp only [Act.put, zs])
    (first | refine tkN 2 ?_ | refine tkY 2 _ ?_); (try simp only [Act.put, zs])
    (first | refine tkN 3 ?_ | refine tkY 3 _ ?_); (try simp only [Act.put, zs])
    (first | refine tkN 4 ?_ | refine tkY 4 _ ?_); (try simp only [Act.put, zs])
    (first | refine tkN 5 ?_ | refine tkY 5 _ ?_); (try simp only [Act.put, zs])
    (first | refine tkN 6 ?_ | refine tkY 6 _ ?_); (try simp only [Act.put, zs])
    (first | refine tkN 7 ?_ | refine tkY 7 _ ?_); (try simp only [Act.put, zs])
    (first | refine tkN 8 ?_ | refine tkY 8 _ ?_); (try simp only [Act.put, zs])
    (first | refine tkN 9 ?_ | refine tkY 9 _ ?_); (try simp only [Act.put, zs])
    (first | refine tkN 10 ?_ | refine tkY 10 _ ?_); (try simp only [Act.put, zs])
    (first | refine tkN 11 ?_ | refine tkY 11 _ ?_); (try simp only [Act.put, zs])
    (first | refine tkN 12 ?_ | refine tkY 12 _ ?_); (try simp only [Act.put, zs])
    (first | refine tkN 13 ?_ | refine tkY 13 _ ?_); (try simp only [Act.put, zs])
    (first | refine tkN 14 ?_ | refine tkY 14 _ ?_); (try simp only [Act.put, zs])
    (first | refine tkN 15 ?_ | refine tkY 15 _ ?_); (try simp only [Act.put, zs])
    (first | refine tkN 16 ?_ | refine tkY 16 _ ?_); (try simp only [Act.put, zs])
    (first | refine tkN 17 ?_ | refine tkY 17 _ ?_); (try simp only [Act.put, zs])
    (first | refine tkN 18 ?_ | refine tkY 18 _ ?_); (try simp only [Act.put, zs])
    (first | refine tkN 19 ?_ | refine tkY 19 _ ?_); (try simp only [Act.put, zs])
    (first | refine tkN 20 ?_ | refine tkY 20 _ ?_); (try simp only [Act.put, zs])
    (first | refine tkN 21 ?_ | refine tkY 21 _ ?_); (try simp only [Act.put, zs])
    (first | refine tkN 22 ?_ | refine tkY 22 _ ?_); (try simp only [Act.put, zs])
    (first | refine tkN 23 ?_ | refine tkY 23 _ ?_); (try simp only [Act.put, zs])
    (first | refine tkN 24 ?_ | refine tkY 24 _ ?_); (try simp only [Act.put, zs])
    (first | refine tkN 25 ?_ | refine tkY 25 _ ?_); (try simp only [Act.put, zs])
    refine wpAnyH_done (by kernel_rfl) ?_ _
    refine NoPanic.normal ?_
    clear hHeld
    go_wp2
    refine ⟨⟨j + 1, m + gsz x, by omega, by go_num, by unfold gsz; go_num, by unfold gsz; omega, hid ?_, htr.drew⟩, by simp [intOf]; omega⟩
    have h := HE.out
    rw [HD.out, smN, if_pos hm3] at h
    exact h
   ·have hm3i : ¬(m : Int) ≤ 3000 := by omega
    have H := hid (show smlB l = false by unfold smlB; rw [← HE.out, smN_big hm3]; exact decide_eq_false hm3)
    go_wp2_with fail
    go_ret
    exact ⟨by rw [H.out]; rfl, tr⟩
  ·obtain rfl : j = n := by omega
   have he : smN l.length l = m := by rw [← HE.out, ← HA.out, List.drop_length]; rfl
   by_cases hm3 : m ≤ 3000
   ·have hm3i : (m : Int) ≤ 3000 := by omega
    have H := hid (show smlB l = true by unfold smlB; rw [he]; exact decide_eq_true hm3)
    clear he
    go_wp2_with fail
    go_ret
    exact ⟨by rw [H.out]; rfl, tr⟩
   ·have hm3i : ¬(m : Int) ≤ 3000 := by omega
    have H := hid (show smlB l = false by unfold smlB; rw [he]; exact decide_eq_false hm3)
    clear he
    go_wp2_with fail
    go_ret
    exact ⟨by rw [H.out]; rfl, tr⟩
open Go.RowKit
theorem cShow_read {gs : List Gn} {t : List UInt8} {d : Nat} (h : cShow gs = some (t, d)) : ∃ N, eRead t = .ok N ∧ N.map Nd.g = gs := by
 unfold cShow at h
 split at h
 ·cases h
 ·split at h
  ·rename_i N e
   split at h
   ·rename_i hg
    injection h with h
    injection h with h1 h2
    subst h1
    exact ⟨N, e, hg⟩
   ·cases h
  ·cases h
structure Gvn (w : World) (A : Option Addr) (n c : Nat) (gs : List Gn) : Prop where
 sc : Sc w w.heap.size A n gs
 few : n ≤ 281474976710656
 big : ∀ x ∈ gs, x.syms.length ≤ 281474976710656 ∧ x.items.length ≤ 281474976710656 ∧ x.fields.length ≤ 281474976710656
 str : ∀ x ∈ gs, x.name.length ≤ 140737488355327 ∧ (∀ s ∈ x.syms, s.length ≤ 140737488355328) ∧ (∀ f ∈ x.fields, f.name.length ≤ 140737488355328) ∧ -9223372036854775808 ≤ x.size ∧ x.size ≤ 9223372036854775807
 cap : n ≤ c ∧ c ≤ maxLen
theorem Gvn.turn {w w' : World} {A : Option Addr} {n c : Nat} {gs : List Gn} (h : Gvn w A n c gs) (ht : Turn w w' none) : Gvn w' A n c gs := ⟨(h.sc.turn0 ht (Nat.le_refl _)).mono ht.size, h.few, h.big, h.str, h.cap⟩
theorem Gvn.sv {w : World} {A : Option Addr} {n c : Nat} {gs : List Gn} (h : Gvn w A n c gs) (hs : smlB gs = true) : Sv w A n c gs := by
 obtain ⟨h1, h2⟩ := smlB_all hs
 have hl := h.sc.1
 refine ⟨h.sc, fun x hx => ?_, by omega, h.cap⟩
 obtain ⟨s1, s2, s3, s4⟩ := h.str x hx
 have h3 := h2 x hx
 unfold gsz at h3
 exact ⟨by omega, by omega, by omega, s1, s2, s3, s4⟩
end Go.Proofs.YtgigiecdpjchkaaGreatDoor
