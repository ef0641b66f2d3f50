import Derived.Test.YtgigiecdpjchkaaGreatDoorR3
import Derived.Test.YtgigiecdpjchkaaGreatDoorR2
import Derived.Test.YtgigiecdpjchkaaGreatDoorR1
import Derived.Test.YtgigiecdpjchkaaGreatDoorR10
import Derived.Test.YtgigiecdpjchkaaGreatDoorR6
import Derived.Laws.BitsAllLaws
import Derived.Test.YtgigiecdpjchkaaGreatDoorR5
set_option linter.unusedSimpArgs false
set_option linter.unusedVariables false
set_option linter.unusedSectionVars false
set_option maxRecDepth 100000
set_option maxHeartbeats 6400000
namespace Go.Proofs.YtgigiecdpjchkaaGreatDoor
def WBr (s : List UInt8) : Prop := s.length ≤ 4096 ∧ isKw s = false
def NBr (x : Nd) : Prop := WBr x.name ∧ (∀ s ∈ x.syms, WBr s) ∧ (∀ f ∈ x.fields, WBr f.name) ∧ x.size ≤ 4096
def ABr (N : List Nd) : Prop := ∀ x ∈ N, NBr x
def TBr (ts : List Tok) : Prop := ∀ t ∈ ts, t.s.length ≤ 4096
def KBr (rec : ERd) : Prop := ∀ ts N n r N', TBr ts → ABr N → rec ts N = .ok (n, r, N') → TBr r ∧ ABr N'
theorem TBr.tail {t : Tok} {r : List Tok} (h : TBr (t :: r)) : TBr r := fun u hu => h u (List.mem_cons_of_mem _ hu)
theorem TBr.head {t : Tok} {r : List Tok} (h : TBr (t :: r)) : t.s.length ≤ 4096 := h t List.mem_cons_self
theorem ABr.push {N : List Nd} {x : Nd} (h : ABr N) (hx : NBr x) : ABr (N ++ [x]) := fun y hy => by
 rcases List.mem_append.1 hy with h1 | h1
 ·exact h y h1
 ·rw [List.mem_singleton.1 h1]; exact hx
theorem WBr.of {t : Tok} (h : t.s.length ≤ 4096) (hn : ¬pNm t.tt = false) : WBr t.s := ⟨h, pNm_kw (t := t.tt) (by simpa using hn)⟩
theorem NBr.of (k : Nat) : NBr (Nd.of k) := ⟨⟨by simp [Nd.of], rfl⟩, by simp [Nd.of], by simp [Nd.of], by simp [Nd.of]⟩
theorem ABr.mod {N : List Nd} {n : Nat} {g : Nd → Nd} (h : ABr N) (hg : ∀ x, NBr x → NBr (g x)) : ABr (N.modify n g) := fun y hy => by
 obtain ⟨i, hi, e⟩ := List.mem_iff_getElem.1 hy
 have e2 : (N.modify n g)[i]? = some y := by rw [List.getElem?_eq_getElem hi, e]
 rw [List.getElem?_modify] at e2
 cases hx : N[i]? with
 | none => rw [hx] at e2; cases e2
 | some x =>
  rw [hx] at e2
  have hb := h x (List.mem_of_getElem? hx)
  by_cases hn : n = i
  ·simp [hn] at e2
   rw [← e2]; exact hg x hb
  ·simp [hn] at e2
   rw [← e2]; exact hb
theorem eOne_br {rec : ERd} (hr : KBr rec) {shut : List UInt8} {r : List Tok} {N : List Nd} {m n : Nat} {r' : List Tok} {N' : List Nd} (hT : TBr r) (hN : ABr N) (h : eOne rec shut r N m = .ok (n, r', N')) : TBr r' ∧ ABr N' := by
 unfold eOne at h
 split at h
 ·cases h
 ·cases h
 ·rename_i x u r1 N1 e
  split at h
  ·injection h with h
   injection h with _ h
   injection h with h1 h2
   subst h1; subst h2
   obtain ⟨a1, a2⟩ := hr _ _ _ _ _ hT hN e
   exact ⟨a1.tail, a2.mod fun x hx => hx⟩
  ·cases h
theorem eAllW_br {rec : List Nat → ERd} (hr : ∀ its, KBr (rec its)) : ∀ (g : Nat) (its : List Nat) (ts : List Tok) (N : List Nd) (its' : List Nat) (r : List Tok) (N' : List Nd), TBr ts → ABr N → eAllW rec g its ts N = .ok (its', r, N') → TBr r ∧ ABr N'
 | 0, _, _, _, _, _, _, _, _, h => by cases h
 | g + 1, its, ts, N, its', r, N', hT, hN, h => by
  rw [eAllW] at h
  split at h
  ·cases h
  ·cases h
  ·rename_i x u r1 N1 e
   obtain ⟨a1, a2⟩ := hr _ _ _ _ _ _ hT hN e
   split at h
   ·injection h with h
    injection h with _ h
    injection h with h1 h2
    subst h1; subst h2
    exact ⟨a1.tail, a2⟩
   ·split at h
    ·exact eAllW_br hr g _ _ _ _ _ _ a1.tail a2 h
    ·cases h
theorem eSyms_br : ∀ (g : Nat) (ys : List (List UInt8)) (ts : List Tok) (ys' : List (List UInt8)) (r : List Tok), TBr ts → (∀ s ∈ ys, WBr s) → eSyms g ys ts = .ok (ys', r) → TBr r ∧ ∀ s ∈ ys', WBr s
 | 0, _, _, _, _, _, _, h => by unfold eSyms at h; cases h
 | g + 1, ys, [], _, _, _, _, h => by unfold eSyms at h; cases h
 | g + 1, ys, [t], ys', r, hT, hy, h => by
  simp only [eSyms] at h
  split at h
  ·cases h
  ·split at h <;> cases h
 | g + 1, ys, t :: u :: r1, ys', r, hT, hy, h => by
  rw [eSyms] at h
  split at h
  ·cases h
  rename_i hnm
  have hy2 : ∀ s ∈ ys ++ [t.s], WBr s := fun s hs => by
   rcases List.mem_append.1 hs with h1 | h1
   ·exact hy s h1
   ·rw [List.mem_singleton.1 h1]; exact WBr.of hT.head hnm
  split at h
  ·cases h
  split at h
  ·injection h with h
   injection h with h1 h2
   subst h1; subst h2
   exact ⟨hT.tail.tail, hy2⟩
  ·split at h
   ·exact eSyms_br g _ _ _ _ hT.tail.tail hy2 h
   ·cases h
theorem eHas_br {ts : List Tok} {b : Bool} {r : List Tok} (hT : TBr ts) (h : eHas ts = .ok (b, r)) : TBr r := by
 unfold eHas at h
 split at h
 ·split at h
  ·injection h with h
   injection h with _ h1
   subst h1
   exact hT.tail
  ·split at h
   ·split at h
    ·split at h
     ·injection h with h
      injection h with _ h1
      subst h1
      exact hT.tail.tail
     ·cases h
    ·cases h
   ·cases h
 ·cases h
theorem eFields_br {rec : ERd} (hr : KBr rec) : ∀ (g : Nat) (fs : List Fl) (ts : List Tok) (N : List Nd) (fs' : List Fl) (r : List Tok) (N' : List Nd), TBr ts → ABr N → (∀ f ∈ fs, WBr f.name) → eFields rec g fs ts N = .ok (fs', r, N') → TBr r ∧ ABr N' ∧ ∀ f ∈ fs', WBr f.name
 | 0, _, _, _, _, _, _, _, _, _, h => by unfold eFields at h; cases h
 | g + 1, _, [], _, _, _, _, _, _, _, h => by unfold eFields at h; cases h
 | g + 1, fs, t :: r, N, fs', r', N', hT, hN, hf, h => by
  rw [eFields] at h
  split at h
  ·injection h with h
   injection h with h0 h
   injection h with h1 h2
   subst h0; subst h1; subst h2
   exact ⟨hT.tail, hN, hf⟩
  split at h
  ·cases h
  rename_i hnm
  split at h
  ·cases h
  split at h
  ·cases h
  ·rename_i hh r1 e1
   have a0 := eHas_br hT.tail e1
   split at h
   ·cases h
   ·cases h
   ·rename_i x u r2 N1 e2
    obtain ⟨a1, a2⟩ := hr _ _ _ _ _ a0 hN e2
    split at h
    ·refine eFields_br hr g _ _ _ _ _ _ a1.tail a2 (fun f hm => ?_) h
     rcases List.mem_append.1 hm with h1 | h1
     ·exact hf f h1
     ·rw [List.mem_singleton.1 h1]; exact WBr.of hT.head hnm
    ·cases h
theorem eNamed_br {rec : ERd} (hr : KBr rec) {f k : Nat} {r : List Tok} {N : List Nd} {n : Nat} {r' : List Tok} {N' : List Nd} (hT : TBr r) (hN : ABr N) (h : eNamed rec f k r N = .ok (n, r', N')) : TBr r' ∧ ABr N' := by
 unfold eNamed at h
 split at h
 ·cases h
 rename_i a r1
 split at h
 ·cases h
 rename_i hnm
 split at h
 ·cases h
 split at h
 ·cases h
 rename_i b r2
 split at h
 ·split at h
  ·rename_i hc
   injection h with h
   injection h with _ h
   injection h with h1 h2
   subst h1; subst h2
   refine ⟨hT.tail.tail, hN.push ⟨WBr.of hT.head hnm, by simp [Nd.of], by simp [Nd.of], ?_⟩⟩
   have := hc.2
   unfold wOk at this
   simp only [Bool.and_eq_true, decide_eq_true_eq] at this
   show wNumAt b.s ≤ 4096
   omega
  ·cases h
 split at h
 ·split at h
  ·split at h
   ·rename_i ys r3 e
    injection h with h
    injection h with _ h
    injection h with h1 h2
    subst h1; subst h2
    obtain ⟨a1, a2⟩ := eSyms_br _ _ _ _ _ hT.tail.tail (by simp) e
    exact ⟨a1, hN.push ⟨WBr.of hT.head hnm, a2, by simp [Nd.of], by simp [Nd.of]⟩⟩
   ·cases h
  ·cases h
 split at h
 ·split at h
  ·rename_i fs r3 N1 e
   injection h with h
   injection h with _ h
   injection h with h1 h2
   subst h1; subst h2
   obtain ⟨a1, a2, a3⟩ := eFields_br hr _ _ _ _ _ _ _ hT.tail.tail (hN.push ⟨WBr.of hT.head hnm, by simp [Nd.of], by simp [Nd.of], by simp [Nd.of]⟩) (by simp) e
   exact ⟨a1, a2.mod fun x hx => ⟨hx.1, hx.2.1, a3, hx.2.2.2⟩⟩
  ·cases h
 ·cases h
theorem eStep_br {rec : Option (List Nat) → ERd} (hr : ∀ u, KBr (rec u)) {f deep : Nat} {un : Option (List Nat)} {t : Tok} {r : List Tok} {N : List Nd} {n : Nat} {r' : List Tok} {N' : List Nd} (hT : TBr r) (hN : ABr N) (h : eStep rec f deep un t r N = .ok (n, r', N')) : TBr r' ∧ ABr N' := by
 unfold eStep at h
 split at h
 ·split at h
  ·cases h
  split at h
  ·cases h
  split at h
  ·cases h
  ·split at h
   ·cases h
   ·injection h with h
    injection h with _ h
    injection h with h1 h2
    subst h1; subst h2
    exact ⟨hT, hN⟩
 ·split at h
  ·cases h
  split at h
  ·cases h
  split at h
  ·cases h
  split at h
  ·injection h with h
   injection h with _ h
   injection h with h1 h2
   subst h1; subst h2
   exact ⟨hT, hN.push (NBr.of _)⟩
  split at h
  ·exact eOne_br (hr none) hT (hN.push (NBr.of _)) h
  split at h
  ·exact eOne_br (hr none) hT (hN.push (NBr.of _)) h
  split at h
  ·split at h
   ·rename_i its r1 N1 e
    injection h with h
    injection h with _ h
    injection h with h1 h2
    subst h1; subst h2
    obtain ⟨a1, a2⟩ := eAllW_br (fun its => hr (some its)) _ _ _ _ _ _ _ hT (hN.push (NBr.of _)) e
    exact ⟨a1, a2.mod fun x hx => hx⟩
   ·cases h
  ·exact eNamed_br (hr none) hT hN h
theorem eType_br : ∀ (f deep : Nat) (un : Option (List Nat)), KBr (eType f deep un)
 | 0, _, _, _, _, _, _, _, _, _, h => by cases h
 | f + 1, deep, un, [], _, _, _, _, _, _, h => by cases h
 | f + 1, deep, un, t :: r, N, n, r', N', hT, hN, h => by
  rw [eType] at h
  exact eStep_br (fun u => eType_br f (deep + 1) u) hT.tail hN h
theorem digs_dec : ∀ (f u : Nat), u < 10 ^ f → 0 < f → digs f u = Lib.decDigits u
 | 0, _, _, h => absurd h (Nat.lt_irrefl 0)
 | f + 1, u, h, _ => by
  rw [digs, Lib.decDigits]
  split
  ·rfl
  ·cases f with
   | zero => simp at h; omega
   | succ f =>
    rw [digs_dec (f + 1) (u / 10) (by rw [Nat.pow_succ] at h; omega) (by omega)]
def WrOk (rec : Wtr) (recC : Int → St3 → Option St3) : Prop := ∀ n nx out nx' (t : List UInt8) dp, rec n nx = some (out, nx') → (t ++ lText out).length ≤ 4096 → ∃ dp', recC (n : Int) (t, nx, dp) = some (t ++ lText out, nx', dp')
theorem wp_y {s t : List UInt8} {q : Nat × Nat} (h : (t ++ s).length ≤ 4096) : wpt s (t, q) = some (t ++ s, q) := wpt_yes (st := (t, q)) h
theorem lT_cons (u : TT) (o : List TT) : lText (u :: o) = lt1 u ++ lText o := rfl
theorem wItems_one {rec : Wtr} {y nx : Nat} {out : List TT} {nx' : Nat} (h : wItems rec [y] nx = some (out, nx')) : rec y nx = some (out, nx') := by
 unfold wItems at h
 split at h
 ·cases h
 ·rename_i o nx1 e
  rw [e]
  simpa using h
theorem wItems_more {rec : Wtr} {y z nx : Nat} {ys : List Nat} {out : List TT} {nx' : Nat} (h : wItems rec (y :: z :: ys) nx = some (out, nx')) : ∃ o nx1 o2, rec y nx = some (o, nx1) ∧ wItems rec (z :: ys) nx1 = some (o2, nx') ∧ out = o ++ (2, [124]) :: o2 := by
 rw [wItems] at h
 split at h
 ·cases h
 ·rename_i o nx1 e
  simp only [List.isEmpty_cons, Bool.false_eq_true, if_false] at h
  split at h
  ·cases h
  ·rename_i o2 nx2 e2
   injection h with h
   injection h with h1 h2
   subst h1; subst h2
   exact ⟨o, nx1, o2, e, e2, rfl⟩
theorem cItG_ok {rec : Wtr} {recC : Int → St3 → Option St3} (hr : WrOk rec recC) : ∀ (ys : List Nat) (y nx : Nat) (b : Bool) (out : List TT) (nx' : Nat) (t : List UInt8) (dp : Nat), wItems rec (y :: ys) nx = some (out, nx') → (t ++ ((if b then [] else [124]) ++ lText out)).length ≤ 4096 →
  ∃ dp', cItG recC b ((y :: ys).map Int.ofNat) (t, nx, dp) = some (t ++ ((if b then [] else [124]) ++ lText out), nx', dp')
 | [], y, nx, b, out, nx', t, dp, h, hl => by
  have h1 := wItems_one h
  have e0 : (if b then some (t, nx, dp) else wpt [124] (t, nx, dp)) = some (t ++ (if b then [] else [124]), nx, dp) := by
   cases b with
   | true => simp
   | false => simp only [Bool.false_eq_true, if_false] at hl ⊢; exact wp_y (by simp only [List.length_append] at hl ⊢; omega)
  obtain ⟨dp', h2⟩ := hr y nx out nx' (t ++ (if b then [] else [124])) dp h1 (by rw [List.append_assoc]; exact hl)
  refine ⟨dp', ?_⟩
  rw [List.map_cons, List.map_nil, cItG, e0, Option.bind_some]
  show (recC (y : Int) _).bind _ = _
  rw [h2, Option.bind_some, cItG, List.append_assoc]
 | z :: ys, y, nx, b, out, nx', t, dp, h, hl => by
  obtain ⟨o, nx1, o2, h1, h2, rfl⟩ := wItems_more h
  rw [lText_app, lT_cons, lt1_two] at hl ⊢
  have e0 : (if b then some (t, nx, dp) else wpt [124] (t, nx, dp)) = some (t ++ (if b then [] else [124]), nx, dp) := by
   cases b with
   | true => simp
   | false => simp only [Bool.false_eq_true, if_false] at hl ⊢; exact wp_y (by simp only [List.length_append] at hl ⊢; omega)
  obtain ⟨dp1, h3⟩ := hr y nx o nx1 (t ++ (if b then [] else [124])) dp h1 (by simp only [List.length_append] at hl ⊢; omega)
  obtain ⟨dp', h4⟩ := cItG_ok hr ys z nx1 false o2 nx' (t ++ (if b then [] else [124]) ++ lText o) dp1 h2 (by simp only [Bool.false_eq_true, if_false, List.length_append] at hl ⊢; omega)
  refine ⟨dp', ?_⟩
  rw [List.map_cons, cItG, e0, Option.bind_some]
  show (recC (y : Int) _).bind _ = _
  rw [h3, Option.bind_some, h4]
  simp [List.append_assoc]
theorem cItems_ok {rec : Wtr} {recC : Int → St3 → Option St3} (hr : WrOk rec recC) {l : List Nat} {nx : Nat} {out : List TT} {nx' : Nat} {t : List UInt8} {dp : Nat} {fin : List UInt8} (h : wItems rec l nx = some (out, nx')) (hl : (t ++ (lText out ++ fin)).length ≤ 4096) :
  ∃ dp', cItems recC (l.map Int.ofNat) fin (t, nx, dp) = some (t ++ (lText out ++ fin), nx', dp') := by
 cases l with
 | nil =>
  unfold wItems at h
  injection h with h
  injection h with h1 h2
  subst h1; subst h2
  refine ⟨dp, ?_⟩
  unfold cItems
  rw [List.map_nil, cItG, Option.bind_some]
  exact wp_y hl
 | cons y ys =>
  obtain ⟨dp', h1⟩ := cItG_ok hr ys y nx true out nx' t dp h (by simp only [if_true, List.nil_append, List.length_append] at hl ⊢; omega)
  refine ⟨dp', ?_⟩
  unfold cItems
  rw [h1, Option.bind_some]
  simp only [if_true, List.nil_append]
  rw [wp_y (by rw [List.append_assoc]; exact hl), List.append_assoc]
theorem wpt_if3 {b : Bool} {s t : List UInt8} {q : Nat × Nat} (h : (t ++ if b then s else []).length ≤ 4096) : (if b then wpt s (t, q) else some (t, q)) = some (t ++ (if b then s else []), q) := by
 cases b with
 | true => simp only [if_true] at h ⊢; exact wp_y h
 | false => simp
theorem cFlG_ok {rec : Wtr} {recC : Int → St3 → Option St3} (hr : WrOk rec recC) : ∀ (l : List Fl) (nx : Nat) (out : List TT) (nx' : Nat) (t : List UInt8) (dp : Nat), (∀ f ∈ l, WBr f.name) → wFields rec l nx = some (out, nx') → (t ++ lText out).length ≤ 4096 →
  ∃ dp', cFlG recC (l.map Fl.g) (t, nx, dp) = some (t ++ lText out, nx', dp')
 | [], nx, out, nx', t, dp, _, h, _ => by
  unfold wFields at h
  injection h with h
  injection h with h1 h2
  subst h1; subst h2
  exact ⟨dp, by rw [List.map_nil, cFlG]; simp [lText]⟩
 | y :: ys, nx, out, nx', t, dp, hk, h, hl => by
  rw [wFields] at h
  split at h
  ·cases h
  rename_i o nx1 e1
  split at h
  ·cases h
  rename_i o2 nx2 e2
  injection h with h
  injection h with h1 h2
  subst h1; subst h2
  have hq : lText (if y.has then [((2 : Nat), [63])] else []) = (if y.has then [63] else []) := by
   cases y.has <;> simp [lText, lt1]
  have et : lText ((0, y.name) :: ((if y.has = true then [(2, [63])] else []) ++ (2, [58]) :: (o ++ (2, [59]) :: o2))) = y.name ++ ((if y.has then [63] else []) ++ ([58] ++ (lText o ++ ([59] ++ lText o2)))) := by
   rw [lT_cons, lt1_plain (hk y List.mem_cons_self).2, lText_app, hq, lT_cons, lt1_two, lText_app, lT_cons, lt1_two]
  rw [et] at hl ⊢
  have hl' := hl
  simp only [List.length_append] at hl'
  obtain ⟨dp1, h3⟩ := hr y.ty nx o nx1 (((t ++ y.name) ++ (if y.has then [63] else [])) ++ [58]) dp e1 (by simp only [List.length_append]; omega)
  obtain ⟨dp', h4⟩ := cFlG_ok hr ys nx1 o2 nx2 (((((t ++ y.name) ++ (if y.has then [63] else [])) ++ [58]) ++ lText o) ++ [59]) dp1 (fun f hf => hk f (List.mem_cons_of_mem _ hf)) e2 (by simp only [List.length_append]; omega)
  refine ⟨dp', ?_⟩
  rw [List.map_cons, cFlG]
  show (wpt y.name (t, nx, dp)).bind _ = _
  rw [wp_y (by simp only [List.length_append]; omega), Option.bind_some]
  rw [show y.g.has = y.has from rfl]
  rw [wpt_if3 (by simp only [List.length_append]; omega), Option.bind_some, wp_y (by simp only [List.length_append]; omega), Option.bind_some]
  show (recC (y.ty : Int) _).bind _ = _
  rw [h3, Option.bind_some, wp_y (by simp only [List.length_append]; omega), Option.bind_some, h4]
  simp only [List.append_assoc]
theorem cSymG_ok : ∀ (l : List (List UInt8)) (y : List UInt8) (b : Bool) (t : List UInt8) (q : Nat × Nat), (∀ s ∈ y :: l, WBr s) → (t ++ ((if b then [] else [44]) ++ lText (wSymsT (y :: l)))).length ≤ 4096 →
  cSymG b (y :: l) (t, q) = some (t ++ ((if b then [] else [44]) ++ lText (wSymsT (y :: l))), q)
 | [], y, b, t, q, hk, hl => by
  have et : lText (wSymsT [y]) = y := by simp [wSymsT, lText, lt1_plain (hk y List.mem_cons_self).2]
  rw [et] at hl ⊢
  have e0 : (if b then some (t, q) else wpt [44] (t, q)) = some (t ++ (if b then [] else [44]), q) := by
   cases b with
   | true => simp
   | false => simp only [Bool.false_eq_true, if_false] at hl ⊢; exact wp_y (by simp only [List.length_append] at hl ⊢; omega)
  rw [cSymG, e0, Option.bind_some, wp_y (by rw [List.append_assoc]; exact hl), Option.bind_some, cSymG, List.append_assoc]
 | z :: l, y, b, t, q, hk, hl => by
  have et : lText (wSymsT (y :: z :: l)) = y ++ ([44] ++ lText (wSymsT (z :: l))) := by
   rw [wSymsT, lT_cons, lt1_plain (hk y List.mem_cons_self).2]
   simp only [List.isEmpty_cons, Bool.false_eq_true, if_false]
   rw [lT_cons, lt1_two]
  rw [et] at hl ⊢
  have hl' := hl
  simp only [List.length_append] at hl'
  have e0 : (if b then some (t, q) else wpt [44] (t, q)) = some (t ++ (if b then [] else [44]), q) := by
   cases b with
   | true => simp
   | false => simp only [Bool.false_eq_true, if_false] at hl ⊢; exact wp_y (by simp only [List.length_append] at hl ⊢; omega)
  rw [cSymG, e0, Option.bind_some, wp_y (by simp only [List.length_append]; omega), Option.bind_some, cSymG_ok l z false _ q (fun s hs => hk s (List.mem_cons_of_mem _ hs)) (by simp only [Bool.false_eq_true, if_false, List.length_append] at hl' ⊢; omega)]
  simp only [Bool.false_eq_true, if_false, List.append_assoc]
theorem cSyms_ok {l : List (List UInt8)} {t : List UInt8} {q : Nat × Nat} (hk : ∀ s ∈ l, WBr s) (hl : (t ++ ([60] ++ (lText (wSymsT l) ++ [62]))).length ≤ 4096) : cSyms l (t, q) = some (t ++ ([60] ++ (lText (wSymsT l) ++ [62])), q) := by
 have hl' := hl
 simp only [List.length_append] at hl'
 unfold cSyms
 rw [wp_y (by simp only [List.length_append]; omega), Option.bind_some]
 cases l with
 | nil =>
  rw [cSymG, Option.bind_some, wp_y (by simp [wSymsT, lText] at hl' ⊢; omega)]
  simp [wSymsT, lText]
 | cons y l =>
  rw [cSymG_ok l y true _ q hk (by simp only [if_true, List.nil_append, List.length_append]; omega), Option.bind_some]
  simp only [if_true, List.nil_append]
  rw [wp_y (by simp only [List.length_append]; omega)]
  simp only [List.append_assoc]
theorem cFields_ok {rec : Wtr} {recC : Int → St3 → Option St3} (hr : WrOk rec recC) {l : List Fl} {nx : Nat} {out : List TT} {nx' : Nat} {t : List UInt8} {dp : Nat} (hk : ∀ f ∈ l, WBr f.name) (h : wFields rec l nx = some (out, nx')) (hl : (t ++ ([123] ++ (lText out ++ [125]))).length ≤ 4096) :
  ∃ dp', cFields recC (l.map Fl.g) (t, nx, dp) = some (t ++ ([123] ++ (lText out ++ [125])), nx', dp') := by
 have hl' := hl
 simp only [List.length_append] at hl'
 obtain ⟨dp', h1⟩ := cFlG_ok hr l nx out nx' (t ++ [123]) dp hk h (by simp only [List.length_append]; omega)
 refine ⟨dp', ?_⟩
 unfold cFields
 rw [wp_y (by simp only [List.length_append]; omega), Option.bind_some, h1, Option.bind_some, wp_y (by simp only [List.length_append]; omega)]
 simp only [List.append_assoc]
theorem map_some {a : Option (List TT × Nat)} {g : List TT × Nat → List TT} {o : List TT} {nx : Nat} (h : a.map (fun p => (g p, p.2)) = some (o, nx)) : ∃ o', a = some (o', nx) ∧ o = g (o', nx) := by
 cases a with
 | none => cases h
 | some p =>
  obtain ⟨o', n⟩ := p
  simp only [Option.map_some, Option.some.injEq, Prod.mk.injEq] at h
  obtain ⟨h1, h2⟩ := h
  subst h2
  exact ⟨o', rfl, h1.symm⟩
theorem wTok_text {M : List Nd} (hM : ABr M) : ∀ (f deep : Nat), WrOk (wTok M f) (cTyp (M.map Nd.g) f deep)
 | 0, _, _, _, _, _, _, _, h, _ => by rw [wTok] at h; cases h
 | f + 1, deep, n, nx, out, nx', t, dp, h, hl => by
  rw [wTok] at h
  cases hx : M[n]? with
  | none => rw [hx] at h; cases h
  | some x =>
   rw [hx] at h
   simp only at h
   have hn : n < M.length := (List.getElem?_eq_some_iff.1 hx).1
   obtain ⟨k1, k2, k3, k4⟩ := hM x (List.mem_of_getElem? hx)
   have IH := wTok_text hM f (deep + 1)
   have hgx : (M.map Nd.g)[(n : Int).toNat]? = some x.g := by rw [Int.toNat_natCast, List.getElem?_map, hx]; rfl
   rw [cTyp]
   by_cases c1 : n < nx
   ·rw [if_pos c1] at h
    split at h
    ·injection h with h
     injection h with h1 h2
     subst h1; subst h2
     rw [if_neg (by rw [List.length_map]; simp only; omega), hgx]
     simp only
     rw [if_pos (by omega)]
     have et : lText [(0, x.name)] = x.name := by simp [lText, lt1_plain k1.2]
     rw [et] at hl ⊢
     exact ⟨_, wp_y hl⟩
    ·cases h
   rw [if_neg c1] at h
   by_cases c2 : n ≠ nx
   ·rw [if_pos c2] at h; cases h
   rw [if_neg c2] at h
   have c3 : n = nx := by omega
   rw [if_neg (by rw [List.length_map]; simp only; omega), hgx]
   simp only
   rw [if_neg (by omega)]
   have hkk : x.g.k = (x.k : Int) := rfl
   unfold cBegin
   rw [hkk]
   by_cases b6 : x.k < 6
   ·rw [if_pos b6] at h
    injection h with h
    injection h with h1 h2
    subst h1; subst h2
    have et : lText [(0, kwText x.k)] = kwText x.k := by simp [lText, lt1_plain (kw_not b6)]
    rw [et] at hl ⊢
    rw [if_neg (by omega), Int.toNat_natCast, wp_y hl, Option.bind_some, if_neg (by omega), if_neg (by omega), if_neg (by omega), if_neg (by omega), if_neg (by omega), if_neg (by omega)]
    exact ⟨_, rfl⟩
   rw [if_neg b6] at h
   by_cases e6 : x.k = 6
   ·rw [if_pos e6] at h
    obtain ⟨o', h1, rfl⟩ := map_some h
    simp only at hl ⊢
    rw [lT_cons, lt1_two, lText_app, lT_cons, lt1_two] at hl ⊢
    have hl' := hl
    simp only [List.length_append, lText, List.length_nil] at hl'
    obtain ⟨dp', h2⟩ := cItems_ok IH (fin := [93]) (t := t ++ [91]) (dp := max dp (deep + 1)) h1 (by simp only [List.length_append]; omega)
    refine ⟨dp', ?_⟩
    rw [e6]
    rw [if_neg (by omega)]
    show (wpt [91] _).bind _ = _
    rw [wp_y (by simp only [List.length_append]; omega), Option.bind_some, if_pos (by omega)]
    show cItems _ (x.items.map Int.ofNat) _ _ = _
    rw [h2]
    simp [lText]
   rw [if_neg e6] at h
   by_cases e7 : x.k = 7
   ·rw [if_pos e7] at h
    obtain ⟨o', h1, rfl⟩ := map_some h
    simp only at hl ⊢
    rw [lT_cons, lt1_two, lText_app, lT_cons, lt1_two] at hl ⊢
    have hl' := hl
    simp only [List.length_append, lText, List.length_nil] at hl'
    obtain ⟨dp', h2⟩ := cItems_ok IH (fin := [125]) (t := t ++ [123]) (dp := max dp (deep + 1)) h1 (by simp only [List.length_append]; omega)
    refine ⟨dp', ?_⟩
    rw [e7]
    rw [if_neg (by omega)]
    show (wpt [123] _).bind _ = _
    rw [wp_y (by simp only [List.length_append]; omega), Option.bind_some, if_neg (by omega), if_pos (by omega)]
    show cItems _ (x.items.map Int.ofNat) _ _ = _
    rw [h2]
    simp [lText]
   rw [if_neg e7] at h
   by_cases e8 : x.k = 8
   ·rw [if_pos e8] at h
    obtain ⟨o', h1, rfl⟩ := map_some h
    simp only at hl ⊢
    rw [lT_cons, lt1_two, lText_app, lT_cons, lt1_two] at hl ⊢
    have hl' := hl
    simp only [List.length_append, lText, List.length_nil] at hl'
    obtain ⟨dp', h2⟩ := cItems_ok IH (fin := [41]) (t := t ++ [40]) (dp := max dp (deep + 1)) h1 (by simp only [List.length_append]; omega)
    refine ⟨dp', ?_⟩
    rw [e8]
    rw [if_neg (by omega)]
    show (wpt [40] _).bind _ = _
    rw [wp_y (by simp only [List.length_append]; omega), Option.bind_some, if_neg (by omega), if_neg (by omega), if_pos (by omega)]
    show cItems _ (x.items.map Int.ofNat) _ _ = _
    rw [h2]
    simp [lText]
   rw [if_neg e8] at h
   by_cases e9 : x.k = 9
   ·rw [if_pos e9] at h
    injection h with h
    injection h with h1 h2
    subst h1; subst h2
    rw [lT_cons, lt1_kw (by decide), lT_cons, lt1_plain k1.2, lT_cons, lt1_two, lText_app, lT_cons, lt1_two] at hl ⊢
    have hl' := hl
    simp only [List.length_append, lText, List.length_nil] at hl'
    refine ⟨max dp (deep + 1), ?_⟩
    rw [e9]
    rw [if_neg (by omega)]
    show (wpt (kwText 9) _).bind _ = _
    rw [wp_y (by simp only [List.length_append]; omega), Option.bind_some, if_neg (by omega), if_neg (by omega), if_neg (by omega), if_pos (by omega)]
    show (wpt (32 :: x.name) _).bind _ = _
    rw [wp_y (by simp only [List.length_append, List.length_cons, List.length_nil] at hl' ⊢; omega), Option.bind_some]
    show cSyms x.syms _ = _
    rw [cSyms_ok k2 (by simp only [List.length_append, List.length_cons, List.length_nil] at hl' ⊢; omega)]
    simp [lText, List.append_assoc]
   rw [if_neg e9] at h
   by_cases e10 : x.k = 10
   ·rw [if_pos e10] at h
    injection h with h
    injection h with h1 h2
    subst h1; subst h2
    have hd : digs 5 x.size = Lib.itoa x.g.size := by
     show _ = Lib.itoa (x.size : Int)
     unfold Lib.itoa
     rw [if_neg (by omega), Int.toNat_natCast]
     exact digs_dec 5 x.size (by omega) (by omega)
    rw [lT_cons, lt1_kw (by decide), lT_cons, lt1_plain k1.2, lT_cons, lt1_num, hd] at hl ⊢
    have hl' := hl
    simp only [List.length_append, lText, List.length_nil, List.length_cons] at hl'
    refine ⟨max dp (deep + 1), ?_⟩
    rw [e10]
    rw [if_neg (by omega)]
    show (wpt (kwText 10) _).bind _ = _
    rw [wp_y (by simp only [List.length_append]; omega), Option.bind_some, if_neg (by omega), if_neg (by omega), if_neg (by omega), if_neg (by omega), if_pos (by omega)]
    show wpt (32 :: (x.name ++ 32 :: Lib.itoa x.g.size)) _ = _
    rw [wp_y (by simp only [List.length_append, List.length_cons, List.length_nil] at hl' ⊢; omega)]
    simp [lText, List.append_assoc]
   rw [if_neg e10] at h
   by_cases e11 : x.k = 11
   ·rw [if_pos e11] at h
    obtain ⟨o', h1, rfl⟩ := map_some h
    simp only at hl ⊢
    rw [lT_cons, lt1_kw (by decide), lT_cons, lt1_plain k1.2, lT_cons, lt1_two, lText_app, lT_cons, lt1_two] at hl ⊢
    have hl' := hl
    simp only [List.length_append, lText, List.length_nil] at hl'
    obtain ⟨dp', h2⟩ := cFields_ok IH (t := t ++ kwText 11 ++ 32 :: x.name) (dp := max dp (deep + 1)) k3 h1 (by simp only [List.length_append, List.length_cons, List.length_nil] at hl' ⊢; omega)
    refine ⟨dp', ?_⟩
    rw [e11]
    rw [if_neg (by omega)]
    show (wpt (kwText 11) _).bind _ = _
    rw [wp_y (by simp only [List.length_append]; omega), Option.bind_some, if_neg (by omega), if_neg (by omega), if_neg (by omega), if_neg (by omega), if_neg (by omega), if_pos (by omega)]
    show (wpt (32 :: x.name) _).bind _ = _
    rw [wp_y (by simp only [List.length_append, List.length_cons, List.length_nil] at hl' ⊢; omega), Option.bind_some]
    show cFields _ (x.fields.map Fl.g) _ = _
    rw [h2]
    simp [lText, List.append_assoc]
   rw [if_neg e11] at h
   cases h
theorem read_br {l : List UInt8} {N : List Nd} (h : eRead l = .ok N) : ABr N := by
 unfold eRead at h
 cases hw : wWords l with
 | error e => rw [hw] at h; cases h
 | ok toks =>
  rw [hw] at h
  simp only at h
  have hT : TBr toks := fun t ht => by
   obtain ⟨i, hi, rfl⟩ := List.mem_iff_getElem.1 ht
   have := tcs_few hw hi
   unfold tokAt at this
   rw [List.getD_eq_getElem?_getD, List.getElem?_eq_getElem hi] at this
   exact this
  split at h
  ·cases h
  ·cases h
  ·rename_i n t r N1 e
   split at h
   ·injection h with h
    subst h
    exact (eType_br _ _ _ _ _ _ _ _ hT (fun x hx => by cases hx) e).2
   ·cases h
theorem read_top {l : List UInt8} {N : List Nd} (h : eRead l = .ok N) (hN : N.length ≤ 200) : ∃ t dp, cTop (N.map Nd.g) = some (t, N.length, dp) ∧ eRead t = .ok N ∧ t.length ≤ l.length := by
 have hp := (eRead_is l N).1 h
 obtain ⟨out, h1, _, h3, h4⟩ := pRead_text hp
 have h5 := pRead_long hp
 rw [wTok_fuel N 2000 (N.length + 1) 0 0 (by omega) (by omega)] at h1
 obtain ⟨dp, h6⟩ := wTok_text (read_br h) (N.length + 1) 0 0 0 out N.length [] 0 h1 (by simpa using Nat.le_trans h4 h5)
 refine ⟨lText out, dp, ?_, (eRead_is _ _).2 h3, h4⟩
 unfold cTop
 rw [List.length_map]
 exact h6
open Go.RowKit
structure LT (w : World) : Prop where
 lf : LF w
 tab : Tab w
 pos : 3 < w.heap.size
theorem LT.turn {w w' : World} (h : LT w) (ht : Turn w w' none) : LT w' := ⟨h.lf.turn ht, h.tab.same (World.grownBy.block ht _ h.pos (by simp)), Nat.lt_of_lt_of_le h.pos ht.size⟩
theorem ok_of {l : List UInt8} {N : List Nd} {a : Nat} (h : eRead l = .ok N) (hN : NOk N a) (ha : a ≤ 1500) : ∀ x ∈ N.map Nd.g, GOk x := by
 intro x hx
 obtain ⟨y, hy, rfl⟩ := List.mem_map.1 hx
 obtain ⟨k1, k2, k3, k4⟩ := read_br h y hy
 have hs := hN.small y hy
 refine ⟨by show y.syms.length ≤ _; omega, by show (y.items.map Int.ofNat).length ≤ _; rw [List.length_map]; omega, by show (y.fields.map Fl.g).length ≤ _; rw [List.length_map]; omega, by have := k1.1; show y.name.length ≤ _; omega, fun s hs => by have := (k2 s hs).1; omega, fun f hf => ?_, by show _ ≤ (y.size : Int) ∧ (y.size : Int) ≤ _; omega⟩
 obtain ⟨z, hz, rfl⟩ := List.mem_map.1 hf
 have := (k3 z hz).1
 show z.name.length ≤ _
 omega
structure Sv (w : World) (A : Option Addr) (n c : Nat) (gs : List Gn) : Prop where
 sc : Sc w w.heap.size A n gs
 ok : ∀ x ∈ gs, GOk x
 few : n ≤ 1000000
 cap : n ≤ c ∧ c ≤ maxLen
theorem Sv.turn {w w' : World} {A : Option Addr} {n c : Nat} {gs : List Gn} (h : Sv w A n c gs) (ht : Turn w w' none) : Sv w' A n c gs := ⟨(h.sc.turn0 ht (Nat.le_refl _)).mono ht.size, h.ok, h.few, h.cap⟩
theorem parse_ok {l : List UInt8} {N : List Nd} (h : eRead l = .ok N) (w : World) (hL : LF w) (hl : l.length ≤ 140737488355328) : Calls Tryz.prog 43 #[.string (txt l)] w fun e w' => ∃ A c, e = .returned (.tuple #[.agg #[.slice A N.length c], .int .i64 0, .int .i64 0]) ∧ Sv w' A N.length c (N.map Nd.g) ∧ N.length ≤ 200 ∧ Turn w w' none := by
 refine (parse_any l w hL hl).mono ?_
 rintro e w' (⟨N', v, a, q, rfl, ⟨R, hR, rfl⟩, hok, ha, ht⟩ | ⟨p, er, q, _⟩)
 ·rw [h] at q
  injection q with q
  subst q
  exact ⟨_, _, rfl, ⟨hR.sc, ok_of h hok ha, by have := hok.few; omega, hR.own.cap⟩, hok.few, ht⟩
 ·rw [h] at q; cases q
theorem parse_no {l : List UInt8} {p er : Nat} (h : eRead l = .error (p, er)) (w : World) (hL : LF w) (hl : l.length ≤ 140737488355328) : Calls Tryz.prog 43 #[.string (txt l)] w fun e w' => e = .returned (.tuple #[.agg #[.slice none 0 0], .int .i64 (p : Int), .int .i64 (er : Int)]) ∧ ((er : Int) != 0) = true ∧ Turn w w' none := by
 refine (parse_any l w hL hl).mono ?_
 rintro e w' (⟨N', v, a, q, _⟩ | ⟨p', er', q, hne, rfl, ht⟩)
 ·rw [h] at q; cases q
 ·rw [h] at q
  injection q with q
  injection q with q1 q2
  subst q1; subst q2
  exact ⟨rfl, by rw [bne_iff_ne]; omega, ht⟩
theorem show_ok {w : World} {A : Option Addr} {n c : Nat} {gs : List Gn} {t : List UInt8} {d : Nat} (h : cShow gs = some (t, d)) (hT : LT w) (hs : Sv w A n c gs) : Calls Tryz.prog 13 #[.agg #[.slice A n c]] w fun e w' => e = .returned (.tuple #[.string (txt t), .int .i64 0]) ∧ Turn w w' none := by
 refine (show_any itoa_ok hT.lf hT.tab hT.pos hs.sc (Nat.le_refl _) hs.few hs.ok hs.cap).mono ?_
 rintro e w' ⟨rfl, ht⟩
 unfold shV
 rw [h]
 exact ⟨rfl, ht⟩
theorem show_no {w : World} {A : Option Addr} {n c : Nat} {gs : List Gn} (h : cShow gs = none) (hT : LT w) (hs : Sv w A n c gs) : Calls Tryz.prog 13 #[.agg #[.slice A n c]] w fun e w' => e = .returned (.tuple #[.string (txt []), .int .i64 1]) ∧ Turn w w' none := by
 refine (show_any itoa_ok hT.lf hT.tab hT.pos hs.sc (Nat.le_refl _) hs.few hs.ok hs.cap).mono ?_
 rintro e w' ⟨rfl, ht⟩
 unfold shV
 rw [h]
 exact ⟨rfl, ht⟩
theorem key_eq (l : List UInt8) : keyW l = isKey l := by
 unfold keyW isKey wordNo
 cases h : pWord l with
 | none => simp
 | some k =>
  obtain ⟨hk, rfl⟩ := pWord_some h
  rw [kwText_name k hk]
  show (decide (k < 6 ∨ 8 < k) && true) = decide (0 ≤ (k : Int) ∧ ((k : Int) < 6 ∨ 8 < (k : Int)))
  rw [Bool.and_true]
  exact decide_eq_decide.2 (by omega)
def KFew (rec : ERd) : Prop := ∀ ts N n r N', N.length ≤ 200 → rec ts N = .ok (n, r, N') → N'.length ≤ 200
theorem eOne_few {rec : ERd} (hr : KFew rec) {shut : List UInt8} {r : List Tok} {N : List Nd} {m n : Nat} {r' : List Tok} {N' : List Nd} (hN : N.length ≤ 200) (h : eOne rec shut r N m = .ok (n, r', N')) : N'.length ≤ 200 := by
 unfold eOne at h
 split at h
 ·cases h
 ·cases h
 ·rename_i x u r1 N1 e
  split at h
  ·injection h with h
   injection h with _ h
   injection h with h1 h2
   subst h2
   rw [List.length_modify]
   exact hr _ _ _ _ _ hN e
  ·cases h
theorem eAllW_few {rec : List Nat → ERd} (hr : ∀ its, KFew (rec its)) : ∀ (g : Nat) (its : List Nat) (ts : List Tok) (N : List Nd) (its' : List Nat) (r : List Tok) (N' : List Nd), N.length ≤ 200 → eAllW rec g its ts N = .ok (its', r, N') → N'.length ≤ 200
 | 0, _, _, _, _, _, _, _, h => by cases h
 | g + 1, its, ts, N, its', r, N', hN, h => by
  rw [eAllW] at h
  split at h
  ·cases h
  ·cases h
  ·rename_i x u r1 N1 e
   have a2 := hr _ _ _ _ _ _ hN e
   split at h
   ·injection h with h
    injection h with _ h
    injection h with h1 h2
    subst h2
    exact a2
   ·split at h
    ·exact eAllW_few hr g _ _ _ _ _ _ a2 h
    ·cases h
theorem eFields_few {rec : ERd} (hr : KFew rec) : ∀ (g : Nat) (fs : List Fl) (ts : List Tok) (N : List Nd) (fs' : List Fl) (r : List Tok) (N' : List Nd), N.length ≤ 200 → eFields rec g fs ts N = .ok (fs', r, N') → N'.length ≤ 200
 | 0, _, _, _, _, _, _, _, h => by unfold eFields at h; cases h
 | g + 1, _, [], _, _, _, _, _, h => by unfold eFields at h; cases h
 | g + 1, fs, t :: r, N, fs', r', N', hN, h => by
  rw [eFields] at h
  split at h
  ·injection h with h
   injection h with h0 h
   injection h with h1 h2
   subst h2
   exact hN
  split at h
  ·cases h
  split at h
  ·cases h
  split at h
  ·cases h
  ·split at h
   ·cases h
   ·cases h
   ·rename_i x u r2 N1 e2
    have a2 := hr _ _ _ _ _ hN e2
    split at h
    ·exact eFields_few hr g _ _ _ _ _ _ a2 h
    ·cases h
theorem few_push {N : List Nd} {x : Nd} (h : ¬200 ≤ N.length) : (N ++ [x]).length ≤ 200 := by rw [List.length_append]; simp; omega
theorem eNamed_few {rec : ERd} (hr : KFew rec) {f k : Nat} {r : List Tok} {N : List Nd} {n : Nat} {r' : List Tok} {N' : List Nd} (hN : ¬200 ≤ N.length) (h : eNamed rec f k r N = .ok (n, r', N')) : N'.length ≤ 200 := by
 unfold eNamed at h
 split at h
 ·cases h
 split at h
 ·cases h
 split at h
 ·cases h
 split at h
 ·cases h
 split at h
 ·split at h
  ·injection h with h
   injection h with _ h
   injection h with h1 h2
   subst h2
   exact few_push hN
  ·cases h
 split at h
 ·split at h
  ·split at h
   ·injection h with h
    injection h with _ h
    injection h with h1 h2
    subst h2
    exact few_push hN
   ·cases h
  ·cases h
 split at h
 ·split at h
  ·rename_i fs r3 N1 e
   injection h with h
   injection h with _ h
   injection h with h1 h2
   subst h2
   rw [List.length_modify]
   exact eFields_few hr _ _ _ _ _ _ _ (few_push hN) e
  ·cases h
 ·cases h
theorem eStep_few {rec : Option (List Nat) → ERd} (hr : ∀ u, KFew (rec u)) {f deep : Nat} {un : Option (List Nat)} {t : Tok} {r : List Tok} {N : List Nd} {n : Nat} {r' : List Tok} {N' : List Nd} (hN : N.length ≤ 200) (h : eStep rec f deep un t r N = .ok (n, r', N')) : N'.length ≤ 200 := by
 unfold eStep at h
 split at h
 ·split at h
  ·cases h
  split at h
  ·cases h
  split at h
  ·cases h
  ·split at h
   ·cases h
   ·injection h with h
    injection h with _ h
    injection h with h1 h2
    subst h2
    exact hN
 ·split at h
  ·cases h
  rename_i hdn
  have hn : ¬200 ≤ N.length := fun e => hdn (.inr e)
  split at h
  ·cases h
  split at h
  ·cases h
  split at h
  ·injection h with h
   injection h with _ h
   injection h with h1 h2
   subst h2
   exact few_push hn
  split at h
  ·exact eOne_few (hr none) (few_push hn) h
  split at h
  ·exact eOne_few (hr none) (few_push hn) h
  split at h
  ·split at h
   ·rename_i its r1 N1 e
    injection h with h
    injection h with _ h
    injection h with h1 h2
    subst h2
    rw [List.length_modify]
    exact eAllW_few (fun its => hr (some its)) _ _ _ _ _ _ _ (few_push hn) e
   ·cases h
  ·exact eNamed_few (hr none) hn h
theorem eType_few : ∀ (f deep : Nat) (un : Option (List Nat)), KFew (eType f deep un)
 | 0, _, _, _, _, _, _, _, _, h => by cases h
 | f + 1, deep, un, [], _, _, _, _, _, h => by cases h
 | f + 1, deep, un, t :: r, N, n, r', N', hN, h => by
  rw [eType] at h
  exact eStep_few (fun u => eType_few f (deep + 1) u) hN h
theorem read_few {l : List UInt8} {N : List Nd} (h : eRead l = .ok N) : N.length ≤ 200 := by
 unfold eRead at h
 split at h
 ·cases h
 ·split at h
  ·cases h
  ·cases h
  ·rename_i n t r N1 e
   split at h
   ·injection h with h
    subst h
    exact eType_few _ _ _ _ _ _ _ _ (Nat.zero_le _) e
   ·cases h
open Go.RowKit
theorem show_back {l : List UInt8} {N : List Nd} (h : eRead l = .ok N) (hN : N.length ≤ 200) : ∃ t d, cShow (N.map Nd.g) = some (t, d) ∧ eRead t = .ok N ∧ t.length ≤ l.length := by
 obtain ⟨t, d, h1, h2, h3⟩ := read_top h hN
 refine ⟨t, d, ?_, h2, h3⟩
 unfold cShow
 rw [h1]
 simp only
 rw [h2]
 simp
theorem Sv.own {w w' : World} {A A' : Option Addr} {n c c' : Nat} {gs : List Gn} (h : Sv w A n c gs) (hs : Sc w' w'.heap.size A' n gs) (h1 : n ≤ c') (h2 : c' ≤ maxLen) : Sv w' A' n c' gs := ⟨hs, h.ok, h.few, h1, h2⟩
end Go.Proofs.YtgigiecdpjchkaaGreatDoor
namespace Go.Proofs.YtgigiecdpjchkaaGreatDoor.Sha
open Go.RowKit
def cV (s : BitVec 32) : Int := (s.toNat : Int)
theorem cV_bd (s : BitVec 32) : 0 ≤ cV s ∧ cV s ≤ 4294967295 := by
 have h := s.isLt
 unfold cV
 omega
theorem cV_xor (s t : BitVec 32) : bits .xor .u32 (cV s) (cV t) = cV (s ^^^ t) := by
 unfold cV
 rw [u32_xor_nat _ _ s.isLt t.isLt, BitVec.toNat_xor]
theorem cV_or (s t : BitVec 32) : bits .or .u32 (cV s) (cV t) = cV (s ||| t) := by
 unfold cV
 rw [u32_or_nat _ _ s.isLt t.isLt, BitVec.toNat_or]
theorem cV_and (s t : BitVec 32) : bits .and .u32 (cV s) (cV t) = cV (s &&& t) := by
 unfold cV
 rw [u32_and_nat _ _ s.isLt t.isLt, BitVec.toNat_and]
theorem cV_add (s t : BitVec 32) : (cV s + cV t) % 4294967296 = cV (s + t) := by
 unfold cV
 rw [BitVec.toNat_add]
 simp
theorem cW_add (s t : BitVec 32) : IntKind.u32.wrap (cV s + cV t) = cV (s + t) := by
 rw [IntKind.wrap_u32, cV_add]
theorem cV_shl (s : BitVec 32) (k : Nat) : cV s * 2 ^ k % 4294967296 = cV (s <<< k) := by
 unfold cV
 rw [BitVec.toNat_shiftLeft, Nat.shiftLeft_eq]
 simp
theorem cV_shr (s : BitVec 32) (k : Nat) : cV s / 2 ^ k = cV (s >>> k) := by
 unfold cV
 rw [BitVec.toNat_ushiftRight, Nat.shiftRight_eq_div_pow]
 simp
theorem cOr_code (s : BitVec 32) (c : UInt8) : bits .or .u32 (cV s * (256 : Int) % (4294967296 : Int)) (c.toNat : Int) = cV ((s <<< 8) ||| BitVec.ofNat 32 c.toNat) := by
 have := c.toNat_lt
 have e1 : cV s * (256 : Int) % (4294967296 : Int) = cV (s <<< 8) := by
  unfold cV
  rw [BitVec.toNat_shiftLeft, Nat.shiftLeft_eq]
  omega
 have e2 : (c.toNat : Int) = cV (BitVec.ofNat 32 c.toNat) := by
  unfold cV
  rw [BitVec.toNat_ofNat, Nat.mod_eq_of_lt (by omega)]
 rw [e1, e2, cV_or]
def cvs (l : List (BitVec 32)) : List Value := l.map fun s => .int .u32 (cV s)
theorem cvs_len (l : List (BitVec 32)) : (cvs l).length = l.length := by simp [cvs]
theorem cvs_at {l : List (BitVec 32)} {i : Nat} {s : BitVec 32} (h : l[i]? = some s) : (cvs l)[i]? = some (.int .u32 (cV s)) := by simp [cvs, h]
theorem cvs_append (l m : List (BitVec 32)) : cvs (l ++ m) = cvs l ++ cvs m := by simp [cvs]
theorem cvs_one (l : List (BitVec 32)) : ∀ u ∈ cvs l, u.oneCell' = true := by
 intro u hu
 obtain ⟨b, _, rfl⟩ := List.mem_map.1 hu
 rfl
theorem cvs_set (l : List (BitVec 32)) (i : Nat) (s : BitVec 32) : (cvs l).set i (.int .u32 (cV s)) = cvs (l.set i s) := by
 unfold cvs
 rw [List.map_set]
def sRot (x : BitVec 32) (n : Nat) : BitVec 32 := (x >>> n) ||| (x <<< (32 - n))
def sTri (x : BitVec 32) (i j k : Nat) : BitVec 32 := (sRot x i ^^^ sRot x j) ^^^ sRot x k
def sShi (x : BitVec 32) (i j k : Nat) : BitVec 32 := (sRot x i ^^^ sRot x j) ^^^ (x >>> k)
structure W8 where
 a : BitVec 32
 b : BitVec 32
 c : BitVec 32
 d : BitVec 32
 e : BitVec 32
 f : BitVec 32
 g : BitVec 32
 h : BitVec 32
def W8.list (v : W8) : List (BitVec 32) := [v.a, v.b, v.c, v.d, v.e, v.f, v.g, v.h]
def W8.add (v w : W8) : W8 := ⟨v.a + w.a, v.b + w.b, v.c + w.c, v.d + w.d, v.e + w.e, v.f + w.f, v.g + w.g, v.h + w.h⟩
def sStart : W8 := ⟨0x6a09e667#32, 0xbb67ae85#32, 0x3c6ef372#32, 0xa54ff53a#32, 0x510e527f#32, 0x9b05688c#32, 0x1f83d9ab#32, 0x5be0cd19#32⟩
def sKeys : List (BitVec 32) := [
 0x428a2f98#32, 0x71374491#32, 0xb5c0fbcf#32, 0xe9b5dba5#32, 0x3956c25b#32, 0x59f111f1#32, 0x923f82a4#32, 0xab1c5ed5#32,
 0xd807aa98#32, 0x12835b01#32, 0x243185be#32, 0x550c7dc3#32, 0x72be5d74#32, 0x80deb1fe#32, 0x9bdc06a7#32, 0xc19bf174#32,
 0xe49b69c1#32, 0xefbe4786#32, 0x0fc19dc6#32, 0x240ca1cc#32, 0x2de92c6f#32, 0x4a7484aa#32, 0x5cb0a9dc#32, 0x76f988da#32,
 0x983e5152#32, 0xa831c66d#32, 0xb00327c8#32, 0xbf597fc7#32, 0xc6e00bf3#32, 0xd5a79147#32, 0x06ca6351#32, 0x14292967#32,
 0x27b70a85#32, 0x2e1b2138#32, 0x4d2c6dfc#32, 0x53380d13#32, 0x650a7354#32, 0x766a0abb#32, 0x81c2c92e#32, 0x92722c85#32,
 0xa2bfe8a1#32, 0xa81a664b#32, 0xc24b8b70#32, 0xc76c51a3#32, 0xd192e819#32, 0xd6990624#32, 0xf40e3585#32, 0x106aa070#32,
 0x19a4c116#32, 0x1e376c08#32, 0x2748774c#32, 0x34b0bcb5#32, 0x391c0cb3#32, 0x4ed8aa4a#32, 0x5b9cca4f#32, 0x682e6ff3#32,
 0x748f82ee#32, 0x78a5636f#32, 0x84c87814#32, 0x8cc70208#32, 0x90befffa#32, 0xa4506ceb#32, 0xbef9a3f7#32, 0xc67178f2#32]
theorem sKeys_len : sKeys.length = 64 := rfl
def sT1 (v : W8) (k w : BitVec 32) : BitVec 32 := (((v.h + sTri v.e 6 11 25) + ((v.e &&& v.f) ^^^ (~~~ v.e &&& v.g))) + k) + w
def sT2 (v : W8) : BitVec 32 := sTri v.a 2 13 22 + (((v.a &&& v.b) ^^^ (v.a &&& v.c)) ^^^ (v.b &&& v.c))
def sRnd (v : W8) (k w : BitVec 32) : W8 := ⟨sT1 v k w + sT2 v, v.a, v.b, v.c, v.d + sT1 v k w, v.e, v.f, v.g⟩
theorem cNot_code (s : BitVec 32) : bits .xor .u32 (if IntKind.u32.signed = true then -1 else IntKind.u32.max) (cV s) = cV (~~~ s) := by
 have e : (if IntKind.u32.signed = true then -1 else IntKind.u32.max) = cV 0xffffffff#32 := by decide
 have h2 : 0xffffffff#32 ^^^ s = ~~~ s := by rw [show (0xffffffff#32 : BitVec 32) = BitVec.allOnes 32 from rfl, BitVec.allOnes_xor]
 rw [e, cV_xor, h2]
theorem cNot_ref (s : BitVec 32) : bits .xor .u32 (cV s) 4294967295 = cV (~~~ s) := by
 have e : (4294967295 : Int) = cV 0xffffffff#32 := by decide
 have h2 : s ^^^ 0xffffffff#32 = ~~~ s := by rw [show (0xffffffff#32 : BitVec 32) = BitVec.allOnes 32 from rfl, BitVec.xor_allOnes]
 rw [e, cV_xor, h2]
theorem cT1_code (v : W8) (k w : BitVec 32) : (((cV v.h + cV (sTri v.e 6 11 25) + bits .xor .u32 (bits .and .u32 (cV v.e) (cV v.f)) (bits .and .u32 (bits .xor .u32 (if IntKind.u32.signed = true then -1 else IntKind.u32.max) (cV v.e)) (cV v.g)) + cV k) % 4294967296 + cV w) % 4294967296) = cV (sT1 v k w) := by
 rw [cNot_code, cV_and, cV_and, cV_xor]
 unfold sT1
 rw [← cV_add, ← cV_add, ← cV_add, ← cV_add]
 simp
theorem cT2_code (v : W8) : (cV (sTri v.a 2 13 22) + bits .xor .u32 (bits .xor .u32 (bits .and .u32 (cV v.a) (cV v.b)) (bits .and .u32 (cV v.a) (cV v.c))) (bits .and .u32 (cV v.b) (cV v.c))) % 4294967296 = cV (sT2 v) := by
 rw [cV_and, cV_and, cV_and, cV_xor, cV_xor, cV_add]
 rfl
def sRun (ws : List (BitVec 32)) (v : W8) : Nat → W8
 | 0 => v
 | n + 1 => sRnd (sRun ws v n) (sKeys.getD n 0#32) (ws.getD n 0#32)
def sMix (s r : W8) (i : Nat) : List (BitVec 32) := (s.add r).list.take i ++ s.list.drop i
theorem sMix_at (s r : W8) (i : Nat) (h : i < 8) : ∃ x y, r.list[i]? = some y ∧ (sMix s r i)[i]? = some x ∧ (sMix s r i).set i (x + y) = sMix s r (i + 1) := by
 have : i = 0 ∨ i = 1 ∨ i = 2 ∨ i = 3 ∨ i = 4 ∨ i = 5 ∨ i = 6 ∨ i = 7 := by omega
 rcases this with rfl | rfl | rfl | rfl | rfl | rfl | rfl | rfl <;> exact ⟨_, _, rfl, rfl, rfl⟩
theorem sMix_len (s r : W8) (i : Nat) (h : i ≤ 8) : (sMix s r i).length = 8 := by simp [sMix, W8.list]; omega
theorem sMix_all (s r : W8) : sMix s r 8 = (s.add r).list := rfl
def sWord (l : List UInt8) : BitVec 32 := l.foldl (fun s c => (s <<< 8) ||| BitVec.ofNat 32 c.toNat) 0#32
theorem sWord_last (l : List UInt8) (c : UInt8) : sWord (l ++ [c]) = (sWord l <<< 8) ||| BitVec.ofNat 32 c.toNat := by simp [sWord]
def sFirst (m : List UInt8) : Nat → List (BitVec 32)
 | 0 => []
 | n + 1 => sFirst m n ++ [sWord ((m.drop (4 * n)).take 4)]
theorem sFirst_len (m : List UInt8) (n : Nat) : (sFirst m n).length = n := by
 induction n with
 | zero => rfl
 | succ n ih => simp [sFirst, ih]
def sNext (ws : List (BitVec 32)) (i : Nat) : BitVec 32 :=
 ((ws.getD (i - 16) 0#32 + sShi (ws.getD (i - 15) 0#32) 7 18 3) + ws.getD (i - 7) 0#32) + sShi (ws.getD (i - 2) 0#32) 17 19 10
def sMore (ws : List (BitVec 32)) : Nat → List (BitVec 32)
 | 0 => ws
 | n + 1 => sMore ws n ++ [sNext (sMore ws n) (ws.length + n)]
theorem sMore_len (ws : List (BitVec 32)) (n : Nat) : (sMore ws n).length = ws.length + n := by
 induction n with
 | zero => rfl
 | succ n ih => simp [sMore, ih]; omega
def sPart (m : List UInt8) (j : Nat) : List (BitVec 32) := (List.range 64).map fun q => sWord (((m.take j).drop (4 * q)).take 4)
theorem sPart_len (m : List UInt8) (j : Nat) : (sPart m j).length = 64 := by simp [sPart]
theorem sPart_zero (m : List UInt8) : sPart m 0 = List.replicate 64 0#32 := by
 simp only [sPart, List.take_zero, List.drop_nil, List.take_nil]
 rfl
theorem sPart_at (m : List UInt8) (j q : Nat) (hq : q < 64) : (sPart m j)[q]? = some (sWord (((m.take j).drop (4 * q)).take 4)) := by
 simp [sPart, List.getElem?_map, List.getElem?_range hq]
theorem sPart_next {m : List UInt8} {j : Nat} {c : UInt8} (hj : j < 64) (hc : m[j]? = some c) :
  (sPart m j).set (j / 4) ((sWord (((m.take j).drop (4 * (j / 4))).take 4) <<< 8) ||| BitVec.ofNat 32 c.toNat) = sPart m (j + 1) := by
 have hlt := (List.getElem?_eq_some_iff.1 hc).1
 have ht : m.take (j + 1) = m.take j ++ [c] := by rw [List.take_add_one, hc]; rfl
 have hl : (m.take j).length = j := by rw [List.length_take]; omega
 apply List.ext_getElem?
 intro q
 by_cases hq : q < 64
 ·rw [sPart_at _ _ _ hq, List.getElem?_set]
  by_cases e : j / 4 = q
  ·rw [if_pos e, if_pos (by rw [sPart_len]; omega), ht]
   subst e
   have h1 : (m.take j ++ [c]).drop (4 * (j / 4)) = (m.take j).drop (4 * (j / 4)) ++ [c] := List.drop_append_of_le_length (by omega)
   have h2 : ((m.take j).drop (4 * (j / 4))).length < 4 := by rw [List.length_drop, hl]; omega
   rw [h1, List.take_of_length_le (l := _ ++ [c]) (by rw [List.length_append]; simp; omega), sWord_last, List.take_of_length_le (by omega)]
  ·rw [if_neg e, sPart_at _ _ _ hq, ht]
   congr 2
   by_cases h : q < j / 4
   ·rw [List.drop_append_of_le_length (by omega), List.take_append_of_le_length (by rw [List.length_drop]; omega)]
   ·rw [List.drop_eq_nil_of_le (by omega), List.drop_eq_nil_of_le (by simp; omega)]
 ·rw [List.getElem?_eq_none (by rw [List.length_set, sPart_len]; omega), List.getElem?_eq_none (by rw [sPart_len]; omega)]
def sTab (m : List UInt8) (n : Nat) : List (BitVec 32) := sMore (sFirst m 16) n ++ List.replicate (48 - n) 0#32
theorem sTab_len {m : List UInt8} {n : Nat} (h : n ≤ 48) : (sTab m n).length = 64 := by simp [sTab, sMore_len, sFirst_len]; omega
theorem sTab_at (m : List UInt8) (n k : Nat) (h : k < 16 + n) : (sTab m n)[k]? = some ((sMore (sFirst m 16) n).getD k 0#32) := by
 have hk : k < (sMore (sFirst m 16) n).length := by rw [sMore_len, sFirst_len]; exact h
 rw [sTab, List.getElem?_append_left hk, List.getElem?_eq_getElem hk, List.getD_eq_getElem?_getD, List.getElem?_eq_getElem hk]
 rfl
theorem sTab_next (m : List UInt8) (n : Nat) (h : n < 48) : (sTab m n).set (16 + n) (sNext (sMore (sFirst m 16) n) (16 + n)) = sTab m (n + 1) := by
 have e : List.replicate (48 - n) 0#32 = 0#32 :: List.replicate (48 - (n + 1)) 0#32 := by
  have : 48 - n = (48 - (n + 1)) + 1 := by omega
  rw [this]; rfl
 have hl : (sMore (sFirst m 16) n).length = 16 + n := by rw [sMore_len, sFirst_len]
 rw [sTab, sTab, e, sMore, sFirst_len, List.append_assoc, List.set_append_right _ _ (by omega), hl, Nat.sub_self]
 rfl
theorem sFirst_at (m : List UInt8) (n q : Nat) (h : q < n) : (sFirst m n)[q]? = some (sWord ((m.drop (4 * q)).take 4)) := by
 induction n with
 | zero => omega
 | succ n ih =>
  rw [sFirst]
  by_cases e : q = n
  ·subst e
   rw [List.getElem?_append_right (by rw [sFirst_len]; omega), sFirst_len, Nat.sub_self]
   rfl
  ·rw [List.getElem?_append_left (by rw [sFirst_len]; omega)]
   exact ih (by omega)
theorem sPart_all {m : List UInt8} (h : m.length = 64) : sPart m 64 = sTab m 0 := by
 have e64 : m.take 64 = m := List.take_of_length_le (by omega)
 apply List.ext_getElem?
 intro q
 by_cases hq : q < 64
 ·rw [sPart_at _ _ _ hq, e64, sTab, sMore]
  by_cases e : q < 16
  ·rw [List.getElem?_append_left (by rw [sFirst_len]; omega), sFirst_at _ _ _ e]
  ·rw [List.getElem?_append_right (by rw [sFirst_len]; omega), sFirst_len, List.getElem?_replicate, if_pos (by omega), List.drop_eq_nil_of_le (by omega)]
   rfl
 ·rw [List.getElem?_eq_none (by rw [sPart_len]; omega), List.getElem?_eq_none (by rw [sTab_len (by omega)]; omega)]
def sSpread (m : List UInt8) : List (BitVec 32) := sMore (sFirst m 16) 48
theorem sSpread_len (m : List UInt8) : (sSpread m).length = 64 := by rw [sSpread, sMore_len, sFirst_len]
def sBlock (s : W8) (m : List UInt8) : W8 := s.add (sRun (sSpread m) s 64)
def sGo (m : List UInt8) : Nat → W8
 | 0 => sStart
 | n + 1 => sBlock (sGo m n) ((m.drop (64 * n)).take 64)
theorem sGo_more (m x : List UInt8) (n : Nat) (h : 64 * n ≤ m.length) : sGo (m ++ x) n = sGo m n := by
 induction n with
 | zero => rfl
 | succ n ih =>
  have e : ((m ++ x).drop (64 * n)).take 64 = (m.drop (64 * n)).take 64 := by
   rw [List.drop_append_of_le_length (by omega), List.take_append_of_le_length (by rw [List.length_drop]; omega)]
  rw [sGo, sGo, e, ih (by omega)]
def sState (l : List UInt8) (s : W8) (m : List UInt8) : Prop := m.length = 64 ∧ s = sGo l (l.length / 64) ∧ m.take (l.length % 64) = l.drop (64 * (l.length / 64))
def sLay (m : List UInt8) (r : Nat) (x : List UInt8) : List UInt8 := m.take r ++ x ++ m.drop (r + x.length)
theorem sLay_len {m x : List UInt8} {r : Nat} (h : m.length = 64) (hx : r + x.length ≤ 64) : (sLay m r x).length = 64 := by
 simp [sLay, h]; omega
theorem sState_nil : sState [] sStart (List.replicate 64 0) := ⟨by simp, rfl, by simp⟩
theorem sState_part {l x m : List UInt8} {s : W8} (h : sState l s m) (hx : l.length % 64 + x.length < 64) : sState (l ++ x) s (sLay m (l.length % 64) x) := by
 obtain ⟨h1, h2, h3⟩ := h
 have e1 : (l ++ x).length / 64 = l.length / 64 := by rw [List.length_append]; omega
 have e2 : (l ++ x).length % 64 = l.length % 64 + x.length := by rw [List.length_append]; omega
 refine ⟨sLay_len h1 (by omega), ?_, ?_⟩
 ·rw [e1, sGo_more _ _ _ (by omega)]; exact h2
 ·rw [e1, e2, List.drop_append_of_le_length (by omega), ← h3]
  unfold sLay
  rw [List.take_append_of_le_length (by rw [List.length_append, List.length_take]; omega), List.take_of_length_le (by rw [List.length_append, List.length_take]; omega)]
theorem sState_full {l x m : List UInt8} {s : W8} (h : sState l s m) (hx : l.length % 64 + x.length = 64) : sState (l ++ x) (sBlock s (sLay m (l.length % 64) x)) (sLay m (l.length % 64) x) := by
 obtain ⟨h1, h2, h3⟩ := h
 have e1 : (l ++ x).length / 64 = l.length / 64 + 1 := by rw [List.length_append]; omega
 have e2 : (l ++ x).length % 64 = 0 := by rw [List.length_append]; omega
 have hl : sLay m (l.length % 64) x = (l ++ x).drop (64 * (l.length / 64)) := by
  unfold sLay
  rw [List.drop_append_of_le_length (by omega), ← h3, hx, List.drop_eq_nil_of_le (by omega), List.append_nil]
 refine ⟨sLay_len h1 (by omega), ?_, ?_⟩
 ·rw [e1, sGo, sGo_more _ _ _ (by omega), ← h2]
  have h4 : (sLay m (l.length % 64) x).take 64 = sLay m (l.length % 64) x := List.take_of_length_le (by rw [sLay_len h1 (by omega)]; omega)
  rw [hl] at h4 ⊢
  rw [h4]
 ·rw [e1, e2, List.take_zero, List.drop_eq_nil_of_le (by rw [List.length_append]; omega)]
def sLen (n : Nat) : List UInt8 := [UInt8.ofNat (n * 8 / 72057594037927936), UInt8.ofNat (n * 8 / 281474976710656), UInt8.ofNat (n * 8 / 1099511627776), UInt8.ofNat (n * 8 / 4294967296), UInt8.ofNat (n * 8 / 16777216), UInt8.ofNat (n * 8 / 65536), UInt8.ofNat (n * 8 / 256), UInt8.ofNat (n * 8)]
def sZeros (n : Nat) : Nat := (119 - n % 64) % 64
def sEnd (n : Nat) : List UInt8 := (128 :: List.replicate (sZeros n) 0) ++ sLen n
theorem sEnd_len (n : Nat) : (sEnd n).length = sZeros n + 9 := by simp [sEnd, sLen]
theorem sZeros_lt (n : Nat) : sZeros n < 64 := Nat.mod_lt _ (by decide)
def sPad (l : List UInt8) : List UInt8 := l ++ sEnd l.length
def sBs (s : BitVec 32) : List UInt8 := [UInt8.ofNat (s.toNat / 16777216), UInt8.ofNat (s.toNat / 65536), UInt8.ofNat (s.toNat / 256), UInt8.ofNat s.toNat]
def sOut (v : W8) : List UInt8 := v.list.flatMap sBs
theorem sOut_len (v : W8) : (sOut v).length = 32 := by simp [sOut, W8.list, sBs]
def sHash (l : List UInt8) : List UInt8 := sOut (sGo (sPad l) ((sPad l).length / 64))
theorem sHash_len (l : List UInt8) : (sHash l).length = 32 := sOut_len _
theorem sPad_len (l : List UInt8) : (sPad l).length = 64 * ((sPad l).length / 64) := by
 have h : (sPad l).length = l.length + (sZeros l.length + 9) := by rw [sPad, List.length_append, sEnd_len]
 rw [h]
 unfold sZeros
 omega
theorem sState_out {l : List UInt8} {s : W8} {m : List UInt8} (h : sState (sPad l) s m) : sOut s = sHash l := by
 rw [h.2.1]
 rfl
def sOutTo (s : W8) (i : Nat) : List UInt8 := (sOut s).take (4 * i) ++ List.replicate (32 - 4 * i) 0
theorem sOutTo_at (s : W8) (i : Nat) (h : i < 8) : ∃ x, s.list[i]? = some x ∧
  ((((sOutTo s i).set (4 * i) (UInt8.ofNat (x.toNat / 16777216))).set (4 * i + 1) (UInt8.ofNat (x.toNat / 65536))).set (4 * i + 2) (UInt8.ofNat (x.toNat / 256))).set (4 * i + 3) (UInt8.ofNat x.toNat) = sOutTo s (i + 1) := by
 have : i = 0 ∨ i = 1 ∨ i = 2 ∨ i = 3 ∨ i = 4 ∨ i = 5 ∨ i = 6 ∨ i = 7 := by omega
 rcases this with rfl | rfl | rfl | rfl | rfl | rfl | rfl | rfl <;> exact ⟨_, rfl, rfl⟩
theorem sOutTo_len (s : W8) (i : Nat) (h : i ≤ 8) : (sOutTo s i).length = 32 := by
 simp [sOutTo, sOut_len]; omega
theorem sOutTo_zero (s : W8) : sOutTo s 0 = List.replicate 32 0 := rfl
theorem sOutTo_all (s : W8) : sOutTo s 8 = sOut s := by
 unfold sOutTo
 rw [List.take_of_length_le (by rw [sOut_len]; omega)]
 simp
theorem sMore_at (m : List UInt8) (n k : Nat) (h : k < 16 + n) : (sMore (sFirst m 16) n)[k]? = some ((sMore (sFirst m 16) n).getD k 0#32) := by
 have hk : k < (sMore (sFirst m 16) n).length := by rw [sMore_len, sFirst_len]; exact h
 rw [List.getElem?_eq_getElem hk, List.getD_eq_getElem?_getD, List.getElem?_eq_getElem hk]
 rfl
theorem cS3 (s : BitVec 32) : cV s / (8 : Int) = cV (s >>> 3) := cV_shr s 3
theorem cS10 (s : BitVec 32) : cV s / (1024 : Int) = cV (s >>> 10) := cV_shr s 10
theorem cOr_add (s : BitVec 32) (c : UInt8) : cV ((s <<< 8) ||| BitVec.ofNat 32 c.toNat) = cV s % 16777216 * 256 + (c.toNat : Int) := by
 have hc := c.toNat_lt
 have h1 : (s <<< 8).toNat = (s.toNat % 16777216) <<< 8 := by
  rw [BitVec.toNat_shiftLeft, Nat.shiftLeft_eq, Nat.shiftLeft_eq]
  omega
 unfold cV
 rw [BitVec.toNat_or, BitVec.toNat_ofNat, Nat.mod_eq_of_lt (a := c.toNat) (by omega), h1, ← Nat.shiftLeft_add_eq_or_of_lt (by omega : c.toNat < 2 ^ 8), Nat.shiftLeft_eq]
 omega
theorem sWord4 (x0 x1 x2 x3 : UInt8) : IntKind.u32.wrap (IntKind.u32.wrap (IntKind.u32.wrap (IntKind.u32.wrap (IntKind.u32.wrap (x0.toNat : Int) * 16777216) + IntKind.u32.wrap (IntKind.u32.wrap (x1.toNat : Int) * 65536)) + IntKind.u32.wrap (IntKind.u32.wrap (x2.toNat : Int) * 256)) + IntKind.u32.wrap (x3.toNat : Int)) = cV (sWord [x0, x1, x2, x3]) := by
 have h0 := x0.toNat_lt
 have h1 := x1.toNat_lt
 have h2 := x2.toNat_lt
 have h3 := x3.toNat_lt
 have hz : cV 0#32 = 0 := rfl
 simp only [sWord, List.foldl_cons, List.foldl_nil, cOr_add, hz, IntKind.wrap_u32]
 omega
theorem cTri_ref (s : BitVec 32) (i j k : Nat) : bits .xor .u32 (bits .xor .u32 (cV (sRot s i)) (cV (sRot s j))) (cV (sRot s k)) = cV (sTri s i j k) := by
 rw [cV_xor, cV_xor]; rfl
theorem cT1_ref (v : W8) (k w : BitVec 32) : (((cV v.h + bits .xor .u32 (bits .xor .u32 (cV (sRot v.e 6)) (cV (sRot v.e 11))) (cV (sRot v.e 25)) + bits .xor .u32 (bits .and .u32 (cV v.e) (cV v.f)) (bits .and .u32 (bits .xor .u32 (cV v.e) (4294967295 : Int)) (cV v.g)) + cV k) % (4294967296 : Int) + cV w) % (4294967296 : Int)) = cV (sT1 v k w) := by
 rw [cTri_ref, cNot_ref, cV_and, cV_and, cV_xor]
 unfold sT1
 rw [← cV_add, ← cV_add, ← cV_add, ← cV_add]
 simp
theorem cT2_ref (v : W8) : (bits .xor .u32 (bits .xor .u32 (cV (sRot v.a 2)) (cV (sRot v.a 13))) (cV (sRot v.a 22)) + bits .xor .u32 (bits .xor .u32 (bits .and .u32 (cV v.a) (cV v.b)) (bits .and .u32 (cV v.a) (cV v.c))) (bits .and .u32 (cV v.b) (cV v.c))) % (4294967296 : Int) = cV (sT2 v) := by
 rw [cTri_ref]
 exact cT2_code v
theorem sOut_at (s : W8) (i : Nat) (h : i < 32) : ∃ x, s.list[i / 4]? = some x ∧ (sOut s)[i]? = some (UInt8.ofNat (x.toNat / 2 ^ (24 - 8 * (i % 4)))) := by
 have : i = 0 ∨ i = 1 ∨ i = 2 ∨ i = 3 ∨ i = 4 ∨ i = 5 ∨ i = 6 ∨ i = 7 ∨ i = 8 ∨ i = 9 ∨ i = 10 ∨ i = 11 ∨ i = 12 ∨ i = 13 ∨ i = 14 ∨ i = 15 ∨ i = 16 ∨ i = 17 ∨ i = 18 ∨ i = 19 ∨ i = 20 ∨ i = 21 ∨ i = 22 ∨ i = 23 ∨ i = 24 ∨ i = 25 ∨ i = 26 ∨ i = 27 ∨ i = 28 ∨ i = 29 ∨ i = 30 ∨ i = 31 := by omega
 rcases this with rfl | rfl | rfl | rfl | rfl | rfl | rfl | rfl | rfl | rfl | rfl | rfl | rfl | rfl | rfl | rfl | rfl | rfl | rfl | rfl | rfl | rfl | rfl | rfl | rfl | rfl | rfl | rfl | rfl | rfl | rfl | rfl <;> first | exact ⟨_, rfl, rfl⟩ | exact ⟨_, rfl, (by show some (UInt8.ofNat (BitVec.toNat _)) = some (UInt8.ofNat (BitVec.toNat _ / 1)); rw [Nat.div_one]; try rfl)⟩
def sOutBy (s : W8) (i : Nat) : List UInt8 := (sOut s).take i ++ List.replicate (32 - i) 0
theorem sOutBy_len (s : W8) (i : Nat) (h : i ≤ 32) : (sOutBy s i).length = 32 := by
 simp [sOutBy, sOut_len]; omega
theorem sOutBy_next {s : W8} {i : Nat} {b : UInt8} (h : i < 32) (hb : (sOut s)[i]? = some b) : (sOutBy s i).set i b = sOutBy s (i + 1) := by
 have e : List.replicate (32 - i) (0 : UInt8) = 0 :: List.replicate (32 - (i + 1)) 0 := by
  have : 32 - i = (32 - (i + 1)) + 1 := by omega
  rw [this]; rfl
 have hl : ((sOut s).take i).length = i := by rw [List.length_take, sOut_len]; omega
 rw [sOutBy, sOutBy, e, List.set_append_right _ _ (by omega), hl, Nat.sub_self, List.take_add_one, hb, List.append_assoc]
 rfl
theorem sOutBy_zero (s : W8) : sOutBy s 0 = List.replicate 32 0 := rfl
theorem sOutBy_all (s : W8) : sOutBy s 32 = sOut s := by
 unfold sOutBy
 rw [List.take_of_length_le (by rw [sOut_len]; omega)]
 simp
open Go.RowKit
theorem elB : El Tryz.prog 55 5 1 1 := El.mk_ Tryz.underlying55 (z := .int .u8 0) (by kernel_rfl) rfl (by decide)
theorem elW : El Tryz.prog 131 135 1 4 := El.mk_ Tryz.underlying131 (z := .int .u32 0) (by kernel_rfl) rfl (by decide)
theorem neg_and : ∀ n : Nat, n < 32 → 0 < n → bits .and .u64 (IntKind.u64.wrap (-(n : Int))) 31 = ((32 - n : Nat) : Int) := by
 decide +kernel
theorem rotl_any (s : BitVec 32) (n : Nat) (hn : n < 32) (h0 : 0 < n) (w : World) :
  Calls Tryz.prog 188 #[.int .u32 (cV s), .int .i64 (-(n : Int))] w fun e w' => e = .returned (.int .u32 (cV (sRot s n))) ∧ w = w' := by
 have hs := cV_bd s
 have hf := neg_and n hn h0
 obtain ⟨k, hk⟩ : ∃ k, k = 32 - n := ⟨_, rfl⟩
 rw [← hk] at hf
 have hk32 : k < 32 := by omega
 go_enter Tryz.func188, Tryz.ntmps188
 go_wp2
 go_ret
 refine ⟨?_, rfl⟩
 have e : 32 - (32 - n) = n := by omega
 rw [e, cV_shr, cV_shl, cV_or, BitVec.or_comm]
 rfl
theorem right_any (s : BitVec 32) (n : Nat) (hn : n < 32) (h0 : 0 < n) (w : World) :
  Calls Tryz.prog 181 #[.int .u32 (cV s), .int .i64 (n : Int)] w fun e w' => e = .returned (.int .u32 (cV (sRot s n))) ∧ w = w' := by
 have hs := cV_bd s
 go_enter Tryz.func181, Tryz.ntmps181
 go_wp2_with (go_at_call 188; refine (rotl_any s n hn h0 _).mono ?_; rintro e w' ⟨rfl, rfl⟩)
 go_ret
 exact ⟨rfl, rfl⟩
theorem rturn_any (s : BitVec 32) (n : Nat) (hn : n < 32) (h0 : 0 < n) (w : World) :
  Calls Tryz.prog 93 #[.int .u32 (cV s), .int .u64 (n : Int)] w fun e w' => e = .returned (.int .u32 (cV (sRot s n))) ∧ w = w' := by
 have hs := cV_bd s
 go_enter Tryz.func93, Tryz.ntmps93
 go_wp2
 go_ret
 refine ⟨?_, rfl⟩
 rw [cV_shr, cV_shl, cV_or]
 rfl
theorem turned_any (s : BitVec 32) (i j k : Nat) (hi : i < 32) (hj : j < 32) (hk : k < 32) (i0 : 0 < i) (j0 : 0 < j) (k0 : 0 < k) (w : World) :
  Calls Tryz.prog 154 #[.int .u32 (cV s), .int .i64 (i : Int), .int .i64 (j : Int), .int .i64 (k : Int)] w fun e w' => e = .returned (.int .u32 (cV (sTri s i j k))) ∧ w = w' := by
 have hs := cV_bd s
 have b1 := cV_bd (sRot s i)
 have b2 := cV_bd (sRot s j)
 have b3 := cV_bd (sRot s k)
 go_enter Tryz.func154, Tryz.ntmps154
 go_wp2_with (first
  | (go_at_call_of 181 (Value.int .i64 (i : Int)); refine (right_any s i hi i0 _).mono ?_; rintro e w' ⟨rfl, rfl⟩)
  | (go_at_call_of 181 (Value.int .i64 (j : Int)); refine (right_any s j hj j0 _).mono ?_; rintro e w' ⟨rfl, rfl⟩)
  | (go_at_call_of 181 (Value.int .i64 (k : Int)); refine (right_any s k hk k0 _).mono ?_; rintro e w' ⟨rfl, rfl⟩))
 rw [cV_xor, cV_xor]
 go_ret
 exact ⟨rfl, rfl⟩
theorem quiet_eq {P : Program} {f : FuncId} {args : Array Value} {w : World} {n : Nat} {v : Value}
  (h : Calls P f args (w.drewN n) fun e w' => e = .returned v ∧ w.drewN n = w') : Calls P f args (w.drewN n) fun e w'' => e = .returned v ∧ ∃ m, w'' = w.drewN m :=
 h.mono fun _ _ ⟨he, hm⟩ => ⟨he, n, hm.symm⟩
theorem shifted_any (s : BitVec 32) (i j k : Nat) (hi : i < 32) (hj : j < 32) (hk : k < 32) (i0 : 0 < i) (j0 : 0 < j) (w : World) :
  Calls Tryz.prog 180 #[.int .u32 (cV s), .int .i64 (i : Int), .int .i64 (j : Int), .int .i64 (k : Int)] w fun e w' => e = .returned (.int .u32 (cV (sShi s i j k))) ∧ ∃ q, w' = w.drewN q := by
 have hs := cV_bd s
 have b1 := cV_bd (sRot s i)
 have b2 := cV_bd (sRot s j)
 go_enter Tryz.func180, Tryz.ntmps180
 go_wp2_with fail
 go_quiet (first
  | (go_at_call_of 181 (Value.int .i64 (i : Int)); exact quiet_eq (right_any s i hi i0 _))
  | (go_at_call_of 181 (Value.int .i64 (j : Int)); exact quiet_eq (right_any s j hj j0 _)))
 rw [cV_xor, cV_shr, cV_xor]
 go_wp2_with fail
 go_ret
 exact ⟨rfl, nq, rfl⟩
theorem turned_of (x : Int) (s : BitVec 32) (h : x = cV s) (a b c : Int) (i j k : Nat) (ha : a = i) (hb : b = j) (hc : c = k) (hi : i < 32) (hj : j < 32) (hk : k < 32) (i0 : 0 < i) (j0 : 0 < j) (k0 : 0 < k) (w : World) :
  Calls Tryz.prog 154 #[.int .u32 x, .int .i64 a, .int .i64 b, .int .i64 c] w fun e w' => e = .returned (.int .u32 (cV (sTri s i j k))) ∧ w = w' := by
 subst h ha hb hc
 exact turned_any s i j k hi hj hk i0 j0 k0 w
theorem shifted_of (x : Int) (s : BitVec 32) (h : x = cV s) (a b c : Int) (i j k : Nat) (ha : a = i) (hb : b = j) (hc : c = k) (hi : i < 32) (hj : j < 32) (hk : k < 32) (i0 : 0 < i) (j0 : 0 < j) (w : World) :
  Calls Tryz.prog 180 #[.int .u32 x, .int .i64 a, .int .i64 b, .int .i64 c] w fun e w' => e = .returned (.int .u32 (cV (sShi s i j k))) ∧ ∃ q, w' = w.drewN q := by
 subst h ha hb hc
 exact shifted_any s i j k hi hj hk i0 j0 w
theorem rturn_of (x : Int) (s : BitVec 32) (h : x = cV s) (a : Int) (i : Nat) (ha : a = i) (hi : i < 32) (i0 : 0 < i) (w : World) :
  Calls Tryz.prog 93 #[.int .u32 x, .int .u64 a] w fun e w' => e = .returned (.int .u32 (cV (sRot s i))) ∧ w = w' := by
 subst h ha
 exact rturn_any s i hi i0 w
end Go.Proofs.YtgigiecdpjchkaaGreatDoor.Sha
