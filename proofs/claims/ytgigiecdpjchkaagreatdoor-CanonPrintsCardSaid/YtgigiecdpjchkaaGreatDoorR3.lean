import Derived.Test.YtgigiecdpjchkaaGreatDoorR2
import Derived.Test.YtgigiecdpjchkaaGreatDoorR1
set_option linter.unusedSimpArgs false
set_option linter.unusedVariables false
set_option linter.unusedSectionVars false
set_option maxRecDepth 100000
set_option maxHeartbeats 6400000
namespace Go.Proofs.YtgigiecdpjchkaaGreatDoor
abbrev PE := Nat × Nat
abbrev EO := Except PE (Nat × List Tok × List Nd)
abbrev ERd := List Tok → List Nd → EO
def eOne (rec : ERd) (shut : List UInt8) (r : List Tok) (N : List Nd) (n : Nat) : EO :=
 match rec r N with
 | .error e => .error e
 | .ok (_, [], _) => .error (0, 0)
 | .ok (x, u :: r1, N1) => if u.k = 2 ∧ u.s = shut then .ok (n, r1, N1.modify n (fun y => { y with items := [x] })) else .error (u.at_, 4)
def eAllW (rec : List Nat → ERd) : Nat → List Nat → List Tok → List Nd → Except PE (List Nat × List Tok × List Nd)
 | 0, _, _, _ => .error (0, 0)
 | g + 1, its, ts, N =>
  match rec its ts N with
  | .error e => .error e
  | .ok (_, [], _) => .error (0, 0)
  | .ok (x, u :: r, N1) => if u.k = 2 ∧ u.s = [41] then .ok (its ++ [x], r, N1) else if u.k = 2 ∧ u.s = [124] then eAllW rec g (its ++ [x]) r N1 else .error (u.at_, 4)
def eSyms : Nat → List (List UInt8) → List Tok → Except PE (List (List UInt8) × List Tok)
 | g + 1, ys, t :: r0 =>
  if pNm t.tt = false then .error (t.at_, 4)
  else if ys.contains t.s then .error (t.at_, 6)
  else match r0 with
   | [] => .error (0, 0)
   | u :: r => if u.k = 2 ∧ u.s = [62] then .ok (ys ++ [t.s], r) else if u.k = 2 ∧ u.s = [44] then eSyms g (ys ++ [t.s]) r else .error (u.at_, 4)
 | _, _, _ => .error (0, 0)
def eHas : List Tok → Except PE (Bool × List Tok)
 | u :: r =>
  if u.k = 2 ∧ u.s = [58] then .ok (false, r)
  else if u.k = 2 ∧ u.s = [63] then
   match r with
   | v :: r2 => if v.k = 2 ∧ v.s = [58] then .ok (true, r2) else .error (v.at_, 4)
   | [] => .error (0, 0)
  else .error (u.at_, 4)
 | [] => .error (0, 0)
def eFields (rec : ERd) : Nat → List Fl → List Tok → List Nd → Except PE (List Fl × List Tok × List Nd)
 | g + 1, fs, t :: r, N =>
  if t.k = 2 ∧ t.s = [125] then .ok (fs, r, N)
  else if pNm t.tt = false then .error (t.at_, 4)
  else if fs.any (fun y => y.name == t.s) then .error (t.at_, 6)
  else match eHas r with
   | .error e => .error e
   | .ok (h, r1) =>
    match rec r1 N with
    | .error e => .error e
    | .ok (_, [], _) => .error (0, 0)
    | .ok (x, u :: r2, N1) => if u.k = 2 ∧ u.s = [59] then eFields rec g (fs ++ [⟨t.s, x, h⟩]) r2 N1 else .error (u.at_, 4)
 | _, _, _, _ => .error (0, 0)
def eNamed (rec : ERd) (f k : Nat) (r : List Tok) (N : List Nd) : EO :=
 match r with
 | [] => .error (0, 0)
 | a :: r1 =>
  if pNm a.tt = false then .error (a.at_, 4)
  else if (pCalled N a.s).isSome then .error (a.at_, 6)
  else match r1 with
   | [] => .error (0, 0)
   | b :: r2 =>
    if k = 10 then (if b.k = 1 ∧ wOk b.s = true then .ok (N.length, r2, N ++ [{ Nd.of 10 with name := a.s, size := wNumAt b.s }]) else .error (b.at_, 4))
    else if k = 9 then
     (if b.k = 2 ∧ b.s = [60] then
      match eSyms f [] r2 with
      | .ok (ys, r3) => .ok (N.length, r3, N ++ [{ Nd.of 9 with name := a.s, syms := ys }])
      | .error e => .error e
     else .error (b.at_, 4))
    else if b.k = 2 ∧ b.s = [123] then
     match eFields rec f [] r2 (N ++ [{ Nd.of 11 with name := a.s }]) with
     | .ok (fs, r3, N1) => .ok (N.length, r3, N1.modify N.length (fun y => { y with fields := fs }))
     | .error e => .error e
    else .error (b.at_, 4)
def eSame (un : Option (List Nat)) (N : List Nd) (k : Nat) : Bool := un.isSome && (decide (k < 9) && (un.getD []).any (fun i => kindAt N i == some k))
def eStep (rec : Option (List Nat) → ERd) (f deep : Nat) (un : Option (List Nat)) (t : Tok) (r : List Tok) (N : List Nd) : EO :=
 match pKind t.tt with
 | none =>
  if pNm t.tt = false then .error (t.at_, 4)
  else if 20 ≤ deep then .error (t.at_, 2)
  else match pCalled N t.s with
   | none => .error (t.at_, 5)
   | some n => if (un.getD []).contains n then .error (t.at_, 6) else .ok (n, r, N)
 | some k =>
  if 20 ≤ deep ∨ 200 ≤ N.length then .error (t.at_, 2)
  else if un.isSome ∧ k = 8 then .error (t.at_, 4)
  else if eSame un N k then .error (t.at_, 6)
  else if k < 6 then .ok (N.length, r, N ++ [Nd.of k])
  else if k = 6 then eOne (rec none) [93] r (N ++ [Nd.of 6]) N.length
  else if k = 7 then eOne (rec none) [125] r (N ++ [Nd.of 7]) N.length
  else if k = 8 then
   match eAllW (fun its => rec (some its)) f [] r (N ++ [Nd.of 8]) with
   | .ok (its, r1, N1) => .ok (N.length, r1, N1.modify N.length (fun y => { y with items := its }))
   | .error e => .error e
  else eNamed (rec none) f k r N
def eType : Nat → Nat → Option (List Nat) → List Tok → List Nd → EO
 | 0, _, _, _, _ => .error (0, 0)
 | _ + 1, _, _, [], _ => .error (0, 0)
 | f + 1, deep, un, t :: r, N => eStep (fun u => eType f (deep + 1) u) f deep un t r N
def eRead (l : List UInt8) : Except PE (List Nd) :=
 match wWords l with
 | .error e => .error e
 | .ok toks =>
  match eType 2000 0 none toks [] with
  | .error e => .error e
  | .ok (_, [], _) => .error (0, 0)
  | .ok (_, t :: _, N) => if t.k = 3 then .ok N else .error (t.at_, 4)
def er {α : Type} : Except PE (α × List Tok × List Nd) → Option (α × List TT × List Nd)
 | .ok (x, ts, N) => some (x, ts.map Tok.tt, N)
 | .error _ => none
def ErOk (rec : ERd) (rec' : Rdr) : Prop := ∀ ts N, er (rec ts N) = rec' (ts.map Tok.tt) N
theorem tt_fst (t : Tok) : t.tt.1 = t.k := rfl
theorem tt_snd (t : Tok) : t.tt.2 = t.s := rfl
theorem eOne_er {rec : ERd} {rec' : Rdr} (h : ErOk rec rec') (shut : List UInt8) (r : List Tok) (N : List Nd) (n : Nat) : er (eOne rec shut r N n) = pOne rec' shut (r.map Tok.tt) N n := by
 unfold eOne pOne
 rw [← h]
 cases rec r N with
 | error e => rfl
 | ok p =>
  obtain ⟨x, ts, N1⟩ := p
  cases ts with
  | nil => rfl
  | cons u r1 =>
   simp only [er, List.map_cons]
   by_cases hc : u.k = 2 ∧ u.s = shut
   ·rw [if_pos hc]
    show _ = if u.k = 2 ∧ u.s = shut then _ else none
    rw [if_pos hc]
   ·rw [if_neg hc]
    show _ = if u.k = 2 ∧ u.s = shut then _ else none
    rw [if_neg hc]
theorem eAllW_er {rec : List Nat → ERd} {rec' : List Nat → Rdr} (h : ∀ its, ErOk (rec its) (rec' its)) : ∀ (g : Nat) (its : List Nat) (ts : List Tok) (N : List Nd), er (eAllW rec g its ts N) = pAllW rec' g its (ts.map Tok.tt) N
 | 0, _, _, _ => rfl
 | g + 1, its, ts, N => by
  rw [eAllW, pAllW, ← h]
  cases rec its ts N with
  | error e => rfl
  | ok p =>
   obtain ⟨x, ts, N1⟩ := p
   cases ts with
   | nil => rfl
   | cons u r1 =>
    simp only [er, List.map_cons]
    show _ = if u.k = 2 ∧ u.s = [41] then _ else if u.k = 2 ∧ u.s = [124] then _ else none
    by_cases hc : u.k = 2 ∧ u.s = [41]
    ·rw [if_pos hc, if_pos hc]
    ·rw [if_neg hc, if_neg hc]
     by_cases hd : u.k = 2 ∧ u.s = [124]
     ·rw [if_pos hd, if_pos hd]
      exact eAllW_er h g _ _ _
     ·rw [if_neg hd, if_neg hd]
def erS {α : Type} : Except PE (α × List Tok) → Option (α × List TT)
 | .ok (x, ts) => some (x, ts.map Tok.tt)
 | .error _ => none
theorem eSyms_er : ∀ (g : Nat) (ys : List (List UInt8)) (ts : List Tok), erS (eSyms g ys ts) = pSyms g ys (ts.map Tok.tt)
 | 0, _, _ => by simp [eSyms, pSyms, erS]
 | g + 1, ys, [] => by simp [eSyms, pSyms, erS]
 | g + 1, ys, [t] => by
  simp only [eSyms, List.map_cons, List.map_nil]
  have hp : pSyms (g + 1) ys [t.tt] = none := by simp [pSyms]
  rw [hp]
  split
  ·rfl
  ·split <;> rfl
 | g + 1, ys, t :: u :: r => by
  have hp : pSyms (g + 1) ys (t.tt :: u.tt :: r.map Tok.tt) = if (pNm t.tt && !ys.contains t.s) = true then (if u.k = 2 ∧ u.s = [62] then some (ys ++ [t.s], r.map Tok.tt) else if u.k = 2 ∧ u.s = [44] then pSyms g (ys ++ [t.s]) (r.map Tok.tt) else none) else none := rfl
  rw [List.map_cons, List.map_cons, hp, eSyms]
  cases hn : pNm t.tt with
  | false => rfl
  | true =>
   simp only [Bool.true_eq_false, if_false, Bool.true_and]
   cases hc : ys.contains t.s with
   | true => rfl
   | false =>
    simp only [Bool.false_eq_true, if_false, Bool.not_false, if_true]
    by_cases h1 : u.k = 2 ∧ u.s = [62]
    ·rw [if_pos h1, if_pos h1]; rfl
    ·rw [if_neg h1, if_neg h1]
     by_cases h2 : u.k = 2 ∧ u.s = [44]
     ·rw [if_pos h2, if_pos h2]
      exact eSyms_er g _ _
     ·rw [if_neg h2, if_neg h2]; rfl
theorem eHas_er (ts : List Tok) : erS (eHas ts) = pHas (ts.map Tok.tt) := by
 cases ts with
 | nil => rfl
 | cons u r =>
  cases r with
  | nil =>
   show erS (if u.k = 2 ∧ u.s = [58] then _ else if u.k = 2 ∧ u.s = [63] then _ else _) = if u.k = 2 ∧ u.s = [58] then _ else if u.k = 2 ∧ u.s = [63] then _ else _
   by_cases h1 : u.k = 2 ∧ u.s = [58]
   ·rw [if_pos h1, if_pos h1]; rfl
   ·rw [if_neg h1, if_neg h1]
    by_cases h2 : u.k = 2 ∧ u.s = [63]
    ·rw [if_pos h2, if_pos h2]; rfl
    ·rw [if_neg h2, if_neg h2]; rfl
  | cons v r2 =>
   show erS (if u.k = 2 ∧ u.s = [58] then _ else if u.k = 2 ∧ u.s = [63] then (if v.k = 2 ∧ v.s = [58] then _ else _) else _) = if u.k = 2 ∧ u.s = [58] then _ else if u.k = 2 ∧ u.s = [63] then (if v.k = 2 ∧ v.s = [58] then _ else _) else _
   by_cases h1 : u.k = 2 ∧ u.s = [58]
   ·rw [if_pos h1, if_pos h1]; rfl
   ·rw [if_neg h1, if_neg h1]
    by_cases h2 : u.k = 2 ∧ u.s = [63]
    ·rw [if_pos h2, if_pos h2]
     by_cases h3 : v.k = 2 ∧ v.s = [58]
     ·rw [if_pos h3, if_pos h3]; rfl
     ·rw [if_neg h3, if_neg h3]; rfl
    ·rw [if_neg h2, if_neg h2]; rfl
theorem eFields_er {rec : ERd} {rec' : Rdr} (h : ErOk rec rec') : ∀ (g : Nat) (fs : List Fl) (ts : List Tok) (N : List Nd), er (eFields rec g fs ts N) = pFields rec' g fs (ts.map Tok.tt) N
 | 0, _, _, _ => by simp [eFields, pFields, er]
 | g + 1, fs, [], N => by simp [eFields, pFields, er]
 | g + 1, fs, t :: r, N => by
  rw [List.map_cons, eFields, pFields, tt_fst, tt_snd]
  by_cases h1 : t.k = 2 ∧ t.s = [125]
  ·rw [if_pos h1, if_pos h1]; rfl
  rw [if_neg h1, if_neg h1]
  cases hn : pNm t.tt with
  | false => rfl
  | true =>
   simp only [Bool.true_eq_false, if_false, Bool.true_and]
   cases hc : fs.any (fun y => y.name == t.s) with
   | true => rfl
   | false =>
    simp only [Bool.false_eq_true, if_false, Bool.not_false, if_true]
    rw [← eHas_er]
    cases eHas r with
    | error e => rfl
    | ok p =>
     obtain ⟨b, r1⟩ := p
     simp only [erS]
     rw [← h]
     cases rec r1 N with
     | error e => rfl
     | ok p =>
      obtain ⟨x, ts, N1⟩ := p
      cases ts with
      | nil => rfl
      | cons u r2 =>
       simp only [er, List.map_cons]
       show _ = if u.k = 2 ∧ u.s = [59] then _ else none
       by_cases hd : u.k = 2 ∧ u.s = [59]
       ·rw [if_pos hd, if_pos hd]
        exact eFields_er h g _ _ _
       ·rw [if_neg hd, if_neg hd]
theorem er_ite {c : Prop} [Decidable c] {a b : EO} {a' b' : Option (Nat × List TT × List Nd)} (h1 : c → er a = a') (h2 : ¬c → er b = b') : er (if c then a else b) = if c then a' else b' := by
 by_cases hc : c
 ·rw [if_pos hc, if_pos hc]; exact h1 hc
 ·rw [if_neg hc, if_neg hc]; exact h2 hc
theorem eNamed_er {rec : ERd} {rec' : Rdr} (h : ErOk rec rec') (f k : Nat) (r : List Tok) (N : List Nd) : er (eNamed rec f k r N) =
  (match r.map Tok.tt with
   | [] => none
   | a :: r1 =>
    if pNm a && (pCalled N a.2).isNone then
     match r1 with
     | [] => none
     | b :: r2 =>
      if k = 10 then (if b.1 = 1 ∧ wOk b.2 = true then some (N.length, r2, N ++ [{ Nd.of 10 with name := a.2, size := wNumAt b.2 }]) else none)
      else if k = 9 then
       (if b.1 = 2 ∧ b.2 = [60] then
        match pSyms f [] r2 with
        | some (ys, r3) => some (N.length, r3, N ++ [{ Nd.of 9 with name := a.2, syms := ys }])
        | none => none
       else none)
      else if b.1 = 2 ∧ b.2 = [123] then
       match pFields rec' f [] r2 (N ++ [{ Nd.of 11 with name := a.2 }]) with
       | some (fs, r3, N1) => some (N.length, r3, N1.modify N.length (fun y => { y with fields := fs }))
       | none => none
      else none
    else none) := by
 cases r with
 | nil => rfl
 | cons a r1 =>
  unfold eNamed
  rw [List.map_cons]
  simp only
  by_cases hp : (pNm a.tt && (pCalled N a.tt.2).isNone) = true
  case neg =>
   rw [if_neg hp]
   cases hn : pNm a.tt with
   | false => rfl
   | true =>
    rw [if_neg (by decide)]
    have e1 : (pCalled N a.s).isSome = true := by
     rcases Option.eq_none_or_eq_some (pCalled N a.s) with hc | ⟨n, hc⟩
     ·exact absurd (by rw [hn, tt_snd, hc]; rfl) hp
     ·rw [hc]; rfl
    rw [if_pos e1]
    rfl
  case pos =>
    rw [if_pos hp]
    rw [Bool.and_eq_true, tt_snd] at hp
    have e1 : ¬ (pCalled N a.s).isSome = true := by
     rcases Option.eq_none_or_eq_some (pCalled N a.s) with hc | ⟨n, hc⟩
     ·rw [hc]; decide
     ·rw [hc] at hp; cases hp.2
    rw [if_neg (by rw [hp.1]; decide), if_neg e1]
    cases r1 with
    | nil => rfl
    | cons b r2 =>
     rw [List.map_cons]
     simp only [tt_fst, tt_snd]
     refine er_ite (fun _ => er_ite (fun _ => rfl) (fun _ => rfl)) (fun _ => er_ite (fun _ => er_ite (fun _ => ?_) (fun _ => rfl)) (fun _ => er_ite (fun _ => ?_) (fun _ => rfl)))
     ·rw [← eSyms_er]
      cases eSyms f [] r2 with
      | error e => rfl
      | ok p => rfl
     ·rw [← eFields_er h]
      cases eFields rec f [] r2 _ with
      | error e => rfl
      | ok p => rfl
theorem eStep_er {rec : Option (List Nat) → ERd} {rec' : Option (List Nat) → Rdr} (h : ∀ u, ErOk (rec u) (rec' u)) (f deep : Nat) (un : Option (List Nat)) (t : Tok) (r : List Tok) (N : List Nd) :
  er (eStep rec f deep un t r N) = pStep rec' f deep un t.tt (r.map Tok.tt) N := by
 unfold eStep pStep
 rw [tt_snd]
 cases hk : pKind t.tt with
 | none =>
  simp only
  cases hn : pNm t.tt with
  | false =>
   rw [if_pos rfl]
   split <;> rfl
  | true =>
   rw [if_neg (by decide)]
   refine er_ite (fun _ => rfl) (fun _ => ?_)
   rw [if_pos rfl]
   cases hc : pCalled N t.s with
   | none => rfl
   | some n => exact er_ite (fun _ => rfl) (fun _ => rfl)
 | some k =>
  simp only
  by_cases h20 : 20 ≤ deep
  ·rw [if_pos (.inl h20), if_pos h20]; rfl
  rw [if_neg h20]
  by_cases h200 : 200 ≤ N.length
  ·rw [if_pos (.inr h200), if_pos h200]; rfl
  rw [if_neg (by omega), if_neg h200]
  by_cases hu : un.isSome = true ∧ k = 8
  ·rw [if_pos hu, if_pos (by rw [hu.1, hu.2]; rfl)]; rfl
  rw [if_neg hu]
  have hs : (un.isSome && (k == 8 || (decide (k < 9) && (un.getD []).any (fun i => kindAt N i == some k)))) = eSame un N k := by
   unfold eSame
   cases hi : un.isSome with
   | false => rfl
   | true =>
    have : (k == 8) = false := by
     rw [beq_eq_false_iff_ne]
     exact fun e => hu ⟨hi, e⟩
    rw [this, Bool.false_or]
  rw [hs]
  refine er_ite (fun _ => rfl) (fun _ => er_ite (fun _ => rfl) (fun _ => er_ite (fun _ => eOne_er (h none) _ _ _ _) (fun _ => er_ite (fun _ => eOne_er (h none) _ _ _ _) (fun _ => er_ite (fun _ => ?_) (fun _ => ?_)))))
  ·rw [← eAllW_er (fun its => h (some its))]
   cases eAllW (fun its => rec (some its)) f [] r (N ++ [Nd.of 8]) with
   | error e => rfl
   | ok p => rfl
  ·exact eNamed_er (h none) f k r N
theorem eType_er : ∀ (f deep : Nat) (un : Option (List Nat)), ErOk (eType f deep un) (pType f deep un)
 | 0, _, _ => fun ts N => by rw [eType, pType]; rfl
 | f + 1, deep, un => fun ts N => by
  cases ts with
  | nil => rw [eType, List.map_nil, pType_nil]; rfl
  | cons t r =>
   rw [eType, List.map_cons, pType_cons]
   exact eStep_er (fun u => eType_er f (deep + 1) u) f deep un t r N
theorem eRead_is (l : List UInt8) (N : List Nd) : eRead l = .ok N ↔ pRead l = some N := by
 unfold eRead pRead
 cases hw : wWords l with
 | error e => simp
 | ok toks =>
  simp only
  obtain ⟨ts, g1, g2, _⟩ := wWords_text hw
  have he := eType_er 2000 0 none toks []
  unfold pNodes
  cases hx : eType 2000 0 none toks [] with
  | error e =>
   rw [hx] at he
   rw [← he]
   simp [er]
  | ok p =>
   obtain ⟨n, rest, N1⟩ := p
   rw [hx] at he
   simp only [er] at he
   obtain ⟨_, out, h1, _⟩ := pType_ok 2000 0 none _ [] n _ N1 he.symm
   rw [← he]
   rw [g1] at h1
   cases rest with
   | nil => simp
   | cons t q =>
    simp only [List.map_cons]
    by_cases hk : t.k = 3
    ·-- the last one
     have hq : q = [] := by
      cases q with
      | nil => rfl
      | cons v q =>
       exfalso
       have hm : t.tt ∈ ts := by
        have h2 : ts = out ++ (t.tt :: (v :: q).map Tok.tt).dropLast := by
         have := congrArg List.dropLast h1
         rw [List.dropLast_concat, List.dropLast_append_of_ne_nil (by simp)] at this
         exact this
        rw [h2, List.map_cons]
        simp
       obtain ⟨c, w, _, _, h4, _⟩ := g2 _ hm
       have := wKind_le c
       rw [tt_fst] at h4
       omega
     subst hq
     have hs : t.tt = (3, []) := by
      have h2 := congrArg List.getLast? h1
      simp only [List.getLast?_append, List.getLast?_singleton, List.map_cons, List.map_nil, Option.some_or, Option.some.injEq] at h2
      exact h2.symm
     rw [if_pos hk, hs]
     simp
    ·rw [if_neg hk]
     have : t.tt ≠ (3, []) := fun e => hk (by rw [← tt_fst, e])
     constructor
     ·intro e; cases e
     ·intro e
      split at e
      ·rename_i heq
       simp only [Option.some.injEq, Prod.mk.injEq, List.cons.injEq] at heq
       exact absurd heq.2.1.1 this
      ·cases e
open Go.RowKit
structure Gf where
 name : List UInt8
 ty : Int
 has : Bool
structure Gn where
 k : Int
 name : List UInt8
 size : Int
 syms : List (List UInt8)
 items : List Int
 fields : List Gf
def Fl.g (x : Fl) : Gf := ⟨x.name, x.ty, x.has⟩
def Nd.g (x : Nd) : Gn := ⟨x.k, x.name, x.size, x.syms, x.items.map Int.ofNat, x.fields.map Fl.g⟩
def vss (l : List (List UInt8)) : List Value := l.map fun s => .string (txt s)
def vis (l : List Int) : List Value := l.map fun i => .int .i64 i
def vfs (l : List Gf) : List Value := l.flatMap fun x => [.string (txt x.name), .bool x.has, .int .i64 x.ty]
theorem vss_at {l : List (List UInt8)} {i : Nat} {s : List UInt8} (h : l[i]? = some s) : (vss l)[i]? = some (.string (txt s)) := by
 unfold vss
 rw [List.getElem?_map, h]
 rfl
theorem vis_at {l : List Int} {i : Nat} {n : Int} (h : l[i]? = some n) : (vis l)[i]? = some (.int .i64 n) := by
 unfold vis
 rw [List.getElem?_map, h]
 rfl
theorem vfs_at : ∀ {l : List Gf} {i : Nat} {x : Gf}, l[i]? = some x → (vfs l)[i * 3]? = some (.string (txt x.name)) ∧ (vfs l)[i * 3 + 1]? = some (.bool x.has) ∧ (vfs l)[i * 3 + 2]? = some (.int .i64 x.ty)
 | [], i, x, h => by simp at h
 | y :: l, 0, x, h => by
  obtain rfl : y = x := by simpa using h
  exact ⟨rfl, rfl, rfl⟩
 | y :: l, i + 1, x, h => by
  obtain ⟨h1, h2, h3⟩ := vfs_at (l := l) (i := i) (x := x) (by simpa using h)
  have e (j : Nat) : (vfs (y :: l))[i * 3 + j + 3]? = (vfs l)[i * 3 + j]? := rfl
  refine ⟨?_, ?_, ?_⟩
  ·rw [show (i + 1) * 3 = i * 3 + 0 + 3 by omega, e 0]; exact h1
  ·rw [show (i + 1) * 3 + 1 = i * 3 + 1 + 3 by omega, e 1]; exact h2
  ·rw [show (i + 1) * 3 + 2 = i * 3 + 2 + 3 by omega, e 2]; exact h3
def Sl (w : World) (B sz : Nat) (v : Value) (n : Nat) (xs : List Value) : Prop := ∃ A c, v = .slice A n c ∧ Rd w B sz A n xs ∧ n ≤ c ∧ c ≤ maxLen
structure NdIn (w : World) (B : Nat) (vs : List Value) (i : Nat) (x : Gn) : Prop where
 k : vs[i * 6]? = some (.int .i64 x.k)
 name : vs[i * 6 + 1]? = some (.string (txt x.name))
 size : vs[i * 6 + 2]? = some (.int .i64 x.size)
 syms : ∃ v, vs[i * 6 + 3]? = some v ∧ Sl w B 1 v x.syms.length (vss x.syms)
 items : ∃ v, vs[i * 6 + 4]? = some v ∧ Sl w B 1 v x.items.length (vis x.items)
 fields : ∃ v, vs[i * 6 + 5]? = some v ∧ Sl w B 3 v x.fields.length (vfs x.fields)
def Sc (w : World) (B : Nat) (A : Option Addr) (n : Nat) (xs : List Gn) : Prop :=
 xs.length = n ∧ ∃ vs, Rd w B 6 A n vs ∧ ∀ i x, xs[i]? = some x → NdIn w B vs i x
section
variable {w w' : World} {B B' n sz i : Nat} {A : Option Addr} {v : Value} {vs xs : List Value} {x : Gn} {gs : List Gn} {row : Option Nat}
theorem Sl.mono (h : Sl w B sz v n xs) (hB : B ≤ B') : Sl w B' sz v n xs := by
 obtain ⟨A, c, h1, h2, h3⟩ := h
 exact ⟨A, c, h1, h2.mono hB, h3⟩
theorem Sl.turn (h : Sl w B sz v n xs) (ht : Turn w w' row) (hB : B ≤ w.heap.size) (hr : ∀ g, row = some g → B ≤ g) : Sl w' B sz v n xs := by
 obtain ⟨A, c, h1, h2, h3⟩ := h
 exact ⟨A, c, h1, h2.turn ht hB hr, h3⟩
theorem NdIn.mono (h : NdIn w B vs i x) (hB : B ≤ B') : NdIn w B' vs i x :=
 ⟨h.k, h.name, h.size, h.syms.imp fun _ e => ⟨e.1, e.2.mono hB⟩, h.items.imp fun _ e => ⟨e.1, e.2.mono hB⟩, h.fields.imp fun _ e => ⟨e.1, e.2.mono hB⟩⟩
theorem NdIn.turn (h : NdIn w B vs i x) (ht : Turn w w' row) (hB : B ≤ w.heap.size) (hr : ∀ g, row = some g → B ≤ g) : NdIn w' B vs i x :=
 ⟨h.k, h.name, h.size, h.syms.imp fun _ e => ⟨e.1, e.2.turn ht hB hr⟩, h.items.imp fun _ e => ⟨e.1, e.2.turn ht hB hr⟩, h.fields.imp fun _ e => ⟨e.1, e.2.turn ht hB hr⟩⟩
theorem Sc.nil (w : World) (B : Nat) (A : Option Addr) : Sc w B A 0 [] := ⟨rfl, [], Rd.none_ w B 6 0, fun i x h => by simp at h⟩
theorem Sc.mono (h : Sc w B A n gs) (hB : B ≤ B') : Sc w B' A n gs := by
 obtain ⟨h1, vs, h2, h3⟩ := h
 exact ⟨h1, vs, h2.mono hB, fun i x e => (h3 i x e).mono hB⟩
theorem Sc.turn (h : Sc w B A n gs) (ht : Turn w w' row) (hB : B ≤ w.heap.size) (hr : ∀ g, row = some g → B ≤ g) : Sc w' B A n gs := by
 obtain ⟨h1, vs, h2, h3⟩ := h
 exact ⟨h1, vs, h2.turn ht hB hr, fun i x e => (h3 i x e).turn ht hB hr⟩
theorem Sc.turn0 (h : Sc w B A n gs) (ht : Turn w w' none) (hB : B ≤ w.heap.size) : Sc w' B A n gs := h.turn ht hB (by simp)
theorem Sc.at_ (h : Sc w B A n gs) (hx : gs[i]? = some x) : ∃ b off vs, A = some ⟨b, off, none⟩ ∧ b < B ∧ NdIn w B vs i x ∧ ∀ j u, vs[j]? = some u → w.cell? ⟨b, off + j, none⟩ = some u := by
 obtain ⟨h1, vs, h2, h3⟩ := h
 have hi : i < gs.length := by
  rcases Nat.lt_or_ge i gs.length with h | h
  ·exact h
  ·rw [List.getElem?_eq_none h] at hx; cases hx
 obtain ⟨b, off, e1, e2, e3⟩ := h2.head (by omega)
 exact ⟨b, off, vs, e1, e2, h3 i x hx, e3⟩
end
open Go.RowKit
abbrev Ix := Option (Nat × Nat)
def ndRow (R : Ix → Rw) (i : Nat) (x : Nd) : List Value := [.int .i64 (x.k : Int), .string (txt x.name), .int .i64 (x.size : Int), (R (some (i, 0))).v, (R (some (i, 1))).v, (R (some (i, 2))).v]
def ndCells (R : Ix → Rw) : Nat → List Nd → List Value
 | _, [] => []
 | b, x :: r => ndRow R b x ++ ndCells R (b + 1) r
theorem ndCells_len (R : Ix → Rw) : ∀ (N : List Nd) (b : Nat), (ndCells R b N).length = N.length * 6
 | [], _ => rfl
 | x :: r, b => by
  show (ndRow R b x ++ ndCells R (b + 1) r).length = _
  rw [List.length_append, ndCells_len R r, List.length_cons]
  simp [ndRow]
  omega
theorem ndCells_at (R : Ix → Rw) : ∀ (N : List Nd) (b i j : Nat) (x : Nd), N[i]? = some x → j < 6 → (ndCells R b N)[i * 6 + j]? = (ndRow R (b + i) x)[j]?
 | [], _, i, _, _, h, _ => by simp at h
 | y :: r, b, 0, j, x, h, hj => by
  obtain rfl : y = x := by simpa using h
  show (ndRow R b y ++ _)[0 * 6 + j]? = _
  rw [List.getElem?_append_left (by simp [ndRow]; omega), Nat.zero_mul, Nat.zero_add]
  rfl
 | y :: r, b, i + 1, j, x, h, hj => by
  have hl : (ndRow R b y).length = 6 := rfl
  show (ndRow R b y ++ ndCells R (b + 1) r)[(i + 1) * 6 + j]? = _
  rw [List.getElem?_append_right (by omega), hl, show (i + 1) * 6 + j - 6 = i * 6 + j by omega, ndCells_at R r (b + 1) i j x (by simpa using h) hj, show b + 1 + i = b + (i + 1) by omega]
theorem ndCells_app (R : Ix → Rw) : ∀ (M N : List Nd) (b : Nat), ndCells R b (M ++ N) = ndCells R b M ++ ndCells R (b + M.length) N
 | [], N, b => rfl
 | x :: r, N, b => by
  show ndRow R b x ++ ndCells R (b + 1) (r ++ N) = _ ++ _
  rw [ndCells_app R r N (b + 1), List.length_cons, show b + 1 + r.length = b + (r.length + 1) by omega]
  show _ = (ndRow R b x ++ ndCells R (b + 1) r) ++ _
  rw [List.append_assoc]
theorem ndCells_same {R R' : Ix → Rw} : ∀ (N : List Nd) (b : Nat), (∀ i j, b ≤ i → i < b + N.length → j < 3 → (R (some (i, j))).v = (R' (some (i, j))).v) → ndCells R b N = ndCells R' b N
 | [], _, _ => rfl
 | x :: r, b, h => by
  show ndRow R b x ++ _ = ndRow R' b x ++ _
  rw [List.length_cons] at h
  rw [ndCells_same r (b + 1) fun i j h1 h2 h3 => h i j (by omega) (by omega) h3]
  unfold ndRow
  rw [h b 0 (by omega) (by omega) (by omega), h b 1 (by omega) (by omega) (by omega), h b 2 (by omega) (by omega) (by omega)]
theorem ndCells_set {R R' : Ix → Rw} {N : List Nd} {i j : Nat} {x : Nd} {u : Value} {g : Nd → Nd} (hx : N[i]? = some x) (hj : j < 6) (ho : ∀ k l, k ≠ i → (R (some (k, l))).v = (R' (some (k, l))).v) (hr : (ndRow R i x).set j u = ndRow R' i (g x)) :
  (ndCells R 0 N).set (i * 6 + j) u = ndCells R' 0 (N.modify i g) := by
 have hi : i < N.length := (List.getElem?_eq_some_iff.1 hx).1
 obtain ⟨S, mid, rfl, hS⟩ : ∃ S mid, N = S ++ x :: mid ∧ S.length = i := by
  refine ⟨N.take i, N.drop (i + 1), ?_, by rw [List.length_take]; omega⟩
  have h2 : N.drop i = x :: N.drop (i + 1) := by
   rw [List.drop_eq_getElem_cons hi]
   congr 1
   exact (List.getElem?_eq_some_iff.1 hx).2
  rw [← h2, List.take_append_drop]
 subst hS
 have hm : (S ++ x :: mid).modify S.length g = S ++ g x :: mid := by
  have := mod_pre S x mid g
  simpa using this
 have hl : (ndCells R 0 S).length = S.length * 6 := ndCells_len R S 0
 have hrl : (ndRow R S.length x).length = 6 := rfl
 rw [hm, ndCells_app, ndCells_app, List.set_append_right _ _ (by omega), hl, Nat.add_sub_cancel_left, Nat.zero_add]
 show _ ++ (ndRow R S.length x ++ ndCells R (S.length + 1) mid).set j u = _ ++ (ndRow R' S.length (g x) ++ ndCells R' (S.length + 1) mid)
 rw [List.set_append_left _ _ (by omega), hr, ndCells_same S 0 fun i l _ h2 _ => ho i l (by omega), ndCells_same mid (S.length + 1) fun i l h1 _ _ => ho i l (by omega)]
def Sh (r : Rw) (E : TypeId) (sz n : Nat) (xs : List Value) : Prop := r.E = E ∧ r.sz = sz ∧ r.n = n ∧ r.xs = xs
theorem Sh.own {w : World} {base : Nat} {r : Rw} {E : TypeId} {sz n : Nat} {xs : List Value} (h : Sh r E sz n xs) (ho : r.own w base) : Own w base E sz r.A n r.c xs := by
 obtain ⟨rfl, rfl, rfl, rfl⟩ := h
 exact ho
def slotE : Nat → TypeId
 | 0 => 9
 | 1 => 3
 | _ => 119
def slotZ : Nat → Nat
 | 0 => 1
 | 1 => 1
 | _ => 3
structure NR (w : World) (base : Nat) (R : Ix → Rw) (N : List Nd) : Prop where
 aps : Aps w base R
 arr : Sh (R none) 64 6 N.length (ndCells R 0 N)
 syms : ∀ i x, N[i]? = some x → Sh (R (some (i, 0))) 9 1 x.syms.length (vss x.syms)
 items : ∀ i x, N[i]? = some x → Sh (R (some (i, 1))) 3 1 x.items.length (vis (x.items.map Int.ofNat))
 fields : ∀ i x, N[i]? = some x → Sh (R (some (i, 2))) 119 3 x.fields.length (vfs (x.fields.map Fl.g))
 far : ∀ i j, N.length ≤ i → R (some (i, j)) = Rw.nil (slotE j) (slotZ j)
 ty : ∀ i, (R i).E = 64 ∨ (R i).E = 9 ∨ (R i).E = 3 ∨ (R i).E = 119
section
variable {w w' : World} {base : Nat} {R : Ix → Rw} {N : List Nd}
theorem NR.nil (w : World) (base : Nat) : NR w base (fun i => match i with | none => Rw.nil 64 6 | some (_, j) => Rw.nil (slotE j) (slotZ j)) [] := by
 refine ⟨⟨fun i => ?_, fun i j _ => ?_⟩, ⟨rfl, rfl, rfl, rfl⟩, fun i x h => by simp at h, fun i x h => by simp at h, fun i x h => by simp at h, fun i j _ => rfl, fun i => ?_⟩
 ·cases i with
  | none => exact Own.nil _ _ _ _
  | some p => exact Own.nil _ _ _ _
 ·cases i with
  | none => exact Off.nil
  | some p => exact Off.nil
 ·cases i with
  | none => exact .inl rfl
  | some p =>
   obtain ⟨_, j⟩ := p
   match j with
   | 0 => exact .inr (.inl rfl)
   | 1 => exact .inr (.inr (.inl rfl))
   | _ + 2 => exact .inr (.inr (.inr rfl))
theorem NR.turn0 (h : NR w base R N) (ht : Turn w w' none) : NR w' base R N := ⟨h.aps.turn0 ht, h.arr, h.syms, h.items, h.fields, h.far, h.ty⟩
theorem NR.off {g : Nat} {t : TypeId} {cs : Array Value} (h : NR w base R N) (hb : Blk w g t cs) (ht : t ≠ 64 ∧ t ≠ 9 ∧ t ≠ 3 ∧ t ≠ 119) (i : Ix) : blk (R i).A ≠ some g := by
 refine Own.not_blk (h.aps.own i) hb ?_
 rcases h.ty i with e | e | e | e <;> rw [e]
 ·exact ht.1
 ·exact ht.2.1
 ·exact ht.2.2.1
 ·exact ht.2.2.2
theorem NR.turn {g : Nat} {t : TypeId} {cs : Array Value} (h : NR w base R N) (hb : Blk w g t cs) (ht : t ≠ 64 ∧ t ≠ 9 ∧ t ≠ 3 ∧ t ≠ 119) (hT : Turn w w' (some g)) : NR w' base R N :=
 ⟨h.aps.turn hT (h.off hb ht), h.arr, h.syms, h.items, h.fields, h.far, h.ty⟩
theorem NR.own (h : NR w base R N) : Own w base 64 6 (R none).A N.length (R none).c (ndCells R 0 N) := h.arr.own (h.aps.own none)
theorem NR.len (h : NR w base R N) : (R none).n = N.length := h.arr.2.2.1
theorem NR.at_ (h : NR w base R N) {i : Nat} {x : Nd} (hx : N[i]? = some x) : ∃ g, (R none).A = some ⟨g, 0, none⟩ ∧ g < w.heap.size ∧ base ≤ g ∧ (∀ j u, (ndRow R i x)[j]? = some u → w.cell? ⟨g, i * 6 + j, none⟩ = some u) ∧ ∀ j, w.frozen? ⟨g, j, none⟩ = false := by
 have hi : i < N.length := (List.getElem?_eq_some_iff.1 hx).1
 obtain ⟨g, hg, h1, h2⟩ := h.own.head (by omega)
 refine ⟨g, hg, h2, h1, fun j u hu => ?_, fun j => ?_⟩
 ·have hj : j < 6 := (List.getElem?_eq_some_iff.1 hu).1
  have ho := h.own
  rw [hg] at ho
  have h3 := ho.cell (i := i * 6 + j) (by omega)
  rw [h3, ndCells_at R N 0 i j x hx hj, Nat.zero_add]
  exact hu
 ·have ho := h.own
  rw [hg] at ho
  exact ho.frozen j
theorem NR.push (h : NR w base R N) (k : Nat) {A : Option Addr} {c : Nat} (ho : Own w' base 64 6 A (N.length + 1) c (ndCells R 0 N ++ [.int .i64 (k : Int), .string ⟨#[]⟩, .int .i64 0, .slice none 0 0, .slice none 0 0, .slice none 0 0]))
  (ht : Turn w w' (blk (R none).A)) (hb : blk A = blk (R none).A ∨ blk A = some w.heap.size) : NR w' base (upd R none ⟨64, 6, A, N.length + 1, c, ndCells R 0 (N ++ [Nd.of k])⟩) (N ++ [Nd.of k]) := by
 have e0 : ∀ j, (R (some (N.length, j))).v = .slice none 0 0 := fun j => by rw [h.far _ _ (Nat.le_refl _)]; rfl
 have hc : ndCells R 0 N ++ [.int .i64 (k : Int), .string ⟨#[]⟩, .int .i64 0, .slice none 0 0, .slice none 0 0, .slice none 0 0] = ndCells R 0 (N ++ [Nd.of k]) := by
  rw [ndCells_app, Nat.zero_add]
  show _ = _ ++ (ndRow R N.length (Nd.of k) ++ [])
  unfold ndRow
  rw [e0, e0, e0]
  rfl
 rw [hc] at ho
 have hupd : ∀ i j, upd R none ⟨64, 6, A, N.length + 1, c, ndCells R 0 (N ++ [Nd.of k])⟩ (some (i, j)) = R (some (i, j)) := fun i j => upd_other R _ (by simp)
 have hat : ∀ i x, (N ++ [Nd.of k])[i]? = some x → N[i]? = some x ∨ (i = N.length ∧ x = Nd.of k) := by
  intro i x hx
  rcases Nat.lt_or_ge i N.length with h1 | h1
  ·rw [List.getElem?_append_left h1] at hx; exact .inl hx
  ·rw [List.getElem?_append_right h1] at hx
   have : i - N.length < 1 := by
    have := (List.getElem?_eq_some_iff.1 hx).1
    simpa using this
   have e : i - N.length = 0 := by omega
   rw [e] at hx
   exact .inr ⟨by omega, by simpa using hx.symm⟩
 refine ⟨h.aps.step none _ ho ht (hb.imp id fun e => ⟨_, e, Nat.le_refl _⟩), ?_, ?_, ?_, ?_, ?_, ?_⟩
 ·rw [upd_same]
  exact ⟨rfl, rfl, by simp, ndCells_same _ 0 fun i j _ _ _ => by rw [hupd]⟩
 ·intro i x hx
  rw [hupd]
  rcases hat i x hx with hx | ⟨rfl, rfl⟩
  ·exact h.syms i x hx
  ·rw [h.far _ _ (Nat.le_refl _)]; exact ⟨rfl, rfl, rfl, rfl⟩
 ·intro i x hx
  rw [hupd]
  rcases hat i x hx with hx | ⟨rfl, rfl⟩
  ·exact h.items i x hx
  ·rw [h.far _ _ (Nat.le_refl _)]; exact ⟨rfl, rfl, rfl, rfl⟩
 ·intro i x hx
  rw [hupd]
  rcases hat i x hx with hx | ⟨rfl, rfl⟩
  ·exact h.fields i x hx
  ·rw [h.far _ _ (Nat.le_refl _)]; exact ⟨rfl, rfl, rfl, rfl⟩
 ·intro i j hij
  rw [hupd]
  exact h.far i j (by simp at hij; omega)
 ·intro i
  cases i with
  | none => rw [upd_same]; exact .inl rfl
  | some p => obtain ⟨i, j⟩ := p; rw [hupd]; exact h.ty _
theorem NR.put {w1 : World} {R1 : Ix → Rw} (h : NR w base R N) {i jj g : Nat} {x : Nd} {u : Value} {gg : Nd → Nd} (hx : N[i]? = some x) (hg : (R none).A = some ⟨g, 0, none⟩) (ha : Aps w1 base R1) (hn : R1 none = R none) (hoth : ∀ k l, k ≠ i → R1 (some (k, l)) = R (some (k, l)))
  (hty : ∀ i, (R1 i).E = 64 ∨ (R1 i).E = 9 ∨ (R1 i).E = 3 ∨ (R1 i).E = 119) (hj : jj < 6) (hrow : (ndRow R i x).set jj u = ndRow R1 i (gg x))
  (h0 : Sh (R1 (some (i, 0))) 9 1 (gg x).syms.length (vss (gg x).syms)) (h1 : Sh (R1 (some (i, 1))) 3 1 (gg x).items.length (vis ((gg x).items.map Int.ofNat)))
  (h2 : Sh (R1 (some (i, 2))) 119 3 (gg x).fields.length (vfs ((gg x).fields.map Fl.g))) :
  NR (w1.setCell ⟨g, i * 6 + jj, none⟩ u) base (upd R1 none ⟨64, 6, some ⟨g, 0, none⟩, N.length, (R none).c, ndCells R1 0 (N.modify i gg)⟩) (N.modify i gg) := by
 have ho : Own w1 base 64 6 (some ⟨g, 0, none⟩) N.length (R none).c (ndCells R 0 N) := by
  have := ha.own none
  rw [hn] at this
  have := h.arr.own this
  rwa [hg] at this
 have hset : (ndCells R 0 N).set (i * 6 + jj) u = ndCells R1 0 (N.modify i gg) := ndCells_set hx hj (fun k l hk => by rw [hoth k l hk]) hrow
 have hs := ho.store (i * 6 + jj) u
 rw [hset] at hs
 have hT := ho.storeTurn (i * 6 + jj) u
 have hi : i < N.length := (List.getElem?_eq_some_iff.1 hx).1
 have hupd : ∀ k l, upd R1 none ⟨64, 6, some ⟨g, 0, none⟩, N.length, (R none).c, ndCells R1 0 (N.modify i gg)⟩ (some (k, l)) = R1 (some (k, l)) := fun k l => upd_other R1 _ (by simp)
 have hat : ∀ k y, (N.modify i gg)[k]? = some y → (k = i ∧ y = gg x) ∨ (k ≠ i ∧ N[k]? = some y) := by
  intro k y hy
  rw [List.getElem?_modify] at hy
  by_cases hk : i = k
  ·subst hk
   rw [hx] at hy
   simp only [if_true, Option.map_eq_map, Option.map_some, Option.some.injEq] at hy
   exact .inl ⟨rfl, hy.symm⟩
  ·simp only [hk, if_false, Option.map_eq_map] at hy
   exact .inr ⟨fun e => hk e.symm, by simpa using hy⟩
 refine ⟨ha.step none _ hs (by rw [hn, hg]; exact hT) (.inl (by rw [hn, hg])), ?_, ?_, ?_, ?_, ?_, ?_⟩
 ·rw [upd_same]
  exact ⟨rfl, rfl, by rw [List.length_modify], ndCells_same _ 0 fun k l _ _ _ => by rw [hupd]⟩
 ·intro k y hy
  rw [hupd]
  rcases hat k y hy with ⟨rfl, rfl⟩ | ⟨hk, hy⟩
  ·exact h0
  ·rw [hoth k 0 hk]; exact h.syms k y hy
 ·intro k y hy
  rw [hupd]
  rcases hat k y hy with ⟨rfl, rfl⟩ | ⟨hk, hy⟩
  ·exact h1
  ·rw [hoth k 1 hk]; exact h.items k y hy
 ·intro k y hy
  rw [hupd]
  rcases hat k y hy with ⟨rfl, rfl⟩ | ⟨hk, hy⟩
  ·exact h2
  ·rw [hoth k 2 hk]; exact h.fields k y hy
 ·intro k l hk
  rw [List.length_modify] at hk
  rw [hupd, hoth k l (by omega)]
  exact h.far k l hk
 ·intro k
  cases k with
  | none => rw [upd_same]; exact .inl rfl
  | some p => obtain ⟨k, l⟩ := p; rw [hupd]; exact hty _
theorem NR.scalar (h : NR w base R N) {i jj g : Nat} {x : Nd} {u : Value} {gg : Nd → Nd} (hx : N[i]? = some x) (hg : (R none).A = some ⟨g, 0, none⟩) (hj : jj < 3) (hrow : (ndRow R i x).set jj u = ndRow R i (gg x)) (hs : (gg x).syms = x.syms) (hi : (gg x).items = x.items) (hf : (gg x).fields = x.fields) :
  NR (w.setCell ⟨g, i * 6 + jj, none⟩ u) base (upd R none ⟨64, 6, some ⟨g, 0, none⟩, N.length, (R none).c, ndCells R 0 (N.modify i gg)⟩) (N.modify i gg) :=
 h.put hx hg h.aps rfl (fun _ _ _ => rfl) h.ty (by omega) hrow (by rw [hs]; exact h.syms i x hx) (by rw [hi]; exact h.items i x hx) (by rw [hf]; exact h.fields i x hx)
theorem NR.slot {w1 : World} {r : Rw} (h : NR w base R N) {i j g : Nat} {x : Nd} {gg : Nd → Nd} (hx : N[i]? = some x) (hg : (R none).A = some ⟨g, 0, none⟩) (hj : j < 3) (ho : r.own w1 base) (ht : Turn w w1 (blk (R (some (i, j))).A)) (hb : blk r.A = blk (R (some (i, j))).A ∨ ∃ b, blk r.A = some b ∧ w.heap.size ≤ b)
  (hty : r.E = 9 ∨ r.E = 3 ∨ r.E = 119) (hk : (gg x).k = x.k ∧ (gg x).name = x.name ∧ (gg x).size = x.size)
  (h0 : Sh (if j = 0 then r else R (some (i, 0))) 9 1 (gg x).syms.length (vss (gg x).syms)) (h1 : Sh (if j = 1 then r else R (some (i, 1))) 3 1 (gg x).items.length (vis ((gg x).items.map Int.ofNat)))
  (h2 : Sh (if j = 2 then r else R (some (i, 2))) 119 3 (gg x).fields.length (vfs ((gg x).fields.map Fl.g))) :
  NR (w1.setCell ⟨g, i * 6 + (3 + j), none⟩ r.v) base (upd (upd R (some (i, j)) r) none ⟨64, 6, some ⟨g, 0, none⟩, N.length, (R none).c, ndCells (upd R (some (i, j)) r) 0 (N.modify i gg)⟩) (N.modify i gg) := by
 have e : ∀ l, upd R (some (i, j)) r (some (i, l)) = if j = l then r else R (some (i, l)) := by
  intro l
  by_cases hl : j = l
  ·subst hl; rw [if_pos rfl]; exact upd_same _ _ _
  ·rw [if_neg hl]; exact upd_other _ _ (by simp; exact fun e => hl e.symm)
 refine h.put hx hg (h.aps.step (some (i, j)) r ho ht hb) (upd_other _ _ (by simp)) (fun k l hk => upd_other _ _ (by simp [hk])) (fun k => ?_) (by omega) ?_ (by rw [e]; exact h0) (by rw [e]; exact h1) (by rw [e]; exact h2)
 ·by_cases hkk : k = some (i, j)
  ·subst hkk; rw [upd_same]; exact .inr hty
  ·rw [upd_other _ _ hkk]; exact h.ty k
 ·unfold ndRow
  rw [e, e, e, hk.1, hk.2.1, hk.2.2]
  match j, hj with
  | 0, _ => rfl
  | 1, _ => rfl
  | 2, _ => rfl
end
structure St where
 at_ : Nat
 N : List Nd
 why : Nat
 bad : Nat
def tokAt (T : List Tok) (i : Nat) : Tok := T.getD i ⟨3, [], 0⟩
section
variable (T : List Tok)
def mBad (is : Bool) (e : Nat) (s : St) : St := if is = true ∧ s.why = 0 then { s with why := e, bad := (tokAt T s.at_).at_ } else s
def mOn (s : St) : St := if s.why = 0 ∧ s.at_ + 1 < T.length then { s with at_ := s.at_ + 1 } else s
def mHere (x : List UInt8) (s : St) : Bool := decide ((tokAt T s.at_).k = 2) && (tokAt T s.at_).s == x
def mSg (x : List UInt8) (s : St) : St := mOn T (mBad T (!mHere T x s) 4 s)
def mNm (s : St) : St := mBad T (!pNm (tokAt T s.at_).tt) 4 s
def wordI (l : List UInt8) : Int := match pWord l with
 | some k => (k : Int)
 | none => -1
def kNo (t : Tok) : Int := if t.k = 0 ∨ t.k = 2 then wordI t.s else -1
def calledI (N : List Nd) (x : List UInt8) : Int := match pCalled N x with
 | some n => (n : Int)
 | none => -1
def mSame (N : List Nd) (l : List Nat) (k n : Int) : Bool := l.any fun i => decide ((i : Int) = n) || (decide (0 ≤ k) && decide (k < 9) && decide (kindAt N i = some k.toNat))
def mLong (deep : Nat) (k : Int) (s : St) : Bool := decide (20 ≤ deep) || (decide (0 ≤ k) && decide (200 ≤ s.N.length))
def mPre (deep : Nat) (un : Option (List Nat)) (k n : Int) (s : St) : St :=
 mBad T (un.isSome && (mSame s.N (un.getD []) k n && (decide (0 ≤ k) || decide (0 ≤ n)))) 6
  (mBad T (un.isSome && decide (k = 8)) 4
   (mBad T (decide (k < 0) && decide (n < 0)) 5
    (mBad T (mLong deep k s) 2 (if k < 0 then mNm T s else s))))
def St.mod (s : St) (m : Nat) (f : Nd → Nd) : St := { s with N := s.N.modify m f }
abbrev MRd := St → Nat × St
def mOne (rec : MRd) (m : Nat) (shut : List UInt8) (s : St) : St := mSg T shut ((rec s).2.mod m fun y => { y with items := [(rec s).1] })
def itemsAt (N : List Nd) (m : Nat) : List Nat := match N[m]? with
 | some x => x.items
 | none => []
def symsAt (N : List Nd) (m : Nat) : List (List UInt8) := match N[m]? with
 | some x => x.syms
 | none => []
def fieldsAt (N : List Nd) (m : Nat) : List Fl := match N[m]? with
 | some x => x.fields
 | none => []
def mAllS (rec : List Nat → MRd) (m : Nat) (s : St) : St := (rec (itemsAt s.N m) s).2.mod m fun y => { y with items := y.items ++ [(rec (itemsAt s.N m) s).1] }
def mAll (rec : List Nat → MRd) (m : Nat) : Nat → St → St
 | 0, s => s
 | g + 1, s =>
  if s.why ≠ 0 then s
  else if mHere T [41] (mAllS rec m s) then mOn T (mAllS rec m s)
  else mAll rec m g (mSg T [124] (mAllS rec m s))
def mSymS (m : Nat) (s : St) : St := mOn T ((mBad T ((symsAt s.N m).contains (tokAt T s.at_).s) 6 (mNm T s)).mod m fun y => { y with syms := y.syms ++ [(tokAt T s.at_).s] })
def mSyms (m : Nat) : Nat → St → St
 | 0, s => s
 | g + 1, s =>
  if s.why ≠ 0 then s
  else if mHere T [62] (mSymS T m s) then mOn T (mSymS T m s)
  else mSyms m g (mSg T [44] (mSymS T m s))
def mFldA (m : Nat) (s : St) : St := mOn T (mBad T ((fieldsAt s.N m).any fun y => y.name == (tokAt T s.at_).s) 6 (mNm T s))
def mFldB (m : Nat) (s : St) : St := mSg T [58] (if mHere T [63] (mFldA T m s) then mOn T (mFldA T m s) else mFldA T m s)
def mFldC (rec : MRd) (m : Nat) (s : St) : St :=
 (mSg T [59] (rec (mFldB T m s)).2).mod m fun y => { y with fields := y.fields ++ [⟨(tokAt T s.at_).s, (rec (mFldB T m s)).1, mHere T [63] (mFldA T m s)⟩] }
def mFldL (rec : MRd) (m : Nat) : Nat → St → Bool × St
 | 0, s => (true, s)
 | g + 1, s =>
  if s.why ≠ 0 ∨ mHere T [125] s = true then (false, s)
  else if (mFldB T m s).why ≠ 0 then (true, mFldB T m s)
  else mFldL rec m g (mFldC T rec m s)
def mFlds (rec : MRd) (m : Nat) (s : St) : St :=
 if (mFldL T rec m (T.length + 1) (mSg T [123] s)).1 then (mFldL T rec m (T.length + 1) (mSg T [123] s)).2 else mSg T [125] (mFldL T rec m (T.length + 1) (mSg T [123] s)).2
def mDefA (m : Nat) (s : St) : St := mOn T ((mBad T (pCalled s.N (tokAt T s.at_).s).isSome 6 (mNm T s)).mod m fun y => { y with name := (tokAt T s.at_).s })
def mFix (m : Nat) (s : St) : St :=
 mOn T ((mBad T (!(decide ((tokAt T s.at_).k = 1) && wOk (tokAt T s.at_).s)) 4 s).mod m fun y => { y with size := if wOk (tokAt T s.at_).s then wNumAt (tokAt T s.at_).s else 0 })
def mDef (rec : MRd) (m : Nat) (k : Int) (s : St) : St :=
 if k = 10 then mFix T m (mDefA T m s)
 else if k = 11 then mFlds T rec m (mDefA T m s)
 else mSyms T m (T.length + 1) (mSg T [60] (mDefA T m s))
def mBody (rec : Option (List Nat) → MRd) (k : Int) (s : St) : Nat × St :=
 (s.N.length,
  if k < 6 then { s with N := s.N ++ [Nd.of k.toNat] }
  else if k = 6 then mOne T (rec none) s.N.length [93] { s with N := s.N ++ [Nd.of k.toNat] }
  else if k = 7 then mOne T (rec none) s.N.length [125] { s with N := s.N ++ [Nd.of k.toNat] }
  else if k = 8 then mAll T (fun u => rec (some u)) s.N.length (T.length + 1) { s with N := s.N ++ [Nd.of k.toNat] }
  else mDef T (rec none) s.N.length k { s with N := s.N ++ [Nd.of k.toNat] })
def mName (t : Tok) (s : St) (k : Int) : Int := if k < 0 then calledI s.N t.s else -1
def mTyped : Nat → Nat → Option (List Nat) → MRd
 | 0, _, _, s => (0, s)
 | f + 1, deep, un, s =>
  if (mPre T deep un (kNo (tokAt T s.at_)) (mName (tokAt T s.at_) s (kNo (tokAt T s.at_))) s).why ≠ 0 then (0, mPre T deep un (kNo (tokAt T s.at_)) (mName (tokAt T s.at_) s (kNo (tokAt T s.at_))) s)
  else if kNo (tokAt T s.at_) < 0 then ((mName (tokAt T s.at_) s (kNo (tokAt T s.at_))).toNat, mOn T (mPre T deep un (kNo (tokAt T s.at_)) (mName (tokAt T s.at_) s (kNo (tokAt T s.at_))) s))
  else mBody T (fun u => mTyped f (deep + 1) u) (kNo (tokAt T s.at_)) (mOn T (mPre T deep un (kNo (tokAt T s.at_)) (mName (tokAt T s.at_) s (kNo (tokAt T s.at_))) s))
def mParse : St := mBad T (decide ((tokAt T (mTyped T 21 0 none ⟨0, [], 0, 0⟩).2.at_).k ≠ 3)) 4 (mTyped T 21 0 none ⟨0, [], 0, 0⟩).2
end
def kn (x : Nd) : Nat × List UInt8 := (x.k, x.name)
def NE (S N : List Nd) : Prop := S.map kn = N.map kn
section
variable {S N : List Nd}
theorem NE.refl (N : List Nd) : NE N N := rfl
theorem NE.len (h : NE S N) : S.length = N.length := by have := congrArg List.length h; simpa using this
theorem NE.called (h : NE S N) (x : List UInt8) : pCalled S x = pCalled N x := by
 have e (M : List Nd) : pCalled M x = (M.map kn).findIdx? (fun p => decide (9 ≤ p.1) && p.2 == x) := by
  unfold pCalled; rw [List.findIdx?_map]; rfl
 rw [e, e, h]
theorem NE.kind (h : NE S N) (i : Nat) : kindAt S i = kindAt N i := by
 have e (M : List Nd) : kindAt M i = ((M.map kn)[i]?).map Prod.fst := by
  unfold kindAt; rw [List.getElem?_map, Option.map_map]; rfl
 rw [e, e, h]
theorem NE.app (h : NE S N) {a b : List Nd} (h2 : NE a b) : NE (S ++ a) (N ++ b) := by
 show (S ++ a).map kn = (N ++ b).map kn
 rw [List.map_append, List.map_append, h, h2]
theorem NE.one {x y : Nd} (h : kn x = kn y) : NE [x] [y] := by show [kn x] = [kn y]; rw [h]
end
def TOk (T : List Tok) : Prop := ∃ ts, T.map Tok.tt = ts ++ [(3, [])] ∧ ∀ t ∈ ts, Wf t
section
variable {T : List Tok}
theorem TOk.pos (h : TOk T) : 0 < T.length := by
 obtain ⟨ts, e, _⟩ := h
 have := congrArg List.length e
 simp at this
 omega
theorem tok_drop {i : Nat} (h : i < T.length) : T.drop i = tokAt T i :: T.drop (i + 1) := by
 rw [List.drop_eq_getElem_cons h]
 congr 1
 unfold tokAt
 rw [List.getD_eq_getElem?_getD, List.getElem?_eq_getElem h]
 rfl
theorem TOk.at_ (h : TOk T) {i : Nat} (hi : i < T.length) : (i + 1 < T.length ∧ Wf (tokAt T i).tt) ∨ (i + 1 = T.length ∧ (tokAt T i).tt = (3, [])) := by
 obtain ⟨ts, e, hw⟩ := h
 have hl := congrArg List.length e
 simp only [List.length_map, List.length_append, List.length_singleton] at hl
 have ht : (T.map Tok.tt)[i]? = some (tokAt T i).tt := by
  rw [List.getElem?_map]
  unfold tokAt
  rw [List.getD_eq_getElem?_getD, List.getElem?_eq_getElem hi]
  rfl
 rw [e] at ht
 rcases Nat.lt_or_ge i ts.length with h1 | h1
 ·rw [List.getElem?_append_left h1] at ht
  exact .inl ⟨by omega, hw _ (List.mem_of_getElem? ht)⟩
 ·obtain rfl : i = ts.length := by omega
  rw [List.getElem?_append_right (by omega), Nat.sub_self] at ht
  simp at ht
  exact .inr ⟨by omega, ht.symm⟩
theorem TOk.more (h : TOk T) {i : Nat} (hi : i < T.length) (hk : (tokAt T i).k ≠ 3) : i + 1 < T.length := by
 rcases h.at_ hi with ⟨h1, _⟩ | ⟨_, h2⟩
 ·exact h1
 ·exact absurd (congrArg Prod.fst h2) hk
theorem kNo_kind (h : TOk T) {i : Nat} (hi : i < T.length) : kNo (tokAt T i) = match pKind (tokAt T i).tt with
  | some k => (k : Int)
  | none => -1 := by
 obtain ⟨t, ht⟩ : ∃ t, t = tokAt T i := ⟨_, rfl⟩
 have hw := h.at_ hi
 rw [← ht] at hw ⊢
 have e2 : t.tt.2 = t.s := rfl
 have e1 : t.tt.1 = t.k := rfl
 unfold kNo pKind wordI
 rw [e2, e1]
 cases hp : pWord t.s with
 | none => simp
 | some k =>
  simp only
  have hk := pWord_some hp
  by_cases h1 : (t.k = 0 ∧ (k < 6 ∨ 9 ≤ k)) ∨ (t.k = 2 ∧ 6 ≤ k ∧ k < 9)
  ·rw [if_pos h1, if_pos (by omega)]
  ·rw [if_neg h1]
   simp only
   rw [if_neg]
   intro h2
   rcases hw with ⟨_, c, w, hs, hb, hkd, _⟩ | ⟨_, h3⟩
   ·rw [e2, hk.2] at hs
    rw [e1] at hkd
    have key : ∀ k : Nat, k < 12 → ∀ c w, kwText k = c :: w → ((k < 6 ∨ 9 ≤ k) → wKind c = 0) ∧ (6 ≤ k ∧ k < 9 → wKind c = 2) := by
     intro k hk
     have : k = 0 ∨ k = 1 ∨ k = 2 ∨ k = 3 ∨ k = 4 ∨ k = 5 ∨ k = 6 ∨ k = 7 ∨ k = 8 ∨ k = 9 ∨ k = 10 ∨ k = 11 := by omega
     rcases this with rfl | rfl | rfl | rfl | rfl | rfl | rfl | rfl | rfl | rfl | rfl | rfl <;>
      (intro c w e; simp only [kwText, kwList, List.getD_cons_zero, List.getD_cons_succ, List.cons.injEq] at e; rw [← e.1]; decide)
    have := key k hk.1 c w hs
    omega
   ·have := congrArg Prod.fst h3
    rw [e1] at this
    simp at this
    omega
variable {s : St}
theorem mBad_no (e : Nat) : mBad T false e s = s := by unfold mBad; rw [if_neg]; simp
theorem mBad_yes (e : Nat) (h : s.why = 0) : mBad T true e s = { s with why := e, bad := (tokAt T s.at_).at_ } := by unfold mBad; rw [if_pos ⟨rfl, h⟩]
theorem mBad_stuck (is : Bool) (e : Nat) (h : s.why ≠ 0) : mBad T is e s = s := by unfold mBad; rw [if_neg fun x => h x.2]
theorem mOn_stuck (h : s.why ≠ 0) : mOn T s = s := by unfold mOn; rw [if_neg fun x => h x.1]
theorem mSg_stuck (x : List UInt8) (h : s.why ≠ 0) : mSg T x s = s := by unfold mSg; rw [mBad_stuck _ _ h, mOn_stuck h]
theorem mOn_more (h : s.why = 0) (hl : s.at_ + 1 < T.length) : mOn T s = { s with at_ := s.at_ + 1 } := by unfold mOn; rw [if_pos ⟨h, hl⟩]
theorem mHere_iff (x : List UInt8) : mHere T x s = true ↔ (tokAt T s.at_).k = 2 ∧ (tokAt T s.at_).s = x := by unfold mHere; simp
theorem mSg_yes (hT : TOk T) (h : s.why = 0) (hl : s.at_ < T.length) {x : List UInt8} (hx : (tokAt T s.at_).k = 2 ∧ (tokAt T s.at_).s = x) : mSg T x s = { s with at_ := s.at_ + 1 } ∧ s.at_ + 1 < T.length := by
 have hm := hT.more hl (by omega)
 refine ⟨?_, hm⟩
 unfold mSg
 rw [(mHere_iff x).2 hx, Bool.not_true, mBad_no, mOn_more h hm]
theorem mSg_no (h : s.why = 0) {x : List UInt8} (hx : ¬((tokAt T s.at_).k = 2 ∧ (tokAt T s.at_).s = x)) : (mSg T x s).why = 4 ∧ (mSg T x s).bad = (tokAt T s.at_).at_ := by
 have : mHere T x s = false := by
  cases hh : mHere T x s with
  | false => rfl
  | true => exact absurd ((mHere_iff x).1 hh) hx
 unfold mSg
 rw [this, Bool.not_false, mBad_yes _ h, mOn_stuck (by simp)]
 exact ⟨rfl, rfl⟩
def Rel (T : List Tok) (s : St) (N : List Nd) (x : Nat × St) (e : EO) : Prop := match e with
 | .ok (n, rest, N') => x.1 = n ∧ x.2.why = 0 ∧ x.2.at_ < T.length ∧ T.drop x.2.at_ = rest ∧ s.at_ < x.2.at_ ∧ ∃ new, N' = N ++ new ∧ x.2.N = s.N ++ new
 | .error (a, er) => x.2.why = er ∧ x.2.bad = a ∧ er ≠ 0
def RdRel (T : List Tok) (F : Nat) (rec : MRd) (rec' : ERd) : Prop := ∀ (s : St) (N : List Nd), s.why = 0 → s.at_ < T.length → T.length - s.at_ < F → NE s.N N → Rel T s N (rec s) (rec' (T.drop s.at_) N)
theorem rel_err {N : List Nd} {x : Nat × St} {a e : Nat} (h1 : x.2.why = e) (h2 : x.2.bad = a) (h3 : e ≠ 0) : Rel T s N x (.error (a, e)) := ⟨h1, h2, h3⟩
theorem mod_at {S mid : List Nd} {x : Nd} (g : Nd → Nd) {m : Nat} (hm : S.length = m) : (S ++ x :: mid).modify m g = S ++ g x :: mid := by
 subst hm
 have := mod_pre S x mid g
 simpa using this
theorem node_at {S mid : List Nd} {x : Nd} {m : Nat} (hm : S.length = m) : (S ++ x :: mid)[m]? = some x := by subst hm; simp
theorem one_rel (hT : TOk T) {F : Nat} {rec : MRd} {rec' : ERd} (hr : RdRel T F rec rec') {shut : List UInt8} {S N0 : List Nd} {k m : Nat} (hm : S.length = m) (hN : NE S N0) (hs : s.N = S ++ [Nd.of k]) (h0 : s.why = 0) (hl : s.at_ < T.length) (hF : T.length - s.at_ < F) :
  Rel T { s with N := S } N0 (m, mOne T rec m shut s) (eOne rec' shut (T.drop s.at_) (N0 ++ [Nd.of k]) m) := by
 have hR := hr s (N0 ++ [Nd.of k]) h0 hl hF (by rw [hs]; exact hN.app (NE.refl _))
 have hm0 : N0.length = m := by rw [← hN.len]; exact hm
 unfold eOne mOne
 cases he : rec' (T.drop s.at_) (N0 ++ [Nd.of k]) with
 | error p =>
  obtain ⟨a, e⟩ := p
  rw [he] at hR
  obtain ⟨h1, h2, h3⟩ := hR
  have hst : ((rec s).2.mod m fun y => { y with items := [(rec s).1] }).why ≠ 0 := by show (rec s).2.why ≠ 0; rw [h1]; exact h3
  show Rel _ _ _ _ (.error (a, e))
  rw [mSg_stuck _ hst]
  exact rel_err h1 h2 h3
 | ok p =>
  obtain ⟨x, ts, N1⟩ := p
  rw [he] at hR
  obtain ⟨h1, h2, h3, h4, h5, new, h6, h7⟩ := hR
  rw [tok_drop h3] at h4
  cases ts with
  | nil => cases h4
  | cons u r1 =>
   injection h4 with h4a h4b
   simp only
   obtain ⟨s1, hs1⟩ : ∃ s1, s1 = (rec s).2.mod m fun y => { y with items := [(rec s).1] } := ⟨_, rfl⟩
   have e1 : s1.why = 0 := by rw [hs1]; exact h2
   have e2 : s1.at_ = (rec s).2.at_ := by rw [hs1]; rfl
   have e3 : s1.N = S ++ { Nd.of k with items := [x] } :: new := by
    rw [hs1]
    show (rec s).2.N.modify m _ = _
    rw [h7, hs, h1, List.append_assoc]
    exact mod_at _ hm
   rw [← hs1]
   by_cases hu : u.k = 2 ∧ u.s = shut
   ·rw [if_pos hu]
    obtain ⟨q1, q2⟩ := mSg_yes (s := s1) hT e1 (by rw [e2]; exact h3) (x := shut) (by rw [e2, h4a]; exact hu)
    rw [q1]
    refine ⟨rfl, e1, q2, by rw [← h4b, e2], by show s.at_ < s1.at_ + 1; omega, { Nd.of k with items := [x] } :: new, ?_, e3⟩
    rw [h6, List.append_assoc]
    exact mod_at _ hm0
   ·rw [if_neg hu]
    obtain ⟨q1, q2⟩ := mSg_no (T := T) (s := s1) e1 (x := shut) (by rw [e2, h4a]; exact hu)
    exact rel_err q1 (by rw [q2, e2, h4a]) (by decide)
theorem all_rel (hT : TOk T) {F : Nat} {rec : List Nat → MRd} {rec' : List Nat → ERd} (hr : ∀ u, RdRel T F (rec u) (rec' u)) {S N0 : List Nd} {m : Nat} (hm : S.length = m) (hN : NE S N0) : ∀ (g g' : Nat) (its : List Nat) (mid : List Nd) (s : St),
  s.N = S ++ { Nd.of 8 with items := its } :: mid → s.why = 0 → s.at_ < T.length → T.length - s.at_ < F → T.length - s.at_ < g → T.length - s.at_ < g' →
  match eAllW rec' g' its (T.drop s.at_) (N0 ++ Nd.of 8 :: mid) with
  | .ok (its', rest, N1) => (mAll T rec m g s).why = 0 ∧ (mAll T rec m g s).at_ < T.length ∧ T.drop (mAll T rec m g s).at_ = rest ∧ s.at_ < (mAll T rec m g s).at_ ∧ ∃ mid', N1 = N0 ++ Nd.of 8 :: mid' ∧ (mAll T rec m g s).N = S ++ { Nd.of 8 with items := its' } :: mid'
  | .error (a, e) => (mAll T rec m g s).why = e ∧ (mAll T rec m g s).bad = a ∧ e ≠ 0
 | 0, _, _, _, _, _, _, _, _, h, _ => by omega
 | _, 0, _, _, _, _, _, _, _, _, h => by omega
 | g + 1, g' + 1, its, mid, s, hs, h0, hl, hF, hg, hg' => by
  have hit : itemsAt s.N m = its := by unfold itemsAt; rw [hs, node_at hm]
  have hR := hr its s (N0 ++ Nd.of 8 :: mid) h0 hl hF (by
   rw [hs]
   refine hN.app ?_
   show kn _ :: _ = kn _ :: _
   rfl)
  rw [eAllW, mAll, if_neg (by simp [h0])]
  obtain ⟨s1, hs1⟩ : ∃ s1, s1 = mAllS rec m s := ⟨_, rfl⟩
  have hs1' : s1 = (rec its s).2.mod m fun y => { y with items := y.items ++ [(rec its s).1] } := by rw [hs1]; unfold mAllS; rw [hit]
  rw [← hs1]
  cases he : rec' its (T.drop s.at_) (N0 ++ Nd.of 8 :: mid) with
  | error p =>
   obtain ⟨a, e⟩ := p
   rw [he] at hR
   obtain ⟨h1, h2, h3⟩ := hR
   have e1 : s1.why = e := by rw [hs1']; exact h1
   have e2 : s1.bad = a := by rw [hs1']; exact h2
   have e3 : s1.why ≠ 0 := by rw [e1]; exact h3
   simp only
   split
   ·rw [mOn_stuck e3]; exact ⟨e1, e2, h3⟩
   ·rw [mSg_stuck _ e3]
    cases g with
    | zero => exact ⟨e1, e2, h3⟩
    | succ g => rw [mAll, if_pos e3]; exact ⟨e1, e2, h3⟩
  | ok p =>
   obtain ⟨x, ts, N1⟩ := p
   rw [he] at hR
   obtain ⟨h1, h2, h3, h4, h5, new, h6, h7⟩ := hR
   rw [tok_drop h3] at h4
   cases ts with
   | nil => cases h4
   | cons u r1 =>
    injection h4 with h4a h4b
    have e1 : s1.why = 0 := by rw [hs1']; exact h2
    have e2 : s1.at_ = (rec its s).2.at_ := by rw [hs1']; rfl
    have e3 : s1.N = S ++ { Nd.of 8 with items := its ++ [x] } :: (mid ++ new) := by
     rw [hs1']
     show (rec its s).2.N.modify m _ = _
     rw [h7, hs, h1, List.append_assoc, List.cons_append]
     exact mod_at _ hm
    have h6' : N1 = N0 ++ Nd.of 8 :: (mid ++ new) := by rw [h6, List.append_assoc, List.cons_append]
    simp only
    have hl1 : s1.at_ < T.length := by rw [e2]; exact h3
    by_cases hu : u.k = 2 ∧ u.s = [41]
    ·rw [if_pos hu]
     have hh : mHere T [41] s1 = true := (mHere_iff _).2 (by rw [e2, h4a]; exact hu)
     have hmo := hT.more hl1 (by rw [e2, h4a]; omega)
     rw [if_pos hh, mOn_more e1 hmo]
     exact ⟨e1, hmo, by rw [← h4b, e2], by show s.at_ < s1.at_ + 1; omega, mid ++ new, h6', e3⟩
    ·rw [if_neg hu]
     have hh : mHere T [41] s1 = false := by
      cases hh : mHere T [41] s1 with
      | false => rfl
      | true => exact absurd ((mHere_iff _).1 hh) (by rw [e2, h4a]; exact hu)
     rw [hh]
     simp only [Bool.false_eq_true, if_false]
     by_cases hv : u.k = 2 ∧ u.s = [124]
     ·rw [if_pos hv]
      obtain ⟨q1, q2⟩ := mSg_yes (s := s1) hT e1 hl1 (x := [124]) (by rw [e2, h4a]; exact hv)
      have := all_rel hT hr hm hN g g' (its ++ [x]) (mid ++ new) { s1 with at_ := s1.at_ + 1 } e3 e1 q2 (by simp only; omega) (by simp only; omega) (by simp only; omega)
      rw [q1]
      have ed : T.drop (s1.at_ + 1) = r1 := by rw [e2, h4b]
      simp only [ed] at this
      rw [h6']
      revert this
      cases eAllW rec' g' (its ++ [x]) r1 (N0 ++ Nd.of 8 :: (mid ++ new)) with
      | error p => exact id
      | ok p =>
       obtain ⟨its', rest, N2⟩ := p
       rintro ⟨j1, j2, j3, j4, j5⟩
       exact ⟨j1, j2, j3, by omega, j5⟩
     ·rw [if_neg hv]
      obtain ⟨q1, q2⟩ := mSg_no (T := T) (s := s1) e1 (x := [124]) (by rw [e2, h4a]; exact hv)
      have q3 : (mSg T [124] s1).why ≠ 0 := by rw [q1]; decide
      have q4 : mAll T rec m g (mSg T [124] s1) = mSg T [124] s1 := by
       cases g with
       | zero => rfl
       | succ g => rw [mAll, if_pos q3]
      rw [q4]
      exact ⟨q1, by rw [q2, e2, h4a], by decide⟩
end
end Go.Proofs.YtgigiecdpjchkaaGreatDoor
