import Derived.Test.YtgigiecdpjchkaaGreatDoorR1
set_option linter.unusedSimpArgs false
set_option linter.unusedVariables false
set_option linter.unusedSectionVars false
set_option maxRecDepth 100000
set_option maxHeartbeats 6400000
namespace Go.Proofs.YtgigiecdpjchkaaGreatDoor
abbrev TT := Nat × List UInt8
structure Fl where
 name : List UInt8
 ty : Nat
 has : Bool
structure Nd where
 k : Nat
 name : List UInt8
 size : Nat
 syms : List (List UInt8)
 items : List Nat
 fields : List Fl
def Nd.of (k : Nat) : Nd := ⟨k, [], 0, [], [], []⟩
def kwList : List (List UInt8) := [[110, 117, 108, 108], [98, 111, 111, 108], [105, 110, 116], [108, 111, 110, 103], [98, 121, 116, 101, 115], [116, 101, 120, 116], [91], [123], [40],
 [101, 110, 117, 109], [102, 105, 120, 101, 100], [114, 101, 99, 111, 114, 100]]
def kwText (k : Nat) : List UInt8 := kwList.getD k []
def pWord (s : List UInt8) : Option Nat := kwList.findIdx? (· == s)
def pKind (t : TT) : Option Nat :=
 match pWord t.2 with
 | some k => if (t.1 = 0 ∧ (k < 6 ∨ 9 ≤ k)) ∨ (t.1 = 2 ∧ 6 ≤ k ∧ k < 9) then some k else none
 | none => none
def pNm (t : TT) : Bool := decide (t.1 = 0) && wName t.2 && (pWord t.2).isNone
def pCalled (N : List Nd) (s : List UInt8) : Option Nat := N.findIdx? (fun x => decide (9 ≤ x.k) && x.name == s)
def kindAt (N : List Nd) (i : Nat) : Option Nat := (N[i]?).map (·.k)
def pOne (rec : List TT → List Nd → Option (Nat × List TT × List Nd)) (shut : List UInt8) (r : List TT) (N : List Nd) (n : Nat) : Option (Nat × List TT × List Nd) :=
 match rec r N with
 | some (x, (k, s) :: r1, N1) => if k = 2 ∧ s = shut then some (n, r1, N1.modify n (fun y => { y with items := [x] })) else none
 | _ => none
def pAllW (rec : List Nat → List TT → List Nd → Option (Nat × List TT × List Nd)) : Nat → List Nat → List TT → List Nd → Option (List Nat × List TT × List Nd)
 | 0, _, _, _ => none
 | g + 1, its, ts, N =>
  match rec its ts N with
  | some (x, (k, s) :: r, N1) => if k = 2 ∧ s = [41] then some (its ++ [x], r, N1) else if k = 2 ∧ s = [124] then pAllW rec g (its ++ [x]) r N1 else none
  | _ => none
def pSyms : Nat → List (List UInt8) → List TT → Option (List (List UInt8) × List TT)
 | g + 1, ys, t :: (k, s) :: r => if pNm t && !ys.contains t.2 then (if k = 2 ∧ s = [62] then some (ys ++ [t.2], r) else if k = 2 ∧ s = [44] then pSyms g (ys ++ [t.2]) r else none) else none
 | _, _, _ => none
def pHas : List TT → Option (Bool × List TT)
 | (k, s) :: r =>
  if k = 2 ∧ s = [58] then some (false, r)
  else if k = 2 ∧ s = [63] then
   match r with
   | (k2, s2) :: r2 => if k2 = 2 ∧ s2 = [58] then some (true, r2) else none
   | [] => none
  else none
 | [] => none
def pFields (rec : List TT → List Nd → Option (Nat × List TT × List Nd)) : Nat → List Fl → List TT → List Nd → Option (List Fl × List TT × List Nd)
 | g + 1, fs, t :: r, N =>
  if t.1 = 2 ∧ t.2 = [125] then some (fs, r, N)
  else if pNm t && !fs.any (fun y => y.name == t.2) then
   match pHas r with
   | none => none
   | some (h, r1) =>
    match rec r1 N with
    | some (x, (k, s) :: r2, N1) => if k = 2 ∧ s = [59] then pFields rec g (fs ++ [⟨t.2, x, h⟩]) r2 N1 else none
    | _ => none
  else none
 | _, _, _, _ => none
def pStep (rec : Option (List Nat) → List TT → List Nd → Option (Nat × List TT × List Nd)) (f deep : Nat) (un : Option (List Nat)) (t : TT) (r : List TT) (N : List Nd) : Option (Nat × List TT × List Nd) :=
  if 20 ≤ deep then none
  else match pKind t with
   | none =>
    if pNm t then
     match pCalled N t.2 with
     | none => none
     | some n => if (un.getD []).contains n then none else some (n, r, N)
    else none
   | some k =>
    if 200 ≤ N.length then none
    else if un.isSome && (k == 8 || (decide (k < 9) && (un.getD []).any (fun i => kindAt N i == some k))) then none
    else if k < 6 then some (N.length, r, N ++ [Nd.of k])
    else if k = 6 then pOne (rec none) [93] r (N ++ [Nd.of 6]) N.length
    else if k = 7 then pOne (rec none) [125] r (N ++ [Nd.of 7]) N.length
    else if k = 8 then
     match pAllW (fun its => rec (some its)) f [] r (N ++ [Nd.of 8]) with
     | some (its, r1, N1) => some (N.length, r1, N1.modify N.length (fun y => { y with items := its }))
     | none => none
    else match r with
     | [] => none
     | a :: r1 =>
      if pNm a && (pCalled N a.2).isNone then
       match r1 with
       | [] => none
       | b :: r2 =>
        if k = 10 then (if b.1 = 1 ∧ wOk b.2 = true then some (N.length, r2, N ++ [{ Nd.of 10 with name := a.2, size := wNumAt b.2 }]) else none)
        else if k = 9 then
         (if b.1 = 2 ∧ b.2 = [60] then
          match pSyms f [] r2 with
          | some (ys, r3) => some (N.length, r3, N ++ [{ Nd.of 9 with name := a.2, syms := ys }])
          | none => none
         else none)
        else if b.1 = 2 ∧ b.2 = [123] then
         match pFields (rec none) f [] r2 (N ++ [{ Nd.of 11 with name := a.2 }]) with
         | some (fs, r3, N1) => some (N.length, r3, N1.modify N.length (fun y => { y with fields := fs }))
         | none => none
        else none
      else none
def pType : Nat → Nat → Option (List Nat) → List TT → List Nd → Option (Nat × List TT × List Nd)
 | 0, _, _, _, _ => none
 | _ + 1, _, _, [], _ => none
 | f + 1, deep, un, t :: r, N => pStep (fun u => pType f (deep + 1) u) f deep un t r N
def wItems (rec : Nat → Nat → Option (List TT × Nat)) : List Nat → Nat → Option (List TT × Nat)
 | [], nx => some ([], nx)
 | y :: ys, nx =>
  match rec y nx with
  | none => none
  | some (o, nx1) =>
   if ys.isEmpty then some (o, nx1)
   else match wItems rec ys nx1 with
    | none => none
    | some (o2, nx2) => some (o ++ (2, [124]) :: o2, nx2)
def wFields (rec : Nat → Nat → Option (List TT × Nat)) : List Fl → Nat → Option (List TT × Nat)
 | [], nx => some ([], nx)
 | y :: ys, nx =>
  match rec y.ty nx with
  | none => none
  | some (o, nx1) =>
   match wFields rec ys nx1 with
   | none => none
   | some (o2, nx2) => some ((0, y.name) :: ((if y.has then [(2, [63])] else []) ++ (2, [58]) :: (o ++ (2, [59]) :: o2)), nx2)
def wSymsT : List (List UInt8) → List TT
 | [] => []
 | y :: ys => (0, y) :: (if ys.isEmpty then [] else (2, [44]) :: wSymsT ys)
def digs : Nat → Nat → List UInt8
 | 0, _ => []
 | f + 1, n => if n < 10 then [UInt8.ofNat (48 + n)] else digs f (n / 10) ++ [UInt8.ofNat (48 + n % 10)]
def wTok (M : List Nd) : Nat → Nat → Nat → Option (List TT × Nat)
 | 0, _, _ => none
 | f + 1, n, nx =>
  match M[n]? with
  | none => none
  | some x =>
   if n < nx then (if 9 ≤ x.k then some ([(0, x.name)], nx) else none)
   else if n ≠ nx then none
   else if x.k < 6 then some ([(0, kwText x.k)], nx + 1)
   else if x.k = 6 then (wItems (wTok M f) x.items (nx + 1)).map (fun p => ((2, [91]) :: (p.1 ++ [(2, [93])]), p.2))
   else if x.k = 7 then (wItems (wTok M f) x.items (nx + 1)).map (fun p => ((2, [123]) :: (p.1 ++ [(2, [125])]), p.2))
   else if x.k = 8 then (wItems (wTok M f) x.items (nx + 1)).map (fun p => ((2, [40]) :: (p.1 ++ [(2, [41])]), p.2))
   else if x.k = 9 then some ((0, kwText 9) :: (0, x.name) :: (2, [60]) :: (wSymsT x.syms ++ [(2, [62])]), nx + 1)
   else if x.k = 10 then some ([(0, kwText 10), (0, x.name), (1, digs 5 x.size)], nx + 1)
   else if x.k = 11 then (wFields (wTok M f) x.fields (nx + 1)).map (fun p => ((0, kwText 11) :: (0, x.name) :: (2, [123]) :: (p.1 ++ [(2, [125])]), p.2))
   else none
def knAt (N : List Nd) (i : Nat) : Option (Nat × List UInt8) := (N[i]?).map fun x => (x.k, x.name)
def Fit (M N N' : List Nd) : Prop := (∀ i, N.length ≤ i → i < N'.length → M[i]? = N'[i]?) ∧ ∀ i, i < N.length → knAt M i = knAt N i
theorem pre_at {N N' : List Nd} (h : N <+: N') {i : Nat} (hi : i < N.length) : N'[i]? = N[i]? := by
 obtain ⟨e, rfl⟩ := h
 rw [List.getElem?_append_left hi]
theorem pre_kn {N N' : List Nd} (h : N <+: N') {i : Nat} (hi : i < N.length) : knAt N' i = knAt N i := by unfold knAt; rw [pre_at h hi]
theorem Fit.left {M N N1 N' : List Nd} (h : Fit M N N') (h1 : N1 <+: N') : Fit M N N1 :=
 ⟨fun i a b => by rw [h.1 i a (Nat.lt_of_lt_of_le b h1.length_le), pre_at h1 b], h.2⟩
theorem Fit.right {M N N1 N' : List Nd} (h : Fit M N N') (h0 : N <+: N1) (h1 : N1 <+: N') : Fit M N1 N' :=
 ⟨fun i a b => h.1 i (Nat.le_trans h0.length_le a) b, fun i a => by
  by_cases hi : i < N.length
  ·rw [h.2 i hi, pre_kn h0 hi]
  ·unfold knAt
   rw [h.1 i (by omega) (Nat.lt_of_lt_of_le a h1.length_le), pre_at h1 a]⟩
def RdOk (rec : List TT → List Nd → Option (Nat × List TT × List Nd)) (f : Nat) : Prop :=
 ∀ ts N n r N', rec ts N = some (n, r, N') → N <+: N' ∧ ∃ out, ts = out ++ r ∧ out ≠ [] ∧ ∀ M, Fit M N N' → wTok M f n N.length = some (out, N'.length)
theorem mod_pre (N : List Nd) (x : Nd) (e : List Nd) (g : Nd → Nd) : (N ++ [x] ++ e).modify N.length g = N ++ [g x] ++ e := by
 induction N with
 | nil => simp
 | cons y N ih => simpa using ih
theorem Fit.fill {M N N2 : List Nd} {x : Nd} {g : Nd → Nd} (hg : (g x).k = x.k ∧ (g x).name = x.name) (hp : N ++ [x] <+: N2) (h : Fit M N (N2.modify N.length g)) : Fit M (N ++ [x]) N2 ∧ M[N.length]? = some (g x) := by
 obtain ⟨e, rfl⟩ := hp
 rw [mod_pre] at h
 have h0 : M[N.length]? = some (g x) := by
  rw [h.1 N.length (Nat.le_refl _) (by simp)]
  simp
 refine ⟨⟨fun i a b => ?_, fun i a => ?_⟩, h0⟩
 ·rw [List.length_append, List.length_singleton] at a
  rw [h.1 i (by omega) (by simpa using b), List.getElem?_append_right (by simp; omega), List.getElem?_append_right (by simp; omega)]
  simp
 ·rw [List.length_append, List.length_singleton] at a
  by_cases hi : i < N.length
  ·rw [h.2 i hi]
   unfold knAt
   rw [List.getElem?_append_left hi]
  ·obtain rfl : i = N.length := by omega
   unfold knAt
   rw [h0]
   simp [hg.1, hg.2]
theorem mod_grow {N N2 : List Nd} {x : Nd} {g : Nd → Nd} (hp : N ++ [x] <+: N2) : N <+: N2.modify N.length g ∧ (N2.modify N.length g).length = N2.length := by
 obtain ⟨e, rfl⟩ := hp
 rw [mod_pre]
 exact ⟨⟨[g x] ++ e, by simp⟩, by simp⟩
theorem pAllW_ok {rec : List Nat → List TT → List Nd → Option (Nat × List TT × List Nd)} {f : Nat} (hr : ∀ its, RdOk (rec its) f) : ∀ (g : Nat) (its : List Nat) (ts : List TT) (N : List Nd) (its' : List Nat) (r : List TT) (N' : List Nd),
  pAllW rec g its ts N = some (its', r, N') → N <+: N' ∧ ∃ new out, its' = its ++ new ∧ new ≠ [] ∧ ts = out ++ (2, [41]) :: r ∧ ∀ M, Fit M N N' → wItems (wTok M f) new N.length = some (out, N'.length)
 | 0, _, _, _, _, _, _, h => by simp [pAllW] at h
 | g + 1, its, ts, N, its', r, N', h => by
  unfold pAllW at h
  split at h
  ·rename_i x k s r1 N1 hx
   obtain ⟨h1, out, rfl, hne, h2⟩ := hr its ts N x _ N1 hx
   split at h
   ·rename_i hks
    obtain ⟨rfl, rfl⟩ := hks
    simp only [Option.some.injEq, Prod.mk.injEq] at h
    obtain ⟨rfl, rfl, rfl⟩ := h
    refine ⟨h1, [x], out, rfl, by simp, rfl, fun M hM => ?_⟩
    simp [wItems, h2 M hM]
   ·split at h
    ·rename_i hks
     obtain ⟨rfl, rfl⟩ := hks
     obtain ⟨h3, new, out2, rfl, hn, rfl, h4⟩ := pAllW_ok hr g (its ++ [x]) r1 N1 its' r N' h
     refine ⟨h1.trans h3, x :: new, out ++ (2, [124]) :: out2, by simp, by simp, by simp, fun M hM => ?_⟩
     have e : new.isEmpty = false := by cases new with
      | nil => exact absurd rfl hn
      | cons a b => rfl
     simp [wItems, h2 M (hM.left h3), h4 M (hM.right h1 h3), e]
    ·cases h
  ·cases h
theorem pHas_ok {r r1 : List TT} {h : Bool} (e : pHas r = some (h, r1)) : r = (if h then [(2, [63])] else []) ++ (2, [58]) :: r1 := by
 unfold pHas at e
 split at e
 ·split at e
  ·rename_i hks
   obtain ⟨rfl, rfl⟩ := hks
   simp only [Option.some.injEq, Prod.mk.injEq] at e
   obtain ⟨rfl, rfl⟩ := e
   rfl
  ·split at e
   ·rename_i hks
    obtain ⟨rfl, rfl⟩ := hks
    split at e
    ·split at e
     ·rename_i hks
      obtain ⟨rfl, rfl⟩ := hks
      simp only [Option.some.injEq, Prod.mk.injEq] at e
      obtain ⟨rfl, rfl⟩ := e
      rfl
     ·cases e
    ·cases e
   ·cases e
 ·cases e
theorem pNm_form {t : TT} (h : pNm t = true) : t = (0, t.2) := by
 unfold pNm at h
 simp only [Bool.and_eq_true, decide_eq_true_eq] at h
 obtain ⟨a, b⟩ := t
 have := h.1.1
 simp only at this
 rw [this]
theorem pFields_ok {rec : List TT → List Nd → Option (Nat × List TT × List Nd)} {f : Nat} (hr : RdOk rec f) : ∀ (g : Nat) (fs : List Fl) (ts : List TT) (N : List Nd) (fs' : List Fl) (r : List TT) (N' : List Nd),
  pFields rec g fs ts N = some (fs', r, N') → N <+: N' ∧ ∃ new out, fs' = fs ++ new ∧ ts = out ++ (2, [125]) :: r ∧ ∀ M, Fit M N N' → wFields (wTok M f) new N.length = some (out, N'.length)
 | 0, _, _, _, _, _, _, h => by simp [pFields] at h
 | _ + 1, _, [], _, _, _, _, h => by simp [pFields] at h
 | g + 1, fs, t :: r0, N, fs', r, N', h => by
  unfold pFields at h
  split at h
  ·rename_i hks
   simp only [Option.some.injEq, Prod.mk.injEq] at h
   obtain ⟨rfl, rfl, rfl⟩ := h
   obtain ⟨a, b⟩ := t
   simp only at hks
   obtain ⟨rfl, rfl⟩ := hks
   exact ⟨List.prefix_refl _, [], [], by simp, rfl, fun M _ => rfl⟩
  ·split at h
   ·rename_i hnm
    rw [Bool.and_eq_true] at hnm
    have ht := pNm_form hnm.1
    split at h
    ·cases h
    ·rename_i hh r1 hhas
     have e1 := pHas_ok hhas
     split at h
     ·rename_i x k s r2 N1 hx
      obtain ⟨h1, out, rfl, hne, h2⟩ := hr r1 N x _ N1 hx
      split at h
      ·rename_i hks
       obtain ⟨rfl, rfl⟩ := hks
       obtain ⟨h3, new, out2, rfl, rfl, h4⟩ := pFields_ok hr g _ r2 N1 fs' r N' h
       refine ⟨h1.trans h3, ⟨t.2, x, hh⟩ :: new, (0, t.2) :: ((if hh then [(2, [63])] else []) ++ (2, [58]) :: (out ++ (2, [59]) :: out2)), by simp, ?_, fun M hM => ?_⟩
       ·rw [e1]
        conv => lhs; rw [ht]
        simp
       ·simp [wFields, h2 M (hM.left h3), h4 M (hM.right h1 h3)]
      ·cases h
     ·cases h
   ·cases h
theorem pSyms_ok : ∀ (g : Nat) (ys : List (List UInt8)) (ts : List TT) (ys' : List (List UInt8)) (r : List TT), pSyms g ys ts = some (ys', r) → ∃ new, ys' = ys ++ new ∧ new ≠ [] ∧ ts = wSymsT new ++ (2, [62]) :: r
 | 0, _, _, _, _, h => by simp [pSyms] at h
 | _ + 1, _, [], _, _, h => by simp [pSyms] at h
 | _ + 1, _, [_], _, _, h => by simp [pSyms] at h
 | g + 1, ys, t :: (k, s) :: r0, ys', r, h => by
  unfold pSyms at h
  split at h
  ·rename_i hnm
   rw [Bool.and_eq_true] at hnm
   have ht := pNm_form hnm.1
   split at h
   ·rename_i hks
    obtain ⟨rfl, rfl⟩ := hks
    simp only [Option.some.injEq, Prod.mk.injEq] at h
    obtain ⟨rfl, rfl⟩ := h
    refine ⟨[t.2], rfl, by simp, ?_⟩
    conv => lhs; rw [ht]
    rfl
   ·split at h
    ·rename_i hks
     obtain ⟨rfl, rfl⟩ := hks
     obtain ⟨new, rfl, hn, rfl⟩ := pSyms_ok g _ r0 ys' r h
     refine ⟨t.2 :: new, by simp, by simp, ?_⟩
     conv => lhs; rw [ht]
     cases new with
     | nil => exact absurd rfl hn
     | cons a b => simp [wSymsT]
    ·cases h
  ·cases h
theorem pWord_some {s : List UInt8} {k : Nat} (h : pWord s = some k) : k < 12 ∧ s = kwText k := by
 unfold pWord at h
 rw [List.findIdx?_eq_some_iff_getElem] at h
 obtain ⟨hk, h2, _⟩ := h
 have hk' : k < 12 := hk
 refine ⟨hk', ?_⟩
 have e : kwList[k] = s := eq_of_beq h2
 rw [← e]
 unfold kwText
 rw [List.getD_eq_getElem?_getD, List.getElem?_eq_getElem hk]
 rfl
theorem pKind_some {t : TT} {k : Nat} (h : pKind t = some k) : k < 12 ∧ ((k < 6 ∨ 9 ≤ k) ∧ t = (0, kwText k) ∨ (6 ≤ k ∧ k < 9) ∧ t = (2, kwText k)) := by
 unfold pKind at h
 split at h
 ·rename_i k' hw
  split at h
  ·rename_i hc
   injection h with h
   subst h
   obtain ⟨h1, h2⟩ := pWord_some hw
   obtain ⟨a, b⟩ := t
   simp only at hc h2
   subst h2
   refine ⟨h1, ?_⟩
   rcases hc with ⟨rfl, hc⟩ | ⟨rfl, hc⟩
   ·exact .inl ⟨hc, rfl⟩
   ·exact .inr ⟨hc, rfl⟩
  ·cases h
 ·cases h
theorem pCalled_some {N : List Nd} {s : List UInt8} {n : Nat} (h : pCalled N s = some n) : ∃ x, N[n]? = some x ∧ n < N.length ∧ 9 ≤ x.k ∧ x.name = s := by
 unfold pCalled at h
 rw [List.findIdx?_eq_some_iff_getElem] at h
 obtain ⟨hn, h2, _⟩ := h
 rw [Bool.and_eq_true, decide_eq_true_iff, beq_iff_eq] at h2
 exact ⟨N[n], List.getElem?_eq_getElem hn, hn, h2.1, h2.2⟩
theorem wNumAt_snoc (l : List UInt8) (c : UInt8) : wNumAt (l ++ [c]) = wNumAt l * 10 + (c.toNat - 48) := by
 simp [wNumAt, List.foldl_append]
theorem snoc_of {l : List UInt8} (h : l ≠ []) : ∃ l0 c, l = l0 ++ [c] := ⟨l.dropLast, l.getLast h, (List.dropLast_concat_getLast h).symm⟩
theorem wNum_iff {c : UInt8} (h : wNum c = true) : 48 ≤ c.toNat ∧ c.toNat ≤ 57 := by
 rcases wNum_cases c with ⟨_, e⟩ | ⟨h1, h2, _⟩ | ⟨_, _, e⟩
 ·rw [e] at h; cases h
 ·exact ⟨by omega, by omega⟩
 ·rw [e] at h; cases h
theorem num_lead : ∀ (f : Nat) (l : List UInt8), l.length = f + 1 → l.all wNum = true → l[0]? ≠ some 48 → 10 ^ f ≤ wNumAt l
 | 0, l, hl, ha, h0 => by
  match l, hl with
  | [c], _ =>
   have hc := wNum_iff (by simpa using ha : wNum c = true)
   have : c.toNat ≠ 48 := fun e => h0 (by
    have : c = 48 := UInt8.toNat_inj.1 e
    simp [this])
   simp only [wNumAt, List.foldl_cons, List.foldl_nil, Nat.pow_zero]
   omega
 | f + 1, l, hl, ha, h0 => by
  obtain ⟨l0, c, rfl⟩ := snoc_of (l := l) (by intro e; subst e; simp at hl)
  rw [List.length_append, List.length_singleton] at hl
  rw [List.all_append, Bool.and_eq_true] at ha
  have h0' : l0[0]? ≠ some 48 := by
   rw [List.getElem?_append_left (by omega)] at h0
   exact h0
  have h1 := num_lead f l0 (by omega) ha.1 h0'
  rw [wNumAt_snoc, Nat.pow_succ]
  omega
theorem digs_are : ∀ (f : Nat) (l : List UInt8), l ≠ [] → l.length ≤ f → l.all wNum = true → (l.length ≤ 1 ∨ l[0]? ≠ some 48) → digs f (wNumAt l) = l
 | 0, l, h, hl, _, _ => absurd (List.eq_nil_of_length_eq_zero (by omega)) h
 | f + 1, l, h, hl, ha, h0 => by
  obtain ⟨l0, c, rfl⟩ := snoc_of h
  rw [List.length_append, List.length_singleton] at hl
  rw [List.all_append, Bool.and_eq_true] at ha
  have hc := wNum_iff (by simpa using ha.2 : wNum c = true)
  have hcc : UInt8.ofNat (48 + (c.toNat - 48)) = c := by
   rw [show 48 + (c.toNat - 48) = c.toNat by omega]
   simp
  rw [wNumAt_snoc, digs]
  by_cases hl0 : l0 = []
  ·subst hl0
   have e0 : wNumAt [] = 0 := rfl
   rw [e0, if_pos (by omega), Nat.zero_mul, Nat.zero_add, hcc]
   rfl
  ·have hlen : l0.length ≠ 0 := fun e => hl0 (List.eq_nil_of_length_eq_zero e)
   have h1 : l0[0]? ≠ some 48 := by
    rcases h0 with h0 | h0
    ·rw [List.length_append, List.length_singleton] at h0; omega
    ·rw [List.getElem?_append_left (by omega)] at h0
     exact h0
   have h2 := num_lead (l0.length - 1) l0 (by omega) ha.1 h1
   have h3 : 1 ≤ 10 ^ (l0.length - 1) := Nat.one_le_pow _ _ (by decide)
   rw [if_neg (by omega), show (wNumAt l0 * 10 + (c.toNat - 48)) / 10 = wNumAt l0 by omega, show (wNumAt l0 * 10 + (c.toNat - 48)) % 10 = c.toNat - 48 by omega, hcc,
    digs_are f l0 hl0 (by omega) ha.1 (.inr h1)]
theorem digs_ok {s : List UInt8} (h : wOk s = true) : digs 5 (wNumAt s) = s := by
 simp only [wOk, Bool.and_eq_true, Bool.or_eq_true, decide_eq_true_iff, Bool.not_eq_true'] at h
 obtain ⟨⟨⟨h1, h2⟩, h3⟩, h4⟩ := h
 have hne : s ≠ [] := by intro e; subst e; cases h1
 have hl : s.length ≠ 0 := fun e => hne (List.eq_nil_of_length_eq_zero e)
 refine digs_are 5 s hne ?_ h2 (h3.imp (by omega) id)
 rcases h3 with h3 | h3
 ·omega
 ·have h5 := num_lead (s.length - 1) s (by omega) h2 h3
  rcases Nat.lt_or_ge 5 s.length with hh | hh
  ·have : 10 ^ 5 ≤ 10 ^ (s.length - 1) := Nat.pow_le_pow_right (by decide) (by omega)
   omega
  ·exact hh
theorem wTok_one {M : List Nd} {f n : Nat} {x : Nd} (h : M[n]? = some x) : wTok M (f + 1) n n =
  if x.k < 6 then some ([(0, kwText x.k)], n + 1)
  else if x.k = 6 then (wItems (wTok M f) x.items (n + 1)).map (fun p => ((2, [91]) :: (p.1 ++ [(2, [93])]), p.2))
  else if x.k = 7 then (wItems (wTok M f) x.items (n + 1)).map (fun p => ((2, [123]) :: (p.1 ++ [(2, [125])]), p.2))
  else if x.k = 8 then (wItems (wTok M f) x.items (n + 1)).map (fun p => ((2, [40]) :: (p.1 ++ [(2, [41])]), p.2))
  else if x.k = 9 then some ((0, kwText 9) :: (0, x.name) :: (2, [60]) :: (wSymsT x.syms ++ [(2, [62])]), n + 1)
  else if x.k = 10 then some ([(0, kwText 10), (0, x.name), (1, digs 5 x.size)], n + 1)
  else if x.k = 11 then (wFields (wTok M f) x.fields (n + 1)).map (fun p => ((0, kwText 11) :: (0, x.name) :: (2, [123]) :: (p.1 ++ [(2, [125])]), p.2))
  else none := by
 rw [wTok, h]
 simp only [Nat.lt_irrefl, if_false, ne_eq, not_true_eq_false]
theorem pOne_ok {rec : List TT → List Nd → Option (Nat × List TT × List Nd)} {f : Nat} (hr : RdOk rec f) {shut : List UInt8} {r : List TT} {N : List Nd} {k : Nat} {n : Nat} {r1 : List TT} {N' : List Nd} (h : pOne rec shut r (N ++ [Nd.of k]) N.length = some (n, r1, N')) :
  n = N.length ∧ N <+: N' ∧ ∃ out, r = out ++ (2, shut) :: r1 ∧ ∀ M, Fit M N N' → ∃ x, M[N.length]? = some x ∧ x.k = k ∧ wItems (wTok M f) x.items (N.length + 1) = some (out, N'.length) := by
 unfold pOne at h
 split at h
 ·rename_i x k0 s r2 N1 hx
  obtain ⟨h1, out, rfl, hne, h2⟩ := hr _ _ x _ N1 hx
  split at h
  ·rename_i hks
   obtain ⟨rfl, rfl⟩ := hks
   simp only [Option.some.injEq, Prod.mk.injEq] at h
   obtain ⟨rfl, rfl, rfl⟩ := h
   obtain ⟨g1, g2⟩ := mod_grow (g := fun y => { y with items := [x] }) h1
   refine ⟨rfl, g1, out, rfl, fun M hM => ?_⟩
   obtain ⟨h3, h4⟩ := Fit.fill (g := fun y => { y with items := [x] }) ⟨rfl, rfl⟩ h1 hM
   refine ⟨_, h4, rfl, ?_⟩
   have h5 := h2 M h3
   rw [List.length_append, List.length_singleton] at h5
   rw [g2]
   simp [wItems, h5]
  ·cases h
 ·cases h
theorem ite_none {c : Prop} [Decidable c] {α : Type} {a : Option α} {x : α} (h : (if c then none else a) = some x) : ¬c ∧ a = some x := by
 by_cases hc : c
 ·rw [if_pos hc] at h; cases h
 ·rw [if_neg hc] at h; exact ⟨hc, h⟩
theorem ite_two {c : Prop} [Decidable c] {α : Type} {a b : Option α} {x : α} (h : (if c then a else b) = some x) : (c ∧ a = some x) ∨ (¬c ∧ b = some x) := by
 by_cases hc : c
 ·rw [if_pos hc] at h; exact .inl ⟨hc, h⟩
 ·rw [if_neg hc] at h; exact .inr ⟨hc, h⟩
theorem pType_cons {f deep : Nat} {un : Option (List Nat)} {t : TT} {r : List TT} {N : List Nd} : pType (f + 1) deep un (t :: r) N = pStep (fun u => pType f (deep + 1) u) f deep un t r N := by rw [pType]
theorem pType_nil {f deep : Nat} {un : Option (List Nat)} {N : List Nd} : pType (f + 1) deep un [] N = none := by rw [pType]
theorem pType_ok : ∀ (f deep : Nat) (un : Option (List Nat)), RdOk (pType f deep un) f
 | 0, _, _ => fun ts N n r N' h => by rw [pType] at h; cases h
 | f + 1, deep, un => fun ts N n r N' h => by
  cases ts with
  | nil => rw [pType_nil] at h; cases h
  | cons t r0 =>
   rw [pType_cons] at h
   unfold pStep at h
   replace h := (ite_none h).2
   cases hk : pKind t with
   | none =>
    rw [hk] at h
    simp only at h
    split at h
    ·rename_i hnm
     cases hc : pCalled N t.2 with
     | none => rw [hc] at h; cases h
     | some n0 =>
      rw [hc] at h
      simp only at h
      split at h
      ·cases h
      ·simp only [Option.some.injEq, Prod.mk.injEq] at h
       obtain ⟨rfl, rfl, rfl⟩ := h
       obtain ⟨x, hx, hlt, h9, hname⟩ := pCalled_some hc
       refine ⟨List.prefix_refl _, [t], rfl, by simp, fun M hM => ?_⟩
       have hkn := hM.2 n0 hlt
       unfold knAt at hkn
       rw [hx] at hkn
       cases hy : M[n0]? with
       | none => rw [hy] at hkn; cases hkn
       | some y =>
        rw [hy] at hkn
        simp only [Option.map_some, Option.some.injEq, Prod.mk.injEq] at hkn
        rw [wTok, hy]
        simp only [if_pos hlt]
        rw [if_pos (by omega), hkn.2, hname, ← pNm_form hnm]
    ·cases h
   | some k =>
    rw [hk] at h
    simp only at h
    obtain ⟨hk12, hform⟩ := pKind_some hk
    replace h := (ite_none h).2
    replace h := (ite_none h).2
    have hh := ite_two h
    clear h
    rcases hh with ⟨hk6, h⟩ | ⟨hk6, h⟩
    ·-- a plain one
     simp only [Option.some.injEq, Prod.mk.injEq] at h
     obtain ⟨rfl, rfl, rfl⟩ := h
     refine ⟨List.prefix_append _ _, [t], rfl, by simp, fun M hM => ?_⟩
     have h0 : M[N.length]? = some (Nd.of k) := by rw [hM.1 N.length (Nat.le_refl _) (by simp)]; simp
     rw [wTok_one h0, if_pos (show (Nd.of k).k < 6 from hk6)]
     rcases hform with ⟨_, rfl⟩ | ⟨h6, _⟩
     ·simp [Nd.of]
     ·omega
    have hr0 := pType_ok f (deep + 1) none
    have hh := ite_two h
    clear h
    rcases hh with ⟨e6, h⟩ | ⟨e6, h⟩
    ·subst e6
     obtain ⟨rfl, g1, out, rfl, g2⟩ := pOne_ok hr0 h
     refine ⟨g1, t :: (out ++ [(2, [93])]), by simp, by simp, fun M hM => ?_⟩
     obtain ⟨x, hx, hxk, hw⟩ := g2 M hM
     rw [wTok_one hx, hxk, if_neg (by omega), if_pos rfl, hw]
     rcases hform with ⟨h6, _⟩ | ⟨_, rfl⟩
     ·omega
     ·rfl
    have hh := ite_two h
    clear h
    rcases hh with ⟨e7, h⟩ | ⟨e7, h⟩
    ·subst e7
     obtain ⟨rfl, g1, out, rfl, g2⟩ := pOne_ok hr0 h
     refine ⟨g1, t :: (out ++ [(2, [125])]), by simp, by simp, fun M hM => ?_⟩
     obtain ⟨x, hx, hxk, hw⟩ := g2 M hM
     rw [wTok_one hx, hxk, if_neg (by omega), if_neg (by omega), if_pos rfl, hw]
     rcases hform with ⟨h6, _⟩ | ⟨_, rfl⟩
     ·omega
     ·rfl
    have hh := ite_two h
    clear h
    rcases hh with ⟨e8, h⟩ | ⟨e8, h⟩
    ·subst e8
     split at h
     ·rename_i its r1 N1 ha
      simp only [Option.some.injEq, Prod.mk.injEq] at h
      obtain ⟨rfl, rfl, rfl⟩ := h
      obtain ⟨g1, new, out, rfl, hn, rfl, g2⟩ := pAllW_ok (fun its => pType_ok f (deep + 1) (some its)) f [] r0 _ _ r1 N1 ha
      obtain ⟨m1, m2⟩ := mod_grow (g := fun y => { y with items := its }) g1
      refine ⟨m1, t :: (out ++ [(2, [41])]), by simp, by simp, fun M hM => ?_⟩
      obtain ⟨h3, h4⟩ := Fit.fill (g := fun y => { y with items := its }) ⟨rfl, rfl⟩ g1 hM
      have h5 := g2 M h3
      rw [List.length_append, List.length_singleton] at h5
      rw [wTok_one h4, m2]
      simp only [Nd.of]
      rw [if_neg (by omega), if_neg (by omega), if_neg (by omega), if_pos trivial, h5]
      rcases hform with ⟨h6, _⟩ | ⟨_, rfl⟩
      ·omega
      ·rfl
     ·cases h
    have h9 : 9 ≤ k := by omega
    have ht : t = (0, kwText k) := by
     rcases hform with ⟨_, ht⟩ | ⟨h6, _⟩
     ·exact ht
     ·omega
    cases r0 with
    | nil => simp at h
    | cons a r1 =>
     simp only at h
     split at h
     ·rename_i hna
      rw [Bool.and_eq_true] at hna
      have ha := pNm_form hna.1
      cases r1 with
      | nil => simp at h
      | cons b r2 =>
       simp only at h
       split at h
       ·rename_i e10
        subst e10
        split at h
        ·rename_i hb
         simp only [Option.some.injEq, Prod.mk.injEq] at h
         obtain ⟨rfl, rfl, rfl⟩ := h
         refine ⟨List.prefix_append _ _, [t, a, b], by simp, by simp, fun M hM => ?_⟩
         have h0 : M[N.length]? = some { Nd.of 10 with name := a.2, size := wNumAt b.2 } := by rw [hM.1 N.length (Nat.le_refl _) (by simp)]; simp
         rw [wTok_one h0]
         simp only [Nd.of]
         rw [if_neg (by omega), if_neg (by omega), if_neg (by omega), if_neg (by omega), if_neg (by omega), if_pos trivial, digs_ok hb.2, ← ha, ht]
         have eb : b = (1, b.2) := by rw [← hb.1]
         rw [← eb]
         simp
        ·cases h
       ·split at h
        ·rename_i _ e9
         subst e9
         split at h
         ·rename_i hb
          split at h
          ·rename_i ys r3 hs
           simp only [Option.some.injEq, Prod.mk.injEq] at h
           obtain ⟨rfl, rfl, rfl⟩ := h
           obtain ⟨new, rfl, hn, rfl⟩ := pSyms_ok f [] r2 ys r3 hs
           have eb : b = (2, [60]) := by rw [← hb.1, ← hb.2]
           refine ⟨List.prefix_append _ _, t :: a :: b :: (wSymsT ys ++ [(2, [62])]), by simp, by simp, fun M hM => ?_⟩
           have h0 : M[N.length]? = some { Nd.of 9 with name := a.2, syms := ys } := by rw [hM.1 N.length (Nat.le_refl _) (by simp)]; simp
           rw [wTok_one h0]
           simp only [Nd.of]
           rw [if_neg (by omega), if_neg (by omega), if_neg (by omega), if_neg (by omega), if_pos trivial, ← ha, ht, eb]
           simp
          ·cases h
         ·cases h
        ·rename_i e10 e9
         have e11 : k = 11 := by omega
         subst e11
         split at h
         ·rename_i hb
          split at h
          ·rename_i fs r3 N1 hf
           simp only [Option.some.injEq, Prod.mk.injEq] at h
           obtain ⟨rfl, rfl, rfl⟩ := h
           obtain ⟨g1, new, out, rfl, rfl, g2⟩ := pFields_ok hr0 f [] r2 _ fs r3 N1 hf
           have eb : b = (2, [123]) := by rw [← hb.1, ← hb.2]
           obtain ⟨m1, m2⟩ := mod_grow (g := fun y => { y with fields := fs }) g1
           refine ⟨m1, t :: a :: b :: (out ++ [(2, [125])]), by simp, by simp, fun M hM => ?_⟩
           obtain ⟨h3, h4⟩ := Fit.fill (g := fun y => { y with fields := fs }) ⟨rfl, rfl⟩ g1 hM
           have h5 := g2 M h3
           rw [List.length_append, List.length_singleton] at h5
           rw [wTok_one h4, m2]
           simp only [Nd.of]
           rw [if_neg (by omega), if_neg (by omega), if_neg (by omega), if_neg (by omega), if_neg (by omega), if_neg (by omega), if_pos trivial, h5]
           simp only [Option.map_some]
           rw [← ha, ht, eb]
          ·cases h
         ·cases h
     ·cases h
def need (t : TT) (r : List TT) : Bool :=
 match r with
 | [] => false
 | u :: _ => decide ((t.1 = 0 ∧ u.1 ≤ 1) ∨ (t.1 = 1 ∧ u.1 = 1))
def sep (b : Bool) : List UInt8 := if b then [32] else []
def rText : List TT → List UInt8
 | [] => []
 | t :: r => t.2 ++ (sep (need t r) ++ rText r)
def Wf (t : TT) : Prop := ∃ c w, t.2 = c :: w ∧ wBegins c = true ∧ t.1 = wKind c ∧ (if wLow c then w.all wIn = true else if wNum c then w.all wNum = true else w = [])
theorem sign_no {d : UInt8} (h : wSign d = true) : wIn d = false ∧ wNum d = false ∧ wLow d = false := by
 have ha : ∀ n ∈ ([40, 41, 91, 93, 123, 125, 60, 62, 124, 58, 59, 44, 63] : List Nat), ¬(97 ≤ n ∧ n ≤ 122) ∧ ¬(48 ≤ n ∧ n ≤ 57) ∧ ¬n = 95 := by decide
 have hb := ha d.toNat (by unfold wSign at h; exact List.contains_iff_mem.1 h)
 have e1 : wLow d = false := by unfold wLow; rw [decide_eq_false_iff_not]; exact hb.1
 have e2 : wNum d = false := by unfold wNum; rw [decide_eq_false_iff_not]; exact hb.2.1
 refine ⟨?_, e2, e1⟩
 unfold wIn
 rw [e1, e2, decide_eq_false hb.2.2]
 rfl
theorem low_no {d : UInt8} (h : wLow d = true) : wNum d = false := by
 unfold wLow at h
 rw [decide_eq_true_iff] at h
 unfold wNum
 rw [decide_eq_false_iff_not]
 omega
theorem kind_two {d : UInt8} (h : wBegins d = true) (hk : wKind d = 2) : wSign d = true := by
 unfold wBegins at h
 unfold wKind at hk
 split at hk
 ·omega
 split at hk
 ·omega
 rename_i h1 h2
 have e1 : wLow d = false := by simpa using h1
 have e2 : wNum d = false := by simpa using h2
 rw [e1, e2] at h
 exact h
theorem kind_in {d : UInt8} (h : wKind d ≤ 1) : wIn d = true := by
 unfold wKind at h
 unfold wIn
 split at h
 ·rename_i h1; rw [h1]; rfl
 split at h
 ·rename_i h2; rw [h2]; simp
 ·omega
theorem kind_one {d : UInt8} (h : wKind d = 1) : wNum d = true := by
 unfold wKind at h
 split at h
 ·omega
 split at h
 ·assumption
 ·omega
theorem kind_low {d : UInt8} (h : wKind d = 0) : wLow d = true := by
 unfold wKind at h
 split at h
 ·assumption
 split at h <;> omega
theorem rText_head {u : TT} {r : List TT} (h : Wf u) : ∃ d q, rText (u :: r) = d :: q ∧ wBegins d = true ∧ u.1 = wKind d := by
 obtain ⟨d, w, h1, h2, h3, _⟩ := h
 exact ⟨d, w ++ (sep (need u r) ++ rText r), by rw [rText, h1]; rfl, h2, h3⟩
theorem behind {t : TT} {r : List TT} (hr : ∀ u ∈ r, Wf u) {d : UInt8} {q : List UInt8} (h : sep (need t r) ++ rText r = d :: q) : (t.1 = 0 → wIn d = false) ∧ (t.1 = 1 → wNum d = false) := by
 cases r with
 | nil => simp [need, sep, rText] at h
 | cons u r =>
  obtain ⟨d', q', h1, h2, h3⟩ := rText_head (r := r) (hr u (List.mem_cons_self ..))
  cases hn : need t (u :: r) with
  | true =>
   rw [hn] at h
   simp only [sep, if_true, List.singleton_append, List.cons.injEq] at h
   obtain ⟨rfl, _⟩ := h
   exact ⟨fun _ => by decide, fun _ => by decide⟩
  | false =>
   rw [hn, h1] at h
   simp only [sep, Bool.false_eq_true, if_false, List.nil_append, List.cons.injEq] at h
   obtain ⟨rfl, _⟩ := h
   simp only [need, decide_eq_false_iff_not] at hn
   have hle := wKind_le d'
   refine ⟨fun e => ?_, fun e => ?_⟩
   ·exact (sign_no (kind_two h2 (by omega))).1
   ·rcases Nat.lt_or_ge (wKind d') 1 with hk | hk
    ·exact low_no (kind_low (by omega))
    ·exact (sign_no (kind_two h2 (by omega))).2.1
theorem takeWhile_all {p : UInt8 → Bool} (w rest : List UInt8) (hw : w.all p = true) (hr : ∀ d q, rest = d :: q → p d = false) : (w ++ rest).takeWhile p = w := by
 induction w with
 | nil =>
  cases rest with
  | nil => rfl
  | cons d q => rw [List.nil_append, List.takeWhile_cons, hr d q rfl]; rfl
 | cons c w ih =>
  rw [List.all_cons, Bool.and_eq_true] at hw
  rw [List.cons_append, List.takeWhile_cons, hw.1]
  simp only [if_true, ih hw.2]
theorem more_is {t : TT} {r : List TT} {c : UInt8} {w : List UInt8} (h3 : t.1 = wKind c) (h4 : if wLow c then w.all wIn = true else if wNum c then w.all wNum = true else w = []) (hr : ∀ u ∈ r, Wf u) :
  wMore c (w ++ (sep (need t r) ++ rText r)) = w.length := by
 unfold wMore
 unfold wKind at h3
 split at h4
 ·rename_i h
  rw [if_pos h] at h3 ⊢
  rw [takeWhile_all _ _ h4 (fun d q e => (behind hr e).1 h3)]
 ·rename_i h
  rw [if_neg h] at h3 ⊢
  split at h4
  ·rename_i h5
   rw [if_pos h5] at h3 ⊢
   rw [takeWhile_all _ _ h4 (fun d q e => (behind hr e).2 h3)]
  ·rename_i h5
   rw [if_neg h5]
   rw [h4]
   rfl
theorem skip_sep (b : Bool) {l : List UInt8} (h : ∀ d q, l = d :: q → wPass false d = false) : wSkip false (sep b ++ l) = (sep b).length := by
 have h0 : wSkip false l = 0 := by
  cases l with
  | nil => rfl
  | cons d q => exact wSkip_here (h d q rfl)
 cases b with
 | false => exact h0
 | true =>
  show wSkip false (32 :: l) = 1
  rw [wSkip, if_pos (by decide)]
  have : wNote false 32 = false := by decide
  rw [this, h0]
def Tok.tt (t : Tok) : TT := (t.k, t.s)
theorem wGo_text : ∀ (ts : List TT) (f n at_ : Nat) (b : Bool), (∀ t ∈ ts, Wf t) → n + ts.length < 1500 → (sep b ++ rText ts).length < f →
  ∃ toks, wGo f n at_ (sep b ++ rText ts) = .ok toks ∧ toks.map Tok.tt = ts ++ [(3, [])]
 | _, 0, _, _, _, _, _, h => absurd h (Nat.not_lt_zero _)
 | [], f + 1, n, at_, b, hw, hn, hf => by
  have hs := skip_sep b (l := rText []) (fun d q e => by simp [rText] at e)
  refine ⟨[⟨3, [], at_ + (sep b).length⟩], ?_, rfl⟩
  rw [wGo, hs, List.drop_left, rText]
  simp only
  rw [if_neg (by simp at hn; omega)]
 | t :: r, f + 1, n, at_, b, hw, hn, hf => by
  have hr : ∀ u ∈ r, Wf u := fun u hu => hw u (List.mem_cons_of_mem _ hu)
  obtain ⟨c, w, h1, h2, h3, h4⟩ := hw t (List.mem_cons_self ..)
  have hs := skip_sep b (l := rText (t :: r)) (fun d q e => by
   rw [rText, h1, List.cons_append, List.cons.injEq] at e
   rw [← e.1]
   exact begins_pass h2)
  have hm := more_is (r := r) h3 h4 hr
  rw [List.length_cons] at hn
  rw [rText, h1] at hf
  simp only [List.length_append, List.length_cons] at hf
  obtain ⟨toks, g1, g2⟩ := wGo_text r f (n + 1) (at_ + (sep b).length + 1 + w.length) (need t r) hr (by omega) (by rw [List.length_append]; omega)
  refine ⟨⟨wKind c, c :: w, at_ + (sep b).length⟩ :: toks, ?_, ?_⟩
  ·rw [wGo, hs, List.drop_left, rText, h1, List.cons_append]
   simp only
   rw [if_pos h2, if_neg (by omega), hm, List.drop_left, List.take_left, g1]
  ·rw [List.map_cons, g2, List.cons_append]
   have : Tok.tt ⟨wKind c, c :: w, at_ + (sep b).length⟩ = t := by
    show (wKind c, c :: w) = t
    rw [← h3, ← h1]
   rw [this]
theorem wGo_back : ∀ (f n at_ : Nat) (l : List UInt8) (toks : List Tok), wGo f n at_ l = .ok toks → n ≤ 1500 →
  ∃ ts, toks.map Tok.tt = ts ++ [(3, [])] ∧ (∀ t ∈ ts, Wf t) ∧ (rText ts).length + wSkip false l ≤ l.length ∧ n + ts.length < 1500 ∧ ∀ u r, ts = u :: r → ∃ d q, l.drop (wSkip false l) = d :: q ∧ u.1 = wKind d
 | 0, n, at_, l, toks, h, _ => by rw [wGo] at h; cases h
 | f + 1, n, at_, l, toks, h, hn => by
  rw [wGo] at h
  have hle := wSkip_le false l
  cases hd : l.drop (wSkip false l) with
  | nil =>
   rw [hd] at h
   simp only at h
   split at h
   ·cases h
   ·simp only [Except.ok.injEq] at h
    subst h
    refine ⟨[], rfl, by simp, by simpa [rText] using hle, by simp; omega, fun u r e => by cases e⟩
  | cons c r =>
   rw [hd] at h
   simp only at h
   have hlen : l.length = wSkip false l + (r.length + 1) := by
    have := congrArg List.length hd
    rw [List.length_drop, List.length_cons] at this
    omega
   split at h
   ·rename_i hb
    split at h
    ·cases h
    rename_i hnn
    cases hg : wGo f (n + 1) (at_ + wSkip false l + 1 + wMore c r) (r.drop (wMore c r)) with
    | error e => rw [hg] at h; cases h
    | ok ts0 =>
     rw [hg] at h
     simp only [Except.ok.injEq] at h
     subst h
     obtain ⟨ts, g1, g2, g3, g4, g5⟩ := wGo_back f (n + 1) _ _ ts0 hg (by omega)
     have hml := wMore_le c r
     rw [List.length_drop] at g3
     refine ⟨(wKind c, c :: r.take (wMore c r)) :: ts, ?_, ?_, ?_, ?_, ?_⟩
     ·rw [List.map_cons, g1]; rfl
     ·intro t ht
      rcases List.mem_cons.1 ht with rfl | ht
      ·refine ⟨c, r.take (wMore c r), rfl, hb, rfl, ?_⟩
       have hp (p : UInt8 → Bool) : (r.take (r.takeWhile p).length).all p = true := by
        rw [show r.take (r.takeWhile p).length = r.takeWhile p from by
         have := List.takeWhile_prefix p (l := r)
         exact (List.prefix_iff_eq_take.1 this).symm]
        exact List.all_takeWhile
       unfold wMore
       split
       ·exact hp _
       ·split
        ·exact hp _
        ·rfl
      ·exact g2 t ht
     ·rw [rText]
      simp only [List.length_append, List.length_cons, List.length_take]
      have hsep : (sep (need (wKind c, c :: r.take (wMore c r)) ts)).length ≤ wSkip false (r.drop (wMore c r)) := by
       cases hnd : need (wKind c, c :: r.take (wMore c r)) ts with
       | false => exact Nat.zero_le _
       | true =>
        show 1 ≤ _
        cases ts with
        | nil => cases hnd
        | cons u us =>
         obtain ⟨d, q, e1, e2⟩ := g5 u us rfl
         simp only [need, decide_eq_true_iff] at hnd
         refine Nat.one_le_iff_ne_zero.2 (fun e0 => ?_)
         rw [e0, List.drop_zero] at e1
         unfold wMore at e1
         rcases hnd with ⟨k1, k2⟩ | ⟨k1, k2⟩
         ·rw [if_pos (kind_low k1)] at e1
          have := takeWhile_next r d q e1
          rw [kind_in (by omega)] at this
          cases this
         ·have hnum := kind_one k1
          have hlow : ¬ wLow c = true := fun e => by rw [low_no e] at hnum; cases hnum
          rw [if_neg hlow, if_pos hnum] at e1
          have := takeWhile_next r d q e1
          rw [kind_one (by omega)] at this
          cases this
      omega
     ·rw [List.length_cons]; omega
     ·intro u r' e
      rw [List.cons.injEq] at e
      exact ⟨c, r, rfl, by rw [← e.1]⟩
   ·cases h
theorem wWords_text {l : List UInt8} {toks : List Tok} (h : wWords l = .ok toks) : ∃ ts, toks.map Tok.tt = ts ++ [(3, [])] ∧ (∀ t ∈ ts, Wf t) ∧ (rText ts).length ≤ l.length ∧
  ∃ toks', wWords (rText ts) = .ok toks' ∧ toks'.map Tok.tt = ts ++ [(3, [])] := by
 unfold wWords at h
 split at h
 ·cases h
 rename_i hl
 obtain ⟨ts, g1, g2, g3, g4, _⟩ := wGo_back _ _ _ _ _ h (by omega)
 refine ⟨ts, g1, g2, by omega, ?_⟩
 obtain ⟨toks', k1, k2⟩ := wGo_text ts ((rText ts).length + 1) 0 0 false g2 (by omega) (by simp [sep])
 refine ⟨toks', ?_, k2⟩
 unfold wWords
 rw [if_neg (by omega)]
 exact k1
def pNodes (ts : List TT) : Option (List Nd) :=
 match pType 2000 0 none ts [] with
 | some (_, [(3, [])], N) => some N
 | _ => none
def pRead (l : List UInt8) : Option (List Nd) :=
 match wWords l with
 | .ok toks => pNodes (toks.map Tok.tt)
 | .error _ => none
def Fl.tup (x : Fl) : List UInt8 × Nat × Bool := (x.name, x.ty, x.has)
theorem map_inj {α β : Type} {g : α → β} (h : ∀ a b, g a = g b → a = b) : ∀ (l m : List α), l.map g = m.map g → l = m
 | [], [], _ => rfl
 | [], _ :: _, e => by cases e
 | _ :: _, [], e => by cases e
 | a :: l, b :: m, e => by
  rw [List.map_cons, List.map_cons, List.cons.injEq] at e
  rw [h a b e.1, map_inj h l m e.2]
theorem Fl.tup_inj (a b : Fl) (h : a.tup = b.tup) : a = b := by
 cases a; cases b
 simp only [Fl.tup, Prod.mk.injEq] at h
 obtain ⟨rfl, rfl, rfl⟩ := h
 rfl
def ndEq (x y : Nd) : Bool := x.k == y.k && (x.name == y.name && (x.size == y.size && (x.syms == y.syms && (x.items == y.items && x.fields.map Fl.tup == y.fields.map Fl.tup))))
theorem ndEq_iff {x y : Nd} : ndEq x y = true ↔ x = y := by
 cases x; cases y
 simp only [ndEq, Bool.and_eq_true, beq_iff_eq, Nd.mk.injEq]
 constructor
 ·rintro ⟨rfl, rfl, rfl, rfl, rfl, h⟩
  exact ⟨rfl, rfl, rfl, rfl, rfl, map_inj Fl.tup_inj _ _ h⟩
 ·rintro ⟨rfl, rfl, rfl, rfl, rfl, rfl⟩
  exact ⟨rfl, rfl, rfl, rfl, rfl, rfl⟩
def ndSame : List Nd → List Nd → Bool
 | [], [] => true
 | x :: M, y :: N => ndEq x y && ndSame M N
 | _, _ => false
theorem ndSame_iff : ∀ {M N : List Nd}, ndSame M N = true ↔ M = N
 | [], [] => by simp [ndSame]
 | [], _ :: _ => by simp [ndSame]
 | _ :: _, [] => by simp [ndSame]
 | x :: M, y :: N => by rw [ndSame, Bool.and_eq_true, ndEq_iff, ndSame_iff, List.cons.injEq]
def pShow (M : List Nd) : Option (List UInt8) :=
 match wTok M 2000 0 0 with
 | some (out, _) => match pRead (rText out) with
  | some N => if ndSame N M then some (rText out) else none
  | none => none
 | none => none
theorem Fit.self (M : List Nd) : Fit M [] M := ⟨fun _ _ _ => rfl, fun i h => absurd h (Nat.not_lt_zero i)⟩
theorem pNodes_some {ts : List TT} {M : List Nd} (h : pNodes ts = some M) : ∃ out, ts = out ++ [(3, [])] ∧ wTok M 2000 0 0 = some (out, M.length) := by
 unfold pNodes at h
 split at h
 ·rename_i n N hp
  simp only [Option.some.injEq] at h
  subst h
  obtain ⟨_, out, h1, _, h2⟩ := pType_ok 2000 0 none ts [] n [(3, [])] N hp
  have h3 := h2 N (Fit.self N)
  -- the whole is node 0
  have hn : n = 0 := by
   rw [wTok] at h3
   simp only [List.length_nil] at h3
   split at h3
   ·cases h3
   ·rw [if_neg (Nat.not_lt_zero n)] at h3
    exact Decidable.byContradiction fun e => by rw [if_pos e] at h3; cases h3
  subst hn
  exact ⟨out, h1, h3⟩
 ·cases h
theorem pRead_show {l : List UInt8} {M : List Nd} (h : pRead l = some M) : ∃ s, pShow M = some s ∧ pRead s = some M ∧ s.length ≤ l.length := by
 unfold pRead at h
 split at h
 ·rename_i toks hw
  obtain ⟨ts, g1, g2, g3, toks', g4, g5⟩ := wWords_text hw
  obtain ⟨out, k1, k2⟩ := pNodes_some h
  have e : ts = out := by
   rw [g1] at k1
   exact List.append_cancel_right k1
  subst e
  have hr : pRead (rText ts) = some M := by
   unfold pRead
   rw [g4]
   simp only
   rw [g5, ← g1]
   exact h
  refine ⟨rText ts, ?_, hr, g3⟩
  unfold pShow
  rw [k2]
  simp only
  rw [hr]
  simp only
  rw [if_pos (ndSame_iff.2 rfl)]
 ·cases h
theorem pShow_read {M : List Nd} {s : List UInt8} (h : pShow M = some s) : pRead s = some M := by
 unfold pShow at h
 split at h
 ·rename_i out nx hw
  split at h
  ·rename_i N hr
   split at h
   ·rename_i hs
    simp only [Option.some.injEq] at h
    rw [← h, hr, ndSame_iff.1 hs]
   ·cases h
  ·cases h
 ·cases h
theorem pRead_long {l : List UInt8} {M : List Nd} (h : pRead l = some M) : l.length ≤ 4096 := by
 unfold pRead at h
 split at h
 ·rename_i toks hw
  unfold wWords at hw
  split at hw
  ·cases hw
  ·omega
 ·cases h
def isKw (s : List UInt8) : Bool := s == kwText 9 || s == kwText 10 || s == kwText 11
def lt1 (t : TT) : List UInt8 := (if t.1 = 1 then [32] else []) ++ (t.2 ++ (if t.1 = 0 ∧ isKw t.2 = true then [32] else []))
def lText : List TT → List UInt8
 | [] => []
 | t :: r => lt1 t ++ lText r
theorem lText_app : ∀ (a b : List TT), lText (a ++ b) = lText a ++ lText b
 | [], _ => rfl
 | t :: a, b => by rw [List.cons_append, lText, lText, lText_app a b, List.append_assoc]
def rIn : List TT → List TT → List UInt8
 | [], _ => []
 | t :: o, r => t.2 ++ (sep (need t (o ++ r)) ++ rIn o r)
theorem rText_app : ∀ (o r : List TT), rText (o ++ r) = rIn o r ++ rText r
 | [], _ => rfl
 | t :: o, r => by
  rw [List.cons_append, rText, rText_app o r, rIn]
  simp only [List.append_assoc]
theorem rIn_app : ∀ (a b r : List TT), rIn (a ++ b) r = rIn a (b ++ r) ++ rIn b r
 | [], _, _ => rfl
 | t :: a, b, r => by
  rw [List.cons_append, rIn, rIn, rIn_app a b r]
  simp only [List.append_assoc]
def Stop (r : List TT) : Prop := ∀ u r', r = u :: r' → 2 ≤ u.1
theorem Stop.two {s : List UInt8} {r : List TT} : Stop ((2, s) :: r) := fun u r' e => by
 rw [List.cons.injEq] at e
 rw [← e.1]
 exact Nat.le_refl 2
theorem Stop.need {t : TT} {r : List TT} (h : Stop r) : need t r = false := by
 cases r with
 | nil => rfl
 | cons u r =>
  have := h u r rfl
  simp only [Go.Proofs.YtgigiecdpjchkaaGreatDoor.need, decide_eq_false_iff_not]
  omega
theorem need_two {s : List UInt8} {r : List TT} : need (2, s) r = false := by
 cases r with
 | nil => rfl
 | cons u r => simp [need]
theorem lt1_two {s : List UInt8} : lt1 (2, s) = s := by simp [lt1]
theorem lt1_plain {s : List UInt8} (h : isKw s = false) : lt1 (0, s) = s := by simp [lt1, h]
theorem lt1_kw {s : List UInt8} (h : isKw s = true) : lt1 (0, s) = s ++ [32] := by simp [lt1, h]
theorem lt1_num {s : List UInt8} : lt1 (1, s) = 32 :: s := by simp [lt1]
theorem kw_not {k : Nat} (h : k < 6) : isKw (kwText k) = false := by
 have : k = 0 ∨ k = 1 ∨ k = 2 ∨ k = 3 ∨ k = 4 ∨ k = 5 := by omega
 rcases this with rfl | rfl | rfl | rfl | rfl | rfl <;> decide
theorem kw_is {k : Nat} (h : 9 ≤ k) (h2 : k < 12) : isKw (kwText k) = true := by
 have : k = 9 ∨ k = 10 ∨ k = 11 := by omega
 rcases this with rfl | rfl | rfl <;> decide
theorem pNm_kw {t : TT} (h : pNm t = true) : isKw t.2 = false := by
 unfold pNm at h
 rw [Bool.and_eq_true] at h
 cases hk : isKw t.2 with
 | false => rfl
 | true =>
  exfalso
  have : (pWord t.2).isNone = false := by
   unfold isKw at hk
   rw [Bool.or_eq_true, Bool.or_eq_true, beq_iff_eq, beq_iff_eq, beq_iff_eq] at hk
   rcases hk with (e | e) | e <;> rw [e] <;> decide
  rw [this] at h
  cases h.2
def Nice (o r : List TT) : Prop := rIn o r = lText o
theorem Nice.cons {t : TT} {o r : List TT} (h1 : t.2 ++ sep (need t (o ++ r)) = lt1 t) (h2 : Nice o r) : Nice (t :: o) r := by
 unfold Nice at h2 ⊢
 rw [rIn, lText, h2, ← List.append_assoc, h1]
theorem Nice.app {a b r : List TT} (h1 : Nice a (b ++ r)) (h2 : Nice b r) : Nice (a ++ b) r := by
 unfold Nice at h1 h2 ⊢
 rw [rIn_app, lText_app, h1, h2]
theorem Nice.two {s : List UInt8} {o r : List TT} (h : Nice o r) : Nice ((2, s) :: o) r := Nice.cons (by rw [need_two, lt1_two]; simp [sep]) h
theorem Nice.plain {s : List UInt8} {o r : List TT} (hk : isKw s = false) (hs : Stop (o ++ r)) (h : Nice o r) : Nice ((0, s) :: o) r := Nice.cons (by rw [hs.need, lt1_plain hk]; simp [sep]) h
theorem Nice.nil {r : List TT} : Nice [] r := rfl
def RdNice (rec : List TT → List Nd → Option (Nat × List TT × List Nd)) : Prop :=
 ∀ ts N n r N', rec ts N = some (n, r, N') → Stop r → ∃ out, ts = out ++ r ∧ Nice out r
theorem pOne_nice {rec : List TT → List Nd → Option (Nat × List TT × List Nd)} (hr : RdNice rec) {shut : List UInt8} {ts : List TT} {N : List Nd} {m n : Nat} {r : List TT} {N' : List Nd} (h : pOne rec shut ts N m = some (n, r, N')) :
  ∃ out, ts = out ++ r ∧ Nice out r := by
 unfold pOne at h
 split at h
 ·rename_i x k0 s r2 N1 hx
  split at h
  ·rename_i hks
   obtain ⟨rfl, rfl⟩ := hks
   simp only [Option.some.injEq, Prod.mk.injEq] at h
   obtain ⟨rfl, rfl, rfl⟩ := h
   obtain ⟨out, rfl, h1⟩ := hr _ _ x _ N1 hx Stop.two
   exact ⟨out ++ [(2, s)], by simp, Nice.app h1 (Nice.two Nice.nil)⟩
  ·cases h
 ·cases h
theorem pAllW_nice {rec : List Nat → List TT → List Nd → Option (Nat × List TT × List Nd)} (hr : ∀ its, RdNice (rec its)) : ∀ (g : Nat) (its : List Nat) (ts : List TT) (N : List Nd) (its' : List Nat) (r : List TT) (N' : List Nd),
  pAllW rec g its ts N = some (its', r, N') → ∃ out, ts = out ++ r ∧ Nice out r
 | 0, _, _, _, _, _, _, h => by simp [pAllW] at h
 | g + 1, its, ts, N, its', r, N', h => by
  unfold pAllW at h
  split at h
  ·rename_i x k0 s r2 N1 hx
   split at h
   ·rename_i hks
    obtain ⟨rfl, rfl⟩ := hks
    simp only [Option.some.injEq, Prod.mk.injEq] at h
    obtain ⟨rfl, rfl, rfl⟩ := h
    obtain ⟨out, rfl, h1⟩ := hr _ _ _ x _ N1 hx Stop.two
    exact ⟨out ++ [(2, [41])], by simp, Nice.app h1 (Nice.two Nice.nil)⟩
   ·split at h
    ·rename_i _ hks
     obtain ⟨rfl, rfl⟩ := hks
     obtain ⟨out, rfl, h1⟩ := hr _ _ _ x _ N1 hx Stop.two
     obtain ⟨out2, rfl, h2⟩ := pAllW_nice hr g _ _ _ _ _ _ h
     exact ⟨out ++ (2, [124]) :: out2, by simp, Nice.app h1 (Nice.two h2)⟩
    ·cases h
  ·cases h
theorem pSyms_nice : ∀ (g : Nat) (ys : List (List UInt8)) (ts : List TT) (ys' : List (List UInt8)) (r : List TT), pSyms g ys ts = some (ys', r) → ∃ out, ts = out ++ r ∧ Nice out r
 | 0, _, _, _, _, h => by simp [pSyms] at h
 | g + 1, ys, [], ys', r, h => by simp [pSyms] at h
 | g + 1, ys, [t], ys', r, h => by simp [pSyms] at h
 | g + 1, ys, t :: (k, s) :: r0, ys', r, h => by
  unfold pSyms at h
  split at h
  ·rename_i hn
   rw [Bool.and_eq_true] at hn
   have ht := pNm_form hn.1
   have hk := pNm_kw hn.1
   split at h
   ·rename_i hks
    obtain ⟨rfl, rfl⟩ := hks
    simp only [Option.some.injEq, Prod.mk.injEq] at h
    obtain ⟨rfl, rfl⟩ := h
    refine ⟨[t, (2, [62])], by simp, ?_⟩
    rw [ht]
    exact Nice.plain hk Stop.two (Nice.two Nice.nil)
   ·split at h
    ·rename_i _ hks
     obtain ⟨rfl, rfl⟩ := hks
     obtain ⟨out, rfl, h1⟩ := pSyms_nice g _ _ _ _ h
     refine ⟨t :: (2, [44]) :: out, by simp, ?_⟩
     rw [ht]
     exact Nice.plain hk Stop.two (Nice.two h1)
    ·cases h
  ·cases h
theorem pFields_nice {rec : List TT → List Nd → Option (Nat × List TT × List Nd)} (hr : RdNice rec) : ∀ (g : Nat) (fs : List Fl) (ts : List TT) (N : List Nd) (fs' : List Fl) (r : List TT) (N' : List Nd),
  pFields rec g fs ts N = some (fs', r, N') → ∃ out, ts = out ++ r ∧ Nice out r
 | 0, _, _, _, _, _, _, h => by simp [pFields] at h
 | g + 1, fs, [], N, fs', r, N', h => by simp [pFields] at h
 | g + 1, fs, t :: r0, N, fs', r, N', h => by
  unfold pFields at h
  split at h
  ·rename_i ht
   simp only [Option.some.injEq, Prod.mk.injEq] at h
   obtain ⟨rfl, rfl, rfl⟩ := h
   refine ⟨[t], rfl, ?_⟩
   have : t = (2, [125]) := by rw [← ht.1, ← ht.2]
   rw [this]
   exact Nice.two Nice.nil
  ·split at h
   ·rename_i hn
    rw [Bool.and_eq_true] at hn
    have ht := pNm_form hn.1
    have hk := pNm_kw hn.1
    split at h
    ·cases h
    ·rename_i hb r1 hh
     split at h
     ·rename_i x k s r2 N1 hx
      split at h
      ·rename_i hks
       obtain ⟨rfl, rfl⟩ := hks
       obtain ⟨out, rfl, h1⟩ := hr _ _ x _ N1 hx Stop.two
       obtain ⟨out2, rfl, h2⟩ := pFields_nice hr g _ _ _ _ _ _ h
       have hrest : Nice (out ++ (2, [59]) :: out2) r := Nice.app h1 (Nice.two h2)
       unfold pHas at hh
       split at hh
       ·split at hh
        ·rename_i hks
         obtain ⟨rfl, rfl⟩ := hks
         simp only [Option.some.injEq, Prod.mk.injEq] at hh
         obtain ⟨rfl, rfl⟩ := hh
         refine ⟨t :: (2, [58]) :: (out ++ (2, [59]) :: out2), by simp, ?_⟩
         rw [ht]
         exact Nice.plain hk Stop.two (Nice.two hrest)
        ·split at hh
         ·rename_i hks
          obtain ⟨rfl, rfl⟩ := hks
          split at hh
          ·split at hh
           ·rename_i hks
            obtain ⟨rfl, rfl⟩ := hks
            simp only [Option.some.injEq, Prod.mk.injEq] at hh
            obtain ⟨rfl, rfl⟩ := hh
            refine ⟨t :: (2, [63]) :: (2, [58]) :: (out ++ (2, [59]) :: out2), by simp, ?_⟩
            rw [ht]
            exact Nice.plain hk Stop.two (Nice.two (Nice.two hrest))
           ·cases hh
          ·cases hh
         ·cases hh
       ·cases hh
      ·cases h
     ·cases h
   ·cases h
theorem pType_nice : ∀ (f deep : Nat) (un : Option (List Nat)), RdNice (pType f deep un)
 | 0, _, _ => fun ts N n r N' h => by rw [pType] at h; cases h
 | f + 1, deep, un => fun ts N n r N' h hstop => by
  cases ts with
  | nil => rw [pType_nil] at h; cases h
  | cons t r0 =>
   rw [pType_cons] at h
   unfold pStep at h
   replace h := (ite_none h).2
   cases hk : pKind t with
   | none =>
    rw [hk] at h
    simp only at h
    split at h
    ·rename_i hnm
     cases hc : pCalled N t.2 with
     | none => rw [hc] at h; cases h
     | some n0 =>
      rw [hc] at h
      simp only at h
      split at h
      ·cases h
      ·simp only [Option.some.injEq, Prod.mk.injEq] at h
       obtain ⟨rfl, rfl, rfl⟩ := h
       refine ⟨[t], rfl, ?_⟩
       rw [pNm_form hnm]
       exact Nice.plain (pNm_kw hnm) hstop Nice.nil
    ·cases h
   | some k =>
    rw [hk] at h
    simp only at h
    obtain ⟨hk12, hform⟩ := pKind_some hk
    replace h := (ite_none h).2
    replace h := (ite_none h).2
    have hh := ite_two h
    clear h
    rcases hh with ⟨hk6, h⟩ | ⟨hk6, h⟩
    ·simp only [Option.some.injEq, Prod.mk.injEq] at h
     obtain ⟨rfl, rfl, rfl⟩ := h
     refine ⟨[t], rfl, ?_⟩
     rcases hform with ⟨_, rfl⟩ | ⟨h6, _⟩
     ·exact Nice.plain (kw_not hk6) hstop Nice.nil
     ·omega
    have hr0 := pType_nice f (deep + 1) none
    have hh := ite_two h
    clear h
    rcases hh with ⟨e6, h⟩ | ⟨e6, h⟩
    ·subst e6
     obtain ⟨out, rfl, g2⟩ := pOne_nice hr0 h
     refine ⟨t :: out, rfl, ?_⟩
     rcases hform with ⟨h6, _⟩ | ⟨_, rfl⟩
     ·omega
     ·exact Nice.two g2
    have hh := ite_two h
    clear h
    rcases hh with ⟨e7, h⟩ | ⟨e7, h⟩
    ·subst e7
     obtain ⟨out, rfl, g2⟩ := pOne_nice hr0 h
     refine ⟨t :: out, rfl, ?_⟩
     rcases hform with ⟨h6, _⟩ | ⟨_, rfl⟩
     ·omega
     ·exact Nice.two g2
    have hh := ite_two h
    clear h
    rcases hh with ⟨e8, h⟩ | ⟨e8, h⟩
    ·subst e8
     split at h
     ·rename_i its r1 N1 ha
      simp only [Option.some.injEq, Prod.mk.injEq] at h
      obtain ⟨rfl, rfl, rfl⟩ := h
      obtain ⟨out, rfl, g2⟩ := pAllW_nice (fun its => pType_nice f (deep + 1) (some its)) f [] r0 _ _ r1 N1 ha
      refine ⟨t :: out, rfl, ?_⟩
      rcases hform with ⟨h6, _⟩ | ⟨_, rfl⟩
      ·omega
      ·exact Nice.two g2
     ·cases h
    have h9 : 9 ≤ k := by omega
    have hkw := kw_is h9 hk12
    have ht : t = (0, kwText k) := by
     rcases hform with ⟨_, ht⟩ | ⟨h6, _⟩
     ·exact ht
     ·omega
    cases r0 with
    | nil => simp at h
    | cons a r1 =>
     simp only at h
     split at h
     ·rename_i hna
      rw [Bool.and_eq_true] at hna
      have ha := pNm_form hna.1
      have hak := pNm_kw hna.1
      -- the word and the name
      have front : ∀ {o r : List TT}, Nice (a :: o) r → Nice (t :: a :: o) r := fun {o r} hn => by
       rw [ht]
       refine Nice.cons ?_ hn
       rw [lt1_kw hkw]
       congr 1
       rw [List.cons_append, ha]
       simp [need, sep]
      have name : ∀ {o r : List TT}, Stop (o ++ r) → Nice o r → Nice (a :: o) r := fun {o r} hs hn => by
       rw [ha]
       exact Nice.plain hak hs hn
      cases r1 with
      | nil => simp at h
      | cons b r2 =>
       simp only at h
       split at h
       ·rename_i e10
        subst e10
        split at h
        ·rename_i hb
         simp only [Option.some.injEq, Prod.mk.injEq] at h
         obtain ⟨rfl, rfl, rfl⟩ := h
         have eb : b = (1, b.2) := by rw [← hb.1]
         refine ⟨[t, a, b], by simp, front ?_⟩
         have hb1 : rIn [b] r2 = b.2 := by
          rw [rIn, List.nil_append, hstop.need, rIn]; simp [sep]
         have han : need a ([b] ++ r2) = true := by
          rw [List.singleton_append, ha]
          simp [need, hb.1]
         unfold Nice
         rw [rIn, hb1, han, lText, lText, lText, eb, lt1_num, ha, lt1_plain hak]
         simp [sep]
        ·cases h
       ·split at h
        ·rename_i _ e9
         subst e9
         split at h
         ·rename_i hb
          split at h
          ·rename_i ys r3 hs
           simp only [Option.some.injEq, Prod.mk.injEq] at h
           obtain ⟨rfl, rfl, rfl⟩ := h
           obtain ⟨out, rfl, hn⟩ := pSyms_nice f [] r2 ys r3 hs
           have eb : b = (2, [60]) := by rw [← hb.1, ← hb.2]
           refine ⟨t :: a :: b :: out, rfl, front ?_⟩
           rw [eb]
           exact name Stop.two (Nice.two hn)
          ·cases h
         ·cases h
        ·rename_i e10 e9
         split at h
         ·rename_i hb
          split at h
          ·rename_i fs r3 N1 hf
           simp only [Option.some.injEq, Prod.mk.injEq] at h
           obtain ⟨rfl, rfl, rfl⟩ := h
           obtain ⟨out, rfl, g2⟩ := pFields_nice hr0 f [] r2 _ fs r3 N1 hf
           have eb : b = (2, [123]) := by rw [← hb.1, ← hb.2]
           refine ⟨t :: a :: b :: out, rfl, front ?_⟩
           rw [eb]
           exact name Stop.two (Nice.two g2)
          ·cases h
         ·cases h
     ·cases h
theorem need_end {t : TT} {o : List TT} : need t (o ++ [(3, [])]) = need t o := by
 cases o with
 | nil => simp [need]
 | cons u o => rfl
theorem rText_end : ∀ (o : List TT), rText (o ++ [(3, [])]) = rText o
 | [] => rfl
 | t :: o => by rw [List.cons_append, rText, rText, rText_end o, need_end]
theorem rText_nice {o : List TT} (h : Nice o [(3, [])]) : rText o = lText o := by
 have h1 := rText_app o [(3, [])]
 rw [rText_end, h] at h1
 rw [h1]; simp [rText, need, sep]
theorem pNodes_nice {ts : List TT} {M : List Nd} (h : pNodes ts = some M) : ∃ out, ts = out ++ [(3, [])] ∧ wTok M 2000 0 0 = some (out, M.length) ∧ rText out = lText out := by
 obtain ⟨out, h1, h2⟩ := pNodes_some h
 refine ⟨out, h1, h2, ?_⟩
 unfold pNodes at h
 split at h
 ·rename_i n N hp
  obtain ⟨out2, e, hn⟩ := pType_nice 2000 0 none ts [] n [(3, [])] N hp (fun u r' e => by
   rw [List.cons.injEq] at e
   rw [← e.1]
   show 2 ≤ 3
   omega)
  rw [h1] at e
  have : out = out2 := List.append_cancel_right e
  subst this
  exact rText_nice hn
 ·cases h
theorem pShow_text {M : List Nd} {s : List UInt8} (h : pShow M = some s) : ∃ out, wTok M 2000 0 0 = some (out, M.length) ∧ s = lText out := by
 have hr := pShow_read h
 unfold pShow at h
 split at h
 ·rename_i out nx hw
  split at h
  ·rename_i N hr2
   split at h
   ·simp only [Option.some.injEq] at h
    -- the tokens of its text are the tokens that it is written as
    have hr3 := hr
    unfold pRead at hr3
    split at hr3
    ·rename_i toks hws
     obtain ⟨out2, g1, g2, g3⟩ := pNodes_nice hr3
     rw [hw] at g2
     simp only [Option.some.injEq, Prod.mk.injEq] at g2
     obtain ⟨rfl, rfl⟩ := g2
     exact ⟨out, hw, by rw [← h, g3]⟩
    ·cases hr3
   ·cases h
  ·cases h
 ·cases h
theorem pRead_text {l : List UInt8} {M : List Nd} (h : pRead l = some M) : ∃ out, wTok M 2000 0 0 = some (out, M.length) ∧ pShow M = some (lText out) ∧ pRead (lText out) = some M ∧ (lText out).length ≤ l.length := by
 obtain ⟨s, h1, h2, h3⟩ := pRead_show h
 obtain ⟨out, g1, rfl⟩ := pShow_text h1
 exact ⟨out, g1, h1, h2, h3⟩
abbrev Rdr := List TT → List Nd → Option (Nat × List TT × List Nd)
def RdLess (rec : Rdr) : Prop := ∀ ts N n r N', rec ts N = some (n, r, N') → r.length < ts.length
theorem RdOk.less {rec : Rdr} {f : Nat} (h : RdOk rec f) : RdLess rec := fun ts N n r N' e => by
 obtain ⟨_, out, rfl, hne, _⟩ := h ts N n r N' e
 have : out.length ≠ 0 := fun e => hne (List.eq_nil_of_length_eq_zero e)
 rw [List.length_append]
 omega
abbrev Wtr := Nat → Nat → Option (List TT × Nat)
def WtMono (rec : Wtr) : Prop := ∀ n nx o nx', rec n nx = some (o, nx') → nx ≤ nx'
theorem wItems_mono {rec : Wtr} (h : WtMono rec) : ∀ (l : List Nat) (nx : Nat) (o : List TT) (nx' : Nat), wItems rec l nx = some (o, nx') → nx ≤ nx'
 | [], nx, o, nx', e => by
  simp only [wItems, Option.some.injEq, Prod.mk.injEq] at e
  omega
 | y :: ys, nx, o, nx', e => by
  rw [wItems] at e
  cases hx : rec y nx with
  | none => rw [hx] at e; cases e
  | some p =>
   obtain ⟨o1, nx1⟩ := p
   have h1 := h y nx o1 nx1 hx
   rw [hx] at e
   simp only at e
   split at e
   ·simp only [Option.some.injEq, Prod.mk.injEq] at e
    omega
   ·cases hy : wItems rec ys nx1 with
    | none => rw [hy] at e; cases e
    | some p =>
     obtain ⟨o2, nx2⟩ := p
     have h2 := wItems_mono h ys nx1 o2 nx2 hy
     rw [hy] at e
     simp only [Option.some.injEq, Prod.mk.injEq] at e
     omega
theorem wFields_mono {rec : Wtr} (h : WtMono rec) : ∀ (l : List Fl) (nx : Nat) (o : List TT) (nx' : Nat), wFields rec l nx = some (o, nx') → nx ≤ nx'
 | [], nx, o, nx', e => by
  simp only [wFields, Option.some.injEq, Prod.mk.injEq] at e
  omega
 | y :: ys, nx, o, nx', e => by
  rw [wFields] at e
  cases hx : rec y.ty nx with
  | none => rw [hx] at e; cases e
  | some p =>
   obtain ⟨o1, nx1⟩ := p
   have h1 := h y.ty nx o1 nx1 hx
   rw [hx] at e
   simp only at e
   cases hy : wFields rec ys nx1 with
   | none => rw [hy] at e; cases e
   | some p =>
    obtain ⟨o2, nx2⟩ := p
    have h2 := wFields_mono h ys nx1 o2 nx2 hy
    rw [hy] at e
    simp only [Option.some.injEq, Prod.mk.injEq] at e
    omega
theorem map_snd {a : Option (List TT × Nat)} {g : List TT × Nat → List TT} {o : List TT} {nx : Nat} (h : a.map (fun p => (g p, p.2)) = some (o, nx)) : ∃ o', a = some (o', nx) := by
 cases a with
 | none => cases h
 | some p =>
  simp only [Option.map_some, Option.some.injEq, Prod.mk.injEq] at h
  exact ⟨p.1, by rw [← h.2]⟩
theorem wTok_mono (M : List Nd) : ∀ f, WtMono (wTok M f)
 | 0 => fun n nx o nx' h => by rw [wTok] at h; cases h
 | f + 1 => fun n nx o nx' h => by
  have hr := wTok_mono M f
  rw [wTok] at h
  cases hM : M[n]? with
  | none => rw [hM] at h; cases h
  | some x =>
   rw [hM] at h
   simp only at h
   have hh := ite_two h
   clear h
   rcases hh with ⟨_, h⟩ | ⟨_, h⟩
   ·split at h
    ·simp only [Option.some.injEq, Prod.mk.injEq] at h; omega
    ·cases h
   replace h := (ite_none h).2
   have hh := ite_two h
   clear h
   rcases hh with ⟨_, h⟩ | ⟨_, h⟩
   ·simp only [Option.some.injEq, Prod.mk.injEq] at h; omega
   have hh := ite_two h
   clear h
   rcases hh with ⟨_, h⟩ | ⟨_, h⟩
   ·obtain ⟨o', e⟩ := map_snd (g := fun p => (2, [91]) :: (p.1 ++ [(2, [93])])) h
    have := wItems_mono hr _ _ _ _ e
    omega
   have hh := ite_two h
   clear h
   rcases hh with ⟨_, h⟩ | ⟨_, h⟩
   ·obtain ⟨o', e⟩ := map_snd (g := fun p => (2, [123]) :: (p.1 ++ [(2, [125])])) h
    have := wItems_mono hr _ _ _ _ e
    omega
   have hh := ite_two h
   clear h
   rcases hh with ⟨_, h⟩ | ⟨_, h⟩
   ·obtain ⟨o', e⟩ := map_snd (g := fun p => (2, [40]) :: (p.1 ++ [(2, [41])])) h
    have := wItems_mono hr _ _ _ _ e
    omega
   have hh := ite_two h
   clear h
   rcases hh with ⟨_, h⟩ | ⟨_, h⟩
   ·simp only [Option.some.injEq, Prod.mk.injEq] at h; omega
   have hh := ite_two h
   clear h
   rcases hh with ⟨_, h⟩ | ⟨_, h⟩
   ·simp only [Option.some.injEq, Prod.mk.injEq] at h; omega
   have hh := ite_two h
   clear h
   rcases hh with ⟨_, h⟩ | ⟨_, h⟩
   ·obtain ⟨o', e⟩ := map_snd (g := fun p => (0, kwText 11) :: (0, x.name) :: (2, [123]) :: (p.1 ++ [(2, [125])])) h
    have := wFields_mono hr _ _ _ _ e
    omega
   ·cases h
theorem wItems_fuel {rec rec' : Wtr} (hm : WtMono rec) : ∀ (l : List Nat) (nx : Nat), (∀ y nx', nx ≤ nx' → rec y nx' = rec' y nx') → wItems rec l nx = wItems rec' l nx
 | [], _, _ => rfl
 | y :: ys, nx, he => by
  rw [wItems, wItems, ← he y nx (Nat.le_refl _)]
  cases hx : rec y nx with
  | none => rfl
  | some p =>
   obtain ⟨o1, nx1⟩ := p
   have h1 := hm y nx o1 nx1 hx
   simp only
   rw [wItems_fuel hm ys nx1 (fun y nx' h => he y nx' (by omega))]
theorem wFields_fuel {rec rec' : Wtr} (hm : WtMono rec) : ∀ (l : List Fl) (nx : Nat), (∀ y nx', nx ≤ nx' → rec y nx' = rec' y nx') → wFields rec l nx = wFields rec' l nx
 | [], _, _ => rfl
 | y :: ys, nx, he => by
  rw [wFields, wFields, ← he y.ty nx (Nat.le_refl _)]
  cases hx : rec y.ty nx with
  | none => rfl
  | some p =>
   obtain ⟨o1, nx1⟩ := p
   have h1 := hm y.ty nx o1 nx1 hx
   simp only
   rw [wFields_fuel hm ys nx1 (fun y nx' h => he y nx' (by omega))]
theorem wTok_fuel (M : List Nd) : ∀ (f g n nx : Nat), M.length - nx < f → M.length - nx < g → wTok M f n nx = wTok M g n nx
 | 0, _, _, _, h, _ => absurd h (Nat.not_lt_zero _)
 | _ + 1, 0, _, _, _, h => absurd h (Nat.not_lt_zero _)
 | f + 1, g + 1, n, nx, h1, h2 => by
  rw [wTok, wTok]
  cases hM : M[n]? with
  | none => rfl
  | some x =>
   have hn : n < M.length := by
    rcases Nat.lt_or_ge n M.length with h | h
    ·exact h
    ·rw [List.getElem?_eq_none h] at hM; cases hM
   simp only
   by_cases hlt : n < nx
   ·rw [if_pos hlt, if_pos hlt]
   rw [if_neg hlt, if_neg hlt]
   by_cases hne : n ≠ nx
   ·rw [if_pos hne, if_pos hne]
   rw [if_neg hne, if_neg hne]
   have he : ∀ y nx', nx + 1 ≤ nx' → wTok M f y nx' = wTok M g y nx' := fun y nx' h => wTok_fuel M f g y nx' (by omega) (by omega)
   rw [wItems_fuel (wTok_mono M f) x.items (nx + 1) he, wFields_fuel (wTok_mono M f) x.fields (nx + 1) he]
end Go.Proofs.YtgigiecdpjchkaaGreatDoor
