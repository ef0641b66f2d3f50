import Derived.Test.YtgigiecdpjchkaaGreatDoorR4
import Derived.Test.YtgigiecdpjchkaaGreatDoorR1
import Derived.Test.YtgigiecdpjchkaaGreatDoorR6
set_option linter.unusedSimpArgs false
set_option linter.unusedVariables false
set_option linter.unusedSectionVars false
set_option maxRecDepth 100000
set_option maxHeartbeats 6400000
namespace Go.Proofs.YtgigiecdpjchkaaGreatDoor
theorem tk_eq {T : List Tok} (h : TOk T) {i : Nat} (hi : i < T.length) {c : UInt8} (hc : wSign c = true) : ((tokAt T i).k = 2 ∧ (tokAt T i).s = [c]) ↔ (tokAt T i).s = [c] := ⟨fun e => e.2, fun e => ⟨tk_sign h hi hc e, e⟩⟩
def eBody (rec : Option (List Nat) → ERd) (f k : Nat) (r : List Tok) (N : List Nd) : EO :=
 if k < 6 then .ok (N.length, r, N ++ [Nd.of k])
 else if k = 6 then eOne (rec none) [93] r (N ++ [Nd.of 6]) N.length
 else if k = 7 then eOne (rec none) [125] r (N ++ [Nd.of 7]) N.length
 else if k = 8 then
  match eAllW (fun its => rec (some its)) f [] r (N ++ [Nd.of 8]) with
  | .ok (its, r1, N1) => .ok (N.length, r1, N1.modify N.length (fun y => { y with items := its }))
  | .error e => .error e
 else eNamed (rec none) f k r N
theorem eStep_word {rec : Option (List Nat) → ERd} {f deep : Nat} {un : Option (List Nat)} {t : Tok} {r : List Tok} {N : List Nd} {k : Nat} (hk : pKind t.tt = some k) : eStep rec f deep un t r N =
  if 20 ≤ deep ∨ 200 ≤ N.length then .error (t.at_, 2) else if un.isSome ∧ k = 8 then .error (t.at_, 4) else if eSame un N k then .error (t.at_, 6) else eBody rec f k r N := by
 unfold eStep eBody
 rw [hk]
 rfl
theorem eStep_name {rec : Option (List Nat) → ERd} {f deep : Nat} {un : Option (List Nat)} {t : Tok} {r : List Tok} {N : List Nd} (hk : pKind t.tt = none) : eStep rec f deep un t r N =
  if pNm t.tt = false then .error (t.at_, 4) else if 20 ≤ deep then .error (t.at_, 2) else match pCalled N t.s with
   | none => .error (t.at_, 5)
   | some n => if (un.getD []).contains n then .error (t.at_, 6) else .ok (n, r, N) := by
 unfold eStep
 rw [hk]
 rfl
theorem eType_cons (F deep : Nat) (un : Option (List Nat)) (t : Tok) (r : List Tok) (N : List Nd) : eType (F + 1) deep un (t :: r) N = eStep (fun u => eType F (deep + 1) u) F deep un t r N := by rw [eType]
def eAllT (rec : List Nat → ERd) (g : Nat) (its : List Nat) (ts : List Tok) (N : List Nd) : Except PE (List Nat × List Tok × List Nd) :=
 match ts with
 | [] => .error (0, 0)
 | u :: r => if u.k = 2 ∧ u.s = [41] then .ok (its, r, N) else if u.k = 2 ∧ u.s = [124] then eAllW rec g its r N else .error (u.at_, 4)
theorem eAllW_step (rec : List Nat → ERd) (g : Nat) (its : List Nat) (ts : List Tok) (N : List Nd) : eAllW rec (g + 1) its ts N = match rec its ts N with
  | .error e => .error e
  | .ok (x, ts1, N1) => eAllT rec g (its ++ [x]) ts1 N1 := by
 rw [eAllW]
 cases rec its ts N with
 | error e => rfl
 | ok p =>
  obtain ⟨x, ts1, N1⟩ := p
  cases ts1 <;> rfl
def eSymT (g : Nat) (ys : List (List UInt8)) (ts : List Tok) : Except PE (List (List UInt8) × List Tok) :=
 match ts with
 | [] => .error (0, 0)
 | u :: r => if u.k = 2 ∧ u.s = [62] then .ok (ys, r) else if u.k = 2 ∧ u.s = [44] then eSyms g ys r else .error (u.at_, 4)
theorem eSyms_step (g : Nat) (ys : List (List UInt8)) (t : Tok) (r : List Tok) : eSyms (g + 1) ys (t :: r) = if pNm t.tt = false then .error (t.at_, 4) else if ys.contains t.s then .error (t.at_, 6) else eSymT g (ys ++ [t.s]) r := by
 rw [eSyms_cons]
 cases r <;> rfl
def eField (rec : ERd) (fs : List Fl) (t : Tok) (r : List Tok) (N : List Nd) : Except PE (Fl × List Tok × List Nd) :=
 if pNm t.tt = false then .error (t.at_, 4)
 else if fs.any (fun y => y.name == t.s) then .error (t.at_, 6)
 else match eHas r with
  | .error e => .error e
  | .ok (h, r1) =>
   match rec r1 N with
   | .error e => .error e
   | .ok (_, [], _) => .error (0, 0)
   | .ok (x, u :: r2, N1) => if u.k = 2 ∧ u.s = [59] then .ok (⟨t.s, x, h⟩, r2, N1) else .error (u.at_, 4)
theorem eFields_step (rec : ERd) (g : Nat) (fs : List Fl) (t : Tok) (r : List Tok) (N : List Nd) : eFields rec (g + 1) fs (t :: r) N = if t.k = 2 ∧ t.s = [125] then .ok (fs, r, N) else match eField rec fs t r N with
  | .error e => .error e
  | .ok (f, r2, N1) => eFields rec g (fs ++ [f]) r2 N1 := by
 rw [eFields]
 unfold eField
 by_cases h1 : t.k = 2 ∧ t.s = [125]
 ·rw [if_pos h1, if_pos h1]
 rw [if_neg h1, if_neg h1]
 by_cases h2 : pNm t.tt = false
 ·rw [if_pos h2, if_pos h2]
 rw [if_neg h2, if_neg h2]
 by_cases h3 : (fs.any fun y => y.name == t.s) = true
 ·rw [if_pos h3, if_pos h3]
 rw [if_neg h3, if_neg h3]
 cases eHas r with
 | error e => rfl
 | ok p =>
  obtain ⟨hh, r1⟩ := p
  simp only
  cases rec r1 N with
  | error e => rfl
  | ok q =>
   obtain ⟨x, ts, N1⟩ := q
   cases ts with
   | nil => rfl
   | cons u r2 =>
    simp only
    by_cases h4 : u.k = 2 ∧ u.s = [59]
    ·rw [if_pos h4, if_pos h4]
    ·rw [if_neg h4, if_neg h4]
def unOf (S : List Nd) (i : Int) : Option (List Nat) := if i < 0 then none else match S[i.toNat]? with
 | some x => if x.k = 8 then some x.items else none
 | none => none
theorem unOf_top (S : List Nd) : unOf S (-1) = none := rfl
theorem unOf_at {S : List Nd} {m : Nat} {x : Nd} (h : S[m]? = some x) : unOf S (m : Int) = if x.k = 8 then some x.items else none := by
 unfold unOf
 rw [if_neg (by omega), Int.toNat_natCast, h]
theorem NE.modify {S : List Nd} {m : Nat} {g : Nd → Nd} (hg : ∀ y, kn (g y) = kn y) : NE (S.modify m g) S := by
 show (S.modify m g).map kn = S.map kn
 apply List.ext_getElem?
 intro i
 rw [List.getElem?_map, List.getElem?_map, List.getElem?_modify]
 cases S[i]? with
 | none => rfl
 | some y =>
  by_cases h : m = i
  ·simp [h, hg]
  ·simp [h]
theorem modify_app {S new : List Nd} {m : Nat} {g : Nd → Nd} (hm : m < S.length) : (S ++ new).modify m g = S.modify m g ++ new := by
 apply List.ext_getElem?
 intro i
 rw [List.getElem?_modify]
 by_cases h : i < S.length
 ·rw [List.getElem?_append_left h, List.getElem?_append_left (by rw [List.length_modify]; exact h), List.getElem?_modify]
 ·rw [List.getElem?_append_right (by omega), List.getElem?_append_right (by rw [List.length_modify]; omega), List.length_modify]
  have hmi : ¬m = i := by omega
  cases new[i - S.length]? <;> simp [hmi]
theorem modify_two {S : List Nd} {m : Nat} {g g2 : Nd → Nd} : (S.modify m g).modify m g2 = S.modify m fun y => g2 (g y) := by
 apply List.ext_getElem?
 intro i
 rw [List.getElem?_modify, List.getElem?_modify, List.getElem?_modify]
 cases S[i]? with
 | none => rfl
 | some y => by_cases h : m = i <;> simp [h]
theorem modify_at {S : List Nd} {m : Nat} {x : Nd} {g : Nd → Nd} (h : S[m]? = some x) : (S.modify m g)[m]? = some (g x) := by
 rw [List.getElem?_modify, h]; simp
theorem modify_id {S : List Nd} {m : Nat} {x : Nd} {g : Nd → Nd} (h : S[m]? = some x) (hg : g x = x) : S.modify m g = S := by
 apply List.ext_getElem?
 intro i
 rw [List.getElem?_modify]
 by_cases hi : m = i
 ·subst hi; rw [h]; simp [hg]
 ·simp [hi]
theorem modify_eq {S : List Nd} {m : Nat} {x : Nd} {g g2 : Nd → Nd} (h : S[m]? = some x) (hg : g x = g2 x) : S.modify m g = S.modify m g2 := by
 apply List.ext_getElem?
 intro i
 rw [List.getElem?_modify, List.getElem?_modify]
 by_cases hi : m = i
 ·subst hi; rw [h]; simp [hg]
 ·simp [hi]
theorem type_lt {f deep : Nat} {un : Option (List Nat)} {ts r : List Tok} {N N' : List Nd} {n : Nat} (h : eType f deep un ts N = .ok (n, r, N')) : n < N'.length := by
 have he := eType_er f deep un ts N
 rw [h] at he
 obtain ⟨hp, out, _, _, hw⟩ := pType_ok f deep un _ _ _ _ _ he.symm
 have hf : Fit N' N N' := ⟨fun _ _ _ => rfl, fun i hi => pre_kn hp hi⟩
 have hw := hw N' hf
 cases f with
 | zero => rw [wTok] at hw; cases hw
 | succ f =>
  rw [wTok] at hw
  cases hn : N'[n]? with
  | none => rw [hn] at hw; cases hw
  | some x => exact (List.getElem?_eq_some_iff.1 hn).1
theorem body_fst {rec : Option (List Nat) → ERd} {f k : Nat} {r ts : List Tok} {N S' : List Nd} {n : Nat} (hk : k < 12) (h : eBody rec f k r N = .ok (n, ts, S')) : n = N.length := by
 unfold eBody at h
 split at h
 ·injection h with h; injection h with h; exact h.symm
 split at h
 ·unfold eOne at h
  split at h
  ·cases h
  ·cases h
  ·split at h
   ·injection h with h; injection h with h; exact h.symm
   ·cases h
 split at h
 ·unfold eOne at h
  split at h
  ·cases h
  ·cases h
  ·split at h
   ·injection h with h; injection h with h; exact h.symm
   ·cases h
 split at h
 ·split at h
  ·injection h with h; injection h with h; exact h.symm
  ·cases h
 unfold eNamed at h
 split at h
 ·cases h
 split at h
 ·cases h
 split at h
 ·cases h
 split at h
 ·cases h
 split at h
 ·split at h
  ·injection h with h; injection h with h; exact h.symm
  ·cases h
 split at h
 ·split at h
  ·split at h
   ·injection h with h; injection h with h; exact h.symm
   ·cases h
  ·cases h
 split at h
 ·split at h
  ·injection h with h; injection h with h; exact h.symm
  ·cases h
 ·cases h
open Go.RowKit
def TypPost (b : RB) (w : World) (a : Nat) (o : EO) (e : Ending) (w' : World) : Prop := match o with
 | .ok (n, ts, S') => ∃ a', ts = b.T.drop a' ∧ a < a' ∧ a' < b.T.length ∧ n < S'.length ∧ e = .returned (.int .i64 (n : Int)) ∧ RS w' b a' S' ∧ Fr b.base w w'
 | .error (p, er) => Gv b w p er e w'
def TypC (d : Nat) : Prop := ∀ (w : World) (b : RB) (a : Nat) (S : List Nd) (inn : Int) (F : Nat), RS w b a S → a < b.T.length → (inn = -1 ∨ ∃ m : Nat, inn = (m : Int) ∧ m < S.length) → b.T.length - a < F →
 Calls Tryz.prog 112 #[.pointer (some ⟨b.pB, 0, none⟩), .int .i64 inn, .int .i64 (d : Int)] w (TypPost b w a (eType F d (unOf S inn) (b.T.drop a) S))
def ItemPost (b : RB) (w : World) (a n : Nat) (o : EO) (e : Ending) (w' : World) : Prop := match o with
 | .ok (x, ts, S') => ∃ a', ts = b.T.drop a' ∧ a < a' ∧ a' < b.T.length ∧ e = .returned (.tuple #[]) ∧ RS w' b a' (S'.modify n fun y => { y with items := y.items ++ [x] }) ∧ Fr b.base w w'
 | .error (p, er) => Gv b w p er e w'
theorem item_any {d : Nat} (hd : d ≤ 20) (TC : TypC d) {w : World} {b : RB} {a : Nat} {S : List Nd} (h : RS w b a S) (ha : a < b.T.length) {n : Nat} {x : Nd} (hn : S[n]? = some x) {F : Nat} (hF : b.T.length - a < F) :
  Calls Tryz.prog 170 #[.pointer (some ⟨b.pB, 0, none⟩), .int .i64 (n : Int), .int .i64 (d : Int)] w (ItemPost b w a n (eType F d (unOf S (n : Int)) (b.T.drop a) S)) := by
 have hw := h.hw
 have hnl : n < S.length := (List.getElem?_eq_some_iff.1 hn).1
 have hsm := h.ok.small x (List.mem_of_getElem? hn)
 have hin := h.ok.inn x (List.mem_of_getElem? hn)
 have hnm := h.ok.names x (List.mem_of_getElem? hn)
 have hfew := h.few
 have key := TC w b a S (n : Int) F h ha (.inr ⟨n, rfl, hnl⟩) hF
 have hal := type_alike (deep := d) (un := unOf S (n : Int)) h.tok hd ha hF (NE.refl S)
 revert key hal
 generalize eType F d (unOf S (n : Int)) (b.T.drop a) S = o
 intro key hal
 cases o with
 | error p =>
  obtain ⟨p, er⟩ := p
  unfold TypPost at key
  go_enter Tryz.func170, Tryz.ntmps170
  go_wp2_with (go_at_call 112; refine key.mono ?_; rintro e w1 ⟨rfl, f1⟩; unfold giveV)
  exact ⟨rfl, show Gv b w p er _ _ from ⟨rfl, f1⟩⟩
 | ok p =>
  obtain ⟨i, ts, S'⟩ := p
  unfold TypPost at key
  obtain ⟨new, _, rfl, -⟩ := hal
  have hn' : (S ++ new)[n]? = some x := by rw [List.getElem?_append_left hnl]; exact hn
  have hnl' : n < (S ++ new).length := by rw [List.length_append]; omega
  obtain ⟨S', hS'⟩ : ∃ S', S' = S ++ new := ⟨_, rfl⟩
  rw [← hS'] at key hn' hnl' ⊢
  have hSS : S.length ≤ S'.length := by rw [hS', List.length_append]; omega
  clear hS' hn hnl
  go_enter Tryz.func170, Tryz.ntmps170
  go_wp2_with (go_at_call 112; refine key.mono ?_; rintro e w3 ⟨a', hts, haa, hal, hil, rfl, h3, f3⟩; have HTS := hid hts; clear hts)
  obtain ⟨R, g, nd3⟩ := h3.ndAt hn'
  have hN := nd3.hN
  have hrb := nd3.hrb
  have p2 := nd3.p2
  have n3 := nd3.n4
  have hgp := nd3.ne
  have hA := nd3.hA
  have hO := (hN.items n x hn').own (hN.aps.own _)
  have lp := hrb.lt
  have lg := World.block_lt_of_cell? w3 _ nd3.n0
  have q1 := nd3.q1 1
  have q2 := nd3.q2 1
  have hown := nd3.hN.own
  rw [nd3.hA] at hown
  have tA : Turn w3 (w3.alloc (.cells #[.int .i64 (i : Int)] 3)).drew none := ((Turn.refl w3 none).alloc _).drew
  have pA := (tA.cell (a := ⟨b.pB, 2, none⟩) lp (by simp)).trans p2
  have nA := (tA.cell (a := ⟨g, n * 6 + 4, none⟩) lg (by simp)).trans n3
  have hwA : b.base ≤ (w3.alloc (.cells #[.int .i64 (i : Int)] 3)).drew.heap.size := Nat.le_trans h3.hw tA.size
  have hsA : w3.heap.size ≤ (w3.alloc (.cells #[.int .i64 (i : Int)] 3)).drew.heap.size := tA.size
  refine wp_region_noPanic ?_
  refine wp_region_held_drew (S := (fun W => W.cell? ⟨b.pB, 2, none⟩ = some (.slice (some ⟨g, 0, none⟩) S'.length (R none).c))) (by kernel_rfl) (p2) (fun hHeld => ?_)
  (first | refine tkN 0 ?_ | refine tkY 0 _ ?_); (try simp only [Act.put, zs])
  (first | refine tkN 1 ?_ | refine tkY 1 _ ?_); (try simp only [Act.put, zs])
  (first | refine tkN 2 ?_ | refine tkY 2 _ ?_); (try simp only [Act.put, zs])
  (first | refine tkN 3 ?_ | refine tkY 3 _ ?_); (try simp only [Act.put, zs])
  (first | refine tkN 4 ?_ | refine tkY 4 _ ?_); (try simp only [Act.put, zs])
  (first | refine tkN 5 ?_ | refine tkY 5 _ ?_); (try simp only [Act.put, zs])
  (first | refine tkN 6 ?_ | refine tkY 6 _ ?_); (try simp only [Act.put, zs])
  (first | refine tkN 7 ?_ | refine tkY 7 _ ?_); (try simp only [Act.put, zs])
  (first | refine tkN 8 ?_ | refine tkY 8 _ ?_); (try simp only [Act.put, zs])
  (first | refine tkN 9 ?_ | refine tkY 9 _ ?_); (try simp only [Act.put, zs])
  (first | refine tkN 10 ?_ | refine tkY 10 _ ?_); (try simp only [Act.put, zs])
  (first | refine tkN 11 ?_ | refine tkY 11 _ ?_); (try simp only [Act.put, zs])
  (first | refine tkN 13 ?_ | refine tkY 13 _ ?_); (try simp only [Act.put, zs])
  refine wpAnyH_ready (rs := [12, 14]) (by kernel_rfl) (by simp) ?_; refine AllReadyH.cons rfl (fun K hK => ?_) (AllReadyH.cons rfl (fun K hK => ?_) AllReadyH.nil)
  ·go_simp
   refine hK.out _ _ p2 (fun hHeld => ?_); clear hK K; (try simp only [Act.put, zs])
   refine wpAnyH_ready (rs := [14]) (by kernel_rfl) (by simp) ?_; refine AllReadyH.cons rfl (fun K hK => ?_) AllReadyH.nil
   go_simp
   refine hK.out _ _ pA (fun hHeld => ?_); clear hK K; (try simp only [Act.put, zs])
   refine wpAnyH_ready (rs := [15]) (by kernel_rfl) (by simp) ?_; refine AllReadyH.cons rfl (fun K hK => ?_) AllReadyH.nil
   refine st_app (base := b.base) rfl _ _ _ rfl elI rfl rfl (hO.alloc _).drew (Rd.litS w3 _ 1 1 [.int .i64 (i : Int)] rfl).drew (by repeat (first | exact ones_nil | refine ones_cons rfl ?_)) (by unfold maxLen; first | omega | (simp; done) | (simp; omega)) (by first | omega | (simp; done) | (simp; omega)) hwA ?_
   intro A5 c5 w5 ho5 ht5 hb5
   have ht6 : Turn w3 w5 (blk (R (some (n, 1))).A) := (((Turn.refl w3 _).alloc _).drew).trans ht5
   have k1 := (ht6.cell (a := ⟨b.pB, 2, none⟩) lp q1).trans p2
   have k3 := (ht6.cell (a := ⟨g, n * 6 + 4, none⟩) lg q2).trans n3
   have fz5 := (hown.turn ht6 (.inr q2)).frozen (n * 6 + 4)
   refine hK.out _ _ k1 (fun hHeld => ?_); clear hK K; (try simp only [Act.put, zs])
   (first | refine tkN 16 ?_ | refine tkY 16 _ ?_); (try simp only [Act.put, zs])
   (first | refine tkN 17 ?_ | refine tkY 17 _ ?_); (try simp only [Act.put, zs])
   refine wpAnyH_ready (rs := [18]) (by kernel_rfl) (by simp) ?_; refine AllReadyH.cons rfl (fun K hK => ?_) AllReadyH.nil
   go_simp
   refine hK.out _ _ ((World.cell?_setCell_far _ _ _ _ hgp).trans k1) (fun hHeld => ?_); clear hK K; (try simp only [Act.put, zs])
   refine wpAnyH_done (by kernel_rfl) ?_ _
   refine NoPanic.normal ?_
   clear hHeld
   obtain ⟨h4, f4⟩ := h3.slot (w1 := w5) (gg := fun y => { y with items := y.items ++ [i] }) (r := ⟨3, 1, A5, x.items.length + 1, c5, vis (x.items.map Int.ofNat) ++ [Value.int .i64 (i : Int)]⟩) hN hrb hn' hA (j := 1) (by omega) ho5 ht6 (hb5.imp id fun e => ⟨_, e, hsA⟩) (.inr (.inl rfl)) ⟨rfl, rfl, rfl⟩
    (hN.syms n x hn') ⟨rfl, rfl, by simp, by simp [vis]⟩ (hN.fields n x hn') (h3.ok.mod hn' (Nat.le_refl _) hnm ⟨by show x.syms.length ≤ a'; omega, by simp; omega, by show x.fields.length ≤ a'; omega⟩ (fun j hj => by
     have hj : j ∈ x.items ++ [i] := hj
     rcases List.mem_append.1 hj with hj | hj
     ·have := hin j hj; omega
     ·have : j = i := by simpa using hj
      omega))
   go_wp2
   go_end0
   unfold ItemPost
   exact ⟨a', HTS.out, haa, hal, rfl, h4, f3.trans f4⟩
  ·go_simp
   refine hK.out _ _ pA (fun hHeld => ?_); clear hK K; (try simp only [Act.put, zs])
   refine wpAnyH_ready (rs := [12]) (by kernel_rfl) (by simp) ?_; refine AllReadyH.cons rfl (fun K hK => ?_) AllReadyH.nil
   go_simp
   refine hK.out _ _ pA (fun hHeld => ?_); clear hK K; (try simp only [Act.put, zs])
   refine wpAnyH_ready (rs := [15]) (by kernel_rfl) (by simp) ?_; refine AllReadyH.cons rfl (fun K hK => ?_) AllReadyH.nil
   refine st_app (base := b.base) rfl _ _ _ rfl elI rfl rfl (hO.alloc _).drew (Rd.litS w3 _ 1 1 [.int .i64 (i : Int)] rfl).drew (by repeat (first | exact ones_nil | refine ones_cons rfl ?_)) (by unfold maxLen; first | omega | (simp; done) | (simp; omega)) (by first | omega | (simp; done) | (simp; omega)) hwA ?_
   intro A5 c5 w5 ho5 ht5 hb5
   have ht6 : Turn w3 w5 (blk (R (some (n, 1))).A) := (((Turn.refl w3 _).alloc _).drew).trans ht5
   have k1 := (ht6.cell (a := ⟨b.pB, 2, none⟩) lp q1).trans p2
   have k3 := (ht6.cell (a := ⟨g, n * 6 + 4, none⟩) lg q2).trans n3
   have fz5 := (hown.turn ht6 (.inr q2)).frozen (n * 6 + 4)
   refine hK.out _ _ k1 (fun hHeld => ?_); clear hK K; (try simp only [Act.put, zs])
   (first | refine tkN 16 ?_ | refine tkY 16 _ ?_); (try simp only [Act.put, zs])
   (first | refine tkN 17 ?_ | refine tkY 17 _ ?_); (try simp only [Act.put, zs])
   refine wpAnyH_ready (rs := [18]) (by kernel_rfl) (by simp) ?_; refine AllReadyH.cons rfl (fun K hK => ?_) AllReadyH.nil
   go_simp
   refine hK.out _ _ ((World.cell?_setCell_far _ _ _ _ hgp).trans k1) (fun hHeld => ?_); clear hK K; (try simp only [Act.put, zs])
   refine wpAnyH_done (by kernel_rfl) ?_ _
   refine NoPanic.normal ?_
   clear hHeld
   obtain ⟨h4, f4⟩ := h3.slot (w1 := w5) (gg := fun y => { y with items := y.items ++ [i] }) (r := ⟨3, 1, A5, x.items.length + 1, c5, vis (x.items.map Int.ofNat) ++ [Value.int .i64 (i : Int)]⟩) hN hrb hn' hA (j := 1) (by omega) ho5 ht6 (hb5.imp id fun e => ⟨_, e, hsA⟩) (.inr (.inl rfl)) ⟨rfl, rfl, rfl⟩
    (hN.syms n x hn') ⟨rfl, rfl, by simp, by simp [vis]⟩ (hN.fields n x hn') (h3.ok.mod hn' (Nat.le_refl _) hnm ⟨by show x.syms.length ≤ a'; omega, by simp; omega, by show x.fields.length ≤ a'; omega⟩ (fun j hj => by
     have hj : j ∈ x.items ++ [i] := hj
     rcases List.mem_append.1 hj with hj | hj
     ·have := hin j hj; omega
     ·have : j = i := by simpa using hj
      omega))
   go_wp2
   go_end0
   unfold ItemPost
   exact ⟨a', HTS.out, haa, hal, rfl, h4, f3.trans f4⟩
open Go.RowKit
theorem tk_more {T : List Tok} (h : TOk T) {i : Nat} (hi : i < T.length) (hs : (tokAt T i).s ≠ []) : i + 1 < T.length := h.more hi fun e => hs ((tk_end h hi).1 e)
def colAt (T : List Tok) (i : Nat) : Nat := if (tokAt T i).s = [63] then i + 1 else i
theorem colAt_lt {T : List Tok} (h : TOk T) {i : Nat} (hi : i < T.length) : colAt T i < T.length := by
 unfold colAt
 by_cases e : (tokAt T i).s = [63]
 ·rw [if_pos e]; exact tk_more h hi (by rw [e]; simp)
 ·rw [if_neg e]; exact hi
theorem eHas_at {T : List Tok} (h : TOk T) {i : Nat} (hi : i < T.length) : eHas (T.drop i) =
  if (tokAt T (colAt T i)).s = [58] then .ok ((tokAt T i).s == [63], T.drop (colAt T i + 1)) else .error ((tokAt T (colAt T i)).at_, 4) := by
 have hl := colAt_lt h hi
 rw [tok_drop hi]
 unfold eHas colAt at *
 simp only
 have s63 := tk_eq h hi (c := 63) (by decide)
 have s58 := tk_eq h hi (c := 58) (by decide)
 by_cases e : (tokAt T i).s = [63]
 ·have n58 : ¬(tokAt T i).s = [58] := by rw [e]; decide
  simp only [if_pos e] at hl ⊢
  rw [if_neg (fun q => n58 q.2), if_pos (s63.2 e), tok_drop hl]
  simp only
  have t58 := tk_eq h hl (c := 58) (by decide)
  by_cases e2 : (tokAt T (i + 1)).s = [58]
  ·rw [if_pos (t58.2 e2), if_pos e2, e]; rfl
  ·rw [if_neg (fun q => e2 q.2), if_neg e2]
 ·simp only [if_neg e]
  by_cases e2 : (tokAt T i).s = [58]
  ·rw [if_pos (s58.2 e2), if_pos e2, e2]; rfl
  ·rw [if_neg (fun q => e2 q.2), if_neg (fun q => e q.2), if_neg e2]
def fz : List Value := [.string ⟨#[]⟩, .bool false, .int .i64 0]
theorem zFld : ∀ w, (zeroValue 119).run Tryz.prog w = .ok (.agg fz.toArray) w := zero_at (by kernel_rfl)
theorem szFld : (Tryz.prog.info? 119).map (·.size) = some 3 := by kernel_rfl
def fcV (f : Fl) : List Value := [.string (txt f.name), .bool f.has, .int .i64 (f.ty : Int)]
theorem fcV_one (f : Fl) : ∀ u ∈ fcV f, u.oneCell' = true := by
 intro u hu
 simp only [fcV, List.mem_cons, List.not_mem_nil, or_false] at hu
 rcases hu with rfl | rfl | rfl <;> rfl
def FieldPost (b : RB) (w : World) (a n : Nat) (o : Except PE (Fl × List Tok × List Nd)) (e : Ending) (w' : World) : Prop := match o with
 | .ok (f, ts, S') => ∃ a', ts = b.T.drop a' ∧ a < a' ∧ a' < b.T.length ∧ e = .returned (.tuple #[]) ∧ RS w' b a' (S'.modify n fun y => { y with fields := y.fields ++ [f] }) ∧ Fr b.base w w'
 | .error (p, er) => Gv b w p er e w'
theorem field_any {d : Nat} (hd : d ≤ 20) (TC : TypC d) {w : World} {b : RB} {a : Nat} {S : List Nd} (h : RS w b a S) (ha : a < b.T.length) {n : Nat} {x : Nd} (hn : S[n]? = some x) (hx : x.k = 11) {F : Nat} (hF : b.T.length - a < F) :
  Calls Tryz.prog 177 #[.pointer (some ⟨b.pB, 0, none⟩), .int .i64 (n : Int), .int .i64 (d : Int)] w (FieldPost b w a n (eField (eType F d none) x.fields (tokAt b.T a) (b.T.drop (a + 1)) S)) := by
 have hw := h.hw
 have hnl : n < S.length := (List.getElem?_eq_some_iff.1 hn).1
 have hsm := h.ok.small x (List.mem_of_getElem? hn)
 have hin := h.ok.inn x (List.mem_of_getElem? hn)
 have hfew := h.few
 have hun : unOf S (n : Int) = none := by rw [unOf_at hn, if_neg (by omega)]
 have key := name_any_ h ha
 unfold NamePost at key
 unfold eField
 by_cases hp : pNm (tokAt b.T a).tt = true
 case neg =>
  simp only [if_neg hp] at key
  rw [if_pos (by simpa using hp)]
  go_enter Tryz.func177, Tryz.ntmps177
  go_wp2_with (go_at_call 184; refine key.mono ?_; rintro e w1 ⟨rfl, f1⟩; unfold giveV)
  exact ⟨rfl, show Gv b w _ _ _ _ from ⟨rfl, f1⟩⟩
 simp only [if_pos hp] at key
 rw [if_neg (show ¬pNm (tokAt b.T a).tt = false by rw [hp]; simp)]
 have ha1 : a + 1 < b.T.length := tk_more h.tok ha (pNm_ne hp)
 rw [eHas_at h.tok ha1]
 have hcl := colAt_lt h.tok ha1
 have hca : a + 1 ≤ colAt b.T (a + 1) := by unfold colAt; split <;> omega
 obtain ⟨t, ht⟩ : ∃ t, t = tokAt b.T a := ⟨_, rfl⟩
 rw [← ht] at key ⊢
 clear ht hp
 obtain ⟨o, ho⟩ : ∃ o, FieldPost b w a n o = FieldPost b w a n _ := ⟨_, rfl⟩
 rw [← ho]
 have HO := hid ho
 clear ho
 go_enter Tryz.func177, Tryz.ntmps177
 go_upto_region 1 with (first
  | (go_at_call 184; refine key.mono ?_; rintro e w1 ⟨rfl, h1, f1⟩)
  | (refine wp_var rfl rfl 90 _ _ rfl rfl rfl rfl zTok (fun _ => rfl) (xs := tc t) (fun _ => rfl) rfl szTok (tc_one t) ?_; intro g2 w2 hgg2 hb2 ht2; have c1 := tok1 hb2; have c0 := tok0 hb2))
 have h2 := h1.turn0 ht2
 have f2 := f1.turn ht2 hw
 obtain ⟨R, g, nd⟩ := h2.ndAt hn
 have p2 := nd.p2
 have n5 := nd.n5
 have hrd := ((nd.hN.fields n x hn).own (nd.hN.aps.own _)).rd
 obtain ⟨AF, hAF⟩ : ∃ AF, AF = (R (some (n, 2))).A := ⟨_, rfl⟩
 rw [← hAF] at n5 hrd
 clear hAF
 go_wp2
 have l2 := hb2.lt
 clear c1 c0
 go_loopw [22] (fun i wr => ∃ j : Nat, j ≤ x.fields.length ∧ i = .int .i64 (j : Int) ∧ Hid (∀ q y, q < j → x.fields[q]? = some y → (y.name == t.s) = false) ∧ Turn w2 wr none) (fun i _ => (x.fields.length - intOf i).toNat)
 case atStart => exact ⟨0, by omega, rfl, hid (fun m x h => absurd h (Nat.not_lt_zero m)), Turn.refl w2 none⟩
 case round =>
  obtain ⟨j, hj, rfl, HNO, htr⟩ := hrel
  have hbr := hb2.turn0 htr
  by_cases hjn : j < x.fields.length
  ·obtain ⟨y, hy⟩ : ∃ y, x.fields[j]? = some y := ⟨x.fields[j], List.getElem?_eq_getElem hjn⟩
   obtain ⟨bb, off, rfl, _, hci⟩ := (hrd.turn0 htr (Nat.le_refl _)).head (by omega)
   obtain ⟨v0, v1, v2⟩ := vfs_at (l := x.fields.map Fl.g) (i := j) (x := y.g) (by rw [List.getElem?_map, hy]; rfl)
   have hr : wr.rangeAt bb (off + j * 3) (fcV y) := fun q v hv => by
    match q, hv with
    | 0, hv => exact (hci _ _ v0).trans hv
    | 1, hv => rw [Nat.add_assoc]; exact (hci _ _ v1).trans hv
    | 2, hv => rw [Nat.add_assoc]; exact (hci _ _ v2).trans hv
    | _ + 3, hv => simp [fcV] at hv
   have HY := hid hy
   clear hy hci v0 v1 v2
   by_cases hxy : y.name = t.s
   ·have e1 : ((txt y.name).toList == (txt t.s).toList) = true := by rw [tx_beq]; simpa using hxy
    have H := hid (any_at (p := fun y => y.name == t.s) HY.out (by simpa using hxy))
    clear hxy
    go_wp2_with (first
     | (refine wpList_load_mid rfl 119 _ rfl bb (off + j * 3) rfl (fcV y) _ hr Tryz.underlying119 rfl szFld ?_)
     | (refine wp_var rfl rfl 119 _ _ rfl rfl rfl rfl zFld (fun _ => rfl) (xs := fcV y) (fun _ => rfl) rfl szFld (fcV_one y) ?_; intro g3 w3 hg3 hb3 ht3; have c0 : w3.cell? ⟨g3, 0, none⟩ = some (.string (txt y.name)) := hb3.ats rfl; have d1 := tok1 (hbr.turn0 ht3))
     | (refine wp_ld rfl 90 _ rfl rfl (hbr.turn0 ht3) (Sub.all (tc t)) Tryz.underlying90 rfl szTok ?_)
     | (go_at_call 114; refine (refuse_any t 6 _).mono ?_; rintro e w4 ⟨rfl, ht4⟩; unfold giveV))
    refine ⟨rfl, ?_⟩
    rw [HO.out, if_pos H.out]
    exact ⟨rfl, ((f2.turn htr hw).turn ht3 hw).turn ht4 hw⟩
   ·have e1 : ((txt y.name).toList == (txt t.s).toList) = false := by rw [tx_beq]; simpa using hxy
    have HX := hid (show (y.name == t.s) = false by simpa using hxy)
    clear hxy
    go_wp2_with (first
     | (refine wpList_load_mid rfl 119 _ rfl bb (off + j * 3) rfl (fcV y) _ hr Tryz.underlying119 rfl szFld ?_)
     | (refine wp_var rfl rfl 119 _ _ rfl rfl rfl rfl zFld (fun _ => rfl) (xs := fcV y) (fun _ => rfl) rfl szFld (fcV_one y) ?_; intro g3 w3 hg3 hb3 ht3; have c0 : w3.cell? ⟨g3, 0, none⟩ = some (.string (txt y.name)) := hb3.ats rfl; have d1 := tok1 (hbr.turn0 ht3)))
    refine ⟨⟨j + 1, by omega, by go_num, hid (fun q z hq hz => ?_), htr.trans ht3⟩, by simp [intOf]; omega⟩
    rcases Nat.lt_or_ge q j with h | h
    ·exact HNO.out q z h hz
    ·obtain rfl : q = j := by omega
     rw [HY.out, Option.some.injEq] at hz
     rw [← hz]
     exact HX.out
  ·obtain rfl : j = x.fields.length := by omega
   have HD := hid (any_none HNO.out)
   have HO2 := hid (HO.out.trans (by rw [if_neg (by rw [HD.out]; decide)]))
   clear HO HD HNO
   have h4 := h2.turn0 htr
   have f4 := f2.turn htr hw
   have sk := skip_any h4 ha1 [63]
   have hite : (if (tokAt b.T (a + 1)).s = [63] then a + 1 + 1 else a + 1) = colAt b.T (a + 1) := rfl
   rw [hite] at sk
   obtain ⟨ah, hah⟩ : ∃ ah, colAt b.T (a + 1) = ah := ⟨_, rfl⟩
   obtain ⟨hs, hhs⟩ : ∃ hs, ((tokAt b.T (a + 1)).s == [63]) = hs := ⟨_, rfl⟩
   rw [hah, hhs] at sk HO2
   rw [hah] at hcl hca
   clear hah hhs hite
   go_wp2_with (go_at_call 176; refine sk.mono ?_; rintro e w5 ⟨rfl, h5, f5⟩)
   by_cases hcol : (tokAt b.T ah).s = [58]
   case neg =>
    refine (sign_bad h5 hcl [58] hcol).mono ?_
    rintro e w6 ⟨rfl, f6⟩
    unfold giveV
    refine ⟨rfl, ?_⟩
    rw [HO2.out]
    simp only [if_neg hcol]
    exact ⟨rfl, (f4.trans f5).trans f6⟩
   refine (sign_ok h5 hcl [58] hcol).mono ?_
   rintro e w6 ⟨rfl, h6, f6⟩
   simp only [if_pos hcol] at HO2
   have hal : ah + 1 < b.T.length := tk_more h.tok hcl (by rw [hcol]; simp)
   have ty := TC w6 b (ah + 1) S (n : Int) F h6 hal (.inr ⟨n, rfl, hnl⟩) (by omega)
   have lik := type_alike (deep := d) (un := none) (F := F) h.tok hd hal (by omega) (NE.refl S)
   rw [hun] at ty
   revert ty lik HO2
   generalize eType F d none (b.T.drop (ah + 1)) S = oo
   intro HO2 ty lik
   cases oo with
   | error p =>
    obtain ⟨p, er⟩ := p
    unfold TypPost at ty
    go_wp2_with (go_at_call 112; refine ty.mono ?_; rintro e w7 ⟨rfl, f7⟩; unfold giveV)
    refine ⟨rfl, ?_⟩
    rw [HO2.out]
    exact ⟨rfl, ((f4.trans f5).trans f6).trans f7⟩
   | ok p =>
    obtain ⟨i, ts, S'⟩ := p
    unfold TypPost at ty
    obtain ⟨new, _, rfl, -⟩ := lik
    have hn' : (S ++ new)[n]? = some x := by rw [List.getElem?_append_left hnl]; exact hn
    obtain ⟨S', hS'⟩ : ∃ S', S' = S ++ new := ⟨_, rfl⟩
    rw [← hS'] at ty hn' HO2
    clear hS'
    go_wp2_with (go_at_call 112; refine ty.mono ?_; rintro e w7 ⟨a', hts, haa, hal', hil, rfl, h7, f7⟩; subst hts)
    rw [tok_drop hal'] at HO2
    by_cases hsc : (tokAt b.T a').s = [59]
    case neg =>
     refine (sign_bad h7 hal' [59] hsc).mono ?_
     rintro e w8 ⟨rfl, f8⟩
     unfold giveV
     refine ⟨rfl, ?_⟩
     rw [HO2.out]
     simp only [if_neg (fun q : (tokAt b.T a').k = 2 ∧ (tokAt b.T a').s = [59] => hsc q.2)]
     exact ⟨rfl, (((f4.trans f5).trans f6).trans f7).trans f8⟩
    refine (sign_ok h7 hal' [59] hsc).mono ?_
    rintro e w8 ⟨rfl, h8, f8⟩
    simp only [if_pos ((tk_eq h.tok hal' (c := 59) (by decide)).2 hsc)] at HO2
    have hal2 : a' + 1 < b.T.length := tk_more h.tok hal' (by rw [hsc]; simp)
    have fw := (((f4.trans f5).trans f6).trans f7).trans f8
    have hb8 : Blk w8 g2 90 (tc t).toArray := f8.tok (f7.tok (f6.tok (f5.tok hbr)))
    go_wp2_with (fail)
    obtain ⟨R', g', nd3⟩ := h8.ndAt hn'
    have hN := nd3.hN
    have hrb := nd3.hrb
    have p2 := nd3.p2
    have n3 := nd3.n5
    have hgp := nd3.ne
    have hA := nd3.hA
    have hO := (hN.fields n x hn').own (hN.aps.own _)
    have lp := hrb.lt
    have lg := World.block_lt_of_cell? w8 _ nd3.n0
    have l8 := hb8.lt
    have d1 := tok1 hb8
    have q1 := nd3.q1 2
    have q2 := nd3.q2 2
    have q3 := nd3.q3 2 hb8
    have ne2 : g' ≠ g2 := h8.ne p2 hb8 (by decide)
    have hown := nd3.hN.own
    rw [nd3.hA] at hown
    have tA : Turn w8 (w8.alloc (.cells #[.string (txt t.s), .bool hs, .int .i64 (i : Int)] 119)).drew none := ((Turn.refl w8 none).alloc _).drew
    have pA := (tA.cell (a := ⟨b.pB, 2, none⟩) lp (by simp)).trans p2
    have dA := (tA.cell (a := ⟨g2, 1, none⟩) l8 (by simp)).trans d1
    have nA := (tA.cell (a := ⟨g', n * 6 + 5, none⟩) lg (by simp)).trans n3
    have hwA : b.base ≤ (w8.alloc (.cells #[.string (txt t.s), .bool hs, .int .i64 (i : Int)] 119)).drew.heap.size := Nat.le_trans h8.hw tA.size
    have hsA : w8.heap.size ≤ (w8.alloc (.cells #[.string (txt t.s), .bool hs, .int .i64 (i : Int)] 119)).drew.heap.size := tA.size
    have hnl8 : n < S'.length := (List.getElem?_eq_some_iff.1 hn').1
    refine wp_region_noPanic ?_
    refine wp_region_held_drew (S := (fun W => W.cell? ⟨b.pB, 2, none⟩ = some (.slice (some ⟨g', 0, none⟩) S'.length (R' none).c) ∧ W.cell? ⟨g2, 1, none⟩ = some (.string (txt t.s)))) (by kernel_rfl) (⟨p2, d1⟩) (fun hHeld => ?_)
    (first | refine tkN 0 ?_ | refine tkY 0 _ ?_); (try simp only [Act.put, zs])
    (first | refine tkN 1 ?_ | refine tkY 1 _ ?_); (try simp only [Act.put, zs])
    (first | refine tkN 2 ?_ | refine tkY 2 _ ?_); (try simp only [Act.put, zs])
    (first | refine tkN 3 ?_ | refine tkY 3 _ ?_); (try simp only [Act.put, zs])
    (first | refine tkN 4 ?_ | refine tkY 4 _ ?_); (try simp only [Act.put, zs])
    (first | refine tkN 5 ?_ | refine tkY 5 _ ?_); (try simp only [Act.put, zs])
    (first | refine tkN 6 ?_ | refine tkY 6 _ ?_); (try simp only [Act.put, zs])
    (first | refine tkN 7 ?_ | refine tkY 7 _ ?_); (try simp only [Act.put, zs])
    (first | refine tkN 8 ?_ | refine tkY 8 _ ?_); (try simp only [Act.put, zs])
    (first | refine tkN 9 ?_ | refine tkY 9 _ ?_); (try simp only [Act.put, zs])
    (first | refine tkN 10 ?_ | refine tkY 10 _ ?_); (try simp only [Act.put, zs])
    (first | refine tkN 11 ?_ | refine tkY 11 _ ?_); (try simp only [Act.put, zs])
    (first | refine tkN 13 ?_ | refine tkY 13 _ ?_); (try simp only [Act.put, zs])
    (first | refine tkN 14 ?_ | refine tkY 14 _ ?_); (try simp only [Act.put, zs])
    (first | refine tkN 15 ?_ | refine tkY 15 _ ?_); (try simp only [Act.put, zs])
    (first | refine tkN 16 ?_ | refine tkY 16 _ ?_); (try simp only [Act.put, zs])
    (first | refine tkN 17 ?_ | refine tkY 17 _ ?_); (try simp only [Act.put, zs])
    refine wpAnyH_ready (rs := [12, 18]) (by kernel_rfl) (by simp) ?_; refine AllReadyH.cons rfl (fun K hK => ?_) (AllReadyH.cons rfl (fun K hK => ?_) AllReadyH.nil)
    ·go_simp
     refine hK.out _ _ ⟨p2, d1⟩ (fun hHeld => ?_); clear hK K; (try simp only [Act.put, zs])
     refine wpAnyH_ready (rs := [18]) (by kernel_rfl) (by simp) ?_; refine AllReadyH.cons rfl (fun K hK => ?_) AllReadyH.nil
     go_simp
     refine hK.out _ _ ⟨pA, dA⟩ (fun hHeld => ?_); clear hK K; (try simp only [Act.put, zs])
     refine wpAnyH_ready (rs := [19]) (by kernel_rfl) (by simp) ?_; refine AllReadyH.cons rfl (fun K hK => ?_) AllReadyH.nil
     refine st_app (base := b.base) rfl _ _ _ rfl elF rfl rfl (hO.alloc _).drew (Rd.litS w8 _ 3 1 [.string (txt t.s), .bool hs, .int .i64 (i : Int)] rfl).drew (by repeat (first | exact ones_nil | refine ones_cons rfl ?_)) (by unfold maxLen; first | omega | (simp; done) | (simp; omega)) (by first | omega | (simp; done) | (simp; omega)) hwA ?_
     intro A5 c5 w9 ho5 ht5 hb5
     have ht6 : Turn w8 w9 (blk (R' (some (n, 2))).A) := (((Turn.refl w8 _).alloc _).drew).trans ht5
     have k1 := (ht6.cell (a := ⟨b.pB, 2, none⟩) lp q1).trans p2
     have k2 := (ht6.cell (a := ⟨g2, 1, none⟩) l8 q3).trans d1
     have k3 := (ht6.cell (a := ⟨g', n * 6 + 5, none⟩) lg q2).trans n3
     have fz5 := (hown.turn ht6 (.inr q2)).frozen (n * 6 + 5)
     refine hK.out _ _ ⟨k1, k2⟩ (fun hHeld => ?_); clear hK K; (try simp only [Act.put, zs])
     (first | refine tkN 20 ?_ | refine tkY 20 _ ?_); (try simp only [Act.put, zs])
     (first | refine tkN 21 ?_ | refine tkY 21 _ ?_); (try simp only [Act.put, zs])
     refine wpAnyH_ready (rs := [22]) (by kernel_rfl) (by simp) ?_; refine AllReadyH.cons rfl (fun K hK => ?_) AllReadyH.nil
     go_simp
     refine hK.out _ _ ⟨(World.cell?_setCell_far _ _ _ _ hgp).trans k1, (World.cell?_setCell_far _ _ _ _ ne2).trans k2⟩ (fun hHeld => ?_); clear hK K; (try simp only [Act.put, zs])
     refine wpAnyH_done (by kernel_rfl) ?_ _
     refine NoPanic.normal ?_
     clear hHeld
     obtain ⟨h9, f9⟩ := h8.slot (w1 := w9) (gg := fun y => { y with fields := y.fields ++ [⟨t.s, i, hs⟩] }) (r := ⟨119, 3, A5, x.fields.length + 1, c5, vfs (x.fields.map Fl.g) ++ [Value.string (txt t.s), Value.bool hs, Value.int .i64 (i : Int)]⟩) hN hrb hn' hA (j := 2) (by omega) ho5 ht6 (hb5.imp id fun e => ⟨_, e, hsA⟩) (.inr (.inr rfl)) ⟨rfl, rfl, rfl⟩
      (hN.syms n x hn') (hN.items n x hn') ⟨rfl, rfl, by simp, by simp [vfs, Fl.g]⟩ (h8.ok.mod hn' (Nat.le_refl _) (fun (hk : x.k < 9) => by omega) ⟨by show x.syms.length ≤ a' + 1; omega, by show x.items.length ≤ a' + 1; omega, by simp; omega⟩ (h8.ok.inn x (List.mem_of_getElem? hn')))
     go_wp2
     go_end0
     rw [HO2.out]
     exact ⟨a' + 1, rfl, by omega, hal2, rfl, h9, fw.trans f9⟩
    ·go_simp
     refine hK.out _ _ ⟨pA, dA⟩ (fun hHeld => ?_); clear hK K; (try simp only [Act.put, zs])
     refine wpAnyH_ready (rs := [12]) (by kernel_rfl) (by simp) ?_; refine AllReadyH.cons rfl (fun K hK => ?_) AllReadyH.nil
     go_simp
     refine hK.out _ _ ⟨pA, dA⟩ (fun hHeld => ?_); clear hK K; (try simp only [Act.put, zs])
     refine wpAnyH_ready (rs := [19]) (by kernel_rfl) (by simp) ?_; refine AllReadyH.cons rfl (fun K hK => ?_) AllReadyH.nil
     refine st_app (base := b.base) rfl _ _ _ rfl elF rfl rfl (hO.alloc _).drew (Rd.litS w8 _ 3 1 [.string (txt t.s), .bool hs, .int .i64 (i : Int)] rfl).drew (by repeat (first | exact ones_nil | refine ones_cons rfl ?_)) (by unfold maxLen; first | omega | (simp; done) | (simp; omega)) (by first | omega | (simp; done) | (simp; omega)) hwA ?_
     intro A5 c5 w9 ho5 ht5 hb5
     have ht6 : Turn w8 w9 (blk (R' (some (n, 2))).A) := (((Turn.refl w8 _).alloc _).drew).trans ht5
     have k1 := (ht6.cell (a := ⟨b.pB, 2, none⟩) lp q1).trans p2
     have k2 := (ht6.cell (a := ⟨g2, 1, none⟩) l8 q3).trans d1
     have k3 := (ht6.cell (a := ⟨g', n * 6 + 5, none⟩) lg q2).trans n3
     have fz5 := (hown.turn ht6 (.inr q2)).frozen (n * 6 + 5)
     refine hK.out _ _ ⟨k1, k2⟩ (fun hHeld => ?_); clear hK K; (try simp only [Act.put, zs])
     (first | refine tkN 20 ?_ | refine tkY 20 _ ?_); (try simp only [Act.put, zs])
     (first | refine tkN 21 ?_ | refine tkY 21 _ ?_); (try simp only [Act.put, zs])
     refine wpAnyH_ready (rs := [22]) (by kernel_rfl) (by simp) ?_; refine AllReadyH.cons rfl (fun K hK => ?_) AllReadyH.nil
     go_simp
     refine hK.out _ _ ⟨(World.cell?_setCell_far _ _ _ _ hgp).trans k1, (World.cell?_setCell_far _ _ _ _ ne2).trans k2⟩ (fun hHeld => ?_); clear hK K; (try simp only [Act.put, zs])
     refine wpAnyH_done (by kernel_rfl) ?_ _
     refine NoPanic.normal ?_
     clear hHeld
     obtain ⟨h9, f9⟩ := h8.slot (w1 := w9) (gg := fun y => { y with fields := y.fields ++ [⟨t.s, i, hs⟩] }) (r := ⟨119, 3, A5, x.fields.length + 1, c5, vfs (x.fields.map Fl.g) ++ [Value.string (txt t.s), Value.bool hs, Value.int .i64 (i : Int)]⟩) hN hrb hn' hA (j := 2) (by omega) ho5 ht6 (hb5.imp id fun e => ⟨_, e, hsA⟩) (.inr (.inr rfl)) ⟨rfl, rfl, rfl⟩
      (hN.syms n x hn') (hN.items n x hn') ⟨rfl, rfl, by simp, by simp [vfs, Fl.g]⟩ (h8.ok.mod hn' (Nat.le_refl _) (fun (hk : x.k < 9) => by omega) ⟨by show x.syms.length ≤ a' + 1; omega, by show x.items.length ≤ a' + 1; omega, by simp; omega⟩ (h8.ok.inn x (List.mem_of_getElem? hn')))
     go_wp2
     go_end0
     rw [HO2.out]
     exact ⟨a' + 1, rfl, by omega, hal2, rfl, h9, fw.trans f9⟩
open Go.RowKit
def InPost (b : RB) (w : World) (a : Nat) (o : EO) (e : Ending) (w' : World) : Prop := match o with
 | .ok (_, ts, S') => ∃ a', ts = b.T.drop a' ∧ a ≤ a' ∧ a' < b.T.length ∧ e = .returned (.tuple #[]) ∧ RS w' b a' S' ∧ Fr b.base w w'
 | .error (p, er) => Gv b w p er e w'
theorem last_at (S0 : List Nd) (y : Nd) : (S0 ++ [y])[S0.length]? = some y := by simp
theorem inner_plain {D : Nat} {w : World} {b : RB} {a k : Nat} {S0 : List Nd} (h : RS w b a (S0 ++ [Nd.of k])) (ha : a < b.T.length) (hk : k < 6) :
  Calls Tryz.prog 146 #[.pointer (some ⟨b.pB, 0, none⟩), .int .i64 (S0.length : Int), .int .i64 (D : Int)] w (Un b w a (S0 ++ [Nd.of k])) := by
 obtain ⟨R, g, nd⟩ := h.ndAt (last_at S0 (Nd.of k))
 have p2 := nd.p2
 have n0 : w.cell? ⟨g, S0.length * 6, none⟩ = some (.int .i64 (k : Int)) := nd.n0
 have hl : S0.length < (S0 ++ [Nd.of k]).length := by simp
 have e6 : ((k : Int) == 6) = false := by rw [beq_eq_false_iff_ne]; omega
 have e7 : ((k : Int) == 7) = false := by rw [beq_eq_false_iff_ne]; omega
 have e8 : ((k : Int) == 8) = false := by rw [beq_eq_false_iff_ne]; omega
 have e9 : ((k : Int) == 9) = false := by rw [beq_eq_false_iff_ne]; omega
 have e10 : ((k : Int) == 10) = false := by rw [beq_eq_false_iff_ne]; omega
 have e11 : ((k : Int) == 11) = false := by rw [beq_eq_false_iff_ne]; omega
 go_enter Tryz.func146, Tryz.ntmps146
 go_wp2
 go_end0
 exact ⟨rfl, h, Fr.refl _ _⟩
section
variable {D : Nat} {w : World} {b : RB} {a : Nat} {S0 : List Nd} {F : Nat}
theorem drop_inj {T : List Tok} {i j : Nat} (hi : i < T.length) (hj : j < T.length) (h : T.drop i = T.drop j) : i = j := by
 have := congrArg List.length h
 rw [List.length_drop, List.length_drop] at this
 omega
theorem item_res {S : List Nd} (hd : D ≤ 20) (TC : TypC D) (h : RS w b a S) (ha : a < b.T.length) {n : Nat} {x : Nd} (hn : S[n]? = some x) (hF : b.T.length - a < F) :
  (∃ p er, eType F D (unOf S (n : Int)) (b.T.drop a) S = .error (p, er) ∧ Calls Tryz.prog 170 #[.pointer (some ⟨b.pB, 0, none⟩), .int .i64 (n : Int), .int .i64 (D : Int)] w (Gv b w p er)) ∨
  (∃ i new a', eType F D (unOf S (n : Int)) (b.T.drop a) S = .ok (i, b.T.drop a', S ++ new) ∧ a < a' ∧ a' < b.T.length ∧ Calls Tryz.prog 170 #[.pointer (some ⟨b.pB, 0, none⟩), .int .i64 (n : Int), .int .i64 (D : Int)] w
   fun e w' => e = .returned (.tuple #[]) ∧ RS w' b a' ((S ++ new).modify n fun y => { y with items := y.items ++ [i] }) ∧ Fr b.base w w') := by
 have it := item_any hd TC h ha hn hF
 have lik := type_alike (deep := D) (un := unOf S (n : Int)) (F := F) h.tok hd ha hF (NE.refl S)
 revert it lik
 generalize eType F D (unOf S (n : Int)) (b.T.drop a) S = oo
 intro it lik
 cases oo with
 | error p => obtain ⟨p, er⟩ := p; exact .inl ⟨p, er, rfl, it⟩
 | ok p =>
  obtain ⟨i, ts, S'⟩ := p
  obtain ⟨new, a', rfl, -, rfl, haa, hal⟩ := lik
  refine .inr ⟨i, new, a', rfl, haa, hal, it.mono ?_⟩
  rintro e w' ⟨a2, e1, _, e2, rfl, h2, f2⟩
  obtain rfl := drop_inj hal e2 e1
  exact ⟨rfl, h2, f2⟩
theorem inner_arr (hd : D ≤ 20) (TC : TypC D) {S : List Nd} {m : Nat} (h : RS w b a S) (hn : S[m]? = some (Nd.of 6)) (ha : a < b.T.length) (hF : b.T.length - a < F) :
  Calls Tryz.prog 146 #[.pointer (some ⟨b.pB, 0, none⟩), .int .i64 (m : Int), .int .i64 (D : Int)] w (InPost b w a (eOne (eType F D none) [93] (b.T.drop a) S m)) := by
 obtain ⟨R, g, nd⟩ := h.ndAt hn
 have p2 := nd.p2
 have n0 : w.cell? ⟨g, m * 6, none⟩ = some (.int .i64 6) := nd.n0
 have hl : m < S.length := (List.getElem?_eq_some_iff.1 hn).1
 have hun : unOf S (m : Int) = none := by rw [unOf_at hn]; rfl
 have it := item_res hd TC h ha hn hF
 rw [hun] at it
 rcases it with ⟨p, er, ho, it⟩ | ⟨i, new, a', ho, haa, hal, it⟩
 ·have HO := hid (show eOne (eType F D none) [93] (b.T.drop a) S m = .error (p, er) by unfold eOne; rw [ho])
  clear ho
  rw [HO.out]
  go_enter Tryz.func146, Tryz.ntmps146
  go_wp2_with (go_at_call 170; refine it.mono ?_; rintro e w1 ⟨rfl, f1⟩; unfold giveV)
  exact ⟨rfl, show Gv b w p er _ _ from ⟨rfl, f1⟩⟩
 ·have hmod : ((S ++ new).modify m fun y => { y with items := y.items ++ [i] }) = (S ++ new).modify m fun y => { y with items := [i] } := by
   refine modify_eq (x := Nd.of 6) (by rw [List.getElem?_append_left hl]; exact hn) rfl
  rw [hmod] at it
  have hs := tk_eq h.tok hal (c := 93) (by decide)
  by_cases hx : (tokAt b.T a').s = [93]
  ·have HO := hid (show eOne (eType F D none) [93] (b.T.drop a) S m = .ok (m, b.T.drop (a' + 1), (S ++ new).modify m fun y => { y with items := [i] }) by unfold eOne; rw [ho, tok_drop hal]; simp only; rw [if_pos (hs.2 hx)])
   clear ho
   rw [HO.out]
   have hal2 : a' + 1 < b.T.length := tk_more h.tok hal (by rw [hx]; simp)
   go_enter Tryz.func146, Tryz.ntmps146
   go_wp2_with (first
    | (go_at_call 170; refine it.mono ?_; rintro e w1 ⟨rfl, h1, f1⟩)
    | (go_at_call 171; refine (sign_ok h1 hal [93] hx).mono ?_; rintro e w2 ⟨rfl, h2, f2⟩))
   go_end0
   exact ⟨a' + 1, rfl, by omega, hal2, rfl, h2, f1.trans f2⟩
  ·have HO := hid (show eOne (eType F D none) [93] (b.T.drop a) S m = .error ((tokAt b.T a').at_, 4) by unfold eOne; rw [ho, tok_drop hal]; simp only; rw [if_neg (fun q => hx (hs.1 q))])
   clear ho
   rw [HO.out]
   go_enter Tryz.func146, Tryz.ntmps146
   go_wp2_with (first
    | (go_at_call 170; refine it.mono ?_; rintro e w1 ⟨rfl, h1, f1⟩)
    | (go_at_call 171; refine (sign_bad h1 hal [93] hx).mono ?_; rintro e w2 ⟨rfl, f2⟩; unfold giveV))
   exact ⟨rfl, show Gv b w _ 4 _ _ from ⟨rfl, f1.trans f2⟩⟩
theorem inner_map (hd : D ≤ 20) (TC : TypC D) {S : List Nd} {m : Nat} (h : RS w b a S) (hn : S[m]? = some (Nd.of 7)) (ha : a < b.T.length) (hF : b.T.length - a < F) :
  Calls Tryz.prog 146 #[.pointer (some ⟨b.pB, 0, none⟩), .int .i64 (m : Int), .int .i64 (D : Int)] w (InPost b w a (eOne (eType F D none) [125] (b.T.drop a) S m)) := by
 obtain ⟨R, g, nd⟩ := h.ndAt hn
 have p2 := nd.p2
 have n0 : w.cell? ⟨g, m * 6, none⟩ = some (.int .i64 7) := nd.n0
 have hl : m < S.length := (List.getElem?_eq_some_iff.1 hn).1
 have hun : unOf S (m : Int) = none := by rw [unOf_at hn]; rfl
 have it := item_res hd TC h ha hn hF
 rw [hun] at it
 rcases it with ⟨p, er, ho, it⟩ | ⟨i, new, a', ho, haa, hal, it⟩
 ·have HO := hid (show eOne (eType F D none) [125] (b.T.drop a) S m = .error (p, er) by unfold eOne; rw [ho])
  clear ho
  rw [HO.out]
  go_enter Tryz.func146, Tryz.ntmps146
  go_wp2_with (go_at_call 170; refine it.mono ?_; rintro e w1 ⟨rfl, f1⟩; unfold giveV)
  exact ⟨rfl, show Gv b w p er _ _ from ⟨rfl, f1⟩⟩
 ·have hmod : ((S ++ new).modify m fun y => { y with items := y.items ++ [i] }) = (S ++ new).modify m fun y => { y with items := [i] } := by
   refine modify_eq (x := Nd.of 7) (by rw [List.getElem?_append_left hl]; exact hn) rfl
  rw [hmod] at it
  have hs := tk_eq h.tok hal (c := 125) (by decide)
  by_cases hx : (tokAt b.T a').s = [125]
  ·have HO := hid (show eOne (eType F D none) [125] (b.T.drop a) S m = .ok (m, b.T.drop (a' + 1), (S ++ new).modify m fun y => { y with items := [i] }) by unfold eOne; rw [ho, tok_drop hal]; simp only; rw [if_pos (hs.2 hx)])
   clear ho
   rw [HO.out]
   have hal2 : a' + 1 < b.T.length := tk_more h.tok hal (by rw [hx]; simp)
   go_enter Tryz.func146, Tryz.ntmps146
   go_wp2_with (first
    | (go_at_call 170; refine it.mono ?_; rintro e w1 ⟨rfl, h1, f1⟩)
    | (go_at_call 171; refine (sign_ok h1 hal [125] hx).mono ?_; rintro e w2 ⟨rfl, h2, f2⟩))
   go_end0
   exact ⟨a' + 1, rfl, by omega, hal2, rfl, h2, f1.trans f2⟩
  ·have HO := hid (show eOne (eType F D none) [125] (b.T.drop a) S m = .error ((tokAt b.T a').at_, 4) by unfold eOne; rw [ho, tok_drop hal]; simp only; rw [if_neg (fun q => hx (hs.1 q))])
   clear ho
   rw [HO.out]
   go_enter Tryz.func146, Tryz.ntmps146
   go_wp2_with (first
    | (go_at_call 170; refine it.mono ?_; rintro e w1 ⟨rfl, h1, f1⟩)
    | (go_at_call 171; refine (sign_bad h1 hal [125] hx).mono ?_; rintro e w2 ⟨rfl, f2⟩; unfold giveV))
   exact ⟨rfl, show Gv b w _ 4 _ _ from ⟨rfl, f1.trans f2⟩⟩
end
open Go.RowKit
def atOf (w : World) (b : RB) : Nat := match w.cell? ⟨b.pB, 1, none⟩ with
 | some (.int _ i) => i.toNat
 | _ => 0
theorem RS.atOf {w : World} {b : RB} {a : Nat} {S : List Nd} (h : RS w b a S) : atOf w b = a := by
 obtain ⟨_, _, _, _, p1, _⟩ := h.opn
 unfold Go.Proofs.YtgigiecdpjchkaaGreatDoor.atOf
 rw [p1]
 simp
def setIts (N : List Nd) (m : Nat) (its : List Nat) : List Nd := N.modify m fun y => { y with items := its }
def eUni (o : Except PE (List Nat × List Tok × List Nd)) (m : Nat) : EO := match o with
 | .ok (its, r1, N1) => .ok (m, r1, setIts N1 m its)
 | .error e => .error e
section
variable {D : Nat} {w : World} {b : RB} {a : Nat} {F : Nat}
def UniI (b : RB) (w : World) (a F D m : Nat) (o : Except PE (List Nat × List Tok × List Nd)) (wr : World) : Prop :=
 ∃ a1 its N1 g, a ≤ a1 ∧ a1 < b.T.length ∧ RS wr b a1 (setIts N1 m its) ∧ N1[m]? = some (Nd.of 8) ∧ o = eAllT (fun its => eType F D (some its)) g its (b.T.drop a1) N1 ∧ b.T.length - a1 < g ∧ Fr b.base w wr
theorem uni_item (hd : D ≤ 20) (TC : TypC D) {m : Nat} {its : List Nat} {N1 : List Nd} (h : RS w b a (setIts N1 m its)) (ha : a < b.T.length) (hm : N1[m]? = some (Nd.of 8)) (hF : b.T.length - a < F) :
  (∃ p er, eType F D (some its) (b.T.drop a) N1 = .error (p, er) ∧ Calls Tryz.prog 170 #[.pointer (some ⟨b.pB, 0, none⟩), .int .i64 (m : Int), .int .i64 (D : Int)] w (Gv b w p er)) ∨
  (∃ i new a', eType F D (some its) (b.T.drop a) N1 = .ok (i, b.T.drop a', N1 ++ new) ∧ a < a' ∧ a' < b.T.length ∧ (N1 ++ new)[m]? = some (Nd.of 8) ∧ Calls Tryz.prog 170 #[.pointer (some ⟨b.pB, 0, none⟩), .int .i64 (m : Int), .int .i64 (D : Int)] w
   fun e w' => e = .returned (.tuple #[]) ∧ RS w' b a' (setIts (N1 ++ new) m (its ++ [i])) ∧ Fr b.base w w') := by
 have hml : m < N1.length := (List.getElem?_eq_some_iff.1 hm).1
 have hs : (setIts N1 m its)[m]? = some { Nd.of 8 with items := its } := modify_at hm
 have hun : unOf (setIts N1 m its) (m : Int) = some its := by rw [unOf_at hs]; rfl
 have hNE : NE (setIts N1 m its) N1 := NE.modify fun _ => rfl
 have it := item_res hd TC h ha hs hF
 rw [hun] at it
 have lik := type_alike (deep := D) (un := some its) (F := F) h.tok hd ha hF hNE
 rcases it with ⟨p, er, ho, it⟩ | ⟨i, new, a', ho, haa, hal, it⟩
 ·rw [ho] at lik
  exact .inl ⟨p, er, lik.2, it⟩
 ·rw [ho] at lik
  obtain ⟨new', a2, e1, e2, e3, _, e4⟩ := lik
  obtain rfl := drop_inj hal e4 e3
  obtain rfl : new = new' := List.append_cancel_left e1
  refine .inr ⟨i, new, a', e2, haa, hal, by rw [List.getElem?_append_left hml]; exact hm, ?_⟩
  have e : ((setIts N1 m its ++ new).modify m fun y => { y with items := y.items ++ [i] }) = setIts (N1 ++ new) m (its ++ [i]) := by
   unfold setIts
   rw [← modify_app hml, modify_two]
  rw [e] at it
  exact it
theorem inner_uni (hd : D ≤ 20) (TC : TypC D) {S : List Nd} {m : Nat} (h : RS w b a S) (hn : S[m]? = some (Nd.of 8)) (ha : a < b.T.length) (hF : b.T.length - a < F) :
  Calls Tryz.prog 146 #[.pointer (some ⟨b.pB, 0, none⟩), .int .i64 (m : Int), .int .i64 (D : Int)] w (InPost b w a (eUni (eAllW (fun its => eType F D (some its)) F [] (b.T.drop a) S) m)) := by
 obtain ⟨R, g, nd⟩ := h.ndAt hn
 have p2 := nd.p2
 have n0 : w.cell? ⟨g, m * 6, none⟩ = some (.int .i64 8) := nd.n0
 have hl : m < S.length := (List.getElem?_eq_some_iff.1 hn).1
 have e0 : setIts S m [] = S := modify_id hn rfl
 have it := uni_item (F := F) hd TC (its := []) (by rw [e0]; exact h) ha hn hF
 obtain ⟨F', rfl⟩ : ∃ F', F = F' + 1 := ⟨F - 1, by omega⟩
 obtain ⟨o, ho⟩ : ∃ o, o = eAllW (fun its => eType (F' + 1) D (some its)) (F' + 1) [] (b.T.drop a) S := ⟨_, rfl⟩
 rw [← ho]
 rw [eAllW_step] at ho
 rcases it with ⟨p, er, h1, it⟩ | ⟨i, new, a', h1, haa, hal, hm', it⟩
 ·rw [h1] at ho
  have HO := hid ho
  clear ho
  go_enter Tryz.func146, Tryz.ntmps146
  go_wp2_with (go_at_call 170; refine it.mono ?_; rintro e w1 ⟨rfl, f1⟩; unfold giveV)
  rw [HO.out]
  exact ⟨rfl, show Gv b w p er _ _ from ⟨rfl, f1⟩⟩
 ·rw [h1] at ho
  have HI : ∀ w1, RS w1 b a' (setIts (S ++ new) m ([] ++ [i])) → Fr b.base w w1 → UniI b w a (F' + 1) D m o w1 := fun w1 h1 f1 => ⟨a', _, _, F', by omega, hal, h1, hm', ho, by omega, f1⟩
  have HII := hid HI
  clear HI h1
  clear ho
  go_enter Tryz.func146, Tryz.ntmps146
  go_wp2_with (go_at_call 170; refine it.mono ?_; rintro e w1 ⟨rfl, h1, f1⟩)
  have hI1 := hid (HII.out w1 h1 f1)
  clear HII it h1 f1
  go_loopw [36] (fun i wr => Hid (UniI b w a (F' + 1) D m o wr)) (fun _ wr => b.T.length - atOf wr b)
  case atStart => exact hI1
  case round =>
   obtain ⟨a1, its, N1, g1, h1a, h1l, h1, h1m, ho, h1g, f1⟩ := hrel.out
   have hat := h1.atOf
   have mo := more_any h1 h1l [124] [41]
   unfold MorePost at mo
   have s124 := tk_eq h1.tok h1l (c := 124) (by decide)
   have s41 := tk_eq h1.tok h1l (c := 41) (by decide)
   rw [tok_drop h1l] at ho
   unfold eAllT at ho
   simp only at ho
   by_cases hb : (tokAt b.T a1).s = [124]
   ·have nb : ¬(tokAt b.T a1).s = [41] := by rw [hb]; decide
    have h2l : a1 + 1 < b.T.length := tk_more h1.tok h1l (by rw [hb]; simp)
    simp only [if_pos hb] at mo
    obtain ⟨g2, rfl⟩ : ∃ g2, g1 = g2 + 1 := ⟨g1 - 1, by omega⟩
    rw [if_neg (fun q => nb (s41.1 q)), if_pos (s124.2 hb), eAllW_step] at ho
    have HT := hid hat
    clear hat s124 s41
    have HO := hid ho
    clear ho hb nb
    go_wp2_with (go_at_call 172; refine mo.mono ?_; rintro e w2 ⟨rfl, h2, f2⟩)
    rcases uni_item (F := F' + 1) hd TC h2 h2l h1m (by omega) with ⟨p, er, h3, it⟩ | ⟨i, new, a3, h3, haa3, hal3, hm3, it⟩
    ·refine it.mono ?_
     rintro e w3 ⟨rfl, f3⟩
     unfold giveV
     refine ⟨rfl, ?_⟩
     have ho := HO.out
     rw [h3] at ho
     rw [ho]
     exact ⟨rfl, (f1.trans f2).trans f3⟩
    ·refine it.mono ?_
     rintro e w3 ⟨rfl, h4, f3⟩
     have ho := HO.out
     rw [h3] at ho
     have hI2 : Hid (UniI b w a (F' + 1) D m o w3) := hid ⟨a3, _, _, g2, by omega, hal3, h4, hm3, ho, by omega, (f1.trans f2).trans f3⟩
     have hat3 := h4.atOf
     have hle : b.T.length - atOf w3 b < b.T.length - atOf wr b := by rw [hat3, HT.out]; omega
     go_wp2
     exact ⟨hI2, hle⟩
   ·simp only [if_neg hb] at mo
    by_cases hc : (tokAt b.T a1).s = [41]
    ·have h2l : a1 + 1 < b.T.length := tk_more h1.tok h1l (by rw [hc]; simp)
     simp only [if_pos hc] at mo
     rw [if_pos (s41.2 hc)] at ho
     have HO := hid ho
     clear ho hb hc s124 s41 hat
     go_wp2_with (go_at_call 172; refine mo.mono ?_; rintro e w2 ⟨rfl, h2, f2⟩)
     go_end0
     rw [HO.out]
     exact ⟨a1 + 1, rfl, by omega, h2l, rfl, h2, f1.trans f2⟩
    ·simp only [if_neg hc] at mo
     rw [if_neg (fun q => hc (s41.1 q)), if_neg (fun q => hb (s124.1 q))] at ho
     have HO := hid ho
     clear ho hb hc s124 s41 hat
     go_wp2_with (go_at_call 172; refine mo.mono ?_; rintro e w2 ⟨rfl, f2⟩; unfold giveV)
     refine ⟨rfl, ?_⟩
     rw [HO.out]
     exact ⟨rfl, f1.trans f2⟩
end
open Go.RowKit
def nmd (N : List Nd) (k : Nat) (s : List UInt8) : List Nd := N ++ [{ Nd.of k with name := s }]
def syd (N : List Nd) (s : List UInt8) (ys : List (List UInt8)) : List Nd := N ++ [{ Nd.of 9 with name := s, syms := ys }]
theorem nmd_of (N : List Nd) (k : Nat) (s : List UInt8) : ((N ++ [Nd.of k]).modify N.length fun y => { y with name := s }) = nmd N k s := mod_at (mid := []) _ rfl
theorem syd_nil (N : List Nd) (s : List UInt8) : nmd N 9 s = syd N s [] := rfl
theorem syd_of (N : List Nd) (s t : List UInt8) (ys : List (List UInt8)) : ((syd N s ys).modify N.length fun y => { y with syms := y.syms ++ [t] }) = syd N s (ys ++ [t]) := mod_at (mid := []) _ rfl
def eEnu (N : List Nd) (s : List UInt8) (o : Except PE (List (List UInt8) × List Tok)) : EO := match o with
 | .ok (ys, r3) => .ok (N.length, r3, syd N s ys)
 | .error e => .error e
theorem called_of {N : List Nd} {k : Nat} {s : List UInt8} (hs : s ≠ []) : (pCalled (N ++ [Nd.of k]) s).isSome = (pCalled N s).isSome := called_snoc (fun e => hs e.symm)
section
variable {D : Nat} {w : World} {b : RB} {a : Nat} {F : Nat} {N : List Nd}
theorem title_res {k : Nat} (h : RS w b a (N ++ [Nd.of k])) (hk : 9 ≤ k) (ha : a < b.T.length) :
  (pNm (tokAt b.T a).tt = false ∧ Calls Tryz.prog 173 #[.pointer (some ⟨b.pB, 0, none⟩), .int .i64 (N.length : Int)] w (Gv b w (tokAt b.T a).at_ 4)) ∨
  (pNm (tokAt b.T a).tt = true ∧ a + 1 < b.T.length ∧ (((pCalled N (tokAt b.T a).s).isSome = true ∧ Calls Tryz.prog 173 #[.pointer (some ⟨b.pB, 0, none⟩), .int .i64 (N.length : Int)] w (Gv b w (tokAt b.T a).at_ 6)) ∨
   ((pCalled N (tokAt b.T a).s).isSome = false ∧ Calls Tryz.prog 173 #[.pointer (some ⟨b.pB, 0, none⟩), .int .i64 (N.length : Int)] w (Un b w (a + 1) (nmd N k (tokAt b.T a).s))))) := by
 have key := title_any h ha (last_at N (Nd.of k)) hk
 unfold TitlePost at key
 cases hp : pNm (tokAt b.T a).tt with
 | false => simp only [hp, Bool.false_eq_true, if_false] at key; exact .inl ⟨rfl, key⟩
 | true =>
  simp only [hp, if_true] at key
  have hne := pNm_ne hp
  rw [nmd_of] at key
  rw [called_of hne] at key
  refine .inr ⟨rfl, tk_more h.tok ha hne, ?_⟩
  cases hc : (pCalled N (tokAt b.T a).s).isSome with
  | true => simp only [hc, if_true] at key; exact .inl ⟨rfl, key⟩
  | false => simp only [hc, Bool.false_eq_true, if_false] at key; exact .inr ⟨rfl, key⟩
def fxd (N : List Nd) (s : List UInt8) (n : Nat) : List Nd := N ++ [{ Nd.of 10 with name := s, size := n }]
theorem fxd_of (N : List Nd) (s : List UInt8) (n : Nat) : ((nmd N 10 s).modify N.length fun y => { y with size := n }) = fxd N s n := mod_at (mid := []) _ rfl
theorem inner_fix (rec : ERd) (h : RS w b a (N ++ [Nd.of 10])) (ha : a < b.T.length) :
  Calls Tryz.prog 146 #[.pointer (some ⟨b.pB, 0, none⟩), .int .i64 (N.length : Int), .int .i64 (D : Int)] w (InPost b w a (eNamed rec F 10 (b.T.drop a) N)) := by
 obtain ⟨R, g, nd⟩ := h.ndAt (last_at N (Nd.of 10))
 have p2 := nd.p2
 have n0 : w.cell? ⟨g, N.length * 6, none⟩ = some (.int .i64 10) := nd.n0
 have hl : N.length < (N ++ [Nd.of 10]).length := by simp
 rw [tok_drop ha]
 unfold eNamed
 simp only
 rcases title_res h (by decide) ha with ⟨hp, ti⟩ | ⟨hp, ha1, ⟨hc, ti⟩ | ⟨hc, ti⟩⟩
 ·rw [if_pos hp]
  go_enter Tryz.func146, Tryz.ntmps146
  go_wp2_with (go_at_call 173; refine ti.mono ?_; rintro e w1 ⟨rfl, f1⟩; unfold giveV)
  exact ⟨rfl, show Gv b w _ 4 _ _ from ⟨rfl, f1⟩⟩
 ·rw [if_neg (by rw [hp]; decide), if_pos hc]
  go_enter Tryz.func146, Tryz.ntmps146
  go_wp2_with (go_at_call 173; refine ti.mono ?_; rintro e w1 ⟨rfl, f1⟩; unfold giveV)
  exact ⟨rfl, show Gv b w _ 6 _ _ from ⟨rfl, f1⟩⟩
 ·rw [if_neg (by rw [hp]; decide), if_neg (by rw [hc]; decide), tok_drop ha1]
  simp only [if_true]
  have hn1 : (nmd N 10 (tokAt b.T a).s)[N.length]? = some { Nd.of 10 with name := (tokAt b.T a).s } := last_at N _
  by_cases hw : wOk (tokAt b.T (a + 1)).s = true
  ·have hk1 := tk_num h.tok ha1 hw
   have ha2 : a + 2 < b.T.length := tk_more h.tok ha1 (fun e => by rw [e] at hw; cases hw)
   rw [if_pos ⟨hk1, hw⟩]
   go_enter Tryz.func146, Tryz.ntmps146
   go_wp2_with (first
    | (go_at_call 173; refine ti.mono ?_; rintro e w1 ⟨rfl, h1, f1⟩)
    | (go_at_call 175; have sz := size_any h1 ha1 hn1 (show 9 ≤ 10 by decide); unfold SizePost at sz; simp only [if_pos hw] at sz; rw [fxd_of] at sz; refine sz.mono ?_; rintro e w2 ⟨rfl, h2, f2⟩))
   go_end0
   exact ⟨a + 2, rfl, by omega, ha2, rfl, h2, f1.trans f2⟩
  ·rw [if_neg (fun q => hw q.2)]
   go_enter Tryz.func146, Tryz.ntmps146
   go_wp2_with (first
    | (go_at_call 173; refine ti.mono ?_; rintro e w1 ⟨rfl, h1, f1⟩)
    | (go_at_call 175; have sz := size_any h1 ha1 hn1 (show 9 ≤ 10 by decide); unfold SizePost at sz; simp only [if_neg hw] at sz; refine sz.mono ?_; rintro e w2 ⟨rfl, f2⟩; unfold giveV))
   exact ⟨rfl, show Gv b w _ 4 _ _ from ⟨rfl, f1.trans f2⟩⟩
theorem symbol_res {s : List UInt8} {ys : List (List UInt8)} (h : RS w b a (syd N s ys)) (ha : a < b.T.length) (g : Nat) :
  (∃ p er, eSyms (g + 1) ys (b.T.drop a) = .error (p, er) ∧ Calls Tryz.prog 174 #[.pointer (some ⟨b.pB, 0, none⟩), .int .i64 (N.length : Int)] w (Gv b w p er)) ∨
  (∃ t, eSyms (g + 1) ys (b.T.drop a) = eSymT g (ys ++ [t]) (b.T.drop (a + 1)) ∧ a + 1 < b.T.length ∧ Calls Tryz.prog 174 #[.pointer (some ⟨b.pB, 0, none⟩), .int .i64 (N.length : Int)] w (Un b w (a + 1) (syd N s (ys ++ [t])))) := by
 have hn : (syd N s ys)[N.length]? = some { Nd.of 9 with name := s, syms := ys } := last_at N _
 have key := symbol_any h ha hn (show 9 ≤ 9 by decide)
 unfold SymPost at key
 rw [tok_drop ha, eSyms_step]
 cases hp : pNm (tokAt b.T a).tt with
 | false => simp only [hp, Bool.false_eq_true, if_false] at key; exact .inl ⟨_, 4, if_pos rfl, key⟩
 | true =>
  simp only [hp, if_true] at key
  simp only [Bool.true_eq_false, if_false]
  rw [syd_of] at key
  cases hc : ys.contains (tokAt b.T a).s with
  | true =>
   simp only [hc, if_true] at key
   exact .inl ⟨_, 6, if_pos rfl, key⟩
  | false =>
   simp only [hc, Bool.false_eq_true, if_false] at key
   exact .inr ⟨_, if_neg (by simp), tk_more h.tok ha (pNm_ne hp), key⟩
def EnuI (b : RB) (w : World) (a : Nat) (N : List Nd) (s : List UInt8) (o : Except PE (List (List UInt8) × List Tok)) (wr : World) : Prop :=
 ∃ a1 ys g, a ≤ a1 ∧ a1 < b.T.length ∧ RS wr b a1 (syd N s ys) ∧ o = eSymT g ys (b.T.drop a1) ∧ b.T.length - a1 < g ∧ Fr b.base w wr
theorem inner_enu (rec : ERd) (h : RS w b a (N ++ [Nd.of 9])) (ha : a < b.T.length) (hF : b.T.length - a < F) :
  Calls Tryz.prog 146 #[.pointer (some ⟨b.pB, 0, none⟩), .int .i64 (N.length : Int), .int .i64 (D : Int)] w (InPost b w a (eNamed rec F 9 (b.T.drop a) N)) := by
 obtain ⟨R, g, nd⟩ := h.ndAt (last_at N (Nd.of 9))
 have p2 := nd.p2
 have n0 : w.cell? ⟨g, N.length * 6, none⟩ = some (.int .i64 9) := nd.n0
 have hl : N.length < (N ++ [Nd.of 9]).length := by simp
 rw [tok_drop ha]
 unfold eNamed
 simp only
 rcases title_res h (by decide) ha with ⟨hp, ti⟩ | ⟨hp, ha1, ⟨hc, ti⟩ | ⟨hc, ti⟩⟩
 ·rw [if_pos hp]
  go_enter Tryz.func146, Tryz.ntmps146
  go_wp2_with (go_at_call 173; refine ti.mono ?_; rintro e w1 ⟨rfl, f1⟩; unfold giveV)
  exact ⟨rfl, show Gv b w _ 4 _ _ from ⟨rfl, f1⟩⟩
 ·rw [if_neg (by rw [hp]; decide), if_pos hc]
  go_enter Tryz.func146, Tryz.ntmps146
  go_wp2_with (go_at_call 173; refine ti.mono ?_; rintro e w1 ⟨rfl, f1⟩; unfold giveV)
  exact ⟨rfl, show Gv b w _ 6 _ _ from ⟨rfl, f1⟩⟩
 rw [if_neg (by rw [hp]; decide), if_neg (by rw [hc]; decide), tok_drop ha1]
 simp only [show ¬(9 : Nat) = 10 by decide, if_false, if_true]
 have s60 := tk_eq h.tok ha1 (c := 60) (by decide)
 obtain ⟨s, hs⟩ : ∃ s, s = (tokAt b.T a).s := ⟨_, rfl⟩
 rw [← hs] at ti ⊢
 clear hs hc hp
 by_cases hx : (tokAt b.T (a + 1)).s = [60]
 case neg =>
  rw [if_neg (fun q => hx (s60.1 q))]
  go_enter Tryz.func146, Tryz.ntmps146
  go_wp2_with (first
   | (go_at_call 173; refine ti.mono ?_; rintro e w1 ⟨rfl, h1, f1⟩)
   | (go_at_call 171; refine (sign_bad h1 ha1 [60] hx).mono ?_; rintro e w2 ⟨rfl, f2⟩; unfold giveV))
  exact ⟨rfl, show Gv b w _ 4 _ _ from ⟨rfl, f1.trans f2⟩⟩
 have ha2 : a + 2 < b.T.length := tk_more h.tok ha1 (by rw [hx]; simp)
 rw [if_pos (s60.2 hx)]
 obtain ⟨F', rfl⟩ : ∃ F', F = F' + 1 := ⟨F - 1, by omega⟩
 change Calls _ _ _ w (InPost b w a (eEnu N s (eSyms (F' + 1) [] (b.T.drop (a + 2)))))
 obtain ⟨o, ho⟩ : ∃ o, o = eSyms (F' + 1) [] (b.T.drop (a + 2)) := ⟨_, rfl⟩
 rw [← ho]
 have HO := hid ho
 clear ho
 go_enter Tryz.func146, Tryz.ntmps146
 go_wp2_with (first
  | (go_at_call 173; refine ti.mono ?_; rintro e w1 ⟨rfl, h1, f1⟩)
  | (go_at_call 171; refine (sign_ok h1 ha1 [60] hx).mono ?_; rintro e w2 ⟨rfl, h2, f2⟩; rw [syd_nil] at h2))
 rcases symbol_res h2 ha2 F' with ⟨p, er, h3, it⟩ | ⟨t, h3, ha3, it⟩
 ·refine it.mono ?_
  rintro e w3 ⟨rfl, f3⟩
  unfold giveV
  refine ⟨rfl, ?_⟩
  rw [HO.out, h3]
  exact ⟨rfl, (f1.trans f2).trans f3⟩
 refine it.mono ?_
 rintro e w3 ⟨rfl, h4, f3⟩
 have hI1 : Hid (EnuI b w a N s o w3) := hid ⟨a + 3, _, F', by omega, ha3, h4, HO.out.trans h3, by omega, (f1.trans f2).trans f3⟩
 clear HO h3 it
 go_wp2
 go_loopw [52] (fun i wr => Hid (EnuI b w a N s o wr)) (fun _ wr => b.T.length - atOf wr b)
 case atStart => exact hI1
 case round =>
  obtain ⟨a1, ys, g1, h1a, h1l, h5, ho, h1g, f5⟩ := hrel.out
  have hat := h5.atOf
  have mo := more_any h5 h1l [44] [62]
  unfold MorePost at mo
  have s44 := tk_eq h5.tok h1l (c := 44) (by decide)
  have s62 := tk_eq h5.tok h1l (c := 62) (by decide)
  rw [tok_drop h1l] at ho
  unfold eSymT at ho
  simp only at ho
  by_cases hb : (tokAt b.T a1).s = [44]
  ·have nb : ¬(tokAt b.T a1).s = [62] := by rw [hb]; decide
   have h2l : a1 + 1 < b.T.length := tk_more h5.tok h1l (by rw [hb]; simp)
   simp only [if_pos hb] at mo
   obtain ⟨g2, rfl⟩ : ∃ g2, g1 = g2 + 1 := ⟨g1 - 1, by omega⟩
   rw [if_neg (fun q => nb (s62.1 q)), if_pos (s44.2 hb)] at ho
   have HT := hid hat
   clear hat s44 s62
   have HO := hid ho
   clear ho hb nb
   go_wp2_with (go_at_call 172; refine mo.mono ?_; rintro e w4 ⟨rfl, h6, f6⟩)
   rcases symbol_res h6 h2l g2 with ⟨p, er, h7, it⟩ | ⟨t, h7, ha7, it⟩
   ·refine it.mono ?_
    rintro e w5 ⟨rfl, f7⟩
    unfold giveV
    refine ⟨rfl, ?_⟩
    have ho := HO.out
    rw [h7] at ho
    rw [ho]
    exact ⟨rfl, (f5.trans f6).trans f7⟩
   ·refine it.mono ?_
    rintro e w5 ⟨rfl, h8, f7⟩
    have ho := HO.out
    rw [h7] at ho
    have hI2 : Hid (EnuI b w a N s o w5) := hid ⟨a1 + 1 + 1, _, g2, by omega, ha7, h8, ho, by omega, (f5.trans f6).trans f7⟩
    have hat3 := h8.atOf
    have hle : b.T.length - atOf w5 b < b.T.length - atOf wr b := by rw [hat3, HT.out]; omega
    go_wp2
    exact ⟨hI2, hle⟩
  ·simp only [if_neg hb] at mo
   by_cases hc : (tokAt b.T a1).s = [62]
   ·have h2l : a1 + 1 < b.T.length := tk_more h5.tok h1l (by rw [hc]; simp)
    simp only [if_pos hc] at mo
    rw [if_pos (s62.2 hc)] at ho
    have HO := hid ho
    clear ho hb hc s44 s62 hat
    go_wp2_with (go_at_call 172; refine mo.mono ?_; rintro e w4 ⟨rfl, h6, f6⟩)
    go_end0
    rw [HO.out]
    exact ⟨a1 + 1, rfl, by omega, h2l, rfl, h6, f5.trans f6⟩
   ·simp only [if_neg hc] at mo
    rw [if_neg (fun q => hc (s62.1 q)), if_neg (fun q => hb (s44.1 q))] at ho
    have HO := hid ho
    clear ho hb hc s44 s62 hat
    go_wp2_with (go_at_call 172; refine mo.mono ?_; rintro e w4 ⟨rfl, f6⟩; unfold giveV)
    refine ⟨rfl, ?_⟩
    rw [HO.out]
    exact ⟨rfl, f5.trans f6⟩
end
end Go.Proofs.YtgigiecdpjchkaaGreatDoor
