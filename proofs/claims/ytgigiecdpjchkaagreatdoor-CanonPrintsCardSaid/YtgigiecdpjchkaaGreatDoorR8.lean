import Derived.Test.YtgigiecdpjchkaaGreatDoorR7
import Derived.Test.YtgigiecdpjchkaaGreatDoorR1
import Derived.Defers
import Derived.Recover
import Derived.Test.YtgigiecdpjchkaaGreatDoorR3
import Derived.Lib.Builder
import Derived.Lib.ItoaNum
import Derived.Lib.LaidTab
import Derived.Lib.ItoaMem
set_option linter.unusedSimpArgs false
set_option linter.unusedVariables false
set_option linter.unusedSectionVars false
set_option maxRecDepth 100000
set_option maxHeartbeats 6400000
namespace Go.Proofs.YtgigiecdpjchkaaGreatDoor
open Go.RowKit
def setFls (N : List Nd) (m : Nat) (fs : List Fl) : List Nd := N.modify m fun y => { y with fields := fs }
def eRec (o : Except PE (List Fl × List Tok × List Nd)) (m : Nat) : EO := match o with
 | .ok (fs, r1, N1) => .ok (m, r1, setFls N1 m fs)
 | .error e => .error e
section
variable {D : Nat} {w : World} {b : RB} {a : Nat} {F : Nat}
theorem field_alike {T : List Tok} (hT : TOk T) {S N : List Nd} {fs : List Fl} (hd : D ≤ 20) (ha : a < T.length) (hF : T.length - a < F) (hN : NE S N) :
  (∃ p er, eField (eType F D none) fs (tokAt T a) (T.drop (a + 1)) S = .error (p, er) ∧ eField (eType F D none) fs (tokAt T a) (T.drop (a + 1)) N = .error (p, er)) ∨
  (∃ f new a', eField (eType F D none) fs (tokAt T a) (T.drop (a + 1)) S = .ok (f, T.drop a', S ++ new) ∧ eField (eType F D none) fs (tokAt T a) (T.drop (a + 1)) N = .ok (f, T.drop a', N ++ new) ∧ a < a' ∧ a' < T.length) := by
 unfold eField
 by_cases hp : pNm (tokAt T a).tt = false
 ·rw [if_pos hp, if_pos hp]; exact .inl ⟨_, _, rfl, rfl⟩
 rw [if_neg hp, if_neg hp]
 have ha1 : a + 1 < T.length := tk_more hT ha (pNm_ne (by simpa using hp))
 by_cases hc : (fs.any fun y => y.name == (tokAt T a).s) = true
 ·rw [if_pos hc, if_pos hc]; exact .inl ⟨_, _, rfl, rfl⟩
 rw [if_neg hc, if_neg hc, eHas_at hT ha1]
 have hcl := colAt_lt hT ha1
 have hca : a + 1 ≤ colAt T (a + 1) := by unfold colAt; split <;> omega
 by_cases hcol : (tokAt T (colAt T (a + 1))).s = [58]
 case neg => simp only [if_neg hcol]; exact .inl ⟨_, _, rfl, rfl⟩
 simp only [if_pos hcol]
 have hal : colAt T (a + 1) + 1 < T.length := tk_more hT hcl (by rw [hcol]; simp)
 have lik := type_alike (deep := D) (un := none) (F := F) hT hd hal (by omega) hN
 revert lik
 generalize eType F D none (T.drop (colAt T (a + 1) + 1)) S = oo
 intro lik
 cases oo with
 | error p =>
  obtain ⟨p, er⟩ := p
  rw [lik.2]
  exact .inl ⟨_, _, rfl, rfl⟩
 | ok p =>
  obtain ⟨i, ts, S'⟩ := p
  obtain ⟨new, a', rfl, e1, rfl, haa, hal'⟩ := lik
  rw [e1, tok_drop hal']
  simp only
  have s59 := tk_eq hT hal' (c := 59) (by decide)
  by_cases hs : (tokAt T a').s = [59]
  ·rw [if_pos (s59.2 hs), if_pos (s59.2 hs)]
   exact .inr ⟨_, new, a' + 1, rfl, rfl, by omega, tk_more hT hal' (by rw [hs]; simp)⟩
  ·rw [if_neg (fun q => hs (s59.1 q)), if_neg (fun q => hs (s59.1 q))]
   exact .inl ⟨_, _, rfl, rfl⟩
theorem field_res (hd : D ≤ 20) (TC : TypC D) {m : Nat} {s : List UInt8} {fs : List Fl} {N1 : List Nd} (h : RS w b a (setFls N1 m fs)) (ha : a < b.T.length) (hm : N1[m]? = some { Nd.of 11 with name := s }) (hF : b.T.length - a < F) :
  (∃ p er, eField (eType F D none) fs (tokAt b.T a) (b.T.drop (a + 1)) N1 = .error (p, er) ∧ Calls Tryz.prog 177 #[.pointer (some ⟨b.pB, 0, none⟩), .int .i64 (m : Int), .int .i64 (D : Int)] w (Gv b w p er)) ∨
  (∃ f new a', eField (eType F D none) fs (tokAt b.T a) (b.T.drop (a + 1)) N1 = .ok (f, b.T.drop a', N1 ++ new) ∧ a < a' ∧ a' < b.T.length ∧ (N1 ++ new)[m]? = some { Nd.of 11 with name := s } ∧ Calls Tryz.prog 177 #[.pointer (some ⟨b.pB, 0, none⟩), .int .i64 (m : Int), .int .i64 (D : Int)] w
   fun e w' => e = .returned (.tuple #[]) ∧ RS w' b a' (setFls (N1 ++ new) m (fs ++ [f])) ∧ Fr b.base w w') := by
 have hml : m < N1.length := (List.getElem?_eq_some_iff.1 hm).1
 have hs : (setFls N1 m fs)[m]? = some { Nd.of 11 with name := s, fields := fs } := modify_at hm
 have hNE : NE (setFls N1 m fs) N1 := NE.modify fun _ => rfl
 have it := field_any hd TC h ha hs rfl hF
 rcases field_alike (fs := fs) h.tok hd ha hF hNE with ⟨p, er, e1, e2⟩ | ⟨f, new, a', e1, e2, haa, hal⟩
 ·rw [show ({ Nd.of 11 with name := s, fields := fs } : Nd).fields = fs from rfl, e1] at it
  exact .inl ⟨p, er, e2, it⟩
 ·rw [show ({ Nd.of 11 with name := s, fields := fs } : Nd).fields = fs from rfl, e1] at it
  refine .inr ⟨f, new, a', e2, haa, hal, by rw [List.getElem?_append_left hml]; exact hm, it.mono ?_⟩
  rintro e w' ⟨a2, e3, _, e4, rfl, h2, f2⟩
  obtain rfl := drop_inj hal e4 e3
  refine ⟨rfl, ?_, f2⟩
  have e : ((setFls N1 m fs ++ new).modify m fun y => { y with fields := y.fields ++ [f] }) = setFls (N1 ++ new) m (fs ++ [f]) := by
   unfold setFls
   rw [← modify_app hml, modify_two]
  rw [← e]
  exact h2
def RecI (b : RB) (w : World) (a F D m : Nat) (s : List UInt8) (o : Except PE (List Fl × List Tok × List Nd)) (wr : World) : Prop :=
 ∃ a1 fs N1 g, a ≤ a1 ∧ a1 < b.T.length ∧ RS wr b a1 (setFls N1 m fs) ∧ N1[m]? = some { Nd.of 11 with name := s } ∧ o = eFields (eType F D none) g fs (b.T.drop a1) N1 ∧ b.T.length - a1 < g ∧ Fr b.base w wr
theorem inner_rec (hd : D ≤ 20) (TC : TypC D) {N : List Nd} (h : RS w b a (N ++ [Nd.of 11])) (ha : a < b.T.length) (hF : b.T.length - a < F) :
  Calls Tryz.prog 146 #[.pointer (some ⟨b.pB, 0, none⟩), .int .i64 (N.length : Int), .int .i64 (D : Int)] w (InPost b w a (eNamed (eType F D none) F 11 (b.T.drop a) N)) := by
 obtain ⟨R, g, nd⟩ := h.ndAt (last_at N (Nd.of 11))
 have p2 := nd.p2
 have n0 : w.cell? ⟨g, N.length * 6, none⟩ = some (.int .i64 11) := nd.n0
 have hl : N.length < (N ++ [Nd.of 11]).length := by simp
 rw [tok_drop ha]
 unfold eNamed
 simp only
 rcases title_res h (by decide) ha with ⟨hp, ti⟩ | ⟨hp, ha1, ⟨hc, ti⟩ | ⟨hc, ti⟩⟩
 ·rw [if_pos hp]
  go_enter Tryz.func146, Tryz.ntmps146
  go_wp2_with (go_at_call 173; refine ti.mono ?_; rintro e w1 ⟨rfl, f1⟩; unfold giveV)
  exact ⟨rfl, show Gv b w _ 4 _ _ from ⟨rfl, f1⟩⟩
 ·rw [if_neg (by rw [hp]; decide), if_pos hc]
  go_enter Tryz.func146, Tryz.ntmps146
  go_wp2_with (go_at_call 173; refine ti.mono ?_; rintro e w1 ⟨rfl, f1⟩; unfold giveV)
  exact ⟨rfl, show Gv b w _ 6 _ _ from ⟨rfl, f1⟩⟩
 rw [if_neg (by rw [hp]; decide), if_neg (by rw [hc]; decide), tok_drop ha1]
 simp only [show ¬(11 : Nat) = 10 by decide, show ¬(11 : Nat) = 9 by decide, if_false]
 have s123 := tk_eq h.tok ha1 (c := 123) (by decide)
 obtain ⟨s, hs⟩ : ∃ s, s = (tokAt b.T a).s := ⟨_, rfl⟩
 rw [← hs] at ti ⊢
 clear hs hc hp
 by_cases hx : (tokAt b.T (a + 1)).s = [123]
 case neg =>
  rw [if_neg (fun q => hx (s123.1 q))]
  go_enter Tryz.func146, Tryz.ntmps146
  go_wp2_with (first
   | (go_at_call 173; refine ti.mono ?_; rintro e w1 ⟨rfl, h1, f1⟩)
   | (go_at_call 171; refine (sign_bad h1 ha1 [123] hx).mono ?_; rintro e w2 ⟨rfl, f2⟩; unfold giveV))
  exact ⟨rfl, show Gv b w _ 4 _ _ from ⟨rfl, f1.trans f2⟩⟩
 have ha2 : a + 2 < b.T.length := tk_more h.tok ha1 (by rw [hx]; simp)
 rw [if_pos (s123.2 hx)]
 change Calls _ _ _ w (InPost b w a (eRec (eFields (eType F D none) F [] (b.T.drop (a + 2)) (nmd N 11 s)) N.length))
 obtain ⟨o, ho⟩ : ∃ o, o = eFields (eType F D none) F [] (b.T.drop (a + 2)) (nmd N 11 s) := ⟨_, rfl⟩
 rw [← ho]
 have hm0 : (nmd N 11 s)[N.length]? = some { Nd.of 11 with name := s } := last_at N _
 have e0 : setFls (nmd N 11 s) N.length [] = nmd N 11 s := modify_id hm0 rfl
 have HO := hid ho
 clear ho
 go_enter Tryz.func146, Tryz.ntmps146
 go_wp2_with (first
  | (go_at_call 173; refine ti.mono ?_; rintro e w1 ⟨rfl, h1, f1⟩)
  | (go_at_call 171; refine (sign_ok h1 ha1 [123] hx).mono ?_; rintro e w2 ⟨rfl, h2, f2⟩; rw [← e0] at h2))
 have hI1 : Hid (RecI b w a F D N.length s o w2) := hid ⟨a + 2, _, _, F, by omega, ha2, h2, hm0, HO.out, by omega, f1.trans f2⟩
 clear HO
 go_loopw [72] (fun i wr => Hid (RecI b w a F D N.length s o wr)) (fun _ wr => b.T.length - atOf wr b)
 case atStart => exact hI1
 case round =>
  obtain ⟨a1, fs, N1, g1, h1a, h1l, h5, hm, ho, h1g, f5⟩ := hrel.out
  have hat := h5.atOf
  have sk := skip_any h5 h1l [125]
  have s125 := tk_eq h5.tok h1l (c := 125) (by decide)
  obtain ⟨g2, rfl⟩ : ∃ g2, g1 = g2 + 1 := ⟨g1 - 1, by omega⟩
  rw [tok_drop h1l, eFields_step] at ho
  by_cases hb : (tokAt b.T a1).s = [125]
  ·have h2l : a1 + 1 < b.T.length := tk_more h5.tok h1l (by rw [hb]; simp)
   have eb : ((tokAt b.T a1).s == [125]) = true := by simpa using hb
   simp only [if_pos hb, eb] at sk
   rw [if_pos (s125.2 hb)] at ho
   have HO := hid ho
   clear ho hb s125 hat eb
   go_wp2_with (go_at_call 176; refine sk.mono ?_; rintro e w4 ⟨rfl, h6, f6⟩)
   go_end0
   rw [HO.out]
   exact ⟨a1 + 1, rfl, by omega, h2l, rfl, h6, f5.trans f6⟩
  ·have eb : ((tokAt b.T a1).s == [125]) = false := by simpa using hb
   simp only [if_neg hb, eb] at sk
   rw [if_neg (fun q => hb (s125.1 q))] at ho
   have HT := hid hat
   have HO := hid ho
   clear ho hb s125 hat eb
   go_wp2_with (go_at_call 176; refine sk.mono ?_; rintro e w4 ⟨rfl, h6, f6⟩)
   rcases field_res (F := F) hd TC h6 h1l hm (by omega) with ⟨p, er, h7, it⟩ | ⟨f, new, a3, h7, haa3, ha7, hm7, it⟩
   ·refine it.mono ?_
    rintro e w5 ⟨rfl, f7⟩
    unfold giveV
    refine ⟨rfl, ?_⟩
    have ho := HO.out
    rw [h7] at ho
    rw [ho]
    exact ⟨rfl, (f5.trans f6).trans f7⟩
   ·refine it.mono ?_
    rintro e w5 ⟨rfl, h8, f7⟩
    have ho := HO.out
    rw [h7] at ho
    have hI2 : Hid (RecI b w a F D N.length s o w5) := hid ⟨a3, _, _, g2, by omega, ha7, h8, hm7, ho, by omega, (f5.trans f6).trans f7⟩
    have hat3 := h8.atOf
    have hle : b.T.length - atOf w5 b < b.T.length - atOf wr b := by rw [hat3, HT.out]; omega
    go_wp2
    exact ⟨hI2, hle⟩
end
open Go.RowKit
section
variable {D : Nat} {w : World} {b : RB} {a : Nat} {F : Nat} {S : List Nd}
def InOk (S : List Nd) (inn : Int) : Prop := inn = -1 ∨ ∃ m : Nat, inn = (m : Int) ∧ m < S.length
theorem apart_res (h : RS w b a S) (t : Tok) (k n : Int) {inn : Int} (hi : InOk S inn) :
  Calls Tryz.prog 145 #[.pointer (some ⟨b.pB, 0, none⟩), .agg (tc t).toArray, .int .i64 inn, .int .i64 k, .int .i64 n] w
   fun e w' => if (unOf S inn).isSome = true ∧ k = 8 then Gv b w t.at_ 4 e w' else if ((unOf S inn).getD []).any (apB S k n) = true then Gv b w t.at_ 6 e w' else Un b w a S e w' := by
 rcases hi with rfl | ⟨m, rfl, hm⟩
 ·rw [unOf_top]
  refine (apart_top h t k n).mono fun e w' hu => ?_
  rw [if_neg (by simp), if_neg (by simp)]
  exact hu
 ·have hx : S[m]? = some S[m] := List.getElem?_eq_getElem hm
  rw [unOf_at hx]
  by_cases h8 : S[m].k = 8
  ·rw [if_pos h8]
   by_cases hk : k = 8
   ·subst hk
    refine (apart_two h t n hx h8).mono fun e w' hu => ?_
    rw [if_pos ⟨rfl, rfl⟩]
    exact hu
   ·refine (apart_any h t k n hk hx h8).mono fun e w' hu => ?_
    rw [if_neg (fun q => hk q.2)]
    exact hu
  ·rw [if_neg h8]
   refine (apart_free h t k n hx h8).mono fun e w' hu => ?_
   rw [if_neg (by simp), if_neg (by simp)]
   exact hu
theorem any_and {α : Type} (c : Bool) (p : α → Bool) : ∀ l : List α, l.any (fun i => c && p i) = (c && l.any p)
 | [] => by simp
 | x :: l => by rw [List.any_cons, List.any_cons, any_and c p l]; cases c <;> simp
theorem any_congr {α : Type} {p q : α → Bool} : ∀ {l : List α}, (∀ y ∈ l, p y = q y) → l.any p = l.any q
 | [], _ => rfl
 | y :: l, h => by rw [List.any_cons, List.any_cons, h y (List.mem_cons_self ..), any_congr fun z hz => h z (List.mem_cons_of_mem _ hz)]
theorem unOf_in (h : NOk S a) {inn : Int} {its : List Nat} (hu : unOf S inn = some its) : ∀ i ∈ its, i < S.length := by
 unfold unOf at hu
 split at hu
 ·cases hu
 ·split at hu
  ·rename_i x hx
   split at hu
   ·injection hu with hu
    subst hu
    exact h.inn x (List.mem_of_getElem? hx)
   ·cases hu
  ·cases hu
theorem ap_word (h : NOk S a) (inn : Int) (k : Nat) : ((unOf S inn).getD []).any (apB S (k : Int) (S.length : Int)) = eSame (unOf S inn) S k := by
 unfold eSame
 cases hu : unOf S inn with
 | none => rfl
 | some its =>
  have hin := unOf_in h hu
  simp only [Option.getD_some, Option.isSome_some, Bool.true_and]
  rw [← any_and]
  refine any_congr fun i hi => ?_
  have hl := hin i hi
  unfold apB kindAt
  rw [List.getElem?_eq_getElem hl, decide_eq_false (show ¬(i : Int) = (S.length : Int) by omega), Bool.false_or]
  have e1 : decide ((k : Int) < 9) = decide (k < 9) := decide_eq_decide.2 (by omega)
  rw [e1]
  congr 1
  simp only [Option.map_some]
  by_cases e : S[i].k = k
  ·rw [e]; simp
  ·rw [decide_eq_false (by omega)]; symm; rw [beq_eq_false_iff_ne]; intro q; injection q with q; exact e q
theorem ap_name (inn : Int) (n : Nat) : ((unOf S inn).getD []).any (apB S (-1) (n : Int)) = ((unOf S inn).getD []).contains n := by
 generalize (unOf S inn).getD [] = l
 have e : ∀ i : Nat, apB S (-1) (n : Int) i = (n == i) := fun i => by
  have key : apB S (-1) (n : Int) i = decide ((i : Int) = (n : Int)) := by
   unfold apB
   cases S[i]? with
   | none => simp
   | some y =>
    have h1 : decide ((y.k : Int) = -1) = false := decide_eq_false (by omega)
    simp only [h1, Bool.and_false, Bool.or_false]
  rw [key]
  by_cases q : i = n
  ·subst q; simp
  ·rw [decide_eq_false (by omega)]; symm; rw [beq_eq_false_iff_ne]; exact fun z => q z.symm
 induction l with
 | nil => rfl
 | cons i l ih => rw [List.any_cons, List.contains_cons, e, ih]
theorem inner_any (hd : D ≤ 20) (TC : TypC D) {N : List Nd} {k : Nat} (hk : k < 12) (h : RS w b a (N ++ [Nd.of k])) (ha : a < b.T.length) (hF : b.T.length - a < F) :
  Calls Tryz.prog 146 #[.pointer (some ⟨b.pB, 0, none⟩), .int .i64 (N.length : Int), .int .i64 (D : Int)] w (InPost b w a (eBody (fun u => eType F D u) F k (b.T.drop a) N)) := by
 unfold eBody
 by_cases h6 : k < 6
 ·rw [if_pos h6]
  refine (inner_plain h ha h6).mono ?_
  rintro e w' ⟨rfl, h1, f1⟩
  exact ⟨a, rfl, Nat.le_refl _, ha, rfl, h1, f1⟩
 rw [if_neg h6]
 by_cases e6 : k = 6
 ·subst e6; rw [if_pos rfl]; exact inner_arr hd TC h (last_at _ _) ha hF
 rw [if_neg e6]
 by_cases e7 : k = 7
 ·subst e7; rw [if_pos rfl]; exact inner_map hd TC h (last_at _ _) ha hF
 rw [if_neg e7]
 by_cases e8 : k = 8
 ·subst e8
  rw [if_pos rfl]
  exact inner_uni hd TC h (last_at _ _) ha hF
 rw [if_neg e8]
 by_cases e9 : k = 9
 ·subst e9; exact inner_enu _ h ha hF
 by_cases e10 : k = 10
 ·subst e10; exact inner_fix _ h ha
 obtain rfl : k = 11 := by omega
 exact inner_rec hd TC h ha hF
end
open Go.RowKit
section
variable {w : World} {b : RB} {a : Nat} {F : Nat} {S : List Nd}
theorem RS.lenS (h : RS w b a S) : ∃ A c, w.cell? ⟨b.pB, 2, none⟩ = some (.slice A S.length c) := by
 obtain ⟨R, _, _, _, _, p2, _⟩ := h.opn
 exact ⟨_, _, p2⟩
theorem wordNo_some {s : List UInt8} {k : Nat} (h : pWord s = some k) : wordNo s = (k : Int) := by unfold wordNo; rw [h]
theorem wordNo_no {s : List UInt8} (h : pWord s = none) : wordNo s = -1 := by unfold wordNo; rw [h]
theorem typ_name (h : RS w b a S) (ha : a < b.T.length) {inn : Int} (hi : InOk S inn) {d : Nat} (hk : pKind (tokAt b.T a).tt = none) (rec : Option (List Nat) → ERd) :
  Calls Tryz.prog 112 #[.pointer (some ⟨b.pB, 0, none⟩), .int .i64 inn, .int .i64 (d : Int)] w (TypPost b w a (eStep rec F d (unOf S inn) (tokAt b.T a) (b.T.drop (a + 1)) S)) := by
 have hw := h.hw
 have hl := h.brief _ ha
 have hS := h.ok.few
 rw [eStep_name hk]
 have hpw : pWord (tokAt b.T a).s = none := by rw [← tk_kind h.tok ha]; exact hk
 have hnm : pNm (tokAt b.T a).tt = wName (tokAt b.T a).s := by
  rw [tk_nm h.tok ha]
  unfold keyW
  rw [hpw]
  simp
 have hne : wName (tokAt b.T a).s = true → (tokAt b.T a).s ≠ [] := fun e q => by rw [q] at e; cases e
 have ha1 : wName (tokAt b.T a).s = true → a + 1 < b.T.length := fun e => tk_more h.tok ha (hne e)
 rw [hnm]
 obtain ⟨t, ht⟩ : ∃ t, t = tokAt b.T a := ⟨_, rfl⟩
 rw [← ht] at hl hpw hne ha1 ⊢
 have HT := hid ht
 clear ht hk hnm
 obtain ⟨o, ho⟩ : ∃ o, TypPost b w a o = TypPost b w a _ := ⟨_, rfl⟩
 rw [← ho]
 have HO := hid ho
 clear ho
 have hkn := fun {w : World} (hL : LF w) => kind_eq t.s w hL
 rw [wordNo_no hpw] at hkn
 clear hpw
 have hfd := fun {w : World} (h : RS w b (a + 1) S) => find_any h t.s
 go_enter Tryz.func112, Tryz.ntmps112
 go_upto_region 2 with (first
  | (go_at_call 113; refine (take_t HT h ha).mono ?_; rintro e w1 ⟨rfl, h1, f1⟩)
  | (refine wp_var rfl rfl 90 _ _ rfl rfl rfl rfl zTok (fun _ => rfl) (xs := tc t) (fun _ => rfl) rfl szTok (tc_one t) ?_; intro g2 w2 hgg2 hb2 ht2; have c1 := tok1 hb2; have c0 := tok0 hb2))
 have h2 := h1.turn0 ht2
 obtain ⟨A2, c2, p2⟩ := h2.lenS
 go_quiet ((go_at_call 142; exact quiet_eq (hkn h2.laid)))
 have hT : Turn w2 (w2.drewN nq) none := (Turn.refl w2 none).drewN nq
 obtain ⟨w3, hw3⟩ : ∃ w3, w3 = w2.drewN nq := ⟨_, rfl⟩
 rw [← hw3]
 rw [← hw3] at hT
 clear hw3 p2 c1 c0
 have h3 := h2.turn0 hT
 have hb3 := hb2.turn0 hT
 have d1 := tok1 hb3
 have f3 := (f1.turn ht2 hw).turn hT hw
 cases hn : wName t.s with
 | false =>
  have ho := HO.out
  rw [hn, if_pos rfl] at ho
  have HO := hid ho
  clear ho
  have HN := hid hn
  clear hn
  obtain ⟨q, hq⟩ : ∃ q, fnd S t.s = q := ⟨_, rfl⟩
  rw [hq] at hfd
  clear hq
  go_wp2_with (first
   | (go_at_call 143; refine (hfd h3).mono ?_; rintro e w4 ⟨rfl, ht4⟩; have d1 := tok1 (hb3.turn0 ht4))
   | (go_at_call 144; refine (lexDone.name _ t.s _ rfl (by omega)).mono ?_; rintro e w5 ⟨rfl, ht5⟩; rw [HN.out])
   | (refine wp_ld rfl 90 _ rfl rfl ((hb3.turn0 ht4).turn0 ht5) (Sub.all (tc t)) Tryz.underlying90 rfl szTok ?_)
   | (go_at_call 114; refine (refuse_any t 4 _).mono ?_; rintro e w6 ⟨rfl, ht6⟩; unfold giveV))
  refine ⟨rfl, ?_⟩
  rw [HO.out]
  exact ⟨rfl, ((f3.turn ht4 hw).turn ht5 hw).turn ht6 hw⟩
 | true =>
  have ho := HO.out
  rw [hn, if_neg (by decide)] at ho
  have hq := fnd_called h.ok (hne hn)
  have hal := ha1 hn
  have HN := hid hn
  clear hn hne ha1
  by_cases hd : 20 ≤ d
  ·rw [if_pos hd] at ho
   have HO := hid ho
   clear ho
   have hdi : (20 : Int) ≤ (d : Int) := by omega
   clear hq
   obtain ⟨q, hq⟩ : ∃ q, fnd S t.s = q := ⟨_, rfl⟩
   rw [hq] at hfd
   clear hq
   go_wp2_with (first
    | (go_at_call 143; refine (hfd h3).mono ?_; rintro e w4 ⟨rfl, ht4⟩; have d1 := tok1 (hb3.turn0 ht4))
    | (go_at_call 144; refine (lexDone.name _ t.s _ rfl (by omega)).mono ?_; rintro e w5 ⟨rfl, ht5⟩; rw [HN.out])
    | (refine wp_ld rfl 90 _ rfl rfl ((hb3.turn0 ht4).turn0 ht5) (Sub.all (tc t)) Tryz.underlying90 rfl szTok ?_)
    | (go_at_call 114; refine (refuse_any t 2 _).mono ?_; rintro e w6 ⟨rfl, ht6⟩; unfold giveV))
   refine ⟨rfl, ?_⟩
   rw [HO.out]
   exact ⟨rfl, ((f3.turn ht4 hw).turn ht5 hw).turn ht6 hw⟩
  ·rw [if_neg hd] at ho
   have hdi : ¬(20 : Int) ≤ (d : Int) := by omega
   cases hc : pCalled S t.s with
   | none =>
    rw [hc] at hq ho
    rw [hq] at hfd
    have HO := hid ho
    clear hq hc ho
    go_wp2_with (first
     | (go_at_call 143; refine (hfd h3).mono ?_; rintro e w4 ⟨rfl, ht4⟩; have d1 := tok1 (hb3.turn0 ht4))
     | (go_at_call 144; refine (lexDone.name _ t.s _ rfl (by omega)).mono ?_; rintro e w5 ⟨rfl, ht5⟩; rw [HN.out])
     | (refine wp_ld rfl 90 _ rfl rfl ((hb3.turn0 ht4).turn0 ht5) (Sub.all (tc t)) Tryz.underlying90 rfl szTok ?_)
     | (go_at_call 114; refine (refuse_any t 5 _).mono ?_; rintro e w6 ⟨rfl, ht6⟩; unfold giveV))
    refine ⟨rfl, ?_⟩
    rw [HO.out]
    exact ⟨rfl, ((f3.turn ht4 hw).turn ht5 hw).turn ht6 hw⟩
   | some n =>
    have hnl : n < S.length := by
     unfold pCalled at hc
     rw [List.findIdx?_eq_some_iff_getElem] at hc
     exact hc.1
    rw [hc] at hq ho
    simp only at hq ho
    rw [hq] at hfd
    clear hq hc
    have n1 : ((n : Int) == -1) = false := by rw [beq_eq_false_iff_ne]; omega
    have ap := fun {w : World} (h : RS w b (a + 1) S) => apart_res h t (-1) (n : Int) hi
    simp only [ap_name, show ¬((-1 : Int) = 8) by decide, and_false, if_false] at ap
    cases hct : ((unOf S inn).getD []).contains n with
    | true =>
     simp only [hct, if_true] at ap
     rw [if_pos hct] at ho
     have HO := hid ho
     clear ho hct
     go_wp2_with (first
      | (go_at_call 143; refine (hfd h3).mono ?_; rintro e w4 ⟨rfl, ht4⟩; have d1 := tok1 (hb3.turn0 ht4))
      | (go_at_call 144; refine (lexDone.name _ t.s _ rfl (by omega)).mono ?_; rintro e w5 ⟨rfl, ht5⟩; rw [HN.out])
      | (refine wp_ld rfl 90 _ rfl rfl ((hb3.turn0 ht4).turn0 ht5) (Sub.all (tc t)) Tryz.underlying90 rfl szTok ?_)
      | (go_at_call 145; refine (ap ((h3.turn0 ht4).turn0 ht5)).mono ?_; rintro e w6 ⟨rfl, f6⟩; unfold giveV))
     refine ⟨rfl, ?_⟩
     rw [HO.out]
     exact ⟨rfl, ((f3.turn ht4 hw).turn ht5 hw).trans f6⟩
    | false =>
     simp only [hct, Bool.false_eq_true, if_false] at ap
     rw [if_neg (by rw [hct]; decide)] at ho
     have HO := hid ho
     clear ho hct
     go_wp2_with (first
      | (go_at_call 143; refine (hfd h3).mono ?_; rintro e w4 ⟨rfl, ht4⟩; have d1 := tok1 (hb3.turn0 ht4))
      | (go_at_call 144; refine (lexDone.name _ t.s _ rfl (by omega)).mono ?_; rintro e w5 ⟨rfl, ht5⟩; rw [HN.out])
      | (refine wp_ld rfl 90 _ rfl rfl ((hb3.turn0 ht4).turn0 ht5) (Sub.all (tc t)) Tryz.underlying90 rfl szTok ?_)
      | (go_at_call 145; refine (ap ((h3.turn0 ht4).turn0 ht5)).mono ?_; rintro e w6 ⟨rfl, h6, f6⟩))
     go_ret
     rw [HO.out]
     exact ⟨a + 1, rfl, by omega, hal, hnl, rfl, h6, ((f3.turn ht4 hw).turn ht5 hw).trans f6⟩
end
open Go.RowKit
def ndZ (k : Nat) : List Value := [.int .i64 (k : Int), .string ⟨#[]⟩, .int .i64 0, .slice none 0 0, .slice none 0 0, .slice none 0 0]
section
variable {w w1 : World} {b : RB} {a : Nat} {F : Nat} {S : List Nd} {R : Ix → Rw}
theorem RS.push (h : RS w b a S) (hN : NR w b.base R S) (hrb : Blk w b.pB 110 (rsCells b.A0 b.c0 b.T R a).toArray) (hS : S.length < 200) (k : Nat) {A : Option Addr} {c : Nat} (ho : Own w1 b.base 64 6 A (S.length + 1) c (ndCells R 0 S ++ ndZ k))
  (ht : Turn w w1 (blk (R none).A)) (hb : blk A = blk (R none).A ∨ blk A = some w.heap.size) :
  RS (w1.setCell ⟨b.pB, 2, none⟩ (.slice A (S.length + 1) c)) b a (S ++ [Nd.of k]) ∧ Fr b.base w (w1.setCell ⟨b.pB, 2, none⟩ (.slice A (S.length + 1) c)) := by
 have hN2 := hN.push k ho ht hb
 have f1 : Fr b.base w w1 := Fr.row (hN.aps.own none) (hN.ty _) ht h.hw
 have hrb1 := hrb.turn ht (fun e => hN.off hrb ty_R none e.symm)
 exact h.renew f1 hN2 hrb1 (h.ok.push hS k) _ (by rw [upd_same]; rfl)
theorem typ_word (h : RS w b a S) (ha : a < b.T.length) {inn : Int} (hi : InOk S inn) {d k : Nat} (hk : pKind (tokAt b.T a).tt = some k) (TC : d < 20 → TypC (d + 1)) (hF : b.T.length - (a + 1) < F) :
  Calls Tryz.prog 112 #[.pointer (some ⟨b.pB, 0, none⟩), .int .i64 inn, .int .i64 (d : Int)] w (TypPost b w a (eStep (fun u => eType F (d + 1) u) F d (unOf S inn) (tokAt b.T a) (b.T.drop (a + 1)) S)) := by
 have hw := h.hw
 have hS := h.ok.few
 rw [eStep_word hk]
 have hpw : pWord (tokAt b.T a).s = some k := by rw [← tk_kind h.tok ha]; exact hk
 have hk12 := (pWord_some hpw).1
 have ha1 : a + 1 < b.T.length := tk_more h.tok ha (fun q => by rw [q, show pWord [] = none by decide] at hpw; cases hpw)
 obtain ⟨t, ht⟩ : ∃ t, t = tokAt b.T a := ⟨_, rfl⟩
 rw [← ht] at hpw hk ⊢
 have HT := hid ht
 have HK := hid hk
 clear ht hk
 obtain ⟨o, ho⟩ : ∃ o, TypPost b w a o = TypPost b w a _ := ⟨_, rfl⟩
 rw [← ho]
 have HO := hid ho
 clear ho
 have hkn := fun {w : World} (hL : LF w) => kind_eq t.s w hL
 rw [wordNo_some hpw] at hkn
 clear hpw
 have k1 : ((k : Int) == -1) = false := by rw [beq_eq_false_iff_ne]; omega
 have k2 : ((k : Int) != -1) = true := by rw [bne_iff_ne]; omega
 have n1 : ((S.length : Int) == -1) = false := by rw [beq_eq_false_iff_ne]; omega
 have dwr : IntKind.i64.wrap ((d : Int) + 1) = ((d + 1 : Nat) : Int) ∨ 20 ≤ d := by
  rcases Nat.lt_or_ge d 20 with q | q
  ·left; rw [IntKind.wrap_i64]; omega
  ·exact .inr q
 go_enter Tryz.func112, Tryz.ntmps112
 go_upto_region 2 with (first
  | (go_at_call 113; refine (take_t HT h ha).mono ?_; rintro e w1 ⟨rfl, h1, f1⟩)
  | (refine wp_var rfl rfl 90 _ _ rfl rfl rfl rfl zTok (fun _ => rfl) (xs := tc t) (fun _ => rfl) rfl szTok (tc_one t) ?_; intro g2 w2 hgg2 hb2 ht2; have c1 := tok1 hb2; have c0 := tok0 hb2))
 have h2 := h1.turn0 ht2
 obtain ⟨A2, c2, p2⟩ := h2.lenS
 go_quiet ((go_at_call 142; exact quiet_eq (hkn h2.laid)))
 have hT : Turn w2 (w2.drewN nq) none := (Turn.refl w2 none).drewN nq
 obtain ⟨w3, hw3⟩ : ∃ w3, w3 = w2.drewN nq := ⟨_, rfl⟩
 rw [← hw3]
 rw [← hw3] at hT
 clear hw3 p2 c1 c0
 have h3 := h2.turn0 hT
 have hb3 := hb2.turn0 hT
 have f3 := (f1.turn ht2 hw).turn hT hw
 by_cases hlong : 20 ≤ d ∨ 200 ≤ S.length
 ·have ho := HO.out
  rw [if_pos hlong] at ho
  have HO := hid ho
  clear ho
  by_cases hd : 20 ≤ d
  ·have hdi : (20 : Int) ≤ (d : Int) := by omega
   go_wp2_with (first
    | (refine wp_ld rfl 90 _ rfl rfl hb3 (Sub.all (tc t)) Tryz.underlying90 rfl szTok ?_)
    | (go_at_call 114; refine (refuse_any t 2 _).mono ?_; rintro e w6 ⟨rfl, ht6⟩; unfold giveV))
   refine ⟨rfl, ?_⟩
   rw [HO.out]
   exact ⟨rfl, f3.turn ht6 hw⟩
  ·have hdi : ¬(20 : Int) ≤ (d : Int) := by omega
   have hsi : (200 : Int) ≤ (S.length : Int) := by omega
   go_wp2_with (first
    | (refine wp_ld rfl 90 _ rfl rfl hb3 (Sub.all (tc t)) Tryz.underlying90 rfl szTok ?_)
    | (go_at_call 114; refine (refuse_any t 2 _).mono ?_; rintro e w6 ⟨rfl, ht6⟩; unfold giveV))
   refine ⟨rfl, ?_⟩
   rw [HO.out]
   exact ⟨rfl, f3.turn ht6 hw⟩
 have ho := HO.out
 rw [if_neg hlong] at ho
 have hd : d < 20 := by omega
 have hSl : S.length < 200 := by omega
 have hdi : ¬(20 : Int) ≤ (d : Int) := by omega
 have hsi : ¬(200 : Int) ≤ (S.length : Int) := by omega
 have dwr2 := dwr.resolve_right (by omega)
 clear dwr hlong
 have ap := apart_res h3 t (k : Int) (S.length : Int) hi
 rw [ap_word h3.ok] at ap
 by_cases h8 : (unOf S inn).isSome = true ∧ k = 8
 ·rw [if_pos h8] at ho
  have h8' : (unOf S inn).isSome = true ∧ (k : Int) = 8 := ⟨h8.1, by omega⟩
  simp only [if_pos h8'] at ap
  have HO := hid ho
  clear ho h8 h8'
  go_wp2_with (first
   | (refine wp_ld rfl 90 _ rfl rfl hb3 (Sub.all (tc t)) Tryz.underlying90 rfl szTok ?_)
   | (go_at_call 145; refine ap.mono ?_; rintro e w6 ⟨rfl, f6⟩; unfold giveV))
  refine ⟨rfl, ?_⟩
  rw [HO.out]
  exact ⟨rfl, f3.trans f6⟩
 have h8' : ¬((unOf S inn).isSome = true ∧ (k : Int) = 8) := fun q => h8 ⟨q.1, by omega⟩
 rw [if_neg h8] at ho
 simp only [if_neg h8'] at ap
 cases hsm : eSame (unOf S inn) S k with
 | true =>
  rw [if_pos hsm] at ho
  simp only [hsm, if_true] at ap
  have HO := hid ho
  clear ho h8 h8' hsm
  go_wp2_with (first
   | (refine wp_ld rfl 90 _ rfl rfl hb3 (Sub.all (tc t)) Tryz.underlying90 rfl szTok ?_)
   | (go_at_call 145; refine ap.mono ?_; rintro e w6 ⟨rfl, f6⟩; unfold giveV))
  refine ⟨rfl, ?_⟩
  rw [HO.out]
  exact ⟨rfl, f3.trans f6⟩
 | false =>
  rw [if_neg (by rw [hsm]; decide)] at ho
  simp only [hsm, Bool.false_eq_true, if_false] at ap
  have hlt : ∀ n ts S', eBody (fun u => eType F (d + 1) u) F k (b.T.drop (a + 1)) S = .ok (n, ts, S') → n = S.length ∧ n < S'.length := fun n ts S' e => by
   refine ⟨body_fst hk12 e, type_lt (f := F + 1) (deep := d) (un := unOf S inn) (ts := t :: b.T.drop (a + 1)) (N := S) (r := ts) ?_⟩
   rw [eType_cons, eStep_word HK.out, if_neg (by omega), if_neg h8, if_neg (by rw [hsm]; decide)]
   exact e
  have HO := hid ho
  clear ho h8 h8' hsm
  go_upto_region 13 with (first
   | (refine wp_ld rfl 90 _ rfl rfl hb3 (Sub.all (tc t)) Tryz.underlying90 rfl szTok ?_)
   | (go_at_call 145; refine ap.mono ?_; rintro e w6 ⟨rfl, h6, f6⟩))
  obtain ⟨R, hN, hrb, _, _, p2, hfz⟩ := h6.opn
  have fz2 := hfz 2
  have hO := hN.own
  obtain ⟨W, hW⟩ : ∃ W, W = w6.alloc (.cells (ndZ k).toArray 64) := ⟨_, rfl⟩
  have tW : Turn w6 W none := by rw [hW]; exact (Turn.refl w6 none).alloc _
  have h7 := h6.turn0 tW
  have hN7 := hN.turn0 tW
  have hrb7 := hrb.turn0 tW
  have lW : Rd W (w6.heap.size + 1) 6 (some ⟨w6.heap.size, 0, none⟩) 1 (ndZ k) := by rw [hW]; exact Rd.litS w6 _ 6 1 (ndZ k) rfl
  have hO7 := hN7.own
  have hw7 := h7.hw
  have q1 : some b.pB ≠ blk (R none).A := fun e => hN7.off hrb7 ty_R none e.symm
  have lp := hrb7.lt
  have p7 := (tW.cell (a := ⟨b.pB, 2, none⟩) hrb.lt (by simp)).trans p2
  subst hW
  have inr := fun {w : World} (h : RS w b (a + 1) (S ++ [Nd.of k])) => inner_any (D := d + 1) (by omega) (TC hd) hk12 h ha1 hF
  rw [show ((d + 1 : Nat) : Int) = (d : Int) + 1 by omega] at inr
  revert inr HO hlt
  generalize eBody (fun u => eType F (d + 1) u) F k (b.T.drop (a + 1)) S = oo
  intro hlt HO inr
  go_wp2_with (at_builtin; refine wp_app rfl _ _ _ rfl elNd rfl rfl hO7 lW (by repeat (first | exact ones_nil | refine ones_cons rfl ?_)) (by unfold maxLen; first | omega | (simp; done) | (simp; omega)) (by first | omega | (simp; done) | (simp; omega)) hw7 ?_; intro A5 c5 w8 ho8 ht8 hb8; have k8 := (ht8.cell (a := ⟨b.pB, 2, none⟩) lp q1).trans p7; have z8 := (hrb7.turn ht8 q1).frozen 2)
  obtain ⟨h9, f9⟩ := h7.push hN7 hrb7 hSl k ho8 ht8 hb8
  refine (inr h9).mono ?_
  cases oo with
  | error p =>
   obtain ⟨p, er⟩ := p
   rintro e w9 ⟨rfl, f10⟩
   unfold giveV
   refine ⟨rfl, ?_⟩
   rw [HO.out]
   exact ⟨rfl, (((f3.trans f6).turn tW hw).trans f9).trans f10⟩
  | ok p =>
   obtain ⟨n, ts, S'⟩ := p
   obtain ⟨hn1, hn2⟩ := hlt n ts S' rfl
   subst hn1
   rintro e w9 ⟨a', hts, haa, hal, rfl, h10, f10⟩
   have HTS := hid hts
   clear hts
   go_wp2
   go_ret
   rw [HO.out]
   exact ⟨a', HTS.out, by omega, hal, hn2, rfl, h10, (((f3.trans f6).turn tW hw).trans f9).trans f10⟩
theorem typ_any : ∀ (m d : Nat), d + m = 20 → TypC d := by
 intro m
 induction m with
 | zero =>
  intro d hdm w b a S inn F h ha hi hF
  obtain ⟨F, rfl⟩ : ∃ F', F = F' + 1 := ⟨F - 1, by omega⟩
  rw [tok_drop ha, eType_cons]
  cases hk : pKind (tokAt b.T a).tt with
  | none => exact typ_name h ha hi hk _
  | some k => exact typ_word h ha hi hk (fun q => absurd q (by omega)) (by omega)
 | succ m ih =>
  intro d hdm w b a S inn F h ha hi hF
  obtain ⟨F, rfl⟩ : ∃ F', F = F' + 1 := ⟨F - 1, by omega⟩
  rw [tok_drop ha, eType_cons]
  cases hk : pKind (tokAt b.T a).tt with
  | none => exact typ_name h ha hi hk _
  | some k => exact typ_word h ha hi hk (fun _ => ih (d + 1) (by omega)) (by omega)
end
open Go.RowKit
def rfV (p e : Nat) : List Value := [.int .i64 (p : Int), .int .i64 (e : Int)]
def rfI (p e : Nat) : Value := .iface 112 (.agg (rfV p e).toArray)
theorem taR (p e : Nat) (w : World) : (Instr.typeAssert (rfI p e) 20 112 false).run Tryz.prog w = .ok (.agg (rfV p e).toArray) w := by
 simp [Instr.typeAssert, run_underlying Tryz.underlying112, rfI]
theorem c1_idle (x : Value) (w : World) : CallsD Tryz.prog 111 #[x] .returning w fun e u' w' => e = .returned (.tuple #[]) ∧ u' = .returning ∧ w' = w := by
 refine callsD_of_wpS Tryz.func111 rfl fun c₀ cs hu => ?_
 apply wpS_seq
 apply wpS_region
 simp [wpOpsS, go_sem, recoverD, hu, Tryz.ntmps111, Exit.thenS]
 apply wpS_seq
 apply wpS_region
 simp [wpOpsS, go_sem, Exit.thenS]
 refine wpS_cond (t := false) (by simp [Act.eval, Array.replicate]) ?_
 simp only [Bool.false_eq_true, if_false]
 refine wpS_of_wp (wp_skip ?_)
 cases c₀
 simp_all [bodyPostS, results, Tryz.results111]
theorem c1_panic (g p e : Nat) (a0 a1 : Value) (w : World) (hB : Blk w g 112 #[a0, a1]) :
  CallsD Tryz.prog 111 #[.pointer (some ⟨g, 0, none⟩)] (.panicking [{ v := rfI p e, recovered := false }]) w fun e' u' w' =>
   e' = .returned (.tuple #[]) ∧ u' = .panicking [{ v := rfI p e, recovered := true }] ∧ Blk w' g 112 (rfV p e).toArray ∧ Turn w w' (some g) := by
 have h0 := hB.cell 0
 have h1 := hB.cell 1
 have z0 := hB.frozen 0
 have z1 := hB.frozen 1
 refine callsD_of_wpS Tryz.func111 rfl fun c₀ cs hu => ?_
 apply wpS_seq
 apply wpS_region
 simp [wpOpsS, go_sem, recoverD, hu, Tryz.ntmps111, Exit.thenS]
 apply wpS_seq
 apply wpS_region
 simp [wpOpsS, go_sem, Exit.thenS]
 refine wpS_cond (t := true) (by rfl) ?_
 simp only [if_true]
 refine wpS_of_wp ?_
 have hta := taR p e
 change Code.wp _ _ _ ⟨#[.pointer (some ⟨g, 0, none⟩), rfI p e, rfI p e, rfI p e, .bool true, undef, undef], []⟩ w
 go_wp2_with (refine wp_st rfl 112 _ _ rfl rfl rfl hB rfl (xs := rfV p e) (by kernel_rfl) (by intro u hu; simp only [rfV, List.mem_cons, List.not_mem_nil, or_false] at hu; rcases hu with rfl | rfl <;> rfl) ?_; intro w2 hb2 ht2)
 simp [bodyPostS, results, Tryz.results111]
 exact ⟨hb2, ht2⟩
def eTop (T : List Tok) : Except PE (List Nd) :=
 match eType 2000 0 none T [] with
 | .error e => .error e
 | .ok (_, [], _) => .error (0, 0)
 | .ok (_, t :: _, N) => if t.k = 3 then .ok N else .error (t.at_, 4)
def WhPost (b : RB) (w : World) (o : Except PE (List Nd)) (e : Ending) (w' : World) : Prop := match o with
 | .ok N => ∃ a, e = .returned (.tuple #[]) ∧ RS w' b a N ∧ Fr b.base w w'
 | .error (p, er) => Gv b w p er e w'
theorem whl_any {w : World} {b : RB} (h : RS w b 0 []) : Calls Tryz.prog 67 #[.pointer (some ⟨b.pB, 0, none⟩)] w (WhPost b w (eTop b.T)) := by
 have hw := h.hw
 have hpos := h.tok.pos
 have hfew := h.few
 have ty := typ_any 20 0 rfl w b 0 [] (-1) 2000 h hpos (.inl rfl) (by omega)
 have lik := type_alike (deep := 0) (un := none) (F := 2000) h.tok (by decide) hpos (by omega) (NE.refl [])
 rw [unOf_top, List.drop_zero] at ty
 rw [List.drop_zero] at lik
 obtain ⟨o, ho⟩ : ∃ o, o = eTop b.T := ⟨_, rfl⟩
 rw [← ho]
 unfold eTop at ho
 revert ty lik ho
 generalize eType 2000 0 none b.T [] = oo
 intro ty lik ho
 cases oo with
 | error p =>
  obtain ⟨p, er⟩ := p
  unfold TypPost at ty
  have HO := hid ho
  clear ho
  go_enter Tryz.func67, Tryz.ntmps67
  go_wp2_with (go_at_call 112; refine ty.mono ?_; rintro e w1 ⟨rfl, f1⟩; unfold giveV)
  refine ⟨rfl, ?_⟩
  rw [HO.out]
  exact ⟨rfl, f1⟩
 | ok p =>
  obtain ⟨n, ts, N⟩ := p
  unfold TypPost at ty
  obtain ⟨new, a', rfl, -, rfl, haa, hal⟩ := lik
  have ty2 : Calls Tryz.prog 112 #[.pointer (some ⟨b.pB, 0, none⟩), .int .i64 (-1), .int .i64 0] w fun e w' => e = .returned (.int .i64 (n : Int)) ∧ RS w' b a' N ∧ Fr b.base w w' := by
   refine ty.mono ?_
   rintro e w' ⟨a2, e1, _, e2, _, rfl, h1, f1⟩
   obtain rfl := drop_inj hal e2 e1
   exact ⟨rfl, h1, f1⟩
  clear ty
  rw [tok_drop hal] at ho
  simp only at ho
  obtain ⟨t, ht⟩ : ∃ t, t = tokAt b.T a' := ⟨_, rfl⟩
  rw [← ht] at ho
  have HT := hid ht
  clear ht
  by_cases h3 : t.k = 3
  ·rw [if_pos h3] at ho
   have HO := hid ho
   clear ho
   have e3 : ((t.k : Int) != 3) = false := by rw [h3]; rfl
   clear h3
   go_enter Tryz.func67, Tryz.ntmps67
   go_wp2_with (first
    | (go_at_call 112; refine ty2.mono ?_; rintro e w1 ⟨rfl, h1, f1⟩)
    | (go_at_call 113; refine (take_t HT h1 hal).mono ?_; rintro e w2 ⟨rfl, h2, f2⟩)
    | (refine wp_var rfl rfl 90 _ _ rfl rfl rfl rfl zTok (fun _ => rfl) (xs := tc t) (fun _ => rfl) rfl szTok (tc_one t) ?_; intro g3 w3 hgg3 hb3 ht3; have c1 := tok1 hb3; have c0 := tok0 hb3))
   go_end0
   rw [HO.out]
   exact ⟨a' + 1, rfl, h2.turn0 ht3, (f1.trans f2).turn ht3 hw⟩
  ·rw [if_neg h3] at ho
   have HO := hid ho
   clear ho
   have e3 : ((t.k : Int) != 3) = true := by rw [bne_iff_ne]; omega
   clear h3
   go_enter Tryz.func67, Tryz.ntmps67
   go_wp2_with (first
    | (go_at_call 112; refine ty2.mono ?_; rintro e w1 ⟨rfl, h1, f1⟩)
    | (go_at_call 113; refine (take_t HT h1 hal).mono ?_; rintro e w2 ⟨rfl, h2, f2⟩)
    | (refine wp_var rfl rfl 90 _ _ rfl rfl rfl rfl zTok (fun _ => rfl) (xs := tc t) (fun _ => rfl) rfl szTok (tc_one t) ?_; intro g3 w3 hgg3 hb3 ht3; have c1 := tok1 hb3; have c0 := tok0 hb3)
    | (refine wp_ld rfl 90 _ rfl rfl hb3 (Sub.all (tc t)) Tryz.underlying90 rfl szTok ?_)
    | (go_at_call 114; refine (refuse_any t 4 _).mono ?_; rintro e w4 ⟨rfl, ht4⟩; unfold giveV))
   refine ⟨rfl, ?_⟩
   rw [HO.out]
   exact ⟨rfl, ((f1.trans f2).turn ht3 hw).turn ht4 hw⟩
theorem zRf : ∀ w, (zeroValue 112).run Tryz.prog w = .ok (.agg (rfV 0 0).toArray) w := zero_at (by kernel_rfl)
theorem szRf : (Tryz.prog.info? 112).map (·.size) = some 2 := by kernel_rfl
theorem rfV_one (p e : Nat) : ∀ u ∈ rfV p e, u.oneCell' = true := by
 intro u hu
 simp only [rfV, List.mem_cons, List.not_mem_nil, or_false] at hu
 rcases hu with rfl | rfl <;> rfl
theorem res_caught {w : World} {g p e : Nat} (h : Blk w g 112 (rfV p e).toArray) (tmps : Array Value) (h2 : tmps.getD 2 undef = .pointer (some ⟨g, 0, none⟩)) :
  (results Tryz.f66 tmps).run Tryz.prog w = .ok (.agg (rfV p e).toArray) w := by
 rw [results_cell_one (p := 2) (ty := 112) Tryz.results66, h2]
 simp only [asAddr, Sem.run_pure, Result.andThen_ok]
 exact run_loadVar_mid w g 0 112 (rfV p e) _ (h.range (Sub.all _)) Tryz.underlying112 rfl szRf
theorem caught_ok {x : Value} {w : World} {R : World → Prop} (h : ∀ w1 g, w.heap.size = g → Blk w1 g 112 (rfV 0 0).toArray → Turn w w1 none → Calls Tryz.prog 67 #[x] w1 fun e w2 => e = .returned (.tuple #[]) ∧ R w2 ∧ Blk w2 g 112 (rfV 0 0).toArray) :
  Calls Tryz.prog 66 #[.func (.func 67) #[x] #[]] w fun e w' => e = .returned (.agg (rfV 0 0).toArray) ∧ ∃ w2 g, w.heap.size = g ∧ R w2 ∧ Blk w2 g 112 (rfV 0 0).toArray ∧ Turn w2 w' (some g) := by
 have hmf : ∀ (fn : Fn) (first cap : Array Value) (w : World), (Instr.makeFunc fn first cap).run Tryz.prog w = .ok (.func fn first cap) w := fun _ _ _ _ => rfl
 go_enter_defers Tryz.func66, Tryz.ntmps66
 go_wp2_with (first
  | (refine wp_al rfl 112 rfl _ zRf ?_; intro g w1 hg hb1 ht1)
  | (go_at_call 67; refine (h _ g hg hb1 ht1).mono ?_; rintro e w2 ⟨rfl, hR, hb2⟩)
  | (refine wp_st rfl 112 _ _ rfl rfl rfl hb2 rfl (xs := rfV 0 0) szRf (rfV_one 0 0) ?_; intro w3 hb3 ht3))
 refine leaves_cons (f := 111) (args := #[.pointer (some ⟨g, 0, none⟩)]) (by simp) (by simp [go_sem]) ?_
 refine (c1_idle _ _).mono ?_
 rintro e u' w'' ⟨rfl, rfl, rfl⟩
 exact ⟨_, res_caught hb3 _ (by rfl), rfl, w2, g, hg, hR, hb2, ht3⟩
theorem caught_no {x : Value} {w : World} {p er : Nat} {R : World → Prop} (h : ∀ w1 g, w.heap.size = g → Blk w1 g 112 (rfV 0 0).toArray → Turn w w1 none → Calls Tryz.prog 67 #[x] w1 fun e w2 => e = giveV p er ∧ R w2 ∧ Blk w2 g 112 (rfV 0 0).toArray) :
  Calls Tryz.prog 66 #[.func (.func 67) #[x] #[]] w fun e w' => e = .returned (.agg (rfV p er).toArray) ∧ ∃ w2 g, w.heap.size = g ∧ R w2 ∧ Blk w2 g 112 (rfV 0 0).toArray ∧ Turn w2 w' (some g) := by
 have hmf : ∀ (fn : Fn) (first cap : Array Value) (w : World), (Instr.makeFunc fn first cap).run Tryz.prog w = .ok (.func fn first cap) w := fun _ _ _ _ => rfl
 go_enter_defers Tryz.func66, Tryz.ntmps66
 go_wp2_with (first
  | (refine wp_al rfl 112 rfl _ zRf ?_; intro g w1 hg hb1 ht1)
  | (go_at_call 67; refine (h _ g hg hb1 ht1).mono ?_; rintro e w2 ⟨rfl, hR, hb2⟩; unfold giveV))
 refine leaves_cons (f := 111) (args := #[.pointer (some ⟨g, 0, none⟩)]) (by simp) (by simp [go_sem]) ?_
 refine (c1_panic g p er _ _ _ hb2).mono ?_
 rintro e u' w'' ⟨rfl, rfl, hb3, ht3⟩
 exact ⟨_, res_caught hb3 _ (by rfl), rfl, w2, g, hg, hR, hb2, ht3⟩
open Go.RowKit
def ScNew (w0 w : World) (N : List Nd) (v : Value) : Prop := ∃ R, NR w w0.heap.size R N ∧ v = .agg #[.slice (R none).A N.length (R none).c]
def PaPost (l : List UInt8) (w : World) (e : Ending) (w' : World) : Prop :=
 (∃ N v a, eRead l = .ok N ∧ e = .returned (.tuple #[v, .int .i64 0, .int .i64 0]) ∧ ScNew w w' N v ∧ NOk N a ∧ a ≤ 1500 ∧ Turn w w' none) ∨
 (∃ p er : Nat, eRead l = .error (p, er) ∧ er ≠ 0 ∧ e = .returned (.tuple #[.agg #[.slice none 0 0], .int .i64 (p : Int), .int .i64 (er : Int)]) ∧ Turn w w' none)
theorem NR.mono {w : World} {base b : Nat} {R : Ix → Rw} {N : List Nd} (h : NR w base R N) (hb : b ≤ base) : NR w b R N := ⟨h.aps.mono hb, h.arr, h.syms, h.items, h.fields, h.far, h.ty⟩
theorem eRead_words {l : List UInt8} {T : List Tok} (h : wWords l = .ok T) : eRead l = eTop T := by
 unfold eRead eTop
 rw [h]
 rfl
theorem eRead_no {l : List UInt8} {p : PE} (h : wWords l = .error p) : eRead l = .error p := by
 unfold eRead
 rw [h]
theorem top_err {l : List UInt8} {T : List Tok} (h : wWords l = .ok T) {p er : Nat} (he : eTop T = .error (p, er)) : er ≠ 0 := by
 have := read_rel h
 rw [eRead_words h, he] at this
 exact this.2.2
theorem zSch : ∀ w, (zeroValue 24).run Tryz.prog w = .ok (.agg ([.slice none 0 0] : List Value).toArray) w := zero_at (by kernel_rfl)
theorem szSch : (Tryz.prog.info? 24).map (·.size) = some 1 := by kernel_rfl
def rdZ : List Value := [.slice none 0 0, .int .i64 0, .slice none 0 0]
theorem zRd : ∀ w, (zeroValue 110).run Tryz.prog w = .ok (.agg rdZ.toArray) w := zero_at (by kernel_rfl)
theorem szRd : (Tryz.prog.info? 110).map (·.size) = some 3 := by kernel_rfl
theorem one1 {v : Value} (h : v.oneCell' = true) : ∀ u ∈ [v], u.oneCell' = true := ones_cons h ones_nil
theorem res_parse {w : World} {g : Nat} {v x y : Value} (h : Blk w g 24 ([v] : List Value).toArray) (tmps : Array Value) (h2 : tmps.getD 2 undef = .pointer (some ⟨g, 0, none⟩)) (h3 : tmps.getD 3 undef = x) (h4 : tmps.getD 4 undef = y) :
  (results Tryz.f43 tmps).run Tryz.prog w = .ok (.tuple #[.agg #[v], x, y]) w := by
 have hl := run_loadVar_mid (P := Tryz.prog) w g 0 24 [v] _ (h.range (Sub.all _)) Tryz.underlying24 rfl szSch
 rw [Array.getD_eq_getD_getElem?] at h2 h3 h4
 simp [results, Tryz.f43, go_sem, h2, h3, h4] at hl ⊢
 simp [hl]
theorem parse_any (l : List UInt8) (w : World) (hL : LF w) (hl : l.length ≤ 140737488355328) : Calls Tryz.prog 43 #[.string (txt l)] w (PaPost l w) := by
 cases hw : wWords l with
 | error p =>
  obtain ⟨p0, er0⟩ := p
  have wd := fun {w : World} => lexDone.words (txt l) l w rfl hl
  have HR := hid (eRead_no hw)
  have HW := hid hw
  clear hw
  go_enter Tryz.func43, Tryz.ntmps43
  go_wp2_with (refine wp_al rfl 24 rfl _ zSch ?_; intro g w1 hg hb1 ht1)
  refine wd.mono ?_
  rintro e w2 (⟨_, _, _, _, q, _⟩ | ⟨p, er, q, hne, rfl, ht2⟩)
  ·rw [HW.out] at q; cases q
  ·rw [HW.out] at q
   injection q with q
   injection q with q1 q2
   subst q1; subst q2
   have hb2 := hb1.turn0 ht2
   have e1 : ((er0 : Int) != 0) = true := by rw [bne_iff_ne]; omega
   go_wp2_with (refine wp_st rfl 24 _ _ rfl rfl rfl hb2 rfl (xs := [.slice none 0 0]) szSch (one1 rfl) ?_; intro w3 hb3 ht3)
   refine bodyPost_ret (res_parse hb3 _ (by rfl) (by rfl) (by rfl)) rfl ?_
   refine .inr ⟨p0, er0, HR.out, hne, rfl, (ht1.trans ht2).new ht3 (fun q e => by injection e with e; omega)⟩
 | ok T =>
  have wd := fun {w : World} => words_ok lexDone (txt l) l w rfl hl hw
  have HR := hid (eRead_words hw)
  have htok : TOk T := by obtain ⟨ts, e1, e2, _⟩ := wWords_text hw; exact ⟨ts, e1, e2⟩
  have hfew : T.length ≤ 1500 := by have hl := (wWords_ord hw).1; unfold wWords at hw; rw [if_neg (by omega)] at hw; have := wGo_few _ _ _ _ _ hw (by omega); omega
  have hbr : ∀ i, i < T.length → (tokAt T i).s.length ≤ 4096 := fun i hi => tcs_few hw hi
  have hte := fun {p er : Nat} => top_err (p := p) (er := er) hw
  have hL0 := hL.pos
  clear hw
  go_enter Tryz.func43, Tryz.ntmps43
  go_upto_region 5 with (first
   | (refine wp_al rfl 24 rfl _ zSch ?_; intro g w1 hg hb1 ht1)
   | (go_at_call 65; refine wd.mono ?_; rintro e w2 ⟨gw, cw, rfl, ho, ht2⟩)
   | (refine wp_var rfl rfl 110 _ _ rfl rfl rfl rfl zRd (fun _ => rfl) (xs := [.slice (some ⟨gw, 0, none⟩) T.length cw, .int .i64 0, .slice none 0 0]) (fun _ => rfl) rfl szRd (ones_cons rfl (ones_cons rfl (one1 rfl))) ?_; intro pB w3 hpB hb3 ht3))
  obtain ⟨b, hb⟩ : ∃ b : RB, b = ⟨w2.heap.size, pB, some ⟨gw, 0, none⟩, cw, T⟩ := ⟨_, rfl⟩
  have hw2 := (ht1.trans ht2).size
  have hrs : RS w3 b 0 [] := by
   rw [hb]
   refine ⟨by show w2.heap.size ≤ pB; omega, ht3.size, by show _ < w2.heap.size; omega, ((hL.turn ht1).turn ht2).turn ht3, ho.rd.turn0 ht3 (Nat.le_refl _), htok, hfew, hbr, ho.cap, Nat.zero_le _, ⟨by decide, fun x h => by simp at h, fun x h => by simp at h, fun x h => by simp at h⟩, _, NR.nil w3 _, hb3⟩
  have hres2 := (hb1.turn0 ht2).turn0 ht3
  have hpbb : pB = b.pB := by rw [hb]
  have hbase : b.base = w2.heap.size := by rw [hb]
  have hTT : eTop T = eTop b.T := by rw [hb]
  have hgl : g < w2.heap.size := (hb1.turn0 ht2).lt
  have hw3 : w2.heap.size ≤ w3.heap.size := ht3.size
  have wh := fun (w4 : World) (t4 : Turn w3 w4 none) => whl_any (hrs.turn0 t4)
  rw [← hTT] at wh
  have HPO := fun (o : Except PE (List Nd)) (e : eTop T = o) => hid (HR.out.trans e)
  have HBA := hid hbase
  have HPB := hid hpbb
  clear HR hb hbase hpbb
  cases ho2 : eTop T with
  | error p =>
   obtain ⟨p, er⟩ := p
   have her := hte ho2
   have HR := HPO _ ho2
   rw [ho2] at wh
   clear ho2 hte HPO hTT
   have cau := caught_no (x := .pointer (some ⟨b.pB, 0, none⟩)) (w := w3) (p := p) (er := er) (R := fun w4 => Fr b.base w3 w4) (fun w4 g4 hg4 hb4 ht4 => (wh w4 ht4).mono (by
    rintro e w5 ⟨rfl, f5⟩
    exact ⟨rfl, (Fr.of_turn ht4 hrs.hw).trans f5, f5.2 _ _ _ hb4 (by decide) (by decide) (by decide) (by decide) (by decide)⟩))
   rw [← HPB.out] at cau
   have e1 : ((er : Int) != 0) = true := by rw [bne_iff_ne]; omega
   go_upto_region 7 with (first
    | (go_at_call 66; refine cau.mono ?_; rintro e w5 ⟨rfl, w4, g4, hg4, f4, hb4, ht5⟩)
    | (refine wp_var rfl rfl 112 _ _ rfl rfl rfl rfl zRf (fun _ => rfl) (xs := rfV p er) (fun _ => rfl) rfl szRf (rfV_one p er) ?_; intro g6 w6 hg6 hb6 ht6; have c0 : w6.cell? ⟨g6, 0, none⟩ = some (.int .i64 (p : Int)) := hb6.ats rfl; have c1 : w6.cell? ⟨g6, 1, none⟩ = some (.int .i64 (er : Int)) := hb6.ats rfl))
   have bl : Below b.base w3 w6 := (f4.1.trans (below_turn ht5 (Nat.le_trans hrs.hw f4.size) (by rw [HBA.out]; omega))).trans (ht6.below.mono (Nat.le_trans hrs.hw (Nat.le_trans f4.size ht5.size)))
   have hgb : g < b.base := by rw [HBA.out]; exact hgl
   have hres6 : Blk w6 g 24 ([.slice none 0 0] : List Value).toArray := (bl.block g hgb).trans hres2
   have cg := hres6.cell 0
   have zg := hres6.frozen 0
   have ne6 : g ≠ g6 := by have := bl.size; have := ht5.size; have := f4.size; omega
   clear cau wd wh
   refine wp_region_noPanic ?_
   refine wp_region_held_drew (S := (fun W => W.cell? ⟨g6, 0, none⟩ = some (.int .i64 (p : Int)) ∧ W.cell? ⟨g6, 1, none⟩ = some (.int .i64 (er : Int)))) (by kernel_rfl) (⟨c0, c1⟩) (fun hHeld => ?_)
   (first | refine tkN 0 ?_ | refine tkY 0 _ ?_); (try simp only [Act.put, zs])
   (first | refine tkN 1 ?_ | refine tkY 1 _ ?_); (try simp only [Act.put, zs])
   (first | refine tkN 2 ?_ | refine tkY 2 _ ?_); (try simp only [Act.put, zs])
   (first | refine tkN 3 ?_ | refine tkY 3 _ ?_); (try simp only [Act.put, zs])
   (first | refine tkN 4 ?_ | refine tkY 4 _ ?_); (try simp only [Act.put, zs])
   refine wpAnyH_ready (rs := [5]) (by kernel_rfl) (by simp) ?_; refine AllReadyH.cons rfl (fun K hK => ?_) AllReadyH.nil
   go_simp
   refine hK.out _ _ ⟨(World.cell?_setCell_far _ _ _ _ ne6).trans c0, (World.cell?_setCell_far _ _ _ _ ne6).trans c1⟩ (fun hHeld => ?_); clear hK K; (try simp only [Act.put, zs])
   (first | refine tkN 6 ?_ | refine tkY 6 _ ?_); (try simp only [Act.put, zs])
   (first | refine tkN 7 ?_ | refine tkY 7 _ ?_); (try simp only [Act.put, zs])
   refine wpAnyH_done (by kernel_rfl) ?_ _
   refine NoPanic.normal ?_
   clear hHeld
   have hb7 : Blk (w6.setCell ⟨g, 0, none⟩ (.slice none 0 0)).drew g 24 ([.slice none 0 0] : List Value).toArray := by
    have := hres6.sets 0 (.slice none 0 0)
    exact this.drew
   have t7 : Turn w (w6.setCell ⟨g, 0, none⟩ (.slice none 0 0)).drew none := by
    have ta : Turn w w6 none := turn_of_below (((ht1.trans ht2).trans ht3).below.trans (bl.mono (by rw [HBA.out]; exact hw2)))
    exact (ta.new (Blk.setTurn w6 g 0 _) (fun q e => by injection e with e; omega)).drew
   go_wp2
   refine bodyPost_ret (res_parse hb7 _ (by rfl) (by rfl) (by rfl)) rfl ?_
   exact .inr ⟨p, er, HR.out, her, rfl, t7⟩
  | ok N =>
   have HR := HPO _ ho2
   rw [ho2] at wh
   clear ho2 hte HPO hTT
   have cau := caught_ok (x := .pointer (some ⟨b.pB, 0, none⟩)) (w := w3) (R := fun w4 => ∃ a, RS w4 b a N ∧ Fr b.base w3 w4) (fun w4 g4 hg4 hb4 ht4 => (wh w4 ht4).mono (by
    rintro e w5 ⟨a, rfl, h5, f5⟩
    exact ⟨rfl, ⟨a, h5, (Fr.of_turn ht4 hrs.hw).trans f5⟩, f5.2 _ _ _ hb4 (by decide) (by decide) (by decide) (by decide) (by decide)⟩))
   rw [← HPB.out] at cau
   clear wh wd
   go_upto_region 8 with (first
    | (go_at_call 66; refine cau.mono ?_; rintro e w5 ⟨rfl, w4, g4, hg4, ⟨a, h4, f4⟩, hb4, ht5⟩)
    | (refine wp_var rfl rfl 112 _ _ rfl rfl rfl rfl zRf (fun _ => rfl) (xs := rfV 0 0) (fun _ => rfl) rfl szRf (rfV_one 0 0) ?_; intro g6 w6 hg6 hb6 ht6; have c1 : w6.cell? ⟨g6, 1, none⟩ = some (.int .i64 0) := hb6.ats rfl))
   have hbg4 : b.base ≤ g4 := by rw [HBA.out]; omega
   have bl : Below b.base w3 w6 := (f4.1.trans (below_turn ht5 (Nat.le_trans hrs.hw f4.size) hbg4)).trans (ht6.below.mono (Nat.le_trans hrs.hw (Nat.le_trans f4.size ht5.size)))
   have hgb : g < b.base := by rw [HBA.out]; exact hgl
   have hres6 : Blk w6 g 24 ([.slice none 0 0] : List Value).toArray := (bl.block g hgb).trans hres2
   have h6 := (h4.turnB hb4 (by decide) hbg4 ht5).turn0 ht6
   obtain ⟨R, hN, _, _, _, p2, _⟩ := h6.opn
   rw [← HPB.out] at p2
   have hok := h6.ok
   have hala : a ≤ 1500 := Nat.le_trans h6.at_ h6.few
   have ta : Turn w w6 none := turn_of_below (((ht1.trans ht2).trans ht3).below.trans (bl.mono (by rw [HBA.out]; exact hw2)))
   clear cau
   go_wp2_with (refine wp_st rfl 24 _ _ rfl rfl rfl hres6 rfl (xs := [.slice (R none).A N.length (R none).c]) szSch (one1 rfl) ?_; intro w7 hb7 ht7)
   refine bodyPost_ret (res_parse hb7 _ (by rfl) (by rfl) (by rfl)) rfl ?_
   exact .inl ⟨N, _, a, HR.out, rfl, ⟨R, (hN.turn hres6 (by decide) ht7).mono (by rw [HBA.out]; exact hw2), rfl⟩, hok, hala, ta.new ht7 (fun q e => by injection e with e; omega)⟩
open Go.RowKit
theorem elB : El Tryz.prog 55 5 1 1 := El.mk_ Tryz.underlying55 (z := .int .u8 0) (by kernel_rfl) rfl (by decide)
theorem str_run (w : World) {B : Nat} {A : Option Addr} {n c : Nat} {l : List UInt8} (h : Rd w B 1 A n (vbs l)) : (convert 55 9 (.slice A n c)).run Tryz.prog w = .ok (.string (txt l)) w :=
 run_txt w B _ _ 5 A n c l Tryz.underlying55 Tryz.underlying5 Tryz.underlying9 h
open Go.RowKit
def Fw (base : Nat) (w w' : World) : Prop := Below base w w' ∧ ∀ g t cs, Blk w g t cs → t ≠ 5 → t ≠ 72 → Blk w' g t cs
section
variable {w w' w2 : World} {base b g : Nat} {cs : Array Value} {t : TypeId}
theorem Fw.refl (base : Nat) (w : World) : Fw base w w := ⟨Below.refl _ _, fun _ _ _ h _ _ => h⟩
theorem Fw.trans (h : Fw base w w') (k : Fw base w' w2) : Fw base w w2 := ⟨h.1.trans k.1, fun g t cs hb a1 a2 => k.2 g t cs (h.2 g t cs hb a1 a2) a1 a2⟩
theorem Fw.of_turn (h : Turn w w' none) (hb : base ≤ w.heap.size) : Fw base w w' := ⟨h.below.mono hb, fun _ _ _ hB _ _ => hB.turn0 h⟩
theorem Fw.turn (h : Fw base w w') (k : Turn w' w2 none) (hb : base ≤ w.heap.size) : Fw base w w2 := h.trans (Fw.of_turn k (Nat.le_trans hb h.1.size))
theorem Fw.size (h : Fw base w w') : w.heap.size ≤ w'.heap.size := h.1.size
theorem Fw.nd (h : Fw base w w') (hb : Blk w g 64 cs) : Blk w' g 64 cs := h.2 _ _ _ hb (by decide) (by decide)
theorem Fw.fl (h : Fw base w w') (hb : Blk w g 119 cs) : Blk w' g 119 cs := h.2 _ _ _ hb (by decide) (by decide)
end
structure WB where
 base : Nat
 pB : Nat
 A0 : Option Addr
 c0 : Nat
 gs : List Gn
def Tab (w : World) : Prop := Lib.TabIs Tryz.prog w "internal/strconv.uint64pow10" .u64 Lib.pow10Tab
theorem Tab.same {w w' : World} (h : Tab w) (hh : w'.heap[3]? = w.heap[3]?) : Tab w' := by
 have hn : Tryz.prog.globalNamed "internal/strconv.uint64pow10" = some 3 := by kernel_rfl
 unfold Tab Lib.TabIs World.var? at h ⊢
 rw [hn] at h ⊢
 simp only [Option.bind_eq_bind, Option.bind_some] at h ⊢
 rw [hh]
 exact h
structure GOk (x : Gn) : Prop where
 ls : x.syms.length ≤ 1000000
 li : x.items.length ≤ 1000000
 lf : x.fields.length ≤ 1000000
 nm : x.name.length ≤ 140737488355327
 sy : ∀ s ∈ x.syms, s.length ≤ 140737488355328
 fl : ∀ f ∈ x.fields, f.name.length ≤ 140737488355328
 sz : -9223372036854775808 ≤ x.size ∧ x.size ≤ 9223372036854775807
structure WS (w : World) (b : WB) (t : List UInt8) (nx dp : Nat) : Prop where
 hb : b.base ≤ b.pB
 hw : b.base ≤ w.heap.size
 h0 : 1 < b.base
 laid : LF w
 h2 : 3 < b.base
 tab : Tab w
 sc : Sc w b.base b.A0 b.gs.length b.gs
 few : b.gs.length ≤ 1000000
 small : ∀ x ∈ b.gs, GOk x
 hc : b.gs.length ≤ b.c0 ∧ b.c0 ≤ maxLen
 short : t.length ≤ 4096
 nx_ : nx ≤ b.gs.length
 dp_ : dp ≤ 1000001
 mem : ∃ ad A c, (ad = .pointer none ∨ ad = .pointer (some ⟨b.pB, 0, none⟩)) ∧ Blk w b.pB 72 #[ad, .slice A t.length c, .slice b.A0 b.gs.length b.c0, .int .i64 (nx : Int), .int .i64 (dp : Int)] ∧ Own w b.base 5 1 A t.length c (vbs t)
section
variable {w w' : World} {b : WB} {t : List UInt8} {nx dp : Nat}
theorem WS.turn0 (h : WS w b t nx dp) (ht : Turn w w' none) : WS w' b t nx dp := by
 obtain ⟨ad, A, c, h1, h2, h3⟩ := h.mem
 exact ⟨h.hb, Nat.le_trans h.hw ht.size, h.h0, h.laid.turn ht, h.h2, h.tab.same (World.grownBy.block ht _ (Nat.lt_of_lt_of_le h.h2 h.hw) (by simp)), h.sc.turn0 ht h.hw, h.few, h.small, h.hc, h.short, h.nx_, h.dp_, ad, A, c, h1, h2.turn0 ht, h3.turn0 ht⟩
theorem Fw.row {sz n c : Nat} {A : Option Addr} {xs : List Value} (ho : Own w b.base 5 sz A n c xs) (ht : Turn w w' (blk A)) (hb : b.base ≤ w.heap.size) : Fw b.base w w' := by
 cases hA : blk A with
 | none => rw [hA] at ht; exact Fw.of_turn ht hb
 | some g =>
  rw [hA] at ht
  refine ⟨below_turn ht hb (ho.block g hA).1, fun g' t cs hB a1 a2 => hB.turn ht ?_⟩
  intro e
  injection e with e
  subst e
  exact ho.not_blk hB a1 hA
theorem Fw.own {cs : Array Value} (hB : Blk w b.pB 72 cs) (hb : b.base ≤ b.pB) (i : Nat) (u : Value) : Fw b.base w (w.setCell ⟨b.pB, i, none⟩ u) := by
 refine ⟨(Below.refl b.base w).setCell (p := ⟨b.pB, i, none⟩) hb _, fun g t cs' hB' _ a2 => hB'.turn (Blk.setTurn w b.pB i u) ?_⟩
 intro e
 injection e with e
 subst e
 have e := (show w.heap[b.pB]? = _ from hB).symm.trans (show w.heap[b.pB]? = _ from hB')
 simp only [Option.some.injEq, Obj.cells.injEq] at e
 exact a2 e.2.1.symm
theorem WS.renew (h : WS w b t nx dp) (f : Fw b.base w w') {t' : List UInt8} {nx' dp' : Nat} (ht : t'.length ≤ 4096) (hn : nx' ≤ b.gs.length) (hd : dp' ≤ 1000001)
  (hm : ∃ ad A c, (ad = .pointer none ∨ ad = .pointer (some ⟨b.pB, 0, none⟩)) ∧ Blk w' b.pB 72 #[ad, .slice A t'.length c, .slice b.A0 b.gs.length b.c0, .int .i64 (nx' : Int), .int .i64 (dp' : Int)] ∧ Own w' b.base 5 1 A t'.length c (vbs t')) : WS w' b t' nx' dp' := by
 refine ⟨h.hb, Nat.le_trans h.hw f.size, h.h0, h.laid.below f.1 h.h0, h.h2, h.tab.same (f.1.block _ h.h2), ?_, h.few, h.small, h.hc, ht, hn, hd, hm⟩
 obtain ⟨h1, vs, h2, h3⟩ := h.sc
 have sl : ∀ {sz v n xs}, Sl w b.base sz v n xs → Sl w' b.base sz v n xs := fun ⟨A, c, e1, e2, e3⟩ => ⟨A, c, e1, e2.below f.1, e3⟩
 exact ⟨h1, vs, h2.below f.1, fun i x e => ⟨(h3 i x e).k, (h3 i x e).name, (h3 i x e).size, (h3 i x e).syms.imp fun _ q => ⟨q.1, sl q.2⟩, (h3 i x e).items.imp fun _ q => ⟨q.1, sl q.2⟩, (h3 i x e).fields.imp fun _ q => ⟨q.1, sl q.2⟩⟩⟩
theorem len_any (h : WS w b t nx dp) : Calls Tryz.prog 147 #[.pointer (some ⟨b.pB, 0, none⟩)] w fun e w' => e = .returned (.int .i64 (t.length : Int)) ∧ w = w' := by
 obtain ⟨ad, A, c, h1, h2, h3⟩ := h.mem
 have c1 : w.cell? ⟨b.pB, 1, none⟩ = some (.slice A t.length c) := h2.cell 1
 go_enter Tryz.func147, Tryz.ntmps147
 go_wp2
 go_ret
 exact ⟨rfl, rfl⟩
theorem cc_any (h : WS w b t nx dp) : Calls Tryz.prog 178 #[.pointer (some ⟨b.pB, 0, none⟩)] w fun e w' => e = .returned (.tuple #[]) ∧ WS w' b t nx dp ∧ Fw b.base w w' := by
 obtain ⟨ad, A, c, h1, h2, h3⟩ := h.mem
 have c0 : w.cell? ⟨b.pB, 0, none⟩ = some ad := h2.cell 0
 have z0 := h2.frozen 0
 have hsh : w.shape? b.pB = some (72, 5) := by
  unfold World.shape?
  rw [show w.heap[b.pB]? = _ from h2]
  rfl
 rcases h1 with rfl | rfl
 ·have hsz : (Tryz.prog.info? 70).map (·.size) = some 2 := by kernel_rfl
  obtain ⟨j, hj, hj2⟩ := Option.map_eq_some_iff.1 hsz
  have k1 := Lib.run_to_unsafe (P := Tryz.prog) w (src := 68) (dst := 197) (t := 70) (j := j) (cells := 5) ⟨b.pB, 0, none⟩ Tryz.underlying68 Tryz.underlying197 hj (by omega) hsh (Nat.zero_lt_succ _)
  have k2 := Lib.run_from_unsafe (P := Tryz.prog) w (src := 197) (dst := 68) (u := 70) (j := j) (cells := 5) ⟨b.pB, 0, none⟩ Tryz.underlying197 Tryz.underlying68 hj hsh (by kernel_rfl)
  have f1 := Fw.own h2 h.hb 0 (.pointer (some ⟨b.pB, 0, none⟩))
  have hB2 : Blk (w.setCell ⟨b.pB, 0, none⟩ (.pointer (some ⟨b.pB, 0, none⟩))) b.pB 72 #[.pointer (some ⟨b.pB, 0, none⟩), .slice A t.length c, .slice b.A0 b.gs.length b.c0, .int .i64 (nx : Int), .int .i64 (dp : Int)] := by
   have := h2.set_ 0 (.pointer (some ⟨b.pB, 0, none⟩))
   simpa using this
  have hO2 := h3.turn (Blk.setTurn w b.pB 0 (.pointer (some ⟨b.pB, 0, none⟩))) (.inr (h3.not_blk h2 (by decide)))
  go_enter Tryz.func178, Tryz.ntmps178
  go_wp2
  rw [run_callFunc_extern Tryz.func186 (by kernel_rfl) (by kernel_rfl) (by kernel_rfl) (e := Extern.AbiNoEscape.same) (by kernel_rfl), Lib.run_noEscape]
  simp only [Result.andThen]
  rw [Oper.upon_value]
  go_wp2
  go_end0
  exact ⟨rfl, h.renew f1 h.short h.nx_ h.dp_ ⟨_, A, c, .inr rfl, hB2, hO2⟩, f1⟩
 ·have hsz : (Tryz.prog.info? 70).map (·.size) = some 2 := by kernel_rfl
  obtain ⟨j, hj, _⟩ := Option.map_eq_some_iff.1 hsz
  have k := Lib.run_neq_ptr_same (P := Tryz.prog) w (tp := 68) (te := 70) (j := j) ⟨b.pB, 0, none⟩ Tryz.underlying68 hj
  go_enter Tryz.func178, Tryz.ntmps178
  go_wp2
  go_end0
  exact ⟨rfl, h, Fw.refl _ _⟩
theorem ws_any (h : WS w b t nx dp) (s : List UInt8) (hl : t.length + s.length ≤ 4096) : Calls Tryz.prog 148 #[.pointer (some ⟨b.pB, 0, none⟩), .string (txt s)] w fun e w' => e = .returned (.tuple #[.int .i64 (s.length : Int), .nilIface]) ∧ WS w' b (t ++ s) nx dp ∧ Fw b.base w w' := by
 have hw := h.hw
 have hsz : (txt s).size = s.length := txt_size s
 go_enter Tryz.func148, Tryz.ntmps148
 go_upto_region 2 with (go_at_call 178; refine (cc_any h).mono ?_; rintro e w1 ⟨rfl, h1, f1⟩)
 obtain ⟨ad, A, c, ha, h2, h3⟩ := h1.mem
 have c1 : w1.cell? ⟨b.pB, 1, none⟩ = some (.slice A t.length c) := h2.cell 1
 have hw1 := h1.hw
 have lp := h2.lt
 have q1 : some b.pB ≠ blk A := fun e => h3.not_blk h2 (by decide) e.symm
 go_wp2_with (at_builtin; refine wp_apps rfl _ _ _ _ rfl Tryz.underlying55 Tryz.underlying9 infoU8 rfl rfl h3 (by unfold maxLen; omega) (by omega) hw1 ?_; intro A5 c5 w2 ho5 ht5 hb5; have k1 := (ht5.cell (a := ⟨b.pB, 1, none⟩) lp q1).trans c1; have z1 := (h2.turn ht5 q1).frozen 1)
 go_ret2
 have hB5 := h2.turn ht5 q1
 have f2 := Fw.row h3 ht5 hw1
 have f3 := Fw.own hB5 h.hb 1 (.slice A5 (t.length + (txt s).size) c5)
 have hlen : (t ++ s).length = t.length + (txt s).size := by rw [List.length_append, hsz]
 have hO6 := ho5.turn (Blk.setTurn w2 b.pB 1 (.slice A5 (t.length + (txt s).size) c5)) (.inr (ho5.not_blk hB5 (by decide)))
 refine ⟨by rw [← hsz]; rfl, h1.renew (f2.trans f3) (by rw [List.length_append]; omega) h.nx_ h.dp_ ⟨ad, A5, c5, ha, ?_, ?_⟩, (f1.trans f2).trans f3⟩
 ·have := hB5.set_ 1 (.slice A5 (t.length + (txt s).size) c5)
  rw [hlen]
  simpa using this
 ·rw [hlen, vbs_append]
  exact hO6
def Gw (b : WB) (w : World) (e : Ending) (w' : World) : Prop := e = giveV 0 1 ∧ Fw b.base w w'
def Uw (b : WB) (w : World) (t : List UInt8) (nx dp : Nat) (e : Ending) (w' : World) : Prop := e = .returned (.tuple #[]) ∧ WS w' b t nx dp ∧ Fw b.base w w'
theorem up_any (x : Value) (w : World) : Calls Tryz.prog 115 #[x] w fun e w' => e = giveV 0 1 ∧ w = w' := by
 go_enter Tryz.func115, Tryz.ntmps115
 go_wp2
 exact ⟨rfl, rfl, rfl⟩
end
open Go.RowKit
def PutPost (b : WB) (w : World) (t : List UInt8) (nx dp : Nat) (s : List UInt8) (e : Ending) (w' : World) : Prop := if (t ++ s).length ≤ 4096 then Uw b w (t ++ s) nx dp e w' else Gw b w e w'
theorem flat_take {ps : List (List UInt8)} {j : Nat} {s : List UInt8} (h : ps[j]? = some s) : (ps.take (j + 1)).flatten = (ps.take j).flatten ++ s := by
 rw [List.take_add_one, h]
 simp
theorem flat_le (ps : List (List UInt8)) (j : Nat) : (ps.take j).flatten.length ≤ ps.flatten.length := by
 have e : ps.flatten = (ps.take j).flatten ++ (ps.drop j).flatten := by rw [← List.flatten_append, List.take_append_drop]
 rw [e, List.length_append]
 omega
theorem put_any {w : World} {b : WB} {t : List UInt8} {nx dp g n : Nat} {ps : List (List UInt8)} (h : WS w b t nx dp) (hP : Blk w g 9 (vss ps).toArray) (hn : ps.length = n) (hn4 : n ≤ 1000) (hs : ∀ s ∈ ps, s.length ≤ 140737488355328) :
  Calls Tryz.prog 116 #[.pointer (some ⟨b.pB, 0, none⟩), .slice (some ⟨g, 0, none⟩) n n] w (PutPost b w t nx dp ps.flatten) := by
 have hw := h.hw
 go_enter Tryz.func116, Tryz.ntmps116
 go_wp2
 go_loopw [8] (fun i wr => ∃ j : Nat, j ≤ n ∧ i = .int .i64 (j : Int) ∧ Hid (WS wr b (t ++ (ps.take j).flatten) nx dp) ∧ Hid (Fw b.base w wr)) (fun i _ => (n - intOf i).toNat)
 case atStart => exact ⟨0, by omega, rfl, hid (by simpa using h), hid (Fw.refl _ _)⟩
 case round =>
  obtain ⟨j, hj, rfl, HW, HF⟩ := hrel
  by_cases hjn : j < n
  ·obtain ⟨s, hsj⟩ : ∃ s, ps[j]? = some s := ⟨ps[j]'(by omega), List.getElem?_eq_getElem (by omega)⟩
   have hcj : wr.cell? ⟨g, j, none⟩ = some (.string (txt s)) := (HF.out.2 _ _ _ hP (by decide) (by decide)).ats (vss_at hsj)
   have hsl := hs s (List.mem_of_getElem? hsj)
   have hsz : (txt s).size = s.length := txt_size s
   have hft := flat_take hsj
   have hle := flat_le ps (j + 1)
   rw [hft, List.length_append] at hle
   have ln := len_any HW.out
   have hsh := HW.out.short
   obtain ⟨T, hT⟩ : ∃ T, T = t ++ (ps.take j).flatten := ⟨_, rfl⟩
   rw [← hT] at ln hsh HW
   have hTl : T.length = t.length + (ps.take j).flatten.length := by rw [hT, List.length_append]
   have hT2 : t ++ (ps.take (j + 1)).flatten = T ++ s := by rw [hft, hT, List.append_assoc]
   by_cases hlong : T.length + s.length ≤ 4096
   ·have wsk := fun {w : World} (h : WS w b T nx dp) => ws_any h s hlong
    have hi : ¬((4096 : Int) - (T.length : Int) < (s.length : Int)) := by omega
    have HT := hid hT2
    clear hT hT2 hft hle hTl hsj
    go_wp2_with (first
     | (go_at_call 147; refine ln.mono ?_; rintro e w1 ⟨rfl, rfl⟩)
     | (go_at_call 148; refine (wsk HW.out).mono ?_; rintro e w2 ⟨rfl, h2, f2⟩))
    refine ⟨⟨j + 1, by omega, by go_num, hid (by rw [HT.out]; exact h2), hid (HF.out.trans f2)⟩, by simp [intOf]; omega⟩
   ·have hi : (4096 : Int) - (T.length : Int) < (s.length : Int) := by omega
    have hno : ¬((t ++ ps.flatten).length ≤ 4096) := by rw [List.length_append]; omega
    have HN := hid hno
    clear hT hT2 hft hle hTl hsj hno
    go_wp2_with (first
     | (go_at_call 147; refine ln.mono ?_; rintro e w1 ⟨rfl, rfl⟩)
     | (go_at_call 115; refine (up_any _ _).mono ?_; rintro e w2 ⟨rfl, rfl⟩; unfold giveV))
    refine ⟨rfl, ?_⟩
    unfold PutPost
    rw [if_neg HN.out]
    exact ⟨rfl, HF.out⟩
  ·obtain rfl : j = n := by omega
   have h2 := HW.out
   rw [← hn, List.take_length] at h2
   have HS := hid h2.short
   go_wp2
   go_end0
   unfold PutPost
   rw [if_pos HS.out]
   exact ⟨rfl, h2, HF.out⟩
abbrev St3 := List UInt8 × Nat × Nat
def wpt (s : List UInt8) (st : St3) : Option St3 := if (st.1 ++ s).length ≤ 4096 then some (st.1 ++ s, st.2) else none
def cSymG : Bool → List (List UInt8) → St3 → Option St3
 | _, [], st => some st
 | fst, s :: r, st => (if fst then some st else wpt [44] st).bind fun st1 => (wpt s st1).bind fun st2 => cSymG false r st2
def cSyms (l : List (List UInt8)) (st : St3) : Option St3 := (wpt [60] st).bind fun st1 => (cSymG true l st1).bind fun st2 => wpt [62] st2
def cItG (rec : Int → St3 → Option St3) : Bool → List Int → St3 → Option St3
 | _, [], st => some st
 | fst, n :: r, st => (if fst then some st else wpt [124] st).bind fun st1 => (rec n st1).bind fun st2 => cItG rec false r st2
def cItems (rec : Int → St3 → Option St3) (l : List Int) (fin : List UInt8) (st : St3) : Option St3 := (cItG rec true l st).bind fun st1 => wpt fin st1
def cFlG (rec : Int → St3 → Option St3) : List Gf → St3 → Option St3
 | [], st => some st
 | x :: r, st => (wpt x.name st).bind fun s1 => (if x.has then wpt [63] s1 else some s1).bind fun s2 => (wpt [58] s2).bind fun s3 => (rec x.ty s3).bind fun s4 => (wpt [59] s4).bind fun s5 => cFlG rec r s5
def cFields (rec : Int → St3 → Option St3) (l : List Gf) (st : St3) : Option St3 := (wpt [123] st).bind fun s1 => (cFlG rec l s1).bind fun s2 => wpt [125] s2
def cBegin (rec : Int → St3 → Option St3) (x : Gn) (st : St3) : Option St3 :=
 if x.k < 0 ∨ 12 ≤ x.k then none
 else (wpt (kwText x.k.toNat) st).bind fun s1 =>
  if x.k = 6 then cItems rec x.items [93] s1
  else if x.k = 7 then cItems rec x.items [125] s1
  else if x.k = 8 then cItems rec x.items [41] s1
  else if x.k = 9 then (wpt (32 :: x.name) s1).bind fun s2 => cSyms x.syms s2
  else if x.k = 10 then wpt (32 :: (x.name ++ 32 :: Lib.itoa x.size)) s1
  else if x.k = 11 then (wpt (32 :: x.name) s1).bind fun s2 => cFields rec x.fields s2
  else some s1
def cTyp (gs : List Gn) : Nat → Nat → Int → St3 → Option St3
 | 0, _, _, _ => none
 | f + 1, deep, n, st =>
  if n < 0 ∨ (st.2.1 : Int) < n ∨ (gs.length : Int) ≤ n then none
  else match gs[n.toNat]? with
   | none => none
   | some x => if n < (st.2.1 : Int) then wpt x.name (st.1, st.2.1, max st.2.2 (deep + 1)) else cBegin (fun m s => cTyp gs f (deep + 1) m s) x (st.1, st.2.1 + 1, max st.2.2 (deep + 1))
theorem wpt_yes {s : List UInt8} {st : St3} (h : (st.1 ++ s).length ≤ 4096) : wpt s st = some (st.1 ++ s, st.2) := if_pos h
theorem wpt_no {s : List UInt8} {st : St3} (h : ¬(st.1 ++ s).length ≤ 4096) : wpt s st = none := if_neg h
end Go.Proofs.YtgigiecdpjchkaaGreatDoor
