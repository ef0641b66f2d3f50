import Derived.Test.YtgigiecdpjchkaaGreatDoorR4
import Derived.Test.YtgigiecdpjchkaaGreatDoorR1
import Derived.Test.YtgigiecdpjchkaaGreatDoorR13
set_option linter.unusedSimpArgs false
set_option linter.unusedVariables false
set_option linter.unusedSectionVars false
set_option maxRecDepth 100000
set_option maxHeartbeats 6400000
namespace Go.Proofs.YtgigiecdpjchkaaGreatDoor
def Up (m : Nat) (s s' : St) : Prop := s.at_ ≤ s'.at_ ∧ s.N.length ≤ s'.N.length ∧ ∀ i, i < m → s'.N[i]? = s.N[i]?
section
variable {T : List Tok} {s s' s'' : St} {m n : Nat}
theorem Up.refl (m : Nat) (s : St) : Up m s s := ⟨Nat.le_refl _, Nat.le_refl _, fun _ _ => rfl⟩
theorem Up.trans (h : Up m s s') (k : Up m s' s'') : Up m s s'' := ⟨Nat.le_trans h.1 k.1, Nat.le_trans h.2.1 k.2.1, fun i hi => (k.2.2 i hi).trans (h.2.2 i hi)⟩
theorem Up.mono (h : Up m s s') (hn : n ≤ m) : Up n s s' := ⟨h.1, h.2.1, fun i hi => h.2.2 i (by omega)⟩
theorem mBad_N (is : Bool) (e : Nat) (s : St) : (mBad T is e s).N = s.N ∧ (mBad T is e s).at_ = s.at_ := by unfold mBad; split <;> exact ⟨rfl, rfl⟩
theorem mOn_N (s : St) : (mOn T s).N = s.N ∧ (mOn T s).why = s.why ∧ s.at_ ≤ (mOn T s).at_ := by
 unfold mOn; split
 ·exact ⟨rfl, rfl, Nat.le_succ _⟩
 ·exact ⟨rfl, rfl, Nat.le_refl _⟩
theorem up_bad (is : Bool) (e : Nat) : Up m s (mBad T is e s) := by
 obtain ⟨h1, h2⟩ := mBad_N (T := T) is e s
 exact ⟨by rw [h2]; exact Nat.le_refl _, by rw [h1]; exact Nat.le_refl _, fun i _ => by rw [h1]⟩
theorem up_on : Up m s (mOn T s) := by
 obtain ⟨h1, _, h2⟩ := mOn_N (T := T) s
 exact ⟨h2, by rw [h1]; exact Nat.le_refl _, fun i _ => by rw [h1]⟩
theorem mSg_N (x : List UInt8) (s : St) : (mSg T x s).N = s.N := by unfold mSg; rw [(mOn_N _).1, (mBad_N _ _ _).1]
theorem mNm_N (s : St) : (mNm T s).N = s.N ∧ (mNm T s).at_ = s.at_ := mBad_N _ _ _
theorem up_sg (x : List UInt8) : Up m s (mSg T x s) := (up_bad _ _).trans up_on
theorem up_nm : Up m s (mNm T s) := up_bad _ _
theorem up_mod (g : Nd → Nd) (h : m ≤ n) : Up m s (s.mod n g) := ⟨Nat.le_refl _, by show _ ≤ (s.N.modify n g).length; rw [List.length_modify]; exact Nat.le_refl _, fun i hi => by
 show (s.N.modify n g)[i]? = _
 rw [List.getElem?_modify]
 have hne : ¬n = i := by omega
 cases s.N[i]? <;> simp [hne]⟩
def RUp (rec : MRd) : Prop := ∀ s, Up s.N.length s (rec s).2
theorem up_one {rec : MRd} (hr : RUp rec) (shut : List UInt8) (h : m ≤ n) (hs : m ≤ s.N.length) : Up m s (mOne T rec n shut s) := by
 unfold mOne
 exact (((hr s).mono hs).trans (up_mod _ h)).trans (up_sg _)
theorem up_allS {rec : List Nat → MRd} (hr : ∀ u, RUp (rec u)) (h : m ≤ n) (hs : m ≤ s.N.length) : Up m s (mAllS rec n s) := by
 unfold mAllS
 exact ((hr _ s).mono hs).trans (up_mod _ h)
theorem up_all {rec : List Nat → MRd} (hr : ∀ u, RUp (rec u)) (h : m ≤ n) : ∀ (g : Nat) (s : St), m ≤ s.N.length → Up m s (mAll T rec n g s)
 | 0, s, _ => Up.refl _ _
 | g + 1, s, hs => by
  have h1 : Up m s (mAllS rec n s) := up_allS hr h hs
  rw [mAll]
  split
  ·exact Up.refl _ _
  ·split
   ·exact h1.trans up_on
   ·have h2 : Up m s (mSg T [124] (mAllS rec n s)) := h1.trans (up_sg _)
    exact h2.trans (up_all hr h g _ (Nat.le_trans hs h2.2.1))
theorem up_symS (h : m ≤ n) : Up m s (mSymS T n s) := by
 unfold mSymS
 exact ((up_nm.trans (up_bad _ _)).trans (up_mod _ h)).trans up_on
theorem up_syms (h : m ≤ n) : ∀ (g : Nat) (s : St), Up m s (mSyms T n g s)
 | 0, s => Up.refl _ _
 | g + 1, s => by
  have h1 : Up m s (mSymS T n s) := up_symS h
  rw [mSyms]
  split
  ·exact Up.refl _ _
  ·split
   ·exact h1.trans up_on
   ·exact (h1.trans (up_sg _)).trans (up_syms h g _)
theorem up_fldA : Up m s (mFldA T n s) := by
 unfold mFldA
 exact (up_nm.trans (up_bad _ _)).trans up_on
theorem up_fldB : Up m s (mFldB T n s) := by
 unfold mFldB
 split
 ·exact (up_fldA.trans up_on).trans (up_sg _)
 ·exact up_fldA.trans (up_sg _)
theorem up_fldC {rec : MRd} (hr : RUp rec) (h : m ≤ n) (hs : m ≤ s.N.length) : Up m s (mFldC T rec n s) := by
 have h1 : Up m s (mFldB T n s) := up_fldB
 unfold mFldC
 exact ((h1.trans ((hr _).mono (Nat.le_trans hs h1.2.1))).trans (up_sg _)).trans (up_mod _ h)
theorem up_fldL {rec : MRd} (hr : RUp rec) (h : m ≤ n) : ∀ (g : Nat) (s : St), m ≤ s.N.length → Up m s (mFldL T rec n g s).2
 | 0, s, _ => Up.refl _ _
 | g + 1, s, hs => by
  rw [mFldL]
  split
  ·exact Up.refl _ _
  ·split
   ·exact up_fldB
   ·have h2 : Up m s (mFldC T rec n s) := up_fldC hr h hs
    exact h2.trans (up_fldL hr h g _ (Nat.le_trans hs h2.2.1))
theorem up_flds {rec : MRd} (hr : RUp rec) (h : m ≤ n) (hs : m ≤ s.N.length) : Up m s (mFlds T rec n s) := by
 have h1 : Up m s (mSg T [123] s) := up_sg _
 have h2 := h1.trans (up_fldL (T := T) hr h (T.length + 1) _ (Nat.le_trans hs h1.2.1))
 unfold mFlds
 split
 ·exact h2
 ·exact h2.trans (up_sg _)
theorem up_defA (h : m ≤ n) : Up m s (mDefA T n s) := by
 unfold mDefA
 exact ((up_nm.trans (up_bad _ _)).trans (up_mod _ h)).trans up_on
theorem up_def {rec : MRd} (hr : RUp rec) (h : m ≤ n) (hs : m ≤ s.N.length) (k : Int) : Up m s (mDef T rec n k s) := by
 have h1 : Up m s (mDefA T n s) := up_defA h
 unfold mDef
 split
 ·unfold mFix
  exact ((h1.trans (up_bad _ _)).trans (up_mod _ h)).trans up_on
 ·split
  ·exact h1.trans (up_flds hr h (Nat.le_trans hs h1.2.1))
  ·exact (h1.trans (up_sg _)).trans (up_syms h _ _)
theorem up_push (k : Nat) : Up s.N.length s { s with N := s.N ++ [Nd.of k] } := ⟨Nat.le_refl _, by simp, fun i hi => by show (s.N ++ _)[i]? = _; rw [List.getElem?_append_left hi]⟩
theorem up_body {rec : Option (List Nat) → MRd} (hr : ∀ u, RUp (rec u)) (k : Int) : Up s.N.length s (mBody T rec k s).2 := by
 have h1 := up_push (s := s) k.toNat
 have hl : s.N.length ≤ ({ s with N := s.N ++ [Nd.of k.toNat] } : St).N.length := by simp
 unfold mBody
 simp only
 split
 ·exact h1
 ·split
  ·exact h1.trans (up_one (hr none) _ (Nat.le_refl _) hl)
  ·split
   ·exact h1.trans (up_one (hr none) _ (Nat.le_refl _) hl)
   ·split
    ·exact h1.trans (up_all (fun u => hr (some u)) (Nat.le_refl _) _ _ hl)
    ·exact h1.trans (up_def (hr none) (Nat.le_refl _) hl k)
theorem mPre_N (deep : Nat) (un : Option (List Nat)) (k n : Int) (s : St) : (mPre T deep un k n s).N = s.N ∧ (mPre T deep un k n s).at_ = s.at_ := by
 unfold mPre
 rw [(mBad_N _ _ _).1, (mBad_N _ _ _).1, (mBad_N _ _ _).1, (mBad_N _ _ _).1, (mBad_N _ _ _).2, (mBad_N _ _ _).2, (mBad_N _ _ _).2, (mBad_N _ _ _).2]
 split
 ·exact mNm_N s
 ·exact ⟨rfl, rfl⟩
theorem up_pre (deep : Nat) (un : Option (List Nat)) (k n : Int) : Up m s (mPre T deep un k n s) := by
 obtain ⟨h1, h2⟩ := mPre_N (T := T) deep un k n s
 exact ⟨by rw [h2]; exact Nat.le_refl _, by rw [h1]; exact Nat.le_refl _, fun i _ => by rw [h1]⟩
theorem up_typed : ∀ (f deep : Nat) (un : Option (List Nat)), RUp (mTyped T f deep un)
 | 0, _, _ => fun s => Up.refl _ _
 | f + 1, deep, un => fun s => by
  rw [mTyped]
  split
  ·exact up_pre _ _ _ _
  ·split
   ·exact (up_pre _ _ _ _).trans up_on
   ·have h1 : Up s.N.length s (mOn T (mPre T deep un (kNo (tokAt T s.at_)) (mName (tokAt T s.at_) s (kNo (tokAt T s.at_))) s)) := (up_pre _ _ _ _).trans up_on
    have h2 := up_body (T := T) (s := mOn T (mPre T deep un (kNo (tokAt T s.at_)) (mName (tokAt T s.at_) s (kNo (tokAt T s.at_))) s)) (fun u => up_typed f (deep + 1) u) (kNo (tokAt T s.at_))
    have hl : (mOn T (mPre T deep un (kNo (tokAt T s.at_)) (mName (tokAt T s.at_) s (kNo (tokAt T s.at_))) s)).N.length = s.N.length := by rw [(mOn_N _).1, (mPre_N _ _ _ _ _).1]
    rw [hl] at h2
    exact h1.trans h2
theorem calledI_lt {N : List Nd} {x : List UInt8} (h : 0 ≤ calledI N x) : (calledI N x).toNat < N.length := by
 unfold calledI at h ⊢
 cases hc : pCalled N x with
 | none => rw [hc] at h; simp at h
 | some n =>
  obtain ⟨_, _, hl, _⟩ := pCalled_some hc
  simpa using hl
theorem typed_lt (f deep : Nat) (un : Option (List Nat)) (hp : 0 < s.N.length) : (mTyped T f deep un s).1 < (mTyped T f deep un s).2.N.length := by
 have hu := up_typed (T := T) f deep un s
 cases f with
 | zero => exact hp
 | succ f =>
  rw [mTyped] at hu ⊢
  split
  ·rename_i h1
   rw [if_pos h1] at hu
   exact Nat.lt_of_lt_of_le hp hu.2.1
  ·rename_i h1
   split
   ·rename_i h2
    show (mName (tokAt T s.at_) s (kNo (tokAt T s.at_))).toNat < (mOn T _).N.length
    rw [(mOn_N _).1, (mPre_N _ _ _ _ _).1]
    unfold mName
    rw [if_pos h2]
    by_cases h3 : calledI s.N (tokAt T s.at_).s < 0
    ·have : (calledI s.N (tokAt T s.at_).s).toNat = 0 := by omega
     rw [this]; exact hp
    ·exact calledI_lt (by omega)
   ·show (mOn T _).N.length < (mBody T _ _ _).2.N.length
    generalize mOn T _ = s1
    have hb : ∀ k : Int, s1.N.length < ({ s1 with N := s1.N ++ [Nd.of k.toNat] } : St).N.length := fun k => by simp
    have key : ∀ {s2 : St} (k : Int), Up s1.N.length { s1 with N := s1.N ++ [Nd.of k.toNat] } s2 → s1.N.length < s2.N.length := fun k h => Nat.lt_of_lt_of_le (hb k) h.2.1
    have hr : ∀ u, RUp (mTyped T f (deep + 1) u) := fun u => up_typed f (deep + 1) u
    have hl : ∀ k : Int, s1.N.length ≤ ({ s1 with N := s1.N ++ [Nd.of k.toNat] } : St).N.length := fun k => by simp
    unfold mBody
    simp only
    split
    ·exact hb _
    ·split
     ·exact key _ (up_one (hr none) _ (Nat.le_refl _) (hl _))
     ·split
      ·exact key _ (up_one (hr none) _ (Nat.le_refl _) (hl _))
      ·split
       ·exact key _ (up_all (fun u => hr (some u)) (Nat.le_refl _) _ _ (hl _))
       ·exact key _ (up_def (hr none) (Nat.le_refl _) (hl _) _)
end
open Go.RowKit
def Uf (b : QB) (w : World) (s : St) (e : Ending) (w' : World) : Prop := e = .returned (.tuple #[]) ∧ PS w' b s ∧ Fq b w w'
structure UnOk (w : World) (b : QB) (s : St) (A : Option Addr) (l : List Nat) : Prop where
 rd : Rd w w.heap.size 1 A l.length (vis (l.map Int.ofNat))
 off : blk A ≠ some b.pB
 inn : ∀ i ∈ l, i < s.N.length
 few : l.length ≤ 1000000
def TypQ (f d : Nat) : Prop := ∀ (w : World) (b : QB) (s : St) (un : Option (List Nat)) (A : Option Addr) (c : Nat), PS w b s → s.why = 0 → UnOk w b s A (un.getD []) →
 Calls Tryz.prog 49 #[.pointer (some ⟨b.pB, 0, none⟩), .int .i64 (d : Int), .bool un.isSome, .slice A (un.getD []).length c] w fun e w' =>
  e = .returned (.int .i64 ((mTyped b.T f d un s).1 : Int)) ∧ PS w' b (mTyped b.T f d un s).2 ∧ Fq b w w'
theorem UnOk.none_ (w : World) (b : QB) (s : St) : UnOk w b s none ((none : Option (List Nat)).getD []) := ⟨Rd.none_ w _ 1 0, by simp [blk], fun i h => (by cases h), by simp⟩
def qm (w : World) (b : QB) : Nat := match w.cell? ⟨b.pB, 3, none⟩, w.cell? ⟨b.pB, 1, none⟩ with
 | some (.int _ e), some (.int _ a) => if e = 0 then b.T.length - a.toNat + 1 else 0
 | _, _ => 0
section
variable {w w' : World} {b : QB} {s s' : St}
theorem PS.qm (h : PS w b s) : qm w b = if s.why = 0 then b.T.length - s.at_ + 1 else 0 := by
 obtain ⟨R, _, _, _, p1, _, p3, _⟩ := h.opn
 unfold Go.Proofs.YtgigiecdpjchkaaGreatDoor.qm
 rw [p3, p1]
 simp only [Int.toNat_natCast]
 by_cases hz : s.why = 0
 ·rw [if_pos hz, if_pos (by omega)]
 ·rw [if_neg hz, if_neg (by omega)]
theorem PS.p3 (h : PS w b s) : w.cell? ⟨b.pB, 3, none⟩ = some (.int .i64 (s.why : Int)) := by
 obtain ⟨R, _, _, _, _, _, p3, _⟩ := h.opn
 exact p3
theorem mSg_adv {T : List Tok} (hT : TOk T) {x : List UInt8} (h0 : s.why = 0) (hl : s.at_ < T.length) (hz : (mSg T x s).why = 0) : (mSg T x s).at_ = s.at_ + 1 := by
 by_cases hx : (tokAt T s.at_).k = 2 ∧ (tokAt T s.at_).s = x
 ·rw [(mSg_yes hT h0 hl hx).1]
 ·have := (mSg_no (T := T) h0 hx).1
  rw [this] at hz; cases hz
theorem mAll_stuck {T : List Tok} {rec : List Nat → MRd} {m g : Nat} (h : s.why ≠ 0) : mAll T rec m g s = s := by
 cases g with
 | zero => rfl
 | succ g => rw [mAll, if_pos h]
def AllI (b : QB) (w : World) (rec : List Nat → MRd) (m : Nat) (F : St) (wr : World) : Prop :=
 ∃ g s, PS wr b s ∧ mAll b.T rec m g s = F ∧ (s.why = 0 → b.T.length - s.at_ < g ∧ ∃ x, s.N[m]? = some x ∧ x.items.length ≤ s.at_) ∧ m < s.N.length ∧ Fq b w wr
theorem pall_any {f d : Nat} (hd : d ≤ 20) (TQ : TypQ f (d + 1)) (h : PS w b s) {m : Nat} {x : Nd} (hx : s.N[m]? = some x) (hxl : x.items.length ≤ s.at_) :
  Calls Tryz.prog 84 #[.pointer (some ⟨b.pB, 0, none⟩), .int .i64 (m : Int), .int .i64 (d : Int)] w (Uf b w (mAll b.T (fun u => mTyped b.T f (d + 1) (some u)) m (b.T.length + 1) s)) := by
 have hw := h.hw
 have hml := (List.getElem?_eq_some_iff.1 hx).1
 obtain ⟨rec, hrec⟩ : ∃ rec : List Nat → MRd, rec = fun u => mTyped b.T f (d + 1) (some u) := ⟨_, rfl⟩
 have hrup : ∀ u, RUp (rec u) := by rw [hrec]; exact fun u => up_typed f (d + 1) (some u)
 have hlt : ∀ u (s : St), 0 < s.N.length → (rec u s).1 < (rec u s).2.N.length := by rw [hrec]; exact fun u s => typed_lt f (d + 1) (some u)
 have TR : ∀ (w : World) (b' : QB) (s : St) (u : List Nat) (A : Option Addr) (c : Nat), b'.T = b.T → PS w b' s → s.why = 0 → UnOk w b' s A u →
   Calls Tryz.prog 49 #[.pointer (some ⟨b'.pB, 0, none⟩), .int .i64 ((d : Int) + 1), .bool true, .slice A u.length c] w fun e w' =>
    e = .returned (.int .i64 ((rec u s).1 : Int)) ∧ PS w' b' (rec u s).2 ∧ Fq b' w w' := by
  intro w b' s u A c hb h h0 hu
  have := TQ w b' s (some u) A c h h0 hu
  rw [hrec]
  rw [hb] at this
  exact this
 rw [← hrec]
 obtain ⟨FIN, hFIN⟩ : ∃ F, F = mAll b.T rec m (b.T.length + 1) s := ⟨_, rfl⟩
 rw [← hFIN]
 have hI : Hid (AllI b w rec m FIN w) := hid ⟨b.T.length + 1, s, h, hFIN.symm, fun _ => ⟨by omega, x, hx, hxl⟩, hml, Fq.refl _ _⟩
 have hdw : IntKind.i64.wrap ((d : Int) + 1) = (d : Int) + 1 := by rw [IntKind.wrap_i64]; omega
 clear hFIN hx hxl hml hrec TQ h
 go_enter Tryz.func84, Tryz.ntmps84
 go_wp2
 go_loopw [6] (fun i wr => Hid (AllI b w rec m FIN wr)) (fun _ wr => qm wr b)
 case atStart => exact hI
 case round =>
  clear hI
  obtain ⟨g1, s1, h1, hF, hg, hml, f1⟩ := hrel.out
  have HF := hid hF
  have hqm := hid h1.qm
  clear hrel hF
  have p3 := h1.p3
  by_cases hz : s1.why = 0
  ·have e1 : ((s1.why : Int) == 0) = true := by rw [beq_iff_eq]; omega
   obtain ⟨hgl, x, hx, hxl⟩ := hg hz
   have HZ := hid (And.intro hz hgl)
   clear hz hg hgl
   obtain ⟨R1, g0, nd⟩ := h1.ndAt hx
   have p2 := nd.p2
   have n4 := nd.n4
   have hfew := h1.few
   have hat := h1.at_
   have hu : UnOk wr b s1 (R1 (some (m, 1))).A x.items := ⟨((nd.hN.items m x hx).own (nd.hN.aps.own _)).rd, fun e => nd.q1 1 e.symm, h1.ok.inn x (List.mem_of_getElem? hx), by omega⟩
   have key := fun (c : Nat) => TR wr b s1 x.items _ c rfl h1 HZ.out.1 hu
   obtain ⟨i, hi⟩ : ∃ i, i = (rec x.items s1).1 := ⟨_, rfl⟩
   obtain ⟨s3, hs3⟩ : ∃ s3, s3 = (rec x.items s1).2 := ⟨_, rfl⟩
   have hup := hrup x.items s1
   have hil := hlt x.items s1 (by omega)
   rw [← hi, ← hs3] at key
   rw [← hs3] at hup
   rw [← hi, ← hs3] at hil
   have hn3 : s3.N[m]? = some x := (hup.2.2 m hml).trans hx
   have hMS := hid (show mAllS rec m s1 = s3.mod m fun y => { y with items := y.items ++ [i] } by
    unfold mAllS
    rw [show itemsAt s1.N m = x.items by unfold itemsAt; rw [hx], ← hi, ← hs3])
   have HUP := hid hup
   have HM3 : m < s3.N.length := Nat.lt_of_lt_of_le hml hup.2.1
   clear hi hs3 hup
   go_upto_region 2 with (go_at_call 49; refine (key _).mono ?_; rintro e w3 ⟨rfl, h3, f3⟩)
   have hsm := h3.ok.small x (List.mem_of_getElem? hn3)
   have hxk := h3.ok.names x (List.mem_of_getElem? hn3)
   have hinn := h3.ok.inn x (List.mem_of_getElem? hn3)
   have hok4 : NOk (s3.N.modify m fun y => { y with items := y.items ++ [i] }) (s3.at_ + 1) := h3.ok.mod hn3 (Nat.le_refl _) hxk ⟨hsm.1, by have := HUP.out.1; show (x.items ++ [i]).length ≤ _; rw [List.length_append]; show x.items.length + 1 ≤ _; omega, hsm.2.2⟩ (fun j hj => by
    have hj : j ∈ x.items ++ [i] := hj
    rcases List.mem_append.1 hj with hj | hj
    ·exact hinn j hj
    ·obtain rfl : j = i := by simpa using hj
     exact hil)
   obtain ⟨NL, hNL⟩ : ∃ NL, s3.N.length = NL := ⟨_, rfl⟩
   have HNL := hid hNL
   clear hNL p2 n4 p3 key hu nd
   obtain ⟨R, g, nd3⟩ := h3.ndAt hn3
   have hN := nd3.hN
   have hrb := nd3.hrb
   have p2 := nd3.p2
   have n3 := nd3.n4
   have hgp := nd3.ne
   have hA := nd3.hA
   have hO := (hN.items m x hn3).own (hN.aps.own _)
   have lp := hrb.lt
   have lg := World.block_lt_of_cell? w3 _ nd3.n0
   have q1 := nd3.q1 1
   have q2 := nd3.q2 1
   have hown := nd3.hN.own
   rw [nd3.hA] at hown
   have fz3 := nd3.fz (m * 6 + 4)
   have tA : Turn w3 (w3.alloc (.cells #[Value.int .i64 (i : Int)] 3)).drew none := ((Turn.refl w3 none).alloc _).drew
   have pA := (tA.cell (a := ⟨b.pB, 2, none⟩) lp (by simp)).trans p2
   have nA := (tA.cell (a := ⟨g, m * 6 + 4, none⟩) lg (by simp)).trans n3
   have hwA : b.base ≤ (w3.alloc (.cells #[Value.int .i64 (i : Int)] 3)).drew.heap.size := Nat.le_trans h3.hw.1 tA.size
   have hsA : w3.heap.size ≤ (w3.alloc (.cells #[Value.int .i64 (i : Int)] 3)).drew.heap.size := tA.size
   have hmi : m < NL := by rw [← HNL.out]; exact (List.getElem?_eq_some_iff.1 hn3).1
   rw [HNL.out] at p2 pA
   refine wp_region_noPanic ?_
   refine wp_region_held_drew (S := (fun W => W.cell? ⟨b.pB, 2, none⟩ = some (.slice (some ⟨g, 0, none⟩) NL (R none).c))) (by kernel_rfl) (p2) (fun hHeld => ?_)
   (first | refine tkN 0 ?_ | refine tkY 0 _ ?_); (try simp only [Act.put, zs])
   (first | refine tkN 1 ?_ | refine tkY 1 _ ?_); (try simp only [Act.put, zs])
   (first | refine tkN 2 ?_ | refine tkY 2 _ ?_); (try simp only [Act.put, zs])
   (first | refine tkN 3 ?_ | refine tkY 3 _ ?_); (try simp only [Act.put, zs])
   (first | refine tkN 4 ?_ | refine tkY 4 _ ?_); (try simp only [Act.put, zs])
   (first | refine tkN 5 ?_ | refine tkY 5 _ ?_); (try simp only [Act.put, zs])
   (first | refine tkN 6 ?_ | refine tkY 6 _ ?_); (try simp only [Act.put, zs])
   (first | refine tkN 7 ?_ | refine tkY 7 _ ?_); (try simp only [Act.put, zs])
   (first | refine tkN 8 ?_ | refine tkY 8 _ ?_); (try simp only [Act.put, zs])
   (first | refine tkN 9 ?_ | refine tkY 9 _ ?_); (try simp only [Act.put, zs])
   (first | refine tkN 10 ?_ | refine tkY 10 _ ?_); (try simp only [Act.put, zs])
   (first | refine tkN 11 ?_ | refine tkY 11 _ ?_); (try simp only [Act.put, zs])
   (first | refine tkN 13 ?_ | refine tkY 13 _ ?_); (try simp only [Act.put, zs])
   refine wpAnyH_ready (rs := [12, 14]) (by kernel_rfl) (by simp) ?_; refine AllReadyH.cons rfl (fun K hK => ?_) (AllReadyH.cons rfl (fun K hK => ?_) AllReadyH.nil)
   ·go_simp
    refine hK.out _ _ p2 (fun hHeld => ?_); clear hK K; (try simp only [Act.put, zs])
    refine wpAnyH_ready (rs := [14]) (by kernel_rfl) (by simp) ?_; refine AllReadyH.cons rfl (fun K hK => ?_) AllReadyH.nil
    go_simp
    refine hK.out _ _ pA (fun hHeld => ?_); clear hK K; (try simp only [Act.put, zs])
    refine wpAnyH_ready (rs := [15]) (by kernel_rfl) (by simp) ?_; refine AllReadyH.cons rfl (fun K hK => ?_) AllReadyH.nil
    refine st_app (base := b.base) rfl _ _ _ rfl elI rfl rfl (hO.alloc _).drew (Rd.litS w3 _ 1 1 [Value.int .i64 (i : Int)] rfl).drew (by repeat (first | exact ones_nil | refine ones_cons rfl ?_)) (by unfold maxLen; first | omega | (simp; done) | (simp; omega)) (by first | omega | (simp; done) | (simp; omega)) hwA ?_
    intro A5 c5 w5 ho5 ht5 hb5
    have ht6 : Turn w3 w5 (blk (R (some (m, 1))).A) := (((Turn.refl w3 _).alloc _).drew).trans ht5
    have k1 := (ht6.cell (a := ⟨b.pB, 2, none⟩) lp q1).trans p2
    have k3 := (ht6.cell (a := ⟨g, m * 6 + 4, none⟩) lg q2).trans n3
    have fz5 := (hown.turn ht6 (.inr q2)).frozen (m * 6 + 4)
    refine hK.out _ _ k1 (fun hHeld => ?_); clear hK K; (try simp only [Act.put, zs])
    (first | refine tkN 16 ?_ | refine tkY 16 _ ?_); (try simp only [Act.put, zs])
    (first | refine tkN 17 ?_ | refine tkY 17 _ ?_); (try simp only [Act.put, zs])
    refine wpAnyH_ready (rs := [18]) (by kernel_rfl) (by simp) ?_; refine AllReadyH.cons rfl (fun K hK => ?_) AllReadyH.nil
    go_simp
    refine hK.out _ _ ((World.cell?_setCell_far _ _ _ _ hgp).trans k1) (fun hHeld => ?_); clear hK K; (try simp only [Act.put, zs])
    refine wpAnyH_done (by kernel_rfl) ?_ _
    refine NoPanic.normal ?_
    clear hHeld
    obtain ⟨h4, f4⟩ := h3.slot (w1 := w5) (gg := fun y => { y with items := y.items ++ [i] }) (r := ⟨3, 1, A5, x.items.length + 1, c5, vis (x.items.map Int.ofNat) ++ [Value.int .i64 (i : Int)]⟩) hN nd3.hO hrb hn3 hA (j := 1) (by omega) ho5 ht6 (hb5.imp id fun e => ⟨_, e, hsA⟩) (.inr (.inl rfl)) ⟨rfl, rfl, rfl⟩
     (hN.syms m x hn3) ⟨rfl, rfl, by simp, by simp [vis]⟩ (hN.fields m x hn3) hok4
    rw [← hMS.out] at h4
    obtain ⟨w6, hw6⟩ : ∃ w6, w6 = w5.setCell ⟨g, m * 6 + (3 + 1), none⟩ (Rw.v ⟨3, 1, A5, x.items.length + 1, c5, vis (x.items.map Int.ofNat) ++ [Value.int .i64 (i : Int)]⟩) := ⟨_, rfl⟩
    rw [← hw6] at h4 f4
    have F6 := (f1.trans f3).trans f4
    have hwv : w5.setCell ⟨g, m * 6 + 4, none⟩ (.slice A5 (x.items.length + 1) c5) = w6 := hw6.symm
    rw [hwv]
    obtain ⟨s4, hs4⟩ : ∃ s4, s4 = mAllS rec m s1 := ⟨_, rfl⟩
    have h4a : s4.at_ = s3.at_ ∧ s4.N.length = s3.N.length ∧ s4.N[m]? = some { x with items := x.items ++ [i] } := by
     rw [hs4, hMS.out]
     refine ⟨rfl, by show (s3.N.modify m _).length = _; rw [List.length_modify], ?_⟩
     show (s3.N.modify m _)[m]? = _
     rw [List.getElem?_modify, hn3]
     simp
    have HS4 := hid (And.intro h4a hs4)
    rw [← hs4] at h4
    clear hw6 hwv hs4 h4a
    obtain ⟨g', rfl⟩ : ∃ g', g1 = g' + 1 := ⟨g1 - 1, by have := HZ.out.2; omega⟩
    have HF2 := HF.out
    rw [mAll, if_neg (by simp [HZ.out.1]), ← HS4.out.2] at HF2
    have hh := phere_any h4 [41]
    cases hb : mHere b.T [41] s4 with
    | true =>
     rw [hb] at hh
     rw [if_pos hb] at HF2
     have HX := hid HF2
     clear hb HF2
     go_wp2_with (first
      | (go_at_call 122; refine hh.mono ?_; rintro e w7 ⟨rfl, ht7⟩)
      | (go_at_call 82; refine (pon_any (h4.turn0 ht7)).mono ?_; rintro e w8 ⟨rfl, h8, ht8⟩))
     go_end0
     exact ⟨rfl, by rw [← HX.out]; exact h8, (F6.turn ht7 hw).trans ((h4.turn0 ht7).fq ht8)⟩
    | false =>
     rw [hb] at hh
     rw [if_neg (by rw [hb]; decide)] at HF2
     have HX := hid HF2
     clear hb HF2
     go_wp2_with (first
      | (go_at_call 122; refine hh.mono ?_; rintro e w7 ⟨rfl, ht7⟩)
      | (go_at_call 83; refine (psign_any (h4.turn0 ht7) [124]).mono ?_; rintro e w8 ⟨rfl, h8, ht8⟩))
     have hs4w : s4.why = 0 → (mSg b.T [124] s4).why = 0 → (mSg b.T [124] s4).at_ = s4.at_ + 1 := fun q1 q2 => mSg_adv h4.tok q1 h4.at_ q2
     have hs4s : s4.why ≠ 0 → (mSg b.T [124] s4).why ≠ 0 := fun q => by rw [mSg_stuck _ q]; exact q
     have hNs := mSg_N (T := b.T) [124] s4
     have hat4 := HS4.out.1.1
     have hat3 := HUP.out.1
     refine ⟨hid ⟨g', mSg b.T [124] s4, h8, HX.out, fun hz5 => ?_, ?_, (F6.turn ht7 hw).trans ((h4.turn0 ht7).fq ht8)⟩, ?_⟩
     ·have hz4 : s4.why = 0 := Classical.byContradiction fun q => hs4s q hz5
      have ha5 := hs4w hz4 hz5
      refine ⟨by have := HZ.out.2; have := h8.at_; omega, _, by rw [hNs]; exact HS4.out.1.2.2, ?_⟩
      show (x.items ++ [i]).length ≤ _
      rw [List.length_append]
      show x.items.length + 1 ≤ _
      omega
     ·rw [hNs, HS4.out.1.2.1]; exact HM3
     ·rw [h8.qm, hqm.out, if_pos HZ.out.1]
      by_cases hz5 : (mSg b.T [124] s4).why = 0
      ·have hz4 : s4.why = 0 := Classical.byContradiction fun q => hs4s q hz5
       have ha5 := hs4w hz4 hz5
       have := h8.at_
       rw [if_pos hz5]
       omega
      ·rw [if_neg hz5]; omega
   ·go_simp
    refine hK.out _ _ pA (fun hHeld => ?_); clear hK K; (try simp only [Act.put, zs])
    refine wpAnyH_ready (rs := [12]) (by kernel_rfl) (by simp) ?_; refine AllReadyH.cons rfl (fun K hK => ?_) AllReadyH.nil
    go_simp
    refine hK.out _ _ pA (fun hHeld => ?_); clear hK K; (try simp only [Act.put, zs])
    refine wpAnyH_ready (rs := [15]) (by kernel_rfl) (by simp) ?_; refine AllReadyH.cons rfl (fun K hK => ?_) AllReadyH.nil
    refine st_app (base := b.base) rfl _ _ _ rfl elI rfl rfl (hO.alloc _).drew (Rd.litS w3 _ 1 1 [Value.int .i64 (i : Int)] rfl).drew (by repeat (first | exact ones_nil | refine ones_cons rfl ?_)) (by unfold maxLen; first | omega | (simp; done) | (simp; omega)) (by first | omega | (simp; done) | (simp; omega)) hwA ?_
    intro A5 c5 w5 ho5 ht5 hb5
    have ht6 : Turn w3 w5 (blk (R (some (m, 1))).A) := (((Turn.refl w3 _).alloc _).drew).trans ht5
    have k1 := (ht6.cell (a := ⟨b.pB, 2, none⟩) lp q1).trans p2
    have k3 := (ht6.cell (a := ⟨g, m * 6 + 4, none⟩) lg q2).trans n3
    have fz5 := (hown.turn ht6 (.inr q2)).frozen (m * 6 + 4)
    refine hK.out _ _ k1 (fun hHeld => ?_); clear hK K; (try simp only [Act.put, zs])
    (first | refine tkN 16 ?_ | refine tkY 16 _ ?_); (try simp only [Act.put, zs])
    (first | refine tkN 17 ?_ | refine tkY 17 _ ?_); (try simp only [Act.put, zs])
    refine wpAnyH_ready (rs := [18]) (by kernel_rfl) (by simp) ?_; refine AllReadyH.cons rfl (fun K hK => ?_) AllReadyH.nil
    go_simp
    refine hK.out _ _ ((World.cell?_setCell_far _ _ _ _ hgp).trans k1) (fun hHeld => ?_); clear hK K; (try simp only [Act.put, zs])
    refine wpAnyH_done (by kernel_rfl) ?_ _
    refine NoPanic.normal ?_
    clear hHeld
    obtain ⟨h4, f4⟩ := h3.slot (w1 := w5) (gg := fun y => { y with items := y.items ++ [i] }) (r := ⟨3, 1, A5, x.items.length + 1, c5, vis (x.items.map Int.ofNat) ++ [Value.int .i64 (i : Int)]⟩) hN nd3.hO hrb hn3 hA (j := 1) (by omega) ho5 ht6 (hb5.imp id fun e => ⟨_, e, hsA⟩) (.inr (.inl rfl)) ⟨rfl, rfl, rfl⟩
     (hN.syms m x hn3) ⟨rfl, rfl, by simp, by simp [vis]⟩ (hN.fields m x hn3) hok4
    rw [← hMS.out] at h4
    obtain ⟨w6, hw6⟩ : ∃ w6, w6 = w5.setCell ⟨g, m * 6 + (3 + 1), none⟩ (Rw.v ⟨3, 1, A5, x.items.length + 1, c5, vis (x.items.map Int.ofNat) ++ [Value.int .i64 (i : Int)]⟩) := ⟨_, rfl⟩
    rw [← hw6] at h4 f4
    have F6 := (f1.trans f3).trans f4
    have hwv : w5.setCell ⟨g, m * 6 + 4, none⟩ (.slice A5 (x.items.length + 1) c5) = w6 := hw6.symm
    rw [hwv]
    obtain ⟨s4, hs4⟩ : ∃ s4, s4 = mAllS rec m s1 := ⟨_, rfl⟩
    have h4a : s4.at_ = s3.at_ ∧ s4.N.length = s3.N.length ∧ s4.N[m]? = some { x with items := x.items ++ [i] } := by
     rw [hs4, hMS.out]
     refine ⟨rfl, by show (s3.N.modify m _).length = _; rw [List.length_modify], ?_⟩
     show (s3.N.modify m _)[m]? = _
     rw [List.getElem?_modify, hn3]
     simp
    have HS4 := hid (And.intro h4a hs4)
    rw [← hs4] at h4
    clear hw6 hwv hs4 h4a
    obtain ⟨g', rfl⟩ : ∃ g', g1 = g' + 1 := ⟨g1 - 1, by have := HZ.out.2; omega⟩
    have HF2 := HF.out
    rw [mAll, if_neg (by simp [HZ.out.1]), ← HS4.out.2] at HF2
    have hh := phere_any h4 [41]
    cases hb : mHere b.T [41] s4 with
    | true =>
     rw [hb] at hh
     rw [if_pos hb] at HF2
     have HX := hid HF2
     clear hb HF2
     go_wp2_with (first
      | (go_at_call 122; refine hh.mono ?_; rintro e w7 ⟨rfl, ht7⟩)
      | (go_at_call 82; refine (pon_any (h4.turn0 ht7)).mono ?_; rintro e w8 ⟨rfl, h8, ht8⟩))
     go_end0
     exact ⟨rfl, by rw [← HX.out]; exact h8, (F6.turn ht7 hw).trans ((h4.turn0 ht7).fq ht8)⟩
    | false =>
     rw [hb] at hh
     rw [if_neg (by rw [hb]; decide)] at HF2
     have HX := hid HF2
     clear hb HF2
     go_wp2_with (first
      | (go_at_call 122; refine hh.mono ?_; rintro e w7 ⟨rfl, ht7⟩)
      | (go_at_call 83; refine (psign_any (h4.turn0 ht7) [124]).mono ?_; rintro e w8 ⟨rfl, h8, ht8⟩))
     have hs4w : s4.why = 0 → (mSg b.T [124] s4).why = 0 → (mSg b.T [124] s4).at_ = s4.at_ + 1 := fun q1 q2 => mSg_adv h4.tok q1 h4.at_ q2
     have hs4s : s4.why ≠ 0 → (mSg b.T [124] s4).why ≠ 0 := fun q => by rw [mSg_stuck _ q]; exact q
     have hNs := mSg_N (T := b.T) [124] s4
     have hat4 := HS4.out.1.1
     have hat3 := HUP.out.1
     refine ⟨hid ⟨g', mSg b.T [124] s4, h8, HX.out, fun hz5 => ?_, ?_, (F6.turn ht7 hw).trans ((h4.turn0 ht7).fq ht8)⟩, ?_⟩
     ·have hz4 : s4.why = 0 := Classical.byContradiction fun q => hs4s q hz5
      have ha5 := hs4w hz4 hz5
      refine ⟨by have := HZ.out.2; have := h8.at_; omega, _, by rw [hNs]; exact HS4.out.1.2.2, ?_⟩
      show (x.items ++ [i]).length ≤ _
      rw [List.length_append]
      show x.items.length + 1 ≤ _
      omega
     ·rw [hNs, HS4.out.1.2.1]; exact HM3
     ·rw [h8.qm, hqm.out, if_pos HZ.out.1]
      by_cases hz5 : (mSg b.T [124] s4).why = 0
      ·have hz4 : s4.why = 0 := Classical.byContradiction fun q => hs4s q hz5
       have ha5 := hs4w hz4 hz5
       have := h8.at_
       rw [if_pos hz5]
       omega
      ·rw [if_neg hz5]; omega
  ·have e1 : ((s1.why : Int) == 0) = false := by rw [beq_eq_false_iff_ne]; omega
   have HX := hid (show s1 = FIN by rw [← HF.out, mAll_stuck hz])
   clear hz hg
   go_wp2
   go_end0
   exact ⟨rfl, by rw [← HX.out]; exact h1, f1⟩
end
open Go.RowKit
theorem called_some (N : List Nd) (x : List UInt8) : decide (0 ≤ calledI N x) = (pCalled N x).isSome := by
 unfold calledI
 cases pCalled N x with
 | none => rfl
 | some n => exact decide_eq_true (Int.natCast_nonneg n)
section
variable {w w' : World} {b : QB} {s s' : St}
theorem PS.same (h : PS w b s) (e : s = s') : PS w b s' := e ▸ h
theorem defA_eq {T : List Tok} {m : Nat} : mDefA T m s = mOn T ((mBad T (decide (0 ≤ calledI (mNm T s).N (tokAt T s.at_).s)) 6 (mNm T s)).mod m fun y => { y with name := (tokAt T s.at_).s }) := by
 unfold mDefA
 rw [called_some, (mNm_N _).1]
theorem mod_get {m : Nat} {g : Nd → Nd} {x : Nd} (h : s.N[m]? = some x) : (s.mod m g).N[m]? = some (g x) := by
 show (s.N.modify m g)[m]? = _
 rw [List.getElem?_modify, h]
 simp
theorem defA_at {T : List Tok} {m : Nat} {x : Nd} (h : s.N[m]? = some x) : (mDefA T m s).N[m]? = some { x with name := (tokAt T s.at_).s } := by
 unfold mDefA
 rw [(mOn_N _).1]
 refine mod_get ?_
 rw [(mBad_N _ _ _).1, (mNm_N _).1]
 exact h
theorem pdef_fix {D : Int} (h : PS w b s) {m : Nat} {x : Nd} (hx : s.N[m]? = some x) (hk : 9 ≤ x.k) :
  Calls Tryz.prog 85 #[.pointer (some ⟨b.pB, 0, none⟩), .int .i64 (m : Int), .int .i64 10, .int .i64 D] w (Uf b w (mFix b.T m (mDefA b.T m s))) := by
 have hw := h.hw
 have hml := (List.getElem?_eq_some_iff.1 hx).1
 have hx5 := defA_at (T := b.T) hx
 obtain ⟨t1, ht1⟩ : ∃ t, t = tokAt b.T s.at_ := ⟨_, rfl⟩
 have hnm := pname_any h
 have HD := hid (defA_eq (s := s) (T := b.T) (m := m))
 rw [← ht1] at hnm HD hx5
 obtain ⟨s5, hs5⟩ : ∃ s5, s5 = mDefA b.T m s := ⟨_, rfl⟩
 rw [← hs5] at HD hx5 ⊢
 obtain ⟨s1, hs1⟩ : ∃ s1, s1 = mNm b.T s := ⟨_, rfl⟩
 have hx1 : s1.N[m]? = some x := by rw [hs1, (mNm_N _).1]; exact hx
 rw [← hs1] at hnm HD
 clear ht1 hs5 hs1
 have hca := fun {w : World} (h : PS w b s1) => pcalled_any h t1.s
 obtain ⟨q, hq⟩ : ∃ q, q = calledI s1.N t1.s := ⟨_, rfl⟩
 rw [← hq] at hca HD
 obtain ⟨s2, hs2⟩ : ∃ s2, s2 = mBad b.T (decide (0 ≤ q)) 6 s1 := ⟨_, rfl⟩
 have hx2 : s2.N[m]? = some x := by rw [hs2, (mBad_N _ _ _).1]; exact hx1
 have hbd := fun {w : World} (h : PS w b s1) => pbad_any h (decide (0 ≤ q)) 6
 rw [← hs2] at HD hbd
 clear hq hs2
 go_enter Tryz.func85, Tryz.ntmps85
 go_upto_region 2 with (first
  | (go_at_call 79; refine hnm.mono ?_; rintro e w1 ⟨rfl, h1, tn1⟩)
  | (go_at_call 80; refine (hca h1).mono ?_; rintro e w2 ⟨rfl, tn2⟩)
  | (go_at_call 50; refine (hbd (h1.turn0 tn2)).mono ?_; rintro e w3 ⟨rfl, h3, tn3⟩))
 have f3 : Fq b w w3 := ((h.fq tn1).turn tn2 hw).trans ((h1.turn0 tn2).fq tn3)
 obtain ⟨R, g, nd⟩ := h3.ndAt hx2
 have p2 := nd.p2
 have n1 := nd.n1
 have fz := nd.fz (m * 6 + 1)
 have hmi := (List.getElem?_eq_some_iff.1 hx2).1
 obtain ⟨h4, f4⟩ := h3.scalar (jj := 1) (u := .string (txt t1.s)) (gg := fun y => { y with name := t1.s }) hx2 (by omega) (fun R => rfl) rfl rfl rfl (fun (hk9 : x.k < 9) => by omega) p2
 go_upto_region 3 with (fail)
 obtain ⟨w4, hw4⟩ : ∃ w4, w4 = w3.setCell ⟨g, m * 6 + 1, none⟩ (.string (txt t1.s)) := ⟨_, rfl⟩
 rw [← hw4] at h4 f4 ⊢
 clear hw4 p2 n1 fz nd
 obtain ⟨s4, hs4⟩ : ∃ s4, s4 = s2.mod m fun y => { y with name := t1.s } := ⟨_, rfl⟩
 rw [← hs4] at h4 HD
 clear hs4
 go_upto_region 5 with (go_at_call 82; refine (pon_any h4).mono ?_; rintro e w5 ⟨rfl, h5, tn5⟩)
 rw [← HD.out] at h5
 have f5 : Fq b w w5 := (f3.trans f4).trans (h4.fq tn5)
 clear hnm hca hbd
 obtain ⟨t, ht⟩ : ∃ t, t = tokAt b.T s5.at_ := ⟨_, rfl⟩
 have HT5 := hid ht
 have q0 := fld0 t.k t.at_ (txt t.s)
 have q1 := fld1 t.k t.at_ (txt t.s)
 have hbr := h5.brief _ h5.at_
 rw [← ht] at hbr
 have num := fun w => rnumber_any (txt t.s) t.s w rfl (by rw [txt_size]; omega)
 have hfx : mFix b.T m s5 = mOn b.T ((mBad b.T (!(decide (t.k = 1) && wOk t.s)) 4 s5).mod m fun y => { y with size := if wOk t.s then wNumAt t.s else 0 }) := by unfold mFix; rw [← ht]
 have hFIN := hfx
 unfold NmPost at num
 obtain ⟨okb, hokb⟩ : ∃ o, o = wOk t.s := ⟨_, rfl⟩
 obtain ⟨z, hz⟩ : ∃ z : Nat, z = if wOk t.s then wNumAt t.s else 0 := ⟨_, rfl⟩
 rw [← hz, ← hokb] at hFIN
 simp only [← hz] at num
 simp only [← hokb] at num
 clear ht hfx hz hokb
 by_cases hk1 : t.k = 1
 ·have e1 : ((t.k : Int) != 1) = false := by rw [bne_eq_false_iff_eq]; omega
  rw [decide_eq_true hk1, Bool.true_and] at hFIN
  clear hk1
  obtain ⟨s6, hs6⟩ : ∃ s6, s6 = mBad b.T (!okb) 4 s5 := ⟨_, rfl⟩
  have hx6 : s6.N[m]? = some { x with name := t1.s } := by rw [hs6, (mBad_N _ _ _).1]; exact hx5
  have hbd := fun {w : World} (h : PS w b s5) => pbad_any h (!okb) 4
  rw [← hs6] at hbd hFIN
  have HFIN := hid hFIN
  clear hs6 hFIN
  go_upto_region 6 with (first
   | (go_at_call 51; refine (ptok_t HT5 h5).mono ?_; rintro e w6 ⟨rfl, tn6⟩)
   | (go_at_call 123; refine (num _).mono ?_; rintro e w7 ⟨rfl, rfl⟩))
  have hTT := tn6
  go_upto_region 7 with (first
   | (go_at_call 51; refine (ptok_t HT5 (h5.turn0 tn6)).mono ?_; rintro e w8 ⟨rfl, tn8⟩)
   | (go_at_call 50; refine (hbd ((h5.turn0 tn6).turn0 tn8)).mono ?_; rintro e w9 ⟨rfl, h9, tn9⟩))
  have f9 : Fq b w w9 := ((f5.turn tn6 hw).turn tn8 hw).trans (((h5.turn0 tn6).turn0 tn8).fq tn9)
  obtain ⟨R9, g9, nd9⟩ := h9.ndAt hx6
  have p2 := nd9.p2
  have n2 := nd9.n2
  have fz := nd9.fz (m * 6 + 2)
  have hmi9 := (List.getElem?_eq_some_iff.1 hx6).1
  obtain ⟨h10, f10⟩ := h9.scalar (jj := 2) (u := .int .i64 (z : Int)) (gg := fun y => { y with size := z }) hx6 (by omega) (fun R => rfl) rfl rfl rfl (fun (hk9 : x.k < 9) => by omega) p2
  go_upto_region 8 with (fail)
  obtain ⟨w10, hw10⟩ : ∃ w10, w10 = w9.setCell ⟨g9, m * 6 + 2, none⟩ (.int .i64 (z : Int)) := ⟨_, rfl⟩
  rw [← hw10] at h10 f10 ⊢
  clear hw10 p2 n2 fz nd9
  go_wp2_with (go_at_call 82; refine (pon_any h10).mono ?_; rintro e w11 ⟨rfl, h11, tn11⟩)
  go_end0
  rw [HFIN.out]
  exact ⟨rfl, h11, (f9.trans f10).trans (h10.fq tn11)⟩
 ·have e1 : ((t.k : Int) != 1) = true := by rw [bne_iff_ne]; omega
  rw [decide_eq_false hk1, Bool.false_and, Bool.not_false] at hFIN
  clear hk1
  obtain ⟨s6, hs6⟩ : ∃ s6, s6 = mBad b.T true 4 s5 := ⟨_, rfl⟩
  have hx6 : s6.N[m]? = some { x with name := t1.s } := by rw [hs6, (mBad_N _ _ _).1]; exact hx5
  have hbd := fun {w : World} (h : PS w b s5) => pbad_any h true 4
  rw [← hs6] at hbd hFIN
  have HFIN := hid hFIN
  clear hs6 hFIN
  go_upto_region 6 with (first
   | (go_at_call 51; refine (ptok_t HT5 h5).mono ?_; rintro e w6 ⟨rfl, tn6⟩)
   | (go_at_call 123; refine (num _).mono ?_; rintro e w7 ⟨rfl, rfl⟩))
  have hTT := tn6
  go_upto_region 7 with (first
   | (go_at_call 51; refine (ptok_t HT5 (h5.turn0 tn6)).mono ?_; rintro e w8 ⟨rfl, tn8⟩)
   | (go_at_call 50; refine (hbd ((h5.turn0 tn6).turn0 tn8)).mono ?_; rintro e w9 ⟨rfl, h9, tn9⟩))
  have f9 : Fq b w w9 := ((f5.turn tn6 hw).turn tn8 hw).trans (((h5.turn0 tn6).turn0 tn8).fq tn9)
  obtain ⟨R9, g9, nd9⟩ := h9.ndAt hx6
  have p2 := nd9.p2
  have n2 := nd9.n2
  have fz := nd9.fz (m * 6 + 2)
  have hmi9 := (List.getElem?_eq_some_iff.1 hx6).1
  obtain ⟨h10, f10⟩ := h9.scalar (jj := 2) (u := .int .i64 (z : Int)) (gg := fun y => { y with size := z }) hx6 (by omega) (fun R => rfl) rfl rfl rfl (fun (hk9 : x.k < 9) => by omega) p2
  go_upto_region 8 with (fail)
  obtain ⟨w10, hw10⟩ : ∃ w10, w10 = w9.setCell ⟨g9, m * 6 + 2, none⟩ (.int .i64 (z : Int)) := ⟨_, rfl⟩
  rw [← hw10] at h10 f10 ⊢
  clear hw10 p2 n2 fz nd9
  go_wp2_with (go_at_call 82; refine (pon_any h10).mono ?_; rintro e w11 ⟨rfl, h11, tn11⟩)
  go_end0
  rw [HFIN.out]
  exact ⟨rfl, h11, (f9.trans f10).trans (h10.fq tn11)⟩
theorem mBad_or {T : List Tok} (a c : Bool) {e : Nat} (he : e ≠ 0) : mBad T c e (mBad T a e s) = mBad T (a || c) e s := by
 unfold mBad
 by_cases hz : s.why = 0
 ·cases a <;> cases c <;> simp [hz, he]
 ·simp [hz]
theorem contains_nxt {l : List (List UInt8)} {j : Nat} {y x : List UInt8} (h : l[j]? = some y) : (l.take (j + 1)).contains x = ((l.take j).contains x || (y == x)) := by
 rw [List.take_add_one, h]
 simp only [List.contains_eq_any_beq, List.any_append, Option.toList_some, List.any_cons, List.any_nil, Bool.or_false]
 congr 1
 rw [Bool.eq_iff_iff]
 simp only [beq_iff_eq]
 exact eq_comm
theorem mSyms_stuck {T : List Tok} {m g : Nat} (h : s.why ≠ 0) : mSyms T m g s = s := by
 cases g with
 | zero => rfl
 | succ g => rw [mSyms, if_pos h]
def SymI (b : QB) (w : World) (m : Nat) (F : St) (wr : World) : Prop :=
 ∃ g s, PS wr b s ∧ mSyms b.T m g s = F ∧ (s.why = 0 → b.T.length - s.at_ < g ∧ ∃ x, s.N[m]? = some x ∧ x.syms.length ≤ s.at_) ∧ m < s.N.length ∧ Fq b w wr
theorem pdef_enum {D : Int} (h : PS w b s) {m : Nat} {x : Nd} (hx : s.N[m]? = some x) (hk : 9 ≤ x.k) (hxs : x.syms = []) :
  Calls Tryz.prog 85 #[.pointer (some ⟨b.pB, 0, none⟩), .int .i64 (m : Int), .int .i64 9, .int .i64 D] w (Uf b w (mSyms b.T m (b.T.length + 1) (mSg b.T [60] (mDefA b.T m s)))) := by
 have hw := h.hw
 have hml := (List.getElem?_eq_some_iff.1 hx).1
 have hx5 := defA_at (T := b.T) hx
 obtain ⟨t1, ht1⟩ : ∃ t, t = tokAt b.T s.at_ := ⟨_, rfl⟩
 have hnm := pname_any h
 have HD := hid (defA_eq (s := s) (T := b.T) (m := m))
 rw [← ht1] at hnm HD hx5
 obtain ⟨s5, hs5⟩ : ∃ s5, s5 = mDefA b.T m s := ⟨_, rfl⟩
 rw [← hs5] at HD hx5 ⊢
 obtain ⟨s1, hs1⟩ : ∃ s1, s1 = mNm b.T s := ⟨_, rfl⟩
 have hx1 : s1.N[m]? = some x := by rw [hs1, (mNm_N _).1]; exact hx
 rw [← hs1] at hnm HD
 clear ht1 hs5 hs1
 have hca := fun {w : World} (h : PS w b s1) => pcalled_any h t1.s
 obtain ⟨q, hq⟩ : ∃ q, q = calledI s1.N t1.s := ⟨_, rfl⟩
 rw [← hq] at hca HD
 obtain ⟨s2, hs2⟩ : ∃ s2, s2 = mBad b.T (decide (0 ≤ q)) 6 s1 := ⟨_, rfl⟩
 have hx2 : s2.N[m]? = some x := by rw [hs2, (mBad_N _ _ _).1]; exact hx1
 have hbd := fun {w : World} (h : PS w b s1) => pbad_any h (decide (0 ≤ q)) 6
 rw [← hs2] at HD hbd
 clear hq hs2
 go_enter Tryz.func85, Tryz.ntmps85
 go_upto_region 2 with (first
  | (go_at_call 79; refine hnm.mono ?_; rintro e w1 ⟨rfl, h1, tn1⟩)
  | (go_at_call 80; refine (hca h1).mono ?_; rintro e w2 ⟨rfl, tn2⟩)
  | (go_at_call 50; refine (hbd (h1.turn0 tn2)).mono ?_; rintro e w3 ⟨rfl, h3, tn3⟩))
 have f3 : Fq b w w3 := ((h.fq tn1).turn tn2 hw).trans ((h1.turn0 tn2).fq tn3)
 obtain ⟨R, g, nd⟩ := h3.ndAt hx2
 have p2 := nd.p2
 have n1 := nd.n1
 have fz := nd.fz (m * 6 + 1)
 have hmi := (List.getElem?_eq_some_iff.1 hx2).1
 obtain ⟨h4, f4⟩ := h3.scalar (jj := 1) (u := .string (txt t1.s)) (gg := fun y => { y with name := t1.s }) hx2 (by omega) (fun R => rfl) rfl rfl rfl (fun (hk9 : x.k < 9) => by omega) p2
 go_upto_region 3 with (fail)
 obtain ⟨w4, hw4⟩ : ∃ w4, w4 = w3.setCell ⟨g, m * 6 + 1, none⟩ (.string (txt t1.s)) := ⟨_, rfl⟩
 rw [← hw4] at h4 f4 ⊢
 clear hw4 p2 n1 fz nd
 obtain ⟨s4, hs4⟩ : ∃ s4, s4 = s2.mod m fun y => { y with name := t1.s } := ⟨_, rfl⟩
 rw [← hs4] at h4 HD
 clear hs4
 go_upto_region 11 with (go_at_call 82; refine (pon_any h4).mono ?_; rintro e w5 ⟨rfl, h5, tn5⟩)
 rw [← HD.out] at h5
 have f5 : Fq b w w5 := (f3.trans f4).trans (h4.fq tn5)
 clear hnm hca hbd
 obtain ⟨FIN, hFIN⟩ : ∃ F, F = mSyms b.T m (b.T.length + 1) (mSg b.T [60] s5) := ⟨_, rfl⟩
 have sg := psign_any h5 [60]
 obtain ⟨s6, hs6⟩ : ∃ s6, s6 = mSg b.T [60] s5 := ⟨_, rfl⟩
 have hx6 : s6.N[m]? = some { x with name := t1.s } := by rw [hs6, mSg_N]; exact hx5
 rw [← hs6] at sg hFIN
 have HFE := hid (show mSyms b.T m (b.T.length + 1) (mSg b.T [60] s5) = FIN by rw [← hs6]; exact hFIN.symm)
 clear hs6
 go_upto_region 12 with (go_at_call 83; refine sg.mono ?_; rintro e w6 ⟨rfl, h6, tn6⟩)
 have f6 : Fq b w w6 := f5.trans (h5.fq tn6)
 have hI : Hid (SymI b w m FIN w6) := hid ⟨b.T.length + 1, s6, h6, hFIN.symm, fun _ => ⟨by omega, _, hx6, by show x.syms.length ≤ _; rw [hxs]; exact Nat.zero_le _⟩, (List.getElem?_eq_some_iff.1 hx6).1, f6⟩
 clear hFIN hx hx1 hx2 hx5 hx6 h6 f6 tn6 sg h5 f5 h4 f4 f3 h3 h1 tn1 tn2 tn3 tn5 hmi hml hxs hk
 go_loopw [11, 12] (fun _ _ wr => Hid (SymI b w m FIN wr)) (fun _ _ wr => qm wr b)
 case atStart => exact hI
 case round =>
  clear hI
  obtain ⟨g1, s1, h1, hF, hg, hml, f1⟩ := hrel.out
  have HF := hid hF
  have hqm := hid h1.qm
  clear hrel hF
  have p3 := h1.p3
  by_cases hz : s1.why = 0
  ·have e1 : ((s1.why : Int) == 0) = true := by rw [beq_iff_eq]; omega
   obtain ⟨hgl, y, hy, hyl⟩ := hg hz
   have HZ := hid (And.intro hz hgl)
   clear hz hg hgl
   obtain ⟨t, ht⟩ : ∃ t, t = tokAt b.T s1.at_ := ⟨_, rfl⟩
   have hnm := pname_any h1
   rw [← ht] at hnm
   obtain ⟨sA, hsA⟩ : ∃ sA, sA = mNm b.T s1 := ⟨_, rfl⟩
   have hyA : sA.N[m]? = some y := by rw [hsA, (mNm_N _).1]; exact hy
   have haA : sA.at_ = s1.at_ := by rw [hsA, (mNm_N _).2]
   have HA := hid (And.intro ht hsA)
   rw [← hsA] at hnm
   have hfew := h1.few
   have hat1 := h1.at_
   clear ht hsA
   go_upto_region 14 with (go_at_call 79; refine hnm.mono ?_; rintro e wA ⟨rfl, hA1, tnA⟩)
   have fA : Fq b w wA := f1.trans (h1.fq tnA)
   clear hnm p3
   go_wp2
   go_loopw [12] (fun i wr => ∃ (j : Nat) (s' : St), j ≤ y.syms.length ∧ i = .int .i64 (j : Int) ∧ PS wr b s' ∧ Hid (s' = mBad b.T ((y.syms.take j).contains t.s) 6 sA) ∧ Turn wA wr (some b.pB)) (fun i _ => (y.syms.length - intOf i).toNat)
   case atStart => exact ⟨0, sA, by omega, rfl, hA1, hid (by rw [List.take_zero]; exact (mBad_no 6).symm), Turn.refl _ _⟩
   case round =>
    obtain ⟨j, sB, hj, rfl, hB, HB, tB⟩ := hrel
    have hyB : sB.N[m]? = some y := by rw [HB.out, (mBad_N _ _ _).1]; exact hyA
    obtain ⟨RB_, gB, nd⟩ := hB.ndAt hyB
    have p2 := nd.p2
    have n3 := nd.n3
    have hmB := (List.getElem?_eq_some_iff.1 hyB).1
    by_cases hjn : j < y.syms.length
    ·obtain ⟨z, hz⟩ : ∃ z, y.syms[j]? = some z := ⟨y.syms[j], List.getElem?_eq_getElem hjn⟩
     obtain ⟨bb, off, hAi, _, hci⟩ := ((nd.hN.syms m y hyB).own (nd.hN.aps.own _)).rd.head (by omega)
     have cj := hci j _ (vss_at hz)
     rw [hAi] at n3
     have hbe := tx_beq z t.s
     obtain ⟨be, hbe2⟩ : ∃ be, be = (z == t.s) := ⟨_, rfl⟩
     rw [← hbe2] at hbe
     have HC := hid (contains_nxt (x := t.s) hz)
     rw [← hbe2] at HC
     have bd := pbad_any hB be 6
     clear hz hci hAi nd hbe2
     go_wp2_with (go_at_call 50; refine bd.mono ?_; rintro e wC ⟨rfl, hC, tC⟩)
     refine ⟨⟨j + 1, _, by omega, by go_num, hC, hid ?_, tB.trans tC⟩, by simp [intOf]; omega⟩
     rw [HB.out, mBad_or _ _ (by decide), HC.out]
    ·have hjm : j = y.syms.length := by omega
     have hl1 : ¬((j : Int) < (y.syms.length : Int)) := by omega
     have HBB := hid (show sB = mBad b.T (y.syms.contains t.s) 6 sA by rw [HB.out, hjm, List.take_length])
     clear hjm hjn
     go_upto_region 18 with (fail)
     have hsm := hB.ok.small y (List.mem_of_getElem? hyB)
     have hyk := hB.ok.names y (List.mem_of_getElem? hyB)
     have hinn := hB.ok.inn y (List.mem_of_getElem? hyB)
     have haB : sB.at_ = s1.at_ := by rw [HBB.out, (mBad_N _ _ _).2]; exact haA
     have hMS := hid (show mSymS b.T m s1 = mOn b.T (sB.mod m fun y => { y with syms := y.syms ++ [t.s] }) by
      unfold mSymS
      rw [show symsAt s1.N m = y.syms by unfold symsAt; rw [hy], ← HA.out.1, ← HA.out.2, ← HBB.out])
     have hok4 : NOk (sB.N.modify m fun y => { y with syms := y.syms ++ [t.s] }) (sB.at_ + 1) := hB.ok.mod hyB (Nat.le_refl _) hyk ⟨by show (y.syms ++ [t.s]).length ≤ _; rw [List.length_append]; show y.syms.length + 1 ≤ _; omega, hsm.2.1, hsm.2.2⟩ hinn
     obtain ⟨NL, hNL⟩ : ∃ NL, sB.N.length = NL := ⟨_, rfl⟩
     have HNL := hid hNL
     have hsy : y.syms.length ≤ 1500 := by omega
     have FB : Fq b w wr := fA.trans (hA1.fq tB)
     clear hNL p2 n3 nd e1 hl1
     obtain ⟨R, g, nd3⟩ := hB.ndAt hyB
     have hN := nd3.hN
     have hrb := nd3.hrb
     have p2 := nd3.p2
     have n3 := nd3.n3
     have hgp := nd3.ne
     have hA := nd3.hA
     have hO := (hN.syms m y hyB).own (hN.aps.own _)
     have lp := hrb.lt
     have lg := World.block_lt_of_cell? wr _ nd3.n0
     have q1 := nd3.q1 0
     have q2 := nd3.q2 0
     have hown := nd3.hN.own
     rw [nd3.hA] at hown
     have fz3 := nd3.fz (m * 6 + 3)
     have tA : Turn wr (wr.alloc (.cells #[Value.string (txt t.s)] 9)).drew none := ((Turn.refl wr none).alloc _).drew
     have pA := (tA.cell (a := ⟨b.pB, 2, none⟩) lp (by simp)).trans p2
     have nA := (tA.cell (a := ⟨g, m * 6 + 3, none⟩) lg (by simp)).trans n3
     have hwA : b.base ≤ (wr.alloc (.cells #[Value.string (txt t.s)] 9)).drew.heap.size := Nat.le_trans hB.hw.1 tA.size
     have hsA : wr.heap.size ≤ (wr.alloc (.cells #[Value.string (txt t.s)] 9)).drew.heap.size := tA.size
     have hmi : m < NL := by rw [← HNL.out]; exact (List.getElem?_eq_some_iff.1 hyB).1
     rw [HNL.out] at p2 pA
     refine wp_region_noPanic ?_
     refine wp_region_held_drew (S := (fun W => W.cell? ⟨b.pB, 2, none⟩ = some (.slice (some ⟨g, 0, none⟩) NL (R none).c))) (by kernel_rfl) (p2) (fun hHeld => ?_)
     (first | refine tkN 0 ?_ | refine tkY 0 _ ?_); (try simp only [Act.put, zs])
     (first | refine tkN 1 ?_ | refine tkY 1 _ ?_); (try simp only [Act.put, zs])
     (first | refine tkN 2 ?_ | refine tkY 2 _ ?_); (try simp only [Act.put, zs])
     (first | refine tkN 3 ?_ | refine tkY 3 _ ?_); (try simp only [Act.put, zs])
     (first | refine tkN 4 ?_ | refine tkY 4 _ ?_); (try simp only [Act.put, zs])
     (first | refine tkN 5 ?_ | refine tkY 5 _ ?_); (try simp only [Act.put, zs])
     (first | refine tkN 6 ?_ | refine tkY 6 _ ?_); (try simp only [Act.put, zs])
     (first | refine tkN 7 ?_ | refine tkY 7 _ ?_); (try simp only [Act.put, zs])
     (first | refine tkN 8 ?_ | refine tkY 8 _ ?_); (try simp only [Act.put, zs])
     (first | refine tkN 9 ?_ | refine tkY 9 _ ?_); (try simp only [Act.put, zs])
     (first | refine tkN 10 ?_ | refine tkY 10 _ ?_); (try simp only [Act.put, zs])
     (first | refine tkN 11 ?_ | refine tkY 11 _ ?_); (try simp only [Act.put, zs])
     (first | refine tkN 13 ?_ | refine tkY 13 _ ?_); (try simp only [Act.put, zs])
     refine wpAnyH_ready (rs := [12, 14]) (by kernel_rfl) (by simp) ?_; refine AllReadyH.cons rfl (fun K hK => ?_) (AllReadyH.cons rfl (fun K hK => ?_) AllReadyH.nil)
     ·go_simp
      refine hK.out _ _ p2 (fun hHeld => ?_); clear hK K; (try simp only [Act.put, zs])
      refine wpAnyH_ready (rs := [14]) (by kernel_rfl) (by simp) ?_; refine AllReadyH.cons rfl (fun K hK => ?_) AllReadyH.nil
      go_simp
      refine hK.out _ _ pA (fun hHeld => ?_); clear hK K; (try simp only [Act.put, zs])
      refine wpAnyH_ready (rs := [15]) (by kernel_rfl) (by simp) ?_; refine AllReadyH.cons rfl (fun K hK => ?_) AllReadyH.nil
      refine st_app (base := b.base) rfl _ _ _ rfl elS rfl rfl (hO.alloc _).drew (Rd.litS wr _ 1 1 [Value.string (txt t.s)] rfl).drew (by repeat (first | exact ones_nil | refine ones_cons rfl ?_)) (by unfold maxLen; first | omega | (simp; done) | (simp; omega)) (by first | omega | (simp; done) | (simp; omega)) hwA ?_
      intro A5 c5 w5 ho5 ht5 hb5
      have ht6 : Turn wr w5 (blk (R (some (m, 0))).A) := (((Turn.refl wr _).alloc _).drew).trans ht5
      have k1 := (ht6.cell (a := ⟨b.pB, 2, none⟩) lp q1).trans p2
      have k3 := (ht6.cell (a := ⟨g, m * 6 + 3, none⟩) lg q2).trans n3
      have fz5 := (hown.turn ht6 (.inr q2)).frozen (m * 6 + 3)
      refine hK.out _ _ k1 (fun hHeld => ?_); clear hK K; (try simp only [Act.put, zs])
      (first | refine tkN 16 ?_ | refine tkY 16 _ ?_); (try simp only [Act.put, zs])
      (first | refine tkN 17 ?_ | refine tkY 17 _ ?_); (try simp only [Act.put, zs])
      refine wpAnyH_ready (rs := [18]) (by kernel_rfl) (by simp) ?_; refine AllReadyH.cons rfl (fun K hK => ?_) AllReadyH.nil
      go_simp
      refine hK.out _ _ ((World.cell?_setCell_far _ _ _ _ hgp).trans k1) (fun hHeld => ?_); clear hK K; (try simp only [Act.put, zs])
      refine wpAnyH_done (by kernel_rfl) ?_ _
      refine NoPanic.normal ?_
      clear hHeld
      obtain ⟨h4, f4⟩ := hB.slot (w1 := w5) (gg := fun y => { y with syms := y.syms ++ [t.s] }) (r := ⟨9, 1, A5, y.syms.length + 1, c5, vss y.syms ++ [Value.string (txt t.s)]⟩) hN nd3.hO hrb hyB hA (j := 0) (by omega) ho5 ht6 (hb5.imp id fun e => ⟨_, e, hsA⟩) (.inl rfl) ⟨rfl, rfl, rfl⟩
       ⟨rfl, rfl, by simp, by simp [vss]⟩ (hN.items m y hyB) (hN.fields m y hyB) hok4
      obtain ⟨w6, hw6⟩ : ∃ w6, w6 = w5.setCell ⟨g, m * 6 + (3 + 0), none⟩ (Rw.v ⟨9, 1, A5, y.syms.length + 1, c5, vss y.syms ++ [Value.string (txt t.s)]⟩) := ⟨_, rfl⟩
      rw [← hw6] at h4 f4
      have F6 := FB.trans f4
      have hwv : w5.setCell ⟨g, m * 6 + 3, none⟩ (.slice A5 (y.syms.length + 1) c5) = w6 := hw6.symm
      rw [hwv]
      clear hw6 hwv
      have hyC : (sB.mod m fun y => { y with syms := y.syms ++ [t.s] }).N[m]? = some { y with syms := y.syms ++ [t.s] } := mod_get hyB
      obtain ⟨sC, hsC⟩ : ∃ sC, sC = sB.mod m fun y => { y with syms := y.syms ++ [t.s] } := ⟨_, rfl⟩
      have haC : sC.at_ = s1.at_ := by rw [hsC]; exact haB
      rw [← hsC] at h4 hMS hyC
      clear hsC
      obtain ⟨sD, hsD⟩ : ∃ sD, sD = mOn b.T sC := ⟨_, rfl⟩
      have hyD : sD.N[m]? = some { y with syms := y.syms ++ [t.s] } := by rw [hsD, (mOn_N _).1]; exact hyC
      have haD : s1.at_ ≤ sD.at_ := by rw [hsD, ← haC]; exact (mOn_N _).2.2
      have hon := pon_any h4
      rw [← hsD] at hon hMS
      clear hsD
      obtain ⟨g', rfl⟩ : ∃ g', g1 = g' + 1 := ⟨g1 - 1, by have := HZ.out.2; omega⟩
      have HF2 := HF.out
      rw [mSyms, if_neg (by simp [HZ.out.1]), hMS.out] at HF2
      have hh := fun {w : World} (h : PS w b sD) => phere_any h [62]
      cases hb : mHere b.T [62] sD with
      | true =>
       rw [hb] at hh
       rw [if_pos hb] at HF2
       have HX := hid HF2
       clear hb HF2
       go_wp2_with (first
        | (go_at_call 122; refine (hh h9).mono ?_; rintro e w7 ⟨rfl, ht7⟩)
        | (go_at_call 82; first | (refine hon.mono ?_; rintro e w9 ⟨rfl, h9, ht9⟩) | (refine (pon_any (h9.turn0 ht7)).mono ?_; rintro e w8 ⟨rfl, h8, ht8⟩)))
       go_end0
       have q := h8
       rw [HX.out] at q
       have fz := ((F6.trans (h4.fq ht9)).turn ht7 hw).trans ((h9.turn0 ht7).fq ht8)
       exact ⟨rfl, by first | exact q | (rw [HFE.out]; exact q), fz⟩
      | false =>
       rw [hb] at hh
       rw [if_neg (by rw [hb]; decide)] at HF2
       have HX := hid HF2
       clear hb HF2
       go_wp2_with (first
        | (go_at_call 82; refine hon.mono ?_; rintro e w9 ⟨rfl, h9, ht9⟩)
        | (go_at_call 122; refine (hh h9).mono ?_; rintro e w7 ⟨rfl, ht7⟩)
        | (go_at_call 83; refine (psign_any (h9.turn0 ht7) [44]).mono ?_; rintro e w8 ⟨rfl, h8, ht8⟩))
       have fz := ((F6.trans (h4.fq ht9)).turn ht7 hw).trans ((h9.turn0 ht7).fq ht8)
       have hs4w : sD.why = 0 → (mSg b.T [44] sD).why = 0 → (mSg b.T [44] sD).at_ = sD.at_ + 1 := fun q1 q2 => mSg_adv h9.tok q1 h9.at_ q2
       have hs4s : sD.why ≠ 0 → (mSg b.T [44] sD).why ≠ 0 := fun q => by rw [mSg_stuck _ q]; exact q
       have hNs := mSg_N (T := b.T) [44] sD
       refine ⟨hid ⟨g', mSg b.T [44] sD, h8, HX.out, fun hz5 => ?_, ?_, fz⟩, ?_⟩
       ·have hz4 : sD.why = 0 := Classical.byContradiction fun q => hs4s q hz5
        have ha5 := hs4w hz4 hz5
        refine ⟨by have := HZ.out.2; have := h8.at_; omega, _, by rw [hNs]; exact hyD, ?_⟩
        show (y.syms ++ [t.s]).length ≤ _
        rw [List.length_append]
        show y.syms.length + 1 ≤ _
        omega
       ·rw [hNs]; exact (List.getElem?_eq_some_iff.1 hyD).1
       ·rw [h8.qm, hqm.out, if_pos HZ.out.1]
        by_cases hz5 : (mSg b.T [44] sD).why = 0
        ·have hz4 : sD.why = 0 := Classical.byContradiction fun q => hs4s q hz5
         have ha5 := hs4w hz4 hz5
         have := h8.at_
         rw [if_pos hz5]
         omega
        ·rw [if_neg hz5]; omega
     ·go_simp
      refine hK.out _ _ pA (fun hHeld => ?_); clear hK K; (try simp only [Act.put, zs])
      refine wpAnyH_ready (rs := [12]) (by kernel_rfl) (by simp) ?_; refine AllReadyH.cons rfl (fun K hK => ?_) AllReadyH.nil
      go_simp
      refine hK.out _ _ pA (fun hHeld => ?_); clear hK K; (try simp only [Act.put, zs])
      refine wpAnyH_ready (rs := [15]) (by kernel_rfl) (by simp) ?_; refine AllReadyH.cons rfl (fun K hK => ?_) AllReadyH.nil
      refine st_app (base := b.base) rfl _ _ _ rfl elS rfl rfl (hO.alloc _).drew (Rd.litS wr _ 1 1 [Value.string (txt t.s)] rfl).drew (by repeat (first | exact ones_nil | refine ones_cons rfl ?_)) (by unfold maxLen; first | omega | (simp; done) | (simp; omega)) (by first | omega | (simp; done) | (simp; omega)) hwA ?_
      intro A5 c5 w5 ho5 ht5 hb5
      have ht6 : Turn wr w5 (blk (R (some (m, 0))).A) := (((Turn.refl wr _).alloc _).drew).trans ht5
      have k1 := (ht6.cell (a := ⟨b.pB, 2, none⟩) lp q1).trans p2
      have k3 := (ht6.cell (a := ⟨g, m * 6 + 3, none⟩) lg q2).trans n3
      have fz5 := (hown.turn ht6 (.inr q2)).frozen (m * 6 + 3)
      refine hK.out _ _ k1 (fun hHeld => ?_); clear hK K; (try simp only [Act.put, zs])
      (first | refine tkN 16 ?_ | refine tkY 16 _ ?_); (try simp only [Act.put, zs])
      (first | refine tkN 17 ?_ | refine tkY 17 _ ?_); (try simp only [Act.put, zs])
      refine wpAnyH_ready (rs := [18]) (by kernel_rfl) (by simp) ?_; refine AllReadyH.cons rfl (fun K hK => ?_) AllReadyH.nil
      go_simp
      refine hK.out _ _ ((World.cell?_setCell_far _ _ _ _ hgp).trans k1) (fun hHeld => ?_); clear hK K; (try simp only [Act.put, zs])
      refine wpAnyH_done (by kernel_rfl) ?_ _
      refine NoPanic.normal ?_
      clear hHeld
      obtain ⟨h4, f4⟩ := hB.slot (w1 := w5) (gg := fun y => { y with syms := y.syms ++ [t.s] }) (r := ⟨9, 1, A5, y.syms.length + 1, c5, vss y.syms ++ [Value.string (txt t.s)]⟩) hN nd3.hO hrb hyB hA (j := 0) (by omega) ho5 ht6 (hb5.imp id fun e => ⟨_, e, hsA⟩) (.inl rfl) ⟨rfl, rfl, rfl⟩
       ⟨rfl, rfl, by simp, by simp [vss]⟩ (hN.items m y hyB) (hN.fields m y hyB) hok4
      obtain ⟨w6, hw6⟩ : ∃ w6, w6 = w5.setCell ⟨g, m * 6 + (3 + 0), none⟩ (Rw.v ⟨9, 1, A5, y.syms.length + 1, c5, vss y.syms ++ [Value.string (txt t.s)]⟩) := ⟨_, rfl⟩
      rw [← hw6] at h4 f4
      have F6 := FB.trans f4
      have hwv : w5.setCell ⟨g, m * 6 + 3, none⟩ (.slice A5 (y.syms.length + 1) c5) = w6 := hw6.symm
      rw [hwv]
      clear hw6 hwv
      have hyC : (sB.mod m fun y => { y with syms := y.syms ++ [t.s] }).N[m]? = some { y with syms := y.syms ++ [t.s] } := mod_get hyB
      obtain ⟨sC, hsC⟩ : ∃ sC, sC = sB.mod m fun y => { y with syms := y.syms ++ [t.s] } := ⟨_, rfl⟩
      have haC : sC.at_ = s1.at_ := by rw [hsC]; exact haB
      rw [← hsC] at h4 hMS hyC
      clear hsC
      obtain ⟨sD, hsD⟩ : ∃ sD, sD = mOn b.T sC := ⟨_, rfl⟩
      have hyD : sD.N[m]? = some { y with syms := y.syms ++ [t.s] } := by rw [hsD, (mOn_N _).1]; exact hyC
      have haD : s1.at_ ≤ sD.at_ := by rw [hsD, ← haC]; exact (mOn_N _).2.2
      have hon := pon_any h4
      rw [← hsD] at hon hMS
      clear hsD
      obtain ⟨g', rfl⟩ : ∃ g', g1 = g' + 1 := ⟨g1 - 1, by have := HZ.out.2; omega⟩
      have HF2 := HF.out
      rw [mSyms, if_neg (by simp [HZ.out.1]), hMS.out] at HF2
      have hh := fun {w : World} (h : PS w b sD) => phere_any h [62]
      cases hb : mHere b.T [62] sD with
      | true =>
       rw [hb] at hh
       rw [if_pos hb] at HF2
       have HX := hid HF2
       clear hb HF2
       go_wp2_with (first
        | (go_at_call 122; refine (hh h9).mono ?_; rintro e w7 ⟨rfl, ht7⟩)
        | (go_at_call 82; first | (refine hon.mono ?_; rintro e w9 ⟨rfl, h9, ht9⟩) | (refine (pon_any (h9.turn0 ht7)).mono ?_; rintro e w8 ⟨rfl, h8, ht8⟩)))
       go_end0
       have q := h8
       rw [HX.out] at q
       have fz := ((F6.trans (h4.fq ht9)).turn ht7 hw).trans ((h9.turn0 ht7).fq ht8)
       exact ⟨rfl, by first | exact q | (rw [HFE.out]; exact q), fz⟩
      | false =>
       rw [hb] at hh
       rw [if_neg (by rw [hb]; decide)] at HF2
       have HX := hid HF2
       clear hb HF2
       go_wp2_with (first
        | (go_at_call 82; refine hon.mono ?_; rintro e w9 ⟨rfl, h9, ht9⟩)
        | (go_at_call 122; refine (hh h9).mono ?_; rintro e w7 ⟨rfl, ht7⟩)
        | (go_at_call 83; refine (psign_any (h9.turn0 ht7) [44]).mono ?_; rintro e w8 ⟨rfl, h8, ht8⟩))
       have fz := ((F6.trans (h4.fq ht9)).turn ht7 hw).trans ((h9.turn0 ht7).fq ht8)
       have hs4w : sD.why = 0 → (mSg b.T [44] sD).why = 0 → (mSg b.T [44] sD).at_ = sD.at_ + 1 := fun q1 q2 => mSg_adv h9.tok q1 h9.at_ q2
       have hs4s : sD.why ≠ 0 → (mSg b.T [44] sD).why ≠ 0 := fun q => by rw [mSg_stuck _ q]; exact q
       have hNs := mSg_N (T := b.T) [44] sD
       refine ⟨hid ⟨g', mSg b.T [44] sD, h8, HX.out, fun hz5 => ?_, ?_, fz⟩, ?_⟩
       ·have hz4 : sD.why = 0 := Classical.byContradiction fun q => hs4s q hz5
        have ha5 := hs4w hz4 hz5
        refine ⟨by have := HZ.out.2; have := h8.at_; omega, _, by rw [hNs]; exact hyD, ?_⟩
        show (y.syms ++ [t.s]).length ≤ _
        rw [List.length_append]
        show y.syms.length + 1 ≤ _
        omega
       ·rw [hNs]; exact (List.getElem?_eq_some_iff.1 hyD).1
       ·rw [h8.qm, hqm.out, if_pos HZ.out.1]
        by_cases hz5 : (mSg b.T [44] sD).why = 0
        ·have hz4 : sD.why = 0 := Classical.byContradiction fun q => hs4s q hz5
         have ha5 := hs4w hz4 hz5
         have := h8.at_
         rw [if_pos hz5]
         omega
        ·rw [if_neg hz5]; omega
  ·have e1 : ((s1.why : Int) == 0) = false := by rw [beq_eq_false_iff_ne]; omega
   have HX := hid (show s1 = FIN by rw [← HF.out, mSyms_stuck hz])
   clear hz hg
   go_wp2
   go_end0
   refine ⟨rfl, ?_, f1⟩
   have q := h1
   rw [HX.out] at q
   first | exact q | (rw [HFE.out]; exact q)
end
end Go.Proofs.YtgigiecdpjchkaaGreatDoor
