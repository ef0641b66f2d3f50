import Derived.Test.YtgigiecdpjchkaaGreatDoorR14
import Derived.Test.YtgigiecdpjchkaaGreatDoorR1
set_option linter.unusedSimpArgs false
set_option linter.unusedVariables false
set_option linter.unusedSectionVars false
set_option maxRecDepth 100000
set_option maxHeartbeats 6400000
namespace Go.Proofs.YtgigiecdpjchkaaGreatDoor
open Go.RowKit
def fV (n : List UInt8) (h : Bool) (i : Int) : List Value := [.string (txt n), .bool h, .int .i64 i]
theorem fV_one (n : List UInt8) (h : Bool) (i : Int) : ∀ u ∈ fV n h i, u.oneCell' = true := ones_cons rfl (ones_cons rfl (ones_cons rfl ones_nil))
theorem zFq : ∀ w, (zeroValue 119).run Tryz.prog w = .ok (.agg (fV [] false 0).toArray) w := zero_at (by kernel_rfl)
theorem szFq : (Tryz.prog.info? 119).map (·.size) = some 3 := by kernel_rfl
theorem fany_nxt {l : List Fl} {j : Nat} {y : Fl} {x : List UInt8} (h : l[j]? = some y) : (l.take (j + 1)).any (fun y => y.name == x) = ((l.take j).any (fun y => y.name == x) || (y.name == x)) := by
 rw [List.take_add_one, h]
 simp [List.any_append]
section
variable {w w' : World} {b : QB} {s s' : St}
theorem vfs_at3 {l : List Gf} : ∀ {i : Nat} {x : Gf}, l[i]? = some x → (vfs l)[i * 3]? = some (.string (txt x.name)) := by
 induction l with
 | nil => intro i x h; simp at h
 | cons y l ih =>
  intro i x h
  cases i with
  | zero =>
   obtain rfl : y = x := by simpa using h
   rfl
  | succ i =>
   have := ih (i := i) (x := x) (by simpa using h)
   rw [show (i + 1) * 3 = i * 3 + 1 + 1 + 1 by omega]
   exact this
theorem mFldL_stuck {T : List Tok} {rec : MRd} {m g : Nat} (h : s.why ≠ 0) : mFin T (mFldL T rec m g s) = s := by
 cases g with
 | zero => rfl
 | succ g =>
  rw [mFldL, if_pos (.inl h)]
  show mSg T [125] s = s
  exact mSg_stuck _ h
def FldI (b : QB) (w : World) (rec : MRd) (m : Nat) (F : St) (wr : World) : Prop :=
 ∃ g s, PS wr b s ∧ mFin b.T (mFldL b.T rec m g s) = F ∧ (s.why = 0 → b.T.length - s.at_ < g ∧ ∃ x, s.N[m]? = some x ∧ x.fields.length ≤ s.at_) ∧ m < s.N.length ∧ Fq b w wr
theorem pfields_any {f d : Nat} (hd : d ≤ 20) (TQ : TypQ f (d + 1)) (h : PS w b s) {m : Nat} {x : Nd} (hx : s.N[m]? = some x) (hxf : x.fields = []) :
  Calls Tryz.prog 124 #[.pointer (some ⟨b.pB, 0, none⟩), .int .i64 (m : Int), .int .i64 (d : Int)] w (Uf b w (mFlds b.T (mTyped b.T f (d + 1) none) m s)) := by
 have hw := h.hw
 have hml := (List.getElem?_eq_some_iff.1 hx).1
 obtain ⟨rec, hrec⟩ : ∃ rec : MRd, rec = mTyped b.T f (d + 1) none := ⟨_, rfl⟩
 have hrup : RUp rec := by rw [hrec]; exact up_typed f (d + 1) none
 have hlt : ∀ (s : St), 0 < s.N.length → (rec s).1 < (rec s).2.N.length := by rw [hrec]; exact fun s => typed_lt f (d + 1) none
 have TR : ∀ (w : World) (b' : QB) (s : St), b'.T = b.T → PS w b' s → s.why = 0 →
   Calls Tryz.prog 49 #[.pointer (some ⟨b'.pB, 0, none⟩), .int .i64 ((d : Int) + 1), .bool false, .slice none 0 0] w fun e w' =>
    e = .returned (.int .i64 ((rec s).1 : Int)) ∧ PS w' b' (rec s).2 ∧ Fq b' w w' := by
  intro w b' s hb h h0
  have := TQ w b' s none none 0 h h0 (UnOk.none_ w b' s)
  rw [hrec]
  rw [hb] at this
  exact this
 rw [← hrec]
 have hFF : mFlds b.T rec m s = mFin b.T (mFldL b.T rec m (b.T.length + 1) (mSg b.T [123] s)) := rfl
 obtain ⟨FIN, hFIN⟩ : ∃ F, F = mFlds b.T rec m s := ⟨_, rfl⟩
 have HFE := hid hFIN.symm
 rw [hFF] at hFIN
 have sg := psign_any h [123]
 obtain ⟨s6, hs6⟩ : ∃ s6, s6 = mSg b.T [123] s := ⟨_, rfl⟩
 have hx6 : s6.N[m]? = some x := by rw [hs6, mSg_N]; exact hx
 rw [← hs6] at sg hFIN
 have hdw : IntKind.i64.wrap ((d : Int) + 1) = (d : Int) + 1 := by rw [IntKind.wrap_i64]; omega
 clear hs6 hFF hrec TQ
 go_enter Tryz.func124, Tryz.ntmps124
 go_upto_region 1 with (go_at_call 83; refine sg.mono ?_; rintro e w6 ⟨rfl, h6, tn6⟩)
 have f6 := h.fq tn6
 have hI : Hid (FldI b w rec m FIN w6) := hid ⟨b.T.length + 1, s6, h6, hFIN.symm, fun _ => ⟨by omega, _, hx6, by rw [hxf]; exact Nat.zero_le _⟩, (List.getElem?_eq_some_iff.1 hx6).1, f6⟩
 clear hFIN hx hx6 h6 f6 tn6 sg hml hxf h
 go_loopw [6, 7] (fun _ _ wr => Hid (FldI b w rec m FIN wr)) (fun _ _ wr => qm wr b)
 case atStart => exact hI
 case round =>
  clear hI
  obtain ⟨g1, s1, h1, hF, hg, hml, f1⟩ := hrel.out
  have HF := hid hF
  have hqm := hid h1.qm
  clear hrel hF
  have p3 := h1.p3
  by_cases hz : s1.why = 0
  case neg =>
   have e1 : ((s1.why : Int) == 0) = false := by rw [beq_eq_false_iff_ne]; omega
   have HX := hid (show mSg b.T [125] s1 = FIN by rw [← HF.out, mFldL_stuck hz, mSg_stuck _ hz])
   clear hz hg
   go_wp2_with (go_at_call 83; refine (psign_any h1 [125]).mono ?_; rintro e w7 ⟨rfl, h7, tn7⟩)
   go_end0
   rw [HFE.out, ← HX.out]
   exact ⟨rfl, h7, f1.trans (h1.fq tn7)⟩
  case pos =>
  have e1 : ((s1.why : Int) == 0) = true := by rw [beq_iff_eq]; omega
  obtain ⟨hgl, y, hy, hyl⟩ := hg hz
  have HZ := hid (And.intro hz hgl)
  clear hz hg hgl
  obtain ⟨g', rfl⟩ : ∃ g', g1 = g' + 1 := ⟨g1 - 1, by have := HZ.out.2; omega⟩
  have hF2 := HF.out
  rw [mFldL] at hF2
  have hh := phere_any h1 [125]
  cases hb : mHere b.T [125] s1 with
  | true =>
   rw [hb] at hh
   rw [if_pos (.inr hb)] at hF2
   have HX := hid (show mSg b.T [125] s1 = FIN from hF2)
   clear hb hF2
   go_wp2_with (first
    | (go_at_call 122; refine hh.mono ?_; rintro e w7 ⟨rfl, ht7⟩)
    | (go_at_call 83; refine (psign_any (h1.turn0 ht7) [125]).mono ?_; rintro e w8 ⟨rfl, h8, tn8⟩))
   go_end0
   rw [HFE.out, ← HX.out]
   exact ⟨rfl, h8, (f1.turn ht7 hw).trans ((h1.turn0 ht7).fq tn8)⟩
  | false =>
   rw [hb] at hh
   rw [if_neg (fun q => q.elim (fun q => q HZ.out.1) (fun q => by rw [hb] at q; cases q))] at hF2
   have HF2 := hid hF2
   clear hb hF2
   obtain ⟨t, ht⟩ : ∃ t, t = tokAt b.T s1.at_ := ⟨_, rfl⟩
   have hnm := fun {w : World} (h : PS w b s1) => pname_any h
   simp only [← ht] at hnm
   obtain ⟨sA, hsA⟩ : ∃ sA, sA = mNm b.T s1 := ⟨_, rfl⟩
   have hyA : sA.N[m]? = some y := by rw [hsA, (mNm_N _).1]; exact hy
   have haA : sA.at_ = s1.at_ := by rw [hsA, (mNm_N _).2]
   have HA := hid (And.intro ht hsA)
   simp only [← hsA] at hnm
   have hfew := h1.few
   have hat1 := h1.at_
   clear ht hsA
   go_upto_region 3 with (first
    | (go_at_call 122; refine hh.mono ?_; rintro e w7 ⟨rfl, ht7⟩)
    | (go_at_call 79; refine (hnm (h1.turn0 ht7)).mono ?_; rintro e wA ⟨rfl, hA1, tnA⟩)
    | (refine wp_var rfl rfl 119 _ _ rfl rfl rfl rfl zFq (fun _ => rfl) (xs := fV t.s false 0) (fun _ => rfl) rfl szFq (fV_one _ _ _) ?_; intro g6 wB hg6 hb6 htB))
   have fA : Fq b w wA := (f1.turn ht7 hw).trans ((h1.turn0 ht7).fq tnA)
   have fB : Fq b w wB := fA.turn htB hw
   have hg6w : w.heap.size ≤ g6 := by have := fA.size; omega
   have hgl6 := hb6.lt
   have hB1 : PS wB (b.add g6) sA := hA1.add htB (by omega) hgl6
   have eO : g6 ∈ (b.add g6).out := List.mem_cons_self
   have eB : b.base ≤ g6 := by have := hw.1; omega
   have g6p : g6 ≠ b.pB := hB1.outs g6 eO
   have g6q : some g6 ≠ some b.pB := fun e => g6p (by injection e)
   clear hnm hh p3
   go_wp2
   go_loopw [7] (fun i wr => ∃ (j : Nat) (s' : St), j ≤ y.fields.length ∧ i = .int .i64 (j : Int) ∧ PS wr (b.add g6) s' ∧ Hid (s' = mBad b.T ((y.fields.take j).any (fun y => y.name == t.s)) 6 sA) ∧ Turn wB wr (some b.pB)) (fun i _ => (y.fields.length - intOf i).toNat)
   case atStart => exact ⟨0, sA, by omega, rfl, hB1, hid (by rw [List.take_zero]; exact (mBad_no 6).symm), Turn.refl _ _⟩
   case round =>
    obtain ⟨j, sB, hj, rfl, hB, HB, tB⟩ := hrel
    have hyB : sB.N[m]? = some y := by rw [HB.out, (mBad_N _ _ _).1]; exact hyA
    obtain ⟨RB_, gB, nd⟩ := hB.ndAt hyB
    have p2 : wr.cell? ⟨b.pB, 2, none⟩ = some (.slice (some ⟨gB, 0, none⟩) sB.N.length (RB_ none).c) := nd.p2
    have n5 := nd.n5
    have hmB := (List.getElem?_eq_some_iff.1 hyB).1
    have hb6r := hb6.turn tB g6q
    have d0 : wr.cell? ⟨g6, 0, none⟩ = some (.string (txt t.s)) := hb6r.ats rfl
    by_cases hjn : j < y.fields.length
    ·obtain ⟨z, hz⟩ : ∃ z, y.fields[j]? = some z := ⟨y.fields[j], List.getElem?_eq_getElem hjn⟩
     obtain ⟨bb, off, hAi, _, hci⟩ := ((nd.hN.fields m y hyB).own (nd.hN.aps.own _)).rd.head (by omega)
     have cj := hci (j * 3) _ (vfs_at3 (x := z.g) (by rw [List.getElem?_map, hz]; rfl))
     have cj : wr.cell? ⟨bb, off + j * 3, none⟩ = some (.string (txt z.name)) := cj
     have qb : some bb ≠ some b.pB := by have := nd.q1 2; rw [hAi] at this; exact fun e => this e.symm
     have qg : some gB ≠ some b.pB := fun e => nd.ne (by injection e)
     rw [hAi] at n5
     have hbe := tx_beq z.name t.s
     obtain ⟨be, hbe2⟩ : ∃ be, be = (z.name == t.s) := ⟨_, rfl⟩
     rw [← hbe2] at hbe
     have HC := hid (fany_nxt (x := t.s) hz)
     rw [← hbe2] at HC
     have lB := World.block_lt_of_cell? wr _ n5
     have lb := World.block_lt_of_cell? wr _ cj
     have l6 := hb6r.lt
     have bd : Calls Tryz.prog 50 #[.pointer (some ⟨b.pB, 0, none⟩), .bool be, .int .i64 6] wr.drew fun en w' => Uq (b.add g6) wr.drew (mBad b.T be 6 sB) en w' ∧ Two2 (b.add g6) wr.drew w' := pbad_two (hB.turn0 (Turn.refl wr none).drew) be 6
     have tdr : Turn wr wr.drew none := (Turn.refl wr none).drew
     clear hz hci hAi nd hbe2
     go_upto_region 6 with (fail)
     refine wp_region_noPanic ?_
     refine wp_region_held_drew (S := (fun W => W.cell? ⟨b.pB, 2, none⟩ = some (.slice (some ⟨gB, 0, none⟩) sB.N.length (RB_ none).c) ∧ W.cell? ⟨gB, m * 6 + 5, none⟩ = some (.slice (some ⟨bb, off, none⟩) y.fields.length (RB_ (some (m, 2))).c) ∧ W.cell? ⟨bb, off + j * 3, none⟩ = some (.string (txt z.name)) ∧ W.cell? ⟨g6, 0, none⟩ = some (.string (txt t.s)))) (by kernel_rfl) (⟨p2, n5, cj, d0⟩) (fun hHeld => ?_)
     (first | refine tkN 0 ?_ | refine tkY 0 _ ?_); (try simp only [Act.put, zs])
     (first | refine tkN 1 ?_ | refine tkY 1 _ ?_); (try simp only [Act.put, zs])
     (first | refine tkN 2 ?_ | refine tkY 2 _ ?_); (try simp only [Act.put, zs])
     (first | refine tkN 3 ?_ | refine tkY 3 _ ?_); (try simp only [Act.put, zs])
     (first | refine tkN 4 ?_ | refine tkY 4 _ ?_); (try simp only [Act.put, zs])
     (first | refine tkN 5 ?_ | refine tkY 5 _ ?_); (try simp only [Act.put, zs])
     (first | refine tkN 6 ?_ | refine tkY 6 _ ?_); (try simp only [Act.put, zs])
     (first | refine tkN 7 ?_ | refine tkY 7 _ ?_); (try simp only [Act.put, zs])
     (first | refine tkN 8 ?_ | refine tkY 8 _ ?_); (try simp only [Act.put, zs])
     (first | refine tkN 9 ?_ | refine tkY 9 _ ?_); (try simp only [Act.put, zs])
     (first | refine tkN 10 ?_ | refine tkY 10 _ ?_); (try simp only [Act.put, zs])
     (first | refine tkN 11 ?_ | refine tkY 11 _ ?_); (try simp only [Act.put, zs])
     (first | refine tkN 12 ?_ | refine tkY 12 _ ?_); (try simp only [Act.put, zs])
     (first | refine tkN 13 ?_ | refine tkY 13 _ ?_); (try simp only [Act.put, zs])
     (first | refine tkN 14 ?_ | refine tkY 14 _ ?_); (try simp only [Act.put, zs])
     (first | refine tkN 15 ?_ | refine tkY 15 _ ?_); (try simp only [Act.put, zs])
     refine wpAnyH_ready (rs := [16]) (by kernel_rfl) (by simp) ?_; refine AllReadyH.cons rfl (fun K hK => ?_) AllReadyH.nil
     go_simp
     refine bd.mono ?_
     rintro e wC ⟨⟨rfl, hC, tC⟩, k2⟩
     have tC2 : Turn wr wC (some b.pB) := (tdr.any _).trans tC
     have m1 : wC.cell? ⟨b.pB, 2, none⟩ = some (.slice (some ⟨gB, 0, none⟩) sB.N.length (RB_ none).c) := k2.trans p2
     have m2 := (tC2.cell (a := ⟨gB, m * 6 + 5, none⟩) lB qg).trans n5
     have m3 := (tC2.cell (a := ⟨bb, off + j * 3, none⟩) lb qb).trans cj
     have m4 := (tC2.cell (a := ⟨g6, 0, none⟩) l6 g6q).trans d0
     refine hK.out _ _ ⟨m1, m2, m3, m4⟩ (fun hHeld => ?_); clear hK K; (try simp only [Act.put, zs])
     refine wpAnyH_done (by kernel_rfl) ?_ _
     refine NoPanic.normal ?_
     clear hHeld
     clear bd m1 m2 m3 m4
     go_wp2
     refine ⟨⟨j + 1, _, by omega, by go_num, hC, hid ?_, tB.trans tC2⟩, by simp [intOf]; omega⟩
     rw [HB.out, mBad_or _ _ (by decide), HC.out]
    ·have hjm : j = y.fields.length := by omega
     have hl1 : ¬((j : Int) < (y.fields.length : Int)) := by omega
     have HBB := hid (show sB = mBad b.T (y.fields.any (fun y => y.name == t.s)) 6 sA by rw [HB.out, hjm, List.take_length])
     clear hjm hjn
     go_upto_region 7 with (fail)
     have haB : sB.at_ = s1.at_ := by rw [HBB.out, (mBad_N _ _ _).2]; exact haA
     have HFA := hid (show mFldA b.T m s1 = mOn b.T sB by
      unfold mFldA
      rw [show fieldsAt s1.N m = y.fields by unfold fieldsAt; rw [hy], ← HA.out.1, ← HA.out.2, ← HBB.out])
     have fB2 : Fq b w wr := fB.trans (hB1.fq tB).drop
     have hsyf : y.fields.length ≤ 1500 := by omega
     clear p2 n5 nd d0 e1 hl1
     obtain ⟨sD, hsD⟩ : ∃ sD, sD = mOn b.T sB := ⟨_, rfl⟩
     have hon : Calls Tryz.prog 82 #[.pointer (some ⟨b.pB, 0, none⟩)] wr (Uq (b.add g6) wr sD) := by rw [hsD]; exact pon_any hB
     have hyD : sD.N[m]? = some y := by rw [hsD, (mOn_N _).1]; exact hyB
     have haD : s1.at_ ≤ sD.at_ := by rw [hsD, ← haB]; exact (mOn_N _).2.2
     rw [← hsD] at HFA
     clear hsD
     go_upto_region 8 with (go_at_call 82; refine hon.mono ?_; rintro e w9 ⟨rfl, h9, t9⟩)
     have hb69 := hb6r.turn t9 g6q
     have fD : Fq b w w9 := fB2.trans (hB.fq t9).drop
     have hhq : Calls Tryz.prog 122 #[.pointer (some ⟨b.pB, 0, none⟩), .string (txt [63])] w9 fun e w' => e = .returned (.bool (mHere b.T [63] sD)) ∧ Turn w9 w' none := phere_any h9 [63]
     cases hq : mHere b.T [63] sD with
     | true =>
      have HHas := hid (show mHere b.T [63] (mFldA b.T m s1) = true by rw [HFA.out]; exact hq)
      rw [hq] at hhq
      go_upto_region 9 with (go_at_call 122; refine hhq.mono ?_; rintro e wG ⟨rfl, tG⟩)
      have hb6G := hb69.turn0 tG
      have hG := h9.turn0 tG
      have cG : wG.cell? ⟨g6, 1, none⟩ = some (.bool false) := hb6G.ats rfl
      have zG := hb6G.frozen 1
      go_upto_region 10 with (fail)
      obtain ⟨wH, hwH⟩ : ∃ wH, wH = wG.setCell ⟨g6, 1, none⟩ (.bool true) := ⟨_, rfl⟩
      have tH : Turn wG wH (some g6) := by rw [hwH]; exact Blk.setTurn _ _ _ _
      have hb6H : Blk wH g6 119 (fV t.s true 0).toArray := by rw [hwH]; exact hb6G.sets 1 (.bool true)
      rw [← hwH]
      clear hwH cG zG
      have hH := hG.turnO eO eB tH
      have fH : Fq b w wH := (fD.turn tG hw).turnNew tH hw hg6w
      obtain ⟨sE, hsE⟩ : ∃ sE, sE = mOn b.T sD := ⟨_, rfl⟩
      have hon2 : Calls Tryz.prog 82 #[.pointer (some ⟨b.pB, 0, none⟩)] wH (Uq (b.add g6) wH sE) := by rw [hsE]; exact pon_any hH
      have hyE : sE.N[m]? = some y := by rw [hsE, (mOn_N _).1]; exact hyD
      have haE : s1.at_ ≤ sE.at_ := by rw [hsE]; exact Nat.le_trans haD (mOn_N _).2.2
      have HFB := hid (show mFldB b.T m s1 = mSg b.T [58] sE by unfold mFldB; rw [HFA.out, if_pos hq, hsE])
      clear hsE hq hhq hon
      go_upto_region 11 with (go_at_call 82; refine hon2.mono ?_; rintro e wE ⟨rfl, hE, tE⟩)
      have hb6E := hb6H.turn tE g6q
      have fE : Fq b w wE := fH.trans (hH.fq tE).drop
      clear hon2 hb6H hb6G hb69 hG
      obtain ⟨sF, hsF⟩ : ∃ sF, sF = mSg b.T [58] sE := ⟨_, rfl⟩
      have hyF : sF.N[m]? = some y := by rw [hsF, mSg_N]; exact hyE
      have haF : s1.at_ ≤ sF.at_ := by rw [hsF]; exact Nat.le_trans haE (up_sg (m := 0) [58]).1
      have sgc : Calls Tryz.prog 83 #[.pointer (some ⟨b.pB, 0, none⟩), .string (txt [58])] wE (Uq (b.add g6) wE sF) := by rw [hsF]; exact psign_any hE [58]
      rw [← hsF] at HFB
      clear hsF
      go_upto_region 12 with (go_at_call 83; refine sgc.mono ?_; rintro e wF ⟨rfl, hF, tF⟩)
      have hb6F := hb6E.turn tF g6q
      have fF : Fq b w wF := fE.trans (hE.fq tF).drop
      have p3 : wF.cell? ⟨b.pB, 3, none⟩ = some (.int .i64 (sF.why : Int)) := hF.p3
      have hF2 := HF2.out
      rw [HFB.out] at hF2
      by_cases hz : sF.why = 0
      case neg =>
       have e1 : ((sF.why : Int) != 0) = true := by rw [bne_iff_ne]; omega
       rw [if_pos hz] at hF2
       have HX := hid (show sF = FIN from hF2)
       clear hz hF2
       go_wp2
       go_end0
       rw [HFE.out, ← HX.out]
       exact ⟨rfl, hF.drop, fF⟩
      case pos =>
      have e1 : ((sF.why : Int) != 0) = false := by rw [bne_eq_false_iff_eq]; omega
      rw [if_neg (by simp [hz])] at hF2
      have HF3 := hid hF2
      have key : Calls Tryz.prog 49 #[.pointer (some ⟨b.pB, 0, none⟩), .int .i64 ((d : Int) + 1), .bool false, .slice none 0 0] wF fun e w' => e = .returned (.int .i64 ((rec sF).1 : Int)) ∧ PS w' (b.add g6) (rec sF).2 ∧ Fq (b.add g6) wF w' := TR wF (b.add g6) sF rfl hF hz
      clear hz hF2
      obtain ⟨i, hi⟩ : ∃ i, i = (rec sF).1 := ⟨_, rfl⟩
      obtain ⟨sT, hsT⟩ : ∃ sT, sT = (rec sF).2 := ⟨_, rfl⟩
      have hup := hrup sF
      have hmF := (List.getElem?_eq_some_iff.1 hyF).1
      have hil := hlt sF (by omega)
      have HRT := hid (And.intro hi hsT)
      rw [← hi, ← hsT] at key hil
      rw [← hsT] at hup
      have hyT : sT.N[m]? = some y := (hup.2.2 m hmF).trans hyF
      have haT : s1.at_ ≤ sT.at_ := Nat.le_trans haF hup.1
      clear hi hsT hup
      go_upto_region 14 with (go_at_call 49; refine key.mono ?_; rintro e wT ⟨rfl, hT, fT⟩; have hb6T := fT.outB eO hb6F; have cT : wT.cell? ⟨g6, 2, none⟩ = some (.int .i64 0) := hb6T.ats rfl; have zT := hb6T.frozen 2)
      obtain ⟨wS, hwS⟩ : ∃ wS, wS = wT.setCell ⟨g6, 2, none⟩ (.int .i64 (i : Int)) := ⟨_, rfl⟩
      have tS : Turn wT wS (some g6) := by rw [hwS]; exact Blk.setTurn _ _ _ _
      have hb6S : Blk wS g6 119 (fV t.s true (i : Int)).toArray := by rw [hwS]; exact hb6T.sets 2 (.int .i64 (i : Int))
      rw [← hwS]
      clear hwS cT zT
      have hS := hT.turnO eO eB tS
      have fS : Fq b w wS := (fF.trans fT.drop).turnNew tS hw hg6w
      obtain ⟨s5, hs5⟩ : ∃ s5, s5 = mSg b.T [59] sT := ⟨_, rfl⟩
      have hn3 : s5.N[m]? = some y := by rw [hs5, mSg_N]; exact hyT
      have ha5 : sT.at_ ≤ s5.at_ := by rw [hs5]; exact (up_sg (m := 0) [59]).1
      have sg5 : Calls Tryz.prog 83 #[.pointer (some ⟨b.pB, 0, none⟩), .string (txt [59])] wS (Uq (b.add g6) wS s5) := by rw [hs5]; exact psign_any hS [59]
      have H5 := hid hs5
      have hilS : i < s5.N.length := by rw [hs5, mSg_N]; exact hil
      clear hs5 hil
      go_upto_region 15 with (go_at_call 83; refine sg5.mono ?_; rintro e w3 ⟨rfl, h3, t3⟩)
      have hb63 := hb6S.turn t3 g6q
      have f3 : Fq b w w3 := fS.trans (hS.fq t3).drop
      have d0 : w3.cell? ⟨g6, 0, none⟩ = some (.string (txt t.s)) := hb63.ats rfl
      have d1 : w3.cell? ⟨g6, 1, none⟩ = some (.bool true) := hb63.ats rfl
      have d2 : w3.cell? ⟨g6, 2, none⟩ = some (.int .i64 (i : Int)) := hb63.ats rfl
      have l6 := hb63.lt
      have hsm := h3.ok.small y (List.mem_of_getElem? hn3)
      have hyk := h3.ok.names y (List.mem_of_getElem? hn3)
      have hinn := h3.ok.inn y (List.mem_of_getElem? hn3)
      have hMS := hid (show mFldC b.T rec m s1 = s5.mod m fun y => { y with fields := y.fields ++ [⟨t.s, i, true⟩] } by
       unfold mFldC
       rw [HFB.out, HHas.out, ← HRT.out.1, ← HRT.out.2, ← HA.out.1, ← H5.out])
      have hok4 : NOk (s5.N.modify m fun y => { y with fields := y.fields ++ [⟨t.s, i, true⟩] }) (s5.at_ + 1) := h3.ok.mod hn3 (Nat.le_refl _) hyk ⟨hsm.1, hsm.2.1, by show (y.fields ++ [_]).length ≤ _; rw [List.length_append]; show y.fields.length + 1 ≤ _; omega⟩ hinn
      obtain ⟨NL, hNL⟩ : ∃ NL, s5.N.length = NL := ⟨_, rfl⟩
      have HNL := hid hNL
      clear hNL p3 e1 sgc key sg5 hb6E hb6F hb6S hb6T hE hF hT hS
      obtain ⟨R, g, nd3⟩ := h3.ndAt hn3
      have hN := nd3.hN
      have hrb := nd3.hrb
      have p2 := nd3.p2
      have n3 := nd3.n5
      have hgp := nd3.ne
      have hA := nd3.hA
      have hO := (hN.fields m y hn3).own (hN.aps.own _)
      have lp := hrb.lt
      have lg := World.block_lt_of_cell? w3 _ nd3.n0
      have q1 := nd3.q1 2
      have q2 := nd3.q2 2
      have hown := nd3.hN.own
      rw [nd3.hA] at hown
      have fz3 := nd3.fz (m * 6 + 5)
      have tA : Turn w3 (w3.alloc (.cells #[Value.string (txt t.s), Value.bool true, Value.int .i64 (i : Int)] 119)).drew none := ((Turn.refl w3 none).alloc _).drew
      have pA := (tA.cell (a := ⟨b.pB, 2, none⟩) lp (by simp)).trans p2
      have nA := (tA.cell (a := ⟨g, m * 6 + 5, none⟩) lg (by simp)).trans n3
      have hwA : b.base ≤ (w3.alloc (.cells #[Value.string (txt t.s), Value.bool true, Value.int .i64 (i : Int)] 119)).drew.heap.size := Nat.le_trans h3.hw.1 tA.size
      have hsA : w3.heap.size ≤ (w3.alloc (.cells #[Value.string (txt t.s), Value.bool true, Value.int .i64 (i : Int)] 119)).drew.heap.size := tA.size
      have dA0 := (tA.cell (a := ⟨g6, 0, none⟩) l6 (by simp)).trans d0
      have dA1 := (tA.cell (a := ⟨g6, 1, none⟩) l6 (by simp)).trans d1
      have dA2 := (tA.cell (a := ⟨g6, 2, none⟩) l6 (by simp)).trans d2
      have q3 : some g6 ≠ blk (R (some (m, 2))).A := fun e => nd3.hO _ g6 eO e.symm
      have hgq : g ≠ g6 := fun e => nd3.hO none g6 eO (by rw [nd3.hA, e]; rfl)
      have p2 : w3.cell? ⟨b.pB, 2, none⟩ = some (.slice (some ⟨g, 0, none⟩) s5.N.length (R none).c) := p2
      have pA : (w3.alloc (.cells #[Value.string (txt t.s), Value.bool true, Value.int .i64 (i : Int)] 119)).drew.cell? ⟨b.pB, 2, none⟩ = some (.slice (some ⟨g, 0, none⟩) s5.N.length (R none).c) := pA
      have hmi : m < NL := by rw [← HNL.out]; exact (List.getElem?_eq_some_iff.1 hn3).1
      rw [HNL.out] at p2 pA
      refine wp_region_noPanic ?_
      refine wp_region_held_drew (S := (fun W => W.cell? ⟨b.pB, 2, none⟩ = some (.slice (some ⟨g, 0, none⟩) NL (R none).c) ∧ W.cell? ⟨g6, 0, none⟩ = some (.string (txt t.s)) ∧ W.cell? ⟨g6, 1, none⟩ = some (.bool true) ∧ W.cell? ⟨g6, 2, none⟩ = some (.int .i64 (i : Int)))) (by kernel_rfl) (⟨p2, d0, d1, d2⟩) (fun hHeld => ?_)
      (first | refine tkN 0 ?_ | refine tkY 0 _ ?_); (try simp only [Act.put, zs])
      (first | refine tkN 1 ?_ | refine tkY 1 _ ?_); (try simp only [Act.put, zs])
      (first | refine tkN 2 ?_ | refine tkY 2 _ ?_); (try simp only [Act.put, zs])
      (first | refine tkN 3 ?_ | refine tkY 3 _ ?_); (try simp only [Act.put, zs])
      (first | refine tkN 4 ?_ | refine tkY 4 _ ?_); (try simp only [Act.put, zs])
      (first | refine tkN 5 ?_ | refine tkY 5 _ ?_); (try simp only [Act.put, zs])
      (first | refine tkN 6 ?_ | refine tkY 6 _ ?_); (try simp only [Act.put, zs])
      (first | refine tkN 7 ?_ | refine tkY 7 _ ?_); (try simp only [Act.put, zs])
      (first | refine tkN 8 ?_ | refine tkY 8 _ ?_); (try simp only [Act.put, zs])
      (first | refine tkN 9 ?_ | refine tkY 9 _ ?_); (try simp only [Act.put, zs])
      (first | refine tkN 10 ?_ | refine tkY 10 _ ?_); (try simp only [Act.put, zs])
      (first | refine tkN 11 ?_ | refine tkY 11 _ ?_); (try simp only [Act.put, zs])
      (first | refine tkN 13 ?_ | refine tkY 13 _ ?_); (try simp only [Act.put, zs])
      refine wpAnyH_ready (rs := [12, 14]) (by kernel_rfl) (by simp) ?_; refine AllReadyH.cons rfl (fun K hK => ?_) (AllReadyH.cons rfl (fun K hK => ?_) AllReadyH.nil)
      ·go_simp
       refine hK.out _ _ ⟨p2, d0, d1, d2⟩ (fun hHeld => ?_); clear hK K; (try simp only [Act.put, zs])
       refine wpAnyH_ready (rs := [14]) (by kernel_rfl) (by simp) ?_; refine AllReadyH.cons rfl (fun K hK => ?_) AllReadyH.nil
       go_simp
       refine hK.out _ _ ⟨pA, dA0, dA1, dA2⟩ (fun hHeld => ?_); clear hK K; (try simp only [Act.put, zs])
       refine wpAnyH_ready (rs := [15]) (by kernel_rfl) (by simp) ?_; refine AllReadyH.cons rfl (fun K hK => ?_) AllReadyH.nil
       refine st_app (base := b.base) rfl _ _ _ rfl elF rfl rfl (hO.alloc _).drew (Rd.litS w3 _ 3 1 [Value.string (txt t.s), Value.bool true, Value.int .i64 (i : Int)] rfl).drew (by repeat (first | exact ones_nil | refine ones_cons rfl ?_)) (by unfold maxLen; first | omega | (simp; done) | (simp; omega)) (by first | omega | (simp; done) | (simp; omega)) hwA ?_
       intro A5 c5 w5 ho5 ht5 hb5
       have ht6 : Turn w3 w5 (blk (R (some (m, 2))).A) := (((Turn.refl w3 _).alloc _).drew).trans ht5
       have k1 := (ht6.cell (a := ⟨b.pB, 2, none⟩) lp q1).trans p2
       have k3 := (ht6.cell (a := ⟨g, m * 6 + 5, none⟩) lg q2).trans n3
       have fz5 := (hown.turn ht6 (.inr q2)).frozen (m * 6 + 5)
       have d50 := (ht6.cell (a := ⟨g6, 0, none⟩) l6 q3).trans d0
       have d51 := (ht6.cell (a := ⟨g6, 1, none⟩) l6 q3).trans d1
       have d52 := (ht6.cell (a := ⟨g6, 2, none⟩) l6 q3).trans d2
       refine hK.out _ _ ⟨k1, d50, d51, d52⟩ (fun hHeld => ?_); clear hK K; (try simp only [Act.put, zs])
       (first | refine tkN 16 ?_ | refine tkY 16 _ ?_); (try simp only [Act.put, zs])
       (first | refine tkN 17 ?_ | refine tkY 17 _ ?_); (try simp only [Act.put, zs])
       refine wpAnyH_ready (rs := [18]) (by kernel_rfl) (by simp) ?_; refine AllReadyH.cons rfl (fun K hK => ?_) AllReadyH.nil
       go_simp
       refine hK.out _ _ ⟨(World.cell?_setCell_far _ _ _ _ hgp).trans k1, (World.cell?_setCell_far _ _ _ _ hgq).trans d50, (World.cell?_setCell_far _ _ _ _ hgq).trans d51, (World.cell?_setCell_far _ _ _ _ hgq).trans d52⟩ (fun hHeld => ?_); clear hK K; (try simp only [Act.put, zs])
       refine wpAnyH_done (by kernel_rfl) ?_ _
       refine NoPanic.normal ?_
       clear hHeld
       obtain ⟨h4, f4⟩ := h3.slot (w1 := w5) (gg := fun y => { y with fields := y.fields ++ [⟨t.s, i, true⟩] }) (r := ⟨119, 3, A5, y.fields.length + 1, c5, vfs (y.fields.map Fl.g) ++ [Value.string (txt t.s), Value.bool true, Value.int .i64 (i : Int)]⟩) hN nd3.hO hrb hn3 hA (j := 2) (by omega) ho5 ht6 (hb5.imp id fun e => ⟨_, e, hsA⟩) (.inr (.inr rfl)) ⟨rfl, rfl, rfl⟩
        (hN.syms m y hn3) (hN.items m y hn3) ⟨rfl, rfl, by simp, by simp [vfs, Fl.g]⟩ hok4
       obtain ⟨w6, hw6⟩ : ∃ w6, w6 = w5.setCell ⟨g, m * 6 + (3 + 2), none⟩ (Rw.v ⟨119, 3, A5, y.fields.length + 1, c5, vfs (y.fields.map Fl.g) ++ [Value.string (txt t.s), Value.bool true, Value.int .i64 (i : Int)]⟩) := ⟨_, rfl⟩
       rw [← hw6] at h4 f4
       have F6 : Fq b w w6 := f3.trans f4.drop
       have hwv : w5.setCell ⟨g, m * 6 + 5, none⟩ (.slice A5 (y.fields.length + 1) c5) = w6 := hw6.symm
       rw [hwv]
       clear hw6 hwv
       rw [← hMS.out] at h4
       have hyC : (mFldC b.T rec m s1).N[m]? = some { y with fields := y.fields ++ [⟨t.s, i, true⟩] } := by rw [hMS.out]; exact mod_get hn3
       have haC : (mFldC b.T rec m s1).at_ = s5.at_ ∧ (mFldC b.T rec m s1).why = s5.why := by rw [hMS.out]; exact ⟨rfl, rfl⟩
       have h6 := h4.drop
       go_wp2
       refine ⟨hid ⟨g', _, h6, HF3.out, fun hz5 => ?_, (List.getElem?_eq_some_iff.1 hyC).1, F6⟩, ?_⟩
       ·have := HZ.out.2
        have := h6.at_
        have hsT0 : sT.why = 0 := Classical.byContradiction fun q => by rw [haC.2, H5.out, mSg_stuck _ q] at hz5; exact q hz5
        have ha6 : s5.at_ = sT.at_ + 1 := by rw [H5.out]; exact mSg_adv (T := b.T) h3.tok hsT0 (Nat.lt_of_le_of_lt ha5 h3.at_) (by rw [← H5.out, ← haC.2]; exact hz5)
        refine ⟨by omega, _, hyC, ?_⟩
        show (y.fields ++ [_]).length ≤ _
        rw [List.length_append]
        show y.fields.length + 1 ≤ _
        omega
       ·rw [h6.qm, hqm.out, if_pos HZ.out.1]
        by_cases hz5 : (mFldC b.T rec m s1).why = 0
        ·have hsT0 : sT.why = 0 := Classical.byContradiction fun q => by rw [haC.2, H5.out, mSg_stuck _ q] at hz5; exact q hz5
         have ha6 : s5.at_ = sT.at_ + 1 := by rw [H5.out]; exact mSg_adv (T := b.T) h3.tok hsT0 (Nat.lt_of_le_of_lt ha5 h3.at_) (by rw [← H5.out, ← haC.2]; exact hz5)
         have := h6.at_
         rw [if_pos hz5]
         omega
        ·rw [if_neg hz5]; omega
      ·go_simp
       refine hK.out _ _ ⟨pA, dA0, dA1, dA2⟩ (fun hHeld => ?_); clear hK K; (try simp only [Act.put, zs])
       refine wpAnyH_ready (rs := [12]) (by kernel_rfl) (by simp) ?_; refine AllReadyH.cons rfl (fun K hK => ?_) AllReadyH.nil
       go_simp
       refine hK.out _ _ ⟨pA, dA0, dA1, dA2⟩ (fun hHeld => ?_); clear hK K; (try simp only [Act.put, zs])
       refine wpAnyH_ready (rs := [15]) (by kernel_rfl) (by simp) ?_; refine AllReadyH.cons rfl (fun K hK => ?_) AllReadyH.nil
       refine st_app (base := b.base) rfl _ _ _ rfl elF rfl rfl (hO.alloc _).drew (Rd.litS w3 _ 3 1 [Value.string (txt t.s), Value.bool true, Value.int .i64 (i : Int)] rfl).drew (by repeat (first | exact ones_nil | refine ones_cons rfl ?_)) (by unfold maxLen; first | omega | (simp; done) | (simp; omega)) (by first | omega | (simp; done) | (simp; omega)) hwA ?_
       intro A5 c5 w5 ho5 ht5 hb5
       have ht6 : Turn w3 w5 (blk (R (some (m, 2))).A) := (((Turn.refl w3 _).alloc _).drew).trans ht5
       have k1 := (ht6.cell (a := ⟨b.pB, 2, none⟩) lp q1).trans p2
       have k3 := (ht6.cell (a := ⟨g, m * 6 + 5, none⟩) lg q2).trans n3
       have fz5 := (hown.turn ht6 (.inr q2)).frozen (m * 6 + 5)
       have d50 := (ht6.cell (a := ⟨g6, 0, none⟩) l6 q3).trans d0
       have d51 := (ht6.cell (a := ⟨g6, 1, none⟩) l6 q3).trans d1
       have d52 := (ht6.cell (a := ⟨g6, 2, none⟩) l6 q3).trans d2
       refine hK.out _ _ ⟨k1, d50, d51, d52⟩ (fun hHeld => ?_); clear hK K; (try simp only [Act.put, zs])
       (first | refine tkN 16 ?_ | refine tkY 16 _ ?_); (try simp only [Act.put, zs])
       (first | refine tkN 17 ?_ | refine tkY 17 _ ?_); (try simp only [Act.put, zs])
       refine wpAnyH_ready (rs := [18]) (by kernel_rfl) (by simp) ?_; refine AllReadyH.cons rfl (fun K hK => ?_) AllReadyH.nil
       go_simp
       refine hK.out _ _ ⟨(World.cell?_setCell_far _ _ _ _ hgp).trans k1, (World.cell?_setCell_far _ _ _ _ hgq).trans d50, (World.cell?_setCell_far _ _ _ _ hgq).trans d51, (World.cell?_setCell_far _ _ _ _ hgq).trans d52⟩ (fun hHeld => ?_); clear hK K; (try simp only [Act.put, zs])
       refine wpAnyH_done (by kernel_rfl) ?_ _
       refine NoPanic.normal ?_
       clear hHeld
       obtain ⟨h4, f4⟩ := h3.slot (w1 := w5) (gg := fun y => { y with fields := y.fields ++ [⟨t.s, i, true⟩] }) (r := ⟨119, 3, A5, y.fields.length + 1, c5, vfs (y.fields.map Fl.g) ++ [Value.string (txt t.s), Value.bool true, Value.int .i64 (i : Int)]⟩) hN nd3.hO hrb hn3 hA (j := 2) (by omega) ho5 ht6 (hb5.imp id fun e => ⟨_, e, hsA⟩) (.inr (.inr rfl)) ⟨rfl, rfl, rfl⟩
        (hN.syms m y hn3) (hN.items m y hn3) ⟨rfl, rfl, by simp, by simp [vfs, Fl.g]⟩ hok4
       obtain ⟨w6, hw6⟩ : ∃ w6, w6 = w5.setCell ⟨g, m * 6 + (3 + 2), none⟩ (Rw.v ⟨119, 3, A5, y.fields.length + 1, c5, vfs (y.fields.map Fl.g) ++ [Value.string (txt t.s), Value.bool true, Value.int .i64 (i : Int)]⟩) := ⟨_, rfl⟩
       rw [← hw6] at h4 f4
       have F6 : Fq b w w6 := f3.trans f4.drop
       have hwv : w5.setCell ⟨g, m * 6 + 5, none⟩ (.slice A5 (y.fields.length + 1) c5) = w6 := hw6.symm
       rw [hwv]
       clear hw6 hwv
       rw [← hMS.out] at h4
       have hyC : (mFldC b.T rec m s1).N[m]? = some { y with fields := y.fields ++ [⟨t.s, i, true⟩] } := by rw [hMS.out]; exact mod_get hn3
       have haC : (mFldC b.T rec m s1).at_ = s5.at_ ∧ (mFldC b.T rec m s1).why = s5.why := by rw [hMS.out]; exact ⟨rfl, rfl⟩
       have h6 := h4.drop
       go_wp2
       refine ⟨hid ⟨g', _, h6, HF3.out, fun hz5 => ?_, (List.getElem?_eq_some_iff.1 hyC).1, F6⟩, ?_⟩
       ·have := HZ.out.2
        have := h6.at_
        have hsT0 : sT.why = 0 := Classical.byContradiction fun q => by rw [haC.2, H5.out, mSg_stuck _ q] at hz5; exact q hz5
        have ha6 : s5.at_ = sT.at_ + 1 := by rw [H5.out]; exact mSg_adv (T := b.T) h3.tok hsT0 (Nat.lt_of_le_of_lt ha5 h3.at_) (by rw [← H5.out, ← haC.2]; exact hz5)
        refine ⟨by omega, _, hyC, ?_⟩
        show (y.fields ++ [_]).length ≤ _
        rw [List.length_append]
        show y.fields.length + 1 ≤ _
        omega
       ·rw [h6.qm, hqm.out, if_pos HZ.out.1]
        by_cases hz5 : (mFldC b.T rec m s1).why = 0
        ·have hsT0 : sT.why = 0 := Classical.byContradiction fun q => by rw [haC.2, H5.out, mSg_stuck _ q] at hz5; exact q hz5
         have ha6 : s5.at_ = sT.at_ + 1 := by rw [H5.out]; exact mSg_adv (T := b.T) h3.tok hsT0 (Nat.lt_of_le_of_lt ha5 h3.at_) (by rw [← H5.out, ← haC.2]; exact hz5)
         have := h6.at_
         rw [if_pos hz5]
         omega
        ·rw [if_neg hz5]; omega
     | false =>
      have HHas := hid (show mHere b.T [63] (mFldA b.T m s1) = false by rw [HFA.out]; exact hq)
      rw [hq] at hhq
      have HFB := hid (show mFldB b.T m s1 = mSg b.T [58] sD by unfold mFldB; rw [HFA.out, if_neg (by rw [hq]; decide)])
      clear hq hon
      go_upto_region 11 with (go_at_call 122; refine hhq.mono ?_; rintro e wE ⟨rfl, tE⟩)
      have hb6E := hb69.turn0 tE
      have hE := h9.turn0 tE
      have fE : Fq b w wE := fD.turn tE hw
      obtain ⟨sE, hsE⟩ : ∃ sE, sE = sD := ⟨_, rfl⟩
      rw [← hsE] at hE HFB
      have hyE : sE.N[m]? = some y := by rw [hsE]; exact hyD
      have haE : s1.at_ ≤ sE.at_ := by rw [hsE]; exact haD
      clear hsE hhq hb69
      obtain ⟨sF, hsF⟩ : ∃ sF, sF = mSg b.T [58] sE := ⟨_, rfl⟩
      have hyF : sF.N[m]? = some y := by rw [hsF, mSg_N]; exact hyE
      have haF : s1.at_ ≤ sF.at_ := by rw [hsF]; exact Nat.le_trans haE (up_sg (m := 0) [58]).1
      have sgc : Calls Tryz.prog 83 #[.pointer (some ⟨b.pB, 0, none⟩), .string (txt [58])] wE (Uq (b.add g6) wE sF) := by rw [hsF]; exact psign_any hE [58]
      rw [← hsF] at HFB
      clear hsF
      go_upto_region 12 with (go_at_call 83; refine sgc.mono ?_; rintro e wF ⟨rfl, hF, tF⟩)
      have hb6F := hb6E.turn tF g6q
      have fF : Fq b w wF := fE.trans (hE.fq tF).drop
      have p3 : wF.cell? ⟨b.pB, 3, none⟩ = some (.int .i64 (sF.why : Int)) := hF.p3
      have hF2 := HF2.out
      rw [HFB.out] at hF2
      by_cases hz : sF.why = 0
      case neg =>
       have e1 : ((sF.why : Int) != 0) = true := by rw [bne_iff_ne]; omega
       rw [if_pos hz] at hF2
       have HX := hid (show sF = FIN from hF2)
       clear hz hF2
       go_wp2
       go_end0
       rw [HFE.out, ← HX.out]
       exact ⟨rfl, hF.drop, fF⟩
      case pos =>
      have e1 : ((sF.why : Int) != 0) = false := by rw [bne_eq_false_iff_eq]; omega
      rw [if_neg (by simp [hz])] at hF2
      have HF3 := hid hF2
      have key : Calls Tryz.prog 49 #[.pointer (some ⟨b.pB, 0, none⟩), .int .i64 ((d : Int) + 1), .bool false, .slice none 0 0] wF fun e w' => e = .returned (.int .i64 ((rec sF).1 : Int)) ∧ PS w' (b.add g6) (rec sF).2 ∧ Fq (b.add g6) wF w' := TR wF (b.add g6) sF rfl hF hz
      clear hz hF2
      obtain ⟨i, hi⟩ : ∃ i, i = (rec sF).1 := ⟨_, rfl⟩
      obtain ⟨sT, hsT⟩ : ∃ sT, sT = (rec sF).2 := ⟨_, rfl⟩
      have hup := hrup sF
      have hmF := (List.getElem?_eq_some_iff.1 hyF).1
      have hil := hlt sF (by omega)
      have HRT := hid (And.intro hi hsT)
      rw [← hi, ← hsT] at key hil
      rw [← hsT] at hup
      have hyT : sT.N[m]? = some y := (hup.2.2 m hmF).trans hyF
      have haT : s1.at_ ≤ sT.at_ := Nat.le_trans haF hup.1
      clear hi hsT hup
      go_upto_region 14 with (go_at_call 49; refine key.mono ?_; rintro e wT ⟨rfl, hT, fT⟩; have hb6T := fT.outB eO hb6F; have cT : wT.cell? ⟨g6, 2, none⟩ = some (.int .i64 0) := hb6T.ats rfl; have zT := hb6T.frozen 2)
      obtain ⟨wS, hwS⟩ : ∃ wS, wS = wT.setCell ⟨g6, 2, none⟩ (.int .i64 (i : Int)) := ⟨_, rfl⟩
      have tS : Turn wT wS (some g6) := by rw [hwS]; exact Blk.setTurn _ _ _ _
      have hb6S : Blk wS g6 119 (fV t.s false (i : Int)).toArray := by rw [hwS]; exact hb6T.sets 2 (.int .i64 (i : Int))
      rw [← hwS]
      clear hwS cT zT
      have hS := hT.turnO eO eB tS
      have fS : Fq b w wS := (fF.trans fT.drop).turnNew tS hw hg6w
      obtain ⟨s5, hs5⟩ : ∃ s5, s5 = mSg b.T [59] sT := ⟨_, rfl⟩
      have hn3 : s5.N[m]? = some y := by rw [hs5, mSg_N]; exact hyT
      have ha5 : sT.at_ ≤ s5.at_ := by rw [hs5]; exact (up_sg (m := 0) [59]).1
      have sg5 : Calls Tryz.prog 83 #[.pointer (some ⟨b.pB, 0, none⟩), .string (txt [59])] wS (Uq (b.add g6) wS s5) := by rw [hs5]; exact psign_any hS [59]
      have H5 := hid hs5
      have hilS : i < s5.N.length := by rw [hs5, mSg_N]; exact hil
      clear hs5 hil
      go_upto_region 15 with (go_at_call 83; refine sg5.mono ?_; rintro e w3 ⟨rfl, h3, t3⟩)
      have hb63 := hb6S.turn t3 g6q
      have f3 : Fq b w w3 := fS.trans (hS.fq t3).drop
      have d0 : w3.cell? ⟨g6, 0, none⟩ = some (.string (txt t.s)) := hb63.ats rfl
      have d1 : w3.cell? ⟨g6, 1, none⟩ = some (.bool false) := hb63.ats rfl
      have d2 : w3.cell? ⟨g6, 2, none⟩ = some (.int .i64 (i : Int)) := hb63.ats rfl
      have l6 := hb63.lt
      have hsm := h3.ok.small y (List.mem_of_getElem? hn3)
      have hyk := h3.ok.names y (List.mem_of_getElem? hn3)
      have hinn := h3.ok.inn y (List.mem_of_getElem? hn3)
      have hMS := hid (show mFldC b.T rec m s1 = s5.mod m fun y => { y with fields := y.fields ++ [⟨t.s, i, false⟩] } by
       unfold mFldC
       rw [HFB.out, HHas.out, ← HRT.out.1, ← HRT.out.2, ← HA.out.1, ← H5.out])
      have hok4 : NOk (s5.N.modify m fun y => { y with fields := y.fields ++ [⟨t.s, i, false⟩] }) (s5.at_ + 1) := h3.ok.mod hn3 (Nat.le_refl _) hyk ⟨hsm.1, hsm.2.1, by show (y.fields ++ [_]).length ≤ _; rw [List.length_append]; show y.fields.length + 1 ≤ _; omega⟩ hinn
      obtain ⟨NL, hNL⟩ : ∃ NL, s5.N.length = NL := ⟨_, rfl⟩
      have HNL := hid hNL
      clear hNL p3 e1 sgc key sg5 hb6E hb6F hb6S hb6T hE hF hT hS
      obtain ⟨R, g, nd3⟩ := h3.ndAt hn3
      have hN := nd3.hN
      have hrb := nd3.hrb
      have p2 := nd3.p2
      have n3 := nd3.n5
      have hgp := nd3.ne
      have hA := nd3.hA
      have hO := (hN.fields m y hn3).own (hN.aps.own _)
      have lp := hrb.lt
      have lg := World.block_lt_of_cell? w3 _ nd3.n0
      have q1 := nd3.q1 2
      have q2 := nd3.q2 2
      have hown := nd3.hN.own
      rw [nd3.hA] at hown
      have fz3 := nd3.fz (m * 6 + 5)
      have tA : Turn w3 (w3.alloc (.cells #[Value.string (txt t.s), Value.bool false, Value.int .i64 (i : Int)] 119)).drew none := ((Turn.refl w3 none).alloc _).drew
      have pA := (tA.cell (a := ⟨b.pB, 2, none⟩) lp (by simp)).trans p2
      have nA := (tA.cell (a := ⟨g, m * 6 + 5, none⟩) lg (by simp)).trans n3
      have hwA : b.base ≤ (w3.alloc (.cells #[Value.string (txt t.s), Value.bool false, Value.int .i64 (i : Int)] 119)).drew.heap.size := Nat.le_trans h3.hw.1 tA.size
      have hsA : w3.heap.size ≤ (w3.alloc (.cells #[Value.string (txt t.s), Value.bool false, Value.int .i64 (i : Int)] 119)).drew.heap.size := tA.size
      have dA0 := (tA.cell (a := ⟨g6, 0, none⟩) l6 (by simp)).trans d0
      have dA1 := (tA.cell (a := ⟨g6, 1, none⟩) l6 (by simp)).trans d1
      have dA2 := (tA.cell (a := ⟨g6, 2, none⟩) l6 (by simp)).trans d2
      have q3 : some g6 ≠ blk (R (some (m, 2))).A := fun e => nd3.hO _ g6 eO e.symm
      have hgq : g ≠ g6 := fun e => nd3.hO none g6 eO (by rw [nd3.hA, e]; rfl)
      have p2 : w3.cell? ⟨b.pB, 2, none⟩ = some (.slice (some ⟨g, 0, none⟩) s5.N.length (R none).c) := p2
      have pA : (w3.alloc (.cells #[Value.string (txt t.s), Value.bool false, Value.int .i64 (i : Int)] 119)).drew.cell? ⟨b.pB, 2, none⟩ = some (.slice (some ⟨g, 0, none⟩) s5.N.length (R none).c) := pA
      have hmi : m < NL := by rw [← HNL.out]; exact (List.getElem?_eq_some_iff.1 hn3).1
      rw [HNL.out] at p2 pA
      refine wp_region_noPanic ?_
      refine wp_region_held_drew (S := (fun W => W.cell? ⟨b.pB, 2, none⟩ = some (.slice (some ⟨g, 0, none⟩) NL (R none).c) ∧ W.cell? ⟨g6, 0, none⟩ = some (.string (txt t.s)) ∧ W.cell? ⟨g6, 1, none⟩ = some (.bool false) ∧ W.cell? ⟨g6, 2, none⟩ = some (.int .i64 (i : Int)))) (by kernel_rfl) (⟨p2, d0, d1, d2⟩) (fun hHeld => ?_)
      (first | refine tkN 0 ?_ | refine tkY 0 _ ?_); (try simp only [Act.put, zs])
      (first | refine tkN 1 ?_ | refine tkY 1 _ ?_); (try simp only [Act.put, zs])
      (first | refine tkN 2 ?_ | refine tkY 2 _ ?_); (try simp only [Act.put, zs])
      (first | refine tkN 3 ?_ | refine tkY 3 _ ?_); (try simp only [Act.put, zs])
      (first | refine tkN 4 ?_ | refine tkY 4 _ ?_); (try simp only [Act.put, zs])
      (first | refine tkN 5 ?_ | refine tkY 5 _ ?_); (try simp only [Act.put, zs])
      (first | refine tkN 6 ?_ | refine tkY 6 _ ?_); (try simp only [Act.put, zs])
      (first | refine tkN 7 ?_ | refine tkY 7 _ ?_); (try simp only [Act.put, zs])
      (first | refine tkN 8 ?_ | refine tkY 8 _ ?_); (try simp only [Act.put, zs])
      (first | refine tkN 9 ?_ | refine tkY 9 _ ?_); (try simp only [Act.put, zs])
      (first | refine tkN 10 ?_ | refine tkY 10 _ ?_); (try simp only [Act.put, zs])
      (first | refine tkN 11 ?_ | refine tkY 11 _ ?_); (try simp only [Act.put, zs])
      (first | refine tkN 13 ?_ | refine tkY 13 _ ?_); (try simp only [Act.put, zs])
      refine wpAnyH_ready (rs := [12, 14]) (by kernel_rfl) (by simp) ?_; refine AllReadyH.cons rfl (fun K hK => ?_) (AllReadyH.cons rfl (fun K hK => ?_) AllReadyH.nil)
      ·go_simp
       refine hK.out _ _ ⟨p2, d0, d1, d2⟩ (fun hHeld => ?_); clear hK K; (try simp only [Act.put, zs])
       refine wpAnyH_ready (rs := [14]) (by kernel_rfl) (by simp) ?_; refine AllReadyH.cons rfl (fun K hK => ?_) AllReadyH.nil
       go_simp
       refine hK.out _ _ ⟨pA, dA0, dA1, dA2⟩ (fun hHeld => ?_); clear hK K; (try simp only [Act.put, zs])
       refine wpAnyH_ready (rs := [15]) (by kernel_rfl) (by simp) ?_; refine AllReadyH.cons rfl (fun K hK => ?_) AllReadyH.nil
       refine st_app (base := b.base) rfl _ _ _ rfl elF rfl rfl (hO.alloc _).drew (Rd.litS w3 _ 3 1 [Value.string (txt t.s), Value.bool false, Value.int .i64 (i : Int)] rfl).drew (by repeat (first | exact ones_nil | refine ones_cons rfl ?_)) (by unfold maxLen; first | omega | (simp; done) | (simp; omega)) (by first | omega | (simp; done) | (simp; omega)) hwA ?_
       intro A5 c5 w5 ho5 ht5 hb5
       have ht6 : Turn w3 w5 (blk (R (some (m, 2))).A) := (((Turn.refl w3 _).alloc _).drew).trans ht5
       have k1 := (ht6.cell (a := ⟨b.pB, 2, none⟩) lp q1).trans p2
       have k3 := (ht6.cell (a := ⟨g, m * 6 + 5, none⟩) lg q2).trans n3
       have fz5 := (hown.turn ht6 (.inr q2)).frozen (m * 6 + 5)
       have d50 := (ht6.cell (a := ⟨g6, 0, none⟩) l6 q3).trans d0
       have d51 := (ht6.cell (a := ⟨g6, 1, none⟩) l6 q3).trans d1
       have d52 := (ht6.cell (a := ⟨g6, 2, none⟩) l6 q3).trans d2
       refine hK.out _ _ ⟨k1, d50, d51, d52⟩ (fun hHeld => ?_); clear hK K; (try simp only [Act.put, zs])
       (first | refine tkN 16 ?_ | refine tkY 16 _ ?_); (try simp only [Act.put, zs])
       (first | refine tkN 17 ?_ | refine tkY 17 _ ?_); (try simp only [Act.put, zs])
       refine wpAnyH_ready (rs := [18]) (by kernel_rfl) (by simp) ?_; refine AllReadyH.cons rfl (fun K hK => ?_) AllReadyH.nil
       go_simp
       refine hK.out _ _ ⟨(World.cell?_setCell_far _ _ _ _ hgp).trans k1, (World.cell?_setCell_far _ _ _ _ hgq).trans d50, (World.cell?_setCell_far _ _ _ _ hgq).trans d51, (World.cell?_setCell_far _ _ _ _ hgq).trans d52⟩ (fun hHeld => ?_); clear hK K; (try simp only [Act.put, zs])
       refine wpAnyH_done (by kernel_rfl) ?_ _
       refine NoPanic.normal ?_
       clear hHeld
       obtain ⟨h4, f4⟩ := h3.slot (w1 := w5) (gg := fun y => { y with fields := y.fields ++ [⟨t.s, i, false⟩] }) (r := ⟨119, 3, A5, y.fields.length + 1, c5, vfs (y.fields.map Fl.g) ++ [Value.string (txt t.s), Value.bool false, Value.int .i64 (i : Int)]⟩) hN nd3.hO hrb hn3 hA (j := 2) (by omega) ho5 ht6 (hb5.imp id fun e => ⟨_, e, hsA⟩) (.inr (.inr rfl)) ⟨rfl, rfl, rfl⟩
        (hN.syms m y hn3) (hN.items m y hn3) ⟨rfl, rfl, by simp, by simp [vfs, Fl.g]⟩ hok4
       obtain ⟨w6, hw6⟩ : ∃ w6, w6 = w5.setCell ⟨g, m * 6 + (3 + 2), none⟩ (Rw.v ⟨119, 3, A5, y.fields.length + 1, c5, vfs (y.fields.map Fl.g) ++ [Value.string (txt t.s), Value.bool false, Value.int .i64 (i : Int)]⟩) := ⟨_, rfl⟩
       rw [← hw6] at h4 f4
       have F6 : Fq b w w6 := f3.trans f4.drop
       have hwv : w5.setCell ⟨g, m * 6 + 5, none⟩ (.slice A5 (y.fields.length + 1) c5) = w6 := hw6.symm
       rw [hwv]
       clear hw6 hwv
       rw [← hMS.out] at h4
       have hyC : (mFldC b.T rec m s1).N[m]? = some { y with fields := y.fields ++ [⟨t.s, i, false⟩] } := by rw [hMS.out]; exact mod_get hn3
       have haC : (mFldC b.T rec m s1).at_ = s5.at_ ∧ (mFldC b.T rec m s1).why = s5.why := by rw [hMS.out]; exact ⟨rfl, rfl⟩
       have h6 := h4.drop
       go_wp2
       refine ⟨hid ⟨g', _, h6, HF3.out, fun hz5 => ?_, (List.getElem?_eq_some_iff.1 hyC).1, F6⟩, ?_⟩
       ·have := HZ.out.2
        have := h6.at_
        have hsT0 : sT.why = 0 := Classical.byContradiction fun q => by rw [haC.2, H5.out, mSg_stuck _ q] at hz5; exact q hz5
        have ha6 : s5.at_ = sT.at_ + 1 := by rw [H5.out]; exact mSg_adv (T := b.T) h3.tok hsT0 (Nat.lt_of_le_of_lt ha5 h3.at_) (by rw [← H5.out, ← haC.2]; exact hz5)
        refine ⟨by omega, _, hyC, ?_⟩
        show (y.fields ++ [_]).length ≤ _
        rw [List.length_append]
        show y.fields.length + 1 ≤ _
        omega
       ·rw [h6.qm, hqm.out, if_pos HZ.out.1]
        by_cases hz5 : (mFldC b.T rec m s1).why = 0
        ·have hsT0 : sT.why = 0 := Classical.byContradiction fun q => by rw [haC.2, H5.out, mSg_stuck _ q] at hz5; exact q hz5
         have ha6 : s5.at_ = sT.at_ + 1 := by rw [H5.out]; exact mSg_adv (T := b.T) h3.tok hsT0 (Nat.lt_of_le_of_lt ha5 h3.at_) (by rw [← H5.out, ← haC.2]; exact hz5)
         have := h6.at_
         rw [if_pos hz5]
         omega
        ·rw [if_neg hz5]; omega
      ·go_simp
       refine hK.out _ _ ⟨pA, dA0, dA1, dA2⟩ (fun hHeld => ?_); clear hK K; (try simp only [Act.put, zs])
       refine wpAnyH_ready (rs := [12]) (by kernel_rfl) (by simp) ?_; refine AllReadyH.cons rfl (fun K hK => ?_) AllReadyH.nil
       go_simp
       refine hK.out _ _ ⟨pA, dA0, dA1, dA2⟩ (fun hHeld => ?_); clear hK K; (try simp only [Act.put, zs])
       refine wpAnyH_ready (rs := [15]) (by kernel_rfl) (by simp) ?_; refine AllReadyH.cons rfl (fun K hK => ?_) AllReadyH.nil
       refine st_app (base := b.base) rfl _ _ _ rfl elF rfl rfl (hO.alloc _).drew (Rd.litS w3 _ 3 1 [Value.string (txt t.s), Value.bool false, Value.int .i64 (i : Int)] rfl).drew (by repeat (first | exact ones_nil | refine ones_cons rfl ?_)) (by unfold maxLen; first | omega | (simp; done) | (simp; omega)) (by first | omega | (simp; done) | (simp; omega)) hwA ?_
       intro A5 c5 w5 ho5 ht5 hb5
       have ht6 : Turn w3 w5 (blk (R (some (m, 2))).A) := (((Turn.refl w3 _).alloc _).drew).trans ht5
       have k1 := (ht6.cell (a := ⟨b.pB, 2, none⟩) lp q1).trans p2
       have k3 := (ht6.cell (a := ⟨g, m * 6 + 5, none⟩) lg q2).trans n3
       have fz5 := (hown.turn ht6 (.inr q2)).frozen (m * 6 + 5)
       have d50 := (ht6.cell (a := ⟨g6, 0, none⟩) l6 q3).trans d0
       have d51 := (ht6.cell (a := ⟨g6, 1, none⟩) l6 q3).trans d1
       have d52 := (ht6.cell (a := ⟨g6, 2, none⟩) l6 q3).trans d2
       refine hK.out _ _ ⟨k1, d50, d51, d52⟩ (fun hHeld => ?_); clear hK K; (try simp only [Act.put, zs])
       (first | refine tkN 16 ?_ | refine tkY 16 _ ?_); (try simp only [Act.put, zs])
       (first | refine tkN 17 ?_ | refine tkY 17 _ ?_); (try simp only [Act.put, zs])
       refine wpAnyH_ready (rs := [18]) (by kernel_rfl) (by simp) ?_; refine AllReadyH.cons rfl (fun K hK => ?_) AllReadyH.nil
       go_simp
       refine hK.out _ _ ⟨(World.cell?_setCell_far _ _ _ _ hgp).trans k1, (World.cell?_setCell_far _ _ _ _ hgq).trans d50, (World.cell?_setCell_far _ _ _ _ hgq).trans d51, (World.cell?_setCell_far _ _ _ _ hgq).trans d52⟩ (fun hHeld => ?_); clear hK K; (try simp only [Act.put, zs])
       refine wpAnyH_done (by kernel_rfl) ?_ _
       refine NoPanic.normal ?_
       clear hHeld
       obtain ⟨h4, f4⟩ := h3.slot (w1 := w5) (gg := fun y => { y with fields := y.fields ++ [⟨t.s, i, false⟩] }) (r := ⟨119, 3, A5, y.fields.length + 1, c5, vfs (y.fields.map Fl.g) ++ [Value.string (txt t.s), Value.bool false, Value.int .i64 (i : Int)]⟩) hN nd3.hO hrb hn3 hA (j := 2) (by omega) ho5 ht6 (hb5.imp id fun e => ⟨_, e, hsA⟩) (.inr (.inr rfl)) ⟨rfl, rfl, rfl⟩
        (hN.syms m y hn3) (hN.items m y hn3) ⟨rfl, rfl, by simp, by simp [vfs, Fl.g]⟩ hok4
       obtain ⟨w6, hw6⟩ : ∃ w6, w6 = w5.setCell ⟨g, m * 6 + (3 + 2), none⟩ (Rw.v ⟨119, 3, A5, y.fields.length + 1, c5, vfs (y.fields.map Fl.g) ++ [Value.string (txt t.s), Value.bool false, Value.int .i64 (i : Int)]⟩) := ⟨_, rfl⟩
       rw [← hw6] at h4 f4
       have F6 : Fq b w w6 := f3.trans f4.drop
       have hwv : w5.setCell ⟨g, m * 6 + 5, none⟩ (.slice A5 (y.fields.length + 1) c5) = w6 := hw6.symm
       rw [hwv]
       clear hw6 hwv
       rw [← hMS.out] at h4
       have hyC : (mFldC b.T rec m s1).N[m]? = some { y with fields := y.fields ++ [⟨t.s, i, false⟩] } := by rw [hMS.out]; exact mod_get hn3
       have haC : (mFldC b.T rec m s1).at_ = s5.at_ ∧ (mFldC b.T rec m s1).why = s5.why := by rw [hMS.out]; exact ⟨rfl, rfl⟩
       have h6 := h4.drop
       go_wp2
       refine ⟨hid ⟨g', _, h6, HF3.out, fun hz5 => ?_, (List.getElem?_eq_some_iff.1 hyC).1, F6⟩, ?_⟩
       ·have := HZ.out.2
        have := h6.at_
        have hsT0 : sT.why = 0 := Classical.byContradiction fun q => by rw [haC.2, H5.out, mSg_stuck _ q] at hz5; exact q hz5
        have ha6 : s5.at_ = sT.at_ + 1 := by rw [H5.out]; exact mSg_adv (T := b.T) h3.tok hsT0 (Nat.lt_of_le_of_lt ha5 h3.at_) (by rw [← H5.out, ← haC.2]; exact hz5)
        refine ⟨by omega, _, hyC, ?_⟩
        show (y.fields ++ [_]).length ≤ _
        rw [List.length_append]
        show y.fields.length + 1 ≤ _
        omega
       ·rw [h6.qm, hqm.out, if_pos HZ.out.1]
        by_cases hz5 : (mFldC b.T rec m s1).why = 0
        ·have hsT0 : sT.why = 0 := Classical.byContradiction fun q => by rw [haC.2, H5.out, mSg_stuck _ q] at hz5; exact q hz5
         have ha6 : s5.at_ = sT.at_ + 1 := by rw [H5.out]; exact mSg_adv (T := b.T) h3.tok hsT0 (Nat.lt_of_le_of_lt ha5 h3.at_) (by rw [← H5.out, ← haC.2]; exact hz5)
         have := h6.at_
         rw [if_pos hz5]
         omega
        ·rw [if_neg hz5]; omega
end
open Go.RowKit
section
variable {w w' : World} {b : QB} {s s' : St}
theorem pdef_rec {f d : Nat} (hd : d ≤ 20) (TQ : TypQ f (d + 1)) (h : PS w b s) {m : Nat} {x : Nd} (hx : s.N[m]? = some x) (hk : 9 ≤ x.k) (hxf : x.fields = []) :
  Calls Tryz.prog 85 #[.pointer (some ⟨b.pB, 0, none⟩), .int .i64 (m : Int), .int .i64 11, .int .i64 (d : Int)] w (Uf b w (mFlds b.T (mTyped b.T f (d + 1) none) m (mDefA b.T m s))) := by
 have hw := h.hw
 have hml := (List.getElem?_eq_some_iff.1 hx).1
 have hx5 := defA_at (T := b.T) hx
 obtain ⟨t1, ht1⟩ : ∃ t, t = tokAt b.T s.at_ := ⟨_, rfl⟩
 have hnm := pname_any h
 have HD := hid (defA_eq (s := s) (T := b.T) (m := m))
 rw [← ht1] at hnm HD hx5
 obtain ⟨s5, hs5⟩ : ∃ s5, s5 = mDefA b.T m s := ⟨_, rfl⟩
 rw [← hs5] at HD hx5 ⊢
 obtain ⟨s1, hs1⟩ : ∃ s1, s1 = mNm b.T s := ⟨_, rfl⟩
 have hx1 : s1.N[m]? = some x := by rw [hs1, (mNm_N _).1]; exact hx
 rw [← hs1] at hnm HD
 clear ht1 hs5 hs1
 have hca := fun {w : World} (h : PS w b s1) => pcalled_any h t1.s
 obtain ⟨q, hq⟩ : ∃ q, q = calledI s1.N t1.s := ⟨_, rfl⟩
 rw [← hq] at hca HD
 obtain ⟨s2, hs2⟩ : ∃ s2, s2 = mBad b.T (decide (0 ≤ q)) 6 s1 := ⟨_, rfl⟩
 have hx2 : s2.N[m]? = some x := by rw [hs2, (mBad_N _ _ _).1]; exact hx1
 have hbd := fun {w : World} (h : PS w b s1) => pbad_any h (decide (0 ≤ q)) 6
 rw [← hs2] at HD hbd
 clear hq hs2
 go_enter Tryz.func85, Tryz.ntmps85
 go_upto_region 2 with (first
  | (go_at_call 79; refine hnm.mono ?_; rintro e w1 ⟨rfl, h1, tn1⟩)
  | (go_at_call 80; refine (hca h1).mono ?_; rintro e w2 ⟨rfl, tn2⟩)
  | (go_at_call 50; refine (hbd (h1.turn0 tn2)).mono ?_; rintro e w3 ⟨rfl, h3, tn3⟩))
 have f3 : Fq b w w3 := ((h.fq tn1).turn tn2 hw).trans ((h1.turn0 tn2).fq tn3)
 obtain ⟨R, g, nd⟩ := h3.ndAt hx2
 have p2 := nd.p2
 have n1 := nd.n1
 have fz := nd.fz (m * 6 + 1)
 have hmi := (List.getElem?_eq_some_iff.1 hx2).1
 obtain ⟨h4, f4⟩ := h3.scalar (jj := 1) (u := .string (txt t1.s)) (gg := fun y => { y with name := t1.s }) hx2 (by omega) (fun R => rfl) rfl rfl rfl (fun (hk9 : x.k < 9) => by omega) p2
 go_upto_region 3 with (fail)
 obtain ⟨w4, hw4⟩ : ∃ w4, w4 = w3.setCell ⟨g, m * 6 + 1, none⟩ (.string (txt t1.s)) := ⟨_, rfl⟩
 rw [← hw4] at h4 f4 ⊢
 clear hw4 p2 n1 fz nd
 obtain ⟨s4, hs4⟩ : ∃ s4, s4 = s2.mod m fun y => { y with name := t1.s } := ⟨_, rfl⟩
 rw [← hs4] at h4 HD
 clear hs4
 go_upto_region 10 with (go_at_call 82; refine (pon_any h4).mono ?_; rintro e w5 ⟨rfl, h5, tn5⟩)
 rw [← HD.out] at h5
 have f5 : Fq b w w5 := (f3.trans f4).trans (h4.fq tn5)
 clear hnm hca hbd
 have key := pfields_any hd TQ h5 hx5 hxf
 go_wp2_with (go_at_call 124; refine key.mono ?_; rintro e w6 ⟨rfl, h6, f6⟩)
 go_end0
 exact ⟨rfl, h6, f5.trans f6⟩
def tailOf : Nat → Code → Code
 | 0, c => c
 | n + 1, .seq _ c => tailOf n c
 | _, c => c
def headOf (n : Nat) (c : Code) : Code := match tailOf n c with
 | .seq r _ => r
 | c => c
noncomputable def typB : Code := (Tryz.f49.body).getD .skip
def TPost (b : QB) (w : World) (r : Nat × St) (e : Ending) (w' : World) : Prop := e = .returned (.int .i64 (r.1 : Int)) ∧ PS w' b r.2 ∧ Fq b w w'
theorem mBody_lt {T : List Tok} {rec : Option (List Nat) → MRd} {k : Nat} (h : k < 6) : mBody T rec (k : Int) s = (s.N.length, { s with N := s.N ++ [Nd.of k] }) := by
 unfold mBody
 rw [if_pos (by omega)]
 rfl
theorem typ_tail {w0 : World} {f d k : Nat} (hd : d < 20) (TQ : TypQ f (d + 1)) (h : PS w b s) (hw0 : Bd b w0) (f0 : Fq b w0 w) (hz : s.why = 0) (hS : s.N.length < 200) (hk : k < 12) {r : Nat × St} (HR : Hid (r = mBody b.T (fun u => mTyped b.T f (d + 1) u) (k : Int) s)) {KK : Act → World → Prop} (hKK : ∀ a w, Code.wp Tryz.prog (tailOf 12 typB) (bodyPost Tryz.prog Tryz.f49 (TPost b w0 r)) a w → KK a w) {e_2 e_3 e_4 e_5 e_6 e_7 e_8 e_9 e_11 e_12 e_13 e_14 e_15 e_16 e_17 e_18 e_19 e_20 e_21 e_22 e_23 e_24 e_25 e_26 e_27 e_28 e_29 e_30 e_31 e_32 e_33 e_34 e_35 e_36 e_37 e_38 e_39 e_40 e_41 e_42 e_43 e_44 e_45 e_46 e_47 e_48 e_49 e_50 e_51 e_52 e_53 e_54 e_55 e_56 e_57 e_58 e_59 e_60 e_61 e_62 e_63 e_64 e_65 e_66 e_67 e_68 e_69 e_70 e_71 e_72 e_73 e_74 e_75 e_76 e_77 e_78 e_79 e_80 e_81 e_82 e_83 e_84 e_85 e_86 e_87 e_88 e_89 e_90 e_91 e_92 e_93 e_94 e_95 e_96 e_97 e_98 e_99 e_100 e_101 e_102 e_103 e_104 e_105 e_106 e_107 e_108 e_109 e_110 e_111 e_112 e_113 e_114 e_115 e_116 e_117 e_118 e_119 e_120 e_121 e_122 e_123 e_124 e_125 e_126 e_127 e_128 e_129 e_130 e_131 e_132 e_133 e_134 e_135 e_136 e_137 e_138 e_139 e_140 e_141 e_142 e_143 e_144 e_145 e_146 e_147 e_148 e_149 e_150 e_151 e_152 e_153 e_154 e_155 e_156 e_157 e_158 e_159 e_160 : Value} :
  Code.wp Tryz.prog (headOf 11 typB) (Exit.then KK (bodyPost Tryz.prog Tryz.f49 (TPost b w0 r))) ⟨List.toArray (.pointer (some ⟨b.pB, 0, none⟩) :: .int .i64 (d : Int) :: e_2 :: e_3 :: e_4 :: e_5 :: e_6 :: e_7 :: e_8 :: e_9 :: .int .i64 (k : Int) :: e_11 :: e_12 :: e_13 :: e_14 :: e_15 :: e_16 :: e_17 :: e_18 :: e_19 :: e_20 :: e_21 :: e_22 :: e_23 :: e_24 :: e_25 :: e_26 :: e_27 :: e_28 :: e_29 :: e_30 :: e_31 :: e_32 :: e_33 :: e_34 :: e_35 :: e_36 :: e_37 :: e_38 :: e_39 :: e_40 :: e_41 :: e_42 :: e_43 :: e_44 :: e_45 :: e_46 :: e_47 :: e_48 :: e_49 :: e_50 :: e_51 :: e_52 :: e_53 :: e_54 :: e_55 :: e_56 :: e_57 :: e_58 :: e_59 :: e_60 :: e_61 :: e_62 :: e_63 :: e_64 :: e_65 :: e_66 :: e_67 :: e_68 :: e_69 :: e_70 :: e_71 :: e_72 :: e_73 :: e_74 :: e_75 :: e_76 :: e_77 :: e_78 :: e_79 :: e_80 :: e_81 :: e_82 :: e_83 :: e_84 :: e_85 :: e_86 :: e_87 :: e_88 :: e_89 :: e_90 :: e_91 :: e_92 :: e_93 :: e_94 :: e_95 :: e_96 :: e_97 :: e_98 :: e_99 :: e_100 :: e_101 :: e_102 :: e_103 :: e_104 :: e_105 :: e_106 :: e_107 :: e_108 :: e_109 :: e_110 :: e_111 :: e_112 :: e_113 :: e_114 :: e_115 :: e_116 :: e_117 :: e_118 :: e_119 :: e_120 :: e_121 :: e_122 :: e_123 :: e_124 :: e_125 :: e_126 :: e_127 :: e_128 :: e_129 :: e_130 :: e_131 :: e_132 :: e_133 :: e_134 :: e_135 :: e_136 :: e_137 :: e_138 :: e_139 :: e_140 :: e_141 :: e_142 :: e_143 :: e_144 :: e_145 :: e_146 :: e_147 :: e_148 :: e_149 :: e_150 :: e_151 :: e_152 :: e_153 :: e_154 :: e_155 :: e_156 :: e_157 :: e_158 :: e_159 :: e_160 :: []), []⟩ w := by
 have hw := h.hw
 obtain ⟨R, hN, hrb, p2, hO⟩ := h.opo
 have hO1 := hN.own
 obtain ⟨W, hW⟩ : ∃ W, W = w.alloc (.cells (ndZ k).toArray 64) := ⟨_, rfl⟩
 have tW : Turn w W none := by rw [hW]; exact (Turn.refl w none).alloc _
 have h7 := h.turn0 tW
 have hN7 := hN.turn0 tW
 have hrb7 := hrb.turn0 tW
 have lW : Rd W (w.heap.size + 1) 6 (some ⟨w.heap.size, 0, none⟩) 1 (ndZ k) := by rw [hW]; exact Rd.litS w _ 6 1 (ndZ k) rfl
 have hO7 := hN7.own
 have hw7 := h7.hw.1
 have q1 : some b.pB ≠ blk (R none).A := fun e => hN7.off hrb7 ty_P none e.symm
 have lp := hrb7.lt
 have p7 := (tW.cell (a := ⟨b.pB, 2, none⟩) hrb.lt (by simp)).trans p2
 subst hW
 have hdw : IntKind.i64.wrap ((d : Int) + 1) = (d : Int) + 1 := by rw [IntKind.wrap_i64]; omega
 conv => arg 2; whnf
 conv at hKK => enter [a, w, 1, 2]; whnf
 go_upto_region 18 with (at_builtin; refine wp_app rfl _ _ _ rfl elNd rfl rfl hO7 lW (by repeat (first | exact ones_nil | refine ones_cons rfl ?_)) (by unfold maxLen; first | omega | (simp; done) | (simp; omega)) (by first | omega | (simp; done) | (simp; omega)) hw7 ?_; intro A5 c5 w8 ho8 ht8 hb8; have k8 := (ht8.cell (a := ⟨b.pB, 2, none⟩) lp q1).trans p7; have z8 := (hrb7.turn ht8 q1).frozen 2)
 obtain ⟨h9, f9⟩ := h7.push hN7 hO hrb7 hS k ho8 ht8 hb8
 have F9 := (f0.turn tW hw0).trans f9
 obtain ⟨w9, hw9⟩ : ∃ w9, w9 = w8.setCell ⟨b.pB, 2, none⟩ (.slice A5 (s.N.length + 1) c5) := ⟨_, rfl⟩
 rw [← hw9] at h9 F9
 rw [← hw9]
 clear hw9 f9 ho8 ht8 hb8 k8 z8 p7 lp q1 hw7 hO7 lW hrb7 hN7 h7 tW hO1 hO p2 hrb hN f0 h
 obtain ⟨s1, hs1⟩ : ∃ s1 : St, s1 = { s with N := s.N ++ [Nd.of k] } := ⟨_, rfl⟩
 replace h9 : PS w9 b s1 := hs1 ▸ h9
 have hx1 : s1.N[s.N.length]? = some (Nd.of k) := by rw [hs1]; simp
 have hz1 : s1.why = 0 := by rw [hs1]; exact hz
 obtain ⟨n, hn⟩ : ∃ n, n = s.N.length := ⟨_, rfl⟩
 have HM : Hid (r = mBody b.T (fun u => mTyped b.T f (d + 1) u) (k : Int) s ∧ s1 = { s with N := s.N ++ [Nd.of k] } ∧ n = s.N.length) := hid ⟨HR.out, hs1, hn⟩
 rw [← hn] at hx1
 rw [← hn]
 clear hs1 hn HR hz
 rcases (show k < 6 ∨ k = 6 ∨ k = 7 ∨ k = 8 ∨ k = 9 ∨ k = 10 ∨ k = 11 by omega) with hk6 | rfl | rfl | rfl | rfl | rfl | rfl
 ·have e6 : ((k : Int) == 6) = false := by rw [beq_eq_false_iff_ne]; omega
  have e7 : ((k : Int) == 7) = false := by rw [beq_eq_false_iff_ne]; omega
  have e8 : ((k : Int) == 8) = false := by rw [beq_eq_false_iff_ne]; omega
  have e9 : ((k : Int) == 9) = false := by rw [beq_eq_false_iff_ne]; omega
  have e10 : ((k : Int) == 10) = false := by rw [beq_eq_false_iff_ne]; omega
  have e11 : ((k : Int) == 11) = false := by rw [beq_eq_false_iff_ne]; omega
  have HB := hid (show r = (n, s1) by rw [HM.out.1, mBody_lt hk6, HM.out.2.1, HM.out.2.2])
  clear hk6
  go_wp2
  go_ret
  rw [HB.out]
  exact ⟨rfl, h9, F9⟩
 ·obtain ⟨i, hi⟩ : ∃ i, i = (mTyped b.T f (d + 1) none s1).1 := ⟨_, rfl⟩
  obtain ⟨sT, hsT⟩ : ∃ sT, sT = (mTyped b.T f (d + 1) none s1).2 := ⟨_, rfl⟩
  have key : Calls Tryz.prog 49 #[.pointer (some ⟨b.pB, 0, none⟩), .int .i64 ((d : Int) + 1), .bool false, .slice none 0 0] w9 fun e w' => e = .returned (.int .i64 (i : Int)) ∧ PS w' b sT ∧ Fq b w9 w' := by rw [hi, hsT]; exact TQ w9 b s1 none none 0 h9 hz1 (UnOk.none_ _ _ _)
  have hup := up_typed (T := b.T) f (d + 1) none s1
  have hil := typed_lt (T := b.T) f (d + 1) none (s := s1) (by have := (List.getElem?_eq_some_iff.1 hx1).1; omega)
  rw [← hsT] at hup
  rw [← hi, ← hsT] at hil
  have hxT : sT.N[n]? = some (Nd.of 6) := (hup.2.2 n (List.getElem?_eq_some_iff.1 hx1).1).trans hx1
  have HB := hid (show r = (n, mSg b.T [93] (sT.mod n fun y => { y with items := [i] })) by rw [HM.out.1, hi, hsT, HM.out.2.1, HM.out.2.2]; rfl)
  clear hi hsT hup
  go_upto_region 21 with (go_at_call 49; refine key.mono ?_; rintro e wT ⟨rfl, hT, fT⟩)
  obtain ⟨R, g, nd⟩ := hT.ndAt hxT
  have hN := nd.hN
  have p2 := nd.p2
  have lp := nd.hrb.lt
  have lg := World.block_lt_of_cell? wT _ nd.n0
  have tA : Turn wT (wT.alloc (.cells #[Value.int .i64 (i : Int)] 3)) none := (Turn.refl wT none).alloc _
  have nA := (tA.cell (a := ⟨g, n * 6 + 4, none⟩) lg (by simp)).trans nd.n4
  have hown := hN.own
  rw [nd.hA] at hown
  have fzA := (hown.turn0 tA).frozen (n * 6 + 4)
  have hnT := (List.getElem?_eq_some_iff.1 hxT).1
  have hok4 : NOk (sT.N.modify n fun y => { y with items := [i] }) (sT.at_ + 1) := hT.ok.mod hxT (Nat.le_refl _) (fun _ => rfl) ⟨Nat.zero_le _, by show ([i] : List Nat).length ≤ _; simp, Nat.zero_le _⟩ (fun j hj => by
   obtain rfl : j = i := by simpa using hj
   exact hil)
  obtain ⟨h4, f4⟩ := hT.slot (w1 := wT.alloc (.cells #[Value.int .i64 (i : Int)] 3)) (gg := fun y => { y with items := [i] }) (r := ⟨3, 1, some ⟨wT.heap.size, 0, none⟩, 1, 1, [Value.int .i64 (i : Int)]⟩) hN nd.hO nd.hrb hxT nd.hA (j := 1) (by omega)
   (Own.full wT b.base 3 1 1 1 #[Value.int .i64 (i : Int)] hT.hw.1 (by decide) (Nat.le_refl _) rfl) ((Turn.refl wT _).alloc _) (.inr ⟨_, rfl, Nat.le_refl _⟩) (.inr (.inl rfl)) ⟨rfl, rfl, rfl⟩
   (hN.syms n _ hxT :) ⟨rfl, rfl, rfl, rfl⟩ (hN.fields n _ hxT :) hok4
  have hgp := nd.ne
  clear nd hok4
  go_upto_region 22 with (fail)
  obtain ⟨w6, hw6⟩ : ∃ w6, w6 = (wT.alloc (.cells #[Value.int .i64 (i : Int)] 3)).setCell ⟨g, n * 6 + (3 + 1), none⟩ (Rw.v ⟨3, 1, some ⟨wT.heap.size, 0, none⟩, 1, 1, [Value.int .i64 (i : Int)]⟩) := ⟨_, rfl⟩
  rw [← hw6] at h4 f4
  have hwv : (wT.setCell ⟨g, n * 6 + 4, none⟩ (.slice (some ⟨wT.heap.size, 0, none⟩) 1 1)).alloc (.cells #[Value.int .i64 (i : Int)] 3) = w6 := (World.setCell_alloc_past _ _ _ _ lg).symm.trans hw6.symm
  rw [hwv]
  clear hw6 hwv
  have sg := psign_any h4 [93]
  go_wp2_with (go_at_call 83; refine sg.mono ?_; rintro e w7 ⟨rfl, h7, t7⟩)
  go_ret
  rw [HB.out]
  exact ⟨rfl, h7, ((F9.trans fT).trans f4).trans (h4.fq t7)⟩
 ·obtain ⟨i, hi⟩ : ∃ i, i = (mTyped b.T f (d + 1) none s1).1 := ⟨_, rfl⟩
  obtain ⟨sT, hsT⟩ : ∃ sT, sT = (mTyped b.T f (d + 1) none s1).2 := ⟨_, rfl⟩
  have key : Calls Tryz.prog 49 #[.pointer (some ⟨b.pB, 0, none⟩), .int .i64 ((d : Int) + 1), .bool false, .slice none 0 0] w9 fun e w' => e = .returned (.int .i64 (i : Int)) ∧ PS w' b sT ∧ Fq b w9 w' := by rw [hi, hsT]; exact TQ w9 b s1 none none 0 h9 hz1 (UnOk.none_ _ _ _)
  have hup := up_typed (T := b.T) f (d + 1) none s1
  have hil := typed_lt (T := b.T) f (d + 1) none (s := s1) (by have := (List.getElem?_eq_some_iff.1 hx1).1; omega)
  rw [← hsT] at hup
  rw [← hi, ← hsT] at hil
  have hxT : sT.N[n]? = some (Nd.of 7) := (hup.2.2 n (List.getElem?_eq_some_iff.1 hx1).1).trans hx1
  have HB := hid (show r = (n, mSg b.T [125] (sT.mod n fun y => { y with items := [i] })) by rw [HM.out.1, hi, hsT, HM.out.2.1, HM.out.2.2]; rfl)
  clear hi hsT hup
  go_upto_region 25 with (go_at_call 49; refine key.mono ?_; rintro e wT ⟨rfl, hT, fT⟩)
  obtain ⟨R, g, nd⟩ := hT.ndAt hxT
  have hN := nd.hN
  have p2 := nd.p2
  have lp := nd.hrb.lt
  have lg := World.block_lt_of_cell? wT _ nd.n0
  have tA : Turn wT (wT.alloc (.cells #[Value.int .i64 (i : Int)] 3)) none := (Turn.refl wT none).alloc _
  have nA := (tA.cell (a := ⟨g, n * 6 + 4, none⟩) lg (by simp)).trans nd.n4
  have hown := hN.own
  rw [nd.hA] at hown
  have fzA := (hown.turn0 tA).frozen (n * 6 + 4)
  have hnT := (List.getElem?_eq_some_iff.1 hxT).1
  have hok4 : NOk (sT.N.modify n fun y => { y with items := [i] }) (sT.at_ + 1) := hT.ok.mod hxT (Nat.le_refl _) (fun _ => rfl) ⟨Nat.zero_le _, by show ([i] : List Nat).length ≤ _; simp, Nat.zero_le _⟩ (fun j hj => by
   obtain rfl : j = i := by simpa using hj
   exact hil)
  obtain ⟨h4, f4⟩ := hT.slot (w1 := wT.alloc (.cells #[Value.int .i64 (i : Int)] 3)) (gg := fun y => { y with items := [i] }) (r := ⟨3, 1, some ⟨wT.heap.size, 0, none⟩, 1, 1, [Value.int .i64 (i : Int)]⟩) hN nd.hO nd.hrb hxT nd.hA (j := 1) (by omega)
   (Own.full wT b.base 3 1 1 1 #[Value.int .i64 (i : Int)] hT.hw.1 (by decide) (Nat.le_refl _) rfl) ((Turn.refl wT _).alloc _) (.inr ⟨_, rfl, Nat.le_refl _⟩) (.inr (.inl rfl)) ⟨rfl, rfl, rfl⟩
   (hN.syms n _ hxT :) ⟨rfl, rfl, rfl, rfl⟩ (hN.fields n _ hxT :) hok4
  have hgp := nd.ne
  clear nd hok4
  go_upto_region 26 with (fail)
  obtain ⟨w6, hw6⟩ : ∃ w6, w6 = (wT.alloc (.cells #[Value.int .i64 (i : Int)] 3)).setCell ⟨g, n * 6 + (3 + 1), none⟩ (Rw.v ⟨3, 1, some ⟨wT.heap.size, 0, none⟩, 1, 1, [Value.int .i64 (i : Int)]⟩) := ⟨_, rfl⟩
  rw [← hw6] at h4 f4
  have hwv : (wT.setCell ⟨g, n * 6 + 4, none⟩ (.slice (some ⟨wT.heap.size, 0, none⟩) 1 1)).alloc (.cells #[Value.int .i64 (i : Int)] 3) = w6 := (World.setCell_alloc_past _ _ _ _ lg).symm.trans hw6.symm
  rw [hwv]
  clear hw6 hwv
  have sg := psign_any h4 [125]
  go_wp2_with (go_at_call 83; refine sg.mono ?_; rintro e w7 ⟨rfl, h7, t7⟩)
  go_ret
  rw [HB.out]
  exact ⟨rfl, h7, ((F9.trans fT).trans f4).trans (h4.fq t7)⟩
 ·have key := pall_any (x := Nd.of 8) (by omega) TQ h9 hx1 (Nat.zero_le _)
  obtain ⟨sT, hsT⟩ : ∃ sT, sT = mAll b.T (fun u => mTyped b.T f (d + 1) (some u)) n (b.T.length + 1) s1 := ⟨_, rfl⟩
  have HB := hid (show r = (n, sT) by rw [HM.out.1, hsT, HM.out.2.1, HM.out.2.2]; rfl)
  rw [← hsT] at key
  clear hsT
  go_wp2_with (go_at_call 84; refine key.mono ?_; rintro e wT ⟨rfl, hT, fT⟩)
  go_ret
  rw [HB.out]
  exact ⟨rfl, hT, F9.trans fT⟩
 ·have key := pdef_enum (D := (d : Int)) h9 hx1 (by decide) rfl
  obtain ⟨sT, hsT⟩ : ∃ sT, sT = mSyms b.T n (b.T.length + 1) (mSg b.T [60] (mDefA b.T n s1)) := ⟨_, rfl⟩
  have HB := hid (show r = (n, sT) by rw [HM.out.1, hsT, HM.out.2.1, HM.out.2.2]; rfl)
  rw [← hsT] at key
  clear hsT
  go_wp2_with (go_at_call 85; refine key.mono ?_; rintro e wT ⟨rfl, hT, fT⟩)
  go_ret
  rw [HB.out]
  exact ⟨rfl, hT, F9.trans fT⟩
 ·have key := pdef_fix (D := (d : Int)) h9 hx1 (by decide)
  obtain ⟨sT, hsT⟩ : ∃ sT, sT = mFix b.T n (mDefA b.T n s1) := ⟨_, rfl⟩
  have HB := hid (show r = (n, sT) by rw [HM.out.1, hsT, HM.out.2.1, HM.out.2.2]; rfl)
  rw [← hsT] at key
  clear hsT
  go_wp2_with (go_at_call 85; refine key.mono ?_; rintro e wT ⟨rfl, hT, fT⟩)
  go_ret
  rw [HB.out]
  exact ⟨rfl, hT, F9.trans fT⟩
 ·have key := pdef_rec (by omega) TQ h9 hx1 (by decide) rfl
  obtain ⟨sT, hsT⟩ : ∃ sT, sT = mFlds b.T (mTyped b.T f (d + 1) none) n (mDefA b.T n s1) := ⟨_, rfl⟩
  have HB := hid (show r = (n, sT) by rw [HM.out.1, hsT, HM.out.2.1, HM.out.2.2]; rfl)
  rw [← hsT] at key
  clear hsT
  go_wp2_with (go_at_call 85; refine key.mono ?_; rintro e wT ⟨rfl, hT, fT⟩)
  go_ret
  rw [HB.out]
  exact ⟨rfl, hT, F9.trans fT⟩
end
end Go.Proofs.YtgigiecdpjchkaaGreatDoor
