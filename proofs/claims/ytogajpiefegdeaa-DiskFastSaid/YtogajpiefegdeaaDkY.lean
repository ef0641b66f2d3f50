/-
  Layer 14: the crash in DiskFast (a region that draws its order).
-/
import Derived.Test.YtogajpiefegdeaaDkW
namespace Go.Proofs.Ytogajpiefegdeaa
set_option linter.unusedSimpArgs false
set_option linter.unusedVariables false
open Go.RowKit

theorem Bo.stp2 {w0 w w' : World} {g : Nat} {R : Nat → Prop} {D D' : Dsk} (h : Bo w0 w g R D) (s : Stp w w' R g D') : ∃ R', Bo w0 w' g R' D' ∧ ∀ k, R' k → R k ∨ w.heap.size ≤ k := by
  obtain ⟨hc, R', hp, hk⟩ := s
  have s0 := h.tw.size
  exact ⟨R', ⟨hp, fun k h1 => (hk k h1).elim (h.r0 k) (fun h3 => by omega), ((Chg.of0 h.tw R).trans hc fun i hi => .inl hi).turn h.r0⟩, hk⟩
/-- The region of a code with such a number. -/
def rgnOf (n : Nat) : Code → Option Code
  | .region k ops d => if k = n then some (.region k ops d) else none
  | .seq a b => (rgnOf n a).or (rgnOf n b)
  | .cond _ a b => (rgnOf n a).or (rgnOf n b)
  | .block _ b => rgnOf n b
  | .scope b => rgnOf n b
  | .loop b => rgnOf n b
  | _ => none
theorem of_codeY {P : Program} {C C' : Code} {Q : Exit → Act → World → Prop} {a : Act} {w : World} (h : C = C') (g : Code.wp P C' Q a w) : Code.wp P C Q a w := h ▸ g
noncomputable def f17R : Code := ((Try.f4.body).bind (rgnOf 17)).getD .skip
set_option maxRecDepth 100000 in
set_option maxHeartbeats 6400000 in
theorem fast17 {Q : Exit → Act → World → Prop} {w0 wr w : World} {g g5 : Nat} {R : Nat → Prop} {D : Dsk} {a : At} (h : Bo w0 wr g R D) (hb0 : Blk w0 g5 30 a.cs.toArray) (ht5 : Turn w w0 none) (hok : a.Ok w w.heap.size) {e_0 e_1 e_2 e_3 e_4 e_6 e_8 e_9 e_10 e_11 e_12 e_13 e_14 e_15 e_16 e_17 e_18 e_19 e_20 e_21 e_22 e_23 e_24 e_25 e_26 e_27 e_28 e_29 e_30 e_31 e_32 e_33 e_34 e_35 e_36 e_37 e_38 e_39 e_40 e_41 e_42 e_43 e_44 e_45 e_46 e_47 e_48 e_49 e_50 e_51 e_52 e_53 e_54 e_55 e_56 e_57 e_58 e_59 e_60 e_61 e_62 e_63 e_64 e_65 e_66 e_67 e_68 e_69 e_70 e_71 e_72 e_73 e_74 e_75 e_76 e_77 e_78 e_79 e_80 e_81 e_82 e_83 e_84 e_85 e_86 e_87 e_88 e_89 e_90 e_91 e_92 e_93 e_94 e_95 e_96 e_97 e_98 e_99 e_100 e_101 e_102 e_103 e_104 e_105 e_106 e_107 e_108 e_109 e_110 e_111 e_112 e_113 e_114 e_115 e_116 : Value}
    (HQ : ∀ {z_91 z_92 z_93 z_94 z_95 z_96 z_97 z_98 : Value} (w7 w8 : World) (R8 : Nat → Prop), Turn wr w7 none → Chg w7 w8 R → Bo w0 w8 g R8 (D.crash a.m a.b) → Q .normal ⟨List.toArray (e_0 :: e_1 :: e_2 :: e_3 :: e_4 :: .pointer (some ⟨g5, 0, none⟩) :: e_6 :: .pointer (some ⟨g, 0, none⟩) :: e_8 :: e_9 :: e_10 :: e_11 :: e_12 :: e_13 :: e_14 :: e_15 :: e_16 :: e_17 :: e_18 :: e_19 :: e_20 :: e_21 :: e_22 :: e_23 :: e_24 :: e_25 :: e_26 :: e_27 :: e_28 :: e_29 :: e_30 :: e_31 :: e_32 :: e_33 :: e_34 :: e_35 :: e_36 :: e_37 :: e_38 :: e_39 :: e_40 :: e_41 :: e_42 :: e_43 :: e_44 :: e_45 :: e_46 :: e_47 :: e_48 :: e_49 :: e_50 :: e_51 :: e_52 :: e_53 :: e_54 :: e_55 :: e_56 :: e_57 :: e_58 :: e_59 :: e_60 :: e_61 :: e_62 :: e_63 :: e_64 :: e_65 :: e_66 :: e_67 :: e_68 :: e_69 :: e_70 :: e_71 :: e_72 :: e_73 :: e_74 :: e_75 :: e_76 :: e_77 :: e_78 :: e_79 :: e_80 :: e_81 :: e_82 :: e_83 :: e_84 :: e_85 :: e_86 :: e_87 :: e_88 :: e_89 :: e_90 :: z_91 :: z_92 :: z_93 :: z_94 :: z_95 :: z_96 :: z_97 :: z_98 :: e_99 :: e_100 :: e_101 :: e_102 :: e_103 :: e_104 :: e_105 :: e_106 :: e_107 :: e_108 :: e_109 :: e_110 :: e_111 :: e_112 :: e_113 :: e_114 :: e_115 :: e_116 :: []), []⟩ w8) :
    Code.wp Try.prog f17R Q ⟨List.toArray (e_0 :: e_1 :: e_2 :: e_3 :: e_4 :: .pointer (some ⟨g5, 0, none⟩) :: e_6 :: .pointer (some ⟨g, 0, none⟩) :: e_8 :: e_9 :: e_10 :: e_11 :: e_12 :: e_13 :: e_14 :: e_15 :: e_16 :: e_17 :: e_18 :: e_19 :: e_20 :: e_21 :: e_22 :: e_23 :: e_24 :: e_25 :: e_26 :: e_27 :: e_28 :: e_29 :: e_30 :: e_31 :: e_32 :: e_33 :: e_34 :: e_35 :: e_36 :: e_37 :: e_38 :: e_39 :: e_40 :: e_41 :: e_42 :: e_43 :: e_44 :: e_45 :: e_46 :: e_47 :: e_48 :: e_49 :: e_50 :: e_51 :: e_52 :: e_53 :: e_54 :: e_55 :: e_56 :: e_57 :: e_58 :: e_59 :: e_60 :: e_61 :: e_62 :: e_63 :: e_64 :: e_65 :: e_66 :: e_67 :: e_68 :: e_69 :: e_70 :: e_71 :: e_72 :: e_73 :: e_74 :: e_75 :: e_76 :: e_77 :: e_78 :: e_79 :: e_80 :: e_81 :: e_82 :: e_83 :: e_84 :: e_85 :: e_86 :: e_87 :: e_88 :: e_89 :: e_90 :: e_91 :: e_92 :: e_93 :: e_94 :: e_95 :: e_96 :: e_97 :: e_98 :: e_99 :: e_100 :: e_101 :: e_102 :: e_103 :: e_104 :: e_105 :: e_106 :: e_107 :: e_108 :: e_109 :: e_110 :: e_111 :: e_112 :: e_113 :: e_114 :: e_115 :: e_116 :: []), []⟩ wr := by
  have CC : ∀ W, Turn w0 W none → W.cell? ⟨g5, 2, none⟩ = some (.int .i64 a.m) ∧ W.cell? ⟨g5, 3, none⟩ = some (.slice a.A a.n a.c) := fun W hW => ⟨(hb0.turn0 hW).ats (j := 2) (v := .int .i64 a.m) rfl, (hb0.turn0 hW).ats (j := 3) (v := .slice a.A a.n a.c) rfl⟩
  have few := hok.few
  have h00 : Own ((World.drew wr).alloc (.cells #[] 5)) wr.heap.size 5 1 (some ⟨wr.heap.size, 0, none⟩) 0 0 [] := Own.made (World.drew wr) _ _ 1 0 #[] (Nat.le_refl _) (by decide) rfl
  have ro6 := (hok.rd.turn0 (ht5.trans h.tw) (Nat.le_refl _)).drew.alloc (ht5.trans h.tw).size (.cells #[] 5)
  conv => arg 2; whnf
  refine wp_region_noPanic ?_
  refine wp_region_held_drew (S := fun W => W.cell? ⟨g5, 2, none⟩ = some (.int .i64 a.m) ∧ W.cell? ⟨g5, 3, none⟩ = some (.slice a.A a.n a.c)) (by kernel_rfl) (CC _ h.tw.drew) (fun hHeld => ?_)
  (first | (refine wpAnyH_take (i := 0) (v := undef) rfl (by kernel_rfl) (by kernel_rfl) (by kernel_rfl) (fun _ _ _ h => h) (Or.inr ⟨rfl, rfl⟩) (by assumption) ?_) | (refine wpAnyH_take (i := 0) (v := ?_) rfl (by kernel_rfl) (by kernel_rfl) (by kernel_rfl) (fun _ _ _ h => h) (Or.inl ⟨rfl, ?_⟩) (by assumption) ?_; rotate_left 1; · (intro w hSw; (try dsimp only at hSw); go_simp; (try with_reducible rfl)))); (try simp only [Act.put, List.getElem_toArray, List.getElem_cons_zero, List.getElem_cons_succ, List.setIfInBounds_toArray, List.set_cons_zero, List.set_cons_succ])
  (first | (refine wpAnyH_take (i := 1) (v := undef) rfl (by kernel_rfl) (by kernel_rfl) (by kernel_rfl) (fun _ _ _ h => h) (Or.inr ⟨rfl, rfl⟩) (by assumption) ?_) | (refine wpAnyH_take (i := 1) (v := ?_) rfl (by kernel_rfl) (by kernel_rfl) (by kernel_rfl) (fun _ _ _ h => h) (Or.inl ⟨rfl, ?_⟩) (by assumption) ?_; rotate_left 1; · (intro w hSw; (try dsimp only at hSw); go_simp; (try with_reducible rfl)))); (try simp only [Act.put, List.getElem_toArray, List.getElem_cons_zero, List.getElem_cons_succ, List.setIfInBounds_toArray, List.set_cons_zero, List.set_cons_succ])
  (first | (refine wpAnyH_take (i := 2) (v := undef) rfl (by kernel_rfl) (by kernel_rfl) (by kernel_rfl) (fun _ _ _ h => h) (Or.inr ⟨rfl, rfl⟩) (by assumption) ?_) | (refine wpAnyH_take (i := 2) (v := ?_) rfl (by kernel_rfl) (by kernel_rfl) (by kernel_rfl) (fun _ _ _ h => h) (Or.inl ⟨rfl, ?_⟩) (by assumption) ?_; rotate_left 1; · (intro w hSw; (try dsimp only at hSw); go_simp; (try with_reducible rfl)))); (try simp only [Act.put, List.getElem_toArray, List.getElem_cons_zero, List.getElem_cons_succ, List.setIfInBounds_toArray, List.set_cons_zero, List.set_cons_succ])
  (first | (refine wpAnyH_take (i := 4) (v := undef) rfl (by kernel_rfl) (by kernel_rfl) (by kernel_rfl) (fun _ _ _ h => h) (Or.inr ⟨rfl, rfl⟩) (by assumption) ?_) | (refine wpAnyH_take (i := 4) (v := ?_) rfl (by kernel_rfl) (by kernel_rfl) (by kernel_rfl) (fun _ _ _ h => h) (Or.inl ⟨rfl, ?_⟩) (by assumption) ?_; rotate_left 1; · (intro w hSw; (try dsimp only at hSw); go_simp; (try with_reducible rfl)))); (try simp only [Act.put, List.getElem_toArray, List.getElem_cons_zero, List.getElem_cons_succ, List.setIfInBounds_toArray, List.set_cons_zero, List.set_cons_succ])
  (first | (refine wpAnyH_take (i := 5) (v := undef) rfl (by kernel_rfl) (by kernel_rfl) (by kernel_rfl) (fun _ _ _ h => h) (Or.inr ⟨rfl, rfl⟩) (by assumption) ?_) | (refine wpAnyH_take (i := 5) (v := ?_) rfl (by kernel_rfl) (by kernel_rfl) (by kernel_rfl) (fun _ _ _ h => h) (Or.inl ⟨rfl, ?_⟩) (by assumption) ?_; rotate_left 1; · (intro w hSw; (try dsimp only at hSw); go_simp; (try with_reducible rfl)))); (try simp only [Act.put, List.getElem_toArray, List.getElem_cons_zero, List.getElem_cons_succ, List.setIfInBounds_toArray, List.set_cons_zero, List.set_cons_succ])
  refine wpAnyH_ready (rs := [3]) (by kernel_rfl) (by simp) ?_; refine AllReadyH.cons rfl (fun K hK => ?_) AllReadyH.nil
  go_simp
  refine hK.out _ _ (CC _ (h.tw.drew.alloc (.cells #[] 5))) (fun hHeld => ?_); clear hK K; (try simp only [Act.put, List.getElem_toArray, List.getElem_cons_zero, List.getElem_cons_succ, List.setIfInBounds_toArray, List.set_cons_zero, List.set_cons_succ])
  refine wpAnyH_ready (rs := [6]) (by kernel_rfl) (by simp) ?_; refine AllReadyH.cons rfl (fun K hK => ?_) AllReadyH.nil
  refine st_appF rfl _ _ _ rfl elB rfl rfl h00 ro6 (vbs_one a.b) (by omega) (by show _ ≤ (wr.heap.push _).size; rw [Array.size_push]; omega) ?_
  intro A7 c7 w7 ho7 hc7
  have t7 : Turn (World.drew wr) w7 none := by
    rcases hc7 with ⟨_, _, q⟩ | ⟨_, q⟩
    · exact ((Turn.refl (World.drew wr) none).alloc _).new q (fun g hg => by simp [blk] at hg; subst hg; exact Nat.le_refl _)
    · exact ((Turn.refl (World.drew wr) none).alloc _).trans q
  clear hc7
  simp only [Nat.zero_add, List.nil_append] at ho7 ⊢
  have h7 := h.turn0 t7.undrew
  refine hK.out _ _ (CC _ h7.tw) (fun hHeld => ?_); clear hK K; (try simp only [Act.put, List.getElem_toArray, List.getElem_cons_zero, List.getElem_cons_succ, List.setIfInBounds_toArray, List.set_cons_zero, List.set_cons_succ])
  refine wpAnyH_ready (rs := [7]) (by kernel_rfl) (by simp) ?_
  refine AllReadyH.cons rfl (fun K hK => ?_) AllReadyH.nil
  go_simp
  refine (crash_any h7.p a.m hok.m0 hok.m1 A7 a.n c7 w7.heap.size a.b ho7.rd (Nat.le_refl _) few ho7.cap.1 ho7.cap.2 (fun k e _ hk => by have q4 := (ho7.block k e).1; have q5 := h.p.lt hk; omega)).mono ?_
  rintro e w8 ⟨rfl, s8⟩
  obtain ⟨R8, h8, hk8⟩ := h7.stp2 s8
  refine hK.out _ _ (CC _ h8.tw) (fun hHeld => ?_); clear hK K; (try simp only [Act.put, List.getElem_toArray, List.getElem_cons_zero, List.getElem_cons_succ, List.setIfInBounds_toArray, List.set_cons_zero, List.set_cons_succ])
  refine wpAnyH_done (by kernel_rfl) ?_ _
  refine NoPanic.normal ?_
  clear hHeld
  exact HQ w7 w8 R8 t7.undrew s8.1 h8
end Go.Proofs.Ytogajpiefegdeaa
