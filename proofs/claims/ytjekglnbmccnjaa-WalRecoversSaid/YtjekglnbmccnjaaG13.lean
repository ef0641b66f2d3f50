import Derived.Test.YtjekglnbmccnjaaG12
import Derived.Test.YtjekglnbmccnjaaG11
set_option linter.unusedSimpArgs false
set_option linter.unusedVariables false
set_option linter.unusedSectionVars false
/-
  Layer 15: the document's Open, its loop.
-/
namespace Go.Proofs.Ytjekglnbmccnjaa
set_option linter.unusedSimpArgs false
set_option linter.unusedVariables false
open Go.RowKit

/-- How far a log's bytes are taken. -/
def WgAt (N : Nat) (lg : List UInt8) (recs : List (List UInt8)) (nx j : Nat) : Prop :=
  j ≤ lg.length ∧ nx = N + recs.length ∧ recs.length * 5 ≤ j ∧ ∃ f, lg.length ≤ f + j ∧ wGo lg.length N [] N lg = ((wGo f N recs nx (lg.drop j)).1, (wGo f N recs nx (lg.drop j)).2.1, j + (wGo f N recs nx (lg.drop j)).2.2)
def WgEnd (N : Nat) (lg : List UInt8) (recs : List (List UInt8)) (nx j : Nat) : Prop := j ≤ lg.length ∧ nx = N + recs.length ∧ wGo lg.length N [] N lg = (recs, nx, j)
section
variable {N nx j k : Nat} {lg x : List UInt8} {recs : List (List UInt8)}
theorem WgAt.zero (N : Nat) (lg : List UInt8) : WgAt N lg [] N 0 := ⟨Nat.zero_le _, by simp, by simp, lg.length, by omega, by simp⟩
theorem WgAt.whole (h : WgAt N lg recs nx j) (hj : ¬ j < lg.length) : WgEnd N lg recs nx j := by
  obtain ⟨h1, h2, _, f, h3, h4⟩ := h
  refine ⟨h1, h2, ?_⟩
  rw [h4, List.drop_of_length_le (by omega), wGo_stop (.inl rfl)]
  rfl
theorem WgAt.one (h : WgAt N lg recs nx j) (hj : j < lg.length) : ∃ f, lg.length ≤ f + 1 + j ∧ wGo lg.length N [] N lg = ((wGo (f + 1) N recs nx (lg.drop j)).1, (wGo (f + 1) N recs nx (lg.drop j)).2.1, j + (wGo (f + 1) N recs nx (lg.drop j)).2.2) ∧ lg.drop j ≠ [] := by
  obtain ⟨h1, h2, _, f, h3, h4⟩ := h
  cases f with
  | zero => omega
  | succ f => exact ⟨f, h3, h4, fun e => by have := congrArg List.length e; rw [List.length_drop, List.length_nil] at this; omega⟩
theorem WgAt.stop (h : WgAt N lg recs nx j) (hj : j < lg.length) (hp : ((fTake (lg.drop j)).2.2 ≠ 0 ∨ (pTake (fTake (lg.drop j)).1).2.2 ≠ 0) ∨ (¬ ((pTake (fTake (lg.drop j)).1).1 < N ∧ recs = []) ∧ (pTake (fTake (lg.drop j)).1).1 ≠ nx)) : WgEnd N lg recs nx j := by
  obtain ⟨f, h3, h4, hne⟩ := h.one hj
  refine ⟨h.1, h.2.1, ?_⟩
  have e : wGo (f + 1) N recs nx (lg.drop j) = (recs, nx, 0) := by
    rw [wGo, if_neg hne]
    by_cases h1 : (fTake (lg.drop j)).2.2 ≠ 0 ∨ (pTake (fTake (lg.drop j)).1).2.2 ≠ 0
    · rw [if_pos h1]
    · obtain ⟨h5, h6⟩ := hp.resolve_left h1
      rw [if_neg h1, if_neg h5, if_neg h6]
  rw [h4, e]
  rfl
theorem WgAt.old (h : WgAt N lg recs nx j) (hj : j < lg.length) (ht : fTake (lg.drop j) = (x, k, 0)) (hp : (pTake x).2.2 = 0) (ho : (pTake x).1 < N ∧ recs = []) : WgAt N lg recs nx (j + k) := by
  obtain ⟨f, h3, h4, hne⟩ := h.one hj
  obtain ⟨h5, hk, _⟩ := fTake_ok ht
  rw [List.length_drop] at hk
  have hr := h.2.2.1
  refine ⟨by omega, h.2.1, by omega, f, by omega, ?_⟩
  rw [h4, wGo, if_neg hne, ht]
  dsimp only
  rw [if_neg (show ¬ ((0 : Nat) ≠ 0 ∨ (pTake x).2.2 ≠ 0) from fun c => c.elim (fun c => c rfl) fun c => c hp), if_pos ho, List.drop_drop]
  dsimp only
  rw [Nat.add_assoc]
theorem WgAt.next (h : WgAt N lg recs nx j) (hj : j < lg.length) (ht : fTake (lg.drop j) = (x, k, 0)) (hp : (pTake x).2.2 = 0) (ho : ¬ ((pTake x).1 < N ∧ recs = [])) (hn : (pTake x).1 = nx) : WgAt N lg (recs ++ [x.drop (pTake x).2.1]) (nx + 1) (j + k) := by
  obtain ⟨f, h3, h4, hne⟩ := h.one hj
  obtain ⟨h5, hk, _⟩ := fTake_ok ht
  rw [List.length_drop] at hk
  have hr := h.2.2.1
  have h2 := h.2.1
  refine ⟨by omega, by rw [List.length_append, List.length_singleton]; omega, by rw [List.length_append, List.length_singleton]; omega, f, by omega, ?_⟩
  rw [h4, wGo, if_neg hne, ht]
  dsimp only
  rw [if_neg (show ¬ ((0 : Nat) ≠ 0 ∨ (pTake x).2.2 ≠ 0) from fun c => c.elim (fun c => c rfl) fun c => c hp), if_neg ho, if_pos hn, List.drop_drop]
  dsimp only
  rw [Nat.add_assoc]
end
theorem openD_of {D : Dsk} (h : D.dErr 1 = 0) {b : Bool} {s : List UInt8} {N : Nat} (hs : wSnapOf (D.rd 1) = some (b, s, N)) {recs : List (List UInt8)} {nx en : Nat} (hg : WgEnd N (D.rd 0) recs nx en) :
    D.openD = if en < (D.rd 0).length then (if (D.rpS 0 ((D.rd 0).take en)).1 ≠ 0 then ((D.rpS 0 ((D.rd 0).take en)).1, none, (D.rpS 0 ((D.rd 0).take en)).2) else (0, some ⟨b, s, recs, nx⟩, (D.rpS 0 ((D.rd 0).take en)).2)) else (0, some ⟨b, s, recs, nx⟩, D) := by
  obtain ⟨_, h2, h3⟩ := hg
  rw [openD_go h hs, h3, h2]

def gov (v : Value) : Nat := match v with
  | .bool true => 1
  | _ => 0
/-- In the midst of the loop. -/
def RoLp (wd : World) (gV : Nat) (b : Bool) (S : Option Addr) (m3 c3 N : Nat) (lg : List UInt8) (at_ go : Value) (wr : World) : Prop :=
  ∃ (j : Nat) (A2 : Option Addr) (n2 c2 : Nat) (vs : List Value) (recs : List (List UInt8)) (nx : Nat), at_ = .int .i64 (j : Int) ∧ Blk wr gV 46 ([.bool b, .slice S m3 c3, .slice A2 n2 c2, .int .u64 (nx : Int)] : List Value).toArray ∧ Ow wr wd.heap.size 34 A2 n2 c2 vs recs ∧ Fr wd.heap.size vs ∧ Turn wd wr (some gV) ∧ ((go = .bool true ∧ WgAt N lg recs nx j) ∨ (go = .bool false ∧ WgEnd N lg recs nx j))

set_option maxRecDepth 100000 in
set_option maxHeartbeats 6400000 in
theorem ropen_mid {w w4 : World} {r gR gV : Nat} {T : Nat → Prop} {D : Dsk} {b : Bool} {s : List UInt8} {N : Nat} {S : Option Addr} {m3 c3 bs : Nat} (h : Rk w r T D) (t4 : Turn w w4 none) (r1 : w.heap.size ≤ gR) (hRb : Blk w4 gR 46 ([.bool false, .slice none 0 0, .slice none 0 0, .int .u64 0] : List Value).toArray)
    (v1 : w.heap.size ≤ gV) (hVb : Blk w4 gV 46 ([.bool b, .slice S m3 c3, .slice none 0 0, .int .u64 (N : Int)] : List Value).toArray) (hVR : gV ≠ gR) (hs : Own w4 bs 5 1 S m3 c3 (vbs s)) (hbs : w.heap.size ≤ bs) (hsq : ∀ i, blk S = some i → i ≠ gV ∧ i ≠ gR) (hN : N ≤ 4611686018427387904)
    (hd : D.dErr 1 = 0) (hsn : wSnapOf (D.rd 1) = some (b, s, N)) (hlg : (D.rd 0).length ≤ 1099511627776) {e_1 e_6 e_7 e_8 e_9 e_10 e_11 e_12 e_13 e_14 e_15 e_16 e_17 e_18 e_19 e_20 e_21 e_22 e_23 e_24 e_25 e_26 e_27 e_28 e_29 e_30 e_31 e_32 e_33 e_34 e_35 e_36 e_37 e_38 e_39 e_40 e_41 e_42 e_43 e_44 e_45 e_46 e_47 e_48 e_49 e_50 e_51 e_52 e_53 e_54 e_55 e_56 e_57 e_58 e_59 e_60 e_61 e_62 e_63 e_64 e_65 e_66 e_67 e_68 e_69 e_70 e_71 e_72 e_73 e_74 e_75 e_76 e_77 e_78 e_79 e_80 e_81 e_82 e_83 e_84 e_85 e_86 e_87 e_88 e_89 e_90 e_91 e_92 e_93 e_94 e_95 e_96 e_97 e_98 e_99 e_100 e_101 e_102 e_103 e_104 e_105 e_106 e_107 e_108 e_109 e_110 e_111 e_112 e_113 e_114 e_115 e_116 e_117 e_118 e_119 e_120 e_121 e_122 e_123 e_124 e_125 e_126 e_127 e_128 e_129 e_130 e_131 e_132 e_133 e_134 e_135 e_136 e_137 e_138 e_139 e_140 e_141 e_142 e_143 e_144 e_145 e_146 e_147 e_148 e_149 e_150 e_151 e_152 e_153 e_154 e_155 e_156 e_157 e_158 e_159 e_160 e_161 e_162 e_163 e_164 : Value} {K : Act → World → Prop} (hK : ∀ a V, Code.wp Try.prog (tailO 6 roB) (bodyPost Try.prog Try.f23 (RoPost T r D w)) a V → K a V) :
    Code.wp Try.prog (headO 5 roB) (Exit.then K (bodyPost Try.prog Try.f23 (RoPost T r D w))) ⟨List.toArray (.pointer (some ⟨r, 0, none⟩) :: e_1 :: .pointer none :: .pointer (some ⟨gR, 0, none⟩) :: .int .i64 0 :: .pointer (some ⟨gV, 0, none⟩) :: e_6 :: e_7 :: e_8 :: e_9 :: e_10 :: e_11 :: e_12 :: e_13 :: e_14 :: e_15 :: e_16 :: e_17 :: e_18 :: e_19 :: e_20 :: e_21 :: e_22 :: e_23 :: e_24 :: e_25 :: e_26 :: e_27 :: e_28 :: e_29 :: e_30 :: e_31 :: e_32 :: e_33 :: e_34 :: e_35 :: e_36 :: e_37 :: e_38 :: e_39 :: e_40 :: e_41 :: e_42 :: e_43 :: e_44 :: e_45 :: e_46 :: e_47 :: e_48 :: e_49 :: e_50 :: e_51 :: e_52 :: e_53 :: e_54 :: e_55 :: e_56 :: e_57 :: e_58 :: e_59 :: e_60 :: e_61 :: e_62 :: e_63 :: e_64 :: e_65 :: e_66 :: e_67 :: e_68 :: e_69 :: e_70 :: e_71 :: e_72 :: e_73 :: e_74 :: e_75 :: e_76 :: e_77 :: e_78 :: e_79 :: e_80 :: e_81 :: e_82 :: e_83 :: e_84 :: e_85 :: e_86 :: e_87 :: e_88 :: e_89 :: e_90 :: e_91 :: e_92 :: e_93 :: e_94 :: e_95 :: e_96 :: e_97 :: e_98 :: e_99 :: e_100 :: e_101 :: e_102 :: e_103 :: e_104 :: e_105 :: e_106 :: e_107 :: e_108 :: e_109 :: e_110 :: e_111 :: e_112 :: e_113 :: e_114 :: e_115 :: e_116 :: e_117 :: e_118 :: e_119 :: e_120 :: e_121 :: e_122 :: e_123 :: e_124 :: e_125 :: e_126 :: e_127 :: e_128 :: e_129 :: e_130 :: e_131 :: e_132 :: e_133 :: e_134 :: e_135 :: e_136 :: e_137 :: e_138 :: e_139 :: e_140 :: e_141 :: e_142 :: e_143 :: e_144 :: e_145 :: e_146 :: e_147 :: e_148 :: e_149 :: e_150 :: e_151 :: e_152 :: e_153 :: e_154 :: e_155 :: e_156 :: e_157 :: e_158 :: e_159 :: e_160 :: e_161 :: e_162 :: e_163 :: e_164 :: []), []⟩ w4 := by
  have hrd := rread_rk (h.turn0 t4) 0
  rw [(dErr_01 D).1, hd] at hrd
  have hOF := fun recs nx en => @openD_of D hd b s N hsn recs nx en
  obtain ⟨lg, hlgE⟩ : ∃ lg, D.rd 0 = lg := ⟨_, rfl⟩
  rw [hlgE] at hrd hlg hOF
  have HOF := hid hOF
  clear hOF hlgE hsn hd
  have gV4 := hVb.lt
  have gR4 := hRb.lt
  conv => arg 2; whnf
  conv at hK => enter [a, V, 1, 2]; whnf
  go_upto_region 14 with (first
    | (go_at_call 11; refine hrd.mono ?_; rintro e w5 ⟨A1, c1, rfl, ho1, t5⟩; have hV5 := hVb.turn0 t5))
  have C3 := hV5.ats (j := 3) (v := .int .u64 (N : Int)) rfl
  have s5 := t5.size
  have cap1 := ho1.cap
  refine wp_region_noPanic ?_
  refine wp_region_held_drew (S := (fun W => W.cell? ⟨gV, 3, none⟩ = some (.int .u64 (N : Int)))) (by kernel_rfl) (C3) (fun hHeld => ?_)
  (first | (refine wpAnyH_take (i := 0) (v := undef) rfl (by kernel_rfl) (by kernel_rfl) (by kernel_rfl) (fun _ _ _ h => h) (Or.inr ⟨rfl, rfl⟩) (by assumption) ?_) | (refine wpAnyH_take (i := 0) (v := ?_) rfl (by kernel_rfl) (by kernel_rfl) (by kernel_rfl) (fun _ _ _ h => h) (Or.inl ⟨rfl, ?_⟩) (by assumption) ?_; rotate_left 1; · (intro w hSw; (try dsimp only at hSw); go_simp; (try with_reducible rfl)))); (try simp only [Act.put, List.getElem_toArray, List.getElem_cons_zero, List.getElem_cons_succ, List.setIfInBounds_toArray, List.set_cons_zero, List.set_cons_succ])
  (first | (refine wpAnyH_take (i := 1) (v := undef) rfl (by kernel_rfl) (by kernel_rfl) (by kernel_rfl) (fun _ _ _ h => h) (Or.inr ⟨rfl, rfl⟩) (by assumption) ?_) | (refine wpAnyH_take (i := 1) (v := ?_) rfl (by kernel_rfl) (by kernel_rfl) (by kernel_rfl) (fun _ _ _ h => h) (Or.inl ⟨rfl, ?_⟩) (by assumption) ?_; rotate_left 1; · (intro w hSw; (try dsimp only at hSw); go_simp; (try with_reducible rfl)))); (try simp only [Act.put, List.getElem_toArray, List.getElem_cons_zero, List.getElem_cons_succ, List.setIfInBounds_toArray, List.set_cons_zero, List.set_cons_succ])
  (first | (refine wpAnyH_take (i := 2) (v := undef) rfl (by kernel_rfl) (by kernel_rfl) (by kernel_rfl) (fun _ _ _ h => h) (Or.inr ⟨rfl, rfl⟩) (by assumption) ?_) | (refine wpAnyH_take (i := 2) (v := ?_) rfl (by kernel_rfl) (by kernel_rfl) (by kernel_rfl) (fun _ _ _ h => h) (Or.inl ⟨rfl, ?_⟩) (by assumption) ?_; rotate_left 1; · (intro w hSw; (try dsimp only at hSw); go_simp; (try with_reducible rfl)))); (try simp only [Act.put, List.getElem_toArray, List.getElem_cons_zero, List.getElem_cons_succ, List.setIfInBounds_toArray, List.set_cons_zero, List.set_cons_succ])
  (first | (refine wpAnyH_take (i := 3) (v := undef) rfl (by kernel_rfl) (by kernel_rfl) (by kernel_rfl) (fun _ _ _ h => h) (Or.inr ⟨rfl, rfl⟩) (by assumption) ?_) | (refine wpAnyH_take (i := 3) (v := ?_) rfl (by kernel_rfl) (by kernel_rfl) (by kernel_rfl) (fun _ _ _ h => h) (Or.inl ⟨rfl, ?_⟩) (by assumption) ?_; rotate_left 1; · (intro w hSw; (try dsimp only at hSw); go_simp; (try with_reducible rfl)))); (try simp only [Act.put, List.getElem_toArray, List.getElem_cons_zero, List.getElem_cons_succ, List.setIfInBounds_toArray, List.set_cons_zero, List.set_cons_succ])
  (first | (refine wpAnyH_take (i := 4) (v := undef) rfl (by kernel_rfl) (by kernel_rfl) (by kernel_rfl) (fun _ _ _ h => h) (Or.inr ⟨rfl, rfl⟩) (by assumption) ?_) | (refine wpAnyH_take (i := 4) (v := ?_) rfl (by kernel_rfl) (by kernel_rfl) (by kernel_rfl) (fun _ _ _ h => h) (Or.inl ⟨rfl, ?_⟩) (by assumption) ?_; rotate_left 1; · (intro w hSw; (try dsimp only at hSw); go_simp; (try with_reducible rfl)))); (try simp only [Act.put, List.getElem_toArray, List.getElem_cons_zero, List.getElem_cons_succ, List.setIfInBounds_toArray, List.set_cons_zero, List.set_cons_succ])
  refine wpAnyH_done (by kernel_rfl) ?_ _
  refine NoPanic.normal ?_
  clear hHeld
  clear C3
  have hV5 := hV5.drew
  have ho1 := ho1.drew
  have t5 : Turn w4 w5.drew none := t5.drew
  generalize w5.drew = wd at *
  have sd := t5.size
  go_wp2
  go_loopw [16, 18] (fun at_ go wr => RoLp wd gV b S m3 c3 N lg at_ go wr) (fun at_ go _ => 2 * (lg.length - intOf at_).toNat + gov go)
  case atStart => exact ⟨0, none, 0, 0, [], [], N, rfl, hV5, Ow.made (Own.nil _ _ _ _), Fr.nil _, Turn.refl _ _, .inl ⟨rfl, WgAt.zero _ _⟩⟩
  case round =>
    obtain ⟨j, A2, n2, c2, vs, recs, nx, rfl, hV, how, hfr, htr, hgo⟩ := hrel
    have fin : WgEnd N lg recs nx j → True := fun _ => trivial
    rcases hgo with ⟨rfl, hat⟩ | ⟨rfl, hend⟩
    · by_cases hj : j < lg.length
      · obtain ⟨x, k, e0, hp⟩ : ∃ x k e0, fTake (lg.drop j) = (x, k, e0) := ⟨_, _, _, rfl⟩
        obtain ⟨M, kk, e2, hq⟩ : ∃ M kk e2, pTake x = (M, kk, e2) := ⟨_, _, _, rfl⟩
        have gl : gV < wd.heap.size ∧ gR < wd.heap.size := by omega
        have hrn : n2 = recs.length := by rw [← how.2.1]; exact how.1.len.symm
        have hnx := hat.2.1
        have hrl := hat.2.2.1
        have ho : Own wr w4.heap.size 5 1 A1 lg.length c1 (vbs lg) := ho1.turn htr (.inr fun e => by have := (ho1.block _ e).1; omega)
        obtain ⟨gA, rfl, _, _⟩ := ho.head (by omega)
        have hne : ¬ c1 = j := by omega
        have hjc : j ≤ c1 := by omega
        have hcm : c1 ≤ 9223372036854775807 := by have := cap1.2; unfold maxLen at this; omega
        have htail := ho.rd.tailB (c := c1) (k := j) (by omega) cap1.1 hne
        rw [Nat.zero_add] at htail
        have cV2 := hV.ats (j := 2) (v := .slice A2 n2 c2) rfl
        have cV3 := hV.ats (j := 3) (v := .int .u64 (nx : Int)) rfl
        have hpost : ∀ {e : Ending} {w' : World}, RtPost (lg.drop j) wr e w' → ∃ X m c', e = .returned (.tuple #[.slice X m c', .int .i64 (k : Int), .int .i64 (e0 : Int)]) ∧ Own w' wr.heap.size 5 1 X m c' (vbs x) ∧ Turn wr w' none := by
          rintro e w' ⟨X, m, c', h1, h2, h3⟩
          rw [hp] at h1 h2
          exact ⟨X, m, c', h1, h2, h3⟩
        have hxl : x.length ≤ 1099511627776 := by
          by_cases he : e0 = 0
          · subst he
            have := (fTake_ok hp).2.2.2
            omega
          · have := fTake_none hp he
            rw [this]; simp
        have cells : ∀ W, Turn wr W none → W.cell? ⟨gV, 2, none⟩ = some (.slice A2 n2 c2) ∧ W.cell? ⟨gV, 3, none⟩ = some (.int .u64 (nx : Int)) := fun W t => ⟨(hV.turn0 t).ats (j := 2) rfl, (hV.turn0 t).ats (j := 3) rfl⟩
        have HQ := hid hq
        have hj2 : (j : Int) < (lg.length : Int) := by omega
        have stop : (e0 ≠ 0 ∨ e2 ≠ 0) ∨ (¬ (M < N ∧ recs = []) ∧ M ≠ nx) → WgEnd N lg recs nx j := fun hh => hat.stop hj (by rw [hp, hq]; exact hh)
        by_cases hbad : e0 ≠ 0 ∨ e2 ≠ 0
        · have ST := hid (stop (.inl hbad))
          have hq3 : ¬ ((e0 : Int) = 0) ∨ ((e0 : Int) = 0 ∧ ¬ ((e2 : Int) = 0)) := by omega
          clear hat stop hp hq hbad hnx hrl hrn
          rcases hq3 with q1 | ⟨q1, q2⟩
          all_goals
            go_wp2_with (first
              | (go_at_call 41; refine (rftake_any _ _ _ (lg.drop j) wr.heap.size _ htail (Nat.le_refl _) (by omega) (by unfold maxLen; omega) (by omega)).mono ?_; intro e w2 hC; obtain ⟨X, m, c', rfl, hX, t2⟩ := hpost hC; have hxm := hX.len; rw [vbs_len] at hxm)
              | (go_at_call 42; refine (rtake_any _ _ _ x w2.heap.size _ hX.rd (by omega)).mono ?_; rintro e w' ⟨rfl, rfl⟩; rw [HQ.out]))
            refine ⟨⟨j, A2, n2, c2, vs, recs, nx, rfl, hV.turn0 t2, how.turn0 t2, hfr, htr.trans (t2.any _), .inr ⟨rfl, ST.out⟩⟩, ?_⟩
            simp [intOf, gov]
        · obtain rfl : e0 = 0 := Decidable.byContradiction fun c => hbad (.inl c)
          obtain rfl : e2 = 0 := Decidable.byContradiction fun c => hbad (.inr c)
          obtain ⟨h5, hkn, _⟩ := fTake_ok hp
          rw [List.length_drop] at hkn
          obtain ⟨q1, q2, q3, q4⟩ := pTake_ok hq
          have hM : M < 4611686018427387904 := by rcases pSize_cases M with q | q | q | q | q <;> omega
          by_cases hold : M < N ∧ n2 = 0
          · obtain ⟨ho1', ho2'⟩ := hold
            have hnxt := hid (hat.old hj hp (by rw [hq]) ⟨by rw [hq]; exact ho1', List.eq_nil_of_length_eq_zero (by omega)⟩)
            have ho1' : (M : Int) < (N : Int) := by omega
            clear hat stop hp hq hbad hrn q1 q4 hnx
            subst ho2'
            go_wp2_with (first
              | (go_at_call 41; refine (rftake_any _ _ _ (lg.drop j) wr.heap.size _ htail (Nat.le_refl _) (by omega) (by unfold maxLen; omega) (by omega)).mono ?_; intro e w2 hC; obtain ⟨X, m, c', rfl, hX, t2⟩ := hpost hC; have hxm := hX.len; rw [vbs_len] at hxm; have hV2 := hV.turn0 t2; obtain ⟨cW2, cW3⟩ := cells w2 t2)
              | (go_at_call 42; refine (rtake_any _ _ _ x w2.heap.size _ hX.rd (by omega)).mono ?_; rintro e w' ⟨rfl, rfl⟩; rw [HQ.out]))
            refine ⟨⟨j + k, A2, 0, c2, vs, recs, nx, by go_num, hV2, how.turn0 t2, hfr, htr.trans (t2.any _), .inl ⟨rfl, hnxt.out⟩⟩, ?_⟩
            simp [intOf, gov]; omega
          · by_cases hnn : M = nx
            · have hnxt := hid (hat.next hj hp (by rw [hq]) (by rw [hq]; intro c; exact hold ⟨c.1, by rw [hrn, c.2]; rfl⟩) (by rw [hq]; exact hnn))
              have hq3 : ((M : Int) < (N : Int) ∧ ((n2 : Int) == 0) = false) ∨ (N : Int) ≤ (M : Int) := by
                by_cases c : M < N
                · exact .inl ⟨by omega, by rw [beq_eq_false_iff_ne]; omega⟩
                · exact .inr (by omega)
              rw [hq] at hnxt
              have hnb2 : n2 ≤ 1099511627776 := by omega
              clear hat stop hp hq hbad hrn q1 hold
              subst hnn
              have hkk : 0 < kk ∧ kk ≤ x.length := ⟨q2, q3⟩
              have hM2 : ((M : Int) == (M : Int)) = true := by simp
              have hnx2 : M < 9223372036854775807 := by omega
              clear hnx
              rcases hq3 with ⟨z1, z2⟩ | z1
              all_goals
                go_upto_region 23 with (first
                  | (go_at_call 41; refine (rftake_any _ _ _ (lg.drop j) wr.heap.size _ htail (Nat.le_refl _) (by omega) (by unfold maxLen; omega) (by omega)).mono ?_; intro e w2 hC; obtain ⟨X, m, c', rfl, hX, t2⟩ := hpost hC; have hxm := hX.len; rw [vbs_len] at hxm; have hV2 := hV.turn0 t2; obtain ⟨cW2, cW3⟩ := cells w2 t2)
                  | (go_at_call 42; refine (rtake_any _ _ _ x w2.heap.size _ hX.rd (by omega)).mono ?_; rintro e w' ⟨rfl, rfl⟩; rw [HQ.out]))
              all_goals
                obtain ⟨gX, rfl, _, _⟩ := hX.head (by omega)
                refine of_codeO (C' := roR) (by kernel_rfl) (ro_next (wd := wd) hV2 hX (how.turn0 t2) hfr gl.1 (htr.trans (t2.any _)) rfl hkk.1 (by omega) (by omega) (by omega) (by omega) (by omega) hnx2 (fun V A3 c4 vs' h1 h2 h3 h4 => ?_))
                go_wp2
                refine ⟨⟨j + k, A3, n2 + 1, c4, vs', _, M + 1, by go_num, h1, h2, h3, h4, .inl ⟨rfl, hnxt.out⟩⟩, ?_⟩
                simp [intOf, gov]; omega
            · have ST := hid (stop (.inr ⟨fun c => hold ⟨c.1, by rw [hrn, c.2]; rfl⟩, hnn⟩))
              have hnn2 : ((M : Int) == (nx : Int)) = false := by rw [beq_eq_false_iff_ne]; omega
              have hq3 : ((M : Int) < (N : Int) ∧ ((n2 : Int) == 0) = false) ∨ (N : Int) ≤ (M : Int) := by
                by_cases c : M < N
                · exact .inl ⟨by omega, by rw [beq_eq_false_iff_ne]; omega⟩
                · exact .inr (by omega)
              clear hat stop hp hq hbad hrn q1 q4 hnx hold hnn
              rcases hq3 with ⟨z1, z2⟩ | z1
              all_goals
                go_wp2_with (first
              | (go_at_call 41; refine (rftake_any _ _ _ (lg.drop j) wr.heap.size _ htail (Nat.le_refl _) (by omega) (by unfold maxLen; omega) (by omega)).mono ?_; intro e w2 hC; obtain ⟨X, m, c', rfl, hX, t2⟩ := hpost hC; have hxm := hX.len; rw [vbs_len] at hxm; have hV2 := hV.turn0 t2; obtain ⟨cW2, cW3⟩ := cells w2 t2)
              | (go_at_call 42; refine (rtake_any _ _ _ x w2.heap.size _ hX.rd (by omega)).mono ?_; rintro e w' ⟨rfl, rfl⟩; rw [HQ.out]))
                refine ⟨⟨j, A2, n2, c2, vs, recs, nx, rfl, hV2, how.turn0 t2, hfr, htr.trans (t2.any _), .inr ⟨rfl, ST.out⟩⟩, ?_⟩
                simp [intOf, gov]
      · have hend := hid (hat.whole hj)
        have hj2 : (lg.length : Int) ≤ (j : Int) := by omega
        clear hat
        go_upto_region 25 with (fail)
        clear hj hj2
        obtain ⟨hjl, hnx, hwg⟩ := hend.out
        have hO := HOF.out recs nx j hend.out
        obtain ⟨k, hkk⟩ : ∃ k : Kp, k = ⟨b, s, recs, nx⟩ := ⟨_, rfl⟩
        obtain ⟨x, hxx⟩ : ∃ x : Sl, x = ⟨A2, n2, c2⟩ := ⟨_, rfl⟩
        obtain ⟨y, hyy⟩ : ∃ y : Sl, y = ⟨S, m3, c3⟩ := ⟨_, rfl⟩
        have hVb : Blk wr gV 46 (kpc k y x).toArray := by rw [hkk, hxx, hyy]; exact hV
        have gl : gV < wd.heap.size ∧ gR < wd.heap.size := by omega
        have hRb : Blk wr gR 46 ([.bool false, .slice none 0 0, .slice none 0 0, .int .u64 0] : List Value).toArray := (hRb.turn0 t5).turn htr (by simp; omega)
        have hso : Own wr bs 5 1 S m3 c3 (vbs s) := (hs.turn0 t5).turn htr (.inr fun e => (hsq gV e).1 rfl)
        have hq : Kin wr (fun i => w.heap.size ≤ i ∧ i < wr.heap.size ∧ i ≠ gR) k y x vs := by
          rw [hkk, hyy]
          exact Kin.made hso (fun i e => ⟨by have := (hs.block i e).1; omega, (hso.block i e).2, (hsq i e).2⟩) how hfr hxx fun i h1 h2 => ⟨by have := t4.size; omega, h2, by omega⟩
        have hQ : ∀ i, (w.heap.size ≤ i ∧ i < wr.heap.size ∧ i ≠ gR) → w.heap.size ≤ i ∧ i < wr.heap.size ∧ i ≠ gR := fun i h => h
        have ho : Own wr w4.heap.size 5 1 A1 lg.length c1 (vbs lg) := ho1.turn htr (.inr fun e => by have := (ho1.block _ e).1; omega)
        have hb0 : w.heap.size ≤ w4.heap.size := t4.size
        have t6 : Turn w wr none := (t4.trans t5).new htr fun g e => by injection e with e; omega
        rw [show nx = k.next by rw [hkk]] at hO
        have hO2 : D.openD = if j < lg.length then (if (D.rpS 0 (lg.take j)).1 ≠ 0 then ((D.rpS 0 (lg.take j)).1, none, (D.rpS 0 (lg.take j)).2) else (0, some k, (D.rpS 0 (lg.take j)).2)) else (0, some k, D) := by
          have e : (⟨b, s, recs, k.next⟩ : Kp) = k := by rw [hkk]
          rw [e] at hO
          exact hO
        have hNk : k.next ≤ 9223372036854775807 := by
          rw [hkk]
          show nx ≤ _
          have := wGo_few N lg.length [] N lg
          rw [hwg] at this
          have : recs.length * 5 ≤ 0 + lg.length := this
          omega
        clear hO hkk hxx hyy hwg hnx hend hV how hfr hso
        have hO := hO2
        have hN := hNk
        have hen := hjl
        clear hO2 hNk
        have r2 := hRb.lt
        have hlt := fun i hi => h.lt (k := i) hi
        have cap1 := ho.cap
        by_cases hcut : j < lg.length
        · rw [if_pos hcut] at hO
          unfold Dsk.rpS at hO
          obtain ⟨X, hX⟩ : ∃ X, lg.take j = X := ⟨_, rfl⟩
          have hrX : Rd wr wr.heap.size 1 A1 j (vbs X) := by rw [← hX]; exact ho.rd.takeB hen
          rw [hX] at hO
          have hw : Calls Try.prog 43 #[.pointer (some ⟨r, 0, none⟩), .int .i64 0, .slice A1 j c1] wr fun e w' => e = .returned (.int .i64 (D.rErr 0 X)) ∧ Stq wr w' T r (D.rp 0 X) :=
            rreplace_any (h.turn0 t6) 0 A1 j c1 wr.heap.size X hrX (Nat.le_refl _) (by omega) fun k e _ hk => by
              have := (ho.block k e).1
              have := hlt k hk
              omega
          have hs : ∀ w1 R1, Rk w1 r R1 (D.rp 0 X) → Calls Try.prog 44 #[.pointer (some ⟨r, 0, none⟩), .int .i64 0] w1 fun e w' => e = .returned (.int .i64 ((D.rp 0 X).cErr 0)) ∧ Stq w1 w' R1 r ((D.rp 0 X).sy 0) := fun w1 R1 hp => rsync_any hp 0
          generalize D.rp 0 X = D1 at *
          generalize D1.sy 0 = D3 at *
          obtain ⟨E1, hE1⟩ : ∃ E1, D.rErr 0 X = E1 := ⟨_, rfl⟩
          obtain ⟨E2, hE2⟩ : ∃ E2, D1.cErr 0 = E2 := ⟨_, rfl⟩
          rw [hE1, hE2] at hO
          rw [hE1] at hw
          rw [hE2] at hs
          clear hE1 hE2 hX hrX
          have hcut2 : (j : Int) < (lg.length : Int) := by omega
          have nT : ∀ g', w.heap.size ≤ g' → ¬ T g' := fun g' h1 h2 => by have := hlt g' h2; omega
          by_cases h1 : E1 = 0
          · subst h1
            by_cases h2 : E2 = 0
            · subst h2
              have hO : D.openD = (0, some k, D3) := by simpa using hO
              have HO := hid hO
              clear hO
              go_upto_region 32 with (first
                | (go_at_call 43; refine hw.mono ?_; rintro e wb ⟨rfl, hcb, Tb, hpb, hkb⟩)
                | (go_at_call 44; refine (hs _ _ hpb).mono ?_; rintro e w7 ⟨rfl, sb7⟩; obtain ⟨hc7, T7, hp7, hk7⟩ := Stq.trans hcb hkb sb7; have hV7 := hVb.chg hc7 (nT gV v1); have hR7 := hRb.chg hc7 (nT gR r1)))
              have C3 := hV7.ats (j := 3) (v := .int .u64 (k.next : Int)) rfl
              refine wp_region_noPanic ?_
              refine wp_region_held_drew (S := (fun W => W.cell? ⟨gV, 3, none⟩ = some (.int .u64 (k.next : Int)) ∧ W.rangeAt gV 0 (kpc k y x))) (by kernel_rfl) (⟨C3, hV7.range (Sub.all _)⟩) (fun hHeld => ?_)
              (first | (refine wpAnyH_take (i := 0) (v := undef) rfl (by kernel_rfl) (by kernel_rfl) (by kernel_rfl) (fun _ _ _ h => h) (Or.inr ⟨rfl, rfl⟩) (by assumption) ?_) | (refine wpAnyH_take (i := 0) (v := ?_) rfl (by kernel_rfl) (by kernel_rfl) (by kernel_rfl) (fun _ _ _ h => h) (Or.inl ⟨rfl, ?_⟩) (by assumption) ?_; rotate_left 1; · (intro w hSw; (try dsimp only at hSw); go_simp; (try with_reducible rfl)))); (try simp only [Act.put, List.getElem_toArray, List.getElem_cons_zero, List.getElem_cons_succ, List.setIfInBounds_toArray, List.set_cons_zero, List.set_cons_succ])
              (first | (refine wpAnyH_take (i := 1) (v := undef) rfl (by kernel_rfl) (by kernel_rfl) (by kernel_rfl) (fun _ _ _ h => h) (Or.inr ⟨rfl, rfl⟩) (by assumption) ?_) | (refine wpAnyH_take (i := 1) (v := ?_) rfl (by kernel_rfl) (by kernel_rfl) (by kernel_rfl) (fun _ _ _ h => h) (Or.inl ⟨rfl, ?_⟩) (by assumption) ?_; rotate_left 1; · (intro w hSw; (try dsimp only at hSw); go_simp; (try with_reducible rfl)))); (try simp only [Act.put, List.getElem_toArray, List.getElem_cons_zero, List.getElem_cons_succ, List.setIfInBounds_toArray, List.set_cons_zero, List.set_cons_succ])
              (first | (refine wpAnyH_take (i := 2) (v := undef) rfl (by kernel_rfl) (by kernel_rfl) (by kernel_rfl) (fun _ _ _ h => h) (Or.inr ⟨rfl, rfl⟩) (by assumption) ?_) | (refine wpAnyH_take (i := 2) (v := ?_) rfl (by kernel_rfl) (by kernel_rfl) (by kernel_rfl) (fun _ _ _ h => h) (Or.inl ⟨rfl, ?_⟩) (by assumption) ?_; rotate_left 1; · (intro w hSw; (try dsimp only at hSw); go_simp; (try with_reducible rfl)))); (try simp only [Act.put, List.getElem_toArray, List.getElem_cons_zero, List.getElem_cons_succ, List.setIfInBounds_toArray, List.set_cons_zero, List.set_cons_succ])
              refine wpAnyH_take (i := 3) rfl (by kernel_rfl) (by kernel_rfl) (by kernel_rfl) (fun _ _ _ h => h) (yieldsIf_bd (by rfl) 74 _ rfl #[(0, .pointer (some ⟨r, 0, none⟩)), (1, .int .u64 (k.next : Int))] (by first | rfl | kernel_rfl | (simp; done)) _ bdW2) (by assumption) ?_
              (try simp only [Act.put, List.getElem_toArray, List.getElem_cons_zero, List.getElem_cons_succ, List.setIfInBounds_toArray, List.set_cons_zero, List.set_cons_succ])
              refine wpAnyH_take (i := 5) rfl (by kernel_rfl) (by kernel_rfl) (by kernel_rfl) (fun _ _ _ h => h) (yieldsIf_load_mid (by rfl) 46 _ rfl gV 0 rfl (kpc k y x) _ (fun W hW => hW.2) Try.underlying46 rfl szKp) (by assumption) ?_
              (try simp only [Act.put, List.getElem_toArray, List.getElem_cons_zero, List.getElem_cons_succ, List.setIfInBounds_toArray, List.set_cons_zero, List.set_cons_succ])
              refine wpAnyH_ready (rs := [4]) (by kernel_rfl) (by simp) ?_; refine AllReadyH.cons rfl (fun K hK => ?_) AllReadyH.nil
              refine gd_dbx rfl 74 _ rfl rfl ?_
              intro gw w8 hgw hb8 t8
              have hb28 := hV7.drew.turn0 t8
              refine hK.out _ _ ⟨hb28.ats (j := 3) rfl, hb28.range (Sub.all _)⟩ (fun hHeld => ?_); clear hK K; (try simp only [Act.put, List.getElem_toArray, List.getElem_cons_zero, List.getElem_cons_succ, List.setIfInBounds_toArray, List.set_cons_zero, List.set_cons_succ])
              (first | (refine wpAnyH_take (i := 6) (v := undef) rfl (by kernel_rfl) (by kernel_rfl) (by kernel_rfl) (fun _ _ _ h => h) (Or.inr ⟨rfl, rfl⟩) (by assumption) ?_) | (refine wpAnyH_take (i := 6) (v := ?_) rfl (by kernel_rfl) (by kernel_rfl) (by kernel_rfl) (fun _ _ _ h => h) (Or.inl ⟨rfl, ?_⟩) (by assumption) ?_; rotate_left 1; · (intro w hSw; (try dsimp only at hSw); go_simp; (try with_reducible rfl)))); (try simp only [Act.put, List.getElem_toArray, List.getElem_cons_zero, List.getElem_cons_succ, List.setIfInBounds_toArray, List.set_cons_zero, List.set_cons_succ])
              refine wpAnyH_ready (rs := [7]) (by kernel_rfl) (by simp) ?_; refine AllReadyH.cons rfl (fun K hK => ?_) AllReadyH.nil
              refine gd_dst (xs := kpc k y x) rfl 46 _ _ rfl rfl rfl (hR7.drew.turn0 t8) rfl szKp (ones4 rfl rfl rfl rfl) ?_
              intro w9 hb9 t9
              have hb29 := hb28.turn t9 (by simp; omega)
              refine hK.out _ _ ⟨hb29.ats (j := 3) rfl, hb29.range (Sub.all _)⟩ (fun hHeld => ?_); clear hK K; (try simp only [Act.put, List.getElem_toArray, List.getElem_cons_zero, List.getElem_cons_succ, List.setIfInBounds_toArray, List.set_cons_zero, List.set_cons_succ])
              (first | (refine wpAnyH_take (i := 8) (v := undef) rfl (by kernel_rfl) (by kernel_rfl) (by kernel_rfl) (fun _ _ _ h => h) (Or.inr ⟨rfl, rfl⟩) (by assumption) ?_) | (refine wpAnyH_take (i := 8) (v := ?_) rfl (by kernel_rfl) (by kernel_rfl) (by kernel_rfl) (fun _ _ _ h => h) (Or.inl ⟨rfl, ?_⟩) (by assumption) ?_; rotate_left 1; · (intro w hSw; (try dsimp only at hSw); go_simp; (try with_reducible rfl)))); (try simp only [Act.put, List.getElem_toArray, List.getElem_cons_zero, List.getElem_cons_succ, List.setIfInBounds_toArray, List.set_cons_zero, List.set_cons_succ])
              refine wpAnyH_done (by kernel_rfl) ?_ _
              refine NoPanic.normal ?_
              clear hHeld
              go_wp2
              refine ret_tct rfl rfl rfl rfl rfl hb9 Try.underlying46 rfl szKp ?_
              exact ro_yes h t6 r1 r2 hq hQ hc7 hp7 hk7 t8.undrew hgw.symm hb8 t9 HO.out hN
            · have hO : D.openD = (E2, none, D3) := by simpa [h2] using hO
              have HO := hid hO
              have hne : (E2 == 0) = false := by rw [beq_eq_false_iff_ne]; exact h2
              clear hO
              go_wp2_with (first
                | (go_at_call 43; refine hw.mono ?_; rintro e wb ⟨rfl, hcb, Tb, hpb, hkb⟩)
                | (go_at_call 44; refine (hs _ _ hpb).mono ?_; rintro e w7 ⟨rfl, sb7⟩; have s7 := Stq.trans hcb hkb sb7; have hR7 := hRb.chg s7.1 (nT gR r1))
                | (refine wp_bd rfl 46 _ rfl _ rfl _ bdK0 ?_)
                | (refine wp_st (xs := [.bool false, .slice none 0 0, .slice none 0 0, .int .u64 0]) rfl 46 _ _ rfl rfl rfl hR7 rfl szKp (ones4 rfl rfl rfl rfl) ?_; intro w9 hb9 t9))
              refine ret_tct rfl rfl rfl rfl rfl hb9 Try.underlying46 rfl szKp ?_
              exact ro_no HO.out h2 (Stq.late t6 s7 t9 r1 r2 hlt)
          · have hO : D.openD = (E1, none, D1) := by simpa [h1] using hO
            have HO := hid hO
            have hne : (E1 == 0) = false := by rw [beq_eq_false_iff_ne]; exact h1
            clear hO
            go_wp2_with (first
              | (go_at_call 43; refine hw.mono ?_; rintro e w7 ⟨rfl, s7⟩; have hR7 := hRb.chg s7.1 (nT gR r1))
              | (refine wp_bd rfl 46 _ rfl _ rfl _ bdK0 ?_)
              | (refine wp_st (xs := [.bool false, .slice none 0 0, .slice none 0 0, .int .u64 0]) rfl 46 _ _ rfl rfl rfl hR7 rfl szKp (ones4 rfl rfl rfl rfl) ?_; intro w9 hb9 t9))
            refine ret_tct rfl rfl rfl rfl rfl hb9 Try.underlying46 rfl szKp ?_
            exact ro_no HO.out h1 (Stq.late t6 s7 t9 r1 r2 hlt)
        · rw [if_neg hcut] at hO
          have HO := hid hO
          have hcut2 : (lg.length : Int) ≤ (j : Int) := by omega
          clear hO hcut
          have C3 := hVb.ats (j := 3) (v := .int .u64 (k.next : Int)) rfl
          go_upto_region 32 with (fail)
          refine wp_region_noPanic ?_
          refine wp_region_held_drew (S := (fun W => W.cell? ⟨gV, 3, none⟩ = some (.int .u64 (k.next : Int)) ∧ W.rangeAt gV 0 (kpc k y x))) (by kernel_rfl) (⟨C3, hVb.range (Sub.all _)⟩) (fun hHeld => ?_)
          (first | (refine wpAnyH_take (i := 0) (v := undef) rfl (by kernel_rfl) (by kernel_rfl) (by kernel_rfl) (fun _ _ _ h => h) (Or.inr ⟨rfl, rfl⟩) (by assumption) ?_) | (refine wpAnyH_take (i := 0) (v := ?_) rfl (by kernel_rfl) (by kernel_rfl) (by kernel_rfl) (fun _ _ _ h => h) (Or.inl ⟨rfl, ?_⟩) (by assumption) ?_; rotate_left 1; · (intro w hSw; (try dsimp only at hSw); go_simp; (try with_reducible rfl)))); (try simp only [Act.put, List.getElem_toArray, List.getElem_cons_zero, List.getElem_cons_succ, List.setIfInBounds_toArray, List.set_cons_zero, List.set_cons_succ])
          (first | (refine wpAnyH_take (i := 1) (v := undef) rfl (by kernel_rfl) (by kernel_rfl) (by kernel_rfl) (fun _ _ _ h => h) (Or.inr ⟨rfl, rfl⟩) (by assumption) ?_) | (refine wpAnyH_take (i := 1) (v := ?_) rfl (by kernel_rfl) (by kernel_rfl) (by kernel_rfl) (fun _ _ _ h => h) (Or.inl ⟨rfl, ?_⟩) (by assumption) ?_; rotate_left 1; · (intro w hSw; (try dsimp only at hSw); go_simp; (try with_reducible rfl)))); (try simp only [Act.put, List.getElem_toArray, List.getElem_cons_zero, List.getElem_cons_succ, List.setIfInBounds_toArray, List.set_cons_zero, List.set_cons_succ])
          (first | (refine wpAnyH_take (i := 2) (v := undef) rfl (by kernel_rfl) (by kernel_rfl) (by kernel_rfl) (fun _ _ _ h => h) (Or.inr ⟨rfl, rfl⟩) (by assumption) ?_) | (refine wpAnyH_take (i := 2) (v := ?_) rfl (by kernel_rfl) (by kernel_rfl) (by kernel_rfl) (fun _ _ _ h => h) (Or.inl ⟨rfl, ?_⟩) (by assumption) ?_; rotate_left 1; · (intro w hSw; (try dsimp only at hSw); go_simp; (try with_reducible rfl)))); (try simp only [Act.put, List.getElem_toArray, List.getElem_cons_zero, List.getElem_cons_succ, List.setIfInBounds_toArray, List.set_cons_zero, List.set_cons_succ])
          refine wpAnyH_take (i := 3) rfl (by kernel_rfl) (by kernel_rfl) (by kernel_rfl) (fun _ _ _ h => h) (yieldsIf_bd (by rfl) 74 _ rfl #[(0, .pointer (some ⟨r, 0, none⟩)), (1, .int .u64 (k.next : Int))] (by first | rfl | kernel_rfl | (simp; done)) _ bdW2) (by assumption) ?_
          (try simp only [Act.put, List.getElem_toArray, List.getElem_cons_zero, List.getElem_cons_succ, List.setIfInBounds_toArray, List.set_cons_zero, List.set_cons_succ])
          refine wpAnyH_take (i := 5) rfl (by kernel_rfl) (by kernel_rfl) (by kernel_rfl) (fun _ _ _ h => h) (yieldsIf_load_mid (by rfl) 46 _ rfl gV 0 rfl (kpc k y x) _ (fun W hW => hW.2) Try.underlying46 rfl szKp) (by assumption) ?_
          (try simp only [Act.put, List.getElem_toArray, List.getElem_cons_zero, List.getElem_cons_succ, List.setIfInBounds_toArray, List.set_cons_zero, List.set_cons_succ])
          refine wpAnyH_ready (rs := [4]) (by kernel_rfl) (by simp) ?_; refine AllReadyH.cons rfl (fun K hK => ?_) AllReadyH.nil
          refine gd_dbx rfl 74 _ rfl rfl ?_
          intro gw w8 hgw hb8 t8
          have hb28 := hVb.drew.turn0 t8
          refine hK.out _ _ ⟨hb28.ats (j := 3) rfl, hb28.range (Sub.all _)⟩ (fun hHeld => ?_); clear hK K; (try simp only [Act.put, List.getElem_toArray, List.getElem_cons_zero, List.getElem_cons_succ, List.setIfInBounds_toArray, List.set_cons_zero, List.set_cons_succ])
          (first | (refine wpAnyH_take (i := 6) (v := undef) rfl (by kernel_rfl) (by kernel_rfl) (by kernel_rfl) (fun _ _ _ h => h) (Or.inr ⟨rfl, rfl⟩) (by assumption) ?_) | (refine wpAnyH_take (i := 6) (v := ?_) rfl (by kernel_rfl) (by kernel_rfl) (by kernel_rfl) (fun _ _ _ h => h) (Or.inl ⟨rfl, ?_⟩) (by assumption) ?_; rotate_left 1; · (intro w hSw; (try dsimp only at hSw); go_simp; (try with_reducible rfl)))); (try simp only [Act.put, List.getElem_toArray, List.getElem_cons_zero, List.getElem_cons_succ, List.setIfInBounds_toArray, List.set_cons_zero, List.set_cons_succ])
          refine wpAnyH_ready (rs := [7]) (by kernel_rfl) (by simp) ?_; refine AllReadyH.cons rfl (fun K hK => ?_) AllReadyH.nil
          refine gd_dst (xs := kpc k y x) rfl 46 _ _ rfl rfl rfl (hRb.drew.turn0 t8) rfl szKp (ones4 rfl rfl rfl rfl) ?_
          intro w9 hb9 t9
          have hb29 := hb28.turn t9 (by simp; omega)
          refine hK.out _ _ ⟨hb29.ats (j := 3) rfl, hb29.range (Sub.all _)⟩ (fun hHeld => ?_); clear hK K; (try simp only [Act.put, List.getElem_toArray, List.getElem_cons_zero, List.getElem_cons_succ, List.setIfInBounds_toArray, List.set_cons_zero, List.set_cons_succ])
          (first | (refine wpAnyH_take (i := 8) (v := undef) rfl (by kernel_rfl) (by kernel_rfl) (by kernel_rfl) (fun _ _ _ h => h) (Or.inr ⟨rfl, rfl⟩) (by assumption) ?_) | (refine wpAnyH_take (i := 8) (v := ?_) rfl (by kernel_rfl) (by kernel_rfl) (by kernel_rfl) (fun _ _ _ h => h) (Or.inl ⟨rfl, ?_⟩) (by assumption) ?_; rotate_left 1; · (intro w hSw; (try dsimp only at hSw); go_simp; (try with_reducible rfl)))); (try simp only [Act.put, List.getElem_toArray, List.getElem_cons_zero, List.getElem_cons_succ, List.setIfInBounds_toArray, List.set_cons_zero, List.set_cons_succ])
          refine wpAnyH_done (by kernel_rfl) ?_ _
          refine NoPanic.normal ?_
          clear hHeld
          go_wp2
          refine ret_tct rfl rfl rfl rfl rfl hb9 Try.underlying46 rfl szKp ?_
          exact ro_yes h t6 r1 r2 hq hQ (Chg.refl _ _) (h.turn0 t6) (fun i h => .inl h) t8.undrew hgw.symm hb8 t9 HO.out hN
    · have hend := hid hend
      go_upto_region 25 with (fail)
      obtain ⟨hjl, hnx, hwg⟩ := hend.out
      have hO := HOF.out recs nx j hend.out
      obtain ⟨k, hkk⟩ : ∃ k : Kp, k = ⟨b, s, recs, nx⟩ := ⟨_, rfl⟩
      obtain ⟨x, hxx⟩ : ∃ x : Sl, x = ⟨A2, n2, c2⟩ := ⟨_, rfl⟩
      obtain ⟨y, hyy⟩ : ∃ y : Sl, y = ⟨S, m3, c3⟩ := ⟨_, rfl⟩
      have hVb : Blk wr gV 46 (kpc k y x).toArray := by rw [hkk, hxx, hyy]; exact hV
      have gl : gV < wd.heap.size ∧ gR < wd.heap.size := by omega
      have hRb : Blk wr gR 46 ([.bool false, .slice none 0 0, .slice none 0 0, .int .u64 0] : List Value).toArray := (hRb.turn0 t5).turn htr (by simp; omega)
      have hso : Own wr bs 5 1 S m3 c3 (vbs s) := (hs.turn0 t5).turn htr (.inr fun e => (hsq gV e).1 rfl)
      have hq : Kin wr (fun i => w.heap.size ≤ i ∧ i < wr.heap.size ∧ i ≠ gR) k y x vs := by
        rw [hkk, hyy]
        exact Kin.made hso (fun i e => ⟨by have := (hs.block i e).1; omega, (hso.block i e).2, (hsq i e).2⟩) how hfr hxx fun i h1 h2 => ⟨by have := t4.size; omega, h2, by omega⟩
      have hQ : ∀ i, (w.heap.size ≤ i ∧ i < wr.heap.size ∧ i ≠ gR) → w.heap.size ≤ i ∧ i < wr.heap.size ∧ i ≠ gR := fun i h => h
      have ho : Own wr w4.heap.size 5 1 A1 lg.length c1 (vbs lg) := ho1.turn htr (.inr fun e => by have := (ho1.block _ e).1; omega)
      have hb0 : w.heap.size ≤ w4.heap.size := t4.size
      have t6 : Turn w wr none := (t4.trans t5).new htr fun g e => by injection e with e; omega
      rw [show nx = k.next by rw [hkk]] at hO
      have hO2 : D.openD = if j < lg.length then (if (D.rpS 0 (lg.take j)).1 ≠ 0 then ((D.rpS 0 (lg.take j)).1, none, (D.rpS 0 (lg.take j)).2) else (0, some k, (D.rpS 0 (lg.take j)).2)) else (0, some k, D) := by
        have e : (⟨b, s, recs, k.next⟩ : Kp) = k := by rw [hkk]
        rw [e] at hO
        exact hO
      have hNk : k.next ≤ 9223372036854775807 := by
        rw [hkk]
        show nx ≤ _
        have := wGo_few N lg.length [] N lg
        rw [hwg] at this
        have : recs.length * 5 ≤ 0 + lg.length := this
        omega
      clear hO hkk hxx hyy hwg hnx hend hV how hfr hso
      have hO := hO2
      have hN := hNk
      have hen := hjl
      clear hO2 hNk
      have r2 := hRb.lt
      have hlt := fun i hi => h.lt (k := i) hi
      have cap1 := ho.cap
      by_cases hcut : j < lg.length
      · rw [if_pos hcut] at hO
        unfold Dsk.rpS at hO
        obtain ⟨X, hX⟩ : ∃ X, lg.take j = X := ⟨_, rfl⟩
        have hrX : Rd wr wr.heap.size 1 A1 j (vbs X) := by rw [← hX]; exact ho.rd.takeB hen
        rw [hX] at hO
        have hw : Calls Try.prog 43 #[.pointer (some ⟨r, 0, none⟩), .int .i64 0, .slice A1 j c1] wr fun e w' => e = .returned (.int .i64 (D.rErr 0 X)) ∧ Stq wr w' T r (D.rp 0 X) :=
          rreplace_any (h.turn0 t6) 0 A1 j c1 wr.heap.size X hrX (Nat.le_refl _) (by omega) fun k e _ hk => by
            have := (ho.block k e).1
            have := hlt k hk
            omega
        have hs : ∀ w1 R1, Rk w1 r R1 (D.rp 0 X) → Calls Try.prog 44 #[.pointer (some ⟨r, 0, none⟩), .int .i64 0] w1 fun e w' => e = .returned (.int .i64 ((D.rp 0 X).cErr 0)) ∧ Stq w1 w' R1 r ((D.rp 0 X).sy 0) := fun w1 R1 hp => rsync_any hp 0
        generalize D.rp 0 X = D1 at *
        generalize D1.sy 0 = D3 at *
        obtain ⟨E1, hE1⟩ : ∃ E1, D.rErr 0 X = E1 := ⟨_, rfl⟩
        obtain ⟨E2, hE2⟩ : ∃ E2, D1.cErr 0 = E2 := ⟨_, rfl⟩
        rw [hE1, hE2] at hO
        rw [hE1] at hw
        rw [hE2] at hs
        clear hE1 hE2 hX hrX
        have hcut2 : (j : Int) < (lg.length : Int) := by omega
        have nT : ∀ g', w.heap.size ≤ g' → ¬ T g' := fun g' h1 h2 => by have := hlt g' h2; omega
        by_cases h1 : E1 = 0
        · subst h1
          by_cases h2 : E2 = 0
          · subst h2
            have hO : D.openD = (0, some k, D3) := by simpa using hO
            have HO := hid hO
            clear hO
            go_upto_region 32 with (first
              | (go_at_call 43; refine hw.mono ?_; rintro e wb ⟨rfl, hcb, Tb, hpb, hkb⟩)
              | (go_at_call 44; refine (hs _ _ hpb).mono ?_; rintro e w7 ⟨rfl, sb7⟩; obtain ⟨hc7, T7, hp7, hk7⟩ := Stq.trans hcb hkb sb7; have hV7 := hVb.chg hc7 (nT gV v1); have hR7 := hRb.chg hc7 (nT gR r1)))
            have C3 := hV7.ats (j := 3) (v := .int .u64 (k.next : Int)) rfl
            refine wp_region_noPanic ?_
            refine wp_region_held_drew (S := (fun W => W.cell? ⟨gV, 3, none⟩ = some (.int .u64 (k.next : Int)) ∧ W.rangeAt gV 0 (kpc k y x))) (by kernel_rfl) (⟨C3, hV7.range (Sub.all _)⟩) (fun hHeld => ?_)
            (first | (refine wpAnyH_take (i := 0) (v := undef) rfl (by kernel_rfl) (by kernel_rfl) (by kernel_rfl) (fun _ _ _ h => h) (Or.inr ⟨rfl, rfl⟩) (by assumption) ?_) | (refine wpAnyH_take (i := 0) (v := ?_) rfl (by kernel_rfl) (by kernel_rfl) (by kernel_rfl) (fun _ _ _ h => h) (Or.inl ⟨rfl, ?_⟩) (by assumption) ?_; rotate_left 1; · (intro w hSw; (try dsimp only at hSw); go_simp; (try with_reducible rfl)))); (try simp only [Act.put, List.getElem_toArray, List.getElem_cons_zero, List.getElem_cons_succ, List.setIfInBounds_toArray, List.set_cons_zero, List.set_cons_succ])
            (first | (refine wpAnyH_take (i := 1) (v := undef) rfl (by kernel_rfl) (by kernel_rfl) (by kernel_rfl) (fun _ _ _ h => h) (Or.inr ⟨rfl, rfl⟩) (by assumption) ?_) | (refine wpAnyH_take (i := 1) (v := ?_) rfl (by kernel_rfl) (by kernel_rfl) (by kernel_rfl) (fun _ _ _ h => h) (Or.inl ⟨rfl, ?_⟩) (by assumption) ?_; rotate_left 1; · (intro w hSw; (try dsimp only at hSw); go_simp; (try with_reducible rfl)))); (try simp only [Act.put, List.getElem_toArray, List.getElem_cons_zero, List.getElem_cons_succ, List.setIfInBounds_toArray, List.set_cons_zero, List.set_cons_succ])
            (first | (refine wpAnyH_take (i := 2) (v := undef) rfl (by kernel_rfl) (by kernel_rfl) (by kernel_rfl) (fun _ _ _ h => h) (Or.inr ⟨rfl, rfl⟩) (by assumption) ?_) | (refine wpAnyH_take (i := 2) (v := ?_) rfl (by kernel_rfl) (by kernel_rfl) (by kernel_rfl) (fun _ _ _ h => h) (Or.inl ⟨rfl, ?_⟩) (by assumption) ?_; rotate_left 1; · (intro w hSw; (try dsimp only at hSw); go_simp; (try with_reducible rfl)))); (try simp only [Act.put, List.getElem_toArray, List.getElem_cons_zero, List.getElem_cons_succ, List.setIfInBounds_toArray, List.set_cons_zero, List.set_cons_succ])
            refine wpAnyH_take (i := 3) rfl (by kernel_rfl) (by kernel_rfl) (by kernel_rfl) (fun _ _ _ h => h) (yieldsIf_bd (by rfl) 74 _ rfl #[(0, .pointer (some ⟨r, 0, none⟩)), (1, .int .u64 (k.next : Int))] (by first | rfl | kernel_rfl | (simp; done)) _ bdW2) (by assumption) ?_
            (try simp only [Act.put, List.getElem_toArray, List.getElem_cons_zero, List.getElem_cons_succ, List.setIfInBounds_toArray, List.set_cons_zero, List.set_cons_succ])
            refine wpAnyH_take (i := 5) rfl (by kernel_rfl) (by kernel_rfl) (by kernel_rfl) (fun _ _ _ h => h) (yieldsIf_load_mid (by rfl) 46 _ rfl gV 0 rfl (kpc k y x) _ (fun W hW => hW.2) Try.underlying46 rfl szKp) (by assumption) ?_
            (try simp only [Act.put, List.getElem_toArray, List.getElem_cons_zero, List.getElem_cons_succ, List.setIfInBounds_toArray, List.set_cons_zero, List.set_cons_succ])
            refine wpAnyH_ready (rs := [4]) (by kernel_rfl) (by simp) ?_; refine AllReadyH.cons rfl (fun K hK => ?_) AllReadyH.nil
            refine gd_dbx rfl 74 _ rfl rfl ?_
            intro gw w8 hgw hb8 t8
            have hb28 := hV7.drew.turn0 t8
            refine hK.out _ _ ⟨hb28.ats (j := 3) rfl, hb28.range (Sub.all _)⟩ (fun hHeld => ?_); clear hK K; (try simp only [Act.put, List.getElem_toArray, List.getElem_cons_zero, List.getElem_cons_succ, List.setIfInBounds_toArray, List.set_cons_zero, List.set_cons_succ])
            (first | (refine wpAnyH_take (i := 6) (v := undef) rfl (by kernel_rfl) (by kernel_rfl) (by kernel_rfl) (fun _ _ _ h => h) (Or.inr ⟨rfl, rfl⟩) (by assumption) ?_) | (refine wpAnyH_take (i := 6) (v := ?_) rfl (by kernel_rfl) (by kernel_rfl) (by kernel_rfl) (fun _ _ _ h => h) (Or.inl ⟨rfl, ?_⟩) (by assumption) ?_; rotate_left 1; · (intro w hSw; (try dsimp only at hSw); go_simp; (try with_reducible rfl)))); (try simp only [Act.put, List.getElem_toArray, List.getElem_cons_zero, List.getElem_cons_succ, List.setIfInBounds_toArray, List.set_cons_zero, List.set_cons_succ])
            refine wpAnyH_ready (rs := [7]) (by kernel_rfl) (by simp) ?_; refine AllReadyH.cons rfl (fun K hK => ?_) AllReadyH.nil
            refine gd_dst (xs := kpc k y x) rfl 46 _ _ rfl rfl rfl (hR7.drew.turn0 t8) rfl szKp (ones4 rfl rfl rfl rfl) ?_
            intro w9 hb9 t9
            have hb29 := hb28.turn t9 (by simp; omega)
            refine hK.out _ _ ⟨hb29.ats (j := 3) rfl, hb29.range (Sub.all _)⟩ (fun hHeld => ?_); clear hK K; (try simp only [Act.put, List.getElem_toArray, List.getElem_cons_zero, List.getElem_cons_succ, List.setIfInBounds_toArray, List.set_cons_zero, List.set_cons_succ])
            (first | (refine wpAnyH_take (i := 8) (v := undef) rfl (by kernel_rfl) (by kernel_rfl) (by kernel_rfl) (fun _ _ _ h => h) (Or.inr ⟨rfl, rfl⟩) (by assumption) ?_) | (refine wpAnyH_take (i := 8) (v := ?_) rfl (by kernel_rfl) (by kernel_rfl) (by kernel_rfl) (fun _ _ _ h => h) (Or.inl ⟨rfl, ?_⟩) (by assumption) ?_; rotate_left 1; · (intro w hSw; (try dsimp only at hSw); go_simp; (try with_reducible rfl)))); (try simp only [Act.put, List.getElem_toArray, List.getElem_cons_zero, List.getElem_cons_succ, List.setIfInBounds_toArray, List.set_cons_zero, List.set_cons_succ])
            refine wpAnyH_done (by kernel_rfl) ?_ _
            refine NoPanic.normal ?_
            clear hHeld
            go_wp2
            refine ret_tct rfl rfl rfl rfl rfl hb9 Try.underlying46 rfl szKp ?_
            exact ro_yes h t6 r1 r2 hq hQ hc7 hp7 hk7 t8.undrew hgw.symm hb8 t9 HO.out hN
          · have hO : D.openD = (E2, none, D3) := by simpa [h2] using hO
            have HO := hid hO
            have hne : (E2 == 0) = false := by rw [beq_eq_false_iff_ne]; exact h2
            clear hO
            go_wp2_with (first
              | (go_at_call 43; refine hw.mono ?_; rintro e wb ⟨rfl, hcb, Tb, hpb, hkb⟩)
              | (go_at_call 44; refine (hs _ _ hpb).mono ?_; rintro e w7 ⟨rfl, sb7⟩; have s7 := Stq.trans hcb hkb sb7; have hR7 := hRb.chg s7.1 (nT gR r1))
              | (refine wp_bd rfl 46 _ rfl _ rfl _ bdK0 ?_)
              | (refine wp_st (xs := [.bool false, .slice none 0 0, .slice none 0 0, .int .u64 0]) rfl 46 _ _ rfl rfl rfl hR7 rfl szKp (ones4 rfl rfl rfl rfl) ?_; intro w9 hb9 t9))
            refine ret_tct rfl rfl rfl rfl rfl hb9 Try.underlying46 rfl szKp ?_
            exact ro_no HO.out h2 (Stq.late t6 s7 t9 r1 r2 hlt)
        · have hO : D.openD = (E1, none, D1) := by simpa [h1] using hO
          have HO := hid hO
          have hne : (E1 == 0) = false := by rw [beq_eq_false_iff_ne]; exact h1
          clear hO
          go_wp2_with (first
            | (go_at_call 43; refine hw.mono ?_; rintro e w7 ⟨rfl, s7⟩; have hR7 := hRb.chg s7.1 (nT gR r1))
            | (refine wp_bd rfl 46 _ rfl _ rfl _ bdK0 ?_)
            | (refine wp_st (xs := [.bool false, .slice none 0 0, .slice none 0 0, .int .u64 0]) rfl 46 _ _ rfl rfl rfl hR7 rfl szKp (ones4 rfl rfl rfl rfl) ?_; intro w9 hb9 t9))
          refine ret_tct rfl rfl rfl rfl rfl hb9 Try.underlying46 rfl szKp ?_
          exact ro_no HO.out h1 (Stq.late t6 s7 t9 r1 r2 hlt)
      · rw [if_neg hcut] at hO
        have HO := hid hO
        have hcut2 : (lg.length : Int) ≤ (j : Int) := by omega
        clear hO hcut
        have C3 := hVb.ats (j := 3) (v := .int .u64 (k.next : Int)) rfl
        go_upto_region 32 with (fail)
        refine wp_region_noPanic ?_
        refine wp_region_held_drew (S := (fun W => W.cell? ⟨gV, 3, none⟩ = some (.int .u64 (k.next : Int)) ∧ W.rangeAt gV 0 (kpc k y x))) (by kernel_rfl) (⟨C3, hVb.range (Sub.all _)⟩) (fun hHeld => ?_)
        (first | (refine wpAnyH_take (i := 0) (v := undef) rfl (by kernel_rfl) (by kernel_rfl) (by kernel_rfl) (fun _ _ _ h => h) (Or.inr ⟨rfl, rfl⟩) (by assumption) ?_) | (refine wpAnyH_take (i := 0) (v := ?_) rfl (by kernel_rfl) (by kernel_rfl) (by kernel_rfl) (fun _ _ _ h => h) (Or.inl ⟨rfl, ?_⟩) (by assumption) ?_; rotate_left 1; · (intro w hSw; (try dsimp only at hSw); go_simp; (try with_reducible rfl)))); (try simp only [Act.put, List.getElem_toArray, List.getElem_cons_zero, List.getElem_cons_succ, List.setIfInBounds_toArray, List.set_cons_zero, List.set_cons_succ])
        (first | (refine wpAnyH_take (i := 1) (v := undef) rfl (by kernel_rfl) (by kernel_rfl) (by kernel_rfl) (fun _ _ _ h => h) (Or.inr ⟨rfl, rfl⟩) (by assumption) ?_) | (refine wpAnyH_take (i := 1) (v := ?_) rfl (by kernel_rfl) (by kernel_rfl) (by kernel_rfl) (fun _ _ _ h => h) (Or.inl ⟨rfl, ?_⟩) (by assumption) ?_; rotate_left 1; · (intro w hSw; (try dsimp only at hSw); go_simp; (try with_reducible rfl)))); (try simp only [Act.put, List.getElem_toArray, List.getElem_cons_zero, List.getElem_cons_succ, List.setIfInBounds_toArray, List.set_cons_zero, List.set_cons_succ])
        (first | (refine wpAnyH_take (i := 2) (v := undef) rfl (by kernel_rfl) (by kernel_rfl) (by kernel_rfl) (fun _ _ _ h => h) (Or.inr ⟨rfl, rfl⟩) (by assumption) ?_) | (refine wpAnyH_take (i := 2) (v := ?_) rfl (by kernel_rfl) (by kernel_rfl) (by kernel_rfl) (fun _ _ _ h => h) (Or.inl ⟨rfl, ?_⟩) (by assumption) ?_; rotate_left 1; · (intro w hSw; (try dsimp only at hSw); go_simp; (try with_reducible rfl)))); (try simp only [Act.put, List.getElem_toArray, List.getElem_cons_zero, List.getElem_cons_succ, List.setIfInBounds_toArray, List.set_cons_zero, List.set_cons_succ])
        refine wpAnyH_take (i := 3) rfl (by kernel_rfl) (by kernel_rfl) (by kernel_rfl) (fun _ _ _ h => h) (yieldsIf_bd (by rfl) 74 _ rfl #[(0, .pointer (some ⟨r, 0, none⟩)), (1, .int .u64 (k.next : Int))] (by first | rfl | kernel_rfl | (simp; done)) _ bdW2) (by assumption) ?_
        (try simp only [Act.put, List.getElem_toArray, List.getElem_cons_zero, List.getElem_cons_succ, List.setIfInBounds_toArray, List.set_cons_zero, List.set_cons_succ])
        refine wpAnyH_take (i := 5) rfl (by kernel_rfl) (by kernel_rfl) (by kernel_rfl) (fun _ _ _ h => h) (yieldsIf_load_mid (by rfl) 46 _ rfl gV 0 rfl (kpc k y x) _ (fun W hW => hW.2) Try.underlying46 rfl szKp) (by assumption) ?_
        (try simp only [Act.put, List.getElem_toArray, List.getElem_cons_zero, List.getElem_cons_succ, List.setIfInBounds_toArray, List.set_cons_zero, List.set_cons_succ])
        refine wpAnyH_ready (rs := [4]) (by kernel_rfl) (by simp) ?_; refine AllReadyH.cons rfl (fun K hK => ?_) AllReadyH.nil
        refine gd_dbx rfl 74 _ rfl rfl ?_
        intro gw w8 hgw hb8 t8
        have hb28 := hVb.drew.turn0 t8
        refine hK.out _ _ ⟨hb28.ats (j := 3) rfl, hb28.range (Sub.all _)⟩ (fun hHeld => ?_); clear hK K; (try simp only [Act.put, List.getElem_toArray, List.getElem_cons_zero, List.getElem_cons_succ, List.setIfInBounds_toArray, List.set_cons_zero, List.set_cons_succ])
        (first | (refine wpAnyH_take (i := 6) (v := undef) rfl (by kernel_rfl) (by kernel_rfl) (by kernel_rfl) (fun _ _ _ h => h) (Or.inr ⟨rfl, rfl⟩) (by assumption) ?_) | (refine wpAnyH_take (i := 6) (v := ?_) rfl (by kernel_rfl) (by kernel_rfl) (by kernel_rfl) (fun _ _ _ h => h) (Or.inl ⟨rfl, ?_⟩) (by assumption) ?_; rotate_left 1; · (intro w hSw; (try dsimp only at hSw); go_simp; (try with_reducible rfl)))); (try simp only [Act.put, List.getElem_toArray, List.getElem_cons_zero, List.getElem_cons_succ, List.setIfInBounds_toArray, List.set_cons_zero, List.set_cons_succ])
        refine wpAnyH_ready (rs := [7]) (by kernel_rfl) (by simp) ?_; refine AllReadyH.cons rfl (fun K hK => ?_) AllReadyH.nil
        refine gd_dst (xs := kpc k y x) rfl 46 _ _ rfl rfl rfl (hRb.drew.turn0 t8) rfl szKp (ones4 rfl rfl rfl rfl) ?_
        intro w9 hb9 t9
        have hb29 := hb28.turn t9 (by simp; omega)
        refine hK.out _ _ ⟨hb29.ats (j := 3) rfl, hb29.range (Sub.all _)⟩ (fun hHeld => ?_); clear hK K; (try simp only [Act.put, List.getElem_toArray, List.getElem_cons_zero, List.getElem_cons_succ, List.setIfInBounds_toArray, List.set_cons_zero, List.set_cons_succ])
        (first | (refine wpAnyH_take (i := 8) (v := undef) rfl (by kernel_rfl) (by kernel_rfl) (by kernel_rfl) (fun _ _ _ h => h) (Or.inr ⟨rfl, rfl⟩) (by assumption) ?_) | (refine wpAnyH_take (i := 8) (v := ?_) rfl (by kernel_rfl) (by kernel_rfl) (by kernel_rfl) (fun _ _ _ h => h) (Or.inl ⟨rfl, ?_⟩) (by assumption) ?_; rotate_left 1; · (intro w hSw; (try dsimp only at hSw); go_simp; (try with_reducible rfl)))); (try simp only [Act.put, List.getElem_toArray, List.getElem_cons_zero, List.getElem_cons_succ, List.setIfInBounds_toArray, List.set_cons_zero, List.set_cons_succ])
        refine wpAnyH_done (by kernel_rfl) ?_ _
        refine NoPanic.normal ?_
        clear hHeld
        go_wp2
        refine ret_tct rfl rfl rfl rfl rfl hb9 Try.underlying46 rfl szKp ?_
        exact ro_yes h t6 r1 r2 hq hQ (Chg.refl _ _) (h.turn0 t6) (fun i h => .inl h) t8.undrew hgw.symm hb8 t9 HO.out hN
end Go.Proofs.Ytjekglnbmccnjaa
/-
  Layer 15: the document's Open (contract).
-/
namespace Go.Proofs.Ytjekglnbmccnjaa
set_option linter.unusedSimpArgs false
set_option linter.unusedVariables false
open Go.RowKit

set_option maxRecDepth 100000 in
set_option maxHeartbeats 6400000 in
theorem ropen_any {w : World} {r : Nat} {T : Nat → Prop} {D : Dsk} (h : Rk w r T D) (h0 : (D.rd 0).length ≤ 1099511627776) (h1 : (D.rd 1).length ≤ 1099511627776) :
    Calls Try.prog 23 #[.pointer (some ⟨r, 0, none⟩)] w (RoPost T r D w) := by
  have al : ∀ (w : World) (cs : Array Value) (t : TypeId), (w.alloc (.cells cs t)).heap.size = w.heap.size + 1 := fun w cs t => Array.size_push ..
  have T0 : ∀ (w : World) cs t, Turn w (w.alloc (.cells cs t)) none := fun w cs t => (Turn.refl w none).alloc _
  have hB2 : ∀ o1 cs t, Blk ((w.alloc o1).alloc (.cells cs t)) (w.heap.size + 1) t cs := fun o1 cs t => by
    have h := Blk.new (w.alloc o1) t cs
    rw [show (w.alloc o1).heap.size = w.heap.size + 1 from Array.size_push ..] at h
    exact h
  obtain ⟨_, he1⟩ := dErr_01 D
  have hlt := fun k hk => h.lt (k := k) hk
  have rd1 : ∀ w1, Turn w w1 none → Calls Try.prog 11 #[.pointer (some ⟨r, 0, none⟩), .int .i64 1] w1 fun e w' => ∃ A c, e = .returned (.tuple #[.slice A (D.rd 1).length c, .int .i64 (D.dErr 1)]) ∧ Own w' w1.heap.size 5 1 A (D.rd 1).length c (vbs (D.rd 1)) ∧ Turn w1 w' none := fun w1 t => rread_rk (h.turn0 t) 1
  obtain ⟨sn, hsn⟩ : ∃ sn, D.rd 1 = sn := ⟨_, rfl⟩
  rw [hsn] at rd1 h1
  by_cases hd : D.dErr 1 = 0
  · rw [hd] at rd1
    by_cases hnil : sn = []
    · have hs : wSnapOf (D.rd 1) = some (false, [], 0) := by rw [hsn]; exact if_pos hnil
      have hz : sn.length = 0 := by rw [hnil]; rfl
      go_enter Try.func23, Try.ntmps23
      go_upto_region 13 with (first
        | (refine wp_bd rfl 46 _ rfl _ rfl _ bdK0 ?_)
        | (refine wp_st (xs := [.bool false, .slice none 0 0, .slice none 0 0, .int .u64 0]) rfl 46 _ _ rfl rfl rfl (hB2 _ _ _) rfl szKp (ones4 rfl rfl rfl rfl) ?_; intro wb hbb htb; have tb := (T0 (w.alloc _) _ _).new htb (by simp))
        | (go_at_call 11; refine (rd1 _ ((T0 w _ _).trans tb)).mono ?_; rintro e w4 ⟨A1, c1, rfl, ho1, t1⟩))
      have sb := htb.size
      rw [al, al] at sb
      exact of_codeO (C' := headO 5 roB) (by kernel_rfl) (ropen_mid (hK := by assumption) (b := false) (s := []) (N := 0) (S := none) (m3 := 0) (c3 := 0) (bs := w.heap.size) h (((T0 w _ _).trans tb).trans t1) (Nat.le_refl _) ((((Blk.new w _ _).turn0 tb)).turn0 t1) (by omega) (hbb.turn0 t1) (by omega) (Own.nil _ _ _ _) (Nat.le_refl _) (fun i e => by cases e) (by omega) hd hs h0)
    · have hlen0 : 0 < (sn.length : Int) := by
        have : sn.length ≠ 0 := fun e => hnil (List.eq_nil_of_length_eq_zero e)
        omega
      obtain ⟨x, k, e0, hp⟩ : ∃ x k e0, fTake sn = (x, k, e0) := ⟨_, _, _, rfl⟩
      have hpost : ∀ {w : World} {e : Ending} {w' : World}, RtPost sn w e w' → ∃ X m c', e = .returned (.tuple #[.slice X m c', .int .i64 (k : Int), .int .i64 (e0 : Int)]) ∧ Own w' w.heap.size 5 1 X m c' (vbs x) ∧ Turn w w' none := by
        rintro w e w' ⟨X, m, c', h1, h2, h3⟩
        rw [hp] at h1 h2
        exact ⟨X, m, c', h1, h2, h3⟩
      have hun : wSnapOf sn = if e0 ≠ 0 ∨ k ≠ sn.length ∨ (pTake x).2.2 ≠ 0 then none else some (true, x.drop (pTake x).2.1, (pTake x).1) := by
        unfold wSnapOf
        rw [if_neg hnil, hp]
      by_cases hb1 : e0 ≠ 0 ∨ k ≠ sn.length
      · have HO := hid (openD_form hd (by rw [hsn, hun, if_pos (hb1.imp id .inl)]))
        have hq3 : ¬ ((e0 : Int) = 0) ∨ ((e0 : Int) = 0 ∧ ((k : Int) == (sn.length : Int)) = false) := by
          by_cases c : e0 = 0
          · exact .inr ⟨by omega, by rw [beq_eq_false_iff_ne]; omega⟩
          · exact .inl (by omega)
        clear hun hp hnil hb1 hd hsn he1
        rcases hq3 with q1 | ⟨q1, q2⟩
        all_goals
          go_enter Try.func23, Try.ntmps23
          go_wp2_with (first
            | (refine wp_bd rfl 46 _ rfl _ rfl _ bdK0 ?_)
            | (go_at_call 11; refine (rd1 _ ((T0 w _ _).trans tb)).mono ?_; rintro e w4 ⟨A1, c1, rfl, ho1, t1⟩)
            | (go_at_call 41; refine (rftake_any _ _ _ sn w4.heap.size _ ho1.rd (Nat.le_refl _) ho1.cap.1 ho1.cap.2 (by omega)).mono ?_; intro e w5 hC; obtain ⟨X, m, c', rfl, hX, t2⟩ := hpost hC; have hxm := hX.len; rw [vbs_len] at hxm; have tA := ((T0 w _ _).trans tb).trans (t1.trans t2))
            | (refine wp_st (xs := [.bool false, .slice none 0 0, .slice none 0 0, .int .u64 0]) rfl 46 _ _ rfl rfl rfl (((Blk.new w _ _).turn0 tb).turn0 (t1.trans t2)) rfl szKp (ones4 rfl rfl rfl rfl) ?_; intro w9 hb9 t9)
            | (refine wp_st (xs := [.bool false, .slice none 0 0, .slice none 0 0, .int .u64 0]) rfl 46 _ _ rfl rfl rfl (hB2 _ _ _) rfl szKp (ones4 rfl rfl rfl rfl) ?_; intro wb hbb htb; have tb := (T0 (w.alloc _) _ _).new htb (by simp)))
          refine ret_tct rfl rfl rfl rfl rfl hb9 Try.underlying46 rfl szKp ?_
          have s4 := (tb.trans (t1.trans t2)).size
          rw [al] at s4
          exact ro_no HO.out (by decide) (Stq.late tA (Stq.refl (h.turn0 tA)) t9 (Nat.le_refl _) (by omega) hlt)
      · obtain rfl : e0 = 0 := Decidable.byContradiction fun c => hb1 (.inl c)
        obtain rfl : k = sn.length := Decidable.byContradiction fun c => hb1 (.inr c)
        obtain ⟨h5, hkn, hxk, hx⟩ := fTake_ok hp
        obtain ⟨M, kk, e2, hq⟩ : ∃ M kk e2, pTake x = (M, kk, e2) := ⟨_, _, _, rfl⟩
        have HQ := hid hq
        by_cases he2 : e2 = 0
        · subst he2
          obtain ⟨q1, q2, q3, q4⟩ := pTake_ok hq
          have hM : M < 4611686018427387904 := by rcases pSize_cases M with q | q | q | q | q <;> omega
          have HS := hid (show wSnapOf (D.rd 1) = some (true, x.drop kk, M) by rw [hsn, hun, if_neg (by rw [hq]; simp), hq])
          clear hun hp hnil hb1 hxk hq he1 q1 q4 hsn hkn
          go_enter Try.func23, Try.ntmps23
          go_upto_region 12 with (first
            | (refine wp_bd rfl 46 _ rfl _ rfl _ bdK0 ?_)
            | (go_at_call 11; refine (rd1 _ ((T0 w _ _).trans tb)).mono ?_; rintro e w4 ⟨A1, c1, rfl, ho1, t1⟩)
            | (go_at_call 41; refine (rftake_any _ _ _ sn w4.heap.size _ ho1.rd (Nat.le_refl _) ho1.cap.1 ho1.cap.2 (by omega)).mono ?_; intro e w5 hC; obtain ⟨X, m, c', rfl, hX, t2⟩ := hpost hC; have hxm := hX.len; rw [vbs_len] at hxm; have tA := ((T0 w _ _).trans tb).trans (t1.trans t2))
            | (go_at_call 42; refine (rtake_any _ _ _ x w5.heap.size _ hX.rd (by omega)).mono ?_; rintro e w' ⟨rfl, rfl⟩; rw [HQ.out])
            | (refine wp_st (xs := [.bool false, .slice none 0 0, .slice none 0 0, .int .u64 0]) rfl 46 _ _ rfl rfl rfl (hB2 _ _ _) rfl szKp (ones4 rfl rfl rfl rfl) ?_; intro wb hbb htb; have tb := (T0 (w.alloc _) _ _).new htb (by simp)))
          obtain ⟨gX, rfl, _, _⟩ := hX.head (by omega)
          have hrc := hX.rd.cutB (c := c') (k := kk) (by omega) hX.cap.1
          rw [Option.map_some, add_flat, Nat.zero_add] at hrc
          have kc1 : kk ≤ c' := by have := hX.cap.1; omega
          have kc2 : (kk : Int) ≤ (m : Int) := by omega
          have kc4 : (m : Int) ≤ (c' : Int) := by have := hX.cap.1; omega
          have kc3 : c' ≤ 9223372036854775807 := by have := hX.cap.2; unfold maxLen at this; omega
          have hV5 := hbb.turn0 (t1.trans t2)
          have h00 : Own (w5.alloc (.cells #[] 5)) w5.heap.size 5 1 (some ⟨w5.heap.size, 0, none⟩) 0 0 [] := Own.made w5 _ _ 1 0 #[] (Nat.le_refl _) (by decide) rfl
          by_cases hck : c' = kk
          · rw [if_pos hck] at hrc
            subst c'
            have hz : m - kk = 0 := by omega
            rw [hz] at hrc
            go_upto_region 13 with (at_builtin; refine wp_app (base := w5.heap.size) rfl _ _ _ rfl elB rfl rfl h00 (hrc.turn0 (T0 _ _ _) (Nat.le_refl _)) (vbs_one (x.drop kk)) (by unfold maxLen; omega) (by omega) (by show _ ≤ (w5.heap.push _).size; rw [Array.size_push]; omega) ?_; intro A6 c6 w6 ho6 t6' hb6; have t6 : Turn w5 w6 none := (T0 _ _ _).new t6' (fun g hg => by simp [blk] at hg; subst hg; exact Nat.le_refl _); simp only [Nat.zero_add, List.nil_append] at ho6 ⊢; have hV6 := hV5.turn0 t6; have q0 := hV6.ats (j := 0) (v := .bool false) rfl; have f0 := hV6.frozen 0; have hV7 := hV6.sets 0 (.bool true); have q1 := hV7.ats (j := 1) (v := .slice none 0 0) rfl; have f1 := hV7.frozen 1; have hV8 := hV7.sets 1 (.slice A6 0 c6); have q3 := hV8.ats (j := 3) (v := .int .u64 0) rfl; have f3 := hV8.frozen 3; have hV9 := hV8.sets 3 (.int .u64 (M : Int)))
            have sb := htb.size
            rw [al, al] at sb
            have s5 := (t1.trans t2).size
            have tV : Turn w6 (((w6.setCell ⟨w.heap.size + 1, 0, none⟩ (.bool true)).setCell ⟨w.heap.size + 1, 1, none⟩ (.slice A6 0 c6)).setCell ⟨w.heap.size + 1, 3, none⟩ (.int .u64 (M : Int))) (some (w.heap.size + 1)) := ((Blk.setTurn _ _ _ _).trans (Blk.setTurn _ _ _ _)).trans (Blk.setTurn _ _ _ _)
            have hS6 := fun e => (ho6.block (w.heap.size + 1) e).1
            have hSR := fun e => (ho6.block w.heap.size e).1
            exact of_codeO (C' := headO 5 roB) (by kernel_rfl) (ropen_mid (hK := by assumption) (b := true) (s := x.drop kk) (N := M) (bs := w5.heap.size) h ((tA.trans t6).new tV (fun g e => by injection e with e; omega)) (Nat.le_refl _) ((((Blk.new w _ _).turn0 tb).turn0 ((t1.trans t2).trans t6)).turn tV (by simp)) (by omega) hV9 (by omega) (ho6.turn tV (.inr fun e => by have := hS6 e; omega)) (by have := tA.size; omega) (fun i e => by have := (ho6.block i e).1; omega) (by omega) hd HS.out h0)
          · rw [if_neg hck] at hrc
            go_upto_region 13 with (at_builtin; refine wp_app (base := w5.heap.size) rfl _ _ _ rfl elB rfl rfl h00 (hrc.turn0 (T0 _ _ _) (Nat.le_refl _)) (vbs_one (x.drop kk)) (by unfold maxLen; omega) (by omega) (by show _ ≤ (w5.heap.push _).size; rw [Array.size_push]; omega) ?_; intro A6 c6 w6 ho6 t6' hb6; have t6 : Turn w5 w6 none := (T0 _ _ _).new t6' (fun g hg => by simp [blk] at hg; subst hg; exact Nat.le_refl _); simp only [Nat.zero_add, List.nil_append] at ho6 ⊢; have hV6 := hV5.turn0 t6; have q0 := hV6.ats (j := 0) (v := .bool false) rfl; have f0 := hV6.frozen 0; have hV7 := hV6.sets 0 (.bool true); have q1 := hV7.ats (j := 1) (v := .slice none 0 0) rfl; have f1 := hV7.frozen 1; have hV8 := hV7.sets 1 (.slice A6 (m - kk) c6); have q3 := hV8.ats (j := 3) (v := .int .u64 0) rfl; have f3 := hV8.frozen 3; have hV9 := hV8.sets 3 (.int .u64 (M : Int)))
            have sb := htb.size
            rw [al, al] at sb
            have s5 := (t1.trans t2).size
            have tV : Turn w6 (((w6.setCell ⟨w.heap.size + 1, 0, none⟩ (.bool true)).setCell ⟨w.heap.size + 1, 1, none⟩ (.slice A6 (m - kk) c6)).setCell ⟨w.heap.size + 1, 3, none⟩ (.int .u64 (M : Int))) (some (w.heap.size + 1)) := ((Blk.setTurn _ _ _ _).trans (Blk.setTurn _ _ _ _)).trans (Blk.setTurn _ _ _ _)
            have hS6 := fun e => (ho6.block (w.heap.size + 1) e).1
            have hSR := fun e => (ho6.block w.heap.size e).1
            exact of_codeO (C' := headO 5 roB) (by kernel_rfl) (ropen_mid (hK := by assumption) (b := true) (s := x.drop kk) (N := M) (bs := w5.heap.size) h ((tA.trans t6).new tV (fun g e => by injection e with e; omega)) (Nat.le_refl _) ((((Blk.new w _ _).turn0 tb).turn0 ((t1.trans t2).trans t6)).turn tV (by simp)) (by omega) hV9 (by omega) (ho6.turn tV (.inr fun e => by have := hS6 e; omega)) (by have := tA.size; omega) (fun i e => by have := (ho6.block i e).1; omega) (by omega) hd HS.out h0)
        · have HO := hid (openD_form hd (by rw [hsn, hun, if_pos (.inr (.inr (by rw [hq]; exact he2)))]))
          have he3 : ¬ ((e2 : Int) = 0) := by omega
          clear hun hp hnil hb1 hxk hq he1 hsn hkn
          go_enter Try.func23, Try.ntmps23
          go_wp2_with (first
            | (refine wp_bd rfl 46 _ rfl _ rfl _ bdK0 ?_)
            | (go_at_call 11; refine (rd1 _ ((T0 w _ _).trans tb)).mono ?_; rintro e w4 ⟨A1, c1, rfl, ho1, t1⟩)
            | (go_at_call 41; refine (rftake_any _ _ _ sn w4.heap.size _ ho1.rd (Nat.le_refl _) ho1.cap.1 ho1.cap.2 (by omega)).mono ?_; intro e w5 hC; obtain ⟨X, m, c', rfl, hX, t2⟩ := hpost hC; have hxm := hX.len; rw [vbs_len] at hxm; have tA := ((T0 w _ _).trans tb).trans (t1.trans t2))
            | (go_at_call 42; refine (rtake_any _ _ _ x w5.heap.size _ hX.rd (by omega)).mono ?_; rintro e w' ⟨rfl, rfl⟩; rw [HQ.out])
            | (refine wp_st (xs := [.bool false, .slice none 0 0, .slice none 0 0, .int .u64 0]) rfl 46 _ _ rfl rfl rfl (((Blk.new w _ _).turn0 tb).turn0 (t1.trans t2)) rfl szKp (ones4 rfl rfl rfl rfl) ?_; intro w9 hb9 t9)
            | (refine wp_st (xs := [.bool false, .slice none 0 0, .slice none 0 0, .int .u64 0]) rfl 46 _ _ rfl rfl rfl (hB2 _ _ _) rfl szKp (ones4 rfl rfl rfl rfl) ?_; intro wb hbb htb; have tb := (T0 (w.alloc _) _ _).new htb (by simp)))
          refine ret_tct rfl rfl rfl rfl rfl hb9 Try.underlying46 rfl szKp ?_
          have s4 := (tb.trans (t1.trans t2)).size
          rw [al] at s4
          exact ro_no HO.out (by decide) (Stq.late tA (Stq.refl (h.turn0 tA)) t9 (Nat.le_refl _) (by omega) hlt)
  · have hd2 : D.dErr 1 = 140 := he1.resolve_left hd
    rw [hd2] at rd1
    have hO := openD_dead hd
    rw [hd2] at hO
    have HO := hid hO
    clear hO hd hd2 he1
    go_enter Try.func23, Try.ntmps23
    go_wp2_with (first
      | (refine wp_bd rfl 46 _ rfl _ rfl _ bdK0 ?_)
      | (go_at_call 11; refine (rd1 _ ((T0 w _ _).trans tb)).mono ?_; rintro e w4 ⟨A1, c1, rfl, ho1, t1⟩)
      | (refine wp_st (xs := [.bool false, .slice none 0 0, .slice none 0 0, .int .u64 0]) rfl 46 _ _ rfl rfl rfl (((Blk.new w _ _).turn0 tb).turn0 t1) rfl szKp (ones4 rfl rfl rfl rfl) ?_; intro w9 hb9 t9)
      | (refine wp_st (xs := [.bool false, .slice none 0 0, .slice none 0 0, .int .u64 0]) rfl 46 _ _ rfl rfl rfl (hB2 _ _ _) rfl szKp (ones4 rfl rfl rfl rfl) ?_; intro wb hbb htb; have tb := (T0 (w.alloc _) _ _).new htb (by simp)))
    refine ret_tct rfl rfl rfl rfl rfl hb9 Try.underlying46 rfl szKp ?_
    have s4 := (tb.trans t1).size
    rw [al] at s4
    exact ro_no HO.out (by decide) (Stq.late (((T0 w _ _).trans tb).trans t1) (Stq.refl (h.turn0 (((T0 w _ _).trans tb).trans t1))) t9 (Nat.le_refl _) (by omega) hlt)
end Go.Proofs.Ytjekglnbmccnjaa
/-
  Layer 15: the document's Same at what is one; both logs side by side.
-/
namespace Go.Proofs.Ytjekglnbmccnjaa
set_option linter.unusedSimpArgs false
set_option linter.unusedVariables false
open Go.RowKit

set_option maxRecDepth 100000 in
set_option maxHeartbeats 1600000 in
theorem rsame_any {w : World} {Q Q2 : Nat → Prop} {k : Kp} {s x s2 x2 : Sl} {vs vs2 : List Value} (h : Kin w Q k s x vs) (h2 : Kin w Q2 k s2 x2 vs2) (hn : k.recs.length ≤ 140737488355328) :
    Calls Try.prog 24 #[.agg (kpc k s x).toArray, .agg (kpc k s2 x2).toArray] w fun e w' => e = .returned (.bool true) ∧ Turn w w' none := by
  obtain ⟨A, n, c⟩ := s
  obtain ⟨A2, n2, c2⟩ := s2
  obtain ⟨B, m, d⟩ := x
  obtain ⟨B2, m2, d2⟩ := x2
  have T0 : ∀ (w : World) cs t, Turn w (w.alloc (.cells cs t)) none := fun w cs t => (Turn.refl w none).alloc _
  have hm : m ≤ 140737488355328 := by have e : m = k.recs.length := h.rn; omega
  go_enter Try.func24, Try.ntmps24
  go_wp2_with (first
    | (refine wp_bx rfl 46 _ rfl rfl ?_; intro g1 w1 hg1 hb1 t1; refine wp_bx rfl 46 _ rfl rfl ?_; intro g2 w2 hg2 hb2 t2; have hb1 := hb1.turn0 t2; have T2 := t1.trans t2; have h1 := h.turn0 T2; have h2b := h2.turn0 T2; have a0 := hb1.ats (j := 0) (v := .bool k.has) rfl; have a1 := hb1.ats (j := 1) (v := .slice A n c) rfl; have a2 := hb1.ats (j := 2) (v := .slice B m d) rfl; have a3 := hb1.ats (j := 3) (v := .int .u64 (k.next : Int)) rfl; have b0 := hb2.ats (j := 0) (v := .bool k.has) rfl; have b1 := hb2.ats (j := 1) (v := .slice A2 n2 c2) rfl; have b2 := hb2.ats (j := 2) (v := .slice B2 m2 d2) rfl; have b3 := hb2.ats (j := 3) (v := .int .u64 (k.next : Int)) rfl; have s1 := str_run w2 (c := c) h1.sn; have s2 := str_run w2 (c := c2) h2b.sn)
    | (go_at_call 40; refine (same_any _ _ _ _ _ _ _ _ _ _ w2.heap.size _ h1.rw_ h2b.rw_ (Nat.le_refl _) hm).mono ?_; rintro e w3 ⟨rfl, t3⟩))
  go_ret
  exact ⟨by simp, T2.trans t3⟩
end Go.Proofs.Ytjekglnbmccnjaa
/-
  Layer 15: both logs side by side; how great both files are.
-/
namespace Go.Proofs.Ytjekglnbmccnjaa
set_option linter.unusedSimpArgs false
set_option linter.unusedVariables false
open Go.RowKit

/-- What stands fast is no more than that. -/
def Dj (D : Dsk) (B : Nat) : Prop := ∀ i, i < 2 → (D.f i).fa.length ≤ B
section
variable {D : Dsk} {B : Nat}
theorem Dj.all (h : Dj D B) (ok : D.Ok) (hB : 16777216 ≤ B) {i : Nat} (hi : i < 2) : (D.f i).all.length ≤ B := by
  have h1 := h i hi
  rcases (ok.f i hi).few with ⟨h2, h3⟩ | h2
  · unfold Fi.all
    rw [if_neg (by simp [h3]), h2, List.append_nil]
    exact h1
  · omega
theorem Dj.rd (h : Dj D B) (ok : D.Ok) (hB : 16777216 ≤ B) {n : Int} : (D.rd n).length ≤ B := by
  unfold Dsk.rd
  split
  · rename_i h1
    have hq : n = 0 ∨ n = 1 := by
      unfold Dsk.dErr at h1
      split at h1
      · cases h1
      · unfold fErr at h1
        split at h1
        · cases h1
        · omega
    rcases hq with rfl | rfl
    · exact h.all ok hB (by decide)
    · exact h.all ok hB (by decide)
  · simp
theorem Dj.cnt (h : Dj D B) : Dj D.cnt B := fun i hi => by rw [D.cnt_f]; exact h i hi
theorem Dj.put (h : Dj D B) {j : Nat} {f : Fi} (hf : f.fa.length ≤ B) : Dj (D.put j f) B := fun i hi => by
  by_cases e : i = j
  · subst e
    rw [show (D.put i f).f i = f from upd_same _ _ _]
    exact hf
  · rw [show (D.put j f).f i = D.f i from upd_ne _ _ e]
    exact h i hi
theorem toNat2 {n : Int} (h : 0 ≤ n ∧ n ≤ 1) : n.toNat < 2 := by omega
theorem Dj.wr (h : Dj D B) (n : Int) (b : List UInt8) : Dj (D.wr n b) B := by
  unfold Dsk.wr
  split
  · rename_i h1
    obtain ⟨h2, _⟩ := wErr_zero h1
    exact h.cnt.put (h _ (toNat2 (cErr_zero h2).2))
  · exact h.cnt
theorem Dj.rp (h : Dj D B) (n : Int) (b : List UInt8) : Dj (D.rp n b) B := by
  unfold Dsk.rp
  split
  · rename_i h1
    obtain ⟨h2, _⟩ := rErr_zero h1
    exact h.cnt.put (h _ (toNat2 (cErr_zero h2).2))
  · exact h.cnt
theorem Dj.sy (h : Dj D B) (ok : D.Ok) (hB : 16777216 ≤ B) (n : Int) : Dj (D.sy n) B := by
  unfold Dsk.sy
  split
  · rename_i h1
    exact h.cnt.put (h.all ok hB (toNat2 (cErr_zero h1).2))
  · exact h.cnt
theorem Dj.arm (h : Dj D B) (c : Int) : Dj (D.arm c) B := h
theorem Dj.crash (h : Dj D B) (ok : D.Ok) (hB : 16777216 ≤ B) (keep : Int) {t : List UInt8} {m : Nat} (ht : t.length ≤ m) : Dj (D.crash keep t) (B + m) := fun i hi => by
  show ((D.f i).left keep t).length ≤ B + m
  have h1 := h i hi
  have h2 := h.all ok hB hi
  unfold Fi.left
  split
  · split <;> omega
  · rename_i hs
    have hs : (D.f i).is = false := by simpa using hs
    split
    · omega
    · rename_i hm
      rcases (ok.f i hi).few with ⟨h3, _⟩ | h3
      · exact absurd h3 hm
      · rw [Fi.all_pre hs, List.length_append] at h3
        rw [List.length_append, List.length_append, List.length_take]
        omega
theorem Dj.mono {B' : Nat} (h : Dj D B) (hB : B ≤ B') : Dj D B' := fun i hi => Nat.le_trans (h i hi) hB
theorem Dj.rpS (h : Dj D B) (ok : D.Ok) (hB : 16777216 ≤ B) (n : Int) (b : List UInt8) : Dj (D.rpS n b).2 B := by
  unfold Dsk.rpS
  split
  · exact h.rp n b
  · exact (h.rp n b).sy (ok.rp n b) hB n
theorem rpS_ok (ok : D.Ok) (n : Int) (b : List UInt8) : (D.rpS n b).2.Ok := by
  unfold Dsk.rpS
  split
  · exact ok.rp n b
  · exact (ok.rp n b).sy n
theorem Dj.apN (h : Dj D B) (ok : D.Ok) (hB : 16777216 ≤ B) (n : Nat) (b : List UInt8) : Dj (D.apN n b).2.1 B := by
  unfold Dsk.apN
  repeat' split
  · exact h
  · exact h.wr _ _
  · exact (h.wr _ _).sy (ok.wr _ _) hB _
  · exact (h.wr _ _).sy (ok.wr _ _) hB _
theorem Dj.snN (h : Dj D B) (ok : D.Ok) (hB : 16777216 ≤ B) (n : Nat) (b : List UInt8) : Dj (D.snN n b).2 B := by
  unfold Dsk.snN
  split
  · exact h
  · rw [snapD_rpS]
    split
    · exact h.rpS ok hB _ _
    · exact (h.rpS ok hB _ _).rpS (rpS_ok ok _ _) hB _ _
theorem Dj.openD (h : Dj D B) (ok : D.Ok) (hB : 16777216 ≤ B) : Dj D.openD.2.2 B := by
  by_cases hd : D.dErr 1 = 0
  · cases hs : wSnapOf (D.rd 1) with
    | none => rw [openD_form hd hs]; exact h
    | some q =>
      obtain ⟨b, s, N⟩ := q
      rw [openD_go hd hs]
      repeat' split
      · exact h.rpS ok hB _ _
      · exact h.rpS ok hB _ _
      · exact h
  · rw [openD_dead hd]; exact h
end
theorem apN_next {D : Dsk} {n : Nat} {b : List UInt8} (h : n ≤ 9223372036854775807) : (D.apN n b).2.2 ≤ 9223372036854775807 := by
  unfold Dsk.apN
  split
  · exact h
  · rename_i h1
    have := wFr_lt (n := n) (b := b) (by simpa using h1)
    repeat' split
    all_goals first | exact h | (show n + 1 ≤ _; omega)
theorem Pk.ok {w : World} {g : Nat} {R : Nat → Prop} {D : Dsk} (h : Pk w g R D) : D.Ok := by
  obtain ⟨S, v, u, lv, hp, _⟩ := h
  exact hp.ok

theorem openD_recs {D D2 : Dsk} {E : Int} {k : Kp} (h : D.openD = (E, some k, D2)) : k.recs.length ≤ (D.rd 0).length := by
  by_cases hd : D.dErr 1 = 0
  · cases hs : wSnapOf (D.rd 1) with
    | none => rw [openD_form hd hs] at h; simp at h
    | some q =>
      obtain ⟨b, s, N⟩ := q
      rw [openD_go hd hs] at h
      have hf := wGo_few N (D.rd 0).length [] N (D.rd 0)
      have hf : (wGo (D.rd 0).length N [] N (D.rd 0)).1.length * 5 ≤ 0 + (D.rd 0).length := hf
      split at h
      · split at h
        · simp at h
        · simp only [Prod.mk.injEq, Option.some.injEq] at h
          rw [← h.2.1]
          show (wGo (D.rd 0).length N [] N (D.rd 0)).1.length ≤ _
          omega
      · simp only [Prod.mk.injEq, Option.some.injEq] at h
        rw [← h.2.1]
        show (wGo (D.rd 0).length N [] N (D.rd 0)).1.length ≤ _
        omega
  · rw [openD_dead hd] at h; simp at h
/-- Both logs, or none. -/
structure Lgs (w0 w : World) (gp g r gw gv : Nat) (R T : Nat → Prop) (n : Nat) : Prop where
  b : Blk w gw 81 (wlc g n).toArray
  c : Blk w gv 74 (wlc r n).toArray
  bR : ¬ R gw
  bT : ¬ T gw
  cR : ¬ R gv
  cT : ¬ T gv
  bc : gw ≠ gv
  bp : gw ≠ gp
  cp : gv ≠ gp
  b0 : w0.heap.size ≤ gw
  c0 : w0.heap.size ≤ gv
  n : n ≤ 9223372036854775807
def ptr : Option Nat → Value
  | none => .pointer none
  | some g => .pointer (some ⟨g, 0, none⟩)
def prc (g r : Nat) (x y : Option Nat) : List Value := [.pointer (some ⟨g, 0, none⟩), .pointer (some ⟨r, 0, none⟩), ptr x, ptr y]
/-- The pair of the law: both disks, which have the same, both logs. -/
structure Pq (w0 w : World) (gp g r : Nat) (D E : Dsk) (R T : Nat → Prop) (x y : Option Nat) : Prop where
  d : Bp w0 w g r R T D E
  b : Blk w gp 31 (prc g r x y).toArray
  pR : ¬ R gp
  pT : ¬ T gp
  p0 : w0.heap.size ≤ gp
  l : (x = none ∧ y = none) ∨ ∃ gw gv n, x = some gw ∧ y = some gv ∧ Lgs w0 w gp g r gw gv R T n
section
variable {w0 w w' : World} {g r gp : Nat} {R T R' T' : Nat → Prop} {D E D' : Dsk}
theorem Bp.stp1 (h : Bp w0 w g r R T D E) (hc : Chg w w' R) (hp : Pk w' g R' D') (hk : ∀ k, R' k → R k ∨ w.heap.size ≤ k) : Bp w0 w' g r R' T D' E := by
  have s0 := h.tw.size
  refine ⟨hp, h.q.chg hc h.dis, fun k h1 h2 => (hk k h1).elim (fun h3 => h.dis k h3 h2) (fun h3 => by have := h.q.lt h2; omega), fun k h1 => (hk k h1).elim (h.r0 k) (fun h3 => by omega), h.t0, ?_⟩
  exact ((Chg.of0 h.tw R).trans hc fun i hi => .inl hi).turn h.r0
theorem Bp.stq1 (h : Bp w0 w g r R T D E) (hc : Chg w w' T) (hp : Rk w' r T' D') (hk : ∀ k, T' k → T k ∨ w.heap.size ≤ k) : Bp w0 w' g r R T' D D' := by
  have s0 := h.tw.size
  refine ⟨h.p.chg hc h.dis, hp, fun k h1 h2 => (hk k h2).elim (fun h3 => h.dis k h1 h3) (fun h3 => by have := h.p.lt h1; omega), h.r0, fun k h1 => (hk k h1).elim (h.t0 k) (fun h3 => by omega), ?_⟩
  exact ((Chg.of0 h.tw T).trans hc fun i hi => .inl hi).turn h.t0
theorem chg1 {i : Nat} (h : Turn w w' (some i)) : Chg w w' (fun k => k = i) := Chg.of h fun k e => by injection e with e; exact e.symm
theorem Bp.one (h : Bp w0 w g r R T D E) (ht : Turn w w' (some gp)) (h1 : ¬ R gp) (h2 : ¬ T gp) (h0 : w0.heap.size ≤ gp) : Bp w0 w' g r R T D E :=
  ⟨h.p.chg (chg1 ht) fun k hk e => h1 (e ▸ hk), h.q.chg (chg1 ht) fun k e hk => h2 (e ▸ hk), h.dis, h.r0, h.t0, h.tw.new ht fun g e => by injection e with e; omega⟩
end
end Go.Proofs.Ytjekglnbmccnjaa
