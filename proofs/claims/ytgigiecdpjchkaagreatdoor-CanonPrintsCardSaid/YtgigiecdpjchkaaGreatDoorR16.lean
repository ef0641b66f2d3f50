import Derived.Test.YtgigiecdpjchkaaGreatDoorR15
import Derived.Test.YtgigiecdpjchkaaGreatDoorR1
set_option linter.unusedSimpArgs false
set_option linter.unusedVariables false
set_option linter.unusedSectionVars false
set_option maxRecDepth 100000
set_option maxHeartbeats 6400000
namespace Go.Proofs.YtgigiecdpjchkaaGreatDoor
open Go.RowKit
theorem of_code2 {P : Program} {C C' : Code} {Q : Exit → Act → World → Prop} {a : Act} {w : World} (h : C = C') (g : Code.wp P C' Q a w) : Code.wp P C Q a w := h ▸ g
def mEnd (T : List Tok) (f d : Nat) (K n : Int) (s : St) : Nat × St :=
 if s.why ≠ 0 then (0, s) else if K < 0 then (n.toNat, mOn T s) else mBody T (fun u => mTyped T f (d + 1) u) K (mOn T s)
section
variable {w w0 : World} {b : QB} {s : St} {f d : Nat} {n : Int} {r : Nat × St}
theorem typ_end_neg {K : Int} (h : PS w b s) (hw0 : Bd b w0) (f0 : Fq b w0 w) (hK : K < 0) (hn : s.why = 0 → 0 ≤ n) (HR : Hid (r = mEnd b.T f d K n s)) {KK : Act → World → Prop} (hKK : ∀ a w, Code.wp Tryz.prog (tailOf 9 typB) (bodyPost Tryz.prog Tryz.f49 (TPost b w0 r)) a w → KK a w) {K2 : Act → World → Prop} (hK2 : ∀ a w, Code.wp Tryz.prog (tailOf 1 (headOf 8 typB)) (Exit.then KK (bodyPost Tryz.prog Tryz.f49 (TPost b w0 r))) a w → K2 a w) {e_2 e_3 e_4 e_5 e_6 e_7 e_8 e_9 e_12 e_13 e_14 e_15 e_16 e_17 e_18 e_19 e_20 e_21 e_22 e_23 e_24 e_25 e_26 e_27 e_28 e_29 e_30 e_31 e_32 e_33 e_34 e_35 e_36 e_37 e_38 e_39 e_40 e_41 e_42 e_43 e_44 e_45 e_46 e_47 e_48 e_49 e_50 e_51 e_52 e_53 e_54 e_55 e_56 e_57 e_58 e_59 e_60 e_61 e_62 e_63 e_64 e_65 e_66 e_67 e_68 e_69 e_70 e_71 e_72 e_73 e_74 e_75 e_76 e_77 e_78 e_79 e_80 e_81 e_82 e_83 e_84 e_85 e_86 e_87 e_88 e_89 e_90 e_91 e_92 e_93 e_94 e_95 e_96 e_97 e_98 e_99 e_100 e_101 e_102 e_103 e_104 e_105 e_106 e_107 e_108 e_109 e_110 e_111 e_112 e_113 e_114 e_115 e_116 e_117 e_118 e_119 e_120 e_121 e_122 e_123 e_124 e_125 e_126 e_127 e_128 e_129 e_130 e_131 e_132 e_133 e_134 e_135 e_136 e_137 e_138 e_139 e_140 e_141 e_142 e_143 e_144 e_145 e_146 e_147 e_148 e_149 e_150 e_151 e_152 e_153 e_154 e_155 e_156 e_157 e_158 e_159 e_160 : Value} :
  Code.wp Tryz.prog (headOf 0 (headOf 8 typB)) (Exit.then K2 (Exit.then KK (bodyPost Tryz.prog Tryz.f49 (TPost b w0 r)))) ⟨List.toArray (.pointer (some ⟨b.pB, 0, none⟩) :: .int .i64 (d : Int) :: e_2 :: e_3 :: e_4 :: e_5 :: e_6 :: e_7 :: e_8 :: e_9 :: .int .i64 K :: .int .i64 n :: e_12 :: e_13 :: e_14 :: e_15 :: e_16 :: e_17 :: e_18 :: e_19 :: e_20 :: e_21 :: e_22 :: e_23 :: e_24 :: e_25 :: e_26 :: e_27 :: e_28 :: e_29 :: e_30 :: e_31 :: e_32 :: e_33 :: e_34 :: e_35 :: e_36 :: e_37 :: e_38 :: e_39 :: e_40 :: e_41 :: e_42 :: e_43 :: e_44 :: e_45 :: e_46 :: e_47 :: e_48 :: e_49 :: e_50 :: e_51 :: e_52 :: e_53 :: e_54 :: e_55 :: e_56 :: e_57 :: e_58 :: e_59 :: e_60 :: e_61 :: e_62 :: e_63 :: e_64 :: e_65 :: e_66 :: e_67 :: e_68 :: e_69 :: e_70 :: e_71 :: e_72 :: e_73 :: e_74 :: e_75 :: e_76 :: e_77 :: e_78 :: e_79 :: e_80 :: e_81 :: e_82 :: e_83 :: e_84 :: e_85 :: e_86 :: e_87 :: e_88 :: e_89 :: e_90 :: e_91 :: e_92 :: e_93 :: e_94 :: e_95 :: e_96 :: e_97 :: e_98 :: e_99 :: e_100 :: e_101 :: e_102 :: e_103 :: e_104 :: e_105 :: e_106 :: e_107 :: e_108 :: e_109 :: e_110 :: e_111 :: e_112 :: e_113 :: e_114 :: e_115 :: e_116 :: e_117 :: e_118 :: e_119 :: e_120 :: e_121 :: e_122 :: e_123 :: e_124 :: e_125 :: e_126 :: e_127 :: e_128 :: e_129 :: e_130 :: e_131 :: e_132 :: e_133 :: e_134 :: e_135 :: e_136 :: e_137 :: e_138 :: e_139 :: e_140 :: e_141 :: e_142 :: e_143 :: e_144 :: e_145 :: e_146 :: e_147 :: e_148 :: e_149 :: e_150 :: e_151 :: e_152 :: e_153 :: e_154 :: e_155 :: e_156 :: e_157 :: e_158 :: e_159 :: e_160 :: []), []⟩ w := by
 have p3 := h.p3
 by_cases hz : s.why = 0
 ·have e1 : ((s.why : Int) != 0) = false := by rw [bne_eq_false_iff_eq]; omega
  have HB := hid (show r = (n.toNat, mOn b.T s) by rw [HR.out]; unfold mEnd; rw [if_neg (by simp [hz]), if_pos hK])
  have hn0 := hn hz
  have HN := hid (show ((n.toNat : Nat) : Int) = n by omega)
  clear hz hn hn0 HR
  conv => arg 2; whnf
  conv at hKK => enter [a, w, 1, 2]; whnf
  conv at hK2 => enter [a, w, 1, 2]; whnf
  go_wp2_with (go_at_call 82; refine (pon_any h).mono ?_; rintro e w1 ⟨rfl, h1, t1⟩)
  go_ret
  rw [HB.out]
  exact ⟨by rw [HN.out]; rfl, h1, f0.trans (h.fq t1)⟩
 ·have e1 : ((s.why : Int) != 0) = true := by rw [bne_iff_ne]; omega
  have HB := hid (show r = (0, s) by rw [HR.out]; unfold mEnd; rw [if_pos hz])
  clear hz hn HR
  conv => arg 2; whnf
  conv at hKK => enter [a, w, 1, 2]; whnf
  conv at hK2 => enter [a, w, 1, 2]; whnf
  go_wp2
  go_ret
  rw [HB.out]
  exact ⟨rfl, h, f0⟩
theorem typ_end_pos {k : Nat} (TQ : d < 20 → TypQ f (d + 1)) (h : PS w b s) (hw0 : Bd b w0) (f0 : Fq b w0 w) (hk : k < 12) (hn : s.why = 0 → d < 20 ∧ s.N.length < 200) (HR : Hid (r = mEnd b.T f d (k : Int) n s)) {KK : Act → World → Prop} (hKK : ∀ a w, Code.wp Tryz.prog (tailOf 9 typB) (bodyPost Tryz.prog Tryz.f49 (TPost b w0 r)) a w → KK a w) {K2 : Act → World → Prop} (hK2 : ∀ a w, Code.wp Tryz.prog (tailOf 1 (headOf 8 typB)) (Exit.then KK (bodyPost Tryz.prog Tryz.f49 (TPost b w0 r))) a w → K2 a w) {e_2 e_3 e_4 e_5 e_6 e_7 e_8 e_9 e_12 e_13 e_14 e_15 e_16 e_17 e_18 e_19 e_20 e_21 e_22 e_23 e_24 e_25 e_26 e_27 e_28 e_29 e_30 e_31 e_32 e_33 e_34 e_35 e_36 e_37 e_38 e_39 e_40 e_41 e_42 e_43 e_44 e_45 e_46 e_47 e_48 e_49 e_50 e_51 e_52 e_53 e_54 e_55 e_56 e_57 e_58 e_59 e_60 e_61 e_62 e_63 e_64 e_65 e_66 e_67 e_68 e_69 e_70 e_71 e_72 e_73 e_74 e_75 e_76 e_77 e_78 e_79 e_80 e_81 e_82 e_83 e_84 e_85 e_86 e_87 e_88 e_89 e_90 e_91 e_92 e_93 e_94 e_95 e_96 e_97 e_98 e_99 e_100 e_101 e_102 e_103 e_104 e_105 e_106 e_107 e_108 e_109 e_110 e_111 e_112 e_113 e_114 e_115 e_116 e_117 e_118 e_119 e_120 e_121 e_122 e_123 e_124 e_125 e_126 e_127 e_128 e_129 e_130 e_131 e_132 e_133 e_134 e_135 e_136 e_137 e_138 e_139 e_140 e_141 e_142 e_143 e_144 e_145 e_146 e_147 e_148 e_149 e_150 e_151 e_152 e_153 e_154 e_155 e_156 e_157 e_158 e_159 e_160 : Value} :
  Code.wp Tryz.prog (headOf 0 (headOf 8 typB)) (Exit.then K2 (Exit.then KK (bodyPost Tryz.prog Tryz.f49 (TPost b w0 r)))) ⟨List.toArray (.pointer (some ⟨b.pB, 0, none⟩) :: .int .i64 (d : Int) :: e_2 :: e_3 :: e_4 :: e_5 :: e_6 :: e_7 :: e_8 :: e_9 :: .int .i64 (k : Int) :: .int .i64 n :: e_12 :: e_13 :: e_14 :: e_15 :: e_16 :: e_17 :: e_18 :: e_19 :: e_20 :: e_21 :: e_22 :: e_23 :: e_24 :: e_25 :: e_26 :: e_27 :: e_28 :: e_29 :: e_30 :: e_31 :: e_32 :: e_33 :: e_34 :: e_35 :: e_36 :: e_37 :: e_38 :: e_39 :: e_40 :: e_41 :: e_42 :: e_43 :: e_44 :: e_45 :: e_46 :: e_47 :: e_48 :: e_49 :: e_50 :: e_51 :: e_52 :: e_53 :: e_54 :: e_55 :: e_56 :: e_57 :: e_58 :: e_59 :: e_60 :: e_61 :: e_62 :: e_63 :: e_64 :: e_65 :: e_66 :: e_67 :: e_68 :: e_69 :: e_70 :: e_71 :: e_72 :: e_73 :: e_74 :: e_75 :: e_76 :: e_77 :: e_78 :: e_79 :: e_80 :: e_81 :: e_82 :: e_83 :: e_84 :: e_85 :: e_86 :: e_87 :: e_88 :: e_89 :: e_90 :: e_91 :: e_92 :: e_93 :: e_94 :: e_95 :: e_96 :: e_97 :: e_98 :: e_99 :: e_100 :: e_101 :: e_102 :: e_103 :: e_104 :: e_105 :: e_106 :: e_107 :: e_108 :: e_109 :: e_110 :: e_111 :: e_112 :: e_113 :: e_114 :: e_115 :: e_116 :: e_117 :: e_118 :: e_119 :: e_120 :: e_121 :: e_122 :: e_123 :: e_124 :: e_125 :: e_126 :: e_127 :: e_128 :: e_129 :: e_130 :: e_131 :: e_132 :: e_133 :: e_134 :: e_135 :: e_136 :: e_137 :: e_138 :: e_139 :: e_140 :: e_141 :: e_142 :: e_143 :: e_144 :: e_145 :: e_146 :: e_147 :: e_148 :: e_149 :: e_150 :: e_151 :: e_152 :: e_153 :: e_154 :: e_155 :: e_156 :: e_157 :: e_158 :: e_159 :: e_160 :: []), []⟩ w := by
 have p3 := h.p3
 have hK : ¬((k : Int) < 0) := by omega
 by_cases hz : s.why = 0
 ·have e1 : ((s.why : Int) != 0) = false := by rw [bne_eq_false_iff_eq]; omega
  have HB := hid (show r = mBody b.T (fun u => mTyped b.T f (d + 1) u) (k : Int) (mOn b.T s) by rw [HR.out]; unfold mEnd; rw [if_neg (by simp [hz]), if_neg hK])
  obtain ⟨hd, hS⟩ := hn hz
  obtain ⟨s1, hs1⟩ : ∃ s1, s1 = mOn b.T s := ⟨_, rfl⟩
  have hz1 : s1.why = 0 := by rw [hs1, (mOn_N _).2.1]; exact hz
  have hS1 : s1.N.length < 200 := by rw [hs1, (mOn_N _).1]; exact hS
  have on := pon_any h
  rw [← hs1] at HB on
  clear hz hn HR hs1
  conv => arg 2; whnf
  conv at hKK => enter [a, w, 1, 2]; whnf
  conv at hK2 => enter [a, w, 1, 2]; whnf
  go_upto_region 16 with (go_at_call 82; refine on.mono ?_; rintro e w1 ⟨rfl, h1, t1⟩)
  exact of_code2 (C' := headOf 11 typB) (by kernel_rfl) (typ_tail hd (TQ hd) h1 hw0 (f0.trans (h.fq t1)) hz1 hS1 hk HB (by assumption))
 ·have e1 : ((s.why : Int) != 0) = true := by rw [bne_iff_ne]; omega
  have HB := hid (show r = (0, s) by rw [HR.out]; unfold mEnd; rw [if_pos hz])
  clear hz hn HR
  conv => arg 2; whnf
  conv at hKK => enter [a, w, 1, 2]; whnf
  conv at hK2 => enter [a, w, 1, 2]; whnf
  go_wp2
  go_ret
  rw [HB.out]
  exact ⟨rfl, h, f0⟩
end
open Go.RowKit
def mMid (T : List Tok) (f d : Nat) (un : Option (List Nat)) (K n : Int) (s : St) : Nat × St :=
 mEnd T f d K n (mBad T (un.isSome && (mSame s.N (un.getD []) K n && (decide (0 ≤ K) || decide (0 ≤ n)))) 6 (mBad T (un.isSome && decide (K = 8)) 4 (mBad T (decide (K < 0) && decide (n < 0)) 5 (mBad T (mLong d K s) 2 s))))
theorem mBad0 {T : List Tok} {is : Bool} {e : Nat} {s : St} (he : e ≠ 0) (h : (mBad T is e s).why = 0) : is = false ∧ s.why = 0 := by
 unfold mBad at h
 by_cases hz : s.why = 0
 ·cases is with
  | false => exact ⟨rfl, hz⟩
  | true => rw [if_pos ⟨rfl, hz⟩] at h; exact absurd h he
 ·rw [if_neg (fun q => hz q.2)] at h; exact absurd h hz
section
variable {w w' w0 : World} {b : QB} {s s' : St} {f d : Nat} {n : Int} {r : Nat × St} {A : Option Addr} {l : List Nat}
theorem UnOk.turn (h : UnOk w b s A l) (ht : Turn w w' (some b.pB)) (hN : s'.N = s.N) : UnOk w' b s' A l :=
 ⟨(h.rd.turnNe ht (Nat.le_refl _) (.inr h.off)).mono ht.size, h.off, by rw [hN]; exact h.inn, h.few⟩
theorem typ_mid_neg_none {K : Int} (h : PS w b s) (hw0 : Bd b w0) (f0 : Fq b w0 w) (hK : K < 0) (HR : Hid (r = mMid b.T f d none K n s)) {KK : Act → World → Prop} (hKK : ∀ a w, Code.wp Tryz.prog (tailOf 5 typB) (bodyPost Tryz.prog Tryz.f49 (TPost b w0 r)) a w → KK a w) {e_3 e_4 e_5 e_6 e_7 e_8 e_9 e_12 e_13 e_14 e_15 e_16 e_17 e_18 e_19 e_20 e_21 e_22 e_23 e_24 e_25 e_26 e_27 e_28 e_29 e_30 e_31 e_32 e_33 e_34 e_35 e_36 e_37 e_38 e_39 e_40 e_41 e_42 e_43 e_44 e_45 e_46 e_47 e_48 e_49 e_50 e_51 e_52 e_53 e_54 e_55 e_56 e_57 e_58 e_59 e_60 e_61 e_62 e_63 e_64 e_65 e_66 e_67 e_68 e_69 e_70 e_71 e_72 e_73 e_74 e_75 e_76 e_77 e_78 e_79 e_80 e_81 e_82 e_83 e_84 e_85 e_86 e_87 e_88 e_89 e_90 e_91 e_92 e_93 e_94 e_95 e_96 e_97 e_98 e_99 e_100 e_101 e_102 e_103 e_104 e_105 e_106 e_107 e_108 e_109 e_110 e_111 e_112 e_113 e_114 e_115 e_116 e_117 e_118 e_119 e_120 e_121 e_122 e_123 e_124 e_125 e_126 e_127 e_128 e_129 e_130 e_131 e_132 e_133 e_134 e_135 e_136 e_137 e_138 e_139 e_140 e_141 e_142 e_143 e_144 e_145 e_146 e_147 e_148 e_149 e_150 e_151 e_152 e_153 e_154 e_155 e_156 e_157 e_158 e_159 e_160 : Value} :
  Code.wp Tryz.prog (headOf 4 typB) (Exit.then KK (bodyPost Tryz.prog Tryz.f49 (TPost b w0 r))) ⟨List.toArray (.pointer (some ⟨b.pB, 0, none⟩) :: .int .i64 (d : Int) :: .bool false :: e_3 :: e_4 :: e_5 :: e_6 :: e_7 :: e_8 :: e_9 :: .int .i64 K :: .int .i64 n :: e_12 :: e_13 :: e_14 :: e_15 :: e_16 :: e_17 :: e_18 :: e_19 :: e_20 :: e_21 :: e_22 :: e_23 :: e_24 :: e_25 :: e_26 :: e_27 :: e_28 :: e_29 :: e_30 :: e_31 :: e_32 :: e_33 :: e_34 :: e_35 :: e_36 :: e_37 :: e_38 :: e_39 :: e_40 :: e_41 :: e_42 :: e_43 :: e_44 :: e_45 :: e_46 :: e_47 :: e_48 :: e_49 :: e_50 :: e_51 :: e_52 :: e_53 :: e_54 :: e_55 :: e_56 :: e_57 :: e_58 :: e_59 :: e_60 :: e_61 :: e_62 :: e_63 :: e_64 :: e_65 :: e_66 :: e_67 :: e_68 :: e_69 :: e_70 :: e_71 :: e_72 :: e_73 :: e_74 :: e_75 :: e_76 :: e_77 :: e_78 :: e_79 :: e_80 :: e_81 :: e_82 :: e_83 :: e_84 :: e_85 :: e_86 :: e_87 :: e_88 :: e_89 :: e_90 :: e_91 :: e_92 :: e_93 :: e_94 :: e_95 :: e_96 :: e_97 :: e_98 :: e_99 :: e_100 :: e_101 :: e_102 :: e_103 :: e_104 :: e_105 :: e_106 :: e_107 :: e_108 :: e_109 :: e_110 :: e_111 :: e_112 :: e_113 :: e_114 :: e_115 :: e_116 :: e_117 :: e_118 :: e_119 :: e_120 :: e_121 :: e_122 :: e_123 :: e_124 :: e_125 :: e_126 :: e_127 :: e_128 :: e_129 :: e_130 :: e_131 :: e_132 :: e_133 :: e_134 :: e_135 :: e_136 :: e_137 :: e_138 :: e_139 :: e_140 :: e_141 :: e_142 :: e_143 :: e_144 :: e_145 :: e_146 :: e_147 :: e_148 :: e_149 :: e_150 :: e_151 :: e_152 :: e_153 :: e_154 :: e_155 :: e_156 :: e_157 :: e_158 :: e_159 :: e_160 :: []), []⟩ w := by
 have hK0 : ¬(0 : Int) ≤ K := by omega
 obtain ⟨c2, hc2⟩ : ∃ c2, decide (n < 0) = c2 := ⟨_, rfl⟩
 by_cases hd20 : 20 ≤ d
 ·have hdi : (20 : Int) ≤ (d : Int) := by omega
  have HB := hid (show r = mEnd b.T f d K n (mBad b.T false 6 (mBad b.T false 4 (mBad b.T c2 5 (mBad b.T true 2 s)))) by
   rw [HR.out]
   unfold mMid
   congr 1
   have q1 : mLong d K s = true := by unfold mLong; rw [decide_eq_true hd20, Bool.true_or]
   have q2 : (decide (K < 0) && decide (n < 0)) = c2 := by rw [decide_eq_true hK, Bool.true_and, hc2]
   have q3 : (false && decide (K = 8)) = false := by rfl
   have q4 : (false && (mSame s.N [] K n && (decide (0 ≤ K) || decide (0 ≤ n)))) = false := by rfl
   rw [q1, q2]
   show mBad b.T (false && _) 6 (mBad b.T (false && _) 4 _) = _
   rw [q3]
   show mBad b.T (false && (mSame s.N [] _ n && _)) 6 _ = _
   rw [q4])
  clear HR
  conv => arg 2; whnf
  conv at hKK => enter [a, w, 1, 2]; whnf
  go_upto_region 11 with (first
   | (go_at_call 50; refine (pbad_any h4 false 6).mono ?_; rintro e w5 ⟨rfl, h5, t5⟩)
   | (go_at_call 50; refine (pbad_any h3 false 4).mono ?_; rintro e w4 ⟨rfl, h4, t4⟩)
   | (go_at_call 50; refine (pbad_any h2 c2 5).mono ?_; rintro e w3 ⟨rfl, h3, t3⟩)
   | (go_at_call 50; refine (pbad_any h true 2).mono ?_; rintro e w2 ⟨rfl, h2, t2⟩))
  have f5 : Fq b w0 w5 := (((f0.trans (h.fq t2)).trans (h2.fq t3)).trans (h3.fq t4)).trans (h4.fq t5)
  refine of_code2 (C' := headOf 0 (headOf 8 typB)) (by kernel_rfl) (typ_end_neg h5 hw0 f5 hK (fun hz => ?_) HB (by assumption) (by assumption))
  obtain ⟨z4, hz⟩ := mBad0 (by decide) hz
  obtain ⟨z3, hz⟩ := mBad0 (by decide) hz
  obtain ⟨z2, hz⟩ := mBad0 (by decide) hz
  obtain ⟨z1, hz⟩ := mBad0 (by decide) hz
  rw [z2] at hc2
  have := of_decide_eq_false hc2
  omega
 ·have hdi : ¬(20 : Int) ≤ (d : Int) := by omega
  have HB := hid (show r = mEnd b.T f d K n (mBad b.T false 6 (mBad b.T false 4 (mBad b.T c2 5 (mBad b.T false 2 s)))) by
   rw [HR.out]
   unfold mMid
   congr 1
   have q1 : mLong d K s = false := by unfold mLong; rw [decide_eq_false hd20, Bool.false_or, decide_eq_false hK0, Bool.false_and]
   have q2 : (decide (K < 0) && decide (n < 0)) = c2 := by rw [decide_eq_true hK, Bool.true_and, hc2]
   have q3 : (false && decide (K = 8)) = false := by rfl
   have q4 : (false && (mSame s.N [] K n && (decide (0 ≤ K) || decide (0 ≤ n)))) = false := by rfl
   rw [q1, q2]
   show mBad b.T (false && _) 6 (mBad b.T (false && _) 4 _) = _
   rw [q3]
   show mBad b.T (false && (mSame s.N [] _ n && _)) 6 _ = _
   rw [q4])
  clear HR
  conv => arg 2; whnf
  conv at hKK => enter [a, w, 1, 2]; whnf
  go_upto_region 11 with (first
   | (go_at_call 50; refine (pbad_any h4 false 6).mono ?_; rintro e w5 ⟨rfl, h5, t5⟩)
   | (go_at_call 50; refine (pbad_any h3 false 4).mono ?_; rintro e w4 ⟨rfl, h4, t4⟩)
   | (go_at_call 50; refine (pbad_any h2 c2 5).mono ?_; rintro e w3 ⟨rfl, h3, t3⟩)
   | (go_at_call 50; refine (pbad_any h false 2).mono ?_; rintro e w2 ⟨rfl, h2, t2⟩))
  have f5 : Fq b w0 w5 := (((f0.trans (h.fq t2)).trans (h2.fq t3)).trans (h3.fq t4)).trans (h4.fq t5)
  refine of_code2 (C' := headOf 0 (headOf 8 typB)) (by kernel_rfl) (typ_end_neg h5 hw0 f5 hK (fun hz => ?_) HB (by assumption) (by assumption))
  obtain ⟨z4, hz⟩ := mBad0 (by decide) hz
  obtain ⟨z3, hz⟩ := mBad0 (by decide) hz
  obtain ⟨z2, hz⟩ := mBad0 (by decide) hz
  obtain ⟨z1, hz⟩ := mBad0 (by decide) hz
  rw [z2] at hc2
  have := of_decide_eq_false hc2
  omega
theorem typ_mid_neg_some {K : Int} (h : PS w b s) (hw0 : Bd b w0) (f0 : Fq b w0 w) (hK : K < 0) (hu : UnOk w b s A l) {c : Nat} (HR : Hid (r = mMid b.T f d (some l) K n s)) {KK : Act → World → Prop} (hKK : ∀ a w, Code.wp Tryz.prog (tailOf 5 typB) (bodyPost Tryz.prog Tryz.f49 (TPost b w0 r)) a w → KK a w) {e_4 e_5 e_6 e_7 e_8 e_9 e_12 e_13 e_14 e_15 e_16 e_17 e_18 e_19 e_20 e_21 e_22 e_23 e_24 e_25 e_26 e_27 e_28 e_29 e_30 e_31 e_32 e_33 e_34 e_35 e_36 e_37 e_38 e_39 e_40 e_41 e_42 e_43 e_44 e_45 e_46 e_47 e_48 e_49 e_50 e_51 e_52 e_53 e_54 e_55 e_56 e_57 e_58 e_59 e_60 e_61 e_62 e_63 e_64 e_65 e_66 e_67 e_68 e_69 e_70 e_71 e_72 e_73 e_74 e_75 e_76 e_77 e_78 e_79 e_80 e_81 e_82 e_83 e_84 e_85 e_86 e_87 e_88 e_89 e_90 e_91 e_92 e_93 e_94 e_95 e_96 e_97 e_98 e_99 e_100 e_101 e_102 e_103 e_104 e_105 e_106 e_107 e_108 e_109 e_110 e_111 e_112 e_113 e_114 e_115 e_116 e_117 e_118 e_119 e_120 e_121 e_122 e_123 e_124 e_125 e_126 e_127 e_128 e_129 e_130 e_131 e_132 e_133 e_134 e_135 e_136 e_137 e_138 e_139 e_140 e_141 e_142 e_143 e_144 e_145 e_146 e_147 e_148 e_149 e_150 e_151 e_152 e_153 e_154 e_155 e_156 e_157 e_158 e_159 e_160 : Value} :
  Code.wp Tryz.prog (headOf 4 typB) (Exit.then KK (bodyPost Tryz.prog Tryz.f49 (TPost b w0 r))) ⟨List.toArray (.pointer (some ⟨b.pB, 0, none⟩) :: .int .i64 (d : Int) :: .bool true :: .slice A l.length c :: e_4 :: e_5 :: e_6 :: e_7 :: e_8 :: e_9 :: .int .i64 K :: .int .i64 n :: e_12 :: e_13 :: e_14 :: e_15 :: e_16 :: e_17 :: e_18 :: e_19 :: e_20 :: e_21 :: e_22 :: e_23 :: e_24 :: e_25 :: e_26 :: e_27 :: e_28 :: e_29 :: e_30 :: e_31 :: e_32 :: e_33 :: e_34 :: e_35 :: e_36 :: e_37 :: e_38 :: e_39 :: e_40 :: e_41 :: e_42 :: e_43 :: e_44 :: e_45 :: e_46 :: e_47 :: e_48 :: e_49 :: e_50 :: e_51 :: e_52 :: e_53 :: e_54 :: e_55 :: e_56 :: e_57 :: e_58 :: e_59 :: e_60 :: e_61 :: e_62 :: e_63 :: e_64 :: e_65 :: e_66 :: e_67 :: e_68 :: e_69 :: e_70 :: e_71 :: e_72 :: e_73 :: e_74 :: e_75 :: e_76 :: e_77 :: e_78 :: e_79 :: e_80 :: e_81 :: e_82 :: e_83 :: e_84 :: e_85 :: e_86 :: e_87 :: e_88 :: e_89 :: e_90 :: e_91 :: e_92 :: e_93 :: e_94 :: e_95 :: e_96 :: e_97 :: e_98 :: e_99 :: e_100 :: e_101 :: e_102 :: e_103 :: e_104 :: e_105 :: e_106 :: e_107 :: e_108 :: e_109 :: e_110 :: e_111 :: e_112 :: e_113 :: e_114 :: e_115 :: e_116 :: e_117 :: e_118 :: e_119 :: e_120 :: e_121 :: e_122 :: e_123 :: e_124 :: e_125 :: e_126 :: e_127 :: e_128 :: e_129 :: e_130 :: e_131 :: e_132 :: e_133 :: e_134 :: e_135 :: e_136 :: e_137 :: e_138 :: e_139 :: e_140 :: e_141 :: e_142 :: e_143 :: e_144 :: e_145 :: e_146 :: e_147 :: e_148 :: e_149 :: e_150 :: e_151 :: e_152 :: e_153 :: e_154 :: e_155 :: e_156 :: e_157 :: e_158 :: e_159 :: e_160 :: []), []⟩ w := by
 have hK0 : ¬(0 : Int) ≤ K := by omega
 obtain ⟨c2, hc2⟩ : ∃ c2, decide (n < 0) = c2 := ⟨_, rfl⟩
 have e8 : (K == 8) = false := by rw [beq_eq_false_iff_ne]; omega
 by_cases hd20 : 20 ≤ d
 ·have hdi : (20 : Int) ≤ (d : Int) := by omega
  cases hsm : mSame s.N l K n with
  | false =>
   have HB := hid (show r = mEnd b.T f d K n (mBad b.T false 6 (mBad b.T false 4 (mBad b.T c2 5 (mBad b.T true 2 s)))) by
    rw [HR.out]
    unfold mMid
    congr 1
    have q1 : mLong d K s = true := by unfold mLong; rw [decide_eq_true hd20, Bool.true_or]
    have q2 : (decide (K < 0) && decide (n < 0)) = c2 := by rw [decide_eq_true hK, Bool.true_and, hc2]
    have q3 : (true && decide (K = 8)) = false := by rw [Bool.true_and]; exact decide_eq_false (by omega)
    have q4 : (true && (mSame s.N l K n && (decide (0 ≤ K) || decide (0 ≤ n)))) = false := by rw [hsm]; rfl
    rw [q1, q2]
    show mBad b.T (true && _) 6 (mBad b.T (true && _) 4 _) = _
    rw [q3]
    show mBad b.T (true && (mSame s.N l _ n && _)) 6 _ = _
    rw [q4])
   have hn4 : (mBad b.T false 4 (mBad b.T c2 5 (mBad b.T true 2 s))).N = s.N := by rw [(mBad_N _ _ _).1, (mBad_N _ _ _).1, (mBad_N _ _ _).1]
   have SM := fun {w : World} (h : PS w b (mBad b.T false 4 (mBad b.T c2 5 (mBad b.T true 2 s)))) (hu : UnOk w b (mBad b.T false 4 (mBad b.T c2 5 (mBad b.T true 2 s))) A l) => psame_any h A c w.heap.size l K n hu.rd hu.few hu.inn (Nat.le_refl _)
   simp only [hn4, hsm] at SM
   clear HR hsm
   conv => arg 2; whnf
   conv at hKK => enter [a, w, 1, 2]; whnf
   go_upto_region 11 with (first
    | (go_at_call 50; refine (pbad_any (h4.turn0 tS) false 6).mono ?_; rintro e w5 ⟨rfl, h5, t5⟩)
    | (go_at_call 81; refine (SM h4 ((((hu.turn t2 (mBad_N _ _ _).1).turn t3 (mBad_N _ _ _).1).turn t4 (mBad_N _ _ _).1))).mono ?_; rintro e wS ⟨rfl, tS⟩)
    | (go_at_call 50; refine (pbad_any h3 false 4).mono ?_; rintro e w4 ⟨rfl, h4, t4⟩)
    | (go_at_call 50; refine (pbad_any h2 c2 5).mono ?_; rintro e w3 ⟨rfl, h3, t3⟩)
    | (go_at_call 50; refine (pbad_any h true 2).mono ?_; rintro e w2 ⟨rfl, h2, t2⟩))
   have f5 : Fq b w0 w5 := ((((f0.trans (h.fq t2)).trans (h2.fq t3)).trans (h3.fq t4)).turn tS hw0).trans ((h4.turn0 tS).fq t5)
   refine of_code2 (C' := headOf 0 (headOf 8 typB)) (by kernel_rfl) (typ_end_neg h5 hw0 f5 hK (fun hz => ?_) HB (by assumption) (by assumption))
   obtain ⟨z4, hz⟩ := mBad0 (by decide) hz
   obtain ⟨z3, hz⟩ := mBad0 (by decide) hz
   obtain ⟨z2, hz⟩ := mBad0 (by decide) hz
   obtain ⟨z1, hz⟩ := mBad0 (by decide) hz
   rw [z2] at hc2
   have := of_decide_eq_false hc2
   omega
  | true =>
   have HB := hid (show r = mEnd b.T f d K n (mBad b.T (decide (0 ≤ K) || decide (0 ≤ n)) 6 (mBad b.T false 4 (mBad b.T c2 5 (mBad b.T true 2 s)))) by
    rw [HR.out]
    unfold mMid
    congr 1
    have q1 : mLong d K s = true := by unfold mLong; rw [decide_eq_true hd20, Bool.true_or]
    have q2 : (decide (K < 0) && decide (n < 0)) = c2 := by rw [decide_eq_true hK, Bool.true_and, hc2]
    have q3 : (true && decide (K = 8)) = false := by rw [Bool.true_and]; exact decide_eq_false (by omega)
    have q4 : (true && (mSame s.N l K n && (decide (0 ≤ K) || decide (0 ≤ n)))) = (decide (0 ≤ K) || decide (0 ≤ n)) := by rw [hsm]; rfl
    rw [q1, q2]
    show mBad b.T (true && _) 6 (mBad b.T (true && _) 4 _) = _
    rw [q3]
    show mBad b.T (true && (mSame s.N l _ n && _)) 6 _ = _
    rw [q4])
   have hn4 : (mBad b.T false 4 (mBad b.T c2 5 (mBad b.T true 2 s))).N = s.N := by rw [(mBad_N _ _ _).1, (mBad_N _ _ _).1, (mBad_N _ _ _).1]
   have SM := fun {w : World} (h : PS w b (mBad b.T false 4 (mBad b.T c2 5 (mBad b.T true 2 s)))) (hu : UnOk w b (mBad b.T false 4 (mBad b.T c2 5 (mBad b.T true 2 s))) A l) => psame_any h A c w.heap.size l K n hu.rd hu.few hu.inn (Nat.le_refl _)
   simp only [hn4, hsm] at SM
   clear HR hsm
   conv => arg 2; whnf
   conv at hKK => enter [a, w, 1, 2]; whnf
   go_upto_region 11 with (first
    | (go_at_call 50; refine (pbad_any (h4.turn0 tS) (decide (0 ≤ K) || decide (0 ≤ n)) 6).mono ?_; rintro e w5 ⟨rfl, h5, t5⟩)
    | (go_at_call 81; refine (SM h4 ((((hu.turn t2 (mBad_N _ _ _).1).turn t3 (mBad_N _ _ _).1).turn t4 (mBad_N _ _ _).1))).mono ?_; rintro e wS ⟨rfl, tS⟩)
    | (go_at_call 50; refine (pbad_any h3 false 4).mono ?_; rintro e w4 ⟨rfl, h4, t4⟩)
    | (go_at_call 50; refine (pbad_any h2 c2 5).mono ?_; rintro e w3 ⟨rfl, h3, t3⟩)
    | (go_at_call 50; refine (pbad_any h true 2).mono ?_; rintro e w2 ⟨rfl, h2, t2⟩))
   have f5 : Fq b w0 w5 := ((((f0.trans (h.fq t2)).trans (h2.fq t3)).trans (h3.fq t4)).turn tS hw0).trans ((h4.turn0 tS).fq t5)
   refine of_code2 (C' := headOf 0 (headOf 8 typB)) (by kernel_rfl) (typ_end_neg h5 hw0 f5 hK (fun hz => ?_) HB (by assumption) (by assumption))
   obtain ⟨z4, hz⟩ := mBad0 (by decide) hz
   obtain ⟨z3, hz⟩ := mBad0 (by decide) hz
   obtain ⟨z2, hz⟩ := mBad0 (by decide) hz
   obtain ⟨z1, hz⟩ := mBad0 (by decide) hz
   rw [z2] at hc2
   have := of_decide_eq_false hc2
   omega
 ·have hdi : ¬(20 : Int) ≤ (d : Int) := by omega
  cases hsm : mSame s.N l K n with
  | false =>
   have HB := hid (show r = mEnd b.T f d K n (mBad b.T false 6 (mBad b.T false 4 (mBad b.T c2 5 (mBad b.T false 2 s)))) by
    rw [HR.out]
    unfold mMid
    congr 1
    have q1 : mLong d K s = false := by unfold mLong; rw [decide_eq_false hd20, Bool.false_or, decide_eq_false hK0, Bool.false_and]
    have q2 : (decide (K < 0) && decide (n < 0)) = c2 := by rw [decide_eq_true hK, Bool.true_and, hc2]
    have q3 : (true && decide (K = 8)) = false := by rw [Bool.true_and]; exact decide_eq_false (by omega)
    have q4 : (true && (mSame s.N l K n && (decide (0 ≤ K) || decide (0 ≤ n)))) = false := by rw [hsm]; rfl
    rw [q1, q2]
    show mBad b.T (true && _) 6 (mBad b.T (true && _) 4 _) = _
    rw [q3]
    show mBad b.T (true && (mSame s.N l _ n && _)) 6 _ = _
    rw [q4])
   have hn4 : (mBad b.T false 4 (mBad b.T c2 5 (mBad b.T false 2 s))).N = s.N := by rw [(mBad_N _ _ _).1, (mBad_N _ _ _).1, (mBad_N _ _ _).1]
   have SM := fun {w : World} (h : PS w b (mBad b.T false 4 (mBad b.T c2 5 (mBad b.T false 2 s)))) (hu : UnOk w b (mBad b.T false 4 (mBad b.T c2 5 (mBad b.T false 2 s))) A l) => psame_any h A c w.heap.size l K n hu.rd hu.few hu.inn (Nat.le_refl _)
   simp only [hn4, hsm] at SM
   clear HR hsm
   conv => arg 2; whnf
   conv at hKK => enter [a, w, 1, 2]; whnf
   go_upto_region 11 with (first
    | (go_at_call 50; refine (pbad_any (h4.turn0 tS) false 6).mono ?_; rintro e w5 ⟨rfl, h5, t5⟩)
    | (go_at_call 81; refine (SM h4 ((((hu.turn t2 (mBad_N _ _ _).1).turn t3 (mBad_N _ _ _).1).turn t4 (mBad_N _ _ _).1))).mono ?_; rintro e wS ⟨rfl, tS⟩)
    | (go_at_call 50; refine (pbad_any h3 false 4).mono ?_; rintro e w4 ⟨rfl, h4, t4⟩)
    | (go_at_call 50; refine (pbad_any h2 c2 5).mono ?_; rintro e w3 ⟨rfl, h3, t3⟩)
    | (go_at_call 50; refine (pbad_any h false 2).mono ?_; rintro e w2 ⟨rfl, h2, t2⟩))
   have f5 : Fq b w0 w5 := ((((f0.trans (h.fq t2)).trans (h2.fq t3)).trans (h3.fq t4)).turn tS hw0).trans ((h4.turn0 tS).fq t5)
   refine of_code2 (C' := headOf 0 (headOf 8 typB)) (by kernel_rfl) (typ_end_neg h5 hw0 f5 hK (fun hz => ?_) HB (by assumption) (by assumption))
   obtain ⟨z4, hz⟩ := mBad0 (by decide) hz
   obtain ⟨z3, hz⟩ := mBad0 (by decide) hz
   obtain ⟨z2, hz⟩ := mBad0 (by decide) hz
   obtain ⟨z1, hz⟩ := mBad0 (by decide) hz
   rw [z2] at hc2
   have := of_decide_eq_false hc2
   omega
  | true =>
   have HB := hid (show r = mEnd b.T f d K n (mBad b.T (decide (0 ≤ K) || decide (0 ≤ n)) 6 (mBad b.T false 4 (mBad b.T c2 5 (mBad b.T false 2 s)))) by
    rw [HR.out]
    unfold mMid
    congr 1
    have q1 : mLong d K s = false := by unfold mLong; rw [decide_eq_false hd20, Bool.false_or, decide_eq_false hK0, Bool.false_and]
    have q2 : (decide (K < 0) && decide (n < 0)) = c2 := by rw [decide_eq_true hK, Bool.true_and, hc2]
    have q3 : (true && decide (K = 8)) = false := by rw [Bool.true_and]; exact decide_eq_false (by omega)
    have q4 : (true && (mSame s.N l K n && (decide (0 ≤ K) || decide (0 ≤ n)))) = (decide (0 ≤ K) || decide (0 ≤ n)) := by rw [hsm]; rfl
    rw [q1, q2]
    show mBad b.T (true && _) 6 (mBad b.T (true && _) 4 _) = _
    rw [q3]
    show mBad b.T (true && (mSame s.N l _ n && _)) 6 _ = _
    rw [q4])
   have hn4 : (mBad b.T false 4 (mBad b.T c2 5 (mBad b.T false 2 s))).N = s.N := by rw [(mBad_N _ _ _).1, (mBad_N _ _ _).1, (mBad_N _ _ _).1]
   have SM := fun {w : World} (h : PS w b (mBad b.T false 4 (mBad b.T c2 5 (mBad b.T false 2 s)))) (hu : UnOk w b (mBad b.T false 4 (mBad b.T c2 5 (mBad b.T false 2 s))) A l) => psame_any h A c w.heap.size l K n hu.rd hu.few hu.inn (Nat.le_refl _)
   simp only [hn4, hsm] at SM
   clear HR hsm
   conv => arg 2; whnf
   conv at hKK => enter [a, w, 1, 2]; whnf
   go_upto_region 11 with (first
    | (go_at_call 50; refine (pbad_any (h4.turn0 tS) (decide (0 ≤ K) || decide (0 ≤ n)) 6).mono ?_; rintro e w5 ⟨rfl, h5, t5⟩)
    | (go_at_call 81; refine (SM h4 ((((hu.turn t2 (mBad_N _ _ _).1).turn t3 (mBad_N _ _ _).1).turn t4 (mBad_N _ _ _).1))).mono ?_; rintro e wS ⟨rfl, tS⟩)
    | (go_at_call 50; refine (pbad_any h3 false 4).mono ?_; rintro e w4 ⟨rfl, h4, t4⟩)
    | (go_at_call 50; refine (pbad_any h2 c2 5).mono ?_; rintro e w3 ⟨rfl, h3, t3⟩)
    | (go_at_call 50; refine (pbad_any h false 2).mono ?_; rintro e w2 ⟨rfl, h2, t2⟩))
   have f5 : Fq b w0 w5 := ((((f0.trans (h.fq t2)).trans (h2.fq t3)).trans (h3.fq t4)).turn tS hw0).trans ((h4.turn0 tS).fq t5)
   refine of_code2 (C' := headOf 0 (headOf 8 typB)) (by kernel_rfl) (typ_end_neg h5 hw0 f5 hK (fun hz => ?_) HB (by assumption) (by assumption))
   obtain ⟨z4, hz⟩ := mBad0 (by decide) hz
   obtain ⟨z3, hz⟩ := mBad0 (by decide) hz
   obtain ⟨z2, hz⟩ := mBad0 (by decide) hz
   obtain ⟨z1, hz⟩ := mBad0 (by decide) hz
   rw [z2] at hc2
   have := of_decide_eq_false hc2
   omega
theorem typ_mid_pos_none {k : Nat} (TQ : d < 20 → TypQ f (d + 1)) (h : PS w b s) (hw0 : Bd b w0) (f0 : Fq b w0 w) (hk : k < 12) (HR : Hid (r = mMid b.T f d none (k : Int) n s)) {KK : Act → World → Prop} (hKK : ∀ a w, Code.wp Tryz.prog (tailOf 5 typB) (bodyPost Tryz.prog Tryz.f49 (TPost b w0 r)) a w → KK a w) {e_3 e_4 e_5 e_6 e_7 e_8 e_9 e_12 e_13 e_14 e_15 e_16 e_17 e_18 e_19 e_20 e_21 e_22 e_23 e_24 e_25 e_26 e_27 e_28 e_29 e_30 e_31 e_32 e_33 e_34 e_35 e_36 e_37 e_38 e_39 e_40 e_41 e_42 e_43 e_44 e_45 e_46 e_47 e_48 e_49 e_50 e_51 e_52 e_53 e_54 e_55 e_56 e_57 e_58 e_59 e_60 e_61 e_62 e_63 e_64 e_65 e_66 e_67 e_68 e_69 e_70 e_71 e_72 e_73 e_74 e_75 e_76 e_77 e_78 e_79 e_80 e_81 e_82 e_83 e_84 e_85 e_86 e_87 e_88 e_89 e_90 e_91 e_92 e_93 e_94 e_95 e_96 e_97 e_98 e_99 e_100 e_101 e_102 e_103 e_104 e_105 e_106 e_107 e_108 e_109 e_110 e_111 e_112 e_113 e_114 e_115 e_116 e_117 e_118 e_119 e_120 e_121 e_122 e_123 e_124 e_125 e_126 e_127 e_128 e_129 e_130 e_131 e_132 e_133 e_134 e_135 e_136 e_137 e_138 e_139 e_140 e_141 e_142 e_143 e_144 e_145 e_146 e_147 e_148 e_149 e_150 e_151 e_152 e_153 e_154 e_155 e_156 e_157 e_158 e_159 e_160 : Value} :
  Code.wp Tryz.prog (headOf 4 typB) (Exit.then KK (bodyPost Tryz.prog Tryz.f49 (TPost b w0 r))) ⟨List.toArray (.pointer (some ⟨b.pB, 0, none⟩) :: .int .i64 (d : Int) :: .bool false :: e_3 :: e_4 :: e_5 :: e_6 :: e_7 :: e_8 :: e_9 :: .int .i64 (k : Int) :: .int .i64 n :: e_12 :: e_13 :: e_14 :: e_15 :: e_16 :: e_17 :: e_18 :: e_19 :: e_20 :: e_21 :: e_22 :: e_23 :: e_24 :: e_25 :: e_26 :: e_27 :: e_28 :: e_29 :: e_30 :: e_31 :: e_32 :: e_33 :: e_34 :: e_35 :: e_36 :: e_37 :: e_38 :: e_39 :: e_40 :: e_41 :: e_42 :: e_43 :: e_44 :: e_45 :: e_46 :: e_47 :: e_48 :: e_49 :: e_50 :: e_51 :: e_52 :: e_53 :: e_54 :: e_55 :: e_56 :: e_57 :: e_58 :: e_59 :: e_60 :: e_61 :: e_62 :: e_63 :: e_64 :: e_65 :: e_66 :: e_67 :: e_68 :: e_69 :: e_70 :: e_71 :: e_72 :: e_73 :: e_74 :: e_75 :: e_76 :: e_77 :: e_78 :: e_79 :: e_80 :: e_81 :: e_82 :: e_83 :: e_84 :: e_85 :: e_86 :: e_87 :: e_88 :: e_89 :: e_90 :: e_91 :: e_92 :: e_93 :: e_94 :: e_95 :: e_96 :: e_97 :: e_98 :: e_99 :: e_100 :: e_101 :: e_102 :: e_103 :: e_104 :: e_105 :: e_106 :: e_107 :: e_108 :: e_109 :: e_110 :: e_111 :: e_112 :: e_113 :: e_114 :: e_115 :: e_116 :: e_117 :: e_118 :: e_119 :: e_120 :: e_121 :: e_122 :: e_123 :: e_124 :: e_125 :: e_126 :: e_127 :: e_128 :: e_129 :: e_130 :: e_131 :: e_132 :: e_133 :: e_134 :: e_135 :: e_136 :: e_137 :: e_138 :: e_139 :: e_140 :: e_141 :: e_142 :: e_143 :: e_144 :: e_145 :: e_146 :: e_147 :: e_148 :: e_149 :: e_150 :: e_151 :: e_152 :: e_153 :: e_154 :: e_155 :: e_156 :: e_157 :: e_158 :: e_159 :: e_160 :: []), []⟩ w := by
 have hK : ¬(k : Int) < 0 := by omega
 have hK0 : (0 : Int) ≤ (k : Int) := by omega
 obtain ⟨R, _, _, _, _, p2, _⟩ := h.opn
 by_cases hd20 : 20 ≤ d
 ·have hdi : (20 : Int) ≤ (d : Int) := by omega
  have HB := hid (show r = mEnd b.T f d (k : Int) n (mBad b.T false 6 (mBad b.T false 4 (mBad b.T false 5 (mBad b.T true 2 s)))) by
   rw [HR.out]
   unfold mMid
   congr 1
   have q1 : mLong d (k : Int) s = true := by unfold mLong; rw [decide_eq_true hd20, Bool.true_or]
   have q2 : (decide ((k : Int) < 0) && decide (n < 0)) = false := by rw [decide_eq_false hK, Bool.false_and]
   have q3 : (false && decide ((k : Int) = 8)) = false := by rfl
   have q4 : (false && (mSame s.N [] (k : Int) n && (decide (0 ≤ (k : Int)) || decide (0 ≤ n)))) = false := by rfl
   rw [q1, q2]
   show mBad b.T (false && _) 6 (mBad b.T (false && _) 4 _) = _
   rw [q3]
   show mBad b.T (false && (mSame s.N [] _ n && _)) 6 _ = _
   rw [q4])
  clear HR
  conv => arg 2; whnf
  conv at hKK => enter [a, w, 1, 2]; whnf
  go_upto_region 11 with (first
   | (go_at_call 50; refine (pbad_any h4 false 6).mono ?_; rintro e w5 ⟨rfl, h5, t5⟩)
   | (go_at_call 50; refine (pbad_any h3 false 4).mono ?_; rintro e w4 ⟨rfl, h4, t4⟩)
   | (go_at_call 50; refine (pbad_any h2 false 5).mono ?_; rintro e w3 ⟨rfl, h3, t3⟩)
   | (go_at_call 50; refine (pbad_any h true 2).mono ?_; rintro e w2 ⟨rfl, h2, t2⟩))
  have f5 : Fq b w0 w5 := (((f0.trans (h.fq t2)).trans (h2.fq t3)).trans (h3.fq t4)).trans (h4.fq t5)
  refine of_code2 (C' := headOf 0 (headOf 8 typB)) (by kernel_rfl) (typ_end_pos TQ h5 hw0 f5 hk (fun hz => ?_) HB (by assumption) (by assumption))
  obtain ⟨z4, hz⟩ := mBad0 (by decide) hz
  obtain ⟨z3, hz⟩ := mBad0 (by decide) hz
  obtain ⟨z2, hz⟩ := mBad0 (by decide) hz
  obtain ⟨z1, hz⟩ := mBad0 (by decide) hz
  cases z1
 ·have hdi : ¬(20 : Int) ≤ (d : Int) := by omega
  obtain ⟨c1, hc1⟩ : ∃ c1, decide ((200 : Int) ≤ (s.N.length : Int)) = c1 := ⟨_, rfl⟩
  have HB := hid (show r = mEnd b.T f d (k : Int) n (mBad b.T false 6 (mBad b.T false 4 (mBad b.T false 5 (mBad b.T c1 2 s)))) by
   rw [HR.out]
   unfold mMid
   congr 1
   have q1 : mLong d (k : Int) s = c1 := by unfold mLong; rw [decide_eq_false hd20, Bool.false_or, decide_eq_true hK0, Bool.true_and, ← hc1]; exact decide_eq_decide.2 (by omega)
   have q2 : (decide ((k : Int) < 0) && decide (n < 0)) = false := by rw [decide_eq_false hK, Bool.false_and]
   have q3 : (false && decide ((k : Int) = 8)) = false := by rfl
   have q4 : (false && (mSame s.N [] (k : Int) n && (decide (0 ≤ (k : Int)) || decide (0 ≤ n)))) = false := by rfl
   rw [q1, q2]
   show mBad b.T (false && _) 6 (mBad b.T (false && _) 4 _) = _
   rw [q3]
   show mBad b.T (false && (mSame s.N [] _ n && _)) 6 _ = _
   rw [q4])
  clear HR
  conv => arg 2; whnf
  conv at hKK => enter [a, w, 1, 2]; whnf
  go_upto_region 11 with (first
   | (go_at_call 50; refine (pbad_any h4 false 6).mono ?_; rintro e w5 ⟨rfl, h5, t5⟩)
   | (go_at_call 50; refine (pbad_any h3 false 4).mono ?_; rintro e w4 ⟨rfl, h4, t4⟩)
   | (go_at_call 50; refine (pbad_any h2 false 5).mono ?_; rintro e w3 ⟨rfl, h3, t3⟩)
   | (go_at_call 50; refine (pbad_any h c1 2).mono ?_; rintro e w2 ⟨rfl, h2, t2⟩))
  have f5 : Fq b w0 w5 := (((f0.trans (h.fq t2)).trans (h2.fq t3)).trans (h3.fq t4)).trans (h4.fq t5)
  refine of_code2 (C' := headOf 0 (headOf 8 typB)) (by kernel_rfl) (typ_end_pos TQ h5 hw0 f5 hk (fun hz => ?_) HB (by assumption) (by assumption))
  obtain ⟨z4, hz⟩ := mBad0 (by decide) hz
  obtain ⟨z3, hz⟩ := mBad0 (by decide) hz
  obtain ⟨z2, hz⟩ := mBad0 (by decide) hz
  obtain ⟨z1, hz⟩ := mBad0 (by decide) hz
  refine ⟨by omega, ?_⟩
  rw [(mBad_N _ _ _).1, (mBad_N _ _ _).1, (mBad_N _ _ _).1, (mBad_N _ _ _).1]
  rw [z1] at hc1
  have := of_decide_eq_false hc1
  omega
theorem typ_mid_pos_some {k : Nat} (TQ : d < 20 → TypQ f (d + 1)) (h : PS w b s) (hw0 : Bd b w0) (f0 : Fq b w0 w) (hk : k < 12) (hu : UnOk w b s A l) {c : Nat} (HR : Hid (r = mMid b.T f d (some l) (k : Int) n s)) {KK : Act → World → Prop} (hKK : ∀ a w, Code.wp Tryz.prog (tailOf 5 typB) (bodyPost Tryz.prog Tryz.f49 (TPost b w0 r)) a w → KK a w) {e_4 e_5 e_6 e_7 e_8 e_9 e_12 e_13 e_14 e_15 e_16 e_17 e_18 e_19 e_20 e_21 e_22 e_23 e_24 e_25 e_26 e_27 e_28 e_29 e_30 e_31 e_32 e_33 e_34 e_35 e_36 e_37 e_38 e_39 e_40 e_41 e_42 e_43 e_44 e_45 e_46 e_47 e_48 e_49 e_50 e_51 e_52 e_53 e_54 e_55 e_56 e_57 e_58 e_59 e_60 e_61 e_62 e_63 e_64 e_65 e_66 e_67 e_68 e_69 e_70 e_71 e_72 e_73 e_74 e_75 e_76 e_77 e_78 e_79 e_80 e_81 e_82 e_83 e_84 e_85 e_86 e_87 e_88 e_89 e_90 e_91 e_92 e_93 e_94 e_95 e_96 e_97 e_98 e_99 e_100 e_101 e_102 e_103 e_104 e_105 e_106 e_107 e_108 e_109 e_110 e_111 e_112 e_113 e_114 e_115 e_116 e_117 e_118 e_119 e_120 e_121 e_122 e_123 e_124 e_125 e_126 e_127 e_128 e_129 e_130 e_131 e_132 e_133 e_134 e_135 e_136 e_137 e_138 e_139 e_140 e_141 e_142 e_143 e_144 e_145 e_146 e_147 e_148 e_149 e_150 e_151 e_152 e_153 e_154 e_155 e_156 e_157 e_158 e_159 e_160 : Value} :
  Code.wp Tryz.prog (headOf 4 typB) (Exit.then KK (bodyPost Tryz.prog Tryz.f49 (TPost b w0 r))) ⟨List.toArray (.pointer (some ⟨b.pB, 0, none⟩) :: .int .i64 (d : Int) :: .bool true :: .slice A l.length c :: e_4 :: e_5 :: e_6 :: e_7 :: e_8 :: e_9 :: .int .i64 (k : Int) :: .int .i64 n :: e_12 :: e_13 :: e_14 :: e_15 :: e_16 :: e_17 :: e_18 :: e_19 :: e_20 :: e_21 :: e_22 :: e_23 :: e_24 :: e_25 :: e_26 :: e_27 :: e_28 :: e_29 :: e_30 :: e_31 :: e_32 :: e_33 :: e_34 :: e_35 :: e_36 :: e_37 :: e_38 :: e_39 :: e_40 :: e_41 :: e_42 :: e_43 :: e_44 :: e_45 :: e_46 :: e_47 :: e_48 :: e_49 :: e_50 :: e_51 :: e_52 :: e_53 :: e_54 :: e_55 :: e_56 :: e_57 :: e_58 :: e_59 :: e_60 :: e_61 :: e_62 :: e_63 :: e_64 :: e_65 :: e_66 :: e_67 :: e_68 :: e_69 :: e_70 :: e_71 :: e_72 :: e_73 :: e_74 :: e_75 :: e_76 :: e_77 :: e_78 :: e_79 :: e_80 :: e_81 :: e_82 :: e_83 :: e_84 :: e_85 :: e_86 :: e_87 :: e_88 :: e_89 :: e_90 :: e_91 :: e_92 :: e_93 :: e_94 :: e_95 :: e_96 :: e_97 :: e_98 :: e_99 :: e_100 :: e_101 :: e_102 :: e_103 :: e_104 :: e_105 :: e_106 :: e_107 :: e_108 :: e_109 :: e_110 :: e_111 :: e_112 :: e_113 :: e_114 :: e_115 :: e_116 :: e_117 :: e_118 :: e_119 :: e_120 :: e_121 :: e_122 :: e_123 :: e_124 :: e_125 :: e_126 :: e_127 :: e_128 :: e_129 :: e_130 :: e_131 :: e_132 :: e_133 :: e_134 :: e_135 :: e_136 :: e_137 :: e_138 :: e_139 :: e_140 :: e_141 :: e_142 :: e_143 :: e_144 :: e_145 :: e_146 :: e_147 :: e_148 :: e_149 :: e_150 :: e_151 :: e_152 :: e_153 :: e_154 :: e_155 :: e_156 :: e_157 :: e_158 :: e_159 :: e_160 :: []), []⟩ w := by
 have hK : ¬(k : Int) < 0 := by omega
 have hK0 : (0 : Int) ≤ (k : Int) := by omega
 obtain ⟨R, _, _, _, _, p2, _⟩ := h.opn
 obtain ⟨c3, hc3⟩ : ∃ c3, ((k : Int) == 8) = c3 := ⟨_, rfl⟩
 by_cases hd20 : 20 ≤ d
 ·have hdi : (20 : Int) ≤ (d : Int) := by omega
  cases hsm : mSame s.N l (k : Int) n with
  | false =>
   have HB := hid (show r = mEnd b.T f d (k : Int) n (mBad b.T false 6 (mBad b.T c3 4 (mBad b.T false 5 (mBad b.T true 2 s)))) by
    rw [HR.out]
    unfold mMid
    congr 1
    have q1 : mLong d (k : Int) s = true := by unfold mLong; rw [decide_eq_true hd20, Bool.true_or]
    have q2 : (decide ((k : Int) < 0) && decide (n < 0)) = false := by rw [decide_eq_false hK, Bool.false_and]
    have q3 : (true && decide ((k : Int) = 8)) = c3 := by rw [Bool.true_and, ← hc3]; rfl
    have q4 : (true && (mSame s.N l (k : Int) n && (decide (0 ≤ (k : Int)) || decide (0 ≤ n)))) = false := by rw [hsm]; rfl
    rw [q1, q2]
    show mBad b.T (true && _) 6 (mBad b.T (true && _) 4 _) = _
    rw [q3]
    show mBad b.T (true && (mSame s.N l _ n && _)) 6 _ = _
    rw [q4])
   have hn4 : (mBad b.T c3 4 (mBad b.T false 5 (mBad b.T true 2 s))).N = s.N := by rw [(mBad_N _ _ _).1, (mBad_N _ _ _).1, (mBad_N _ _ _).1]
   have SM := fun {w : World} (h : PS w b (mBad b.T c3 4 (mBad b.T false 5 (mBad b.T true 2 s)))) (hu : UnOk w b (mBad b.T c3 4 (mBad b.T false 5 (mBad b.T true 2 s))) A l) => psame_any h A c w.heap.size l (k : Int) n hu.rd hu.few hu.inn (Nat.le_refl _)
   simp only [hn4, hsm] at SM
   clear HR hsm
   conv => arg 2; whnf
   conv at hKK => enter [a, w, 1, 2]; whnf
   go_upto_region 11 with (first
    | (go_at_call 50; refine (pbad_any (h4.turn0 tS) false 6).mono ?_; rintro e w5 ⟨rfl, h5, t5⟩)
    | (go_at_call 81; refine (SM h4 ((((hu.turn t2 (mBad_N _ _ _).1).turn t3 (mBad_N _ _ _).1).turn t4 (mBad_N _ _ _).1))).mono ?_; rintro e wS ⟨rfl, tS⟩)
    | (go_at_call 50; refine (pbad_any h3 c3 4).mono ?_; rintro e w4 ⟨rfl, h4, t4⟩)
    | (go_at_call 50; refine (pbad_any h2 false 5).mono ?_; rintro e w3 ⟨rfl, h3, t3⟩)
    | (go_at_call 50; refine (pbad_any h true 2).mono ?_; rintro e w2 ⟨rfl, h2, t2⟩))
   have f5 : Fq b w0 w5 := ((((f0.trans (h.fq t2)).trans (h2.fq t3)).trans (h3.fq t4)).turn tS hw0).trans ((h4.turn0 tS).fq t5)
   refine of_code2 (C' := headOf 0 (headOf 8 typB)) (by kernel_rfl) (typ_end_pos TQ h5 hw0 f5 hk (fun hz => ?_) HB (by assumption) (by assumption))
   obtain ⟨z4, hz⟩ := mBad0 (by decide) hz
   obtain ⟨z3, hz⟩ := mBad0 (by decide) hz
   obtain ⟨z2, hz⟩ := mBad0 (by decide) hz
   obtain ⟨z1, hz⟩ := mBad0 (by decide) hz
   cases z1
  | true =>
   have HB := hid (show r = mEnd b.T f d (k : Int) n (mBad b.T true 6 (mBad b.T c3 4 (mBad b.T false 5 (mBad b.T true 2 s)))) by
    rw [HR.out]
    unfold mMid
    congr 1
    have q1 : mLong d (k : Int) s = true := by unfold mLong; rw [decide_eq_true hd20, Bool.true_or]
    have q2 : (decide ((k : Int) < 0) && decide (n < 0)) = false := by rw [decide_eq_false hK, Bool.false_and]
    have q3 : (true && decide ((k : Int) = 8)) = c3 := by rw [Bool.true_and, ← hc3]; rfl
    have q4 : (true && (mSame s.N l (k : Int) n && (decide (0 ≤ (k : Int)) || decide (0 ≤ n)))) = true := by rw [hsm, decide_eq_true hK0, Bool.true_or]; rfl
    rw [q1, q2]
    show mBad b.T (true && _) 6 (mBad b.T (true && _) 4 _) = _
    rw [q3]
    show mBad b.T (true && (mSame s.N l _ n && _)) 6 _ = _
    rw [q4])
   have hn4 : (mBad b.T c3 4 (mBad b.T false 5 (mBad b.T true 2 s))).N = s.N := by rw [(mBad_N _ _ _).1, (mBad_N _ _ _).1, (mBad_N _ _ _).1]
   have SM := fun {w : World} (h : PS w b (mBad b.T c3 4 (mBad b.T false 5 (mBad b.T true 2 s)))) (hu : UnOk w b (mBad b.T c3 4 (mBad b.T false 5 (mBad b.T true 2 s))) A l) => psame_any h A c w.heap.size l (k : Int) n hu.rd hu.few hu.inn (Nat.le_refl _)
   simp only [hn4, hsm] at SM
   clear HR hsm
   conv => arg 2; whnf
   conv at hKK => enter [a, w, 1, 2]; whnf
   go_upto_region 11 with (first
    | (go_at_call 50; refine (pbad_any (h4.turn0 tS) true 6).mono ?_; rintro e w5 ⟨rfl, h5, t5⟩)
    | (go_at_call 81; refine (SM h4 ((((hu.turn t2 (mBad_N _ _ _).1).turn t3 (mBad_N _ _ _).1).turn t4 (mBad_N _ _ _).1))).mono ?_; rintro e wS ⟨rfl, tS⟩)
    | (go_at_call 50; refine (pbad_any h3 c3 4).mono ?_; rintro e w4 ⟨rfl, h4, t4⟩)
    | (go_at_call 50; refine (pbad_any h2 false 5).mono ?_; rintro e w3 ⟨rfl, h3, t3⟩)
    | (go_at_call 50; refine (pbad_any h true 2).mono ?_; rintro e w2 ⟨rfl, h2, t2⟩))
   have f5 : Fq b w0 w5 := ((((f0.trans (h.fq t2)).trans (h2.fq t3)).trans (h3.fq t4)).turn tS hw0).trans ((h4.turn0 tS).fq t5)
   refine of_code2 (C' := headOf 0 (headOf 8 typB)) (by kernel_rfl) (typ_end_pos TQ h5 hw0 f5 hk (fun hz => ?_) HB (by assumption) (by assumption))
   obtain ⟨z4, hz⟩ := mBad0 (by decide) hz
   obtain ⟨z3, hz⟩ := mBad0 (by decide) hz
   obtain ⟨z2, hz⟩ := mBad0 (by decide) hz
   obtain ⟨z1, hz⟩ := mBad0 (by decide) hz
   cases z1
 ·have hdi : ¬(20 : Int) ≤ (d : Int) := by omega
  obtain ⟨c1, hc1⟩ : ∃ c1, decide ((200 : Int) ≤ (s.N.length : Int)) = c1 := ⟨_, rfl⟩
  cases hsm : mSame s.N l (k : Int) n with
  | false =>
   have HB := hid (show r = mEnd b.T f d (k : Int) n (mBad b.T false 6 (mBad b.T c3 4 (mBad b.T false 5 (mBad b.T c1 2 s)))) by
    rw [HR.out]
    unfold mMid
    congr 1
    have q1 : mLong d (k : Int) s = c1 := by unfold mLong; rw [decide_eq_false hd20, Bool.false_or, decide_eq_true hK0, Bool.true_and, ← hc1]; exact decide_eq_decide.2 (by omega)
    have q2 : (decide ((k : Int) < 0) && decide (n < 0)) = false := by rw [decide_eq_false hK, Bool.false_and]
    have q3 : (true && decide ((k : Int) = 8)) = c3 := by rw [Bool.true_and, ← hc3]; rfl
    have q4 : (true && (mSame s.N l (k : Int) n && (decide (0 ≤ (k : Int)) || decide (0 ≤ n)))) = false := by rw [hsm]; rfl
    rw [q1, q2]
    show mBad b.T (true && _) 6 (mBad b.T (true && _) 4 _) = _
    rw [q3]
    show mBad b.T (true && (mSame s.N l _ n && _)) 6 _ = _
    rw [q4])
   have hn4 : (mBad b.T c3 4 (mBad b.T false 5 (mBad b.T c1 2 s))).N = s.N := by rw [(mBad_N _ _ _).1, (mBad_N _ _ _).1, (mBad_N _ _ _).1]
   have SM := fun {w : World} (h : PS w b (mBad b.T c3 4 (mBad b.T false 5 (mBad b.T c1 2 s)))) (hu : UnOk w b (mBad b.T c3 4 (mBad b.T false 5 (mBad b.T c1 2 s))) A l) => psame_any h A c w.heap.size l (k : Int) n hu.rd hu.few hu.inn (Nat.le_refl _)
   simp only [hn4, hsm] at SM
   clear HR hsm
   conv => arg 2; whnf
   conv at hKK => enter [a, w, 1, 2]; whnf
   go_upto_region 11 with (first
    | (go_at_call 50; refine (pbad_any (h4.turn0 tS) false 6).mono ?_; rintro e w5 ⟨rfl, h5, t5⟩)
    | (go_at_call 81; refine (SM h4 ((((hu.turn t2 (mBad_N _ _ _).1).turn t3 (mBad_N _ _ _).1).turn t4 (mBad_N _ _ _).1))).mono ?_; rintro e wS ⟨rfl, tS⟩)
    | (go_at_call 50; refine (pbad_any h3 c3 4).mono ?_; rintro e w4 ⟨rfl, h4, t4⟩)
    | (go_at_call 50; refine (pbad_any h2 false 5).mono ?_; rintro e w3 ⟨rfl, h3, t3⟩)
    | (go_at_call 50; refine (pbad_any h c1 2).mono ?_; rintro e w2 ⟨rfl, h2, t2⟩))
   have f5 : Fq b w0 w5 := ((((f0.trans (h.fq t2)).trans (h2.fq t3)).trans (h3.fq t4)).turn tS hw0).trans ((h4.turn0 tS).fq t5)
   refine of_code2 (C' := headOf 0 (headOf 8 typB)) (by kernel_rfl) (typ_end_pos TQ h5 hw0 f5 hk (fun hz => ?_) HB (by assumption) (by assumption))
   obtain ⟨z4, hz⟩ := mBad0 (by decide) hz
   obtain ⟨z3, hz⟩ := mBad0 (by decide) hz
   obtain ⟨z2, hz⟩ := mBad0 (by decide) hz
   obtain ⟨z1, hz⟩ := mBad0 (by decide) hz
   refine ⟨by omega, ?_⟩
   rw [(mBad_N _ _ _).1, (mBad_N _ _ _).1, (mBad_N _ _ _).1, (mBad_N _ _ _).1]
   rw [z1] at hc1
   have := of_decide_eq_false hc1
   omega
  | true =>
   have HB := hid (show r = mEnd b.T f d (k : Int) n (mBad b.T true 6 (mBad b.T c3 4 (mBad b.T false 5 (mBad b.T c1 2 s)))) by
    rw [HR.out]
    unfold mMid
    congr 1
    have q1 : mLong d (k : Int) s = c1 := by unfold mLong; rw [decide_eq_false hd20, Bool.false_or, decide_eq_true hK0, Bool.true_and, ← hc1]; exact decide_eq_decide.2 (by omega)
    have q2 : (decide ((k : Int) < 0) && decide (n < 0)) = false := by rw [decide_eq_false hK, Bool.false_and]
    have q3 : (true && decide ((k : Int) = 8)) = c3 := by rw [Bool.true_and, ← hc3]; rfl
    have q4 : (true && (mSame s.N l (k : Int) n && (decide (0 ≤ (k : Int)) || decide (0 ≤ n)))) = true := by rw [hsm, decide_eq_true hK0, Bool.true_or]; rfl
    rw [q1, q2]
    show mBad b.T (true && _) 6 (mBad b.T (true && _) 4 _) = _
    rw [q3]
    show mBad b.T (true && (mSame s.N l _ n && _)) 6 _ = _
    rw [q4])
   have hn4 : (mBad b.T c3 4 (mBad b.T false 5 (mBad b.T c1 2 s))).N = s.N := by rw [(mBad_N _ _ _).1, (mBad_N _ _ _).1, (mBad_N _ _ _).1]
   have SM := fun {w : World} (h : PS w b (mBad b.T c3 4 (mBad b.T false 5 (mBad b.T c1 2 s)))) (hu : UnOk w b (mBad b.T c3 4 (mBad b.T false 5 (mBad b.T c1 2 s))) A l) => psame_any h A c w.heap.size l (k : Int) n hu.rd hu.few hu.inn (Nat.le_refl _)
   simp only [hn4, hsm] at SM
   clear HR hsm
   conv => arg 2; whnf
   conv at hKK => enter [a, w, 1, 2]; whnf
   go_upto_region 11 with (first
    | (go_at_call 50; refine (pbad_any (h4.turn0 tS) true 6).mono ?_; rintro e w5 ⟨rfl, h5, t5⟩)
    | (go_at_call 81; refine (SM h4 ((((hu.turn t2 (mBad_N _ _ _).1).turn t3 (mBad_N _ _ _).1).turn t4 (mBad_N _ _ _).1))).mono ?_; rintro e wS ⟨rfl, tS⟩)
    | (go_at_call 50; refine (pbad_any h3 c3 4).mono ?_; rintro e w4 ⟨rfl, h4, t4⟩)
    | (go_at_call 50; refine (pbad_any h2 false 5).mono ?_; rintro e w3 ⟨rfl, h3, t3⟩)
    | (go_at_call 50; refine (pbad_any h c1 2).mono ?_; rintro e w2 ⟨rfl, h2, t2⟩))
   have f5 : Fq b w0 w5 := ((((f0.trans (h.fq t2)).trans (h2.fq t3)).trans (h3.fq t4)).turn tS hw0).trans ((h4.turn0 tS).fq t5)
   refine of_code2 (C' := headOf 0 (headOf 8 typB)) (by kernel_rfl) (typ_end_pos TQ h5 hw0 f5 hk (fun hz => ?_) HB (by assumption) (by assumption))
   obtain ⟨z4, hz⟩ := mBad0 (by decide) hz
   obtain ⟨z3, hz⟩ := mBad0 (by decide) hz
   obtain ⟨z2, hz⟩ := mBad0 (by decide) hz
   obtain ⟨z1, hz⟩ := mBad0 (by decide) hz
   refine ⟨by omega, ?_⟩
   rw [(mBad_N _ _ _).1, (mBad_N _ _ _).1, (mBad_N _ _ _).1, (mBad_N _ _ _).1]
   rw [z1] at hc1
   have := of_decide_eq_false hc1
   omega
end
open Go.RowKit
theorem mTyped_mid {T : List Tok} {f d : Nat} {un : Option (List Nat)} {s s1 : St} {K n : Int} (hK : K = kNo (tokAt T s.at_)) (hn : n = mName (tokAt T s.at_) s K) (h1 : s1 = if K < 0 then mNm T s else s) : mTyped T (f + 1) d un s = mMid T f d un K n s1 := by
 have hN : s1.N = s.N := by
  rw [h1]
  split
  ·exact (mNm_N s).1
  ·rfl
 have hL : mLong d K s1 = mLong d K s := by unfold mLong; rw [hN]
 have hp : mPre T d un K n s = mBad T (un.isSome && (mSame s1.N (un.getD []) K n && (decide (0 ≤ K) || decide (0 ≤ n)))) 6 (mBad T (un.isSome && decide (K = 8)) 4 (mBad T (decide (K < 0) && decide (n < 0)) 5 (mBad T (mLong d K s1) 2 s1))) := by
  unfold mPre
  rw [hN, hL, ← h1]
 rw [mTyped, ← hK, ← hn, hp]
 rfl
theorem wordNo_lt {l : List UInt8} : wordNo l < 0 ∧ wordNo l = -1 ∨ ∃ k : Nat, wordNo l = (k : Int) ∧ k < 12 := by
 unfold wordNo
 cases h : pWord l with
 | none => exact .inl ⟨by decide, rfl⟩
 | some k => exact .inr ⟨k, rfl, (pWord_some h).1⟩
section
variable {w : World} {b : QB} {s : St}
theorem rtyp_step {f d : Nat} (TQ : d < 20 → TypQ f (d + 1)) : TypQ (f + 1) d := by
 intro w b s un A c h hz hu
 have hw := h.hw
 obtain ⟨r, hr⟩ : ∃ r, r = mTyped b.T (f + 1) d un s := ⟨_, rfl⟩
 rw [← hr]
 show Calls _ _ _ w (TPost b w r)
 obtain ⟨t, ht⟩ : ∃ t, t = tokAt b.T s.at_ := ⟨_, rfl⟩
 have HT := hid ht
 have HMID : Hid (∀ (K n : Int) (s1 : St), K = kNo t → n = mName t s K → s1 = (if K < 0 then mNm b.T s else s) → r = mMid b.T f d un K n s1) := hid fun K n s1 hK hn h1 => hr.trans (mTyped_mid (T := b.T) (f := f) (d := d) (un := un) (by rw [← ht]; exact hK) (by rw [← ht]; exact hn) h1)
 clear hr ht
 have kw := fun w => rword_any (txt t.s) t.s w rfl
 cases un with
 | none =>
  by_cases hk0 : t.k = 0
  ·have e0 : ((t.k : Int) == 0) = true := by rw [beq_iff_eq]; omega
   have htk : t.k = 0 ∨ t.k = 2 := .inl hk0
   clear hk0
   rcases wordNo_lt (l := t.s) with ⟨hKn, hKW3⟩ | ⟨k, hKW2, hk12⟩
   ·clear hKW3
    have HR := hid (HMID.out (wordNo t.s) (calledI s.N t.s) (mNm b.T s) (by unfold kNo; rw [if_pos htk]; rfl) (by unfold mName; rw [if_pos (by omega)]) (by rw [if_pos (by omega)]))
    have hn1 : (mNm b.T s).N = s.N := (mNm_N s).1
    clear HMID hz
    go_enter Tryz.func49, Tryz.ntmps49
    go_upto_region 7 with (first
     | (go_at_call 80; refine (pcalled_any h4 t.s).mono ?_; rw [hn1]; rintro e w5 ⟨rfl, t5⟩)
     | (go_at_call 79; refine (pname_any h3).mono ?_; rintro e w4 ⟨rfl, h4, t4⟩; have c1 := tok1 ((h3.fq t4).tok (hb2.turn0 t3)))
     | (go_at_call 78; refine (kw _).mono ?_; rintro e w3 ⟨rfl, t3⟩; have h3 := h2.turn0 t3)
     | (go_at_call 51; refine (ptok_t HT h).mono ?_; rintro e w1 ⟨rfl, ht1⟩)
     | ((refine wp_var rfl rfl 90 _ _ rfl rfl rfl rfl zTok (fun _ => rfl) (xs := tc t) (fun _ => rfl) rfl szTok (tc_one t) ?_; intro g2 w2 hgg2 hb2 ht2; have c1 := tok1 hb2; have c0 := tok0 hb2); have h2 := (h.turn0 ht1).turn0 ht2))
    have T5 : Turn w w5 (some b.pB) := ((((ht1.trans ht2).trans t3).any _).trans t4).trans (t5.any _)
    have f5 : Fq b w w5 := (((Fq.refl b w).turn ((ht1.trans ht2).trans t3) hw).trans (h3.fq t4)).turn t5 hw
    have h5 := h4.turn0 t5
    exact of_code2 (C' := headOf 4 typB) (by kernel_rfl) (typ_mid_neg_none h5 hw f5 hKn HR (by assumption))
   ·simp only [hKW2] at kw
    have hK0 : ¬(k : Int) < 0 := by omega
    have HR := hid (HMID.out (k : Int) (-1) s (by rw [← hKW2]; unfold kNo; rw [if_pos htk]; rfl) (by unfold mName; rw [if_neg (by omega)]) (by rw [if_neg (by omega)]))
    clear HMID hz
    go_enter Tryz.func49, Tryz.ntmps49
    go_upto_region 7 with (first
     | (go_at_call 78; refine (kw _).mono ?_; rintro e w3 ⟨rfl, t3⟩; have h3 := h2.turn0 t3)
     | (go_at_call 51; refine (ptok_t HT h).mono ?_; rintro e w1 ⟨rfl, ht1⟩)
     | ((refine wp_var rfl rfl 90 _ _ rfl rfl rfl rfl zTok (fun _ => rfl) (xs := tc t) (fun _ => rfl) rfl szTok (tc_one t) ?_; intro g2 w2 hgg2 hb2 ht2; have c1 := tok1 hb2; have c0 := tok0 hb2); have h2 := (h.turn0 ht1).turn0 ht2))
    have T5 : Turn w w3 (some b.pB) := ((ht1.trans ht2).trans t3).any _
    have f5 : Fq b w w3 := (Fq.refl b w).turn ((ht1.trans ht2).trans t3) hw
    exact of_code2 (C' := headOf 4 typB) (by kernel_rfl) (typ_mid_pos_none TQ h3 hw f5 hk12 HR (by assumption))
  by_cases hk2 : t.k = 2
  ·have e0 : ((t.k : Int) == 0) = false := by rw [beq_eq_false_iff_ne]; omega
   have e2 : ((t.k : Int) == 2) = true := by rw [beq_iff_eq]; omega
   have htk : t.k = 0 ∨ t.k = 2 := .inr hk2
   clear hk2
   rcases wordNo_lt (l := t.s) with ⟨hKn, hKW3⟩ | ⟨k, hKW2, hk12⟩
   ·clear hKW3
    have HR := hid (HMID.out (wordNo t.s) (calledI s.N t.s) (mNm b.T s) (by unfold kNo; rw [if_pos htk]; rfl) (by unfold mName; rw [if_pos (by omega)]) (by rw [if_pos (by omega)]))
    have hn1 : (mNm b.T s).N = s.N := (mNm_N s).1
    clear HMID hz
    go_enter Tryz.func49, Tryz.ntmps49
    go_upto_region 7 with (first
     | (go_at_call 80; refine (pcalled_any h4 t.s).mono ?_; rw [hn1]; rintro e w5 ⟨rfl, t5⟩)
     | (go_at_call 79; refine (pname_any h3).mono ?_; rintro e w4 ⟨rfl, h4, t4⟩; have c1 := tok1 ((h3.fq t4).tok (hb2.turn0 t3)))
     | (go_at_call 78; refine (kw _).mono ?_; rintro e w3 ⟨rfl, t3⟩; have h3 := h2.turn0 t3)
     | (go_at_call 51; refine (ptok_t HT h).mono ?_; rintro e w1 ⟨rfl, ht1⟩)
     | ((refine wp_var rfl rfl 90 _ _ rfl rfl rfl rfl zTok (fun _ => rfl) (xs := tc t) (fun _ => rfl) rfl szTok (tc_one t) ?_; intro g2 w2 hgg2 hb2 ht2; have c1 := tok1 hb2; have c0 := tok0 hb2); have h2 := (h.turn0 ht1).turn0 ht2))
    have T5 : Turn w w5 (some b.pB) := ((((ht1.trans ht2).trans t3).any _).trans t4).trans (t5.any _)
    have f5 : Fq b w w5 := (((Fq.refl b w).turn ((ht1.trans ht2).trans t3) hw).trans (h3.fq t4)).turn t5 hw
    have h5 := h4.turn0 t5
    exact of_code2 (C' := headOf 4 typB) (by kernel_rfl) (typ_mid_neg_none h5 hw f5 hKn HR (by assumption))
   ·simp only [hKW2] at kw
    have hK0 : ¬(k : Int) < 0 := by omega
    have HR := hid (HMID.out (k : Int) (-1) s (by rw [← hKW2]; unfold kNo; rw [if_pos htk]; rfl) (by unfold mName; rw [if_neg (by omega)]) (by rw [if_neg (by omega)]))
    clear HMID hz
    go_enter Tryz.func49, Tryz.ntmps49
    go_upto_region 7 with (first
     | (go_at_call 78; refine (kw _).mono ?_; rintro e w3 ⟨rfl, t3⟩; have h3 := h2.turn0 t3)
     | (go_at_call 51; refine (ptok_t HT h).mono ?_; rintro e w1 ⟨rfl, ht1⟩)
     | ((refine wp_var rfl rfl 90 _ _ rfl rfl rfl rfl zTok (fun _ => rfl) (xs := tc t) (fun _ => rfl) rfl szTok (tc_one t) ?_; intro g2 w2 hgg2 hb2 ht2; have c1 := tok1 hb2; have c0 := tok0 hb2); have h2 := (h.turn0 ht1).turn0 ht2))
    have T5 : Turn w w3 (some b.pB) := ((ht1.trans ht2).trans t3).any _
    have f5 : Fq b w w3 := (Fq.refl b w).turn ((ht1.trans ht2).trans t3) hw
    exact of_code2 (C' := headOf 4 typB) (by kernel_rfl) (typ_mid_pos_none TQ h3 hw f5 hk12 HR (by assumption))
  have e0 : ((t.k : Int) == 0) = false := by rw [beq_eq_false_iff_ne]; omega
  have e2 : ((t.k : Int) == 2) = false := by rw [beq_eq_false_iff_ne]; omega
  have htk : ¬(t.k = 0 ∨ t.k = 2) := by omega
  have HR := hid (HMID.out (-1 : Int) (calledI s.N t.s) (mNm b.T s) (by unfold kNo; rw [if_neg htk]) (by unfold mName; rw [if_pos (by omega)]) (by rw [if_pos (by omega)]))
  have hn1 : (mNm b.T s).N = s.N := (mNm_N s).1
  clear HMID hz
  go_enter Tryz.func49, Tryz.ntmps49
  go_upto_region 7 with (first
   | (go_at_call 80; refine (pcalled_any h4 t.s).mono ?_; rw [hn1]; rintro e w5 ⟨rfl, t5⟩)
   | (go_at_call 79; refine (pname_any h2).mono ?_; rintro e w4 ⟨rfl, h4, t4⟩; have c1 := tok1 ((h2.fq t4).tok hb2))
   | (go_at_call 51; refine (ptok_t HT h).mono ?_; rintro e w1 ⟨rfl, ht1⟩)
   | ((refine wp_var rfl rfl 90 _ _ rfl rfl rfl rfl zTok (fun _ => rfl) (xs := tc t) (fun _ => rfl) rfl szTok (tc_one t) ?_; intro g2 w2 hgg2 hb2 ht2; have c1 := tok1 hb2; have c0 := tok0 hb2); have h2 := (h.turn0 ht1).turn0 ht2))
  have T5 : Turn w w5 (some b.pB) := ((((ht1.trans ht2)).any _).trans t4).trans (t5.any _)
  have f5 : Fq b w w5 := (((Fq.refl b w).turn ((ht1.trans ht2)) hw).trans (h2.fq t4)).turn t5 hw
  have h5 := h4.turn0 t5
  exact of_code2 (C' := headOf 4 typB) (by kernel_rfl) (typ_mid_neg_none h5 hw f5 (by decide) HR (by assumption))
 | some l =>
  by_cases hk0 : t.k = 0
  ·have e0 : ((t.k : Int) == 0) = true := by rw [beq_iff_eq]; omega
   have htk : t.k = 0 ∨ t.k = 2 := .inl hk0
   clear hk0
   rcases wordNo_lt (l := t.s) with ⟨hKn, hKW3⟩ | ⟨k, hKW2, hk12⟩
   ·clear hKW3
    have HR := hid (HMID.out (wordNo t.s) (calledI s.N t.s) (mNm b.T s) (by unfold kNo; rw [if_pos htk]; rfl) (by unfold mName; rw [if_pos (by omega)]) (by rw [if_pos (by omega)]))
    have hn1 : (mNm b.T s).N = s.N := (mNm_N s).1
    clear HMID hz
    go_enter Tryz.func49, Tryz.ntmps49
    go_upto_region 7 with (first
     | (go_at_call 80; refine (pcalled_any h4 t.s).mono ?_; rw [hn1]; rintro e w5 ⟨rfl, t5⟩)
     | (go_at_call 79; refine (pname_any h3).mono ?_; rintro e w4 ⟨rfl, h4, t4⟩; have c1 := tok1 ((h3.fq t4).tok (hb2.turn0 t3)))
     | (go_at_call 78; refine (kw _).mono ?_; rintro e w3 ⟨rfl, t3⟩; have h3 := h2.turn0 t3)
     | (go_at_call 51; refine (ptok_t HT h).mono ?_; rintro e w1 ⟨rfl, ht1⟩)
     | ((refine wp_var rfl rfl 90 _ _ rfl rfl rfl rfl zTok (fun _ => rfl) (xs := tc t) (fun _ => rfl) rfl szTok (tc_one t) ?_; intro g2 w2 hgg2 hb2 ht2; have c1 := tok1 hb2; have c0 := tok0 hb2); have h2 := (h.turn0 ht1).turn0 ht2))
    have T5 : Turn w w5 (some b.pB) := ((((ht1.trans ht2).trans t3).any _).trans t4).trans (t5.any _)
    have f5 : Fq b w w5 := (((Fq.refl b w).turn ((ht1.trans ht2).trans t3) hw).trans (h3.fq t4)).turn t5 hw
    have h5 := h4.turn0 t5
    exact of_code2 (C' := headOf 4 typB) (by kernel_rfl) (typ_mid_neg_some h5 hw f5 hKn (hu.turn T5 hn1) HR (by assumption))
   ·simp only [hKW2] at kw
    have hK0 : ¬(k : Int) < 0 := by omega
    have HR := hid (HMID.out (k : Int) (-1) s (by rw [← hKW2]; unfold kNo; rw [if_pos htk]; rfl) (by unfold mName; rw [if_neg (by omega)]) (by rw [if_neg (by omega)]))
    clear HMID hz
    go_enter Tryz.func49, Tryz.ntmps49
    go_upto_region 7 with (first
     | (go_at_call 78; refine (kw _).mono ?_; rintro e w3 ⟨rfl, t3⟩; have h3 := h2.turn0 t3)
     | (go_at_call 51; refine (ptok_t HT h).mono ?_; rintro e w1 ⟨rfl, ht1⟩)
     | ((refine wp_var rfl rfl 90 _ _ rfl rfl rfl rfl zTok (fun _ => rfl) (xs := tc t) (fun _ => rfl) rfl szTok (tc_one t) ?_; intro g2 w2 hgg2 hb2 ht2; have c1 := tok1 hb2; have c0 := tok0 hb2); have h2 := (h.turn0 ht1).turn0 ht2))
    have T5 : Turn w w3 (some b.pB) := ((ht1.trans ht2).trans t3).any _
    have f5 : Fq b w w3 := (Fq.refl b w).turn ((ht1.trans ht2).trans t3) hw
    exact of_code2 (C' := headOf 4 typB) (by kernel_rfl) (typ_mid_pos_some TQ h3 hw f5 hk12 (hu.turn T5 rfl) HR (by assumption))
  by_cases hk2 : t.k = 2
  ·have e0 : ((t.k : Int) == 0) = false := by rw [beq_eq_false_iff_ne]; omega
   have e2 : ((t.k : Int) == 2) = true := by rw [beq_iff_eq]; omega
   have htk : t.k = 0 ∨ t.k = 2 := .inr hk2
   clear hk2
   rcases wordNo_lt (l := t.s) with ⟨hKn, hKW3⟩ | ⟨k, hKW2, hk12⟩
   ·clear hKW3
    have HR := hid (HMID.out (wordNo t.s) (calledI s.N t.s) (mNm b.T s) (by unfold kNo; rw [if_pos htk]; rfl) (by unfold mName; rw [if_pos (by omega)]) (by rw [if_pos (by omega)]))
    have hn1 : (mNm b.T s).N = s.N := (mNm_N s).1
    clear HMID hz
    go_enter Tryz.func49, Tryz.ntmps49
    go_upto_region 7 with (first
     | (go_at_call 80; refine (pcalled_any h4 t.s).mono ?_; rw [hn1]; rintro e w5 ⟨rfl, t5⟩)
     | (go_at_call 79; refine (pname_any h3).mono ?_; rintro e w4 ⟨rfl, h4, t4⟩; have c1 := tok1 ((h3.fq t4).tok (hb2.turn0 t3)))
     | (go_at_call 78; refine (kw _).mono ?_; rintro e w3 ⟨rfl, t3⟩; have h3 := h2.turn0 t3)
     | (go_at_call 51; refine (ptok_t HT h).mono ?_; rintro e w1 ⟨rfl, ht1⟩)
     | ((refine wp_var rfl rfl 90 _ _ rfl rfl rfl rfl zTok (fun _ => rfl) (xs := tc t) (fun _ => rfl) rfl szTok (tc_one t) ?_; intro g2 w2 hgg2 hb2 ht2; have c1 := tok1 hb2; have c0 := tok0 hb2); have h2 := (h.turn0 ht1).turn0 ht2))
    have T5 : Turn w w5 (some b.pB) := ((((ht1.trans ht2).trans t3).any _).trans t4).trans (t5.any _)
    have f5 : Fq b w w5 := (((Fq.refl b w).turn ((ht1.trans ht2).trans t3) hw).trans (h3.fq t4)).turn t5 hw
    have h5 := h4.turn0 t5
    exact of_code2 (C' := headOf 4 typB) (by kernel_rfl) (typ_mid_neg_some h5 hw f5 hKn (hu.turn T5 hn1) HR (by assumption))
   ·simp only [hKW2] at kw
    have hK0 : ¬(k : Int) < 0 := by omega
    have HR := hid (HMID.out (k : Int) (-1) s (by rw [← hKW2]; unfold kNo; rw [if_pos htk]; rfl) (by unfold mName; rw [if_neg (by omega)]) (by rw [if_neg (by omega)]))
    clear HMID hz
    go_enter Tryz.func49, Tryz.ntmps49
    go_upto_region 7 with (first
     | (go_at_call 78; refine (kw _).mono ?_; rintro e w3 ⟨rfl, t3⟩; have h3 := h2.turn0 t3)
     | (go_at_call 51; refine (ptok_t HT h).mono ?_; rintro e w1 ⟨rfl, ht1⟩)
     | ((refine wp_var rfl rfl 90 _ _ rfl rfl rfl rfl zTok (fun _ => rfl) (xs := tc t) (fun _ => rfl) rfl szTok (tc_one t) ?_; intro g2 w2 hgg2 hb2 ht2; have c1 := tok1 hb2; have c0 := tok0 hb2); have h2 := (h.turn0 ht1).turn0 ht2))
    have T5 : Turn w w3 (some b.pB) := ((ht1.trans ht2).trans t3).any _
    have f5 : Fq b w w3 := (Fq.refl b w).turn ((ht1.trans ht2).trans t3) hw
    exact of_code2 (C' := headOf 4 typB) (by kernel_rfl) (typ_mid_pos_some TQ h3 hw f5 hk12 (hu.turn T5 rfl) HR (by assumption))
  have e0 : ((t.k : Int) == 0) = false := by rw [beq_eq_false_iff_ne]; omega
  have e2 : ((t.k : Int) == 2) = false := by rw [beq_eq_false_iff_ne]; omega
  have htk : ¬(t.k = 0 ∨ t.k = 2) := by omega
  have HR := hid (HMID.out (-1 : Int) (calledI s.N t.s) (mNm b.T s) (by unfold kNo; rw [if_neg htk]) (by unfold mName; rw [if_pos (by omega)]) (by rw [if_pos (by omega)]))
  have hn1 : (mNm b.T s).N = s.N := (mNm_N s).1
  clear HMID hz
  go_enter Tryz.func49, Tryz.ntmps49
  go_upto_region 7 with (first
   | (go_at_call 80; refine (pcalled_any h4 t.s).mono ?_; rw [hn1]; rintro e w5 ⟨rfl, t5⟩)
   | (go_at_call 79; refine (pname_any h2).mono ?_; rintro e w4 ⟨rfl, h4, t4⟩; have c1 := tok1 ((h2.fq t4).tok hb2))
   | (go_at_call 51; refine (ptok_t HT h).mono ?_; rintro e w1 ⟨rfl, ht1⟩)
   | ((refine wp_var rfl rfl 90 _ _ rfl rfl rfl rfl zTok (fun _ => rfl) (xs := tc t) (fun _ => rfl) rfl szTok (tc_one t) ?_; intro g2 w2 hgg2 hb2 ht2; have c1 := tok1 hb2; have c0 := tok0 hb2); have h2 := (h.turn0 ht1).turn0 ht2))
  have T5 : Turn w w5 (some b.pB) := ((((ht1.trans ht2)).any _).trans t4).trans (t5.any _)
  have f5 : Fq b w w5 := (((Fq.refl b w).turn ((ht1.trans ht2)) hw).trans (h2.fq t4)).turn t5 hw
  have h5 := h4.turn0 t5
  exact of_code2 (C' := headOf 4 typB) (by kernel_rfl) (typ_mid_neg_some h5 hw f5 (by decide) (hu.turn T5 hn1) HR (by assumption))
theorem rtyp_any : ∀ f d : Nat, d + f = 20 → TypQ (f + 1) d
 | 0, d, h => rtyp_step fun hd => absurd hd (by omega)
 | f + 1, d, h => rtyp_step fun _ => rtyp_any f (d + 1) (by omega)
end
end Go.Proofs.YtgigiecdpjchkaaGreatDoor
