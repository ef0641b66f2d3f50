import Derived.Test.YtgigiecdpjchkaaGreatDoorR20
import Derived.Test.YtgigiecdpjchkaaGreatDoorR1
import Derived.Test.YtgigiecdpjchkaaGreatDoorR10
import Derived.Test.YtgigiecdpjchkaaGreatDoorR19
import Derived.Test.YtgigiecdpjchkaaGreatDoorR4
import Derived.Test.YtgigiecdpjchkaaGreatDoorR11
import Derived.Test.YtgigiecdpjchkaaGreatDoorR18
import Derived.Test.YtgigiecdpjchkaaGreatDoorR12
import Derived.ChangeKeysEq
set_option linter.unusedSimpArgs false
set_option linter.unusedVariables false
set_option linter.unusedSectionVars false
set_option maxRecDepth 100000
set_option maxHeartbeats 6400000
namespace Go.Proofs.YtgigiecdpjchkaaGreatDoor
open Go.RowKit
section
variable {w w' w0 : World} {b : DB} {st st' FIN : DW} {x : Gn} {rec : DRec} {k : Nat}
theorem dBg_off (h : x.k < 0 ∨ 11 < x.k) : dBegin rec x st = { st with bad := true } := by
 unfold dBegin
 rw [if_pos h]
theorem dBg_skip (hk : x.k = (k : Int)) (h6 : k < 6) : dBegin rec x st = { st with S := (st.S ++ dOpen k) ++ dShut k } := by
 have a1 : ¬ (x.k < 0 ∨ 11 < x.k) := by omega
 have a2 : ¬ 9 ≤ x.k := by omega
 have a3 : ¬ x.k = 10 := by omega
 have a4 : ¬ x.k = 9 := by omega
 have a5 : ¬ (5 < x.k ∧ x.k < 9) := by omega
 have a6 : ¬ x.k = 11 := by omega
 have a7 : x.k.toNat = k := by omega
 simp only [dBegin, dHead, if_neg a1, if_neg a2, if_neg a3, if_neg a4, if_neg a5, if_neg a6, a7]
theorem dBg_items (hk : x.k = (k : Int)) (h6 : 5 < k) (h9 : k < 9) : dBegin rec x st = { dItG rec true x.items { st with S := st.S ++ dOpen k } with S := (dItG rec true x.items { st with S := st.S ++ dOpen k }).S ++ dShut k } := by
 have a1 : ¬ (x.k < 0 ∨ 11 < x.k) := by omega
 have a2 : ¬ 9 ≤ x.k := by omega
 have a3 : ¬ x.k = 10 := by omega
 have a4 : ¬ x.k = 9 := by omega
 have a5 : 5 < x.k ∧ x.k < 9 := by omega
 have a6 : ¬ x.k = 11 := by omega
 have a7 : x.k.toNat = k := by omega
 simp only [dBegin, dHead, if_neg a1, if_neg a2, if_neg a3, if_neg a4, if_pos a5, if_neg a6, a7]
theorem dBg_enum (hk : x.k = 9) : dBegin rec x st = { st with S := dSymG true x.syms ((st.S ++ dOpen 9 ++ x.name) ++ [60]) ++ dShut 9 } := by
 have a1 : ¬ (x.k < 0 ∨ 11 < x.k) := by omega
 have a2 : 9 ≤ x.k := by omega
 have a3 : ¬ x.k = 10 := by omega
 have a5 : ¬ (5 < x.k ∧ x.k < 9) := by omega
 have a6 : ¬ x.k = 11 := by omega
 have a7 : x.k.toNat = 9 := by omega
 simp only [dBegin, dHead, if_neg a1, if_pos a2, if_neg a3, if_pos hk, if_neg a5, if_neg a6, a7]
theorem dBg_fixed (hk : x.k = 10) : dBegin rec x st = { st with S := ((st.S ++ dOpen 10 ++ x.name) ++ [32] ++ dDig x.size) ++ dShut 10 } := by
 have a1 : ¬ (x.k < 0 ∨ 11 < x.k) := by omega
 have a2 : 9 ≤ x.k := by omega
 have a4 : ¬ x.k = 9 := by omega
 have a5 : ¬ (5 < x.k ∧ x.k < 9) := by omega
 have a6 : ¬ x.k = 11 := by omega
 have a7 : x.k.toNat = 10 := by omega
 simp only [dBegin, dHead, if_neg a1, if_pos a2, if_pos hk, if_neg a4, if_neg a5, if_neg a6, a7]
theorem dBg_rec (hk : x.k = 11) : dBegin rec x st = { dFlG rec x.fields { st with S := (st.S ++ dOpen 11 ++ x.name) ++ [123] } with S := (dFlG rec x.fields { st with S := (st.S ++ dOpen 11 ++ x.name) ++ [123] }).S ++ dShut 11 } := by
 have a1 : ¬ (x.k < 0 ∨ 11 < x.k) := by omega
 have a2 : 9 ≤ x.k := by omega
 have a3 : ¬ x.k = 10 := by omega
 have a4 : ¬ x.k = 9 := by omega
 have a5 : ¬ (5 < x.k ∧ x.k < 9) := by omega
 have a7 : x.k.toNat = 11 := by omega
 simp only [dBegin, dHead, if_neg a1, if_pos a2, if_neg a3, if_neg a4, if_neg a5, if_pos hk, a7]
theorem Dv.setN (h : Dv w b st) (n : Nat) : Dv (w.setCell ⟨b.pW, 2, none⟩ (.int .i64 (n : Int))) b { st with nx := n } ∧ Turn w (w.setCell ⟨b.pW, 2, none⟩ (.int .i64 (n : Int))) (some b.pW) := by
 have t := Blk.setTurn w b.pW 2 (.int .i64 (n : Int))
 exact ⟨⟨h.lo, h.sc.turn t h.size (fun g e => by injection e with e; have := h.lo; omega), h.ok, h.few, h.cap, h.blk.sets 2 (.int .i64 (n : Int))⟩, t⟩
section
variable {p g : Nat} {As : Option Addr} {sc : Nat} {Ai : Option Addr} {ic : Nat} {Af : Option Addr} {fc : Nat} {d f : Nat}
theorem wt_noname {PQ : Exit → Act → World → Prop} (h : Tv w b st x p g As sc Ai ic Af fc) (hk : x.k = (k : Int)) (hk9 : k < 9)
  (NX : ∀ (KK K2 : Act → World → Prop), (∀ a w, Code.wp Tryz.prog (tailOf 13 wtB) PQ a w → KK a w) → (∀ a w, Code.wp Tryz.prog (tailOf 1 (headOf 12 wtB)) (Exit.then KK PQ) a w → K2 a w) → ∀ {z_1 z_3 z_4 z_5 z_7 z_9 z_10 z_11 z_12 z_13 z_14 z_15 z_16 z_17 z_18 z_19 z_20 z_21 z_22 z_23 z_24 z_25 z_26 z_27 z_28 z_29 z_30 z_31 z_32 z_33 z_34 z_35 z_36 z_37 z_38 z_39 z_40 z_41 z_42 z_43 z_44 z_45 z_46 z_47 z_48 z_49 z_50 z_51 z_52 z_53 z_54 z_55 z_56 z_57 z_58 z_59 z_60 z_61 z_62 z_63 z_64 z_65 z_66 z_67 z_68 z_69 z_70 z_71 z_72 z_73 z_74 z_75 z_76 z_77 z_78 z_79 z_80 z_81 z_82 z_83 z_84 z_85 z_86 z_87 z_88 z_89 z_90 z_91 z_92 z_93 z_94 z_95 z_96 z_97 z_98 z_99 z_100 z_101 z_102 z_103 z_104 z_105 z_106 z_107 z_108 z_109 z_110 z_111 z_112 z_113 z_114 z_115 z_116 z_117 z_118 z_119 z_120 z_121 z_122 z_123 z_124 z_125 z_126 z_127 z_128 z_129 z_130 z_131 z_132 z_133 z_134 z_135 z_136 z_137 z_138 z_139 z_140 z_141 z_142 z_143 z_144 z_145 z_146 z_147 z_148 z_149 z_150 z_151 z_152 z_153 z_154 z_155 z_156 z_157 z_158 z_159 z_160 z_161 z_162 z_163 z_164 z_165 z_166 z_167 z_168 z_169 z_170 z_171 z_172 z_173 z_174 z_175 z_176 z_177 z_178 z_179 z_180 z_181 z_182 z_183 z_184 z_185 z_186 z_187 z_188 z_189 z_190 z_191 z_192 z_193 z_194 z_195 z_196 z_197 z_198 z_199 z_200 z_201 z_202 z_203 z_204 z_205 z_206 z_207 z_208 z_209 z_210 z_211 z_212 z_213 z_214 z_215 z_216 z_217 z_218 z_219 z_220 z_221 z_222 z_223 z_224 z_225 z_226 z_227 z_228 z_229 z_230 z_231 z_232 z_233 z_234 z_235 z_236 z_237 z_238 z_239 z_240 z_241 z_242 z_243 z_244 z_245 z_246 z_247 z_248 z_249 z_250 z_251 z_252 z_253 z_254 z_255 z_256 z_257 z_258 z_259 z_260 z_261 z_262 z_263 z_264 z_265 z_266 z_267 z_268 : Value}, Code.wp Tryz.prog (headOf 0 (headOf 12 wtB)) (Exit.then K2 (Exit.then KK PQ)) ⟨List.toArray (.pointer (some ⟨b.pW, 0, none⟩) :: z_1 :: .int .i64 (d : Int) :: z_3 :: z_4 :: z_5 :: .pointer (some ⟨p, 0, none⟩) :: z_7 :: .slice (some ⟨g, 0, none⟩) 12 12 :: z_9 :: z_10 :: z_11 :: z_12 :: z_13 :: z_14 :: z_15 :: z_16 :: z_17 :: z_18 :: z_19 :: z_20 :: z_21 :: z_22 :: z_23 :: z_24 :: z_25 :: z_26 :: z_27 :: z_28 :: z_29 :: z_30 :: z_31 :: z_32 :: z_33 :: z_34 :: z_35 :: z_36 :: z_37 :: z_38 :: z_39 :: z_40 :: z_41 :: z_42 :: z_43 :: z_44 :: z_45 :: z_46 :: z_47 :: z_48 :: z_49 :: z_50 :: z_51 :: z_52 :: z_53 :: z_54 :: z_55 :: z_56 :: z_57 :: z_58 :: z_59 :: z_60 :: z_61 :: z_62 :: z_63 :: z_64 :: z_65 :: z_66 :: z_67 :: z_68 :: z_69 :: z_70 :: z_71 :: z_72 :: z_73 :: z_74 :: z_75 :: z_76 :: z_77 :: z_78 :: z_79 :: z_80 :: z_81 :: z_82 :: z_83 :: z_84 :: z_85 :: z_86 :: z_87 :: z_88 :: z_89 :: z_90 :: z_91 :: z_92 :: z_93 :: z_94 :: z_95 :: z_96 :: z_97 :: z_98 :: z_99 :: z_100 :: z_101 :: z_102 :: z_103 :: z_104 :: z_105 :: z_106 :: z_107 :: z_108 :: z_109 :: z_110 :: z_111 :: z_112 :: z_113 :: z_114 :: z_115 :: z_116 :: z_117 :: z_118 :: z_119 :: z_120 :: z_121 :: z_122 :: z_123 :: z_124 :: z_125 :: z_126 :: z_127 :: z_128 :: z_129 :: z_130 :: z_131 :: z_132 :: z_133 :: z_134 :: z_135 :: z_136 :: z_137 :: z_138 :: z_139 :: z_140 :: z_141 :: z_142 :: z_143 :: z_144 :: z_145 :: z_146 :: z_147 :: z_148 :: z_149 :: z_150 :: z_151 :: z_152 :: z_153 :: z_154 :: z_155 :: z_156 :: z_157 :: z_158 :: z_159 :: z_160 :: z_161 :: z_162 :: z_163 :: z_164 :: z_165 :: z_166 :: z_167 :: z_168 :: z_169 :: z_170 :: z_171 :: z_172 :: z_173 :: z_174 :: z_175 :: z_176 :: z_177 :: z_178 :: z_179 :: z_180 :: z_181 :: z_182 :: z_183 :: z_184 :: z_185 :: z_186 :: z_187 :: z_188 :: z_189 :: z_190 :: z_191 :: z_192 :: z_193 :: z_194 :: z_195 :: z_196 :: z_197 :: z_198 :: z_199 :: z_200 :: z_201 :: z_202 :: z_203 :: z_204 :: z_205 :: z_206 :: z_207 :: z_208 :: z_209 :: z_210 :: z_211 :: z_212 :: z_213 :: z_214 :: z_215 :: z_216 :: z_217 :: z_218 :: z_219 :: z_220 :: z_221 :: z_222 :: z_223 :: z_224 :: z_225 :: z_226 :: z_227 :: z_228 :: z_229 :: z_230 :: z_231 :: z_232 :: z_233 :: z_234 :: z_235 :: z_236 :: z_237 :: z_238 :: z_239 :: z_240 :: z_241 :: z_242 :: z_243 :: z_244 :: z_245 :: z_246 :: z_247 :: z_248 :: z_249 :: z_250 :: z_251 :: z_252 :: z_253 :: z_254 :: z_255 :: z_256 :: z_257 :: z_258 :: z_259 :: z_260 :: z_261 :: z_262 :: z_263 :: z_264 :: z_265 :: z_266 :: z_267 :: z_268 :: []), []⟩ w) {e_1 e_3 e_4 e_5 e_7 e_9 e_10 e_11 e_12 e_13 e_14 e_15 e_16 e_17 e_18 e_19 e_20 e_21 e_22 e_23 e_24 e_25 e_26 e_27 e_28 e_29 e_30 e_31 e_32 e_33 e_34 e_35 e_36 e_37 e_38 e_39 e_40 e_41 e_42 e_43 e_44 e_45 e_46 e_47 e_48 e_49 e_50 e_51 e_52 e_53 e_54 e_55 e_56 e_57 e_58 e_59 e_60 e_61 e_62 e_63 e_64 e_65 e_66 e_67 e_68 e_69 e_70 e_71 e_72 e_73 e_74 e_75 e_76 e_77 e_78 e_79 e_80 e_81 e_82 e_83 e_84 e_85 e_86 e_87 e_88 e_89 e_90 e_91 e_92 e_93 e_94 e_95 e_96 e_97 e_98 e_99 e_100 e_101 e_102 e_103 e_104 e_105 e_106 e_107 e_108 e_109 e_110 e_111 e_112 e_113 e_114 e_115 e_116 e_117 e_118 e_119 e_120 e_121 e_122 e_123 e_124 e_125 e_126 e_127 e_128 e_129 e_130 e_131 e_132 e_133 e_134 e_135 e_136 e_137 e_138 e_139 e_140 e_141 e_142 e_143 e_144 e_145 e_146 e_147 e_148 e_149 e_150 e_151 e_152 e_153 e_154 e_155 e_156 e_157 e_158 e_159 e_160 e_161 e_162 e_163 e_164 e_165 e_166 e_167 e_168 e_169 e_170 e_171 e_172 e_173 e_174 e_175 e_176 e_177 e_178 e_179 e_180 e_181 e_182 e_183 e_184 e_185 e_186 e_187 e_188 e_189 e_190 e_191 e_192 e_193 e_194 e_195 e_196 e_197 e_198 e_199 e_200 e_201 e_202 e_203 e_204 e_205 e_206 e_207 e_208 e_209 e_210 e_211 e_212 e_213 e_214 e_215 e_216 e_217 e_218 e_219 e_220 e_221 e_222 e_223 e_224 e_225 e_226 e_227 e_228 e_229 e_230 e_231 e_232 e_233 e_234 e_235 e_236 e_237 e_238 e_239 e_240 e_241 e_242 e_243 e_244 e_245 e_246 e_247 e_248 e_249 e_250 e_251 e_252 e_253 e_254 e_255 e_256 e_257 e_258 e_259 e_260 e_261 e_262 e_263 e_264 e_265 e_266 e_267 e_268 : Value} :
  Code.wp Tryz.prog (tailOf 9 wtB) PQ ⟨List.toArray (.pointer (some ⟨b.pW, 0, none⟩) :: e_1 :: .int .i64 (d : Int) :: e_3 :: e_4 :: e_5 :: .pointer (some ⟨p, 0, none⟩) :: e_7 :: .slice (some ⟨g, 0, none⟩) 12 12 :: e_9 :: e_10 :: e_11 :: e_12 :: e_13 :: e_14 :: e_15 :: e_16 :: e_17 :: e_18 :: e_19 :: e_20 :: e_21 :: e_22 :: e_23 :: e_24 :: e_25 :: e_26 :: e_27 :: e_28 :: e_29 :: e_30 :: e_31 :: e_32 :: e_33 :: e_34 :: e_35 :: e_36 :: e_37 :: e_38 :: e_39 :: e_40 :: e_41 :: e_42 :: e_43 :: e_44 :: e_45 :: e_46 :: e_47 :: e_48 :: e_49 :: e_50 :: e_51 :: e_52 :: e_53 :: e_54 :: e_55 :: e_56 :: e_57 :: e_58 :: e_59 :: e_60 :: e_61 :: e_62 :: e_63 :: e_64 :: e_65 :: e_66 :: e_67 :: e_68 :: e_69 :: e_70 :: e_71 :: e_72 :: e_73 :: e_74 :: e_75 :: e_76 :: e_77 :: e_78 :: e_79 :: e_80 :: e_81 :: e_82 :: e_83 :: e_84 :: e_85 :: e_86 :: e_87 :: e_88 :: e_89 :: e_90 :: e_91 :: e_92 :: e_93 :: e_94 :: e_95 :: e_96 :: e_97 :: e_98 :: e_99 :: e_100 :: e_101 :: e_102 :: e_103 :: e_104 :: e_105 :: e_106 :: e_107 :: e_108 :: e_109 :: e_110 :: e_111 :: e_112 :: e_113 :: e_114 :: e_115 :: e_116 :: e_117 :: e_118 :: e_119 :: e_120 :: e_121 :: e_122 :: e_123 :: e_124 :: e_125 :: e_126 :: e_127 :: e_128 :: e_129 :: e_130 :: e_131 :: e_132 :: e_133 :: e_134 :: e_135 :: e_136 :: e_137 :: e_138 :: e_139 :: e_140 :: e_141 :: e_142 :: e_143 :: e_144 :: e_145 :: e_146 :: e_147 :: e_148 :: e_149 :: e_150 :: e_151 :: e_152 :: e_153 :: e_154 :: e_155 :: e_156 :: e_157 :: e_158 :: e_159 :: e_160 :: e_161 :: e_162 :: e_163 :: e_164 :: e_165 :: e_166 :: e_167 :: e_168 :: e_169 :: e_170 :: e_171 :: e_172 :: e_173 :: e_174 :: e_175 :: e_176 :: e_177 :: e_178 :: e_179 :: e_180 :: e_181 :: e_182 :: e_183 :: e_184 :: e_185 :: e_186 :: e_187 :: e_188 :: e_189 :: e_190 :: e_191 :: e_192 :: e_193 :: e_194 :: e_195 :: e_196 :: e_197 :: e_198 :: e_199 :: e_200 :: e_201 :: e_202 :: e_203 :: e_204 :: e_205 :: e_206 :: e_207 :: e_208 :: e_209 :: e_210 :: e_211 :: e_212 :: e_213 :: e_214 :: e_215 :: e_216 :: e_217 :: e_218 :: e_219 :: e_220 :: e_221 :: e_222 :: e_223 :: e_224 :: e_225 :: e_226 :: e_227 :: e_228 :: e_229 :: e_230 :: e_231 :: e_232 :: e_233 :: e_234 :: e_235 :: e_236 :: e_237 :: e_238 :: e_239 :: e_240 :: e_241 :: e_242 :: e_243 :: e_244 :: e_245 :: e_246 :: e_247 :: e_248 :: e_249 :: e_250 :: e_251 :: e_252 :: e_253 :: e_254 :: e_255 :: e_256 :: e_257 :: e_258 :: e_259 :: e_260 :: e_261 :: e_262 :: e_263 :: e_264 :: e_265 :: e_266 :: e_267 :: e_268 :: []), []⟩ w := by
 have k0 := h.k0
 rw [hk] at k0
 have i9 : ¬(9 : Int) ≤ (k : Int) := by omega
 have e9 : ((k : Int) == 9) = false := by rw [beq_eq_false_iff_ne]; omega
 have e10 : ((k : Int) == 10) = false := by rw [beq_eq_false_iff_ne]; omega
 clear h hk hk9
 conv => arg 2; whnf
 go_upto_region 24 with (fail)
 exact of_code2 (C' := headOf 0 (headOf 12 wtB)) (by kernel_rfl) (NX _ _ (by assumption) (by assumption))
theorem wt_rec10 {PQ : Exit → Act → World → Prop} (h : Tv w b st x p g As sc Ai ic Af fc) (hk : x.k = 11)
  (NX : ∀ (KK K2 : Act → World → Prop), (∀ a w, Code.wp Tryz.prog (tailOf 13 wtB) PQ a w → KK a w) → (∀ a w, Code.wp Tryz.prog (tailOf 1 (headOf 12 wtB)) (Exit.then KK PQ) a w → K2 a w) → ∀ {z_1 z_3 z_4 z_5 z_7 z_9 z_10 z_11 z_12 z_13 z_14 z_15 z_16 z_17 z_18 z_19 z_20 z_21 z_22 z_23 z_24 z_25 z_26 z_27 z_28 z_29 z_30 z_31 z_32 z_33 z_34 z_35 z_36 z_37 z_38 z_39 z_40 z_41 z_42 z_43 z_44 z_45 z_46 z_47 z_48 z_49 z_50 z_51 z_52 z_53 z_54 z_55 z_56 z_57 z_58 z_59 z_60 z_61 z_62 z_63 z_64 z_65 z_66 z_67 z_68 z_69 z_70 z_71 z_72 z_73 z_74 z_75 z_76 z_77 z_78 z_79 z_80 z_81 z_82 z_83 z_84 z_85 z_86 z_87 z_88 z_89 z_90 z_91 z_92 z_93 z_94 z_95 z_96 z_97 z_98 z_99 z_100 z_101 z_102 z_103 z_104 z_105 z_106 z_107 z_108 z_109 z_110 z_111 z_112 z_113 z_114 z_115 z_116 z_117 z_118 z_119 z_120 z_121 z_122 z_123 z_124 z_125 z_126 z_127 z_128 z_129 z_130 z_131 z_132 z_133 z_134 z_135 z_136 z_137 z_138 z_139 z_140 z_141 z_142 z_143 z_144 z_145 z_146 z_147 z_148 z_149 z_150 z_151 z_152 z_153 z_154 z_155 z_156 z_157 z_158 z_159 z_160 z_161 z_162 z_163 z_164 z_165 z_166 z_167 z_168 z_169 z_170 z_171 z_172 z_173 z_174 z_175 z_176 z_177 z_178 z_179 z_180 z_181 z_182 z_183 z_184 z_185 z_186 z_187 z_188 z_189 z_190 z_191 z_192 z_193 z_194 z_195 z_196 z_197 z_198 z_199 z_200 z_201 z_202 z_203 z_204 z_205 z_206 z_207 z_208 z_209 z_210 z_211 z_212 z_213 z_214 z_215 z_216 z_217 z_218 z_219 z_220 z_221 z_222 z_223 z_224 z_225 z_226 z_227 z_228 z_229 z_230 z_231 z_232 z_233 z_234 z_235 z_236 z_237 z_238 z_239 z_240 z_241 z_242 z_243 z_244 z_245 z_246 z_247 z_248 z_249 z_250 z_251 z_252 z_253 z_254 z_255 z_256 z_257 z_258 z_259 z_260 z_261 z_262 z_263 z_264 z_265 z_266 z_267 z_268 : Value}, Code.wp Tryz.prog (headOf 0 (headOf 12 wtB)) (Exit.then K2 (Exit.then KK PQ)) ⟨List.toArray (.pointer (some ⟨b.pW, 0, none⟩) :: z_1 :: .int .i64 (d : Int) :: z_3 :: z_4 :: z_5 :: .pointer (some ⟨p, 0, none⟩) :: z_7 :: .slice (some ⟨g, 0, none⟩) 12 12 :: z_9 :: z_10 :: z_11 :: z_12 :: z_13 :: z_14 :: z_15 :: z_16 :: z_17 :: z_18 :: z_19 :: z_20 :: z_21 :: z_22 :: z_23 :: z_24 :: z_25 :: z_26 :: z_27 :: z_28 :: z_29 :: z_30 :: z_31 :: z_32 :: z_33 :: z_34 :: z_35 :: z_36 :: z_37 :: z_38 :: z_39 :: z_40 :: z_41 :: z_42 :: z_43 :: z_44 :: z_45 :: z_46 :: z_47 :: z_48 :: z_49 :: z_50 :: z_51 :: z_52 :: z_53 :: z_54 :: z_55 :: z_56 :: z_57 :: z_58 :: z_59 :: z_60 :: z_61 :: z_62 :: z_63 :: z_64 :: z_65 :: z_66 :: z_67 :: z_68 :: z_69 :: z_70 :: z_71 :: z_72 :: z_73 :: z_74 :: z_75 :: z_76 :: z_77 :: z_78 :: z_79 :: z_80 :: z_81 :: z_82 :: z_83 :: z_84 :: z_85 :: z_86 :: z_87 :: z_88 :: z_89 :: z_90 :: z_91 :: z_92 :: z_93 :: z_94 :: z_95 :: z_96 :: z_97 :: z_98 :: z_99 :: z_100 :: z_101 :: z_102 :: z_103 :: z_104 :: z_105 :: z_106 :: z_107 :: z_108 :: z_109 :: z_110 :: z_111 :: z_112 :: z_113 :: z_114 :: z_115 :: z_116 :: z_117 :: z_118 :: z_119 :: z_120 :: z_121 :: z_122 :: z_123 :: z_124 :: z_125 :: z_126 :: z_127 :: z_128 :: z_129 :: z_130 :: z_131 :: z_132 :: z_133 :: z_134 :: z_135 :: z_136 :: z_137 :: z_138 :: z_139 :: z_140 :: z_141 :: z_142 :: z_143 :: z_144 :: z_145 :: z_146 :: z_147 :: z_148 :: z_149 :: z_150 :: z_151 :: z_152 :: z_153 :: z_154 :: z_155 :: z_156 :: z_157 :: z_158 :: z_159 :: z_160 :: z_161 :: z_162 :: z_163 :: z_164 :: z_165 :: z_166 :: z_167 :: z_168 :: z_169 :: z_170 :: z_171 :: z_172 :: z_173 :: z_174 :: z_175 :: z_176 :: z_177 :: z_178 :: z_179 :: z_180 :: z_181 :: z_182 :: z_183 :: z_184 :: z_185 :: z_186 :: z_187 :: z_188 :: z_189 :: z_190 :: z_191 :: z_192 :: z_193 :: z_194 :: z_195 :: z_196 :: z_197 :: z_198 :: z_199 :: z_200 :: z_201 :: z_202 :: z_203 :: z_204 :: z_205 :: z_206 :: z_207 :: z_208 :: z_209 :: z_210 :: z_211 :: z_212 :: z_213 :: z_214 :: z_215 :: z_216 :: z_217 :: z_218 :: z_219 :: z_220 :: z_221 :: z_222 :: z_223 :: z_224 :: z_225 :: z_226 :: z_227 :: z_228 :: z_229 :: z_230 :: z_231 :: z_232 :: z_233 :: z_234 :: z_235 :: z_236 :: z_237 :: z_238 :: z_239 :: z_240 :: z_241 :: z_242 :: z_243 :: z_244 :: z_245 :: z_246 :: z_247 :: z_248 :: z_249 :: z_250 :: z_251 :: z_252 :: z_253 :: z_254 :: z_255 :: z_256 :: z_257 :: z_258 :: z_259 :: z_260 :: z_261 :: z_262 :: z_263 :: z_264 :: z_265 :: z_266 :: z_267 :: z_268 :: []), []⟩ w) {e_1 e_3 e_4 e_5 e_7 e_9 e_10 e_11 e_12 e_13 e_14 e_15 e_16 e_17 e_18 e_19 e_20 e_21 e_22 e_23 e_24 e_25 e_26 e_27 e_28 e_29 e_30 e_31 e_32 e_33 e_34 e_35 e_36 e_37 e_38 e_39 e_40 e_41 e_42 e_43 e_44 e_45 e_46 e_47 e_48 e_49 e_50 e_51 e_52 e_53 e_54 e_55 e_56 e_57 e_58 e_59 e_60 e_61 e_62 e_63 e_64 e_65 e_66 e_67 e_68 e_69 e_70 e_71 e_72 e_73 e_74 e_75 e_76 e_77 e_78 e_79 e_80 e_81 e_82 e_83 e_84 e_85 e_86 e_87 e_88 e_89 e_90 e_91 e_92 e_93 e_94 e_95 e_96 e_97 e_98 e_99 e_100 e_101 e_102 e_103 e_104 e_105 e_106 e_107 e_108 e_109 e_110 e_111 e_112 e_113 e_114 e_115 e_116 e_117 e_118 e_119 e_120 e_121 e_122 e_123 e_124 e_125 e_126 e_127 e_128 e_129 e_130 e_131 e_132 e_133 e_134 e_135 e_136 e_137 e_138 e_139 e_140 e_141 e_142 e_143 e_144 e_145 e_146 e_147 e_148 e_149 e_150 e_151 e_152 e_153 e_154 e_155 e_156 e_157 e_158 e_159 e_160 e_161 e_162 e_163 e_164 e_165 e_166 e_167 e_168 e_169 e_170 e_171 e_172 e_173 e_174 e_175 e_176 e_177 e_178 e_179 e_180 e_181 e_182 e_183 e_184 e_185 e_186 e_187 e_188 e_189 e_190 e_191 e_192 e_193 e_194 e_195 e_196 e_197 e_198 e_199 e_200 e_201 e_202 e_203 e_204 e_205 e_206 e_207 e_208 e_209 e_210 e_211 e_212 e_213 e_214 e_215 e_216 e_217 e_218 e_219 e_220 e_221 e_222 e_223 e_224 e_225 e_226 e_227 e_228 e_229 e_230 e_231 e_232 e_233 e_234 e_235 e_236 e_237 e_238 e_239 e_240 e_241 e_242 e_243 e_244 e_245 e_246 e_247 e_248 e_249 e_250 e_251 e_252 e_253 e_254 e_255 e_256 e_257 e_258 e_259 e_260 e_261 e_262 e_263 e_264 e_265 e_266 e_267 e_268 : Value} :
  Code.wp Tryz.prog (tailOf 10 wtB) PQ ⟨List.toArray (.pointer (some ⟨b.pW, 0, none⟩) :: e_1 :: .int .i64 (d : Int) :: e_3 :: e_4 :: e_5 :: .pointer (some ⟨p, 0, none⟩) :: e_7 :: .slice (some ⟨g, 0, none⟩) 12 12 :: e_9 :: e_10 :: e_11 :: e_12 :: e_13 :: e_14 :: e_15 :: e_16 :: e_17 :: e_18 :: e_19 :: e_20 :: e_21 :: e_22 :: e_23 :: e_24 :: e_25 :: e_26 :: e_27 :: e_28 :: e_29 :: e_30 :: e_31 :: e_32 :: e_33 :: e_34 :: e_35 :: e_36 :: e_37 :: e_38 :: e_39 :: e_40 :: e_41 :: e_42 :: e_43 :: e_44 :: e_45 :: e_46 :: e_47 :: e_48 :: e_49 :: e_50 :: e_51 :: e_52 :: e_53 :: e_54 :: e_55 :: e_56 :: e_57 :: e_58 :: e_59 :: e_60 :: e_61 :: e_62 :: e_63 :: e_64 :: e_65 :: e_66 :: e_67 :: e_68 :: e_69 :: e_70 :: e_71 :: e_72 :: e_73 :: e_74 :: e_75 :: e_76 :: e_77 :: e_78 :: e_79 :: e_80 :: e_81 :: e_82 :: e_83 :: e_84 :: e_85 :: e_86 :: e_87 :: e_88 :: e_89 :: e_90 :: e_91 :: e_92 :: e_93 :: e_94 :: e_95 :: e_96 :: e_97 :: e_98 :: e_99 :: e_100 :: e_101 :: e_102 :: e_103 :: e_104 :: e_105 :: e_106 :: e_107 :: e_108 :: e_109 :: e_110 :: e_111 :: e_112 :: e_113 :: e_114 :: e_115 :: e_116 :: e_117 :: e_118 :: e_119 :: e_120 :: e_121 :: e_122 :: e_123 :: e_124 :: e_125 :: e_126 :: e_127 :: e_128 :: e_129 :: e_130 :: e_131 :: e_132 :: e_133 :: e_134 :: e_135 :: e_136 :: e_137 :: e_138 :: e_139 :: e_140 :: e_141 :: e_142 :: e_143 :: e_144 :: e_145 :: e_146 :: e_147 :: e_148 :: e_149 :: e_150 :: e_151 :: e_152 :: e_153 :: e_154 :: e_155 :: e_156 :: e_157 :: e_158 :: e_159 :: e_160 :: e_161 :: e_162 :: e_163 :: e_164 :: e_165 :: e_166 :: e_167 :: e_168 :: e_169 :: e_170 :: e_171 :: e_172 :: e_173 :: e_174 :: e_175 :: e_176 :: e_177 :: e_178 :: e_179 :: e_180 :: e_181 :: e_182 :: e_183 :: e_184 :: e_185 :: e_186 :: e_187 :: e_188 :: e_189 :: e_190 :: e_191 :: e_192 :: e_193 :: e_194 :: e_195 :: e_196 :: e_197 :: e_198 :: e_199 :: e_200 :: e_201 :: e_202 :: e_203 :: e_204 :: e_205 :: e_206 :: e_207 :: e_208 :: e_209 :: e_210 :: e_211 :: e_212 :: e_213 :: e_214 :: e_215 :: e_216 :: e_217 :: e_218 :: e_219 :: e_220 :: e_221 :: e_222 :: e_223 :: e_224 :: e_225 :: e_226 :: e_227 :: e_228 :: e_229 :: e_230 :: e_231 :: e_232 :: e_233 :: e_234 :: e_235 :: e_236 :: e_237 :: e_238 :: e_239 :: e_240 :: e_241 :: e_242 :: e_243 :: e_244 :: e_245 :: e_246 :: e_247 :: e_248 :: e_249 :: e_250 :: e_251 :: e_252 :: e_253 :: e_254 :: e_255 :: e_256 :: e_257 :: e_258 :: e_259 :: e_260 :: e_261 :: e_262 :: e_263 :: e_264 :: e_265 :: e_266 :: e_267 :: e_268 :: []), []⟩ w := by
 have k0 := h.k0
 rw [hk] at k0
 clear h hk
 conv => arg 2; whnf
 go_upto_region 24 with (fail)
 exact of_code2 (C' := headOf 0 (headOf 12 wtB)) (by kernel_rfl) (NX _ _ (by assumption) (by assumption))
theorem wt_tail (hd : d < 20) (hf : f ≤ 20) (TQ : DrQ f (d + 1)) (h : Tv w b { st with S := st.S ++ dOpen k } x p g As sc Ai ic Af fc) (hk : x.k = (k : Int)) (hk12 : k < 12) (hl : st.S.length ≤ 4096) (t0 : Turn w0 w (some b.pW)) (HF : FIN = dBegin (dTyp b.gs f (d + 1)) x st) {e_1 e_3 e_4 e_5 e_7 e_9 e_10 e_11 e_12 e_13 e_14 e_15 e_16 e_17 e_18 e_19 e_20 e_21 e_22 e_23 e_24 e_25 e_26 e_27 e_28 e_29 e_30 e_31 e_32 e_33 e_34 e_35 e_36 e_37 e_38 e_39 e_40 e_41 e_42 e_43 e_44 e_45 e_46 e_47 e_48 e_49 e_50 e_51 e_52 e_53 e_54 e_55 e_56 e_57 e_58 e_59 e_60 e_61 e_62 e_63 e_64 e_65 e_66 e_67 e_68 e_69 e_70 e_71 e_72 e_73 e_74 e_75 e_76 e_77 e_78 e_79 e_80 e_81 e_82 e_83 e_84 e_85 e_86 e_87 e_88 e_89 e_90 e_91 e_92 e_93 e_94 e_95 e_96 e_97 e_98 e_99 e_100 e_101 e_102 e_103 e_104 e_105 e_106 e_107 e_108 e_109 e_110 e_111 e_112 e_113 e_114 e_115 e_116 e_117 e_118 e_119 e_120 e_121 e_122 e_123 e_124 e_125 e_126 e_127 e_128 e_129 e_130 e_131 e_132 e_133 e_134 e_135 e_136 e_137 e_138 e_139 e_140 e_141 e_142 e_143 e_144 e_145 e_146 e_147 e_148 e_149 e_150 e_151 e_152 e_153 e_154 e_155 e_156 e_157 e_158 e_159 e_160 e_161 e_162 e_163 e_164 e_165 e_166 e_167 e_168 e_169 e_170 e_171 e_172 e_173 e_174 e_175 e_176 e_177 e_178 e_179 e_180 e_181 e_182 e_183 e_184 e_185 e_186 e_187 e_188 e_189 e_190 e_191 e_192 e_193 e_194 e_195 e_196 e_197 e_198 e_199 e_200 e_201 e_202 e_203 e_204 e_205 e_206 e_207 e_208 e_209 e_210 e_211 e_212 e_213 e_214 e_215 e_216 e_217 e_218 e_219 e_220 e_221 e_222 e_223 e_224 e_225 e_226 e_227 e_228 e_229 e_230 e_231 e_232 e_233 e_234 e_235 e_236 e_237 e_238 e_239 e_240 e_241 e_242 e_243 e_244 e_245 e_246 e_247 e_248 e_249 e_250 e_251 e_252 e_253 e_254 e_255 e_256 e_257 e_258 e_259 e_260 e_261 e_262 e_263 e_264 e_265 e_266 e_267 e_268 : Value} :
  Code.wp Tryz.prog (tailOf 9 wtB) (bodyPost Tryz.prog Tryz.f46 (Ud b w0 FIN)) ⟨List.toArray (.pointer (some ⟨b.pW, 0, none⟩) :: e_1 :: .int .i64 (d : Int) :: e_3 :: e_4 :: e_5 :: .pointer (some ⟨p, 0, none⟩) :: e_7 :: .slice (some ⟨g, 0, none⟩) 12 12 :: e_9 :: e_10 :: e_11 :: e_12 :: e_13 :: e_14 :: e_15 :: e_16 :: e_17 :: e_18 :: e_19 :: e_20 :: e_21 :: e_22 :: e_23 :: e_24 :: e_25 :: e_26 :: e_27 :: e_28 :: e_29 :: e_30 :: e_31 :: e_32 :: e_33 :: e_34 :: e_35 :: e_36 :: e_37 :: e_38 :: e_39 :: e_40 :: e_41 :: e_42 :: e_43 :: e_44 :: e_45 :: e_46 :: e_47 :: e_48 :: e_49 :: e_50 :: e_51 :: e_52 :: e_53 :: e_54 :: e_55 :: e_56 :: e_57 :: e_58 :: e_59 :: e_60 :: e_61 :: e_62 :: e_63 :: e_64 :: e_65 :: e_66 :: e_67 :: e_68 :: e_69 :: e_70 :: e_71 :: e_72 :: e_73 :: e_74 :: e_75 :: e_76 :: e_77 :: e_78 :: e_79 :: e_80 :: e_81 :: e_82 :: e_83 :: e_84 :: e_85 :: e_86 :: e_87 :: e_88 :: e_89 :: e_90 :: e_91 :: e_92 :: e_93 :: e_94 :: e_95 :: e_96 :: e_97 :: e_98 :: e_99 :: e_100 :: e_101 :: e_102 :: e_103 :: e_104 :: e_105 :: e_106 :: e_107 :: e_108 :: e_109 :: e_110 :: e_111 :: e_112 :: e_113 :: e_114 :: e_115 :: e_116 :: e_117 :: e_118 :: e_119 :: e_120 :: e_121 :: e_122 :: e_123 :: e_124 :: e_125 :: e_126 :: e_127 :: e_128 :: e_129 :: e_130 :: e_131 :: e_132 :: e_133 :: e_134 :: e_135 :: e_136 :: e_137 :: e_138 :: e_139 :: e_140 :: e_141 :: e_142 :: e_143 :: e_144 :: e_145 :: e_146 :: e_147 :: e_148 :: e_149 :: e_150 :: e_151 :: e_152 :: e_153 :: e_154 :: e_155 :: e_156 :: e_157 :: e_158 :: e_159 :: e_160 :: e_161 :: e_162 :: e_163 :: e_164 :: e_165 :: e_166 :: e_167 :: e_168 :: e_169 :: e_170 :: e_171 :: e_172 :: e_173 :: e_174 :: e_175 :: e_176 :: e_177 :: e_178 :: e_179 :: e_180 :: e_181 :: e_182 :: e_183 :: e_184 :: e_185 :: e_186 :: e_187 :: e_188 :: e_189 :: e_190 :: e_191 :: e_192 :: e_193 :: e_194 :: e_195 :: e_196 :: e_197 :: e_198 :: e_199 :: e_200 :: e_201 :: e_202 :: e_203 :: e_204 :: e_205 :: e_206 :: e_207 :: e_208 :: e_209 :: e_210 :: e_211 :: e_212 :: e_213 :: e_214 :: e_215 :: e_216 :: e_217 :: e_218 :: e_219 :: e_220 :: e_221 :: e_222 :: e_223 :: e_224 :: e_225 :: e_226 :: e_227 :: e_228 :: e_229 :: e_230 :: e_231 :: e_232 :: e_233 :: e_234 :: e_235 :: e_236 :: e_237 :: e_238 :: e_239 :: e_240 :: e_241 :: e_242 :: e_243 :: e_244 :: e_245 :: e_246 :: e_247 :: e_248 :: e_249 :: e_250 :: e_251 :: e_252 :: e_253 :: e_254 :: e_255 :: e_256 :: e_257 :: e_258 :: e_259 :: e_260 :: e_261 :: e_262 :: e_263 :: e_264 :: e_265 :: e_266 :: e_267 :: e_268 :: []), []⟩ w := by
 have ho : (dOpen k).length ≤ 7 := by
  unfold dOpen
  have := kw_few k
  split
  ·rw [List.length_append, List.length_singleton]; omega
  ·omega
 have hl1 : (st.S ++ dOpen k).length ≤ 4103 := by rw [List.length_append]; omega
 have hnm := h.ok.nm
 have hl2 : ((st.S ++ dOpen k) ++ x.name).length ≤ 140737488360000 := by rw [List.length_append]; omega
 rcases (show k < 6 ∨ (5 < k ∧ k < 9) ∨ k = 9 ∨ k = 10 ∨ k = 11 by omega) with h6 | ⟨h6, h9⟩ | rfl | rfl | rfl
 ·exact wt_noname h hk (by omega) (fun _ _ a b => wt_skip h hk hk12 (.inl h6) (by show (st.S ++ dOpen k).length ≤ _; omega) t0 (hid (by rw [HF, dBg_skip hk h6])) a b)
 ·exact wt_noname h hk h9 (fun _ _ a b => wt_items hd hf TQ h hk h6 h9 (by show (st.S ++ dOpen k).length ≤ _; omega) t0 (hid (by rw [HF, dBg_items hk h6 h9])) a b)
 ·exact wt_named h hk (by omega) hk12 (by show (st.S ++ dOpen 9).length ≤ _; omega) (fun w1 h1 t1 => wt_enum h1 hk hl2 (t0.trans t1) (hid (by rw [HF, dBg_enum hk])))
 ·exact wt_named h hk (by omega) hk12 (by show (st.S ++ dOpen 10).length ≤ _; omega) (fun w1 h1 t1 => wt_fixed h1 hk (by show ((st.S ++ dOpen 10) ++ x.name).length ≤ _; omega) (t0.trans t1) (hid (by rw [HF, dBg_fixed hk])))
 ·exact wt_named h hk (by omega) hk12 (by show (st.S ++ dOpen 11).length ≤ _; omega) (fun w1 h1 t1 => wt_rec10 h1 hk (fun _ _ a b => wt_rec hd hf TQ h1 hk (by show ((st.S ++ dOpen 11) ++ x.name).length ≤ _; omega) (t0.trans t1) (hid (by rw [HF, dBg_rec hk])) a b))
end
theorem dtyp_begin {f d : Nat} (hf : f ≤ 20) (TQ : DrQ f (d + 1)) (h : Dv w b st) {n : Int} (hoff : dOff b.gs d n st = false) (hx : b.gs[n.toNat]? = some x) (hn : ¬ n < (st.nx : Int)) :
  Calls Tryz.prog 46 #[.pointer (some ⟨b.pW, 0, none⟩), .int .i64 n, .int .i64 (d : Int)] w (Ud b w (dBegin (dTyp b.gs f (d + 1)) x { st with nx := st.nx + 1 })) := by
 have hlen := h.len
 have hfew := h.few
 have c0 := h.w0
 have c1 := h.w1
 have c2 := h.w2
 have c3 := h.w3
 have zf := h.blk.frozen 3
 unfold dOff at hoff
 simp only [Bool.or_eq_false_iff, decide_eq_false_iff_not] at hoff
 rw [← hlen] at hoff
 clear hlen
 obtain ⟨⟨⟨⟨⟨hb, i0⟩, i1⟩, i2⟩, i3⟩, i4⟩ := hoff
 have hd20 : d < 20 := by omega
 have hs4 : st.S.length ≤ 4096 := by omega
 rw [hb] at c3
 obtain ⟨m, rfl⟩ : ∃ m : Nat, n = (m : Int) := ⟨n.toNat, by omega⟩
 rw [Int.toNat_natCast] at hx
 have hmn : m = st.nx := by omega
 have hnx : st.nx ≤ 1000000 := by omega
 have i3 : ¬(20 : Int) ≤ (d : Int) := by omega
 have i4 : ¬(4096 : Int) < (st.S.length : Int) := by omega
 have HG := h.ok x (List.mem_of_getElem? hx)
 have hsz : (txt st.S).size = st.S.length := txt_size _
 obtain ⟨X, hX⟩ : ∃ X, X = txt st.S := ⟨_, rfl⟩
 rw [← hX] at c1 hsz
 clear hX
 obtain ⟨hv1, t1⟩ := h.setB false
 have hv1 : Dv (w.setCell ⟨b.pW, 3, none⟩ (.bool false)) b st := by
  have : ({ st with bad := false } : DW) = st := by rw [← hb]
  rwa [this] at hv1
 have HMN := hid hmn
 clear hmn
 go_enter Tryz.func46, Tryz.ntmps46
 go_upto_region 2 with (fail)
 clear c0 c1 c2 c3 zf hsz
 obtain ⟨w1, hw1⟩ : ∃ w1, w1 = w.setCell ⟨b.pW, 3, none⟩ (.bool false) := ⟨_, rfl⟩
 rw [← hw1] at hv1 t1
 rw [← hw1]
 clear hw1
 have c0 := hv1.w0
 obtain ⟨b1, o1, As, sc, Ai, ic, Af, fc, hA, nv, a0, a1, a2, a3, a4, a5⟩ := hv1.sc.cells hx
 rw [hA] at c0
 go_upto_region 3 with (first
  | (refine wp_al rfl 64 rfl _ zNdv ?_; intro p w4 hp hb4 ht4)
  | (refine wp_st rfl 64 _ _ rfl rfl rfl hb4 rfl (xs := [.int .i64 x.k, .string (txt x.name), .int .i64 x.size, .slice As x.syms.length sc, .slice Ai x.items.length ic, .slice Af x.fields.length fc]) szNd (ones_cons rfl (ones_cons rfl (ones_cons rfl (ones_cons rfl (ones_cons rfl (ones_cons rfl ones_nil)))))) ?_; intro w5 hb5 ht5))
 have t05 : Turn w1 w5 none := ht4.new ht5 (fun g' e => by injection e with e; omega)
 have hv5 := hv1.turn0 t05
 have b2 := hv5.w2
 have lp := hb5.lt
 have npW : b.pW < p := by have := hv1.blk.lt; omega
 obtain ⟨As', sc', Ai', ic', Af', fc', ev, rs, ri, rf⟩ := nv
 injection ev with ev
 injection ev with ev
 simp only [List.cons.injEq, Value.slice.injEq, and_true, true_and] at ev
 obtain ⟨⟨rfl, rfl⟩, ⟨rfl, rfl⟩, rfl, rfl⟩ := ev
 have rs := rs.turn0 t05 hv1.size
 have ri := ri.turn0 t05 hv1.size
 have rf := rf.turn0 t05 hv1.size
 have zf := hv5.blk.frozen 2
 have lw := hv5.blk.lt
 clear a0 a1 a2 a3 a4 a5 c0
 obtain ⟨hv6, t6⟩ := hv5.setN (st.nx + 1)
 have hww : IntKind.i64.wrap ((st.nx : Int) + 1) = (st.nx : Int) + 1 := by rw [IntKind.wrap_i64]; omega
 rw [Int.natCast_add] at hv6 t6
 have H6 := hid (And.intro hv6 t6)
 clear hv6 t6
 go_upto_region 7 with (fail)
 obtain ⟨w6, hw6⟩ : ∃ w6, w6 = w5.setCell ⟨b.pW, 2, none⟩ (.int .i64 ((st.nx : Int) + 1)) := ⟨_, rfl⟩
 have hv6 : Dv w6 b { st with nx := st.nx + 1 } := by rw [hw6]; exact H6.out.1
 have t6 : Turn w5 w6 (some b.pW) := by rw [hw6]; exact H6.out.2
 rw [← hw6]
 clear hw6 b2 zf H6 hww lw
 have hbs := hv5.size
 have hb6 : ∀ q : Nat, some b.pW = some q → b.base ≤ q := fun q e => by injection e with e; have := hv5.lo; omega
 have nb6 := hb5.turn t6 (fun e => by injection e with e; omega)
 have rs := rs.turn t6 hbs hb6
 have ri := ri.turn t6 hbs hb6
 have rf := rf.turn t6 hbs hb6
 have T6 : Turn w w6 (some b.pW) := (t1.trans (t05.any _)).trans t6
 have k0 : w6.cell? ⟨p, 0, none⟩ = some (.int .i64 x.k) := nb6.ats rfl
 by_cases hko : x.k < 0 ∨ 11 < x.k
 ·have HKO := hid hko
  obtain ⟨hv7, t7⟩ := hv6.setB true
  have T7 := T6.trans t7
  have H7 := hid (And.intro hv7 T7)
  have zf := hv6.blk.frozen 3
  have lw := hv6.blk.lt
  have b3 := hv6.w3
  clear hv7 t7 T7
  rcases (show x.k < 0 ∨ (¬x.k < 0 ∧ 11 < x.k) by omega) with o1 | ⟨o1, o2⟩
  all_goals
   clear hko
   go_wp2
   go_end0
   refine ⟨rfl, ?_, H7.out.2⟩
   rw [dBg_off HKO.out]
   exact H7.out.1
 ·obtain ⟨k, hk⟩ : ∃ k : Nat, x.k = (k : Int) := ⟨x.k.toNat, by omega⟩
  have hk12 : k < 12 := by omega
  rw [hk] at k0
  have o1 : ¬(k : Int) < 0 := by omega
  have o2 : ¬(11 : Int) < (k : Int) := by omega
  have kI : (k : Int) < 12 := by omega
  clear hko
  go_upto_region 10 with (fail)
  change Code.wp _ _ _ _ (w6.alloc (.cells opL.toArray 9))
  have nbo : Blk (w6.alloc (.cells opL.toArray 9)) w6.heap.size 9 opL.toArray := Blk.new w6 _ _
  have t7 : Turn w6 (w6.alloc (.cells opL.toArray 9)) none := (Turn.refl w6 none).alloc _
  obtain ⟨go, hgo⟩ : ∃ go, go = w6.heap.size := ⟨_, rfl⟩
  rw [← hgo] at nbo
  rw [← hgo]
  have ngo : b.pW < go := by have := hv6.blk.lt; omega
  have HGO := hid hgo
  clear hgo
  obtain ⟨w7, hw7⟩ : ∃ w7, w7 = w6.alloc (.cells opL.toArray 9) := ⟨_, rfl⟩
  rw [← hw7] at nbo t7
  rw [← hw7]
  clear hw7
  have k07 := nb6.turn0 t7
  have hv7 := hv6.turn0 t7
  go_upto_region 11 with (fail)
  change Code.wp _ _ _ _ (w7.alloc (.cells shL.toArray 9))
  have nbs : Blk (w7.alloc (.cells shL.toArray 9)) w7.heap.size 9 shL.toArray := Blk.new w7 _ _
  have t8 : Turn w7 (w7.alloc (.cells shL.toArray 9)) none := (Turn.refl w7 none).alloc _
  obtain ⟨gs, hgs⟩ : ∃ gs, gs = w7.heap.size := ⟨_, rfl⟩
  rw [← hgs] at nbs
  rw [← hgs]
  have ngs : b.pW < gs := by have := hv7.blk.lt; omega
  have HGS := hid hgs
  clear hgs
  obtain ⟨w8, hw8⟩ : ∃ w8, w8 = w7.alloc (.cells shL.toArray 9) := ⟨_, rfl⟩
  rw [← hw8] at nbs t8
  rw [← hw8]
  clear hw8
  have t68 := t7.trans t8
  have hv8 := hv7.turn0 t8
  have tv8 : Tv w8 b { st with nx := st.nx + 1 } x p gs As sc Ai ic Af fc := ⟨hv8, nb6.turn0 t68, nbs, npW, ngs, rs.turn0 t68 hv6.size, ri.turn0 t68 hv6.size, rf.turn0 t68 hv6.size, HG⟩
  have T8 := T6.trans (t68.any _)
  have k08 := tv8.k0
  rw [hk] at k08
  have s08 : w8.cell? ⟨go, k, none⟩ = some (.string (txt (dOpen k))) := ((nbo.turn0 t8).cell k).trans (by rw [List.getElem?_toArray]; exact opL_at hk12)
  have c18 : w8.cell? ⟨b.pW, 1, none⟩ = some (.string (txt st.S)) := hv8.w1
  have ho : (dOpen k).length ≤ 7 := by
   unfold dOpen
   have := kw_few k
   split
   ·rw [List.length_append, List.length_singleton]; omega
   ·omega
  obtain ⟨Y, hY⟩ : ∃ Y, Y = txt (dOpen k) := ⟨_, rfl⟩
  obtain ⟨Z, hZ⟩ : ∃ Z, Z = txt st.S := ⟨_, rfl⟩
  have hZY := hid (show Z ++ Y = txt (st.S ++ dOpen k) by rw [hZ, hY, txt_app2])
  have q1 : ¬ 9223372036854775807 < Z.size + Y.size := by rw [hZ, hY, txt_size, txt_size]; omega
  rw [← hZ] at c18
  rw [← hY] at s08
  have zf := hv8.blk.frozen 1
  have lw := hv8.blk.lt
  have npW' : p ≠ b.pW := by omega
  have ngW' : go ≠ b.pW := by omega
  have HT := hid (And.intro tv8 T8)
  clear hZ hY ho k0 k07 hv8 hv7 hv6 hv5 hv1 tv8 T8 T6 t68 t8 t7 t6 t05 t1 rs ri rf nbo nbs nb6 hb5 hb4 ht4 ht5 hbs hb6
  refine wp_region_noPanic ?_
  refine wp_region_held_drew (S := (fun W => W.cell? ⟨p, 0, none⟩ = some (.int .i64 (k : Int)) ∧ W.cell? ⟨go, k, none⟩ = some (.string Y))) (by kernel_rfl) (⟨k08, s08⟩) (fun hHeld => ?_)
  (first | refine tkN 0 ?_ | refine tkY 0 _ ?_); (try simp only [Act.put, zs])
  (first | refine tkN 1 ?_ | refine tkY 1 _ ?_); (try simp only [Act.put, zs])
  (first | refine tkN 2 ?_ | refine tkY 2 _ ?_); (try simp only [Act.put, zs])
  (first | refine tkN 3 ?_ | refine tkY 3 _ ?_); (try simp only [Act.put, zs])
  (first | refine tkN 5 ?_ | refine tkY 5 _ ?_); (try simp only [Act.put, zs])
  (first | refine tkN 6 ?_ | refine tkY 6 _ ?_); (try simp only [Act.put, zs])
  (first | refine tkN 7 ?_ | refine tkY 7 _ ?_); (try simp only [Act.put, zs])
  (first | refine tkN 8 ?_ | refine tkY 8 _ ?_); (try simp only [Act.put, zs])
  (first | refine tkN 9 ?_ | refine tkY 9 _ ?_); (try simp only [Act.put, zs])
  refine wpAnyH_ready (rs := [4]) (by kernel_rfl) (by simp) ?_; refine AllReadyH.cons rfl (fun K hK => ?_) AllReadyH.nil
  go_simp
  refine hK.out _ _ ⟨k08, s08⟩ (fun hHeld => ?_); clear hK K; (try simp only [Act.put, zs])
  (first | refine tkN 10 ?_ | refine tkY 10 _ ?_); (try simp only [Act.put, zs])
  (first | refine tkN 11 ?_ | refine tkY 11 _ ?_); (try simp only [Act.put, zs])
  (first | refine tkN 12 ?_ | refine tkY 12 _ ?_); (try simp only [Act.put, zs])
  refine wpAnyH_ready (rs := [13]) (by kernel_rfl) (by simp) ?_; refine AllReadyH.cons rfl (fun K hK => ?_) AllReadyH.nil
  go_simp
  refine hK.out _ _ ⟨(World.cell?_setCell_far _ _ _ _ npW'.symm).trans k08, (World.cell?_setCell_far _ _ _ _ ngW'.symm).trans s08⟩ (fun hHeld => ?_); clear hK K; (try simp only [Act.put, zs])
  refine wpAnyH_done (by kernel_rfl) ?_ _
  refine NoPanic.normal ?_
  clear hHeld
  obtain ⟨hv9, t9⟩ := HT.out.1.dv.setS (st.S ++ dOpen k)
  rw [← hZY.out] at hv9 t9
  have hv9 := hv9.turn0 (Turn.refl _ none).drew
  have t9 := t9.drew
  have h9 := HT.out.1.turn t9 hv9
  have T9 := HT.out.2.trans t9
  exact ‹∀ (a : Act) (w : World), Code.wp Tryz.prog _ (bodyPost Tryz.prog _ _) a w → _› _ _ (of_code2 (C' := tailOf 9 wtB) (by kernel_rfl) (wt_tail hd20 hf TQ (st := { st with nx := st.nx + 1 }) h9 hk hk12 hs4 T9 rfl))
theorem rwtyp_any : ∀ (f d : Nat), f + d = 20 → DrQ f d
 | 0, d, hfd => fun w b st n h hS => by
  rw [dTyp]
  refine dtyp_off h (by omega) ?_
  unfold dOff
  simp only [Bool.or_eq_true, decide_eq_true_eq]
  exact .inl (.inr (by omega))
 | f + 1, d, hfd => fun w b st n h hS => by
  have TQ := rwtyp_any f (d + 1) (by omega)
  rw [dTyp]
  cases hoff : dOff b.gs d n st with
  | true =>
   rw [if_pos rfl]
   exact dtyp_off h (by omega) hoff
  | false =>
   rw [if_neg (by decide)]
   have hoff2 := hoff
   unfold dOff at hoff2
   simp only [Bool.or_eq_false_iff, decide_eq_false_iff_not] at hoff2
   obtain ⟨⟨⟨⟨⟨hb, i0⟩, i1⟩, i2⟩, i3⟩, i4⟩ := hoff2
   have hlt : n.toNat < b.gs.length := by omega
   obtain ⟨x, hx⟩ : ∃ x, b.gs[n.toNat]? = some x := ⟨b.gs[n.toNat], List.getElem?_eq_getElem hlt⟩
   rw [hx]
   simp only
   by_cases hn : n < (st.nx : Int)
   ·rw [if_pos hn]
    exact dtyp_back h (by omega) hoff hx hn
   ·rw [if_neg hn]
    exact dtyp_begin (by omega) TQ h hoff hx hn
end
open Go.RowKit
section
variable {P : Program} {ops : Array Oper} {rest : List Oper} {a : Act} {w : World} {Q : Exit → Act → World → Prop} {o : Oper} {g off : Nat} {t : TypeId} {cs : Array Value} {xs : List Value} {d : TypeDesc}
theorem wp_ldH (hw : Region.wanted o (yielded ops a.tmps) = true) (ty : TypeId) (x : Operand) (ho : o.op = .load ty x) (hx : a.eval x = .pointer (some ⟨g, off, none⟩)) (h : Blk w g t cs) (hs : Sub cs off xs)
  (hu : P.underlying ty = some d) (hd : d.isRow = true) (hi : (P.info? ty).map (·.size) = some xs.length) (hK : wpList P ops Q rest (a.put o.dst (.agg xs.toArray)) w) : wpList P ops Q (o :: rest) a w :=
 BigFrame.wpList_want hw fun _ hK2 => wp_load_mid ty x ho g off hx xs d (h.range hs) hu hd hi (hK2 _ _ hK)
end
theorem rparse_yes {l : List UInt8} {N : List Nd} (h : eRead l = .ok N) (w : World) : Calls Tryz.prog 24 #[.string (txt l)] w fun e w' => ∃ A c, e = .returned (.tuple #[.agg #[.slice A N.length c], .int .i64 0, .int .i64 0]) ∧ Sv w' A N.length c (N.map Nd.g) ∧ N.length ≤ 200 ∧ Turn w w' none := by
 refine (rparse_any l w).mono ?_
 rintro e w' (⟨N', v, a, q, rfl, ⟨R, hR, rfl⟩, hok, ha, ht⟩ | ⟨p, er, q, _⟩)
 ·rw [h] at q
  injection q with q
  subst q
  exact ⟨_, _, rfl, ⟨hR.sc, ok_of h hok ha, by have := hok.few; omega, hR.own.cap⟩, hok.few, ht⟩
 ·rw [h] at q; cases q
theorem rparse_no {l : List UInt8} {p er : Nat} (h : eRead l = .error (p, er)) (w : World) : Calls Tryz.prog 24 #[.string (txt l)] w fun e w' => e = .returned (.tuple #[.agg #[.slice none 0 0], .int .i64 (p : Int), .int .i64 (er : Int)]) ∧ ((er : Int) != 0) = true ∧ Turn w w' none := by
 refine (rparse_any l w).mono ?_
 rintro e w' (⟨N', v, a, q, _⟩ | ⟨p', er', q, hne, rfl, ht⟩)
 ·rw [h] at q; cases q
 ·rw [h] at q
  injection q with q
  injection q with q1 q2
  subst q1; subst q2
  exact ⟨rfl, by rw [bne_iff_ne]; omega, ht⟩
def rshV (gs : List Gn) : Ending := match dShow gs with
 | none => .returned (.tuple #[.string (txt []), .int .i64 1])
 | some t => .returned (.tuple #[.string (txt t), .int .i64 0])
section
variable {w : World} {B n c : Nat} {A : Option Addr} {gs : List Gn}
theorem rshow_any (hs : Sc w B A n gs) (hB : B ≤ w.heap.size) (hn : n ≤ 1000000) (hG : ∀ x ∈ gs, GOk x) (hnc : n ≤ c ∧ c ≤ maxLen) :
  Calls Tryz.prog 15 #[.agg #[.slice A n c]] w fun e w' => e = rshV gs ∧ Turn w w' none := by
 have hgl := hs.1
 obtain ⟨E, hE⟩ : ∃ E, E = rshV gs := ⟨_, rfl⟩
 rw [← hE]
 have HE := hid hE
 clear hE
 go_enter Tryz.func15, Tryz.ntmps15
 go_upto_region 2 with (first
  | (refine wp_ld rfl 24 _ rfl rfl hb0 (Sub.all [.slice A n c]) Tryz.underlying24 rfl szSch ?_)
  | (refine wp_bx rfl 75 _ rfl rfl ?_; intro pW w2 hpW hb2 ht2)
  | (refine wp_bx rfl 24 _ rfl rfl ?_; intro g0 w1 hg0 hb0 ht0))
 obtain ⟨b, hb⟩ : ∃ b : DB, b = ⟨pW, w1.heap.size, A, n, c, gs⟩ := ⟨_, rfl⟩
 have hs0 := ht0.size
 have hv : Dv w2 b ⟨[], 0, false⟩ := by
  rw [hb]
  exact ⟨by show w1.heap.size ≤ pW; omega, ((hs.turn0 ht0 hB).mono (show B ≤ w1.heap.size by omega)).turn0 ht2 (Nat.le_refl _), hG, hn, hnc, hb2⟩
 have hbp : b.pW = pW := by rw [hb]
 have hbg : b.gs = gs := by rw [hb]
 have key : Calls Tryz.prog 46 #[.pointer (some ⟨pW, 0, none⟩), .int .i64 0, .int .i64 0] w2 (Ud b w2 (dTop gs)) := by
  have h := rwtyp_any 20 0 rfl w2 b ⟨[], 0, false⟩ 0 hv (by simp)
  rw [hbp, hbg] at h
  exact h
 have HPW := hid hbp
 clear hb hbp hbg
 go_upto_region 3 with (go_at_call 46; refine key.mono ?_; rintro e w3 ⟨rfl, hv3, t3⟩)
 rw [HPW.out] at t3
 have T3 : Turn w w3 none := (ht0.trans ht2).new t3 (fun q e => by injection e with e; omega)
 have w0s : g0 < w2.heap.size := by have := hb0.lt; have := ht2.size; omega
 have hb03 : Blk w3 g0 24 ([.slice A n c] : List Value).toArray := (hb0.turn0 ht2).turn t3 (fun e => by injection e with e; have := hb0.lt; omega)
 have c03 : w3.cell? ⟨g0, 0, none⟩ = some (.slice A n c) := hb03.ats rfl
 have b3 := hv3.w3
 have b2 := hv3.w2
 have b1 := hv3.w1
 rw [HPW.out] at b1 b2 b3
 obtain ⟨T, hT⟩ : ∃ T, T = dTop gs := ⟨_, rfl⟩
 rw [← hT] at b1 b2 b3
 have hsc3 : Sc w3 B A n gs := hs.turn0 T3 hB
 have hB3 : B ≤ w3.heap.size := Nat.le_trans hB T3.size
 clear key hb2 hv hv3 t3 hb0 hsc3 hB3
 have HTS := hid T3
 by_cases hbad : T.bad = true ∨ T.nx ≠ gs.length
 ·have HV := hid (show E = .returned (.tuple #[.string (txt []), .int .i64 1]) by rw [HE.out]; unfold rshV dShow; rw [← hT, if_pos hbad])
  clear HE hT
  cases hbd : T.bad with
  | true =>
   rw [hbd] at b3
   clear hbad hbd
   go_quiet (fail)
   go_wp2
   go_ret2
   rw [HV.out]
   exact ⟨rfl, (T3.drewN _)⟩
  | false =>
   rw [hbd] at b3
   have hnx : ((T.nx : Int) != (n : Int)) = true := by
    rw [bne_iff_ne]
    rcases hbad with q | q
    ·rw [hbd] at q; cases q
    ·omega
   clear hbad hbd
   go_quiet (fail)
   go_wp2
   go_ret2
   rw [HV.out]
   exact ⟨rfl, (T3.drewN _)⟩
 ·have hbd : T.bad = false := by
   cases q : T.bad with
   | false => rfl
   | true => exact absurd (.inl q) hbad
  have hnq : T.nx = gs.length := by
   by_cases q : T.nx = gs.length
   ·exact q
   ·exact absurd (.inr q) hbad
  have hnx : ((T.nx : Int) != (n : Int)) = false := by rw [bne_eq_false_iff_eq]; omega
  rw [hbd] at b3
  cases hr : eRead T.S with
  | error pe =>
   obtain ⟨p, er⟩ := pe
   have HV := hid (show E = .returned (.tuple #[.string (txt []), .int .i64 1]) by rw [HE.out]; unfold rshV dShow; rw [← hT, if_neg hbad, hr])
   have pa := fun {w : World} => rparse_no hr w
   clear HE hT hbad hbd hnq hr
   go_quiet (fail)
   go_wp2_with (first
    | (go_at_call 24; refine pa.mono ?_; rintro e w5 ⟨rfl, hne, t5⟩)
    | (refine wp_var rfl rfl 24 _ _ rfl rfl rfl rfl zSch (fun _ => rfl) (xs := [.slice none 0 0]) (fun _ => rfl) rfl szSch (one1 rfl) ?_; intro g6 w6 hg6 hb6 t6))
   go_ret2
   rw [HV.out]
   exact ⟨rfl, ((T3.drewN _).trans t5).trans t6⟩
  | ok N =>
   have pa := fun {w : World} => rparse_yes hr w
   have sm := fun {w : World} {A2 : Option Addr} {c2 : Nat} (h1 : Sv w A2 N.length c2 (N.map Nd.g)) (h2 : Sc w B A n gs) (h3 : B ≤ w.heap.size) => rsame_any (c := c2) (d := c) h1.sc (h2.mono h3) (Nat.le_refl _) h1.few (fun x hx => ⟨(h1.ok x hx).ls, (h1.ok x hx).li, (h1.ok x hx).lf⟩)
   have HV := hid (show E = if N.map Nd.g = gs then .returned (.tuple #[.string (txt T.S), .int .i64 0]) else .returned (.tuple #[.string (txt []), .int .i64 1]) by
    rw [HE.out]; unfold rshV dShow; rw [← hT, if_neg hbad, hr]
    simp only
    by_cases q : N.map Nd.g = gs
    ·rw [if_pos q, if_pos q]
    ·rw [if_neg q, if_neg q])
   obtain ⟨gN, hgN⟩ : ∃ g, g = N.map Nd.g := ⟨_, rfl⟩
   obtain ⟨nN, hnN⟩ : ∃ g, g = N.length := ⟨_, rfl⟩
   rw [← hgN] at HV
   simp only [← hgN, ← hnN] at pa sm
   clear HE hT hbad hbd hnq hr hgN hnN
   go_quiet (fail)
   have hb04 := hb03.drewN
   by_cases hq : gN = gs
   ·have hq2 : (gN == gs) = true := by rw [beq_iff_eq]; exact hq
    rw [hq2] at sm
    have HV := hid (HV.out.trans (if_pos hq))
    clear hq hq2
    go_wp2_with (first
     | (go_at_call 24; refine pa.mono ?_; rintro e w5 ⟨A5, c5, rfl, v5, f5, t5⟩)
     | (refine wp_var rfl rfl 24 _ _ rfl rfl rfl rfl zSch (fun _ => rfl) (xs := [.slice A5 nN c5]) (fun _ => rfl) rfl szSch (one1 rfl) ?_; intro g6 w6 hg6 hb6 t6; have T6 := ((HTS.out.drewN _).trans t5).trans t6; have h06 := ((hb04 _).turn0 t5).turn0 t6)
     | (refine wp_ldH (by rfl) 24 _ rfl rfl hb6 (Sub.all [.slice A5 nN c5]) Tryz.underlying24 rfl szSch ?_)
     | (refine wp_ldH (by rfl) 24 _ rfl rfl h06 (Sub.all [.slice A n c]) Tryz.underlying24 rfl szSch ?_)
     | (go_at_call 25; refine (sm (v5.turn t6) (hs.turn0 T6 hB) (Nat.le_trans hB T6.size)).mono ?_; rintro e w7 ⟨rfl, t7⟩; have b17 := (t7.cell (a := ⟨pW, 1, none⟩) (Nat.lt_of_lt_of_le (World.block_lt_of_cell? _ _ b1) (Nat.le_trans t5.size t6.size)) (by simp)).trans (((t5.trans t6).cell (a := ⟨pW, 1, none⟩) (World.block_lt_of_cell? _ _ b1) (by simp)).trans b1)))
    go_ret2
    rw [HV.out]
    exact ⟨rfl, T6.trans t7⟩
   ·have hq2 : (gN == gs) = false := by rw [beq_eq_false_iff_ne]; exact hq
    rw [hq2] at sm
    have HV := hid (HV.out.trans (if_neg hq))
    clear hq hq2
    go_wp2_with (first
     | (go_at_call 24; refine pa.mono ?_; rintro e w5 ⟨A5, c5, rfl, v5, f5, t5⟩)
     | (refine wp_var rfl rfl 24 _ _ rfl rfl rfl rfl zSch (fun _ => rfl) (xs := [.slice A5 nN c5]) (fun _ => rfl) rfl szSch (one1 rfl) ?_; intro g6 w6 hg6 hb6 t6; have T6 := ((HTS.out.drewN _).trans t5).trans t6; have h06 := ((hb04 _).turn0 t5).turn0 t6)
     | (refine wp_ldH (by rfl) 24 _ rfl rfl hb6 (Sub.all [.slice A5 nN c5]) Tryz.underlying24 rfl szSch ?_)
     | (refine wp_ldH (by rfl) 24 _ rfl rfl h06 (Sub.all [.slice A n c]) Tryz.underlying24 rfl szSch ?_)
     | (go_at_call 25; refine (sm (v5.turn t6) (hs.turn0 T6 hB) (Nat.le_trans hB T6.size)).mono ?_; rintro e w7 ⟨rfl, t7⟩))
    go_ret2
    rw [HV.out]
    exact ⟨rfl, T6.trans t7⟩
end
structure WfN (n : Nat) (x : Nd) : Prop where
 k : x.k < 12
 one : x.k = 6 ∨ x.k = 7 → ∃ i, x.items = [i] ∧ i < n
 some_ : x.k = 8 → x.items ≠ [] ∧ ∀ i ∈ x.items, i < n
 nit : x.k < 6 ∨ 8 < x.k → x.items = []
 fld : ∀ f ∈ x.fields, f.ty < n
 nfl : x.k ≠ 11 → x.fields = []
 sym : x.k = 9 → x.syms ≠ []
 nsy : x.k ≠ 9 → x.syms = []
 siz : x.k ≠ 10 → x.size = 0
 nam : x.k < 9 → x.name = []
theorem WfN.mono {n m : Nat} {x : Nd} (h : WfN n x) (hm : n ≤ m) : WfN m x :=
 ⟨h.k, fun q => by obtain ⟨i, e, l⟩ := h.one q; exact ⟨i, e, by omega⟩, fun q => ⟨(h.some_ q).1, fun i hi => by have := (h.some_ q).2 i hi; omega⟩, h.nit, fun f hf => by have := h.fld f hf; omega, h.nfl, h.sym, h.nsy, h.siz, h.nam⟩
def NwF (N N' : List Nd) : Prop := N <+: N' ∧ ∀ i x, N.length ≤ i → N'[i]? = some x → WfN N'.length x
theorem NwF.refl (N : List Nd) : NwF N N := ⟨List.prefix_refl _, fun i x h1 h2 => by rw [List.getElem?_eq_none h1] at h2; cases h2⟩
theorem NwF.len {N N' : List Nd} (h : NwF N N') : N.length ≤ N'.length := h.1.length_le
theorem NwF.trans {A B C : List Nd} (h : NwF A B) (k : NwF B C) : NwF A C := by
 refine ⟨h.1.trans k.1, fun i x h1 h2 => ?_⟩
 by_cases hi : i < B.length
 ·obtain ⟨e, rfl⟩ := k.1
  rw [List.getElem?_append_left hi] at h2
  exact (h.2 i x h1 h2).mono (by simp)
 ·exact k.2 i x (by omega) h2
theorem NwF.one {N : List Nd} {x : Nd} (h : WfN (N.length + 1) x) : NwF N (N ++ [x]) := by
 refine ⟨List.prefix_append _ _, fun i y h1 h2 => ?_⟩
 have hi := (List.getElem?_eq_some_iff.1 h2).1
 rw [List.length_append, List.length_singleton] at hi ⊢
 obtain rfl : i = N.length := by omega
 rw [List.getElem?_append_right (Nat.le_refl _), Nat.sub_self] at h2
 obtain rfl : x = y := by simpa using h2
 exact h
theorem NwF.fill {N N2 : List Nd} {x : Nd} {g : Nd → Nd} (h : NwF (N ++ [x]) N2) (hg : WfN N2.length (g x)) : NwF N (N2.modify N.length g) := by
 obtain ⟨⟨e, rfl⟩, h2⟩ := h
 rw [mod_pre]
 have hl : ((N ++ [x]) ++ e).length = (N ++ [g x] ++ e).length := by simp
 rw [hl] at hg h2
 have hq : N ++ [g x] ++ e = N ++ ([g x] ++ e) := by simp
 refine ⟨⟨[g x] ++ e, by simp⟩, fun i y a b => ?_⟩
 by_cases hi : i = N.length
 ·subst hi
  have hb : (N ++ [g x] ++ e)[N.length]? = some (g x) := by simp
  rw [hb] at b
  injection b with b
  rw [← b]
  exact hg
 ·refine h2 i y (by rw [List.length_append, List.length_singleton]; omega) ?_
  rw [List.getElem?_append_right (by rw [List.length_append, List.length_singleton]; omega)] at b ⊢
  simpa using b
open Go.RowKit
structure EB where
 pD : Nat
 base : Nat
 A : Option Addr
 n : Nat
 c : Nat
 M : List Nd
structure Ev (w : World) (b : EB) (nx : Nat) : Prop where
 lo : b.base ≤ b.pD
 sc : Sc w b.base b.A b.n (b.M.map Nd.g)
 few : b.M.length ≤ 200
 ok : ∀ x ∈ b.M.map Nd.g, GOk x
 wf : ∀ x ∈ b.M, WfN b.M.length x
 nx_ : nx ≤ b.M.length
 blk : Blk w b.pD 79 ([.slice b.A b.n b.c, .int .i64 (nx : Int)] : List Value).toArray
section
variable {w w' : World} {b : EB} {nx : Nat}
theorem Ev.size (h : Ev w b nx) : b.base ≤ w.heap.size := Nat.le_trans h.lo (Nat.le_of_lt h.blk.lt)
theorem Ev.turn0 (h : Ev w b nx) (t : Turn w w' none) : Ev w' b nx := ⟨h.lo, h.sc.turn0 t h.size, h.few, h.ok, h.wf, h.nx_, h.blk.turn0 t⟩
theorem Ev.w0 (h : Ev w b nx) : w.cell? ⟨b.pD, 0, none⟩ = some (.slice b.A b.n b.c) := h.blk.cell 0
theorem Ev.w1 (h : Ev w b nx) : w.cell? ⟨b.pD, 1, none⟩ = some (.int .i64 (nx : Int)) := h.blk.cell 1
theorem Ev.len (h : Ev w b nx) : b.n = b.M.length := by have := h.sc.1; rw [List.length_map] at this; exact this.symm
theorem Ev.setN (h : Ev w b nx) {m : Nat} (hm : m ≤ b.M.length) : Ev (w.setCell ⟨b.pD, 1, none⟩ (.int .i64 (m : Int))) b m ∧ Turn w (w.setCell ⟨b.pD, 1, none⟩ (.int .i64 (m : Int))) (some b.pD) := by
 have t := Blk.setTurn w b.pD 1 (.int .i64 (m : Int))
 exact ⟨⟨h.lo, h.sc.turn t h.size (fun g e => by injection e with e; have := h.lo; omega), h.few, h.ok, h.wf, hm, h.blk.sets 1 (.int .i64 (m : Int))⟩, t⟩
end
open Go.RowKit
structure Gvn (w : World) (A : Option Addr) (n c : Nat) (gs : List Gn) : Prop where
 sc : Sc w w.heap.size A n gs
 few : n ≤ 281474976710656
 big : ∀ x ∈ gs, x.syms.length ≤ 281474976710656 ∧ x.items.length ≤ 281474976710656 ∧ x.fields.length ≤ 281474976710656
 str : ∀ x ∈ gs, x.name.length ≤ 140737488355327 ∧ (∀ s ∈ x.syms, s.length ≤ 140737488355328) ∧ (∀ f ∈ x.fields, f.name.length ≤ 140737488355328) ∧ -9223372036854775808 ≤ x.size ∧ x.size ≤ 9223372036854775807
 cap : n ≤ c ∧ c ≤ maxLen
theorem Gvn.turn {w w' : World} {A : Option Addr} {n c : Nat} {gs : List Gn} (h : Gvn w A n c gs) (ht : Turn w w' none) : Gvn w' A n c gs := ⟨(h.sc.turn0 ht (Nat.le_refl _)).mono ht.size, h.few, h.big, h.str, h.cap⟩
open Go.RowKit
theorem rshV_eq (gs : List Gn) : rshV gs = shV gs := by
 unfold rshV shV
 rw [dShow_eq]
 cases cShow gs with
 | none => rfl
 | some p => rfl
section
variable {w : World} {n c : Nat} {A : Option Addr} {gs : List Gn}
theorem rshow_sv (hs : Sv w A n c gs) : Calls Tryz.prog 15 #[.agg #[.slice A n c]] w fun e w' => e = shV gs ∧ Turn w w' none := by
 rw [← rshV_eq]
 exact rshow_any hs.sc (Nat.le_refl _) hs.few hs.ok hs.cap
end
open Go.RowKit
theorem txt_cut (l : List UInt8) (a m : Nat) : (txt l).extract a (a + m) = txt ((l.drop a).take m) := by
 apply ByteArray.ext
 rw [ByteArray.data_extract]
 simp [txt]
theorem print_ok {l t : List UInt8} (h : cForm l = .ok t) (w : World) (hC : CT w) (hl : l.length ≤ 140737488355328) : Calls Tryz.prog 26 #[.string (txt l)] w fun e w' => e = .returned (.tuple #[.agg (vbs (Sha.sHash t)).toArray, .bool true]) ∧ Turn w w' none := by
 have hlen := form_len h
 have tx := fun {w1 : World} (ht : Turn w w1 none) => text_ok h w1 (hC.turn ht).lt hl
 have hsh := fun {w1 : World} (ht : Turn w w1 none) => (hC.turn ht).sha
 obtain ⟨X, hX⟩ : ∃ X, X = vbs (Sha.sHash t) := ⟨_, rfl⟩
 have hX1 : X.length = 32 := by rw [hX, vbs_len, Sha.sHash_len]
 have hX2 : ∀ u ∈ X, u.oneCell' = true := by rw [hX]; exact vbs_one _
 rw [← hX]
 have HX := hid hX
 clear hX h
 go_enter Tryz.func26, Tryz.ntmps26
 go_wp2_with (first
  | (refine wp_al rfl 41 rfl _ Sha.nul32 ?_; intro gr w1 hgr hres ht1; have hres : Blk w1 gr 41 (vbs (List.replicate 32 0)).toArray := hres)
  | (go_at_call 18; refine (tx ht1).mono ?_; rintro e w2 ⟨rfl, ht2⟩; have T2 := ht1.trans ht2)
  | (refine wp_cvb rfl 9 55 5 _ rfl Tryz.underlying9 Tryz.underlying55 Tryz.underlying5 rfl (by unfold maxLen; omega) ?_; intro g3 c3 w3 hr3 hn3 hc3 ht3; have T3 := T2.trans ht3)
  | (go_at_call 53; refine (Sha.ssum_any _ _ _ t _ _ (hsh T3) hr3 (Nat.le_refl _) hn3 hc3 (by omega)).mono ?_; rintro e w4 ⟨rfl, ht4⟩; rw [← HX.out]; have hres4 := ((hres.turn0 ht2).turn0 ht3).turn0 ht4; have T4 := T3.trans ht4)
  | (refine wp_st (xs := X) rfl 41 _ _ rfl rfl rfl hres4 (by rw [List.size_toArray, vbs_len, hX1]; rfl) (Sha.sz32 hX1) hX2 ?_; intro w9 hb9 ht9))
 refine ret_two rfl rfl rfl rfl hb9 Tryz.underlying41 rfl (Sha.sz32 hX1) ⟨rfl, ?_⟩
 exact T4.new ht9 (fun q e => by injection e with e; omega)
theorem print_no {l : List UInt8} {p : PE} (h : cForm l = .error p) (w : World) (hC : CT w) (hl : l.length ≤ 140737488355328) : Calls Tryz.prog 26 #[.string (txt l)] w fun e w' => e = .returned (.tuple #[.agg (vbs (List.replicate 32 0)).toArray, .bool false]) ∧ Turn w w' none := by
 obtain ⟨p, er⟩ := p
 have tx := fun {w1 : World} (ht : Turn w w1 none) => text_no h w1 (hC.turn ht).lt hl
 obtain ⟨X, hX⟩ : ∃ X, X = vbs (List.replicate 32 (0 : UInt8)) := ⟨_, rfl⟩
 have hX1 : X.length = 32 := by rw [hX, vbs_len]; rfl
 have hX2 : ∀ u ∈ X, u.oneCell' = true := by rw [hX]; exact vbs_one _
 have bd : ∀ w, (zeroValue 41).run Tryz.prog w = .ok (.agg X.toArray) w := by rw [hX]; exact Sha.nul32
 rw [← hX]
 clear h hX
 go_enter Tryz.func26, Tryz.ntmps26
 go_wp2_with (first
  | (refine wp_al rfl 41 rfl _ bd ?_; intro gr w1 hgr hres ht1; have hres : Blk w1 gr 41 X.toArray := hres)
  | (go_at_call 18; refine (tx ht1).mono ?_; rintro e w2 ⟨rfl, hne, ht2⟩; have hres2 := hres.turn0 ht2)
  | (refine wp_st (xs := X) rfl 41 _ _ rfl rfl rfl hres2 (by rw [List.size_toArray]) (Sha.sz32 hX1) hX2 ?_; intro w9 hb9 ht9))
 refine ret_two rfl rfl rfl rfl hb9 Tryz.underlying41 rfl (Sha.sz32 hX1) ⟨rfl, ?_⟩
 exact (ht1.trans ht2).new ht9 (fun q e => by injection e with e; omega)
def shD (t : List UInt8) : List UInt8 := (Sha.sHex (Sha.sHash t)).take 8
theorem shD_len (t : List UInt8) : (shD t).length = 8 := by unfold shD; rw [List.length_take, Sha.sHex_len, Sha.sHash_len]; rfl
theorem short_ok {l t : List UInt8} (h : cForm l = .ok t) (w : World) (hC : CT w) (hl : l.length ≤ 140737488355328) : Calls Tryz.prog 28 #[.string (txt l)] w fun e w' => e = .returned (.string (txt (shD t))) ∧ Turn w w' none := by
 have pr := print_ok h w hC hl
 obtain ⟨Y, hY⟩ : ∃ Y, Y = Sha.sHash t := ⟨_, rfl⟩
 have hY1 : Y.length = 32 := by rw [hY, Sha.sHash_len]
 rw [← hY] at pr
 have hx := fun w => Sha.hex_any Y hY1 w
 have HD := hid (show shD t = (Sha.sHex Y).take 8 by rw [hY]; rfl)
 have hz : (txt (Sha.sHex Y)).size = 64 := by rw [txt_size, Sha.sHex_len, hY1]
 have hex := txt_cut (Sha.sHex Y) 0 8
 rw [List.drop_zero, ← HD.out] at hex
 obtain ⟨X, hX⟩ : ∃ X, X = vbs Y := ⟨_, rfl⟩
 obtain ⟨Z, hZ⟩ : ∃ Z, Z = txt (Sha.sHex Y) := ⟨_, rfl⟩
 have hX1 : X.length = 32 := by rw [hX, vbs_len]; exact hY1
 have hX2 : ∀ u ∈ X, u.oneCell' = true := by rw [hX]; exact vbs_one _
 rw [← hX] at pr hx
 rw [← hZ] at hx hz hex
 have hex2 : Z.extract 0 8 = txt (shD t) := hex
 clear hY hX hZ h hex
 go_enter Tryz.func28, Tryz.ntmps28
 go_wp2_with (first
  | (go_at_call 26; refine pr.mono ?_; rintro e w1 ⟨rfl, ht1⟩)
  | (refine wp_var rfl rfl 41 _ _ rfl rfl rfl rfl Sha.nul32 (fun _ => rfl) (xs := X) (fun _ => rfl) (by rw [vbs_len, hX1]; rfl) (Sha.sz32 hX1) hX2 ?_; intro g2 w2 hg2 hb2 ht2)
  | (refine wp_ld rfl 41 _ rfl rfl hb2 (Sub.all X) Tryz.underlying41 rfl (Sha.sz32 hX1) ?_)
  | (go_at_call 55; refine (hx _).mono ?_; rintro e w3 ⟨rfl, ht3⟩))
 go_ret
 exact ⟨rfl, (ht1.trans ht2).trans ht3⟩
def lvA : List UInt8 := [32, 91, 32, 105, 110, 116, 32, 93, 32, 35, 32, 120]
def lvB : List UInt8 := [91, 105, 110, 116, 93]
theorem lv_form : cForm lvA = .ok lvB := by kernel_rfl
theorem lv_formB : cForm lvB = .ok lvB := by kernel_rfl
theorem lv_isB : isForm lvB = true := by kernel_rfl
theorem lvB_txt : ((txt lvB).toList == ([91, 105, 110, 116, 93] : List UInt8)) = true := by decide +kernel
theorem clives_any (w : World) (hC : CT w) : Calls Tryz.prog 23 #[] w fun e w' => e = .returned (.bool true) ∧ Turn w w' none := by
 have tx := text_ok lv_form w hC.lt (by decide)
 have iz := fun {w1 : World} (ht : Turn w w1 none) => is_any lvB w1 (hC.turn ht).lt (by decide)
 rw [lv_isB] at iz
 have sh := fun {w1 : World} (ht : Turn w w1 none) => short_ok lv_formB w1 (hC.turn ht) (by decide)
 obtain ⟨D, hD⟩ : ∃ D, D = txt (shD lvB) := ⟨_, rfl⟩
 have hz : D.size = 8 := by rw [hD, txt_size, shD_len]
 rw [← hD] at sh
 have he := lvB_txt
 clear hD
 go_enter Tryz.func23, Tryz.ntmps23
 go_wp2_with (first
  | (go_at_call 18; refine tx.mono ?_; rintro e w1 ⟨rfl, ht1⟩)
  | (go_at_call 21; refine (iz ht1).mono ?_; rintro e w2 ⟨rfl, ht2⟩)
  | (go_at_call 28; refine (sh (ht1.trans ht2)).mono ?_; rintro e w3 ⟨rfl, ht3⟩))
 go_ret
 exact ⟨rfl, (ht1.trans ht2).trans ht3⟩
open Go.RowKit
theorem rshow_ok {w : World} {A : Option Addr} {n c : Nat} {gs : List Gn} {t : List UInt8} {d : Nat} (h : cShow gs = some (t, d)) (hs : Sv w A n c gs) : Calls Tryz.prog 15 #[.agg #[.slice A n c]] w fun e w' => e = .returned (.tuple #[.string (txt t), .int .i64 0]) ∧ Turn w w' none := by
 refine (rshow_sv hs).mono ?_
 rintro e w' ⟨rfl, ht⟩
 unfold shV
 rw [h]
 exact ⟨rfl, ht⟩
theorem rshow_no {w : World} {A : Option Addr} {n c : Nat} {gs : List Gn} (h : cShow gs = none) (hs : Sv w A n c gs) : Calls Tryz.prog 15 #[.agg #[.slice A n c]] w fun e w' => e = .returned (.tuple #[.string (txt []), .int .i64 1]) ∧ Turn w w' none := by
 refine (rshow_sv hs).mono ?_
 rintro e w' ⟨rfl, ht⟩
 unfold shV
 rw [h]
 exact ⟨rfl, ht⟩
section
variable {l t : List UInt8}
theorem rtext_ok (h : cForm l = .ok t) (w : World) : Calls Tryz.prog 19 #[.string (txt l)] w fun e w' => e = .returned (.tuple #[.string (txt t), .int .i64 0, .int .i64 0]) ∧ Turn w w' none := by
 obtain ⟨N, d, h1, h2⟩ := form_ok h
 have pa := rparse_yes h1 w
 have sh := fun {w1 : World} {A c} (ht : Turn w w1 none) (q : Sv w1 A N.length c (N.map Nd.g)) => rshow_ok h2 q
 obtain ⟨gs, hgs⟩ : ∃ gs, gs = N.map Nd.g := ⟨_, rfl⟩
 obtain ⟨n, hn⟩ : ∃ n, n = N.length := ⟨_, rfl⟩
 simp only [← hgs, ← hn] at pa sh
 clear hgs hn h1 h2 h
 go_enter Tryz.func19, Tryz.ntmps19
 go_wp2_with (first
  | (go_at_call 24; refine pa.mono ?_; rintro e w1 ⟨A, c, rfl, v1, _, ht1⟩)
  | (refine wp_var rfl rfl 24 _ _ rfl rfl rfl rfl zSch (fun _ => rfl) (xs := [.slice A n c]) (fun _ => rfl) rfl szSch (one1 rfl) ?_; intro g2 w2 hg2 hb2 ht2; have v2 := v1.turn ht2)
  | (refine wp_ld rfl 24 _ rfl rfl hb2 (Sub.all [.slice A n c]) Tryz.underlying24 rfl szSch ?_)
  | (go_at_call 15; refine (sh (ht1.trans ht2) v2).mono ?_; rintro e w3 ⟨rfl, ht3⟩))
 go_ret3
 exact ⟨rfl, (ht1.trans ht2).trans ht3⟩
theorem rtext_no {p er : Nat} (h : cForm l = .error (p, er)) (w : World) : Calls Tryz.prog 19 #[.string (txt l)] w fun e w' => e = .returned (.tuple #[.string (txt []), .int .i64 (p : Int), .int .i64 (er : Int)]) ∧ ((er : Int) != 0) = true ∧ Turn w w' none := by
 rcases form_no h with h1 | ⟨N, h1, h2, h3⟩
 ·have pa := rparse_no h1 w
  clear h1 h
  go_enter Tryz.func19, Tryz.ntmps19
  go_wp2_with (first
   | (go_at_call 24; refine pa.mono ?_; rintro e w1 ⟨rfl, hne, ht1⟩)
   | (refine wp_var rfl rfl 24 _ _ rfl rfl rfl rfl zSch (fun _ => rfl) (xs := [.slice none 0 0]) (fun _ => rfl) rfl szSch (one1 rfl) ?_; intro g2 w2 hg2 hb2 ht2))
  go_ret3
  exact ⟨rfl, hne, ht1.trans ht2⟩
 ·have pa := rparse_yes h1 w
  have sh := fun {w1 : World} {A c} (ht : Turn w w1 none) (q : Sv w1 A N.length c (N.map Nd.g)) => rshow_no h2 q
  injection h3 with h3 h4
  obtain ⟨gs, hgs⟩ : ∃ gs, gs = N.map Nd.g := ⟨_, rfl⟩
  obtain ⟨n, hn⟩ : ∃ n, n = N.length := ⟨_, rfl⟩
  simp only [← hgs, ← hn] at pa sh
  subst h3; subst h4
  clear hgs hn h1 h2 h
  go_enter Tryz.func19, Tryz.ntmps19
  go_wp2_with (first
   | (go_at_call 24; refine pa.mono ?_; rintro e w1 ⟨A, c, rfl, v1, _, ht1⟩)
   | (refine wp_var rfl rfl 24 _ _ rfl rfl rfl rfl zSch (fun _ => rfl) (xs := [.slice A n c]) (fun _ => rfl) rfl szSch (one1 rfl) ?_; intro g2 w2 hg2 hb2 ht2; have v2 := v1.turn ht2)
   | (refine wp_ld rfl 24 _ rfl rfl hb2 (Sub.all [.slice A n c]) Tryz.underlying24 rfl szSch ?_)
   | (go_at_call 15; refine (sh (ht1.trans ht2) v2).mono ?_; rintro e w3 ⟨rfl, ht3⟩))
  go_ret3
  exact ⟨rfl, rfl, (ht1.trans ht2).trans ht3⟩
end
end Go.Proofs.YtgigiecdpjchkaaGreatDoor
namespace Go.Proofs.YtgigiecdpjchkaaGreatDoor.Sha
open Go.RowKit
theorem part_byte {cs : Array Value} {j : Nat} {v : Value} (hv : cs[j]? = some v) (w : World) : (part 5 cs j).run Tryz.prog w = .ok v w := by
 have hag : (isAgg 5).run Tryz.prog w = .ok false w := by
  unfold isAgg
  rw [Sem.run_bind, run_underlying Tryz.underlying5 w]
  rfl
 simp [part, hag, hv]
theorem eqItems_same (l : List UInt8) (w : World) : ∀ is : List Nat, (∀ i ∈ is, i < l.length) → (Op.eqItems 9999 5 1 (vbs l).toArray (vbs l).toArray is).run Tryz.prog w = .ok true w
 | [], _ => by simp [Op.eqItems]
 | i :: is, h => by
  have hi := h i (by simp)
  have hv : (vbs l).toArray[i * 1]? = some (.int .u8 ((l[i]'hi).toNat : Int)) := by
   rw [Nat.mul_one, List.getElem?_toArray, vbs, List.getElem?_map, List.getElem?_eq_getElem hi]
   rfl
  have ih := eqItems_same l w is (fun j hj => h j (by simp [hj]))
  simp only [Op.eqItems, Sem.run_bind, part_byte hv, Result.andThen_ok, run_equalIn_int w 9998 5 .u8 .u8 _ _ Tryz.underlying5, beq_self_eq_true, Bool.not_true, Bool.false_eq_true, if_false]
  exact ih
theorem eq32 (l : List UInt8) (h : l.length = 32) (w : World) : (Op.equalIn 10000 41 (.agg (vbs l).toArray) (.agg (vbs l).toArray)).run Tryz.prog w = .ok true w := by
 obtain ⟨i, hi⟩ : ∃ i, Tryz.prog.info? 5 = some i := by
  obtain ⟨_, i, z, hi, _⟩ := elB
  exact ⟨i, hi⟩
 rw [run_equalIn_array w 9999 _ _ Tryz.underlying41 hi]
 have hc : Tryz.prog.cellsOf 5 = 1 := by kernel_rfl
 rw [hc]
 exact eqItems_same l w _ (fun j hj => by rw [h]; simpa using hj)
open Go.RowKit
theorem rwords_any (w : World) : Calls Tryz.prog 91 #[] w fun e w' => ∃ g, e = .returned (.slice (some ⟨g, 0, none⟩) 8 8) ∧ w.heap.size ≤ g ∧ Blk w' g 135 (cvs sStart.list).toArray ∧ Turn w w' none := by
 go_enter Tryz.func91, Tryz.ntmps91
 go_wp2_with fail
 go_ret
 exact ⟨_, rfl, Nat.le_refl _, Blk.new w 135 (cvs sStart.list).toArray, (Turn.refl w none).alloc _⟩
theorem rroots_any (w : World) : Calls Tryz.prog 92 #[] w fun e w' => ∃ g, e = .returned (.slice (some ⟨g, 0, none⟩) 64 64) ∧ w.heap.size ≤ g ∧ Blk w' g 135 (cvs sKeys).toArray ∧ Turn w w' none := by
 go_enter Tryz.func92, Tryz.ntmps92
 go_wp2_with fail
 go_ret
 exact ⟨_, rfl, Nat.le_refl _, Blk.new w 135 (cvs sKeys).toArray, (Turn.refl w none).alloc _⟩
open Go.RowKit
def loopsOf : Code → List Code
 | .seq a b => loopsOf a ++ loopsOf b
 | .cond _ a b => loopsOf a ++ loopsOf b
 | .block _ b => loopsOf b
 | .scope b => loopsOf b
 | .loop b => [.loop b]
 | _ => []
def inLoop : Code → Code
 | .loop b => b
 | c => c
noncomputable def sumL (k : Nat) : Code := ((Tryz.f54.body.map loopsOf).getD []).getD k .skip
noncomputable def sumM (k : Nat) : Code := (loopsOf (inLoop (sumL 2))).getD k .skip
end Go.Proofs.YtgigiecdpjchkaaGreatDoor.Sha
