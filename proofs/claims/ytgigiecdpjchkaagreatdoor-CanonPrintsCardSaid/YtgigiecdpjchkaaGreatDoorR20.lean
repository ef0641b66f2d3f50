import Derived.Test.YtgigiecdpjchkaaGreatDoorR19
import Derived.Test.YtgigiecdpjchkaaGreatDoorR1
set_option linter.unusedSimpArgs false
set_option linter.unusedVariables false
set_option linter.unusedSectionVars false
set_option maxRecDepth 100000
set_option maxHeartbeats 6400000
namespace Go.Proofs.YtgigiecdpjchkaaGreatDoor
open Go.RowKit
section
variable {w w' w0 : World} {b : DB} {st st' FIN : DW} {x : Gn} {p g : Nat} {As : Option Addr} {sc : Nat} {Ai : Option Addr} {ic : Nat} {Af : Option Addr} {fc : Nat} {d f k : Nat} {PQ : Exit → Act → World → Prop}
theorem wt_named (h : Tv w b st x p g As sc Ai ic Af fc) (hk : x.k = (k : Int)) (hk9 : 9 ≤ k) (hk12 : k < 12) (hl : st.S.length ≤ 1125899906842624)
  (NX : ∀ {z_1 z_3 z_4 z_5 z_7 z_9 z_10 z_11 z_12 z_13 z_14 z_15 z_16 z_17 z_18 z_19 z_20 z_21 z_22 z_23 z_24 z_25 z_26 z_27 z_28 z_29 z_30 z_31 z_32 z_33 z_34 z_35 z_36 z_37 z_38 z_39 z_40 z_41 z_42 z_43 z_44 z_45 z_46 z_47 z_48 z_49 z_50 z_51 z_52 z_53 z_54 z_55 z_56 z_57 z_58 z_59 z_60 z_61 z_62 z_63 z_64 z_65 z_66 z_67 z_68 z_69 z_70 z_71 z_72 z_73 z_74 z_75 z_76 z_77 z_78 z_79 z_80 z_81 z_82 z_83 z_84 z_85 z_86 z_87 z_88 z_89 z_90 z_91 z_92 z_93 z_94 z_95 z_96 z_97 z_98 z_99 z_100 z_101 z_102 z_103 z_104 z_105 z_106 z_107 z_108 z_109 z_110 z_111 z_112 z_113 z_114 z_115 z_116 z_117 z_118 z_119 z_120 z_121 z_122 z_123 z_124 z_125 z_126 z_127 z_128 z_129 z_130 z_131 z_132 z_133 z_134 z_135 z_136 z_137 z_138 z_139 z_140 z_141 z_142 z_143 z_144 z_145 z_146 z_147 z_148 z_149 z_150 z_151 z_152 z_153 z_154 z_155 z_156 z_157 z_158 z_159 z_160 z_161 z_162 z_163 z_164 z_165 z_166 z_167 z_168 z_169 z_170 z_171 z_172 z_173 z_174 z_175 z_176 z_177 z_178 z_179 z_180 z_181 z_182 z_183 z_184 z_185 z_186 z_187 z_188 z_189 z_190 z_191 z_192 z_193 z_194 z_195 z_196 z_197 z_198 z_199 z_200 z_201 z_202 z_203 z_204 z_205 z_206 z_207 z_208 z_209 z_210 z_211 z_212 z_213 z_214 z_215 z_216 z_217 z_218 z_219 z_220 z_221 z_222 z_223 z_224 z_225 z_226 z_227 z_228 z_229 z_230 z_231 z_232 z_233 z_234 z_235 z_236 z_237 z_238 z_239 z_240 z_241 z_242 z_243 z_244 z_245 z_246 z_247 z_248 z_249 z_250 z_251 z_252 z_253 z_254 z_255 z_256 z_257 z_258 z_259 z_260 z_261 z_262 z_263 z_264 z_265 z_266 z_267 z_268 : Value} (w1 : World), Tv w1 b { st with S := st.S ++ x.name } x p g As sc Ai ic Af fc → Turn w w1 (some b.pW) → Code.wp Tryz.prog (tailOf 10 wtB) PQ ⟨List.toArray (.pointer (some ⟨b.pW, 0, none⟩) :: z_1 :: .int .i64 (d : Int) :: z_3 :: z_4 :: z_5 :: .pointer (some ⟨p, 0, none⟩) :: z_7 :: .slice (some ⟨g, 0, none⟩) 12 12 :: z_9 :: z_10 :: z_11 :: z_12 :: z_13 :: z_14 :: z_15 :: z_16 :: z_17 :: z_18 :: z_19 :: z_20 :: z_21 :: z_22 :: z_23 :: z_24 :: z_25 :: z_26 :: z_27 :: z_28 :: z_29 :: z_30 :: z_31 :: z_32 :: z_33 :: z_34 :: z_35 :: z_36 :: z_37 :: z_38 :: z_39 :: z_40 :: z_41 :: z_42 :: z_43 :: z_44 :: z_45 :: z_46 :: z_47 :: z_48 :: z_49 :: z_50 :: z_51 :: z_52 :: z_53 :: z_54 :: z_55 :: z_56 :: z_57 :: z_58 :: z_59 :: z_60 :: z_61 :: z_62 :: z_63 :: z_64 :: z_65 :: z_66 :: z_67 :: z_68 :: z_69 :: z_70 :: z_71 :: z_72 :: z_73 :: z_74 :: z_75 :: z_76 :: z_77 :: z_78 :: z_79 :: z_80 :: z_81 :: z_82 :: z_83 :: z_84 :: z_85 :: z_86 :: z_87 :: z_88 :: z_89 :: z_90 :: z_91 :: z_92 :: z_93 :: z_94 :: z_95 :: z_96 :: z_97 :: z_98 :: z_99 :: z_100 :: z_101 :: z_102 :: z_103 :: z_104 :: z_105 :: z_106 :: z_107 :: z_108 :: z_109 :: z_110 :: z_111 :: z_112 :: z_113 :: z_114 :: z_115 :: z_116 :: z_117 :: z_118 :: z_119 :: z_120 :: z_121 :: z_122 :: z_123 :: z_124 :: z_125 :: z_126 :: z_127 :: z_128 :: z_129 :: z_130 :: z_131 :: z_132 :: z_133 :: z_134 :: z_135 :: z_136 :: z_137 :: z_138 :: z_139 :: z_140 :: z_141 :: z_142 :: z_143 :: z_144 :: z_145 :: z_146 :: z_147 :: z_148 :: z_149 :: z_150 :: z_151 :: z_152 :: z_153 :: z_154 :: z_155 :: z_156 :: z_157 :: z_158 :: z_159 :: z_160 :: z_161 :: z_162 :: z_163 :: z_164 :: z_165 :: z_166 :: z_167 :: z_168 :: z_169 :: z_170 :: z_171 :: z_172 :: z_173 :: z_174 :: z_175 :: z_176 :: z_177 :: z_178 :: z_179 :: z_180 :: z_181 :: z_182 :: z_183 :: z_184 :: z_185 :: z_186 :: z_187 :: z_188 :: z_189 :: z_190 :: z_191 :: z_192 :: z_193 :: z_194 :: z_195 :: z_196 :: z_197 :: z_198 :: z_199 :: z_200 :: z_201 :: z_202 :: z_203 :: z_204 :: z_205 :: z_206 :: z_207 :: z_208 :: z_209 :: z_210 :: z_211 :: z_212 :: z_213 :: z_214 :: z_215 :: z_216 :: z_217 :: z_218 :: z_219 :: z_220 :: z_221 :: z_222 :: z_223 :: z_224 :: z_225 :: z_226 :: z_227 :: z_228 :: z_229 :: z_230 :: z_231 :: z_232 :: z_233 :: z_234 :: z_235 :: z_236 :: z_237 :: z_238 :: z_239 :: z_240 :: z_241 :: z_242 :: z_243 :: z_244 :: z_245 :: z_246 :: z_247 :: z_248 :: z_249 :: z_250 :: z_251 :: z_252 :: z_253 :: z_254 :: z_255 :: z_256 :: z_257 :: z_258 :: z_259 :: z_260 :: z_261 :: z_262 :: z_263 :: z_264 :: z_265 :: z_266 :: z_267 :: z_268 :: []), []⟩ w1) {e_1 e_3 e_4 e_5 e_7 e_9 e_10 e_11 e_12 e_13 e_14 e_15 e_16 e_17 e_18 e_19 e_20 e_21 e_22 e_23 e_24 e_25 e_26 e_27 e_28 e_29 e_30 e_31 e_32 e_33 e_34 e_35 e_36 e_37 e_38 e_39 e_40 e_41 e_42 e_43 e_44 e_45 e_46 e_47 e_48 e_49 e_50 e_51 e_52 e_53 e_54 e_55 e_56 e_57 e_58 e_59 e_60 e_61 e_62 e_63 e_64 e_65 e_66 e_67 e_68 e_69 e_70 e_71 e_72 e_73 e_74 e_75 e_76 e_77 e_78 e_79 e_80 e_81 e_82 e_83 e_84 e_85 e_86 e_87 e_88 e_89 e_90 e_91 e_92 e_93 e_94 e_95 e_96 e_97 e_98 e_99 e_100 e_101 e_102 e_103 e_104 e_105 e_106 e_107 e_108 e_109 e_110 e_111 e_112 e_113 e_114 e_115 e_116 e_117 e_118 e_119 e_120 e_121 e_122 e_123 e_124 e_125 e_126 e_127 e_128 e_129 e_130 e_131 e_132 e_133 e_134 e_135 e_136 e_137 e_138 e_139 e_140 e_141 e_142 e_143 e_144 e_145 e_146 e_147 e_148 e_149 e_150 e_151 e_152 e_153 e_154 e_155 e_156 e_157 e_158 e_159 e_160 e_161 e_162 e_163 e_164 e_165 e_166 e_167 e_168 e_169 e_170 e_171 e_172 e_173 e_174 e_175 e_176 e_177 e_178 e_179 e_180 e_181 e_182 e_183 e_184 e_185 e_186 e_187 e_188 e_189 e_190 e_191 e_192 e_193 e_194 e_195 e_196 e_197 e_198 e_199 e_200 e_201 e_202 e_203 e_204 e_205 e_206 e_207 e_208 e_209 e_210 e_211 e_212 e_213 e_214 e_215 e_216 e_217 e_218 e_219 e_220 e_221 e_222 e_223 e_224 e_225 e_226 e_227 e_228 e_229 e_230 e_231 e_232 e_233 e_234 e_235 e_236 e_237 e_238 e_239 e_240 e_241 e_242 e_243 e_244 e_245 e_246 e_247 e_248 e_249 e_250 e_251 e_252 e_253 e_254 e_255 e_256 e_257 e_258 e_259 e_260 e_261 e_262 e_263 e_264 e_265 e_266 e_267 e_268 : Value} :
  Code.wp Tryz.prog (tailOf 9 wtB) PQ ⟨List.toArray (.pointer (some ⟨b.pW, 0, none⟩) :: e_1 :: .int .i64 (d : Int) :: e_3 :: e_4 :: e_5 :: .pointer (some ⟨p, 0, none⟩) :: e_7 :: .slice (some ⟨g, 0, none⟩) 12 12 :: e_9 :: e_10 :: e_11 :: e_12 :: e_13 :: e_14 :: e_15 :: e_16 :: e_17 :: e_18 :: e_19 :: e_20 :: e_21 :: e_22 :: e_23 :: e_24 :: e_25 :: e_26 :: e_27 :: e_28 :: e_29 :: e_30 :: e_31 :: e_32 :: e_33 :: e_34 :: e_35 :: e_36 :: e_37 :: e_38 :: e_39 :: e_40 :: e_41 :: e_42 :: e_43 :: e_44 :: e_45 :: e_46 :: e_47 :: e_48 :: e_49 :: e_50 :: e_51 :: e_52 :: e_53 :: e_54 :: e_55 :: e_56 :: e_57 :: e_58 :: e_59 :: e_60 :: e_61 :: e_62 :: e_63 :: e_64 :: e_65 :: e_66 :: e_67 :: e_68 :: e_69 :: e_70 :: e_71 :: e_72 :: e_73 :: e_74 :: e_75 :: e_76 :: e_77 :: e_78 :: e_79 :: e_80 :: e_81 :: e_82 :: e_83 :: e_84 :: e_85 :: e_86 :: e_87 :: e_88 :: e_89 :: e_90 :: e_91 :: e_92 :: e_93 :: e_94 :: e_95 :: e_96 :: e_97 :: e_98 :: e_99 :: e_100 :: e_101 :: e_102 :: e_103 :: e_104 :: e_105 :: e_106 :: e_107 :: e_108 :: e_109 :: e_110 :: e_111 :: e_112 :: e_113 :: e_114 :: e_115 :: e_116 :: e_117 :: e_118 :: e_119 :: e_120 :: e_121 :: e_122 :: e_123 :: e_124 :: e_125 :: e_126 :: e_127 :: e_128 :: e_129 :: e_130 :: e_131 :: e_132 :: e_133 :: e_134 :: e_135 :: e_136 :: e_137 :: e_138 :: e_139 :: e_140 :: e_141 :: e_142 :: e_143 :: e_144 :: e_145 :: e_146 :: e_147 :: e_148 :: e_149 :: e_150 :: e_151 :: e_152 :: e_153 :: e_154 :: e_155 :: e_156 :: e_157 :: e_158 :: e_159 :: e_160 :: e_161 :: e_162 :: e_163 :: e_164 :: e_165 :: e_166 :: e_167 :: e_168 :: e_169 :: e_170 :: e_171 :: e_172 :: e_173 :: e_174 :: e_175 :: e_176 :: e_177 :: e_178 :: e_179 :: e_180 :: e_181 :: e_182 :: e_183 :: e_184 :: e_185 :: e_186 :: e_187 :: e_188 :: e_189 :: e_190 :: e_191 :: e_192 :: e_193 :: e_194 :: e_195 :: e_196 :: e_197 :: e_198 :: e_199 :: e_200 :: e_201 :: e_202 :: e_203 :: e_204 :: e_205 :: e_206 :: e_207 :: e_208 :: e_209 :: e_210 :: e_211 :: e_212 :: e_213 :: e_214 :: e_215 :: e_216 :: e_217 :: e_218 :: e_219 :: e_220 :: e_221 :: e_222 :: e_223 :: e_224 :: e_225 :: e_226 :: e_227 :: e_228 :: e_229 :: e_230 :: e_231 :: e_232 :: e_233 :: e_234 :: e_235 :: e_236 :: e_237 :: e_238 :: e_239 :: e_240 :: e_241 :: e_242 :: e_243 :: e_244 :: e_245 :: e_246 :: e_247 :: e_248 :: e_249 :: e_250 :: e_251 :: e_252 :: e_253 :: e_254 :: e_255 :: e_256 :: e_257 :: e_258 :: e_259 :: e_260 :: e_261 :: e_262 :: e_263 :: e_264 :: e_265 :: e_266 :: e_267 :: e_268 :: []), []⟩ w := by
 have c1 := h.dv.w1
 have k0 := h.k0
 have k1 := h.k1
 rw [hk] at k0
 have npW : p ≠ b.pW := by have := h.hp; omega
 have kI : (9 : Int) ≤ (k : Int) := by omega
 have hnm := h.ok.nm
 obtain ⟨Y, hY⟩ : ∃ Y, Y = txt x.name := ⟨_, rfl⟩
 obtain ⟨Z, hZ⟩ : ∃ Z, Z = txt st.S := ⟨_, rfl⟩
 have hZY := hid (show Z ++ Y = txt (st.S ++ x.name) by rw [hZ, hY, txt_app2])
 rw [← hZ] at c1
 rw [← hY] at k1
 have q1 : ¬ 9223372036854775807 < Z.size + Y.size := by rw [hZ, hY, txt_size, txt_size]; omega
 have zf := h.dv.blk.frozen 1
 have lw := h.dv.blk.lt
 have HV := hid h
 clear hZ hY hk h hnm
 conv => arg 2; whnf
 go_upto_region 13 with (fail)
 refine wp_region_noPanic ?_
 refine wp_region_held_drew (S := (fun W => W.cell? ⟨p, 1, none⟩ = some (.string Y))) (by kernel_rfl) (k1) (fun hHeld => ?_)
 (first | refine tkN 0 ?_ | refine tkY 0 _ ?_); (try simp only [Act.put, zs])
 (first | refine tkN 1 ?_ | refine tkY 1 _ ?_); (try simp only [Act.put, zs])
 (first | refine tkN 2 ?_ | refine tkY 2 _ ?_); (try simp only [Act.put, zs])
 (first | refine tkN 3 ?_ | refine tkY 3 _ ?_); (try simp only [Act.put, zs])
 (first | refine tkN 5 ?_ | refine tkY 5 _ ?_); (try simp only [Act.put, zs])
 (first | refine tkN 6 ?_ | refine tkY 6 _ ?_); (try simp only [Act.put, zs])
 refine wpAnyH_ready (rs := [4]) (by kernel_rfl) (by simp) ?_; refine AllReadyH.cons rfl (fun K hK => ?_) AllReadyH.nil
 go_simp
 refine hK.out _ _ k1 (fun hHeld => ?_); clear hK K; (try simp only [Act.put, zs])
 (first | refine tkN 7 ?_ | refine tkY 7 _ ?_); (try simp only [Act.put, zs])
 (first | refine tkN 8 ?_ | refine tkY 8 _ ?_); (try simp only [Act.put, zs])
 (first | refine tkN 9 ?_ | refine tkY 9 _ ?_); (try simp only [Act.put, zs])
 refine wpAnyH_ready (rs := [10]) (by kernel_rfl) (by simp) ?_; refine AllReadyH.cons rfl (fun K hK => ?_) AllReadyH.nil
 go_simp
 refine hK.out _ _ ((World.cell?_setCell_far _ _ _ _ npW.symm).trans k1) (fun hHeld => ?_); clear hK K; (try simp only [Act.put, zs])
 refine wpAnyH_done (by kernel_rfl) ?_ _
 refine NoPanic.normal ?_
 clear hHeld
 obtain ⟨hv7, t7⟩ := HV.out.dv.setS (st.S ++ x.name)
 rw [← hZY.out] at hv7 t7
 have hv8 := hv7.turn0 (Turn.refl _ none).drew
 have t8 := t7.drew
 have h8 := HV.out.turn t8 hv8
 clear c1 k0 k1 q1 zf lw
 exact ‹∀ (a : Act) (w : World), Code.wp Tryz.prog _ PQ a w → _› _ _ (of_code2 (C' := tailOf 10 wtB) (by kernel_rfl) (NX _ h8 t8))
theorem wt_fixed (h : Tv w b st x p g As sc Ai ic Af fc) (hk : x.k = 10) (hl : st.S.length ≤ 1125899906842624) (t0 : Turn w0 w (some b.pW)) (HF : Hid (FIN = { st with S := (st.S ++ [32] ++ dDig x.size) ++ dShut 10 })) {e_1 e_3 e_4 e_5 e_7 e_9 e_10 e_11 e_12 e_13 e_14 e_15 e_16 e_17 e_18 e_19 e_20 e_21 e_22 e_23 e_24 e_25 e_26 e_27 e_28 e_29 e_30 e_31 e_32 e_33 e_34 e_35 e_36 e_37 e_38 e_39 e_40 e_41 e_42 e_43 e_44 e_45 e_46 e_47 e_48 e_49 e_50 e_51 e_52 e_53 e_54 e_55 e_56 e_57 e_58 e_59 e_60 e_61 e_62 e_63 e_64 e_65 e_66 e_67 e_68 e_69 e_70 e_71 e_72 e_73 e_74 e_75 e_76 e_77 e_78 e_79 e_80 e_81 e_82 e_83 e_84 e_85 e_86 e_87 e_88 e_89 e_90 e_91 e_92 e_93 e_94 e_95 e_96 e_97 e_98 e_99 e_100 e_101 e_102 e_103 e_104 e_105 e_106 e_107 e_108 e_109 e_110 e_111 e_112 e_113 e_114 e_115 e_116 e_117 e_118 e_119 e_120 e_121 e_122 e_123 e_124 e_125 e_126 e_127 e_128 e_129 e_130 e_131 e_132 e_133 e_134 e_135 e_136 e_137 e_138 e_139 e_140 e_141 e_142 e_143 e_144 e_145 e_146 e_147 e_148 e_149 e_150 e_151 e_152 e_153 e_154 e_155 e_156 e_157 e_158 e_159 e_160 e_161 e_162 e_163 e_164 e_165 e_166 e_167 e_168 e_169 e_170 e_171 e_172 e_173 e_174 e_175 e_176 e_177 e_178 e_179 e_180 e_181 e_182 e_183 e_184 e_185 e_186 e_187 e_188 e_189 e_190 e_191 e_192 e_193 e_194 e_195 e_196 e_197 e_198 e_199 e_200 e_201 e_202 e_203 e_204 e_205 e_206 e_207 e_208 e_209 e_210 e_211 e_212 e_213 e_214 e_215 e_216 e_217 e_218 e_219 e_220 e_221 e_222 e_223 e_224 e_225 e_226 e_227 e_228 e_229 e_230 e_231 e_232 e_233 e_234 e_235 e_236 e_237 e_238 e_239 e_240 e_241 e_242 e_243 e_244 e_245 e_246 e_247 e_248 e_249 e_250 e_251 e_252 e_253 e_254 e_255 e_256 e_257 e_258 e_259 e_260 e_261 e_262 e_263 e_264 e_265 e_266 e_267 e_268 : Value} :
  Code.wp Tryz.prog (tailOf 10 wtB) (bodyPost Tryz.prog Tryz.f46 (Ud b w0 FIN)) ⟨List.toArray (.pointer (some ⟨b.pW, 0, none⟩) :: e_1 :: .int .i64 (d : Int) :: e_3 :: e_4 :: e_5 :: .pointer (some ⟨p, 0, none⟩) :: e_7 :: .slice (some ⟨g, 0, none⟩) 12 12 :: e_9 :: e_10 :: e_11 :: e_12 :: e_13 :: e_14 :: e_15 :: e_16 :: e_17 :: e_18 :: e_19 :: e_20 :: e_21 :: e_22 :: e_23 :: e_24 :: e_25 :: e_26 :: e_27 :: e_28 :: e_29 :: e_30 :: e_31 :: e_32 :: e_33 :: e_34 :: e_35 :: e_36 :: e_37 :: e_38 :: e_39 :: e_40 :: e_41 :: e_42 :: e_43 :: e_44 :: e_45 :: e_46 :: e_47 :: e_48 :: e_49 :: e_50 :: e_51 :: e_52 :: e_53 :: e_54 :: e_55 :: e_56 :: e_57 :: e_58 :: e_59 :: e_60 :: e_61 :: e_62 :: e_63 :: e_64 :: e_65 :: e_66 :: e_67 :: e_68 :: e_69 :: e_70 :: e_71 :: e_72 :: e_73 :: e_74 :: e_75 :: e_76 :: e_77 :: e_78 :: e_79 :: e_80 :: e_81 :: e_82 :: e_83 :: e_84 :: e_85 :: e_86 :: e_87 :: e_88 :: e_89 :: e_90 :: e_91 :: e_92 :: e_93 :: e_94 :: e_95 :: e_96 :: e_97 :: e_98 :: e_99 :: e_100 :: e_101 :: e_102 :: e_103 :: e_104 :: e_105 :: e_106 :: e_107 :: e_108 :: e_109 :: e_110 :: e_111 :: e_112 :: e_113 :: e_114 :: e_115 :: e_116 :: e_117 :: e_118 :: e_119 :: e_120 :: e_121 :: e_122 :: e_123 :: e_124 :: e_125 :: e_126 :: e_127 :: e_128 :: e_129 :: e_130 :: e_131 :: e_132 :: e_133 :: e_134 :: e_135 :: e_136 :: e_137 :: e_138 :: e_139 :: e_140 :: e_141 :: e_142 :: e_143 :: e_144 :: e_145 :: e_146 :: e_147 :: e_148 :: e_149 :: e_150 :: e_151 :: e_152 :: e_153 :: e_154 :: e_155 :: e_156 :: e_157 :: e_158 :: e_159 :: e_160 :: e_161 :: e_162 :: e_163 :: e_164 :: e_165 :: e_166 :: e_167 :: e_168 :: e_169 :: e_170 :: e_171 :: e_172 :: e_173 :: e_174 :: e_175 :: e_176 :: e_177 :: e_178 :: e_179 :: e_180 :: e_181 :: e_182 :: e_183 :: e_184 :: e_185 :: e_186 :: e_187 :: e_188 :: e_189 :: e_190 :: e_191 :: e_192 :: e_193 :: e_194 :: e_195 :: e_196 :: e_197 :: e_198 :: e_199 :: e_200 :: e_201 :: e_202 :: e_203 :: e_204 :: e_205 :: e_206 :: e_207 :: e_208 :: e_209 :: e_210 :: e_211 :: e_212 :: e_213 :: e_214 :: e_215 :: e_216 :: e_217 :: e_218 :: e_219 :: e_220 :: e_221 :: e_222 :: e_223 :: e_224 :: e_225 :: e_226 :: e_227 :: e_228 :: e_229 :: e_230 :: e_231 :: e_232 :: e_233 :: e_234 :: e_235 :: e_236 :: e_237 :: e_238 :: e_239 :: e_240 :: e_241 :: e_242 :: e_243 :: e_244 :: e_245 :: e_246 :: e_247 :: e_248 :: e_249 :: e_250 :: e_251 :: e_252 :: e_253 :: e_254 :: e_255 :: e_256 :: e_257 :: e_258 :: e_259 :: e_260 :: e_261 :: e_262 :: e_263 :: e_264 :: e_265 :: e_266 :: e_267 :: e_268 :: []), []⟩ w := by
 have c1 := h.dv.w1
 have k0 := h.k0
 have k2 := h.k2
 rw [hk] at k0
 have npW : p ≠ b.pW := by have := h.hp; omega
 have dg := fun {w : World} => rdigits_any x.size w
 have hdl : (dDig x.size).length ≤ 5 := by
  unfold dDig
  split
  ·simp
  ·exact digs_few5 _ _
 obtain ⟨Y, hY⟩ : ∃ Y, Y = txt (dDig x.size) := ⟨_, rfl⟩
 obtain ⟨Z, hZ⟩ : ∃ Z, Z = txt st.S := ⟨_, rfl⟩
 have hZY := hid (show Z ++ { data := #[32] } ++ Y = txt ((st.S ++ [32]) ++ dDig x.size) by rw [hZ, hY, ← txt_app2, ← txt_app2]; rfl)
 rw [← hZ] at c1
 rw [← hY] at dg
 have zZ : Z.size = st.S.length := by rw [hZ, txt_size]
 have zY : Y.size ≤ 5 := by rw [hY, txt_size]; exact hdl
 have q1 : ¬ 9223372036854775807 < Z.size + 1 := by omega
 have q2 : ¬ 9223372036854775807 < Z.size + 1 + Y.size := by omega
 have zf := h.dv.blk.frozen 1
 have lw := h.dv.blk.lt
 have lp := h.nb.lt
 have HV := hid h
 have HK := hid (show x.k = ((10 : Nat) : Int) from hk)
 have HL := hid (show ((st.S ++ [32]) ++ dDig x.size).length ≤ 18014398509481984 by rw [List.length_append, List.length_append, List.length_singleton]; omega)
 have HT := hid t0
 clear hZ hY hk h hdl zZ zY t0 hl
 conv => arg 2; whnf
 go_upto_region 15 with (fail)
 refine wp_region_noPanic ?_
 refine wp_region_held_drew (S := (fun W => W.cell? ⟨p, 2, none⟩ = some (.int .i64 x.size))) (by kernel_rfl) (k2) (fun hHeld => ?_)
 (first | refine tkN 0 ?_ | refine tkY 0 _ ?_); (try simp only [Act.put, zs])
 (first | refine tkN 1 ?_ | refine tkY 1 _ ?_); (try simp only [Act.put, zs])
 (first | refine tkN 2 ?_ | refine tkY 2 _ ?_); (try simp only [Act.put, zs])
 (first | refine tkN 3 ?_ | refine tkY 3 _ ?_); (try simp only [Act.put, zs])
 (first | refine tkN 6 ?_ | refine tkY 6 _ ?_); (try simp only [Act.put, zs])
 (first | refine tkN 7 ?_ | refine tkY 7 _ ?_); (try simp only [Act.put, zs])
 refine wpAnyH_ready (rs := [4, 8]) (by kernel_rfl) (by simp) ?_; refine AllReadyH.cons rfl (fun K hK => ?_) (AllReadyH.cons rfl (fun K hK => ?_) AllReadyH.nil)
 ·go_simp
  refine hK.out _ _ k2 (fun hHeld => ?_); clear hK K; (try simp only [Act.put, zs])
  (first | refine tkN 5 ?_ | refine tkY 5 _ ?_); (try simp only [Act.put, zs])
  refine wpAnyH_ready (rs := [8]) (by kernel_rfl) (by simp) ?_; refine AllReadyH.cons rfl (fun K hK => ?_) AllReadyH.nil
  go_simp
  refine dg.mono ?_
  rintro e w1 ⟨rfl, t1⟩
  have c11 : w1.cell? ⟨b.pW, 1, none⟩ = some (.string Z) := (t1.cell (a := ⟨b.pW, 1, none⟩) lw (by simp)).trans c1
  have k21 : w1.cell? ⟨p, 2, none⟩ = some (.int .i64 x.size) := (t1.cell (a := ⟨p, 2, none⟩) lp (by simp)).trans k2
  have zf1 := (HV.out.dv.turn0 (((Turn.refl w none).drew).trans t1)).blk.frozen 1
  have lw1 : b.pW < w1.heap.size := Nat.lt_of_lt_of_le lw t1.size
  refine hK.out _ _ k21 (fun hHeld => ?_); clear hK K; (try simp only [Act.put, zs])
  (first | refine tkN 9 ?_ | refine tkY 9 _ ?_); (try simp only [Act.put, zs])
  (first | refine tkN 10 ?_ | refine tkY 10 _ ?_); (try simp only [Act.put, zs])
  (first | refine tkN 11 ?_ | refine tkY 11 _ ?_); (try simp only [Act.put, zs])
  refine wpAnyH_ready (rs := [12]) (by kernel_rfl) (by simp) ?_; refine AllReadyH.cons rfl (fun K hK => ?_) AllReadyH.nil
  go_simp
  refine hK.out _ _ ((World.cell?_setCell_far _ _ _ _ npW.symm).trans k21) (fun hHeld => ?_); clear hK K; (try simp only [Act.put, zs])
  refine wpAnyH_done (by kernel_rfl) ?_ _
  refine NoPanic.normal ?_
  clear hHeld
  obtain ⟨w2, hw2⟩ : ∃ w2, w2 = w1.setCell ⟨b.pW, 1, none⟩ (.string (Z ++ { data := #[32] } ++ Y)) := ⟨_, rfl⟩
  have t1 := ((Turn.refl w none).drew).trans t1
  have hv1 := HV.out.dv.turn0 t1
  obtain ⟨hv7, t7⟩ := hv1.setS ((st.S ++ [32]) ++ dDig x.size)
  rw [← hZY.out, ← hw2] at hv7 t7
  rw [← hw2]
  have t8 := (t1.any (some b.pW)).trans t7
  have h8 := HV.out.turn t8 hv7
  have k02 : w2.cell? ⟨p, 0, none⟩ = some (.int .i64 10) := h8.k0.trans (by rw [HK.out]; rfl)
  clear hw2 c1 k0 k2 q1 q2 zf lw c11 k21 zf1 lw1
  go_upto_region 24 with (fail)
  exact of_code2 (C' := headOf 0 (headOf 12 wtB)) (by kernel_rfl) (wt_skip h8 HK.out (by omega) (by omega) HL.out (HT.out.trans t8) HF (by assumption) (by assumption))
 ·go_simp
  refine dg.mono ?_
  rintro e w1 ⟨rfl, t1⟩
  have c11 : w1.cell? ⟨b.pW, 1, none⟩ = some (.string Z) := (t1.cell (a := ⟨b.pW, 1, none⟩) lw (by simp)).trans c1
  have k21 : w1.cell? ⟨p, 2, none⟩ = some (.int .i64 x.size) := (t1.cell (a := ⟨p, 2, none⟩) lp (by simp)).trans k2
  have zf1 := (HV.out.dv.turn0 (((Turn.refl w none).drew).trans t1)).blk.frozen 1
  have lw1 : b.pW < w1.heap.size := Nat.lt_of_lt_of_le lw t1.size
  refine hK.out _ _ k21 (fun hHeld => ?_); clear hK K; (try simp only [Act.put, zs])
  refine wpAnyH_ready (rs := [4]) (by kernel_rfl) (by simp) ?_; refine AllReadyH.cons rfl (fun K hK => ?_) AllReadyH.nil
  go_simp
  refine hK.out _ _ k21 (fun hHeld => ?_); clear hK K; (try simp only [Act.put, zs])
  (first | refine tkN 5 ?_ | refine tkY 5 _ ?_); (try simp only [Act.put, zs])
  (first | refine tkN 9 ?_ | refine tkY 9 _ ?_); (try simp only [Act.put, zs])
  (first | refine tkN 10 ?_ | refine tkY 10 _ ?_); (try simp only [Act.put, zs])
  (first | refine tkN 11 ?_ | refine tkY 11 _ ?_); (try simp only [Act.put, zs])
  refine wpAnyH_ready (rs := [12]) (by kernel_rfl) (by simp) ?_; refine AllReadyH.cons rfl (fun K hK => ?_) AllReadyH.nil
  go_simp
  refine hK.out _ _ ((World.cell?_setCell_far _ _ _ _ npW.symm).trans k21) (fun hHeld => ?_); clear hK K; (try simp only [Act.put, zs])
  refine wpAnyH_done (by kernel_rfl) ?_ _
  refine NoPanic.normal ?_
  clear hHeld
  obtain ⟨w2, hw2⟩ : ∃ w2, w2 = w1.setCell ⟨b.pW, 1, none⟩ (.string (Z ++ { data := #[32] } ++ Y)) := ⟨_, rfl⟩
  have t1 := ((Turn.refl w none).drew).trans t1
  have hv1 := HV.out.dv.turn0 t1
  obtain ⟨hv7, t7⟩ := hv1.setS ((st.S ++ [32]) ++ dDig x.size)
  rw [← hZY.out, ← hw2] at hv7 t7
  rw [← hw2]
  have t8 := (t1.any (some b.pW)).trans t7
  have h8 := HV.out.turn t8 hv7
  have k02 : w2.cell? ⟨p, 0, none⟩ = some (.int .i64 10) := h8.k0.trans (by rw [HK.out]; rfl)
  clear hw2 c1 k0 k2 q1 q2 zf lw c11 k21 zf1 lw1
  go_upto_region 24 with (fail)
  exact of_code2 (C' := headOf 0 (headOf 12 wtB)) (by kernel_rfl) (wt_skip h8 HK.out (by omega) (by omega) HL.out (HT.out.trans t8) HF (by assumption) (by assumption))
theorem dSymG_nil {l : List (List UInt8)} {j : Nat} {q : Bool} {s : List UInt8} (h : l.length ≤ j) : dSymG q (l.drop j) s = s := by
 rw [List.drop_eq_nil_of_le h, dSymG]
theorem dSymG_long {l : List (List UInt8)} {q : Bool} {s : List UInt8} (h : 4096 < s.length) : dSymG q l s = s := by
 cases l with
 | nil => rw [dSymG]
 | cons y l => rw [dSymG, if_pos h]
theorem dSymG_next {l : List (List UInt8)} {j : Nat} {y : List UInt8} {q : Bool} {s : List UInt8} (h : l[j]? = some y) (hs : ¬ 4096 < s.length) : dSymG q (l.drop j) s = dSymG false (l.drop (j + 1)) ((if q then s else s ++ [44]) ++ y) := by
 have hj := (List.getElem?_eq_some_iff.1 h).1
 have e : l.drop j = y :: l.drop (j + 1) := by
  rw [List.drop_eq_getElem_cons hj]
  rw [List.getElem?_eq_getElem hj] at h
  injection h with h
  rw [h]
 rw [e, dSymG, if_neg hs]
theorem wt_enum (h : Tv w b st x p g As sc Ai ic Af fc) (hk : x.k = 9) (hl : st.S.length ≤ 140737488360000) (t0 : Turn w0 w (some b.pW)) (HF : Hid (FIN = { st with S := dSymG true x.syms (st.S ++ [60]) ++ dShut 9 })) {e_1 e_3 e_4 e_5 e_7 e_9 e_10 e_11 e_12 e_13 e_14 e_15 e_16 e_17 e_18 e_19 e_20 e_21 e_22 e_23 e_24 e_25 e_26 e_27 e_28 e_29 e_30 e_31 e_32 e_33 e_34 e_35 e_36 e_37 e_38 e_39 e_40 e_41 e_42 e_43 e_44 e_45 e_46 e_47 e_48 e_49 e_50 e_51 e_52 e_53 e_54 e_55 e_56 e_57 e_58 e_59 e_60 e_61 e_62 e_63 e_64 e_65 e_66 e_67 e_68 e_69 e_70 e_71 e_72 e_73 e_74 e_75 e_76 e_77 e_78 e_79 e_80 e_81 e_82 e_83 e_84 e_85 e_86 e_87 e_88 e_89 e_90 e_91 e_92 e_93 e_94 e_95 e_96 e_97 e_98 e_99 e_100 e_101 e_102 e_103 e_104 e_105 e_106 e_107 e_108 e_109 e_110 e_111 e_112 e_113 e_114 e_115 e_116 e_117 e_118 e_119 e_120 e_121 e_122 e_123 e_124 e_125 e_126 e_127 e_128 e_129 e_130 e_131 e_132 e_133 e_134 e_135 e_136 e_137 e_138 e_139 e_140 e_141 e_142 e_143 e_144 e_145 e_146 e_147 e_148 e_149 e_150 e_151 e_152 e_153 e_154 e_155 e_156 e_157 e_158 e_159 e_160 e_161 e_162 e_163 e_164 e_165 e_166 e_167 e_168 e_169 e_170 e_171 e_172 e_173 e_174 e_175 e_176 e_177 e_178 e_179 e_180 e_181 e_182 e_183 e_184 e_185 e_186 e_187 e_188 e_189 e_190 e_191 e_192 e_193 e_194 e_195 e_196 e_197 e_198 e_199 e_200 e_201 e_202 e_203 e_204 e_205 e_206 e_207 e_208 e_209 e_210 e_211 e_212 e_213 e_214 e_215 e_216 e_217 e_218 e_219 e_220 e_221 e_222 e_223 e_224 e_225 e_226 e_227 e_228 e_229 e_230 e_231 e_232 e_233 e_234 e_235 e_236 e_237 e_238 e_239 e_240 e_241 e_242 e_243 e_244 e_245 e_246 e_247 e_248 e_249 e_250 e_251 e_252 e_253 e_254 e_255 e_256 e_257 e_258 e_259 e_260 e_261 e_262 e_263 e_264 e_265 e_266 e_267 e_268 : Value} :
  Code.wp Tryz.prog (tailOf 10 wtB) (bodyPost Tryz.prog Tryz.f46 (Ud b w0 FIN)) ⟨List.toArray (.pointer (some ⟨b.pW, 0, none⟩) :: e_1 :: .int .i64 (d : Int) :: e_3 :: e_4 :: e_5 :: .pointer (some ⟨p, 0, none⟩) :: e_7 :: .slice (some ⟨g, 0, none⟩) 12 12 :: e_9 :: e_10 :: e_11 :: e_12 :: e_13 :: e_14 :: e_15 :: e_16 :: e_17 :: e_18 :: e_19 :: e_20 :: e_21 :: e_22 :: e_23 :: e_24 :: e_25 :: e_26 :: e_27 :: e_28 :: e_29 :: e_30 :: e_31 :: e_32 :: e_33 :: e_34 :: e_35 :: e_36 :: e_37 :: e_38 :: e_39 :: e_40 :: e_41 :: e_42 :: e_43 :: e_44 :: e_45 :: e_46 :: e_47 :: e_48 :: e_49 :: e_50 :: e_51 :: e_52 :: e_53 :: e_54 :: e_55 :: e_56 :: e_57 :: e_58 :: e_59 :: e_60 :: e_61 :: e_62 :: e_63 :: e_64 :: e_65 :: e_66 :: e_67 :: e_68 :: e_69 :: e_70 :: e_71 :: e_72 :: e_73 :: e_74 :: e_75 :: e_76 :: e_77 :: e_78 :: e_79 :: e_80 :: e_81 :: e_82 :: e_83 :: e_84 :: e_85 :: e_86 :: e_87 :: e_88 :: e_89 :: e_90 :: e_91 :: e_92 :: e_93 :: e_94 :: e_95 :: e_96 :: e_97 :: e_98 :: e_99 :: e_100 :: e_101 :: e_102 :: e_103 :: e_104 :: e_105 :: e_106 :: e_107 :: e_108 :: e_109 :: e_110 :: e_111 :: e_112 :: e_113 :: e_114 :: e_115 :: e_116 :: e_117 :: e_118 :: e_119 :: e_120 :: e_121 :: e_122 :: e_123 :: e_124 :: e_125 :: e_126 :: e_127 :: e_128 :: e_129 :: e_130 :: e_131 :: e_132 :: e_133 :: e_134 :: e_135 :: e_136 :: e_137 :: e_138 :: e_139 :: e_140 :: e_141 :: e_142 :: e_143 :: e_144 :: e_145 :: e_146 :: e_147 :: e_148 :: e_149 :: e_150 :: e_151 :: e_152 :: e_153 :: e_154 :: e_155 :: e_156 :: e_157 :: e_158 :: e_159 :: e_160 :: e_161 :: e_162 :: e_163 :: e_164 :: e_165 :: e_166 :: e_167 :: e_168 :: e_169 :: e_170 :: e_171 :: e_172 :: e_173 :: e_174 :: e_175 :: e_176 :: e_177 :: e_178 :: e_179 :: e_180 :: e_181 :: e_182 :: e_183 :: e_184 :: e_185 :: e_186 :: e_187 :: e_188 :: e_189 :: e_190 :: e_191 :: e_192 :: e_193 :: e_194 :: e_195 :: e_196 :: e_197 :: e_198 :: e_199 :: e_200 :: e_201 :: e_202 :: e_203 :: e_204 :: e_205 :: e_206 :: e_207 :: e_208 :: e_209 :: e_210 :: e_211 :: e_212 :: e_213 :: e_214 :: e_215 :: e_216 :: e_217 :: e_218 :: e_219 :: e_220 :: e_221 :: e_222 :: e_223 :: e_224 :: e_225 :: e_226 :: e_227 :: e_228 :: e_229 :: e_230 :: e_231 :: e_232 :: e_233 :: e_234 :: e_235 :: e_236 :: e_237 :: e_238 :: e_239 :: e_240 :: e_241 :: e_242 :: e_243 :: e_244 :: e_245 :: e_246 :: e_247 :: e_248 :: e_249 :: e_250 :: e_251 :: e_252 :: e_253 :: e_254 :: e_255 :: e_256 :: e_257 :: e_258 :: e_259 :: e_260 :: e_261 :: e_262 :: e_263 :: e_264 :: e_265 :: e_266 :: e_267 :: e_268 :: []), []⟩ w := by
 have c1 := h.dv.w1
 have k0 := h.k0
 rw [hk] at k0
 obtain ⟨Z, hZ⟩ : ∃ Z, Z = txt st.S := ⟨_, rfl⟩
 have hZY := hid (show Z ++ { data := #[60] } = txt (st.S ++ [60]) by rw [hZ]; exact txt_app2 _ [60])
 rw [← hZ] at c1
 have q1 : ¬ 9223372036854775807 < Z.size + 1 := by rw [hZ, txt_size]; omega
 have zf := h.dv.blk.frozen 1
 have lw := h.dv.blk.lt
 obtain ⟨hv7, t7⟩ := h.dv.setS (st.S ++ [60])
 rw [← hZY.out] at hv7 t7
 have h7 := h.turn t7 hv7
 have l7 : (st.S ++ [60]).length ≤ 140737488360001 := by rw [List.length_append, List.length_singleton]; omega
 obtain ⟨s7, hs7⟩ : ∃ s, s = st.S ++ [60] := ⟨_, rfl⟩
 rw [← hs7] at h7 l7 HF
 have hsy := h.ok.sy
 have hls := h.ok.ls
 have HK := hid (show x.k = ((9 : Nat) : Int) from hk)
 have HT := hid t0
 obtain ⟨MID, hMID⟩ : ∃ F, F = dSymG true x.syms s7 := ⟨_, rfl⟩
 rw [← hMID] at HF
 have HI := hid (show dSymG true x.syms s7 = MID from hMID.symm)
 have HH := hid (And.intro h7 t7)
 have HL7 := hid l7
 have hbs := h.dv.size
 clear h hk t0 hZ hs7 h7 t7 hv7 hMID hl l7
 conv => arg 2; whnf
 go_upto_region 18 with (fail)
 obtain ⟨w7, hw7⟩ : ∃ w', w' = w.setCell ⟨b.pW, 1, none⟩ (.string (Z ++ { data := #[60] })) := ⟨_, rfl⟩
 rw [← hw7] at HH
 rw [← hw7]
 clear hw7 c1 k0 zf q1
 go_wp2_with (fail)
 go_loopw [9] (fun i wr => ∃ (j : Nat) (s : List UInt8), j ≤ x.syms.length ∧ i = .int .i64 (j : Int) ∧ Tv wr b { st with S := s } x p g As sc Ai ic Af fc ∧ Hid (dSymG (decide (j = 0)) (x.syms.drop j) s = MID) ∧ Turn w7 wr (some b.pW) ∧ Hid (s.length ≤ 140737488370000)) (fun i _ => (x.syms.length - intOf i).toNat)
 case atStart => exact ⟨0, s7, by omega, rfl, HH.out.1, HI, Turn.refl _ _, hid (by have := HL7.out; omega)⟩
 case round =>
  obtain ⟨j, s, hj, rfl, hv, HM, tr, HB⟩ := hrel
  clear HI
  have k0 := hv.k0
  rw [HK.out] at k0
  have k3 := hv.k3
  have b1 : wr.cell? ⟨b.pW, 1, none⟩ = some (.string (txt s)) := hv.dv.w1
  obtain ⟨X, hX⟩ : ∃ X, X = txt s := ⟨_, rfl⟩
  have zX : X.size = s.length := by rw [hX, txt_size]
  rw [← hX] at b1
  have HX := hid hX
  clear hX
  have hsl := HB.out
  by_cases hjl : j < x.syms.length
  case neg =>
   have l1 : ¬((j : Int) < (x.syms.length : Int)) := by omega
   have HE := hid (show s = MID by rw [← HM.out, dSymG_nil (by omega)])
   clear zX
   go_upto_region 24 with (fail)
   exact of_code2 (C' := headOf 0 (headOf 12 wtB)) (by kernel_rfl) (wt_skip hv HK.out (by omega) (by omega) (by show s.length ≤ _; omega) ((HT.out.trans HH.out.2).trans tr) (by rw [HE.out]; exact HF) (by assumption) (by assumption))
  case pos =>
  have l1 : (j : Int) < (x.syms.length : Int) := by omega
  by_cases hs4 : 4096 < s.length
  ·have z4 : ¬(X.size : Int) ≤ 4096 := by omega
   have z4n : ¬X.size ≤ 4096 := by omega
   have HE := hid (show s = MID by rw [← HM.out, dSymG_long hs4])
   clear zX hs4
   go_upto_region 24 with (fail)
   exact of_code2 (C' := headOf 0 (headOf 12 wtB)) (by kernel_rfl) (wt_skip hv HK.out (by omega) (by omega) (by show s.length ≤ _; omega) ((HT.out.trans HH.out.2).trans tr) (by rw [HE.out]; exact HF) (by assumption) (by assumption))
  ·have z4 : (X.size : Int) ≤ 4096 := by omega
   have z4n : X.size ≤ 4096 := by omega
   obtain ⟨y, hy⟩ : ∃ y, x.syms[j]? = some y := ⟨x.syms[j], List.getElem?_eq_getElem hjl⟩
   have HN := hid ((dSymG_next (q := decide (j = 0)) hy hs4).symm.trans HM.out)
   have hyn := hsy y (List.mem_of_getElem? hy)
   have v1 := vss_at hy
   obtain ⟨bb, off, hA, hbb, hc⟩ := hv.rs.head (by omega)
   have c0 := hc _ _ v1
   have nb : bb ≠ b.pW := by have := hv.dv.lo; omega
   have m1 : some bb ≠ some b.pW := fun e => nb (by injection e)
   have lb := World.block_lt_of_cell? wr _ c0
   have lp := hv.nb.lt
   have npW : p ≠ b.pW := by have := hv.hp; omega
   have mp : some p ≠ some b.pW := fun e => npW (by injection e)
   have zf := hv.dv.blk.frozen 1
   have lw := hv.dv.blk.lt
   clear hy hs4 HM HB v1 hc
   rw [hA] at k3
   have HA := hid hA
   obtain ⟨Y, hY⟩ : ∃ Y, Y = txt y := ⟨_, rfl⟩
   have zY : Y.size = y.length := by rw [hY, txt_size]
   rw [← hY] at c0
   have HY := hid hY
   have HV := hid hv
   clear hA hY hv
   by_cases hj0 : j = 0
   ·have j0 : ¬(0 < j) := by omega
    have hXY := hid (show X ++ Y = txt (s ++ y) by rw [HX.out, HY.out, txt_app2])
    have q1 : ¬ 9223372036854775807 < X.size + Y.size := by omega
    have HD := hid (show dSymG false (x.syms.drop (j + 1)) (s ++ y) = MID by rw [← HN.out, decide_eq_true hj0]; rfl)
    have HL := hid (show (s ++ y).length ≤ 140737488370000 by rw [List.length_append]; omega)
    clear hj0 zX zY
    go_upto_region 23 with (fail)
    refine wp_region_noPanic ?_
    refine wp_region_held_drew (S := (fun W => W.cell? ⟨p, 3, none⟩ = some (.slice (some ⟨bb, off, none⟩) x.syms.length sc) ∧ W.cell? ⟨bb, off + j, none⟩ = some (.string Y))) (by kernel_rfl) (⟨k3, c0⟩) (fun hHeld => ?_)
    (first | refine tkN 0 ?_ | refine tkY 0 _ ?_); (try simp only [Act.put, zs])
    (first | refine tkN 1 ?_ | refine tkY 1 _ ?_); (try simp only [Act.put, zs])
    (first | refine tkN 2 ?_ | refine tkY 2 _ ?_); (try simp only [Act.put, zs])
    (first | refine tkN 3 ?_ | refine tkY 3 _ ?_); (try simp only [Act.put, zs])
    (first | refine tkN 5 ?_ | refine tkY 5 _ ?_); (try simp only [Act.put, zs])
    (first | refine tkN 6 ?_ | refine tkY 6 _ ?_); (try simp only [Act.put, zs])
    (first | refine tkN 7 ?_ | refine tkY 7 _ ?_); (try simp only [Act.put, zs])
    (first | refine tkN 8 ?_ | refine tkY 8 _ ?_); (try simp only [Act.put, zs])
    (first | refine tkN 9 ?_ | refine tkY 9 _ ?_); (try simp only [Act.put, zs])
    refine wpAnyH_ready (rs := [4]) (by kernel_rfl) (by simp) ?_; refine AllReadyH.cons rfl (fun K hK => ?_) AllReadyH.nil
    go_simp
    refine hK.out _ _ ⟨k3, c0⟩ (fun hHeld => ?_); clear hK K; (try simp only [Act.put, zs])
    (first | refine tkN 10 ?_ | refine tkY 10 _ ?_); (try simp only [Act.put, zs])
    (first | refine tkN 11 ?_ | refine tkY 11 _ ?_); (try simp only [Act.put, zs])
    (first | refine tkN 12 ?_ | refine tkY 12 _ ?_); (try simp only [Act.put, zs])
    refine wpAnyH_ready (rs := [13]) (by kernel_rfl) (by simp) ?_; refine AllReadyH.cons rfl (fun K hK => ?_) AllReadyH.nil
    go_simp
    refine hK.out _ _ ⟨(World.cell?_setCell_far _ _ _ _ npW.symm).trans k3, (World.cell?_setCell_far _ _ _ _ nb.symm).trans c0⟩ (fun hHeld => ?_); clear hK K; (try simp only [Act.put, zs])
    refine wpAnyH_done (by kernel_rfl) ?_ _
    refine NoPanic.normal ?_
    clear hHeld
    obtain ⟨hv7, t7⟩ := HV.out.dv.setS (s ++ y)
    rw [← hXY.out] at hv7 t7
    have hv8 := hv7.turn0 (Turn.refl _ none).drew
    have t8 := t7.drew
    have h8 := HV.out.turn t8 hv8
    go_wp2
    refine ⟨⟨j + 1, s ++ y, by omega, by go_num, h8, hid ?_, tr.trans t8, HL⟩, by simp [intOf]; omega⟩
    rw [← HD.out, decide_eq_false (by omega)]
   ·have j0 : 0 < j := by omega
    have HX3 := hid (show X ++ { data := #[44] } = txt (s ++ [44]) by rw [HX.out]; exact txt_app2 _ [44])
    have q1 : ¬ 9223372036854775807 < X.size + 1 := by omega
    have z3 : (txt (s ++ [44])).size = X.size + 1 := by rw [txt_size, List.length_append, List.length_singleton]; omega
    obtain ⟨hv3, t3⟩ := HV.out.dv.setS (s ++ [44])
    rw [← HX3.out] at hv3 t3
    have h3 := HV.out.turn t3 hv3
    have HD := hid (show dSymG false (x.syms.drop (j + 1)) ((s ++ [44]) ++ y) = MID by rw [← HN.out, decide_eq_false hj0]; rfl)
    have HL := hid (show ((s ++ [44]) ++ y).length ≤ 140737488370000 by rw [List.length_append, List.length_append, List.length_singleton]; omega)
    have k33 := (t3.cell (a := ⟨p, 3, none⟩) lp mp).trans k3
    have c03 := (t3.cell (a := ⟨bb, off + j, none⟩) lb m1).trans c0
    have HH3 := hid (And.intro h3 t3)
    have hZ := hid zY
    have hz := hid z3
    have hxx := hid zX
    clear hj0 zX zY z3 h3 hv3 t3
    go_upto_region 23 with (fail)
    obtain ⟨w3, hw3⟩ : ∃ w', w' = wr.setCell ⟨b.pW, 1, none⟩ (.string (X ++ { data := #[44] })) := ⟨_, rfl⟩
    rw [← hw3] at HH3 k33 c03
    rw [← hw3]
    clear hw3 b1 zf k0 k3 c0 q1 z4 z4n
    obtain ⟨X3, hX3⟩ : ∃ X, X = txt (s ++ [44]) := ⟨_, rfl⟩
    have b1 : w3.cell? ⟨b.pW, 1, none⟩ = some (.string X3) := by rw [hX3]; exact HH3.out.1.dv.w1
    have q1 : ¬ 9223372036854775807 < X3.size + Y.size := by have := hz.out; have := hZ.out; have := hxx.out; rw [hX3]; omega
    have zf := HH3.out.1.dv.blk.frozen 1
    have lw := HH3.out.1.dv.blk.lt
    have hXY := hid (show X3 ++ Y = txt ((s ++ [44]) ++ y) by rw [hX3, HY.out, txt_app2])
    clear hX3
    refine wp_region_noPanic ?_
    refine wp_region_held_drew (S := (fun W => W.cell? ⟨p, 3, none⟩ = some (.slice (some ⟨bb, off, none⟩) x.syms.length sc) ∧ W.cell? ⟨bb, off + j, none⟩ = some (.string Y))) (by kernel_rfl) (⟨k33, c03⟩) (fun hHeld => ?_)
    (first | refine tkN 0 ?_ | refine tkY 0 _ ?_); (try simp only [Act.put, zs])
    (first | refine tkN 1 ?_ | refine tkY 1 _ ?_); (try simp only [Act.put, zs])
    (first | refine tkN 2 ?_ | refine tkY 2 _ ?_); (try simp only [Act.put, zs])
    (first | refine tkN 3 ?_ | refine tkY 3 _ ?_); (try simp only [Act.put, zs])
    (first | refine tkN 5 ?_ | refine tkY 5 _ ?_); (try simp only [Act.put, zs])
    (first | refine tkN 6 ?_ | refine tkY 6 _ ?_); (try simp only [Act.put, zs])
    (first | refine tkN 7 ?_ | refine tkY 7 _ ?_); (try simp only [Act.put, zs])
    (first | refine tkN 8 ?_ | refine tkY 8 _ ?_); (try simp only [Act.put, zs])
    (first | refine tkN 9 ?_ | refine tkY 9 _ ?_); (try simp only [Act.put, zs])
    refine wpAnyH_ready (rs := [4]) (by kernel_rfl) (by simp) ?_; refine AllReadyH.cons rfl (fun K hK => ?_) AllReadyH.nil
    go_simp
    refine hK.out _ _ ⟨k33, c03⟩ (fun hHeld => ?_); clear hK K; (try simp only [Act.put, zs])
    (first | refine tkN 10 ?_ | refine tkY 10 _ ?_); (try simp only [Act.put, zs])
    (first | refine tkN 11 ?_ | refine tkY 11 _ ?_); (try simp only [Act.put, zs])
    (first | refine tkN 12 ?_ | refine tkY 12 _ ?_); (try simp only [Act.put, zs])
    refine wpAnyH_ready (rs := [13]) (by kernel_rfl) (by simp) ?_; refine AllReadyH.cons rfl (fun K hK => ?_) AllReadyH.nil
    go_simp
    refine hK.out _ _ ⟨(World.cell?_setCell_far _ _ _ _ npW.symm).trans k33, (World.cell?_setCell_far _ _ _ _ nb.symm).trans c03⟩ (fun hHeld => ?_); clear hK K; (try simp only [Act.put, zs])
    refine wpAnyH_done (by kernel_rfl) ?_ _
    refine NoPanic.normal ?_
    clear hHeld
    obtain ⟨hv7, t7⟩ := HH3.out.1.dv.setS ((s ++ [44]) ++ y)
    rw [← hXY.out] at hv7 t7
    have hv8 := hv7.turn0 (Turn.refl _ none).drew
    have t8 := t7.drew
    have h8 := HH3.out.1.turn t8 hv8
    go_wp2
    refine ⟨⟨j + 1, (s ++ [44]) ++ y, by omega, by go_num, h8, hid ?_, (tr.trans HH3.out.2).trans t8, HL⟩, by simp [intOf]; omega⟩
    rw [← HD.out, decide_eq_false (by omega)]
end
end Go.Proofs.YtgigiecdpjchkaaGreatDoor
