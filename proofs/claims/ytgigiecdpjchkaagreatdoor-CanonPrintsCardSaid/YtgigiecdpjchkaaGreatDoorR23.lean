import Derived.Test.YtgigiecdpjchkaaGreatDoorR22
import Derived.Test.YtgigiecdpjchkaaGreatDoorR1
import Derived.Test.YtgigiecdpjchkaaGreatDoorR21
set_option linter.unusedSimpArgs false
set_option linter.unusedVariables false
set_option linter.unusedSectionVars false
set_option maxRecDepth 100000
set_option maxHeartbeats 6400000
namespace Go.Proofs.YtgigiecdpjchkaaGreatDoor.Sha
open Go.RowKit
theorem of_code {p : Program} {C C' : Code} {P : Exit → Act → World → Prop} {f : Act} {w : World} (h : C = C') (g : Code.wp p C' P f w) : Code.wp p C P f w := h ▸ g
theorem rblocks_loop {K : Act → World → Prop} {Q' : Exit → Act → World → Prop} {w3 W3 : World} {gs gk gm mm c7 J : Nat} {M : List UInt8} {e_0 e_1 e_2 e_6 e_8 e_9 e_10 e_11 e_12 e_13 e_14 e_15 e_16 e_17 e_18 e_19 e_20 e_21 e_22 e_23 e_24 e_25 e_26 e_27 e_28 e_29 e_30 e_31 e_32 e_33 e_34 e_35 e_36 e_37 e_38 e_39 e_40 e_41 e_42 e_43 e_44 e_45 e_46 e_47 e_48 e_49 e_50 e_51 e_52 e_53 e_54 e_55 e_56 e_57 e_58 e_59 e_60 e_61 e_62 e_63 e_64 e_65 e_66 e_67 e_68 e_69 e_70 e_71 e_72 e_73 e_74 e_75 e_76 e_77 e_78 e_79 e_80 e_81 e_82 e_83 e_84 e_85 e_86 e_87 e_88 e_89 e_90 e_91 e_92 e_93 e_94 e_95 e_96 e_97 e_98 e_99 e_100 e_101 e_102 e_103 e_104 e_105 e_106 e_107 e_108 e_109 e_110 e_111 e_112 e_113 e_114 e_115 e_116 e_117 e_118 e_119 e_120 e_121 e_122 e_123 e_124 e_125 e_126 e_127 e_128 e_129 e_130 e_131 e_132 e_133 e_134 e_135 e_136 e_137 e_138 e_139 e_140 e_141 e_142 e_143 e_144 e_145 e_146 e_147 e_148 e_149 e_150 e_151 e_152 e_153 e_154 e_155 e_156 e_157 e_158 e_159 e_160 e_161 e_162 e_163 e_164 e_165 e_166 e_167 e_168 e_169 e_170 e_171 e_172 e_173 e_174 e_175 e_176 e_177 e_178 e_179 e_180 e_181 e_182 e_183 e_184 e_185 e_186 e_187 e_188 e_189 e_190 e_191 e_192 e_193 e_194 e_195 e_196 e_197 e_198 e_199 e_200 e_201 e_202 e_203 e_204 e_205 e_206 e_207 e_208 e_209 e_210 e_211 e_212 e_213 e_214 e_215 e_216 e_217 e_218 e_219 e_220 e_221 e_222 e_223 e_224 e_225 e_226 e_227 e_228 e_229 e_230 e_231 e_232 e_233 e_234 e_235 e_236 e_237 e_238 e_239 e_240 e_241 e_242 e_243 e_244 e_245 e_246 e_247 e_248 e_249 e_250 e_251 e_252 e_253 e_254 e_255 e_256 e_257 e_258 e_259 e_260 e_261 e_262 e_263 e_264 e_265 e_266 e_267 e_268 e_269 e_270 e_271 e_272 e_273 e_274 e_275 e_276 e_277 e_278 e_279 e_280 e_281 e_282 e_283 e_284 e_285 e_286 e_287 e_288 e_289 e_290 e_291 e_292 e_293 e_294 e_295 e_296 e_297 e_298 e_299 e_300 e_301 e_302 e_303 e_304 e_305 e_306 e_307 e_308 e_309 e_310 e_311 e_312 e_313 e_314 : Value}
  (ho7 : Own W3 w3.heap.size 5 1 (some ⟨gm, 0, none⟩) mm c7 (vbs M)) (hgm2 : gm < W3.heap.size) (hs7 : Blk W3 gs 135 (cvs sStart.list).toArray) (hk7 : Blk W3 gk 135 (cvs sKeys).toArray)
  (hsm : gs < gm) (hsk : gs < gk) (hmb : mm ≤ 1048700) (hmc : mm ≤ c7 ∧ c7 ≤ 2 ^ 63 - 1) (HJ : Hid (M.length = mm ∧ mm = 64 * J))
  (hK : ∀ (W : World), Blk W gs 135 (cvs (sGo M J).list).toArray → Turn W3 W (some gs) → ∀ {v7 v8 v9 v10 v11 v12 v13 v14 v15 v16 v17 v18 v19 v52 v53 v54 v55 v56 v57 v58 v59 v60 v61 v62 v63 v64 v65 v66 v67 v68 v69 v70 v71 v72 v73 v74 v75 v76 v77 v78 v79 v80 v81 v82 v83 v84 v85 v86 v87 v88 v89 v90 v91 v92 v93 v94 v95 v96 v97 v98 v99 v100 v101 v102 v103 v104 v105 v106 v107 v108 v109 v110 v111 v112 v113 v114 v115 v116 v117 v118 v119 v120 v121 v122 v123 v124 v125 v126 v127 v128 v129 v130 v131 v132 v133 v134 v135 v136 v137 v138 v139 v140 v141 v142 v143 v144 v145 v146 v147 v148 v149 v150 v151 v152 v153 v154 v155 v156 v157 v158 v159 v160 v161 v162 v163 v164 v165 v166 v167 v168 v169 v170 v171 v172 v173 v174 v175 v176 v177 v178 v179 v180 v181 v182 v183 v184 v185 v186 v187 v188 v189 v190 v191 v192 v193 v194 v195 v196 v197 v198 v199 v200 v201 v202 v203 v204 v205 v206 v207 v208 v209 v210 v211 v212 v213 v214 v215 v216 v217 v218 v219 v220 v221 v222 v223 v224 v225 v226 v227 v228 v229 v230 v231 v232 v233 v234 v235 v236 v237 v238 v239 v240 v241 v242 v243 v244 v245 v246 v247 v248 v249 v250 v251 v252 v253 v254 v255 v256 v257 v258 v259 v260 v261 v262 v263 v264 v265 v266 v267 v268 v269 v270 v271 v272 v273 v274 v275 v276 v277 v278 v279 v280 v281 v282 v283 v284 v285 v286 v287 v288 v289 v290 v291 v292 v293 v294 : Value}, K ⟨List.toArray (e_0 :: e_1 :: e_2 :: .slice (some ⟨gs, 0, none⟩) 8 8 :: .slice (some ⟨gk, 0, none⟩) 64 64 :: .slice (some ⟨gm, 0, none⟩) mm c7 :: e_6 :: v7 :: v8 :: v9 :: v10 :: v11 :: v12 :: v13 :: v14 :: v15 :: v16 :: v17 :: v18 :: v19 :: e_20 :: e_21 :: e_22 :: e_23 :: e_24 :: e_25 :: e_26 :: e_27 :: e_28 :: e_29 :: e_30 :: e_31 :: e_32 :: e_33 :: e_34 :: e_35 :: e_36 :: e_37 :: e_38 :: e_39 :: e_40 :: e_41 :: e_42 :: e_43 :: e_44 :: e_45 :: e_46 :: e_47 :: e_48 :: e_49 :: e_50 :: e_51 :: v52 :: v53 :: v54 :: v55 :: v56 :: v57 :: v58 :: v59 :: v60 :: v61 :: v62 :: v63 :: v64 :: v65 :: v66 :: v67 :: v68 :: v69 :: v70 :: v71 :: v72 :: v73 :: v74 :: v75 :: v76 :: v77 :: v78 :: v79 :: v80 :: v81 :: v82 :: v83 :: v84 :: v85 :: v86 :: v87 :: v88 :: v89 :: v90 :: v91 :: v92 :: v93 :: v94 :: v95 :: v96 :: v97 :: v98 :: v99 :: v100 :: v101 :: v102 :: v103 :: v104 :: v105 :: v106 :: v107 :: v108 :: v109 :: v110 :: v111 :: v112 :: v113 :: v114 :: v115 :: v116 :: v117 :: v118 :: v119 :: v120 :: v121 :: v122 :: v123 :: v124 :: v125 :: v126 :: v127 :: v128 :: v129 :: v130 :: v131 :: v132 :: v133 :: v134 :: v135 :: v136 :: v137 :: v138 :: v139 :: v140 :: v141 :: v142 :: v143 :: v144 :: v145 :: v146 :: v147 :: v148 :: v149 :: v150 :: v151 :: v152 :: v153 :: v154 :: v155 :: v156 :: v157 :: v158 :: v159 :: v160 :: v161 :: v162 :: v163 :: v164 :: v165 :: v166 :: v167 :: v168 :: v169 :: v170 :: v171 :: v172 :: v173 :: v174 :: v175 :: v176 :: v177 :: v178 :: v179 :: v180 :: v181 :: v182 :: v183 :: v184 :: v185 :: v186 :: v187 :: v188 :: v189 :: v190 :: v191 :: v192 :: v193 :: v194 :: v195 :: v196 :: v197 :: v198 :: v199 :: v200 :: v201 :: v202 :: v203 :: v204 :: v205 :: v206 :: v207 :: v208 :: v209 :: v210 :: v211 :: v212 :: v213 :: v214 :: v215 :: v216 :: v217 :: v218 :: v219 :: v220 :: v221 :: v222 :: v223 :: v224 :: v225 :: v226 :: v227 :: v228 :: v229 :: v230 :: v231 :: v232 :: v233 :: v234 :: v235 :: v236 :: v237 :: v238 :: v239 :: v240 :: v241 :: v242 :: v243 :: v244 :: v245 :: v246 :: v247 :: v248 :: v249 :: v250 :: v251 :: v252 :: v253 :: v254 :: v255 :: v256 :: v257 :: v258 :: v259 :: v260 :: v261 :: v262 :: v263 :: v264 :: v265 :: v266 :: v267 :: v268 :: v269 :: v270 :: v271 :: v272 :: v273 :: v274 :: v275 :: v276 :: v277 :: v278 :: v279 :: v280 :: v281 :: v282 :: v283 :: v284 :: v285 :: v286 :: v287 :: v288 :: v289 :: v290 :: v291 :: v292 :: v293 :: v294 :: e_295 :: e_296 :: e_297 :: e_298 :: e_299 :: e_300 :: e_301 :: e_302 :: e_303 :: e_304 :: e_305 :: e_306 :: e_307 :: e_308 :: e_309 :: e_310 :: e_311 :: e_312 :: e_313 :: e_314 :: []), []⟩ W) :
  Code.wp Tryz.prog (sumL 2) (Exit.inBlock 4 (Exit.then K Q')) ⟨List.toArray (e_0 :: e_1 :: e_2 :: .slice (some ⟨gs, 0, none⟩) 8 8 :: .slice (some ⟨gk, 0, none⟩) 64 64 :: .slice (some ⟨gm, 0, none⟩) mm c7 :: e_6 :: .int .i64 0 :: e_8 :: e_9 :: e_10 :: e_11 :: e_12 :: e_13 :: e_14 :: e_15 :: e_16 :: e_17 :: e_18 :: e_19 :: e_20 :: e_21 :: e_22 :: e_23 :: e_24 :: e_25 :: e_26 :: e_27 :: e_28 :: e_29 :: e_30 :: e_31 :: e_32 :: e_33 :: e_34 :: e_35 :: e_36 :: e_37 :: e_38 :: e_39 :: e_40 :: e_41 :: e_42 :: e_43 :: e_44 :: e_45 :: e_46 :: e_47 :: e_48 :: e_49 :: e_50 :: e_51 :: e_52 :: e_53 :: e_54 :: e_55 :: e_56 :: e_57 :: e_58 :: e_59 :: e_60 :: e_61 :: e_62 :: e_63 :: e_64 :: e_65 :: e_66 :: e_67 :: e_68 :: e_69 :: e_70 :: e_71 :: e_72 :: e_73 :: e_74 :: e_75 :: e_76 :: e_77 :: e_78 :: e_79 :: e_80 :: e_81 :: e_82 :: e_83 :: e_84 :: e_85 :: e_86 :: e_87 :: e_88 :: e_89 :: e_90 :: e_91 :: e_92 :: e_93 :: e_94 :: e_95 :: e_96 :: e_97 :: e_98 :: e_99 :: e_100 :: e_101 :: e_102 :: e_103 :: e_104 :: e_105 :: e_106 :: e_107 :: e_108 :: e_109 :: e_110 :: e_111 :: e_112 :: e_113 :: e_114 :: e_115 :: e_116 :: e_117 :: e_118 :: e_119 :: e_120 :: e_121 :: e_122 :: e_123 :: e_124 :: e_125 :: e_126 :: e_127 :: e_128 :: e_129 :: e_130 :: e_131 :: e_132 :: e_133 :: e_134 :: e_135 :: e_136 :: e_137 :: e_138 :: e_139 :: e_140 :: e_141 :: e_142 :: e_143 :: e_144 :: e_145 :: e_146 :: e_147 :: e_148 :: e_149 :: e_150 :: e_151 :: e_152 :: e_153 :: e_154 :: e_155 :: e_156 :: e_157 :: e_158 :: e_159 :: e_160 :: e_161 :: e_162 :: e_163 :: e_164 :: e_165 :: e_166 :: e_167 :: e_168 :: e_169 :: e_170 :: e_171 :: e_172 :: e_173 :: e_174 :: e_175 :: e_176 :: e_177 :: e_178 :: e_179 :: e_180 :: e_181 :: e_182 :: e_183 :: e_184 :: e_185 :: e_186 :: e_187 :: e_188 :: e_189 :: e_190 :: e_191 :: e_192 :: e_193 :: e_194 :: e_195 :: e_196 :: e_197 :: e_198 :: e_199 :: e_200 :: e_201 :: e_202 :: e_203 :: e_204 :: e_205 :: e_206 :: e_207 :: e_208 :: e_209 :: e_210 :: e_211 :: e_212 :: e_213 :: e_214 :: e_215 :: e_216 :: e_217 :: e_218 :: e_219 :: e_220 :: e_221 :: e_222 :: e_223 :: e_224 :: e_225 :: e_226 :: e_227 :: e_228 :: e_229 :: e_230 :: e_231 :: e_232 :: e_233 :: e_234 :: e_235 :: e_236 :: e_237 :: e_238 :: e_239 :: e_240 :: e_241 :: e_242 :: e_243 :: e_244 :: e_245 :: e_246 :: e_247 :: e_248 :: e_249 :: e_250 :: e_251 :: e_252 :: e_253 :: e_254 :: e_255 :: e_256 :: e_257 :: e_258 :: e_259 :: e_260 :: e_261 :: e_262 :: e_263 :: e_264 :: e_265 :: e_266 :: e_267 :: e_268 :: e_269 :: e_270 :: e_271 :: e_272 :: e_273 :: e_274 :: e_275 :: e_276 :: e_277 :: e_278 :: e_279 :: e_280 :: e_281 :: e_282 :: e_283 :: e_284 :: e_285 :: e_286 :: e_287 :: e_288 :: e_289 :: e_290 :: e_291 :: e_292 :: e_293 :: e_294 :: e_295 :: e_296 :: e_297 :: e_298 :: e_299 :: e_300 :: e_301 :: e_302 :: e_303 :: e_304 :: e_305 :: e_306 :: e_307 :: e_308 :: e_309 :: e_310 :: e_311 :: e_312 :: e_313 :: e_314 :: []), []⟩ W3 := by
 conv => arg 2; whnf
 go_loopw [7] (fun v w' => ∃ j : Nat, j ≤ J ∧ v = .int .i64 (64 * (j : Int)) ∧ Blk w' gs 135 (cvs (sGo M j).list).toArray ∧ Turn W3 w' (some gs)) (fun v _ => (mm - intOf v).toNat)
 case atStart => exact ⟨0, by omega, rfl, hs7, Turn.refl W3 _⟩
 case round =>
  obtain ⟨j, hj, rfl, hs, ht⟩ := hrel
  obtain ⟨W4, rfl⟩ : ∃ x, x = wr := ⟨wr, rfl⟩
  have ho4 := ho7.turn ht (.inr (by simp [Go.Proofs.YtgigiecdpjchkaaGreatDoor.blk]; omega))
  have hk4 := hk7.turn ht (by simp; omega)
  have hMm := HJ.out.1
  have hJ4 := HJ.out.2
  by_cases hjJ : j < J
  ·obtain ⟨a, ha⟩ : ∃ a, a = 64 * j := ⟨_, rfl⟩
   have hai : 64 * (j : Int) = (a : Int) := by omega
   have ham : a + 64 ≤ mm := by omega
   have hac : a + 64 ≤ c7 := by omega
   rw [hai]
   have hl0 : (a : Int) < (mm : Int) := by omega
   have Ha := hid (And.intro ha hJ4)
   have HMm := hid hMm
   clear ha hai hJ4 hMm
   obtain ⟨bl, hbl⟩ : ∃ bl, bl = (M.drop a).take 64 := ⟨_, rfl⟩
   have Hbl := hid hbl
   clear hbl
   go_wp2_with fail
   clear hl0
   refine of_code (C' := sumM 0) (by kernel_rfl) (rfirst_loop ho4 HMm.out ham hac hmb hmc Hbl (Own.made W4 W4.heap.size _ 1 0 #[] (Nat.le_refl _) (by decide) rfl) ((Turn.refl W4 none).alloc _) ?_)
   intro W5 A8 c8 hw htw u9 u10 u59 u60 u61 u62 u63 u64 u65 u66 u67 u68 u69 u70 u71 u72 u73 u74 u75 u76 u77 u78 u79 u80 u81 u82 u83 u84 u85 u86 u87 u88 u89 u90 u91 u92 u93 u94 u95 u96 u97 u98
   go_wp2_with fail
   refine of_code (C' := sumM 1) (by kernel_rfl) (rspread_loop hw htw ?_)
   clear hw htw
   intro W6 A10 c10 hw6 htw6 u11 u12 u13 u14 u99 u100 u101 u102 u103 u104 u105 u106 u107 u108 u109 u110 u111 u112 u113 u114 u115 u116 u117 u118 u119 u120 u121 u122 u123 u124 u125 u126 u127 u128 u129 u130 u131 u132 u133 u134 u135 u136 u137 u138 u139 u140 u141 u142 u143 u144 u145 u146 u147 u148 u149 u150 u151 u152 u153 u154 u155 u156 u157 u158 u159 u160 u161
   have hs6 := hs.turn0 htw6
   have hk6 := hk4.turn0 htw6
   have hsz6 := htw6.size
   have hgs6 := hs6.lt
   obtain ⟨gw, rfl, hgw, hgw2⟩ := hw6.head (by omega)
   obtain ⟨s0, hs0⟩ : ∃ s0, s0 = sGo M j := ⟨_, rfl⟩
   rw [← hs0] at hs6
   have HS0 := hid hs0
   clear hs0
   go_wp2_with (at_builtin; refine wp_app (base := W6.heap.size) rfl _ _ _ rfl elW rfl rfl (Own.made W6 W6.heap.size _ 1 0 #[] (Nat.le_refl _) (by decide) rfl) (show Rd _ _ 1 _ 8 _ from (hs6.alloc _).rdAt (Sub.all (cvs s0.list))) (cvs_one _) (by unfold maxLen; first | omega | (simp; done) | (simp; omega)) (by first | omega | (simp; done) | (simp; omega)) (by first | omega | (simp; done) | (simp; omega)) ?_; intro A12 c12 w12 ho12 ht12 hb12)
   obtain ⟨gv0, rfl, hgv0, hgv02⟩ := ho12.head (by omega)
   have htw12 : Turn W6 w12 none := ((Turn.refl W6 none).alloc _).new ht12 (fun g' hg' => (by simp [Go.Proofs.YtgigiecdpjchkaaGreatDoor.blk] at hg'; omega))
   have hs12 := hs6.turn0 htw12
   have hk12 := hk6.turn0 htw12
   have hw12 := hw6.turn0 htw12
   have hT12 := htw6.trans htw12
   have hsz12 := htw12.size
   rw [Nat.zero_add, List.nil_append] at ho12
   have hv12 := ho12.rd
   clear ho12 ht12 hb12 hw6 hs6 hk6 htw6 htw12
   obtain ⟨ws, hws0⟩ : ∃ ws, ws = sSpread bl := ⟨_, rfl⟩
   have hwsl : ws.length = 64 := by rw [hws0, sSpread_len]
   rw [← hws0] at hw12
   have HWS := hid hws0
   clear hws0
   refine of_code (C' := sumM 2) (by kernel_rfl) (rrounds_loop (gs := gs) (hid rfl) hwsl hw12 hk12 hv12 (by omega) (by omega) ?_)
   intro W7 gv cv hgsv hv htv u16 u17 u18 u165 u166 u167 u168 u169 u170 u171 u172 u173 u174 u175 u176 u177 u178 u179 u180 u181 u182 u183 u184 u185 u186 u187 u188 u189 u190 u191 u192 u193 u194 u195 u196 u197 u198 u199 u200 u201 u202 u203 u204 u205 u206 u207 u208 u209 u210 u211 u212 u213 u214 u215 u216 u217 u218 u219 u220 u221 u222 u223 u224 u225 u226 u227 u228 u229 u230 u231 u232 u233 u234 u235 u236 u237 u238 u239 u240 u241 u242 u243 u244 u245 u246 u247 u248 u249 u250 u251 u252 u253 u254 u255 u256 u257 u258 u259 u260 u261 u262 u263 u264 u265 u266 u267 u268 u269 u270 u271 u272 u273 u274 u275 u276 u277 u278
   have hs7' := hs12.turn0 htv
   obtain ⟨r, hr⟩ : ∃ r, r = sRun ws s0 64 := ⟨_, rfl⟩
   rw [← hr] at hv
   have HR := hid hr
   clear hr
   go_wp2_with fail
   refine of_code (C' := sumM 3) (by kernel_rfl) (rmix_loop hv hs7' hgsv ?_)
   intro W8 hsb htb u19 u279 u280 u281 u282 u283 u284 u285 u286 u287 u288 u289 u290 u291 u292 u293 u294
   go_wp2_with fail
   have ha := Ha.out.1
   have hgo : s0.add r = sGo M (j + 1) := by
    rw [sGo, sBlock, ← HS0.out, HR.out, HWS.out, Hbl.out, ha]
   rw [hgo] at hsb
   refine ⟨⟨j + 1, by omega, ?_, hsb, (ht.trans ((hT12.trans htv).any (some gs))).trans htb⟩, ?_⟩
   ·have : (a : Int) + 64 = 64 * ((j + 1 : Nat) : Int) := by omega
    rw [← this]
   ·have h1 := Ha.out.2
    simp [intOf]; omega
  ·have hnl : ¬ (64 * (j : Int) < (mm : Int)) := by omega
   obtain rfl : j = J := by omega
   have HMm := hid hMm
   have HJ4 := hid hJ4
   clear hMm hJ4 HJ hj hjJ
   go_wp2_with fail
   exact hK _ hs ht
open Go.RowKit
theorem rsum_any (A : Option Addr) (n c : Nat) (l : List UInt8) (B : Nat) (w : World) (hr : Rd w B 1 A n (vbs l)) (hB : B ≤ w.heap.size) (hN : n ≤ 1048576) :
  Calls Tryz.prog 54 #[.slice A n c] w fun e w' => e = .returned (.agg (vbs (sHash l)).toArray) ∧ Turn w w' none := by
 have hT := Turn.refl w none
 obtain ⟨X, hX⟩ : ∃ X, X = vbs (sHash l) := ⟨_, rfl⟩
 have hX1 : X.length = 32 := by rw [hX, vbs_len, sHash_len]
 have hX2 : ∀ u ∈ X, u.oneCell' = true := by rw [hX]; exact vbs_one _
 rw [← hX]
 have HX := hid hX
 clear hX
 have hml := hr.len
 rw [vbs_len] at hml
 go_enter Tryz.func54, Tryz.ntmps54
 go_wp2_with (first
  | (refine wp_al rfl 41 rfl _ nul32 ?_; intro gr w1 hgr hres ht1; have hT := hT.trans ht1; rw [cells_agg] at hres)
  | (go_at_call 91; refine (rwords_any _).mono ?_; rintro e w2 ⟨gs, rfl, hgs, hs, ht2⟩; have hT := hT.trans ht2)
  | (go_at_call 92; refine (rroots_any _).mono ?_; rintro e w3 ⟨gk, rfl, hgk, hk, ht3⟩; have hT := hT.trans ht3)
  | (at_builtin; refine wp_app (base := w3.heap.size) rfl _ _ _ rfl elB rfl rfl (ho.alloc _) (Rd.lit _ _ _) (by repeat (first | exact ones_nil | refine ones_cons rfl ?_)) (by unfold maxLen; first | omega | (simp; done) | (simp; omega)) (by first | omega | (simp; done) | (simp; omega)) (by first | omega | (simp; done) | (simp; omega)) ?_; intro A5 c5 w5 ho5 ht5 hb5; have hT5 := (hT4.alloc _).new ht5 (fun g' hg' => (ho.block g' hg').1))
  | (at_builtin; refine wp_app rfl _ _ _ rfl elB rfl rfl (Own.made w3 w3.heap.size _ 1 0 #[] (Nat.le_refl _) (by decide) rfl) ((hr.turn0 hT hB).alloc (Nat.le_trans hB hT.size) _) (vbs_one l) (by unfold maxLen; first | omega | (simp; done) | (simp; omega)) (by first | omega | (simp; done) | (simp; omega)) (by first | omega | (simp; done) | (simp; omega)) ?_; intro A4 c4 w4 ho ht4 hb4; rw [Nat.zero_add, List.nil_append] at ho; have hT4 : Turn w3 w4 none := ((Turn.refl w3 none).alloc _).new ht4 (fun g' hg' => (by simp [Go.Proofs.YtgigiecdpjchkaaGreatDoor.blk] at hg'; omega)); have hs4 := hT4.size))
 have hgr := hres.lt
 have hgs2 := hs.lt
 have hgk2 := hk.lt
 have e5 : vbs l ++ [Value.int .u8 128] = vbs (l ++ 128 :: List.replicate 0 0) := by
  rw [vbs_append]
  rfl
 rw [e5] at ho5
 clear hb4 hb5 ht4 ht5 e5 ho hT4
 obtain ⟨z, hz⟩ : ∃ z, z = sZeros n := ⟨_, rfl⟩
 have hz1 : (n + 1 + z) % 64 = 56 := by rw [hz]; unfold sZeros; omega
 have hz2 : z < 64 := by rw [hz]; exact sZeros_lt n
 have HZ := hid hz
 clear hz
 go_loopw [5] (fun v wr => ∃ (q : Nat) (A' : Option Addr) (c' : Nat), q ≤ z ∧ v = .slice A' (n + 1 + q) c' ∧ Own wr w3.heap.size 5 1 A' (n + 1 + q) c' (vbs (l ++ 128 :: List.replicate q 0)) ∧ Turn w3 wr none) (fun v _ => match v with | .slice _ m _ => n + 65 - m | _ => 0)
 case atStart => exact ⟨0, A5, c5, by omega, rfl, ho5, hT5⟩
 case round =>
  obtain ⟨q, A', c', hq, rfl, ho, hTr⟩ := hrel
  have hTs := hTr.size
  clear ho5 hT5
  by_cases hqz : q < z
  ·have hm : ¬ ((n : Int) + 1 + (q : Int)) % 64 = 56 := by omega
   go_wp2_with (at_builtin; refine wp_app (base := w3.heap.size) rfl _ _ _ rfl elB rfl rfl (ho.alloc _) (Rd.lit _ _ _) (by repeat (first | exact ones_nil | refine ones_cons rfl ?_)) (by unfold maxLen; first | omega | (simp; done) | (simp; omega)) (by first | omega | (simp; done) | (simp; omega)) (by first | omega | (simp; done) | (simp; omega)) ?_; intro A6 c6 w6 ho6 ht6 hb6)
   have e6 : vbs (l ++ 128 :: List.replicate q 0) ++ [Value.int .u8 0] = vbs (l ++ 128 :: List.replicate (q + 1) 0) := by
    rw [List.replicate_succ', ← List.cons_append, ← List.append_assoc, vbs_append _ [0]]
    rfl
   rw [e6] at ho6
   refine ⟨⟨q + 1, A6, c6, by omega, rfl, ho6, (hTr.alloc _).new ht6 (fun g' hg' => (ho.block g' hg').1)⟩, ?_⟩
   simp; omega
  ·have hqq : q = z := by omega
   have hm : ((n : Int) + 1 + (q : Int)) % 64 = 56 := by omega
   have HQ := hid hqq
   clear hqz hqq
   go_wp2_with fail
   clear hm
   go_loopw [5, 6] (fun v i w7 => ∃ (p : Nat) (A7 : Option Addr) (c7 : Nat), p ≤ 8 ∧ v = .slice A7 (n + 1 + q + p) c7 ∧ i = .int .i64 (7 - (p : Int)) ∧ Own w7 w3.heap.size 5 1 A7 (n + 1 + q + p) c7 (vbs (l ++ 128 :: List.replicate q 0 ++ (sLen n).take p)) ∧ Turn w3 w7 none) (fun _ i _ => (intOf i + 1).toNat)
   case atStart => exact ⟨0, A', c', by omega, rfl, rfl, by simpa using ho, hTr⟩
   case round =>
    obtain ⟨p, A7, c7, hp, rfl, rfl, ho7, hT7⟩ := hrel
    have hTs7 := hT7.size
    clear ho hTr hTs
    by_cases hp8 : p < 8
    ·obtain ⟨k, hk⟩ : ∃ k, k + p = 7 := ⟨7 - p, by omega⟩
     have hks : (7 - (p : Int)) = (k : Int) := by omega
     have hkn : (k : Int) - 1 = 7 - ((p + 1 : Nat) : Int) := by omega
     have hk8 : k < 8 := by omega
     have hat := hid (sLen_at n p (8 * k) hp8 (by omega))
     rw [hks]
     have hkn2 := hid hkn
     have Hk := hid hk
     clear hks hkn hk
     go_wp2_with (at_builtin; refine wp_app (base := w3.heap.size) rfl _ _ _ rfl elB rfl rfl (ho7.alloc _) (Rd.lit _ _ _) (by repeat (first | exact ones_nil | refine ones_cons rfl ?_)) (by unfold maxLen; first | omega | (simp; done) | (simp; omega)) (by first | omega | (simp; done) | (simp; omega)) (by first | omega | (simp; done) | (simp; omega)) ?_; intro A8 c8 w8 ho8 ht8 hb8)
     rw [hkn2.out]
     have e8 : vbs (l ++ 128 :: List.replicate q 0 ++ (sLen n).take p) ++ [Value.int .u8 ((n : Int) * 8 / 2 ^ (8 * k) % 256)] = vbs (l ++ 128 :: List.replicate q 0 ++ (sLen n).take (p + 1)) := by
      rw [take_nxt hat.out, ← List.append_assoc, vbs_append _ [_]]
      congr 1
     rw [e8] at ho8
     have hk := Hk.out
     refine ⟨⟨p + 1, A8, c8, by omega, rfl, rfl, ho8, (hT7.alloc _).new ht8 (fun g' hg' => (ho7.block g' hg').1)⟩, ?_⟩
     simp [intOf]; omega
    ·have hneg : (7 - (p : Int)) = -1 := by omega
     obtain ⟨M, hM⟩ : ∃ M, M = sPad l := ⟨_, rfl⟩
     have hMl : l ++ 128 :: List.replicate q 0 ++ (sLen n).take p = M := by
      rw [hM, sPad, sEnd, hml, ← HZ.out, HQ.out, List.take_of_length_le (by rw [sLen_len]; omega), List.append_assoc]
     rw [hMl] at ho7
     obtain ⟨mm, hmm⟩ : ∃ mm, mm = n + 1 + q + p := ⟨_, rfl⟩
     rw [hneg, ← hmm]
     rw [← hmm] at ho7
     have hMm : M.length = mm := by have := ho7.len; rw [vbs_len] at this; exact this
     obtain ⟨J, hJ⟩ : ∃ J, J = mm / 64 := ⟨_, rfl⟩
     have hmJ : mm = 64 * J := by have := sPad_len l; rw [← hM] at this; omega
     have hmb : mm ≤ 1048700 := by omega
     have hXo : X = vbs (sOut (sGo M J)) := by rw [HX.out, hJ, ← hMm, hM]; rfl
     have HXo := hid hXo
     obtain ⟨gm, rfl, hgm, hgm2⟩ := ho7.head (by omega)
     have hmc := ho7.cap
     unfold maxLen at hmc
     have hs7 := (hs.turn0 ht3).turn0 hT7
     have hk7 := hk.turn0 hT7
     have hres7 := ((hres.turn0 ht2).turn0 ht3).turn0 hT7
     have hgsk := hs.lt
     have hT73 := hT.trans hT7
     have HJ := hid (And.intro hM (And.intro hMm (And.intro hJ hmJ)))
     clear hMl hmm hmJ hM hMm hJ hXo HX hneg hp hp8 HQ HZ hq hz1 hz2 hr hml hTs7 hres hs hk ht2 ht3 hT hT7
     go_wp2_with fail
     obtain ⟨W3, rfl⟩ : ∃ x, x = wr := ⟨wr, rfl⟩
     refine of_code (C' := sumL 2) (by kernel_rfl) (rblocks_loop (gs := gs) (gk := gk) (gm := gm) ho7 hgm2 hs7 hk7 (by omega) (by omega) hmb hmc (hid ⟨HJ.out.2.1, HJ.out.2.2.2⟩) ?_)
     intro W4 hs ht u7 u8 u9 u10 u11 u12 u13 u14 u15 u16 u17 u18 u19 u52 u53 u54 u55 u56 u57 u58 u59 u60 u61 u62 u63 u64 u65 u66 u67 u68 u69 u70 u71 u72 u73 u74 u75 u76 u77 u78 u79 u80 u81 u82 u83 u84 u85 u86 u87 u88 u89 u90 u91 u92 u93 u94 u95 u96 u97 u98 u99 u100 u101 u102 u103 u104 u105 u106 u107 u108 u109 u110 u111 u112 u113 u114 u115 u116 u117 u118 u119 u120 u121 u122 u123 u124 u125 u126 u127 u128 u129 u130 u131 u132 u133 u134 u135 u136 u137 u138 u139 u140 u141 u142 u143 u144 u145 u146 u147 u148 u149 u150 u151 u152 u153 u154 u155 u156 u157 u158 u159 u160 u161 u162 u163 u164 u165 u166 u167 u168 u169 u170 u171 u172 u173 u174 u175 u176 u177 u178 u179 u180 u181 u182 u183 u184 u185 u186 u187 u188 u189 u190 u191 u192 u193 u194 u195 u196 u197 u198 u199 u200 u201 u202 u203 u204 u205 u206 u207 u208 u209 u210 u211 u212 u213 u214 u215 u216 u217 u218 u219 u220 u221 u222 u223 u224 u225 u226 u227 u228 u229 u230 u231 u232 u233 u234 u235 u236 u237 u238 u239 u240 u241 u242 u243 u244 u245 u246 u247 u248 u249 u250 u251 u252 u253 u254 u255 u256 u257 u258 u259 u260 u261 u262 u263 u264 u265 u266 u267 u268 u269 u270 u271 u272 u273 u274 u275 u276 u277 u278 u279 u280 u281 u282 u283 u284 u285 u286 u287 u288 u289 u290 u291 u292 u293 u294
     have hT74 := hT73.new ht (by simp; omega)
     have hres4 := hres7.turn ht (by simp; omega)
     obtain ⟨s, hs0⟩ : ∃ s, s = sGo M J := ⟨_, rfl⟩
     rw [← hs0] at hs
     have HY := hid (show X = vbs (sOut s) by rw [hs0]; exact HXo.out)
     clear hs0
     go_wp2_with (first
      | (refine wp_bd rfl 41 _ rfl _ rfl (vbs (List.replicate 32 0)).toArray (by kernel_rfl) ?_)
      | (refine wp_al rfl 41 rfl _ nul32 ?_; intro go w5 hgo hb5 ht5; have hs5 := hs.turn0 ht5; have hgso : gs < go := (by rw [← hgo]; exact hs.lt); have hgro : gr < go := (by rw [← hgo]; exact hres4.lt); have hT75 := hT74.trans ht5; have hres5 := hres4.turn0 ht5; rw [cells_agg] at hb5)
      | (refine wp_st (xs := vbs (List.replicate 32 0)) rfl 41 _ _ rfl rfl rfl hb5 rfl (sz32 (by rw [vbs_len, List.length_replicate])) (vbs_one _) ?_; intro w6 hb6 ht6; have hT76 := hT75.new ht6 (by have := hT74.size; simp; omega); have hs6 := hs5.turn ht6 (by simp; omega); have hres6 := hres5.turn ht6 (by simp; omega)))
     have hgow : w.heap.size ≤ go := by have h1 := hT74.size; omega
     clear hb5 hs5 hres5
     go_loopw [21] (fun u w' => ∃ i : Nat, i ≤ 32 ∧ u = .int .i64 (i : Int) ∧ Blk w' go 41 (vbs (sOutBy s i)).toArray ∧ Turn w6 w' (some go)) (fun u _ => (32 - intOf u).toNat)
     case atStart => exact ⟨0, by omega, rfl, by rw [sOutBy_zero]; exact hb6, Turn.refl w6 _⟩
     case round =>
      obtain ⟨i, hi, rfl, hb, ht7⟩ := hrel
      obtain ⟨W8, rfl⟩ : ∃ x, x = wr := ⟨wr, rfl⟩
      by_cases hi32 : i < 32
      ·obtain ⟨x, hx, hout⟩ := sOut_at s i hi32
       obtain ⟨k, hk⟩ : ∃ k, k = 24 - 8 * (i % 4) := ⟨_, rfl⟩
       rw [← hk] at hout
       have hki : 24 - 8 * ((i : Int) % 4) = (k : Int) := by omega
       have hk32 : k < 32 := by omega
       have hs8 := hs6.turn ht7 (by simp; omega)
       have hc := hs8.ats (cvs_at hx)
       have hbx := cV_bd x
       have hbl2 : (vbs (sOutBy s i)).length = 32 := by rw [vbs_len, sOutBy_len s i hi]
       have hd := hb.ats (j := i) (List.getElem?_eq_getElem (by omega))
       have hf := hb.frozen i
       have Hout := hid hout
       clear hk hout hx
       go_wp2_with fail
       have hb9 : Blk (W8.setCell ⟨go, i, none⟩ (.int .u8 (cV x / 2 ^ k % 256))) go 41 (vbs (sOutBy s (i + 1))).toArray := by
        have h5 := hb.sets i (vb (UInt8.ofNat (x.toNat / 2 ^ k)))
        rw [vbs_set, sOutBy_next hi32 Hout.out] at h5
        have e : vb (UInt8.ofNat (x.toNat / 2 ^ k)) = .int .u8 (cV x / 2 ^ k % 256) := by
         rw [vb_ofNat]
         congr 1
        rw [e] at h5
        exact h5
       refine ⟨⟨i + 1, by omega, rfl, hb9, ht7.trans (Blk.setTurn _ go _ _)⟩, ?_⟩
       simp [intOf]; omega
      ·have hii : i = 32 := by omega
       rw [hii, sOutBy_all, ← HY.out] at hb
       clear hii hi
       have hr7 := hres6.turn ht7 (by simp; omega)
       go_wp2_with (first
        | (refine wp_ld rfl 41 _ rfl rfl hb (Sub.all X) Tryz.underlying41 rfl (sz32 hX1) ?_)
        | (refine wp_st (xs := X) rfl 41 _ _ rfl rfl rfl hr7 (by rw [List.size_toArray, vbs_len, hX1]; rfl) (sz32 hX1) hX2 ?_; intro w9 hb9 ht9))
       refine ret_cell rfl rfl rfl hb9 Tryz.underlying41 rfl (sz32 hX1) ⟨rfl, ?_⟩
       exact (hT76.new ht7 (by simp; omega)).new ht9 (by have := hT.size; simp; omega)
end Go.Proofs.YtgigiecdpjchkaaGreatDoor.Sha
namespace Go.Proofs.YtgigiecdpjchkaaGreatDoor
open Go.RowKit
theorem rprint_ok {l t : List UInt8} (h : cForm l = .ok t) (w : World) : Calls Tryz.prog 27 #[.string (txt l)] w fun e w' => e = .returned (.tuple #[.agg (vbs (Sha.sHash t)).toArray, .bool true]) ∧ Turn w w' none := by
 have hlen := form_len h
 have tx := fun {w1 : World} (_ : Turn w w1 none) => rtext_ok h w1
 obtain ⟨X, hX⟩ : ∃ X, X = vbs (Sha.sHash t) := ⟨_, rfl⟩
 have hX1 : X.length = 32 := by rw [hX, vbs_len, Sha.sHash_len]
 have hX2 : ∀ u ∈ X, u.oneCell' = true := by rw [hX]; exact vbs_one _
 rw [← hX]
 have HX := hid hX
 clear hX h
 go_enter Tryz.func27, Tryz.ntmps27
 go_wp2_with (first
  | (refine wp_al rfl 41 rfl _ Sha.nul32 ?_; intro gr w1 hgr hres ht1; have hres : Blk w1 gr 41 (vbs (List.replicate 32 0)).toArray := hres)
  | (go_at_call 19; refine (tx ht1).mono ?_; rintro e w2 ⟨rfl, ht2⟩; have T2 := ht1.trans ht2)
  | (refine wp_cvb rfl 9 55 5 _ rfl Tryz.underlying9 Tryz.underlying55 Tryz.underlying5 rfl (by unfold maxLen; omega) ?_; intro g3 c3 w3 hr3 hn3 hc3 ht3; have T3 := T2.trans ht3)
  | (go_at_call 54; refine (Sha.rsum_any _ _ _ t _ _ hr3 (Nat.le_refl _) (by omega)).mono ?_; rintro e w4 ⟨rfl, ht4⟩; rw [← HX.out]; have hres4 := ((hres.turn0 ht2).turn0 ht3).turn0 ht4; have T4 := T3.trans ht4)
  | (refine wp_st (xs := X) rfl 41 _ _ rfl rfl rfl hres4 (by rw [List.size_toArray, vbs_len, hX1]; rfl) (Sha.sz32 hX1) hX2 ?_; intro w9 hb9 ht9))
 refine ret_two rfl rfl rfl rfl hb9 Tryz.underlying41 rfl (Sha.sz32 hX1) ⟨rfl, ?_⟩
 exact T4.new ht9 (fun q e => by injection e with e; omega)
theorem rprint_no {l : List UInt8} {p : PE} (h : cForm l = .error p) (w : World) : Calls Tryz.prog 27 #[.string (txt l)] w fun e w' => e = .returned (.tuple #[.agg (vbs (List.replicate 32 0)).toArray, .bool false]) ∧ Turn w w' none := by
 obtain ⟨p, er⟩ := p
 have tx := fun {w1 : World} (_ : Turn w w1 none) => rtext_no h w1
 obtain ⟨X, hX⟩ : ∃ X, X = vbs (List.replicate 32 (0 : UInt8)) := ⟨_, rfl⟩
 have hX1 : X.length = 32 := by rw [hX, vbs_len]; rfl
 have hX2 : ∀ u ∈ X, u.oneCell' = true := by rw [hX]; exact vbs_one _
 have bd : ∀ w, (zeroValue 41).run Tryz.prog w = .ok (.agg X.toArray) w := by rw [hX]; exact Sha.nul32
 rw [← hX]
 clear h hX
 go_enter Tryz.func27, Tryz.ntmps27
 go_wp2_with (first
  | (refine wp_al rfl 41 rfl _ bd ?_; intro gr w1 hgr hres ht1; have hres : Blk w1 gr 41 X.toArray := hres)
  | (go_at_call 19; refine (tx ht1).mono ?_; rintro e w2 ⟨rfl, hne, ht2⟩; have hres2 := hres.turn0 ht2)
  | (refine wp_st (xs := X) rfl 41 _ _ rfl rfl rfl hres2 (by rw [List.size_toArray]) (Sha.sz32 hX1) hX2 ?_; intro w9 hb9 ht9))
 refine ret_two rfl rfl rfl rfl hb9 Tryz.underlying41 rfl (Sha.sz32 hX1) ⟨rfl, ?_⟩
 exact (ht1.trans ht2).new ht9 (fun q e => by injection e with e; omega)
theorem hexAt : ∀ (Y : List UInt8) (k : Nat) (y : UInt8), Y[k / 2]? = some y → (Sha.sHex Y)[k]? = some (Sha.sDig (if k % 2 = 1 then y.toNat % 16 else y.toNat / 16))
 | [], k, y, h => by simp at h
 | b :: r, 0, y, h => by
  simp at h
  subst h
  rfl
 | b :: r, 1, y, h => by
  simp at h
  subst h
  rfl
 | b :: r, k + 2, y, h => by
  have h2 : r[k / 2]? = some y := by
   have e : (k + 2) / 2 = k / 2 + 1 := by omega
   rw [e] at h
   simpa using h
  have ih := hexAt r k y h2
  have e2 : (k + 2) % 2 = k % 2 := by omega
  rw [e2, ← ih]
  rfl
theorem txtAt (L : List UInt8) (k : Nat) (b : UInt8) (hb : L[k]? = some b) (h : k < (txt L).size) : ((txt L)[k]'h) = b := by
 have hk : k < L.length := by rw [txt_size] at h; exact h
 have e : ((txt L)[k]'h) = L[k]'hk := by
  show (txt L).data[k]'_ = _
  simp [txt]
 rw [e]
 rw [List.getElem?_eq_getElem hk] at hb
 injection hb
theorem shD_at (t : List UInt8) (k : Nat) (y : UInt8) (hk : k < 8) (hy : (Sha.sHash t)[k / 2]? = some y) (h : k < (txt (shD t)).size) : ((txt (shD t))[k]'h) = Sha.sDig (if k % 2 = 1 then y.toNat % 16 else y.toNat / 16) := by
 refine txtAt _ _ _ ?_ h
 unfold shD
 rw [List.getElem?_take, if_pos hk]
 exact hexAt _ _ _ hy
section
variable {w : World} {l k : List UInt8}
theorem short_no {p : PE} (h : cForm l = .error p) (w : World) (hC : CT w) (hl : l.length ≤ 140737488355328) : Calls Tryz.prog 28 #[.string (txt l)] w fun e w' => e = .returned (.string (txt [])) ∧ Turn w w' none := by
 have pr := print_no h w hC hl
 obtain ⟨X, hX⟩ : ∃ X, X = vbs (List.replicate 32 (0 : UInt8)) := ⟨_, rfl⟩
 have hX1 : X.length = 32 := by rw [hX, vbs_len]; rfl
 have hX2 : ∀ u ∈ X, u.oneCell' = true := by rw [hX]; exact vbs_one _
 rw [← hX] at pr
 clear h hX
 go_enter Tryz.func28, Tryz.ntmps28
 go_wp2_with (first
  | (go_at_call 26; refine pr.mono ?_; rintro e w1 ⟨rfl, ht1⟩)
  | (refine wp_var rfl rfl 41 _ _ rfl rfl rfl rfl Sha.nul32 (fun _ => rfl) (xs := X) (fun _ => rfl) (by rw [vbs_len, hX1]; rfl) (Sha.sz32 hX1) hX2 ?_; intro g2 w2 hg2 hb2 ht2))
 go_ret
 exact ⟨rfl, ht1.trans ht2⟩
theorem prints_no {p : PE} (h : cForm l = .error p) (hC : CT w) (hl : l.length ≤ 140737488355328) : Calls Tryz.prog 5 #[.string (txt l)] w fun e w' => e = .returned (.bool true) ∧ Turn w w' none := by
 have pr := print_no h w hC hl
 have rp := fun {w1 : World} => rprint_no h w1
 have sh := fun {w1 : World} (ht : Turn w w1 none) => short_no h w1 (hC.turn ht) hl
 have lv := fun {w1 : World} (ht : Turn w w1 none) => clives_any w1 (hC.turn ht)
 obtain ⟨X, hX⟩ : ∃ X, X = vbs (List.replicate 32 (0 : UInt8)) := ⟨_, rfl⟩
 have hX1 : X.length = 32 := by rw [hX, vbs_len]; rfl
 have hX2 : ∀ u ∈ X, u.oneCell' = true := by rw [hX]; exact vbs_one _
 have heq : ∀ W : World, (Op.equalIn 10000 41 (.agg X.toArray) (.agg X.toArray)).run Tryz.prog W = .ok true W := fun W => by rw [hX]; exact Sha.eq32 _ (by simp) W
 rw [← hX] at pr rp
 have z0 : (txt []).toList = [] := ByteArray.toList_mk []
 have z1 : (txt []).size = 0 := rfl
 clear h hX
 go_enter Tryz.func5, Tryz.ntmps5
 go_wp2_with (first
  | (go_at_call 26; refine pr.mono ?_; rintro e w1 ⟨rfl, ht1⟩)
  | (have q9 := hb2; refine wp_var rfl rfl 41 _ _ rfl rfl rfl rfl Sha.nul32 (fun _ => rfl) (xs := X) (fun _ => rfl) (by rw [vbs_len, hX1]; rfl) (Sha.sz32 hX1) hX2 ?_; intro g4 w4 hg4 hb4 ht4; have T4 := (T2.trans ht3).trans ht4)
  | (refine wp_var rfl rfl 41 _ _ rfl rfl rfl rfl Sha.nul32 (fun _ => rfl) (xs := X) (fun _ => rfl) (by rw [vbs_len, hX1]; rfl) (Sha.sz32 hX1) hX2 ?_; intro g2 w2 hg2 hb2 ht2; have T2 := ht1.trans ht2)
  | (go_at_call 27; refine rp.mono ?_; rintro e w3 ⟨rfl, ht3⟩)
  | (go_at_call 28; refine (sh T4).mono ?_; rintro e w5 ⟨rfl, ht5⟩; have T5 := T4.trans ht5; have hb25 := ((hb2.turn0 ht3).turn0 ht4).turn0 ht5; have hb45 := hb4.turn0 ht5)
  | (refine wp_ld rfl 41 _ rfl rfl hb25 (Sub.all X) Tryz.underlying41 rfl (Sha.sz32 hX1) ?_)
  | (refine wp_ld rfl 41 _ rfl rfl hb45 (Sub.all X) Tryz.underlying41 rfl (Sha.sz32 hX1) ?_))
 go_loopw [8] (fun v w' => v = .int .i64 0 ∧ w5 = w') (fun v _ => 0)
 case atStart => exact ⟨rfl, rfl⟩
 case round =>
  obtain ⟨rfl, rfl⟩ := hrel
  go_wp2_with (go_at_call 23; refine (lv T5).mono ?_; rintro e w6 ⟨rfl, ht6⟩)
  go_ret
  exact ⟨rfl, T5.trans ht6⟩
theorem prints_yes {t : List UInt8} (h : cForm l = .ok t) (hC : CT w) (hl : l.length ≤ 140737488355328) : Calls Tryz.prog 5 #[.string (txt l)] w fun e w' => e = .returned (.bool true) ∧ Turn w w' none := by
 have pr := print_ok h w hC hl
 have rp := fun {w1 : World} => rprint_ok h w1
 have sh := fun {w1 : World} (ht : Turn w w1 none) => short_ok h w1 (hC.turn ht) hl
 have lv := fun {w1 : World} (ht : Turn w w1 none) => clives_any w1 (hC.turn ht)
 obtain ⟨Y, hY⟩ : ∃ Y, Y = Sha.sHash t := ⟨_, rfl⟩
 have hYl : Y.length = 32 := by rw [hY, Sha.sHash_len]
 have hsd := shD_at t
 rw [← hY] at pr rp hsd
 obtain ⟨X, hX⟩ : ∃ X, X = vbs Y := ⟨_, rfl⟩
 have hX1 : X.length = 32 := by rw [hX, vbs_len, hYl]
 have hX2 : ∀ u ∈ X, u.oneCell' = true := by rw [hX]; exact vbs_one _
 have heq : ∀ W : World, (Op.equalIn 10000 41 (.agg X.toArray) (.agg X.toArray)).run Tryz.prog W = .ok true W := fun W => by rw [hX]; exact Sha.eq32 _ hYl W
 rw [← hX] at pr rp
 have HX := hid hX
 obtain ⟨s, hs⟩ : ∃ s, s = txt (shD t) := ⟨_, rfl⟩
 have hs8 : s.size = 8 := by rw [hs, txt_size, shD_len]
 rw [← hs] at hsd sh
 have HSD := hid hsd
 have HYL := hid hYl
 clear h hX hY hs hsd hYl
 go_enter Tryz.func5, Tryz.ntmps5
 go_wp2_with (first
  | (go_at_call 26; refine pr.mono ?_; rintro e w1 ⟨rfl, ht1⟩)
  | (have q9 := hb2; refine wp_var rfl rfl 41 _ _ rfl rfl rfl rfl Sha.nul32 (fun _ => rfl) (xs := X) (fun _ => rfl) (by rw [vbs_len, hX1]; rfl) (Sha.sz32 hX1) hX2 ?_; intro g4 w4 hg4 hb4 ht4; have T4 := (T2.trans ht3).trans ht4)
  | (refine wp_var rfl rfl 41 _ _ rfl rfl rfl rfl Sha.nul32 (fun _ => rfl) (xs := X) (fun _ => rfl) (by rw [vbs_len, hX1]; rfl) (Sha.sz32 hX1) hX2 ?_; intro g2 w2 hg2 hb2 ht2; have T2 := ht1.trans ht2)
  | (go_at_call 27; refine rp.mono ?_; rintro e w3 ⟨rfl, ht3⟩)
  | (go_at_call 28; refine (sh T4).mono ?_; rintro e w5 ⟨rfl, ht5⟩; have T5 := T4.trans ht5; have hb25 := ((hb2.turn0 ht3).turn0 ht4).turn0 ht5; have hb45 := hb4.turn0 ht5)
  | (refine wp_ld rfl 41 _ rfl rfl hb25 (Sub.all X) Tryz.underlying41 rfl (Sha.sz32 hX1) ?_)
  | (refine wp_ld rfl 41 _ rfl rfl hb45 (Sub.all X) Tryz.underlying41 rfl (Sha.sz32 hX1) ?_))
 go_loopw [8] (fun v w' => ∃ k : Nat, k ≤ 8 ∧ v = .int .i64 (k : Int) ∧ Turn w5 w' none) (fun v _ => (8 - intOf v).toNat)
 case atStart => exact ⟨0, by omega, rfl, Turn.refl w5 none⟩
 case round =>
  obtain ⟨k, hk, rfl, htk⟩ := hrel
  by_cases hk8 : k < 8
  ·have hYL := HYL.out
   obtain ⟨y, hy⟩ : ∃ y, Y[k / 2]? = some y := ⟨_, List.getElem?_eq_getElem (by omega)⟩
   have hcell : wr.cell? ⟨g2, k / 2, none⟩ = some (.int .u8 (y.toNat : Int)) := ((hb25.turn0 htk).cell (k / 2)).trans (by rw [List.getElem?_toArray, HX.out, vbs, List.getElem?_map, hy]; rfl)
   have hy256 := y.toNat_lt
   obtain ⟨n1, hn1⟩ : ∃ n1, n1 = y.toNat / 16 := ⟨_, rfl⟩
   obtain ⟨n2, hn2⟩ : ∃ n2, n2 = y.toNat % 16 := ⟨_, rfl⟩
   have e1 : (y.toNat : Int) / 16 = (n1 : Int) := by omega
   have e2 : (y.toNat : Int) % 16 = (n2 : Int) := by omega
   have l1 : n1 < 16 := by omega
   have l2 : n2 < 16 := by omega
   have l1' : (n1 : Int) < 16 := by omega
   have l2' : (n2 : Int) < 16 := by omega
   have d1 := Sha.dig_at n1 l1
   have d2 := Sha.dig_at n2 l2
   have lk : (k : Int) < 8 := by omega
   have lk2 : (k : Int) / 2 < 32 := by omega
   have ks : k < s.size := by omega
   have hsd := HSD.out k y hk8 hy
   clear hYL
   by_cases hk2 : k % 2 = 1
   ·have hss : ∀ h : k < s.size, (s[k]'h) = Sha.sDig n2 := fun h => by rw [hsd h, if_pos hk2, hn2]
    have hki : (k : Int) % 2 = 1 := by omega
    clear hsd hy hn1 hn2 hk2
    go_wp2_with fail
    go_quiet (fail)
    go_wp2_with fail
    refine ⟨⟨k + 1, by omega, rfl, htk.drewN _⟩, ?_⟩
    simp [intOf]; omega
   ·have hss : ∀ h : k < s.size, (s[k]'h) = Sha.sDig n1 := fun h => by rw [hsd h, if_neg hk2, hn1]
    have hki : ¬ (k : Int) % 2 = 1 := by omega
    clear hsd hy hn1 hn2 hk2
    go_wp2_with fail
    go_quiet (fail)
    go_wp2_with fail
    refine ⟨⟨k + 1, by omega, rfl, htk.drewN _⟩, ?_⟩
    simp [intOf]; omega
  ·have T6 := T5.trans htk
   go_wp2_with (go_at_call 23; refine (lv T6).mono ?_; rintro e w6 ⟨rfl, ht6⟩)
   go_ret
   exact ⟨rfl, T6.trans ht6⟩
end
theorem prints_walk (s : ByteArray) (w : World) (hC : CT w) (hs : s.size ≤ 140737488355328) : Calls Tryz.prog 5 #[.string s] w fun e w' => e = .returned (.bool true) ∧ Turn w w' none := by
 obtain ⟨l, rfl⟩ : ∃ l, s = txt l := ⟨s.data.toList, (txt_of s).symm⟩
 rw [txt_size] at hs
 cases h : cForm l with
 | ok t => exact prints_yes h hC hs
 | error p => exact prints_no h hC hs
end Go.Proofs.YtgigiecdpjchkaaGreatDoor
