/-
  Layer 3: the document's hash: the loop over the blocks.
-/
import Derived.Test.YtfmighjblppceaaDoorSj
import Derived.Test.YtfmighjblppceaaDoorSk
import Derived.Test.YtfmighjblppceaaDoorSl
import Derived.Test.YtfmighjblppceaaDoorSm
namespace Go.Proofs.YtfmighjblppceaaDoor
open Go.RowKit

theorem of_code {p : Program} {C C' : Code} {P : Exit → Act → World → Prop} {f : Act} {w : World} (h : C = C') (g : Code.wp p C' P f w) : Code.wp p C P f w := h ▸ g

set_option maxRecDepth 100000 in
set_option maxHeartbeats 60000000 in
theorem rblocks_loop {K : Act → World → Prop} {Q' : Exit → Act → World → Prop} {w3 W3 : World} {gs gk gm mm c7 J : Nat} {M : List UInt8} {e_0 e_1 e_2 e_6 e_8 e_9 e_10 e_11 e_12 e_13 e_14 e_15 e_16 e_17 e_18 e_19 e_20 e_21 e_22 e_23 e_24 e_25 e_26 e_27 e_28 e_29 e_30 e_31 e_32 e_33 e_34 e_35 e_36 e_37 e_38 e_39 e_40 e_41 e_42 e_43 e_44 e_45 e_46 e_47 e_48 e_49 e_50 e_51 e_52 e_53 e_54 e_55 e_56 e_57 e_58 e_59 e_60 e_61 e_62 e_63 e_64 e_65 e_66 e_67 e_68 e_69 e_70 e_71 e_72 e_73 e_74 e_75 e_76 e_77 e_78 e_79 e_80 e_81 e_82 e_83 e_84 e_85 e_86 e_87 e_88 e_89 e_90 e_91 e_92 e_93 e_94 e_95 e_96 e_97 e_98 e_99 e_100 e_101 e_102 e_103 e_104 e_105 e_106 e_107 e_108 e_109 e_110 e_111 e_112 e_113 e_114 e_115 e_116 e_117 e_118 e_119 e_120 e_121 e_122 e_123 e_124 e_125 e_126 e_127 e_128 e_129 e_130 e_131 e_132 e_133 e_134 e_135 e_136 e_137 e_138 e_139 e_140 e_141 e_142 e_143 e_144 e_145 e_146 e_147 e_148 e_149 e_150 e_151 e_152 e_153 e_154 e_155 e_156 e_157 e_158 e_159 e_160 e_161 e_162 e_163 e_164 e_165 e_166 e_167 e_168 e_169 e_170 e_171 e_172 e_173 e_174 e_175 e_176 e_177 e_178 e_179 e_180 e_181 e_182 e_183 e_184 e_185 e_186 e_187 e_188 e_189 e_190 e_191 e_192 e_193 e_194 e_195 e_196 e_197 e_198 e_199 e_200 e_201 e_202 e_203 e_204 e_205 e_206 e_207 e_208 e_209 e_210 e_211 e_212 e_213 e_214 e_215 e_216 e_217 e_218 e_219 e_220 e_221 e_222 e_223 e_224 e_225 e_226 e_227 e_228 e_229 e_230 e_231 e_232 e_233 e_234 e_235 e_236 e_237 e_238 e_239 e_240 e_241 e_242 e_243 e_244 e_245 e_246 e_247 e_248 e_249 e_250 e_251 e_252 e_253 e_254 e_255 e_256 e_257 e_258 e_259 e_260 e_261 e_262 e_263 e_264 e_265 e_266 e_267 e_268 e_269 e_270 e_271 e_272 e_273 e_274 e_275 e_276 e_277 e_278 e_279 e_280 e_281 e_282 e_283 e_284 e_285 e_286 e_287 e_288 e_289 e_290 e_291 e_292 e_293 e_294 e_295 e_296 e_297 e_298 e_299 e_300 e_301 e_302 e_303 e_304 e_305 e_306 e_307 e_308 e_309 e_310 e_311 e_312 e_313 e_314 : Value}
    (ho7 : Own W3 w3.heap.size 5 1 (some ⟨gm, 0, none⟩) mm c7 (vbs M)) (hgm2 : gm < W3.heap.size) (hs7 : Blk W3 gs 44 (cvs sStart.list).toArray) (hk7 : Blk W3 gk 44 (cvs sKeys).toArray)
    (hsm : gs < gm) (hsk : gs < gk) (hmb : mm ≤ 1048700) (hmc : mm ≤ c7 ∧ c7 ≤ 2 ^ 63 - 1) (HJ : Hid (M.length = mm ∧ mm = 64 * J))
    (hK : ∀ (W : World), Blk W gs 44 (cvs (sGo M J).list).toArray → Turn W3 W (some gs) → ∀ {v7 v8 v9 v10 v11 v12 v13 v14 v15 v16 v17 v18 v19 v52 v53 v54 v55 v56 v57 v58 v59 v60 v61 v62 v63 v64 v65 v66 v67 v68 v69 v70 v71 v72 v73 v74 v75 v76 v77 v78 v79 v80 v81 v82 v83 v84 v85 v86 v87 v88 v89 v90 v91 v92 v93 v94 v95 v96 v97 v98 v99 v100 v101 v102 v103 v104 v105 v106 v107 v108 v109 v110 v111 v112 v113 v114 v115 v116 v117 v118 v119 v120 v121 v122 v123 v124 v125 v126 v127 v128 v129 v130 v131 v132 v133 v134 v135 v136 v137 v138 v139 v140 v141 v142 v143 v144 v145 v146 v147 v148 v149 v150 v151 v152 v153 v154 v155 v156 v157 v158 v159 v160 v161 v162 v163 v164 v165 v166 v167 v168 v169 v170 v171 v172 v173 v174 v175 v176 v177 v178 v179 v180 v181 v182 v183 v184 v185 v186 v187 v188 v189 v190 v191 v192 v193 v194 v195 v196 v197 v198 v199 v200 v201 v202 v203 v204 v205 v206 v207 v208 v209 v210 v211 v212 v213 v214 v215 v216 v217 v218 v219 v220 v221 v222 v223 v224 v225 v226 v227 v228 v229 v230 v231 v232 v233 v234 v235 v236 v237 v238 v239 v240 v241 v242 v243 v244 v245 v246 v247 v248 v249 v250 v251 v252 v253 v254 v255 v256 v257 v258 v259 v260 v261 v262 v263 v264 v265 v266 v267 v268 v269 v270 v271 v272 v273 v274 v275 v276 v277 v278 v279 v280 v281 v282 v283 v284 v285 v286 v287 v288 v289 v290 v291 v292 v293 v294 : Value}, K ⟨List.toArray (e_0 :: e_1 :: e_2 :: .slice (some ⟨gs, 0, none⟩) 8 8 :: .slice (some ⟨gk, 0, none⟩) 64 64 :: .slice (some ⟨gm, 0, none⟩) mm c7 :: e_6 :: v7 :: v8 :: v9 :: v10 :: v11 :: v12 :: v13 :: v14 :: v15 :: v16 :: v17 :: v18 :: v19 :: e_20 :: e_21 :: e_22 :: e_23 :: e_24 :: e_25 :: e_26 :: e_27 :: e_28 :: e_29 :: e_30 :: e_31 :: e_32 :: e_33 :: e_34 :: e_35 :: e_36 :: e_37 :: e_38 :: e_39 :: e_40 :: e_41 :: e_42 :: e_43 :: e_44 :: e_45 :: e_46 :: e_47 :: e_48 :: e_49 :: e_50 :: e_51 :: v52 :: v53 :: v54 :: v55 :: v56 :: v57 :: v58 :: v59 :: v60 :: v61 :: v62 :: v63 :: v64 :: v65 :: v66 :: v67 :: v68 :: v69 :: v70 :: v71 :: v72 :: v73 :: v74 :: v75 :: v76 :: v77 :: v78 :: v79 :: v80 :: v81 :: v82 :: v83 :: v84 :: v85 :: v86 :: v87 :: v88 :: v89 :: v90 :: v91 :: v92 :: v93 :: v94 :: v95 :: v96 :: v97 :: v98 :: v99 :: v100 :: v101 :: v102 :: v103 :: v104 :: v105 :: v106 :: v107 :: v108 :: v109 :: v110 :: v111 :: v112 :: v113 :: v114 :: v115 :: v116 :: v117 :: v118 :: v119 :: v120 :: v121 :: v122 :: v123 :: v124 :: v125 :: v126 :: v127 :: v128 :: v129 :: v130 :: v131 :: v132 :: v133 :: v134 :: v135 :: v136 :: v137 :: v138 :: v139 :: v140 :: v141 :: v142 :: v143 :: v144 :: v145 :: v146 :: v147 :: v148 :: v149 :: v150 :: v151 :: v152 :: v153 :: v154 :: v155 :: v156 :: v157 :: v158 :: v159 :: v160 :: v161 :: v162 :: v163 :: v164 :: v165 :: v166 :: v167 :: v168 :: v169 :: v170 :: v171 :: v172 :: v173 :: v174 :: v175 :: v176 :: v177 :: v178 :: v179 :: v180 :: v181 :: v182 :: v183 :: v184 :: v185 :: v186 :: v187 :: v188 :: v189 :: v190 :: v191 :: v192 :: v193 :: v194 :: v195 :: v196 :: v197 :: v198 :: v199 :: v200 :: v201 :: v202 :: v203 :: v204 :: v205 :: v206 :: v207 :: v208 :: v209 :: v210 :: v211 :: v212 :: v213 :: v214 :: v215 :: v216 :: v217 :: v218 :: v219 :: v220 :: v221 :: v222 :: v223 :: v224 :: v225 :: v226 :: v227 :: v228 :: v229 :: v230 :: v231 :: v232 :: v233 :: v234 :: v235 :: v236 :: v237 :: v238 :: v239 :: v240 :: v241 :: v242 :: v243 :: v244 :: v245 :: v246 :: v247 :: v248 :: v249 :: v250 :: v251 :: v252 :: v253 :: v254 :: v255 :: v256 :: v257 :: v258 :: v259 :: v260 :: v261 :: v262 :: v263 :: v264 :: v265 :: v266 :: v267 :: v268 :: v269 :: v270 :: v271 :: v272 :: v273 :: v274 :: v275 :: v276 :: v277 :: v278 :: v279 :: v280 :: v281 :: v282 :: v283 :: v284 :: v285 :: v286 :: v287 :: v288 :: v289 :: v290 :: v291 :: v292 :: v293 :: v294 :: e_295 :: e_296 :: e_297 :: e_298 :: e_299 :: e_300 :: e_301 :: e_302 :: e_303 :: e_304 :: e_305 :: e_306 :: e_307 :: e_308 :: e_309 :: e_310 :: e_311 :: e_312 :: e_313 :: e_314 :: []), []⟩ W) :
    Code.wp Tryd.prog (sumL 2) (Exit.inBlock 4 (Exit.then K Q')) ⟨List.toArray (e_0 :: e_1 :: e_2 :: .slice (some ⟨gs, 0, none⟩) 8 8 :: .slice (some ⟨gk, 0, none⟩) 64 64 :: .slice (some ⟨gm, 0, none⟩) mm c7 :: e_6 :: .int .i64 0 :: e_8 :: e_9 :: e_10 :: e_11 :: e_12 :: e_13 :: e_14 :: e_15 :: e_16 :: e_17 :: e_18 :: e_19 :: e_20 :: e_21 :: e_22 :: e_23 :: e_24 :: e_25 :: e_26 :: e_27 :: e_28 :: e_29 :: e_30 :: e_31 :: e_32 :: e_33 :: e_34 :: e_35 :: e_36 :: e_37 :: e_38 :: e_39 :: e_40 :: e_41 :: e_42 :: e_43 :: e_44 :: e_45 :: e_46 :: e_47 :: e_48 :: e_49 :: e_50 :: e_51 :: e_52 :: e_53 :: e_54 :: e_55 :: e_56 :: e_57 :: e_58 :: e_59 :: e_60 :: e_61 :: e_62 :: e_63 :: e_64 :: e_65 :: e_66 :: e_67 :: e_68 :: e_69 :: e_70 :: e_71 :: e_72 :: e_73 :: e_74 :: e_75 :: e_76 :: e_77 :: e_78 :: e_79 :: e_80 :: e_81 :: e_82 :: e_83 :: e_84 :: e_85 :: e_86 :: e_87 :: e_88 :: e_89 :: e_90 :: e_91 :: e_92 :: e_93 :: e_94 :: e_95 :: e_96 :: e_97 :: e_98 :: e_99 :: e_100 :: e_101 :: e_102 :: e_103 :: e_104 :: e_105 :: e_106 :: e_107 :: e_108 :: e_109 :: e_110 :: e_111 :: e_112 :: e_113 :: e_114 :: e_115 :: e_116 :: e_117 :: e_118 :: e_119 :: e_120 :: e_121 :: e_122 :: e_123 :: e_124 :: e_125 :: e_126 :: e_127 :: e_128 :: e_129 :: e_130 :: e_131 :: e_132 :: e_133 :: e_134 :: e_135 :: e_136 :: e_137 :: e_138 :: e_139 :: e_140 :: e_141 :: e_142 :: e_143 :: e_144 :: e_145 :: e_146 :: e_147 :: e_148 :: e_149 :: e_150 :: e_151 :: e_152 :: e_153 :: e_154 :: e_155 :: e_156 :: e_157 :: e_158 :: e_159 :: e_160 :: e_161 :: e_162 :: e_163 :: e_164 :: e_165 :: e_166 :: e_167 :: e_168 :: e_169 :: e_170 :: e_171 :: e_172 :: e_173 :: e_174 :: e_175 :: e_176 :: e_177 :: e_178 :: e_179 :: e_180 :: e_181 :: e_182 :: e_183 :: e_184 :: e_185 :: e_186 :: e_187 :: e_188 :: e_189 :: e_190 :: e_191 :: e_192 :: e_193 :: e_194 :: e_195 :: e_196 :: e_197 :: e_198 :: e_199 :: e_200 :: e_201 :: e_202 :: e_203 :: e_204 :: e_205 :: e_206 :: e_207 :: e_208 :: e_209 :: e_210 :: e_211 :: e_212 :: e_213 :: e_214 :: e_215 :: e_216 :: e_217 :: e_218 :: e_219 :: e_220 :: e_221 :: e_222 :: e_223 :: e_224 :: e_225 :: e_226 :: e_227 :: e_228 :: e_229 :: e_230 :: e_231 :: e_232 :: e_233 :: e_234 :: e_235 :: e_236 :: e_237 :: e_238 :: e_239 :: e_240 :: e_241 :: e_242 :: e_243 :: e_244 :: e_245 :: e_246 :: e_247 :: e_248 :: e_249 :: e_250 :: e_251 :: e_252 :: e_253 :: e_254 :: e_255 :: e_256 :: e_257 :: e_258 :: e_259 :: e_260 :: e_261 :: e_262 :: e_263 :: e_264 :: e_265 :: e_266 :: e_267 :: e_268 :: e_269 :: e_270 :: e_271 :: e_272 :: e_273 :: e_274 :: e_275 :: e_276 :: e_277 :: e_278 :: e_279 :: e_280 :: e_281 :: e_282 :: e_283 :: e_284 :: e_285 :: e_286 :: e_287 :: e_288 :: e_289 :: e_290 :: e_291 :: e_292 :: e_293 :: e_294 :: e_295 :: e_296 :: e_297 :: e_298 :: e_299 :: e_300 :: e_301 :: e_302 :: e_303 :: e_304 :: e_305 :: e_306 :: e_307 :: e_308 :: e_309 :: e_310 :: e_311 :: e_312 :: e_313 :: e_314 :: []), []⟩ W3 := by
  conv => arg 2; whnf
  go_loopw [7] (fun v w' => ∃ j : Nat, j ≤ J ∧ v = .int .i64 (64 * (j : Int)) ∧ Blk w' gs 44 (cvs (sGo M j).list).toArray ∧ Turn W3 w' (some gs)) (fun v _ => (mm - intOf v).toNat)
  case atStart => exact ⟨0, by omega, rfl, hs7, Turn.refl W3 _⟩
  case round =>
    obtain ⟨j, hj, rfl, hs, ht⟩ := hrel
    obtain ⟨W4, rfl⟩ : ∃ x, x = wr := ⟨wr, rfl⟩
    have ho4 := ho7.turn ht (.inr (by simp [Go.Proofs.YtfmighjblppceaaDoor.blk]; omega))
    have hk4 := hk7.turn ht (by simp; omega)
    have hMm := HJ.out.1
    have hJ4 := HJ.out.2
    by_cases hjJ : j < J
    · obtain ⟨a, ha⟩ : ∃ a, a = 64 * j := ⟨_, rfl⟩
      have hai : 64 * (j : Int) = (a : Int) := by omega
      have ham : a + 64 ≤ mm := by omega
      have hac : a + 64 ≤ c7 := by omega
      rw [hai]
      have hl0 : (a : Int) < (mm : Int) := by omega
      have Ha := hid (And.intro ha hJ4)
      have HMm := hid hMm
      clear ha hai hJ4 hMm
      obtain ⟨bl, hbl⟩ : ∃ bl, bl = (M.drop a).take 64 := ⟨_, rfl⟩
      have Hbl := hid hbl
      clear hbl
      go_wp2_with fail
      clear hl0
      refine of_code (C' := sumM 0) (by kernel_rfl) (rfirst_loop ho4 HMm.out ham hac hmb hmc Hbl (Own.made W4 W4.heap.size _ 1 0 #[] (Nat.le_refl _) (by decide) rfl) ((Turn.refl W4 none).alloc _) ?_)
      intro W5 A8 c8 hw htw u9 u10 u59 u60 u61 u62 u63 u64 u65 u66 u67 u68 u69 u70 u71 u72 u73 u74 u75 u76 u77 u78 u79 u80 u81 u82 u83 u84 u85 u86 u87 u88 u89 u90 u91 u92 u93 u94 u95 u96 u97 u98
      go_wp2_with fail
      refine of_code (C' := sumM 1) (by kernel_rfl) (rspread_loop hw htw ?_)
      clear hw htw
      intro W6 A10 c10 hw6 htw6 u11 u12 u13 u14 u99 u100 u101 u102 u103 u104 u105 u106 u107 u108 u109 u110 u111 u112 u113 u114 u115 u116 u117 u118 u119 u120 u121 u122 u123 u124 u125 u126 u127 u128 u129 u130 u131 u132 u133 u134 u135 u136 u137 u138 u139 u140 u141 u142 u143 u144 u145 u146 u147 u148 u149 u150 u151 u152 u153 u154 u155 u156 u157 u158 u159 u160 u161
      have hs6 := hs.turn0 htw6
      have hk6 := hk4.turn0 htw6
      have hsz6 := htw6.size
      have hgs6 := hs6.lt
      obtain ⟨gw, rfl, hgw, hgw2⟩ := hw6.head (by omega)
      obtain ⟨s0, hs0⟩ : ∃ s0, s0 = sGo M j := ⟨_, rfl⟩
      rw [← hs0] at hs6
      have HS0 := hid hs0
      clear hs0
      go_wp2_with (at_builtin; refine wp_app (base := W6.heap.size) rfl _ _ _ rfl elW rfl rfl (Own.made W6 W6.heap.size _ 1 0 #[] (Nat.le_refl _) (by decide) rfl) (show Rd _ _ 1 _ 8 _ from (hs6.alloc _).rdAt (Sub.all (cvs s0.list))) (cvs_one _) (by unfold maxLen; first | omega | (simp; done) | (simp; omega)) (by first | omega | (simp; done) | (simp; omega)) (by first | omega | (simp; done) | (simp; omega)) ?_; intro A12 c12 w12 ho12 ht12 hb12)
      obtain ⟨gv0, rfl, hgv0, hgv02⟩ := ho12.head (by omega)
      have htw12 : Turn W6 w12 none := ((Turn.refl W6 none).alloc _).new ht12 (fun g' hg' => (by simp [Go.Proofs.YtfmighjblppceaaDoor.blk] at hg'; omega))
      have hs12 := hs6.turn0 htw12
      have hk12 := hk6.turn0 htw12
      have hw12 := hw6.turn0 htw12
      have hT12 := htw6.trans htw12
      have hsz12 := htw12.size
      rw [Nat.zero_add, List.nil_append] at ho12
      have hv12 := ho12.rd
      clear ho12 ht12 hb12 hw6 hs6 hk6 htw6 htw12
      obtain ⟨ws, hws0⟩ : ∃ ws, ws = sSpread bl := ⟨_, rfl⟩
      have hwsl : ws.length = 64 := by rw [hws0, sSpread_len]
      rw [← hws0] at hw12
      have HWS := hid hws0
      clear hws0
      refine of_code (C' := sumM 2) (by kernel_rfl) (rrounds_loop (gs := gs) (hid rfl) hwsl hw12 hk12 hv12 (by omega) (by omega) ?_)
      intro W7 gv cv hgsv hv htv u16 u17 u18 u165 u166 u167 u168 u169 u170 u171 u172 u173 u174 u175 u176 u177 u178 u179 u180 u181 u182 u183 u184 u185 u186 u187 u188 u189 u190 u191 u192 u193 u194 u195 u196 u197 u198 u199 u200 u201 u202 u203 u204 u205 u206 u207 u208 u209 u210 u211 u212 u213 u214 u215 u216 u217 u218 u219 u220 u221 u222 u223 u224 u225 u226 u227 u228 u229 u230 u231 u232 u233 u234 u235 u236 u237 u238 u239 u240 u241 u242 u243 u244 u245 u246 u247 u248 u249 u250 u251 u252 u253 u254 u255 u256 u257 u258 u259 u260 u261 u262 u263 u264 u265 u266 u267 u268 u269 u270 u271 u272 u273 u274 u275 u276 u277 u278
      have hs7' := hs12.turn0 htv
      obtain ⟨r, hr⟩ : ∃ r, r = sRun ws s0 64 := ⟨_, rfl⟩
      rw [← hr] at hv
      have HR := hid hr
      clear hr
      go_wp2_with fail
      refine of_code (C' := sumM 3) (by kernel_rfl) (rmix_loop hv hs7' hgsv ?_)
      intro W8 hsb htb u19 u279 u280 u281 u282 u283 u284 u285 u286 u287 u288 u289 u290 u291 u292 u293 u294
      go_wp2_with fail
      have ha := Ha.out.1
      have hgo : s0.add r = sGo M (j + 1) := by
        rw [sGo, sBlock, ← HS0.out, HR.out, HWS.out, Hbl.out, ha]
      rw [hgo] at hsb
      refine ⟨⟨j + 1, by omega, ?_, hsb, (ht.trans ((hT12.trans htv).any (some gs))).trans htb⟩, ?_⟩
      · have : (a : Int) + 64 = 64 * ((j + 1 : Nat) : Int) := by omega
        rw [← this]
      · have h1 := Ha.out.2
        simp [intOf]; omega
    · have hnl : ¬ (64 * (j : Int) < (mm : Int)) := by omega
      obtain rfl : j = J := by omega
      have HMm := hid hMm
      have HJ4 := hid hJ4
      clear hMm hJ4 HJ hj hjJ
      go_wp2_with fail
      exact hK _ hs ht

end Go.Proofs.YtfmighjblppceaaDoor
