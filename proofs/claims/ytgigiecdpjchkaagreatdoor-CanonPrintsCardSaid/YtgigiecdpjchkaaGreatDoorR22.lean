import Derived.Test.YtgigiecdpjchkaaGreatDoorR21
import Derived.Test.YtgigiecdpjchkaaGreatDoorR1
set_option linter.unusedSimpArgs false
set_option linter.unusedVariables false
set_option linter.unusedSectionVars false
set_option maxRecDepth 100000
set_option maxHeartbeats 6400000
namespace Go.Proofs.YtgigiecdpjchkaaGreatDoor.Sha
open Go.RowKit
theorem rfirst_loop {K : Act → World → Prop} {Q' : Exit → Act → World → Prop} {w3 W4 W0 : World} {gm mm c7 a c0 : Nat} {M bl : List UInt8} {A0 : Option Addr} {e_0 e_1 e_2 e_3 e_4 e_6 e_10 e_11 e_12 e_13 e_14 e_15 e_16 e_17 e_18 e_19 e_20 e_21 e_22 e_23 e_24 e_25 e_26 e_27 e_28 e_29 e_30 e_31 e_32 e_33 e_34 e_35 e_36 e_37 e_38 e_39 e_40 e_41 e_42 e_43 e_44 e_45 e_46 e_47 e_48 e_49 e_50 e_51 e_52 e_53 e_54 e_55 e_56 e_57 e_58 e_59 e_60 e_61 e_62 e_63 e_64 e_65 e_66 e_67 e_68 e_69 e_70 e_71 e_72 e_73 e_74 e_75 e_76 e_77 e_78 e_79 e_80 e_81 e_82 e_83 e_84 e_85 e_86 e_87 e_88 e_89 e_90 e_91 e_92 e_93 e_94 e_95 e_96 e_97 e_98 e_99 e_100 e_101 e_102 e_103 e_104 e_105 e_106 e_107 e_108 e_109 e_110 e_111 e_112 e_113 e_114 e_115 e_116 e_117 e_118 e_119 e_120 e_121 e_122 e_123 e_124 e_125 e_126 e_127 e_128 e_129 e_130 e_131 e_132 e_133 e_134 e_135 e_136 e_137 e_138 e_139 e_140 e_141 e_142 e_143 e_144 e_145 e_146 e_147 e_148 e_149 e_150 e_151 e_152 e_153 e_154 e_155 e_156 e_157 e_158 e_159 e_160 e_161 e_162 e_163 e_164 e_165 e_166 e_167 e_168 e_169 e_170 e_171 e_172 e_173 e_174 e_175 e_176 e_177 e_178 e_179 e_180 e_181 e_182 e_183 e_184 e_185 e_186 e_187 e_188 e_189 e_190 e_191 e_192 e_193 e_194 e_195 e_196 e_197 e_198 e_199 e_200 e_201 e_202 e_203 e_204 e_205 e_206 e_207 e_208 e_209 e_210 e_211 e_212 e_213 e_214 e_215 e_216 e_217 e_218 e_219 e_220 e_221 e_222 e_223 e_224 e_225 e_226 e_227 e_228 e_229 e_230 e_231 e_232 e_233 e_234 e_235 e_236 e_237 e_238 e_239 e_240 e_241 e_242 e_243 e_244 e_245 e_246 e_247 e_248 e_249 e_250 e_251 e_252 e_253 e_254 e_255 e_256 e_257 e_258 e_259 e_260 e_261 e_262 e_263 e_264 e_265 e_266 e_267 e_268 e_269 e_270 e_271 e_272 e_273 e_274 e_275 e_276 e_277 e_278 e_279 e_280 e_281 e_282 e_283 e_284 e_285 e_286 e_287 e_288 e_289 e_290 e_291 e_292 e_293 e_294 e_295 e_296 e_297 e_298 e_299 e_300 e_301 e_302 e_303 e_304 e_305 e_306 e_307 e_308 e_309 e_310 e_311 e_312 e_313 e_314 : Value}
  (ho4 : Own W4 w3.heap.size 5 1 (some ⟨gm, 0, none⟩) mm c7 (vbs M)) (hMm : M.length = mm) (ham : a + 64 ≤ mm) (hac : a + 64 ≤ c7) (hmb : mm ≤ 1048700) (hmc : mm ≤ c7 ∧ c7 ≤ 2 ^ 63 - 1) (Hbl : Hid (bl = (M.drop a).take 64))
  (hw0 : Own W0 W4.heap.size 135 1 A0 0 c0 []) (ht0 : Turn W4 W0 none)
  (hK : ∀ (W : World) (A : Option Addr) (c : Nat), Own W W4.heap.size 135 1 A 16 c (cvs (sFirst bl 16)) → Turn W4 W none → ∀ {v9 v10 v59 v60 v61 v62 v63 v64 v65 v66 v67 v68 v69 v70 v71 v72 v73 v74 v75 v76 v77 v78 v79 v80 v81 v82 v83 v84 v85 v86 v87 v88 v89 v90 v91 v92 v93 v94 v95 v96 v97 v98 : Value}, K ⟨List.toArray (e_0 :: e_1 :: e_2 :: e_3 :: e_4 :: .slice (some ⟨gm, 0, none⟩) mm c7 :: e_6 :: .int .i64 (a : Int) :: .slice A 16 c :: v9 :: v10 :: e_11 :: e_12 :: e_13 :: e_14 :: e_15 :: e_16 :: e_17 :: e_18 :: e_19 :: e_20 :: e_21 :: e_22 :: e_23 :: e_24 :: e_25 :: e_26 :: e_27 :: e_28 :: e_29 :: e_30 :: e_31 :: e_32 :: e_33 :: e_34 :: e_35 :: e_36 :: e_37 :: e_38 :: e_39 :: e_40 :: e_41 :: e_42 :: e_43 :: e_44 :: e_45 :: e_46 :: e_47 :: e_48 :: e_49 :: e_50 :: e_51 :: e_52 :: e_53 :: e_54 :: e_55 :: e_56 :: e_57 :: e_58 :: v59 :: v60 :: v61 :: v62 :: v63 :: v64 :: v65 :: v66 :: v67 :: v68 :: v69 :: v70 :: v71 :: v72 :: v73 :: v74 :: v75 :: v76 :: v77 :: v78 :: v79 :: v80 :: v81 :: v82 :: v83 :: v84 :: v85 :: v86 :: v87 :: v88 :: v89 :: v90 :: v91 :: v92 :: v93 :: v94 :: v95 :: v96 :: v97 :: v98 :: e_99 :: e_100 :: e_101 :: e_102 :: e_103 :: e_104 :: e_105 :: e_106 :: e_107 :: e_108 :: e_109 :: e_110 :: e_111 :: e_112 :: e_113 :: e_114 :: e_115 :: e_116 :: e_117 :: e_118 :: e_119 :: e_120 :: e_121 :: e_122 :: e_123 :: e_124 :: e_125 :: e_126 :: e_127 :: e_128 :: e_129 :: e_130 :: e_131 :: e_132 :: e_133 :: e_134 :: e_135 :: e_136 :: e_137 :: e_138 :: e_139 :: e_140 :: e_141 :: e_142 :: e_143 :: e_144 :: e_145 :: e_146 :: e_147 :: e_148 :: e_149 :: e_150 :: e_151 :: e_152 :: e_153 :: e_154 :: e_155 :: e_156 :: e_157 :: e_158 :: e_159 :: e_160 :: e_161 :: e_162 :: e_163 :: e_164 :: e_165 :: e_166 :: e_167 :: e_168 :: e_169 :: e_170 :: e_171 :: e_172 :: e_173 :: e_174 :: e_175 :: e_176 :: e_177 :: e_178 :: e_179 :: e_180 :: e_181 :: e_182 :: e_183 :: e_184 :: e_185 :: e_186 :: e_187 :: e_188 :: e_189 :: e_190 :: e_191 :: e_192 :: e_193 :: e_194 :: e_195 :: e_196 :: e_197 :: e_198 :: e_199 :: e_200 :: e_201 :: e_202 :: e_203 :: e_204 :: e_205 :: e_206 :: e_207 :: e_208 :: e_209 :: e_210 :: e_211 :: e_212 :: e_213 :: e_214 :: e_215 :: e_216 :: e_217 :: e_218 :: e_219 :: e_220 :: e_221 :: e_222 :: e_223 :: e_224 :: e_225 :: e_226 :: e_227 :: e_228 :: e_229 :: e_230 :: e_231 :: e_232 :: e_233 :: e_234 :: e_235 :: e_236 :: e_237 :: e_238 :: e_239 :: e_240 :: e_241 :: e_242 :: e_243 :: e_244 :: e_245 :: e_246 :: e_247 :: e_248 :: e_249 :: e_250 :: e_251 :: e_252 :: e_253 :: e_254 :: e_255 :: e_256 :: e_257 :: e_258 :: e_259 :: e_260 :: e_261 :: e_262 :: e_263 :: e_264 :: e_265 :: e_266 :: e_267 :: e_268 :: e_269 :: e_270 :: e_271 :: e_272 :: e_273 :: e_274 :: e_275 :: e_276 :: e_277 :: e_278 :: e_279 :: e_280 :: e_281 :: e_282 :: e_283 :: e_284 :: e_285 :: e_286 :: e_287 :: e_288 :: e_289 :: e_290 :: e_291 :: e_292 :: e_293 :: e_294 :: e_295 :: e_296 :: e_297 :: e_298 :: e_299 :: e_300 :: e_301 :: e_302 :: e_303 :: e_304 :: e_305 :: e_306 :: e_307 :: e_308 :: e_309 :: e_310 :: e_311 :: e_312 :: e_313 :: e_314 :: []), []⟩ W) :
  Code.wp Tryz.prog (sumM 0) (Exit.inBlock 6 (Exit.then K Q')) ⟨List.toArray (e_0 :: e_1 :: e_2 :: e_3 :: e_4 :: .slice (some ⟨gm, 0, none⟩) mm c7 :: e_6 :: .int .i64 (a : Int) :: .slice A0 0 c0 :: .int .i64 0 :: e_10 :: e_11 :: e_12 :: e_13 :: e_14 :: e_15 :: e_16 :: e_17 :: e_18 :: e_19 :: e_20 :: e_21 :: e_22 :: e_23 :: e_24 :: e_25 :: e_26 :: e_27 :: e_28 :: e_29 :: e_30 :: e_31 :: e_32 :: e_33 :: e_34 :: e_35 :: e_36 :: e_37 :: e_38 :: e_39 :: e_40 :: e_41 :: e_42 :: e_43 :: e_44 :: e_45 :: e_46 :: e_47 :: e_48 :: e_49 :: e_50 :: e_51 :: e_52 :: e_53 :: e_54 :: e_55 :: e_56 :: e_57 :: e_58 :: e_59 :: e_60 :: e_61 :: e_62 :: e_63 :: e_64 :: e_65 :: e_66 :: e_67 :: e_68 :: e_69 :: e_70 :: e_71 :: e_72 :: e_73 :: e_74 :: e_75 :: e_76 :: e_77 :: e_78 :: e_79 :: e_80 :: e_81 :: e_82 :: e_83 :: e_84 :: e_85 :: e_86 :: e_87 :: e_88 :: e_89 :: e_90 :: e_91 :: e_92 :: e_93 :: e_94 :: e_95 :: e_96 :: e_97 :: e_98 :: e_99 :: e_100 :: e_101 :: e_102 :: e_103 :: e_104 :: e_105 :: e_106 :: e_107 :: e_108 :: e_109 :: e_110 :: e_111 :: e_112 :: e_113 :: e_114 :: e_115 :: e_116 :: e_117 :: e_118 :: e_119 :: e_120 :: e_121 :: e_122 :: e_123 :: e_124 :: e_125 :: e_126 :: e_127 :: e_128 :: e_129 :: e_130 :: e_131 :: e_132 :: e_133 :: e_134 :: e_135 :: e_136 :: e_137 :: e_138 :: e_139 :: e_140 :: e_141 :: e_142 :: e_143 :: e_144 :: e_145 :: e_146 :: e_147 :: e_148 :: e_149 :: e_150 :: e_151 :: e_152 :: e_153 :: e_154 :: e_155 :: e_156 :: e_157 :: e_158 :: e_159 :: e_160 :: e_161 :: e_162 :: e_163 :: e_164 :: e_165 :: e_166 :: e_167 :: e_168 :: e_169 :: e_170 :: e_171 :: e_172 :: e_173 :: e_174 :: e_175 :: e_176 :: e_177 :: e_178 :: e_179 :: e_180 :: e_181 :: e_182 :: e_183 :: e_184 :: e_185 :: e_186 :: e_187 :: e_188 :: e_189 :: e_190 :: e_191 :: e_192 :: e_193 :: e_194 :: e_195 :: e_196 :: e_197 :: e_198 :: e_199 :: e_200 :: e_201 :: e_202 :: e_203 :: e_204 :: e_205 :: e_206 :: e_207 :: e_208 :: e_209 :: e_210 :: e_211 :: e_212 :: e_213 :: e_214 :: e_215 :: e_216 :: e_217 :: e_218 :: e_219 :: e_220 :: e_221 :: e_222 :: e_223 :: e_224 :: e_225 :: e_226 :: e_227 :: e_228 :: e_229 :: e_230 :: e_231 :: e_232 :: e_233 :: e_234 :: e_235 :: e_236 :: e_237 :: e_238 :: e_239 :: e_240 :: e_241 :: e_242 :: e_243 :: e_244 :: e_245 :: e_246 :: e_247 :: e_248 :: e_249 :: e_250 :: e_251 :: e_252 :: e_253 :: e_254 :: e_255 :: e_256 :: e_257 :: e_258 :: e_259 :: e_260 :: e_261 :: e_262 :: e_263 :: e_264 :: e_265 :: e_266 :: e_267 :: e_268 :: e_269 :: e_270 :: e_271 :: e_272 :: e_273 :: e_274 :: e_275 :: e_276 :: e_277 :: e_278 :: e_279 :: e_280 :: e_281 :: e_282 :: e_283 :: e_284 :: e_285 :: e_286 :: e_287 :: e_288 :: e_289 :: e_290 :: e_291 :: e_292 :: e_293 :: e_294 :: e_295 :: e_296 :: e_297 :: e_298 :: e_299 :: e_300 :: e_301 :: e_302 :: e_303 :: e_304 :: e_305 :: e_306 :: e_307 :: e_308 :: e_309 :: e_310 :: e_311 :: e_312 :: e_313 :: e_314 :: []), []⟩ W0 := by
 conv => arg 2; whnf
 go_loopw [8, 9] (fun v i w' => ∃ (ii : Nat) (A : Option Addr) (c : Nat), ii ≤ 16 ∧ i = .int .i64 (ii : Int) ∧ v = .slice A ii c ∧ Own w' W4.heap.size 135 1 A ii c (cvs (sFirst bl ii)) ∧ Turn W4 w' none) (fun _ i _ => (16 - intOf i).toNat)
 case atStart => exact ⟨0, A0, c0, by omega, rfl, rfl, hw0, ht0⟩
 case round =>
  obtain ⟨ii, A8, c8, hii, rfl, rfl, hw, htw⟩ := hrel
  obtain ⟨W5, rfl⟩ : ∃ x, x = wr := ⟨wr, rfl⟩
  have hm5 := ho4.turn0 htw
  by_cases hi16 : ii < 16
  ·--[L4
   have f1 : ¬ c7 = a + 4 * ii := by omega
   have f2 : a + 4 * ii + 4 ≤ c7 := by omega
   have f3 : (a : Int) + 4 * (ii : Int) + 4 ≤ (c7 : Int) := by omega
   have hMl : M.length = mm := hMm
   obtain ⟨x0, hx0⟩ : ∃ x, M[a + 4 * ii]? = some x := ⟨_, List.getElem?_eq_getElem (by omega)⟩
   obtain ⟨x1, hx1⟩ : ∃ x, M[a + 4 * ii + 1]? = some x := ⟨_, List.getElem?_eq_getElem (by omega)⟩
   obtain ⟨x2, hx2⟩ : ∃ x, M[a + 4 * ii + 2]? = some x := ⟨_, List.getElem?_eq_getElem (by omega)⟩
   obtain ⟨x3, hx3⟩ : ∃ x, M[a + 4 * ii + 3]? = some x := ⟨_, List.getElem?_eq_getElem (by omega)⟩
   have keyS : ∀ W : World, Own W w3.heap.size 5 1 (some ⟨gm, 0, none⟩) mm c7 (vbs M) → W.cell? ⟨gm, a + 4 * ii, none⟩ = some (.int .u8 (x0.toNat : Int)) ∧ W.cell? ⟨gm, a + 4 * ii + 1, none⟩ = some (.int .u8 (x1.toNat : Int)) ∧ W.cell? ⟨gm, a + 4 * ii + 2, none⟩ = some (.int .u8 (x2.toNat : Int)) ∧ W.cell? ⟨gm, a + 4 * ii + 3, none⟩ = some (.int .u8 (x3.toNat : Int)) := by
    intro W h
    refine ⟨?_, ?_, ?_, ?_⟩
    ·rw [h.cell (by omega), vbs, List.getElem?_map, hx0]; rfl
    ·rw [h.cell (by omega), vbs, List.getElem?_map, hx1]; rfl
    ·rw [h.cell (by omega), vbs, List.getElem?_map, hx2]; rfl
    ·rw [h.cell (by omega), vbs, List.getElem?_map, hx3]; rfl
   have hwd : sWord ((bl.drop (4 * ii)).take 4) = sWord [x0, x1, x2, x3] := by
    rw [Hbl.out]
    congr 1
    have e4 : (((M.drop a).take 64).drop (4 * ii)).take 4 = (M.drop (a + 4 * ii)).take 4 := by
     rw [List.drop_take, List.take_take, List.drop_drop]
     congr 1
     omega
    rw [e4]
    apply List.ext_getElem?
    intro d
    by_cases hd : d < 4
    ·rw [List.getElem?_take_of_lt hd, List.getElem?_drop]
     have : d = 0 ∨ d = 1 ∨ d = 2 ∨ d = 3 := by omega
     rcases this with rfl | rfl | rfl | rfl
     ·exact hx0
     ·exact hx1
     ·exact hx2
     ·exact hx3
    ·rw [List.getElem?_eq_none (by rw [List.length_take]; omega), List.getElem?_eq_none (by simp; omega)]
   have n0 := x0.toNat_lt
   have n1 := x1.toNat_lt
   have n2 := x2.toNat_lt
   have n3 := x3.toNat_lt
   have Hwd := hid hwd
   have hws := htw.size
   clear hx0 hx1 hx2 hx3 hwd hMl
   go_wp2_with fail
   rw [show a + 4 * ii + 4 - (a + 4 * ii) = 4 by omega]
   refine wp_region_noPanic ?_
   refine wp_region_held_drew (S := fun W => W.cell? ⟨gm, a + 4 * ii, none⟩ = some (.int .u8 (x0.toNat : Int)) ∧ W.cell? ⟨gm, a + 4 * ii + 1, none⟩ = some (.int .u8 (x1.toNat : Int)) ∧ W.cell? ⟨gm, a + 4 * ii + 2, none⟩ = some (.int .u8 (x2.toNat : Int)) ∧ W.cell? ⟨gm, a + 4 * ii + 3, none⟩ = some (.int .u8 (x3.toNat : Int))) (by kernel_rfl) (keyS _ hm5) (fun hHeld => ?_)
   (first | refine tkN 0 ?_ | refine tkY 0 _ ?_); (try simp only [Act.put, zs])
   (first | refine tkN 1 ?_ | refine tkY 1 _ ?_); (try simp only [Act.put, zs])
   (first | refine tkN 2 ?_ | refine tkY 2 _ ?_); (try simp only [Act.put, zs])
   (first | refine tkN 3 ?_ | refine tkY 3 _ ?_); (try simp only [Act.put, zs])
   (first | refine tkN 4 ?_ | refine tkY 4 _ ?_); (try simp only [Act.put, zs])
   (first | refine tkN 5 ?_ | refine tkY 5 _ ?_); (try simp only [Act.put, zs])
   (first | refine tkN 6 ?_ | refine tkY 6 _ ?_); (try simp only [Act.put, zs])
   (first | refine tkN 7 ?_ | refine tkY 7 _ ?_); (try simp only [Act.put, zs])
   (first | refine tkN 8 ?_ | refine tkY 8 _ ?_); (try simp only [Act.put, zs])
   (first | refine tkN 9 ?_ | refine tkY 9 _ ?_); (try simp only [Act.put, zs])
   (first | refine tkN 10 ?_ | refine tkY 10 _ ?_); (try simp only [Act.put, zs])
   (first | refine tkN 11 ?_ | refine tkY 11 _ ?_); (try simp only [Act.put, zs])
   (first | refine tkN 12 ?_ | refine tkY 12 _ ?_); (try simp only [Act.put, zs])
   (first | refine tkN 13 ?_ | refine tkY 13 _ ?_); (try simp only [Act.put, zs])
   (first | refine tkN 14 ?_ | refine tkY 14 _ ?_); (try simp only [Act.put, zs])
   (first | refine tkN 15 ?_ | refine tkY 15 _ ?_); (try simp only [Act.put, zs])
   (first | refine tkN 16 ?_ | refine tkY 16 _ ?_); (try simp only [Act.put, zs])
   (first | refine tkN 17 ?_ | refine tkY 17 _ ?_); (try simp only [Act.put, zs])
   (first | refine tkN 18 ?_ | refine tkY 18 _ ?_); (try simp only [Act.put, zs])
   (first | refine tkN 19 ?_ | refine tkY 19 _ ?_); (try simp only [Act.put, zs])
   (first | refine tkN 20 ?_ | refine tkY 20 _ ?_); (try simp only [Act.put, zs])
   (first | refine tkN 21 ?_ | refine tkY 21 _ ?_); (try simp only [Act.put, zs])
   (first | refine tkN 22 ?_ | refine tkY 22 _ ?_); (try simp only [Act.put, zs])
   refine wpAnyH_ready (rs := [23]) (by kernel_rfl) (by simp) ?_
   refine AllReadyH.cons rfl (fun K hK => ?_) AllReadyH.nil
   go_simp
   refine hK.out _ _ (keyS _ (hm5.alloc _)) (fun hHeld => ?_)
   clear hK K
   (try simp only [Act.put, zs])
   refine wpAnyH_ready (rs := [24]) (by kernel_rfl) (by simp) ?_
   refine AllReadyH.cons rfl (fun K hK => ?_) AllReadyH.nil
   refine st_app (base := W4.heap.size) rfl _ _ _ rfl elW rfl rfl (hw.alloc _).drew (Rd.lit W5 _ [_]).drew (by repeat (first | exact ones_nil | refine ones_cons rfl ?_)) (by unfold maxLen; first | omega | (simp; done) | (simp; omega)) (by omega) (Nat.le_trans hws (by show W5.heap.size ≤ (W5.heap.push _).size; rw [Array.size_push]; omega)) ?_
   intro A9 c9 w9 ho9 ht9 hb9
   have hm9 := (hm5.alloc _).drew.turn ht9 (.inr (fun e => by have := (hw.block gm e.symm).1; have := ho4.block gm rfl; omega))
   refine hK.out _ _ (keyS _ hm9) (fun hHeld => ?_)
   clear hK K
   (try simp only [Act.put, zs])
   (first | refine tkN 25 ?_ | refine tkY 25 _ ?_); (try simp only [Act.put, zs])
   refine wpAnyH_done (by kernel_rfl) ?_ _
   refine NoPanic.normal ?_
   clear hHeld
   have ho10 : Own w9 W4.heap.size 135 1 A9 (ii + 1) c9 (cvs (sFirst bl (ii + 1))) := by
    refine cast (congrArg (fun L => Own w9 W4.heap.size 135 1 A9 (ii + 1) c9 L) ?_) ho9
    rw [sFirst, cvs_append, Hwd.out]
    congr 1
    exact congrArg (fun z => [Value.int .u32 z]) (sWord4 x0 x1 x2 x3)
   have htw9 : Turn W4 w9 none := ((htw.alloc _).drew).new ht9 (fun g' hg' => (hw.block g' hg').1)
   clear ho9 hm9 hm5 keyS
   go_wp2_with fail
   refine ⟨⟨ii + 1, A9, c9, by omega, rfl, rfl, ho10, htw9⟩, ?_⟩
   simp [intOf]; omega
   --]L4
  ·obtain rfl : ii = 16 := by omega
   clear hii hm5
   go_wp2_with fail
   exact hK _ _ _ hw htw
open Go.RowKit
theorem rspread_loop {K : Act → World → Prop} {Q' : Exit → Act → World → Prop} {W4 W0 : World} {c0 : Nat} {bl : List UInt8} {A0 : Option Addr} {e_0 e_1 e_2 e_3 e_4 e_5 e_6 e_7 e_9 e_10 e_12 e_13 e_14 e_15 e_16 e_17 e_18 e_19 e_20 e_21 e_22 e_23 e_24 e_25 e_26 e_27 e_28 e_29 e_30 e_31 e_32 e_33 e_34 e_35 e_36 e_37 e_38 e_39 e_40 e_41 e_42 e_43 e_44 e_45 e_46 e_47 e_48 e_49 e_50 e_51 e_52 e_53 e_54 e_55 e_56 e_57 e_58 e_59 e_60 e_61 e_62 e_63 e_64 e_65 e_66 e_67 e_68 e_69 e_70 e_71 e_72 e_73 e_74 e_75 e_76 e_77 e_78 e_79 e_80 e_81 e_82 e_83 e_84 e_85 e_86 e_87 e_88 e_89 e_90 e_91 e_92 e_93 e_94 e_95 e_96 e_97 e_98 e_99 e_100 e_101 e_102 e_103 e_104 e_105 e_106 e_107 e_108 e_109 e_110 e_111 e_112 e_113 e_114 e_115 e_116 e_117 e_118 e_119 e_120 e_121 e_122 e_123 e_124 e_125 e_126 e_127 e_128 e_129 e_130 e_131 e_132 e_133 e_134 e_135 e_136 e_137 e_138 e_139 e_140 e_141 e_142 e_143 e_144 e_145 e_146 e_147 e_148 e_149 e_150 e_151 e_152 e_153 e_154 e_155 e_156 e_157 e_158 e_159 e_160 e_161 e_162 e_163 e_164 e_165 e_166 e_167 e_168 e_169 e_170 e_171 e_172 e_173 e_174 e_175 e_176 e_177 e_178 e_179 e_180 e_181 e_182 e_183 e_184 e_185 e_186 e_187 e_188 e_189 e_190 e_191 e_192 e_193 e_194 e_195 e_196 e_197 e_198 e_199 e_200 e_201 e_202 e_203 e_204 e_205 e_206 e_207 e_208 e_209 e_210 e_211 e_212 e_213 e_214 e_215 e_216 e_217 e_218 e_219 e_220 e_221 e_222 e_223 e_224 e_225 e_226 e_227 e_228 e_229 e_230 e_231 e_232 e_233 e_234 e_235 e_236 e_237 e_238 e_239 e_240 e_241 e_242 e_243 e_244 e_245 e_246 e_247 e_248 e_249 e_250 e_251 e_252 e_253 e_254 e_255 e_256 e_257 e_258 e_259 e_260 e_261 e_262 e_263 e_264 e_265 e_266 e_267 e_268 e_269 e_270 e_271 e_272 e_273 e_274 e_275 e_276 e_277 e_278 e_279 e_280 e_281 e_282 e_283 e_284 e_285 e_286 e_287 e_288 e_289 e_290 e_291 e_292 e_293 e_294 e_295 e_296 e_297 e_298 e_299 e_300 e_301 e_302 e_303 e_304 e_305 e_306 e_307 e_308 e_309 e_310 e_311 e_312 e_313 e_314 : Value}
  (hw0 : Own W0 W4.heap.size 135 1 A0 16 c0 (cvs (sFirst bl 16))) (ht0 : Turn W4 W0 none)
  (hK : ∀ (W : World) (A : Option Addr) (c : Nat), Own W W4.heap.size 135 1 A 64 c (cvs (sSpread bl)) → Turn W4 W none → ∀ {v11 v12 v13 v14 v99 v100 v101 v102 v103 v104 v105 v106 v107 v108 v109 v110 v111 v112 v113 v114 v115 v116 v117 v118 v119 v120 v121 v122 v123 v124 v125 v126 v127 v128 v129 v130 v131 v132 v133 v134 v135 v136 v137 v138 v139 v140 v141 v142 v143 v144 v145 v146 v147 v148 v149 v150 v151 v152 v153 v154 v155 v156 v157 v158 v159 v160 v161 : Value}, K ⟨List.toArray (e_0 :: e_1 :: e_2 :: e_3 :: e_4 :: e_5 :: e_6 :: e_7 :: .slice A 64 c :: e_9 :: e_10 :: v11 :: v12 :: v13 :: v14 :: e_15 :: e_16 :: e_17 :: e_18 :: e_19 :: e_20 :: e_21 :: e_22 :: e_23 :: e_24 :: e_25 :: e_26 :: e_27 :: e_28 :: e_29 :: e_30 :: e_31 :: e_32 :: e_33 :: e_34 :: e_35 :: e_36 :: e_37 :: e_38 :: e_39 :: e_40 :: e_41 :: e_42 :: e_43 :: e_44 :: e_45 :: e_46 :: e_47 :: e_48 :: e_49 :: e_50 :: e_51 :: e_52 :: e_53 :: e_54 :: e_55 :: e_56 :: e_57 :: e_58 :: e_59 :: e_60 :: e_61 :: e_62 :: e_63 :: e_64 :: e_65 :: e_66 :: e_67 :: e_68 :: e_69 :: e_70 :: e_71 :: e_72 :: e_73 :: e_74 :: e_75 :: e_76 :: e_77 :: e_78 :: e_79 :: e_80 :: e_81 :: e_82 :: e_83 :: e_84 :: e_85 :: e_86 :: e_87 :: e_88 :: e_89 :: e_90 :: e_91 :: e_92 :: e_93 :: e_94 :: e_95 :: e_96 :: e_97 :: e_98 :: v99 :: v100 :: v101 :: v102 :: v103 :: v104 :: v105 :: v106 :: v107 :: v108 :: v109 :: v110 :: v111 :: v112 :: v113 :: v114 :: v115 :: v116 :: v117 :: v118 :: v119 :: v120 :: v121 :: v122 :: v123 :: v124 :: v125 :: v126 :: v127 :: v128 :: v129 :: v130 :: v131 :: v132 :: v133 :: v134 :: v135 :: v136 :: v137 :: v138 :: v139 :: v140 :: v141 :: v142 :: v143 :: v144 :: v145 :: v146 :: v147 :: v148 :: v149 :: v150 :: v151 :: v152 :: v153 :: v154 :: v155 :: v156 :: v157 :: v158 :: v159 :: v160 :: v161 :: e_162 :: e_163 :: e_164 :: e_165 :: e_166 :: e_167 :: e_168 :: e_169 :: e_170 :: e_171 :: e_172 :: e_173 :: e_174 :: e_175 :: e_176 :: e_177 :: e_178 :: e_179 :: e_180 :: e_181 :: e_182 :: e_183 :: e_184 :: e_185 :: e_186 :: e_187 :: e_188 :: e_189 :: e_190 :: e_191 :: e_192 :: e_193 :: e_194 :: e_195 :: e_196 :: e_197 :: e_198 :: e_199 :: e_200 :: e_201 :: e_202 :: e_203 :: e_204 :: e_205 :: e_206 :: e_207 :: e_208 :: e_209 :: e_210 :: e_211 :: e_212 :: e_213 :: e_214 :: e_215 :: e_216 :: e_217 :: e_218 :: e_219 :: e_220 :: e_221 :: e_222 :: e_223 :: e_224 :: e_225 :: e_226 :: e_227 :: e_228 :: e_229 :: e_230 :: e_231 :: e_232 :: e_233 :: e_234 :: e_235 :: e_236 :: e_237 :: e_238 :: e_239 :: e_240 :: e_241 :: e_242 :: e_243 :: e_244 :: e_245 :: e_246 :: e_247 :: e_248 :: e_249 :: e_250 :: e_251 :: e_252 :: e_253 :: e_254 :: e_255 :: e_256 :: e_257 :: e_258 :: e_259 :: e_260 :: e_261 :: e_262 :: e_263 :: e_264 :: e_265 :: e_266 :: e_267 :: e_268 :: e_269 :: e_270 :: e_271 :: e_272 :: e_273 :: e_274 :: e_275 :: e_276 :: e_277 :: e_278 :: e_279 :: e_280 :: e_281 :: e_282 :: e_283 :: e_284 :: e_285 :: e_286 :: e_287 :: e_288 :: e_289 :: e_290 :: e_291 :: e_292 :: e_293 :: e_294 :: e_295 :: e_296 :: e_297 :: e_298 :: e_299 :: e_300 :: e_301 :: e_302 :: e_303 :: e_304 :: e_305 :: e_306 :: e_307 :: e_308 :: e_309 :: e_310 :: e_311 :: e_312 :: e_313 :: e_314 :: []), []⟩ W) :
  Code.wp Tryz.prog (sumM 1) (Exit.inBlock 8 (Exit.then K Q')) ⟨List.toArray (e_0 :: e_1 :: e_2 :: e_3 :: e_4 :: e_5 :: e_6 :: e_7 :: .slice A0 16 c0 :: e_9 :: e_10 :: .int .i64 16 :: e_12 :: e_13 :: e_14 :: e_15 :: e_16 :: e_17 :: e_18 :: e_19 :: e_20 :: e_21 :: e_22 :: e_23 :: e_24 :: e_25 :: e_26 :: e_27 :: e_28 :: e_29 :: e_30 :: e_31 :: e_32 :: e_33 :: e_34 :: e_35 :: e_36 :: e_37 :: e_38 :: e_39 :: e_40 :: e_41 :: e_42 :: e_43 :: e_44 :: e_45 :: e_46 :: e_47 :: e_48 :: e_49 :: e_50 :: e_51 :: e_52 :: e_53 :: e_54 :: e_55 :: e_56 :: e_57 :: e_58 :: e_59 :: e_60 :: e_61 :: e_62 :: e_63 :: e_64 :: e_65 :: e_66 :: e_67 :: e_68 :: e_69 :: e_70 :: e_71 :: e_72 :: e_73 :: e_74 :: e_75 :: e_76 :: e_77 :: e_78 :: e_79 :: e_80 :: e_81 :: e_82 :: e_83 :: e_84 :: e_85 :: e_86 :: e_87 :: e_88 :: e_89 :: e_90 :: e_91 :: e_92 :: e_93 :: e_94 :: e_95 :: e_96 :: e_97 :: e_98 :: e_99 :: e_100 :: e_101 :: e_102 :: e_103 :: e_104 :: e_105 :: e_106 :: e_107 :: e_108 :: e_109 :: e_110 :: e_111 :: e_112 :: e_113 :: e_114 :: e_115 :: e_116 :: e_117 :: e_118 :: e_119 :: e_120 :: e_121 :: e_122 :: e_123 :: e_124 :: e_125 :: e_126 :: e_127 :: e_128 :: e_129 :: e_130 :: e_131 :: e_132 :: e_133 :: e_134 :: e_135 :: e_136 :: e_137 :: e_138 :: e_139 :: e_140 :: e_141 :: e_142 :: e_143 :: e_144 :: e_145 :: e_146 :: e_147 :: e_148 :: e_149 :: e_150 :: e_151 :: e_152 :: e_153 :: e_154 :: e_155 :: e_156 :: e_157 :: e_158 :: e_159 :: e_160 :: e_161 :: e_162 :: e_163 :: e_164 :: e_165 :: e_166 :: e_167 :: e_168 :: e_169 :: e_170 :: e_171 :: e_172 :: e_173 :: e_174 :: e_175 :: e_176 :: e_177 :: e_178 :: e_179 :: e_180 :: e_181 :: e_182 :: e_183 :: e_184 :: e_185 :: e_186 :: e_187 :: e_188 :: e_189 :: e_190 :: e_191 :: e_192 :: e_193 :: e_194 :: e_195 :: e_196 :: e_197 :: e_198 :: e_199 :: e_200 :: e_201 :: e_202 :: e_203 :: e_204 :: e_205 :: e_206 :: e_207 :: e_208 :: e_209 :: e_210 :: e_211 :: e_212 :: e_213 :: e_214 :: e_215 :: e_216 :: e_217 :: e_218 :: e_219 :: e_220 :: e_221 :: e_222 :: e_223 :: e_224 :: e_225 :: e_226 :: e_227 :: e_228 :: e_229 :: e_230 :: e_231 :: e_232 :: e_233 :: e_234 :: e_235 :: e_236 :: e_237 :: e_238 :: e_239 :: e_240 :: e_241 :: e_242 :: e_243 :: e_244 :: e_245 :: e_246 :: e_247 :: e_248 :: e_249 :: e_250 :: e_251 :: e_252 :: e_253 :: e_254 :: e_255 :: e_256 :: e_257 :: e_258 :: e_259 :: e_260 :: e_261 :: e_262 :: e_263 :: e_264 :: e_265 :: e_266 :: e_267 :: e_268 :: e_269 :: e_270 :: e_271 :: e_272 :: e_273 :: e_274 :: e_275 :: e_276 :: e_277 :: e_278 :: e_279 :: e_280 :: e_281 :: e_282 :: e_283 :: e_284 :: e_285 :: e_286 :: e_287 :: e_288 :: e_289 :: e_290 :: e_291 :: e_292 :: e_293 :: e_294 :: e_295 :: e_296 :: e_297 :: e_298 :: e_299 :: e_300 :: e_301 :: e_302 :: e_303 :: e_304 :: e_305 :: e_306 :: e_307 :: e_308 :: e_309 :: e_310 :: e_311 :: e_312 :: e_313 :: e_314 :: []), []⟩ W0 := by
 conv => arg 2; whnf
 go_loopw [8, 11] (fun v u w' => ∃ (i nn : Nat) (A : Option Addr) (c : Nat), i = 16 + nn ∧ nn ≤ 48 ∧ v = .slice A i c ∧ u = .int .i64 (i : Int) ∧ Own w' W4.heap.size 135 1 A i c (cvs (sMore (sFirst bl 16) nn)) ∧ Turn W4 w' none) (fun _ u _ => (64 - intOf u).toNat)
 case atStart => exact ⟨16, 0, A0, c0, by omega, by omega, rfl, rfl, hw0, ht0⟩
 case round =>
  obtain ⟨i, nn, A10, c10, hi, hnn, rfl, rfl, hw6, htw6⟩ := hrel
  obtain ⟨W6, rfl⟩ : ∃ x, x = wr := ⟨wr, rfl⟩
  skip
  by_cases hn48 : nn < 48
  ·--[L5
   obtain ⟨k16, hk16⟩ : ∃ k, k = i - 16 := ⟨_, rfl⟩
   obtain ⟨k15, hk15⟩ : ∃ k, k = i - 15 := ⟨_, rfl⟩
   obtain ⟨k7, hk7⟩ : ∃ k, k = i - 7 := ⟨_, rfl⟩
   obtain ⟨k2, hk2⟩ : ∃ k, k = i - 2 := ⟨_, rfl⟩
   have w16 : IntKind.i64.wrap ((i : Int) - 16) = (k16 : Int) := by rw [IntKind.wrap_i64]; omega
   have l16 : (k16 : Int) < (i : Int) := by omega
   have m16 : k16 < i := by omega
   have w15 : IntKind.i64.wrap ((i : Int) - 15) = (k15 : Int) := by rw [IntKind.wrap_i64]; omega
   have l15 : (k15 : Int) < (i : Int) := by omega
   have m15 : k15 < i := by omega
   have w7 : IntKind.i64.wrap ((i : Int) - 7) = (k7 : Int) := by rw [IntKind.wrap_i64]; omega
   have l7 : (k7 : Int) < (i : Int) := by omega
   have m7 : k7 < i := by omega
   have w2 : IntKind.i64.wrap ((i : Int) - 2) = (k2 : Int) := by rw [IntKind.wrap_i64]; omega
   have l2 : (k2 : Int) < (i : Int) := by omega
   have m2 : k2 < i := by omega
   obtain ⟨gw, rfl, hgw, hgw2⟩ := hw6.head (by omega)
   obtain ⟨x16, e16⟩ : ∃ x, x = (sMore (sFirst bl 16) nn).getD k16 0#32 := ⟨_, rfl⟩
   obtain ⟨x15, e15⟩ : ∃ x, x = (sMore (sFirst bl 16) nn).getD k15 0#32 := ⟨_, rfl⟩
   obtain ⟨x7, e7⟩ : ∃ x, x = (sMore (sFirst bl 16) nn).getD k7 0#32 := ⟨_, rfl⟩
   obtain ⟨x2, e2⟩ : ∃ x, x = (sMore (sFirst bl 16) nn).getD k2 0#32 := ⟨_, rfl⟩
   have keyQ : ∀ W : World, Own W W4.heap.size 135 1 (some ⟨gw, 0, none⟩) i c10 (cvs (sMore (sFirst bl 16) nn)) → W.cell? ⟨gw, k16, none⟩ = some (.int .u32 (cV x16)) ∧ W.cell? ⟨gw, k15, none⟩ = some (.int .u32 (cV x15)) ∧ W.cell? ⟨gw, k7, none⟩ = some (.int .u32 (cV x7)) ∧ W.cell? ⟨gw, k2, none⟩ = some (.int .u32 (cV x2)) := by
    intro W h
    refine ⟨?_, ?_, ?_, ?_⟩
    ·rw [h.cell (by omega), e16]; exact cvs_at (sMore_at bl nn k16 (by omega))
    ·rw [h.cell (by omega), e15]; exact cvs_at (sMore_at bl nn k15 (by omega))
    ·rw [h.cell (by omega), e7]; exact cvs_at (sMore_at bl nn k7 (by omega))
    ·rw [h.cell (by omega), e2]; exact cvs_at (sMore_at bl nn k2 (by omega))
   have d16 := cV_bd x16
   have d15 := cV_bd x15
   have d7 := cV_bd x7
   have d2 := cV_bd x2
   have bA := cV_bd (sRot x15 7)
   have bB := cV_bd (sRot x15 18)
   have bC := cV_bd (sRot x2 17)
   have bD := cV_bd (sRot x2 19)
   have hs0 : bits .xor .u32 (bits .xor .u32 (cV (sRot x15 7)) (cV (sRot x15 18))) (cV x15 / (8 : Int)) = cV (sShi x15 7 18 3) := by rw [cV_xor, cS3, cV_xor]; rfl
   have hs1 : bits .xor .u32 (bits .xor .u32 (cV (sRot x2 17)) (cV (sRot x2 19))) (cV x2 / (1024 : Int)) = cV (sShi x2 17 19 10) := by rw [cV_xor, cS10, cV_xor]; rfl
   have bs0 := cV_bd (sShi x15 7 18 3)
   have bs1 := cV_bd (sShi x2 17 19 10)
   have hnx : sNext (sMore (sFirst bl 16) nn) (16 + nn) = ((x16 + sShi x15 7 18 3) + x7) + sShi x2 17 19 10 := by
    rw [← hi]
    unfold sNext
    rw [← hk16, ← hk15, ← hk7, ← hk2, ← e16, ← e15, ← e7, ← e2]
   have HH := hid (And.intro hi (And.intro hnx (And.intro hs0 hs1)))
   have i64' : (i : Int) < 64 := by omega
   clear hi hk16 hk15 hk7 hk2 e16 e15 e7 e2 hnx hs0 hs1
   obtain ⟨q16, q15, q7, q2⟩ := keyQ _ hw6
   go_wp2_with fail
   go_quiet (first
    | (go_at_call_of 93 (Value.int .u64 7); exact quiet_eq (rturn_of _ x15 rfl _ 7 rfl (by decide) (by decide) _))
    | (go_at_call_of 93 (Value.int .u64 18); exact quiet_eq (rturn_of _ x15 rfl _ 18 rfl (by decide) (by decide) _)))
   rw [HH.out.2.2.1]
   have hw7 := hw6.drewN nq
   have htw7 := htw6.drewN nq
   clear q16 q15 q7 q2 hw6 htw6
   generalize W6.drewN nq = W7 at *
   obtain ⟨q16, q15, q7, q2⟩ := keyQ _ hw7
   go_wp2_with fail
   go_quiet (first
    | (go_at_call_of 93 (Value.int .u64 17); exact quiet_eq (rturn_of _ x2 rfl _ 17 rfl (by decide) (by decide) _))
    | (go_at_call_of 93 (Value.int .u64 19); exact quiet_eq (rturn_of _ x2 rfl _ 19 rfl (by decide) (by decide) _)))
   rw [HH.out.2.2.2]
   have hw8 := hw7.drewN nq
   have htw8 := htw7.drewN nq
   clear q16 q15 q7 q2 hw7 htw7
   generalize W7.drewN nq = W8 at *
   obtain ⟨q16, q15, q7, q2⟩ := keyQ _ hw8
   go_wp2_with fail
   go_quiet (fail)
   have hw9 := hw8.drewN nq
   have htw9 := htw8.drewN nq
   clear q16 q15 q7 q2 hw8 htw8
   generalize W8.drewN nq = W9 at *
   have hsz9 := htw9.size
   go_wp2_with (at_builtin; refine wp_app (base := W4.heap.size) rfl _ _ _ rfl elW rfl rfl (hw9.alloc _) (Rd.lit _ _ _) (by repeat (first | exact ones_nil | refine ones_cons rfl ?_)) (by unfold maxLen; first | omega | (simp; done) | (simp; omega)) (by first | omega | (simp; done) | (simp; omega)) (by first | omega | (simp; done) | (simp; omega)) ?_; intro A11 c11 w11 ho11 ht11 hb11)
   have ho12 : Own w11 W4.heap.size 135 1 A11 (i + 1) c11 (cvs (sMore (sFirst bl 16) (nn + 1))) := by
    refine cast (congrArg (fun L => Own w11 W4.heap.size 135 1 A11 (i + 1) c11 L) ?_) ho11
    rw [sMore, sFirst_len, cvs_append, HH.out.2.1]
    congr 1
    refine congrArg (fun z => [Value.int .u32 z]) ?_
    simp only [← cV_add]
    omega
   have htw12 : Turn W4 w11 none := (htw9.alloc _).new ht11 (fun g' hg' => (hw9.block g' hg').1)
   have hi := HH.out.1
   refine ⟨⟨i + 1, nn + 1, A11, c11, by omega, by omega, rfl, rfl, ho12, htw12⟩, ?_⟩
   simp [intOf]; omega
   --]L5
  ·obtain rfl : nn = 48 := by omega
   obtain rfl : i = 64 := by omega
   rw [show sMore (sFirst bl 16) 48 = sSpread bl from rfl] at hw6
   clear hi hnn
   go_wp2_with fail
   exact hK _ _ _ hw6 htw6
open Go.RowKit
theorem rrounds_loop {K : Act → World → Prop} {Q' : Exit → Act → World → Prop} {W4 w12 : World} {gs gk gw gv0 i c10 c12 : Nat} {ws : List (BitVec 32)} {s0 : W8} {e_0 e_1 e_2 e_3 e_5 e_6 e_7 e_9 e_10 e_11 e_12 e_13 e_14 e_17 e_18 e_19 e_20 e_21 e_22 e_23 e_24 e_25 e_26 e_27 e_28 e_29 e_30 e_31 e_32 e_33 e_34 e_35 e_36 e_37 e_38 e_39 e_40 e_41 e_42 e_43 e_44 e_45 e_46 e_47 e_48 e_49 e_50 e_51 e_52 e_53 e_54 e_55 e_56 e_57 e_58 e_59 e_60 e_61 e_62 e_63 e_64 e_65 e_66 e_67 e_68 e_69 e_70 e_71 e_72 e_73 e_74 e_75 e_76 e_77 e_78 e_79 e_80 e_81 e_82 e_83 e_84 e_85 e_86 e_87 e_88 e_89 e_90 e_91 e_92 e_93 e_94 e_95 e_96 e_97 e_98 e_99 e_100 e_101 e_102 e_103 e_104 e_105 e_106 e_107 e_108 e_109 e_110 e_111 e_112 e_113 e_114 e_115 e_116 e_117 e_118 e_119 e_120 e_121 e_122 e_123 e_124 e_125 e_126 e_127 e_128 e_129 e_130 e_131 e_132 e_133 e_134 e_135 e_136 e_137 e_138 e_139 e_140 e_141 e_142 e_143 e_144 e_145 e_146 e_147 e_148 e_149 e_150 e_151 e_152 e_153 e_154 e_155 e_156 e_157 e_158 e_159 e_160 e_161 e_162 e_163 e_164 e_165 e_166 e_167 e_168 e_169 e_170 e_171 e_172 e_173 e_174 e_175 e_176 e_177 e_178 e_179 e_180 e_181 e_182 e_183 e_184 e_185 e_186 e_187 e_188 e_189 e_190 e_191 e_192 e_193 e_194 e_195 e_196 e_197 e_198 e_199 e_200 e_201 e_202 e_203 e_204 e_205 e_206 e_207 e_208 e_209 e_210 e_211 e_212 e_213 e_214 e_215 e_216 e_217 e_218 e_219 e_220 e_221 e_222 e_223 e_224 e_225 e_226 e_227 e_228 e_229 e_230 e_231 e_232 e_233 e_234 e_235 e_236 e_237 e_238 e_239 e_240 e_241 e_242 e_243 e_244 e_245 e_246 e_247 e_248 e_249 e_250 e_251 e_252 e_253 e_254 e_255 e_256 e_257 e_258 e_259 e_260 e_261 e_262 e_263 e_264 e_265 e_266 e_267 e_268 e_269 e_270 e_271 e_272 e_273 e_274 e_275 e_276 e_277 e_278 e_279 e_280 e_281 e_282 e_283 e_284 e_285 e_286 e_287 e_288 e_289 e_290 e_291 e_292 e_293 e_294 e_295 e_296 e_297 e_298 e_299 e_300 e_301 e_302 e_303 e_304 e_305 e_306 e_307 e_308 e_309 e_310 e_311 e_312 e_313 e_314 : Value}
  (HI : Hid (i = 64)) (hwsl : ws.length = 64) (hw12 : Own w12 W4.heap.size 135 1 (some ⟨gw, 0, none⟩) i c10 (cvs ws)) (hk12 : Blk w12 gk 135 (cvs sKeys).toArray)
  (hv12 : Rd w12 w12.heap.size 1 (some ⟨gv0, 0, none⟩) 8 (cvs s0.list)) (hgv0 : gs < gv0) (hgs12 : gs < w12.heap.size)
  (hK : ∀ (W : World) (gv cv : Nat), gs < gv → Rd W W.heap.size 1 (some ⟨gv, 0, none⟩) 8 (cvs (sRun ws s0 64).list) → Turn w12 W none → ∀ {v16 v17 v18 v165 v166 v167 v168 v169 v170 v171 v172 v173 v174 v175 v176 v177 v178 v179 v180 v181 v182 v183 v184 v185 v186 v187 v188 v189 v190 v191 v192 v193 v194 v195 v196 v197 v198 v199 v200 v201 v202 v203 v204 v205 v206 v207 v208 v209 v210 v211 v212 v213 v214 v215 v216 v217 v218 v219 v220 v221 v222 v223 v224 v225 v226 v227 v228 v229 v230 v231 v232 v233 v234 v235 v236 v237 v238 v239 v240 v241 v242 v243 v244 v245 v246 v247 v248 v249 v250 v251 v252 v253 v254 v255 v256 v257 v258 v259 v260 v261 v262 v263 v264 v265 v266 v267 v268 v269 v270 v271 v272 v273 v274 v275 v276 v277 v278 : Value}, K ⟨List.toArray (e_0 :: e_1 :: e_2 :: e_3 :: .slice (some ⟨gk, 0, none⟩) 64 64 :: e_5 :: e_6 :: e_7 :: .slice (some ⟨gw, 0, none⟩) i c10 :: e_9 :: e_10 :: e_11 :: e_12 :: e_13 :: e_14 :: .slice (some ⟨gv, 0, none⟩) 8 cv :: v16 :: v17 :: v18 :: e_19 :: e_20 :: e_21 :: e_22 :: e_23 :: e_24 :: e_25 :: e_26 :: e_27 :: e_28 :: e_29 :: e_30 :: e_31 :: e_32 :: e_33 :: e_34 :: e_35 :: e_36 :: e_37 :: e_38 :: e_39 :: e_40 :: e_41 :: e_42 :: e_43 :: e_44 :: e_45 :: e_46 :: e_47 :: e_48 :: e_49 :: e_50 :: e_51 :: e_52 :: e_53 :: e_54 :: e_55 :: e_56 :: e_57 :: e_58 :: e_59 :: e_60 :: e_61 :: e_62 :: e_63 :: e_64 :: e_65 :: e_66 :: e_67 :: e_68 :: e_69 :: e_70 :: e_71 :: e_72 :: e_73 :: e_74 :: e_75 :: e_76 :: e_77 :: e_78 :: e_79 :: e_80 :: e_81 :: e_82 :: e_83 :: e_84 :: e_85 :: e_86 :: e_87 :: e_88 :: e_89 :: e_90 :: e_91 :: e_92 :: e_93 :: e_94 :: e_95 :: e_96 :: e_97 :: e_98 :: e_99 :: e_100 :: e_101 :: e_102 :: e_103 :: e_104 :: e_105 :: e_106 :: e_107 :: e_108 :: e_109 :: e_110 :: e_111 :: e_112 :: e_113 :: e_114 :: e_115 :: e_116 :: e_117 :: e_118 :: e_119 :: e_120 :: e_121 :: e_122 :: e_123 :: e_124 :: e_125 :: e_126 :: e_127 :: e_128 :: e_129 :: e_130 :: e_131 :: e_132 :: e_133 :: e_134 :: e_135 :: e_136 :: e_137 :: e_138 :: e_139 :: e_140 :: e_141 :: e_142 :: e_143 :: e_144 :: e_145 :: e_146 :: e_147 :: e_148 :: e_149 :: e_150 :: e_151 :: e_152 :: e_153 :: e_154 :: e_155 :: e_156 :: e_157 :: e_158 :: e_159 :: e_160 :: e_161 :: e_162 :: e_163 :: e_164 :: v165 :: v166 :: v167 :: v168 :: v169 :: v170 :: v171 :: v172 :: v173 :: v174 :: v175 :: v176 :: v177 :: v178 :: v179 :: v180 :: v181 :: v182 :: v183 :: v184 :: v185 :: v186 :: v187 :: v188 :: v189 :: v190 :: v191 :: v192 :: v193 :: v194 :: v195 :: v196 :: v197 :: v198 :: v199 :: v200 :: v201 :: v202 :: v203 :: v204 :: v205 :: v206 :: v207 :: v208 :: v209 :: v210 :: v211 :: v212 :: v213 :: v214 :: v215 :: v216 :: v217 :: v218 :: v219 :: v220 :: v221 :: v222 :: v223 :: v224 :: v225 :: v226 :: v227 :: v228 :: v229 :: v230 :: v231 :: v232 :: v233 :: v234 :: v235 :: v236 :: v237 :: v238 :: v239 :: v240 :: v241 :: v242 :: v243 :: v244 :: v245 :: v246 :: v247 :: v248 :: v249 :: v250 :: v251 :: v252 :: v253 :: v254 :: v255 :: v256 :: v257 :: v258 :: v259 :: v260 :: v261 :: v262 :: v263 :: v264 :: v265 :: v266 :: v267 :: v268 :: v269 :: v270 :: v271 :: v272 :: v273 :: v274 :: v275 :: v276 :: v277 :: v278 :: e_279 :: e_280 :: e_281 :: e_282 :: e_283 :: e_284 :: e_285 :: e_286 :: e_287 :: e_288 :: e_289 :: e_290 :: e_291 :: e_292 :: e_293 :: e_294 :: e_295 :: e_296 :: e_297 :: e_298 :: e_299 :: e_300 :: e_301 :: e_302 :: e_303 :: e_304 :: e_305 :: e_306 :: e_307 :: e_308 :: e_309 :: e_310 :: e_311 :: e_312 :: e_313 :: e_314 :: []), []⟩ W) :
  Code.wp Tryz.prog (sumM 2) (Exit.inBlock 10 (Exit.then K Q')) ⟨List.toArray (e_0 :: e_1 :: e_2 :: e_3 :: .slice (some ⟨gk, 0, none⟩) 64 64 :: e_5 :: e_6 :: e_7 :: .slice (some ⟨gw, 0, none⟩) i c10 :: e_9 :: e_10 :: e_11 :: e_12 :: e_13 :: e_14 :: .slice (some ⟨gv0, 0, none⟩) 8 c12 :: .int .i64 0 :: e_17 :: e_18 :: e_19 :: e_20 :: e_21 :: e_22 :: e_23 :: e_24 :: e_25 :: e_26 :: e_27 :: e_28 :: e_29 :: e_30 :: e_31 :: e_32 :: e_33 :: e_34 :: e_35 :: e_36 :: e_37 :: e_38 :: e_39 :: e_40 :: e_41 :: e_42 :: e_43 :: e_44 :: e_45 :: e_46 :: e_47 :: e_48 :: e_49 :: e_50 :: e_51 :: e_52 :: e_53 :: e_54 :: e_55 :: e_56 :: e_57 :: e_58 :: e_59 :: e_60 :: e_61 :: e_62 :: e_63 :: e_64 :: e_65 :: e_66 :: e_67 :: e_68 :: e_69 :: e_70 :: e_71 :: e_72 :: e_73 :: e_74 :: e_75 :: e_76 :: e_77 :: e_78 :: e_79 :: e_80 :: e_81 :: e_82 :: e_83 :: e_84 :: e_85 :: e_86 :: e_87 :: e_88 :: e_89 :: e_90 :: e_91 :: e_92 :: e_93 :: e_94 :: e_95 :: e_96 :: e_97 :: e_98 :: e_99 :: e_100 :: e_101 :: e_102 :: e_103 :: e_104 :: e_105 :: e_106 :: e_107 :: e_108 :: e_109 :: e_110 :: e_111 :: e_112 :: e_113 :: e_114 :: e_115 :: e_116 :: e_117 :: e_118 :: e_119 :: e_120 :: e_121 :: e_122 :: e_123 :: e_124 :: e_125 :: e_126 :: e_127 :: e_128 :: e_129 :: e_130 :: e_131 :: e_132 :: e_133 :: e_134 :: e_135 :: e_136 :: e_137 :: e_138 :: e_139 :: e_140 :: e_141 :: e_142 :: e_143 :: e_144 :: e_145 :: e_146 :: e_147 :: e_148 :: e_149 :: e_150 :: e_151 :: e_152 :: e_153 :: e_154 :: e_155 :: e_156 :: e_157 :: e_158 :: e_159 :: e_160 :: e_161 :: e_162 :: e_163 :: e_164 :: e_165 :: e_166 :: e_167 :: e_168 :: e_169 :: e_170 :: e_171 :: e_172 :: e_173 :: e_174 :: e_175 :: e_176 :: e_177 :: e_178 :: e_179 :: e_180 :: e_181 :: e_182 :: e_183 :: e_184 :: e_185 :: e_186 :: e_187 :: e_188 :: e_189 :: e_190 :: e_191 :: e_192 :: e_193 :: e_194 :: e_195 :: e_196 :: e_197 :: e_198 :: e_199 :: e_200 :: e_201 :: e_202 :: e_203 :: e_204 :: e_205 :: e_206 :: e_207 :: e_208 :: e_209 :: e_210 :: e_211 :: e_212 :: e_213 :: e_214 :: e_215 :: e_216 :: e_217 :: e_218 :: e_219 :: e_220 :: e_221 :: e_222 :: e_223 :: e_224 :: e_225 :: e_226 :: e_227 :: e_228 :: e_229 :: e_230 :: e_231 :: e_232 :: e_233 :: e_234 :: e_235 :: e_236 :: e_237 :: e_238 :: e_239 :: e_240 :: e_241 :: e_242 :: e_243 :: e_244 :: e_245 :: e_246 :: e_247 :: e_248 :: e_249 :: e_250 :: e_251 :: e_252 :: e_253 :: e_254 :: e_255 :: e_256 :: e_257 :: e_258 :: e_259 :: e_260 :: e_261 :: e_262 :: e_263 :: e_264 :: e_265 :: e_266 :: e_267 :: e_268 :: e_269 :: e_270 :: e_271 :: e_272 :: e_273 :: e_274 :: e_275 :: e_276 :: e_277 :: e_278 :: e_279 :: e_280 :: e_281 :: e_282 :: e_283 :: e_284 :: e_285 :: e_286 :: e_287 :: e_288 :: e_289 :: e_290 :: e_291 :: e_292 :: e_293 :: e_294 :: e_295 :: e_296 :: e_297 :: e_298 :: e_299 :: e_300 :: e_301 :: e_302 :: e_303 :: e_304 :: e_305 :: e_306 :: e_307 :: e_308 :: e_309 :: e_310 :: e_311 :: e_312 :: e_313 :: e_314 :: []), []⟩ w12 := by
 conv => arg 2; whnf
 go_loopw [15, 16] (fun v u w' => ∃ (p : Nat) (gv cv : Nat), p ≤ 64 ∧ u = .int .i64 (p : Int) ∧ v = .slice (some ⟨gv, 0, none⟩) 8 cv ∧ gs < gv ∧ Rd w' w'.heap.size 1 (some ⟨gv, 0, none⟩) 8 (cvs (sRun ws s0 p).list) ∧ Turn w12 w' none) (fun _ u _ => (64 - intOf u).toNat)
 case atStart => exact ⟨0, gv0, c12, by omega, rfl, rfl, hgv0, hv12, Turn.refl w12 none⟩
 case round =>
  obtain ⟨p, gv, cv, hp, rfl, rfl, hgsv, hv, htv⟩ := hrel
  obtain ⟨W7, rfl⟩ : ∃ x, x = wr := ⟨wr, rfl⟩
  clear hv12
  by_cases hp64 : p < 64
  ·--[L6
   have hip : i = 64 := HI.out
   have hw7 := hw12.turn0 htv
   have hk7' := hk12.turn0 htv
   obtain ⟨x, hx⟩ : ∃ x, ws[p]? = some x := ⟨_, List.getElem?_eq_getElem (by omega)⟩
   obtain ⟨k, hk⟩ : ∃ k, sKeys[p]? = some k := ⟨_, List.getElem?_eq_getElem (by rw [sKeys_len]; exact hp64)⟩
   have Hv := hid (show sRun ws s0 (p + 1) = sRnd (sRun ws s0 p) k x by
    have e1 : ws.getD p 0#32 = x := by rw [List.getD_eq_getElem?_getD, hx]; rfl
    have e2 : sKeys.getD p 0#32 = k := by rw [List.getD_eq_getElem?_getD, hk]; rfl
    rw [sRun, e1, e2])
   generalize sRun ws s0 p = v at hv Hv
   have keyV : ∀ W : World, Turn W7 W none → W.cell? ⟨gv, 0, none⟩ = some (.int .u32 (cV v.a)) ∧ W.cell? ⟨gv, 1, none⟩ = some (.int .u32 (cV v.b)) ∧ W.cell? ⟨gv, 2, none⟩ = some (.int .u32 (cV v.c)) ∧ W.cell? ⟨gv, 3, none⟩ = some (.int .u32 (cV v.d)) ∧ W.cell? ⟨gv, 4, none⟩ = some (.int .u32 (cV v.e)) ∧ W.cell? ⟨gv, 5, none⟩ = some (.int .u32 (cV v.f)) ∧ W.cell? ⟨gv, 6, none⟩ = some (.int .u32 (cV v.g)) ∧ W.cell? ⟨gv, 7, none⟩ = some (.int .u32 (cV v.h)) ∧ W.cell? ⟨gw, p, none⟩ = some (.int .u32 (cV x)) ∧ W.cell? ⟨gk, p, none⟩ = some (.int .u32 (cV k)) := by
    intro W h
    have hv2 := hv.turn0 h (Nat.le_refl _)
    have at_ : ∀ q y, v.list[q]? = some y → W.cell? ⟨gv, q, none⟩ = some (.int .u32 (cV y)) := fun q y hy => by
     obtain ⟨ad, ha, _, hc⟩ := hv2.2 q _ (cvs_at hy)
     injection ha with ha
     subst ha
     rw [add_flat, Nat.zero_add] at hc
     exact hc
    refine ⟨at_ 0 _ rfl, at_ 1 _ rfl, at_ 2 _ rfl, at_ 3 _ rfl, at_ 4 _ rfl, at_ 5 _ rfl, at_ 6 _ rfl, at_ 7 _ rfl, ?_, ?_⟩
    ·rw [(hw7.turn0 h).cell (by omega)]; exact cvs_at hx
    ·exact (hk7'.turn0 h).ats (cvs_at hk)
   have lp : (p : Int) < 64 := by omega
   have lpi : (p : Int) < (i : Int) := by omega
   clear hx hk hip hv
   have b0 := cV_bd v.a; have b1 := cV_bd v.b; have b2 := cV_bd v.c; have b3 := cV_bd v.d; have b4 := cV_bd v.e; have b5 := cV_bd v.f; have b6 := cV_bd v.g; have b7 := cV_bd v.h
   have bk := cV_bd k
   have bx := cV_bd x
   have r1 := cV_bd (sRot v.e 6)
   have r2 := cV_bd (sRot v.e 11)
   have r3 := cV_bd (sRot v.e 25)
   have r4 := cV_bd (sRot v.a 2)
   have r5 := cV_bd (sRot v.a 13)
   have r6 := cV_bd (sRot v.a 22)
   obtain ⟨c0, c1, c2, c3, c4, c5', c6, c7', cx, ck⟩ := keyV _ (Turn.refl W7 none)
   go_wp2_with fail
   go_quiet (first
    | (go_at_call_of 93 (Value.int .u64 6); exact quiet_eq (rturn_of _ v.e rfl _ 6 rfl (by decide) (by decide) _))
    | (go_at_call_of 93 (Value.int .u64 11); exact quiet_eq (rturn_of _ v.e rfl _ 11 rfl (by decide) (by decide) _))
    | (go_at_call_of 93 (Value.int .u64 25); exact quiet_eq (rturn_of _ v.e rfl _ 25 rfl (by decide) (by decide) _)))
   rw [cT1_ref]
   generalize ht1v : sT1 v k x = t1
   have bt1 := cV_bd t1
   have htn : Turn W7 (W7.drewN nq) none := (Turn.refl W7 none).drewN nq
   clear c0 c1 c2 c3 c4 c5' c6 c7' cx ck r1 r2 r3
   generalize W7.drewN nq = W8 at *
   obtain ⟨c0, c1, c2, c3, c4, c5', c6, c7', cx, ck⟩ := keyV _ htn
   go_wp2_with fail
   go_quiet (first
    | (go_at_call_of 93 (Value.int .u64 2); exact quiet_eq (rturn_of _ v.a rfl _ 2 rfl (by decide) (by decide) _))
    | (go_at_call_of 93 (Value.int .u64 13); exact quiet_eq (rturn_of _ v.a rfl _ 13 rfl (by decide) (by decide) _))
    | (go_at_call_of 93 (Value.int .u64 22); exact quiet_eq (rturn_of _ v.a rfl _ 22 rfl (by decide) (by decide) _)))
   rw [cT2_ref]
   generalize ht2v : sT2 v = t2
   have bt2 := cV_bd t2
   have htn2 : Turn W7 (W8.drewN nq) none := htn.drewN nq
   clear c0 c1 c2 c3 c4 c5' c6 c7' cx ck r4 r5 r6
   generalize W8.drewN nq = W9 at *
   have keyW : ∀ W : World, Turn W7 W none → W.cell? ⟨gv, 0, none⟩ = some (.int .u32 (cV v.a)) ∧ W.cell? ⟨gv, 1, none⟩ = some (.int .u32 (cV v.b)) ∧ W.cell? ⟨gv, 2, none⟩ = some (.int .u32 (cV v.c)) ∧ W.cell? ⟨gv, 3, none⟩ = some (.int .u32 (cV v.d)) ∧ W.cell? ⟨gv, 4, none⟩ = some (.int .u32 (cV v.e)) ∧ W.cell? ⟨gv, 5, none⟩ = some (.int .u32 (cV v.f)) ∧ W.cell? ⟨gv, 6, none⟩ = some (.int .u32 (cV v.g)) := by
    intro W h
    obtain ⟨c0, c1, c2, c3, c4, c5', c6, _, _, _⟩ := keyV _ h
    exact ⟨c0, c1, c2, c3, c4, c5', c6⟩
   clear keyV
   go_wp2_with fail
   refine wp_region_noPanic ?_
   refine wp_region_held_drew (S := fun W => W.cell? ⟨gv, 0, none⟩ = some (.int .u32 (cV v.a)) ∧ W.cell? ⟨gv, 1, none⟩ = some (.int .u32 (cV v.b)) ∧ W.cell? ⟨gv, 2, none⟩ = some (.int .u32 (cV v.c)) ∧ W.cell? ⟨gv, 3, none⟩ = some (.int .u32 (cV v.d)) ∧ W.cell? ⟨gv, 4, none⟩ = some (.int .u32 (cV v.e)) ∧ W.cell? ⟨gv, 5, none⟩ = some (.int .u32 (cV v.f)) ∧ W.cell? ⟨gv, 6, none⟩ = some (.int .u32 (cV v.g))) (by kernel_rfl) (keyW _ htn2.drew) (fun hHeld => ?_)
   (first | refine tkN 0 ?_ | refine tkY 0 _ ?_); (try simp only [Act.put, zs])
   (first | refine tkN 1 ?_ | refine tkY 1 _ ?_); (try simp only [Act.put, zs])
   (first | refine tkN 2 ?_ | refine tkY 2 _ ?_); (try simp only [Act.put, zs])
   (first | refine tkN 3 ?_ | refine tkY 3 _ ?_); (try simp only [Act.put, zs])
   (first | refine tkN 4 ?_ | refine tkY 4 _ ?_); (try simp only [Act.put, zs])
   (first | refine tkN 5 ?_ | refine tkY 5 _ ?_); (try simp only [Act.put, zs])
   (first | refine tkN 6 ?_ | refine tkY 6 _ ?_); (try simp only [Act.put, zs])
   (first | refine tkN 7 ?_ | refine tkY 7 _ ?_); (try simp only [Act.put, zs])
   (first | refine tkN 8 ?_ | refine tkY 8 _ ?_); (try simp only [Act.put, zs])
   (first | refine tkN 9 ?_ | refine tkY 9 _ ?_); (try simp only [Act.put, zs])
   (first | refine tkN 10 ?_ | refine tkY 10 _ ?_); (try simp only [Act.put, zs])
   (first | refine tkN 11 ?_ | refine tkY 11 _ ?_); (try simp only [Act.put, zs])
   (first | refine tkN 12 ?_ | refine tkY 12 _ ?_); (try simp only [Act.put, zs])
   (first | refine tkN 13 ?_ | refine tkY 13 _ ?_); (try simp only [Act.put, zs])
   (first | refine tkN 14 ?_ | refine tkY 14 _ ?_); (try simp only [Act.put, zs])
   (first | refine tkN 15 ?_ | refine tkY 15 _ ?_); (try simp only [Act.put, zs])
   (first | refine tkN 16 ?_ | refine tkY 16 _ ?_); (try simp only [Act.put, zs])
   (first | refine tkN 17 ?_ | refine tkY 17 _ ?_); (try simp only [Act.put, zs])
   (first | refine tkN 18 ?_ | refine tkY 18 _ ?_); (try simp only [Act.put, zs])
   (first | refine tkN 19 ?_ | refine tkY 19 _ ?_); (try simp only [Act.put, zs])
   (first | refine tkN 20 ?_ | refine tkY 20 _ ?_); (try simp only [Act.put, zs])
   (first | refine tkN 21 ?_ | refine tkY 21 _ ?_); (try simp only [Act.put, zs])
   (first | refine tkN 22 ?_ | refine tkY 22 _ ?_); (try simp only [Act.put, zs])
   (first | refine tkN 23 ?_ | refine tkY 23 _ ?_); (try simp only [Act.put, zs])
   (first | refine tkN 24 ?_ | refine tkY 24 _ ?_); (try simp only [Act.put, zs])
   (first | refine tkN 25 ?_ | refine tkY 25 _ ?_); (try simp only [Act.put, zs])
   refine wpAnyH_ready (rs := [26]) (by kernel_rfl) (by simp) ?_
   refine AllReadyH.cons rfl (fun K hK => ?_) AllReadyH.nil
   go_simp
   refine hK.out _ _ (keyW _ (htn2.alloc _).drew) (fun hHeld => ?_)
   clear hK K
   (try simp only [Act.put, zs])
   (first | refine tkN 27 ?_ | refine tkY 27 _ ?_); (try simp only [Act.put, zs])
   refine wpAnyH_done (by kernel_rfl) ?_ _
   refine NoPanic.normal ?_
   clear hHeld
   rw [cW_add, cW_add]
   have hv9 : Rd ((W9.alloc (.cells #[.int .u32 (cV (t1 + t2)), .int .u32 (cV v.a), .int .u32 (cV v.b), .int .u32 (cV v.c), .int .u32 (cV (v.d + t1)), .int .u32 (cV v.e), .int .u32 (cV v.f), .int .u32 (cV v.g)] 135)).drew) ((W9.alloc (.cells #[.int .u32 (cV (t1 + t2)), .int .u32 (cV v.a), .int .u32 (cV v.b), .int .u32 (cV v.c), .int .u32 (cV (v.d + t1)), .int .u32 (cV v.e), .int .u32 (cV v.f), .int .u32 (cV v.g)] 135)).drew).heap.size 1 (some ⟨W9.heap.size, 0, none⟩) 8 (cvs (sRun ws s0 (p + 1)).list) := by
    rw [Hv.out]
    have h := (Rd.lit W9 135 (cvs (sRnd v k x).list)).drew
    rw [← ht1v, ← ht2v]
    refine Rd.mono h ?_
    show W9.heap.size + 1 ≤ (W9.heap.push _).size
    rw [Array.size_push]
    exact Nat.le_refl _
   have htn3 := (htn2.alloc (.cells #[.int .u32 (cV (t1 + t2)), .int .u32 (cV v.a), .int .u32 (cV v.b), .int .u32 (cV v.c), .int .u32 (cV (v.d + t1)), .int .u32 (cV v.e), .int .u32 (cV v.f), .int .u32 (cV v.g)] 135)).drew
   clear keyW hw7 hk7'
   go_wp2_with fail
   have hgs9 : gs < W9.heap.size := by have h1 := htn2.size; have h2 := htv.size; omega
   refine ⟨⟨p + 1, _, _, by omega, rfl, rfl, hgs9, hv9, htv.trans htn3⟩, ?_⟩
   simp [intOf]; omega
   --]L6
  ·obtain rfl : p = 64 := by omega
   clear hp
   go_wp2_with fail
   exact hK _ _ _ hgsv hv htv
open Go.RowKit
theorem rmix_loop {Q : Exit → Act → World → Prop} {W7 : World} {gs gv cv : Nat} {s0 r : W8} {e_0 e_1 e_2 e_4 e_5 e_6 e_7 e_8 e_9 e_10 e_11 e_12 e_13 e_14 e_16 e_17 e_18 e_20 e_21 e_22 e_23 e_24 e_25 e_26 e_27 e_28 e_29 e_30 e_31 e_32 e_33 e_34 e_35 e_36 e_37 e_38 e_39 e_40 e_41 e_42 e_43 e_44 e_45 e_46 e_47 e_48 e_49 e_50 e_51 e_52 e_53 e_54 e_55 e_56 e_57 e_58 e_59 e_60 e_61 e_62 e_63 e_64 e_65 e_66 e_67 e_68 e_69 e_70 e_71 e_72 e_73 e_74 e_75 e_76 e_77 e_78 e_79 e_80 e_81 e_82 e_83 e_84 e_85 e_86 e_87 e_88 e_89 e_90 e_91 e_92 e_93 e_94 e_95 e_96 e_97 e_98 e_99 e_100 e_101 e_102 e_103 e_104 e_105 e_106 e_107 e_108 e_109 e_110 e_111 e_112 e_113 e_114 e_115 e_116 e_117 e_118 e_119 e_120 e_121 e_122 e_123 e_124 e_125 e_126 e_127 e_128 e_129 e_130 e_131 e_132 e_133 e_134 e_135 e_136 e_137 e_138 e_139 e_140 e_141 e_142 e_143 e_144 e_145 e_146 e_147 e_148 e_149 e_150 e_151 e_152 e_153 e_154 e_155 e_156 e_157 e_158 e_159 e_160 e_161 e_162 e_163 e_164 e_165 e_166 e_167 e_168 e_169 e_170 e_171 e_172 e_173 e_174 e_175 e_176 e_177 e_178 e_179 e_180 e_181 e_182 e_183 e_184 e_185 e_186 e_187 e_188 e_189 e_190 e_191 e_192 e_193 e_194 e_195 e_196 e_197 e_198 e_199 e_200 e_201 e_202 e_203 e_204 e_205 e_206 e_207 e_208 e_209 e_210 e_211 e_212 e_213 e_214 e_215 e_216 e_217 e_218 e_219 e_220 e_221 e_222 e_223 e_224 e_225 e_226 e_227 e_228 e_229 e_230 e_231 e_232 e_233 e_234 e_235 e_236 e_237 e_238 e_239 e_240 e_241 e_242 e_243 e_244 e_245 e_246 e_247 e_248 e_249 e_250 e_251 e_252 e_253 e_254 e_255 e_256 e_257 e_258 e_259 e_260 e_261 e_262 e_263 e_264 e_265 e_266 e_267 e_268 e_269 e_270 e_271 e_272 e_273 e_274 e_275 e_276 e_277 e_278 e_279 e_280 e_281 e_282 e_283 e_284 e_285 e_286 e_287 e_288 e_289 e_290 e_291 e_292 e_293 e_294 e_295 e_296 e_297 e_298 e_299 e_300 e_301 e_302 e_303 e_304 e_305 e_306 e_307 e_308 e_309 e_310 e_311 e_312 e_313 e_314 : Value}
  (hv : Rd W7 W7.heap.size 1 (some ⟨gv, 0, none⟩) 8 (cvs r.list)) (hs7' : Blk W7 gs 135 (cvs s0.list).toArray) (hgsv : gs < gv)
  (hK : ∀ (W : World), Blk W gs 135 (cvs (s0.add r).list).toArray → Turn W7 W (some gs) → ∀ {v19 v279 v280 v281 v282 v283 v284 v285 v286 v287 v288 v289 v290 v291 v292 v293 v294 : Value}, Q .normal ⟨List.toArray (e_0 :: e_1 :: e_2 :: .slice (some ⟨gs, 0, none⟩) 8 8 :: e_4 :: e_5 :: e_6 :: e_7 :: e_8 :: e_9 :: e_10 :: e_11 :: e_12 :: e_13 :: e_14 :: .slice (some ⟨gv, 0, none⟩) 8 cv :: e_16 :: e_17 :: e_18 :: v19 :: e_20 :: e_21 :: e_22 :: e_23 :: e_24 :: e_25 :: e_26 :: e_27 :: e_28 :: e_29 :: e_30 :: e_31 :: e_32 :: e_33 :: e_34 :: e_35 :: e_36 :: e_37 :: e_38 :: e_39 :: e_40 :: e_41 :: e_42 :: e_43 :: e_44 :: e_45 :: e_46 :: e_47 :: e_48 :: e_49 :: e_50 :: e_51 :: e_52 :: e_53 :: e_54 :: e_55 :: e_56 :: e_57 :: e_58 :: e_59 :: e_60 :: e_61 :: e_62 :: e_63 :: e_64 :: e_65 :: e_66 :: e_67 :: e_68 :: e_69 :: e_70 :: e_71 :: e_72 :: e_73 :: e_74 :: e_75 :: e_76 :: e_77 :: e_78 :: e_79 :: e_80 :: e_81 :: e_82 :: e_83 :: e_84 :: e_85 :: e_86 :: e_87 :: e_88 :: e_89 :: e_90 :: e_91 :: e_92 :: e_93 :: e_94 :: e_95 :: e_96 :: e_97 :: e_98 :: e_99 :: e_100 :: e_101 :: e_102 :: e_103 :: e_104 :: e_105 :: e_106 :: e_107 :: e_108 :: e_109 :: e_110 :: e_111 :: e_112 :: e_113 :: e_114 :: e_115 :: e_116 :: e_117 :: e_118 :: e_119 :: e_120 :: e_121 :: e_122 :: e_123 :: e_124 :: e_125 :: e_126 :: e_127 :: e_128 :: e_129 :: e_130 :: e_131 :: e_132 :: e_133 :: e_134 :: e_135 :: e_136 :: e_137 :: e_138 :: e_139 :: e_140 :: e_141 :: e_142 :: e_143 :: e_144 :: e_145 :: e_146 :: e_147 :: e_148 :: e_149 :: e_150 :: e_151 :: e_152 :: e_153 :: e_154 :: e_155 :: e_156 :: e_157 :: e_158 :: e_159 :: e_160 :: e_161 :: e_162 :: e_163 :: e_164 :: e_165 :: e_166 :: e_167 :: e_168 :: e_169 :: e_170 :: e_171 :: e_172 :: e_173 :: e_174 :: e_175 :: e_176 :: e_177 :: e_178 :: e_179 :: e_180 :: e_181 :: e_182 :: e_183 :: e_184 :: e_185 :: e_186 :: e_187 :: e_188 :: e_189 :: e_190 :: e_191 :: e_192 :: e_193 :: e_194 :: e_195 :: e_196 :: e_197 :: e_198 :: e_199 :: e_200 :: e_201 :: e_202 :: e_203 :: e_204 :: e_205 :: e_206 :: e_207 :: e_208 :: e_209 :: e_210 :: e_211 :: e_212 :: e_213 :: e_214 :: e_215 :: e_216 :: e_217 :: e_218 :: e_219 :: e_220 :: e_221 :: e_222 :: e_223 :: e_224 :: e_225 :: e_226 :: e_227 :: e_228 :: e_229 :: e_230 :: e_231 :: e_232 :: e_233 :: e_234 :: e_235 :: e_236 :: e_237 :: e_238 :: e_239 :: e_240 :: e_241 :: e_242 :: e_243 :: e_244 :: e_245 :: e_246 :: e_247 :: e_248 :: e_249 :: e_250 :: e_251 :: e_252 :: e_253 :: e_254 :: e_255 :: e_256 :: e_257 :: e_258 :: e_259 :: e_260 :: e_261 :: e_262 :: e_263 :: e_264 :: e_265 :: e_266 :: e_267 :: e_268 :: e_269 :: e_270 :: e_271 :: e_272 :: e_273 :: e_274 :: e_275 :: e_276 :: e_277 :: e_278 :: v279 :: v280 :: v281 :: v282 :: v283 :: v284 :: v285 :: v286 :: v287 :: v288 :: v289 :: v290 :: v291 :: v292 :: v293 :: v294 :: e_295 :: e_296 :: e_297 :: e_298 :: e_299 :: e_300 :: e_301 :: e_302 :: e_303 :: e_304 :: e_305 :: e_306 :: e_307 :: e_308 :: e_309 :: e_310 :: e_311 :: e_312 :: e_313 :: e_314 :: []), []⟩ W) :
  Code.wp Tryz.prog (sumM 3) (Exit.inBlock 12 Q) ⟨List.toArray (e_0 :: e_1 :: e_2 :: .slice (some ⟨gs, 0, none⟩) 8 8 :: e_4 :: e_5 :: e_6 :: e_7 :: e_8 :: e_9 :: e_10 :: e_11 :: e_12 :: e_13 :: e_14 :: .slice (some ⟨gv, 0, none⟩) 8 cv :: e_16 :: e_17 :: e_18 :: .int .i64 0 :: e_20 :: e_21 :: e_22 :: e_23 :: e_24 :: e_25 :: e_26 :: e_27 :: e_28 :: e_29 :: e_30 :: e_31 :: e_32 :: e_33 :: e_34 :: e_35 :: e_36 :: e_37 :: e_38 :: e_39 :: e_40 :: e_41 :: e_42 :: e_43 :: e_44 :: e_45 :: e_46 :: e_47 :: e_48 :: e_49 :: e_50 :: e_51 :: e_52 :: e_53 :: e_54 :: e_55 :: e_56 :: e_57 :: e_58 :: e_59 :: e_60 :: e_61 :: e_62 :: e_63 :: e_64 :: e_65 :: e_66 :: e_67 :: e_68 :: e_69 :: e_70 :: e_71 :: e_72 :: e_73 :: e_74 :: e_75 :: e_76 :: e_77 :: e_78 :: e_79 :: e_80 :: e_81 :: e_82 :: e_83 :: e_84 :: e_85 :: e_86 :: e_87 :: e_88 :: e_89 :: e_90 :: e_91 :: e_92 :: e_93 :: e_94 :: e_95 :: e_96 :: e_97 :: e_98 :: e_99 :: e_100 :: e_101 :: e_102 :: e_103 :: e_104 :: e_105 :: e_106 :: e_107 :: e_108 :: e_109 :: e_110 :: e_111 :: e_112 :: e_113 :: e_114 :: e_115 :: e_116 :: e_117 :: e_118 :: e_119 :: e_120 :: e_121 :: e_122 :: e_123 :: e_124 :: e_125 :: e_126 :: e_127 :: e_128 :: e_129 :: e_130 :: e_131 :: e_132 :: e_133 :: e_134 :: e_135 :: e_136 :: e_137 :: e_138 :: e_139 :: e_140 :: e_141 :: e_142 :: e_143 :: e_144 :: e_145 :: e_146 :: e_147 :: e_148 :: e_149 :: e_150 :: e_151 :: e_152 :: e_153 :: e_154 :: e_155 :: e_156 :: e_157 :: e_158 :: e_159 :: e_160 :: e_161 :: e_162 :: e_163 :: e_164 :: e_165 :: e_166 :: e_167 :: e_168 :: e_169 :: e_170 :: e_171 :: e_172 :: e_173 :: e_174 :: e_175 :: e_176 :: e_177 :: e_178 :: e_179 :: e_180 :: e_181 :: e_182 :: e_183 :: e_184 :: e_185 :: e_186 :: e_187 :: e_188 :: e_189 :: e_190 :: e_191 :: e_192 :: e_193 :: e_194 :: e_195 :: e_196 :: e_197 :: e_198 :: e_199 :: e_200 :: e_201 :: e_202 :: e_203 :: e_204 :: e_205 :: e_206 :: e_207 :: e_208 :: e_209 :: e_210 :: e_211 :: e_212 :: e_213 :: e_214 :: e_215 :: e_216 :: e_217 :: e_218 :: e_219 :: e_220 :: e_221 :: e_222 :: e_223 :: e_224 :: e_225 :: e_226 :: e_227 :: e_228 :: e_229 :: e_230 :: e_231 :: e_232 :: e_233 :: e_234 :: e_235 :: e_236 :: e_237 :: e_238 :: e_239 :: e_240 :: e_241 :: e_242 :: e_243 :: e_244 :: e_245 :: e_246 :: e_247 :: e_248 :: e_249 :: e_250 :: e_251 :: e_252 :: e_253 :: e_254 :: e_255 :: e_256 :: e_257 :: e_258 :: e_259 :: e_260 :: e_261 :: e_262 :: e_263 :: e_264 :: e_265 :: e_266 :: e_267 :: e_268 :: e_269 :: e_270 :: e_271 :: e_272 :: e_273 :: e_274 :: e_275 :: e_276 :: e_277 :: e_278 :: e_279 :: e_280 :: e_281 :: e_282 :: e_283 :: e_284 :: e_285 :: e_286 :: e_287 :: e_288 :: e_289 :: e_290 :: e_291 :: e_292 :: e_293 :: e_294 :: e_295 :: e_296 :: e_297 :: e_298 :: e_299 :: e_300 :: e_301 :: e_302 :: e_303 :: e_304 :: e_305 :: e_306 :: e_307 :: e_308 :: e_309 :: e_310 :: e_311 :: e_312 :: e_313 :: e_314 :: []), []⟩ W7 := by
 conv => arg 2; whnf
 go_loopw [19] (fun u w' => ∃ y : Nat, y ≤ 8 ∧ u = .int .i64 (y : Int) ∧ Blk w' gs 135 (cvs (sMix s0 r y)).toArray ∧ Turn W7 w' (some gs)) (fun u _ => (8 - intOf u).toNat)
 case atStart => exact ⟨0, by omega, rfl, hs7', Turn.refl W7 _⟩
 case round =>
  obtain ⟨y, hy, rfl, hsb, htb⟩ := hrel
  obtain ⟨W8, rfl⟩ : ∃ x, x = wr := ⟨wr, rfl⟩
  by_cases hy8 : y < 8
  ·obtain ⟨x, z', hz', hx, hset⟩ := sMix_at s0 r y hy8
   have hv8 := hv.turnNe htb (Nat.le_refl _) (.inr (by simp [Go.Proofs.YtgigiecdpjchkaaGreatDoor.blk]; omega))
   have keyV : ∀ W : World, Turn W8 W (some gs) → W.cell? ⟨gv, y, none⟩ = some (.int .u32 (cV z')) := by
    intro W h
    have hv2 := hv8.turnNe h htb.size (.inr (by simp [Go.Proofs.YtgigiecdpjchkaaGreatDoor.blk]; omega))
    obtain ⟨ad, ha, _, hc⟩ := hv2.2 y _ (cvs_at hz')
    injection ha with ha
    subst ha
    rw [add_flat, Nat.zero_add] at hc
    exact hc
   have hxc := hsb.ats (cvs_at hx)
   have hfr := hsb.frozen y
   have bx := cV_bd x
   have bz := cV_bd z'
   have ly : (y : Int) < 8 := by omega
   have Hset := hid hset
   clear hset hx hz'
   go_wp2_with fail
   refine wp_region_noPanic ?_
   refine wp_region_held_drew (S := fun W => W.cell? ⟨gv, y, none⟩ = some (.int .u32 (cV z'))) (by kernel_rfl) (keyV _ (Turn.refl W8 (some gs)).drew) (fun hHeld => ?_)
   (first | refine tkN 0 ?_ | refine tkY 0 _ ?_); (try simp only [Act.put, zs])
   (first | refine tkN 1 ?_ | refine tkY 1 _ ?_); (try simp only [Act.put, zs])
   (first | refine tkN 2 ?_ | refine tkY 2 _ ?_); (try simp only [Act.put, zs])
   (first | refine tkN 3 ?_ | refine tkY 3 _ ?_); (try simp only [Act.put, zs])
   (first | refine tkN 4 ?_ | refine tkY 4 _ ?_); (try simp only [Act.put, zs])
   (first | refine tkN 6 ?_ | refine tkY 6 _ ?_); (try simp only [Act.put, zs])
   (first | refine tkN 7 ?_ | refine tkY 7 _ ?_); (try simp only [Act.put, zs])
   (first | refine tkN 8 ?_ | refine tkY 8 _ ?_); (try simp only [Act.put, zs])
   (first | refine tkN 9 ?_ | refine tkY 9 _ ?_); (try simp only [Act.put, zs])
   refine wpAnyH_ready (rs := [5]) (by kernel_rfl) (by simp) ?_
   refine AllReadyH.cons rfl (fun K hK => ?_) AllReadyH.nil
   go_simp
   refine hK.out _ _ (keyV _ (Turn.refl W8 (some gs)).drew) (fun hHeld => ?_)
   clear hK K
   (try simp only [Act.put, zs])
   (first | refine tkN 10 ?_ | refine tkY 10 _ ?_); (try simp only [Act.put, zs])
   (first | refine tkN 11 ?_ | refine tkY 11 _ ?_); (try simp only [Act.put, zs])
   refine wpAnyH_ready (rs := [12]) (by kernel_rfl) (by simp) ?_
   refine AllReadyH.cons rfl (fun K hK => ?_) AllReadyH.nil
   go_simp
   refine hK.out _ _ (keyV _ (Blk.setTurn W8 gs y _).drew) (fun hHeld => ?_)
   clear hK K
   (try simp only [Act.put, zs])
   refine wpAnyH_done (by kernel_rfl) ?_ _
   refine NoPanic.normal ?_
   clear hHeld
   rw [cW_add]
   have hb3 : Blk ((W8.setCell ⟨gs, y, none⟩ (.int .u32 (cV (x + z')))).drew) gs 135 (cvs (sMix s0 r (y + 1))).toArray := by
    have h5 := (hsb.sets y (.int .u32 (cV (x + z')))).drew
    rw [cvs_set, Hset.out] at h5
    exact h5
   have ht3 := (htb.trans (Blk.setTurn W8 gs y (.int .u32 (cV (x + z'))))).drew
   clear keyV hsb htb
   go_wp2_with fail
   refine ⟨⟨y + 1, by omega, rfl, hb3, ht3⟩, ?_⟩
   simp [intOf]; omega
  ·have hyy : y = 8 := by omega
   rw [hyy, sMix_all] at hsb
   clear hyy hy
   go_wp2_with fail
   exact hK _ hsb htb
end Go.Proofs.YtgigiecdpjchkaaGreatDoor.Sha
