/-
  Layer 3: the document's hash: a block spread.
-/
import Derived.Test.YtfmighjblppceaaDoorSi
namespace Go.Proofs.YtfmighjblppceaaDoor
open Go.RowKit

set_option maxRecDepth 100000 in
set_option maxHeartbeats 60000000 in
theorem rspread_loop {K : Act → World → Prop} {Q' : Exit → Act → World → Prop} {W4 W0 : World} {c0 : Nat} {bl : List UInt8} {A0 : Option Addr} {e_0 e_1 e_2 e_3 e_4 e_5 e_6 e_7 e_9 e_10 e_12 e_13 e_14 e_15 e_16 e_17 e_18 e_19 e_20 e_21 e_22 e_23 e_24 e_25 e_26 e_27 e_28 e_29 e_30 e_31 e_32 e_33 e_34 e_35 e_36 e_37 e_38 e_39 e_40 e_41 e_42 e_43 e_44 e_45 e_46 e_47 e_48 e_49 e_50 e_51 e_52 e_53 e_54 e_55 e_56 e_57 e_58 e_59 e_60 e_61 e_62 e_63 e_64 e_65 e_66 e_67 e_68 e_69 e_70 e_71 e_72 e_73 e_74 e_75 e_76 e_77 e_78 e_79 e_80 e_81 e_82 e_83 e_84 e_85 e_86 e_87 e_88 e_89 e_90 e_91 e_92 e_93 e_94 e_95 e_96 e_97 e_98 e_99 e_100 e_101 e_102 e_103 e_104 e_105 e_106 e_107 e_108 e_109 e_110 e_111 e_112 e_113 e_114 e_115 e_116 e_117 e_118 e_119 e_120 e_121 e_122 e_123 e_124 e_125 e_126 e_127 e_128 e_129 e_130 e_131 e_132 e_133 e_134 e_135 e_136 e_137 e_138 e_139 e_140 e_141 e_142 e_143 e_144 e_145 e_146 e_147 e_148 e_149 e_150 e_151 e_152 e_153 e_154 e_155 e_156 e_157 e_158 e_159 e_160 e_161 e_162 e_163 e_164 e_165 e_166 e_167 e_168 e_169 e_170 e_171 e_172 e_173 e_174 e_175 e_176 e_177 e_178 e_179 e_180 e_181 e_182 e_183 e_184 e_185 e_186 e_187 e_188 e_189 e_190 e_191 e_192 e_193 e_194 e_195 e_196 e_197 e_198 e_199 e_200 e_201 e_202 e_203 e_204 e_205 e_206 e_207 e_208 e_209 e_210 e_211 e_212 e_213 e_214 e_215 e_216 e_217 e_218 e_219 e_220 e_221 e_222 e_223 e_224 e_225 e_226 e_227 e_228 e_229 e_230 e_231 e_232 e_233 e_234 e_235 e_236 e_237 e_238 e_239 e_240 e_241 e_242 e_243 e_244 e_245 e_246 e_247 e_248 e_249 e_250 e_251 e_252 e_253 e_254 e_255 e_256 e_257 e_258 e_259 e_260 e_261 e_262 e_263 e_264 e_265 e_266 e_267 e_268 e_269 e_270 e_271 e_272 e_273 e_274 e_275 e_276 e_277 e_278 e_279 e_280 e_281 e_282 e_283 e_284 e_285 e_286 e_287 e_288 e_289 e_290 e_291 e_292 e_293 e_294 e_295 e_296 e_297 e_298 e_299 e_300 e_301 e_302 e_303 e_304 e_305 e_306 e_307 e_308 e_309 e_310 e_311 e_312 e_313 e_314 : Value}
    (hw0 : Own W0 W4.heap.size 44 1 A0 16 c0 (cvs (sFirst bl 16))) (ht0 : Turn W4 W0 none)
    (hK : ∀ (W : World) (A : Option Addr) (c : Nat), Own W W4.heap.size 44 1 A 64 c (cvs (sSpread bl)) → Turn W4 W none → ∀ {v11 v12 v13 v14 v99 v100 v101 v102 v103 v104 v105 v106 v107 v108 v109 v110 v111 v112 v113 v114 v115 v116 v117 v118 v119 v120 v121 v122 v123 v124 v125 v126 v127 v128 v129 v130 v131 v132 v133 v134 v135 v136 v137 v138 v139 v140 v141 v142 v143 v144 v145 v146 v147 v148 v149 v150 v151 v152 v153 v154 v155 v156 v157 v158 v159 v160 v161 : Value}, K ⟨List.toArray (e_0 :: e_1 :: e_2 :: e_3 :: e_4 :: e_5 :: e_6 :: e_7 :: .slice A 64 c :: e_9 :: e_10 :: v11 :: v12 :: v13 :: v14 :: e_15 :: e_16 :: e_17 :: e_18 :: e_19 :: e_20 :: e_21 :: e_22 :: e_23 :: e_24 :: e_25 :: e_26 :: e_27 :: e_28 :: e_29 :: e_30 :: e_31 :: e_32 :: e_33 :: e_34 :: e_35 :: e_36 :: e_37 :: e_38 :: e_39 :: e_40 :: e_41 :: e_42 :: e_43 :: e_44 :: e_45 :: e_46 :: e_47 :: e_48 :: e_49 :: e_50 :: e_51 :: e_52 :: e_53 :: e_54 :: e_55 :: e_56 :: e_57 :: e_58 :: e_59 :: e_60 :: e_61 :: e_62 :: e_63 :: e_64 :: e_65 :: e_66 :: e_67 :: e_68 :: e_69 :: e_70 :: e_71 :: e_72 :: e_73 :: e_74 :: e_75 :: e_76 :: e_77 :: e_78 :: e_79 :: e_80 :: e_81 :: e_82 :: e_83 :: e_84 :: e_85 :: e_86 :: e_87 :: e_88 :: e_89 :: e_90 :: e_91 :: e_92 :: e_93 :: e_94 :: e_95 :: e_96 :: e_97 :: e_98 :: v99 :: v100 :: v101 :: v102 :: v103 :: v104 :: v105 :: v106 :: v107 :: v108 :: v109 :: v110 :: v111 :: v112 :: v113 :: v114 :: v115 :: v116 :: v117 :: v118 :: v119 :: v120 :: v121 :: v122 :: v123 :: v124 :: v125 :: v126 :: v127 :: v128 :: v129 :: v130 :: v131 :: v132 :: v133 :: v134 :: v135 :: v136 :: v137 :: v138 :: v139 :: v140 :: v141 :: v142 :: v143 :: v144 :: v145 :: v146 :: v147 :: v148 :: v149 :: v150 :: v151 :: v152 :: v153 :: v154 :: v155 :: v156 :: v157 :: v158 :: v159 :: v160 :: v161 :: e_162 :: e_163 :: e_164 :: e_165 :: e_166 :: e_167 :: e_168 :: e_169 :: e_170 :: e_171 :: e_172 :: e_173 :: e_174 :: e_175 :: e_176 :: e_177 :: e_178 :: e_179 :: e_180 :: e_181 :: e_182 :: e_183 :: e_184 :: e_185 :: e_186 :: e_187 :: e_188 :: e_189 :: e_190 :: e_191 :: e_192 :: e_193 :: e_194 :: e_195 :: e_196 :: e_197 :: e_198 :: e_199 :: e_200 :: e_201 :: e_202 :: e_203 :: e_204 :: e_205 :: e_206 :: e_207 :: e_208 :: e_209 :: e_210 :: e_211 :: e_212 :: e_213 :: e_214 :: e_215 :: e_216 :: e_217 :: e_218 :: e_219 :: e_220 :: e_221 :: e_222 :: e_223 :: e_224 :: e_225 :: e_226 :: e_227 :: e_228 :: e_229 :: e_230 :: e_231 :: e_232 :: e_233 :: e_234 :: e_235 :: e_236 :: e_237 :: e_238 :: e_239 :: e_240 :: e_241 :: e_242 :: e_243 :: e_244 :: e_245 :: e_246 :: e_247 :: e_248 :: e_249 :: e_250 :: e_251 :: e_252 :: e_253 :: e_254 :: e_255 :: e_256 :: e_257 :: e_258 :: e_259 :: e_260 :: e_261 :: e_262 :: e_263 :: e_264 :: e_265 :: e_266 :: e_267 :: e_268 :: e_269 :: e_270 :: e_271 :: e_272 :: e_273 :: e_274 :: e_275 :: e_276 :: e_277 :: e_278 :: e_279 :: e_280 :: e_281 :: e_282 :: e_283 :: e_284 :: e_285 :: e_286 :: e_287 :: e_288 :: e_289 :: e_290 :: e_291 :: e_292 :: e_293 :: e_294 :: e_295 :: e_296 :: e_297 :: e_298 :: e_299 :: e_300 :: e_301 :: e_302 :: e_303 :: e_304 :: e_305 :: e_306 :: e_307 :: e_308 :: e_309 :: e_310 :: e_311 :: e_312 :: e_313 :: e_314 :: []), []⟩ W) :
    Code.wp Tryd.prog (sumM 1) (Exit.inBlock 8 (Exit.then K Q')) ⟨List.toArray (e_0 :: e_1 :: e_2 :: e_3 :: e_4 :: e_5 :: e_6 :: e_7 :: .slice A0 16 c0 :: e_9 :: e_10 :: .int .i64 16 :: e_12 :: e_13 :: e_14 :: e_15 :: e_16 :: e_17 :: e_18 :: e_19 :: e_20 :: e_21 :: e_22 :: e_23 :: e_24 :: e_25 :: e_26 :: e_27 :: e_28 :: e_29 :: e_30 :: e_31 :: e_32 :: e_33 :: e_34 :: e_35 :: e_36 :: e_37 :: e_38 :: e_39 :: e_40 :: e_41 :: e_42 :: e_43 :: e_44 :: e_45 :: e_46 :: e_47 :: e_48 :: e_49 :: e_50 :: e_51 :: e_52 :: e_53 :: e_54 :: e_55 :: e_56 :: e_57 :: e_58 :: e_59 :: e_60 :: e_61 :: e_62 :: e_63 :: e_64 :: e_65 :: e_66 :: e_67 :: e_68 :: e_69 :: e_70 :: e_71 :: e_72 :: e_73 :: e_74 :: e_75 :: e_76 :: e_77 :: e_78 :: e_79 :: e_80 :: e_81 :: e_82 :: e_83 :: e_84 :: e_85 :: e_86 :: e_87 :: e_88 :: e_89 :: e_90 :: e_91 :: e_92 :: e_93 :: e_94 :: e_95 :: e_96 :: e_97 :: e_98 :: e_99 :: e_100 :: e_101 :: e_102 :: e_103 :: e_104 :: e_105 :: e_106 :: e_107 :: e_108 :: e_109 :: e_110 :: e_111 :: e_112 :: e_113 :: e_114 :: e_115 :: e_116 :: e_117 :: e_118 :: e_119 :: e_120 :: e_121 :: e_122 :: e_123 :: e_124 :: e_125 :: e_126 :: e_127 :: e_128 :: e_129 :: e_130 :: e_131 :: e_132 :: e_133 :: e_134 :: e_135 :: e_136 :: e_137 :: e_138 :: e_139 :: e_140 :: e_141 :: e_142 :: e_143 :: e_144 :: e_145 :: e_146 :: e_147 :: e_148 :: e_149 :: e_150 :: e_151 :: e_152 :: e_153 :: e_154 :: e_155 :: e_156 :: e_157 :: e_158 :: e_159 :: e_160 :: e_161 :: e_162 :: e_163 :: e_164 :: e_165 :: e_166 :: e_167 :: e_168 :: e_169 :: e_170 :: e_171 :: e_172 :: e_173 :: e_174 :: e_175 :: e_176 :: e_177 :: e_178 :: e_179 :: e_180 :: e_181 :: e_182 :: e_183 :: e_184 :: e_185 :: e_186 :: e_187 :: e_188 :: e_189 :: e_190 :: e_191 :: e_192 :: e_193 :: e_194 :: e_195 :: e_196 :: e_197 :: e_198 :: e_199 :: e_200 :: e_201 :: e_202 :: e_203 :: e_204 :: e_205 :: e_206 :: e_207 :: e_208 :: e_209 :: e_210 :: e_211 :: e_212 :: e_213 :: e_214 :: e_215 :: e_216 :: e_217 :: e_218 :: e_219 :: e_220 :: e_221 :: e_222 :: e_223 :: e_224 :: e_225 :: e_226 :: e_227 :: e_228 :: e_229 :: e_230 :: e_231 :: e_232 :: e_233 :: e_234 :: e_235 :: e_236 :: e_237 :: e_238 :: e_239 :: e_240 :: e_241 :: e_242 :: e_243 :: e_244 :: e_245 :: e_246 :: e_247 :: e_248 :: e_249 :: e_250 :: e_251 :: e_252 :: e_253 :: e_254 :: e_255 :: e_256 :: e_257 :: e_258 :: e_259 :: e_260 :: e_261 :: e_262 :: e_263 :: e_264 :: e_265 :: e_266 :: e_267 :: e_268 :: e_269 :: e_270 :: e_271 :: e_272 :: e_273 :: e_274 :: e_275 :: e_276 :: e_277 :: e_278 :: e_279 :: e_280 :: e_281 :: e_282 :: e_283 :: e_284 :: e_285 :: e_286 :: e_287 :: e_288 :: e_289 :: e_290 :: e_291 :: e_292 :: e_293 :: e_294 :: e_295 :: e_296 :: e_297 :: e_298 :: e_299 :: e_300 :: e_301 :: e_302 :: e_303 :: e_304 :: e_305 :: e_306 :: e_307 :: e_308 :: e_309 :: e_310 :: e_311 :: e_312 :: e_313 :: e_314 :: []), []⟩ W0 := by
  conv => arg 2; whnf
  go_loopw [8, 11] (fun v u w' => ∃ (i nn : Nat) (A : Option Addr) (c : Nat), i = 16 + nn ∧ nn ≤ 48 ∧ v = .slice A i c ∧ u = .int .i64 (i : Int) ∧ Own w' W4.heap.size 44 1 A i c (cvs (sMore (sFirst bl 16) nn)) ∧ Turn W4 w' none) (fun _ u _ => (64 - intOf u).toNat)
  case atStart => exact ⟨16, 0, A0, c0, by omega, by omega, rfl, rfl, hw0, ht0⟩
  case round =>
    obtain ⟨i, nn, A10, c10, hi, hnn, rfl, rfl, hw6, htw6⟩ := hrel
    obtain ⟨W6, rfl⟩ : ∃ x, x = wr := ⟨wr, rfl⟩
    skip
    by_cases hn48 : nn < 48
    · --[L5
      obtain ⟨k16, hk16⟩ : ∃ k, k = i - 16 := ⟨_, rfl⟩
      obtain ⟨k15, hk15⟩ : ∃ k, k = i - 15 := ⟨_, rfl⟩
      obtain ⟨k7, hk7⟩ : ∃ k, k = i - 7 := ⟨_, rfl⟩
      obtain ⟨k2, hk2⟩ : ∃ k, k = i - 2 := ⟨_, rfl⟩
      have w16 : IntKind.i64.wrap ((i : Int) - 16) = (k16 : Int) := by rw [IntKind.wrap_i64]; omega
      have l16 : (k16 : Int) < (i : Int) := by omega
      have m16 : k16 < i := by omega
      have w15 : IntKind.i64.wrap ((i : Int) - 15) = (k15 : Int) := by rw [IntKind.wrap_i64]; omega
      have l15 : (k15 : Int) < (i : Int) := by omega
      have m15 : k15 < i := by omega
      have w7 : IntKind.i64.wrap ((i : Int) - 7) = (k7 : Int) := by rw [IntKind.wrap_i64]; omega
      have l7 : (k7 : Int) < (i : Int) := by omega
      have m7 : k7 < i := by omega
      have w2 : IntKind.i64.wrap ((i : Int) - 2) = (k2 : Int) := by rw [IntKind.wrap_i64]; omega
      have l2 : (k2 : Int) < (i : Int) := by omega
      have m2 : k2 < i := by omega
      obtain ⟨gw, rfl, hgw, hgw2⟩ := hw6.head (by omega)
      obtain ⟨x16, e16⟩ : ∃ x, x = (sMore (sFirst bl 16) nn).getD k16 0#32 := ⟨_, rfl⟩
      obtain ⟨x15, e15⟩ : ∃ x, x = (sMore (sFirst bl 16) nn).getD k15 0#32 := ⟨_, rfl⟩
      obtain ⟨x7, e7⟩ : ∃ x, x = (sMore (sFirst bl 16) nn).getD k7 0#32 := ⟨_, rfl⟩
      obtain ⟨x2, e2⟩ : ∃ x, x = (sMore (sFirst bl 16) nn).getD k2 0#32 := ⟨_, rfl⟩
      have keyQ : ∀ W : World, Own W W4.heap.size 44 1 (some ⟨gw, 0, none⟩) i c10 (cvs (sMore (sFirst bl 16) nn)) → W.cell? ⟨gw, k16, none⟩ = some (.int .u32 (cV x16)) ∧ W.cell? ⟨gw, k15, none⟩ = some (.int .u32 (cV x15)) ∧ W.cell? ⟨gw, k7, none⟩ = some (.int .u32 (cV x7)) ∧ W.cell? ⟨gw, k2, none⟩ = some (.int .u32 (cV x2)) := by
        intro W h
        refine ⟨?_, ?_, ?_, ?_⟩
        · rw [h.cell (by omega), e16]; exact cvs_at (sMore_at bl nn k16 (by omega))
        · rw [h.cell (by omega), e15]; exact cvs_at (sMore_at bl nn k15 (by omega))
        · rw [h.cell (by omega), e7]; exact cvs_at (sMore_at bl nn k7 (by omega))
        · rw [h.cell (by omega), e2]; exact cvs_at (sMore_at bl nn k2 (by omega))
      have d16 := cV_bd x16
      have d15 := cV_bd x15
      have d7 := cV_bd x7
      have d2 := cV_bd x2
      have bA := cV_bd (sRot x15 7)
      have bB := cV_bd (sRot x15 18)
      have bC := cV_bd (sRot x2 17)
      have bD := cV_bd (sRot x2 19)
      have hs0 : bits .xor .u32 (bits .xor .u32 (cV (sRot x15 7)) (cV (sRot x15 18))) (cV x15 / (8 : Int)) = cV (sShi x15 7 18 3) := by rw [cV_xor, cS3, cV_xor]; rfl
      have hs1 : bits .xor .u32 (bits .xor .u32 (cV (sRot x2 17)) (cV (sRot x2 19))) (cV x2 / (1024 : Int)) = cV (sShi x2 17 19 10) := by rw [cV_xor, cS10, cV_xor]; rfl
      have bs0 := cV_bd (sShi x15 7 18 3)
      have bs1 := cV_bd (sShi x2 17 19 10)
      have hnx : sNext (sMore (sFirst bl 16) nn) (16 + nn) = ((x16 + sShi x15 7 18 3) + x7) + sShi x2 17 19 10 := by
        rw [← hi]
        unfold sNext
        rw [← hk16, ← hk15, ← hk7, ← hk2, ← e16, ← e15, ← e7, ← e2]
      have HH := hid (And.intro hi (And.intro hnx (And.intro hs0 hs1)))
      have i64' : (i : Int) < 64 := by omega
      clear hi hk16 hk15 hk7 hk2 e16 e15 e7 e2 hnx hs0 hs1
      obtain ⟨q16, q15, q7, q2⟩ := keyQ _ hw6
      go_wp2_with fail
      go_quiet (first
        | (go_at_call_of 20 (Value.int .u64 7); exact quiet_eq (rturn_of _ x15 rfl _ 7 rfl (by decide) (by decide) _))
        | (go_at_call_of 20 (Value.int .u64 18); exact quiet_eq (rturn_of _ x15 rfl _ 18 rfl (by decide) (by decide) _)))
      rw [HH.out.2.2.1]
      have hw7 := hw6.drewN nq
      have htw7 := htw6.drewN nq
      clear q16 q15 q7 q2 hw6 htw6
      generalize W6.drewN nq = W7 at *
      obtain ⟨q16, q15, q7, q2⟩ := keyQ _ hw7
      go_wp2_with fail
      go_quiet (first
        | (go_at_call_of 20 (Value.int .u64 17); exact quiet_eq (rturn_of _ x2 rfl _ 17 rfl (by decide) (by decide) _))
        | (go_at_call_of 20 (Value.int .u64 19); exact quiet_eq (rturn_of _ x2 rfl _ 19 rfl (by decide) (by decide) _)))
      rw [HH.out.2.2.2]
      have hw8 := hw7.drewN nq
      have htw8 := htw7.drewN nq
      clear q16 q15 q7 q2 hw7 htw7
      generalize W7.drewN nq = W8 at *
      obtain ⟨q16, q15, q7, q2⟩ := keyQ _ hw8
      go_wp2_with fail
      go_quiet (fail)
      have hw9 := hw8.drewN nq
      have htw9 := htw8.drewN nq
      clear q16 q15 q7 q2 hw8 htw8
      generalize W8.drewN nq = W9 at *
      have hsz9 := htw9.size
      go_wp2_with (at_builtin; refine wp_app (base := W4.heap.size) rfl _ _ _ rfl elW rfl rfl (hw9.alloc _) (Rd.lit _ _ _) (by repeat (first | exact ones_nil | refine ones_cons rfl ?_)) (by unfold maxLen; first | omega | (simp; done) | (simp; omega)) (by first | omega | (simp; done) | (simp; omega)) (by first | omega | (simp; done) | (simp; omega)) ?_; intro A11 c11 w11 ho11 ht11 hb11)
      have ho12 : Own w11 W4.heap.size 44 1 A11 (i + 1) c11 (cvs (sMore (sFirst bl 16) (nn + 1))) := by
        refine cast (congrArg (fun L => Own w11 W4.heap.size 44 1 A11 (i + 1) c11 L) ?_) ho11
        rw [sMore, sFirst_len, cvs_append, HH.out.2.1]
        congr 1
        refine congrArg (fun z => [Value.int .u32 z]) ?_
        simp only [← cV_add]
        omega
      have htw12 : Turn W4 w11 none := (htw9.alloc _).new ht11 (fun g' hg' => (hw9.block g' hg').1)
      have hi := HH.out.1
      refine ⟨⟨i + 1, nn + 1, A11, c11, by omega, by omega, rfl, rfl, ho12, htw12⟩, ?_⟩
      simp [intOf]; omega
      --]L5
    · obtain rfl : nn = 48 := by omega
      obtain rfl : i = 64 := by omega
      rw [show sMore (sFirst bl 16) 48 = sSpread bl from rfl] at hw6
      clear hi hnn
      go_wp2_with fail
      exact hK _ _ _ hw6 htw6

end Go.Proofs.YtfmighjblppceaaDoor
