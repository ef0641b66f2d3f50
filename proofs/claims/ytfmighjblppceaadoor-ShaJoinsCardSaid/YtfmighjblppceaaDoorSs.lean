/-
  Layer 3: the document's hash (contract).
-/
import Derived.Test.YtfmighjblppceaaDoorSn
namespace Go.Proofs.YtfmighjblppceaaDoor
open Go.RowKit

set_option maxRecDepth 100000 in
set_option maxHeartbeats 60000000 in
theorem rsum_any (A : Option Addr) (n c : Nat) (l : List UInt8) (B : Nat) (w : World) (hr : Rd w B 1 A n (vbs l)) (hB : B ≤ w.heap.size) (hN : n ≤ 1048576) :
    Calls Tryd.prog 10 #[.slice A n c] w fun e w' => e = .returned (.agg (vbs (sHash l)).toArray) ∧ Turn w w' none := by
  have hT := Turn.refl w none
  obtain ⟨X, hX⟩ : ∃ X, X = vbs (sHash l) := ⟨_, rfl⟩
  have hX1 : X.length = 32 := by rw [hX, vbs_len, sHash_len]
  have hX2 : ∀ u ∈ X, u.oneCell' = true := by rw [hX]; exact vbs_one _
  rw [← hX]
  have HX := hid hX
  clear hX
  have hml := hr.len
  rw [vbs_len] at hml
  go_enter Tryd.func10, Tryd.ntmps10
  go_wp2_with (first
    | (refine wp_al rfl 25 rfl _ nul32 ?_; intro gr w1 hgr hres ht1; have hT := hT.trans ht1; rw [cells_agg] at hres)
    | (go_at_call 18; refine (rwords_any _).mono ?_; rintro e w2 ⟨gs, rfl, hgs, hs, ht2⟩; have hT := hT.trans ht2)
    | (go_at_call 19; refine (rroots_any _).mono ?_; rintro e w3 ⟨gk, rfl, hgk, hk, ht3⟩; have hT := hT.trans ht3)
    | (at_builtin; refine wp_app (base := w3.heap.size) rfl _ _ _ rfl elB rfl rfl (ho.alloc _) (Rd.lit _ _ _) (by repeat (first | exact ones_nil | refine ones_cons rfl ?_)) (by unfold maxLen; first | omega | (simp; done) | (simp; omega)) (by first | omega | (simp; done) | (simp; omega)) (by first | omega | (simp; done) | (simp; omega)) ?_; intro A5 c5 w5 ho5 ht5 hb5; have hT5 := (hT4.alloc _).new ht5 (fun g' hg' => (ho.block g' hg').1))
    | (at_builtin; refine wp_app rfl _ _ _ rfl elB rfl rfl (Own.made w3 w3.heap.size _ 1 0 #[] (Nat.le_refl _) (by decide) rfl) ((hr.turn0 hT hB).alloc (Nat.le_trans hB hT.size) _) (vbs_one l) (by unfold maxLen; first | omega | (simp; done) | (simp; omega)) (by first | omega | (simp; done) | (simp; omega)) (by first | omega | (simp; done) | (simp; omega)) ?_; intro A4 c4 w4 ho ht4 hb4; rw [Nat.zero_add, List.nil_append] at ho; have hT4 : Turn w3 w4 none := ((Turn.refl w3 none).alloc _).new ht4 (fun g' hg' => (by simp [Go.Proofs.YtfmighjblppceaaDoor.blk] at hg'; omega)); have hs4 := hT4.size))
  have hgr := hres.lt
  have hgs2 := hs.lt
  have hgk2 := hk.lt
  have e5 : vbs l ++ [Value.int .u8 128] = vbs (l ++ 128 :: List.replicate 0 0) := by
    rw [vbs_append]
    rfl
  rw [e5] at ho5
  clear hb4 hb5 ht4 ht5 e5 ho hT4
  obtain ⟨z, hz⟩ : ∃ z, z = sZeros n := ⟨_, rfl⟩
  have hz1 : (n + 1 + z) % 64 = 56 := by rw [hz]; unfold sZeros; omega
  have hz2 : z < 64 := by rw [hz]; exact sZeros_lt n
  have HZ := hid hz
  clear hz
  go_loopw [5] (fun v wr => ∃ (q : Nat) (A' : Option Addr) (c' : Nat), q ≤ z ∧ v = .slice A' (n + 1 + q) c' ∧ Own wr w3.heap.size 5 1 A' (n + 1 + q) c' (vbs (l ++ 128 :: List.replicate q 0)) ∧ Turn w3 wr none) (fun v _ => match v with | .slice _ m _ => n + 65 - m | _ => 0)
  case atStart => exact ⟨0, A5, c5, by omega, rfl, ho5, hT5⟩
  case round =>
    obtain ⟨q, A', c', hq, rfl, ho, hTr⟩ := hrel
    have hTs := hTr.size
    clear ho5 hT5
    by_cases hqz : q < z
    · have hm : ¬ ((n : Int) + 1 + (q : Int)) % 64 = 56 := by omega
      go_wp2_with (at_builtin; refine wp_app (base := w3.heap.size) rfl _ _ _ rfl elB rfl rfl (ho.alloc _) (Rd.lit _ _ _) (by repeat (first | exact ones_nil | refine ones_cons rfl ?_)) (by unfold maxLen; first | omega | (simp; done) | (simp; omega)) (by first | omega | (simp; done) | (simp; omega)) (by first | omega | (simp; done) | (simp; omega)) ?_; intro A6 c6 w6 ho6 ht6 hb6)
      have e6 : vbs (l ++ 128 :: List.replicate q 0) ++ [Value.int .u8 0] = vbs (l ++ 128 :: List.replicate (q + 1) 0) := by
        rw [List.replicate_succ', ← List.cons_append, ← List.append_assoc, vbs_append _ [0]]
        rfl
      rw [e6] at ho6
      refine ⟨⟨q + 1, A6, c6, by omega, rfl, ho6, (hTr.alloc _).new ht6 (fun g' hg' => (ho.block g' hg').1)⟩, ?_⟩
      simp; omega
    · have hqq : q = z := by omega
      have hm : ((n : Int) + 1 + (q : Int)) % 64 = 56 := by omega
      have HQ := hid hqq
      clear hqz hqq
      go_wp2_with fail
      clear hm
      go_loopw [5, 6] (fun v i w7 => ∃ (p : Nat) (A7 : Option Addr) (c7 : Nat), p ≤ 8 ∧ v = .slice A7 (n + 1 + q + p) c7 ∧ i = .int .i64 (7 - (p : Int)) ∧ Own w7 w3.heap.size 5 1 A7 (n + 1 + q + p) c7 (vbs (l ++ 128 :: List.replicate q 0 ++ (sLen n).take p)) ∧ Turn w3 w7 none) (fun _ i _ => (intOf i + 1).toNat)
      case atStart => exact ⟨0, A', c', by omega, rfl, rfl, by simpa using ho, hTr⟩
      case round =>
        obtain ⟨p, A7, c7, hp, rfl, rfl, ho7, hT7⟩ := hrel
        have hTs7 := hT7.size
        clear ho hTr hTs
        by_cases hp8 : p < 8
        · obtain ⟨k, hk⟩ : ∃ k, k + p = 7 := ⟨7 - p, by omega⟩
          have hks : (7 - (p : Int)) = (k : Int) := by omega
          have hkn : (k : Int) - 1 = 7 - ((p + 1 : Nat) : Int) := by omega
          have hk8 : k < 8 := by omega
          have hat := hid (sLen_at n p (8 * k) hp8 (by omega))
          rw [hks]
          have hkn2 := hid hkn
          have Hk := hid hk
          clear hks hkn hk
          go_wp2_with (at_builtin; refine wp_app (base := w3.heap.size) rfl _ _ _ rfl elB rfl rfl (ho7.alloc _) (Rd.lit _ _ _) (by repeat (first | exact ones_nil | refine ones_cons rfl ?_)) (by unfold maxLen; first | omega | (simp; done) | (simp; omega)) (by first | omega | (simp; done) | (simp; omega)) (by first | omega | (simp; done) | (simp; omega)) ?_; intro A8 c8 w8 ho8 ht8 hb8)
          rw [hkn2.out]
          have e8 : vbs (l ++ 128 :: List.replicate q 0 ++ (sLen n).take p) ++ [Value.int .u8 ((n : Int) * 8 / 2 ^ (8 * k) % 256)] = vbs (l ++ 128 :: List.replicate q 0 ++ (sLen n).take (p + 1)) := by
            rw [take_nxt hat.out, ← List.append_assoc, vbs_append _ [_]]
            congr 1
          rw [e8] at ho8
          have hk := Hk.out
          refine ⟨⟨p + 1, A8, c8, by omega, rfl, rfl, ho8, (hT7.alloc _).new ht8 (fun g' hg' => (ho7.block g' hg').1)⟩, ?_⟩
          simp [intOf]; omega
        · have hneg : (7 - (p : Int)) = -1 := by omega
          obtain ⟨M, hM⟩ : ∃ M, M = sPad l := ⟨_, rfl⟩
          have hMl : l ++ 128 :: List.replicate q 0 ++ (sLen n).take p = M := by
            rw [hM, sPad, sEnd, hml, ← HZ.out, HQ.out, List.take_of_length_le (by rw [sLen_len]; omega), List.append_assoc]
          rw [hMl] at ho7
          obtain ⟨mm, hmm⟩ : ∃ mm, mm = n + 1 + q + p := ⟨_, rfl⟩
          rw [hneg, ← hmm]
          rw [← hmm] at ho7
          have hMm : M.length = mm := by have := ho7.len; rw [vbs_len] at this; exact this
          obtain ⟨J, hJ⟩ : ∃ J, J = mm / 64 := ⟨_, rfl⟩
          have hmJ : mm = 64 * J := by have := sPad_len l; rw [← hM] at this; omega
          have hmb : mm ≤ 1048700 := by omega
          have hXo : X = vbs (sOut (sGo M J)) := by rw [HX.out, hJ, ← hMm, hM]; rfl
          have HXo := hid hXo
          obtain ⟨gm, rfl, hgm, hgm2⟩ := ho7.head (by omega)
          have hmc := ho7.cap
          unfold maxLen at hmc
          have hs7 := (hs.turn0 ht3).turn0 hT7
          have hk7 := hk.turn0 hT7
          have hres7 := ((hres.turn0 ht2).turn0 ht3).turn0 hT7
          have hgsk := hs.lt
          have hT73 := hT.trans hT7
          have HJ := hid (And.intro hM (And.intro hMm (And.intro hJ hmJ)))
          clear hMl hmm hmJ hM hMm hJ hXo HX hneg hp hp8 HQ HZ hq hz1 hz2 hr hml hTs7 hres hs hk ht2 ht3 hT hT7
          go_wp2_with fail
          obtain ⟨W3, rfl⟩ : ∃ x, x = wr := ⟨wr, rfl⟩
          refine of_code (C' := sumL 2) (by kernel_rfl) (rblocks_loop (gs := gs) (gk := gk) (gm := gm) ho7 hgm2 hs7 hk7 (by omega) (by omega) hmb hmc (hid ⟨HJ.out.2.1, HJ.out.2.2.2⟩) ?_)
          intro W4 hs ht u7 u8 u9 u10 u11 u12 u13 u14 u15 u16 u17 u18 u19 u52 u53 u54 u55 u56 u57 u58 u59 u60 u61 u62 u63 u64 u65 u66 u67 u68 u69 u70 u71 u72 u73 u74 u75 u76 u77 u78 u79 u80 u81 u82 u83 u84 u85 u86 u87 u88 u89 u90 u91 u92 u93 u94 u95 u96 u97 u98 u99 u100 u101 u102 u103 u104 u105 u106 u107 u108 u109 u110 u111 u112 u113 u114 u115 u116 u117 u118 u119 u120 u121 u122 u123 u124 u125 u126 u127 u128 u129 u130 u131 u132 u133 u134 u135 u136 u137 u138 u139 u140 u141 u142 u143 u144 u145 u146 u147 u148 u149 u150 u151 u152 u153 u154 u155 u156 u157 u158 u159 u160 u161 u162 u163 u164 u165 u166 u167 u168 u169 u170 u171 u172 u173 u174 u175 u176 u177 u178 u179 u180 u181 u182 u183 u184 u185 u186 u187 u188 u189 u190 u191 u192 u193 u194 u195 u196 u197 u198 u199 u200 u201 u202 u203 u204 u205 u206 u207 u208 u209 u210 u211 u212 u213 u214 u215 u216 u217 u218 u219 u220 u221 u222 u223 u224 u225 u226 u227 u228 u229 u230 u231 u232 u233 u234 u235 u236 u237 u238 u239 u240 u241 u242 u243 u244 u245 u246 u247 u248 u249 u250 u251 u252 u253 u254 u255 u256 u257 u258 u259 u260 u261 u262 u263 u264 u265 u266 u267 u268 u269 u270 u271 u272 u273 u274 u275 u276 u277 u278 u279 u280 u281 u282 u283 u284 u285 u286 u287 u288 u289 u290 u291 u292 u293 u294
          have hT74 := hT73.new ht (by simp; omega)
          have hres4 := hres7.turn ht (by simp; omega)
          obtain ⟨s, hs0⟩ : ∃ s, s = sGo M J := ⟨_, rfl⟩
          rw [← hs0] at hs
          have HY := hid (show X = vbs (sOut s) by rw [hs0]; exact HXo.out)
          clear hs0
          go_wp2_with (first
            | (refine wp_bd rfl 25 _ rfl _ rfl (vbs (List.replicate 32 0)).toArray (by kernel_rfl) ?_)
            | (refine wp_al rfl 25 rfl _ nul32 ?_; intro go w5 hgo hb5 ht5; have hs5 := hs.turn0 ht5; have hgso : gs < go := (by rw [← hgo]; exact hs.lt); have hgro : gr < go := (by rw [← hgo]; exact hres4.lt); have hT75 := hT74.trans ht5; have hres5 := hres4.turn0 ht5; rw [cells_agg] at hb5)
            | (refine wp_st (xs := vbs (List.replicate 32 0)) rfl 25 _ _ rfl rfl rfl hb5 rfl (sz32 (by rw [vbs_len, List.length_replicate])) (vbs_one _) ?_; intro w6 hb6 ht6; have hT76 := hT75.new ht6 (by have := hT74.size; simp; omega); have hs6 := hs5.turn ht6 (by simp; omega); have hres6 := hres5.turn ht6 (by simp; omega)))
          have hgow : w.heap.size ≤ go := by have h1 := hT74.size; omega
          clear hb5 hs5 hres5
          go_loopw [21] (fun u w' => ∃ i : Nat, i ≤ 32 ∧ u = .int .i64 (i : Int) ∧ Blk w' go 25 (vbs (sOutBy s i)).toArray ∧ Turn w6 w' (some go)) (fun u _ => (32 - intOf u).toNat)
          case atStart => exact ⟨0, by omega, rfl, by rw [sOutBy_zero]; exact hb6, Turn.refl w6 _⟩
          case round =>
            obtain ⟨i, hi, rfl, hb, ht7⟩ := hrel
            obtain ⟨W8, rfl⟩ : ∃ x, x = wr := ⟨wr, rfl⟩
            by_cases hi32 : i < 32
            · obtain ⟨x, hx, hout⟩ := sOut_at s i hi32
              obtain ⟨k, hk⟩ : ∃ k, k = 24 - 8 * (i % 4) := ⟨_, rfl⟩
              rw [← hk] at hout
              have hki : 24 - 8 * ((i : Int) % 4) = (k : Int) := by omega
              have hk32 : k < 32 := by omega
              have hs8 := hs6.turn ht7 (by simp; omega)
              have hc := hs8.ats (cvs_at hx)
              have hbx := cV_bd x
              have hbl2 : (vbs (sOutBy s i)).length = 32 := by rw [vbs_len, sOutBy_len s i hi]
              have hd := hb.ats (j := i) (List.getElem?_eq_getElem (by omega))
              have hf := hb.frozen i
              have Hout := hid hout
              clear hk hout hx
              go_wp2_with fail
              have hb9 : Blk (W8.setCell ⟨go, i, none⟩ (.int .u8 (cV x / 2 ^ k % 256))) go 25 (vbs (sOutBy s (i + 1))).toArray := by
                have h5 := hb.sets i (vb (UInt8.ofNat (x.toNat / 2 ^ k)))
                rw [vbs_set, sOutBy_next hi32 Hout.out] at h5
                have e : vb (UInt8.ofNat (x.toNat / 2 ^ k)) = .int .u8 (cV x / 2 ^ k % 256) := by
                  rw [vb_ofNat]
                  congr 1
                rw [e] at h5
                exact h5
              refine ⟨⟨i + 1, by omega, rfl, hb9, ht7.trans (Blk.setTurn _ go _ _)⟩, ?_⟩
              simp [intOf]; omega
            · have hii : i = 32 := by omega
              rw [hii, sOutBy_all, ← HY.out] at hb
              clear hii hi
              have hr7 := hres6.turn ht7 (by simp; omega)
              go_wp2_with (first
                | (refine wp_ld rfl 25 _ rfl rfl hb (Sub.all X) Tryd.underlying25 rfl (sz32 hX1) ?_)
                | (refine wp_st (xs := X) rfl 25 _ _ rfl rfl rfl hr7 (by rw [List.size_toArray, vbs_len, hX1]; rfl) (sz32 hX1) hX2 ?_; intro w9 hb9 ht9))
              refine ret_cell rfl rfl rfl hb9 Tryd.underlying25 rfl (sz32 hX1) ⟨rfl, ?_⟩
              exact (hT76.new ht7 (by simp; omega)).new ht9 (by have := hT.size; simp; omega)
end Go.Proofs.YtfmighjblppceaaDoor
