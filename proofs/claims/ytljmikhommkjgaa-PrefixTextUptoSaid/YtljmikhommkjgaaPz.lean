/-
  Layer 1: the walk of PrefixText.
-/
import Derived.Test.YtljmikhommkjgaaPy
import Derived.Deep.RegionWith
import Derived.BigQuiet
import Derived.Deep.QuietTactic
import Derived.Deep.DeepCutAuto
namespace Go.Proofs.Ytljmikhommkjgaa
open Go.RowKit

set_option maxRecDepth 100000 in
set_option maxHeartbeats 1600000 in
theorem text_walk (s : ByteArray) (A : Option Addr) (n c : Nat) (most : Int) (l : List UInt8) (w : World) (hr : Rd w w.heap.size 1 A n (vbs l)) (hnc : n ≤ c) (hc : c ≤ maxLen) (hs : s.size ≤ 1048576) (hn : n ≤ 1048576)
    (h2 : -9223372036854775808 ≤ most) (h3 : most ≤ 9223372036854775807) :
    Calls Try.prog 7 #[.string s, .slice A n c, .int .i64 most] w fun e w' => e = .returned (.bool true) ∧ Turn w w' none := by
  obtain ⟨L, hL⟩ : ∃ L, L = l ++ pText s.data.toList := ⟨_, rfl⟩
  have HL := hid hL
  clear hL
  have hk := pSize_le s.size
  have hT := (Turn.refl w none).drew
  go_enter Try.func7, Try.ntmps7
  go_upto_region 1 with fail
  go_cut [25] (fun v w' => v = .bool false ∧ Turn w w' none)
  case first =>
    go_region_with (first
      | (go_at_call 11; refine (own_any _ _ _ l w.heap.size _ (hr.turn0 hT (Nat.le_refl _)) hT.size (by omega)).mono ?_; rintro e w1 ⟨A1, c1, rfl, ho1, ht⟩; have hT := hT.trans ht; (try have ho3 := ho3.turn0 ht); clear ht)
      | (go_at_call 18; refine (putTextX_any _ _ _ _ l _ _ ho1.rd (Nat.le_refl _) (by omega)).mono ?_; rintro e w2 ⟨A2, c2, rfl, ho2, ht⟩; rw [← HL.out] at ho2; have hT := hT.trans ht; (try have ho3 := ho3.turn0 ht); have hs2 := str_run w2 (c := c2) ho2.rd; (try have hs3 := str_run w2 (c := c3) ho3.rd); clear ht)
      | (go_at_call 19; refine (rtext_any _ _ _ _ l w.heap.size _ (hr.turn0 hT (Nat.le_refl _)) hT.size (by omega)).mono ?_; rintro e w3 ⟨A3, c3, rfl, ho3, ht⟩; rw [← HL.out] at ho3; have hT := hT.trans ht; (try have ho1 := ho1.turn0 ht); (try have ho2 := ho2.turn0 ht); have hs3 := str_run w3 (c := c3) ho3.rd; (try have hs2 := str_run w3 (c := c2) ho2.rd); clear ht))
    all_goals
      clear ho1 ho2 ho3 hs2 hs3
      go_wp2_with fail
      go_meet
      exact ⟨rfl, hT⟩
  case rest =>
    clear hT
    rename_i wa
    obtain ⟨rfl, hT⟩ := hcut
    go_wp2_with fail
    refine (own_any _ _ _ l w.heap.size _ (hr.turn0 hT (Nat.le_refl _)) hT.size (by omega)).mono ?_
    rintro e w4 ⟨A4, c4, rfl, ho4, ht⟩
    have hT := hT.trans ht
    clear ht
    go_wp2_with fail
    refine (takeTextX_any _ _ _ _ l _ _ ho4.rd (Nat.le_refl _) ho4.cap.1 ho4.cap.2 (by omega) h2 h3).mono ?_
    rintro e w5 ⟨A5, m5, c5, rfl, ho5, ht⟩
    have hT := hT.trans ht
    clear ht
    go_wp2_with fail
    refine (rtakeText_any _ _ _ _ l _ _ (hr.turn0 hT (Nat.le_refl _)) hnc hc (by omega) h2 h3).mono ?_
    rintro e w' ⟨rfl, rfl⟩
    have ho5L := hid ho5.len
    obtain ⟨t, k, f, htt⟩ : ∃ t k f, pTakeText l most = (t, k, f) := ⟨_, _, _, rfl⟩
    have HTT := hid htt
    rw [htt]
    clear htt
    go_upto_region 5 with fail
    go_cut [70] (fun v w' => v = .bool false ∧ Turn w w' none)
    case first =>
      by_cases hf : f = 0
      · have hok := pTakeText_ok (l := l) (most := most) (by rw [HTT.out]; exact hf)
        rw [HTT.out] at hok
        obtain ⟨hok1, _⟩ := hok
        have hl := hr.len
        rw [vbs_len] at hl
        simp only [hl] at hok1
        have hrest : pRestText l most = l.drop k := by unfold pRestText; rw [HTT.out, if_pos hf]
        rw [hrest] at ho5
        have hr5 := hr.turn0 hT (Nat.le_refl _)
        have s1 := fun q => str_run (w5.drewN q) (c := c5) (ho5.rd.drewN q)
        have s2 := fun q => str_run (w5.drewN q) (c := c - k) ((hr5.cutB (c := c) hok1 hnc).drewN q)
        have hkc : k ≤ c := by omega
        have hfz : ((f : Int) != 0) = false := by rw [hf]; rfl
        have hfz2 : ((f : Int) == 0) = true := by rw [hf]; rfl
        clear hl hrest hf
        go_quiet (fail)
        clear s2
        generalize (if c = k then A else Option.map (fun a => a.add k) A) = A9
        go_wp2_with fail
        go_meet
        exact ⟨rfl, hT.drewN _⟩
      · have hrest : pRestText l most = [] := by unfold pRestText; rw [HTT.out, if_neg hf]
        rw [hrest] at ho5L
        have hm0 : m5 = 0 := by have := ho5L.out; simpa [vbs] using this.symm
        subst hm0
        have hfz : ((f : Int) != 0) = true := by rw [bne_iff_ne]; omega
        have hfz2 : ((f : Int) == 0) = false := by rw [beq_eq_false_iff_ne]; omega
        clear hrest ho5 ho4 hf
        go_quiet (fail)
        go_wp2_with fail
        go_meet
        exact ⟨rfl, hT.drewN _⟩
    case rest =>
      clear hT ho4 ho5 HTT
      obtain ⟨rfl, hT⟩ := hcut
      go_wp2_with fail
      refine (putTextX_any _ _ _ _ [] _ _ (Rd.none_ _ w.heap.size 1 0) hT.size (by omega)).mono ?_
      rintro e w6 ⟨A6, c6, rfl, ho6, ht⟩
      have hz6 := ht.size
      have hzc := hT.size
      have hT := hT.trans ht
      clear ht
      have hr6 := hr.turn0 hT (Nat.le_refl _)
      rw [List.nil_append, Nat.zero_add] at ho6
      go_wp2_with (at_builtin; refine wp_app rfl _ _ _ rfl elB rfl rfl ho6 hr6 (vbs_one l) (by unfold maxLen; first | omega | (simp; done) | (simp; omega)) (by first | omega | (simp; done) | (simp; omega)) hz6 ?_; intro A7 c7 w7 ho7 ht7 hb7)
      rw [← vbs_append] at ho7
      have hT := hT.new ht7 (fun g hg => by have := ho6.block g hg; omega)
      have hsl : s.data.toList.length = s.size := by rw [Array.length_toList]; rfl
      have e8 := pTakeText_put s.data.toList l (by omega)
      have e9 := pRestText_put s.data.toList l (by omega)
      rw [hsl] at e8 e9
      have E8 := hid e8
      clear e8 hsl
      refine (takeTextX_any _ _ _ _ _ _ _ ho7.rd (Nat.le_refl _) ho7.cap.1 ho7.cap.2 (by omega) (by omega) (by omega)).mono ?_
      rintro e w8 ⟨A8, m8, c8, rfl, ho8, ht⟩
      rw [E8.out]
      rw [e9] at ho8
      have hT := hT.trans ht
      clear ht e9 hr6
      have s1 := str_run w8 (c := c8) ho8.rd
      have s2 := str_run w8 (c := c) (hr.turn0 hT (Nat.le_refl _))
      have e10 : ((txt s.data.toList).toList == s.toList) = true := by rw [txt_of]; simp
      go_wp2_with (go_at_call 15; refine (lives_any _).mono ?_; rintro e w9 ⟨rfl, ht9⟩)
      go_ret
      exact ⟨rfl, hT.trans ht9⟩
end Go.Proofs.Ytljmikhommkjgaa
