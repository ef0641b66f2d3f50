import Derived.Test.YtgigiecdpjchkaaGreatDoorR8
import Derived.Test.YtgigiecdpjchkaaGreatDoorR1
import Derived.Lib.ItoaLen
import Derived.Lib.UnsafeStr
import Derived.Deep.RegionHeld3
import Derived.Test.YtgigiecdpjchkaaGreatDoorR3
import Derived.Test.YtgigiecdpjchkaaGreatDoorR4
set_option linter.unusedSimpArgs false
set_option linter.unusedVariables false
set_option linter.unusedSectionVars false
set_option maxRecDepth 100000
set_option maxHeartbeats 6400000
namespace Go.Proofs.YtgigiecdpjchkaaGreatDoor
open Go.RowKit
def WPost (b : WB) (w : World) (nx : Nat) (o : Option St3) (e : Ending) (w' : World) : Prop := match o with
 | some st => nx ≤ st.2.1 ∧ Uw b w st.1 st.2.1 st.2.2 e w'
 | none => Gw b w e w'
section
variable {w : World} {b : WB} {t : List UInt8} {nx dp : Nat}
theorem WS.lit (h : WS w b t nx dp) (cs : Array Value) : WS (w.alloc (.cells cs 9)) b t nx dp := h.turn0 ((Turn.refl w none).alloc _)
theorem Fw.lit (b : WB) (w : World) (hb : b.base ≤ w.heap.size) (cs : Array Value) : Fw b.base w (w.alloc (.cells cs 9)) := Fw.of_turn ((Turn.refl w none).alloc _) hb
theorem puts_any (h : WS w b t nx dp) (ps : List (List UInt8)) (n : Nat) (hn : ps.length = n) (hn4 : n ≤ 1000) (hs : ∀ s ∈ ps, s.length ≤ 140737488355328) :
  Calls Tryz.prog 116 #[.pointer (some ⟨b.pB, 0, none⟩), .slice (some ⟨w.heap.size, 0, none⟩) n n] (w.alloc (.cells (vss ps).toArray 9)) fun e w' =>
   if (t ++ ps.flatten).length ≤ 4096 then e = .returned (.tuple #[]) ∧ WS w' b (t ++ ps.flatten) nx dp ∧ Fw b.base w w' else Gw b w e w' := by
 refine (put_any (h.lit _) (Blk.new w _ _) hn hn4 hs).mono ?_
 intro e w' hp
 unfold PutPost at hp
 split at hp
 ·rename_i hq
  rw [if_pos hq]
  exact ⟨hp.1, hp.2.1, (Fw.lit b w h.hw _).trans hp.2.2⟩
 ·rename_i hq
  rw [if_neg hq]
  exact ⟨hp.1, (Fw.lit b w h.hw _).trans hp.2⟩
theorem put_ok (h : WS w b t nx dp) (s : List UInt8) (hs : s.length ≤ 140737488355328) (hq : (t ++ s).length ≤ 4096) :
  Calls Tryz.prog 116 #[.pointer (some ⟨b.pB, 0, none⟩), .slice (some ⟨w.heap.size, 0, none⟩) 1 1] (w.alloc (.cells #[.string (txt s)] 9)) (Uw b w (t ++ s) nx dp) := by
 refine (puts_any h [s] 1 rfl (by decide) (by simpa using hs)).mono ?_
 intro e w' hp
 rw [show ([s] : List (List UInt8)).flatten = s by simp, if_pos hq] at hp
 exact hp
theorem put_no (h : WS w b t nx dp) (s : List UInt8) (hs : s.length ≤ 140737488355328) (hq : ¬(t ++ s).length ≤ 4096) :
  Calls Tryz.prog 116 #[.pointer (some ⟨b.pB, 0, none⟩), .slice (some ⟨w.heap.size, 0, none⟩) 1 1] (w.alloc (.cells #[.string (txt s)] 9)) (Gw b w) := by
 refine (puts_any h [s] 1 rfl (by decide) (by simpa using hs)).mono ?_
 intro e w' hp
 rw [show ([s] : List (List UInt8)).flatten = s by simp, if_neg hq] at hp
 exact hp
theorem symbols_any (h : WS w b t nx dp) (A : Option Addr) (n c : Nat) (l : List (List UInt8)) (hl : l.length = n) (hr : Rd w b.base 1 A n (vss l)) (hn : n ≤ 1000000) (hs : ∀ s ∈ l, s.length ≤ 140737488355328) :
  Calls Tryz.prog 150 #[.pointer (some ⟨b.pB, 0, none⟩), .slice A n c] w (WPost b w nx (cSyms l (t, nx, dp))) := by
 obtain ⟨o, ho⟩ : ∃ o, o = cSyms l (t, nx, dp) := ⟨_, rfl⟩
 rw [← ho]
 unfold cSyms at ho
 have HO := hid ho
 clear ho
 go_enter Tryz.func150, Tryz.ntmps150
 go_wp2_with fail
 by_cases hq : (t ++ [60]).length ≤ 4096
 case neg =>
  refine (put_no h [60] (by decide) hq).mono ?_
  rintro e w1 ⟨rfl, f1⟩
  unfold giveV
  refine ⟨rfl, ?_⟩
  rw [HO.out, wpt_no hq]
  exact ⟨rfl, f1⟩
 refine (put_ok h [60] (by decide) hq).mono ?_
 rintro e w1 ⟨rfl, h1, f1⟩
 have ho := HO.out
 rw [wpt_yes hq] at ho
 simp only [Option.bind_some] at ho
 have HI : Hid (∃ t1, WS w1 b t1 nx dp ∧ o = (cSymG true l (t1, nx, dp)).bind (fun st2 => wpt [62] st2)) := hid ⟨_, h1, ho⟩
 clear HO ho h1 hq
 go_wp2
 go_loopw [11] (fun i wr => ∃ j : Nat, j ≤ n ∧ i = .int .i64 (j : Int) ∧ Hid (∃ t1, WS wr b t1 nx dp ∧ o = (cSymG (j == 0) (l.drop j) (t1, nx, dp)).bind (fun st2 => wpt [62] st2)) ∧ Hid (Fw b.base w wr)) (fun i _ => (n - intOf i).toNat)
 case atStart => exact ⟨0, by omega, rfl, HI, hid f1⟩
 case round =>
  obtain ⟨j, hj, rfl, HW, HF⟩ := hrel
  obtain ⟨t1, hW, ho⟩ := HW.out
  by_cases hjn : j < n
  ·obtain ⟨s, hsj⟩ : ∃ s, l[j]? = some s := ⟨l[j]'(by omega), List.getElem?_eq_getElem (by omega)⟩
   have hdr : l.drop j = s :: l.drop (j + 1) := by
    rw [List.drop_eq_getElem_cons (by omega)]
    congr 1
    exact (List.getElem?_eq_some_iff.1 hsj).2
   obtain ⟨bb, off, hA, _, hc⟩ := (hr.below HF.out.1).head (by omega)
   have hcj := hc j _ (vss_at hsj)
   have hsl := hs s (List.mem_of_getElem? hsj)
   rw [hdr, cSymG] at ho
   have HA := hid hA
   subst hA
   clear hc hdr hsj
   by_cases hj0 : j = 0
   ·subst hj0
    rw [Nat.add_zero] at hcj
    simp only [beq_self_eq_true, if_true, Option.bind_some] at ho
    have HOo := hid ho
    clear ho HW
    go_wp2_with fail
    have ho := HOo.out
    by_cases hqw2 : (t1 ++ s).length ≤ 4096
    case neg =>
     refine (put_no hW s hsl hqw2).mono ?_
     rintro e w2 ⟨rfl, f2⟩
     unfold giveV
     refine ⟨rfl, ?_⟩
     rw [wpt_no hqw2] at ho
     simp only [Option.bind_none] at ho
     rw [ho]
     exact ⟨rfl, HF.out.trans f2⟩
    refine (put_ok hW s hsl hqw2).mono ?_
    rintro e w2 ⟨rfl, h2, f2⟩
    rw [wpt_yes hqw2] at ho
    simp only [Option.bind_some] at ho
    have HI2 : Hid (∃ t1, WS w2 b t1 nx dp ∧ o = (cSymG (0 + 1 == 0) (l.drop (0 + 1)) (t1, nx, dp)).bind (fun st2 => wpt [62] st2)) := hid ⟨_, h2, ho⟩
    clear HOo ho hqw2 h2
    go_wp2
    refine ⟨⟨0 + 1, by omega, by go_num, HI2, hid (HF.out.trans f2)⟩, by simp [intOf]; omega⟩
   ·have ej : (j == 0) = false := by simpa using hj0
    rw [ej] at ho
    simp only [Bool.false_eq_true, if_false] at ho
    have HOo := hid ho
    clear ho HW
    go_wp2_with fail
    have ho := HOo.out
    clear HOo
    by_cases hqw2 : (t1 ++ [44]).length ≤ 4096
    case neg =>
     refine (put_no hW [44] (by decide) hqw2).mono ?_
     rintro e w2 ⟨rfl, f2⟩
     unfold giveV
     refine ⟨rfl, ?_⟩
     rw [wpt_no hqw2] at ho
     simp only [Option.bind_none] at ho
     rw [ho]
     exact ⟨rfl, HF.out.trans f2⟩
    refine (put_ok hW [44] (by decide) hqw2).mono ?_
    rintro e w2 ⟨rfl, h2, f2⟩
    rw [wpt_yes hqw2] at ho
    simp only [Option.bind_some] at ho
    have HOo := hid ho
    clear ho hqw2
    go_wp2_with fail
    have ho := HOo.out
    by_cases hqw3 : ((t1 ++ [44]) ++ s).length ≤ 4096
    case neg =>
     refine (put_no h2 s hsl hqw3).mono ?_
     rintro e w3 ⟨rfl, f3⟩
     unfold giveV
     refine ⟨rfl, ?_⟩
     rw [wpt_no hqw3] at ho
     simp only [Option.bind_none] at ho
     rw [ho]
     exact ⟨rfl, (HF.out.trans f2).trans f3⟩
    refine (put_ok h2 s hsl hqw3).mono ?_
    rintro e w3 ⟨rfl, h3, f3⟩
    rw [wpt_yes hqw3] at ho
    simp only [Option.bind_some] at ho
    have HI2 : Hid (∃ t1, WS w3 b t1 nx dp ∧ o = (cSymG (j + 1 == 0) (l.drop (j + 1)) (t1, nx, dp)).bind (fun st2 => wpt [62] st2)) := hid ⟨_, h3, ho⟩
    clear HOo ho hqw3 h3
    go_wp2
    refine ⟨⟨j + 1, by omega, by go_num, HI2, hid ((HF.out.trans f2).trans f3)⟩, by simp [intOf]; omega⟩
  ·obtain rfl : j = n := by omega
   rw [List.drop_of_length_le (by omega), cSymG] at ho
   simp only [Option.bind_some] at ho
   have HOo := hid ho
   clear ho HW
   go_wp2_with fail
   have ho := HOo.out
   by_cases hq : (t1 ++ [62]).length ≤ 4096
   case neg =>
    refine (put_no hW [62] (by decide) hq).mono ?_
    rintro e w2 ⟨rfl, f2⟩
    unfold giveV
    refine ⟨rfl, ?_⟩
    rw [ho, wpt_no hq]
    exact ⟨rfl, HF.out.trans f2⟩
   refine (put_ok hW [62] (by decide) hq).mono ?_
   rintro e w2 ⟨rfl, h2, f2⟩
   rw [wpt_yes hq] at ho
   have HO3 := hid ho
   clear ho HOo hq
   go_wp2
   go_end0
   rw [HO3.out]
   exact ⟨Nat.le_refl _, rfl, h2, HF.out.trans f2⟩
end
open Go.RowKit
def TypWC (b : WB) (f : Nat) : Prop := ∀ (w : World) (deep : Nat) (n : Int) (t : List UInt8) (nx dp : Nat), WS w b t nx dp → b.gs.length - nx < f ∧ deep ≤ nx →
 Calls Tryz.prog 69 #[.pointer (some ⟨b.pB, 0, none⟩), .int .i64 n, .int .i64 (deep : Int)] w (WPost b w nx (cTyp b.gs f deep n (t, nx, dp)))
def gfV (f : Gf) : List Value := [.string (txt f.name), .bool f.has, .int .i64 f.ty]
theorem gfV_one (f : Gf) : ∀ u ∈ gfV f, u.oneCell' = true := by
 intro u hu
 simp only [gfV, List.mem_cons, List.not_mem_nil, or_false] at hu
 rcases hu with rfl | rfl | rfl <;> rfl
section
variable {w : World} {b : WB} {t : List UInt8} {nx dp f deep : Nat}
theorem items_any (TC : TypWC b f) (h : WS w b t nx dp) (hf : b.gs.length - nx < f ∧ deep ≤ nx) (A : Option Addr) (n c : Nat) (l : List Int) (fin : List UInt8) (hfin : fin.length ≤ 1000) (hl : l.length = n) (hr : Rd w b.base 1 A n (vis l)) (hn : n ≤ 1000000) :
  Calls Tryz.prog 149 #[.pointer (some ⟨b.pB, 0, none⟩), .slice A n c, .int .i64 (deep : Int), .string (txt fin)] w (WPost b w nx (cItems (fun m s => cTyp b.gs f deep m s) l fin (t, nx, dp))) := by
 obtain ⟨o, ho⟩ : ∃ o, o = cItems (fun m s => cTyp b.gs f deep m s) l fin (t, nx, dp) := ⟨_, rfl⟩
 rw [← ho]
 unfold cItems at ho
 have HI : Hid (∃ t1 nx1 dp1, WS w b t1 nx1 dp1 ∧ nx ≤ nx1 ∧ o = (cItG (fun m s => cTyp b.gs f deep m s) true l (t1, nx1, dp1)).bind (fun st2 => wpt fin st2)) := hid ⟨_, _, _, h, Nat.le_refl _, ho⟩
 have hw := h.hw
 clear ho h
 go_enter Tryz.func149, Tryz.ntmps149
 go_wp2
 go_loopw [12] (fun i wr => ∃ j : Nat, j ≤ n ∧ i = .int .i64 (j : Int) ∧ Hid (∃ t1 nx1 dp1, WS wr b t1 nx1 dp1 ∧ nx ≤ nx1 ∧ o = (cItG (fun m s => cTyp b.gs f deep m s) (j == 0) (l.drop j) (t1, nx1, dp1)).bind (fun st2 => wpt fin st2)) ∧ Hid (Fw b.base w wr)) (fun i _ => (n - intOf i).toNat)
 case atStart => exact ⟨0, by omega, rfl, HI, hid (Fw.refl _ _)⟩
 case round =>
  obtain ⟨j, hj, rfl, HW, HF⟩ := hrel
  obtain ⟨t1, nx1, dp1, hW, hnx1, ho⟩ := HW.out
  by_cases hjn : j < n
  ·obtain ⟨m, hsj⟩ : ∃ m, l[j]? = some m := ⟨l[j]'(by omega), List.getElem?_eq_getElem (by omega)⟩
   have hdr : l.drop j = m :: l.drop (j + 1) := by
    rw [List.drop_eq_getElem_cons (by omega)]
    congr 1
    exact (List.getElem?_eq_some_iff.1 hsj).2
   obtain ⟨bb, off, hA, _, hc⟩ := (hr.below HF.out.1).head (by omega)
   have hcj := hc j _ (vis_at hsj)
   rw [hdr, cItG] at ho
   subst hA
   clear hc hdr hsj
   by_cases hj0 : j = 0
   ·subst hj0
    rw [Nat.add_zero] at hcj
    simp only [beq_self_eq_true, if_true, Option.bind_some] at ho
    have HOo := hid ho
    clear ho HW
    go_wp2_with fail
    have ho := HOo.out
    clear HOo
    have ty := TC _ deep m _ _ _ hW ⟨by omega, by omega⟩
    cases hcy : cTyp b.gs f deep m (t1, nx1, dp1) with
    | none =>
     rw [hcy] at ty ho
     refine ty.mono ?_
     rintro e w2 ⟨rfl, f2⟩
     unfold giveV
     refine ⟨rfl, ?_⟩
     simp only [Option.bind_none] at ho
     rw [ho]
     exact ⟨rfl, HF.out.trans f2⟩
    | some st2 =>
     obtain ⟨t2, nx2, dp2⟩ := st2
     rw [hcy] at ty ho
     refine ty.mono ?_
     rintro e w2 ⟨hnx2, rfl, h2, f2⟩
     simp only [Option.bind_some] at ho
     have HI2 : Hid (∃ t1 nx1 dp1, WS w2 b t1 nx1 dp1 ∧ nx ≤ nx1 ∧ o = (cItG (fun m s => cTyp b.gs f deep m s) (0 + 1 == 0) (l.drop (0 + 1)) (t1, nx1, dp1)).bind (fun st2 => wpt fin st2)) := hid ⟨_, _, _, h2, Nat.le_trans hnx1 hnx2, ho⟩
     clear ho h2 hcy ty
     go_wp2
     refine ⟨⟨0 + 1, by omega, by go_num, HI2, hid (HF.out.trans f2)⟩, by simp [intOf]; omega⟩
   ·have ej : (j == 0) = false := by simpa using hj0
    rw [ej] at ho
    simp only [Bool.false_eq_true, if_false] at ho
    have HOo := hid ho
    clear ho HW
    go_wp2_with fail
    have ho := HOo.out
    clear HOo
    by_cases hqw2 : (t1 ++ [124]).length ≤ 4096
    case neg =>
     refine (put_no hW [124] (by decide) hqw2).mono ?_
     rintro e w2 ⟨rfl, f2⟩
     unfold giveV
     refine ⟨rfl, ?_⟩
     rw [wpt_no hqw2] at ho
     simp only [Option.bind_none] at ho
     rw [ho]
     exact ⟨rfl, HF.out.trans f2⟩
    refine (put_ok hW [124] (by decide) hqw2).mono ?_
    rintro e w2 ⟨rfl, h2, f2⟩
    rw [wpt_yes hqw2] at ho
    simp only [Option.bind_some] at ho
    have HOo := hid ho
    clear ho hqw2
    go_wp2_with fail
    have ho := HOo.out
    clear HOo
    have ty := TC _ deep m _ _ _ h2 ⟨by omega, by omega⟩
    cases hcy : cTyp b.gs f deep m (t1 ++ [124], nx1, dp1) with
    | none =>
     rw [hcy] at ty ho
     refine ty.mono ?_
     rintro e w3 ⟨rfl, f3⟩
     unfold giveV
     refine ⟨rfl, ?_⟩
     simp only [Option.bind_none] at ho
     rw [ho]
     exact ⟨rfl, (HF.out.trans f2).trans f3⟩
    | some st2 =>
     obtain ⟨t2, nx2, dp2⟩ := st2
     rw [hcy] at ty ho
     refine ty.mono ?_
     rintro e w3 ⟨hnx2, rfl, h3, f3⟩
     simp only [Option.bind_some] at ho
     have HI2 : Hid (∃ t1 nx1 dp1, WS w3 b t1 nx1 dp1 ∧ nx ≤ nx1 ∧ o = (cItG (fun m s => cTyp b.gs f deep m s) (j + 1 == 0) (l.drop (j + 1)) (t1, nx1, dp1)).bind (fun st2 => wpt fin st2)) := hid ⟨_, _, _, h3, Nat.le_trans hnx1 hnx2, ho⟩
     clear ho h3 hcy ty
     go_wp2
     refine ⟨⟨j + 1, by omega, by go_num, HI2, hid ((HF.out.trans f2).trans f3)⟩, by simp [intOf]; omega⟩
  ·obtain rfl : j = n := by omega
   rw [List.drop_of_length_le (by omega), cItG] at ho
   simp only [Option.bind_some] at ho
   have HOo := hid ho
   clear ho HW
   go_wp2_with fail
   have ho := HOo.out
   by_cases hq : (t1 ++ fin).length ≤ 4096
   case neg =>
    refine (put_no hW fin (by omega) hq).mono ?_
    rintro e w2 ⟨rfl, f2⟩
    unfold giveV
    refine ⟨rfl, ?_⟩
    rw [ho, wpt_no hq]
    exact ⟨rfl, HF.out.trans f2⟩
   refine (put_ok hW fin (by omega) hq).mono ?_
   rintro e w2 ⟨rfl, h2, f2⟩
   rw [wpt_yes hq] at ho
   have HO3 := hid ho
   clear ho HOo hq
   go_wp2
   go_end0
   rw [HO3.out]
   exact ⟨hnx1, rfl, h2, HF.out.trans f2⟩
end
open Go.RowKit
section
variable {w : World} {b : WB} {t : List UInt8} {nx dp f deep : Nat}
theorem wfields_any (TC : TypWC b f) (h : WS w b t nx dp) (hf : b.gs.length - nx < f ∧ deep ≤ nx) (A : Option Addr) (n c : Nat) (l : List Gf) (hl : l.length = n) (hr : Rd w b.base 3 A n (vfs l)) (hn : n ≤ 1000000) (hs : ∀ x ∈ l, x.name.length ≤ 140737488355328) :
  Calls Tryz.prog 152 #[.pointer (some ⟨b.pB, 0, none⟩), .slice A n c, .int .i64 (deep : Int)] w (WPost b w nx (cFields (fun m s => cTyp b.gs f deep m s) l (t, nx, dp))) := by
 obtain ⟨o, ho⟩ : ∃ o, o = cFields (fun m s => cTyp b.gs f deep m s) l (t, nx, dp) := ⟨_, rfl⟩
 rw [← ho]
 unfold cFields at ho
 have HO := hid ho
 have hw := h.hw
 clear ho
 go_enter Tryz.func152, Tryz.ntmps152
 go_wp2_with fail
 have ho := HO.out
 by_cases hq : (t ++ [123]).length ≤ 4096
 case neg =>
  refine (put_no h [123] (by decide) hq).mono ?_
  rintro e w1 ⟨rfl, f1⟩
  unfold giveV
  refine ⟨rfl, ?_⟩
  rw [ho, wpt_no hq]
  exact ⟨rfl, f1⟩
 refine (put_ok h [123] (by decide) hq).mono ?_
 rintro e w1 ⟨rfl, h1, f1⟩
 rw [wpt_yes hq] at ho
 simp only [Option.bind_some] at ho
 have HI : Hid (∃ t1 nx1 dp1, WS w1 b t1 nx1 dp1 ∧ nx ≤ nx1 ∧ o = (cFlG (fun m s => cTyp b.gs f deep m s) l (t1, nx1, dp1)).bind (fun st2 => wpt [125] st2)) := hid ⟨_, _, _, h1, Nat.le_refl _, ho⟩
 clear HO ho h1 hq h
 go_wp2
 go_loopw [13] (fun i wr => ∃ j : Nat, j ≤ n ∧ i = .int .i64 (j : Int) ∧ Hid (∃ t1 nx1 dp1, WS wr b t1 nx1 dp1 ∧ nx ≤ nx1 ∧ o = (cFlG (fun m s => cTyp b.gs f deep m s) (l.drop j) (t1, nx1, dp1)).bind (fun st2 => wpt [125] st2)) ∧ Hid (Fw b.base w wr)) (fun i _ => (n - intOf i).toNat)
 case atStart => exact ⟨0, by omega, rfl, HI, hid f1⟩
 case round =>
  obtain ⟨j, hj, rfl, HW, HF⟩ := hrel
  obtain ⟨t1, nx1, dp1, hW, hnx1, ho⟩ := HW.out
  by_cases hjn : j < n
  ·obtain ⟨x, hsj⟩ : ∃ x, l[j]? = some x := ⟨l[j]'(by omega), List.getElem?_eq_getElem (by omega)⟩
   have hdr : l.drop j = x :: l.drop (j + 1) := by
    rw [List.drop_eq_getElem_cons (by omega)]
    congr 1
    exact (List.getElem?_eq_some_iff.1 hsj).2
   obtain ⟨bb, off, hA, _, hci⟩ := (hr.below HF.out.1).head (by omega)
   obtain ⟨v0, v1, v2⟩ := vfs_at hsj
   have hrg : wr.rangeAt bb (off + j * 3) (gfV x) := fun q v hv => by
    match q, hv with
    | 0, hv => exact (hci _ _ v0).trans hv
    | 1, hv => rw [Nat.add_assoc]; exact (hci _ _ v1).trans hv
    | 2, hv => rw [Nat.add_assoc]; exact (hci _ _ v2).trans hv
    | _ + 3, hv => simp [gfV] at hv
   have hsl := hs x (List.mem_of_getElem? hsj)
   rw [hdr, cFlG] at ho
   subst hA
   have HOo := hid ho
   have hww := hW.hw
   clear hci hdr hsj v0 v1 v2 ho HW
   go_upto_region 4 with (first
    | (refine wpList_load_mid rfl 119 _ rfl bb (off + j * 3) rfl (gfV x) _ hrg Tryz.underlying119 rfl szFld ?_)
    | (refine wp_var rfl rfl 119 _ _ rfl rfl rfl rfl zFld (fun _ => rfl) (xs := gfV x) (fun _ => rfl) rfl szFld (gfV_one x) ?_; intro g3 w3 hg3 hb3 ht3))
   have h3 := hW.turn0 ht3
   have f3 := HF.out.turn ht3 hw
   have c0 : w3.cell? ⟨g3, 0, none⟩ = some (.string (txt x.name)) := hb3.ats rfl
   go_wp2_with fail
   have ho := HOo.out
   clear HOo
   by_cases hqw4 : (t1 ++ x.name).length ≤ 4096
   case neg =>
    refine (put_no h3 x.name hsl hqw4).mono ?_
    rintro e w4 ⟨rfl, f4⟩
    unfold giveV
    refine ⟨rfl, ?_⟩
    rw [wpt_no hqw4] at ho
    simp only [Option.bind_none] at ho
    rw [ho]
    exact ⟨rfl, f3.trans f4⟩
   refine (put_ok h3 x.name hsl hqw4).mono ?_
   rintro e w4 ⟨rfl, h4, f4⟩
   rw [wpt_yes hqw4] at ho
   simp only [Option.bind_some] at ho
   have hb4 := f4.fl hb3
   have c1 : w4.cell? ⟨g3, 1, none⟩ = some (.bool x.has) := hb4.ats rfl
   have HOo := hid ho
   clear ho hqw4 c0
   cases hh : x.has with
   | true =>
    rw [hh] at c1
    have ho := HOo.out
    rw [hh] at ho
    simp only [if_true] at ho
    have HOo := hid ho
    clear ho
    go_wp2_with fail
    have ho := HOo.out
    clear HOo
    by_cases hqw5 : ((t1 ++ x.name) ++ [63]).length ≤ 4096
    case neg =>
     refine (put_no h4 [63] (by decide) hqw5).mono ?_
     rintro e w5 ⟨rfl, f5⟩
     unfold giveV
     refine ⟨rfl, ?_⟩
     rw [wpt_no hqw5] at ho
     simp only [Option.bind_none] at ho
     rw [ho]
     exact ⟨rfl, (f3.trans f4).trans f5⟩
    refine (put_ok h4 [63] (by decide) hqw5).mono ?_
    rintro e w5 ⟨rfl, h5, f5⟩
    rw [wpt_yes hqw5] at ho
    simp only [Option.bind_some] at ho
    have HOo := hid ho
    clear ho hqw5 c1
    go_wp2_with fail
    have ho := HOo.out
    clear HOo
    by_cases hqw6 : (((t1 ++ x.name) ++ [63]) ++ [58]).length ≤ 4096
    case neg =>
     refine (put_no h5 [58] (by decide) hqw6).mono ?_
     rintro e w6 ⟨rfl, f6⟩
     unfold giveV
     refine ⟨rfl, ?_⟩
     rw [wpt_no hqw6] at ho
     simp only [Option.bind_none] at ho
     rw [ho]
     exact ⟨rfl, ((f3.trans f4).trans f5).trans f6⟩
    refine (put_ok h5 [58] (by decide) hqw6).mono ?_
    rintro e w6 ⟨rfl, h6, f6⟩
    rw [wpt_yes hqw6] at ho
    simp only [Option.bind_some] at ho
    have hb6 := f6.fl (f5.fl hb4)
    have c2 : w6.cell? ⟨g3, 2, none⟩ = some (.int .i64 x.ty) := hb6.ats rfl
    have HOo := hid ho
    clear ho hqw6
    go_wp2_with fail
    have ho := HOo.out
    clear HOo
    have ty := TC _ deep x.ty _ _ _ h6 ⟨by omega, by omega⟩
    cases hcy : cTyp b.gs f deep x.ty (((t1 ++ x.name) ++ [63]) ++ [58], nx1, dp1) with
    | none =>
     rw [hcy] at ty ho
     refine ty.mono ?_
     rintro e w7 ⟨rfl, f7⟩
     unfold giveV
     refine ⟨rfl, ?_⟩
     simp only [Option.bind_none] at ho
     rw [ho]
     exact ⟨rfl, (((f3.trans f4).trans f5).trans f6).trans f7⟩
    | some st2 =>
     obtain ⟨t2, nx2, dp2⟩ := st2
     rw [hcy] at ty ho
     refine ty.mono ?_
     rintro e w7 ⟨hnx2, rfl, h7, f7⟩
     simp only [Option.bind_some] at ho
     have HOo := hid ho
     clear ho hcy ty
     go_wp2_with fail
     have ho := HOo.out
     clear HOo
     by_cases hqw8 : (t2 ++ [59]).length ≤ 4096
     case neg =>
      refine (put_no h7 [59] (by decide) hqw8).mono ?_
      rintro e w8 ⟨rfl, f8⟩
      unfold giveV
      refine ⟨rfl, ?_⟩
      rw [wpt_no hqw8] at ho
      simp only [Option.bind_none] at ho
      rw [ho]
      exact ⟨rfl, ((((f3.trans f4).trans f5).trans f6).trans f7).trans f8⟩
     refine (put_ok h7 [59] (by decide) hqw8).mono ?_
     rintro e w8 ⟨rfl, h8, f8⟩
     rw [wpt_yes hqw8] at ho
     simp only [Option.bind_some] at ho
     have HI2 : Hid (∃ t1 nx1 dp1, WS w8 b t1 nx1 dp1 ∧ nx ≤ nx1 ∧ o = (cFlG (fun m s => cTyp b.gs f deep m s) (l.drop (j + 1)) (t1, nx1, dp1)).bind (fun st2 => wpt [125] st2)) := hid ⟨_, _, _, h8, Nat.le_trans hnx1 hnx2, ho⟩
     clear ho hqw8 h8
     go_wp2
     refine ⟨⟨j + 1, by omega, by go_num, HI2, hid (((((f3.trans f4).trans f5).trans f6).trans f7).trans f8)⟩, by simp [intOf]; omega⟩
   | false =>
    rw [hh] at c1
    have ho := HOo.out
    rw [hh] at ho
    simp only [Bool.false_eq_true, if_false, Option.bind_some] at ho
    have HOo := hid ho
    clear ho
    go_wp2_with fail
    have ho := HOo.out
    clear HOo
    by_cases hqw6 : ((t1 ++ x.name) ++ [58]).length ≤ 4096
    case neg =>
     refine (put_no h4 [58] (by decide) hqw6).mono ?_
     rintro e w6 ⟨rfl, f6⟩
     unfold giveV
     refine ⟨rfl, ?_⟩
     rw [wpt_no hqw6] at ho
     simp only [Option.bind_none] at ho
     rw [ho]
     exact ⟨rfl, (f3.trans f4).trans f6⟩
    refine (put_ok h4 [58] (by decide) hqw6).mono ?_
    rintro e w6 ⟨rfl, h6, f6⟩
    rw [wpt_yes hqw6] at ho
    simp only [Option.bind_some] at ho
    have hb6 := f6.fl hb4
    have c2 : w6.cell? ⟨g3, 2, none⟩ = some (.int .i64 x.ty) := hb6.ats rfl
    have HOo := hid ho
    clear ho hqw6
    go_wp2_with fail
    have ho := HOo.out
    clear HOo
    have ty := TC _ deep x.ty _ _ _ h6 ⟨by omega, by omega⟩
    cases hcy : cTyp b.gs f deep x.ty ((t1 ++ x.name) ++ [58], nx1, dp1) with
    | none =>
     rw [hcy] at ty ho
     refine ty.mono ?_
     rintro e w7 ⟨rfl, f7⟩
     unfold giveV
     refine ⟨rfl, ?_⟩
     simp only [Option.bind_none] at ho
     rw [ho]
     exact ⟨rfl, ((f3.trans f4).trans f6).trans f7⟩
    | some st2 =>
     obtain ⟨t2, nx2, dp2⟩ := st2
     rw [hcy] at ty ho
     refine ty.mono ?_
     rintro e w7 ⟨hnx2, rfl, h7, f7⟩
     simp only [Option.bind_some] at ho
     have HOo := hid ho
     clear ho hcy ty
     go_wp2_with fail
     have ho := HOo.out
     clear HOo
     by_cases hqw8 : (t2 ++ [59]).length ≤ 4096
     case neg =>
      refine (put_no h7 [59] (by decide) hqw8).mono ?_
      rintro e w8 ⟨rfl, f8⟩
      unfold giveV
      refine ⟨rfl, ?_⟩
      rw [wpt_no hqw8] at ho
      simp only [Option.bind_none] at ho
      rw [ho]
      exact ⟨rfl, (((f3.trans f4).trans f6).trans f7).trans f8⟩
     refine (put_ok h7 [59] (by decide) hqw8).mono ?_
     rintro e w8 ⟨rfl, h8, f8⟩
     rw [wpt_yes hqw8] at ho
     simp only [Option.bind_some] at ho
     have HI2 : Hid (∃ t1 nx1 dp1, WS w8 b t1 nx1 dp1 ∧ nx ≤ nx1 ∧ o = (cFlG (fun m s => cTyp b.gs f deep m s) (l.drop (j + 1)) (t1, nx1, dp1)).bind (fun st2 => wpt [125] st2)) := hid ⟨_, _, _, h8, Nat.le_trans hnx1 hnx2, ho⟩
     clear ho hqw8 h8
     go_wp2
     refine ⟨⟨j + 1, by omega, by go_num, HI2, hid ((((f3.trans f4).trans f6).trans f7).trans f8)⟩, by simp [intOf]; omega⟩
  ·obtain rfl : j = n := by omega
   rw [List.drop_of_length_le (by omega), cFlG] at ho
   simp only [Option.bind_some] at ho
   have HOo := hid ho
   clear ho HW
   go_wp2_with fail
   have ho := HOo.out
   by_cases hq : (t1 ++ [125]).length ≤ 4096
   case neg =>
    refine (put_no hW [125] (by decide) hq).mono ?_
    rintro e w2 ⟨rfl, f2⟩
    unfold giveV
    refine ⟨rfl, ?_⟩
    rw [ho, wpt_no hq]
    exact ⟨rfl, HF.out.trans f2⟩
   refine (put_ok hW [125] (by decide) hq).mono ?_
   rintro e w2 ⟨rfl, h2, f2⟩
   rw [wpt_yes hq] at ho
   have HO3 := hid ho
   clear ho HOo hq
   go_wp2
   go_end0
   rw [HO3.out]
   exact ⟨hnx1, rfl, h2, HF.out.trans f2⟩
end
open Go.RowKit
def ItoaOk : Prop := ∀ (n : Int) (w : World), -9223372036854775808 ≤ n → n ≤ 9223372036854775807 → Tab w → Calls Tryz.prog 151 #[.int .i64 n] w fun e w' => e = .returned (.string (txt (Lib.itoa n))) ∧ Turn w w' none
def NdV (w : World) (B : Nat) (v : Value) (x : Gn) : Prop :=
 ∃ As sc Ai ic Af fc, v = .agg #[.int .i64 x.k, .string (txt x.name), .int .i64 x.size, .slice As x.syms.length sc, .slice Ai x.items.length ic, .slice Af x.fields.length fc] ∧
  Rd w B 1 As x.syms.length (vss x.syms) ∧ Rd w B 1 Ai x.items.length (vis x.items) ∧ Rd w B 3 Af x.fields.length (vfs x.fields)
theorem kwAt {kk : Nat} (h : kk < 12) : kwList[kk]? = some (kwText kk) := by
 have : kk < kwList.length := h
 unfold kwText
 rw [List.getD_eq_getElem?_getD, List.getElem?_eq_getElem this]
 rfl
theorem kw_brief {kk : Nat} (h : kk < 12) : (kwText kk).length ≤ 10 := by
 have : ∀ k : Nat, k < 12 → (kwText k).length ≤ 10 := by decide
 exact this kk h
theorem two_brief {x : Gn} (hx : GOk x) : ∀ s ∈ ([[32], x.name] : List (List UInt8)), s.length ≤ 140737488355328 := by
 intro s hs
 simp only [List.mem_cons, List.not_mem_nil, or_false] at hs
 have := hx.nm
 rcases hs with rfl | rfl
 ·decide
 ·omega
theorem four_brief {x : Gn} (hx : GOk x) : ∀ s ∈ ([[32], x.name, [32], Lib.itoa x.size] : List (List UInt8)), s.length ≤ 140737488355328 := by
 intro s hs
 simp only [List.mem_cons, List.not_mem_nil, or_false] at hs
 have := hx.nm
 have := Lib.itoa_length_le x.size hx.sz.1 hx.sz.2
 rcases hs with rfl | rfl | rfl | rfl
 ·decide
 ·omega
 ·decide
 ·omega
section
variable {w : World} {b : WB} {t : List UInt8} {nx dp f deep : Nat}
theorem begin_any (IT : ItoaOk) (TC : TypWC b f) (h : WS w b t nx dp) (hf : b.gs.length - nx < f ∧ deep ≤ nx) {x : Gn} {v : Value} (hx : GOk x) (hv : NdV w b.base v x) :
  Calls Tryz.prog 117 #[.pointer (some ⟨b.pB, 0, none⟩), v, .int .i64 (deep : Int)] w (WPost b w nx (cBegin (fun m s => cTyp b.gs f deep m s) x (t, nx, dp))) := by
 have hw := h.hw
 obtain ⟨As, sc, Ai, ic, Af, fc, rfl, r3, r4, r5⟩ := hv
 obtain ⟨o, ho⟩ : ∃ o, o = cBegin (fun m s => cTyp b.gs f deep m s) x (t, nx, dp) := ⟨_, rfl⟩
 rw [← ho]
 unfold cBegin at ho
 by_cases hb : x.k < 0 ∨ 12 ≤ x.k
 ·rw [if_pos hb] at ho
  have HO := hid ho
  clear ho
  by_cases h0 : x.k < 0
  ·go_enter Tryz.func117, Tryz.ntmps117
   go_wp2_with (first
    | (refine wp_bx rfl 64 _ rfl rfl ?_; intro g w1 hg hb1 ht1; have c0 : w1.cell? ⟨g, 0, none⟩ = some (.int .i64 x.k) := hb1.ats (xs := [_, _, _, _, _, _]) rfl)
    | (go_at_call 115; refine (up_any _ _).mono ?_; rintro e w2 ⟨rfl, rfl⟩; unfold giveV))
   refine ⟨rfl, ?_⟩
   rw [HO.out]
   exact ⟨rfl, Fw.of_turn ht1 hw⟩
  ·have h12 : (12 : Int) ≤ x.k := by omega
   go_enter Tryz.func117, Tryz.ntmps117
   go_wp2_with (first
    | (refine wp_bx rfl 64 _ rfl rfl ?_; intro g w1 hg hb1 ht1; have c0 : w1.cell? ⟨g, 0, none⟩ = some (.int .i64 x.k) := hb1.ats (xs := [_, _, _, _, _, _]) rfl)
    | (go_at_call 115; refine (up_any _ _).mono ?_; rintro e w2 ⟨rfl, rfl⟩; unfold giveV))
   refine ⟨rfl, ?_⟩
   rw [HO.out]
   exact ⟨rfl, Fw.of_turn ht1 hw⟩
 rw [if_neg hb] at ho
 obtain ⟨kk, hkk⟩ : ∃ kk : Nat, x.k = (kk : Int) := ⟨x.k.toNat, by omega⟩
 have hk12 : kk < 12 := by omega
 rw [hkk, Int.toNat_natCast] at ho
 have hkb := kw_brief hk12
 have hkat := kwAt hk12
 have k0 : ¬((kk : Int) < 0) := by omega
 have k12 : ¬((12 : Int) ≤ (kk : Int)) := by omega
 have HO := hid ho
 clear ho hb
 go_enter Tryz.func117, Tryz.ntmps117
 go_upto_region 3 with (refine wp_bx rfl 64 _ rfl rfl ?_; intro g w1 hg hb1 ht1; have c0 : w1.cell? ⟨g, 0, none⟩ = some (.int .i64 (kk : Int)) := (hb1.ats (xs := [_, _, _, _, _, _]) rfl).trans (by rw [hkk]))
 have h1 := h.turn0 ht1
 have cf := h1.laid kk _ hkat
 have f1 := Fw.of_turn ht1 hw
 go_wp2_with fail
 have ho := HO.out
 by_cases hq : (t ++ kwText kk).length ≤ 4096
 case neg =>
  refine (put_no h1 (kwText kk) (by omega) hq).mono ?_
  rintro e w2 ⟨rfl, f2⟩
  unfold giveV
  refine ⟨rfl, ?_⟩
  rw [ho, wpt_no hq]
  exact ⟨rfl, f1.trans f2⟩
 refine (put_ok h1 (kwText kk) (by omega) hq).mono ?_
 rintro e w2 ⟨rfl, h2, f2⟩
 rw [wpt_yes hq] at ho
 simp only [Option.bind_some] at ho
 have hb2 := f2.nd hb1
 have bl2 := f1.1.trans f2.1
 have d0 : w2.cell? ⟨g, 0, none⟩ = some (.int .i64 (kk : Int)) := (hb2.ats (xs := [_, _, _, _, _, _]) rfl).trans (by rw [hkk])
 have d1 : w2.cell? ⟨g, 1, none⟩ = some (.string (txt x.name)) := hb2.ats (xs := [_, _, _, _, _, _]) rfl
 have d2 : w2.cell? ⟨g, 2, none⟩ = some (.int .i64 x.size) := hb2.ats (xs := [_, _, _, _, _, _]) rfl
 have d3 : w2.cell? ⟨g, 3, none⟩ = some (.slice As x.syms.length sc) := hb2.ats (xs := [_, _, _, _, _, _]) rfl
 have d4 : w2.cell? ⟨g, 4, none⟩ = some (.slice Ai x.items.length ic) := hb2.ats (xs := [_, _, _, _, _, _]) rfl
 have d5 : w2.cell? ⟨g, 5, none⟩ = some (.slice Af x.fields.length fc) := hb2.ats (xs := [_, _, _, _, _, _]) rfl
 clear HO c0 cf hq hkat h1 h
 by_cases e6 : kk = 6
 ·subst e6
  simp at ho
  have HOo := hid ho
  clear ho
  go_wp2_with fail
  refine (items_any TC h2 hf Ai _ ic x.items [93] (by decide) rfl (r4.below bl2) hx.li).mono ?_
  rintro e w3 hp
  have ho := HOo.out
  rw [← ho] at hp
  cases hoo : o with
  | none =>
   rw [hoo] at hp
   obtain ⟨rfl, f3⟩ := hp
   unfold giveV
   exact ⟨rfl, show Gw b w _ _ from ⟨rfl, (f1.trans f2).trans f3⟩⟩
  | some st =>
   rw [hoo] at hp
   obtain ⟨hnx, rfl, h3, f3⟩ := hp
   have HOO := hid hoo
   clear HOo ho hoo
   go_wp2
   go_end0
   rw [HOO.out]
   exact ⟨hnx, rfl, h3, (f1.trans f2).trans f3⟩
 by_cases e7 : kk = 7
 ·subst e7
  simp at ho
  have HOo := hid ho
  clear ho
  go_wp2_with fail
  refine (items_any TC h2 hf Ai _ ic x.items [125] (by decide) rfl (r4.below bl2) hx.li).mono ?_
  rintro e w3 hp
  have ho := HOo.out
  rw [← ho] at hp
  cases hoo : o with
  | none =>
   rw [hoo] at hp
   obtain ⟨rfl, f3⟩ := hp
   unfold giveV
   exact ⟨rfl, show Gw b w _ _ from ⟨rfl, (f1.trans f2).trans f3⟩⟩
  | some st =>
   rw [hoo] at hp
   obtain ⟨hnx, rfl, h3, f3⟩ := hp
   have HOO := hid hoo
   clear HOo ho hoo
   go_wp2
   go_end0
   rw [HOO.out]
   exact ⟨hnx, rfl, h3, (f1.trans f2).trans f3⟩
 by_cases e8 : kk = 8
 ·subst e8
  simp at ho
  have HOo := hid ho
  clear ho
  go_wp2_with fail
  refine (items_any TC h2 hf Ai _ ic x.items [41] (by decide) rfl (r4.below bl2) hx.li).mono ?_
  rintro e w3 hp
  have ho := HOo.out
  rw [← ho] at hp
  cases hoo : o with
  | none =>
   rw [hoo] at hp
   obtain ⟨rfl, f3⟩ := hp
   unfold giveV
   exact ⟨rfl, show Gw b w _ _ from ⟨rfl, (f1.trans f2).trans f3⟩⟩
  | some st =>
   rw [hoo] at hp
   obtain ⟨hnx, rfl, h3, f3⟩ := hp
   have HOO := hid hoo
   clear HOo ho hoo
   go_wp2
   go_end0
   rw [HOO.out]
   exact ⟨hnx, rfl, h3, (f1.trans f2).trans f3⟩
 by_cases e9 : kk = 9
 ·subst e9
  simp at ho
  have HOo := hid ho
  clear ho
  go_wp2_with fail
  have ho := HOo.out
  clear HOo
  have pp := puts_any h2 [[32], x.name] 2 rfl (by decide) (two_brief hx)
  rw [show ([[32], x.name] : List (List UInt8)).flatten = 32 :: x.name by simp] at pp
  by_cases hq3 : ((t ++ kwText 9) ++ 32 :: x.name).length ≤ 4096
  case neg =>
   simp only [if_neg hq3] at pp
   refine pp.mono ?_
   rintro e w3 ⟨rfl, f3⟩
   unfold giveV
   refine ⟨rfl, ?_⟩
   rw [ho, wpt_no hq3]
   exact ⟨rfl, (f1.trans f2).trans f3⟩
  simp only [if_pos hq3] at pp
  refine pp.mono ?_
  rintro e w3 ⟨rfl, h3, f3⟩
  rw [wpt_yes hq3] at ho
  simp only [Option.bind_some] at ho
  have hb3 := f3.nd hb2
  have bl3 := bl2.trans f3.1
  clear hq3 pp
  have d3 : w3.cell? ⟨g, 3, none⟩ = some (.slice As x.syms.length sc) := hb3.ats (xs := [_, _, _, _, _, _]) rfl
  have HOo := hid ho
  clear ho
  go_wp2_with fail
  have ho := HOo.out
  clear HOo
  refine (symbols_any h3 As _ sc x.syms rfl (r3.below bl3) hx.ls hx.sy).mono ?_
  rintro e w4 hp
  rw [← ho] at hp
  cases hoo : o with
  | none =>
   rw [hoo] at hp
   obtain ⟨rfl, f4⟩ := hp
   unfold giveV
   exact ⟨rfl, show Gw b w _ _ from ⟨rfl, ((f1.trans f2).trans f3).trans f4⟩⟩
  | some st =>
   rw [hoo] at hp
   obtain ⟨hnx, rfl, h4, f4⟩ := hp
   have HOO := hid hoo
   clear ho hoo
   go_wp2
   go_end0
   rw [HOO.out]
   exact ⟨hnx, rfl, h4, ((f1.trans f2).trans f3).trans f4⟩
 by_cases e11 : kk = 11
 ·subst e11
  simp at ho
  have HOo := hid ho
  clear ho
  go_wp2_with fail
  have ho := HOo.out
  clear HOo
  have pp := puts_any h2 [[32], x.name] 2 rfl (by decide) (two_brief hx)
  rw [show ([[32], x.name] : List (List UInt8)).flatten = 32 :: x.name by simp] at pp
  by_cases hq3 : ((t ++ kwText 11) ++ 32 :: x.name).length ≤ 4096
  case neg =>
   simp only [if_neg hq3] at pp
   refine pp.mono ?_
   rintro e w3 ⟨rfl, f3⟩
   unfold giveV
   refine ⟨rfl, ?_⟩
   rw [ho, wpt_no hq3]
   exact ⟨rfl, (f1.trans f2).trans f3⟩
  simp only [if_pos hq3] at pp
  refine pp.mono ?_
  rintro e w3 ⟨rfl, h3, f3⟩
  rw [wpt_yes hq3] at ho
  simp only [Option.bind_some] at ho
  have hb3 := f3.nd hb2
  have bl3 := bl2.trans f3.1
  clear hq3 pp
  have d5 : w3.cell? ⟨g, 5, none⟩ = some (.slice Af x.fields.length fc) := hb3.ats (xs := [_, _, _, _, _, _]) rfl
  have HOo := hid ho
  clear ho
  go_wp2_with fail
  have ho := HOo.out
  clear HOo
  refine (wfields_any TC h3 hf Af _ fc x.fields rfl (r5.below bl3) hx.lf hx.fl).mono ?_
  rintro e w4 hp
  rw [← ho] at hp
  cases hoo : o with
  | none =>
   rw [hoo] at hp
   obtain ⟨rfl, f4⟩ := hp
   unfold giveV
   exact ⟨rfl, show Gw b w _ _ from ⟨rfl, ((f1.trans f2).trans f3).trans f4⟩⟩
  | some st =>
   rw [hoo] at hp
   obtain ⟨hnx, rfl, h4, f4⟩ := hp
   have HOO := hid hoo
   clear ho hoo
   go_wp2
   go_end0
   rw [HOO.out]
   exact ⟨hnx, rfl, h4, ((f1.trans f2).trans f3).trans f4⟩
 by_cases e10 : kk = 10
 ·subst e10
  simp at ho
  have HOo := hid ho
  clear ho
  go_wp2_with fail
  have tD := Turn.drew (Turn.refl w2 none)
  have lg := hb2.lt
  refine wp_region_held_drew (S := fun W => W.cell? ⟨g, 1, none⟩ = some (.string (txt x.name)) ∧ W.cell? ⟨g, 2, none⟩ = some (.int .i64 x.size)) (by kernel_rfl) ⟨d1, d2⟩ (fun hHeld => ?_)
  (first | refine tkN 0 ?_ | refine tkY 0 _ ?_); (try simp only [Act.put, zs])
  (first | refine tkN 1 ?_ | refine tkY 1 _ ?_); (try simp only [Act.put, zs])
  (first | refine tkN 2 ?_ | refine tkY 2 _ ?_); (try simp only [Act.put, zs])
  (first | refine tkN 3 ?_ | refine tkY 3 _ ?_); (try simp only [Act.put, zs])
  (first | refine tkN 4 ?_ | refine tkY 4 _ ?_); (try simp only [Act.put, zs])
  refine wpAnyH_ready (rs := [5]) (by kernel_rfl) (by simp) ?_; refine AllReadyH.cons rfl (fun K hK => ?_) AllReadyH.nil
  go_simp
  refine (IT x.size _ hx.sz.1 hx.sz.2 ((h2.turn0 tD).tab)).mono ?_
  rintro e w3 ⟨rfl, ht3⟩
  have tE := tD.trans ht3
  have h3 := h2.turn0 tE
  have hb3 := hb2.turn0 tE
  have d1' : w3.cell? ⟨g, 1, none⟩ = some (.string (txt x.name)) := hb3.ats (xs := [_, _, _, _, _, _]) rfl
  have d2' : w3.cell? ⟨g, 2, none⟩ = some (.int .i64 x.size) := hb3.ats (xs := [_, _, _, _, _, _]) rfl
  refine hK.out _ _ ⟨d1', d2'⟩ (fun hHeld => ?_); clear hK K; (try simp only [Act.put, zs])
  refine wpAnyH_ready (rs := [6]) (by kernel_rfl) (by simp) ?_; refine AllReadyH.cons rfl (fun K hK => ?_) AllReadyH.nil
  go_simp
  have tF : Turn w3 (w3.alloc (.cells (vss [[32], x.name, [32], Lib.itoa x.size]).toArray 9)) none := (Turn.refl w3 none).alloc _
  have hbF := hb3.turn0 tF
  refine hK.out _ _ ⟨hbF.ats (xs := [_, _, _, _, _, _]) rfl, hbF.ats (xs := [_, _, _, _, _, _]) rfl⟩ (fun hHeld => ?_); clear hK K; (try simp only [Act.put, zs])
  refine wpAnyH_ready (rs := [7]) (by kernel_rfl) (by simp) ?_; refine AllReadyH.cons rfl (fun K hK => ?_) AllReadyH.nil
  go_simp
  have pp := puts_any h3 [[32], x.name, [32], Lib.itoa x.size] 4 rfl (by decide) (four_brief hx)
  rw [show ([[32], x.name, [32], Lib.itoa x.size] : List (List UInt8)).flatten = 32 :: (x.name ++ 32 :: Lib.itoa x.size) by simp] at pp
  have ho := HOo.out
  clear HOo
  by_cases hq3 : ((t ++ kwText 10) ++ 32 :: (x.name ++ 32 :: Lib.itoa x.size)).length ≤ 4096
  case neg =>
   simp only [if_neg hq3] at pp
   refine pp.mono ?_
   rintro e w4 ⟨rfl, f4⟩
   unfold giveV
   refine ⟨rfl, ?_⟩
   rw [ho, wpt_no hq3]
   exact ⟨rfl, ((f1.trans f2).turn tE hw).trans f4⟩
  simp only [if_pos hq3] at pp
  refine pp.mono ?_
  rintro e w4 ⟨rfl, h4, f4⟩
  rw [wpt_yes hq3] at ho
  have hb4 := f4.nd hb3
  have HOo := hid ho
  clear ho pp hq3
  refine hK.out _ _ ⟨hb4.ats (xs := [_, _, _, _, _, _]) rfl, hb4.ats (xs := [_, _, _, _, _, _]) rfl⟩ (fun hHeld => ?_); clear hK K; (try simp only [Act.put, zs])
  refine wpAnyH_done (by kernel_rfl) ?_ _
  clear hHeld
  go_wp2
  go_end0
  rw [HOo.out]
  exact ⟨Nat.le_refl _, rfl, h4, ((f1.trans f2).turn tE hw).trans f4⟩
 have i6 : ((kk : Int) == 6) = false := by rw [beq_eq_false_iff_ne]; omega
 have i7 : ((kk : Int) == 7) = false := by rw [beq_eq_false_iff_ne]; omega
 have i8 : ((kk : Int) == 8) = false := by rw [beq_eq_false_iff_ne]; omega
 have i9 : ((kk : Int) == 9) = false := by rw [beq_eq_false_iff_ne]; omega
 have i10 : ((kk : Int) == 10) = false := by rw [beq_eq_false_iff_ne]; omega
 have i11 : ((kk : Int) == 11) = false := by rw [beq_eq_false_iff_ne]; omega
 rw [if_neg (by omega), if_neg (by omega), if_neg (by omega), if_neg (by omega), if_neg (by omega), if_neg (by omega)] at ho
 have HOo := hid ho
 clear ho
 go_wp2
 go_end0
 rw [HOo.out]
 exact ⟨Nat.le_refl _, rfl, h2, f1.trans f2⟩
end
open Go.RowKit
section
variable {w : World} {b : WB} {t : List UInt8} {nx dp f : Nat}
theorem ndV_of {vs : List Value} {i : Nat} {x : Gn} (h : NdIn w b.base vs i x) : ∃ cs : List Value, NdV w b.base (.agg cs.toArray) x ∧ cs.length = 6 ∧ ∀ j v, cs[j]? = some v → vs[i * 6 + j]? = some v := by
 obtain ⟨v3, e3, A3, c3, rfl, r3, _⟩ := h.syms
 obtain ⟨v4, e4, A4, c4, rfl, r4, _⟩ := h.items
 obtain ⟨v5, e5, A5, c5, rfl, r5, _⟩ := h.fields
 refine ⟨[.int .i64 x.k, .string (txt x.name), .int .i64 x.size, .slice A3 x.syms.length c3, .slice A4 x.items.length c4, .slice A5 x.fields.length c5], ⟨A3, c3, A4, c4, A5, c5, rfl, r3, r4, r5⟩, rfl, fun j v hv => ?_⟩
 match j, hv with
 | 0, hv => exact h.k.trans hv
 | 1, hv => exact h.name.trans hv
 | 2, hv => exact h.size.trans hv
 | 3, hv => exact e3.trans hv
 | 4, hv => exact e4.trans hv
 | 5, hv => exact e5.trans hv
 | _ + 6, hv => simp at hv
theorem WS.num (h : WS w b t nx dp) {nx' dp' : Nat} (hn : nx' ≤ b.gs.length) (hd : dp' ≤ 1000001) (j : Nat) (u : Value)
  (hc : ∀ ad A c, (#[ad, .slice A t.length c, .slice b.A0 b.gs.length b.c0, .int .i64 (nx : Int), .int .i64 (dp : Int)] : Array Value).setIfInBounds j u = #[ad, .slice A t.length c, .slice b.A0 b.gs.length b.c0, .int .i64 (nx' : Int), .int .i64 (dp' : Int)]) :
  WS (w.setCell ⟨b.pB, j, none⟩ u) b t nx' dp' ∧ Fw b.base w (w.setCell ⟨b.pB, j, none⟩ u) := by
 obtain ⟨ad, A, c, h1, h2, h3⟩ := h.mem
 have f1 := Fw.own h2 h.hb j u
 have hB := h2.set_ j u
 rw [hc] at hB
 exact ⟨h.renew f1 h.short hn hd ⟨ad, A, c, h1, hB, h3.turn (Blk.setTurn w b.pB j u) (.inr (h3.not_blk h2 (by decide)))⟩, f1⟩
theorem wtyp_step (IT : ItoaOk) (TC : TypWC b f) {deep : Nat} (h : WS w b t nx dp) (hf : b.gs.length - nx < f + 1 ∧ deep ≤ nx) (n : Int) :
  Calls Tryz.prog 69 #[.pointer (some ⟨b.pB, 0, none⟩), .int .i64 n, .int .i64 (deep : Int)] w (WPost b w nx (cTyp b.gs (f + 1) deep n (t, nx, dp))) := by
 have hw := h.hw
 have hfew := h.few
 have hnx := h.nx_
 have hdp := h.dp_
 obtain ⟨ad, A, c, _, hB, _⟩ := h.mem
 have c2 : w.cell? ⟨b.pB, 2, none⟩ = some (.slice b.A0 b.gs.length b.c0) := hB.cell 2
 have c3 : w.cell? ⟨b.pB, 3, none⟩ = some (.int .i64 (nx : Int)) := hB.cell 3
 have c4 : w.cell? ⟨b.pB, 4, none⟩ = some (.int .i64 (dp : Int)) := hB.cell 4
 have z4 := hB.frozen 4
 obtain ⟨o, ho⟩ : ∃ o, o = cTyp b.gs (f + 1) deep n (t, nx, dp) := ⟨_, rfl⟩
 rw [← ho]
 rw [cTyp] at ho
 simp only at ho
 by_cases hbad : n < 0 ∨ (nx : Int) < n ∨ (b.gs.length : Int) ≤ n
 ·rw [if_pos hbad] at ho
  have HO := hid ho
  clear ho
  by_cases n0 : n < 0
  ·go_enter Tryz.func69, Tryz.ntmps69
   go_wp2_with (go_at_call 115; refine (up_any _ _).mono ?_; rintro e w2 ⟨rfl, rfl⟩; unfold giveV)
   refine ⟨rfl, ?_⟩
   rw [HO.out]
   exact ⟨rfl, Fw.refl _ _⟩
  ·by_cases n1 : (nx : Int) < n
   ·go_enter Tryz.func69, Tryz.ntmps69
    go_wp2_with (go_at_call 115; refine (up_any _ _).mono ?_; rintro e w2 ⟨rfl, rfl⟩; unfold giveV)
    refine ⟨rfl, ?_⟩
    rw [HO.out]
    exact ⟨rfl, Fw.refl _ _⟩
   ·have n2 : (b.gs.length : Int) ≤ n := by omega
    go_enter Tryz.func69, Tryz.ntmps69
    go_wp2_with (go_at_call 115; refine (up_any _ _).mono ?_; rintro e w2 ⟨rfl, rfl⟩; unfold giveV)
    refine ⟨rfl, ?_⟩
    rw [HO.out]
    exact ⟨rfl, Fw.refl _ _⟩
 rw [if_neg hbad] at ho
 obtain ⟨m, rfl⟩ : ∃ m : Nat, n = (m : Int) := ⟨n.toNat, by omega⟩
 have hml : m < b.gs.length := by omega
 have n0 : ¬((m : Int) < 0) := by omega
 have n1 : ¬((nx : Int) < (m : Int)) := by omega
 have n2 : ¬((b.gs.length : Int) ≤ (m : Int)) := by omega
 obtain ⟨x, hx⟩ : ∃ x, b.gs[m]? = some x := ⟨b.gs[m], List.getElem?_eq_getElem hml⟩
 rw [Int.toNat_natCast, hx] at ho
 simp only at ho
 have hok := h.small x (List.mem_of_getElem? hx)
 have hd2 : max dp (deep + 1) ≤ 1000001 := by omega
 have hmax : IntKind.i64.wrap ((deep : Int) + 1) = (deep : Int) + 1 := by rw [IntKind.wrap_i64]; omega
 have hmx : (if (dp : Int) < (deep : Int) + 1 then (deep : Int) + 1 else (dp : Int)) = ((max dp (deep + 1) : Nat) : Int) := by split <;> omega
 obtain ⟨h1, f1⟩ := h.num (nx' := nx) (dp' := max dp (deep + 1)) hnx hd2 4 (.int .i64 (if (dp : Int) < (deep : Int) + 1 then (deep : Int) + 1 else (dp : Int))) (by intro ad A c; rw [hmx]; rfl)
 have HO := hid ho
 clear ho hbad hmx
 go_enter Tryz.func69, Tryz.ntmps69
 go_upto_region 3 with fail
 obtain ⟨mv, hmv⟩ : ∃ mv : Int, mv = if (dp : Int) < (deep : Int) + 1 then (deep : Int) + 1 else (dp : Int) := ⟨_, rfl⟩
 rw [← hmv] at h1 f1
 rw [← hmv]
 clear hmv
 obtain ⟨w1, hw1⟩ : ∃ w1, w1 = w.setCell ⟨b.pB, 4, none⟩ (.int .i64 mv) := ⟨_, rfl⟩
 rw [← hw1] at h1 f1
 rw [← hw1]
 clear hw1
 obtain ⟨dpp, hdpp⟩ : ∃ d, d = max dp (deep + 1) := ⟨_, rfl⟩
 rw [← hdpp] at h1 HO
 clear hdpp hd2 c2 c3 c4 z4 hB
 obtain ⟨ad1, A1, cc1, _, hB1, _⟩ := h1.mem
 have c2 : w1.cell? ⟨b.pB, 2, none⟩ = some (.slice b.A0 b.gs.length b.c0) := hB1.cell 2
 have c3 : w1.cell? ⟨b.pB, 3, none⟩ = some (.int .i64 (nx : Int)) := hB1.cell 3
 have z3 := hB1.frozen 3
 obtain ⟨bb, off, vs, hA0, hbbl, hni, hcell⟩ := h1.sc.at_ hx
 rw [hA0] at c2
 by_cases hmn : (m : Int) < (nx : Int)
 ·have ho := HO.out
  rw [if_pos hmn] at ho
  have cn := hcell _ _ hni.name
  rw [← Nat.add_assoc] at cn
  have HOo := hid ho
  clear ho HO
  go_wp2_with fail
  have ho := HOo.out
  by_cases hq : (t ++ x.name).length ≤ 4096
  case neg =>
   refine (put_no h1 x.name (by have := hok.nm; omega) hq).mono ?_
   rintro e w2 ⟨rfl, f2⟩
   unfold giveV
   refine ⟨rfl, ?_⟩
   rw [ho, wpt_no hq]
   exact ⟨rfl, f1.trans f2⟩
  refine (put_ok h1 x.name (by have := hok.nm; omega) hq).mono ?_
  rintro e w2 ⟨rfl, h2, f2⟩
  rw [wpt_yes hq] at ho
  have HO3 := hid ho
  clear ho HOo hq
  go_wp2
  refine bodyPost_ret (results_none rfl _ _ _) rfl ?_
  rw [HO3.out]
  exact ⟨Nat.le_refl _, rfl, h2, f1.trans f2⟩
 ·have ho := HO.out
  rw [if_neg hmn] at ho
  obtain rfl : m = nx := by omega
  have hwn : IntKind.i64.wrap ((m : Int) + 1) = (m : Int) + 1 := by rw [IntKind.wrap_i64]; omega
  obtain ⟨h2, f2⟩ := h1.num (nx' := m + 1) (dp' := dpp) (by omega) h1.dp_ 3 (.int .i64 ((m : Int) + 1)) (by intro ad A c; rfl)
  have HOo := hid ho
  clear ho HO
  go_upto_region 6 with fail
  obtain ⟨w2, hw2⟩ : ∃ w2, w2 = w1.setCell ⟨b.pB, 3, none⟩ (.int .i64 ((m : Int) + 1)) := ⟨_, rfl⟩
  rw [← hw2] at h2 f2
  rw [← hw2]
  clear hw2 hcell hni hA0 c2 c3 z3
  obtain ⟨ad2, A2, cc2, _, hB2, _⟩ := h2.mem
  have c2 : w2.cell? ⟨b.pB, 2, none⟩ = some (.slice b.A0 b.gs.length b.c0) := hB2.cell 2
  obtain ⟨bb, off, vs, hA0, hbbl, hni, hcell⟩ := h2.sc.at_ hx
  rw [hA0] at c2
  obtain ⟨cs, hv, hcs6, hcs⟩ := ndV_of hni
  have hrg : w2.rangeAt bb (off + m * 6) cs := fun q v hv => by
   rw [Nat.add_assoc]
   exact hcell _ _ (hcs q v hv)
  have hsz : (Tryz.prog.info? 64).map (·.size) = some cs.length := by rw [hcs6]; exact szNd
  have be := begin_any IT TC (deep := deep + 1) h2 (by omega) hok hv
  rw [show ((deep + 1 : Nat) : Int) = (deep : Int) + 1 by omega] at be
  have ho := HOo.out
  rw [← ho] at be
  clear HOo ho hcell hcs hv hni
  go_wp2_with (refine wpList_load_mid rfl 64 _ rfl bb (off + m * 6) rfl cs _ hrg Tryz.underlying64 rfl hsz ?_)
  refine be.mono ?_
  rintro e w3 hp
  cases hoo : o with
  | none =>
   rw [hoo] at hp
   obtain ⟨rfl, f4⟩ := hp
   unfold giveV
   exact ⟨rfl, show Gw b w _ _ from ⟨rfl, (f1.trans f2).trans f4⟩⟩
  | some st =>
   rw [hoo] at hp
   obtain ⟨hnx3, rfl, h4, f4⟩ := hp
   have HOO := hid hoo
   clear hoo
   go_wp2
   go_end0
   rw [HOO.out]
   exact ⟨by omega, rfl, h4, (f1.trans f2).trans f4⟩
theorem wtyp_any (IT : ItoaOk) (b : WB) : ∀ f, TypWC b f
 | 0 => fun _ _ _ _ _ _ _ hf => absurd hf.1 (Nat.not_lt_zero _)
 | f + 1 => fun _ _ n _ _ _ h hf => wtyp_step IT (wtyp_any IT b f) h hf n
end
open Go.RowKit
structure WZ (w : World) (pB g : Nat) (t : List UInt8) (nv : Value) (nx dp : Nat) : Prop where
 blk : ∃ ad c, Blk w pB 72 #[ad, .slice (some ⟨g, 0, none⟩) t.length c, nv, .int .i64 (nx : Int), .int .i64 (dp : Int)] ∧ t.length ≤ c
 row : ∃ cs fr, w.heap[g]? = some (.cells cs 5 fr) ∧ t.length ≤ cs.size ∧ ∀ (j : Nat) (x : UInt8), t[j]? = some x → cs[j]? = some (Value.int .u8 (x.toNat : Int))
 few : t.length ≤ 4096
section
variable {w w' : World} {pB g : Nat} {t : List UInt8} {nv : Value} {nx dp : Nat}
theorem WZ.turn (h : WZ w pB g t nv nx dp) {row : Option Nat} (ht : Turn w w' row) (h1 : row ≠ some pB) (h2 : row ≠ some g) : WZ w' pB g t nv nx dp := by
 obtain ⟨ad, c, b1, b2⟩ := h.blk
 obtain ⟨cs, fr, r1, r2, r3⟩ := h.row
 have hg : g < w.heap.size := (Array.getElem?_eq_some_iff.1 r1).1
 exact ⟨⟨ad, c, b1.turn ht (fun e => h1 e.symm), b2⟩, ⟨cs, fr, (World.grownBy.block ht g hg (fun e => h2 e.symm)).trans r1, r2, r3⟩, h.few⟩
theorem WZ.turn0 (h : WZ w pB g t nv nx dp) (ht : Turn w w' none) : WZ w' pB g t nv nx dp := h.turn ht (by simp) (by simp)
theorem WS.z {b : WB} (h : WS w b t nx dp) (ht : t ≠ []) : ∃ g, b.base ≤ g ∧ g ≠ b.pB ∧ WZ w b.pB g t (.slice b.A0 b.gs.length b.c0) nx dp := by
 obtain ⟨ad, A, c, _, h2, h3⟩ := h.mem
 have hl : 0 < t.length := by cases t with
  | nil => exact absurd rfl ht
  | cons _ _ => simp
 rcases h3.2 with ⟨hv, h0⟩ | ⟨g, cap, cur, hv, hbg, hg, hnc, hcm, hcs, htake⟩
 ·exact absurd h0 (by simp; omega)
 injection hv with hA _ hc
 subst hA; subst hc
 refine ⟨g, hbg, fun e => ?_, ⟨⟨ad, c, h2, hnc⟩, ⟨cur, (0, 0), hg, by omega, fun j x hx => ?_⟩, h.short⟩⟩
 ·exact h3.not_blk h2 (by decide) (by rw [← e]; rfl)
 ·have hj : j < t.length := (List.getElem?_eq_some_iff.1 hx).1
  have e1 : (vbs t)[j]? = some (.int .u8 (x.toNat : Int)) := by
   unfold vbs
   rw [List.getElem?_map, hx]
   rfl
  rw [← htake, List.getElem?_take] at e1
  rw [if_pos (by omega)] at e1
  simpa using e1
theorem freeze_turn (w : World) (g n : Nat) : Turn w (w.freeze ⟨g, 0, none⟩ n) (some g) := by
 unfold World.freeze
 split
 ·exact Turn.refl _ _
 ·refine ⟨rfl, rfl, rfl, by simp, fun k _ hk => ?_⟩
  rw [Array.getElem?_modify]
  rw [if_neg (fun e => hk (by rw [← e]))]
theorem freeze_row {cs : Array Value} {fr : Nat × Nat} {E : TypeId} (h : w.heap[g]? = some (.cells cs E fr)) (n : Nat) : ∃ fr', (w.freeze ⟨g, 0, none⟩ n).heap[g]? = some (.cells cs E fr') := by
 unfold World.freeze
 split
 ·exact ⟨fr, h⟩
 ·obtain ⟨lo, hi⟩ := fr
  refine ⟨if lo == hi then (0, 0 + n) else (min lo 0, max hi (0 + n)), ?_⟩
  rw [Array.getElem?_modify, if_pos rfl, h]
  rfl
theorem str_any (h : WZ w pB g t nv nx dp) (ht : t ≠ []) (hne : g ≠ pB) : Calls Tryz.prog 45 #[.pointer (some ⟨pB, 0, none⟩)] w fun e w' => e = .returned (.string (txt t)) ∧ WZ w' pB g t nv nx dp ∧ ∃ w1, Turn w w1 none ∧ Turn w1 w' (some g) := by
 obtain ⟨ad, c, b1, b2⟩ := h.blk
 obtain ⟨cs, fr, r1, r2, r3⟩ := h.row
 have hl : 0 < t.length := by cases t with
  | nil => exact absurd rfl ht
  | cons _ _ => simp
 have c1 : w.cell? ⟨pB, 1, none⟩ = some (.slice (some ⟨g, 0, none⟩) t.length c) := b1.cell 1
 have hco : Tryz.prog.cellsOf 5 = 1 := by
  obtain ⟨i0, hi, hz0, hz1, hz2⟩ := info_parts infoU8
  simp [Program.cellsOf, hi, hz1]
 have hfew := h.few
 have sd := fun (w : World) (ts : Array TypeId) (ty : TypeId) => Lib.run_unsafeSliceData_row (P := Tryz.prog) w ts ty ⟨g, 0, none⟩ t.length c (by omega)
 have us : ∀ (w' : World) fr, w'.heap[g]? = some (.cells cs 5 fr) → (Builtin.unsafeString_ #[115, 3] 9 #[.pointer (some ⟨g, 0, none⟩), .int .i64 (t.length : Int)]).run Tryz.prog w' = .ok (.string (txt t)) (w'.freeze ⟨g, 0, none⟩ t.length) := fun w' fr hr =>
  Lib.run_unsafeString_row (P := Tryz.prog) w' 115 3 9 5 Tryz.underlying115 hco g cs.size (by unfold World.shape?; rw [hr]) t ht r2 (by omega) (fun j x hx => by rw [add_flat, Nat.zero_add, cell_of_row w' g j cs 5 fr hr]; exact r3 j x hx)
 go_enter Tryz.func45, Tryz.ntmps45
 go_wp2_with fail
 refine wp_region_held_drew (S := fun W => W.cell? ⟨pB, 1, none⟩ = some (.slice (some ⟨g, 0, none⟩) t.length c) ∧ ∃ fr, W.heap[g]? = some (.cells cs 5 fr)) (by kernel_rfl) ⟨c1, fr, r1⟩ (fun hHeld => ?_)
 (first | refine tkN 0 ?_ | refine tkY 0 _ ?_); (try simp only [Act.put, zs])
 (first | refine tkN 1 ?_ | refine tkY 1 _ ?_); (try simp only [Act.put, zs])
 (first | refine tkN 2 ?_ | refine tkY 2 _ ?_); (try simp only [Act.put, zs])
 (first | refine tkN 3 ?_ | refine tkY 3 _ ?_); (try simp only [Act.put, zs])
 (first | refine tkN 4 ?_ | refine tkY 4 _ ?_); (try simp only [Act.put, zs])
 (first | refine tkN 5 ?_ | refine tkY 5 _ ?_); (try simp only [Act.put, zs])
 (first | refine tkN 6 ?_ | refine tkY 6 _ ?_); (try simp only [Act.put, zs])
 (first | refine tkN 7 ?_ | refine tkY 7 _ ?_); (try simp only [Act.put, zs])
 (first | refine tkN 8 ?_ | refine tkY 8 _ ?_); (try simp only [Act.put, zs])
 (first | refine tkN 9 ?_ | refine tkY 9 _ ?_); (try simp only [Act.put, zs])
 refine wpAnyH_ready (rs := [10]) (by kernel_rfl) (by simp) ?_; refine AllReadyH.cons rfl (fun K hK => ?_) AllReadyH.nil
 have hu := us w.drew _ r1
 go_simp
 have tz := freeze_turn w.drew g t.length
 obtain ⟨fz, rz⟩ := freeze_row (w := w.drew) r1 t.length
 have nx1 : ¬ (some pB : Option Nat) = some g := fun e => hne (by injection e with e; exact e.symm)
 have hc2 := (tz.cell (a := ⟨pB, 1, none⟩) b1.lt nx1).trans c1
 refine hK.out _ _ ⟨hc2, fz, rz⟩ (fun hHeld => ?_); clear hK K; (try simp only [Act.put, zs])
 (first | refine tkN 11 ?_ | refine tkY 11 _ ?_); (try simp only [Act.put, zs])
 refine wpAnyH_done (by kernel_rfl) ?_ _
 clear hHeld
 go_wp2
 go_ret
 have td : Turn w w.drew none := (Turn.refl w none).drew
 have b3 := (b1.turn0 td).turn tz nx1
 exact ⟨rfl, ⟨⟨ad, c, b3, b2⟩, ⟨cs, fz, rz, r2, r3⟩, h.few⟩, _, td, tz⟩
end
open Go.RowKit
theorem beq_diff {α : Type} [BEq α] [LawfulBEq α] {l m : List α} {j : Nat} {a b : α} (h1 : l[j]? = some a) (h2 : m[j]? = some b) (hne : ¬a = b) : (l == m) = false := by
 rw [beq_eq_false_iff_ne]
 rintro rfl
 rw [h1, Option.some.injEq] at h2
 exact hne h2
theorem beq_all {α : Type} [BEq α] [LawfulBEq α] {l m : List α} (hl : l.length = m.length) (h : l.take l.length = m.take l.length) : (l == m) = true := by
 rw [beq_iff_eq]
 rw [List.take_length, hl, List.take_length] at h
 exact h
theorem beq_len {α : Type} [BEq α] [LawfulBEq α] {l m : List α} (hl : ¬l.length = m.length) : (l == m) = false := by
 rw [beq_eq_false_iff_ne]
 rintro rfl
 exact hl rfl
theorem take_next1 {α : Type} {l m : List α} {j : Nat} {a : α} (h1 : l[j]? = some a) (h2 : m[j]? = some a) (h : l.take j = m.take j) : l.take (j + 1) = m.take (j + 1) := by
 rw [List.take_add_one, List.take_add_one, h, h1, h2]
theorem rints_any (A B : Option Addr) (n m c d : Nat) (l k : List Int) (D : Nat) (w : World) (hl : l.length = n) (hk : k.length = m) (ha : Rd w D 1 A n (vis l)) (hb : Rd w D 1 B m (vis k)) (hD : D ≤ w.heap.size) (hn : n ≤ 1000000) :
  Calls Tryz.prog 87 #[.slice A n c, .slice B m d] w fun e w' => e = .returned (.bool (l == k)) ∧ Turn w w' none := by
 by_cases hnm : n = m
 ·subst hnm
  have hnn : ((n : Int) != (n : Int)) = false := by simp
  have hlk : l.length = k.length := by omega
  go_enter Tryz.func87, Tryz.ntmps87
  go_wp2
  go_loopw [5] (fun i wr => ∃ j : Nat, j ≤ n ∧ i = .int .i64 (j : Int) ∧ Hid (l.take j = k.take j) ∧ Turn w wr none) (fun i _ => (n - intOf i).toNat)
  case atStart => exact ⟨0, by omega, rfl, hid rfl, Turn.refl w none⟩
  case round =>
   obtain ⟨j, hj, rfl, HE, htr⟩ := hrel
   have hwr : wrap64 ((j : Int) + 1) = (j : Int) + 1 := by unfold wrap64; omega
   have ha2 := ha.turn0 htr hD
   have hb2 := hb.turn0 htr hD
   by_cases hjn : j < n
   ·obtain ⟨x, hx⟩ : ∃ x, l[j]? = some x := ⟨l[j]'(by omega), List.getElem?_eq_getElem (by omega)⟩
    obtain ⟨y, hy⟩ : ∃ y, k[j]? = some y := ⟨k[j]'(by omega), List.getElem?_eq_getElem (by omega)⟩
    obtain ⟨b1, o1, rfl, _, h1⟩ := ha2.head (by omega)
    obtain ⟨b2, o2, rfl, _, h2⟩ := hb2.head (by omega)
    have hc1 := h1 j _ (vis_at hx)
    have hc2 := h2 j _ (vis_at hy)
    have HX := hid hx
    have HY := hid hy
    clear h1 h2 hx hy
    by_cases hxy : x = y
    ·have e : (x != y) = false := by rw [hxy]; simp
     have HXY := hid hxy
     clear hxy
     go_wp2_with (fail)
     go_quiet (fail)
     go_wp2
     refine ⟨⟨j + 1, by omega, by go_num, hid (take_next1 HX.out (by rw [HXY.out]; exact HY.out) HE.out), htr.drewN _⟩, by simp [intOf]; omega⟩
    ·have e : (x != y) = true := by rw [bne_iff_ne]; exact hxy
     have H := hid (beq_diff HX.out HY.out hxy)
     clear hxy
     go_wp2_with (fail)
     go_quiet (fail)
     go_wp2
     go_ret
     exact ⟨by rw [H.out]; rfl, htr.drewN _⟩
   ·obtain rfl : j = n := by omega
    have H := hid (beq_all hlk (by rw [hl]; exact HE.out))
    go_wp2
    go_ret
    exact ⟨by rw [H.out]; rfl, htr⟩
 ·have hne : ((n : Int) != (m : Int)) = true := by rw [bne_iff_ne]; omega
  have H := hid (beq_len (l := l) (m := k) (by omega))
  go_enter Tryz.func87, Tryz.ntmps87
  go_wp2
  go_ret
  exact ⟨by rw [H.out]; rfl, Turn.refl w none⟩
theorem rtexts_any (A B : Option Addr) (n m c d : Nat) (l k : List (List UInt8)) (D : Nat) (w : World) (hl : l.length = n) (hk : k.length = m) (ha : Rd w D 1 A n (vss l)) (hb : Rd w D 1 B m (vss k)) (hD : D ≤ w.heap.size) (hn : n ≤ 1000000) :
  Calls Tryz.prog 86 #[.slice A n c, .slice B m d] w fun e w' => e = .returned (.bool (l == k)) ∧ Turn w w' none := by
 by_cases hnm : n = m
 ·subst hnm
  have hnn : ((n : Int) != (n : Int)) = false := by simp
  have hlk : l.length = k.length := by omega
  go_enter Tryz.func86, Tryz.ntmps86
  go_wp2
  go_loopw [5] (fun i wr => ∃ j : Nat, j ≤ n ∧ i = .int .i64 (j : Int) ∧ Hid (l.take j = k.take j) ∧ Turn w wr none) (fun i _ => (n - intOf i).toNat)
  case atStart => exact ⟨0, by omega, rfl, hid rfl, Turn.refl w none⟩
  case round =>
   obtain ⟨j, hj, rfl, HE, htr⟩ := hrel
   have hwr : wrap64 ((j : Int) + 1) = (j : Int) + 1 := by unfold wrap64; omega
   have ha2 := ha.turn0 htr hD
   have hb2 := hb.turn0 htr hD
   by_cases hjn : j < n
   ·obtain ⟨x, hx⟩ : ∃ x, l[j]? = some x := ⟨l[j]'(by omega), List.getElem?_eq_getElem (by omega)⟩
    obtain ⟨y, hy⟩ : ∃ y, k[j]? = some y := ⟨k[j]'(by omega), List.getElem?_eq_getElem (by omega)⟩
    obtain ⟨b1, o1, rfl, _, h1⟩ := ha2.head (by omega)
    obtain ⟨b2, o2, rfl, _, h2⟩ := hb2.head (by omega)
    have hc1 := h1 j _ (vss_at hx)
    have hc2 := h2 j _ (vss_at hy)
    have HX := hid hx
    have HY := hid hy
    clear h1 h2 hx hy
    by_cases hxy : x = y
    ·have e : ((txt x).toList == (txt y).toList) = true := by rw [hxy]; simp
     have e2 : ((txt x).toList != (txt y).toList) = false := by rw [hxy]; simp
     have HXY := hid hxy
     clear hxy
     go_wp2_with (fail)
     go_quiet (fail)
     go_wp2
     refine ⟨⟨j + 1, by omega, by go_num, hid (take_next1 HX.out (by rw [HXY.out]; exact HY.out) HE.out), htr.drewN _⟩, by simp [intOf]; omega⟩
    ·have e : ((txt x).toList == (txt y).toList) = false := by rw [tx_beq]; simpa using hxy
     have e2 : ((txt x).toList != (txt y).toList) = true := by rw [bne, e]; rfl
     have H := hid (beq_diff HX.out HY.out hxy)
     clear hxy
     go_wp2_with (fail)
     go_quiet (fail)
     go_wp2
     go_ret
     exact ⟨by rw [H.out]; rfl, htr.drewN _⟩
   ·obtain rfl : j = n := by omega
    have H := hid (beq_all hlk (by rw [hl]; exact HE.out))
    go_wp2
    go_ret
    exact ⟨by rw [H.out]; rfl, htr⟩
 ·have hne : ((n : Int) != (m : Int)) = true := by rw [bne_iff_ne]; omega
  have H := hid (beq_len (l := l) (m := k) (by omega))
  go_enter Tryz.func86, Tryz.ntmps86
  go_wp2
  go_ret
  exact ⟨by rw [H.out]; rfl, Turn.refl w none⟩
end Go.Proofs.YtgigiecdpjchkaaGreatDoor
