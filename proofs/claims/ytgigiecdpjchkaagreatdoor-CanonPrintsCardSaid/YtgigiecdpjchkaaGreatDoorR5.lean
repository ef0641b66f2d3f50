import Derived.Test.YtgigiecdpjchkaaGreatDoorR4
import Derived.Test.YtgigiecdpjchkaaGreatDoorR1
import Derived.Lib.Strings
import Derived.Lib.BufferWrite
import Derived.Lib.UnsafeStr
import Derived.Laws.MakeOwn
import Derived.RangeFuncNested
import Derived.RangeFuncBound
import Derived.RangeFuncCalls
import Derived.RangeFuncLeaves
import Derived.Shelf.Abstract
import Derived.Shelf.RegionOpen
import Derived.OwnWalkIn
import Derived.TacticsInMore
import Derived.LoopNIn
import Derived.LoopIn
import Derived.Deep.MidRow
import Derived.Deep.WholeRow
set_option linter.unusedSimpArgs false
set_option linter.unusedVariables false
set_option linter.unusedSectionVars false
set_option maxRecDepth 100000
set_option maxHeartbeats 6400000
namespace Go.Proofs.YtgigiecdpjchkaaGreatDoor
open Go.RowKit
theorem skip_blank : ∀ l : List UInt8, wSkip false l = (l.takeWhile wBlank).length + wSkip false (l.drop (l.takeWhile wBlank).length)
 | [] => rfl
 | c :: r => by
  cases hb : wBlank c with
  | false => rw [List.takeWhile_cons, hb]; simp
  | true =>
   have h35 : c.toNat ≠ 35 := by
    intro e
    unfold wBlank at hb
    rw [decide_eq_true_iff] at hb
    omega
   rw [List.takeWhile_cons, hb, if_pos rfl, List.length_cons, List.drop_succ_cons, wSkip, if_pos (pass_blank hb), note_blank h35, skip_blank r]
   omega
theorem skip_note : ∀ l : List UInt8, wSkip true l = (l.takeWhile wLine).length + wSkip false (l.drop (l.takeWhile wLine).length)
 | [] => rfl
 | c :: r => by
  by_cases h : c.toNat = 10
  ·have hl : wLine c = false := decide_eq_false (by omega)
   have h1 := pass_lf (note := true) h
   have h2 := pass_lf (note := false) h
   rw [List.takeWhile_cons, hl, wSkip, if_pos h1.1, h1.2]
   show _ = 0 + wSkip false (c :: r)
   rw [wSkip, if_pos h2.1, h2.2]
   omega
  ·have hl : wLine c = true := decide_eq_true h
   have h1 := pass_in h
   rw [List.takeWhile_cons, hl, if_pos rfl, List.length_cons, List.drop_succ_cons, wSkip, if_pos h1.1, h1.2, skip_note r]
   omega
theorem over_blank (l : List UInt8) (a : Nat) : wOver false l a = wRun wBlank l a + wOver false l (a + wRun wBlank l a) := by
 unfold wOver wRun
 rw [skip_blank, List.drop_drop]
theorem over_note {l : List UInt8} {a : Nat} {c : UInt8} (h : l[a]? = some c) (h35 : c.toNat = 35) : wOver false l a = wRun wLine l a + wOver false l (a + wRun wLine l a) := by
 have hl : wLine c = true := decide_eq_true (by omega)
 have h1 := pass_sign h35
 rw [wOver_in h h1.1, h1.2, wRun_in h hl, show a + (wRun wLine l (a + 1) + 1) = a + 1 + wRun wLine l (a + 1) by omega]
 unfold wOver wRun
 rw [skip_note, List.drop_drop]
 omega
theorem wRun_stop {p : UInt8 → Bool} {l : List UInt8} {a : Nat} {c : UInt8} (h : l[a + wRun p l a]? = some c) : p c = false := by
 unfold wRun at h
 have hd := drop_at h
 rw [← List.drop_drop] at hd
 exact takeWhile_next (p := p) (l.drop a) c _ hd
theorem between_any (s : ByteArray) (l : List UInt8) (a : Nat) (w : World) (hs : Tx s l) (hl : l.length ≤ 140737488355328) (ha : a ≤ l.length) :
  Calls Tryz.prog 139 #[.string s, .int .i64 (a : Int)] w fun e w' => e = .returned (.int .i64 ((a + wOver false l a : Nat) : Int)) ∧ w = w' := by
 obtain ⟨n, hn⟩ : ∃ n, l.length = n := ⟨_, rfl⟩
 have hsz : s.size = n := hs.size.trans hn
 obtain ⟨E, hE⟩ : ∃ E, E = a + wOver false l a := ⟨_, rfl⟩
 have HE := hid hE
 rw [← hE]
 clear hE
 have HL := hid hl
 have HA := hid ha
 rw [hn] at ha hl
 have HN := hid hn
 clear hn
 obtain ⟨b, hb⟩ : ∃ b, b = a + wRun wBlank l a := ⟨_, rfl⟩
 have hbn : b ≤ n := by have := wRun_le wBlank l a; have := HN.out; omega
 have HB := hid hb
 clear hb
 go_enter Tryz.func139, Tryz.ntmps139
 go_wp2_with (go_at_call 160; refine (past_any sort_blank s l a _ hs HL.out HA.out).mono ?_; rintro e w' ⟨rfl, rfl⟩; rw [← HB.out])
 go_loopw [1] (fun i wr => ∃ j : Nat, j ≤ n ∧ i = .int .i64 (j : Int) ∧ Hid (j + wOver false l j = E) ∧ Hid (∀ c, l[j]? = some c → wBlank c = false) ∧ w = wr) (fun i _ => (n - intOf i).toNat)
 case atStart =>
  refine ⟨b, hbn, rfl, hid ?_, hid ?_, rfl⟩
  ·have := HE.out; rw [over_blank, ← HB.out] at this; have := HB.out; omega
  ·intro c hc; rw [HB.out] at hc; exact wRun_stop hc
 case round =>
  obtain ⟨j, hj, rfl, HJ, HK, rfl⟩ := hrel
  by_cases hjn : j < n
  ·obtain ⟨c, hc⟩ : ∃ c, l[j]? = some c := ⟨l[j]'(by have := HN.out; omega), List.getElem?_eq_getElem (by have := HN.out; omega)⟩
   have hcj := hs.at_ hc
   have hc256 := c.toNat_lt
   have HC := hid hc
   clear hc
   have hjni : (j : Int) < n := by omega
   by_cases h35 : c.toNat = 35
   ·have e35 : ((c.toNat : Int) == 35) = true := by rw [h35]; rfl
    have H35 := hid h35
    clear h35
    obtain ⟨b1, hb1⟩ : ∃ b1, b1 = j + wRun wLine l j := ⟨_, rfl⟩
    have hb1n : b1 ≤ n := by have := wRun_le wLine l j; have := HN.out; omega
    have hb1j : j < b1 := by
     have := wRun_in HC.out (p := wLine) (decide_eq_true (by have := H35.out; omega))
     omega
    obtain ⟨b2, hb2⟩ : ∃ b2, b2 = b1 + wRun wBlank l b1 := ⟨_, rfl⟩
    have hb2n : b2 ≤ n := by have := wRun_le wBlank l b1; have := HN.out; omega
    have hb2j : j < b2 := by omega
    have HB1 := hid hb1
    have HB2 := hid hb2
    clear hb1 hb2
    go_wp2_with (first
     | (go_at_call_of 160 j; refine (past_any sort_line s l j _ hs HL.out (by have := HN.out; omega)).mono ?_; rintro e w' ⟨rfl, rfl⟩; rw [← HB1.out])
     | (go_at_call_of 160 b1; refine (past_any sort_blank s l b1 _ hs HL.out (by have := HN.out; omega)).mono ?_; rintro e w' ⟨rfl, rfl⟩; rw [← HB2.out]))
    refine ⟨⟨b2, hb2n, rfl, hid ?_, hid ?_, trivial⟩, ?_⟩
    ·have := HJ.out
     rw [over_note HC.out H35.out, ← HB1.out, over_blank, ← HB2.out] at this
     have := HB1.out
     have := HB2.out
     omega
    ·intro c hc; rw [HB2.out] at hc; exact wRun_stop hc
    ·simp [intOf]; omega
   ·have e35 : ((c.toNat : Int) == 35) = false := beq_no h35
    have hE0 : E = j := by have := HJ.out; rw [wOver_out HC.out (pass_no h35 (HK.out c HC.out))] at this; omega
    have HE0 := hid hE0
    clear hE0 h35
    go_wp2_with fail
    go_ret
    exact ⟨by rw [HE0.out]; rfl, rfl⟩
  ·obtain rfl : j = n := by omega
   have hE0 : E = j := by have := HJ.out; rw [wOver_end (by have := HN.out; omega)] at this; omega
   have HE0 := hid hE0
   clear hE0
   go_wp2_with fail
   go_ret
   exact ⟨by rw [HE0.out]; rfl, rfl⟩
def wTk (l : List UInt8) (a : Nat) (c : UInt8) : Nat × Nat := if wBegins c then (wKind c, a + wLen l a) else (3, a)
theorem wTk_in {l : List UInt8} {a : Nat} {c : UInt8} (h : wBegins c = true) : wTk l a c = (wKind c, a + wLen l a) := by unfold wTk; rw [if_pos h]
theorem wTk_no {l : List UInt8} {a : Nat} {c : UInt8} (h : wBegins c = false) : wTk l a c = (3, a) := by unfold wTk; rw [if_neg (by rw [h]; simp)]
theorem token_any (s : ByteArray) (l : List UInt8) (a : Nat) (c : UInt8) (w : World) (hs : Tx s l) (hl : l.length ≤ 140737488355328) (hc : l[a]? = some c) :
  Calls Tryz.prog 140 #[.string s, .int .i64 (a : Int)] w fun e w' => e = .returned (.tuple #[.int .i64 ((wTk l a c).1 : Int), .int .i64 ((wTk l a c).2 : Int)]) ∧ w = w' := by
 obtain ⟨n, hn⟩ : ∃ n, l.length = n := ⟨_, rfl⟩
 have hsz : s.size = n := hs.size.trans hn
 have HL := hid hl
 have hcj := hs.at_ hc
 have han : a < n := by have := (List.getElem?_eq_some_iff.1 hc).1; omega
 have HA := hid (show a ≤ l.length by omega)
 rw [hn] at hl
 have HC := hid hc
 clear hn hc
 have hani : (a : Int) < n := by omega
 cases h1 : wLow c with
 | true =>
  have hin : wIn c = true := by unfold wIn; rw [h1]; rfl
  have HB := hid (wTk_in (l := l) (a := a) (c := c) (by unfold wBegins; rw [h1]; rfl))
  have HK := hid (show wKind c = 0 by unfold wKind; rw [h1]; rfl)
  have HW := hid (show a + wRun wIn l a = a + wLen l a by rw [wLen_name HC.out h1, wRun_in HC.out hin]; omega)
  have H1 := hid h1
  clear h1 hin
  go_enter Tryz.func140, Tryz.ntmps140
  go_wp2_with (first
   | (go_at_call 163; refine (letter_any c _).mono ?_; rintro e w' ⟨rfl, rfl⟩; rw [H1.out])
   | (go_at_call 160; refine (past_any sort_in s l a _ hs HL.out HA.out).mono ?_; rintro e w' ⟨rfl, rfl⟩; rw [HW.out]))
  go_ret2
  exact ⟨by rw [HB.out, HK.out]; rfl, rfl⟩
 | false =>
  have H1 := hid h1
  cases h2 : wNum c with
  | true =>
   have HB := hid (wTk_in (l := l) (a := a) (c := c) (by unfold wBegins; rw [h1, h2]; rfl))
   have HK := hid (show wKind c = 1 by unfold wKind; rw [h1, h2]; rfl)
   have HW := hid (show a + wRun wNum l a = a + wLen l a by rw [wLen_num HC.out h1 h2, wRun_in HC.out h2]; omega)
   have H2 := hid h2
   clear h1 h2
   go_enter Tryz.func140, Tryz.ntmps140
   go_wp2_with (first
    | (go_at_call 163; refine (letter_any c _).mono ?_; rintro e w' ⟨rfl, rfl⟩; rw [H1.out])
    | (go_at_call 165; refine (digit_any c _).mono ?_; rintro e w' ⟨rfl, rfl⟩; rw [H2.out])
    | (go_at_call 160; refine (past_any sort_digit s l a _ hs HL.out HA.out).mono ?_; rintro e w' ⟨rfl, rfl⟩; rw [HW.out]))
   go_ret2
   exact ⟨by rw [HB.out, HK.out]; rfl, rfl⟩
  | false =>
   have H2 := hid h2
   cases h3 : wSign c with
   | true =>
    have HB := hid (wTk_in (l := l) (a := a) (c := c) (by unfold wBegins; rw [h1, h2, h3]; rfl))
    have HK := hid (show wKind c = 2 by unfold wKind; rw [h1, h2]; rfl)
    have HW := hid (show a + wLen l a = a + 1 by rw [wLen_sign HC.out h1 h2])
    have H3 := hid h3
    clear h1 h2 h3
    go_enter Tryz.func140, Tryz.ntmps140
    go_wp2_with (first
     | (go_at_call 163; refine (letter_any c _).mono ?_; rintro e w' ⟨rfl, rfl⟩; rw [H1.out])
     | (go_at_call 165; refine (digit_any c _).mono ?_; rintro e w' ⟨rfl, rfl⟩; rw [H2.out])
     | (go_at_call 166; refine (sign_any c _).mono ?_; rintro e w' ⟨rfl, rfl⟩; rw [H3.out]))
    go_ret2
    exact ⟨by rw [HB.out, HK.out, HW.out]; rfl, rfl⟩
   | false =>
    have HB := hid (wTk_no (l := l) (a := a) (c := c) (by unfold wBegins; rw [h1, h2, h3]; rfl))
    have H3 := hid h3
    clear h1 h2 h3
    go_enter Tryz.func140, Tryz.ntmps140
    go_wp2_with (first
     | (go_at_call 163; refine (letter_any c _).mono ?_; rintro e w' ⟨rfl, rfl⟩; rw [H1.out])
     | (go_at_call 165; refine (digit_any c _).mono ?_; rintro e w' ⟨rfl, rfl⟩; rw [H2.out])
     | (go_at_call 166; refine (sign_any c _).mono ?_; rintro e w' ⟨rfl, rfl⟩; rw [H3.out]))
    go_ret2
    exact ⟨by rw [HB.out]; rfl, rfl⟩
open Go.RowKit
theorem infoU8 : (Tryz.prog.info? 5).map (fun i => (i.zero, i.size, i.bytes)) = some (some (.int .u8 0), 1, 1) := by kernel_rfl
theorem turn_of_below {w w' : World} (h : Below w.heap.size w w') : Turn w w' none := ⟨h.os, h.tape, h.output, h.size, fun k hk _ => h.block k hk⟩
theorem slClone_any (s : ByteArray) (w : World) (hlim : s.size ≤ 140737488355328) :
  Calls Tryz.prog 141 #[.string s] w fun e w' => e = .returned (.string s) ∧ Turn w w' none := by
 by_cases h0 : s.size = 0
 ·have hs : s = ⟨#[]⟩ := by
   apply ByteArray.ext
   exact Array.eq_empty_of_size_eq_zero h0
  subst hs
  go_enter Tryz.func141, Tryz.ntmps141
  go_wp2
  go_ret
  exact ⟨rfl, Turn.refl _ _⟩
 ·obtain ⟨i0, hi, hz0, hz1, hz2⟩ := info_parts infoU8
  have hinfo : (Tryz.prog.info? 5).map (·.size) = some 1 := by rw [hi]; simp [hz1]
  have hco : Tryz.prog.cellsOf 5 = 1 := by simp [Program.cellsOf, hi, hz1]
  obtain ⟨M, hM⟩ : ∃ M, M = madeCells (Value.int .u8 0).cells (((s.size : Nat) : Int).toNat * i0.size) := ⟨_, rfl⟩
  have hMs : M.size = s.size := by rw [hM, size_madeCells, hz1]; simp
  have hmk : ∀ W : World, (Instr.makeSlice 55 (.int .i64 (s.size : Int)) (.int .i64 (s.size : Int))).run Tryz.prog W = .ok (.slice (some ⟨W.heap.size, 0, none⟩) s.size s.size) (W.alloc (.cells M 5)) := fun W => by
   have h := run_make (P := Tryz.prog) W 55 5 i0 (.int .u8 0) Tryz.underlying55 hi hz0 .i64 .i64 (s.size : Int) (s.size : Int) (by omega) (by omega) (by rw [hz2]; omega) (by omega)
   rw [← hM] at h
   simpa using h
  clear hM
  have hcp := Lib.run_copy_row_string (P := Tryz.prog) (w.alloc (.cells M 5)) 55 9 3 5 w.heap.size 0 s.size s.size s M 5 Tryz.underlying55 hinfo (heap_alloc_new w _) (Nat.le_refl _) (by omega)
  obtain ⟨Y, hY⟩ : ∃ Y, Y = (M.toList.take 0 ++ Lib.byteCells s.data.toList ++ M.toList.drop (0 + s.size)).toArray := ⟨_, rfl⟩
  rw [← hY] at hcp
  have hYl : Y.toList = Lib.byteCells s.data.toList := by
   rw [hY, List.toList_toArray, List.take_zero, List.nil_append, List.drop_of_length_le (by rw [Array.length_toList]; omega), List.append_nil]
  have hYs : Y.size = s.size := by rw [← Array.length_toList, hYl, Lib.byteCells_length, ← Lib.size_eq]
  have hgY : ((w.alloc (.cells M 5)).setRow w.heap.size Y).heap[w.heap.size]? = some (.cells Y 5 (0, 0)) := setRow_heap _ _ M _ 5 (0, 0) (heap_alloc_new w _)
  have hne : s.data.toList ≠ [] := fun e => h0 (by rw [Lib.size_eq, e]; rfl)
  have hUS := Lib.run_unsafeString_row (P := Tryz.prog) ((w.alloc (.cells M 5)).setRow w.heap.size Y) 115 3 9 5 Tryz.underlying115 hco w.heap.size Y.size (by unfold World.shape?; rw [hgY]) s.data.toList hne (by rw [← Lib.size_eq]; omega) (by rw [← Lib.size_eq]; omega)
   (fun j x hx => Lib.cells_of_row hgY Y.size j _ (by rw [List.take_of_length_le (by rw [Array.length_toList]; exact Nat.le_refl _), hYl]; simp [Lib.byteCells, hx]))
  rw [← Lib.size_eq] at hUS
  clear hY
  go_enter Tryz.func141, Tryz.ntmps141
  go_wp2
  go_ret
  have hb1 : Below w.heap.size w (w.alloc (.cells M 5)) := (Below.refl _ w).alloc (Nat.le_refl _) _
  have hb2 : Below w.heap.size (w.alloc (.cells M 5)) ((w.alloc (.cells M 5)).setRow w.heap.size Y) := ⟨rfl, rfl, rfl, by simp, fun k hk => setRow_other _ _ _ _ (by omega)⟩
  exact ⟨rfl, turn_of_below (Lib.below_freeze (hb1.trans hb2) (p := ⟨w.heap.size, 0, none⟩) (Nat.le_refl _) _)⟩
theorem clone_any (s : ByteArray) (w : World) (hlim : s.size ≤ 140737488355328) :
  Calls Tryz.prog 110 #[.string s] w fun e w' => e = .returned (.string s) ∧ Turn w w' none := by
 go_enter Tryz.func110, Tryz.ntmps110
 go_wp2_with (go_at_call 141; refine (slClone_any s _ hlim).mono ?_; rintro e w1 ⟨rfl, ht1⟩)
 go_ret
 exact ⟨rfl, ht1⟩
theorem tokens_any (s : ByteArray) (w : World) :
  Calls Tryz.prog 109 #[.string s] w fun e w' => e = .returned (.func (.func 138) #[] #[.pointer (some ⟨w.heap.size, 0, none⟩)]) ∧ w' = w.alloc (.cells #[.string s] 9) := by
 go_enter Tryz.func109, Tryz.ntmps109
 go_wp2
 go_ret
 exact ⟨rfl, rfl⟩
open Go.RowKit Go.Shelf
attribute [local go_sem] Oper.semAt_some
inductive TkAt (l : List UInt8) : List Tok → Nat → Prop where
 | zero : TkAt l [] 0
 | next {ts : List Tok} {j : Nat} {c : UInt8} (h : TkAt l ts j) (hc : l[j + wOver false l j]? = some c) (hb : wBegins c = true) :
   TkAt l (ts ++ [⟨wKind c, (l.drop (j + wOver false l j)).take (wLen l (j + wOver false l j)), j + wOver false l j⟩]) (j + wOver false l j + wLen l (j + wOver false l j))
theorem wLen_pos {l : List UInt8} {a : Nat} {c : UInt8} (h : l[a]? = some c) : 1 ≤ wLen l a := by
 unfold wLen; rw [drop_at h]; simp only; omega
theorem TkAt.le {l : List UInt8} {ts : List Tok} {j : Nat} (h : TkAt l ts j) : j ≤ l.length ∧ ts.length ≤ j := by
 induction h with
 | zero => exact ⟨Nat.zero_le _, Nat.le_refl _⟩
 | next h hc hb ih =>
  have h1 := (List.getElem?_eq_some_iff.1 hc).1
  have h2 := wLen_le (l := l) (Nat.le_of_lt h1)
  have h3 := wLen_pos hc
  exact ⟨h2, by rw [List.length_append, List.length_singleton]; omega⟩
theorem TkAt.wd {l : List UInt8} (hl : l.length ≤ 4096) {ts : List Tok} {j : Nat} (h : TkAt l ts j) : ts.length ≤ 1500 → WdAt l ts j := by
 induction h with
 | zero => exact fun _ => WdAt.zero hl
 | next h hc hb ih =>
  intro hn
  rw [List.length_append, List.length_singleton] at hn
  exact (ih (by omega)).next hc hb (by omega)
theorem TkAt.prev {l : List UInt8} {ts : List Tok} {t : Tok} {j : Nat} (h : TkAt l (ts ++ [t]) j) : ∃ j' c, TkAt l ts j' ∧ l[j' + wOver false l j']? = some c ∧ wBegins c = true := by
 generalize hx : ts ++ [t] = xs at h
 cases h with
 | zero => simp at hx
 | next h hc hb =>
  obtain ⟨rfl, _⟩ := List.append_inj' hx rfl
  exact ⟨_, _, h, hc, hb⟩
abbrev YTok := Tok × Nat
def yok (t : Tok) : YTok := (t, 0)
def yv (x : YTok) : Array Value := #[.agg #[.int .i64 (x.1.k : Int), .string (txt x.1.s), .int .i64 (x.1.at_ : Int)], .int .i64 (x.2 : Int)]
def YAll (l : List UInt8) (xs : List YTok) : Prop :=
 (∃ ts j, TkAt l ts j ∧ j + wOver false l j = l.length ∧ xs = ts.map yok ++ [(⟨3, [], l.length⟩, 0)]) ∨
 (∃ ts j c, TkAt l ts j ∧ l[j + wOver false l j]? = some c ∧ wBegins c = false ∧ xs = ts.map yok ++ [(⟨0, [], j + wOver false l j⟩, 4)])
def YSome (l : List UInt8) (xs : List YTok) : Prop := YAll l xs ∨ ∃ ts j, TkAt l ts j ∧ xs = ts.map yok
theorem ext_txt (l : List UInt8) (a m : Nat) : (txt l).extract a (a + m) = txt ((l.drop a).take m) := by
 unfold txt
 apply ByteArray.ext
 rw [ByteArray.data_extract]
 simp [List.take_drop]
def KeepB (b : Nat) (W W' : World) : Prop := W'.heap[b]? = W.heap[b]?
theorem KeepB.boxed {b : Nat} {W W' : World} (h : KeepB b W W') {t : TypeId} {v : Value} (hb : Boxed W b t v) : Boxed W' b t v := h.trans hb
theorem iter_in (n lp Bn : Nat) (hn : 2 ≤ n) (s : ByteArray) (l : List UInt8) (hs : Tx s l) (hl4 : l.length ≤ 4096) (J Jx : List YTok → World → Prop)
  (hY : ∀ pre x W, J pre W → pre.length < l.length + 1 → YieldAt Fence.wide (n - 1) Tryz.prog lp (yv x) W fun e W' =>
   (e = .returned (.bool true) ∧ J (pre ++ [x]) W' ∧ KeepB Bn W W') ∨ (e = .returned (.bool false) ∧ Jx (pre ++ [x]) W'))
  (W : World) (hB : Boxed W Bn 9 (.string s)) (h0 : J [] W) :
  CallsIn Fence.wide n Tryz.prog 138 #[.func (.yield lp) #[] #[], .pointer (some ⟨Bn, 0, none⟩)] W fun e W' => (∃ v, e = .returned v) ∧
   ((∃ xs, YAll l xs ∧ J xs W') ∨ (∃ pre, YSome l pre ∧ Jx pre W')) := by
 obtain ⟨L, hL⟩ : ∃ L, l.length = L := ⟨_, rfl⟩
 have hsz : s.size = L := hs.size.trans hL
 have hl := hid (show l.length ≤ 140737488355328 by omega)
 have HL := hid hL
 rw [hL] at hl4
 have hl4i : (L : Int) ≤ 4096 := by omega
 have HS := hid hs
 clear hL
 have hBc := hB.cell
 obtain ⟨E, hE⟩ : ∃ E, E = 0 + wOver false l 0 := ⟨_, rfl⟩
 have hEL : E ≤ L := by have := wOver_le false l 0; have := HL.out; omega
 have HE := hid hE
 clear hE hs
 have h1n : 1 ≤ n := by omega
 refine callsIn_of_wp Tryz.func138 rfl trivial ?_ rfl
 simp only [Tryz.ntmps138, List.size_toArray, List.length_cons, List.length_nil, Nat.reduceAdd, Nat.reduceSub, Array.replicate_succ, Array.replicate_zero, List.push_toArray, List.append_toArray, List.nil_append, List.cons_append]
 gi_wp2_with (refine ⟨trivial, ?_⟩; gi_at_call 139; refine (callsIn_wide.2 (between_any s l 0 _ HS.out hl.out (Nat.zero_le _))).mono ?_; rintro e w' ⟨rfl, rfl⟩; rw [← HE.out])
 gi_loopw [3] (fun v wr => ∃ (ts : List Tok) (j e0 : Nat), v = .int .i64 (e0 : Int) ∧ e0 ≤ L ∧ Hid (j + wOver false l j = e0) ∧ Hid (TkAt l ts j) ∧ J (ts.map yok) wr ∧ Boxed wr Bn 9 (.string s)) (fun v _ => (L - intOf v).toNat)
 case atStart => exact ⟨[], 0, E, rfl, hEL, hid (by have := HE.out; omega), hid .zero, h0, hB⟩
 case round =>
  clear hBc hB h0 W
  obtain ⟨ts, j, e0, rfl, he0, HJ, HT, hJ, hB⟩ := hrel
  have hBc := hB.cell
  have hle := HT.out.le
  have hlen : (ts.map yok).length < l.length + 1 := by rw [List.length_map]; omega
  by_cases hjn : e0 < L
  ·obtain ⟨c, hc⟩ : ∃ c, l[e0]? = some c := ⟨l[e0]'(by have := HL.out; omega), List.getElem?_eq_getElem (by have := HL.out; omega)⟩
   have HC := hid hc
   clear hc
   have hjni : (e0 : Int) < L := by omega
   cases hb : wBegins c with
   | false =>
    have HB := hid hb
    have HK := hid (wTk_no (l := l) (a := e0) hb)
    clear hb
    obtain ⟨fn, tmps, assign, body, hy, hR⟩ := hY (ts.map yok) (⟨0, [], e0⟩, 4) wr hJ hlen
    have hy2 : (Instr.yield lp #[.agg #[.int .i64 0, .string ⟨#[]⟩, .int .i64 (e0 : Int)], .int .i64 4]).run Tryz.prog wr = .ok (.round lp fn tmps assign body) wr := hy
    clear hy
    gi_wp2_with (refine ⟨trivial, ?_⟩; gi_at_call 140; refine (callsIn_wide.2 (token_any s l e0 c _ HS.out hl.out HC.out)).mono ?_; rintro e w' ⟨rfl, rfl⟩; rw [HK.out])
    have HF := hid (show YAll l (ts.map yok ++ [(⟨0, [], e0⟩, 4)]) from .inr ⟨ts, j, c, HT.out, by rw [HJ.out]; exact HC.out, HB.out, by rw [HJ.out]⟩)
    refine hR.mono ?_
    rintro e W3 (⟨rfl, hJ3, hk3⟩ | ⟨rfl, hJx3⟩)
    ·gi_wp2
     refine bodyPost_ret (results_none rfl _ _ _) rfl ?_
     exact ⟨⟨_, rfl⟩, .inl ⟨_, HF.out, hJ3⟩⟩
    ·gi_wp2
     refine bodyPost_ret (results_none rfl _ _ _) rfl ?_
     exact ⟨⟨_, rfl⟩, .inr ⟨_, .inl HF.out, hJx3⟩⟩
   | true =>
    obtain ⟨e1, he1⟩ : ∃ e1, e1 = e0 + wLen l e0 := ⟨_, rfl⟩
    have hlt : e0 < e1 := by have := wLen_pos HC.out; omega
    have hle1 : e1 ≤ L := by have := wLen_le (l := l) (a := e0) (by have := HL.out; omega); have := HL.out; omega
    have hne : ((e1 : Int) == (e0 : Int)) = false := beq_no (by omega)
    obtain ⟨e2, he2⟩ : ∃ e2, e2 = e1 + wOver false l e1 := ⟨_, rfl⟩
    have hle2 : e2 ≤ L := by have := wOver_le false l e1; have := HL.out; omega
    have hlt2 : e0 < e2 := by omega
    have hext : s.extract e0 e1 = txt ((l.drop e0).take (wLen l e0)) := by rw [HS.out, he1, ext_txt]
    have HX := hid hext
    have HB := hid hb
    have HK := hid (show wTk l e0 c = (wKind c, e1) by rw [wTk_in hb, he1])
    have HE1 := hid he1
    have HE2 := hid he2
    have HT2 := hid (show TkAt l (ts ++ [⟨wKind c, (l.drop e0).take (wLen l e0), e0⟩]) e1 by
     have := HT.out.next (by rw [HJ.out]; exact HC.out) hb
     rw [HJ.out, ← he1] at this
     exact this)
    clear hb hext he1 he2
    obtain ⟨fn, tmps, assign, body, hy, hR⟩ := hY (ts.map yok) (⟨wKind c, (l.drop e0).take (wLen l e0), e0⟩, 0) wr hJ hlen
    obtain ⟨x, hx⟩ : ∃ x, x = s.extract e0 e1 := ⟨_, rfl⟩
    have hy2 : (Instr.yield lp #[.agg #[.int .i64 (wKind c : Int), .string (s.extract e0 e1), .int .i64 (e0 : Int)], .int .i64 0]).run Tryz.prog wr = .ok (.round lp fn tmps assign body) wr := by rw [HX.out]; exact hy
    clear hy
    gi_wp2_with (refine ⟨trivial, ?_⟩; gi_at_call 140; refine (callsIn_wide.2 (token_any s l e0 c _ HS.out hl.out HC.out)).mono ?_; rintro e w' ⟨rfl, rfl⟩; rw [HK.out])
    refine hR.mono ?_
    rintro e W3 (⟨rfl, hJ3, hk3⟩ | ⟨rfl, hJx3⟩)
    ·have hB3 := hk3.boxed hB
     have hBc3 := hB3.cell
     gi_wp2_with (refine ⟨trivial, ?_⟩; gi_at_call 139; refine (callsIn_wide.2 (between_any s l e1 _ HS.out hl.out (by have := HL.out; omega))).mono ?_; rintro e w' ⟨rfl, rfl⟩; rw [← HE2.out])
     go_roundw
     case rel => exact ⟨_, e1, e2, rfl, hle2, hid (by have := HE2.out; omega), HT2, by rw [List.map_append]; exact hJ3, hB3⟩
     case measure => simp [intOf]; omega
    ·gi_wp2
     refine bodyPost_ret (results_none rfl _ _ _) rfl ?_
     exact ⟨⟨_, rfl⟩, .inr ⟨_, .inr ⟨_, _, HT2.out, by rw [List.map_append]; rfl⟩, hJx3⟩⟩
  ·obtain rfl : e0 = L := by omega
   have HF := hid (show YAll l (ts.map yok ++ [(⟨3, [], e0⟩, 0)]) from .inl ⟨ts, j, HT.out, by rw [HJ.out, HL.out], by rw [HL.out]⟩)
   obtain ⟨fn, tmps, assign, body, hy, hR⟩ := hY (ts.map yok) (⟨3, [], e0⟩, 0) wr hJ hlen
   have hy2 : (Instr.yield lp #[.agg #[.int .i64 3, .string ⟨#[]⟩, .int .i64 (e0 : Int)], .int .i64 0]).run Tryz.prog wr = .ok (.round lp fn tmps assign body) wr := hy
   clear hy
   gi_wp2
   refine hR.mono ?_
   rintro e W3 (⟨rfl, hJ3, hk3⟩ | ⟨rfl, hJx3⟩)
   ·gi_wp2
    go_end0
    exact ⟨⟨_, rfl⟩, .inl ⟨_, HF.out, hJ3⟩⟩
   ·gi_wp2
    go_end0
    exact ⟨⟨_, rfl⟩, .inr ⟨_, .inl HF.out, hJx3⟩⟩
open Go.RowKit
def WdPost (l : List UInt8) (w : World) (e : Ending) (w' : World) : Prop :=
 (∃ ts A n c, wWords l = .ok ts ∧ e = .returned (.tuple #[.slice A n c, .int .i64 0, .int .i64 0]) ∧ Own w' w.heap.size 90 3 A n c (tcs ts) ∧ Turn w w' none) ∨
 (∃ p er : Nat, wWords l = .error (p, er) ∧ er ≠ 0 ∧ e = .returned (.tuple #[.slice none 0 0, .int .i64 (p : Int), .int .i64 (er : Int)]) ∧ Turn w w' none)
structure LexDone : Prop where
 words : ∀ (s : ByteArray) (l : List UInt8) (w : World), Tx s l → l.length ≤ 140737488355328 → Calls Tryz.prog 65 #[.string s] w (WdPost l w)
 name : ∀ (s : ByteArray) (l : List UInt8) (w : World), Tx s l → l.length ≤ 140737488355328 → Calls Tryz.prog 144 #[.string s] w fun e w' => e = .returned (.bool (wName l)) ∧ Turn w w' none
 number : ∀ (s : ByteArray) (l : List UInt8) (w : World), Tx s l → l.length ≤ 140737488355328 → Calls Tryz.prog 185 #[.string s] w fun e w' => e = .returned (.tuple #[.int .i64 ((if wOk l then wNumAt l else 0 : Nat) : Int), .bool (wOk l)]) ∧ Turn w w' none
theorem words_ok (D : LexDone) (s : ByteArray) (l : List UInt8) (w : World) (hs : Tx s l) (hl : l.length ≤ 140737488355328) {ts : List Tok} (h : wWords l = .ok ts) :
  Calls Tryz.prog 65 #[.string s] w fun e w' => ∃ g c, e = .returned (.tuple #[.slice (some ⟨g, 0, none⟩) ts.length c, .int .i64 0, .int .i64 0]) ∧ Own w' w.heap.size 90 3 (some ⟨g, 0, none⟩) ts.length c (tcs ts) ∧ Turn w w' none := by
 refine (D.words s l w hs hl).mono ?_
 rintro e w' (⟨us, A, n, c, h1, rfl, ho, ht⟩ | ⟨p, er, h1, _⟩)
 ·rw [h] at h1
  injection h1 with h1
  subst h1
  have hn := ho.len_
  rw [tcs_len] at hn
  obtain rfl : n = ts.length := by omega
  have hp : 0 < ts.length := by
   have := (wWords_ord h).2.1
   cases ts with
   | nil => exact absurd rfl this
   | cons t r => simp
  obtain ⟨g, rfl, _, _⟩ := ho.head hp
  exact ⟨g, c, rfl, ho, ht⟩
 ·rw [h] at h1; cases h1
open Go.RowKit Go.Shelf
attribute [local go_sem] Oper.semAt_some
theorem Boxed.res {W : World} {g2 g3 g4 : Nat} {v2 v3 v4 : Value} (h2 : Boxed W g2 81 v2) (h3 : Boxed W g3 3 v3) (h4 : Boxed W g4 27 v4) (tmps : Array Value)
  (e2 : tmps.getD 2 undef = .pointer (some ⟨g2, 0, none⟩)) (e3 : tmps.getD 3 undef = .pointer (some ⟨g3, 0, none⟩)) (e4 : tmps.getD 4 undef = .pointer (some ⟨g4, 0, none⟩)) :
  (results Tryz.f65 tmps).run Tryz.prog W = .ok (.tuple #[v2, v3, v4]) W := by
 have c2 := h2.cell
 have c3 := h3.cell
 have c4 := h4.cell
 rw [Array.getD_eq_getD_getElem?] at e2 e3 e4
 simp [results, Tryz.f65, go_sem, e2, e3, e4, c2, c3, c4]
theorem words_long (s : ByteArray) (l : List UInt8) (w : World) (hs : Tx s l) (hl : l.length ≤ 140737488355328) (h4 : 4096 < l.length) : Calls Tryz.prog 65 #[.string s] w (WdPost l w) := by
 have hsz : s.size = l.length := hs.size
 have H := hid (wWords_long h4)
 have h4i : (4096 : Int) < l.length := by omega
 go_enter Tryz.func65, Tryz.ntmps65
 go_wp2_with fail
 refine bodyPost_ret (Boxed.res (((Boxed.new w _ _).alloc _).alloc _) (((Boxed.new (w.alloc _) _ _)).alloc _) (Boxed.new ((w.alloc _).alloc _) _ _) _ ?_ ?_ ?_) rfl ?_
 ·simp
 ·simp
 ·simp
 exact .inr ⟨0, 2, H.out, by decide, rfl, ((Turn.alloc (Turn.refl w none) _).alloc _).alloc _⟩
theorem infoTok : (Tryz.prog.info? 90).map (fun i => (i.zero, i.size, i.bytes)) = some (some (.agg #[.int .i64 0, .string .empty, .int .i64 0]), 3, 32) := by kernel_rfl
def WdI (w : World) (s : ByteArray) (g : Nat) (pre : List YTok) (W : World) : Prop :=
 (pre.length ≤ 1500 ∧ ∀ x ∈ pre, x.2 = 0) ∧ (∃ v, Boxed W (w.heap.size + 1 + 1 + 1) 81 v ∧ W.ownsRow w.heap.size 90 3 v pre.length (tcs (pre.map Prod.fst))) ∧
 Boxed W w.heap.size 81 (.slice none 0 0) ∧ Boxed W (w.heap.size + 1) 3 (.int .i64 0) ∧ Boxed W (w.heap.size + 1 + 1) 27 (.int .i64 0) ∧ Below w.heap.size w W ∧ Boxed W g 9 (.string s)
def WdX (w : World) (c : Code) (pre : List YTok) (W : World) : Prop :=
 ∃ (pre' : List YTok) (x : YTok) (p er : Nat), (c = .ret ∧ pre = pre' ++ [x] ∧ pre'.length ≤ 1500 ∧ (∀ y ∈ pre', y.2 = 0) ∧ ((x.2 ≠ 0 ∧ p = x.1.at_ ∧ er = x.2) ∨ (x.2 = 0 ∧ pre'.length = 1500 ∧ p = 4096 ∧ er = 2))) ∧
 Boxed W w.heap.size 81 (.slice none 0 0) ∧ Boxed W (w.heap.size + 1) 3 (.int .i64 (p : Int)) ∧ Boxed W (w.heap.size + 1 + 1) 27 (.int .i64 (er : Int)) ∧ Below w.heap.size w W
theorem boxed_far {X Y : World} {row : Option Nat} {B : Nat} {t : TypeId} {v : Value} (h : Boxed X B t v) (hg : X.grownBy Y row) (hr : ∀ r, row = some r → ∃ o : Obj, X.heap[r]? = some o ∧ o.isCells = false) : Boxed Y B t v :=
 boxed_own B t (fun (_ : Unit) => v) () X Y row h hg hr
theorem WdI.own (w : World) (s : ByteArray) (g B : Nat) (hB : w.heap.size ≤ B) : OwnFrom B (WdI w s g) := by
 rintro pre X Y row ⟨h1, h2, h3, h4, h5, h6, h7⟩ hg hr
 have hr' := fun r e => (hr r e).2
 refine ⟨h1, ?_, boxed_far h3 hg hr', boxed_far h4 hg hr', boxed_far h5 hg hr', ?_, boxed_far h7 hg hr'⟩
 ·have := holdsRow_own (β := List YTok) w.heap.size (w.heap.size + 1 + 1 + 1) 81 90 3 (fun pre => pre.length) (fun pre => tcs (pre.map Prod.fst)) (fun _ _ => True) pre X Y row (by obtain ⟨v, a, b⟩ := h2; exact ⟨v, a, b, trivial⟩) hg hr'
  obtain ⟨v, a, b, _⟩ := this
  exact ⟨v, a, b⟩
 ·exact h6.grown hg h6.size (fun j e => by have := (hr j e).1; omega)
theorem WdX.own (w : World) (c : Code) (B : Nat) (hB : w.heap.size ≤ B) : OwnFrom B (WdX w c) := by
 rintro pre X Y row ⟨pre', x, p, er, h1, h3, h4, h5, h6⟩ hg hr
 have hr' := fun r e => (hr r e).2
 exact ⟨pre', x, p, er, h1, boxed_far h3 hg hr', boxed_far h4 hg hr', boxed_far h5 hg hr', h6.grown hg h6.size (fun j e => by have := (hr j e).1; omega)⟩
def WdA (w : World) (s : ByteArray) (L g : Nat) (x : YTok) (a' : Act) (W : World) : Prop :=
 ∃ Bx, w.heap.size + 3 < Bx ∧ Blk W Bx 90 #[.int .i64 (x.1.k : Int), .string (txt x.1.s), .int .i64 (x.1.at_ : Int)] ∧
  a' = { tmps := #[.string s, undef, .pointer (some ⟨w.heap.size, 0, none⟩), .pointer (some ⟨w.heap.size + 1, 0, none⟩), .pointer (some ⟨w.heap.size + 1 + 1, 0, none⟩), .pointer (some ⟨w.heap.size + 1 + 1 + 1, 0, none⟩), .pointer (some ⟨Bx, 0, none⟩), .int .i64 (x.2 : Int),
   .string s, .int .i64 (L : Int), .bool (decide ((4096 : Int) < L)), .string s, .string s, .func (.func 138) #[] #[.pointer (some ⟨g, 0, none⟩)], .agg #[.int .i64 (x.1.k : Int), .string (txt x.1.s), .int .i64 (x.1.at_ : Int)], .int .i64 (x.2 : Int), undef, undef, undef, undef, undef, undef, undef, undef, undef, undef, undef, undef, undef], defers := [] }
theorem WdA.own (w : World) (s : ByteArray) (L g B : Nat) (x : YTok) (a' : Act) : OwnFrom B (fun (_ : Unit) W => WdA w s L g x a' W) := by
 rintro _ X Y row ⟨Bx, h1, h2, h3⟩ hg hr
 refine ⟨Bx, h1, h2.turn hg fun e => ?_, h3⟩
 obtain ⟨_, o, ho, hc⟩ := hr Bx e.symm
 rw [show X.heap[Bx]? = _ from h2] at ho
 cases ho
 cases hc
theorem iter_stops (s : ByteArray) (l : List UInt8) (hs : Tx s l) (hl4 : l.length ≤ 4096) (n g : Nat) (hn : 2 ≤ n) (w : World) (hB : Boxed w g 9 (.string s)) :
  SeqStopsK Fence.wide n Tryz.prog 138 #[.pointer (some ⟨g, 0, none⟩)] yv (KeepB g) (YAll l) (YSome l) (l.length + 1) w := fun lp J Jx W hW _ _ hY h0 =>
 iter_in n lp g hn s l hs hl4 J Jx hY W ((hW.block g hB.lt).trans hB) h0
theorem set3 {w W : World} {u2 u3 u4 : Value} (v2 v3 v4 : Value) (h3 : Boxed W w.heap.size 81 u2) (h4 : Boxed W (w.heap.size + 1) 3 u3) (h5 : Boxed W (w.heap.size + 1 + 1) 27 u4) (h6 : Below w.heap.size w W) :
  KeepsOthers W (((W.setCell ⟨w.heap.size, 0, none⟩ v2).setCell ⟨w.heap.size + 1, 0, none⟩ v3).setCell ⟨w.heap.size + 1 + 1, 0, none⟩ v4) ∧
  Boxed (((W.setCell ⟨w.heap.size, 0, none⟩ v2).setCell ⟨w.heap.size + 1, 0, none⟩ v3).setCell ⟨w.heap.size + 1 + 1, 0, none⟩ v4) w.heap.size 81 v2 ∧
  Boxed (((W.setCell ⟨w.heap.size, 0, none⟩ v2).setCell ⟨w.heap.size + 1, 0, none⟩ v3).setCell ⟨w.heap.size + 1 + 1, 0, none⟩ v4) (w.heap.size + 1) 3 v3 ∧
  Boxed (((W.setCell ⟨w.heap.size, 0, none⟩ v2).setCell ⟨w.heap.size + 1, 0, none⟩ v3).setCell ⟨w.heap.size + 1 + 1, 0, none⟩ v4) (w.heap.size + 1 + 1) 27 v4 ∧
  Below w.heap.size w (((W.setCell ⟨w.heap.size, 0, none⟩ v2).setCell ⟨w.heap.size + 1, 0, none⟩ v3).setCell ⟨w.heap.size + 1 + 1, 0, none⟩ v4) := by
 refine ⟨((KeepsOthers.setCell _ _ _).trans (KeepsOthers.setCell _ _ _)).trans (KeepsOthers.setCell _ _ _), ?_, ?_, ?_, ?_⟩
 ·exact ((h3.set v2).other (by omega) _).other (by omega) _
 ·exact ((h4.other (by omega) _).set v3).other (by omega) _
 ·exact ((h5.other (by omega) _).other (by omega) _).set v4
 ·exact ((h6.setCell (p := ⟨w.heap.size, 0, none⟩) (Nat.le_refl _) _).setCell (p := ⟨w.heap.size + 1, 0, none⟩) (by simp) _).setCell (p := ⟨w.heap.size + 1 + 1, 0, none⟩) (by simp; omega) _
theorem words_short (s : ByteArray) (l : List UInt8) (w : World) (hs : Tx s l) (hl4 : l.length ≤ 4096) : Calls Tryz.prog 65 #[.string s] w (WdPost l w) := by
 obtain ⟨L, hL⟩ : ∃ L, l.length = L := ⟨_, rfl⟩
 have hsz : s.size = L := hs.size.trans hL
 have HL4 := hid hl4
 rw [hL] at hl4
 have hl4i : (L : Int) ≤ 4096 := by omega
 have HL := hid hL
 have HS := hid hs
 clear hL hs
 obtain ⟨i0, hi, hz0, hz1, hz2⟩ := info_parts infoTok
 refine (callsIn_wide (n := 6)).1 ?_
 refine callsIn_of_wp_marks Tryz.func65 rfl trivial ?_ rfl
 simp only [Tryz.ntmps65, List.size_toArray, List.length_cons, List.length_nil, Nat.reduceAdd, Nat.reduceSub, Array.replicate_succ, Array.replicate_zero, List.push_toArray, List.append_toArray, List.nil_append, List.cons_append]
 gi_wp2_with (first
  | (refine ⟨trivial, ?_⟩; gi_at_call 110; refine (callsIn_wide.2 (clone_any s _ (by omega))).mono ?_; rintro e w1 ⟨rfl, ht1⟩)
  | (refine ⟨trivial, ?_⟩; gi_at_call 109; refine (callsIn_wide.2 (tokens_any s _)).mono ?_; rintro e w2 ⟨rfl, rfl⟩))
 have hT3 : Turn w ((((w.alloc (.cells #[.slice none 0 0] 81)).alloc (.cells #[.int .i64 0] 3)).alloc (.cells #[.int .i64 0] 27)).alloc (.cells #[.slice none 0 0] 81)) none := (((Turn.alloc (Turn.refl w none) _).alloc _).alloc _).alloc _
 have hT1 := hT3.trans ht1
 have hsz1 := ht1.size
 simp only [World.size_alloc] at hsz1
 have b2 : Boxed w1 w.heap.size 81 (.slice none 0 0) := ((((Boxed.new w _ _).alloc _).alloc _).alloc _).kept ht1 (by simp)
 have b3 : Boxed w1 (w.heap.size + 1) 3 (.int .i64 0) := by
  have := (((Boxed.new (w.alloc (.cells #[.slice none 0 0] 81)) 3 (.int .i64 0)).alloc (.cells #[.int .i64 0] 27)).alloc (.cells #[.slice none 0 0] 81)).kept ht1 (by simp)
  simpa only [World.size_alloc] using this
 have b4 : Boxed w1 (w.heap.size + 1 + 1) 27 (.int .i64 0) := by
  have := ((Boxed.new ((w.alloc (.cells #[.slice none 0 0] 81)).alloc (.cells #[.int .i64 0] 3)) 27 (.int .i64 0)).alloc (.cells #[.slice none 0 0] 81)).kept ht1 (by simp)
  simpa only [World.size_alloc] using this
 have b5 : Boxed w1 (w.heap.size + 1 + 1 + 1) 81 (.slice none 0 0) := by
  have := (Boxed.new (((w.alloc (.cells #[.slice none 0 0] 81)).alloc (.cells #[.int .i64 0] 3)).alloc (.cells #[.int .i64 0] 27)) 81 (.slice none 0 0)).kept ht1 (by simp)
  simpa only [World.size_alloc] using this
 have bs := Boxed.new w1 9 (.string s)
 have hB1 : Below w.heap.size w (w1.alloc (.cells #[.string s] 9)) := (hT1.alloc _).below
 clear hT3 ht1
 obtain ⟨g, hg⟩ : ∃ g, g = w1.heap.size := ⟨_, rfl⟩
 rw [← hg] at bs hsz1 ⊢
 have b2 := b2.alloc (.cells #[.string s] 9)
 have b3 := b3.alloc (.cells #[.string s] 9)
 have b4 := b4.alloc (.cells #[.string s] 9)
 have b5 := b5.alloc (.cells #[.string s] 9)
 have hsz0 : (w1.alloc (.cells #[.string s] 9)).heap.size = g + 1 := by rw [World.size_alloc, hg]
 obtain ⟨W0, hW0⟩ : ∃ W0, w1.alloc (.cells #[.string s] 9) = W0 := ⟨_, rfl⟩
 rw [hW0] at b2 b3 b4 b5 bs hB1 hsz0 ⊢
 clear hW0 hg hT1
 refine wpIn_rangeFunc_ownH rfl (by omega) (gf := 138) (lb := #[.pointer (some ⟨g, 0, none⟩)]) rfl trivial (enters_of Tryz.func138 (by kernel_rfl) rfl)
  (iter_stops s l HS.out HL4.out 5 g (by omega) W0 bs) (fun h k => k.trans h) (fun W lp o o' hb hl ho _ => World.putObj_heap_other (by omega)) (Below.refl _ _) (fun _ => rfl)
  (WdI w s g) (WdX w) (WdI.own w s g _ (by omega)) (fun c => WdX.own w c _ (by omega))
  ⟨⟨by simp, by simp⟩, ⟨_, b5, World.ownsRow_nil _ _ _ _⟩, b2, b3, b4, hB1, bs⟩
  (WdA w s L g) (fun x a' => WdA.own w s L g _ x a') ?assign ?body ?done ?stop
 case assign =>
  rintro lp pre x W K ⟨h1, ⟨v, h2, h2'⟩, h3, h4, h5, h6, h7⟩ hK
  dsimp only [yv]
  gi_wp2
  exact hK _ _ ((KeepsOthers.alloc _ _).from _) ((h7.alloc _).trans h7.symm) ⟨h1, ⟨v, h2.alloc _, h2'.alloc _⟩, h3.alloc _, h4.alloc _, h5.alloc _, h6.alloc h6.size _, h7.alloc _⟩ ⟨W.heap.size, h2.lt, Blk.new W _ _, rfl⟩
 case body =>
  rintro lp pre x a' W hlp _ ⟨⟨hp1, hp2⟩, ⟨v, h2, h2'⟩, h3, h4, h5, h6, h7⟩ ⟨Bx, hBx, hX, rfl⟩ hlt
  have k2 := h3.cell
  have k3 := h4.cell
  have k4 := h5.cell
  have k5 := h2.cell
  have f2 := h3.frozen
  have f3 := h4.frozen
  have f4 := h5.frozen
  have f5 := h2.frozen
  have x0 := hX.cell 0
  have x1 := hX.cell 1
  have x2 := hX.cell 2
  simp only [List.getElem?_toArray, List.getElem?_cons_zero, List.getElem?_cons_succ] at x0 x1 x2
  obtain ⟨tk, er⟩ := x
  simp only at x0 x1 x2
  by_cases he : er = 0
  ·subst he
   by_cases hN : pre.length = 1500
   ·have hN15 : ((pre.length : Int) == 1500) = true := by rw [hN]; rfl
    have HN := hid hN
    clear hN
    obtain ⟨g5, c5, rfl⟩ : ∃ g5 c5, v = .slice g5 pre.length c5 := by
     rcases h2'.2 with ⟨rfl, h0⟩ | ⟨g5, c5, _, rfl, _⟩
     ·exact ⟨none, 0, by rw [h0]⟩
     ·exact ⟨_, _, rfl⟩
    gi_wp2
    obtain ⟨q1, q2, q3, q4, q5⟩ := set3 (w := w) (.slice none 0 0) (.int .i64 4096) (.int .i64 2) h3 h4 h5 h6
    exact ⟨q1.from _, pre, (tk, 0), 4096, 2, ⟨rfl, rfl, hp1, hp2, .inr ⟨rfl, HN.out, rfl, rfl⟩⟩, q2, q3, q4, q5⟩
   ·have hN15 : ((pre.length : Int) == 1500) = false := beq_no (b := 1500) hN
    obtain ⟨g5, c5, rfl⟩ : ∃ g5 c5, v = .slice g5 pre.length c5 := by
     rcases h2'.2 with ⟨rfl, h0⟩ | ⟨g5, c5, _, rfl, _⟩
     ·exact ⟨none, 0, by rw [h0]⟩
     ·exact ⟨_, _, rfl⟩
    have hp3 : pre.length + 1 ≤ 1500 := by omega
    clear hN
    have hlits : ∀ j u, (tc tk)[j]? = some u → (W.alloc (.cells #[.int .i64 (tk.k : Int), .string (txt tk.s), .int .i64 (tk.at_ : Int)] 90)).cell? ((⟨W.heap.size, 0, none⟩ : Addr).add j) = some u := by
     intro j u hu
     obtain ⟨a, ha, _, hc⟩ := (Rd.litS W 90 3 1 (tc tk) rfl).2 j u hu
     cases ha
     exact hc
    gi_wp2_with (gi_at_builtin; refine wpListIn_append_own _ rfl _ _ 81 rfl w.heap.size 90 i0 (.agg #[.int .i64 0, .string .empty, .int .i64 0]) 3 32 Tryz.underlying81 hi hz0 hz1 hz2 rfl (by decide) _ _ _ rfl (h2'.alloc _) ⟨W.heap.size, 0, none⟩ 1 1 (tc tk) rfl rfl hlits (by intro u hu; simp only [tc, List.mem_cons, List.not_mem_nil, or_false] at hu; rcases hu with rfl | rfl | rfl <;> rfl) (by unfold maxLen; omega) (by omega) (by have := h6.size; simp; omega) ?_; intro v' w1 hown' hgrow _; obtain ⟨g', cap', rfl⟩ := ownsRow_succ hown'; obtain ⟨hv1, hv2, hr2, hk2, hb2⟩ := h2.appended (by decide) h2' h6.size (by omega) hown' hgrow; have hc1 := hv1.cell; have hf1 := hv1.frozen; have m2 := (h3.alloc _).kept hgrow (h3.not_row (by decide) h2'); have m3 := (h4.alloc _).kept hgrow (h4.not_row (by decide) h2'); have m4 := (h5.alloc _).kept hgrow (h5.not_row (by decide) h2'); have m7 := (h7.alloc _).kept hgrow (h7.not_row (by decide) h2'))
    have e1 : (pre ++ [((tk, 0) : YTok)]).length = pre.length + 1 := by simp
    have e2 : tcs ((pre ++ [((tk, 0) : YTok)]).map Prod.fst) = tcs (pre.map Prod.fst) ++ tc tk := by rw [List.map_append, tcs_app]; simp [tcs]
    have n7 := m7.other (B' := w.heap.size + 1 + 1 + 1) (by omega) (Value.slice (some ⟨g', 0, none⟩) (pre.length + 1) cap')
    refine ⟨hk2.from _, n7.trans h7.symm, ⟨by rw [e1]; exact hp3, ?_⟩, ⟨_, hv2, by rw [e1, e2]; exact hr2⟩, m2.other (by omega) _, m3.other (by omega) _, m4.other (by omega) _, h6.trans hb2, n7⟩
    intro y hy
    rcases List.mem_append.1 hy with hy | hy
    ·exact hp2 y hy
    ·obtain rfl : y = (tk, 0) := by simpa using hy
     rfl
  ·have hei : ((er : Int) == 0) = false := beq_no (b := 0) he
   have hei2 : ((er : Int) != 0) = true := by show (!((er : Int) == ((0 : Nat) : Int))) = true; rw [beq_no he]; rfl
   gi_wp2
   have mixed : Tryz.prog.follows .mixedOrders = true := by kernel_rfl
   gi_region_with_o (fail)
   all_goals gi_wp2
   all_goals obtain ⟨q1, q2, q3, q4, q5⟩ := set3 (w := w) (.slice none 0 0) (.int .i64 (tk.at_ : Int)) (.int .i64 (er : Int)) h3 h4 h5 h6
   all_goals exact ⟨(q1.trans (KeepsOthers.drew _)).from _, pre, (tk, er), tk.at_, er, ⟨rfl, rfl, hp1, hp2, .inl ⟨he, rfl, rfl⟩⟩, q2, q3, q4, q5.drew⟩
 case done =>
  rintro D xs W hD hS ⟨⟨hp1, hp2⟩, ⟨v, h2, h2'⟩, h3, h4, h5, h6, h7⟩ hK
  have k2 := h3.cell
  have k3 := h4.cell
  have k4 := h5.cell
  have k5 := h2.cell
  have f2 := h3.frozen
  have f3 := h4.frozen
  have f4 := h5.frozen
  obtain ⟨g5, c5, rfl⟩ : ∃ g5 c5, v = .slice g5 xs.length c5 := by
   rcases h2'.2 with ⟨rfl, h0⟩ | ⟨g5, c5, _, rfl, _⟩
   ·exact ⟨none, 0, by rw [h0]⟩
   ·exact ⟨_, _, rfl⟩
  have hwd : wWords l = .ok (xs.map Prod.fst) := by
   rcases hS with ⟨ts, j, ht, hj, rfl⟩ | ⟨ts, j, c, ht, hc, hb, rfl⟩
   ·rw [List.length_append, List.length_map, List.length_singleton] at hp1
    have := (ht.wd HL4.out (by omega)).stop hj
    rw [if_neg (by omega)] at this
    rw [this, List.map_append, List.map_map]
    congr 2
    simp [yok, Function.comp_def]
   ·have := hp2 (⟨0, [], j + wOver false l j⟩, 4) (List.mem_append.2 (.inr (by simp)))
    simp at this
  have HWD := hid hwd
  clear hwd hS
  have own_set : ∀ {X : World} {B : Nat} {t : TypeId} {u : Value} (u' : Value), Boxed X B t u → t ≠ 90 → X.ownsRow w.heap.size 90 3 (.slice g5 xs.length c5) xs.length (tcs (xs.map Prod.fst)) →
    (X.setCell ⟨B, 0, none⟩ u').ownsRow w.heap.size 90 3 (.slice g5 xs.length c5) xs.length (tcs (xs.map Prod.fst)) :=
   fun {X B t u} u' hb hte ho => ho.kept (grownBy_setCell' X B u') (.inr (hb.not_row hte ho).symm)
  gi_wp2
  obtain ⟨q1, q2, q3, q4, q5⟩ := set3 (w := w) (.slice g5 xs.length c5) (.int .i64 0) (.int .i64 0) h3 h4 h5 h6
  have o1 := own_set (.slice g5 xs.length c5) h3 (by decide) h2'
  have o2 := own_set (.int .i64 0) (h4.other (B' := w.heap.size) (by omega) (.slice g5 xs.length c5)) (by decide) o1
  have o3 := own_set (.int .i64 0) ((h5.other (B' := w.heap.size) (by omega) (.slice g5 xs.length c5)).other (B' := w.heap.size + 1) (by omega) (.int .i64 0)) (by decide) o2
  have hK2 := q1.same D _ hK rfl
  have far : ∀ {B : Nat} {t : TypeId} {u : Value}, Boxed _ B t u → Boxed _ B t u := fun h => boxed_far h (grownBy_putObj' _ D (.deferred none)) (fun r e => by cases e; exact ⟨_, hK2, rfl⟩)
  refine ⟨by simp, .inl ⟨_, _, rfl, run_takeDeferred hK2, ?_⟩⟩
  exact ⟨_, Boxed.res (far q2) (far q3) (far q4) _ rfl rfl rfl, .inl ⟨xs.map Prod.fst, g5, xs.length, c5, HWD.out, rfl, ownsRow_putObj o3 _ hK2 rfl, turn_of_below (q5.trans (belowK_b (w := w) (Nat.le_refl _) _ D _ _ (by omega) hK2 rfl rfl))⟩⟩
 case stop =>
  rintro D c pre W hD hS ⟨pre', x, p, er, ⟨rfl, hpre, hp1, hp2, hx⟩, h3, h4, h5, h6⟩ hK
  have hwd : wWords l = .error (p, er) ∧ er ≠ 0 := by
   have key : ∀ ts : List Tok, pre' ++ [x] = ts.map yok → x.2 = 0 ∧ ∃ ts' t, ts = ts' ++ [t] ∧ ts'.length = pre'.length := by
    intro ts e
    rcases List.eq_nil_or_concat ts with rfl | ⟨ts', t, rfl⟩
    ·simp at e
    ·rw [List.concat_eq_append, List.map_append] at e
     obtain ⟨e1, e2⟩ := List.append_inj' e rfl
     obtain rfl : x = yok t := by simpa using e2
     exact ⟨rfl, ts', t, List.concat_eq_append, by rw [e1, List.length_map]⟩
   have key2 : ∀ (ts : List Tok) (y : YTok), pre' ++ [x] = ts.map yok ++ [y] → x = y ∧ ts.length = pre'.length := by
    intro ts y e
    obtain ⟨e1, e2⟩ := List.append_inj' e rfl
    exact ⟨by simpa using e2, by rw [e1, List.length_map]⟩
   rw [hpre] at hS
   rcases hS with (⟨ts, j, ht, hj, e⟩ | ⟨ts, j, c, ht, hc, hb, e⟩) | ⟨ts, j, ht, e⟩
   ·obtain ⟨rfl, hn⟩ := key2 _ _ e
    rcases hx with ⟨h0, _⟩ | ⟨_, h15, rfl, rfl⟩
    ·exact absurd rfl h0
    ·have := (ht.wd HL4.out (by omega)).stop hj
     rw [if_pos (by omega)] at this
     exact ⟨this, by decide⟩
   ·obtain ⟨rfl, hn⟩ := key2 _ _ e
    rcases hx with ⟨_, rfl, rfl⟩ | ⟨h0, _⟩
    ·exact ⟨(ht.wd HL4.out (by omega)).form hc hb, (by decide : (4 : Nat) ≠ 0)⟩
    ·exact absurd h0 (by decide : ¬ (4 : Nat) = 0)
   ·obtain ⟨h0, ts', t, rfl, hn⟩ := key _ e
    rcases hx with ⟨h0', _⟩ | ⟨_, h15, rfl, rfl⟩
    ·exact absurd h0 h0'
    ·obtain ⟨j', c, ht', hc, hb⟩ := ht.prev
     exact ⟨(ht'.wd HL4.out (by omega)).many hc hb (by omega), by decide⟩
  have HWD := hid hwd
  clear hwd hS hpre hx
  gi_wp2
  have far : ∀ {B : Nat} {t : TypeId} {u : Value}, Boxed _ B t u → Boxed _ B t u := fun h => boxed_far h (grownBy_putObj' _ D (.deferred none)) (fun r e => by cases e; exact ⟨_, hK, rfl⟩)
  refine ⟨by simp, .inl ⟨_, _, rfl, run_takeDeferred hK, ?_⟩⟩
  exact ⟨_, Boxed.res (far h3) (far h4) (far h5) _ rfl rfl rfl, .inr ⟨p, er, HWD.out.1, HWD.out.2, rfl, turn_of_below (h6.trans (belowK_b (w := w) (Nat.le_refl _) _ D _ _ (by omega) hK rfl rfl))⟩⟩
theorem words_any (s : ByteArray) (l : List UInt8) (w : World) (hs : Tx s l) (hl : l.length ≤ 140737488355328) : Calls Tryz.prog 65 #[.string s] w (WdPost l w) := by
 rcases Nat.lt_or_ge 4096 l.length with h | h
 ·exact words_long s l w hs hl h
 ·exact words_short s l w hs h
theorem lexDone : LexDone := ⟨words_any, name_any, fun s l w hs hl => (number_any s l w hs hl).mono (by rintro e w' ⟨rfl, rfl⟩; exact ⟨rfl, Turn.refl _ _⟩)⟩
open Go.RowKit
def Sub (cs : Array Value) (off : Nat) (xs : List Value) : Prop := ∀ j v, xs[j]? = some v → cs[off + j]? = some v
theorem Sub.all (xs : List Value) : Sub xs.toArray 0 xs := fun j v hv => by simpa using hv
theorem Sub.mid (pre xs post : List Value) (off : Nat) (h : pre.length = off) : Sub (pre ++ xs ++ post).toArray off xs := fun j v hv => by
 subst h
 have hj : j < xs.length := (List.getElem?_eq_some_iff.1 hv).1
 rw [List.getElem?_toArray, List.append_assoc, List.getElem?_append_right (by omega), Nat.add_sub_cancel_left, List.getElem?_append_left hj]
 exact hv
theorem Sub.fst (xs post : List Value) : Sub (xs ++ post).toArray 0 xs := by
 have h := Sub.mid [] xs post 0 rfl
 simpa using h
section
variable {P : Program} {w w' : World} {g off : Nat} {t ty : TypeId} {cs : Array Value} {xs : List Value} {d : TypeDesc} {ops : Array Oper} {rest : List Oper} {o : Oper} {a : Act} {Q : Exit → Act → World → Prop}
theorem Blk.range (h : Blk w g t cs) (hs : Sub cs off xs) : w.rangeAt g off xs := fun j v hv => (h.cell _).trans (hs j v hv)
theorem Blk.at_ (h : Blk w g t cs) (hs : Sub cs off xs) {j : Nat} {v : Value} (hv : xs[j]? = some v) : w.cell? ⟨g, off + j, none⟩ = some v := (h.cell _).trans (hs j v hv)
theorem Blk.ats (h : Blk w g t xs.toArray) {j : Nat} {v : Value} (hv : xs[j]? = some v) : w.cell? ⟨g, j, none⟩ = some v := (h.cell _).trans (by rw [List.getElem?_toArray]; exact hv)
theorem Blk.sets (h : Blk w g t xs.toArray) (i : Nat) (u : Value) : Blk (w.setCell ⟨g, i, none⟩ u) g t (xs.set i u).toArray := by
 have h2 := h.set_ i u
 simpa using h2
theorem cell_set_ne {i j : Nat} {u : Value} (h : i ≠ j) : (w.setCell ⟨g, i, none⟩ u).cell? ⟨g, j, none⟩ = w.cell? ⟨g, j, none⟩ :=
 World.cell?_setCell_other _ _ _ _ (fun e => h (by injection e))
theorem wp_ld (hgd : o.guard = none) (ty : TypeId) (x : Operand) (ho : o.op = .load ty x) (hx : a.eval x = .pointer (some ⟨g, off, none⟩)) (h : Blk w g t cs) (hs : Sub cs off xs)
  (hu : P.underlying ty = some d) (hd : d.isRow = true) (hi : (P.info? ty).map (·.size) = some xs.length) (hK : wpList P ops Q rest (a.put o.dst (.agg xs.toArray)) w) : wpList P ops Q (o :: rest) a w :=
 wpList_load_mid hgd ty x ho g off hx xs d (h.range hs) hu hd hi hK
theorem Blk.setRow (h : Blk w g t cs) (ys : List Value) : Blk (w.setRow g ys.toArray) g t ys.toArray := setRow_heap w g cs ys.toArray t (0, 0) h
theorem Turn.setRow (w : World) (g : Nat) (c : Array Value) : Turn w (w.setRow g c) (some g) := ⟨rfl, rfl, rfl, by simp, fun k _ hk => setRow_other w g k c (fun e => hk (by simp [e]))⟩
theorem run_st (h : Blk w g t cs) (hsz : cs.size = xs.length) (hi : (P.info? ty).map (·.size) = some xs.length) (h1 : ∀ u ∈ xs, u.oneCell' = true) :
  (Instr.storeAt ty (.pointer (some ⟨g, 0, none⟩)) (.agg xs.toArray)).run P w = .ok () (w.setRow g xs.toArray) := by
 simp only [Instr.storeAt, Instr.sureAddr, Sem.run_bind, Sem.run_pure, Result.andThen_ok]
 exact run_storeVar_row w g t ty cs xs.toArray h (by rw [hi]; simp) (by simpa using hsz) (all_oneCell_toArray h1)
theorem wp_st (hgd : o.guard = none) (ty : TypeId) (x y : Operand) (ho : o.op = .store ty x y) (hx : a.eval x = .pointer (some ⟨g, 0, none⟩)) (hy : a.eval y = .agg xs.toArray) (h : Blk w g t cs) (hsz : cs.size = xs.length)
  (hi : (P.info? ty).map (·.size) = some xs.length) (h1 : ∀ u ∈ xs, u.oneCell' = true) (hK : ∀ w', Blk w' g t xs.toArray → Turn w w' (some g) → wpList P ops Q rest (a.put o.dst undef) w') : wpList P ops Q (o :: rest) a w := by
 refine wpList_plain hgd fun K hK2 => ?_
 unfold Oper.wp execOp
 simp only [ho, hx, hy, Sem.run_bind, run_st h hsz hi h1, Result.andThen_ok]
 exact hK2 _ _ (hK _ (h.setRow xs) (Turn.setRow w g _))
theorem results_cell_one {fn : Func} {p : Tmp} (h : fn.results = #[.cell p ty]) (tmps : Array Value) (P : Program) (w : World) :
  (results fn tmps).run P w = ((asAddr (tmps.getD p undef)).run P w).andThen fun a w₁ => (loadVar ty a).run P w₁ := by
 simp only [results, h]
 simp [Sem.run_bind, Result.andThen]
theorem ret_cell {fn : Func} {R : Ending → World → Prop} {p : Tmp} (hf : fn.results = #[.cell p ty]) (hp : a.tmps.getD p undef = .pointer (some ⟨g, 0, none⟩)) (hdf : a.defers = []) (h : Blk w g t xs.toArray)
  (hu : P.underlying ty = some d) (hd : d.isRow = true) (hi : (P.info? ty).map (·.size) = some xs.length) (hR : R (.returned (.agg xs.toArray)) w) : bodyPost P fn R .ret a w := by
 refine bodyPost_ret (v := .agg xs.toArray) ?_ hdf hR
 rw [results_cell_one hf, hp]
 simp only [asAddr, Sem.run_pure, Result.andThen_ok]
 exact run_loadVar_mid w g 0 ty xs d (h.range (Sub.all xs)) hu hd hi
theorem wp_al (hgd : o.guard = none) (ty : TypeId) (ho : o.op = .alloc ty) (v : Value) (hz : ∀ w, (zeroValue ty).run P w = .ok v w)
  (hK : ∀ g w', w.heap.size = g → Blk w' g ty v.cells → Turn w w' none → wpList P ops Q rest (a.put o.dst (.pointer (some ⟨g, 0, none⟩))) w') : wpList P ops Q (o :: rest) a w := by
 refine wpList_plain hgd fun K hK2 => ?_
 unfold Oper.wp execOp
 simp only [ho, Instr.alloc, Sem.run_bind, hz, newVar, Result.andThen_ok]
 simp [newRow]
 exact hK2 _ _ (hK _ _ rfl (Blk.new w ty v.cells) ((Turn.refl w none).alloc _))
theorem wp_bx (hgd : o.guard = none) (ty : TypeId) (x : Operand) (ho : o.op = .box ty x) {cs : Array Value} (hx : a.eval x = .agg cs)
  (hK : ∀ g w', w.heap.size = g → Blk w' g ty cs → Turn w w' none → wpList P ops Q rest (a.put o.dst (.pointer (some ⟨g, 0, none⟩))) w') : wpList P ops Q (o :: rest) a w := by
 refine wpList_plain hgd fun K hK2 => ?_
 unfold Oper.wp execOp
 simp only [ho, Instr.box, Sem.run_bind, hx, newVar, Result.andThen_ok]
 simp [newRow]
 exact hK2 _ _ (hK _ _ rfl (Blk.new w ty cs) ((Turn.refl w none).alloc _))
theorem zero_at {t : TypeId} {v : Value} (h : (P.info? t).map (fun i => i.zero) = some (some v)) : ∀ w, (zeroValue t).run P w = .ok v w := by
 cases hq : P.info? t with
 | none => simp [hq] at h
 | some i =>
  simp [hq] at h
  intro w
  simp [zeroValue, typeInfo, hq, h]
theorem run_ix {t e : TypeId} {n : Nat} {cs : Array Value} {j : Nat} {v : Value} {kd : IntKind} (h : P.underlying t = some (.array n e)) (he : P.underlying e = some (.int kd)) (hi : (P.info? e).map (·.size) = some 1) (hj : j < n) (hv : cs[j]? = some v) (w : World) :
  (Instr.index t (.agg cs) (.int .i64 (j : Int))).run P w = .ok v w := by
 have hag : (isAgg e).run P w = .ok false w := by
  unfold isAgg
  rw [Sem.run_bind, run_underlying he w]
  rfl
 cases hq : P.info? e with
 | none => simp [hq] at hi
 | some ie =>
  have hs : (sizeOf e).run P w = .ok 1 w := by
   simp [hq] at hi
   simp [sizeOf, typeInfo, hq, hi]
  have hjj : (0 : Int) ≤ (j : Int) ∧ (j : Int) < (n : Int) := by omega
  simp [Instr.index, run_underlying h, asIntOf, hjj, part, hag, hs, hv]
  try omega
theorem run_cpB {dT sT e : TypeId} {oo nn cc mm c' B : Nat} {X : Option Addr} {ys zs : List Value} (hu : P.underlying dT = some (.slice e)) (hs : (P.info? e).map (·.size) = some 1) (h : Blk w g t ys.toArray)
  (hr : Rd w B 1 X mm zs) (h1 : ∀ u ∈ zs, u.oneCell' = true) (hm : 0 < mm) (hn : 0 < nn) (hfit : oo + nn ≤ ys.length) :
  (Builtin.copy_ #[dT, sT] ty #[.slice (some ⟨g, oo, none⟩) nn cc, .slice X mm c']).run P w =
   .ok (goInt (Nat.min mm nn)) (w.setRow g (ys.take oo ++ zs.take (Nat.min mm nn) ++ ys.drop (oo + Nat.min mm nn)).toArray) := by
 obtain ⟨u0, ad, hX, _, hx0, _⟩ := hr.at_ (k := 0) (by omega)
 subst hX
 have hmin : Nat.min mm nn ≤ nn := Nat.min_le_right mm nn
 have hl : (zs.take (Nat.min mm nn)).length = Nat.min mm nn := by
  rw [List.length_take, hr.len]; exact Nat.min_eq_left (Nat.min_le_left mm nn)
 have hrun := run_copy_row (P := P) w dT sT ty e g oo nn cc u0 mm c' ys.toArray t (zs.take (Nat.min mm nn)) hu hs h hl (fun j v hj => by
  rw [List.getElem?_take] at hj
  split at hj
  ·obtain ⟨a', ha, _, hc⟩ := hr.2 j v hj
   injection ha with ha
   subst ha
   exact hc
  ·cases hj) (by rw [hl, List.size_toArray]; omega) (fun v hv => h1 v (List.mem_of_mem_take hv))
 rw [hl] at hrun
 exact hrun
theorem wp_cpB (hgd : o.guard = none) {dT sT e : TypeId} {oo nn cc mm c' B : Nat} {X : Option Addr} {ys zs : List Value} (d s : Operand) (ho : o.op = .call { callee := .builtin .copy, args := #[d, s], argTypes := #[dT, sT] })
  (hu : P.underlying dT = some (.slice e)) (hs : (P.info? e).map (·.size) = some 1) (hd : a.eval d = .slice (some ⟨g, oo, none⟩) nn cc) (hx : a.eval s = .slice X mm c') (h : Blk w g t ys.toArray)
  (hr : Rd w B 1 X mm zs) (h1 : ∀ u ∈ zs, u.oneCell' = true) (hm : 0 < mm) (hn : 0 < nn) (hfit : oo + nn ≤ ys.length) {K : Act → World → Prop}
  (hK : ∀ w', Blk w' g t (ys.take oo ++ zs.take (Nat.min mm nn) ++ ys.drop (oo + Nat.min mm nn)).toArray → Turn w w' (some g) → K (a.put o.dst (goInt (Nat.min mm nn))) w') : Oper.wp P o a w K Q := by
 have hrun := run_cpB (P := P) (ty := o.type) (sT := sT) (cc := cc) (c' := c') hu hs h hr h1 hm hn hfit
 unfold Oper.wp execOp
 simp only [ho, resolve, invoke, builtin, Sem.run_bind, Sem.run_pure, Result.andThen_ok, List.map_toArray, List.map_cons, List.map_nil, hd, hx, hrun]
 exact hK _ (h.setRow _) (Turn.setRow w g _)
theorem st_cpB {F : Prop} (hgd : o.guard = none) {dT sT e : TypeId} {oo nn cc mm c' B : Nat} {X : Option Addr} {ys zs : List Value} (d s : Operand) (ho : o.op = .call { callee := .builtin .copy, args := #[d, s], argTypes := #[dT, sT] })
  (hu : P.underlying dT = some (.slice e)) (hs : (P.info? e).map (·.size) = some 1) (hd : a.eval d = .slice (some ⟨g, oo, none⟩) nn cc) (hx : a.eval s = .slice X mm c') (h : Blk w g t ys.toArray)
  (hr : Rd w B 1 X mm zs) (h1 : ∀ u ∈ zs, u.oneCell' = true) (hm : 0 < mm) (hn : 0 < nn) (hfit : oo + nn ≤ ys.length) {K : Act → World → Prop}
  (hK : ∀ w', Blk w' g t (ys.take oo ++ zs.take (Nat.min mm nn) ++ ys.drop (oo + Nat.min mm nn)).toArray → Turn w w' (some g) → K (a.put o.dst (goInt (Nat.min mm nn))) w') :
  if Region.wanted o (yielded ops a.tmps) = true then Oper.wp P o a w K Q else F := by
 have hw : Region.wanted o (yielded ops a.tmps) = true := by simp [Region.wanted, hgd]
 rw [if_pos hw]
 exact wp_cpB hgd d s ho hu hs hd hx h hr h1 hm hn hfit hK
theorem Blk.rdAt (h : Blk w g t cs) (hs : Sub cs off xs) : Rd w (g + 1) 1 (some ⟨g, off, none⟩) xs.length xs :=
 ⟨by simp, fun k u hu => ⟨_, rfl, Nat.lt_succ_self _, by rw [add_flat]; exact h.at_ hs hu⟩⟩
theorem wp_bd (hgd : o.guard = none) (ty : TypeId) (parts : Array (Nat × Operand)) (ho : o.op = .build ty parts) (pv : Array (Nat × Value)) (hp : (parts.map fun p => (p.1, a.eval p.2)) = pv) (cells : Array Value) (hb : P.built ty pv.toList = some cells)
  (hK : wpList P ops Q rest (a.put o.dst (.agg cells)) w) : wpList P ops Q (o :: rest) a w := by
 refine wpList_plain hgd fun K hK2 => ?_
 have hrun := run_build (P := P) w ty pv cells hb
 subst hp
 unfold Oper.wp execOp
 simp only [ho, Sem.run_bind, hrun, Result.andThen_ok]
 exact hK2 _ _ hK
end
open Go.RowKit
def Fr (base : Nat) (w w' : World) : Prop :=
 Below base w w' ∧ ∀ g t cs, Blk w g t cs → t ≠ 64 → t ≠ 9 → t ≠ 3 → t ≠ 119 → t ≠ 110 → Blk w' g t cs
section
variable {w w' w2 : World} {base b g : Nat} {cs : Array Value} {t : TypeId}
theorem Fr.refl (base : Nat) (w : World) : Fr base w w := ⟨Below.refl _ _, fun _ _ _ h _ _ _ _ _ => h⟩
theorem Fr.trans (h : Fr base w w') (k : Fr base w' w2) : Fr base w w2 := ⟨h.1.trans k.1, fun g t cs hb a1 a2 a3 a4 a5 => k.2 g t cs (h.2 g t cs hb a1 a2 a3 a4 a5) a1 a2 a3 a4 a5⟩
theorem Fr.of_turn (h : Turn w w' none) (hb : base ≤ w.heap.size) : Fr base w w' := ⟨h.below.mono hb, fun _ _ _ hB _ _ _ _ _ => hB.turn0 h⟩
theorem Fr.turn (h : Fr base w w') (k : Turn w' w2 none) (hb : base ≤ w.heap.size) : Fr base w w2 := h.trans (Fr.of_turn k (Nat.le_trans hb h.1.size))
theorem Fr.mono (h : Fr base w w') (hb : b ≤ base) : Fr b w w' := ⟨h.1.mono hb, h.2⟩
theorem Fr.size (h : Fr base w w') : w.heap.size ≤ w'.heap.size := h.1.size
theorem Fr.tok (h : Fr base w w') (hb : Blk w g 90 cs) : Blk w' g 90 cs := h.2 _ _ _ hb (by decide) (by decide) (by decide) (by decide) (by decide)
theorem Fr.alloc (h : Fr base w w') (o : Obj) (hb : base ≤ w.heap.size) : Fr base w (w'.alloc o) := h.turn ((Turn.refl _ none).alloc o) hb
theorem below_turn (h : Turn w w' (some g)) (hb : base ≤ w.heap.size) (hg : base ≤ g) : Below base w w' := ⟨h.os, h.tape, h.output, h.size, fun k hk => h.block k (Nat.lt_of_lt_of_le hk hb) (by intro e; injection e with e; omega)⟩
theorem Fr.turnNew (h : Fr base w w') (k : Turn w' w2 (some g)) (hb : base ≤ w.heap.size) (hg : w.heap.size ≤ g) : Fr base w w2 :=
 ⟨h.1.trans (below_turn k (Nat.le_trans hb h.size) (Nat.le_trans hb hg)), fun g' t cs hB a1 a2 a3 a4 a5 => (h.2 g' t cs hB a1 a2 a3 a4 a5).turn k (by intro e; injection e with e; have := hB.lt; omega)⟩
theorem Fr.drewN (h : Fr base w w') (n : Nat) (hb : base ≤ w.heap.size) : Fr base w (w'.drewN n) := h.turn ((Turn.refl _ none).drewN n) hb
end
def LF (w : World) : Prop := ∀ i s, kwList[i]? = some s → w.cell? ⟨1, i, none⟩ = some (.string (txt s))
theorem LF.pos {w : World} (h : LF w) : 1 < w.heap.size := World.block_lt_of_cell? w _ (h 0 _ rfl)
theorem LF.turn {w w' : World} (h : LF w) (ht : Turn w w' none) : LF w' := fun i s hs => by rw [ht.cell (a := ⟨_, i, none⟩) h.pos (by simp)]; exact h i s hs
theorem LF.below {w w' : World} {base : Nat} (h : LF w) (hb : Below base w w') (h0 : 1 < base) : LF w' := fun i s hs => by rw [hb.cell (p := ⟨_, i, none⟩) h0]; exact h i s hs
theorem LF.range {w : World} (h : LF w) : w.rangeAt 1 0 kwVals := fun j v hv => by
 have hj : j < kwList.length := by have := (List.getElem?_eq_some_iff.1 hv).1; simpa [kwVals] using this
 have e := kwVals_at (List.getElem?_eq_getElem hj)
 rw [hv] at e
 rw [Option.some.inj e, Nat.zero_add]
 exact h j _ (List.getElem?_eq_getElem hj)
theorem ix_kw {j : Nat} {x : List UInt8} (hj : kwList[j]? = some x) (w : World) : (Instr.index 181 (.agg kwVals.toArray) (.int .i64 (j : Int))).run Tryz.prog w = .ok (.string (txt x)) w := by
 have hj12 : j < 12 := (List.getElem?_eq_some_iff.1 hj).1
 have hv : kwVals.toArray[j]? = some (.string (txt x)) := by simpa using kwVals_at hj
 have hag : (isAgg 9).run Tryz.prog w = .ok false w := by
  unfold isAgg
  rw [Sem.run_bind, run_underlying Tryz.underlying9 w]
  rfl
 have hi : (Tryz.prog.info? 9).map (·.size) = some 1 := by kernel_rfl
 cases hq : Tryz.prog.info? 9 with
 | none => simp [hq] at hi
 | some ie =>
  have hs : (sizeOf 9).run Tryz.prog w = .ok 1 w := by
   simp [hq] at hi
   simp [sizeOf, typeInfo, hq, hi]
  have hjj : (0 : Int) ≤ (j : Int) ∧ (j : Int) < ((12 : Nat) : Int) := by omega
  simp only [Instr.index, Sem.run_bind, run_underlying Tryz.underlying181]
  simp [asIntOf, hjj, part, hag, hs, kwVals_at hj]
  try omega
theorem kind_eq (l : List UInt8) (w : World) (hL : LF w) : Calls Tryz.prog 142 #[.string (txt l)] w fun e w' => e = .returned (.int .i64 (wordNo l)) ∧ w = w' := by
 go_enter Tryz.func142, Tryz.ntmps142
 go_wp2_with (refine wpList_load_mid rfl 181 _ rfl 1 0 rfl kwVals _ hL.range Tryz.underlying181 rfl (by kernel_rfl) ?_)
 go_loopw [6] (fun i wr => ∃ j : Nat, j ≤ 12 ∧ i = .int .i64 (j : Int) ∧ Hid (∀ m x, m < j → kwList[m]? = some x → x ≠ l) ∧ wr = w) (fun i _ => (12 - intOf i).toNat)
 case atStart => exact ⟨0, by omega, rfl, hid (fun m x h => absurd h (Nat.not_lt_zero m)), rfl⟩
 case round =>
  obtain ⟨j, hj, rfl, HNO, rfl⟩ := hrel
  by_cases hjn : j < 12
  ·obtain ⟨x, hx⟩ : ∃ x, kwList[j]? = some x := ⟨kwList[j]'(by have : kwList.length = 12 := rfl; omega), List.getElem?_eq_getElem _⟩
   have hix := fun w => ix_kw hx w
   have HX := hid hx
   clear hx
   by_cases hxl : x = l
   ·have hb : ((txt l).toList == (txt x).toList) = true := by rw [tx_beq]; simpa using hxl.symm
    have HL := hid hxl
    clear hxl
    go_wp2
    go_ret
    refine ⟨?_, rfl⟩
    rw [wordNo_at (by rw [HX.out, HL.out]) HNO.out]
    rfl
   ·have hb : ((txt l).toList == (txt x).toList) = false := by rw [tx_beq]; simpa using fun e => hxl e.symm
    have HL := hid hxl
    clear hxl
    go_wp2
    refine ⟨⟨j + 1, by omega, by go_num, hid (fun m y hm hy => ?_), trivial⟩, by simp [intOf]; omega⟩
    rcases Nat.lt_or_ge m j with h | h
    ·exact HNO.out m y h hy
    ·obtain rfl : m = j := by omega
     rw [HX.out, Option.some.injEq] at hy
     rw [← hy]
     exact HL.out
  ·obtain rfl : j = 12 := by omega
   go_wp2
   go_ret
   refine ⟨?_, rfl⟩
   rw [wordNo_none HNO.out]
   rfl
theorem kind_any (l : List UInt8) (w : World) (hL : LF w) : Calls Tryz.prog 142 #[.string (txt l)] w fun e w' => e = .returned (.int .i64 (wordNo l)) ∧ Turn w w' none :=
 (kind_eq l w hL).mono fun _ _ ⟨h1, h2⟩ => ⟨h1, h2 ▸ Turn.refl _ _⟩
open Go.RowKit
section
variable {P : Program} {ops : Array Oper} {rest : List Oper} {a : Act} {w : World} {Q : Exit → Act → World → Prop} {o o2 : Oper}
theorem wp_var (h1 : o.guard = none) (h2 : o2.guard = none) (ty : TypeId) (d : Tmp) (y : Operand) (ho : o.op = .alloc ty) (hd : o.dst = some d) (ho2 : o2.op = .store ty (.tmp d) y) (hd2 : o2.dst = none)
  {zs xs : List Value} (hz : ∀ w, (zeroValue ty).run P w = .ok (.agg zs.toArray) w) (hx : ∀ p, (a.put (some d) p).eval (.tmp d) = p) (hy : ∀ p, (a.put (some d) p).eval y = .agg xs.toArray)
  (hsz : zs.length = xs.length) (hi : (P.info? ty).map (·.size) = some xs.length) (h1x : ∀ u ∈ xs, u.oneCell' = true)
  (hK : ∀ g w', w.heap.size = g → Blk w' g ty xs.toArray → Turn w w' none → wpList P ops Q rest (a.put (some d) (.pointer (some ⟨g, 0, none⟩))) w') : wpList P ops Q (o :: o2 :: rest) a w := by
 refine wp_al h1 ty ho _ hz ?_
 intro g w1 hg hb ht
 rw [hd]
 refine wp_st h2 ty _ _ ho2 (hx _) (hy _) hb ?_ hi h1x ?_
 ·show (Value.agg zs.toArray).cells.size = _
  simpa [Value.cells] using hsz
 intro w2 hb2 ht2
 rw [hd2]
 exact hK g w2 hg hb2 (ht.new ht2 (fun g' e => by injection e with e; omega))
end
end Go.Proofs.YtgigiecdpjchkaaGreatDoor
