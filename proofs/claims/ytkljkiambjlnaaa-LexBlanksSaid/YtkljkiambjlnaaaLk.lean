/-
  Layer 6: the iterator over a text's words: what comes, in which order.
-/
import Derived.Test.YtkljkiambjlnaaaLh
import Derived.Test.YtkljkiambjlnaaaLj
import Derived.RangeFuncNested
import Derived.RangeFuncBound
import Derived.RangeFuncCalls
import Derived.RangeFuncLeaves
import Derived.Shelf.Abstract
import Derived.Shelf.RegionOpen
import Derived.OwnWalkIn
import Derived.TacticsInMore
import Derived.LoopNIn
import Derived.LoopIn
namespace Go.Proofs.Ytkljkiambjlnaaa
open Go.RowKit Go.Shelf
attribute [local go_sem] Oper.semAt_some

/-- The words from the beginning on, as far as place j. -/
inductive TkAt (l : List UInt8) : List Tok → Nat → Prop where
  | zero : TkAt l [] 0
  | next {ts : List Tok} {j : Nat} {c : UInt8} (h : TkAt l ts j) (hc : l[j + wOver false l j]? = some c) (hb : wBegins c = true) :
      TkAt l (ts ++ [⟨wKind c, (l.drop (j + wOver false l j)).take (wLen l (j + wOver false l j)), j + wOver false l j⟩]) (j + wOver false l j + wLen l (j + wOver false l j))
theorem wLen_pos {l : List UInt8} {a : Nat} {c : UInt8} (h : l[a]? = some c) : 1 ≤ wLen l a := by
  unfold wLen; rw [drop_at h]; simp only; omega
theorem TkAt.le {l : List UInt8} {ts : List Tok} {j : Nat} (h : TkAt l ts j) : j ≤ l.length ∧ ts.length ≤ j := by
  induction h with
  | zero => exact ⟨Nat.zero_le _, Nat.le_refl _⟩
  | next h hc hb ih =>
    have h1 := (List.getElem?_eq_some_iff.1 hc).1
    have h2 := wLen_le (l := l) (Nat.le_of_lt h1)
    have h3 := wLen_pos hc
    exact ⟨h2, by rw [List.length_append, List.length_singleton]; omega⟩
theorem TkAt.wd {l : List UInt8} (hl : l.length ≤ 4096) {ts : List Tok} {j : Nat} (h : TkAt l ts j) : ts.length ≤ 1500 → WdAt l ts j := by
  induction h with
  | zero => exact fun _ => WdAt.zero hl
  | next h hc hb ih =>
    intro hn
    rw [List.length_append, List.length_singleton] at hn
    exact (ih (by omega)).next hc hb (by omega)
theorem TkAt.prev {l : List UInt8} {ts : List Tok} {t : Tok} {j : Nat} (h : TkAt l (ts ++ [t]) j) : ∃ j' c, TkAt l ts j' ∧ l[j' + wOver false l j']? = some c ∧ wBegins c = true := by
  generalize hx : ts ++ [t] = xs at h
  cases h with
  | zero => simp at hx
  | next h hc hb =>
    obtain ⟨rfl, _⟩ := List.append_inj' hx rfl
    exact ⟨_, _, h, hc, hb⟩

/-- A round's element: a token, and the error beside it. -/
abbrev YTok := Tok × Nat
def yok (t : Tok) : YTok := (t, 0)
def yv (x : YTok) : Array Value := #[.agg #[.int .i64 (x.1.k : Int), .string (txt x.1.s), .int .i64 (x.1.at_ : Int)], .int .i64 (x.2 : Int)]
/-- All that comes. -/
def YAll (l : List UInt8) (xs : List YTok) : Prop :=
  (∃ ts j, TkAt l ts j ∧ j + wOver false l j = l.length ∧ xs = ts.map yok ++ [(⟨3, [], l.length⟩, 0)]) ∨
  (∃ ts j c, TkAt l ts j ∧ l[j + wOver false l j]? = some c ∧ wBegins c = false ∧ xs = ts.map yok ++ [(⟨0, [], j + wOver false l j⟩, 4)])
/-- What has come where a round has said 'no more'. -/
def YSome (l : List UInt8) (xs : List YTok) : Prop := YAll l xs ∨ ∃ ts j, TkAt l ts j ∧ xs = ts.map yok
theorem ext_txt (l : List UInt8) (a m : Nat) : (txt l).extract a (a + m) = txt ((l.drop a).take m) := by
  unfold txt
  apply ByteArray.ext
  rw [ByteArray.data_extract]
  simp [List.take_drop]
/-- Block b lies as it lay. -/
def KeepB (b : Nat) (W W' : World) : Prop := W'.heap[b]? = W.heap[b]?
theorem KeepB.boxed {b : Nat} {W W' : World} (h : KeepB b W W') {t : TypeId} {v : Value} (hb : Boxed W b t v) : Boxed W' b t v := h.trans hb

set_option maxRecDepth 100000 in
set_option maxHeartbeats 1600000 in
theorem iter_in (n lp Bn : Nat) (hn : 2 ≤ n) (s : ByteArray) (l : List UInt8) (hs : Tx s l) (hl4 : l.length ≤ 4096) (J Jx : List YTok → World → Prop)
    (hY : ∀ pre x W, J pre W → pre.length < l.length + 1 → YieldAt Fence.wide (n - 1) Try.prog lp (yv x) W fun e W' =>
      (e = .returned (.bool true) ∧ J (pre ++ [x]) W' ∧ KeepB Bn W W') ∨ (e = .returned (.bool false) ∧ Jx (pre ++ [x]) W'))
    (W : World) (hB : Boxed W Bn 9 (.string s)) (h0 : J [] W) :
    CallsIn Fence.wide n Try.prog 21 #[.func (.yield lp) #[] #[], .pointer (some ⟨Bn, 0, none⟩)] W fun e W' => (∃ v, e = .returned v) ∧
      ((∃ xs, YAll l xs ∧ J xs W') ∨ (∃ pre, YSome l pre ∧ Jx pre W')) := by
  obtain ⟨L, hL⟩ : ∃ L, l.length = L := ⟨_, rfl⟩
  have hsz : s.size = L := hs.size.trans hL
  have hl := hid (show l.length ≤ 140737488355328 by omega)
  have HL := hid hL
  rw [hL] at hl4
  have hl4i : (L : Int) ≤ 4096 := by omega
  have HS := hid hs
  clear hL
  have hBc := hB.cell
  obtain ⟨E, hE⟩ : ∃ E, E = 0 + wOver false l 0 := ⟨_, rfl⟩
  have hEL : E ≤ L := by have := wOver_le false l 0; have := HL.out; omega
  have HE := hid hE
  clear hE hs
  have h1n : 1 ≤ n := by omega
  refine callsIn_of_wp Try.func21 rfl trivial ?_ rfl
  simp only [Try.ntmps21, List.size_toArray, List.length_cons, List.length_nil, Nat.reduceAdd, Nat.reduceSub, Array.replicate_succ, Array.replicate_zero, List.push_toArray, List.append_toArray, List.nil_append, List.cons_append]
  gi_wp2_with (refine ⟨trivial, ?_⟩; gi_at_call 22; refine (callsIn_wide.2 (between_any s l 0 _ HS.out hl.out (Nat.zero_le _))).mono ?_; rintro e w' ⟨rfl, rfl⟩; rw [← HE.out])
  gi_loopw [3] (fun v wr => ∃ (ts : List Tok) (j e0 : Nat), v = .int .i64 (e0 : Int) ∧ e0 ≤ L ∧ Hid (j + wOver false l j = e0) ∧ Hid (TkAt l ts j) ∧ J (ts.map yok) wr ∧ Boxed wr Bn 9 (.string s)) (fun v _ => (L - intOf v).toNat)
  case atStart => exact ⟨[], 0, E, rfl, hEL, hid (by have := HE.out; omega), hid .zero, h0, hB⟩
  case round =>
    clear hBc hB h0 W
    obtain ⟨ts, j, e0, rfl, he0, HJ, HT, hJ, hB⟩ := hrel
    have hBc := hB.cell
    have hle := HT.out.le
    have hlen : (ts.map yok).length < l.length + 1 := by rw [List.length_map]; omega
    by_cases hjn : e0 < L
    · obtain ⟨c, hc⟩ : ∃ c, l[e0]? = some c := ⟨l[e0]'(by have := HL.out; omega), List.getElem?_eq_getElem (by have := HL.out; omega)⟩
      have HC := hid hc
      clear hc
      have hjni : (e0 : Int) < L := by omega
      cases hb : wBegins c with
      | false =>
        have HB := hid hb
        have HK := hid (wTk_no (l := l) (a := e0) hb)
        clear hb
        obtain ⟨fn, tmps, assign, body, hy, hR⟩ := hY (ts.map yok) (⟨0, [], e0⟩, 4) wr hJ hlen
        have hy2 : (Instr.yield lp #[.agg #[.int .i64 0, .string ⟨#[]⟩, .int .i64 (e0 : Int)], .int .i64 4]).run Try.prog wr = .ok (.round lp fn tmps assign body) wr := hy
        clear hy
        gi_wp2_with (refine ⟨trivial, ?_⟩; gi_at_call 23; refine (callsIn_wide.2 (token_any s l e0 c _ HS.out hl.out HC.out)).mono ?_; rintro e w' ⟨rfl, rfl⟩; rw [HK.out])
        have HF := hid (show YAll l (ts.map yok ++ [(⟨0, [], e0⟩, 4)]) from .inr ⟨ts, j, c, HT.out, by rw [HJ.out]; exact HC.out, HB.out, by rw [HJ.out]⟩)
        refine hR.mono ?_
        rintro e W3 (⟨rfl, hJ3, hk3⟩ | ⟨rfl, hJx3⟩)
        · gi_wp2
          refine bodyPost_ret (results_none rfl _ _ _) rfl ?_
          exact ⟨⟨_, rfl⟩, .inl ⟨_, HF.out, hJ3⟩⟩
        · gi_wp2
          refine bodyPost_ret (results_none rfl _ _ _) rfl ?_
          exact ⟨⟨_, rfl⟩, .inr ⟨_, .inl HF.out, hJx3⟩⟩
      | true =>
        obtain ⟨e1, he1⟩ : ∃ e1, e1 = e0 + wLen l e0 := ⟨_, rfl⟩
        have hlt : e0 < e1 := by have := wLen_pos HC.out; omega
        have hle1 : e1 ≤ L := by have := wLen_le (l := l) (a := e0) (by have := HL.out; omega); have := HL.out; omega
        have hne : ((e1 : Int) == (e0 : Int)) = false := beq_no (by omega)
        obtain ⟨e2, he2⟩ : ∃ e2, e2 = e1 + wOver false l e1 := ⟨_, rfl⟩
        have hle2 : e2 ≤ L := by have := wOver_le false l e1; have := HL.out; omega
        have hlt2 : e0 < e2 := by omega
        have hext : s.extract e0 e1 = txt ((l.drop e0).take (wLen l e0)) := by rw [HS.out, he1, ext_txt]
        have HX := hid hext
        have HB := hid hb
        have HK := hid (show wTk l e0 c = (wKind c, e1) by rw [wTk_in hb, he1])
        have HE1 := hid he1
        have HE2 := hid he2
        have HT2 := hid (show TkAt l (ts ++ [⟨wKind c, (l.drop e0).take (wLen l e0), e0⟩]) e1 by
          have := HT.out.next (by rw [HJ.out]; exact HC.out) hb
          rw [HJ.out, ← he1] at this
          exact this)
        clear hb hext he1 he2
        obtain ⟨fn, tmps, assign, body, hy, hR⟩ := hY (ts.map yok) (⟨wKind c, (l.drop e0).take (wLen l e0), e0⟩, 0) wr hJ hlen
        obtain ⟨x, hx⟩ : ∃ x, x = s.extract e0 e1 := ⟨_, rfl⟩
        have hy2 : (Instr.yield lp #[.agg #[.int .i64 (wKind c : Int), .string (s.extract e0 e1), .int .i64 (e0 : Int)], .int .i64 0]).run Try.prog wr = .ok (.round lp fn tmps assign body) wr := by rw [HX.out]; exact hy
        clear hy
        gi_wp2_with (refine ⟨trivial, ?_⟩; gi_at_call 23; refine (callsIn_wide.2 (token_any s l e0 c _ HS.out hl.out HC.out)).mono ?_; rintro e w' ⟨rfl, rfl⟩; rw [HK.out])
        trace_state
        refine hR.mono ?_
        rintro e W3 (⟨rfl, hJ3, hk3⟩ | ⟨rfl, hJx3⟩)
        · have hB3 := hk3.boxed hB
          have hBc3 := hB3.cell
          gi_wp2_with (refine ⟨trivial, ?_⟩; gi_at_call 22; refine (callsIn_wide.2 (between_any s l e1 _ HS.out hl.out (by have := HL.out; omega))).mono ?_; rintro e w' ⟨rfl, rfl⟩; rw [← HE2.out])
          go_roundw
          case rel => exact ⟨_, e1, e2, rfl, hle2, hid (by have := HE2.out; omega), HT2, by rw [List.map_append]; exact hJ3, hB3⟩
          case measure => simp [intOf]; omega
        · gi_wp2
          refine bodyPost_ret (results_none rfl _ _ _) rfl ?_
          exact ⟨⟨_, rfl⟩, .inr ⟨_, .inr ⟨_, _, HT2.out, by rw [List.map_append]; rfl⟩, hJx3⟩⟩
    · obtain rfl : e0 = L := by omega
      have HF := hid (show YAll l (ts.map yok ++ [(⟨3, [], e0⟩, 0)]) from .inl ⟨ts, j, HT.out, by rw [HJ.out, HL.out], by rw [HL.out]⟩)
      obtain ⟨fn, tmps, assign, body, hy, hR⟩ := hY (ts.map yok) (⟨3, [], e0⟩, 0) wr hJ hlen
      have hy2 : (Instr.yield lp #[.agg #[.int .i64 3, .string ⟨#[]⟩, .int .i64 (e0 : Int)], .int .i64 0]).run Try.prog wr = .ok (.round lp fn tmps assign body) wr := hy
      clear hy
      gi_wp2
      refine hR.mono ?_
      rintro e W3 (⟨rfl, hJ3, hk3⟩ | ⟨rfl, hJx3⟩)
      · gi_wp2
        go_end0
        exact ⟨⟨_, rfl⟩, .inl ⟨_, HF.out, hJ3⟩⟩
      · gi_wp2
        go_end0
        exact ⟨⟨_, rfl⟩, .inr ⟨_, .inl HF.out, hJx3⟩⟩
end Go.Proofs.Ytkljkiambjlnaaa
