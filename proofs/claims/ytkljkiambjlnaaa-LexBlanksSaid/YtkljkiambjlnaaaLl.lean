/-
  Layer 6: the code's Words.
-/
import Derived.Test.YtkljkiambjlnaaaLk
import Derived.Test.YtkljkiambjlnaaaLb
namespace Go.Proofs.Ytkljkiambjlnaaa
open Go.RowKit Go.Shelf
attribute [local go_sem] Oper.semAt_some

theorem Boxed.res {W : World} {g2 g3 g4 : Nat} {v2 v3 v4 : Value} (h2 : Boxed W g2 26 v2) (h3 : Boxed W g3 3 v3) (h4 : Boxed W g4 27 v4) (tmps : Array Value)
    (e2 : tmps.getD 2 undef = .pointer (some ⟨g2, 0, none⟩)) (e3 : tmps.getD 3 undef = .pointer (some ⟨g3, 0, none⟩)) (e4 : tmps.getD 4 undef = .pointer (some ⟨g4, 0, none⟩)) :
    (results Try.f11 tmps).run Try.prog W = .ok (.tuple #[v2, v3, v4]) W := by
  have c2 := h2.cell
  have c3 := h3.cell
  have c4 := h4.cell
  rw [Array.getD_eq_getD_getElem?] at e2 e3 e4
  simp [results, Try.f11, go_sem, e2, e3, e4, c2, c3, c4]

set_option maxRecDepth 100000 in
set_option maxHeartbeats 1600000 in
theorem words_long (s : ByteArray) (l : List UInt8) (w : World) (hs : Tx s l) (hl : l.length ≤ 140737488355328) (h4 : 4096 < l.length) : Calls Try.prog 11 #[.string s] w (WdPost l w) := by
  have hsz : s.size = l.length := hs.size
  have H := hid (wWords_long h4)
  have h4i : (4096 : Int) < l.length := by omega
  go_enter Try.func11, Try.ntmps11
  go_wp2_with fail
  refine bodyPost_ret (Boxed.res (((Boxed.new w _ _).alloc _).alloc _) (((Boxed.new (w.alloc _) _ _)).alloc _) (Boxed.new ((w.alloc _).alloc _) _ _) _ ?_ ?_ ?_) rfl ?_
  · simp
  · simp
  · simp
  exact .inr ⟨0, 2, H.out, by decide, rfl, ((Turn.alloc (Turn.refl w none) _).alloc _).alloc _⟩

theorem infoTok : (Try.prog.info? 31).map (fun i => (i.zero, i.size, i.bytes)) = some (some (.agg #[.int .i64 0, .string .empty, .int .i64 0]), 3, 32) := by kernel_rfl
/-- What is said between two rounds. -/
def WdI (w : World) (s : ByteArray) (g : Nat) (pre : List YTok) (W : World) : Prop :=
  (pre.length ≤ 1500 ∧ ∀ x ∈ pre, x.2 = 0) ∧ (∃ v, Boxed W (w.heap.size + 1 + 1 + 1) 26 v ∧ W.ownsRow w.heap.size 31 3 v pre.length (tcs (pre.map Prod.fst))) ∧
  Boxed W w.heap.size 26 (.slice none 0 0) ∧ Boxed W (w.heap.size + 1) 3 (.int .i64 0) ∧ Boxed W (w.heap.size + 1 + 1) 27 (.int .i64 0) ∧ Below w.heap.size w W ∧ Boxed W g 9 (.string s)
/-- What is said where a round has left. -/
def WdX (w : World) (c : Code) (pre : List YTok) (W : World) : Prop :=
  ∃ (pre' : List YTok) (x : YTok) (p er : Nat), (c = .ret ∧ pre = pre' ++ [x] ∧ pre'.length ≤ 1500 ∧ (∀ y ∈ pre', y.2 = 0) ∧ ((x.2 ≠ 0 ∧ p = x.1.at_ ∧ er = x.2) ∨ (x.2 = 0 ∧ pre'.length = 1500 ∧ p = 4096 ∧ er = 2))) ∧
  Boxed W w.heap.size 26 (.slice none 0 0) ∧ Boxed W (w.heap.size + 1) 3 (.int .i64 (p : Int)) ∧ Boxed W (w.heap.size + 1 + 1) 27 (.int .i64 (er : Int)) ∧ Below w.heap.size w W
theorem boxed_far {X Y : World} {row : Option Nat} {B : Nat} {t : TypeId} {v : Value} (h : Boxed X B t v) (hg : X.grownBy Y row) (hr : ∀ r, row = some r → ∃ o : Obj, X.heap[r]? = some o ∧ o.isCells = false) : Boxed Y B t v :=
  boxed_own B t (fun (_ : Unit) => v) () X Y row h hg hr
theorem WdI.own (w : World) (s : ByteArray) (g B : Nat) (hB : w.heap.size ≤ B) : OwnFrom B (WdI w s g) := by
  rintro pre X Y row ⟨h1, h2, h3, h4, h5, h6, h7⟩ hg hr
  have hr' := fun r e => (hr r e).2
  refine ⟨h1, ?_, boxed_far h3 hg hr', boxed_far h4 hg hr', boxed_far h5 hg hr', ?_, boxed_far h7 hg hr'⟩
  · have := holdsRow_own (β := List YTok) w.heap.size (w.heap.size + 1 + 1 + 1) 26 31 3 (fun pre => pre.length) (fun pre => tcs (pre.map Prod.fst)) (fun _ _ => True) pre X Y row (by obtain ⟨v, a, b⟩ := h2; exact ⟨v, a, b, trivial⟩) hg hr'
    obtain ⟨v, a, b, _⟩ := this
    exact ⟨v, a, b⟩
  · exact h6.grown hg h6.size (fun j e => by have := (hr j e).1; omega)
theorem WdX.own (w : World) (c : Code) (B : Nat) (hB : w.heap.size ≤ B) : OwnFrom B (WdX w c) := by
  rintro pre X Y row ⟨pre', x, p, er, h1, h3, h4, h5, h6⟩ hg hr
  have hr' := fun r e => (hr r e).2
  exact ⟨pre', x, p, er, h1, boxed_far h3 hg hr', boxed_far h4 hg hr', boxed_far h5 hg hr', h6.grown hg h6.size (fun j e => by have := (hr j e).1; omega)⟩
/-- What lies in a round's own box. -/
def WdA (w : World) (s : ByteArray) (L g : Nat) (x : YTok) (a' : Act) (W : World) : Prop :=
  ∃ Bx, w.heap.size + 3 < Bx ∧ Blk W Bx 31 #[.int .i64 (x.1.k : Int), .string (txt x.1.s), .int .i64 (x.1.at_ : Int)] ∧
    a' = { tmps := #[.string s, undef, .pointer (some ⟨w.heap.size, 0, none⟩), .pointer (some ⟨w.heap.size + 1, 0, none⟩), .pointer (some ⟨w.heap.size + 1 + 1, 0, none⟩), .pointer (some ⟨w.heap.size + 1 + 1 + 1, 0, none⟩), .pointer (some ⟨Bx, 0, none⟩), .int .i64 (x.2 : Int),
      .string s, .int .i64 (L : Int), .bool (decide ((4096 : Int) < L)), .string s, .string s, .func (.func 21) #[] #[.pointer (some ⟨g, 0, none⟩)], .agg #[.int .i64 (x.1.k : Int), .string (txt x.1.s), .int .i64 (x.1.at_ : Int)], .int .i64 (x.2 : Int), undef, undef, undef, undef, undef, undef, undef, undef, undef, undef, undef, undef, undef], defers := [] }

theorem WdA.own (w : World) (s : ByteArray) (L g B : Nat) (x : YTok) (a' : Act) : OwnFrom B (fun (_ : Unit) W => WdA w s L g x a' W) := by
  rintro _ X Y row ⟨Bx, h1, h2, h3⟩ hg hr
  refine ⟨Bx, h1, h2.turn hg fun e => ?_, h3⟩
  obtain ⟨_, o, ho, hc⟩ := hr Bx e.symm
  rw [show X.heap[Bx]? = _ from h2] at ho
  cases ho
  cases hc
theorem iter_stops (s : ByteArray) (l : List UInt8) (hs : Tx s l) (hl4 : l.length ≤ 4096) (n g : Nat) (hn : 2 ≤ n) (w : World) (hB : Boxed w g 9 (.string s)) :
    SeqStopsK Fence.wide n Try.prog 21 #[.pointer (some ⟨g, 0, none⟩)] yv (KeepB g) (YAll l) (YSome l) (l.length + 1) w := fun lp J Jx W hW _ _ hY h0 =>
  iter_in n lp g hn s l hs hl4 J Jx hY W ((hW.block g hB.lt).trans hB) h0

/-- The three results are stored. -/
theorem set3 {w W : World} {u2 u3 u4 : Value} (v2 v3 v4 : Value) (h3 : Boxed W w.heap.size 26 u2) (h4 : Boxed W (w.heap.size + 1) 3 u3) (h5 : Boxed W (w.heap.size + 1 + 1) 27 u4) (h6 : Below w.heap.size w W) :
    KeepsOthers W (((W.setCell ⟨w.heap.size, 0, none⟩ v2).setCell ⟨w.heap.size + 1, 0, none⟩ v3).setCell ⟨w.heap.size + 1 + 1, 0, none⟩ v4) ∧
    Boxed (((W.setCell ⟨w.heap.size, 0, none⟩ v2).setCell ⟨w.heap.size + 1, 0, none⟩ v3).setCell ⟨w.heap.size + 1 + 1, 0, none⟩ v4) w.heap.size 26 v2 ∧
    Boxed (((W.setCell ⟨w.heap.size, 0, none⟩ v2).setCell ⟨w.heap.size + 1, 0, none⟩ v3).setCell ⟨w.heap.size + 1 + 1, 0, none⟩ v4) (w.heap.size + 1) 3 v3 ∧
    Boxed (((W.setCell ⟨w.heap.size, 0, none⟩ v2).setCell ⟨w.heap.size + 1, 0, none⟩ v3).setCell ⟨w.heap.size + 1 + 1, 0, none⟩ v4) (w.heap.size + 1 + 1) 27 v4 ∧
    Below w.heap.size w (((W.setCell ⟨w.heap.size, 0, none⟩ v2).setCell ⟨w.heap.size + 1, 0, none⟩ v3).setCell ⟨w.heap.size + 1 + 1, 0, none⟩ v4) := by
  refine ⟨((KeepsOthers.setCell _ _ _).trans (KeepsOthers.setCell _ _ _)).trans (KeepsOthers.setCell _ _ _), ?_, ?_, ?_, ?_⟩
  · exact ((h3.set v2).other (by omega) _).other (by omega) _
  · exact ((h4.other (by omega) _).set v3).other (by omega) _
  · exact ((h5.other (by omega) _).other (by omega) _).set v4
  · exact ((h6.setCell (p := ⟨w.heap.size, 0, none⟩) (Nat.le_refl _) _).setCell (p := ⟨w.heap.size + 1, 0, none⟩) (by simp) _).setCell (p := ⟨w.heap.size + 1 + 1, 0, none⟩) (by simp; omega) _

set_option maxRecDepth 100000 in
set_option maxHeartbeats 1600000 in
theorem words_short (s : ByteArray) (l : List UInt8) (w : World) (hs : Tx s l) (hl4 : l.length ≤ 4096) : Calls Try.prog 11 #[.string s] w (WdPost l w) := by
  obtain ⟨L, hL⟩ : ∃ L, l.length = L := ⟨_, rfl⟩
  have hsz : s.size = L := hs.size.trans hL
  have HL4 := hid hl4
  rw [hL] at hl4
  have hl4i : (L : Int) ≤ 4096 := by omega
  have HL := hid hL
  have HS := hid hs
  clear hL hs
  obtain ⟨i0, hi, hz0, hz1, hz2⟩ := info_parts infoTok
  refine (callsIn_wide (n := 6)).1 ?_
  refine callsIn_of_wp_marks Try.func11 rfl trivial ?_ rfl
  simp only [Try.ntmps11, List.size_toArray, List.length_cons, List.length_nil, Nat.reduceAdd, Nat.reduceSub, Array.replicate_succ, Array.replicate_zero, List.push_toArray, List.append_toArray, List.nil_append, List.cons_append]
  gi_wp2_with (first
    | (refine ⟨trivial, ?_⟩; gi_at_call 19; refine (callsIn_wide.2 (clone_any s _ (by omega))).mono ?_; rintro e w1 ⟨rfl, ht1⟩)
    | (refine ⟨trivial, ?_⟩; gi_at_call 18; refine (callsIn_wide.2 (tokens_any s _)).mono ?_; rintro e w2 ⟨rfl, rfl⟩))
  have hT3 : Turn w ((((w.alloc (.cells #[.slice none 0 0] 26)).alloc (.cells #[.int .i64 0] 3)).alloc (.cells #[.int .i64 0] 27)).alloc (.cells #[.slice none 0 0] 26)) none := (((Turn.alloc (Turn.refl w none) _).alloc _).alloc _).alloc _
  have hT1 := hT3.trans ht1
  have hsz1 := ht1.size
  simp only [World.size_alloc] at hsz1
  have b2 : Boxed w1 w.heap.size 26 (.slice none 0 0) := ((((Boxed.new w _ _).alloc _).alloc _).alloc _).kept ht1 (by simp)
  have b3 : Boxed w1 (w.heap.size + 1) 3 (.int .i64 0) := by
    have := (((Boxed.new (w.alloc (.cells #[.slice none 0 0] 26)) 3 (.int .i64 0)).alloc (.cells #[.int .i64 0] 27)).alloc (.cells #[.slice none 0 0] 26)).kept ht1 (by simp)
    simpa only [World.size_alloc] using this
  have b4 : Boxed w1 (w.heap.size + 1 + 1) 27 (.int .i64 0) := by
    have := ((Boxed.new ((w.alloc (.cells #[.slice none 0 0] 26)).alloc (.cells #[.int .i64 0] 3)) 27 (.int .i64 0)).alloc (.cells #[.slice none 0 0] 26)).kept ht1 (by simp)
    simpa only [World.size_alloc] using this
  have b5 : Boxed w1 (w.heap.size + 1 + 1 + 1) 26 (.slice none 0 0) := by
    have := (Boxed.new (((w.alloc (.cells #[.slice none 0 0] 26)).alloc (.cells #[.int .i64 0] 3)).alloc (.cells #[.int .i64 0] 27)) 26 (.slice none 0 0)).kept ht1 (by simp)
    simpa only [World.size_alloc] using this
  have bs := Boxed.new w1 9 (.string s)
  have hB1 : Below w.heap.size w (w1.alloc (.cells #[.string s] 9)) := (hT1.alloc _).below
  clear hT3 ht1
  obtain ⟨g, hg⟩ : ∃ g, g = w1.heap.size := ⟨_, rfl⟩
  rw [← hg] at bs hsz1 ⊢
  have b2 := b2.alloc (.cells #[.string s] 9)
  have b3 := b3.alloc (.cells #[.string s] 9)
  have b4 := b4.alloc (.cells #[.string s] 9)
  have b5 := b5.alloc (.cells #[.string s] 9)
  have hsz0 : (w1.alloc (.cells #[.string s] 9)).heap.size = g + 1 := by rw [World.size_alloc, hg]
  obtain ⟨W0, hW0⟩ : ∃ W0, w1.alloc (.cells #[.string s] 9) = W0 := ⟨_, rfl⟩
  rw [hW0] at b2 b3 b4 b5 bs hB1 hsz0 ⊢
  clear hW0 hg hT1
  refine wpIn_rangeFunc_ownH rfl (by omega) (gf := 21) (lb := #[.pointer (some ⟨g, 0, none⟩)]) rfl trivial (enters_of Try.func21 (by kernel_rfl) rfl)
    (iter_stops s l HS.out HL4.out 5 g (by omega) W0 bs) (fun h k => k.trans h) (fun W lp o o' hb hl ho _ => World.putObj_heap_other (by omega)) (Below.refl _ _) (fun _ => rfl)
    (WdI w s g) (WdX w) (WdI.own w s g _ (by omega)) (fun c => WdX.own w c _ (by omega))
    ⟨⟨by simp, by simp⟩, ⟨_, b5, World.ownsRow_nil _ _ _ _⟩, b2, b3, b4, hB1, bs⟩
    (WdA w s L g) (fun x a' => WdA.own w s L g _ x a') ?assign ?body ?done ?stop
  case assign =>
    rintro lp pre x W K ⟨h1, ⟨v, h2, h2'⟩, h3, h4, h5, h6, h7⟩ hK
    dsimp only [yv]
    gi_wp2
    exact hK _ _ ((KeepsOthers.alloc _ _).from _) ((h7.alloc _).trans h7.symm) ⟨h1, ⟨v, h2.alloc _, h2'.alloc _⟩, h3.alloc _, h4.alloc _, h5.alloc _, h6.alloc h6.size _, h7.alloc _⟩ ⟨W.heap.size, h2.lt, Blk.new W _ _, rfl⟩
  case body =>
    rintro lp pre x a' W hlp _ ⟨⟨hp1, hp2⟩, ⟨v, h2, h2'⟩, h3, h4, h5, h6, h7⟩ ⟨Bx, hBx, hX, rfl⟩ hlt
    have k2 := h3.cell
    have k3 := h4.cell
    have k4 := h5.cell
    have k5 := h2.cell
    have f2 := h3.frozen
    have f3 := h4.frozen
    have f4 := h5.frozen
    have f5 := h2.frozen
    have x0 := hX.cell 0
    have x1 := hX.cell 1
    have x2 := hX.cell 2
    simp only [List.getElem?_toArray, List.getElem?_cons_zero, List.getElem?_cons_succ] at x0 x1 x2
    obtain ⟨tk, er⟩ := x
    simp only at x0 x1 x2
    by_cases he : er = 0
    · subst he
      by_cases hN : pre.length = 1500
      · have hN15 : ((pre.length : Int) == 1500) = true := by rw [hN]; rfl
        have HN := hid hN
        clear hN
        obtain ⟨g5, c5, rfl⟩ : ∃ g5 c5, v = .slice g5 pre.length c5 := by
          rcases h2'.2 with ⟨rfl, h0⟩ | ⟨g5, c5, _, rfl, _⟩
          · exact ⟨none, 0, by rw [h0]⟩
          · exact ⟨_, _, rfl⟩
        gi_wp2
        obtain ⟨q1, q2, q3, q4, q5⟩ := set3 (w := w) (.slice none 0 0) (.int .i64 4096) (.int .i64 2) h3 h4 h5 h6
        exact ⟨q1.from _, pre, (tk, 0), 4096, 2, ⟨rfl, rfl, hp1, hp2, .inr ⟨rfl, HN.out, rfl, rfl⟩⟩, q2, q3, q4, q5⟩
      · have hN15 : ((pre.length : Int) == 1500) = false := beq_no (b := 1500) hN
        obtain ⟨g5, c5, rfl⟩ : ∃ g5 c5, v = .slice g5 pre.length c5 := by
          rcases h2'.2 with ⟨rfl, h0⟩ | ⟨g5, c5, _, rfl, _⟩
          · exact ⟨none, 0, by rw [h0]⟩
          · exact ⟨_, _, rfl⟩
        have hp3 : pre.length + 1 ≤ 1500 := by omega
        clear hN
        have hlits : ∀ j u, (tc tk)[j]? = some u → (W.alloc (.cells #[.int .i64 (tk.k : Int), .string (txt tk.s), .int .i64 (tk.at_ : Int)] 31)).cell? ((⟨W.heap.size, 0, none⟩ : Addr).add j) = some u := by
          intro j u hu
          obtain ⟨a, ha, _, hc⟩ := (Rd.litS W 31 3 1 (tc tk) rfl).2 j u hu
          cases ha
          exact hc
        gi_wp2_with (gi_at_builtin; refine wpListIn_append_own _ rfl _ _ 26 rfl w.heap.size 31 i0 (.agg #[.int .i64 0, .string .empty, .int .i64 0]) 3 32 Try.underlying26 hi hz0 hz1 hz2 rfl (by decide) _ _ _ rfl (h2'.alloc _) ⟨W.heap.size, 0, none⟩ 1 1 (tc tk) rfl rfl hlits (by intro u hu; simp only [tc, List.mem_cons, List.not_mem_nil, or_false] at hu; rcases hu with rfl | rfl | rfl <;> rfl) (by unfold maxLen; omega) (by omega) (by have := h6.size; simp; omega) ?_; intro v' w1 hown' hgrow _; obtain ⟨g', cap', rfl⟩ := ownsRow_succ hown'; obtain ⟨hv1, hv2, hr2, hk2, hb2⟩ := h2.appended (by decide) h2' h6.size (by omega) hown' hgrow; have hc1 := hv1.cell; have hf1 := hv1.frozen; have m2 := (h3.alloc _).kept hgrow (h3.not_row (by decide) h2'); have m3 := (h4.alloc _).kept hgrow (h4.not_row (by decide) h2'); have m4 := (h5.alloc _).kept hgrow (h5.not_row (by decide) h2'); have m7 := (h7.alloc _).kept hgrow (h7.not_row (by decide) h2'))
        have e1 : (pre ++ [((tk, 0) : YTok)]).length = pre.length + 1 := by simp
        have e2 : tcs ((pre ++ [((tk, 0) : YTok)]).map Prod.fst) = tcs (pre.map Prod.fst) ++ tc tk := by rw [List.map_append, tcs_app]; simp [tcs]
        have n7 := m7.other (B' := w.heap.size + 1 + 1 + 1) (by omega) (Value.slice (some ⟨g', 0, none⟩) (pre.length + 1) cap')
        refine ⟨hk2.from _, n7.trans h7.symm, ⟨by rw [e1]; exact hp3, ?_⟩, ⟨_, hv2, by rw [e1, e2]; exact hr2⟩, m2.other (by omega) _, m3.other (by omega) _, m4.other (by omega) _, h6.trans hb2, n7⟩
        intro y hy
        rcases List.mem_append.1 hy with hy | hy
        · exact hp2 y hy
        · obtain rfl : y = (tk, 0) := by simpa using hy
          rfl
    · have hei : ((er : Int) == 0) = false := beq_no (b := 0) he
      have hei2 : ((er : Int) != 0) = true := by show (!((er : Int) == ((0 : Nat) : Int))) = true; rw [beq_no he]; rfl
      gi_wp2
      have mixed : Try.prog.follows .mixedOrders = true := by kernel_rfl
      gi_region_with_o (fail)
      all_goals gi_wp2
      all_goals obtain ⟨q1, q2, q3, q4, q5⟩ := set3 (w := w) (.slice none 0 0) (.int .i64 (tk.at_ : Int)) (.int .i64 (er : Int)) h3 h4 h5 h6
      all_goals exact ⟨(q1.trans (KeepsOthers.drew _)).from _, pre, (tk, er), tk.at_, er, ⟨rfl, rfl, hp1, hp2, .inl ⟨he, rfl, rfl⟩⟩, q2, q3, q4, q5.drew⟩
  case done =>
    rintro D xs W hD hS ⟨⟨hp1, hp2⟩, ⟨v, h2, h2'⟩, h3, h4, h5, h6, h7⟩ hK
    have k2 := h3.cell
    have k3 := h4.cell
    have k4 := h5.cell
    have k5 := h2.cell
    have f2 := h3.frozen
    have f3 := h4.frozen
    have f4 := h5.frozen
    obtain ⟨g5, c5, rfl⟩ : ∃ g5 c5, v = .slice g5 xs.length c5 := by
      rcases h2'.2 with ⟨rfl, h0⟩ | ⟨g5, c5, _, rfl, _⟩
      · exact ⟨none, 0, by rw [h0]⟩
      · exact ⟨_, _, rfl⟩
    have hwd : wWords l = .ok (xs.map Prod.fst) := by
      rcases hS with ⟨ts, j, ht, hj, rfl⟩ | ⟨ts, j, c, ht, hc, hb, rfl⟩
      · rw [List.length_append, List.length_map, List.length_singleton] at hp1
        have := (ht.wd HL4.out (by omega)).stop hj
        rw [if_neg (by omega)] at this
        rw [this, List.map_append, List.map_map]
        congr 2
        simp [yok, Function.comp_def]
      · have := hp2 (⟨0, [], j + wOver false l j⟩, 4) (List.mem_append.2 (.inr (by simp)))
        simp at this
    have HWD := hid hwd
    clear hwd hS
    have own_set : ∀ {X : World} {B : Nat} {t : TypeId} {u : Value} (u' : Value), Boxed X B t u → t ≠ 31 → X.ownsRow w.heap.size 31 3 (.slice g5 xs.length c5) xs.length (tcs (xs.map Prod.fst)) →
        (X.setCell ⟨B, 0, none⟩ u').ownsRow w.heap.size 31 3 (.slice g5 xs.length c5) xs.length (tcs (xs.map Prod.fst)) :=
      fun {X B t u} u' hb hte ho => ho.kept (grownBy_setCell' X B u') (.inr (hb.not_row hte ho).symm)
    gi_wp2
    obtain ⟨q1, q2, q3, q4, q5⟩ := set3 (w := w) (.slice g5 xs.length c5) (.int .i64 0) (.int .i64 0) h3 h4 h5 h6
    have o1 := own_set (.slice g5 xs.length c5) h3 (by decide) h2'
    have o2 := own_set (.int .i64 0) (h4.other (B' := w.heap.size) (by omega) (.slice g5 xs.length c5)) (by decide) o1
    have o3 := own_set (.int .i64 0) ((h5.other (B' := w.heap.size) (by omega) (.slice g5 xs.length c5)).other (B' := w.heap.size + 1) (by omega) (.int .i64 0)) (by decide) o2
    have hK2 := q1.same D _ hK rfl
    have far : ∀ {B : Nat} {t : TypeId} {u : Value}, Boxed _ B t u → Boxed _ B t u := fun h => boxed_far h (grownBy_putObj' _ D (.deferred none)) (fun r e => by cases e; exact ⟨_, hK2, rfl⟩)
    refine ⟨by simp, .inl ⟨_, _, rfl, run_takeDeferred hK2, ?_⟩⟩
    exact ⟨_, Boxed.res (far q2) (far q3) (far q4) _ rfl rfl rfl, .inl ⟨xs.map Prod.fst, g5, xs.length, c5, HWD.out, rfl, ownsRow_putObj o3 _ hK2 rfl, turn_of_below (q5.trans (belowK_b (w := w) (Nat.le_refl _) _ D _ _ (by omega) hK2 rfl rfl))⟩⟩
  case stop =>
    rintro D c pre W hD hS ⟨pre', x, p, er, ⟨rfl, hpre, hp1, hp2, hx⟩, h3, h4, h5, h6⟩ hK
    have hwd : wWords l = .error (p, er) ∧ er ≠ 0 := by
      have key : ∀ ts : List Tok, pre' ++ [x] = ts.map yok → x.2 = 0 ∧ ∃ ts' t, ts = ts' ++ [t] ∧ ts'.length = pre'.length := by
        intro ts e
        rcases List.eq_nil_or_concat ts with rfl | ⟨ts', t, rfl⟩
        · simp at e
        · rw [List.concat_eq_append, List.map_append] at e
          obtain ⟨e1, e2⟩ := List.append_inj' e rfl
          obtain rfl : x = yok t := by simpa using e2
          exact ⟨rfl, ts', t, List.concat_eq_append, by rw [e1, List.length_map]⟩
      have key2 : ∀ (ts : List Tok) (y : YTok), pre' ++ [x] = ts.map yok ++ [y] → x = y ∧ ts.length = pre'.length := by
        intro ts y e
        obtain ⟨e1, e2⟩ := List.append_inj' e rfl
        exact ⟨by simpa using e2, by rw [e1, List.length_map]⟩
      rw [hpre] at hS
      rcases hS with (⟨ts, j, ht, hj, e⟩ | ⟨ts, j, c, ht, hc, hb, e⟩) | ⟨ts, j, ht, e⟩
      · obtain ⟨rfl, hn⟩ := key2 _ _ e
        rcases hx with ⟨h0, _⟩ | ⟨_, h15, rfl, rfl⟩
        · exact absurd rfl h0
        · have := (ht.wd HL4.out (by omega)).stop hj
          rw [if_pos (by omega)] at this
          exact ⟨this, by decide⟩
      · obtain ⟨rfl, hn⟩ := key2 _ _ e
        rcases hx with ⟨_, rfl, rfl⟩ | ⟨h0, _⟩
        · exact ⟨(ht.wd HL4.out (by omega)).form hc hb, (by decide : (4 : Nat) ≠ 0)⟩
        · exact absurd h0 (by decide : ¬ (4 : Nat) = 0)
      · obtain ⟨h0, ts', t, rfl, hn⟩ := key _ e
        rcases hx with ⟨h0', _⟩ | ⟨_, h15, rfl, rfl⟩
        · exact absurd h0 h0'
        · obtain ⟨j', c, ht', hc, hb⟩ := ht.prev
          exact ⟨(ht'.wd HL4.out (by omega)).many hc hb (by omega), by decide⟩
    have HWD := hid hwd
    clear hwd hS hpre hx
    gi_wp2
    have far : ∀ {B : Nat} {t : TypeId} {u : Value}, Boxed _ B t u → Boxed _ B t u := fun h => boxed_far h (grownBy_putObj' _ D (.deferred none)) (fun r e => by cases e; exact ⟨_, hK, rfl⟩)
    refine ⟨by simp, .inl ⟨_, _, rfl, run_takeDeferred hK, ?_⟩⟩
    exact ⟨_, Boxed.res (far h3) (far h4) (far h5) _ rfl rfl rfl, .inr ⟨p, er, HWD.out.1, HWD.out.2, rfl, turn_of_below (h6.trans (belowK_b (w := w) (Nat.le_refl _) _ D _ _ (by omega) hK rfl rfl))⟩⟩
theorem words_any (s : ByteArray) (l : List UInt8) (w : World) (hs : Tx s l) (hl : l.length ≤ 140737488355328) : Calls Try.prog 11 #[.string s] w (WdPost l w) := by
  rcases Nat.lt_or_ge 4096 l.length with h | h
  · exact words_long s l w hs hl h
  · exact words_short s l w hs h
end Go.Proofs.Ytkljkiambjlnaaa
