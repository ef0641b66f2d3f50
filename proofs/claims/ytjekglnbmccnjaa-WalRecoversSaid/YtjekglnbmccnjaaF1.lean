import Derived.Test.YtjekglnbmccnjaaG16
set_option linter.unusedSimpArgs false
set_option linter.unusedVariables false
set_option linter.unusedSectionVars false
/-
  Layer 15: the law's models, and what is put behind a torn frame (contracts).
-/
namespace Go.Proofs.Ytjekglnbmccnjaa
set_option linter.unusedSimpArgs false
set_option linter.unusedVariables false
open Go.RowKit

def mdc (m : Md) (s l : Sl) : List Value := [.bool m.has, s.v, l.v]
theorem szMd {x y z : Value} : (Try.prog.info? 51).map (·.size) = some ([x, y, z] : List Value).length := by kernel_rfl
theorem bdM0 : Try.prog.built 51 [] = some ([.bool false, .slice none 0 0, .slice none 0 0] : List Value).toArray := by kernel_rfl
theorem bdM1 {A : Option Addr} {n c : Nat} : Try.prog.built 51 [(0, .bool true), (1, .slice A n c)] = some ([.bool true, .slice A n c, .slice none 0 0] : List Value).toArray := by kernel_rfl
theorem bdM2 {b : Bool} {A A2 : Option Addr} {n c n2 c2 : Nat} : Try.prog.built 51 [(0, .bool b), (1, .slice A n c), (2, .slice A2 n2 c2)] = some ([.bool b, .slice A n c, .slice A2 n2 c2] : List Value).toArray := by kernel_rfl
/-- A model, as it lies in memory, in blocks of Q. -/
structure Kim (w : World) (Q : Nat → Prop) (m : Md) (s l : Sl) (vs : List Value) : Prop where
  sn : Rd w w.heap.size 1 s.A s.n (vbs m.snap)
  sq : ∀ i, blk s.A = some i → 0 < s.n → Q i
  rd : Rd w w.heap.size 1 l.A l.n vs
  rq : ∀ i, blk l.A = some i → Q i
  rl : vs.length = m.l.length
  rows : ∀ (i : Nat) (x : List UInt8), m.l[i]? = some x → ∃ a n c, vs[i]? = some (.slice a n c) ∧ Rd w w.heap.size 1 a n (vbs x) ∧ n ≤ c ∧ c ≤ maxLen ∧ ∀ j, blk a = some j → 0 < n → Q j
section
variable {w w' : World} {Q T : Nat → Prop} {m : Md} {s l : Sl} {vs : List Value}
theorem Kim.chg (h : Kim w Q m s l vs) (ht : Chg w w' T) (hd : ∀ i, Q i → ¬ T i) : Kim w' Q m s l vs :=
  ⟨(h.sn.chg0 (Nat.le_refl _) ht fun g e hn => hd g (h.sq g e hn)).mono ht.size, h.sq, (h.rd.chg (Nat.le_refl _) ht fun g e => hd g (h.rq g e)).mono ht.size, h.rq, h.rl, fun i x hi => by
    obtain ⟨a, n, c, h1, h2, h3, h4, h5⟩ := h.rows i x hi
    exact ⟨a, n, c, h1, (h2.chg0 (Nat.le_refl _) ht fun g e hn => hd g (h5 g e hn)).mono ht.size, h3, h4, h5⟩⟩
theorem Kim.turn0 (h : Kim w Q m s l vs) (ht : Turn w w' none) : Kim w' Q m s l vs := h.chg (T := fun _ => False) (Chg.of0 ht _) fun _ _ h => h
theorem Kim.mono (h : Kim w Q m s l vs) (hd : ∀ i, Q i → T i) : Kim w T m s l vs := ⟨h.sn, fun i e hn => hd i (h.sq i e hn), h.rd, fun i e => hd i (h.rq i e), h.rl, fun i x hi => by
  obtain ⟨a, n, c, h1, h2, h3, h4, h5⟩ := h.rows i x hi
  exact ⟨a, n, c, h1, h2, h3, h4, fun j e hn => hd j (h5 j e hn)⟩⟩
theorem Kim.rw_ (h : Kim w Q m s l vs) : Rw w w.heap.size l.A l.n vs m.l := ⟨h.rd, h.rl, fun i x hi => by
  obtain ⟨a, n, c, h1, h2, h3, h4, _⟩ := h.rows i x hi
  exact ⟨a, n, c, h1, h2, h3, h4⟩⟩
theorem Kim.ln (h : Kim w Q m s l vs) : l.n = m.l.length := by rw [← h.rl]; exact h.rd.len.symm
theorem Kim.nil (w : World) (Q : Nat → Prop) : Kim w Q md0 nilS nilS [] := ⟨Rd.none_ _ _ 1 0, (fun i e => by cases e), Rd.none_ _ _ 1 0, (fun i e => by cases e), rfl, fun i l hi => by simp [md0] at hi⟩
end


/-- What the law's Safe answers. -/
def SfPost (x : List UInt8) (w : World) (e : Ending) (w' : World) : Prop := ∃ A' n' c', e = .returned (.slice A' n' c') ∧ n' ≤ 140737488351233 ∧ Rd w' w'.heap.size 1 A' n' (vbs x) ∧ Turn w w' none
set_option maxRecDepth 100000 in
set_option maxHeartbeats 1600000 in
theorem safe_any (k N : Int) (A : Option Addr) (n c B : Nat) (t : List UInt8) (w : World) (hr : Rd w B 1 A n (vbs t)) (hB : B ≤ w.heap.size) (hnc : n ≤ c) (hc : c ≤ maxLen) (hn : n ≤ 140737488351232) :
    Calls Try.prog 21 #[.agg (acq k N A n c).toArray] w (SfPost (oSafe N t) w) := by
  have hl := hr.len
  rw [vbs_len] at hl
  have T0 : ∀ (w : World) cs t, Turn w (w.alloc (.cells cs t)) none := fun w cs t => (Turn.refl w none).alloc _
  have hc2 : c ≤ 9223372036854775807 := by unfold maxLen at hc; omega
  by_cases h1 : N ≤ 0 ∧ 0 < n
  · obtain ⟨h1, h2⟩ := h1
    have hs : oSafe N t = 255 :: t.drop 1 := by unfold oSafe; rw [if_pos ⟨h1, by omega⟩]
    have h2i : (0 : Int) < (n : Int) := by omega
    have hrc := hr.cutB (c := c) (k := 1) (by omega) hnc
    obtain ⟨gX, oX, rfl, _, _⟩ := hr.head (by omega)
    rw [Option.map_some, add_flat] at hrc
    have kc2 : (1 : Int) ≤ (n : Int) := by omega
    have kc4 : (n : Int) ≤ (c : Int) := by omega
    have kc1 : 1 ≤ c := by omega
    rw [hs]
    clear hs hl
    by_cases hck : c = 1
    · rw [if_pos hck] at hrc
      subst hck
      obtain rfl : n = 1 := by omega
      go_enter Try.func21, Try.ntmps21
      go_wp2_with (first
        | (refine wp_bx rfl 42 _ rfl rfl ?_; intro g5 w1 hg5 hb5 t5; have c1 := hb5.ats (j := 1) (v := .int .i64 N) rfl; have c2 := hb5.ats (j := 2) (v := .slice (some ⟨gX, oX, none⟩) 1 1) rfl; have hb6 := hb5.alloc (.cells #[.int .u8 255] 5); have c3 := hb6.ats (j := 2) (v := .slice (some ⟨gX, oX, none⟩) 1 1) rfl)
        | (at_builtin; refine wp_app (base := w1.heap.size) (xs := [vb 255]) rfl _ _ _ rfl elB rfl rfl (show Own (w1.alloc (.cells #[.int .u8 255] 5)) w1.heap.size 5 1 (some ⟨w1.heap.size, 0, none⟩) 1 1 [vb 255] from Own.full w1 _ 5 1 1 1 #[vb 255] (Nat.le_refl _) (by decide) (by decide) rfl) ((hrc.turn0 t5 hB).turn0 (T0 _ _ _) (Nat.le_trans hB t5.size)) (vbs_one (t.drop 1)) (by unfold maxLen; omega) (by omega) (by show _ ≤ (w1.heap.push _).size; rw [Array.size_push]; omega) ?_; intro A6 c6 w6 ho6 t6 hb7))
      go_ret
      have T1 : Turn w w6 none := (t5.trans (T0 w1 #[.int .u8 255] 5)).new t6 fun g e => by injection e with e; have := t5.size; have e : w1.heap.size = g := e; omega
      exact ⟨A6, _, c6, rfl, by omega, ho6.rd, T1⟩
    · rw [if_neg hck] at hrc
      go_enter Try.func21, Try.ntmps21
      go_wp2_with (first
        | (refine wp_bx rfl 42 _ rfl rfl ?_; intro g5 w1 hg5 hb5 t5; have c1 := hb5.ats (j := 1) (v := .int .i64 N) rfl; have c2 := hb5.ats (j := 2) (v := .slice (some ⟨gX, oX, none⟩) n c) rfl; have hb6 := hb5.alloc (.cells #[.int .u8 255] 5); have c3 := hb6.ats (j := 2) (v := .slice (some ⟨gX, oX, none⟩) n c) rfl)
        | (at_builtin; refine wp_app (base := w1.heap.size) (xs := [vb 255]) rfl _ _ _ rfl elB rfl rfl (show Own (w1.alloc (.cells #[.int .u8 255] 5)) w1.heap.size 5 1 (some ⟨w1.heap.size, 0, none⟩) 1 1 [vb 255] from Own.full w1 _ 5 1 1 1 #[vb 255] (Nat.le_refl _) (by decide) (by decide) rfl) ((hrc.turn0 t5 hB).turn0 (T0 _ _ _) (Nat.le_trans hB t5.size)) (vbs_one (t.drop 1)) (by unfold maxLen; omega) (by omega) (by show _ ≤ (w1.heap.push _).size; rw [Array.size_push]; omega) ?_; intro A6 c6 w6 ho6 t6 hb7))
      go_ret
      have T1 : Turn w w6 none := (t5.trans (T0 w1 #[.int .u8 255] 5)).new t6 fun g e => by injection e with e; have := t5.size; have e : w1.heap.size = g := e; omega
      exact ⟨A6, _, c6, rfl, by omega, ho6.rd, T1⟩
  · have hcase : (N ≤ 0 ∧ ¬ (0 : Int) < (n : Int)) ∨ ¬ N ≤ 0 := by omega
    by_cases h3 : 3 < n
    · have hs : oSafe N t = t.take 3 := by unfold oSafe; rw [if_neg (by rw [hl]; exact h1), if_pos (by omega)]
      have h3i : (3 : Int) < (n : Int) := by omega
      have hr3 := hr.takeB (k := 3) (by omega)
      rw [hs]
      have q1 : ¬ N ≤ 0 := by omega
      clear hs hl h1
      clear hcase
      go_enter Try.func21, Try.ntmps21
      go_wp2_with (first
        | (refine wp_bx rfl 42 _ rfl rfl ?_; intro g5 w1 hg5 hb5 t5; have c1 := hb5.ats (j := 1) (v := .int .i64 N) rfl; have c2 := hb5.ats (j := 2) (v := .slice A n c) rfl; have hb6 := hb5.alloc (.cells #[.int .u8 255] 5); have c3 := hb6.ats (j := 2) (v := .slice A n c) rfl))
      go_ret
      exact ⟨A, 3, c, rfl, by omega, (hr3.turn0 t5 hB).mono (Nat.le_trans hB t5.size), t5⟩
    · have hs : oSafe N t = t := by unfold oSafe; rw [if_neg (by rw [hl]; exact h1), if_neg (by omega)]
      have h3i : (n : Int) ≤ 3 := by omega
      rw [hs]
      clear hs hl h1
      rcases hcase with ⟨q1, q2⟩ | q1
      all_goals
        go_enter Try.func21, Try.ntmps21
        go_wp2_with (first
          | (refine wp_bx rfl 42 _ rfl rfl ?_; intro g5 w1 hg5 hb5 t5; have c1 := hb5.ats (j := 1) (v := .int .i64 N) rfl; have c2 := hb5.ats (j := 2) (v := .slice A n c) rfl; have hb6 := hb5.alloc (.cells #[.int .u8 255] 5); have c3 := hb6.ats (j := 2) (v := .slice A n c) rfl))
        go_ret
        exact ⟨A, n, c, rfl, by omega, (hr.turn0 t5 hB).mono (Nat.le_trans hB t5.size), t5⟩
end Go.Proofs.Ytjekglnbmccnjaa
/-
  Layer 15: the law's after and is (contracts).
-/
namespace Go.Proofs.Ytjekglnbmccnjaa
set_option linter.unusedSimpArgs false
set_option linter.unusedVariables false
open Go.RowKit

/-- What is: has, snapshot, records. -/
def Md.isk (m : Md) (k : Kp) : Bool := decide (m.has = k.has) && (decide (m.snap = k.snap) && decide (m.l = k.recs))
theorem isk_self (m : Md) : m.isk m.kp = true := by simp [Md.isk, Md.kp]

set_option maxRecDepth 100000 in
set_option maxHeartbeats 1600000 in
theorem is_any {w : World} {Q Q2 : Nat → Prop} {m : Md} {k : Kp} {s l s2 x2 : Sl} {vs vs2 : List Value} (h : Kim w Q m s l vs) (h2 : Kin w Q2 k s2 x2 vs2) (hn : m.l.length ≤ 140737488355328) :
    Calls Try.prog 22 #[.agg (mdc m s l).toArray, .agg (kpc k s2 x2).toArray] w fun e w' => e = .returned (.bool (m.isk k)) ∧ Turn w w' none := by
  obtain ⟨A, n, c⟩ := s
  obtain ⟨A2, n2, c2⟩ := s2
  obtain ⟨B, q, d⟩ := l
  obtain ⟨B2, q2, d2⟩ := x2
  have hm : q ≤ 140737488355328 := by have e : q = m.l.length := h.ln; omega
  unfold Md.isk
  have both : ∀ {w1 w2 : World}, True := fun {_ _} => trivial
  by_cases e1 : m.has = k.has
  · have e1b : (m.has == k.has) = true := by rw [e1]; simp
    by_cases e2 : m.snap = k.snap
    · have e2b : ((txt m.snap).toList == (txt k.snap).toList) = true := by rw [e2]; simp
      rw [decide_eq_true e1, decide_eq_true e2]
      have E1 := hid e1
      have E2 := hid e2
      clear e1 e2
      go_enter Try.func22, Try.ntmps22
      go_wp2_with (first
        | (refine wp_bx rfl 51 _ rfl rfl ?_; intro g1 w1 hg1 hb1 t1; refine wp_bx rfl 46 _ rfl rfl ?_; intro g2 w2 hg2 hb2 t2; have hb1 := hb1.turn0 t2; have T2 := t1.trans t2; have h1 := h.turn0 T2; have h2b := h2.turn0 T2; have a0 := hb1.ats (j := 0) (v := .bool m.has) rfl; have a1 := hb1.ats (j := 1) (v := .slice A n c) rfl; have a2 := hb1.ats (j := 2) (v := .slice B q d) rfl; have b0 := hb2.ats (j := 0) (v := .bool k.has) rfl; have b1 := hb2.ats (j := 1) (v := .slice A2 n2 c2) rfl; have b2 := hb2.ats (j := 2) (v := .slice B2 q2 d2) rfl; have s1 := str_run w2 (c := c) h1.sn; have s2 := str_run w2 (c := c2) h2b.sn)
        | (go_at_call 40; refine (same_any _ _ _ _ _ _ _ _ _ _ w2.heap.size _ h1.rw_ h2b.rw_ (Nat.le_refl _) hm).mono ?_; rintro e w3 ⟨rfl, t3⟩))
      go_ret
      exact ⟨by simp, T2.trans t3⟩
    · have e2b : ((txt m.snap).toList == (txt k.snap).toList) = false := by rw [txt_beq]; simpa using e2
      rw [decide_eq_true e1, decide_eq_false e2]
      have E1 := hid e1
      clear e1 e2
      go_enter Try.func22, Try.ntmps22
      go_wp2_with (first
        | (refine wp_bx rfl 51 _ rfl rfl ?_; intro g1 w1 hg1 hb1 t1; refine wp_bx rfl 46 _ rfl rfl ?_; intro g2 w2 hg2 hb2 t2; have hb1 := hb1.turn0 t2; have T2 := t1.trans t2; have h1 := h.turn0 T2; have h2b := h2.turn0 T2; have a0 := hb1.ats (j := 0) (v := .bool m.has) rfl; have a1 := hb1.ats (j := 1) (v := .slice A n c) rfl; have a2 := hb1.ats (j := 2) (v := .slice B q d) rfl; have b0 := hb2.ats (j := 0) (v := .bool k.has) rfl; have b1 := hb2.ats (j := 1) (v := .slice A2 n2 c2) rfl; have b2 := hb2.ats (j := 2) (v := .slice B2 q2 d2) rfl; have s1 := str_run w2 (c := c) h1.sn; have s2 := str_run w2 (c := c2) h2b.sn))
      go_ret
      exact ⟨by simp, T2⟩
  · have e1b : (m.has == k.has) = false := by rw [beq_eq_false_iff_ne]; exact e1
    rw [decide_eq_false e1]
    clear e1
    go_enter Try.func22, Try.ntmps22
    go_wp2_with (first
      | (refine wp_bx rfl 51 _ rfl rfl ?_; intro g1 w1 hg1 hb1 t1; refine wp_bx rfl 46 _ rfl rfl ?_; intro g2 w2 hg2 hb2 t2; have hb1 := hb1.turn0 t2; have T2 := t1.trans t2; have a0 := hb1.ats (j := 0) (v := .bool m.has) rfl; have b0 := hb2.ats (j := 0) (v := .bool k.has) rfl))
    go_ret
    exact ⟨by simp, T2⟩

section
variable {w w' : World} {Q T : Nat → Prop} {m : Md} {s l : Sl} {vs : List Value}
theorem Kim.one (h : Kim w Q m s l vs) : ∀ u ∈ vs, u.oneCell' = true := fun u hu => by
  obtain ⟨i, hi, rfl⟩ := List.mem_iff_getElem.1 hu
  have hi2 : i < m.l.length := by rw [← h.rl]; exact hi
  obtain ⟨a, n, c, h1, _⟩ := h.rows i m.l[i] (List.getElem?_eq_getElem hi2)
  rw [List.getElem?_eq_getElem hi] at h1
  injection h1 with h1
  rw [h1]
  rfl
theorem Kim.app {Q' : Nat → Prop} {base c' n c : Nat} {A' a : Option Addr} {x : List UInt8} (h : Kim w Q m s l vs) (ho : Own w base 34 1 A' (l.n + 1) c' (vs ++ [.slice a n c])) (hr : Rd w w.heap.size 1 a n (vbs x)) (hnc : n ≤ c) (hcm : c ≤ maxLen) (hq : ∀ i, blk a = some i → 0 < n → Q' i) (hb : ∀ i, base ≤ i → i < w.heap.size → Q' i) (hm : ∀ i, Q i → Q' i) :
    Kim w Q' { m with l := m.l ++ [x] } s ⟨A', l.n + 1, c'⟩ (vs ++ [.slice a n c]) := by
  refine ⟨h.sn, fun i e hn => hm i (h.sq i e hn), ho.rd, fun i e => hb i (ho.block i e).1 (ho.block i e).2, by rw [List.length_append, List.length_append, h.rl]; rfl, fun i y hi => ?_⟩
  by_cases hlt : i < m.l.length
  · have hi : (m.l ++ [x])[i]? = some y := hi
    rw [List.getElem?_append_left hlt] at hi
    obtain ⟨b, q, p, h1, h2, h3, h4, h5⟩ := h.rows i y hi
    exact ⟨b, q, p, by rw [List.getElem?_append_left (by rw [h.rl]; exact hlt)]; exact h1, h2, h3, h4, fun j e hn => hm j (h5 j e hn)⟩
  · have hi : (m.l ++ [x])[i]? = some y := hi
    have hi2 := (List.getElem?_eq_some_iff.1 hi).1
    rw [List.length_append, List.length_singleton] at hi2
    obtain rfl : i = m.l.length := by omega
    rw [List.getElem?_append_right (Nat.le_refl _), Nat.sub_self] at hi
    obtain rfl : x = y := by simpa using hi
    exact ⟨a, n, c, by rw [← h.rl, List.getElem?_append_right (Nat.le_refl _), Nat.sub_self]; rfl, hr, hnc, hcm, hq⟩
end
/-- What the law's after answers. -/
def AfPost (Q : Nat → Prop) (m : Md) (w : World) (e : Ending) (w' : World) : Prop := Turn w w' none ∧ ∃ s l vs, e = .returned (.agg (mdc m s l).toArray) ∧ Kim w' (fun i => Q i ∨ (w.heap.size ≤ i ∧ i < w'.heap.size)) m s l vs
theorem zM : ∀ w, (zeroValue 51).run Try.prog w = .ok (.agg ([.bool false, .slice none 0 0, .slice none 0 0] : List Value).toArray) w := zero_at (by kernel_rfl)

set_option maxRecDepth 100000 in
set_option maxHeartbeats 3200000 in
theorem after_any {w : World} {Q : Nat → Prop} {m : Md} {s l : Sl} {vs : List Value} (h : Kim w Q m s l vs) (hml : m.l.length ≤ 1000) (k N : Int) (A : Option Addr) (n c B : Nat) (b : List UInt8) (hr : Rd w B 1 A n (vbs b)) (hB : B ≤ w.heap.size) (hnc : n ≤ c) (hc : c ≤ maxLen) (hQ : ∀ i, blk A = some i → 0 < n → Q i) (hQl : ∀ i, Q i → i < w.heap.size) (hk : k = 0 ∨ k = 1) :
    Calls Try.prog 15 #[.agg (mdc m s l).toArray, .agg (acq k N A n c).toArray] w (AfPost Q (m.after k (b.take 3000)) w) := by
  obtain ⟨A1, n1, c1⟩ := s
  obtain ⟨B1, q1, d1⟩ := l
  have hq1 : q1 ≤ 1000 := by have e : q1 = m.l.length := h.ln; omega
  have T0 : ∀ (w : World) cs t, Turn w (w.alloc (.cells cs t)) none := fun w cs t => (Turn.refl w none).alloc _
  have al : ∀ (w : World) (cs : Array Value) (t : TypeId), (w.alloc (.cells cs t)).heap.size = w.heap.size + 1 := fun w cs t => Array.size_push ..
  rcases hk with rfl | rfl
  · have ha : m.after 0 (b.take 3000) = { m with l := m.l ++ [b.take 3000] } := if_pos rfl
    rw [ha]
    clear ha
    go_enter Try.func15, Try.ntmps15
    go_upto_region 3 with (first
      | (refine wp_bx rfl 51 _ rfl rfl ?_; intro g1 w1 hg1 hb1 t1; refine wp_bx rfl 36 _ rfl rfl ?_; intro g2 w2 hg2 hb2 t2; have hb23 := hb2.alloc (.cells #[.bool false, .slice none 0 0, .slice none 0 0] 51); have c0 := hb23.ats (j := 0) (v := .int .i64 0) rfl; have T3 := (t1.trans t2).trans (T0 w2 #[.bool false, .slice none 0 0, .slice none 0 0] 51)))
    have hb13 := (hb1.turn0 t2).alloc (.cells #[.bool false, .slice none 0 0, .slice none 0 0] 51)
    have hR3 := Blk.new w2 51 #[.bool false, .slice none 0 0, .slice none 0 0]
    have s12 := (t1.trans t2).size
    have s2 := hb2.lt
    have s1 := hb1.lt
    have st2 := t2.size
    generalize w2.alloc (.cells #[.bool false, .slice none 0 0, .slice none 0 0] 51) = w3 at *
    have C1 : ∀ W, Blk W g1 51 (mdc m ⟨A1, n1, c1⟩ ⟨B1, q1, d1⟩).toArray → Blk W g2 36 (acq 0 N A n c).toArray → (W.cell? ⟨g1, 0, none⟩ = some (.bool m.has) ∧ W.cell? ⟨g1, 1, none⟩ = some (.slice A1 n1 c1) ∧ W.cell? ⟨g1, 2, none⟩ = some (.slice B1 q1 d1)) ∧ W.rangeAt g2 0 (acq 0 N A n c) := fun W h1 h2 => ⟨⟨h1.ats (j := 0) rfl, h1.ats (j := 1) rfl, h1.ats (j := 2) rfl⟩, h2.range (Sub.all _)⟩
    clear c0
    have h00 : Own ((World.drew w3).alloc (.cells #[] 34)) w3.heap.size 34 1 (some ⟨w3.heap.size, 0, none⟩) 0 0 [] := Own.made (World.drew w3) _ _ 1 0 #[] (Nat.le_refl _) (by decide) rfl
    have h3 := h.turn0 T3
    have s3 := T3.size
    refine wp_region_noPanic ?_
    refine wp_region_held_drew (S := (fun W => (W.cell? ⟨g1, 0, none⟩ = some (.bool m.has) ∧ W.cell? ⟨g1, 1, none⟩ = some (.slice A1 n1 c1) ∧ W.cell? ⟨g1, 2, none⟩ = some (.slice B1 q1 d1)) ∧ W.rangeAt g2 0 (acq 0 N A n c))) (by kernel_rfl) (C1 _ hb13.drew hb23.drew) (fun hHeld => ?_)
    (first | (refine wpAnyH_take (i := 0) (v := undef) rfl (by kernel_rfl) (by kernel_rfl) (by kernel_rfl) (fun _ _ _ h => h) (Or.inr ⟨rfl, rfl⟩) (by assumption) ?_) | (refine wpAnyH_take (i := 0) (v := ?_) rfl (by kernel_rfl) (by kernel_rfl) (by kernel_rfl) (fun _ _ _ h => h) (Or.inl ⟨rfl, ?_⟩) (by assumption) ?_; rotate_left 1; · (intro w hSw; (try dsimp only at hSw); go_simp; (try with_reducible rfl)))); (try simp only [Act.put, List.getElem_toArray, List.getElem_cons_zero, List.getElem_cons_succ, List.setIfInBounds_toArray, List.set_cons_zero, List.set_cons_succ])
    (first | (refine wpAnyH_take (i := 1) (v := undef) rfl (by kernel_rfl) (by kernel_rfl) (by kernel_rfl) (fun _ _ _ h => h) (Or.inr ⟨rfl, rfl⟩) (by assumption) ?_) | (refine wpAnyH_take (i := 1) (v := ?_) rfl (by kernel_rfl) (by kernel_rfl) (by kernel_rfl) (fun _ _ _ h => h) (Or.inl ⟨rfl, ?_⟩) (by assumption) ?_; rotate_left 1; · (intro w hSw; (try dsimp only at hSw); go_simp; (try with_reducible rfl)))); (try simp only [Act.put, List.getElem_toArray, List.getElem_cons_zero, List.getElem_cons_succ, List.setIfInBounds_toArray, List.set_cons_zero, List.set_cons_succ])
    (first | (refine wpAnyH_take (i := 2) (v := undef) rfl (by kernel_rfl) (by kernel_rfl) (by kernel_rfl) (fun _ _ _ h => h) (Or.inr ⟨rfl, rfl⟩) (by assumption) ?_) | (refine wpAnyH_take (i := 2) (v := ?_) rfl (by kernel_rfl) (by kernel_rfl) (by kernel_rfl) (fun _ _ _ h => h) (Or.inl ⟨rfl, ?_⟩) (by assumption) ?_; rotate_left 1; · (intro w hSw; (try dsimp only at hSw); go_simp; (try with_reducible rfl)))); (try simp only [Act.put, List.getElem_toArray, List.getElem_cons_zero, List.getElem_cons_succ, List.setIfInBounds_toArray, List.set_cons_zero, List.set_cons_succ])
    (first | (refine wpAnyH_take (i := 3) (v := undef) rfl (by kernel_rfl) (by kernel_rfl) (by kernel_rfl) (fun _ _ _ h => h) (Or.inr ⟨rfl, rfl⟩) (by assumption) ?_) | (refine wpAnyH_take (i := 3) (v := ?_) rfl (by kernel_rfl) (by kernel_rfl) (by kernel_rfl) (fun _ _ _ h => h) (Or.inl ⟨rfl, ?_⟩) (by assumption) ?_; rotate_left 1; · (intro w hSw; (try dsimp only at hSw); go_simp; (try with_reducible rfl)))); (try simp only [Act.put, List.getElem_toArray, List.getElem_cons_zero, List.getElem_cons_succ, List.setIfInBounds_toArray, List.set_cons_zero, List.set_cons_succ])
    (first | (refine wpAnyH_take (i := 5) (v := undef) rfl (by kernel_rfl) (by kernel_rfl) (by kernel_rfl) (fun _ _ _ h => h) (Or.inr ⟨rfl, rfl⟩) (by assumption) ?_) | (refine wpAnyH_take (i := 5) (v := ?_) rfl (by kernel_rfl) (by kernel_rfl) (by kernel_rfl) (fun _ _ _ h => h) (Or.inl ⟨rfl, ?_⟩) (by assumption) ?_; rotate_left 1; · (intro w hSw; (try dsimp only at hSw); go_simp; (try with_reducible rfl)))); (try simp only [Act.put, List.getElem_toArray, List.getElem_cons_zero, List.getElem_cons_succ, List.setIfInBounds_toArray, List.set_cons_zero, List.set_cons_succ])
    (first | (refine wpAnyH_take (i := 6) (v := undef) rfl (by kernel_rfl) (by kernel_rfl) (by kernel_rfl) (fun _ _ _ h => h) (Or.inr ⟨rfl, rfl⟩) (by assumption) ?_) | (refine wpAnyH_take (i := 6) (v := ?_) rfl (by kernel_rfl) (by kernel_rfl) (by kernel_rfl) (fun _ _ _ h => h) (Or.inl ⟨rfl, ?_⟩) (by assumption) ?_; rotate_left 1; · (intro w hSw; (try dsimp only at hSw); go_simp; (try with_reducible rfl)))); (try simp only [Act.put, List.getElem_toArray, List.getElem_cons_zero, List.getElem_cons_succ, List.setIfInBounds_toArray, List.set_cons_zero, List.set_cons_succ])
    refine wpAnyH_take (i := 8) rfl (by kernel_rfl) (by kernel_rfl) (by kernel_rfl) (fun _ _ _ h => h) (yieldsIf_load_mid (by rfl) 36 _ rfl g2 0 rfl (acq 0 N A n c) _ (fun W hW => hW.2) Try.underlying36 rfl szAct15) (by assumption) ?_
    (try simp only [Act.put, List.getElem_toArray, List.getElem_cons_zero, List.getElem_cons_succ, List.setIfInBounds_toArray, List.set_cons_zero, List.set_cons_succ])
    refine wpAnyH_ready (rs := [4]) (by kernel_rfl) (by simp) ?_; refine AllReadyH.cons rfl (fun K hK => ?_) AllReadyH.nil
    go_simp
    have t4 := T0 (World.drew w3) #[] 34
    refine hK.out _ _ (C1 _ (hb13.drew.turn0 t4) (hb23.drew.turn0 t4)) (fun hHeld => ?_); clear hK K; (try simp only [Act.put, List.getElem_toArray, List.getElem_cons_zero, List.getElem_cons_succ, List.setIfInBounds_toArray, List.set_cons_zero, List.set_cons_succ])
    refine wpAnyH_ready (rs := [7]) (by kernel_rfl) (by simp) ?_; refine AllReadyH.cons rfl (fun K hK => ?_) AllReadyH.nil
    refine st_app (base := w3.heap.size) rfl _ _ _ rfl elR rfl rfl h00 (h3.rd.drew.turn0 t4 (Nat.le_refl _)) h.one (by unfold maxLen; show 0 + q1 ≤ _; omega) (by show (0 + q1) * 24 ≤ _; omega) (by show _ ≤ (w3.heap.push _).size; rw [Array.size_push]; omega) ?_
    intro A7 c7 w7 ho7 t7' hb7
    have t7 : Turn (World.drew w3) w7 none := t4.new t7' (fun g hg => by simp [blk] at hg; subst hg; exact Nat.le_refl _)
    clear t7' hb7 t4 h00
    have ho7 : Own w7 w3.heap.size 34 1 A7 (0 + q1) c7 ([] ++ vs) := ho7
    simp only [Nat.zero_add, List.nil_append] at ho7 ⊢
    refine hK.out _ _ (C1 _ (hb13.drew.turn0 t7) (hb23.drew.turn0 t7)) (fun hHeld => ?_); clear hK K; (try simp only [Act.put, List.getElem_toArray, List.getElem_cons_zero, List.getElem_cons_succ, List.setIfInBounds_toArray, List.set_cons_zero, List.set_cons_succ])
    refine wpAnyH_ready (rs := [9]) (by kernel_rfl) (by simp) ?_
    refine AllReadyH.cons rfl (fun K hK => ?_) AllReadyH.nil
    go_simp
    refine (bytes15_any 0 N A n c B b _ ((hr.turn0 T3 hB).drew.turn0 t7 (Nat.le_trans hB s3)) (Nat.le_trans hB (Nat.le_trans s3 t7.undrew.size)) hnc hc).mono ?_
    rintro e w9 ⟨n', rfl, hn3, hn', hr9, t9⟩
    have t79 := t7.trans t9
    refine hK.out _ _ (C1 _ (hb13.drew.turn0 t79) (hb23.drew.turn0 t79)) (fun hHeld => ?_); clear hK K; (try simp only [Act.put, List.getElem_toArray, List.getElem_cons_zero, List.getElem_cons_succ, List.setIfInBounds_toArray, List.set_cons_zero, List.set_cons_succ])
    refine wpAnyH_ready (rs := [10]) (by kernel_rfl) (by simp) ?_; refine AllReadyH.cons rfl (fun K hK => ?_) AllReadyH.nil
    go_simp
    have t10 := t79.trans (T0 w9 #[.slice A n' c] 34)
    refine hK.out _ _ (C1 _ (hb13.drew.turn0 t10) (hb23.drew.turn0 t10)) (fun hHeld => ?_); clear hK K; (try simp only [Act.put, List.getElem_toArray, List.getElem_cons_zero, List.getElem_cons_succ, List.setIfInBounds_toArray, List.set_cons_zero, List.set_cons_succ])
    refine wpAnyH_ready (rs := [11]) (by kernel_rfl) (by simp) ?_; refine AllReadyH.cons rfl (fun K hK => ?_) AllReadyH.nil
    refine st_app (base := w3.heap.size) rfl _ _ _ rfl elR rfl rfl ((ho7.turn0 t9).alloc _) (Rd.lit _ _ _) (by repeat (first | exact ones_nil | refine ones_cons rfl ?_)) (by unfold maxLen; show q1 + 1 ≤ _; omega) (by show (q1 + 1) * 24 ≤ _; omega) (by have := t79.size; show _ ≤ (w9.heap.push _).size; rw [Array.size_push]; have e : (World.drew w3).heap.size = w3.heap.size := rfl; omega) ?_
    intro A11 c11 w11 ho11 t11' hb11
    have t11 : Turn (World.drew w3) w11 none := t10.new t11' (fun g hg => (ho7.block g hg).1)
    refine hK.out _ _ (C1 _ (hb13.drew.turn0 t11) (hb23.drew.turn0 t11)) (fun hHeld => ?_); clear hK K; (try simp only [Act.put, List.getElem_toArray, List.getElem_cons_zero, List.getElem_cons_succ, List.setIfInBounds_toArray, List.set_cons_zero, List.set_cons_succ])
    refine wpAnyH_take (i := 12) rfl (by kernel_rfl) (by kernel_rfl) (by kernel_rfl) (fun _ _ _ h => h) (yieldsIf_bd (by rfl) 51 _ rfl #[(0, .bool m.has), (1, .slice A1 n1 c1), (2, .slice A11 (q1 + 1) c11)] (by first | rfl | kernel_rfl | (simp; done)) _ bdM2) (by assumption) ?_
    (try simp only [Act.put, List.getElem_toArray, List.getElem_cons_zero, List.getElem_cons_succ, List.setIfInBounds_toArray, List.set_cons_zero, List.set_cons_succ])
    refine wpAnyH_ready (rs := [13]) (by kernel_rfl) (by simp) ?_; refine AllReadyH.cons rfl (fun K hK => ?_) AllReadyH.nil
    refine gd_dst (xs := [.bool m.has, .slice A1 n1 c1, .slice A11 (q1 + 1) c11]) rfl 51 _ _ rfl rfl rfl (hR3.drew.turn0 t11) rfl szMd (ones3 rfl rfl rfl) ?_
    intro w13 hb13b t13
    have e3 : (World.drew w3).heap.size = w3.heap.size := rfl
    refine hK.out _ _ (C1 _ ((hb13.drew.turn0 t11).turn t13 (by simp; omega)) ((hb23.drew.turn0 t11).turn t13 (by simp; omega))) (fun hHeld => ?_); clear hK K; (try simp only [Act.put, List.getElem_toArray, List.getElem_cons_zero, List.getElem_cons_succ, List.setIfInBounds_toArray, List.set_cons_zero, List.set_cons_succ])
    refine wpAnyH_done (by kernel_rfl) ?_ _
    refine NoPanic.normal ?_
    clear hHeld
    go_wp2
    refine ret_cell rfl rfl rfl hb13b Try.underlying51 rfl szMd ?_
    have TT := T3.trans t11.undrew
    have hRl := hR3.lt
    have s11 := t11.undrew.size
    have T13 : Turn w w13 none := TT.new t13 fun g e => by injection e with e; omega
    have k13 := (h.turn0 TT).chg (chg1 t13) fun i hi e => by have := hQl i hi; omega
    have h11 : Own w13 w3.heap.size 34 1 A11 (q1 + 1) c11 (vs ++ [.slice A n' c]) := ho11.turn t13 (.inr fun e => by have := (ho11.block _ e).1; omega)
    have r9 : Rd w11 B 1 A n' (vbs (b.take 3000)) := by
      have q9 := t79.undrew.size
      have r10 := hr9.turn0 (T0 w9 #[.slice A n' c] 34) (by omega)
      exact r10.turn t11' (Nat.le_trans (by omega) (T0 w9 #[.slice A n' c] 34).size) (fun g hg => by have := (ho7.block g hg).1; omega)
    have r13 : Rd w13 w13.heap.size 1 A n' (vbs (b.take 3000)) := (r9.ne0 (Nat.le_trans hB TT.size) t13 (fun e hp => by have := r9.blkLt hp e; omega)).mono (Nat.le_trans hB T13.size)
    exact ⟨T13, ⟨A1, n1, c1⟩, ⟨A11, q1 + 1, c11⟩, vs ++ [.slice A n' c], rfl, k13.app (Q' := fun i => Q i ∨ (w.heap.size ≤ i ∧ i < w13.heap.size)) h11 r13 (by omega) hc (fun i e hp => .inl (hQ i e (by omega))) (fun i hi hl => .inr ⟨by omega, hl⟩) fun i hi => .inl hi⟩
  · have ha : m.after 1 (b.take 3000) = ⟨true, m.next, b.take 3000, []⟩ := if_neg (by decide)
    rw [ha]
    clear ha hq1
    go_enter Try.func15, Try.ntmps15
    go_wp2_with (first
      | (refine wp_bx rfl 51 _ rfl rfl ?_; intro g1 w1 hg1 hb1 t1; refine wp_bx rfl 36 _ rfl rfl ?_; intro g2 w2 hg2 hb2 t2; have hb23 := hb2.alloc (.cells #[.bool false, .slice none 0 0, .slice none 0 0] 51); have c0 := hb23.ats (j := 0) (v := .int .i64 1) rfl; have T3 := (t1.trans t2).trans (T0 w2 #[.bool false, .slice none 0 0, .slice none 0 0] 51))
      | (refine wp_ld rfl 36 _ rfl rfl hb23 (Sub.all _) Try.underlying36 rfl szAct15 ?_)
      | (go_at_call 17; refine (bytes15_any 1 N A n c B b _ (hr.turn0 T3 hB) (Nat.le_trans hB T3.size) hnc hc).mono ?_; rintro e w4 ⟨n', rfl, hn3, hn', hr4, t4⟩)
      | (refine wp_bd rfl 51 _ rfl _ rfl _ bdM1 ?_)
      | (refine wp_st (xs := [.bool true, .slice A n' c, .slice none 0 0]) rfl 51 _ _ rfl rfl rfl ((Blk.new w2 _ _).turn0 t4) rfl szMd (ones3 rfl rfl rfl) ?_; intro w5 hb5 t5))
    refine ret_cell rfl rfl rfl hb5 Try.underlying51 rfl szMd ?_
    have T4 := T3.trans t4
    have s3 := (t1.trans t2).size
    have T5 : Turn w w5 none := T4.new t5 fun g e => by injection e with e; omega
    have hr5 : Rd w5 w5.heap.size 1 A n' (vbs (b.take 3000)) := (hr4.ne0 (Nat.le_trans hB T4.size) t5 (fun e hp => by have := hr4.blkLt hp e; omega)).mono (Nat.le_trans hB T5.size)
    exact ⟨T5, ⟨A, n', c⟩, nilS, [], rfl, hr5, fun i e hp => .inl (hQ i e (by have : 0 < n' := hp; omega)), Rd.none_ _ _ 1 0, (fun i e => by cases e), rfl, fun i x hi => by simp at hi⟩
end Go.Proofs.Ytjekglnbmccnjaa
/-
  Layer 15: the walk of WalFull.
-/
namespace Go.Proofs.Ytjekglnbmccnjaa
set_option linter.unusedSimpArgs false
set_option linter.unusedVariables false
open Go.RowKit

/-- Where a model's blocks may lie. -/
def Far (w : World) (R : Nat → Prop) (gw g9 i : Nat) : Prop := i < w.heap.size ∧ ¬ R i ∧ i ≠ gw ∧ i ≠ g9
/-- A log on a disk alone, and a model of it in a variable. -/
structure Lm (w0 w : World) (g gw g9 : Nat) (R : Nat → Prop) (D : Dsk) (m : Md) (s l : Sl) (vs : List Value) : Prop where
  d : Bo w0 w g R D
  b : Blk w gw 81 (wlc g m.next).toArray
  v : Blk w g9 51 (mdc m s l).toArray
  bR : ¬ R gw
  vR : ¬ R g9
  b0 : w0.heap.size ≤ gw
  v0 : w0.heap.size ≤ g9
  bv : gw ≠ g9
  k : Kim w (Far w R gw g9) m s l vs
theorem up_wlim {D : Dsk} {L : Int} (h : Up D L) : D.lim = L := h.l
theorem full_len {D : Dsk} {m : Md} {j : Nat} (hs : Syn D m) (hf : m.Few j) (hj : j ≤ 100) (n : Int) : (D.rd n).length ≤ 1099511627776 := by
  have h1 := hf.log
  have h2 := hf.sn
  unfold Dsk.rd
  split
  · rename_i hq
    have hq2 : n = 0 ∨ n = 1 := by
      unfold Dsk.dErr at hq
      split at hq
      · cases hq
      · unfold fErr at hq
        split at hq
        · cases hq
        · omega
    rcases hq2 with rfl | rfl
    · show (D.f 0).all.length ≤ _
      rw [hs.1, stF_all]; omega
    · show (D.f 1).all.length ≤ _
      rw [hs.2, stF_all]; omega
  · simp

set_option maxRecDepth 100000 in
set_option maxHeartbeats 12800000 in
theorem qfull_walk (L : Int) (l0 : 0 ≤ L) (l1 : L ≤ 65535) (A : Option Addr) (n c : Nat) (qs : List At) (w : World) (hr : Rq w w.heap.size A n qs) (hn : n ≤ 140737488351232) :
    Calls Try.prog 5 #[.int .u16 L, .slice A n c] w fun e w' => e = .returned (.bool true) ∧ Turn w w' none := by
  have T0 : ∀ (w : World) cs t, Turn w (w.alloc (.cells cs t)) none := fun w cs t => (Turn.refl w none).alloc _
  have al : ∀ (w : World) (cs : Array Value) (t : TypeId), (w.alloc (.cells cs t)).heap.size = w.heap.size + 1 := fun w cs t => Array.size_push ..
  have hL : (newD L).lim = L := by simp only [newD]; rw [if_neg (by omega), if_neg (by omega)]
  have hup : Up (newD L) L := ⟨rfl, rfl, hL⟩
  have hsy := newD_syn L
  have hop0 : ∀ {V g R}, Bo w V g R (newD L) → Calls Try.prog 13 #[.pointer (some ⟨g, 0, none⟩)] V (OpYes R g kp0 (newD L) V) := fun h => (open_any h.p (full_len hsy md0_few (by decide) 0) (full_len hsy md0_few (by decide) 1)).mono fun e w' k => op_yes (open_syn hup md0_few.ok hsy) k
  have hnew := new_bo L w
  have HP := hid (show Up (newD L) L ∧ Syn (newD L) md0 ∧ md0.Few 0 from ⟨hup, hsy, md0_few⟩)
  generalize newD L = D0 at *
  clear hL hup hsy
  go_enter Try.func5, Try.ntmps5
  go_wp2_with (first
    | (go_at_call 6; refine hnew.mono ?_; rintro e w1 ⟨g, R1, rfl, h1⟩)
    | (go_at_call 13; refine (hop0 h1).mono ?_; rintro e w2 ⟨gw, s2, x2, vs2, Q2, R2, rfl, hc2, hp2, hk2, hq2, hb2, hd2, hnq2, hN2⟩; have h2 := h1.stp2 hc2 hp2 hk2)
    | (refine wp_bd rfl 51 _ rfl _ rfl _ bdM0 ?_)
    | (refine wp_st (xs := kpc kp0 s2 x2) rfl 46 _ _ rfl rfl rfl (Blk.new w2 _ _) rfl szKp (ones4 rfl rfl rfl rfl) ?_; intro w3 hb3 ht3; have t3 := (T0 w2 _ _).new ht3 (by simp))
    | (refine wp_st (xs := [.bool false, .slice none 0 0, .slice none 0 0]) rfl 51 _ _ rfl rfl rfl (Blk.new w3 _ _) rfl szMd (ones3 rfl rfl rfl) ?_; intro w4 hb4 ht4; have t4 := (T0 w3 _ _).new ht4 (by simp)))
  have hlm : Lm w w4 g gw w3.heap.size R2 D0 md0 nilS nilS [] := by
    have t34 := t3.trans t4
    obtain ⟨a1, a2, a3⟩ := hd2 gw (.inr rfl)
    have s1 := h1.tw.size
    have s3 := t3.size
    exact ⟨h2.turn0 t34, hb2.turn0 t34, hb4, a3, fun k => by have := h2.p.lt k; omega, by omega, by have := h2.tw.size; omega, by omega, Kim.nil _ _⟩
  generalize w3.heap.size = g9 at *
  clear h1 h2 hb2 hd2 hq2 hk2 hp2 hc2 hnq2 hN2 hb3 hb4 ht3 ht4 t3 t4 hop0 hnew
  go_loopw [10] (fun i wr => ∃ (j : Nat) (R : Nat → Prop) (D : Dsk) (m : Md) (s l : Sl) (vs : List Value), j ≤ n ∧ j ≤ 40 ∧ i = .int .i64 (j : Int) ∧ Lm w wr g gw g9 R D m s l vs ∧ Hid (Up D L ∧ Syn D m ∧ m.Few j)) (fun i _ => (n - intOf i).toNat)
  case atStart => exact ⟨0, R2, D0, md0, nilS, nilS, [], by omega, by omega, rfl, hlm, HP⟩
  case round =>
    obtain ⟨j, R, D, m, s, l, vs, hj, hj2, rfl, h, HM⟩ := hrel
    clear hlm HP
    by_cases hjn : j < n ∧ j < 40
    · obtain ⟨hjn, hj3⟩ := hjn
      obtain ⟨b, off, a, rfl, hb, ha, hok, hrng⟩ := hr.at_ (Nat.le_refl _) hjn
      have hcs : a.cs = acq a.k a.m a.A a.n a.c := rfl
      rw [hcs] at hrng
      have hrw := hrng _ h.d.tw
      have hb3 : (a.b.take 3000).length ≤ 3000 := by rw [List.length_take]; omega
      obtain ⟨b', hb'⟩ : ∃ b', a.b.take 3000 = b' := ⟨_, rfl⟩
      rw [hb'] at hb3
      have hfew := HM.out.2.2
      have hnx := hfew.n
      have hml := hfew.l
      obtain ⟨hup, hres⟩ := app_full HM.out.1 HM.out.2.1 hfew (by omega) hb3
      have hapN := apN_appD (D := D) (n := m.next) (b := b') (by omega) (by omega)
      generalize D.appD (fBytes (wRec m.next b')) = ED at *
      obtain ⟨E, D'⟩ := ED
      have hap := fun {V : World} {R : Nat → Prop} (h : Bo w V g R D) (hb : Blk V gw 81 (wlc g m.next).toArray) (hR : ¬ R gw) (A : Option Addr) (m' c B : Nat) (h1 : Rd V B 1 A m' (vbs b')) (h2 : B ≤ V.heap.size) (h3 : m' ≤ 140737488351232) => append_any h.p hb hR (by omega) A m' c B b' h1 h2 h3
      rw [hapN] at hap
      rcases hres with ⟨hE, hsy⟩ | ⟨hE, hsy⟩
      · have hE : E = 0 := hE
        subst hE
        have hapc : ∀ {V : World} {R : Nat → Prop}, Bo w V g R D → Blk V gw 81 (wlc g m.next).toArray → ¬ R gw → ∀ (A : Option Addr) (m' c B : Nat), Rd V B 1 A m' (vbs b') → B ≤ V.heap.size → m' ≤ 140737488351232 → Calls Try.prog 16 #[.pointer (some ⟨gw, 0, none⟩), .slice A m' c] V (LgPost R gw g V 0 D' (m.next + 1)) := fun h hb hR A m' c B h1 h2 h3 => hap h hb hR A m' c B h1 h2 h3
        have HM' := hid (show Up D' L ∧ Syn D' { m with l := m.l ++ [b'] } ∧ ({ m with l := m.l ++ [b'] } : Md).Few (j + 1) from ⟨hup, hsy, hfew.app (by omega) hb3⟩)
        clear hap hapN hup hsy HM hfew
        go_wp2_with (first
          | (refine gd_ldR (by rfl) 36 _ rfl rfl hrw Try.underlying36 rfl szAct15 ?_)
          | (refine wp_st (xs := acq a.k a.m a.A a.n a.c) rfl 36 _ _ rfl rfl rfl (Blk.new wr _ _) rfl szAct15 (ones3 rfl rfl rfl) ?_; intro w5 hb5 t5; have t5' := (T0 wr _ _).new t5 (by simp); have c50 := hb5.ats (j := 0) (v := .int .i64 a.k) rfl; have f50 := hb5.frozen 0; have hb6 := hb5.sets 0 (.int .i64 0); have T6 : Turn wr (w5.setCell ⟨wr.heap.size, 0, none⟩ (.int .i64 0)) none := t5'.new (Blk.setTurn _ _ _ _) (by simp); have T7 := T6.trans (T0 (w5.setCell ⟨wr.heap.size, 0, none⟩ (.int .i64 0)) #[] 5); have h00 : Own ((w5.setCell ⟨wr.heap.size, 0, none⟩ (.int .i64 0)).alloc (.cells #[] 5)) (w5.setCell ⟨wr.heap.size, 0, none⟩ (.int .i64 0)).heap.size 5 1 (some ⟨(w5.setCell ⟨wr.heap.size, 0, none⟩ (.int .i64 0)).heap.size, 0, none⟩) 0 0 [] := Own.made _ _ _ 1 0 #[] (Nat.le_refl _) (by decide) rfl; have es : (w5.setCell ⟨wr.heap.size, 0, none⟩ (.int .i64 0)).heap.size = w5.heap.size := (by simp); rw [es] at h00)
          | (go_at_call 17; refine (bytes15_any 0 a.m a.A a.n a.c w.heap.size a.b _ (hok.rd.turn0 (h.d.tw.trans T7) (Nat.le_refl _)) (h.d.tw.trans T7).size hok.nc hok.cm).mono ?_; rintro e w8 ⟨n', rfl, hn3, hn', hr8, t8⟩; rw [hb'] at hr8)
          | (at_builtin; refine wp_app (base := w5.heap.size) rfl _ _ _ rfl elB rfl rfl (h00.turn0 t8) hr8 (vbs_one b') (by have := hok.few; unfold maxLen; omega) (by have := hok.few; omega) (by have := (T0 (w5.setCell ⟨wr.heap.size, 0, none⟩ (.int .i64 0)) #[] 5).size; have := t8.size; omega) ?_; intro A9 c9 w9 ho9 t9 hb9; have T9 : Turn wr w9 none := (T7.trans t8).new t9 (fun g hg => by simp [blk] at hg; have := T6.size; omega); simp only [Nat.zero_add, List.nil_append] at ho9 ⊢; have a9 := ((hb6.turn0 (T0 (w5.setCell ⟨wr.heap.size, 0, none⟩ (.int .i64 0)) #[] 5)).turn0 t8).turn t9 (by have := hb5.lt; simp [blk]; omega))
          | (go_at_call 16; refine (hapc (h.d.turn0 T9) (h.b.turn0 T9) h.bR A9 n' c9 w9.heap.size ho9.rd (Nat.le_refl _) (by have := hok.few; omega)).mono ?_; rintro e w10 ⟨rfl, hc10, R10, hp10, hk10, hb10, hn10⟩; have h10 := (h.d.turn0 T9).lg h.b0 hc10 hp10 hk10; have v10 := (h.v.turn0 T9).chg hc10 (fun k => k.elim h.vR fun e => h.bv e.symm); have gl := h.v.lt; have gb := h.b.lt; have a10 := a9.chg hc10 (fun k => k.elim (fun k => by have := h.d.p.lt k; omega) fun e => by omega); have nR : ∀ i, i < wr.heap.size → ¬ R i → ¬ R10 i := fun i h1 h2 h3 => (hk10 i h3).elim h2 (fun h4 => by have := T9.size; omega); have k10 := (h.k.turn0 T9).chg hc10 (fun i hi k => k.elim hi.2.1 hi.2.2.1))
          | (refine wp_ld rfl 51 _ rfl rfl v10 (Sub.all _) Try.underlying51 rfl szMd ?_)
          | (refine wp_ld rfl 36 _ rfl rfl a10 (Sub.all (acq 0 a.m a.A a.n a.c)) Try.underlying36 rfl szAct15 ?_)
          | (refine wp_ld rfl 36 _ rfl rfl (hb6.alloc _) (Sub.all (acq 0 a.m a.A a.n a.c)) Try.underlying36 rfl szAct15 ?_)
          | (go_at_call 15; refine (after_any k10 (by omega) 0 a.m a.A a.n a.c w.heap.size a.b (hok.rd.turn0 h10.tw (Nat.le_refl _)) h10.tw.size hok.nc hok.cm (fun i e hp => by have := hok.rd.blkLt hp e; have := h.d.tw.size; exact ⟨by omega, fun k => by have := h.d.r0 i k; omega, by have := h.b0; omega, by have := h.v0; omega⟩) (fun i hi => Nat.lt_of_lt_of_le hi.1 (Nat.le_trans T9.size hc10.size)) (.inl rfl)).mono ?_; rintro e w11 ⟨t11, s', l', vs', rfl, k11⟩; rw [hb'] at k11)
          | (refine wp_st (xs := mdc (m.after 0 b') s' l') rfl 51 _ _ rfl rfl rfl (v10.turn0 t11) rfl szMd (ones3 rfl rfl rfl) ?_; intro w12 hb12 t12))
        have e : m.after 0 b' = { m with l := m.l ++ [b'] } := if_pos rfl
        rw [e] at hb12 k11
        have en : ({ m with l := m.l ++ [b'] } : Md).next = m.next + 1 := by show m.s + (m.l ++ [b']).length = m.s + m.l.length + 1; rw [List.length_append, List.length_singleton]; omega
        have s9 := T9.size
        have s10 := hc10.size
        have s11 := t11.size
        have s12 := t12.size
        have d12 : Bo w w12 g R10 D' := by
          have d11 := h10.turn0 t11
          exact ⟨d11.p.chg (chg1 t12) fun k hk e => nR g9 gl h.vR (e ▸ hk), d11.r0, d11.tw.new t12 fun g e => by injection e with e; have := h.v0; omega⟩
        have lm : Lm w w12 g gw g9 R10 D' { m with l := m.l ++ [b'] } s' l' vs' :=
          ⟨d12, by rw [en]; exact (hb10.turn0 t11).turn t12 (by simp; exact h.bv), hb12, hn10, nR g9 gl h.vR, h.b0, h.v0, h.bv,
            (k11.chg (chg1 t12) (fun i hi e => hi.elim (fun hi => hi.2.2.2 e) fun hi => by omega)).mono fun i hi => hi.elim (fun hi => ⟨by have := hi.1; omega, nR i hi.1 hi.2.1, hi.2.2.1, hi.2.2.2⟩) fun hi => ⟨by omega, fun k => by have := h10.p.lt k; omega, by omega, by omega⟩⟩
        refine ⟨⟨j + 1, R10, D', _, s', l', vs', by omega, by omega, by go_num, lm, HM'⟩, ?_⟩
        simp [intOf]; omega
      · have hE : E = 8 := hE
        subst hE
        have hapc : ∀ {V : World} {R : Nat → Prop}, Bo w V g R D → Blk V gw 81 (wlc g m.next).toArray → ¬ R gw → ∀ (A : Option Addr) (m' c B : Nat), Rd V B 1 A m' (vbs b') → B ≤ V.heap.size → m' ≤ 140737488351232 → Calls Try.prog 16 #[.pointer (some ⟨gw, 0, none⟩), .slice A m' c] V (LgPost R gw g V 8 D' m.next) := fun h hb hR A m' c B h1 h2 h3 => hap h hb hR A m' c B h1 h2 h3
        have HM' := hid (show Up D' L ∧ Syn D' m ∧ m.Few (j + 1) from ⟨hup, hsy, ⟨hfew.ok, by omega, by omega, hfew.r, hfew.s⟩⟩)
        clear hap hapN hup hsy HM hfew
        go_wp2_with (first
          | (refine gd_ldR (by rfl) 36 _ rfl rfl hrw Try.underlying36 rfl szAct15 ?_)
          | (refine wp_st (xs := acq a.k a.m a.A a.n a.c) rfl 36 _ _ rfl rfl rfl (Blk.new wr _ _) rfl szAct15 (ones3 rfl rfl rfl) ?_; intro w5 hb5 t5; have t5' := (T0 wr _ _).new t5 (by simp); have c50 := hb5.ats (j := 0) (v := .int .i64 a.k) rfl; have f50 := hb5.frozen 0; have hb6 := hb5.sets 0 (.int .i64 0); have T6 : Turn wr (w5.setCell ⟨wr.heap.size, 0, none⟩ (.int .i64 0)) none := t5'.new (Blk.setTurn _ _ _ _) (by simp); have T7 := T6.trans (T0 (w5.setCell ⟨wr.heap.size, 0, none⟩ (.int .i64 0)) #[] 5); have h00 : Own ((w5.setCell ⟨wr.heap.size, 0, none⟩ (.int .i64 0)).alloc (.cells #[] 5)) (w5.setCell ⟨wr.heap.size, 0, none⟩ (.int .i64 0)).heap.size 5 1 (some ⟨(w5.setCell ⟨wr.heap.size, 0, none⟩ (.int .i64 0)).heap.size, 0, none⟩) 0 0 [] := Own.made _ _ _ 1 0 #[] (Nat.le_refl _) (by decide) rfl; have es : (w5.setCell ⟨wr.heap.size, 0, none⟩ (.int .i64 0)).heap.size = w5.heap.size := (by simp); rw [es] at h00)
          | (go_at_call 17; refine (bytes15_any 0 a.m a.A a.n a.c w.heap.size a.b _ (hok.rd.turn0 (h.d.tw.trans T7) (Nat.le_refl _)) (h.d.tw.trans T7).size hok.nc hok.cm).mono ?_; rintro e w8 ⟨n', rfl, hn3, hn', hr8, t8⟩; rw [hb'] at hr8)
          | (at_builtin; refine wp_app (base := w5.heap.size) rfl _ _ _ rfl elB rfl rfl (h00.turn0 t8) hr8 (vbs_one b') (by have := hok.few; unfold maxLen; omega) (by have := hok.few; omega) (by have := (T0 (w5.setCell ⟨wr.heap.size, 0, none⟩ (.int .i64 0)) #[] 5).size; have := t8.size; omega) ?_; intro A9 c9 w9 ho9 t9 hb9; have T9 : Turn wr w9 none := (T7.trans t8).new t9 (fun g hg => by simp [blk] at hg; have := T6.size; omega); simp only [Nat.zero_add, List.nil_append] at ho9 ⊢; have a9 := ((hb6.turn0 (T0 (w5.setCell ⟨wr.heap.size, 0, none⟩ (.int .i64 0)) #[] 5)).turn0 t8).turn t9 (by have := hb5.lt; simp [blk]; omega))
          | (go_at_call 16; refine (hapc (h.d.turn0 T9) (h.b.turn0 T9) h.bR A9 n' c9 w9.heap.size ho9.rd (Nat.le_refl _) (by have := hok.few; omega)).mono ?_; rintro e w10 ⟨rfl, hc10, R10, hp10, hk10, hb10, hn10⟩; have h10 := (h.d.turn0 T9).lg h.b0 hc10 hp10 hk10; have v10 := (h.v.turn0 T9).chg hc10 (fun k => k.elim h.vR fun e => h.bv e.symm); have gl := h.v.lt; have gb := h.b.lt; have a10 := a9.chg hc10 (fun k => k.elim (fun k => by have := h.d.p.lt k; omega) fun e => by omega); have nR : ∀ i, i < wr.heap.size → ¬ R i → ¬ R10 i := fun i h1 h2 h3 => (hk10 i h3).elim h2 (fun h4 => by have := T9.size; omega); have k10 := (h.k.turn0 T9).chg hc10 (fun i hi k => k.elim hi.2.1 hi.2.2.1))
          | (refine wp_ld rfl 36 _ rfl rfl (hb6.alloc _) (Sub.all (acq 0 a.m a.A a.n a.c)) Try.underlying36 rfl szAct15 ?_))
        have s9 := T9.size
        have s10 := hc10.size
        have lm : Lm w w10 g gw g9 R10 D' m s l vs := ⟨h10, hb10, v10, hn10, nR g9 gl h.vR, h.b0, h.v0, h.bv, k10.mono fun i hi => ⟨by have := hi.1; omega, nR i hi.1 hi.2.1, hi.2.2.1, hi.2.2.2⟩⟩
        refine ⟨⟨j + 1, R10, D', m, s, l, vs, by omega, by omega, by go_num, lm, HM'⟩, ?_⟩
        simp [intOf]; omega
    · have hcase : ¬ (j : Int) < n ∨ ((j : Int) < n ∧ ¬ (j : Int) < 40) := by omega
      have hlen : m.l.length ≤ 140737488355328 := by have := HM.out.2.2.l; omega
      have hop : Calls Try.prog 13 #[.pointer (some ⟨g, 0, none⟩)] wr (OpYes R g m.kp D wr) := (open_any h.d.p (full_len HM.out.2.1 HM.out.2.2 (by omega) 0) (full_len HM.out.2.1 HM.out.2.2 (by omega) 1)).mono fun e w' k => op_yes (open_syn HM.out.1 HM.out.2.2.ok HM.out.2.1) k
      have his := isk_self m
      rcases hcase with q | ⟨q, q2⟩
      all_goals
        go_wp2_with (first
          | (go_at_call 13; refine hop.mono ?_; rintro e w5 ⟨gv, s5, x5, vs5, Q5, R5, rfl, hc5, hp5, hk5, hq5, hb5, hd5, hnq5, hN5⟩; have h5 := h.d.stp2 hc5 hp5 hk5; have v5 := h.v.chg hc5 h.vR; have k5 := h.k.chg hc5 (fun i hi => hi.2.1))
          | (refine wp_st (xs := kpc m.kp s5 x5) rfl 46 _ _ rfl rfl rfl (Blk.new w5 _ _) rfl szKp (ones4 rfl rfl rfl rfl) ?_; intro w6 hb6 ht6; have t6 := (T0 w5 _ _).new ht6 (by simp); have v6 := v5.turn0 t6)
          | (refine gd_ld (by rfl) 51 _ rfl rfl v6 (Sub.all _) Try.underlying51 rfl szMd ?_)
          | (refine gd_ld (by rfl) 46 _ rfl rfl hb6 (Sub.all _) Try.underlying46 rfl szKp ?_)
          | (go_at_call 22; refine (is_any (k5.turn0 t6) (hq5.turn0 t6) hlen).mono ?_; rintro e w7 ⟨rfl, t7⟩; rw [his])
          | (go_at_call 12; refine (qlives_any _).mono ?_; rintro e w9 ⟨rfl, t9⟩))
        go_ret
        exact ⟨rfl, (((h5.turn0 t6).turn0 t7).tw).trans t9⟩
end Go.Proofs.Ytjekglnbmccnjaa
