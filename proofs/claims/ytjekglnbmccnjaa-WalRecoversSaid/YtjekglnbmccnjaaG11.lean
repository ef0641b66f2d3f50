import Derived.Test.YtjekglnbmccnjaaG10
import Derived.Test.YtjekglnbmccnjaaG4
import Derived.Test.YtjekglnbmccnjaaG2
set_option linter.unusedSimpArgs false
set_option linter.unusedVariables false
set_option linter.unusedSectionVars false
/-
  Layer 5: what the document's own Same does.
-/
namespace Go.Proofs.Ytjekglnbmccnjaa
set_option linter.unusedSimpArgs false
set_option linter.unusedVariables false
open Go.RowKit

theorem txt_beq (l m : List UInt8) : ((txt l).toList == (txt m).toList) = (l == m) := by rw [txt_eq, txt_eq]
theorem take_eq_next {α : Type} {l m : List α} {j : Nat} {x y : α} (h : l.take j = m.take j) (hx : l[j]? = some x) (hy : m[j]? = some y) : l.take (j + 1) = m.take (j + 1) ↔ x = y := by
  rw [List.take_add_one, List.take_add_one, hx, hy, h]
  simp

set_option maxRecDepth 100000 in
set_option maxHeartbeats 800000 in
theorem same_any (A : Option Addr) (n c : Nat) (vs : List Value) (rows : List (List UInt8)) (A2 : Option Addr) (n2 c2 : Nat) (us : List Value) (rows2 : List (List UInt8)) (B : Nat) (w : World) (hr : Rw w B A n vs rows) (hr2 : Rw w B A2 n2 us rows2) (hB : B ≤ w.heap.size) (hn : n ≤ 140737488355328) :
    Calls Try.prog 40 #[.slice A n c, .slice A2 n2 c2] w fun e w' => e = .returned (.bool (decide (rows = rows2))) ∧ Turn w w' none := by
  have hl := hr.len
  have hl2 := hr2.len
  by_cases hnn : n = n2
  · subst hnn
    go_enter Try.func40, Try.ntmps40
    go_wp2
    go_loopw [5] (fun i wr => ∃ j : Nat, j ≤ n ∧ i = .int .i64 (j : Int) ∧ Turn w wr none ∧ rows.take j = rows2.take j) (fun i _ => (n - intOf i).toNat)
    case atStart => exact ⟨0, by omega, rfl, Turn.refl w none, rfl⟩
    case round =>
      obtain ⟨j, hj, rfl, htr, htk⟩ := hrel
      have hw := hr.turn0 htr hB
      have hw2 := hr2.turn0 htr hB
      by_cases hjn : j < n
      · obtain ⟨x, hx⟩ : ∃ x, rows[j]? = some x := ⟨rows[j]'(by omega), List.getElem?_eq_getElem (by omega)⟩
        obtain ⟨y, hy⟩ : ∃ y, rows2[j]? = some y := ⟨rows2[j]'(by omega), List.getElem?_eq_getElem (by omega)⟩
        obtain ⟨a, m, k, hv, hrx, hmk, hk⟩ := hw.2.2 j x hx
        obtain ⟨a2, m2, k2, hv2, hry, hmk2, hk2⟩ := hw2.2.2 j y hy
        obtain ⟨b0, off, rfl, _, hcells⟩ := hw.1.head (by omega)
        obtain ⟨b2, off2, rfl, _, hcells2⟩ := hw2.1.head (by omega)
        have hcell := hcells j _ hv
        have hcell2 := hcells2 j _ hv2
        have hnx := hid (take_eq_next htk hx hy)
        have s1 := fun q => str_run (wr.drewN q) (c := k) (hrx.drewN q)
        have s2 := fun q => str_run (wr.drewN q) (c := k2) (hry.drewN q)
        have s3 := str_run wr.drew (c := k) hrx.drew
        have s4 := str_run wr.drew (c := k2) hry.drew
        clear hcells hcells2 htk hx hy
        by_cases hxy : x = y
        · have hb : ((txt x).toList == (txt y).toList) = true := by rw [txt_beq]; simpa using hxy
          have hj1 := hid (hnx.out.2 hxy)
          clear hxy
          go_wp2_with (fail)
          go_quiet (fail)
          go_wp2
          refine ⟨⟨j + 1, by omega, by go_num, htr.drewN _, hj1.out⟩, ?_⟩
          simp [intOf]; omega
        · have hb : ((txt x).toList == (txt y).toList) = false := by rw [txt_beq]; simpa using hxy
          have HD := hid (show decide (rows = rows2) = false from decide_eq_false (fun e => hxy (hnx.out.1 (by rw [e]))))
          clear hxy
          go_wp2_with (fail)
          go_quiet (fail)
          go_wp2
          go_ret
          exact ⟨by rw [HD.out]; rfl, htr.drewN _⟩
      · have HD := hid (show decide (rows = rows2) = true from decide_eq_true (by rwa [List.take_of_length_le (by omega), List.take_of_length_le (by omega)] at htk))
        go_wp2
        go_ret
        exact ⟨by rw [HD.out]; rfl, htr⟩
  · have hnb : ((n : Int) == (n2 : Int)) = false := by rw [beq_eq_false_iff_ne]; omega
    have hd : decide (rows = rows2) = false := decide_eq_false (fun e => hnn (by rw [← hl, ← hl2, e]))
    have HD := hid hd
    clear hd
    go_enter Try.func40, Try.ntmps40
    go_wp2
    go_ret
    exact ⟨by rw [HD.out]; rfl, Turn.refl w none⟩
end Go.Proofs.Ytjekglnbmccnjaa
/-
  Layer 15: the code's numbered, replace, Append, Snap, Next (contracts).
-/
namespace Go.Proofs.Ytjekglnbmccnjaa
set_option linter.unusedSimpArgs false
set_option linter.unusedVariables false
open Go.RowKit

/-- A log in memory: its disk at g, its next number. -/
def wlc (g : Nat) (n : Nat) : List Value := [.pointer (some ⟨g, 0, none⟩), .int .u64 (n : Int)]
theorem pErr_wFr {n : Nat} (b : List UInt8) : (4611686018427387904 ≤ n ∧ pSize n = 0 ∧ pErr n = 1 ∧ wFr n b = ([], 1)) ∨ (n < 4611686018427387904 ∧ pErr n = 0 ∧ wFr n b = fPut [] (wRec n b)) := by
  by_cases h : 4611686018427387904 ≤ n
  · have hz : pSize n = 0 := by rcases pSize_cases n with c | c | c | c | c <;> omega
    exact .inl ⟨h, hz, if_pos hz, if_pos h⟩
  · have hz : pSize n ≠ 0 := by rcases pSize_cases n with c | c | c | c | c <;> omega
    refine .inr ⟨by omega, if_neg hz, ?_⟩
    unfold wFr fPut
    rw [if_neg h, List.nil_append]

set_option maxRecDepth 100000 in
set_option maxHeartbeats 800000 in
theorem numbered_any {w : World} {gw g n : Nat} (hb : Blk w gw 81 (wlc g n).toArray) (hn : n ≤ 9223372036854775807) (A : Option Addr) (m c B : Nat) (b : List UInt8) (hr : Rd w B 1 A m (vbs b)) (hB : B ≤ w.heap.size) (hm : m ≤ 140737488351232) :
    Calls Try.prog 34 #[.pointer (some ⟨gw, 0, none⟩), .slice A m c] w fun e w' => ∃ A' c',
      e = .returned (.tuple #[.slice A' (wFr n b).1.length c', .int .i64 ((wFr n b).2 : Nat)]) ∧ Own w' w.heap.size 5 1 A' (wFr n b).1.length c' (vbs (wFr n b).1) ∧ Turn w w' none := by
  have hl := hr.len
  rw [vbs_len] at hl
  have c0 := hb.ats (j := 0) (v := .pointer (some ⟨g, 0, none⟩)) rfl
  have c1 := hb.ats (j := 1) (v := .int .u64 (n : Int)) rfl
  have hnil : Rd w w.heap.size 1 none 0 (vbs []) := Rd.none_ w _ 1 0
  rcases pErr_wFr (n := n) b with ⟨h1, hz, h2, h3⟩ | ⟨h1, h2, h3⟩
  · have H3 := hid h3
    have H2 := hid h2
    clear h3 h2 hl
    go_enter Try.func34, Try.ntmps34
    go_wp2_with (first
      | (go_at_call 50; refine (put_any _ _ _ _ [] _ _ hnil (Nat.le_refl _) (by omega) (by omega) (by omega)).mono ?_; rintro e w1 ⟨A1, c1, rfl, ho1, ht1⟩; rw [Int.toNat_natCast, H2.out]))
    go_ret2
    exact ⟨none, 0, by rw [H3.out]; rfl, by rw [H3.out]; exact Own.nil _ _ _ _, ht1⟩
  · have H3 := hid h3
    have H2 := hid h2
    have hL := hid hl
    have h8 := pSize_le n
    clear h3 h2 hl
    go_enter Try.func34, Try.ntmps34
    go_wp2_with (first
      | (go_at_call 50; refine (put_any _ _ _ _ [] _ _ hnil (Nat.le_refl _) (by omega) (by omega) (by omega)).mono ?_; rintro e w1 ⟨A1, c1, rfl, ho1, ht1⟩; rw [Int.toNat_natCast, H2.out]; simp only [Int.toNat_natCast, List.nil_append, Nat.zero_add] at ho1 ⊢; have hr1 := hr.turn0 ht1 hB)
      | (at_builtin; refine wp_app rfl _ _ _ rfl elB rfl rfl ho1 hr1 (vbs_one b) (by unfold maxLen; omega) (by omega) ht1.size ?_; intro A2 c2 w2 ho2 ht2 hb2)
      | (go_at_call 51; refine (fput_any _ _ _ [] _ _ _ (wRec n b) w2.heap.size _ (Rd.none_ _ _ 1 0) (by rw [← vbs_append] at ho2; exact ho2.rd) (Nat.le_refl _) (by simp [maxLen]) ho2.cap (by omega) (by omega)).mono ?_; rintro e w3 ⟨A3, c3, rfl, ho3, ht3⟩))
    go_ret2
    have T2 : Turn w w2 none := ht1.new ht2 fun g hg => (ho1.block g hg).1
    exact ⟨A3, c3, by rw [H3.out]; rfl, by rw [H3.out]; exact ho3.mono T2.size, T2.trans ht3⟩

theorem next_any {w : World} {gw g n : Nat} (hb : Blk w gw 81 (wlc g n).toArray) :
    Calls Try.prog 25 #[.pointer (some ⟨gw, 0, none⟩)] w fun e w' => e = .returned (.int .u64 (n : Int)) ∧ w = w' := by
  have c1 := hb.ats (j := 1) (v := .int .u64 (n : Int)) rfl
  go_enter Try.func25, Try.ntmps25
  go_wp2
  go_ret
  exact ⟨rfl, rfl⟩

theorem Stp.trans {w w1 w2 : World} {R : Nat → Prop} {g : Nat} {D2 : Dsk} (hc : Chg w w1 R) {R1 : Nat → Prop} (hk : ∀ k, R1 k → R k ∨ w.heap.size ≤ k) (s : Stp w1 w2 R1 g D2) : Stp w w2 R g D2 := by
  obtain ⟨hc2, R2, hp2, hk2⟩ := s
  have := hc.size
  exact ⟨hc.trans hc2 hk, R2, hp2, fun k h => (hk2 k h).elim (hk k) fun h => .inr (by omega)⟩
theorem Stp.pre {w w1 w2 : World} {R : Nat → Prop} {g : Nat} {D2 : Dsk} (ht : Turn w w1 none) (s : Stp w1 w2 R g D2) : Stp w w2 R g D2 := by
  obtain ⟨hc2, R2, hp2, hk2⟩ := s
  have := ht.size
  exact ⟨(Chg.of0 ht R).trans hc2 fun i h => .inl h, R2, hp2, fun k h => (hk2 k h).imp id fun h => by omega⟩
theorem Pk.turn0 {w w' : World} {g : Nat} {R : Nat → Prop} {D : Dsk} (h : Pk w g R D) (ht : Turn w w' none) : Pk w' g R D := h.chg (T := fun _ => False) (Chg.of0 ht _) fun _ _ h => h

theorem wE_cases (D : Dsk) (n : Int) (b : List UInt8) : D.wErr n b = 0 ∨ D.wErr n b = 8 ∨ D.wErr n b = 140 ∨ D.wErr n b = 1 := by
  unfold Dsk.wErr
  rcases cErr_cases D n with ⟨h, _⟩ | h | h
  · rw [h, if_pos rfl]; split <;> simp
  · rw [h]; simp
  · rw [h]; simp
theorem rE_cases (D : Dsk) (n : Int) (b : List UInt8) : D.rErr n b = 0 ∨ D.rErr n b = 8 ∨ D.rErr n b = 140 ∨ D.rErr n b = 1 := by
  unfold Dsk.rErr
  rcases cErr_cases D n with ⟨h, _⟩ | h | h
  · rw [h, if_pos rfl]; split <;> simp
  · rw [h]; simp
  · rw [h]; simp

set_option maxRecDepth 100000 in
set_option maxHeartbeats 800000 in
theorem wreplace_any {w : World} {g : Nat} {R : Nat → Prop} {D : Dsk} (h : Pk w g R D) (i : Int) (A : Option Addr) (m c B : Nat) (b : List UInt8) (hr : Rd w B 1 A m (vbs b)) (hB : B ≤ w.heap.size) (hm : m ≤ 140737488355328) (hA : ∀ k, blk A = some k → 0 < m → ¬ R k) :
    Calls Try.prog 37 #[.pointer (some ⟨g, 0, none⟩), .int .i64 i, .slice A m c] w fun e w' => e = .returned (.int .i64 (D.rpS i b).1) ∧ Stp w w' R g (D.rpS i b).2 := by
  unfold Dsk.rpS
  have hcl := replace_any h i A m c B b hr hB hm hA
  by_cases he : D.rErr i b = 0
  · rw [he] at hcl
    rw [if_neg (by rw [he]; simp)]
    go_enter Try.func37, Try.ntmps37
    go_wp2_with (first
      | (go_at_call 54; refine hcl.mono ?_; rintro e w1 ⟨rfl, hc1, R1, h1, hk1⟩)
      | (go_at_call 36; refine (sync_any h1 i).mono ?_; rintro e w2 ⟨rfl, s2⟩))
    go_ret
    exact ⟨rfl, Stp.trans hc1 hk1 s2⟩
  · rw [if_pos he]
    obtain ⟨E, hE⟩ : ∃ E, D.rErr i b = E := ⟨_, rfl⟩
    rw [hE] at he hcl
    rw [hE]
    have hne : (E == 0) = false := by rw [beq_eq_false_iff_ne]; exact he
    clear hE he
    go_enter Try.func37, Try.ntmps37
    go_wp2_with (first
      | (go_at_call 54; refine hcl.mono ?_; rintro e w1 ⟨rfl, s1⟩))
    go_ret
    exact ⟨rfl, s1⟩
end Go.Proofs.Ytjekglnbmccnjaa
/-
  Layer 15: the code's takeSnap (contract); what is kept, in memory.
-/
namespace Go.Proofs.Ytjekglnbmccnjaa
set_option linter.unusedSimpArgs false
set_option linter.unusedVariables false
open Go.RowKit

def kp0 : Kp := ⟨false, [], [], 0⟩
/-- What is kept, as cells. -/
def kpc (k : Kp) (s r : Sl) : List Value := [.bool k.has, s.v, r.v, .int .u64 (k.next : Int)]
theorem szKp {a b c d : Value} : (Try.prog.info? 46).map (·.size) = some ([a, b, c, d] : List Value).length := by kernel_rfl
theorem bdK0 : Try.prog.built 46 [] = some ([.bool false, .slice none 0 0, .slice none 0 0, .int .u64 0] : List Value).toArray := by kernel_rfl
theorem bdK1 {A : Option Addr} {n c : Nat} {N : Int} : Try.prog.built 46 [(0, .bool true), (1, .slice A n c), (3, .int .u64 N)] = some ([.bool true, .slice A n c, .slice none 0 0, .int .u64 N] : List Value).toArray := by kernel_rfl
theorem zK : ∀ w, (zeroValue 46).run Try.prog w = .ok (.agg ([.bool false, .slice none 0 0, .slice none 0 0, .int .u64 0] : List Value).toArray) w := zero_at (by kernel_rfl)
theorem ones4 {x y z u : Value} (h1 : x.oneCell' = true) (h2 : y.oneCell' = true) (h3 : z.oneCell' = true) (h4 : u.oneCell' = true) : ∀ v ∈ ([x, y, z, u] : List Value), v.oneCell' = true := ones_cons h1 (ones_cons h2 (ones_cons h3 (ones_cons h4 ones_nil)))

/-- What takeSnap leaves. -/
def SnPost (l : List UInt8) (w : World) (e : Ending) (w' : World) : Prop :=
  (wSnapOf l = none ∧ e = .returned (.tuple #[.agg ([.bool false, .slice none 0 0, .slice none 0 0, .int .u64 0] : List Value).toArray, .int .i64 4]) ∧ Turn w w' none) ∨
  (∃ h s N, wSnapOf l = some (h, s, N) ∧ ∃ A n c, e = .returned (.tuple #[.agg ([.bool h, .slice A n c, .slice none 0 0, .int .u64 (N : Int)] : List Value).toArray, .int .i64 0]) ∧ Own w' w.heap.size 5 1 A n c (vbs s) ∧ Turn w w' none)
theorem snap_no {l : List UInt8} {w w' : World} (h : wSnapOf l = none) (ht : Turn w w' none) : SnPost l w (.returned (.tuple #[.agg ([.bool false, .slice none 0 0, .slice none 0 0, .int .u64 0] : List Value).toArray, .int .i64 4])) w' := .inl ⟨h, rfl, ht⟩

set_option maxRecDepth 100000 in
set_option maxHeartbeats 1600000 in
theorem takeSnap_any (A : Option Addr) (n c : Nat) (l : List UInt8) (B : Nat) (w : World) (hr : Rd w B 1 A n (vbs l)) (hB : B ≤ w.heap.size) (hnc : n ≤ c) (hc : c ≤ maxLen) (hn : n ≤ 140737488351232) :
    Calls Try.prog 48 #[.slice A n c] w (SnPost l w) := by
  have hl := hr.len
  rw [vbs_len] at hl
  have al : ∀ (w : World) (cs : Array Value) (t : TypeId), (w.alloc (.cells cs t)).heap.size = w.heap.size + 1 := fun w cs t => Array.size_push ..
  have T0 : ∀ cs t, Turn w (w.alloc (.cells cs t)) none := fun cs t => (Turn.refl w none).alloc _
  by_cases h0 : n = 0
  · have hnil : l = [] := List.eq_nil_of_length_eq_zero (by omega)
    have H := hid (show wSnapOf l = some (false, [], 0) from if_pos hnil)
    subst h0
    go_enter Try.func48, Try.ntmps48
    go_wp2_with (first
      | (refine wp_bd rfl 46 _ rfl _ rfl _ bdK0 ?_)
      | (refine wp_st (xs := [.bool false, .slice none 0 0, .slice none 0 0, .int .u64 0]) rfl 46 _ _ rfl rfl rfl (Blk.new w _ _) rfl szKp (ones4 rfl rfl rfl rfl) ?_; intro w3 hb3 ht3))
    refine ret_ct rfl rfl rfl rfl hb3 Try.underlying46 rfl szKp ?_
    exact .inr ⟨_, _, _, H.out, none, 0, 0, rfl, Own.nil _ _ _ _, (T0 _ _).new ht3 (by simp)⟩
  · have hne : l ≠ [] := fun e => h0 (by rw [← hl, e]; rfl)
    have hlen0 : ((n : Int) == 0) = false := by rw [beq_eq_false_iff_ne]; omega
    obtain ⟨x, k, e0, hp⟩ : ∃ x k e0, fTake l = (x, k, e0) := ⟨_, _, _, rfl⟩
    have hpost : ∀ {w : World} {e : Ending} {w' : World}, TkPost2 l w e w' → ∃ X m1 c1 R m2 c2, e = .returned (.tuple #[.slice X m1 c1, .slice R m2 c2, .int .i64 (e0 : Int)]) ∧ Rd w' w'.heap.size 1 X m1 (vbs x) ∧ Rd w' w'.heap.size 1 R m2 (vbs (fRest l)) ∧ Turn w w' none ∧ m1 ≤ c1 ∧ c1 ≤ maxLen := by
      rintro w e w' ⟨X, m1, c1, R, m2, c2, h1, h2, h3, h4⟩
      rw [hp] at h1 h2
      exact ⟨X, m1, c1, R, m2, c2, h1, h2, h3, h4⟩
    have hun : wSnapOf l = if e0 ≠ 0 ∨ k ≠ l.length ∨ (pTake x).2.2 ≠ 0 then none else some (true, x.drop (pTake x).2.1, (pTake x).1) := by
      unfold wSnapOf
      rw [if_neg hne, hp]
    have hrA := fun cs t => hr.turn0 (T0 cs t) hB
    have hBA : ∀ cs t, B ≤ (w.alloc (.cells cs t)).heap.size := fun cs t => by rw [al]; omega
    by_cases he : e0 = 0
    · subst he
      obtain ⟨h5, hkn, hxk, hx⟩ := fTake_ok hp
      have hrest : fRest l = l.drop k := by unfold fRest; rw [hp]; rfl
      rw [hrest] at hpost
      by_cases hk : k = l.length
      · have hdrop : l.drop k = [] := List.drop_of_length_le (by omega)
        rw [hdrop] at hpost
        obtain ⟨N, kk, e2, hq⟩ : ∃ N kk e2, pTake x = (N, kk, e2) := ⟨_, _, _, rfl⟩
        by_cases he2 : e2 = 0
        · subst he2
          have H := hid (show wSnapOf l = some (true, pRest x, N) by
            rw [hun, if_neg (by rw [hq]; simp [hk]), hq]
            unfold pRest
            rw [hq]; rfl)
          have HQ := hid hq
          clear hun hp hk hdrop hrest hxk hq hne
          go_enter Try.func48, Try.ntmps48
          go_wp2_with (first
            | (refine wp_bd rfl 46 _ rfl _ rfl _ bdK1 ?_)
            | (go_at_call 62; refine (ftake_any2 _ _ _ l B _ (hrA _ _) (hBA _ _) hnc hc (by omega)).mono ?_; intro e w1 hC; obtain ⟨X, m1, c1, R, m2, c2, rfl, hX, hR, t1, hm1, hc1⟩ := hpost hC; have hml := hX.len; rw [vbs_len] at hml; have hm2 := hR.len; rw [vbs_len] at hm2; have e2 : m2 = 0 := hm2.symm; subst e2)
            | (go_at_call 63; refine (take_any _ _ _ x w1.heap.size _ hX (Nat.le_refl _) hm1 hc1 (by omega)).mono ?_; rintro e w2 ⟨S, m3, c3, rfl, ho2, t2⟩; rw [HQ.out])
            | (refine wp_st (xs := [.bool true, .slice S m3 c3, .slice none 0 0, .int .u64 (N : Int)]) rfl 46 _ _ rfl rfl rfl (((Blk.new w _ _).turn0 t1).turn0 t2) rfl szKp (ones4 rfl rfl rfl rfl) ?_; intro w3 hb3 ht3))
          refine ret_ct rfl rfl rfl rfl hb3 Try.underlying46 rfl szKp ?_
          have T2 := ((T0 _ _).trans t1).trans t2
          have s1 := ((T0 _ _).trans t1).size
          refine .inr ⟨_, _, _, H.out, S, m3, c3, rfl, (ho2.turn ht3 (.inr fun e => ?_)).mono s1, T2.new ht3 (by simp)⟩
          have := (ho2.block _ e).1
          have s2 := t1.size
          rw [al] at s2
          omega
        · have H := hid (show wSnapOf l = none by rw [hun, if_pos (.inr (.inr (by rw [hq]; exact he2)))])
          have he3 : ((e2 : Int) == 0) = false := by rw [beq_eq_false_iff_ne]; omega
          have HQ := hid hq
          clear hun hp hk hdrop hrest hxk hq hne
          go_enter Try.func48, Try.ntmps48
          go_wp2_with (first
            | (refine wp_bd rfl 46 _ rfl _ rfl _ bdK0 ?_)
            | (go_at_call 62; refine (ftake_any2 _ _ _ l B _ (hrA _ _) (hBA _ _) hnc hc (by omega)).mono ?_; intro e w1 hC; obtain ⟨X, m1, c1, R, m2, c2, rfl, hX, hR, t1, hm1, hc1⟩ := hpost hC; have hml := hX.len; rw [vbs_len] at hml; have hm2 := hR.len; rw [vbs_len] at hm2; have e2 : m2 = 0 := hm2.symm; subst e2)
            | (go_at_call 63; refine (take_any _ _ _ x w1.heap.size _ hX (Nat.le_refl _) hm1 hc1 (by omega)).mono ?_; rintro e w2 ⟨S, m3, c3, rfl, ho2, t2⟩; rw [HQ.out])
            | (refine wp_st (xs := [.bool false, .slice none 0 0, .slice none 0 0, .int .u64 0]) rfl 46 _ _ rfl rfl rfl (((Blk.new w _ _).turn0 t1).turn0 t2) rfl szKp (ones4 rfl rfl rfl rfl) ?_; intro w3 hb3 ht3))
          refine ret_ct rfl rfl rfl rfl hb3 Try.underlying46 rfl szKp ?_
          exact snap_no H.out ((((T0 _ _).trans t1).trans t2).new ht3 (by simp))
      · have H := hid (show wSnapOf l = none by rw [hun, if_pos (.inr (.inl hk))])
        have hd : 0 < (l.drop k).length := by rw [List.length_drop]; omega
        clear hun hp hk hrest hxk hne
        go_enter Try.func48, Try.ntmps48
        go_wp2_with (first
          | (refine wp_bd rfl 46 _ rfl _ rfl _ bdK0 ?_)
          | (go_at_call 62; refine (ftake_any2 _ _ _ l B _ (hrA _ _) (hBA _ _) hnc hc (by omega)).mono ?_; intro e w1 hC; obtain ⟨X, m1, c1, R, m2, c2, rfl, hX, hR, t1, hm1, hc1⟩ := hpost hC; have hm2 := hR.len; rw [vbs_len] at hm2; have hm2 : 0 < m2 := by omega)
          | (refine wp_st (xs := [.bool false, .slice none 0 0, .slice none 0 0, .int .u64 0]) rfl 46 _ _ rfl rfl rfl ((Blk.new w _ _).turn0 t1) rfl szKp (ones4 rfl rfl rfl rfl) ?_; intro w3 hb3 ht3))
        refine ret_ct rfl rfl rfl rfl hb3 Try.underlying46 rfl szKp ?_
        exact snap_no H.out (((T0 _ _).trans t1).new ht3 (by simp))
    · have H := hid (show wSnapOf l = none by rw [hun, if_pos (.inl he)])
      have he3 : ((e0 : Int) == 0) = false := by rw [beq_eq_false_iff_ne]; omega
      clear hun hp hne
      go_enter Try.func48, Try.ntmps48
      go_wp2_with (first
        | (refine wp_bd rfl 46 _ rfl _ rfl _ bdK0 ?_)
        | (go_at_call 62; refine (ftake_any2 _ _ _ l B _ (hrA _ _) (hBA _ _) hnc hc (by omega)).mono ?_; intro e w1 hC; obtain ⟨X, m1, c1, R, m2, c2, rfl, hX, hR, t1, hm1, hc1⟩ := hpost hC)
        | (refine wp_st (xs := [.bool false, .slice none 0 0, .slice none 0 0, .int .u64 0]) rfl 46 _ _ rfl rfl rfl ((Blk.new w _ _).turn0 t1) rfl szKp (ones4 rfl rfl rfl rfl) ?_; intro w3 hb3 ht3))
      refine ret_ct rfl rfl rfl rfl hb3 Try.underlying46 rfl szKp ?_
      exact snap_no H.out (((T0 _ _).trans t1).new ht3 (by simp))
end Go.Proofs.Ytjekglnbmccnjaa
/-
  Layer 15: the code's takeLog (contract).
-/
namespace Go.Proofs.Ytjekglnbmccnjaa
set_option linter.unusedSimpArgs false
set_option linter.unusedVariables false
open Go.RowKit

/-- Slice values whose blocks were made since some world. -/
def Fr (base : Nat) (vs : List Value) : Prop := ∀ v ∈ vs, ∀ a m k, v = .slice a m k → ∀ j, blk a = some j → base ≤ j
theorem Fr.nil (base : Nat) : Fr base [] := fun v h => by cases h
theorem Fr.snoc {base : Nat} {vs : List Value} {a : Option Addr} {m k : Nat} (h : Fr base vs) (ha : ∀ j, blk a = some j → base ≤ j) : Fr base (vs ++ [.slice a m k]) := fun v hv b m2 k2 e => by
  rcases List.mem_append.1 hv with hv | hv
  · exact h v hv b m2 k2 e
  · rw [List.mem_singleton] at hv
    rw [hv] at e
    injection e with e1
    subst e1
    exact ha
/-- How far the records are taken. -/
def TgAt (first : Nat) (rows recs : List (List UInt8)) (j en : Nat) : Prop := tkGo first rows [] 0 = tkGo first (rows.drop j) recs en ∧ en ≤ j * 1048600 ∧ recs.length ≤ j
theorem TgAt.zero (first : Nat) (rows : List (List UInt8)) : TgAt first rows [] 0 0 := ⟨rfl, by simp, by simp⟩
theorem drop_cons {α : Type} {l : List α} {j : Nat} {x : α} (h : l[j]? = some x) : l.drop j = x :: l.drop (j + 1) := by
  obtain ⟨hlt, rfl⟩ := List.getElem?_eq_some_iff.1 h
  exact List.drop_eq_getElem_cons hlt
section
variable {first j en : Nat} {rows recs : List (List UInt8)} {x : List UInt8}
theorem TgAt.stop (h : TgAt first rows recs j en) (hx : rows[j]? = some x) (hp : (pTake x).2.2 ≠ 0 ∨ (¬ ((pTake x).1 < first ∧ recs = []) ∧ (pTake x).1 ≠ first + recs.length)) : tkGo first rows [] 0 = (recs, en) := by
  rw [h.1, drop_cons hx, tkGo]
  by_cases h0 : (pTake x).2.2 = 0
  · obtain ⟨h1, h2⟩ := hp.resolve_left (fun c => c h0)
    rw [if_neg (show ¬ (pTake x).2.2 ≠ 0 from fun c => c h0), if_neg h1, if_neg h2]
  · rw [if_pos h0]
theorem TgAt.whole (h : TgAt first rows recs j en) (hj : rows.length ≤ j) : tkGo first rows [] 0 = (recs, en) := by
  rw [h.1, List.drop_of_length_le hj, tkGo]
theorem TgAt.old (h : TgAt first rows recs j en) (hx : rows[j]? = some x) (hp : (pTake x).2.2 = 0) (ho : (pTake x).1 < first ∧ recs = []) (hm : x.length ≤ 1048576) : TgAt first rows recs (j + 1) (en + fSize x.length) := by
  obtain ⟨h1, h2, h3⟩ := h
  refine ⟨?_, ?_, by omega⟩
  · rw [h1, drop_cons hx, tkGo, if_neg (show ¬ (pTake x).2.2 ≠ 0 from fun c => c hp), if_pos ho]
  · unfold fSize
    have := pSize_le x.length
    omega
theorem TgAt.next (h : TgAt first rows recs j en) (hx : rows[j]? = some x) (hp : (pTake x).2.2 = 0) (ho : ¬ ((pTake x).1 < first ∧ recs = [])) (hn : (pTake x).1 = first + recs.length) (hm : x.length ≤ 1048576) : TgAt first rows (recs ++ [pRest x]) (j + 1) (en + fSize x.length) := by
  obtain ⟨h1, h2, h3⟩ := h
  refine ⟨?_, ?_, by rw [List.length_append, List.length_singleton]; omega⟩
  · rw [h1, drop_cons hx, tkGo, if_neg (show ¬ (pTake x).2.2 ≠ 0 from fun c => c hp), if_neg ho, if_pos hn]
  · unfold fSize
    have := pSize_le x.length
    omega
end
/-- What takeLog leaves. -/
def TlPost (first : Nat) (l : List UInt8) (w : World) (e : Ending) (w' : World) : Prop :=
  ∃ A n c vs, e = .returned (.tuple #[.slice A n c, .int .i64 ((wGo l.length first [] first l).2.2 : Nat)]) ∧ Ow w' w.heap.size 34 A n c vs (wGo l.length first [] first l).1 ∧ Fr w.heap.size vs ∧ Turn w w' none

set_option maxRecDepth 100000 in
set_option maxHeartbeats 1600000 in
theorem takeLog_any (A : Option Addr) (n c : Nat) (l : List UInt8) (first B : Nat) (w : World) (hr : Rd w B 1 A n (vbs l)) (hB : B ≤ w.heap.size) (hn : n ≤ 1099511627776) (hf : first ≤ 4611686018427387904) :
    Calls Try.prog 49 #[.slice A n c, .int .u64 (first : Int)] w (TlPost first l w) := by
  have hl := hr.len
  rw [vbs_len] at hl
  obtain ⟨hrows, hcount⟩ := fScan_rows l.length l (Nat.le_refl _)
  have hT := (takeLog_is first l).1
  have fin : ∀ (recs : List (List UInt8)) (en : Nat) (wr : World) (A2 : Option Addr) (n2 c2 : Nat) (vs : List Value), tkGo first (fScan l).1 [] 0 = (recs, en) → Ow wr w.heap.size 34 A2 n2 c2 vs recs → Fr w.heap.size vs → Turn w wr none → TlPost first l w (.returned (.tuple #[.slice A2 n2 c2, .int .i64 (en : Int)])) wr := by
    intro recs en wr A2 n2 c2 vs h1 h2 h3 h4
    rw [hT] at h1
    injection h1 with e1 e2
    unfold TlPost
    rw [e1, e2]
    exact ⟨A2, n2, c2, vs, rfl, h2, h3, h4⟩
  obtain ⟨rows, hrw⟩ : ∃ rows, (fScan l).1 = rows := ⟨_, rfl⟩
  have hsc : ∀ {e : Ending} {w' : World}, ScPost l w e w' → ∃ A' n' c' vs k0 e0, e = .returned (.tuple #[.slice A' n' c', .int .i64 k0, .int .i64 e0]) ∧ Ow w' w.heap.size 34 A' n' c' vs rows ∧ Turn w w' none := by
    rintro e w' ⟨A', n', c', vs, h1, h2, h3⟩
    rw [hrw] at h2
    exact ⟨A', n', c', vs, _, _, h1, h2, h3⟩
  rw [hrw] at hrows hcount fin
  have FIN := hid fin
  have HCN : rows.length ≤ 1099511627776 := by omega
  clear fin hT hcount hrw hl
  go_enter Try.func49, Try.ntmps49
  go_wp2_with (go_at_call 64; refine (fscan_any _ _ _ l B _ hr hB (by omega)).mono ?_; intro e w1 hC; obtain ⟨A1, n1, c1, vs1, k1, e1, rfl, how1, ht1⟩ := hsc hC)
  obtain ⟨hn1, hn2⟩ : n1 ≤ rows.length ∧ rows.length ≤ n1 := by have e : n1 = rows.length := (by rw [← how1.2.1]; exact how1.1.len.symm); omega
  go_loopw [9, 10, 25] (fun v d i wr => ∃ (j : Nat) (A2 : Option Addr) (n2 c2 : Nat) (vs : List Value) (recs : List (List UInt8)) (en : Nat), j ≤ n1 ∧ i = .int .i64 (j : Int) ∧ v = .slice A2 n2 c2 ∧ d = .int .i64 (en : Int) ∧ Ow wr w1.heap.size 34 A2 n2 c2 vs recs ∧ Fr w.heap.size vs ∧ Turn w1 wr none ∧ TgAt first rows recs j en) (fun _ _ i _ => (n1 - intOf i).toNat)
  case atStart => exact ⟨0, none, 0, 0, [], [], 0, by omega, rfl, rfl, rfl, Ow.made (Own.nil _ _ _ _), Fr.nil _, Turn.refl w1 none, TgAt.zero _ _⟩
  case round =>
    obtain ⟨j, A2, n2, c2, vs, recs, en, hj, rfl, rfl, rfl, how, hfr, htr, hat⟩ := hrel
    by_cases hjn : j < n1
    · obtain ⟨x, hx⟩ : ∃ x, rows[j]? = some x := ⟨rows[j]'(by omega), List.getElem?_eq_getElem (by omega)⟩
      have hxm := hrows x (List.mem_of_getElem? hx)
      have hrr := how1.rw_.turn0 htr (Nat.le_refl _)
      obtain ⟨a, m, k, hv, hrx, hmk, hk⟩ := hrr.2.2 j x hx
      obtain ⟨b0, off, rfl, _, hcells⟩ := hrr.1.head (by omega)
      have hcell := hcells j _ hv
      have hml := hrx.len
      rw [vbs_len] at hml
      obtain ⟨N, kk, e2, hq⟩ : ∃ N kk e2, pTake x = (N, kk, e2) := ⟨_, _, _, rfl⟩
      have hrn : n2 = recs.length := by rw [← how.2.1]; exact how.1.len.symm
      have hen := hat.2.1
      have hrj := hat.2.2
      have HZ := hid (show zSize (m : Int) = (fSize x.length : Nat) by unfold zSize; rw [if_pos (by omega), Int.toNat_natCast, hml])
      have hfs : fSize x.length ≤ 1048600 := by unfold fSize; have := pSize_le x.length; omega
      obtain ⟨Z, hZ⟩ : ∃ Z, fSize x.length = Z := ⟨_, rfl⟩
      rw [hZ] at HZ hfs
      have HQ := hid hq
      have stop : ((e2 ≠ 0 ∨ (¬ (N < first ∧ n2 = 0) ∧ N ≠ first + n2))) → tkGo first rows [] 0 = (recs, en) := fun h => hat.stop hx (by
        rw [hq]
        refine h.imp id fun h => ⟨fun c => h.1 ⟨c.1, by rw [hrn, c.2]; rfl⟩, ?_⟩
        rw [← hrn]; exact h.2)
      have hrl := hid how.2.1
      have T1 := ht1.trans htr
      have hmb : m ≤ 1048576 := by omega
      have hnb : n2 ≤ 1099511627776 := by omega
      by_cases he : e2 = 0
      · subst he
        have hN : N < 4611686018427387904 := by
          obtain ⟨q1, q2, _⟩ := pTake_ok hq
          rcases pSize_cases N with q | q | q | q | q <;> omega
        by_cases hold : N < first ∧ n2 = 0
        · obtain ⟨ho1, ho2⟩ := hold
          have hnx := hid (hat.old hx (by rw [hq]) (by rw [hq]; exact ⟨ho1, List.eq_nil_of_length_eq_zero (by omega)⟩) hxm)
          have ho1 : (N : Int) < (first : Int) := by omega
          clear hat hcells stop hrn hx hq hml
          rw [hZ] at hnx
          clear hZ
          subst ho2
          go_wp2_with (first
            | (go_at_call 63; refine (take_any _ _ _ x w1.heap.size _ hrx htr.size hmk hk (by omega)).mono ?_; rintro e w2 ⟨S, m3, c3, rfl, ho3, t2⟩; rw [HQ.out])
            | (go_at_call 65; refine (fsize_any _ _ (by omega) (by omega)).mono ?_; rintro e w' ⟨rfl, rfl⟩; rw [HZ.out]))
          refine ⟨⟨j + 1, A2, 0, c2, vs, recs, en + Z, by omega, by go_num, rfl, by go_num, how.turn0 t2, hfr, htr.trans t2, hnx.out⟩, ?_⟩
          simp [intOf]; omega
        · by_cases hnn : N = first + n2
          · have hge : (first : Int) ≤ (N : Int) := by omega
            have hnx := hid (hat.next hx (by rw [hq]) (by rw [hq]; intro c; exact hold ⟨c.1, by rw [hrn, c.2]; rfl⟩) (by rw [hq, ← hrn]; exact hnn) hxm)
            clear hat hcells stop hrn hx hq hml hold
            rw [hZ] at hnx
            clear hZ
            subst hnn
            go_wp2_with (first
              | (go_at_call 63; refine (take_any _ _ _ x w1.heap.size _ hrx htr.size hmk hk (by omega)).mono ?_; rintro e w2 ⟨S, m3, c3, rfl, ho3, t2⟩; rw [HQ.out])
              | (at_builtin; refine wp_app rfl _ _ _ rfl elR rfl rfl ((how.turn0 t2).1.alloc _) (Rd.lit _ _ _) (by repeat (first | exact ones_nil | refine ones_cons rfl ?_)) (by unfold maxLen; first | omega | (simp; done) | (simp; omega)) (by first | omega | (simp; done) | (simp; omega)) (by have := htr.size; have := t2.size; first | omega | (simp; omega)) ?_; intro A3 c4 w3 ho4 ht4 hb4)
              | (go_at_call 65; refine (fsize_any _ _ (by omega) (by omega)).mono ?_; rintro e w' ⟨rfl, rfl⟩; rw [HZ.out]))
            have hT2 := T1.trans t2
            have hal : (w2.alloc (.cells #[Value.slice S m3 c3] 34)).heap.size = w2.heap.size + 1 := Array.size_push ..
            have hs := ((how.turn0 t2).turn0 ((Turn.refl w2 none).alloc (.cells #[Value.slice S m3 c3] 34))).snoc (l := pRest x) (m := m3) (k := c3) ((ho3.rd.alloc (Nat.le_refl _) _).mono (by omega))
              (fun b hb => by
                have h1 := ho3.block b hb
                exact ⟨by omega, fun e2 => by have := (how.1.block _ e2).2; omega⟩) ho3.cap.1 ho3.cap.2 ho4 ht4 hb4
            refine ⟨⟨j + 1, A3, n2 + 1, c4, _, _, en + Z, by omega, by go_num, rfl, by go_num, hs, hfr.snoc fun b hb => by have := (ho3.block b hb).1; have := T1.size; omega, ((htr.trans t2).alloc _).new ht4 (fun b hb => (how.1.block b hb).1), hnx.out⟩, ?_⟩
            simp [intOf]; omega
          · have ST := hid (stop (.inr ⟨hold, hnn⟩))
            have hnn2 : ((N : Int) == (first : Int) + (n2 : Int)) = false := by rw [beq_eq_false_iff_ne]; omega
            have hq3 : ((N : Int) < (first : Int) ∧ ((n2 : Int) == 0) = false) ∨ (first : Int) ≤ (N : Int) := by
              by_cases c : N < first
              · exact .inl ⟨by omega, by rw [beq_eq_false_iff_ne]; omega⟩
              · exact .inr (by omega)
            clear hat hcells stop hrn hx hq hml hold hZ hnn
            rcases hq3 with ⟨q1, q2⟩ | q1
            all_goals
              go_wp2_with (first
                | (go_at_call 63; refine (take_any _ _ _ x w1.heap.size _ hrx htr.size hmk hk (by omega)).mono ?_; rintro e w2 ⟨S, m3, c3, rfl, ho3, t2⟩; rw [HQ.out]))
              go_ret2
              exact FIN.out _ _ _ _ _ _ _ ST.out ((ow_mono how ht1.size).turn0 t2) hfr (T1.trans t2)
      · have ST := hid (stop (.inl he))
        have he3 : ((e2 : Int) != 0) = true := by rw [bne_iff_ne]; omega
        have he5 : ¬ ((e2 : Int) = 0) := by omega
        have hq3 : ((N : Int) < (first : Int) ∧ n2 = 0) ∨ ((N : Int) < (first : Int) ∧ ((n2 : Int) == 0) = false) ∨ (first : Int) ≤ (N : Int) := by
          by_cases c : N < first
          · by_cases c2 : n2 = 0
            · exact .inl ⟨by omega, c2⟩
            · exact .inr (.inl ⟨by omega, by rw [beq_eq_false_iff_ne]; omega⟩)
          · exact .inr (.inr (by omega))
        clear hat hcells stop hrn hx hq hml hZ he
        rcases hq3 with ⟨q1, rfl⟩ | ⟨q1, q2⟩ | q1
        all_goals
          go_wp2_with (first
            | (go_at_call 63; refine (take_any _ _ _ x w1.heap.size _ hrx htr.size hmk hk (by omega)).mono ?_; rintro e w2 ⟨S, m3, c3, rfl, ho3, t2⟩; rw [HQ.out]))
          go_ret2
          exact FIN.out _ _ _ _ _ _ _ ST.out ((ow_mono how ht1.size).turn0 t2) hfr (T1.trans t2)
    · have ST := hid (hat.whole (by omega))
      clear hat
      go_wp2
      go_ret2
      exact FIN.out _ _ _ _ _ _ _ ST.out (ow_mono how ht1.size) hfr (ht1.trans htr)
end Go.Proofs.Ytjekglnbmccnjaa
/-
  Layer 15: the code's Append, Snap (contracts).
-/
namespace Go.Proofs.Ytjekglnbmccnjaa
set_option linter.unusedSimpArgs false
set_option linter.unusedVariables false
open Go.RowKit

theorem Stp.hold {w w' : World} {R : Nat → Prop} {g : Nat} {D' : Dsk} {gw : Nat} {t : TypeId} {cs : Array Value} (s : Stp w w' R g D') (h : Blk w gw t cs) (hn : ¬ R gw) : Blk w' gw t cs ∧ Chg w w' R ∧ ∃ R', Pk w' g R' D' ∧ (∀ k, R' k → R k ∨ w.heap.size ≤ k) ∧ ¬ R' gw := by
  obtain ⟨hc, R', hp, hk⟩ := s
  exact ⟨h.chg hc hn, hc, R', hp, hk, fun c => (hk gw c).elim hn fun c => by have := h.lt; omega⟩
/-- What a call of a log's leaves: the disk, the next number. -/
def LgPost (R : Nat → Prop) (gw g : Nat) (w : World) (x : Int) (D' : Dsk) (n' : Nat) (e : Ending) (w' : World) : Prop :=
  e = .returned (.int .i64 x) ∧ Chg w w' (fun k => R k ∨ k = gw) ∧ ∃ R', Pk w' g R' D' ∧ (∀ k, R' k → R k ∨ w.heap.size ≤ k) ∧ Blk w' gw 81 (wlc g n').toArray ∧ ¬ R' gw
theorem lg_turn {R : Nat → Prop} {gw g n : Nat} {w w' : World} {D : Dsk} (h : Pk w g R D) (hb : Blk w gw 81 (wlc g n).toArray) (hn : ¬ R gw) (ht : Turn w w' none) (x : Int) : LgPost R gw g w x D n (.returned (.int .i64 x)) w' :=
  ⟨rfl, Chg.of0 ht _, R, h.turn0 ht, fun _ h => .inl h, hb.turn0 ht, hn⟩
theorem lg_stp {R : Nat → Prop} {gw g n : Nat} {w w1 w' : World} {D' : Dsk} (hb : Blk w gw 81 (wlc g n).toArray) (hn : ¬ R gw) (ht : Turn w w1 none) (s : Stp w1 w' R g D') (x : Int) : LgPost R gw g w x D' n (.returned (.int .i64 x)) w' := by
  obtain ⟨h1, h2, R', h3, h4, h5⟩ := s.hold (hb.turn0 ht) hn
  have := ht.size
  exact ⟨rfl, (Chg.of0 ht _).trans h2 fun i h => .inl (.inl h), R', h3, fun k hk => (h4 k hk).imp id fun h => by omega, h1, h5⟩

set_option maxRecDepth 100000 in
set_option maxHeartbeats 1600000 in
theorem append_any {w : World} {g gw n : Nat} {R : Nat → Prop} {D : Dsk} (h : Pk w g R D) (hb : Blk w gw 81 (wlc g n).toArray) (hR : ¬ R gw) (hn : n ≤ 9223372036854775807) (A : Option Addr) (m c B : Nat) (b : List UInt8) (hr : Rd w B 1 A m (vbs b)) (hB : B ≤ w.heap.size) (hm : m ≤ 140737488351232) :
    Calls Try.prog 16 #[.pointer (some ⟨gw, 0, none⟩), .slice A m c] w (LgPost R gw g w (D.apN n b).1 (D.apN n b).2.1 (D.apN n b).2.2) := by
  have hnum := numbered_any hb hn A m c B b hr hB hm
  have c0 := hb.ats (j := 0) (v := .pointer (some ⟨g, 0, none⟩)) rfl
  have c1 := hb.ats (j := 1) (v := .int .u64 (n : Int)) rfl
  have hlen := wFr_len n b
  have hlt := @wFr_lt n b
  unfold Dsk.apN
  obtain ⟨X, E, hX⟩ : ∃ X E, wFr n b = (X, E) := ⟨_, _, rfl⟩
  rw [hX] at hnum hlen hlt ⊢
  have hlen : X.length ≤ 1048600 := hlen
  by_cases hE : E = 0
  · subst hE
    have hlt := hlt rfl
    rw [if_neg (by simp)]
    have hw : ∀ w1 A1 c2, Turn w w1 none → Own w1 w.heap.size 5 1 A1 X.length c2 (vbs X) → Calls Try.prog 35 #[.pointer (some ⟨g, 0, none⟩), .int .i64 0, .slice A1 X.length c2] w1 fun e w' => e = .returned (.int .i64 (D.wErr 0 X)) ∧ Stp w1 w' R g (D.wr 0 X) := fun w1 A1 c2 ht ho =>
      write_any (h.turn0 ht) 0 A1 X.length c2 w1.heap.size X ho.rd (Nat.le_refl _) (by omega) fun k e _ hk => by
        have := (ho.block k e).1
        have := h.lt hk
        omega
    by_cases h1 : D.wErr 0 X = 0
    · rw [if_neg (by simp [h1])]
      rw [h1] at hw
      by_cases h2 : (D.wr 0 X).cErr 0 = 0
      · rw [if_neg (by simp [h2])]
        have hs : ∀ w1 R1, Pk w1 g R1 (D.wr 0 X) → Calls Try.prog 36 #[.pointer (some ⟨g, 0, none⟩), .int .i64 0] w1 fun e w' => e = .returned (.int .i64 0) ∧ Stp w1 w' R1 g ((D.wr 0 X).sy 0) := fun w1 R1 hp => by
          have := sync_any hp 0
          rw [h2] at this
          exact this
        go_enter Try.func16, Try.ntmps16
        go_wp2_with (first
          | (go_at_call 34; refine hnum.mono ?_; rintro e w1 ⟨A1, c2, rfl, ho1, t1⟩; have c0a := (hb.turn0 t1).ats (j := 0) (v := .pointer (some ⟨g, 0, none⟩)) rfl)
          | (go_at_call 35; refine (hw _ _ _ t1 ho1).mono ?_; rintro e w2 ⟨rfl, s2⟩; obtain ⟨hb2, hc2, R2, hp2, hk2, hn2⟩ := s2.hold (hb.turn0 t1) hR; have c0b := hb2.ats (j := 0) (v := .pointer (some ⟨g, 0, none⟩)) rfl)
          | (go_at_call 36; refine (hs _ _ hp2).mono ?_; rintro e w3 ⟨rfl, s3⟩; obtain ⟨hb3, hc3, R3, hp3, hk3, hn3⟩ := s3.hold hb2 hn2; have c1c := hb3.ats (j := 1) (v := .int .u64 (n : Int)) rfl; have f1c := hb3.frozen 1))
        go_ret
        have hb4 : Blk (w3.setCell ⟨gw, 1, none⟩ (.int .u64 ((n : Int) + 1))) gw 81 (wlc g (n + 1)).toArray := hb3.sets 1 _
        have t4 : Turn w3 (w3.setCell ⟨gw, 1, none⟩ (.int .u64 ((n : Int) + 1))) (some gw) := Blk.setTurn _ _ _ _
        have s1 := t1.size
        have s2 := hc2.size
        refine ⟨rfl, (((Chg.of0 t1 _).trans hc2 fun i h => .inl (.inl h)).trans hc3 fun i hi => ?_).trans (Chg.of (S := fun k => k = gw) t4 fun i e => (by injection e with e; exact e.symm)) fun i hi => .inl (.inr hi), R3, hp3.chg (Chg.of (S := fun k => k = gw) t4 fun i e => (by injection e with e; exact e.symm)) (fun k hk e => hn3 (e ▸ hk)), fun k hk => ?_, hb4, hn3⟩
        · exact (hk2 i hi).imp .inl fun h => by omega
        · rcases hk3 k hk with q | q
          · exact (hk2 k q).imp id fun h => by omega
          · exact .inr (by omega)
      · rw [if_pos h2]
        obtain ⟨E2, hE2⟩ : ∃ E2, (D.wr 0 X).cErr 0 = E2 := ⟨_, rfl⟩
        rw [hE2] at h2 ⊢
        have hs : ∀ w1 R1, Pk w1 g R1 (D.wr 0 X) → Calls Try.prog 36 #[.pointer (some ⟨g, 0, none⟩), .int .i64 0] w1 fun e w' => e = .returned (.int .i64 E2) ∧ Stp w1 w' R1 g ((D.wr 0 X).sy 0) := fun w1 R1 hp => by
          have := sync_any hp 0
          rw [hE2] at this
          exact this
        have hne : (E2 == 0) = false := by rw [beq_eq_false_iff_ne]; exact h2
        clear hE2
        go_enter Try.func16, Try.ntmps16
        go_wp2_with (first
          | (go_at_call 34; refine hnum.mono ?_; rintro e w1 ⟨A1, c2, rfl, ho1, t1⟩; have c0a := (hb.turn0 t1).ats (j := 0) (v := .pointer (some ⟨g, 0, none⟩)) rfl)
          | (go_at_call 35; refine (hw _ _ _ t1 ho1).mono ?_; rintro e w2 ⟨rfl, s2⟩; obtain ⟨hb2, hc2, R2, hp2, hk2, hn2⟩ := s2.hold (hb.turn0 t1) hR; have c0b := hb2.ats (j := 0) (v := .pointer (some ⟨g, 0, none⟩)) rfl)
          | (go_at_call 36; refine (hs _ _ hp2).mono ?_; rintro e w3 ⟨rfl, s3⟩))
        go_ret
        exact lg_stp hb hR t1 (Stp.trans hc2 hk2 s3) _
    · rw [if_pos h1]
      obtain ⟨E2, hE2⟩ : ∃ E2, D.wErr 0 X = E2 := ⟨_, rfl⟩
      rw [hE2] at h1 hw ⊢
      have hne : (E2 == 0) = false := by rw [beq_eq_false_iff_ne]; exact h1
      clear hE2
      go_enter Try.func16, Try.ntmps16
      go_wp2_with (first
        | (go_at_call 34; refine hnum.mono ?_; rintro e w1 ⟨A1, c2, rfl, ho1, t1⟩; have c0a := (hb.turn0 t1).ats (j := 0) (v := .pointer (some ⟨g, 0, none⟩)) rfl)
        | (go_at_call 35; refine (hw _ _ _ t1 ho1).mono ?_; rintro e w2 ⟨rfl, s2⟩))
      go_ret
      exact lg_stp hb hR t1 s2 _
  · rw [if_pos hE]
    have hne : ((E : Int) == 0) = false := by rw [beq_eq_false_iff_ne]; omega
    have hne2 : ¬ ((E : Int) = 0) := by omega
    go_enter Try.func16, Try.ntmps16
    go_wp2_with (first
      | (go_at_call 34; refine hnum.mono ?_; rintro e w1 ⟨A1, c2, rfl, ho1, t1⟩))
    go_ret
    exact lg_turn h hb hR t1 _

set_option maxRecDepth 100000 in
set_option maxHeartbeats 1600000 in
theorem snap_any {w : World} {g gw n : Nat} {R : Nat → Prop} {D : Dsk} (h : Pk w g R D) (hb : Blk w gw 81 (wlc g n).toArray) (hR : ¬ R gw) (hn : n ≤ 9223372036854775807) (A : Option Addr) (m c B : Nat) (b : List UInt8) (hr : Rd w B 1 A m (vbs b)) (hB : B ≤ w.heap.size) (hm : m ≤ 140737488351232) :
    Calls Try.prog 18 #[.pointer (some ⟨gw, 0, none⟩), .slice A m c] w (LgPost R gw g w (D.snN n b).1 (D.snN n b).2 n) := by
  have hnum := numbered_any hb hn A m c B b hr hB hm
  have hlen := wFr_len n b
  unfold Dsk.snN
  obtain ⟨X, E, hX⟩ : ∃ X E, wFr n b = (X, E) := ⟨_, _, rfl⟩
  rw [hX] at hnum hlen ⊢
  have hlen : X.length ≤ 1048600 := hlen
  by_cases hE : E = 0
  · subst hE
    rw [if_neg (by simp), snapD_rpS]
    have hw : ∀ w1 A1 c2, Turn w w1 none → Own w1 w.heap.size 5 1 A1 X.length c2 (vbs X) → Calls Try.prog 37 #[.pointer (some ⟨g, 0, none⟩), .int .i64 1, .slice A1 X.length c2] w1 fun e w' => e = .returned (.int .i64 (D.rpS 1 X).1) ∧ Stp w1 w' R g (D.rpS 1 X).2 := fun w1 A1 c2 ht ho =>
      wreplace_any (h.turn0 ht) 1 A1 X.length c2 w1.heap.size X ho.rd (Nat.le_refl _) (by omega) fun k e _ hk => by
        have := (ho.block k e).1
        have := h.lt hk
        omega
    obtain ⟨E1, D1, hD1⟩ : ∃ E1 D1, D.rpS 1 X = (E1, D1) := ⟨_, _, rfl⟩
    rw [hD1] at hw ⊢
    by_cases h1 : E1 = 0
    · subst h1
      rw [if_neg (by simp)]
      have hs : ∀ w1 R1, Pk w1 g R1 D1 → Calls Try.prog 37 #[.pointer (some ⟨g, 0, none⟩), .int .i64 0, .slice none 0 0] w1 fun e w' => e = .returned (.int .i64 (D1.rpS 0 []).1) ∧ Stp w1 w' R1 g (D1.rpS 0 []).2 := fun w1 R1 hp =>
        wreplace_any hp 0 none 0 0 w1.heap.size [] (Rd.none_ _ _ 1 0) (Nat.le_refl _) (by omega) fun k e => by cases e
      go_enter Try.func18, Try.ntmps18
      go_wp2_with (first
        | (go_at_call 34; refine hnum.mono ?_; rintro e w1 ⟨A1, c2, rfl, ho1, t1⟩; have c0a := (hb.turn0 t1).ats (j := 0) (v := .pointer (some ⟨g, 0, none⟩)) rfl)
        | (go_at_call 37; first | (refine (hs _ _ hp2).mono ?_; rintro e w3 ⟨rfl, s3⟩) | (refine (hw _ _ _ t1 ho1).mono ?_; rintro e w2 ⟨rfl, s2⟩; obtain ⟨hb2, hc2, R2, hp2, hk2, hn2⟩ := s2.hold (hb.turn0 t1) hR; have c0b := hb2.ats (j := 0) (v := .pointer (some ⟨g, 0, none⟩)) rfl)))
      go_ret
      exact lg_stp hb hR t1 (Stp.trans hc2 hk2 s3) _
    · rw [if_pos h1]
      have hne : (E1 == 0) = false := by rw [beq_eq_false_iff_ne]; exact h1
      go_enter Try.func18, Try.ntmps18
      go_wp2_with (first
        | (go_at_call 34; refine hnum.mono ?_; rintro e w1 ⟨A1, c2, rfl, ho1, t1⟩; have c0a := (hb.turn0 t1).ats (j := 0) (v := .pointer (some ⟨g, 0, none⟩)) rfl)
        | (go_at_call 37; refine (hw _ _ _ t1 ho1).mono ?_; rintro e w2 ⟨rfl, s2⟩))
      go_ret
      exact lg_stp hb hR t1 s2 _
  · rw [if_pos hE]
    have hne : ((E : Int) == 0) = false := by rw [beq_eq_false_iff_ne]; omega
    have hne2 : ¬ ((E : Int) = 0) := by omega
    go_enter Try.func18, Try.ntmps18
    go_wp2_with (first
      | (go_at_call 34; refine hnum.mono ?_; rintro e w1 ⟨A1, c2, rfl, ho1, t1⟩))
    go_ret
    exact lg_turn h hb hR t1 _
end Go.Proofs.Ytjekglnbmccnjaa
/-
  Layer 15: the code's load, Open (contracts).
-/
namespace Go.Proofs.Ytjekglnbmccnjaa
set_option linter.unusedSimpArgs false
set_option linter.unusedVariables false
open Go.RowKit

/-- What is kept, as it lies in memory, in blocks of Q. -/
structure Kin (w : World) (Q : Nat → Prop) (k : Kp) (s r : Sl) (vs : List Value) : Prop where
  sn : Rd w w.heap.size 1 s.A s.n (vbs k.snap)
  sq : ∀ i, blk s.A = some i → Q i
  rd : Rd w w.heap.size 1 r.A r.n vs
  rq : ∀ i, blk r.A = some i → Q i
  rl : vs.length = k.recs.length
  rows : ∀ (i : Nat) (l : List UInt8), k.recs[i]? = some l → ∃ a m c, vs[i]? = some (.slice a m c) ∧ Rd w w.heap.size 1 a m (vbs l) ∧ m ≤ c ∧ c ≤ maxLen ∧ ∀ j, blk a = some j → Q j
section
variable {w w' : World} {Q T : Nat → Prop} {k : Kp} {s r : Sl} {vs : List Value}
theorem Kin.chg (h : Kin w Q k s r vs) (ht : Chg w w' T) (hd : ∀ i, Q i → ¬ T i) : Kin w' Q k s r vs :=
  ⟨(h.sn.chg (Nat.le_refl _) ht fun g e => hd g (h.sq g e)).mono ht.size, h.sq, (h.rd.chg (Nat.le_refl _) ht fun g e => hd g (h.rq g e)).mono ht.size, h.rq, h.rl, fun i l hi => by
    obtain ⟨a, m, c, h1, h2, h3, h4, h5⟩ := h.rows i l hi
    exact ⟨a, m, c, h1, (h2.chg (Nat.le_refl _) ht fun g e => hd g (h5 g e)).mono ht.size, h3, h4, h5⟩⟩
theorem Kin.turn0 (h : Kin w Q k s r vs) (ht : Turn w w' none) : Kin w' Q k s r vs := h.chg (T := fun _ => False) (Chg.of0 ht _) fun _ _ h => h
theorem Kin.rw_ (h : Kin w Q k s r vs) : Rw w w.heap.size r.A r.n vs k.recs := ⟨h.rd, h.rl, fun i l hi => by
  obtain ⟨a, m, c, h1, h2, h3, h4, _⟩ := h.rows i l hi
  exact ⟨a, m, c, h1, h2, h3, h4⟩⟩
theorem Kin.rn (h : Kin w Q k s r vs) : r.n = k.recs.length := by rw [← h.rl]; exact h.rd.len.symm
theorem Kin.sn_ (h : Kin w Q k s r vs) : s.n = k.snap.length := by have := h.sn.len; rw [vbs_len] at this; exact this.symm
theorem Kin.mono (h : Kin w Q k s r vs) (hd : ∀ i, Q i → T i) : Kin w T k s r vs := ⟨h.sn, fun i e => hd i (h.sq i e), h.rd, fun i e => hd i (h.rq i e), h.rl, fun i l hi => by
  obtain ⟨a, m, c, h1, h2, h3, h4, h5⟩ := h.rows i l hi
  exact ⟨a, m, c, h1, h2, h3, h4, fun j e => hd j (h5 j e)⟩⟩
theorem Kin.nil (w : World) (Q : Nat → Prop) : Kin w Q kp0 nilS nilS [] := ⟨Rd.none_ _ _ 1 0, (fun i e => by cases e), Rd.none_ _ _ 1 0, (fun i e => by cases e), rfl, fun i l hi => by simp [kp0] at hi⟩
/-- Made of both parts. -/
theorem Kin.made {b b2 : Nat} {A : Option Addr} {n c : Nat} (hs : Own w b2 5 1 s.A s.n s.c (vbs k.snap)) (hq : ∀ i, blk s.A = some i → Q i) (ho : Ow w b 34 A n c vs k.recs) (hf : Fr b vs) (hr : r = ⟨A, n, c⟩) (hq2 : ∀ i, b ≤ i → i < w.heap.size → Q i) : Kin w Q k s r vs := by
  subst hr
  refine ⟨hs.rd, hq, ho.1.rd, fun i e => hq2 i (ho.1.block i e).1 (ho.1.block i e).2, ho.2.1, fun i l hi => ?_⟩
  obtain ⟨a, m, k, h1, h2, h3, h4, h5⟩ := ho.2.2 i l hi
  exact ⟨a, m, k, h1, h2, h4, h5, fun j e => hq2 j (hf _ (List.mem_of_getElem? h1) a m k rfl j e) (h3 j e).1⟩
end
theorem wSnapOf_lt {sn s : List UInt8} {h : Bool} {N : Nat} (hs : wSnapOf sn = some (h, s, N)) : N < 4611686018427387904 := by
  unfold wSnapOf at hs
  split at hs
  · simp only [Option.some.injEq, Prod.mk.injEq] at hs; omega
  · split at hs
    · cases hs
    · rename_i h1 h2
      simp only [Option.some.injEq, Prod.mk.injEq] at hs
      obtain ⟨_, _, rfl⟩ := hs
      have h3 : (pTake (fTake sn).1).2.2 = 0 := Decidable.byContradiction fun c => h2 (.inr (.inr c))
      obtain ⟨q1, q2, _⟩ := pTake_ok (l := (fTake sn).1) (n := (pTake (fTake sn).1).1) (k := (pTake (fTake sn).1).2.1) (by rw [← h3])
      rcases pSize_cases (pTake (fTake sn).1).1 with q | q | q | q | q <;> omega
theorem dErr_01 (D : Dsk) : D.dErr 0 = D.dErr 1 ∧ (D.dErr 1 = 0 ∨ D.dErr 1 = 140) := by
  unfold Dsk.dErr
  have h : fErr 0 = 0 ∧ fErr 1 = 0 := by decide
  rw [h.1, h.2]
  cases D.dead
  · exact ⟨rfl, .inl rfl⟩
  · exact ⟨rfl, .inr rfl⟩
/-- Open as data, by its parts. -/
theorem openD_dead {D : Dsk} (h : D.dErr 1 ≠ 0) : D.openD = (D.dErr 1, none, D) := by unfold Dsk.openD; rw [if_pos h]
theorem openD_form {D : Dsk} (h : D.dErr 1 = 0) (hs : wSnapOf (D.rd 1) = none) : D.openD = (4, none, D) := by
  unfold Dsk.openD wReads
  rw [if_neg (by simp [h]), hs]
theorem openD_go {D : Dsk} (h : D.dErr 1 = 0) {b : Bool} {s : List UInt8} {N : Nat} (hs : wSnapOf (D.rd 1) = some (b, s, N)) :
    D.openD = if (wGo (D.rd 0).length N [] N (D.rd 0)).2.2 < (D.rd 0).length then
      (if (D.rpS 0 ((D.rd 0).take (wGo (D.rd 0).length N [] N (D.rd 0)).2.2)).1 ≠ 0 then ((D.rpS 0 ((D.rd 0).take (wGo (D.rd 0).length N [] N (D.rd 0)).2.2)).1, none, (D.rpS 0 ((D.rd 0).take (wGo (D.rd 0).length N [] N (D.rd 0)).2.2)).2)
      else (0, some ⟨b, s, (wGo (D.rd 0).length N [] N (D.rd 0)).1, N + (wGo (D.rd 0).length N [] N (D.rd 0)).1.length⟩, (D.rpS 0 ((D.rd 0).take (wGo (D.rd 0).length N [] N (D.rd 0)).2.2)).2))
    else (0, some ⟨b, s, (wGo (D.rd 0).length N [] N (D.rd 0)).1, N + (wGo (D.rd 0).length N [] N (D.rd 0)).1.length⟩, D) := by
  unfold Dsk.openD wReads
  rw [if_neg (by simp [h]), hs]
  have hn := (takeLog_is N (D.rd 0)).2
  simp only [hn]
  split
  · unfold Dsk.rpS
    by_cases h1 : D.rErr 0 ((D.rd 0).take (wGo (D.rd 0).length N [] N (D.rd 0)).2.2) = 0
    · by_cases h2 : (D.rp 0 ((D.rd 0).take (wGo (D.rd 0).length N [] N (D.rd 0)).2.2)).cErr 0 = 0
      · simp [h1, h2]
      · simp [h1, h2]
    · simp [h1]
  · rfl
/-- What load leaves. -/
def LdPost (R : Nat → Prop) (g : Nat) (D : Dsk) (w : World) (e : Ending) (w' : World) : Prop :=
  (D.openD.2.1 = none ∧ D.openD.1 ≠ 0 ∧ e = .returned (.tuple #[.agg ([.bool false, .slice none 0 0, .slice none 0 0, .int .u64 0] : List Value).toArray, .int .i64 D.openD.1]) ∧ Stp w w' R g D.openD.2.2) ∨
  (∃ k D2, D.openD = (0, some k, D2) ∧ ∃ s r vs Q R', e = .returned (.tuple #[.agg (kpc k s r).toArray, .int .i64 0]) ∧ Chg w w' R ∧ Pk w' g R' D2 ∧ (∀ i, R' i → R i ∨ w.heap.size ≤ i) ∧ Kin w' Q k s r vs ∧ (∀ i, Q i → w.heap.size ≤ i ∧ i < w'.heap.size ∧ ¬ R' i) ∧ k.next ≤ 9223372036854775807)

theorem Stp.post {w w1 w2 : World} {R : Nat → Prop} {g : Nat} {D2 : Dsk} (s : Stp w w1 R g D2) (ht : Turn w1 w2 none) : Stp w w2 R g D2 := by
  obtain ⟨hc2, R2, hp2, hk2⟩ := s
  exact ⟨hc2.trans (Chg.of0 ht (fun _ => False)) fun i h => h.elim, R2, hp2.turn0 ht, hk2⟩

theorem ld_no {w w' : World} {g : Nat} {R : Nat → Prop} {D D2 : Dsk} {E : Int} (hO : D.openD = (E, none, D2)) (hE : E ≠ 0) (s : Stp w w' R g D2) : LdPost R g D w (.returned (.tuple #[.agg ([.bool false, .slice none 0 0, .slice none 0 0, .int .u64 0] : List Value).toArray, .int .i64 E])) w' :=
  .inl ⟨by rw [hO], by rw [hO]; exact hE, by rw [hO], by rw [hO]; exact s⟩
theorem ld_fin {w w2 w3 w4 w5 w6 w7 w8 : World} {g gR gK : Nat} {R R6 : Nat → Prop} {D D2 : Dsk} {b : Bool} {s : List UInt8} {recs : List (List UInt8)} {N : Nat} {S A : Option Addr} {m3 c3 c5 : Nat} {vs : List Value}
    (h : Pk w g R D) (T2 : Turn w w2 none) (r1 : w.heap.size ≤ gR) (r2 : gR < w2.heap.size) (hs : Own w3 w2.heap.size 5 1 S m3 c3 (vbs s)) (t3 : Turn w2 w3 none) (t4 : Turn w3 w4 none) (k1 : w3.heap.size ≤ gK) (k2 : gK < w4.heap.size)
    (ho : Ow w5 w4.heap.size 34 A recs.length c5 vs recs) (hf : Fr w4.heap.size vs) (t5 : Turn w4 w5 none) (hc : Chg w5 w6 R) (hp : Pk w6 g R6 D2) (hk : ∀ i, R6 i → R i ∨ w5.heap.size ≤ i) (t7 : Turn w6 w7 (some gK)) (t8 : Turn w7 w8 (some gR))
    (hO : D.openD = (0, some ⟨b, s, recs, N + recs.length⟩, D2)) (hN : N + recs.length ≤ 9223372036854775807) {e : Ending} (he : e = .returned (.tuple #[.agg ([.bool b, .slice S m3 c3, .slice A recs.length c5, .int .u64 (((N + recs.length : Nat)) : Int)] : List Value).toArray, .int .i64 0])) :
    LdPost R g D w e w8 := by
  subst he
  have s2 := T2.size
  have s3 := t3.size
  have s4 := t4.size
  have s5 := t5.size
  have s6 := hc.size
  have s7 := t7.size
  have s8 := t8.size
  have hRlt := fun i hi => h.lt (k := i) hi
  obtain ⟨Q, hQ⟩ : ∃ Q : Nat → Prop, Q = fun i => (w2.heap.size ≤ i ∧ i < w3.heap.size) ∨ (w4.heap.size ≤ i ∧ i < w5.heap.size) := ⟨_, rfl⟩
  have q5 : Kin w5 Q ⟨b, s, recs, N + recs.length⟩ ⟨S, m3, c3⟩ ⟨A, recs.length, c5⟩ vs := Kin.made ((hs.turn0 t4).turn0 t5) (fun i e => by rw [hQ]; exact .inl (hs.block i e)) ho hf rfl fun i h1 h2 => by rw [hQ]; exact .inr ⟨h1, h2⟩
  have q6 := q5.chg hc fun i hi hr => by
    rw [hQ] at hi
    have := hRlt i hr
    omega
  have q7 := q6.chg (T := fun i => i = gK) (Chg.of t7 fun i e => by injection e with e; exact e.symm) fun i hi hr => by
    rw [hQ] at hi
    omega
  have q8 := q7.chg (T := fun i => i = gR) (Chg.of t8 fun i e => by injection e with e; exact e.symm) fun i hi hr => by
    rw [hQ] at hi
    omega
  have nR : ∀ i, w.heap.size ≤ i → i < w5.heap.size → ¬ R6 i := fun i h1 h2 h3 => by
    rcases hk i h3 with h4 | h4
    · have := hRlt i h4; omega
    · omega
  refine .inr ⟨_, D2, hO, ⟨S, m3, c3⟩, ⟨A, recs.length, c5⟩, vs, Q, R6, rfl, ?_, ?_, fun i hi => (hk i hi).imp id fun h => by omega, q8, fun i hi => ?_, hN⟩
  · have c1 : Chg w w5 R := Chg.of0 (((T2.trans t3).trans t4).trans t5) R
    have c2 := c1.trans hc fun i h => .inl h
    have c3 := c2.trans (T := fun i => i = gK) (Chg.of t7 fun i e => by injection e with e; exact e.symm) fun i hi => .inr (by omega)
    exact c3.trans (T := fun i => i = gR) (Chg.of t8 fun i e => by injection e with e; exact e.symm) fun i hi => .inr (by omega)
  · have p7 := hp.chg (T := fun i => i = gK) (Chg.of t7 fun i e => by injection e with e; exact e.symm) fun i hi e => nR i (by omega) (by omega) hi
    exact p7.chg (T := fun i => i = gR) (Chg.of t8 fun i e => by injection e with e; exact e.symm) fun i hi e => nR i (by omega) (by omega) hi
  · rw [hQ] at hi
    exact ⟨by omega, by omega, nR i (by omega) (by omega)⟩

/-- A step behind what only made memory, and a store ahead of the return. -/
theorem Stp.late {w w5 w6 w8 : World} {R : Nat → Prop} {g gR : Nat} {D2 : Dsk} (t5 : Turn w w5 none) (s : Stp w5 w6 R g D2) (ht : Turn w6 w8 (some gR)) (h1 : w.heap.size ≤ gR) (h2 : gR < w5.heap.size) (hlt : ∀ k, R k → k < w.heap.size) : Stp w w8 R g D2 := by
  obtain ⟨hc2, R2, hp2, hk2⟩ := s
  have := t5.size
  exact ⟨((Chg.of0 t5 R).trans hc2 fun i h => .inl h).trans (T := fun i => i = gR) (Chg.of ht fun i e => by injection e with e; exact e.symm) fun i hi => .inr (by omega), R2, hp2.chg (T := fun i => i = gR) (Chg.of ht fun i e => by injection e with e; exact e.symm) (fun i hi e => (hk2 i hi).elim (fun h => by have := hlt i h; omega) fun h => by omega), fun k hk => (hk2 k hk).imp id fun h => by omega⟩

set_option maxRecDepth 100000 in
set_option maxHeartbeats 3200000 in
theorem load_any {w : World} {g : Nat} {R : Nat → Prop} {D : Dsk} (h : Pk w g R D) (h0 : (D.rd 0).length ≤ 1099511627776) (h1 : (D.rd 1).length ≤ 1099511627776) :
    Calls Try.prog 33 #[.pointer (some ⟨g, 0, none⟩)] w (LdPost R g D w) := by
  have al : ∀ (w : World) (cs : Array Value) (t : TypeId), (w.alloc (.cells cs t)).heap.size = w.heap.size + 1 := fun w cs t => Array.size_push ..
  have T0 : ∀ (w : World) cs t, Turn w (w.alloc (.cells cs t)) none := fun w cs t => (Turn.refl w none).alloc _
  obtain ⟨he01, he1⟩ := dErr_01 D
  have rd0 : ∀ w1, Turn w w1 none → Calls Try.prog 10 #[.pointer (some ⟨g, 0, none⟩), .int .i64 0] w1 fun e w' => ∃ A c, e = .returned (.tuple #[.slice A (D.rd 0).length c, .int .i64 (D.dErr 1)]) ∧ Own w' w1.heap.size 5 1 A (D.rd 0).length c (vbs (D.rd 0)) ∧ Turn w1 w' none := fun w1 t => by
    have := read_bo (h.turn0 t) 0
    rw [he01] at this
    exact this
  have rd1 : ∀ w1, Turn w w1 none → Calls Try.prog 10 #[.pointer (some ⟨g, 0, none⟩), .int .i64 1] w1 fun e w' => ∃ A c, e = .returned (.tuple #[.slice A (D.rd 1).length c, .int .i64 (D.dErr 1)]) ∧ Own w' w1.heap.size 5 1 A (D.rd 1).length c (vbs (D.rd 1)) ∧ Turn w1 w' none := fun w1 t => read_bo (h.turn0 t) 1
  obtain ⟨sn, hsn⟩ : ∃ sn, D.rd 1 = sn := ⟨_, rfl⟩
  obtain ⟨lg, hlg⟩ : ∃ lg, D.rd 0 = lg := ⟨_, rfl⟩
  rw [hsn] at rd1 h1
  rw [hlg] at rd0 h0
  by_cases hd : D.dErr 1 = 0
  · rw [hd] at rd0 rd1
    cases hs : wSnapOf sn with
    | none =>
      have HO := hid (openD_form hd (by rw [hsn]; exact hs))
      have hsp : ∀ {l : List UInt8} {w e w'}, l = sn → SnPost l w e w' → e = .returned (.tuple #[.agg ([.bool false, .slice none 0 0, .slice none 0 0, .int .u64 0] : List Value).toArray, .int .i64 4]) ∧ Turn w w' none := by
        rintro l w e w' rfl (⟨_, h1, h2⟩ | ⟨b, s, N, h1, _⟩)
        · exact ⟨h1, h2⟩
        · rw [hs] at h1; cases h1
      clear hs hsn hlg he1 he01 hd
      go_enter Try.func33, Try.ntmps33
      go_wp2_with (first
        | (go_at_call 10; first | (refine (rd1 _ ((T0 _ _ _).trans t1)).mono ?_; rintro e w2 ⟨A2, c2, rfl, ho2, t2⟩) | (refine (rd0 _ (T0 _ _ _)).mono ?_; rintro e w1 ⟨A1, c1, rfl, ho1, t1⟩))
        | (go_at_call 48; refine (takeSnap_any _ _ _ sn _ _ ho2.rd (Nat.le_refl _) ho2.cap.1 ho2.cap.2 (by omega)).mono ?_; intro e w3 hC; obtain ⟨rfl, t3⟩ := hsp rfl hC)
        | (refine wp_bd rfl 46 _ rfl _ rfl _ bdK0 ?_)
        | (refine wp_st (xs := [.bool false, .slice none 0 0, .slice none 0 0, .int .u64 0]) rfl 46 _ _ rfl rfl rfl (Blk.new w3 _ _) rfl szKp (ones4 rfl rfl rfl rfl) ?_; intro w4 hb4 ht4)
        | (refine wp_st (xs := [.bool false, .slice none 0 0, .slice none 0 0, .int .u64 0]) rfl 46 _ _ rfl rfl rfl (((((Blk.new w _ _).turn0 t1).turn0 t2).turn0 t3).turn0 ((T0 _ _ _).new ht4 (by simp))) rfl szKp (ones4 rfl rfl rfl rfl) ?_; intro w5 hb5 ht5))
      refine ret_ct rfl rfl rfl rfl hb5 Try.underlying46 rfl szKp ?_
      have TT := (((((T0 w _ _).trans t1).trans t2).trans t3).trans ((T0 w3 _ _).new ht4 (by simp))).new ht5 (by simp)
      exact ld_no HO.out (by decide) ((Stp.refl h).post TT)
    | some q =>
      obtain ⟨b, s, N⟩ := q
      have hN := wSnapOf_lt hs
      have hO := openD_go hd (by rw [hsn]; exact hs)
      rw [hlg] at hO
      have hen := wGo_le N lg.length [] N lg
      have hfew := wGo_few N lg.length [] N lg
      obtain ⟨recs, nx, en, hgo⟩ : ∃ recs nx en, wGo lg.length N [] N lg = (recs, nx, en) := ⟨_, _, _, rfl⟩
      rw [hgo] at hO hen hfew
      have hen : en ≤ lg.length := hen
      have hfew : recs.length ≤ 1099511627776 := by
        have : recs.length * 5 ≤ 0 + lg.length := hfew
        omega
      have hsp : ∀ {l : List UInt8} {w e w'}, l = sn → SnPost l w e w' → ∃ A n c, e = .returned (.tuple #[.agg ([.bool b, .slice A n c, .slice none 0 0, .int .u64 (N : Int)] : List Value).toArray, .int .i64 0]) ∧ Own w' w.heap.size 5 1 A n c (vbs s) ∧ Turn w w' none := by
        rintro l w e w' rfl (⟨h1, _⟩ | ⟨b', s', N', h1, h2⟩)
        · rw [hs] at h1; cases h1
        · rw [hs] at h1
          simp only [Option.some.injEq, Prod.mk.injEq] at h1
          obtain ⟨rfl, rfl, rfl⟩ := h1
          exact h2
      have htl : ∀ {w e w'}, TlPost N lg w e w' → ∃ A c vs, e = .returned (.tuple #[.slice A recs.length c, .int .i64 (en : Int)]) ∧ Ow w' w.heap.size 34 A recs.length c vs recs ∧ Fr w.heap.size vs ∧ Turn w w' none := by
        rintro w e w' ⟨A, n, c, vs, h1, h2, h3, h4⟩
        rw [hgo] at h1 h2
        have e : n = recs.length := by rw [← h2.2.1]; exact h2.1.len.symm
        subst e
        exact ⟨A, c, vs, h1, h2, h3, h4⟩
      clear hs hsn hlg he1 he01 hd hgo
      by_cases hcut : en < lg.length
      · obtain ⟨E, D1, hE⟩ : ∃ E D1, D.rpS 0 (lg.take en) = (E, D1) := ⟨_, _, rfl⟩
        have hO : D.openD = if E ≠ 0 then (E, none, D1) else (0, some ⟨b, s, recs, N + recs.length⟩, D1) := by
          rw [hO, if_pos hcut]
          show (if (D.rpS 0 (lg.take en)).1 ≠ 0 then _ else _) = _
          rw [hE]
        have hrp : ∀ w1 A c b0, Turn w w1 none → Own w1 b0 5 1 A lg.length c (vbs lg) → w.heap.size ≤ b0 → Calls Try.prog 37 #[.pointer (some ⟨g, 0, none⟩), .int .i64 0, .slice A en c] w1 fun e w' => e = .returned (.int .i64 E) ∧ Stp w1 w' R g D1 := fun w1 A c b0 t ho hb => by
          have := wreplace_any (h.turn0 t) 0 A en c w1.heap.size (lg.take en) (ho.rd.takeB hen) (Nat.le_refl _) (by omega) fun k e _ hk => by
            have := (ho.block k e).1
            have := h.lt hk
            omega
          rw [hE] at this
          exact this
        clear hE
        have hcut2 : (en : Int) < (lg.length : Int) := by omega
        by_cases hE0 : E = 0
        · subst hE0
          rw [if_neg (by simp)] at hO
          have HO := hid hO
          have HRP := hid hrp
          clear hO hrp
          go_enter Try.func33, Try.ntmps33
          go_wp2_with (first
            | (go_at_call 10; first | (refine (rd1 _ ((T0 _ _ _).trans t1)).mono ?_; rintro e w2 ⟨A2, c2, rfl, ho2, t2⟩; have r2 : w.heap.size < w2.heap.size := (by have := t1.size; have := t2.size; rw [al] at *; omega)) | (refine (rd0 _ (T0 _ _ _)).mono ?_; rintro e w1 ⟨A1, c1, rfl, ho1, t1⟩; have cap1 := ho1.cap))
            | (go_at_call 48; refine (takeSnap_any _ _ _ sn _ _ ho2.rd (Nat.le_refl _) ho2.cap.1 ho2.cap.2 (by omega)).mono ?_; intro e w3 hC; obtain ⟨S, m3, c3, rfl, ho3, t3⟩ := hsp rfl hC)
            | (refine wp_st (xs := [.bool b, .slice S m3 c3, .slice none 0 0, .int .u64 (N : Int)]) rfl 46 _ _ rfl rfl rfl (Blk.new w3 _ _) rfl szKp (ones4 rfl rfl rfl rfl) ?_; intro w4 hb4 ht4; have t4 := (T0 w3 _ _).new ht4 (by simp); have T4 := ((((T0 w _ _).trans t1).trans t2).trans t3).trans t4; have cK := hb4.ats (j := 3) (v := .int .u64 (N : Int)) rfl)
            | (go_at_call 49; refine (takeLog_any _ _ _ lg N _ _ (((ho1.turn0 t2).turn0 t3).turn0 t4).rd (Nat.le_refl _) h0 (by omega)).mono ?_; intro e w5 hC; obtain ⟨A5, c5, vs5, rfl, ho5, hf5, t5⟩ := htl hC)
            | (go_at_call 37; refine (HRP.out _ _ _ _ (T4.trans t5) ((((ho1.turn0 t2).turn0 t3).turn0 t4).turn0 t5) (T0 w _ _).size).mono ?_; rintro e w6 ⟨rfl, hc6, R6, hp6, hk6⟩; have hK6 := (hb4.turn0 t5).chg hc6 (fun hk => by have := h.lt hk; have := t3.size; omega); have f2 := hK6.frozen 2; have cK2 := hK6.ats (j := 2) (v := .slice none 0 0) rfl; have hK7 := hK6.sets 2 (.slice A5 recs.length c5); have cK7 := hK7.ats (j := 3) (v := .int .u64 (N : Int)) rfl; have f3 := hK7.frozen 3; have hK8 := hK7.sets 3 (.int .u64 ((N : Int) + (recs.length : Int))); have t7 := (Blk.setTurn w6 w3.heap.size 2 (.slice A5 recs.length c5)).trans (Blk.setTurn _ w3.heap.size 3 (.int .u64 ((N : Int) + (recs.length : Int)))))
            | (refine wp_ld rfl 46 _ rfl rfl hK8 (Sub.all _) Try.underlying46 rfl szKp ?_)
            | (refine wp_st (xs := [.bool b, .slice S m3 c3, .slice A5 recs.length c5, .int .u64 ((N : Int) + (recs.length : Int))]) rfl 46 _ _ rfl rfl rfl (((((((Blk.new w _ _).turn0 t1).turn0 t2).turn0 t3).turn0 (t4.trans t5)).chg hc6 (fun hk => by have := h.lt hk; omega)).turn t7 (by have := t3.size; simp; omega)) rfl szKp (ones4 rfl rfl rfl rfl) ?_; intro w8 hb8 ht8))
          refine ret_ct rfl rfl rfl rfl hb8 Try.underlying46 rfl szKp ?_
          exact ld_fin h (((T0 w _ _).trans t1).trans t2) (Nat.le_refl _) r2 ho3 t3 t4 (Nat.le_refl _) hb4.lt ho5 hf5 t5 hc6 hp6 hk6 t7 ht8 HO.out (by omega) rfl
        · rw [if_pos hE0] at hO
          have HO := hid hO
          have HRP := hid hrp
          have hne : (E == 0) = false := by rw [beq_eq_false_iff_ne]; exact hE0
          clear hO hrp
          go_enter Try.func33, Try.ntmps33
          go_wp2_with (first
            | (go_at_call 10; first | (refine (rd1 _ ((T0 _ _ _).trans t1)).mono ?_; rintro e w2 ⟨A2, c2, rfl, ho2, t2⟩; have r2 : w.heap.size < w2.heap.size := (by have := t1.size; have := t2.size; rw [al] at *; omega)) | (refine (rd0 _ (T0 _ _ _)).mono ?_; rintro e w1 ⟨A1, c1, rfl, ho1, t1⟩; have cap1 := ho1.cap))
            | (go_at_call 48; refine (takeSnap_any _ _ _ sn _ _ ho2.rd (Nat.le_refl _) ho2.cap.1 ho2.cap.2 (by omega)).mono ?_; intro e w3 hC; obtain ⟨S, m3, c3, rfl, ho3, t3⟩ := hsp rfl hC)
            | (refine wp_bd rfl 46 _ rfl _ rfl _ bdK0 ?_)
            | (refine wp_st (xs := [.bool b, .slice S m3 c3, .slice none 0 0, .int .u64 (N : Int)]) rfl 46 _ _ rfl rfl rfl (Blk.new w3 _ _) rfl szKp (ones4 rfl rfl rfl rfl) ?_; intro w4 hb4 ht4; have t4 := (T0 w3 _ _).new ht4 (by simp); have T4 := ((((T0 w _ _).trans t1).trans t2).trans t3).trans t4; have cK := hb4.ats (j := 3) (v := .int .u64 (N : Int)) rfl)
            | (go_at_call 49; refine (takeLog_any _ _ _ lg N _ _ (((ho1.turn0 t2).turn0 t3).turn0 t4).rd (Nat.le_refl _) h0 (by omega)).mono ?_; intro e w5 hC; obtain ⟨A5, c5, vs5, rfl, ho5, hf5, t5⟩ := htl hC)
            | (go_at_call 37; refine (HRP.out _ _ _ _ (T4.trans t5) ((((ho1.turn0 t2).turn0 t3).turn0 t4).turn0 t5) (T0 w _ _).size).mono ?_; rintro e w6 ⟨rfl, s6⟩)
            | (refine wp_st (xs := [.bool false, .slice none 0 0, .slice none 0 0, .int .u64 0]) rfl 46 _ _ rfl rfl rfl ((((((Blk.new w _ _).turn0 t1).turn0 t2).turn0 t3).turn0 (t4.trans t5)).chg s6.1 (fun hk => by have := h.lt hk; omega)) rfl szKp (ones4 rfl rfl rfl rfl) ?_; intro w8 hb8 ht8))
          refine ret_ct rfl rfl rfl rfl hb8 Try.underlying46 rfl szKp ?_
          exact ld_no HO.out hE0 (Stp.late (T4.trans t5) s6 ht8 (Nat.le_refl _) (by have := t3.size; have := t4.size; have := t5.size; omega) fun k hk => h.lt hk)
      · rw [if_neg hcut] at hO
        have HO := hid hO
        have hcut2 : (lg.length : Int) ≤ (en : Int) := by omega
        clear hO hcut
        go_enter Try.func33, Try.ntmps33
        go_wp2_with (first
          | (go_at_call 10; first | (refine (rd1 _ ((T0 _ _ _).trans t1)).mono ?_; rintro e w2 ⟨A2, c2, rfl, ho2, t2⟩; have r2 : w.heap.size < w2.heap.size := (by have := t1.size; have := t2.size; rw [al] at *; omega)) | (refine (rd0 _ (T0 _ _ _)).mono ?_; rintro e w1 ⟨A1, c1, rfl, ho1, t1⟩; have cap1 := ho1.cap))
          | (go_at_call 48; refine (takeSnap_any _ _ _ sn _ _ ho2.rd (Nat.le_refl _) ho2.cap.1 ho2.cap.2 (by omega)).mono ?_; intro e w3 hC; obtain ⟨S, m3, c3, rfl, ho3, t3⟩ := hsp rfl hC)
          | (refine wp_st (xs := [.bool b, .slice S m3 c3, .slice none 0 0, .int .u64 (N : Int)]) rfl 46 _ _ rfl rfl rfl (Blk.new w3 _ _) rfl szKp (ones4 rfl rfl rfl rfl) ?_; intro w4 hb4 ht4; have t4 := (T0 w3 _ _).new ht4 (by simp); have T4 := ((((T0 w _ _).trans t1).trans t2).trans t3).trans t4; have cK := hb4.ats (j := 3) (v := .int .u64 (N : Int)) rfl)
          | (go_at_call 49; refine (takeLog_any _ _ _ lg N _ _ (((ho1.turn0 t2).turn0 t3).turn0 t4).rd (Nat.le_refl _) h0 (by omega)).mono ?_; intro e w5 hC; obtain ⟨A5, c5, vs5, rfl, ho5, hf5, t5⟩ := htl hC; have hK6 := hb4.turn0 t5; have f2 := hK6.frozen 2; have cK2 := hK6.ats (j := 2) (v := .slice none 0 0) rfl; have hK7 := hK6.sets 2 (.slice A5 recs.length c5); have cK7 := hK7.ats (j := 3) (v := .int .u64 (N : Int)) rfl; have f3 := hK7.frozen 3; have hK8 := hK7.sets 3 (.int .u64 ((N : Int) + (recs.length : Int))); have t7 := (Blk.setTurn w5 w3.heap.size 2 (.slice A5 recs.length c5)).trans (Blk.setTurn _ w3.heap.size 3 (.int .u64 ((N : Int) + (recs.length : Int)))))
          | (refine wp_ld rfl 46 _ rfl rfl hK8 (Sub.all _) Try.underlying46 rfl szKp ?_)
          | (refine wp_st (xs := [.bool b, .slice S m3 c3, .slice A5 recs.length c5, .int .u64 ((N : Int) + (recs.length : Int))]) rfl 46 _ _ rfl rfl rfl ((((((Blk.new w _ _).turn0 t1).turn0 t2).turn0 t3).turn0 (t4.trans t5)).turn t7 (by have := t3.size; simp; omega)) rfl szKp (ones4 rfl rfl rfl rfl) ?_; intro w8 hb8 ht8))
        refine ret_ct rfl rfl rfl rfl hb8 Try.underlying46 rfl szKp ?_
        exact ld_fin h (((T0 w _ _).trans t1).trans t2) (Nat.le_refl _) r2 ho3 t3 t4 (Nat.le_refl _) hb4.lt ho5 hf5 t5 (Chg.refl _ _) (h.turn0 (T4.trans t5)) (fun i hi => .inl hi) t7 ht8 HO.out (by omega) rfl
  · have hd2 : D.dErr 1 = 140 := he1.resolve_left hd
    rw [hd2] at rd0
    have hO := openD_dead hd
    rw [hd2] at hO
    have HO := hid hO
    clear hO
    clear hd hd2 he1 he01 rd1
    go_enter Try.func33, Try.ntmps33
    go_wp2_with (first
      | (go_at_call 10; refine (rd0 _ (T0 _ _ _)).mono ?_; rintro e w1 ⟨A1, c1, rfl, ho1, t1⟩)
      | (refine wp_bd rfl 46 _ rfl _ rfl _ bdK0 ?_)
      | (refine wp_st (xs := [.bool false, .slice none 0 0, .slice none 0 0, .int .u64 0]) rfl 46 _ _ rfl rfl rfl ((Blk.new w _ _).turn0 t1) rfl szKp (ones4 rfl rfl rfl rfl) ?_; intro w3 hb3 ht3))
    refine ret_ct rfl rfl rfl rfl hb3 Try.underlying46 rfl szKp ?_
    have TT := ((T0 w _ _).trans t1).new ht3 (by simp)
    exact ld_no HO.out (by decide) ((Stp.refl h).post TT)
end Go.Proofs.Ytjekglnbmccnjaa
/-
  General: a new variable of a value in a region that draws; a result that stands in a cell between two others. No program is named here.
-/
namespace Go.Proofs.Ytjekglnbmccnjaa
set_option linter.unusedSimpArgs false
set_option linter.unusedVariables false
open Go.RowKit
section
variable {P : Program} {Q : Exit → Act → World → Prop} {rest : List Oper} {ops : Array Oper} {o : Oper} {a : Act} {w : World} {g : Nat} {t ty : TypeId} {xs : List Value} {cs : Array Value} {d : TypeDesc}
/-- A new variable of a value, in a region that draws. -/
theorem gd_dbx {F : Prop} {K : Act → World → Prop} (hgd : o.guard = none) (ty : TypeId) (x : Operand) (ho : o.op = .box ty x) {cs : Array Value} (hx : a.eval x = .agg cs)
    (hK : ∀ g w', w.heap.size = g → Blk w' g ty cs → Turn w w' none → K (a.put o.dst (.pointer (some ⟨g, 0, none⟩))) w') : if Region.wanted o (yielded ops a.tmps) = true then Oper.wp P o a w K Q else F := by
  have hw : Region.wanted o (yielded ops a.tmps) = true := by simp [Region.wanted, hgd]
  rw [if_pos hw]
  unfold Oper.wp execOp
  simp only [ho, Instr.box, Sem.run_bind, hx, newVar, Result.andThen_ok]
  simp [newRow]
  exact hK _ _ rfl (Blk.new w ty cs) ((Turn.refl w none).alloc _)
section
variable {K : Act → World → Prop} {F : Prop}
/-- append under a guard that says yes, in a region that draws. -/
theorem gd_dappX (hw : Region.wanted o (yielded ops a.tmps) = true) (s x : Operand) (t : TypeId) (ho : o.op = .call { callee := .builtin .append, args := #[s, x], argTypes := #[t, t] })
    {base sz by_ n c : Nat} {E : TypeId} (he : El P t E sz by_) {A : Option Addr} {xs : List Value} (hs : a.eval s = .slice A n c)
    {B m c' : Nat} {X : Option Addr} {news : List Value} (hx : a.eval x = .slice X m c') (hown : Own w base E sz A n c xs) (hr : Rd w B sz X m news) (h1 : ∀ u ∈ news, u.oneCell' = true)
    (h63 : n + m ≤ maxLen) (hby : (n + m) * by_ ≤ 140737488355328) (hbase : base ≤ w.heap.size)
    (hK : ∀ A' c2 w', Own w' base E sz A' (n + m) c2 (xs ++ news) → Turn w w' (blk A) → (blk A' = blk A ∨ blk A' = some w.heap.size) → K (a.put o.dst (.slice A' (n + m) c2)) w') :
    if Region.wanted o (yielded ops a.tmps) = true then Oper.wp P o a w K Q else F := by
  rw [if_pos hw]
  obtain ⟨A', c2, w', hrun, h2, h3, h4⟩ := run_app (ty := o.type) he hown (c' := c') hr h1 h63 hby hbase
  unfold Oper.wp execOp
  simp only [ho, resolve, invoke, builtin, Sem.run_bind, Sem.run_pure, Result.andThen_ok, List.map_toArray, List.map_cons, List.map_nil, hs, hx, hrun]
  exact hK A' c2 w' h2 h3 h4
end
/-- A result ahead of one that stands in a cell, and one behind. -/
theorem ret_tct {fn : Func} {R : Ending → World → Prop} {p u s : Tmp} {v z : Value} (hf : fn.results = #[.tmp u, .cell p ty, .tmp s]) (hp : a.tmps.getD p undef = .pointer (some ⟨g, 0, none⟩)) (hv : a.tmps.getD u undef = v) (hz : a.tmps.getD s undef = z) (hdf : a.defers = []) (h : Blk w g t xs.toArray)
    (hu : P.underlying ty = some d) (hd : d.isRow = true) (hi : (P.info? ty).map (·.size) = some xs.length) (hR : R (.returned (.tuple #[v, .agg xs.toArray, z])) w) : bodyPost P fn R .ret a w := by
  refine bodyPost_ret (v := .tuple #[v, .agg xs.toArray, z]) ?_ hdf hR
  have e : (results fn a.tmps).run P w = ((asAddr (a.tmps.getD p undef)).run P w).andThen fun a' w₁ => ((loadVar ty a').run P w₁).andThen fun y w₂ => .ok (.tuple #[a.tmps.getD u undef, y, a.tmps.getD s undef]) w₂ := by
    simp only [results, hf]
    simp [Sem.run_bind, Result.andThen]
  rw [e, hp, hv, hz]
  simp only [asAddr, Sem.run_pure, Result.andThen_ok, run_loadVar_mid w g 0 ty xs d (h.range (Sub.all xs)) hu hd hi]
end
end Go.Proofs.Ytjekglnbmccnjaa
/-
  Layer 15: the code's Open (contract).
-/
namespace Go.Proofs.Ytjekglnbmccnjaa
set_option linter.unusedSimpArgs false
set_option linter.unusedVariables false
open Go.RowKit

theorem szWl {g n : Nat} : (Try.prog.info? 81).map (·.size) = some (wlc g n).length := by kernel_rfl
theorem bdW {g : Nat} {N : Int} : Try.prog.built 81 [(0, .pointer (some ⟨g, 0, none⟩)), (1, .int .u64 N)] = some ([.pointer (some ⟨g, 0, none⟩), .int .u64 N] : List Value).toArray := by kernel_rfl
/-- What Open leaves: nothing is had, or a log, and what is kept. -/
def OpNo (R : Nat → Prop) (g : Nat) (D : Dsk) (w : World) (e : Ending) (w' : World) : Prop :=
  e = .returned (.tuple #[.pointer none, .agg ([.bool false, .slice none 0 0, .slice none 0 0, .int .u64 0] : List Value).toArray, .int .i64 D.openD.1]) ∧ Stp w w' R g D.openD.2.2
def OpYes (R : Nat → Prop) (g : Nat) (k : Kp) (D2 : Dsk) (w : World) (e : Ending) (w' : World) : Prop :=
  ∃ gw s r vs Q R', e = .returned (.tuple #[.pointer (some ⟨gw, 0, none⟩), .agg (kpc k s r).toArray, .int .i64 0]) ∧ Chg w w' R ∧ Pk w' g R' D2 ∧ (∀ i, R' i → R i ∨ w.heap.size ≤ i) ∧ Kin w' Q k s r vs ∧ Blk w' gw 81 (wlc g k.next).toArray ∧ (∀ i, (Q i ∨ i = gw) → w.heap.size ≤ i ∧ i < w'.heap.size ∧ ¬ R' i) ∧ ¬ Q gw ∧ k.next ≤ 9223372036854775807
def OpPost (R : Nat → Prop) (g : Nat) (D : Dsk) (w : World) (e : Ending) (w' : World) : Prop :=
  (D.openD.2.1 = none ∧ D.openD.1 ≠ 0 ∧ OpNo R g D w e w') ∨ (∃ k D2, D.openD = (0, some k, D2) ∧ OpYes R g k D2 w e w')

set_option maxRecDepth 100000 in
set_option maxHeartbeats 3200000 in
theorem open_any {w : World} {g : Nat} {R : Nat → Prop} {D : Dsk} (h : Pk w g R D) (h0 : (D.rd 0).length ≤ 1099511627776) (h1 : (D.rd 1).length ≤ 1099511627776) :
    Calls Try.prog 13 #[.pointer (some ⟨g, 0, none⟩)] w (OpPost R g D w) := by
  have al : ∀ (w : World) (cs : Array Value) (t : TypeId), (w.alloc (.cells cs t)).heap.size = w.heap.size + 1 := fun w cs t => Array.size_push ..
  have T0 : ∀ (w : World) cs t, Turn w (w.alloc (.cells cs t)) none := fun w cs t => (Turn.refl w none).alloc _
  have hld := fun cs t => load_any (h.turn0 (T0 w cs t)) h0 h1
  have hlt := fun k hk => h.lt (k := k) hk
  obtain ⟨E, o, D2, hO⟩ : ∃ E o D2, D.openD = (E, o, D2) := ⟨_, _, _, rfl⟩
  cases o with
  | none =>
    have hp : ∀ {wa e w'}, LdPost R g D wa e w' → E ≠ 0 ∧ e = .returned (.tuple #[.agg ([.bool false, .slice none 0 0, .slice none 0 0, .int .u64 0] : List Value).toArray, .int .i64 E]) ∧ Stp wa w' R g D2 := by
      rintro wa e w' (⟨_, h1, h2, h3⟩ | ⟨k, D3, h1, _⟩)
      · rw [hO] at h1 h2 h3; exact ⟨h1, h2, h3⟩
      · rw [hO] at h1; simp at h1
    have HO := hid hO
    clear hO
    go_enter Try.func13, Try.ntmps13
    go_wp2_with (first
      | (go_at_call 33; refine (hld _ _).mono ?_; intro e w1 hC; obtain ⟨hE, rfl, s1⟩ := hp hC; have hne : (E == 0) = false := (by rw [beq_eq_false_iff_ne]; exact hE); have hR1 := (Blk.new w _ _).chg s1.1 (fun hk => by have := hlt _ hk; omega))
      | (refine wp_bd rfl 46 _ rfl _ rfl _ bdK0 ?_)
      | (refine wp_st (xs := [.bool false, .slice none 0 0, .slice none 0 0, .int .u64 0]) rfl 46 _ _ rfl rfl rfl (Blk.new w1 _ _) rfl szKp (ones4 rfl rfl rfl rfl) ?_; intro w2 hb2 ht2; have t2 := (T0 w1 _ _).new ht2 (by simp))
      | (refine wp_st (xs := [.bool false, .slice none 0 0, .slice none 0 0, .int .u64 0]) rfl 46 _ _ rfl rfl rfl (hR1.turn0 t2) rfl szKp (ones4 rfl rfl rfl rfl) ?_; intro w3 hb3 ht3))
    refine ret_tct rfl rfl rfl rfl rfl hb3 Try.underlying46 rfl szKp ?_
    refine .inl ⟨by rw [HO.out], by rw [HO.out]; exact hE, ?_⟩
    unfold OpNo
    rw [HO.out]
    exact ⟨rfl, Stp.late (T0 w _ _) (s1.post t2) ht3 (Nat.le_refl _) (by rw [al]; omega) hlt⟩
  | some k =>
    have hp : ∀ {wa e w'}, LdPost R g D wa e w' → E = 0 ∧ ∃ s r vs Q R', e = .returned (.tuple #[.agg (kpc k s r).toArray, .int .i64 0]) ∧ Chg wa w' R ∧ Pk w' g R' D2 ∧ (∀ i, R' i → R i ∨ wa.heap.size ≤ i) ∧ Kin w' Q k s r vs ∧ (∀ i, Q i → wa.heap.size ≤ i ∧ i < w'.heap.size ∧ ¬ R' i) ∧ k.next ≤ 9223372036854775807 := by
      rintro wa e w' (⟨h1, _⟩ | ⟨k', D3, h1, h2⟩)
      · rw [hO] at h1; cases h1
      · rw [hO] at h1
        simp only [Prod.mk.injEq, Option.some.injEq] at h1
        obtain ⟨rfl, rfl, rfl⟩ := h1
        exact ⟨rfl, h2⟩
    have HO := hid hO
    clear hO
    go_enter Try.func13, Try.ntmps13
    go_upto_region 6 with (first
      | (go_at_call 33; refine (hld _ _).mono ?_; intro e w1 hC; obtain ⟨rfl, s, r, vs, Q1, R1, rfl, hc1, hp1, hk1, hq1, hd1, hN⟩ := hp hC; have hR1 := (Blk.new w _ _).chg hc1 (fun hk => by have := hlt _ hk; omega))
      | (refine wp_st (xs := kpc k s r) rfl 46 _ _ rfl rfl rfl (Blk.new w1 _ _) rfl szKp (ones4 rfl rfl rfl rfl) ?_; intro w2 hb2 ht2; have t2 := (T0 w1 _ _).new ht2 (by simp)))
    clear hp
    have C3 := hb2.ats (j := 3) (v := .int .u64 (k.next : Int)) rfl
    have hRb := (hR1.turn0 t2).drew
    refine wp_region_noPanic ?_
    refine wp_region_held_drew (S := (fun W => W.cell? ⟨w1.heap.size, 3, none⟩ = some (.int .u64 (k.next : Int)) ∧ W.rangeAt w1.heap.size 0 (kpc k s r))) (by kernel_rfl) (⟨C3, hb2.range (Sub.all _)⟩) (fun hHeld => ?_)
    (first | (refine wpAnyH_take (i := 0) (v := undef) rfl (by kernel_rfl) (by kernel_rfl) (by kernel_rfl) (fun _ _ _ h => h) (Or.inr ⟨rfl, rfl⟩) (by assumption) ?_) | (refine wpAnyH_take (i := 0) (v := ?_) rfl (by kernel_rfl) (by kernel_rfl) (by kernel_rfl) (fun _ _ _ h => h) (Or.inl ⟨rfl, ?_⟩) (by assumption) ?_; rotate_left 1; · (intro w hSw; (try dsimp only at hSw); go_simp; (try with_reducible rfl)))); (try simp only [Act.put, List.getElem_toArray, List.getElem_cons_zero, List.getElem_cons_succ, List.setIfInBounds_toArray, List.set_cons_zero, List.set_cons_succ])
    (first | (refine wpAnyH_take (i := 1) (v := undef) rfl (by kernel_rfl) (by kernel_rfl) (by kernel_rfl) (fun _ _ _ h => h) (Or.inr ⟨rfl, rfl⟩) (by assumption) ?_) | (refine wpAnyH_take (i := 1) (v := ?_) rfl (by kernel_rfl) (by kernel_rfl) (by kernel_rfl) (fun _ _ _ h => h) (Or.inl ⟨rfl, ?_⟩) (by assumption) ?_; rotate_left 1; · (intro w hSw; (try dsimp only at hSw); go_simp; (try with_reducible rfl)))); (try simp only [Act.put, List.getElem_toArray, List.getElem_cons_zero, List.getElem_cons_succ, List.setIfInBounds_toArray, List.set_cons_zero, List.set_cons_succ])
    (first | (refine wpAnyH_take (i := 2) (v := undef) rfl (by kernel_rfl) (by kernel_rfl) (by kernel_rfl) (fun _ _ _ h => h) (Or.inr ⟨rfl, rfl⟩) (by assumption) ?_) | (refine wpAnyH_take (i := 2) (v := ?_) rfl (by kernel_rfl) (by kernel_rfl) (by kernel_rfl) (fun _ _ _ h => h) (Or.inl ⟨rfl, ?_⟩) (by assumption) ?_; rotate_left 1; · (intro w hSw; (try dsimp only at hSw); go_simp; (try with_reducible rfl)))); (try simp only [Act.put, List.getElem_toArray, List.getElem_cons_zero, List.getElem_cons_succ, List.setIfInBounds_toArray, List.set_cons_zero, List.set_cons_succ])
    refine wpAnyH_take (i := 3) rfl (by kernel_rfl) (by kernel_rfl) (by kernel_rfl) (fun _ _ _ h => h) (yieldsIf_bd (by rfl) 81 _ rfl #[(0, .pointer (some ⟨g, 0, none⟩)), (1, .int .u64 (k.next : Int))] (by first | rfl | kernel_rfl | (simp; done)) _ bdW) (by assumption) ?_
    (try simp only [Act.put, List.getElem_toArray, List.getElem_cons_zero, List.getElem_cons_succ, List.setIfInBounds_toArray, List.set_cons_zero, List.set_cons_succ])
    refine wpAnyH_take (i := 5) rfl (by kernel_rfl) (by kernel_rfl) (by kernel_rfl) (fun _ _ _ h => h) (yieldsIf_load_mid (by rfl) 46 _ rfl w1.heap.size 0 rfl (kpc k s r) _ (fun W hW => hW.2) Try.underlying46 rfl szKp) (by assumption) ?_
    (try simp only [Act.put, List.getElem_toArray, List.getElem_cons_zero, List.getElem_cons_succ, List.setIfInBounds_toArray, List.set_cons_zero, List.set_cons_succ])
    refine wpAnyH_ready (rs := [4]) (by kernel_rfl) (by simp) ?_; refine AllReadyH.cons rfl (fun K hK => ?_) AllReadyH.nil
    refine gd_dbx rfl 81 _ rfl rfl ?_
    intro gw w3 hgw hb3 t3
    have hb23 := hb2.drew.turn0 t3
    refine hK.out _ _ ⟨hb23.ats (j := 3) rfl, hb23.range (Sub.all _)⟩ (fun hHeld => ?_); clear hK K; (try simp only [Act.put, List.getElem_toArray, List.getElem_cons_zero, List.getElem_cons_succ, List.setIfInBounds_toArray, List.set_cons_zero, List.set_cons_succ])
    (first | (refine wpAnyH_take (i := 6) (v := undef) rfl (by kernel_rfl) (by kernel_rfl) (by kernel_rfl) (fun _ _ _ h => h) (Or.inr ⟨rfl, rfl⟩) (by assumption) ?_) | (refine wpAnyH_take (i := 6) (v := ?_) rfl (by kernel_rfl) (by kernel_rfl) (by kernel_rfl) (fun _ _ _ h => h) (Or.inl ⟨rfl, ?_⟩) (by assumption) ?_; rotate_left 1; · (intro w hSw; (try dsimp only at hSw); go_simp; (try with_reducible rfl)))); (try simp only [Act.put, List.getElem_toArray, List.getElem_cons_zero, List.getElem_cons_succ, List.setIfInBounds_toArray, List.set_cons_zero, List.set_cons_succ])
    refine wpAnyH_ready (rs := [7]) (by kernel_rfl) (by simp) ?_; refine AllReadyH.cons rfl (fun K hK => ?_) AllReadyH.nil
    refine gd_dst (xs := kpc k s r) rfl 46 _ _ rfl rfl rfl (hRb.turn0 t3) rfl szKp (ones4 rfl rfl rfl rfl) ?_
    intro w4 hb4 t4
    have hb24 := hb23.turn t4 (by have := hc1.size; rw [al] at this; simp; omega)
    refine hK.out _ _ ⟨hb24.ats (j := 3) rfl, hb24.range (Sub.all _)⟩ (fun hHeld => ?_); clear hK K; (try simp only [Act.put, List.getElem_toArray, List.getElem_cons_zero, List.getElem_cons_succ, List.setIfInBounds_toArray, List.set_cons_zero, List.set_cons_succ])
    (first | (refine wpAnyH_take (i := 8) (v := undef) rfl (by kernel_rfl) (by kernel_rfl) (by kernel_rfl) (fun _ _ _ h => h) (Or.inr ⟨rfl, rfl⟩) (by assumption) ?_) | (refine wpAnyH_take (i := 8) (v := ?_) rfl (by kernel_rfl) (by kernel_rfl) (by kernel_rfl) (fun _ _ _ h => h) (Or.inl ⟨rfl, ?_⟩) (by assumption) ?_; rotate_left 1; · (intro w hSw; (try dsimp only at hSw); go_simp; (try with_reducible rfl)))); (try simp only [Act.put, List.getElem_toArray, List.getElem_cons_zero, List.getElem_cons_succ, List.setIfInBounds_toArray, List.set_cons_zero, List.set_cons_succ])
    refine wpAnyH_done (by kernel_rfl) ?_ _
    refine NoPanic.normal ?_
    clear hHeld
    go_wp2
    refine ret_tct rfl rfl rfl rfl rfl hb4 Try.underlying46 rfl szKp ?_
    have s1 := hc1.size
    rw [al] at s1
    have s2 := t2.size
    have s3 := t3.undrew.size
    have s4 := t4.size
    have hgw2 : w2.heap.size = gw := hgw
    have k2 := hb2.lt
    have k3 := hb3.lt
    have hc1b : Chg w w1 R := (Chg.of0 (T0 w _ _) R).trans hc1 fun i h => .inl h
    have T3 := t2.trans t3.undrew
    refine .inr ⟨k, D2, HO.out, gw, s, r, vs, Q1, R1, rfl, ?_, ?_, fun i hi => (hk1 i hi).imp id fun h => by rw [al] at h; omega, ?_, hb3.turn t4 (by simp; omega), fun i hi => ?_, fun hq => ?_, hN⟩
    · exact (hc1b.trans (T := fun _ => False) (Chg.of0 T3 _) fun i h => h.elim).trans (T := fun i => i = w.heap.size) (Chg.of t4 fun i e => by injection e with e; exact e.symm) fun i hi => .inr (by omega)
    · refine (hp1.turn0 T3).chg (T := fun i => i = w.heap.size) (Chg.of t4 fun i e => by injection e with e; exact e.symm) fun i hi e => ?_
      rcases hk1 i hi with h4 | h4
      · have := hlt i h4; omega
      · rw [al] at h4; omega
    · refine (hq1.turn0 T3).chg (T := fun i => i = w.heap.size) (Chg.of t4 fun i e => by injection e with e; exact e.symm) fun i hi e => ?_
      have := (hd1 i hi).1
      rw [al] at this
      omega
    · rcases hi with hi | rfl
      · obtain ⟨a1, a2, a3⟩ := hd1 i hi
        rw [al] at a1
        exact ⟨by omega, by omega, a3⟩
      · exact ⟨by omega, by omega, fun hr => by have := hp1.lt hr; omega⟩
    · have := (hd1 gw hq).2.1
      omega
end Go.Proofs.Ytjekglnbmccnjaa
