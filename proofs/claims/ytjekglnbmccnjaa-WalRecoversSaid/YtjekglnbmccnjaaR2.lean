import Derived.Test.YtjekglnbmccnjaaR1
import Derived.Test.YtjekglnbmccnjaaG16
import Derived.Test.YtjekglnbmccnjaaG2
import Derived.Deep.Slices
import Derived.Deep.Strs
set_option linter.unusedSimpArgs false
set_option linter.unusedVariables false
set_option linter.unusedSectionVars false
/-
  Layer 15: the walk of WalRecovers.
-/
namespace Go.Proofs.Ytjekglnbmccnjaa
set_option linter.unusedSimpArgs false
set_option linter.unusedVariables false
open Go.RowKit

def Fr2 (w : World) (R : Nat → Prop) (gw g9 g10 i : Nat) : Prop := i < w.heap.size ∧ ¬ R i ∧ i ≠ gw ∧ i ≠ g9 ∧ i ≠ g10
/-- A log on a disk alone, two models of it in variables, and how the power goes. -/
structure L2 (w0 w : World) (g gw g9 g10 g3 : Nat) (ec : List Value) (R : Nat → Prop) (D : Dsk) (num : Nat) (m : Md) (s l : Sl) (vs : List Value) (nx : Md) (sx lx : Sl) (vx : List Value) : Prop where
  d : Bo w0 w g R D
  b : Blk w gw 81 (wlc g num).toArray
  v9 : Blk w g9 51 (mdc m s l).toArray
  v10 : Blk w g10 51 (mdc nx sx lx).toArray
  e3 : Blk w g3 42 ec.toArray
  bR : ¬ R gw
  r9 : ¬ R g9
  r10 : ¬ R g10
  r3 : ¬ R g3
  o : w0.heap.size ≤ gw ∧ w0.heap.size ≤ g9 ∧ w0.heap.size ≤ g10 ∧ w0.heap.size ≤ g3
  ne : gw ≠ g9 ∧ gw ≠ g10 ∧ gw ≠ g3 ∧ g9 ≠ g10 ∧ g9 ≠ g3 ∧ g10 ≠ g3
  k : Kim w (Fr2 w R gw g9 g10) m s l vs
  kx : Kim w (Fr2 w R gw g9 g10) nx sx lx vx
section
variable {w0 w w' : World} {g gw g9 g10 g3 num num' : Nat} {ec : List Value} {R R' : Nat → Prop} {D D' : Dsk} {m nx ny : Md} {s l sx lx sy ly : Sl} {vs vx vy : List Value}
theorem L2.turn0 (h : L2 w0 w g gw g9 g10 g3 ec R D num m s l vs nx sx lx vx) (t : Turn w w' none) : L2 w0 w' g gw g9 g10 g3 ec R D num m s l vs nx sx lx vx := by
  have q : ∀ i, Fr2 w R gw g9 g10 i → Fr2 w' R gw g9 g10 i := fun i hi => ⟨Nat.lt_of_lt_of_le hi.1 t.size, hi.2⟩
  exact ⟨h.d.turn0 t, h.b.turn0 t, h.v9.turn0 t, h.v10.turn0 t, h.e3.turn0 t, h.bR, h.r9, h.r10, h.r3, h.o, h.ne, (h.k.turn0 t).mono q, (h.kx.turn0 t).mono q⟩
/-- A call of the log's. -/
theorem L2.lg (h : L2 w0 w g gw g9 g10 g3 ec R D num m s l vs nx sx lx vx) (hc : Chg w w' (fun k => R k ∨ k = gw)) (hp : Pk w' g R' D') (hk : ∀ k, R' k → R k ∨ w.heap.size ≤ k) (hb : Blk w' gw 81 (wlc g num').toArray) (hn : ¬ R' gw) : L2 w0 w' g gw g9 g10 g3 ec R' D' num' m s l vs nx sx lx vx := by
  have nR : ∀ i, i < w.heap.size → ¬ R i → ¬ R' i := fun i h1 h2 h3 => (hk i h3).elim h2 fun h4 => by omega
  have q : ∀ i, Fr2 w R gw g9 g10 i → Fr2 w' R' gw g9 g10 i := fun i hi => ⟨Nat.lt_of_lt_of_le hi.1 hc.size, nR i hi.1 hi.2.1, hi.2.2⟩
  obtain ⟨n1, n2, n3, n4, n5, n6⟩ := h.ne
  exact ⟨h.d.lg h.o.1 hc hp hk, hb, h.v9.chg hc fun k => k.elim h.r9 fun e => n1 e.symm, h.v10.chg hc fun k => k.elim h.r10 fun e => n2 e.symm, h.e3.chg hc fun k => k.elim h.r3 fun e => n3 e.symm, hn, nR g9 h.v9.lt h.r9, nR g10 h.v10.lt h.r10, nR g3 h.e3.lt h.r3, h.o, h.ne,
    (h.k.chg hc fun i hi k => k.elim hi.2.1 hi.2.2.1).mono q, (h.kx.chg hc fun i hi k => k.elim hi.2.1 hi.2.2.1).mono q⟩
/-- The second variable takes another model. -/
theorem L2.put10 (h : L2 w0 w g gw g9 g10 g3 ec R D num m s l vs nx sx lx vx) (t : Turn w w' (some g10)) (hb : Blk w' g10 51 (mdc ny sy ly).toArray) (hy : Kim w (Fr2 w R gw g9 g10) ny sy ly vy) : L2 w0 w' g gw g9 g10 g3 ec R D num m s l vs ny sy ly vy := by
  have q : ∀ i, Fr2 w R gw g9 g10 i → Fr2 w' R gw g9 g10 i := fun i hi => ⟨Nat.lt_of_lt_of_le hi.1 t.size, hi.2⟩
  obtain ⟨n1, n2, n3, n4, n5, n6⟩ := h.ne
  have ne' : ∀ {a b : Nat}, a ≠ b → some a ≠ some b := fun h e => h (by injection e)
  exact ⟨⟨h.d.p.chg (chg1 t) fun k hk e => h.r10 (e ▸ hk), h.d.r0, h.d.tw.new t fun g e => by injection e with e; have := h.o.2.2.1; omega⟩, h.b.turn t (ne' n2), h.v9.turn t (ne' n4), hb, h.e3.turn t (ne' (Ne.symm n6)), h.bR, h.r9, h.r10, h.r3, h.o, h.ne,
    (h.k.chg (chg1 t) fun i hi e => hi.2.2.2.2 e).mono q, (hy.chg (chg1 t) fun i hi e => hi.2.2.2.2 e).mono q⟩
/-- The first one takes the second one's. -/
theorem L2.put9 (h : L2 w0 w g gw g9 g10 g3 ec R D num m s l vs nx sx lx vx) (t : Turn w w' (some g9)) (hb : Blk w' g9 51 (mdc nx sx lx).toArray) : L2 w0 w' g gw g9 g10 g3 ec R D num nx sx lx vx nx sx lx vx := by
  have q : ∀ i, Fr2 w R gw g9 g10 i → Fr2 w' R gw g9 g10 i := fun i hi => ⟨Nat.lt_of_lt_of_le hi.1 t.size, hi.2⟩
  obtain ⟨n1, n2, n3, n4, n5, n6⟩ := h.ne
  have ne' : ∀ {a b : Nat}, a ≠ b → some a ≠ some b := fun h e => h (by injection e)
  have kk := (h.kx.chg (chg1 t) fun i hi e => hi.2.2.2.1 e).mono q
  exact ⟨⟨h.d.p.chg (chg1 t) fun k hk e => h.r9 (e ▸ hk), h.d.r0, h.d.tw.new t fun g e => by injection e with e; have := h.o.2.1; omega⟩, h.b.turn t (ne' n1), hb, h.v10.turn t (ne' (Ne.symm n4)), h.e3.turn t (ne' (Ne.symm n5)), h.bR, h.r9, h.r10, h.r3, h.o, h.ne, kk, kk⟩
theorem L2.put9' (h : L2 w0 w g gw g9 g10 g3 ec R D num m s l vs nx sx lx vx) (t : Turn w w' (some g10)) (hb : Blk w' g10 51 (mdc m s l).toArray) : L2 w0 w' g gw g9 g10 g3 ec R D num m s l vs m s l vs := h.put10 t hb h.k
end
theorem of_codeW {P : Program} {C C' : Code} {Q : Exit → Act → World → Prop} {a : Act} {w : World} (h : C = C') (g : Code.wp P C' Q a w) : Code.wp P C Q a w := h ▸ g

set_option maxRecDepth 100000 in
/-- From where the power goes on. -/
theorem wr_tail {w wx : World} {g gw g9 g10 g3 num : Nat} {R : Nat → Prop} {D : Dsk} {m nx m2 : Md} {s l sx lx : Sl} {vs vx : List Value} {ca ke : Int} {A : Option Addr} {n c : Nat} {t : List UInt8} (h : L2 w wx g gw g9 g10 g3 (acq ca ke A n c) R D num m s l vs nx sx lx vx) (k0 : -9223372036854775808 ≤ ke) (k1 : ke ≤ 9223372036854775807) (hr : Rd w w.heap.size 1 A n (vbs t)) (hnc : n ≤ c) (hcm : c ≤ maxLen) (hn : n ≤ 140737488351232)
    (hl : D.lim = 1048576) (hf : Fly D m m2) (f1 : m.Few 50) (f2 : m2.Few 50) (hm : m2 = m ∨ m2 = nx) (fx : nx.l.length ≤ 1000) {e_0 e_1 e_2 e_4 e_6 e_7 e_8 e_11 e_12 e_13 e_14 e_15 e_16 e_17 e_18 e_19 e_20 e_21 e_22 e_23 e_24 e_25 e_26 e_27 e_28 e_29 e_30 e_31 e_32 e_33 e_34 e_35 e_36 e_37 e_38 e_39 e_40 e_41 e_42 e_43 e_44 e_45 e_46 e_47 e_48 e_49 e_50 e_51 e_52 e_53 e_54 e_55 e_56 e_57 e_58 e_59 e_60 e_61 e_62 e_63 e_64 e_65 e_66 e_67 e_68 e_69 e_70 e_71 e_72 e_73 e_74 e_75 e_76 e_77 e_78 e_79 e_80 e_81 e_82 e_83 e_84 e_85 e_86 e_87 e_88 e_89 e_90 e_91 e_92 e_93 e_94 e_95 e_96 e_97 e_98 e_99 e_100 e_101 e_102 e_103 e_104 e_105 e_106 e_107 e_108 e_109 e_110 e_111 e_112 e_113 e_114 e_115 e_116 e_117 e_118 e_119 e_120 e_121 e_122 e_123 e_124 e_125 e_126 e_127 e_128 e_129 e_130 e_131 e_132 e_133 e_134 e_135 e_136 e_137 e_138 e_139 e_140 e_141 e_142 e_143 e_144 e_145 e_146 e_147 e_148 : Value} {K : Act → World → Prop} (hK : ∀ a V, Code.wp Try.prog (tailW 9 wrB) (WrQ w) a V → K a V) :
    Code.wp Try.prog (headW 8 wrB) (Exit.then K (WrQ w)) ⟨List.toArray (e_0 :: e_1 :: e_2 :: .pointer (some ⟨g3, 0, none⟩) :: e_4 :: .pointer (some ⟨g, 0, none⟩) :: e_6 :: e_7 :: e_8 :: .pointer (some ⟨g9, 0, none⟩) :: .pointer (some ⟨g10, 0, none⟩) :: e_11 :: e_12 :: e_13 :: e_14 :: e_15 :: e_16 :: e_17 :: e_18 :: e_19 :: e_20 :: e_21 :: e_22 :: e_23 :: e_24 :: e_25 :: e_26 :: e_27 :: e_28 :: e_29 :: e_30 :: e_31 :: e_32 :: e_33 :: e_34 :: e_35 :: e_36 :: e_37 :: e_38 :: e_39 :: e_40 :: e_41 :: e_42 :: e_43 :: e_44 :: e_45 :: e_46 :: e_47 :: e_48 :: e_49 :: e_50 :: e_51 :: e_52 :: e_53 :: e_54 :: e_55 :: e_56 :: e_57 :: e_58 :: e_59 :: e_60 :: e_61 :: e_62 :: e_63 :: e_64 :: e_65 :: e_66 :: e_67 :: e_68 :: e_69 :: e_70 :: e_71 :: e_72 :: e_73 :: e_74 :: e_75 :: e_76 :: e_77 :: e_78 :: e_79 :: e_80 :: e_81 :: e_82 :: e_83 :: e_84 :: e_85 :: e_86 :: e_87 :: e_88 :: e_89 :: e_90 :: e_91 :: e_92 :: e_93 :: e_94 :: e_95 :: e_96 :: e_97 :: e_98 :: e_99 :: e_100 :: e_101 :: e_102 :: e_103 :: e_104 :: e_105 :: e_106 :: e_107 :: e_108 :: e_109 :: e_110 :: e_111 :: e_112 :: e_113 :: e_114 :: e_115 :: e_116 :: e_117 :: e_118 :: e_119 :: e_120 :: e_121 :: e_122 :: e_123 :: e_124 :: e_125 :: e_126 :: e_127 :: e_128 :: e_129 :: e_130 :: e_131 :: e_132 :: e_133 :: e_134 :: e_135 :: e_136 :: e_137 :: e_138 :: e_139 :: e_140 :: e_141 :: e_142 :: e_143 :: e_144 :: e_145 :: e_146 :: e_147 :: e_148 :: []), []⟩ wx := by
  obtain ⟨mm, D2, D3, D4, hmm, hF⟩ := found hl hf f1 f2 ke t
  have hmm2 : mm = m ∨ mm = nx := by
    rcases hmm with e | e
    · exact .inl e
    · rcases hm with e2 | e2
      · exact .inl (e.trans e2)
      · exact .inr (e.trans e2)
  have nR : ∀ {R' : Nat → Prop}, (∀ k, R' k → R k ∨ wx.heap.size ≤ k) → ∀ i, i < wx.heap.size → ¬ R i → ¬ R' i := fun hk i h1 h2 h3 => (hk i h3).elim h2 fun h4 => by omega
  have fm : m.l.length ≤ 1000 := by have := f1.l; omega
  exact wr_end h.d k0 k1 h.e3 h.r3 (hr.turn0 h.d.tw (Nat.le_refl _)) h.d.tw.size hnc hcm hn h.k h.kx h.v9 h.v10 (fun i hi => hi.2.1) h.r9 h.r10
    (fun V R' a1 a2 a3 a4 a5 a6 => wr_rest a1 a2 a3 a4 a5 (fun i hi => nR a6 i hi.1 hi.2.1) (nR a6 g9 h.v9.lt h.r9) (nR a6 g10 h.v10.lt h.r10) hF hmm2 fm fx) hK

set_option maxRecDepth 100000 in
set_option maxHeartbeats 25600000 in
theorem qrec_walk (A : Option Addr) (n c : Nat) (qs : List At) (o : At) (w : World) (hr : Rq w w.heap.size A n qs) (hn : n ≤ 140737488351232) (ho : o.Ok w w.heap.size) (c0 : -9223372036854775808 ≤ o.k) (c1 : o.k ≤ 9223372036854775807) :
    Calls Try.prog 4 #[.slice A n c, .agg o.cs.toArray] w fun e w' => e = .returned (.bool true) ∧ Turn w w' none := by
  have T0 : ∀ (w : World) cs t, Turn w (w.alloc (.cells cs t)) none := fun w cs t => (Turn.refl w none).alloc _
  have hoc : o.cs = acq o.k o.m o.A o.n o.c := rfl
  rw [hoc]
  clear hoc
  have hL : (newD 1048576).lim = 1048576 := by decide
  have hup : Up (newD 1048576) 1048576 := ⟨rfl, rfl, hL⟩
  have hsy := newD_syn 1048576
  have hop0 : ∀ {V g R}, Bo w V g R (newD 1048576) → Calls Try.prog 13 #[.pointer (some ⟨g, 0, none⟩)] V (OpYes R g kp0 (newD 1048576) V) := fun h => (open_any h.p (full_len hsy md0_few (by decide) 0) (full_len hsy md0_few (by decide) 1)).mono fun e w' k => op_yes (open_syn hup md0_few.ok hsy) k
  have hnew := fun V => new_bo 1048576 V
  have HP := hid (show Syn ((newD 1048576).arm o.k) md0 ∧ md0.Few 0 ∧ ((newD 1048576).arm o.k).lim = 1048576 ∧ ((newD 1048576).arm o.k).dead = false from ⟨hsy, md0_few, hL, rfl⟩)
  generalize newD 1048576 = D0 at *
  clear hL hup hsy
  have hB2 : ∀ (W : World) o1 cs t, Blk ((W.alloc o1).alloc (.cells cs t)) (W.heap.size + 1) t cs := fun W o1 cs t => by
    have h := Blk.new (W.alloc o1) t cs
    rw [show (W.alloc o1).heap.size = W.heap.size + 1 from Array.size_push ..] at h
    exact h
  go_enter Try.func4, Try.ntmps4
  go_wp2_with (first
    | (refine wp_bx rfl 42 _ rfl rfl ?_; intro g3 w0 hg3 hb0 t0)
    | (go_at_call 6; refine (hnew w0).mono ?_; rintro e w1 ⟨g, R1, rfl, h1'⟩; have h1 : Bo w w1 g R1 D0 := ⟨h1'.p, fun k hk => Nat.le_trans t0.size (h1'.r0 k hk), t0.trans h1'.tw⟩; have e1 := hb0.turn0 h1'.tw; have x1 : ¬ R1 g3 := (fun k => by have := h1'.r0 _ k; have := hb0.lt; omega))
    | (go_at_call 13; refine (hop0 h1).mono ?_; rintro e w2 ⟨gw, s2, x2, vs2, Q2, R2, rfl, hc2, hp2, hk2, hq2, hb2, hd2, hnq2, hN2⟩; have h2 := h1.stp2 hc2 hp2 hk2; have e2 := e1.chg hc2 x1; have l1 := e1.lt; have x2' : ¬ R2 g3 := (fun k => (hk2 _ k).elim x1 fun h => by omega))
    | (refine wp_st (xs := kpc kp0 s2 x2) rfl 46 _ _ rfl rfl rfl (Blk.new w2 _ _) rfl szKp (ones4 rfl rfl rfl rfl) ?_; intro w3 hb3 ht3; have t3 := (T0 w2 _ _).new ht3 (by simp); have h3 := h2.turn0 t3; have e3 := e2.turn0 t3; have c30 := e3.ats (j := 0) (v := .int .i64 o.k) rfl)
    | (go_at_call 14; refine (arm_stp h3.p o.k c1).mono ?_; rintro e w4 ⟨rfl, hc4, R4, hp4, hk4⟩; have h4 := h3.stp2 hc4 hp4 hk4; have e4 := e3.chg hc4 x2')
    | (refine wp_bd rfl 51 _ rfl _ rfl _ bdM0 ?_)
    | (refine wp_st (xs := [.bool false, .slice none 0 0, .slice none 0 0]) rfl 51 _ _ rfl rfl rfl ((Blk.new w4 _ _).alloc _) rfl szMd (ones3 rfl rfl rfl) ?_; intro w5 hb5 ht5)
    | (refine wp_st (xs := [.bool false, .slice none 0 0, .slice none 0 0]) rfl 51 _ _ rfl rfl rfl ((hB2 w4 _ _ _).turn ht5 (by simp)) rfl szMd (ones3 rfl rfl rfl) ?_; intro w6 hb6 ht6))
  have hl2 : L2 w w6 g gw w4.heap.size (w4.heap.size + 1) g3 (acq o.k o.m o.A o.n o.c) R4 (D0.arm o.k) md0.next md0 nilS nilS [] md0 nilS nilS [] := by
    have tA := T0 w4 #[.bool false, .slice none 0 0, .slice none 0 0] 51
    have tB := T0 (w4.alloc (.cells #[.bool false, .slice none 0 0, .slice none 0 0] 51)) #[.bool false, .slice none 0 0, .slice none 0 0] 51
    have t46 : Turn w4 w6 none := ((tA.trans tB).new ht5 (fun g e => by injection e with e; omega)).new ht6 (fun g e => by injection e with e; omega)
    obtain ⟨a1, a2, a3⟩ := hd2 gw (.inr rfl)
    have q1 := h1.tw.size
    have q2 := h2.tw.size
    have q3 := t3.size
    have q4 := hc4.size
    have qe := e4.lt
    have l2 := hc2.size
    have l3 := e1.lt
    have n4 : ∀ i, i < w3.heap.size → ¬ R2 i → ¬ R4 i := fun i h1 h2 h3 => (hk4 i h3).elim h2 fun h => by omega
    have lt4 : ∀ i, R4 i → i < w4.heap.size := fun i hi => h4.p.lt hi
    have q0 : w.heap.size ≤ g3 := by omega
    exact ⟨h4.turn0 t46, ((hb2.turn0 t3).chg hc4 a3).turn0 t46, hb5.turn ht6 (by simp), hb6, e4.turn0 t46, n4 gw (by omega) a3, fun k => by have := lt4 _ k; omega, fun k => by have := lt4 _ k; omega, n4 g3 (by omega) x2', ⟨by omega, by omega, by omega, q0⟩, ⟨by omega, by omega, by omega, by omega, by omega, by omega⟩, Kim.nil _ _, Kim.nil _ _⟩
  clear hop0 hnew h1 h1' h2 h3 h4 e1 e2 e3 e4 hb0 hb2 hd2 hq2 hb3 hb5 hb6 ht3 ht5 ht6 t0 t3 c30 hk4 hc4 hp4 hc2 hp2 hk2 hnq2 hN2 x1 x2' l1 hg3
  generalize w4.heap.size + 1 = g10 at *
  generalize w4.heap.size = g9 at *
  go_loopw [11] (fun i wr => ∃ (j : Nat) (R : Nat → Prop) (D : Dsk) (m : Md) (s l : Sl) (vs : List Value) (nx : Md) (sx lx : Sl) (vx : List Value), j ≤ n ∧ j ≤ 40 ∧ i = .int .i64 (j : Int) ∧ L2 w wr g gw g9 g10 g3 (acq o.k o.m o.A o.n o.c) R D m.next m s l vs nx sx lx vx ∧ Hid (Syn D m ∧ m.Few j ∧ D.lim = 1048576 ∧ D.dead = false)) (fun i _ => (n - intOf i).toNat)
  case atStart => exact ⟨0, R4, _, md0, nilS, nilS, [], md0, nilS, nilS, [], by omega, by omega, rfl, hl2, HP⟩
  case round =>
    obtain ⟨j, R, D, m, s, l, vs, nx, sx, lx, vx, hj, hj2, rfl, h, HM⟩ := hrel
    clear hl2 HP
    by_cases hjn : j < n ∧ j < 40
    · obtain ⟨hjn, hj3⟩ := hjn
      obtain ⟨b, off, a, rfl, hb, ha, hok, hrng⟩ := hr.at_ (Nat.le_refl _) hjn
      have hcs : a.cs = acq a.k a.m a.A a.n a.c := rfl
      rw [hcs] at hrng
      have hrw := hrng _ h.d.tw
      have hb3 : (a.b.take 3000).length ≤ 3000 := by rw [List.length_take]; omega
      obtain ⟨b', hb'⟩ : ∃ b', a.b.take 3000 = b' := ⟨_, rfl⟩
      rw [hb'] at hb3
      obtain ⟨J, hJ2, hbit⟩ := and1 a.k
      have hJc : (J : Int) = 0 ∨ (J : Int) = 1 := by omega
      rcases hJc with hJ | hJ
      · rw [hJ] at hbit
        have hout := act_out HM.out.1 HM.out.2.1 (by omega) 0 hb3
        have hlim := (actW_lim D m 0 b').trans HM.out.2.2.1
        have hcode := act_apN (D := D) (m := m) (b := b') (by have := HM.out.2.1.n; omega) (by omega)
        have hfew := HM.out.2.1
        have hnx := hfew.n
        have hml := hfew.l
        have haf := after_few hfew (by omega) 0 hb3
        generalize D.actW m 0 b' = ED at *
        obtain ⟨E, D'⟩ := ED
        rcases hout with ⟨hE, hsy, hdd⟩ | ⟨hE, hdead, m2, hfl, hm2, hq2⟩
        · have hE : E = 0 := hE
          subst hE
          have hcall : ∀ {V : World} {R : Nat → Prop}, Bo w V g R D → Blk V gw 81 (wlc g m.next).toArray → ¬ R gw → ∀ (A : Option Addr) (m' c B : Nat), Rd V B 1 A m' (vbs b') → B ≤ V.heap.size → m' ≤ 140737488351232 → Calls Try.prog 16 #[.pointer (some ⟨gw, 0, none⟩), .slice A m' c] V (LgPost R gw g V 0 D' (m.after 0 b').next) := by
            intro V R h hb hR A m' c B h1 h2 h3
            have k := append_any h.p hb hR (by omega) A m' c B b' h1 h2 h3
            rw [hcode] at k
            rw [after_next0 m b']
            exact k
          have HM' := hid (show Syn D' (m.after 0 b') ∧ (m.after 0 b').Few (j + 1) ∧ D'.lim = 1048576 ∧ D'.dead = false from ⟨hsy, haf, hlim, hdd⟩)
          clear hcode hsy hlim hdd HM hfew haf
          go_wp2_with (first
            | (refine gd_ldR (by rfl) 36 _ rfl rfl hrw Try.underlying36 rfl szAct15 ?_)
            | (refine wp_st (xs := acq a.k a.m a.A a.n a.c) rfl 36 _ _ rfl rfl rfl (Blk.new wr _ _) rfl szAct15 (ones3 rfl rfl rfl) ?_; intro w5 hb5 t5; have t5' := (T0 wr _ _).new t5 (by simp); have c50 := hb5.ats (j := 0) (v := .int .i64 a.k) rfl; have f50 := hb5.frozen 0; have hb6 := hb5.sets 0 (.int .i64 0); have T6 : Turn wr (w5.setCell ⟨wr.heap.size, 0, none⟩ (.int .i64 0)) none := t5'.new (Blk.setTurn _ _ _ _) (by simp); have es : (w5.setCell ⟨wr.heap.size, 0, none⟩ (.int .i64 0)).heap.size = w5.heap.size := (by simp); have l5 := hb5.lt; have l6 := h.turn0 T6)
            | (refine wp_ld rfl 51 _ rfl rfl l6.v9 (Sub.all _) Try.underlying51 rfl szMd ?_)
            | (refine wp_ld rfl 36 _ rfl rfl hb6 (Sub.all (acq 0 a.m a.A a.n a.c)) Try.underlying36 rfl szAct15 ?_)
            | (go_at_call 15; refine (after_any l6.k (by omega) 0 a.m a.A a.n a.c w.heap.size a.b (hok.rd.turn0 l6.d.tw (Nat.le_refl _)) l6.d.tw.size hok.nc hok.cm (fun i e hp => by have := hok.rd.blkLt hp e; have := l6.d.tw.size; exact ⟨by omega, fun k => by have := l6.d.r0 i k; omega, by have := h.o.1; omega, by have := h.o.2.1; omega, by have := h.o.2.2.1; omega⟩) (fun i hi => hi.1) (.inl rfl)).mono ?_; rintro e w7 ⟨t7, s', l', vs', rfl, k7⟩; rw [hb'] at k7; have l7 := l6.turn0 t7; have k7' : Kim w7 (Fr2 w7 R gw g9 g10) (m.after 0 b') s' l' vs' := k7.mono (fun i hi => hi.elim (fun hi => ⟨Nat.lt_of_lt_of_le hi.1 t7.size, hi.2⟩) fun hi => ⟨hi.2, fun k => by have := l6.d.p.lt k; omega, by have := l6.b.lt; omega, by have := l6.v9.lt; omega, by have := l6.v10.lt; omega⟩); have a7 := hb6.turn0 t7)
            | (refine wp_st (xs := mdc (m.after 0 b') s' l') rfl 51 _ _ rfl rfl rfl l7.v10 rfl szMd (ones3 rfl rfl rfl) ?_; intro w8 hb8 t8; have l8 := l7.put10 t8 hb8 k7'; have a8 := a7.turn t8 (by have := h.v10.lt; simp; omega); have c80 := a8.ats (j := 0) (v := .int .i64 0) rfl; have h00 : Own (w8.alloc (.cells #[] 5)) w8.heap.size 5 1 (some ⟨w8.heap.size, 0, none⟩) 0 0 [] := Own.made _ _ _ 1 0 #[] (Nat.le_refl _) (by decide) rfl)
            | (refine wp_ld rfl 36 _ rfl rfl (a8.alloc _) (Sub.all (acq 0 a.m a.A a.n a.c)) Try.underlying36 rfl szAct15 ?_)
            | (go_at_call 17; refine (bytes15_any 0 a.m a.A a.n a.c w.heap.size a.b _ (hok.rd.turn0 (l8.d.tw.trans (T0 w8 #[] 5)) (Nat.le_refl _)) (l8.d.tw.trans (T0 w8 #[] 5)).size hok.nc hok.cm).mono ?_; rintro e w9 ⟨n', rfl, hn3, hn', hr9, t9⟩; rw [hb'] at hr9)
            | (at_builtin; refine wp_app (base := w8.heap.size) rfl _ _ _ rfl elB rfl rfl (h00.turn0 t9) hr9 (vbs_one b') (by have := hok.few; unfold maxLen; omega) (by have := hok.few; omega) (by have := (T0 w8 #[] 5).size; have := t9.size; omega) ?_; intro A10 c10 w10 ho10 t10 hb10; have T10 : Turn w8 w10 none := ((T0 w8 #[] 5).trans t9).new t10 (fun g hg => by simp [blk] at hg; omega); simp only [Nat.zero_add, List.nil_append] at ho10 ⊢; have l10 := l8.turn0 T10)
            | (go_at_call 16; refine (hcall l10.d l10.b l10.bR A10 n' c10 w10.heap.size ho10.rd (Nat.le_refl _) (by have := hok.few; omega)).mono ?_; rintro e w11 ⟨rfl, hc11, R11, hp11, hk11, hb11, hn11⟩; have l11 := l10.lg hc11 hp11 hk11 hb11 hn11)
            | (refine wp_ld rfl 51 _ rfl rfl l11.v10 (Sub.all _) Try.underlying51 rfl szMd ?_)
            | (refine wp_st (xs := mdc (m.after 0 b') s' l') rfl 51 _ _ rfl rfl rfl l11.v9 rfl szMd (ones3 rfl rfl rfl) ?_; intro w12 hb12 t12; have l12 := l11.put9 t12 hb12))
          refine ⟨⟨j + 1, R11, D', m.after 0 b', s', l', vs', m.after 0 b', s', l', vs', by omega, by omega, by go_num, l12, HM'⟩, ?_⟩
          simp [intOf]; omega
        · have hE : E ≠ 0 := hE
          have hEb : (E == 0) = false := by rw [beq_eq_false_iff_ne]; exact hE
          have hcall : ∀ {V : World} {R : Nat → Prop}, Bo w V g R D → Blk V gw 81 (wlc g m.next).toArray → ¬ R gw → ∀ (A : Option Addr) (m' c B : Nat), Rd V B 1 A m' (vbs b') → B ≤ V.heap.size → m' ≤ 140737488351232 → Calls Try.prog 16 #[.pointer (some ⟨gw, 0, none⟩), .slice A m' c] V (LgPost R gw g V E D' m.next) := by
            intro V R h hb hR A m' c B h1 h2 h3
            have k := append_any h.p hb hR (by omega) A m' c B b' h1 h2 h3
            rw [hcode] at k
            have e : (if E = 0 then m.next + 1 else m.next) = m.next := if_neg hE
            rw [show (E, D', if E = 0 then m.next + 1 else m.next).2.2 = m.next from e] at k
            exact k
          have f1 : m.Few 50 := ⟨hfew.ok, by omega, by omega, hfew.r, hfew.s⟩
          have f2' : (m.after 0 b').Few 50 := ⟨haf.ok, by have := haf.n; omega, by have := haf.l; omega, haf.r, haf.s⟩
          have f2 : m2.Few 50 := by rcases hm2 with rfl | rfl <;> assumption
          have fx : (m.after 0 b').l.length ≤ 1000 := by have := haf.l; omega
          have hm2x : m2 = m ∨ m2 = m.after 0 b' := hm2
          cases hdd : D'.dead with
          | true =>
            have hda : ∀ {V : World} {R : Nat → Prop}, Pk V g R D' → Calls Try.prog 19 #[.pointer (some ⟨g, 0, none⟩)] V fun e w' => e = .returned (.bool true) ∧ V = w' := fun hp => by
              have k := dead_pk hp
              rw [hdd] at k
              exact k
            have HF := hid (And.intro hfl hm2x)
            clear hcode hm2 hq2 HM hfew haf hdead hm2x hfl
            go_upto_region 21 with (first
              | (refine gd_ldR (by rfl) 36 _ rfl rfl hrw Try.underlying36 rfl szAct15 ?_)
              | (refine wp_st (xs := acq a.k a.m a.A a.n a.c) rfl 36 _ _ rfl rfl rfl (Blk.new wr _ _) rfl szAct15 (ones3 rfl rfl rfl) ?_; intro w5 hb5 t5; have t5' := (T0 wr _ _).new t5 (by simp); have c50 := hb5.ats (j := 0) (v := .int .i64 a.k) rfl; have f50 := hb5.frozen 0; have hb6 := hb5.sets 0 (.int .i64 0); have T6 : Turn wr (w5.setCell ⟨wr.heap.size, 0, none⟩ (.int .i64 0)) none := t5'.new (Blk.setTurn _ _ _ _) (by simp); have es : (w5.setCell ⟨wr.heap.size, 0, none⟩ (.int .i64 0)).heap.size = w5.heap.size := (by simp); have l5 := hb5.lt; have l6 := h.turn0 T6)
              | (refine wp_ld rfl 51 _ rfl rfl l6.v9 (Sub.all _) Try.underlying51 rfl szMd ?_)
              | (refine wp_ld rfl 36 _ rfl rfl hb6 (Sub.all (acq 0 a.m a.A a.n a.c)) Try.underlying36 rfl szAct15 ?_)
              | (go_at_call 15; refine (after_any l6.k (by omega) 0 a.m a.A a.n a.c w.heap.size a.b (hok.rd.turn0 l6.d.tw (Nat.le_refl _)) l6.d.tw.size hok.nc hok.cm (fun i e hp => by have := hok.rd.blkLt hp e; have := l6.d.tw.size; exact ⟨by omega, fun k => by have := l6.d.r0 i k; omega, by have := h.o.1; omega, by have := h.o.2.1; omega, by have := h.o.2.2.1; omega⟩) (fun i hi => hi.1) (.inl rfl)).mono ?_; rintro e w7 ⟨t7, s', l', vs', rfl, k7⟩; rw [hb'] at k7; have l7 := l6.turn0 t7; have k7' : Kim w7 (Fr2 w7 R gw g9 g10) (m.after 0 b') s' l' vs' := k7.mono (fun i hi => hi.elim (fun hi => ⟨Nat.lt_of_lt_of_le hi.1 t7.size, hi.2⟩) fun hi => ⟨hi.2, fun k => by have := l6.d.p.lt k; omega, by have := l6.b.lt; omega, by have := l6.v9.lt; omega, by have := l6.v10.lt; omega⟩); have a7 := hb6.turn0 t7)
              | (refine wp_st (xs := mdc (m.after 0 b') s' l') rfl 51 _ _ rfl rfl rfl l7.v10 rfl szMd (ones3 rfl rfl rfl) ?_; intro w8 hb8 t8; have l8 := l7.put10 t8 hb8 k7'; have a8 := a7.turn t8 (by have := h.v10.lt; simp; omega); have c80 := a8.ats (j := 0) (v := .int .i64 0) rfl; have h00 : Own (w8.alloc (.cells #[] 5)) w8.heap.size 5 1 (some ⟨w8.heap.size, 0, none⟩) 0 0 [] := Own.made _ _ _ 1 0 #[] (Nat.le_refl _) (by decide) rfl)
              | (refine wp_ld rfl 36 _ rfl rfl (a8.alloc _) (Sub.all (acq 0 a.m a.A a.n a.c)) Try.underlying36 rfl szAct15 ?_)
              | (go_at_call 17; refine (bytes15_any 0 a.m a.A a.n a.c w.heap.size a.b _ (hok.rd.turn0 (l8.d.tw.trans (T0 w8 #[] 5)) (Nat.le_refl _)) (l8.d.tw.trans (T0 w8 #[] 5)).size hok.nc hok.cm).mono ?_; rintro e w9 ⟨n', rfl, hn3, hn', hr9, t9⟩; rw [hb'] at hr9)
              | (at_builtin; refine wp_app (base := w8.heap.size) rfl _ _ _ rfl elB rfl rfl (h00.turn0 t9) hr9 (vbs_one b') (by have := hok.few; unfold maxLen; omega) (by have := hok.few; omega) (by have := (T0 w8 #[] 5).size; have := t9.size; omega) ?_; intro A10 c10 w10 ho10 t10 hb10; have T10 : Turn w8 w10 none := ((T0 w8 #[] 5).trans t9).new t10 (fun g hg => by simp [blk] at hg; omega); simp only [Nat.zero_add, List.nil_append] at ho10 ⊢; have l10 := l8.turn0 T10)
              | (go_at_call 16; refine (hcall l10.d l10.b l10.bR A10 n' c10 w10.heap.size ho10.rd (Nat.le_refl _) (by have := hok.few; omega)).mono ?_; rintro e w11 ⟨rfl, hc11, R11, hp11, hk11, hb11, hn11⟩; have l11 := l10.lg hc11 hp11 hk11 hb11 hn11)
              | (go_at_call 19; refine (hda l11.d.p).mono ?_; rintro e wq ⟨rfl, rfl⟩))
            exact of_codeW (C' := headW 8 wrB) (by kernel_rfl) (wr_tail (hK := by assumption) l11 ho.m0 ho.m1 ho.rd ho.nc ho.cm ho.few hlim HF.out.1 f1 f2 HF.out.2 fx)
          | false =>
            have hda : ∀ {V : World} {R : Nat → Prop}, Pk V g R D' → Calls Try.prog 19 #[.pointer (some ⟨g, 0, none⟩)] V fun e w' => e = .returned (.bool false) ∧ V = w' := fun hp => by
              have k := dead_pk hp
              rw [hdd] at k
              exact k
            have hsy2 := (hq2 hdd).1
            have hml2 : m.l.length ≤ 1000 := by omega
            clear hcode hm2 hq2 HM hfew haf hdead hm2x hfl f2 f2' fx
            go_upto_region 21 with (first
              | (refine gd_ldR (by rfl) 36 _ rfl rfl hrw Try.underlying36 rfl szAct15 ?_)
              | (refine wp_st (xs := acq a.k a.m a.A a.n a.c) rfl 36 _ _ rfl rfl rfl (Blk.new wr _ _) rfl szAct15 (ones3 rfl rfl rfl) ?_; intro w5 hb5 t5; have t5' := (T0 wr _ _).new t5 (by simp); have c50 := hb5.ats (j := 0) (v := .int .i64 a.k) rfl; have f50 := hb5.frozen 0; have hb6 := hb5.sets 0 (.int .i64 0); have T6 : Turn wr (w5.setCell ⟨wr.heap.size, 0, none⟩ (.int .i64 0)) none := t5'.new (Blk.setTurn _ _ _ _) (by simp); have es : (w5.setCell ⟨wr.heap.size, 0, none⟩ (.int .i64 0)).heap.size = w5.heap.size := (by simp); have l5 := hb5.lt; have l6 := h.turn0 T6)
              | (refine wp_ld rfl 51 _ rfl rfl l6.v9 (Sub.all _) Try.underlying51 rfl szMd ?_)
              | (refine wp_ld rfl 36 _ rfl rfl hb6 (Sub.all (acq 0 a.m a.A a.n a.c)) Try.underlying36 rfl szAct15 ?_)
              | (go_at_call 15; refine (after_any l6.k (by omega) 0 a.m a.A a.n a.c w.heap.size a.b (hok.rd.turn0 l6.d.tw (Nat.le_refl _)) l6.d.tw.size hok.nc hok.cm (fun i e hp => by have := hok.rd.blkLt hp e; have := l6.d.tw.size; exact ⟨by omega, fun k => by have := l6.d.r0 i k; omega, by have := h.o.1; omega, by have := h.o.2.1; omega, by have := h.o.2.2.1; omega⟩) (fun i hi => hi.1) (.inl rfl)).mono ?_; rintro e w7 ⟨t7, s', l', vs', rfl, k7⟩; rw [hb'] at k7; have l7 := l6.turn0 t7; have k7' : Kim w7 (Fr2 w7 R gw g9 g10) (m.after 0 b') s' l' vs' := k7.mono (fun i hi => hi.elim (fun hi => ⟨Nat.lt_of_lt_of_le hi.1 t7.size, hi.2⟩) fun hi => ⟨hi.2, fun k => by have := l6.d.p.lt k; omega, by have := l6.b.lt; omega, by have := l6.v9.lt; omega, by have := l6.v10.lt; omega⟩); have a7 := hb6.turn0 t7)
              | (refine wp_st (xs := mdc (m.after 0 b') s' l') rfl 51 _ _ rfl rfl rfl l7.v10 rfl szMd (ones3 rfl rfl rfl) ?_; intro w8 hb8 t8; have l8 := l7.put10 t8 hb8 k7'; have a8 := a7.turn t8 (by have := h.v10.lt; simp; omega); have c80 := a8.ats (j := 0) (v := .int .i64 0) rfl; have h00 : Own (w8.alloc (.cells #[] 5)) w8.heap.size 5 1 (some ⟨w8.heap.size, 0, none⟩) 0 0 [] := Own.made _ _ _ 1 0 #[] (Nat.le_refl _) (by decide) rfl)
              | (refine wp_ld rfl 36 _ rfl rfl (a8.alloc _) (Sub.all (acq 0 a.m a.A a.n a.c)) Try.underlying36 rfl szAct15 ?_)
              | (go_at_call 17; refine (bytes15_any 0 a.m a.A a.n a.c w.heap.size a.b _ (hok.rd.turn0 (l8.d.tw.trans (T0 w8 #[] 5)) (Nat.le_refl _)) (l8.d.tw.trans (T0 w8 #[] 5)).size hok.nc hok.cm).mono ?_; rintro e w9 ⟨n', rfl, hn3, hn', hr9, t9⟩; rw [hb'] at hr9)
              | (at_builtin; refine wp_app (base := w8.heap.size) rfl _ _ _ rfl elB rfl rfl (h00.turn0 t9) hr9 (vbs_one b') (by have := hok.few; unfold maxLen; omega) (by have := hok.few; omega) (by have := (T0 w8 #[] 5).size; have := t9.size; omega) ?_; intro A10 c10 w10 ho10 t10 hb10; have T10 : Turn w8 w10 none := ((T0 w8 #[] 5).trans t9).new t10 (fun g hg => by simp [blk] at hg; omega); simp only [Nat.zero_add, List.nil_append] at ho10 ⊢; have l10 := l8.turn0 T10)
              | (go_at_call 16; refine (hcall l10.d l10.b l10.bR A10 n' c10 w10.heap.size ho10.rd (Nat.le_refl _) (by have := hok.few; omega)).mono ?_; rintro e w11 ⟨rfl, hc11, R11, hp11, hk11, hb11, hn11⟩; have l11 := l10.lg hc11 hp11 hk11 hb11 hn11)
              | (go_at_call 19; refine (hda l11.d.p).mono ?_; rintro e wq ⟨rfl, rfl⟩)
              | (refine wp_ld rfl 51 _ rfl rfl l11.v9 (Sub.all _) Try.underlying51 rfl szMd ?_)
              | (refine wp_st (xs := mdc m s l) rfl 51 _ _ rfl rfl rfl l11.v10 rfl szMd (ones3 rfl rfl rfl) ?_; intro w12 hb12 t12; have l12 := l11.put9' t12 hb12))
            exact of_codeW (C' := headW 8 wrB) (by kernel_rfl) (wr_tail (hK := by assumption) l12 ho.m0 ho.m1 ho.rd ho.nc ho.cm ho.few hlim (Fly.none hsy2.1 hsy2.2) f1 f1 (.inl rfl) hml2)
      · rw [hJ] at hbit
        have hout := act_out HM.out.1 HM.out.2.1 (by omega) 1 hb3
        have hlim := (actW_lim D m 1 b').trans HM.out.2.2.1
        have hcode := act_snN (D := D) (m := m) (b := b') (by have := HM.out.2.1.n; omega) (by omega)
        have hfew := HM.out.2.1
        have hnx := hfew.n
        have hml := hfew.l
        have haf := after_few hfew (by omega) 1 hb3
        generalize D.actW m 1 b' = ED at *
        obtain ⟨E, D'⟩ := ED
        rcases hout with ⟨hE, hsy, hdd⟩ | ⟨hE, hdead, m2, hfl, hm2, hq2⟩
        · have hE : E = 0 := hE
          subst hE
          have hcall : ∀ {V : World} {R : Nat → Prop}, Bo w V g R D → Blk V gw 81 (wlc g m.next).toArray → ¬ R gw → ∀ (A : Option Addr) (m' c B : Nat), Rd V B 1 A m' (vbs b') → B ≤ V.heap.size → m' ≤ 140737488351232 → Calls Try.prog 18 #[.pointer (some ⟨gw, 0, none⟩), .slice A m' c] V (LgPost R gw g V 0 D' (m.after 1 b').next) := by
            intro V R h hb hR A m' c B h1 h2 h3
            have k := snap_any h.p hb hR (by omega) A m' c B b' h1 h2 h3
            rw [hcode] at k
            rw [after_next1 m b']
            exact k
          have HM' := hid (show Syn D' (m.after 1 b') ∧ (m.after 1 b').Few (j + 1) ∧ D'.lim = 1048576 ∧ D'.dead = false from ⟨hsy, haf, hlim, hdd⟩)
          clear hcode hsy hlim hdd HM hfew haf
          go_wp2_with (first
            | (refine gd_ldR (by rfl) 36 _ rfl rfl hrw Try.underlying36 rfl szAct15 ?_)
            | (refine wp_st (xs := acq a.k a.m a.A a.n a.c) rfl 36 _ _ rfl rfl rfl (Blk.new wr _ _) rfl szAct15 (ones3 rfl rfl rfl) ?_; intro w5 hb5 t5; have t5' := (T0 wr _ _).new t5 (by simp); have c50 := hb5.ats (j := 0) (v := .int .i64 a.k) rfl; have f50 := hb5.frozen 0; have hb6 := hb5.sets 0 (.int .i64 1); have T6 : Turn wr (w5.setCell ⟨wr.heap.size, 0, none⟩ (.int .i64 1)) none := t5'.new (Blk.setTurn _ _ _ _) (by simp); have es : (w5.setCell ⟨wr.heap.size, 0, none⟩ (.int .i64 1)).heap.size = w5.heap.size := (by simp); have l5 := hb5.lt; have l6 := h.turn0 T6)
            | (refine wp_ld rfl 51 _ rfl rfl l6.v9 (Sub.all _) Try.underlying51 rfl szMd ?_)
            | (refine wp_ld rfl 36 _ rfl rfl hb6 (Sub.all (acq 1 a.m a.A a.n a.c)) Try.underlying36 rfl szAct15 ?_)
            | (go_at_call 15; refine (after_any l6.k (by omega) 1 a.m a.A a.n a.c w.heap.size a.b (hok.rd.turn0 l6.d.tw (Nat.le_refl _)) l6.d.tw.size hok.nc hok.cm (fun i e hp => by have := hok.rd.blkLt hp e; have := l6.d.tw.size; exact ⟨by omega, fun k => by have := l6.d.r0 i k; omega, by have := h.o.1; omega, by have := h.o.2.1; omega, by have := h.o.2.2.1; omega⟩) (fun i hi => hi.1) (.inr rfl)).mono ?_; rintro e w7 ⟨t7, s', l', vs', rfl, k7⟩; rw [hb'] at k7; have l7 := l6.turn0 t7; have k7' : Kim w7 (Fr2 w7 R gw g9 g10) (m.after 1 b') s' l' vs' := k7.mono (fun i hi => hi.elim (fun hi => ⟨Nat.lt_of_lt_of_le hi.1 t7.size, hi.2⟩) fun hi => ⟨hi.2, fun k => by have := l6.d.p.lt k; omega, by have := l6.b.lt; omega, by have := l6.v9.lt; omega, by have := l6.v10.lt; omega⟩); have a7 := hb6.turn0 t7)
            | (refine wp_st (xs := mdc (m.after 1 b') s' l') rfl 51 _ _ rfl rfl rfl l7.v10 rfl szMd (ones3 rfl rfl rfl) ?_; intro w8 hb8 t8; have l8 := l7.put10 t8 hb8 k7'; have a8 := a7.turn t8 (by have := h.v10.lt; simp; omega); have c80 := a8.ats (j := 0) (v := .int .i64 1) rfl; have h00 : Own (w8.alloc (.cells #[] 5)) w8.heap.size 5 1 (some ⟨w8.heap.size, 0, none⟩) 0 0 [] := Own.made _ _ _ 1 0 #[] (Nat.le_refl _) (by decide) rfl)
            | (refine wp_ld rfl 36 _ rfl rfl (a8.alloc _) (Sub.all (acq 1 a.m a.A a.n a.c)) Try.underlying36 rfl szAct15 ?_)
            | (go_at_call 17; refine (bytes15_any 1 a.m a.A a.n a.c w.heap.size a.b _ (hok.rd.turn0 (l8.d.tw.trans (T0 w8 #[] 5)) (Nat.le_refl _)) (l8.d.tw.trans (T0 w8 #[] 5)).size hok.nc hok.cm).mono ?_; rintro e w9 ⟨n', rfl, hn3, hn', hr9, t9⟩; rw [hb'] at hr9)
            | (at_builtin; refine wp_app (base := w8.heap.size) rfl _ _ _ rfl elB rfl rfl (h00.turn0 t9) hr9 (vbs_one b') (by have := hok.few; unfold maxLen; omega) (by have := hok.few; omega) (by have := (T0 w8 #[] 5).size; have := t9.size; omega) ?_; intro A10 c10 w10 ho10 t10 hb10; have T10 : Turn w8 w10 none := ((T0 w8 #[] 5).trans t9).new t10 (fun g hg => by simp [blk] at hg; omega); simp only [Nat.zero_add, List.nil_append] at ho10 ⊢; have l10 := l8.turn0 T10)
            | (go_at_call 18; refine (hcall l10.d l10.b l10.bR A10 n' c10 w10.heap.size ho10.rd (Nat.le_refl _) (by have := hok.few; omega)).mono ?_; rintro e w11 ⟨rfl, hc11, R11, hp11, hk11, hb11, hn11⟩; have l11 := l10.lg hc11 hp11 hk11 hb11 hn11)
            | (refine wp_ld rfl 51 _ rfl rfl l11.v10 (Sub.all _) Try.underlying51 rfl szMd ?_)
            | (refine wp_st (xs := mdc (m.after 1 b') s' l') rfl 51 _ _ rfl rfl rfl l11.v9 rfl szMd (ones3 rfl rfl rfl) ?_; intro w12 hb12 t12; have l12 := l11.put9 t12 hb12))
          refine ⟨⟨j + 1, R11, D', m.after 1 b', s', l', vs', m.after 1 b', s', l', vs', by omega, by omega, by go_num, l12, HM'⟩, ?_⟩
          simp [intOf]; omega
        · have hE : E ≠ 0 := hE
          have hEb : (E == 0) = false := by rw [beq_eq_false_iff_ne]; exact hE
          have hcall : ∀ {V : World} {R : Nat → Prop}, Bo w V g R D → Blk V gw 81 (wlc g m.next).toArray → ¬ R gw → ∀ (A : Option Addr) (m' c B : Nat), Rd V B 1 A m' (vbs b') → B ≤ V.heap.size → m' ≤ 140737488351232 → Calls Try.prog 18 #[.pointer (some ⟨gw, 0, none⟩), .slice A m' c] V (LgPost R gw g V E D' m.next) := by
            intro V R h hb hR A m' c B h1 h2 h3
            have k := snap_any h.p hb hR (by omega) A m' c B b' h1 h2 h3
            rw [hcode] at k
            exact k
          have f1 : m.Few 50 := ⟨hfew.ok, by omega, by omega, hfew.r, hfew.s⟩
          have f2' : (m.after 1 b').Few 50 := ⟨haf.ok, by have := haf.n; omega, by have := haf.l; omega, haf.r, haf.s⟩
          have f2 : m2.Few 50 := by rcases hm2 with rfl | rfl <;> assumption
          have fx : (m.after 1 b').l.length ≤ 1000 := by have := haf.l; omega
          have hm2x : m2 = m ∨ m2 = m.after 1 b' := hm2
          cases hdd : D'.dead with
          | true =>
            have hda : ∀ {V : World} {R : Nat → Prop}, Pk V g R D' → Calls Try.prog 19 #[.pointer (some ⟨g, 0, none⟩)] V fun e w' => e = .returned (.bool true) ∧ V = w' := fun hp => by
              have k := dead_pk hp
              rw [hdd] at k
              exact k
            have HF := hid (And.intro hfl hm2x)
            clear hcode hm2 hq2 HM hfew haf hdead hm2x hfl
            go_upto_region 21 with (first
              | (refine gd_ldR (by rfl) 36 _ rfl rfl hrw Try.underlying36 rfl szAct15 ?_)
              | (refine wp_st (xs := acq a.k a.m a.A a.n a.c) rfl 36 _ _ rfl rfl rfl (Blk.new wr _ _) rfl szAct15 (ones3 rfl rfl rfl) ?_; intro w5 hb5 t5; have t5' := (T0 wr _ _).new t5 (by simp); have c50 := hb5.ats (j := 0) (v := .int .i64 a.k) rfl; have f50 := hb5.frozen 0; have hb6 := hb5.sets 0 (.int .i64 1); have T6 : Turn wr (w5.setCell ⟨wr.heap.size, 0, none⟩ (.int .i64 1)) none := t5'.new (Blk.setTurn _ _ _ _) (by simp); have es : (w5.setCell ⟨wr.heap.size, 0, none⟩ (.int .i64 1)).heap.size = w5.heap.size := (by simp); have l5 := hb5.lt; have l6 := h.turn0 T6)
              | (refine wp_ld rfl 51 _ rfl rfl l6.v9 (Sub.all _) Try.underlying51 rfl szMd ?_)
              | (refine wp_ld rfl 36 _ rfl rfl hb6 (Sub.all (acq 1 a.m a.A a.n a.c)) Try.underlying36 rfl szAct15 ?_)
              | (go_at_call 15; refine (after_any l6.k (by omega) 1 a.m a.A a.n a.c w.heap.size a.b (hok.rd.turn0 l6.d.tw (Nat.le_refl _)) l6.d.tw.size hok.nc hok.cm (fun i e hp => by have := hok.rd.blkLt hp e; have := l6.d.tw.size; exact ⟨by omega, fun k => by have := l6.d.r0 i k; omega, by have := h.o.1; omega, by have := h.o.2.1; omega, by have := h.o.2.2.1; omega⟩) (fun i hi => hi.1) (.inr rfl)).mono ?_; rintro e w7 ⟨t7, s', l', vs', rfl, k7⟩; rw [hb'] at k7; have l7 := l6.turn0 t7; have k7' : Kim w7 (Fr2 w7 R gw g9 g10) (m.after 1 b') s' l' vs' := k7.mono (fun i hi => hi.elim (fun hi => ⟨Nat.lt_of_lt_of_le hi.1 t7.size, hi.2⟩) fun hi => ⟨hi.2, fun k => by have := l6.d.p.lt k; omega, by have := l6.b.lt; omega, by have := l6.v9.lt; omega, by have := l6.v10.lt; omega⟩); have a7 := hb6.turn0 t7)
              | (refine wp_st (xs := mdc (m.after 1 b') s' l') rfl 51 _ _ rfl rfl rfl l7.v10 rfl szMd (ones3 rfl rfl rfl) ?_; intro w8 hb8 t8; have l8 := l7.put10 t8 hb8 k7'; have a8 := a7.turn t8 (by have := h.v10.lt; simp; omega); have c80 := a8.ats (j := 0) (v := .int .i64 1) rfl; have h00 : Own (w8.alloc (.cells #[] 5)) w8.heap.size 5 1 (some ⟨w8.heap.size, 0, none⟩) 0 0 [] := Own.made _ _ _ 1 0 #[] (Nat.le_refl _) (by decide) rfl)
              | (refine wp_ld rfl 36 _ rfl rfl (a8.alloc _) (Sub.all (acq 1 a.m a.A a.n a.c)) Try.underlying36 rfl szAct15 ?_)
              | (go_at_call 17; refine (bytes15_any 1 a.m a.A a.n a.c w.heap.size a.b _ (hok.rd.turn0 (l8.d.tw.trans (T0 w8 #[] 5)) (Nat.le_refl _)) (l8.d.tw.trans (T0 w8 #[] 5)).size hok.nc hok.cm).mono ?_; rintro e w9 ⟨n', rfl, hn3, hn', hr9, t9⟩; rw [hb'] at hr9)
              | (at_builtin; refine wp_app (base := w8.heap.size) rfl _ _ _ rfl elB rfl rfl (h00.turn0 t9) hr9 (vbs_one b') (by have := hok.few; unfold maxLen; omega) (by have := hok.few; omega) (by have := (T0 w8 #[] 5).size; have := t9.size; omega) ?_; intro A10 c10 w10 ho10 t10 hb10; have T10 : Turn w8 w10 none := ((T0 w8 #[] 5).trans t9).new t10 (fun g hg => by simp [blk] at hg; omega); simp only [Nat.zero_add, List.nil_append] at ho10 ⊢; have l10 := l8.turn0 T10)
              | (go_at_call 18; refine (hcall l10.d l10.b l10.bR A10 n' c10 w10.heap.size ho10.rd (Nat.le_refl _) (by have := hok.few; omega)).mono ?_; rintro e w11 ⟨rfl, hc11, R11, hp11, hk11, hb11, hn11⟩; have l11 := l10.lg hc11 hp11 hk11 hb11 hn11)
              | (go_at_call 19; refine (hda l11.d.p).mono ?_; rintro e wq ⟨rfl, rfl⟩))
            exact of_codeW (C' := headW 8 wrB) (by kernel_rfl) (wr_tail (hK := by assumption) l11 ho.m0 ho.m1 ho.rd ho.nc ho.cm ho.few hlim HF.out.1 f1 f2 HF.out.2 fx)
          | false =>
            have hda : ∀ {V : World} {R : Nat → Prop}, Pk V g R D' → Calls Try.prog 19 #[.pointer (some ⟨g, 0, none⟩)] V fun e w' => e = .returned (.bool false) ∧ V = w' := fun hp => by
              have k := dead_pk hp
              rw [hdd] at k
              exact k
            have hsy2 := (hq2 hdd).1
            have hml2 : m.l.length ≤ 1000 := by omega
            clear hcode hm2 hq2 HM hfew haf hdead hm2x hfl f2 f2' fx
            go_upto_region 21 with (first
              | (refine gd_ldR (by rfl) 36 _ rfl rfl hrw Try.underlying36 rfl szAct15 ?_)
              | (refine wp_st (xs := acq a.k a.m a.A a.n a.c) rfl 36 _ _ rfl rfl rfl (Blk.new wr _ _) rfl szAct15 (ones3 rfl rfl rfl) ?_; intro w5 hb5 t5; have t5' := (T0 wr _ _).new t5 (by simp); have c50 := hb5.ats (j := 0) (v := .int .i64 a.k) rfl; have f50 := hb5.frozen 0; have hb6 := hb5.sets 0 (.int .i64 1); have T6 : Turn wr (w5.setCell ⟨wr.heap.size, 0, none⟩ (.int .i64 1)) none := t5'.new (Blk.setTurn _ _ _ _) (by simp); have es : (w5.setCell ⟨wr.heap.size, 0, none⟩ (.int .i64 1)).heap.size = w5.heap.size := (by simp); have l5 := hb5.lt; have l6 := h.turn0 T6)
              | (refine wp_ld rfl 51 _ rfl rfl l6.v9 (Sub.all _) Try.underlying51 rfl szMd ?_)
              | (refine wp_ld rfl 36 _ rfl rfl hb6 (Sub.all (acq 1 a.m a.A a.n a.c)) Try.underlying36 rfl szAct15 ?_)
              | (go_at_call 15; refine (after_any l6.k (by omega) 1 a.m a.A a.n a.c w.heap.size a.b (hok.rd.turn0 l6.d.tw (Nat.le_refl _)) l6.d.tw.size hok.nc hok.cm (fun i e hp => by have := hok.rd.blkLt hp e; have := l6.d.tw.size; exact ⟨by omega, fun k => by have := l6.d.r0 i k; omega, by have := h.o.1; omega, by have := h.o.2.1; omega, by have := h.o.2.2.1; omega⟩) (fun i hi => hi.1) (.inr rfl)).mono ?_; rintro e w7 ⟨t7, s', l', vs', rfl, k7⟩; rw [hb'] at k7; have l7 := l6.turn0 t7; have k7' : Kim w7 (Fr2 w7 R gw g9 g10) (m.after 1 b') s' l' vs' := k7.mono (fun i hi => hi.elim (fun hi => ⟨Nat.lt_of_lt_of_le hi.1 t7.size, hi.2⟩) fun hi => ⟨hi.2, fun k => by have := l6.d.p.lt k; omega, by have := l6.b.lt; omega, by have := l6.v9.lt; omega, by have := l6.v10.lt; omega⟩); have a7 := hb6.turn0 t7)
              | (refine wp_st (xs := mdc (m.after 1 b') s' l') rfl 51 _ _ rfl rfl rfl l7.v10 rfl szMd (ones3 rfl rfl rfl) ?_; intro w8 hb8 t8; have l8 := l7.put10 t8 hb8 k7'; have a8 := a7.turn t8 (by have := h.v10.lt; simp; omega); have c80 := a8.ats (j := 0) (v := .int .i64 1) rfl; have h00 : Own (w8.alloc (.cells #[] 5)) w8.heap.size 5 1 (some ⟨w8.heap.size, 0, none⟩) 0 0 [] := Own.made _ _ _ 1 0 #[] (Nat.le_refl _) (by decide) rfl)
              | (refine wp_ld rfl 36 _ rfl rfl (a8.alloc _) (Sub.all (acq 1 a.m a.A a.n a.c)) Try.underlying36 rfl szAct15 ?_)
              | (go_at_call 17; refine (bytes15_any 1 a.m a.A a.n a.c w.heap.size a.b _ (hok.rd.turn0 (l8.d.tw.trans (T0 w8 #[] 5)) (Nat.le_refl _)) (l8.d.tw.trans (T0 w8 #[] 5)).size hok.nc hok.cm).mono ?_; rintro e w9 ⟨n', rfl, hn3, hn', hr9, t9⟩; rw [hb'] at hr9)
              | (at_builtin; refine wp_app (base := w8.heap.size) rfl _ _ _ rfl elB rfl rfl (h00.turn0 t9) hr9 (vbs_one b') (by have := hok.few; unfold maxLen; omega) (by have := hok.few; omega) (by have := (T0 w8 #[] 5).size; have := t9.size; omega) ?_; intro A10 c10 w10 ho10 t10 hb10; have T10 : Turn w8 w10 none := ((T0 w8 #[] 5).trans t9).new t10 (fun g hg => by simp [blk] at hg; omega); simp only [Nat.zero_add, List.nil_append] at ho10 ⊢; have l10 := l8.turn0 T10)
              | (go_at_call 18; refine (hcall l10.d l10.b l10.bR A10 n' c10 w10.heap.size ho10.rd (Nat.le_refl _) (by have := hok.few; omega)).mono ?_; rintro e w11 ⟨rfl, hc11, R11, hp11, hk11, hb11, hn11⟩; have l11 := l10.lg hc11 hp11 hk11 hb11 hn11)
              | (go_at_call 19; refine (hda l11.d.p).mono ?_; rintro e wq ⟨rfl, rfl⟩)
              | (refine wp_ld rfl 51 _ rfl rfl l11.v9 (Sub.all _) Try.underlying51 rfl szMd ?_)
              | (refine wp_st (xs := mdc m s l) rfl 51 _ _ rfl rfl rfl l11.v10 rfl szMd (ones3 rfl rfl rfl) ?_; intro w12 hb12 t12; have l12 := l11.put9' t12 hb12))
            exact of_codeW (C' := headW 8 wrB) (by kernel_rfl) (wr_tail (hK := by assumption) l12 ho.m0 ho.m1 ho.rd ho.nc ho.cm ho.few hlim (Fly.none hsy2.1 hsy2.2) f1 f1 (.inl rfl) hml2)
    · have hcase : ¬ (j : Int) < n ∨ ((j : Int) < n ∧ ¬ (j : Int) < 40) := by omega
      have hfew := HM.out.2.1
      have f1 : m.Few 50 := ⟨hfew.ok, by have := hfew.n; omega, by have := hfew.l; omega, hfew.r, hfew.s⟩
      have hml2 : m.l.length ≤ 1000 := by have := hfew.l; omega
      have hda : ∀ {V : World} {R : Nat → Prop}, Pk V g R D → Calls Try.prog 19 #[.pointer (some ⟨g, 0, none⟩)] V fun e w' => e = .returned (.bool false) ∧ V = w' := fun hp => by
        have k := dead_pk hp
        rw [HM.out.2.2.2] at k
        exact k
      clear hfew
      rcases hcase with q | ⟨q, q2⟩
      all_goals
        go_upto_region 21 with (first
          | (go_at_call 19; refine (hda h.d.p).mono ?_; rintro e wq ⟨rfl, rfl⟩)
          | (refine wp_ld rfl 51 _ rfl rfl h.v9 (Sub.all _) Try.underlying51 rfl szMd ?_)
          | (refine wp_st (xs := mdc m s l) rfl 51 _ _ rfl rfl rfl h.v10 rfl szMd (ones3 rfl rfl rfl) ?_; intro w12 hb12 t12; have l12 := h.put9' t12 hb12))
        exact of_codeW (C' := headW 8 wrB) (by kernel_rfl) (wr_tail (hK := by assumption) l12 ho.m0 ho.m1 ho.rd ho.nc ho.cm ho.few HM.out.2.2.1 (Fly.none HM.out.1.1 HM.out.1.2) f1 f1 (.inl rfl) hml2)
end Go.Proofs.Ytjekglnbmccnjaa
/-
  Layer 15: acts that are read as data.
-/
namespace Go.Proofs.Ytjekglnbmccnjaa
set_option linter.unusedSimpArgs false
set_option linter.unusedVariables false
set_option maxRecDepth 100000
open Go.ChangeShapes Go.WideShapes Go.ChangeAt Go.RowKit

section
variable {H : Type} {enc : TypeId × Value → H} {W : World} {r : Reach} {b0 : Nat}
theorem end_at2 {fuel : Nat} {cs : List Value} {x : DataW H × List MemPlace} (h1 : cs.length = 3) (h2 : DataW.trod enc Try.prog W 0 (fun _ => true) true fuel 42 cs = some x) :
    ∃ a : At, cs = a.cs ∧ ((∀ n ∈ x.1.weights Try.prog 42, n ≤ 140737488351232) → a.Ok W W.heap.size ∧ -9223372036854775808 ≤ a.k ∧ a.k ≤ 9223372036854775807) := by
  obtain ⟨xs, m, _, hD, _, h3, h4⟩ := DataW.trod_struct Try.underlying42 h2
  match cs, h1 with
  | [a0, a1, a3], _ =>
    have g0 : DataW.trod enc Try.prog W 0 (fun _ => true) true m 3 (([a0, a1, a3].drop 0).take (Try.prog.cellsOf 3)) = xs[0]? := h4 0 _ rfl
    have g1 : DataW.trod enc Try.prog W 0 (fun _ => true) true m 3 (([a0, a1, a3].drop 1).take (Try.prog.cellsOf 3)) = xs[1]? := h4 1 _ rfl
    have g3 : DataW.trod enc Try.prog W 0 (fun _ => true) true m 34 (([a0, a1, a3].drop 2).take (Try.prog.cellsOf 34)) = xs[2]? := h4 2 _ rfl
    rw [dkc_int] at g0 g1
    rw [dkc_slb] at g3
    match xs, h3 with
    | [y0, y1, y3], _ =>
      obtain ⟨z0, e0, _, w0⟩ := DataW.trod_int Try.underlying3 g0
      obtain ⟨z1, e1, _, w2⟩ := DataW.trod_int Try.underlying3 g1
      have u0 : a0 = Value.int .i64 z0 := (List.cons.inj (show [a0] = [Value.int .i64 z0] from e0)).1
      have u1 : a1 = Value.int .i64 z1 := (List.cons.inj (show [a1] = [Value.int .i64 z1] from e1)).1
      have g3 : DataW.trod enc Try.prog W 0 (fun _ => true) true m 34 [a3] = some y3 := g3
      obtain ⟨A, n, c, rfl⟩ := slb_form Try.underlying34 g3
      obtain ⟨l, hr, hn, hc, hcap⟩ := open_bytes (a := A) (len := n) (cap := c) (d := y3.1) (p := y3.2) Try.underlying34 Try.underlying5 dkc_u8 ⟨m, by simpa [Value.cells] using g3⟩
      subst u0
      subst u1
      refine ⟨⟨z0, z1, A, n, c, l⟩, rfl, fun hw => ⟨⟨hr, hn, hc, ?_, (bd_i64 w2).1, (bd_i64 w2).2⟩, (bd_i64 w0).1, (bd_i64 w0).2⟩⟩
      rw [hD] at hw
      have h5 : ∀ q ∈ y3.1.weights Try.prog 34, q ≤ 140737488351232 := fun q hq => hw q (by
        rw [DataW.weights, Try.underlying42]
        exact DataW.weights_mem_each (j := 2) (t := 34) rfl rfl q hq)
      show n ≤ _
      rcases hcap with ⟨_, h6, _⟩ | ⟨es, sp, h6, h7, h8⟩
      · omega
      · have h9 := h5 ((es.length + sp.length) * Try.prog.bytesOf 5) (by rw [h6, DataW.weights, Try.underlying34]; simp)
        rw [show Try.prog.bytesOf 5 = 1 by kernel_rfl] at h9
        omega
theorem open_end2 {v : Value} {d : DataW H} {p : List MemPlace} (hv : Value.okWide Try.prog W r b0 42 v) (h : DataW.Trod enc Try.prog W 0 (fun _ => true) true 42 v d p) :
    ∃ a : At, v = .agg a.cs.toArray ∧ ((∀ n ∈ d.weights Try.prog 42, n ≤ 140737488351232) → a.Ok W W.heap.size ∧ -9223372036854775808 ≤ a.k ∧ a.k ≤ 9223372036854775807) := by
  simp only [Value.okWide, Try.underlying42] at hv
  obtain ⟨cs, rfl, h4, _⟩ := hv
  obtain ⟨fuel, hf⟩ := h
  have hl : cs.toList.length = 3 := by rw [Array.length_toList]; exact h4.trans dkc_end
  obtain ⟨a, ha, hk⟩ := end_at2 hl hf
  refine ⟨a, ?_, hk⟩
  have e : cs.toList = a.cs := ha
  rw [← e]
end
end Go.Proofs.Ytjekglnbmccnjaa
