import Derived.Test.YtgigiecdpjchkaaGreatDoorP11
import Derived.Test.YtgigiecdpjchkaaGreatDoorP18
import Derived.Test.YtgigiecdpjchkaaGreatDoorP1
set_option linter.unusedSimpArgs false
set_option linter.unusedVariables false
set_option linter.unusedSectionVars false
set_option maxRecDepth 100000
set_option maxHeartbeats 6400000
namespace Go.Proofs.YtgigiecdpjchkaaGreatDoor
open Go.RowKit
theorem bld_new (w : World) (E : TypeId) (base sz : Nat) (hb : base ≤ w.heap.size) : ∃ q W, q = w.heap.size ∧ W = w.alloc (.cells #[] E) ∧ Blk W q E #[] ∧ Own W base E sz (some ⟨q, 0, none⟩) 0 0 [] ∧ Turn w W none :=
 ⟨_, _, rfl, rfl, Blk.new _ _ _, Own.made w base E sz 0 #[] hb (Nat.zero_le _) (by simp), (Turn.refl w none).alloc _⟩
theorem blk_ne {w : World} {g g' : Nat} {t t' : TypeId} {cs cs' : Array Value} (h : Blk w g t cs) (k : Blk w g' t' cs') (ht : t ≠ t') : ¬(some g = some g') := fun e => by
 injection e with e
 subst e
 have e := (show w.heap[g]? = _ from h).symm.trans (show w.heap[g]? = _ from k)
 simp only [Option.some.injEq, Obj.cells.injEq] at e
 exact ht e.2.1
theorem own_blk {w : World} {base sz n c g : Nat} {E : TypeId} {A : Option Addr} {xs : List Value} (h : Own w base E sz A n c xs) (hg : blk A = some g) : ∃ cs, Blk w g E cs := by
 rcases h.2 with ⟨hv, _⟩ | ⟨g', cap, cur, hv, _, hh, _⟩
 ·injection hv with hA
  subst hA
  cases hg
 ·injection hv with hA
  subst hA
  injection hg with hg
  subst hg
  exact ⟨cur, hh⟩
theorem own_off {w : World} {base base' sz sz' n n' c c' : Nat} {E E' : TypeId} {A A' : Option Addr} {xs xs' : List Value} (h : Own w base E sz A n c xs) (k : Own w base' E' sz' A' n' c' xs') (ht : E' ≠ E) : blk A' = none ∨ blk A ≠ blk A' := by
 cases hg : blk A' with
 | none => exact .inl rfl
 | some g =>
  obtain ⟨cs, hB⟩ := own_blk k hg
  exact .inr (h.not_blk hB ht)
structure OwN (w : World) (base : Nat) (vs : List Value) (i : Nat) (x : Gn) : Prop where
 k : vs[i * 6]? = some (.int .i64 x.k)
 name : vs[i * 6 + 1]? = some (.string (txt x.name))
 size : vs[i * 6 + 2]? = some (.int .i64 x.size)
 syms : ∃ A c, vs[i * 6 + 3]? = some (.slice A x.syms.length c) ∧ Own w base 9 1 A x.syms.length c (vss x.syms)
 items : ∃ A c, vs[i * 6 + 4]? = some (.slice A x.items.length c) ∧ Own w base 3 1 A x.items.length c (vis x.items)
 fields : ∃ A c, vs[i * 6 + 5]? = some (.slice A x.fields.length c) ∧ Own w base 119 3 A x.fields.length c (vfs x.fields)
section
variable {w w' : World} {base i : Nat} {vs vs' : List Value} {x : Gn}
theorem OwN.turn0 (h : OwN w base vs i x) (ht : Turn w w' none) : OwN w' base vs i x :=
 ⟨h.k, h.name, h.size, h.syms.imp fun _ q => q.imp fun _ q => ⟨q.1, q.2.turn0 ht⟩, h.items.imp fun _ q => q.imp fun _ q => ⟨q.1, q.2.turn0 ht⟩, h.fields.imp fun _ q => q.imp fun _ q => ⟨q.1, q.2.turn0 ht⟩⟩
theorem OwN.turnN (h : OwN w base vs i x) {A : Option Addr} {n c : Nat} {xs : List Value} (k : Own w base 64 6 A n c xs) (ht : Turn w w' (blk A)) : OwN w' base vs i x := by
 have go : ∀ {E : TypeId} {sz B m d ys}, E ≠ 64 → Own w base E sz B m d ys → Own w' base E sz B m d ys := fun hE ho => ho.turn ht (own_off ho k hE.symm)
 exact ⟨h.k, h.name, h.size, h.syms.imp fun _ q => q.imp fun _ q => ⟨q.1, go (by decide) q.2⟩, h.items.imp fun _ q => q.imp fun _ q => ⟨q.1, go (by decide) q.2⟩, h.fields.imp fun _ q => q.imp fun _ q => ⟨q.1, go (by decide) q.2⟩⟩
theorem OwN.turnB (h : OwN w base vs i x) {g : Nat} {t : TypeId} {cs : Array Value} (k : Blk w g t cs) (h1 : t ≠ 9) (h2 : t ≠ 3) (h3 : t ≠ 119) (ht : Turn w w' (some g)) : OwN w' base vs i x :=
 ⟨h.k, h.name, h.size, h.syms.imp fun _ q => q.imp fun _ q => ⟨q.1, q.2.turn ht (.inr (q.2.not_blk k h1))⟩, h.items.imp fun _ q => q.imp fun _ q => ⟨q.1, q.2.turn ht (.inr (q.2.not_blk k h2))⟩, h.fields.imp fun _ q => q.imp fun _ q => ⟨q.1, q.2.turn ht (.inr (q.2.not_blk k h3))⟩⟩
theorem OwN.more (h : OwN w base vs i x) (hi : i * 6 + 6 ≤ vs.length) : OwN w base (vs ++ vs') i x := by
 have e : ∀ j v, vs[i * 6 + j]? = some v → (vs ++ vs')[i * 6 + j]? = some v := fun j v hv => by
  rw [List.getElem?_append_left (List.getElem?_eq_some_iff.1 hv).1]; exact hv
 exact ⟨e 0 _ h.k, e 1 _ h.name, e 2 _ h.size, h.syms.imp fun _ q => q.imp fun _ q => ⟨e 3 _ q.1, q.2⟩, h.items.imp fun _ q => q.imp fun _ q => ⟨e 4 _ q.1, q.2⟩, h.fields.imp fun _ q => q.imp fun _ q => ⟨e 5 _ q.1, q.2⟩⟩
theorem OwN.nd (h : OwN w base vs i x) : NdIn w w.heap.size vs i x :=
 ⟨h.k, h.name, h.size, h.syms.elim fun A q => q.elim fun c q => ⟨_, q.1, A, c, rfl, q.2.rd, q.2.cap⟩, h.items.elim fun A q => q.elim fun c q => ⟨_, q.1, A, c, rfl, q.2.rd, q.2.cap⟩, h.fields.elim fun A q => q.elim fun c q => ⟨_, q.1, A, c, rfl, q.2.rd, q.2.cap⟩⟩
end
theorem vss_one (l : List (List UInt8)) : ∀ u ∈ vss l, u.oneCell' = true := fun u hu => by
 obtain ⟨x, _, rfl⟩ := List.mem_map.1 hu
 rfl
theorem vis_one (l : List Int) : ∀ u ∈ vis l, u.oneCell' = true := fun u hu => by
 obtain ⟨x, _, rfl⟩ := List.mem_map.1 hu
 rfl
theorem vfs_one (l : List Gf) : ∀ u ∈ vfs l, u.oneCell' = true := fun u hu => by
 obtain ⟨x, _, hx⟩ := List.mem_flatMap.1 hu
 simp only [List.mem_cons, List.not_mem_nil, or_false] at hx
 rcases hx with rfl | rfl | rfl <;> rfl
def OwInv (w wr : World) (base g g2 g3 : Nat) (A : Option Addr) (n c : Nat) (l : List Gn) (j : Nat) : Prop :=
 Turn w wr none ∧ base ≤ wr.heap.size ∧ Blk wr g 24 ([.slice A n c] : List Value).toArray ∧ Blk wr g2 24 ([.slice none 0 0] : List Value).toArray ∧
 ∃ A' c' vs, Blk wr g3 24 ([.slice A' j c'] : List Value).toArray ∧ Own wr base 64 6 A' j c' vs ∧ ∀ i x, l[i]? = some x → i < j → OwN wr base vs i x
theorem own_next {w wr V L w8 : World} {base g g2 g3 n c j c' c8 : Nat} {A A' A8 A3 A4 A5 : Option Addr} {c3 c4 c5 : Nat} {l : List Gn} {vs : List Value} {x : Gn}
  (hw1 : w.heap.size ≤ g) (hw3 : w.heap.size ≤ g3) (ne13 : g ≠ g3) (ne23 : g2 ≠ g3) (gl : g < base) (gl2 : g2 < base) (gl3 : g3 < base) (tr : Turn w wr none) (hbr : base ≤ wr.heap.size)
  (kg : Blk wr g 24 ([.slice A n c] : List Value).toArray) (kg2 : Blk wr g2 24 ([.slice none 0 0] : List Value).toArray) (kg3 : Blk wr g3 24 ([.slice A' j c'] : List Value).toArray)
  (ko : Own wr base 64 6 A' j c' vs) (kn : ∀ i x, l[i]? = some x → i < j → OwN wr base vs i x) (TL : Turn wr L none)
  (O3 : Own V base 9 1 A3 x.syms.length c3 (vss x.syms)) (O4 : Own V base 3 1 A4 x.items.length c4 (vis x.items)) (O5 : Own V base 119 3 A5 x.fields.length c5 (vfs x.fields)) (tL : Turn V L none) (hx : l[j]? = some x)
  (ho8 : Own w8 base 64 6 A8 (j + 1) c8 (vs ++ [.int .i64 x.k, .string (txt x.name), .int .i64 x.size, .slice A3 x.syms.length c3, .slice A4 x.items.length c4, .slice A5 x.fields.length c5])) (ht8 : Turn L w8 (blk A')) :
  OwInv w (w8.setCell ⟨g3, 0, none⟩ (.slice A8 ((j + 1 : Nat)) c8)) base g g2 g3 A n c l (j + 1) := by
 have KOL := ko.turn0 TL
 have nq : ∀ {q : Nat} {cs : Array Value}, Blk L q 24 cs → some q ≠ blk A' := fun hB e => KOL.not_blk hB (by decide) e.symm
 have G := (kg.turn0 TL).turn ht8 (nq (kg.turn0 TL))
 have G2 := (kg2.turn0 TL).turn ht8 (nq (kg2.turn0 TL))
 have G3 := (kg3.turn0 TL).turn ht8 (nq (kg3.turn0 TL))
 have tA : ∀ q, blk A' = some q → w.heap.size ≤ q := fun q e => by have := (ko.block q e).1; omega
 have T8 : Turn w w8 none := (tr.trans TL).new ht8 tA
 have tS := Blk.setTurn w8 g3 0 (.slice A8 (j + 1) c8)
 have hlen : vs.length = j * 6 := ko.1
 refine ⟨T8.new tS (fun q e => by injection e with e; omega), Nat.le_trans hbr (Nat.le_trans TL.size (Nat.le_trans ht8.size tS.size)), G.turn tS (fun e => ne13 (by injection e)), G2.turn tS (fun e => ne23 (by injection e)), A8, c8, _, G3.sets 0 _, ho8.turn tS (.inr (ho8.not_blk G3 (by decide))), fun i y hy hi => ?_⟩
 by_cases hij : i < j
 ·exact ((((kn i y hy hij).turn0 TL).turnN KOL ht8).turnB G3 (by decide) (by decide) (by decide) tS).more (by rw [hlen]; omega)
 ·obtain rfl : i = j := by omega
  rw [hx] at hy
  obtain rfl := Option.some.inj hy
  have at_ : ∀ q (ys : List Value), (vs ++ ys)[i * 6 + q]? = ys[q]? := fun q ys => by
   rw [List.getElem?_append_right (by rw [hlen]; omega), hlen, Nat.add_sub_cancel_left]
  have go : ∀ {E : TypeId} {sz B m d ys}, E ≠ 64 → E ≠ 24 → Own V base E sz B m d ys → Own (w8.setCell ⟨g3, 0, none⟩ (.slice A8 (i + 1) c8)) base E sz B m d ys := fun h1 h2 ho => by
   have h3 := (ho.turn0 tL).turn ht8 (own_off (ho.turn0 tL) KOL h1.symm)
   exact h3.turn tS (.inr (h3.not_blk G3 h2.symm))
  exact ⟨(at_ 0 _).trans rfl, (at_ 1 _).trans rfl, (at_ 2 _).trans rfl, ⟨A3, c3, (at_ 3 _).trans rfl, go (by decide) (by decide) O3⟩, ⟨A4, c4, (at_ 4 _).trans rfl, go (by decide) (by decide) O4⟩, ⟨A5, c5, (at_ 5 _).trans rfl, go (by decide) (by decide) O5⟩⟩
theorem res_own {w : World} {g : Nat} {v : Value} (h : Blk w g 24 ([v] : List Value).toArray) (tmps : Array Value) (h2 : tmps.getD 2 undef = .pointer (some ⟨g, 0, none⟩)) :
  (results Tryz.f14 tmps).run Tryz.prog w = .ok (.agg #[v]) w := by
 rw [results_cell_one (p := 2) (ty := 24) Tryz.results14, h2]
 simp only [asAddr, Sem.run_pure, Result.andThen_ok]
 exact run_loadVar_mid w g 0 24 [v] _ (h.range (Sub.all _)) Tryz.underlying24 rfl szSch
def regionOf (n : Nat) : Code → Option Code
 | .region k ops d => if k = n then some (.region k ops d) else none
 | .seq a b => (regionOf n a).or (regionOf n b)
 | .cond _ a b => (regionOf n a).or (regionOf n b)
 | .block _ b => regionOf n b
 | .scope b => regionOf n b
 | .loop b => regionOf n b
 | _ => none
theorem of_codeR {P : Program} {C C' : Code} {Q : Exit → Act → World → Prop} {a : Act} {w : World} (h : C = C') (g : Code.wp P C' Q a w) : Code.wp P C Q a w := h ▸ g
noncomputable def ownR : Code := ((Tryz.f14.body).bind (regionOf 6)).getD .skip
theorem own_region {Q : Exit → Act → World → Prop} (hQP : ∀ c (a : Act) o v w, Q (.panic c) (a.put o v) w → Q (.panic c) a w) {wr w5 : World} {base p D : Nat} {x : Gn} {As : Option Addr} {sc : Nat} {Ai : Option Addr} {ic : Nat} {Af : Option Addr} {fc : Nat} (t05 : Turn wr w5 none)
  (hb5 : Blk w5 p 64 ([.int .i64 x.k, .string (txt x.name), .int .i64 x.size, .slice As x.syms.length sc, .slice Ai x.items.length ic, .slice Af x.fields.length fc] : List Value).toArray) (hbr : base ≤ wr.heap.size) (LP : wr.heap.size ≤ p) (hDr : D ≤ wr.heap.size)
  (r3 : Rd wr D 1 As x.syms.length (vss x.syms)) (r4 : Rd wr D 1 Ai x.items.length (vis x.items)) (r5 : Rd wr D 3 Af x.fields.length (vfs x.fields)) (l1 : x.syms.length ≤ 1000000) (l2 : x.items.length ≤ 1000000) (l3 : x.fields.length ≤ 1000000) {e_0 e_1 e_2 e_3 e_4 e_6 e_7 e_8 e_9 e_10 e_11 e_12 e_13 e_14 e_15 e_16 e_17 e_18 e_19 e_20 e_21 e_22 e_23 e_24 e_25 e_26 e_27 e_28 e_29 e_30 e_31 e_32 e_33 e_34 e_35 e_36 e_37 e_38 e_39 e_40 : Value}
  (HQ : ∀ {z_19 z_20 z_21 z_22 z_23 z_24 z_25 z_26 z_27 z_28 z_29 z_30 z_31 z_32 z_33 : Value} (V3 : World) (A3 : Option Addr) (c3 : Nat) (A4 : Option Addr) (c4 : Nat) (A5 : Option Addr) (c5 : Nat), Blk V3 p 64 ([.int .i64 x.k, .string (txt x.name), .int .i64 x.size, .slice A3 x.syms.length c3, .slice A4 x.items.length c4, .slice A5 x.fields.length c5] : List Value).toArray →
   Own V3 base 9 1 A3 x.syms.length c3 (vss x.syms) → Own V3 base 3 1 A4 x.items.length c4 (vis x.items) → Own V3 base 119 3 A5 x.fields.length c5 (vfs x.fields) → Turn wr V3 none → Q .normal ⟨List.toArray (e_0 :: e_1 :: e_2 :: e_3 :: e_4 :: .pointer (some ⟨p, 0, none⟩) :: e_6 :: e_7 :: e_8 :: e_9 :: e_10 :: e_11 :: e_12 :: e_13 :: e_14 :: e_15 :: e_16 :: e_17 :: e_18 :: z_19 :: z_20 :: z_21 :: z_22 :: z_23 :: z_24 :: z_25 :: z_26 :: z_27 :: z_28 :: z_29 :: z_30 :: z_31 :: z_32 :: z_33 :: e_34 :: e_35 :: e_36 :: e_37 :: e_38 :: e_39 :: e_40 :: []), []⟩ V3) :
  Code.wp Tryz.prog ownR Q ⟨List.toArray (e_0 :: e_1 :: e_2 :: e_3 :: e_4 :: .pointer (some ⟨p, 0, none⟩) :: e_6 :: e_7 :: e_8 :: e_9 :: e_10 :: e_11 :: e_12 :: e_13 :: e_14 :: e_15 :: e_16 :: e_17 :: e_18 :: e_19 :: e_20 :: e_21 :: e_22 :: e_23 :: e_24 :: e_25 :: e_26 :: e_27 :: e_28 :: e_29 :: e_30 :: e_31 :: e_32 :: e_33 :: e_34 :: e_35 :: e_36 :: e_37 :: e_38 :: e_39 :: e_40 :: []), []⟩ w5 := by
 conv => arg 2; whnf
 obtain ⟨W0, hW0⟩ : ∃ W0, W0 = w5.drew := ⟨_, rfl⟩
 have TW : Turn wr W0 none := by rw [hW0]; exact t05.drew
 have HP : Blk W0 p 64 ([.int .i64 x.k, .string (txt x.name), .int .i64 x.size, .slice As x.syms.length sc, .slice Ai x.items.length ic, .slice Af x.fields.length fc] : List Value).toArray := by rw [hW0]; exact hb5.drew
 have S3 : W0.cell? ⟨p, 3, none⟩ = some (.slice As x.syms.length sc) := HP.ats rfl
 have S4 : W0.cell? ⟨p, 4, none⟩ = some (.slice Ai x.items.length ic) := HP.ats rfl
 have S5 : W0.cell? ⟨p, 5, none⟩ = some (.slice Af x.fields.length fc) := HP.ats rfl
 have HB : base ≤ W0.heap.size := Nat.le_trans hbr TW.size
 refine wp_region_two 13 (fun W => W.cell? ⟨p, 3, none⟩ = some (.slice As x.syms.length sc) ∧ W.cell? ⟨p, 4, none⟩ = some (.slice Ai x.items.length ic) ∧ W.cell? ⟨p, 5, none⟩ = some (.slice Af x.fields.length fc)) (by kernel_rfl) (by rw [← hW0]; exact ⟨S3, S4, S5⟩) ?_
 rw [← hW0]
 intro hHeld
 clear hb5 t05 hW0
 (refine wpTwo_take (i := 1) (v := ?_) rfl rfl (by kernel_rfl) (by kernel_rfl) (by kernel_rfl) (by kernel_rfl) (by kernel_rfl) (by decide) (fun c a w h => hQP c a _ _ w h) (Or.inl ⟨rfl, ?_⟩) (by assumption) ?_; rotate_left 1; · (intro w hSw; (try dsimp only at hSw); go_simp; (try with_reducible rfl))); (try simp only [Act.put, zs])
 (refine wpTwo_take (i := 2) (v := ?_) rfl rfl (by kernel_rfl) (by kernel_rfl) (by kernel_rfl) (by kernel_rfl) (by kernel_rfl) (by decide) (fun c a w h => hQP c a _ _ w h) (Or.inl ⟨rfl, ?_⟩) (by assumption) ?_; rotate_left 1; · (intro w hSw; (try dsimp only at hSw); go_simp; (try with_reducible rfl))); (try simp only [Act.put, zs])
 (refine wpTwo_take (i := 5) (v := ?_) rfl rfl (by kernel_rfl) (by kernel_rfl) (by kernel_rfl) (by kernel_rfl) (by kernel_rfl) (by decide) (fun c a w h => hQP c a _ _ w h) (Or.inl ⟨rfl, ?_⟩) (by assumption) ?_; rotate_left 1; · (intro w hSw; (try dsimp only at hSw); go_simp; (try with_reducible rfl))); (try simp only [Act.put, zs])
 (refine wpTwo_take (i := 6) (v := ?_) rfl rfl (by kernel_rfl) (by kernel_rfl) (by kernel_rfl) (by kernel_rfl) (by kernel_rfl) (by decide) (fun c a w h => hQP c a _ _ w h) (Or.inl ⟨rfl, ?_⟩) (by assumption) ?_; rotate_left 1; · (intro w hSw; (try dsimp only at hSw); go_simp; (try with_reducible rfl))); (try simp only [Act.put, zs])
 (refine wpTwo_take (i := 9) (v := ?_) rfl rfl (by kernel_rfl) (by kernel_rfl) (by kernel_rfl) (by kernel_rfl) (by kernel_rfl) (by decide) (fun c a w h => hQP c a _ _ w h) (Or.inl ⟨rfl, ?_⟩) (by assumption) ?_; rotate_left 1; · (intro w hSw; (try dsimp only at hSw); go_simp; (try with_reducible rfl))); (try simp only [Act.put, zs])
 (refine wpTwo_take (i := 10) (v := ?_) rfl rfl (by kernel_rfl) (by kernel_rfl) (by kernel_rfl) (by kernel_rfl) (by kernel_rfl) (by decide) (fun c a w h => hQP c a _ _ w h) (Or.inl ⟨rfl, ?_⟩) (by assumption) ?_; rotate_left 1; · (intro w hSw; (try dsimp only at hSw); go_simp; (try with_reducible rfl))); (try simp only [Act.put, zs])
 refine wpTwo_ready (rs := [0, 4, 8]) (by kernel_rfl) (by simp) ?_
 refine AllTwo.cons rfl (fun K hK => ?_) ?_
 ·go_simp
  obtain ⟨q3, W1, hq, hW, BK3, BO3, ht⟩ := bld_new W0 9 base 1 HB
  rw [← hW, ← hq]
  have LQ3 : wr.heap.size ≤ q3 := by rw [hq]; exact TW.size
  clear hq hW
  have HP := HP.turn0 ht
  have S3 : W1.cell? ⟨p, 3, none⟩ = some (.slice As x.syms.length sc) := HP.ats rfl
  have S4 : W1.cell? ⟨p, 4, none⟩ = some (.slice Ai x.items.length ic) := HP.ats rfl
  have S5 : W1.cell? ⟨p, 5, none⟩ = some (.slice Af x.fields.length fc) := HP.ats rfl
  have TW := TW.trans ht
  have HB := Nat.le_trans HB ht.size
  refine hK.out _ _ (.inr ⟨S3, S4, S5⟩) ?_; clear hK K; (try simp only [Act.put, zs])
  clear ht
  refine wpTwo_ready (rs := [3, 4, 8]) (by kernel_rfl) (by simp) ?_
  refine AllTwo.cons rfl (fun K hK => ?_) ?_
  ·refine st_app (base := base) rfl _ _ _ rfl elS rfl rfl BO3 (r3.turn0 TW hDr) (vss_one _) (by unfold maxLen; first | omega | (simp; done) | (simp; omega)) (by first | omega | (simp; done) | (simp; omega)) HB ?_
   intro A3 c3 W2 AO3 ht hb
   rw [Nat.zero_add, List.nil_append] at AO3
   rw [Nat.zero_add]
   replace ht : Turn W1 W2 (some q3) := ht
   have HP := HP.turn ht (blk_ne HP BK3 (by decide))
   have S3 : W2.cell? ⟨p, 3, none⟩ = some (.slice As x.syms.length sc) := HP.ats rfl
   have S4 : W2.cell? ⟨p, 4, none⟩ = some (.slice Ai x.items.length ic) := HP.ats rfl
   have S5 : W2.cell? ⟨p, 5, none⟩ = some (.slice Af x.fields.length fc) := HP.ats rfl
   have TW := TW.new ht (fun g e => by injection e with e; omega)
   have HB := Nat.le_trans HB ht.size
   refine hK.out _ _ (.inr ⟨S3, S4, S5⟩) ?_; clear hK K; (try simp only [Act.put, zs])
   clear ht BK3 BO3
   have hHeld : W2.cell? ⟨p, 3, none⟩ = some (.slice As x.syms.length sc) ∧ W2.cell? ⟨p, 4, none⟩ = some (.slice Ai x.items.length ic) ∧ W2.cell? ⟨p, 5, none⟩ = some (.slice Af x.fields.length fc) := ⟨S3, S4, S5⟩
   (refine wpTwo_take (i := 12) (v := ?_) rfl rfl (by kernel_rfl) (by kernel_rfl) (by kernel_rfl) (by kernel_rfl) (by kernel_rfl) (by decide) (fun c a w h => hQP c a _ _ w h) (Or.inl ⟨rfl, ?_⟩) (by assumption) ?_; rotate_left 1; · (intro w hSw; (try dsimp only at hSw); go_simp; (try with_reducible rfl))); (try simp only [Act.put, zs])
   clear hHeld
   refine wpTwo_ready (rs := [4, 8]) (by kernel_rfl) (by simp) ?_
   refine AllTwo.cons rfl (fun K hK => ?_) ?_
   ·go_simp
    obtain ⟨q4, W3, hq, hW, BK4, BO4, ht⟩ := bld_new W2 3 base 1 HB
    rw [← hW, ← hq]
    have LQ4 : wr.heap.size ≤ q4 := by rw [hq]; exact TW.size
    clear hq hW
    have AO3 := AO3.turn0 ht
    have HP := HP.turn0 ht
    have S3 : W3.cell? ⟨p, 3, none⟩ = some (.slice As x.syms.length sc) := HP.ats rfl
    have S4 : W3.cell? ⟨p, 4, none⟩ = some (.slice Ai x.items.length ic) := HP.ats rfl
    have S5 : W3.cell? ⟨p, 5, none⟩ = some (.slice Af x.fields.length fc) := HP.ats rfl
    have TW := TW.trans ht
    have HB := Nat.le_trans HB ht.size
    refine hK.out _ _ (.inr ⟨S3, S4, S5⟩) ?_; clear hK K; (try simp only [Act.put, zs])
    clear ht
    refine wpTwo_ready (rs := [7, 8]) (by kernel_rfl) (by simp) ?_
    refine AllTwo.cons rfl (fun K hK => ?_) ?_
    ·refine st_app (base := base) rfl _ _ _ rfl elI rfl rfl BO4 (r4.turn0 TW hDr) (vis_one _) (by unfold maxLen; first | omega | (simp; done) | (simp; omega)) (by first | omega | (simp; done) | (simp; omega)) HB ?_
     intro A4 c4 W4 AO4 ht hb
     rw [Nat.zero_add, List.nil_append] at AO4
     rw [Nat.zero_add]
     replace ht : Turn W3 W4 (some q4) := ht
     have AO3 := AO3.turn ht (.inr (AO3.not_blk BK4 (by decide)))
     have HP := HP.turn ht (blk_ne HP BK4 (by decide))
     have S3 : W4.cell? ⟨p, 3, none⟩ = some (.slice As x.syms.length sc) := HP.ats rfl
     have S4 : W4.cell? ⟨p, 4, none⟩ = some (.slice Ai x.items.length ic) := HP.ats rfl
     have S5 : W4.cell? ⟨p, 5, none⟩ = some (.slice Af x.fields.length fc) := HP.ats rfl
     have TW := TW.new ht (fun g e => by injection e with e; omega)
     have HB := Nat.le_trans HB ht.size
     refine hK.out _ _ (.inr ⟨S3, S4, S5⟩) ?_; clear hK K; (try simp only [Act.put, zs])
     clear ht BK4 BO4
     refine wpTwo_ready (rs := [8]) (by kernel_rfl) (by simp) ?_
     refine AllTwo.cons rfl (fun K hK => ?_) AllTwo.nil
     go_simp
     obtain ⟨q5, W5, hq, hW, BK5, BO5, ht⟩ := bld_new W4 119 base 3 HB
     rw [← hW, ← hq]
     have LQ5 : wr.heap.size ≤ q5 := by rw [hq]; exact TW.size
     clear hq hW
     have AO3 := AO3.turn0 ht
     have AO4 := AO4.turn0 ht
     have HP := HP.turn0 ht
     have S3 : W5.cell? ⟨p, 3, none⟩ = some (.slice As x.syms.length sc) := HP.ats rfl
     have S4 : W5.cell? ⟨p, 4, none⟩ = some (.slice Ai x.items.length ic) := HP.ats rfl
     have S5 : W5.cell? ⟨p, 5, none⟩ = some (.slice Af x.fields.length fc) := HP.ats rfl
     have TW := TW.trans ht
     have HB := Nat.le_trans HB ht.size
     refine hK.out _ _ (.inr ⟨S3, S4, S5⟩) ?_; clear hK K; (try simp only [Act.put, zs])
     clear ht
     refine wpTwo_ready (rs := [11]) (by kernel_rfl) (by simp) ?_
     refine AllTwo.cons rfl (fun K hK => ?_) AllTwo.nil
     refine st_app (base := base) rfl _ _ _ rfl elF rfl rfl BO5 (r5.turn0 TW hDr) (vfs_one _) (by unfold maxLen; first | omega | (simp; done) | (simp; omega)) (by first | omega | (simp; done) | (simp; omega)) HB ?_
     intro A5 c5 W6 AO5 ht hb
     rw [Nat.zero_add, List.nil_append] at AO5
     rw [Nat.zero_add]
     replace ht : Turn W5 W6 (some q5) := ht
     have AO3 := AO3.turn ht (.inr (AO3.not_blk BK5 (by decide)))
     have AO4 := AO4.turn ht (.inr (AO4.not_blk BK5 (by decide)))
     have HP := HP.turn ht (blk_ne HP BK5 (by decide))
     have S3 : W6.cell? ⟨p, 3, none⟩ = some (.slice As x.syms.length sc) := HP.ats rfl
     have S4 : W6.cell? ⟨p, 4, none⟩ = some (.slice Ai x.items.length ic) := HP.ats rfl
     have S5 : W6.cell? ⟨p, 5, none⟩ = some (.slice Af x.fields.length fc) := HP.ats rfl
     have TW := TW.new ht (fun g e => by injection e with e; omega)
     have HB := Nat.le_trans HB ht.size
     refine hK.out _ _ (.inr ⟨S3, S4, S5⟩) ?_; clear hK K; (try simp only [Act.put, zs])
     clear ht BK5 BO5
     refine wpTwo_ready (rs := [13]) (by kernel_rfl) (by simp) ?_
     refine AllTwo.cons rfl (fun K hK => ?_) AllTwo.nil
     have z0 := fun j => HP.frozen j
     go_simp
     obtain ⟨V1, hV1⟩ : ∃ V1, V1 = W6.setCell ⟨p, 3, none⟩ (.slice A3 x.syms.length c3) := ⟨_, rfl⟩
     have HP1 : Blk V1 p 64 ([.int .i64 x.k, .string (txt x.name), .int .i64 x.size, .slice A3 x.syms.length c3, .slice Ai x.items.length ic, .slice Af x.fields.length fc] : List Value).toArray := by rw [hV1]; exact HP.sets 3 _
     have tV1 : Turn W6 V1 (some p) := by rw [hV1]; exact Blk.setTurn W6 p 3 _
     rw [← hV1]
     clear hV1 z0
     refine hK.out _ _ (.inl rfl) ?_; clear hK K; (try simp only [Act.put, zs])
     refine wpTwo_ready (rs := [14]) (by kernel_rfl) (by simp) ?_
     refine AllTwo.cons rfl (fun K hK => ?_) AllTwo.nil
     go_simp
     refine hK.out _ _ (.inl rfl) ?_; clear hK K; (try simp only [Act.put, zs])
     refine wpTwo_ready (rs := [15]) (by kernel_rfl) (by simp) ?_
     refine AllTwo.cons rfl (fun K hK => ?_) AllTwo.nil
     have z1 := fun j => HP1.frozen j
     have y4 : V1.cell? ⟨p, 4, none⟩ = some (.slice Ai x.items.length ic) := HP1.ats rfl
     go_simp
     obtain ⟨V2, hV2⟩ : ∃ V2, V2 = V1.setCell ⟨p, 4, none⟩ (.slice A4 x.items.length c4) := ⟨_, rfl⟩
     have HP2 : Blk V2 p 64 ([.int .i64 x.k, .string (txt x.name), .int .i64 x.size, .slice A3 x.syms.length c3, .slice A4 x.items.length c4, .slice Af x.fields.length fc] : List Value).toArray := by rw [hV2]; exact HP1.sets 4 _
     have tV2 : Turn V1 V2 (some p) := by rw [hV2]; exact Blk.setTurn V1 p 4 _
     rw [← hV2]
     clear hV2 z1 y4
     refine hK.out _ _ (.inl rfl) ?_; clear hK K; (try simp only [Act.put, zs])
     refine wpTwo_ready (rs := [16]) (by kernel_rfl) (by simp) ?_
     refine AllTwo.cons rfl (fun K hK => ?_) AllTwo.nil
     go_simp
     refine hK.out _ _ (.inl rfl) ?_; clear hK K; (try simp only [Act.put, zs])
     refine wpTwo_ready (rs := [17]) (by kernel_rfl) (by simp) ?_
     refine AllTwo.cons rfl (fun K hK => ?_) AllTwo.nil
     have z2 := fun j => HP2.frozen j
     have y5 : V2.cell? ⟨p, 5, none⟩ = some (.slice Af x.fields.length fc) := HP2.ats rfl
     go_simp
     obtain ⟨V3, hV3⟩ : ∃ V3, V3 = V2.setCell ⟨p, 5, none⟩ (.slice A5 x.fields.length c5) := ⟨_, rfl⟩
     have HP3 : Blk V3 p 64 ([.int .i64 x.k, .string (txt x.name), .int .i64 x.size, .slice A3 x.syms.length c3, .slice A4 x.items.length c4, .slice A5 x.fields.length c5] : List Value).toArray := by rw [hV3]; exact HP2.sets 5 _
     have tV3 : Turn V2 V3 (some p) := by rw [hV3]; exact Blk.setTurn V2 p 5 _
     rw [← hV3]
     clear hV3 z2 y5
     refine hK.out _ _ (.inl rfl) ?_; clear hK K; (try simp only [Act.put, zs])
     refine wpTwo_done (by kernel_rfl) ?_ _
     have tp := (tV1.trans tV2).trans tV3
     have O3 := AO3.turn tp (.inr (AO3.not_blk HP (by decide)))
     have O4 := AO4.turn tp (.inr (AO4.not_blk HP (by decide)))
     have O5 := AO5.turn tp (.inr (AO5.not_blk HP (by decide)))
     have TV : Turn wr V3 none := TW.new tp (fun g e => by injection e with e; omega)
     exact HQ V3 A3 c3 A4 c4 A5 c5 HP3 O3 O4 O5 TV
    refine AllTwo.cons rfl (fun K hK => ?_) AllTwo.nil
    go_simp
    obtain ⟨q5, W4, hq, hW, BK5, BO5, ht⟩ := bld_new W3 119 base 3 HB
    rw [← hW, ← hq]
    have LQ5 : wr.heap.size ≤ q5 := by rw [hq]; exact TW.size
    clear hq hW
    have AO3 := AO3.turn0 ht
    have BO4 := BO4.turn0 ht
    have BK4 := BK4.turn0 ht
    have HP := HP.turn0 ht
    have S3 : W4.cell? ⟨p, 3, none⟩ = some (.slice As x.syms.length sc) := HP.ats rfl
    have S4 : W4.cell? ⟨p, 4, none⟩ = some (.slice Ai x.items.length ic) := HP.ats rfl
    have S5 : W4.cell? ⟨p, 5, none⟩ = some (.slice Af x.fields.length fc) := HP.ats rfl
    have TW := TW.trans ht
    have HB := Nat.le_trans HB ht.size
    refine hK.out _ _ (.inr ⟨S3, S4, S5⟩) ?_; clear hK K; (try simp only [Act.put, zs])
    clear ht
    refine wpTwo_ready (rs := [7]) (by kernel_rfl) (by simp) ?_
    refine AllTwo.cons rfl (fun K hK => ?_) AllTwo.nil
    refine st_app (base := base) rfl _ _ _ rfl elI rfl rfl BO4 (r4.turn0 TW hDr) (vis_one _) (by unfold maxLen; first | omega | (simp; done) | (simp; omega)) (by first | omega | (simp; done) | (simp; omega)) HB ?_
    intro A4 c4 W5 AO4 ht hb
    rw [Nat.zero_add, List.nil_append] at AO4
    rw [Nat.zero_add]
    replace ht : Turn W4 W5 (some q4) := ht
    have AO3 := AO3.turn ht (.inr (AO3.not_blk BK4 (by decide)))
    have BO5 := BO5.turn ht (.inr (BO5.not_blk BK4 (by decide)))
    have BK5 := BK5.turn ht (blk_ne BK5 BK4 (by decide))
    have HP := HP.turn ht (blk_ne HP BK4 (by decide))
    have S3 : W5.cell? ⟨p, 3, none⟩ = some (.slice As x.syms.length sc) := HP.ats rfl
    have S4 : W5.cell? ⟨p, 4, none⟩ = some (.slice Ai x.items.length ic) := HP.ats rfl
    have S5 : W5.cell? ⟨p, 5, none⟩ = some (.slice Af x.fields.length fc) := HP.ats rfl
    have TW := TW.new ht (fun g e => by injection e with e; omega)
    have HB := Nat.le_trans HB ht.size
    refine hK.out _ _ (.inr ⟨S3, S4, S5⟩) ?_; clear hK K; (try simp only [Act.put, zs])
    clear ht BK4 BO4
    refine wpTwo_ready (rs := [11]) (by kernel_rfl) (by simp) ?_
    refine AllTwo.cons rfl (fun K hK => ?_) AllTwo.nil
    refine st_app (base := base) rfl _ _ _ rfl elF rfl rfl BO5 (r5.turn0 TW hDr) (vfs_one _) (by unfold maxLen; first | omega | (simp; done) | (simp; omega)) (by first | omega | (simp; done) | (simp; omega)) HB ?_
    intro A5 c5 W6 AO5 ht hb
    rw [Nat.zero_add, List.nil_append] at AO5
    rw [Nat.zero_add]
    replace ht : Turn W5 W6 (some q5) := ht
    have AO3 := AO3.turn ht (.inr (AO3.not_blk BK5 (by decide)))
    have AO4 := AO4.turn ht (.inr (AO4.not_blk BK5 (by decide)))
    have HP := HP.turn ht (blk_ne HP BK5 (by decide))
    have S3 : W6.cell? ⟨p, 3, none⟩ = some (.slice As x.syms.length sc) := HP.ats rfl
    have S4 : W6.cell? ⟨p, 4, none⟩ = some (.slice Ai x.items.length ic) := HP.ats rfl
    have S5 : W6.cell? ⟨p, 5, none⟩ = some (.slice Af x.fields.length fc) := HP.ats rfl
    have TW := TW.new ht (fun g e => by injection e with e; omega)
    have HB := Nat.le_trans HB ht.size
    refine hK.out _ _ (.inr ⟨S3, S4, S5⟩) ?_; clear hK K; (try simp only [Act.put, zs])
    clear ht BK5 BO5
    refine wpTwo_ready (rs := [13]) (by kernel_rfl) (by simp) ?_
    refine AllTwo.cons rfl (fun K hK => ?_) AllTwo.nil
    have z0 := fun j => HP.frozen j
    go_simp
    obtain ⟨V1, hV1⟩ : ∃ V1, V1 = W6.setCell ⟨p, 3, none⟩ (.slice A3 x.syms.length c3) := ⟨_, rfl⟩
    have HP1 : Blk V1 p 64 ([.int .i64 x.k, .string (txt x.name), .int .i64 x.size, .slice A3 x.syms.length c3, .slice Ai x.items.length ic, .slice Af x.fields.length fc] : List Value).toArray := by rw [hV1]; exact HP.sets 3 _
    have tV1 : Turn W6 V1 (some p) := by rw [hV1]; exact Blk.setTurn W6 p 3 _
    rw [← hV1]
    clear hV1 z0
    refine hK.out _ _ (.inl rfl) ?_; clear hK K; (try simp only [Act.put, zs])
    refine wpTwo_ready (rs := [14]) (by kernel_rfl) (by simp) ?_
    refine AllTwo.cons rfl (fun K hK => ?_) AllTwo.nil
    go_simp
    refine hK.out _ _ (.inl rfl) ?_; clear hK K; (try simp only [Act.put, zs])
    refine wpTwo_ready (rs := [15]) (by kernel_rfl) (by simp) ?_
    refine AllTwo.cons rfl (fun K hK => ?_) AllTwo.nil
    have z1 := fun j => HP1.frozen j
    have y4 : V1.cell? ⟨p, 4, none⟩ = some (.slice Ai x.items.length ic) := HP1.ats rfl
    go_simp
    obtain ⟨V2, hV2⟩ : ∃ V2, V2 = V1.setCell ⟨p, 4, none⟩ (.slice A4 x.items.length c4) := ⟨_, rfl⟩
    have HP2 : Blk V2 p 64 ([.int .i64 x.k, .string (txt x.name), .int .i64 x.size, .slice A3 x.syms.length c3, .slice A4 x.items.length c4, .slice Af x.fields.length fc] : List Value).toArray := by rw [hV2]; exact HP1.sets 4 _
    have tV2 : Turn V1 V2 (some p) := by rw [hV2]; exact Blk.setTurn V1 p 4 _
    rw [← hV2]
    clear hV2 z1 y4
    refine hK.out _ _ (.inl rfl) ?_; clear hK K; (try simp only [Act.put, zs])
    refine wpTwo_ready (rs := [16]) (by kernel_rfl) (by simp) ?_
    refine AllTwo.cons rfl (fun K hK => ?_) AllTwo.nil
    go_simp
    refine hK.out _ _ (.inl rfl) ?_; clear hK K; (try simp only [Act.put, zs])
    refine wpTwo_ready (rs := [17]) (by kernel_rfl) (by simp) ?_
    refine AllTwo.cons rfl (fun K hK => ?_) AllTwo.nil
    have z2 := fun j => HP2.frozen j
    have y5 : V2.cell? ⟨p, 5, none⟩ = some (.slice Af x.fields.length fc) := HP2.ats rfl
    go_simp
    obtain ⟨V3, hV3⟩ : ∃ V3, V3 = V2.setCell ⟨p, 5, none⟩ (.slice A5 x.fields.length c5) := ⟨_, rfl⟩
    have HP3 : Blk V3 p 64 ([.int .i64 x.k, .string (txt x.name), .int .i64 x.size, .slice A3 x.syms.length c3, .slice A4 x.items.length c4, .slice A5 x.fields.length c5] : List Value).toArray := by rw [hV3]; exact HP2.sets 5 _
    have tV3 : Turn V2 V3 (some p) := by rw [hV3]; exact Blk.setTurn V2 p 5 _
    rw [← hV3]
    clear hV3 z2 y5
    refine hK.out _ _ (.inl rfl) ?_; clear hK K; (try simp only [Act.put, zs])
    refine wpTwo_done (by kernel_rfl) ?_ _
    have tp := (tV1.trans tV2).trans tV3
    have O3 := AO3.turn tp (.inr (AO3.not_blk HP (by decide)))
    have O4 := AO4.turn tp (.inr (AO4.not_blk HP (by decide)))
    have O5 := AO5.turn tp (.inr (AO5.not_blk HP (by decide)))
    have TV : Turn wr V3 none := TW.new tp (fun g e => by injection e with e; omega)
    exact HQ V3 A3 c3 A4 c4 A5 c5 HP3 O3 O4 O5 TV
   refine AllTwo.cons rfl (fun K hK => ?_) AllTwo.nil
   go_simp
   obtain ⟨q5, W3, hq, hW, BK5, BO5, ht⟩ := bld_new W2 119 base 3 HB
   rw [← hW, ← hq]
   have LQ5 : wr.heap.size ≤ q5 := by rw [hq]; exact TW.size
   clear hq hW
   have AO3 := AO3.turn0 ht
   have HP := HP.turn0 ht
   have S3 : W3.cell? ⟨p, 3, none⟩ = some (.slice As x.syms.length sc) := HP.ats rfl
   have S4 : W3.cell? ⟨p, 4, none⟩ = some (.slice Ai x.items.length ic) := HP.ats rfl
   have S5 : W3.cell? ⟨p, 5, none⟩ = some (.slice Af x.fields.length fc) := HP.ats rfl
   have TW := TW.trans ht
   have HB := Nat.le_trans HB ht.size
   refine hK.out _ _ (.inr ⟨S3, S4, S5⟩) ?_; clear hK K; (try simp only [Act.put, zs])
   clear ht
   refine wpTwo_ready (rs := [4]) (by kernel_rfl) (by simp) ?_
   refine AllTwo.cons rfl (fun K hK => ?_) AllTwo.nil
   go_simp
   obtain ⟨q4, W4, hq, hW, BK4, BO4, ht⟩ := bld_new W3 3 base 1 HB
   rw [← hW, ← hq]
   have LQ4 : wr.heap.size ≤ q4 := by rw [hq]; exact TW.size
   clear hq hW
   have AO3 := AO3.turn0 ht
   have BO5 := BO5.turn0 ht
   have BK5 := BK5.turn0 ht
   have HP := HP.turn0 ht
   have S3 : W4.cell? ⟨p, 3, none⟩ = some (.slice As x.syms.length sc) := HP.ats rfl
   have S4 : W4.cell? ⟨p, 4, none⟩ = some (.slice Ai x.items.length ic) := HP.ats rfl
   have S5 : W4.cell? ⟨p, 5, none⟩ = some (.slice Af x.fields.length fc) := HP.ats rfl
   have TW := TW.trans ht
   have HB := Nat.le_trans HB ht.size
   refine hK.out _ _ (.inr ⟨S3, S4, S5⟩) ?_; clear hK K; (try simp only [Act.put, zs])
   clear ht
   refine wpTwo_ready (rs := [7]) (by kernel_rfl) (by simp) ?_
   refine AllTwo.cons rfl (fun K hK => ?_) AllTwo.nil
   refine st_app (base := base) rfl _ _ _ rfl elI rfl rfl BO4 (r4.turn0 TW hDr) (vis_one _) (by unfold maxLen; first | omega | (simp; done) | (simp; omega)) (by first | omega | (simp; done) | (simp; omega)) HB ?_
   intro A4 c4 W5 AO4 ht hb
   rw [Nat.zero_add, List.nil_append] at AO4
   rw [Nat.zero_add]
   replace ht : Turn W4 W5 (some q4) := ht
   have AO3 := AO3.turn ht (.inr (AO3.not_blk BK4 (by decide)))
   have BO5 := BO5.turn ht (.inr (BO5.not_blk BK4 (by decide)))
   have BK5 := BK5.turn ht (blk_ne BK5 BK4 (by decide))
   have HP := HP.turn ht (blk_ne HP BK4 (by decide))
   have S3 : W5.cell? ⟨p, 3, none⟩ = some (.slice As x.syms.length sc) := HP.ats rfl
   have S4 : W5.cell? ⟨p, 4, none⟩ = some (.slice Ai x.items.length ic) := HP.ats rfl
   have S5 : W5.cell? ⟨p, 5, none⟩ = some (.slice Af x.fields.length fc) := HP.ats rfl
   have TW := TW.new ht (fun g e => by injection e with e; omega)
   have HB := Nat.le_trans HB ht.size
   refine hK.out _ _ (.inr ⟨S3, S4, S5⟩) ?_; clear hK K; (try simp only [Act.put, zs])
   clear ht BK4 BO4
   refine wpTwo_ready (rs := [11]) (by kernel_rfl) (by simp) ?_
   refine AllTwo.cons rfl (fun K hK => ?_) AllTwo.nil
   refine st_app (base := base) rfl _ _ _ rfl elF rfl rfl BO5 (r5.turn0 TW hDr) (vfs_one _) (by unfold maxLen; first | omega | (simp; done) | (simp; omega)) (by first | omega | (simp; done) | (simp; omega)) HB ?_
   intro A5 c5 W6 AO5 ht hb
   rw [Nat.zero_add, List.nil_append] at AO5
   rw [Nat.zero_add]
   replace ht : Turn W5 W6 (some q5) := ht
   have AO3 := AO3.turn ht (.inr (AO3.not_blk BK5 (by decide)))
   have AO4 := AO4.turn ht (.inr (AO4.not_blk BK5 (by decide)))
   have HP := HP.turn ht (blk_ne HP BK5 (by decide))
   have S3 : W6.cell? ⟨p, 3, none⟩ = some (.slice As x.syms.length sc) := HP.ats rfl
   have S4 : W6.cell? ⟨p, 4, none⟩ = some (.slice Ai x.items.length ic) := HP.ats rfl
   have S5 : W6.cell? ⟨p, 5, none⟩ = some (.slice Af x.fields.length fc) := HP.ats rfl
   have TW := TW.new ht (fun g e => by injection e with e; omega)
   have HB := Nat.le_trans HB ht.size
   refine hK.out _ _ (.inr ⟨S3, S4, S5⟩) ?_; clear hK K; (try simp only [Act.put, zs])
   clear ht BK5 BO5
   refine wpTwo_ready (rs := [13]) (by kernel_rfl) (by simp) ?_
   refine AllTwo.cons rfl (fun K hK => ?_) AllTwo.nil
   have z0 := fun j => HP.frozen j
   go_simp
   obtain ⟨V1, hV1⟩ : ∃ V1, V1 = W6.setCell ⟨p, 3, none⟩ (.slice A3 x.syms.length c3) := ⟨_, rfl⟩
   have HP1 : Blk V1 p 64 ([.int .i64 x.k, .string (txt x.name), .int .i64 x.size, .slice A3 x.syms.length c3, .slice Ai x.items.length ic, .slice Af x.fields.length fc] : List Value).toArray := by rw [hV1]; exact HP.sets 3 _
   have tV1 : Turn W6 V1 (some p) := by rw [hV1]; exact Blk.setTurn W6 p 3 _
   rw [← hV1]
   clear hV1 z0
   refine hK.out _ _ (.inl rfl) ?_; clear hK K; (try simp only [Act.put, zs])
   refine wpTwo_ready (rs := [14]) (by kernel_rfl) (by simp) ?_
   refine AllTwo.cons rfl (fun K hK => ?_) AllTwo.nil
   go_simp
   refine hK.out _ _ (.inl rfl) ?_; clear hK K; (try simp only [Act.put, zs])
   refine wpTwo_ready (rs := [15]) (by kernel_rfl) (by simp) ?_
   refine AllTwo.cons rfl (fun K hK => ?_) AllTwo.nil
   have z1 := fun j => HP1.frozen j
   have y4 : V1.cell? ⟨p, 4, none⟩ = some (.slice Ai x.items.length ic) := HP1.ats rfl
   go_simp
   obtain ⟨V2, hV2⟩ : ∃ V2, V2 = V1.setCell ⟨p, 4, none⟩ (.slice A4 x.items.length c4) := ⟨_, rfl⟩
   have HP2 : Blk V2 p 64 ([.int .i64 x.k, .string (txt x.name), .int .i64 x.size, .slice A3 x.syms.length c3, .slice A4 x.items.length c4, .slice Af x.fields.length fc] : List Value).toArray := by rw [hV2]; exact HP1.sets 4 _
   have tV2 : Turn V1 V2 (some p) := by rw [hV2]; exact Blk.setTurn V1 p 4 _
   rw [← hV2]
   clear hV2 z1 y4
   refine hK.out _ _ (.inl rfl) ?_; clear hK K; (try simp only [Act.put, zs])
   refine wpTwo_ready (rs := [16]) (by kernel_rfl) (by simp) ?_
   refine AllTwo.cons rfl (fun K hK => ?_) AllTwo.nil
   go_simp
   refine hK.out _ _ (.inl rfl) ?_; clear hK K; (try simp only [Act.put, zs])
   refine wpTwo_ready (rs := [17]) (by kernel_rfl) (by simp) ?_
   refine AllTwo.cons rfl (fun K hK => ?_) AllTwo.nil
   have z2 := fun j => HP2.frozen j
   have y5 : V2.cell? ⟨p, 5, none⟩ = some (.slice Af x.fields.length fc) := HP2.ats rfl
   go_simp
   obtain ⟨V3, hV3⟩ : ∃ V3, V3 = V2.setCell ⟨p, 5, none⟩ (.slice A5 x.fields.length c5) := ⟨_, rfl⟩
   have HP3 : Blk V3 p 64 ([.int .i64 x.k, .string (txt x.name), .int .i64 x.size, .slice A3 x.syms.length c3, .slice A4 x.items.length c4, .slice A5 x.fields.length c5] : List Value).toArray := by rw [hV3]; exact HP2.sets 5 _
   have tV3 : Turn V2 V3 (some p) := by rw [hV3]; exact Blk.setTurn V2 p 5 _
   rw [← hV3]
   clear hV3 z2 y5
   refine hK.out _ _ (.inl rfl) ?_; clear hK K; (try simp only [Act.put, zs])
   refine wpTwo_done (by kernel_rfl) ?_ _
   have tp := (tV1.trans tV2).trans tV3
   have O3 := AO3.turn tp (.inr (AO3.not_blk HP (by decide)))
   have O4 := AO4.turn tp (.inr (AO4.not_blk HP (by decide)))
   have O5 := AO5.turn tp (.inr (AO5.not_blk HP (by decide)))
   have TV : Turn wr V3 none := TW.new tp (fun g e => by injection e with e; omega)
   exact HQ V3 A3 c3 A4 c4 A5 c5 HP3 O3 O4 O5 TV
  refine AllTwo.cons rfl (fun K hK => ?_) ?_
  ·go_simp
   obtain ⟨q4, W2, hq, hW, BK4, BO4, ht⟩ := bld_new W1 3 base 1 HB
   rw [← hW, ← hq]
   have LQ4 : wr.heap.size ≤ q4 := by rw [hq]; exact TW.size
   clear hq hW
   have BO3 := BO3.turn0 ht
   have BK3 := BK3.turn0 ht
   have HP := HP.turn0 ht
   have S3 : W2.cell? ⟨p, 3, none⟩ = some (.slice As x.syms.length sc) := HP.ats rfl
   have S4 : W2.cell? ⟨p, 4, none⟩ = some (.slice Ai x.items.length ic) := HP.ats rfl
   have S5 : W2.cell? ⟨p, 5, none⟩ = some (.slice Af x.fields.length fc) := HP.ats rfl
   have TW := TW.trans ht
   have HB := Nat.le_trans HB ht.size
   refine hK.out _ _ (.inr ⟨S3, S4, S5⟩) ?_; clear hK K; (try simp only [Act.put, zs])
   clear ht
   refine wpTwo_ready (rs := [3, 8]) (by kernel_rfl) (by simp) ?_
   refine AllTwo.cons rfl (fun K hK => ?_) ?_
   ·refine st_app (base := base) rfl _ _ _ rfl elS rfl rfl BO3 (r3.turn0 TW hDr) (vss_one _) (by unfold maxLen; first | omega | (simp; done) | (simp; omega)) (by first | omega | (simp; done) | (simp; omega)) HB ?_
    intro A3 c3 W3 AO3 ht hb
    rw [Nat.zero_add, List.nil_append] at AO3
    rw [Nat.zero_add]
    replace ht : Turn W2 W3 (some q3) := ht
    have BO4 := BO4.turn ht (.inr (BO4.not_blk BK3 (by decide)))
    have BK4 := BK4.turn ht (blk_ne BK4 BK3 (by decide))
    have HP := HP.turn ht (blk_ne HP BK3 (by decide))
    have S3 : W3.cell? ⟨p, 3, none⟩ = some (.slice As x.syms.length sc) := HP.ats rfl
    have S4 : W3.cell? ⟨p, 4, none⟩ = some (.slice Ai x.items.length ic) := HP.ats rfl
    have S5 : W3.cell? ⟨p, 5, none⟩ = some (.slice Af x.fields.length fc) := HP.ats rfl
    have TW := TW.new ht (fun g e => by injection e with e; omega)
    have HB := Nat.le_trans HB ht.size
    refine hK.out _ _ (.inr ⟨S3, S4, S5⟩) ?_; clear hK K; (try simp only [Act.put, zs])
    clear ht BK3 BO3
    have hHeld : W3.cell? ⟨p, 3, none⟩ = some (.slice As x.syms.length sc) ∧ W3.cell? ⟨p, 4, none⟩ = some (.slice Ai x.items.length ic) ∧ W3.cell? ⟨p, 5, none⟩ = some (.slice Af x.fields.length fc) := ⟨S3, S4, S5⟩
    (refine wpTwo_take (i := 12) (v := ?_) rfl rfl (by kernel_rfl) (by kernel_rfl) (by kernel_rfl) (by kernel_rfl) (by kernel_rfl) (by decide) (fun c a w h => hQP c a _ _ w h) (Or.inl ⟨rfl, ?_⟩) (by assumption) ?_; rotate_left 1; · (intro w hSw; (try dsimp only at hSw); go_simp; (try with_reducible rfl))); (try simp only [Act.put, zs])
    clear hHeld
    refine wpTwo_ready (rs := [7, 8]) (by kernel_rfl) (by simp) ?_
    refine AllTwo.cons rfl (fun K hK => ?_) ?_
    ·refine st_app (base := base) rfl _ _ _ rfl elI rfl rfl BO4 (r4.turn0 TW hDr) (vis_one _) (by unfold maxLen; first | omega | (simp; done) | (simp; omega)) (by first | omega | (simp; done) | (simp; omega)) HB ?_
     intro A4 c4 W4 AO4 ht hb
     rw [Nat.zero_add, List.nil_append] at AO4
     rw [Nat.zero_add]
     replace ht : Turn W3 W4 (some q4) := ht
     have AO3 := AO3.turn ht (.inr (AO3.not_blk BK4 (by decide)))
     have HP := HP.turn ht (blk_ne HP BK4 (by decide))
     have S3 : W4.cell? ⟨p, 3, none⟩ = some (.slice As x.syms.length sc) := HP.ats rfl
     have S4 : W4.cell? ⟨p, 4, none⟩ = some (.slice Ai x.items.length ic) := HP.ats rfl
     have S5 : W4.cell? ⟨p, 5, none⟩ = some (.slice Af x.fields.length fc) := HP.ats rfl
     have TW := TW.new ht (fun g e => by injection e with e; omega)
     have HB := Nat.le_trans HB ht.size
     refine hK.out _ _ (.inr ⟨S3, S4, S5⟩) ?_; clear hK K; (try simp only [Act.put, zs])
     clear ht BK4 BO4
     refine wpTwo_ready (rs := [8]) (by kernel_rfl) (by simp) ?_
     refine AllTwo.cons rfl (fun K hK => ?_) AllTwo.nil
     go_simp
     obtain ⟨q5, W5, hq, hW, BK5, BO5, ht⟩ := bld_new W4 119 base 3 HB
     rw [← hW, ← hq]
     have LQ5 : wr.heap.size ≤ q5 := by rw [hq]; exact TW.size
     clear hq hW
     have AO3 := AO3.turn0 ht
     have AO4 := AO4.turn0 ht
     have HP := HP.turn0 ht
     have S3 : W5.cell? ⟨p, 3, none⟩ = some (.slice As x.syms.length sc) := HP.ats rfl
     have S4 : W5.cell? ⟨p, 4, none⟩ = some (.slice Ai x.items.length ic) := HP.ats rfl
     have S5 : W5.cell? ⟨p, 5, none⟩ = some (.slice Af x.fields.length fc) := HP.ats rfl
     have TW := TW.trans ht
     have HB := Nat.le_trans HB ht.size
     refine hK.out _ _ (.inr ⟨S3, S4, S5⟩) ?_; clear hK K; (try simp only [Act.put, zs])
     clear ht
     refine wpTwo_ready (rs := [11]) (by kernel_rfl) (by simp) ?_
     refine AllTwo.cons rfl (fun K hK => ?_) AllTwo.nil
     refine st_app (base := base) rfl _ _ _ rfl elF rfl rfl BO5 (r5.turn0 TW hDr) (vfs_one _) (by unfold maxLen; first | omega | (simp; done) | (simp; omega)) (by first | omega | (simp; done) | (simp; omega)) HB ?_
     intro A5 c5 W6 AO5 ht hb
     rw [Nat.zero_add, List.nil_append] at AO5
     rw [Nat.zero_add]
     replace ht : Turn W5 W6 (some q5) := ht
     have AO3 := AO3.turn ht (.inr (AO3.not_blk BK5 (by decide)))
     have AO4 := AO4.turn ht (.inr (AO4.not_blk BK5 (by decide)))
     have HP := HP.turn ht (blk_ne HP BK5 (by decide))
     have S3 : W6.cell? ⟨p, 3, none⟩ = some (.slice As x.syms.length sc) := HP.ats rfl
     have S4 : W6.cell? ⟨p, 4, none⟩ = some (.slice Ai x.items.length ic) := HP.ats rfl
     have S5 : W6.cell? ⟨p, 5, none⟩ = some (.slice Af x.fields.length fc) := HP.ats rfl
     have TW := TW.new ht (fun g e => by injection e with e; omega)
     have HB := Nat.le_trans HB ht.size
     refine hK.out _ _ (.inr ⟨S3, S4, S5⟩) ?_; clear hK K; (try simp only [Act.put, zs])
     clear ht BK5 BO5
     refine wpTwo_ready (rs := [13]) (by kernel_rfl) (by simp) ?_
     refine AllTwo.cons rfl (fun K hK => ?_) AllTwo.nil
     have z0 := fun j => HP.frozen j
     go_simp
     obtain ⟨V1, hV1⟩ : ∃ V1, V1 = W6.setCell ⟨p, 3, none⟩ (.slice A3 x.syms.length c3) := ⟨_, rfl⟩
     have HP1 : Blk V1 p 64 ([.int .i64 x.k, .string (txt x.name), .int .i64 x.size, .slice A3 x.syms.length c3, .slice Ai x.items.length ic, .slice Af x.fields.length fc] : List Value).toArray := by rw [hV1]; exact HP.sets 3 _
     have tV1 : Turn W6 V1 (some p) := by rw [hV1]; exact Blk.setTurn W6 p 3 _
     rw [← hV1]
     clear hV1 z0
     refine hK.out _ _ (.inl rfl) ?_; clear hK K; (try simp only [Act.put, zs])
     refine wpTwo_ready (rs := [14]) (by kernel_rfl) (by simp) ?_
     refine AllTwo.cons rfl (fun K hK => ?_) AllTwo.nil
     go_simp
     refine hK.out _ _ (.inl rfl) ?_; clear hK K; (try simp only [Act.put, zs])
     refine wpTwo_ready (rs := [15]) (by kernel_rfl) (by simp) ?_
     refine AllTwo.cons rfl (fun K hK => ?_) AllTwo.nil
     have z1 := fun j => HP1.frozen j
     have y4 : V1.cell? ⟨p, 4, none⟩ = some (.slice Ai x.items.length ic) := HP1.ats rfl
     go_simp
     obtain ⟨V2, hV2⟩ : ∃ V2, V2 = V1.setCell ⟨p, 4, none⟩ (.slice A4 x.items.length c4) := ⟨_, rfl⟩
     have HP2 : Blk V2 p 64 ([.int .i64 x.k, .string (txt x.name), .int .i64 x.size, .slice A3 x.syms.length c3, .slice A4 x.items.length c4, .slice Af x.fields.length fc] : List Value).toArray := by rw [hV2]; exact HP1.sets 4 _
     have tV2 : Turn V1 V2 (some p) := by rw [hV2]; exact Blk.setTurn V1 p 4 _
     rw [← hV2]
     clear hV2 z1 y4
     refine hK.out _ _ (.inl rfl) ?_; clear hK K; (try simp only [Act.put, zs])
     refine wpTwo_ready (rs := [16]) (by kernel_rfl) (by simp) ?_
     refine AllTwo.cons rfl (fun K hK => ?_) AllTwo.nil
     go_simp
     refine hK.out _ _ (.inl rfl) ?_; clear hK K; (try simp only [Act.put, zs])
     refine wpTwo_ready (rs := [17]) (by kernel_rfl) (by simp) ?_
     refine AllTwo.cons rfl (fun K hK => ?_) AllTwo.nil
     have z2 := fun j => HP2.frozen j
     have y5 : V2.cell? ⟨p, 5, none⟩ = some (.slice Af x.fields.length fc) := HP2.ats rfl
     go_simp
     obtain ⟨V3, hV3⟩ : ∃ V3, V3 = V2.setCell ⟨p, 5, none⟩ (.slice A5 x.fields.length c5) := ⟨_, rfl⟩
     have HP3 : Blk V3 p 64 ([.int .i64 x.k, .string (txt x.name), .int .i64 x.size, .slice A3 x.syms.length c3, .slice A4 x.items.length c4, .slice A5 x.fields.length c5] : List Value).toArray := by rw [hV3]; exact HP2.sets 5 _
     have tV3 : Turn V2 V3 (some p) := by rw [hV3]; exact Blk.setTurn V2 p 5 _
     rw [← hV3]
     clear hV3 z2 y5
     refine hK.out _ _ (.inl rfl) ?_; clear hK K; (try simp only [Act.put, zs])
     refine wpTwo_done (by kernel_rfl) ?_ _
     have tp := (tV1.trans tV2).trans tV3
     have O3 := AO3.turn tp (.inr (AO3.not_blk HP (by decide)))
     have O4 := AO4.turn tp (.inr (AO4.not_blk HP (by decide)))
     have O5 := AO5.turn tp (.inr (AO5.not_blk HP (by decide)))
     have TV : Turn wr V3 none := TW.new tp (fun g e => by injection e with e; omega)
     exact HQ V3 A3 c3 A4 c4 A5 c5 HP3 O3 O4 O5 TV
    refine AllTwo.cons rfl (fun K hK => ?_) AllTwo.nil
    go_simp
    obtain ⟨q5, W4, hq, hW, BK5, BO5, ht⟩ := bld_new W3 119 base 3 HB
    rw [← hW, ← hq]
    have LQ5 : wr.heap.size ≤ q5 := by rw [hq]; exact TW.size
    clear hq hW
    have AO3 := AO3.turn0 ht
    have BO4 := BO4.turn0 ht
    have BK4 := BK4.turn0 ht
    have HP := HP.turn0 ht
    have S3 : W4.cell? ⟨p, 3, none⟩ = some (.slice As x.syms.length sc) := HP.ats rfl
    have S4 : W4.cell? ⟨p, 4, none⟩ = some (.slice Ai x.items.length ic) := HP.ats rfl
    have S5 : W4.cell? ⟨p, 5, none⟩ = some (.slice Af x.fields.length fc) := HP.ats rfl
    have TW := TW.trans ht
    have HB := Nat.le_trans HB ht.size
    refine hK.out _ _ (.inr ⟨S3, S4, S5⟩) ?_; clear hK K; (try simp only [Act.put, zs])
    clear ht
    refine wpTwo_ready (rs := [7]) (by kernel_rfl) (by simp) ?_
    refine AllTwo.cons rfl (fun K hK => ?_) AllTwo.nil
    refine st_app (base := base) rfl _ _ _ rfl elI rfl rfl BO4 (r4.turn0 TW hDr) (vis_one _) (by unfold maxLen; first | omega | (simp; done) | (simp; omega)) (by first | omega | (simp; done) | (simp; omega)) HB ?_
    intro A4 c4 W5 AO4 ht hb
    rw [Nat.zero_add, List.nil_append] at AO4
    rw [Nat.zero_add]
    replace ht : Turn W4 W5 (some q4) := ht
    have AO3 := AO3.turn ht (.inr (AO3.not_blk BK4 (by decide)))
    have BO5 := BO5.turn ht (.inr (BO5.not_blk BK4 (by decide)))
    have BK5 := BK5.turn ht (blk_ne BK5 BK4 (by decide))
    have HP := HP.turn ht (blk_ne HP BK4 (by decide))
    have S3 : W5.cell? ⟨p, 3, none⟩ = some (.slice As x.syms.length sc) := HP.ats rfl
    have S4 : W5.cell? ⟨p, 4, none⟩ = some (.slice Ai x.items.length ic) := HP.ats rfl
    have S5 : W5.cell? ⟨p, 5, none⟩ = some (.slice Af x.fields.length fc) := HP.ats rfl
    have TW := TW.new ht (fun g e => by injection e with e; omega)
    have HB := Nat.le_trans HB ht.size
    refine hK.out _ _ (.inr ⟨S3, S4, S5⟩) ?_; clear hK K; (try simp only [Act.put, zs])
    clear ht BK4 BO4
    refine wpTwo_ready (rs := [11]) (by kernel_rfl) (by simp) ?_
    refine AllTwo.cons rfl (fun K hK => ?_) AllTwo.nil
    refine st_app (base := base) rfl _ _ _ rfl elF rfl rfl BO5 (r5.turn0 TW hDr) (vfs_one _) (by unfold maxLen; first | omega | (simp; done) | (simp; omega)) (by first | omega | (simp; done) | (simp; omega)) HB ?_
    intro A5 c5 W6 AO5 ht hb
    rw [Nat.zero_add, List.nil_append] at AO5
    rw [Nat.zero_add]
    replace ht : Turn W5 W6 (some q5) := ht
    have AO3 := AO3.turn ht (.inr (AO3.not_blk BK5 (by decide)))
    have AO4 := AO4.turn ht (.inr (AO4.not_blk BK5 (by decide)))
    have HP := HP.turn ht (blk_ne HP BK5 (by decide))
    have S3 : W6.cell? ⟨p, 3, none⟩ = some (.slice As x.syms.length sc) := HP.ats rfl
    have S4 : W6.cell? ⟨p, 4, none⟩ = some (.slice Ai x.items.length ic) := HP.ats rfl
    have S5 : W6.cell? ⟨p, 5, none⟩ = some (.slice Af x.fields.length fc) := HP.ats rfl
    have TW := TW.new ht (fun g e => by injection e with e; omega)
    have HB := Nat.le_trans HB ht.size
    refine hK.out _ _ (.inr ⟨S3, S4, S5⟩) ?_; clear hK K; (try simp only [Act.put, zs])
    clear ht BK5 BO5
    refine wpTwo_ready (rs := [13]) (by kernel_rfl) (by simp) ?_
    refine AllTwo.cons rfl (fun K hK => ?_) AllTwo.nil
    have z0 := fun j => HP.frozen j
    go_simp
    obtain ⟨V1, hV1⟩ : ∃ V1, V1 = W6.setCell ⟨p, 3, none⟩ (.slice A3 x.syms.length c3) := ⟨_, rfl⟩
    have HP1 : Blk V1 p 64 ([.int .i64 x.k, .string (txt x.name), .int .i64 x.size, .slice A3 x.syms.length c3, .slice Ai x.items.length ic, .slice Af x.fields.length fc] : List Value).toArray := by rw [hV1]; exact HP.sets 3 _
    have tV1 : Turn W6 V1 (some p) := by rw [hV1]; exact Blk.setTurn W6 p 3 _
    rw [← hV1]
    clear hV1 z0
    refine hK.out _ _ (.inl rfl) ?_; clear hK K; (try simp only [Act.put, zs])
    refine wpTwo_ready (rs := [14]) (by kernel_rfl) (by simp) ?_
    refine AllTwo.cons rfl (fun K hK => ?_) AllTwo.nil
    go_simp
    refine hK.out _ _ (.inl rfl) ?_; clear hK K; (try simp only [Act.put, zs])
    refine wpTwo_ready (rs := [15]) (by kernel_rfl) (by simp) ?_
    refine AllTwo.cons rfl (fun K hK => ?_) AllTwo.nil
    have z1 := fun j => HP1.frozen j
    have y4 : V1.cell? ⟨p, 4, none⟩ = some (.slice Ai x.items.length ic) := HP1.ats rfl
    go_simp
    obtain ⟨V2, hV2⟩ : ∃ V2, V2 = V1.setCell ⟨p, 4, none⟩ (.slice A4 x.items.length c4) := ⟨_, rfl⟩
    have HP2 : Blk V2 p 64 ([.int .i64 x.k, .string (txt x.name), .int .i64 x.size, .slice A3 x.syms.length c3, .slice A4 x.items.length c4, .slice Af x.fields.length fc] : List Value).toArray := by rw [hV2]; exact HP1.sets 4 _
    have tV2 : Turn V1 V2 (some p) := by rw [hV2]; exact Blk.setTurn V1 p 4 _
    rw [← hV2]
    clear hV2 z1 y4
    refine hK.out _ _ (.inl rfl) ?_; clear hK K; (try simp only [Act.put, zs])
    refine wpTwo_ready (rs := [16]) (by kernel_rfl) (by simp) ?_
    refine AllTwo.cons rfl (fun K hK => ?_) AllTwo.nil
    go_simp
    refine hK.out _ _ (.inl rfl) ?_; clear hK K; (try simp only [Act.put, zs])
    refine wpTwo_ready (rs := [17]) (by kernel_rfl) (by simp) ?_
    refine AllTwo.cons rfl (fun K hK => ?_) AllTwo.nil
    have z2 := fun j => HP2.frozen j
    have y5 : V2.cell? ⟨p, 5, none⟩ = some (.slice Af x.fields.length fc) := HP2.ats rfl
    go_simp
    obtain ⟨V3, hV3⟩ : ∃ V3, V3 = V2.setCell ⟨p, 5, none⟩ (.slice A5 x.fields.length c5) := ⟨_, rfl⟩
    have HP3 : Blk V3 p 64 ([.int .i64 x.k, .string (txt x.name), .int .i64 x.size, .slice A3 x.syms.length c3, .slice A4 x.items.length c4, .slice A5 x.fields.length c5] : List Value).toArray := by rw [hV3]; exact HP2.sets 5 _
    have tV3 : Turn V2 V3 (some p) := by rw [hV3]; exact Blk.setTurn V2 p 5 _
    rw [← hV3]
    clear hV3 z2 y5
    refine hK.out _ _ (.inl rfl) ?_; clear hK K; (try simp only [Act.put, zs])
    refine wpTwo_done (by kernel_rfl) ?_ _
    have tp := (tV1.trans tV2).trans tV3
    have O3 := AO3.turn tp (.inr (AO3.not_blk HP (by decide)))
    have O4 := AO4.turn tp (.inr (AO4.not_blk HP (by decide)))
    have O5 := AO5.turn tp (.inr (AO5.not_blk HP (by decide)))
    have TV : Turn wr V3 none := TW.new tp (fun g e => by injection e with e; omega)
    exact HQ V3 A3 c3 A4 c4 A5 c5 HP3 O3 O4 O5 TV
   refine AllTwo.cons rfl (fun K hK => ?_) AllTwo.nil
   go_simp
   obtain ⟨q5, W3, hq, hW, BK5, BO5, ht⟩ := bld_new W2 119 base 3 HB
   rw [← hW, ← hq]
   have LQ5 : wr.heap.size ≤ q5 := by rw [hq]; exact TW.size
   clear hq hW
   have BO3 := BO3.turn0 ht
   have BK3 := BK3.turn0 ht
   have BO4 := BO4.turn0 ht
   have BK4 := BK4.turn0 ht
   have HP := HP.turn0 ht
   have S3 : W3.cell? ⟨p, 3, none⟩ = some (.slice As x.syms.length sc) := HP.ats rfl
   have S4 : W3.cell? ⟨p, 4, none⟩ = some (.slice Ai x.items.length ic) := HP.ats rfl
   have S5 : W3.cell? ⟨p, 5, none⟩ = some (.slice Af x.fields.length fc) := HP.ats rfl
   have TW := TW.trans ht
   have HB := Nat.le_trans HB ht.size
   refine hK.out _ _ (.inr ⟨S3, S4, S5⟩) ?_; clear hK K; (try simp only [Act.put, zs])
   clear ht
   refine wpTwo_ready (rs := [3]) (by kernel_rfl) (by simp) ?_
   refine AllTwo.cons rfl (fun K hK => ?_) AllTwo.nil
   refine st_app (base := base) rfl _ _ _ rfl elS rfl rfl BO3 (r3.turn0 TW hDr) (vss_one _) (by unfold maxLen; first | omega | (simp; done) | (simp; omega)) (by first | omega | (simp; done) | (simp; omega)) HB ?_
   intro A3 c3 W4 AO3 ht hb
   rw [Nat.zero_add, List.nil_append] at AO3
   rw [Nat.zero_add]
   replace ht : Turn W3 W4 (some q3) := ht
   have BO4 := BO4.turn ht (.inr (BO4.not_blk BK3 (by decide)))
   have BK4 := BK4.turn ht (blk_ne BK4 BK3 (by decide))
   have BO5 := BO5.turn ht (.inr (BO5.not_blk BK3 (by decide)))
   have BK5 := BK5.turn ht (blk_ne BK5 BK3 (by decide))
   have HP := HP.turn ht (blk_ne HP BK3 (by decide))
   have S3 : W4.cell? ⟨p, 3, none⟩ = some (.slice As x.syms.length sc) := HP.ats rfl
   have S4 : W4.cell? ⟨p, 4, none⟩ = some (.slice Ai x.items.length ic) := HP.ats rfl
   have S5 : W4.cell? ⟨p, 5, none⟩ = some (.slice Af x.fields.length fc) := HP.ats rfl
   have TW := TW.new ht (fun g e => by injection e with e; omega)
   have HB := Nat.le_trans HB ht.size
   refine hK.out _ _ (.inr ⟨S3, S4, S5⟩) ?_; clear hK K; (try simp only [Act.put, zs])
   clear ht BK3 BO3
   have hHeld : W4.cell? ⟨p, 3, none⟩ = some (.slice As x.syms.length sc) ∧ W4.cell? ⟨p, 4, none⟩ = some (.slice Ai x.items.length ic) ∧ W4.cell? ⟨p, 5, none⟩ = some (.slice Af x.fields.length fc) := ⟨S3, S4, S5⟩
   (refine wpTwo_take (i := 12) (v := ?_) rfl rfl (by kernel_rfl) (by kernel_rfl) (by kernel_rfl) (by kernel_rfl) (by kernel_rfl) (by decide) (fun c a w h => hQP c a _ _ w h) (Or.inl ⟨rfl, ?_⟩) (by assumption) ?_; rotate_left 1; · (intro w hSw; (try dsimp only at hSw); go_simp; (try with_reducible rfl))); (try simp only [Act.put, zs])
   clear hHeld
   refine wpTwo_ready (rs := [7]) (by kernel_rfl) (by simp) ?_
   refine AllTwo.cons rfl (fun K hK => ?_) AllTwo.nil
   refine st_app (base := base) rfl _ _ _ rfl elI rfl rfl BO4 (r4.turn0 TW hDr) (vis_one _) (by unfold maxLen; first | omega | (simp; done) | (simp; omega)) (by first | omega | (simp; done) | (simp; omega)) HB ?_
   intro A4 c4 W5 AO4 ht hb
   rw [Nat.zero_add, List.nil_append] at AO4
   rw [Nat.zero_add]
   replace ht : Turn W4 W5 (some q4) := ht
   have AO3 := AO3.turn ht (.inr (AO3.not_blk BK4 (by decide)))
   have BO5 := BO5.turn ht (.inr (BO5.not_blk BK4 (by decide)))
   have BK5 := BK5.turn ht (blk_ne BK5 BK4 (by decide))
   have HP := HP.turn ht (blk_ne HP BK4 (by decide))
   have S3 : W5.cell? ⟨p, 3, none⟩ = some (.slice As x.syms.length sc) := HP.ats rfl
   have S4 : W5.cell? ⟨p, 4, none⟩ = some (.slice Ai x.items.length ic) := HP.ats rfl
   have S5 : W5.cell? ⟨p, 5, none⟩ = some (.slice Af x.fields.length fc) := HP.ats rfl
   have TW := TW.new ht (fun g e => by injection e with e; omega)
   have HB := Nat.le_trans HB ht.size
   refine hK.out _ _ (.inr ⟨S3, S4, S5⟩) ?_; clear hK K; (try simp only [Act.put, zs])
   clear ht BK4 BO4
   refine wpTwo_ready (rs := [11]) (by kernel_rfl) (by simp) ?_
   refine AllTwo.cons rfl (fun K hK => ?_) AllTwo.nil
   refine st_app (base := base) rfl _ _ _ rfl elF rfl rfl BO5 (r5.turn0 TW hDr) (vfs_one _) (by unfold maxLen; first | omega | (simp; done) | (simp; omega)) (by first | omega | (simp; done) | (simp; omega)) HB ?_
   intro A5 c5 W6 AO5 ht hb
   rw [Nat.zero_add, List.nil_append] at AO5
   rw [Nat.zero_add]
   replace ht : Turn W5 W6 (some q5) := ht
   have AO3 := AO3.turn ht (.inr (AO3.not_blk BK5 (by decide)))
   have AO4 := AO4.turn ht (.inr (AO4.not_blk BK5 (by decide)))
   have HP := HP.turn ht (blk_ne HP BK5 (by decide))
   have S3 : W6.cell? ⟨p, 3, none⟩ = some (.slice As x.syms.length sc) := HP.ats rfl
   have S4 : W6.cell? ⟨p, 4, none⟩ = some (.slice Ai x.items.length ic) := HP.ats rfl
   have S5 : W6.cell? ⟨p, 5, none⟩ = some (.slice Af x.fields.length fc) := HP.ats rfl
   have TW := TW.new ht (fun g e => by injection e with e; omega)
   have HB := Nat.le_trans HB ht.size
   refine hK.out _ _ (.inr ⟨S3, S4, S5⟩) ?_; clear hK K; (try simp only [Act.put, zs])
   clear ht BK5 BO5
   refine wpTwo_ready (rs := [13]) (by kernel_rfl) (by simp) ?_
   refine AllTwo.cons rfl (fun K hK => ?_) AllTwo.nil
   have z0 := fun j => HP.frozen j
   go_simp
   obtain ⟨V1, hV1⟩ : ∃ V1, V1 = W6.setCell ⟨p, 3, none⟩ (.slice A3 x.syms.length c3) := ⟨_, rfl⟩
   have HP1 : Blk V1 p 64 ([.int .i64 x.k, .string (txt x.name), .int .i64 x.size, .slice A3 x.syms.length c3, .slice Ai x.items.length ic, .slice Af x.fields.length fc] : List Value).toArray := by rw [hV1]; exact HP.sets 3 _
   have tV1 : Turn W6 V1 (some p) := by rw [hV1]; exact Blk.setTurn W6 p 3 _
   rw [← hV1]
   clear hV1 z0
   refine hK.out _ _ (.inl rfl) ?_; clear hK K; (try simp only [Act.put, zs])
   refine wpTwo_ready (rs := [14]) (by kernel_rfl) (by simp) ?_
   refine AllTwo.cons rfl (fun K hK => ?_) AllTwo.nil
   go_simp
   refine hK.out _ _ (.inl rfl) ?_; clear hK K; (try simp only [Act.put, zs])
   refine wpTwo_ready (rs := [15]) (by kernel_rfl) (by simp) ?_
   refine AllTwo.cons rfl (fun K hK => ?_) AllTwo.nil
   have z1 := fun j => HP1.frozen j
   have y4 : V1.cell? ⟨p, 4, none⟩ = some (.slice Ai x.items.length ic) := HP1.ats rfl
   go_simp
   obtain ⟨V2, hV2⟩ : ∃ V2, V2 = V1.setCell ⟨p, 4, none⟩ (.slice A4 x.items.length c4) := ⟨_, rfl⟩
   have HP2 : Blk V2 p 64 ([.int .i64 x.k, .string (txt x.name), .int .i64 x.size, .slice A3 x.syms.length c3, .slice A4 x.items.length c4, .slice Af x.fields.length fc] : List Value).toArray := by rw [hV2]; exact HP1.sets 4 _
   have tV2 : Turn V1 V2 (some p) := by rw [hV2]; exact Blk.setTurn V1 p 4 _
   rw [← hV2]
   clear hV2 z1 y4
   refine hK.out _ _ (.inl rfl) ?_; clear hK K; (try simp only [Act.put, zs])
   refine wpTwo_ready (rs := [16]) (by kernel_rfl) (by simp) ?_
   refine AllTwo.cons rfl (fun K hK => ?_) AllTwo.nil
   go_simp
   refine hK.out _ _ (.inl rfl) ?_; clear hK K; (try simp only [Act.put, zs])
   refine wpTwo_ready (rs := [17]) (by kernel_rfl) (by simp) ?_
   refine AllTwo.cons rfl (fun K hK => ?_) AllTwo.nil
   have z2 := fun j => HP2.frozen j
   have y5 : V2.cell? ⟨p, 5, none⟩ = some (.slice Af x.fields.length fc) := HP2.ats rfl
   go_simp
   obtain ⟨V3, hV3⟩ : ∃ V3, V3 = V2.setCell ⟨p, 5, none⟩ (.slice A5 x.fields.length c5) := ⟨_, rfl⟩
   have HP3 : Blk V3 p 64 ([.int .i64 x.k, .string (txt x.name), .int .i64 x.size, .slice A3 x.syms.length c3, .slice A4 x.items.length c4, .slice A5 x.fields.length c5] : List Value).toArray := by rw [hV3]; exact HP2.sets 5 _
   have tV3 : Turn V2 V3 (some p) := by rw [hV3]; exact Blk.setTurn V2 p 5 _
   rw [← hV3]
   clear hV3 z2 y5
   refine hK.out _ _ (.inl rfl) ?_; clear hK K; (try simp only [Act.put, zs])
   refine wpTwo_done (by kernel_rfl) ?_ _
   have tp := (tV1.trans tV2).trans tV3
   have O3 := AO3.turn tp (.inr (AO3.not_blk HP (by decide)))
   have O4 := AO4.turn tp (.inr (AO4.not_blk HP (by decide)))
   have O5 := AO5.turn tp (.inr (AO5.not_blk HP (by decide)))
   have TV : Turn wr V3 none := TW.new tp (fun g e => by injection e with e; omega)
   exact HQ V3 A3 c3 A4 c4 A5 c5 HP3 O3 O4 O5 TV
  refine AllTwo.cons rfl (fun K hK => ?_) AllTwo.nil
  go_simp
  obtain ⟨q5, W2, hq, hW, BK5, BO5, ht⟩ := bld_new W1 119 base 3 HB
  rw [← hW, ← hq]
  have LQ5 : wr.heap.size ≤ q5 := by rw [hq]; exact TW.size
  clear hq hW
  have BO3 := BO3.turn0 ht
  have BK3 := BK3.turn0 ht
  have HP := HP.turn0 ht
  have S3 : W2.cell? ⟨p, 3, none⟩ = some (.slice As x.syms.length sc) := HP.ats rfl
  have S4 : W2.cell? ⟨p, 4, none⟩ = some (.slice Ai x.items.length ic) := HP.ats rfl
  have S5 : W2.cell? ⟨p, 5, none⟩ = some (.slice Af x.fields.length fc) := HP.ats rfl
  have TW := TW.trans ht
  have HB := Nat.le_trans HB ht.size
  refine hK.out _ _ (.inr ⟨S3, S4, S5⟩) ?_; clear hK K; (try simp only [Act.put, zs])
  clear ht
  refine wpTwo_ready (rs := [3, 4]) (by kernel_rfl) (by simp) ?_
  refine AllTwo.cons rfl (fun K hK => ?_) ?_
  ·refine st_app (base := base) rfl _ _ _ rfl elS rfl rfl BO3 (r3.turn0 TW hDr) (vss_one _) (by unfold maxLen; first | omega | (simp; done) | (simp; omega)) (by first | omega | (simp; done) | (simp; omega)) HB ?_
   intro A3 c3 W3 AO3 ht hb
   rw [Nat.zero_add, List.nil_append] at AO3
   rw [Nat.zero_add]
   replace ht : Turn W2 W3 (some q3) := ht
   have BO5 := BO5.turn ht (.inr (BO5.not_blk BK3 (by decide)))
   have BK5 := BK5.turn ht (blk_ne BK5 BK3 (by decide))
   have HP := HP.turn ht (blk_ne HP BK3 (by decide))
   have S3 : W3.cell? ⟨p, 3, none⟩ = some (.slice As x.syms.length sc) := HP.ats rfl
   have S4 : W3.cell? ⟨p, 4, none⟩ = some (.slice Ai x.items.length ic) := HP.ats rfl
   have S5 : W3.cell? ⟨p, 5, none⟩ = some (.slice Af x.fields.length fc) := HP.ats rfl
   have TW := TW.new ht (fun g e => by injection e with e; omega)
   have HB := Nat.le_trans HB ht.size
   refine hK.out _ _ (.inr ⟨S3, S4, S5⟩) ?_; clear hK K; (try simp only [Act.put, zs])
   clear ht BK3 BO3
   have hHeld : W3.cell? ⟨p, 3, none⟩ = some (.slice As x.syms.length sc) ∧ W3.cell? ⟨p, 4, none⟩ = some (.slice Ai x.items.length ic) ∧ W3.cell? ⟨p, 5, none⟩ = some (.slice Af x.fields.length fc) := ⟨S3, S4, S5⟩
   (refine wpTwo_take (i := 12) (v := ?_) rfl rfl (by kernel_rfl) (by kernel_rfl) (by kernel_rfl) (by kernel_rfl) (by kernel_rfl) (by decide) (fun c a w h => hQP c a _ _ w h) (Or.inl ⟨rfl, ?_⟩) (by assumption) ?_; rotate_left 1; · (intro w hSw; (try dsimp only at hSw); go_simp; (try with_reducible rfl))); (try simp only [Act.put, zs])
   clear hHeld
   refine wpTwo_ready (rs := [4]) (by kernel_rfl) (by simp) ?_
   refine AllTwo.cons rfl (fun K hK => ?_) AllTwo.nil
   go_simp
   obtain ⟨q4, W4, hq, hW, BK4, BO4, ht⟩ := bld_new W3 3 base 1 HB
   rw [← hW, ← hq]
   have LQ4 : wr.heap.size ≤ q4 := by rw [hq]; exact TW.size
   clear hq hW
   have AO3 := AO3.turn0 ht
   have BO5 := BO5.turn0 ht
   have BK5 := BK5.turn0 ht
   have HP := HP.turn0 ht
   have S3 : W4.cell? ⟨p, 3, none⟩ = some (.slice As x.syms.length sc) := HP.ats rfl
   have S4 : W4.cell? ⟨p, 4, none⟩ = some (.slice Ai x.items.length ic) := HP.ats rfl
   have S5 : W4.cell? ⟨p, 5, none⟩ = some (.slice Af x.fields.length fc) := HP.ats rfl
   have TW := TW.trans ht
   have HB := Nat.le_trans HB ht.size
   refine hK.out _ _ (.inr ⟨S3, S4, S5⟩) ?_; clear hK K; (try simp only [Act.put, zs])
   clear ht
   refine wpTwo_ready (rs := [7]) (by kernel_rfl) (by simp) ?_
   refine AllTwo.cons rfl (fun K hK => ?_) AllTwo.nil
   refine st_app (base := base) rfl _ _ _ rfl elI rfl rfl BO4 (r4.turn0 TW hDr) (vis_one _) (by unfold maxLen; first | omega | (simp; done) | (simp; omega)) (by first | omega | (simp; done) | (simp; omega)) HB ?_
   intro A4 c4 W5 AO4 ht hb
   rw [Nat.zero_add, List.nil_append] at AO4
   rw [Nat.zero_add]
   replace ht : Turn W4 W5 (some q4) := ht
   have AO3 := AO3.turn ht (.inr (AO3.not_blk BK4 (by decide)))
   have BO5 := BO5.turn ht (.inr (BO5.not_blk BK4 (by decide)))
   have BK5 := BK5.turn ht (blk_ne BK5 BK4 (by decide))
   have HP := HP.turn ht (blk_ne HP BK4 (by decide))
   have S3 : W5.cell? ⟨p, 3, none⟩ = some (.slice As x.syms.length sc) := HP.ats rfl
   have S4 : W5.cell? ⟨p, 4, none⟩ = some (.slice Ai x.items.length ic) := HP.ats rfl
   have S5 : W5.cell? ⟨p, 5, none⟩ = some (.slice Af x.fields.length fc) := HP.ats rfl
   have TW := TW.new ht (fun g e => by injection e with e; omega)
   have HB := Nat.le_trans HB ht.size
   refine hK.out _ _ (.inr ⟨S3, S4, S5⟩) ?_; clear hK K; (try simp only [Act.put, zs])
   clear ht BK4 BO4
   refine wpTwo_ready (rs := [11]) (by kernel_rfl) (by simp) ?_
   refine AllTwo.cons rfl (fun K hK => ?_) AllTwo.nil
   refine st_app (base := base) rfl _ _ _ rfl elF rfl rfl BO5 (r5.turn0 TW hDr) (vfs_one _) (by unfold maxLen; first | omega | (simp; done) | (simp; omega)) (by first | omega | (simp; done) | (simp; omega)) HB ?_
   intro A5 c5 W6 AO5 ht hb
   rw [Nat.zero_add, List.nil_append] at AO5
   rw [Nat.zero_add]
   replace ht : Turn W5 W6 (some q5) := ht
   have AO3 := AO3.turn ht (.inr (AO3.not_blk BK5 (by decide)))
   have AO4 := AO4.turn ht (.inr (AO4.not_blk BK5 (by decide)))
   have HP := HP.turn ht (blk_ne HP BK5 (by decide))
   have S3 : W6.cell? ⟨p, 3, none⟩ = some (.slice As x.syms.length sc) := HP.ats rfl
   have S4 : W6.cell? ⟨p, 4, none⟩ = some (.slice Ai x.items.length ic) := HP.ats rfl
   have S5 : W6.cell? ⟨p, 5, none⟩ = some (.slice Af x.fields.length fc) := HP.ats rfl
   have TW := TW.new ht (fun g e => by injection e with e; omega)
   have HB := Nat.le_trans HB ht.size
   refine hK.out _ _ (.inr ⟨S3, S4, S5⟩) ?_; clear hK K; (try simp only [Act.put, zs])
   clear ht BK5 BO5
   refine wpTwo_ready (rs := [13]) (by kernel_rfl) (by simp) ?_
   refine AllTwo.cons rfl (fun K hK => ?_) AllTwo.nil
   have z0 := fun j => HP.frozen j
   go_simp
   obtain ⟨V1, hV1⟩ : ∃ V1, V1 = W6.setCell ⟨p, 3, none⟩ (.slice A3 x.syms.length c3) := ⟨_, rfl⟩
   have HP1 : Blk V1 p 64 ([.int .i64 x.k, .string (txt x.name), .int .i64 x.size, .slice A3 x.syms.length c3, .slice Ai x.items.length ic, .slice Af x.fields.length fc] : List Value).toArray := by rw [hV1]; exact HP.sets 3 _
   have tV1 : Turn W6 V1 (some p) := by rw [hV1]; exact Blk.setTurn W6 p 3 _
   rw [← hV1]
   clear hV1 z0
   refine hK.out _ _ (.inl rfl) ?_; clear hK K; (try simp only [Act.put, zs])
   refine wpTwo_ready (rs := [14]) (by kernel_rfl) (by simp) ?_
   refine AllTwo.cons rfl (fun K hK => ?_) AllTwo.nil
   go_simp
   refine hK.out _ _ (.inl rfl) ?_; clear hK K; (try simp only [Act.put, zs])
   refine wpTwo_ready (rs := [15]) (by kernel_rfl) (by simp) ?_
   refine AllTwo.cons rfl (fun K hK => ?_) AllTwo.nil
   have z1 := fun j => HP1.frozen j
   have y4 : V1.cell? ⟨p, 4, none⟩ = some (.slice Ai x.items.length ic) := HP1.ats rfl
   go_simp
   obtain ⟨V2, hV2⟩ : ∃ V2, V2 = V1.setCell ⟨p, 4, none⟩ (.slice A4 x.items.length c4) := ⟨_, rfl⟩
   have HP2 : Blk V2 p 64 ([.int .i64 x.k, .string (txt x.name), .int .i64 x.size, .slice A3 x.syms.length c3, .slice A4 x.items.length c4, .slice Af x.fields.length fc] : List Value).toArray := by rw [hV2]; exact HP1.sets 4 _
   have tV2 : Turn V1 V2 (some p) := by rw [hV2]; exact Blk.setTurn V1 p 4 _
   rw [← hV2]
   clear hV2 z1 y4
   refine hK.out _ _ (.inl rfl) ?_; clear hK K; (try simp only [Act.put, zs])
   refine wpTwo_ready (rs := [16]) (by kernel_rfl) (by simp) ?_
   refine AllTwo.cons rfl (fun K hK => ?_) AllTwo.nil
   go_simp
   refine hK.out _ _ (.inl rfl) ?_; clear hK K; (try simp only [Act.put, zs])
   refine wpTwo_ready (rs := [17]) (by kernel_rfl) (by simp) ?_
   refine AllTwo.cons rfl (fun K hK => ?_) AllTwo.nil
   have z2 := fun j => HP2.frozen j
   have y5 : V2.cell? ⟨p, 5, none⟩ = some (.slice Af x.fields.length fc) := HP2.ats rfl
   go_simp
   obtain ⟨V3, hV3⟩ : ∃ V3, V3 = V2.setCell ⟨p, 5, none⟩ (.slice A5 x.fields.length c5) := ⟨_, rfl⟩
   have HP3 : Blk V3 p 64 ([.int .i64 x.k, .string (txt x.name), .int .i64 x.size, .slice A3 x.syms.length c3, .slice A4 x.items.length c4, .slice A5 x.fields.length c5] : List Value).toArray := by rw [hV3]; exact HP2.sets 5 _
   have tV3 : Turn V2 V3 (some p) := by rw [hV3]; exact Blk.setTurn V2 p 5 _
   rw [← hV3]
   clear hV3 z2 y5
   refine hK.out _ _ (.inl rfl) ?_; clear hK K; (try simp only [Act.put, zs])
   refine wpTwo_done (by kernel_rfl) ?_ _
   have tp := (tV1.trans tV2).trans tV3
   have O3 := AO3.turn tp (.inr (AO3.not_blk HP (by decide)))
   have O4 := AO4.turn tp (.inr (AO4.not_blk HP (by decide)))
   have O5 := AO5.turn tp (.inr (AO5.not_blk HP (by decide)))
   have TV : Turn wr V3 none := TW.new tp (fun g e => by injection e with e; omega)
   exact HQ V3 A3 c3 A4 c4 A5 c5 HP3 O3 O4 O5 TV
  refine AllTwo.cons rfl (fun K hK => ?_) AllTwo.nil
  go_simp
  obtain ⟨q4, W3, hq, hW, BK4, BO4, ht⟩ := bld_new W2 3 base 1 HB
  rw [← hW, ← hq]
  have LQ4 : wr.heap.size ≤ q4 := by rw [hq]; exact TW.size
  clear hq hW
  have BO3 := BO3.turn0 ht
  have BK3 := BK3.turn0 ht
  have BO5 := BO5.turn0 ht
  have BK5 := BK5.turn0 ht
  have HP := HP.turn0 ht
  have S3 : W3.cell? ⟨p, 3, none⟩ = some (.slice As x.syms.length sc) := HP.ats rfl
  have S4 : W3.cell? ⟨p, 4, none⟩ = some (.slice Ai x.items.length ic) := HP.ats rfl
  have S5 : W3.cell? ⟨p, 5, none⟩ = some (.slice Af x.fields.length fc) := HP.ats rfl
  have TW := TW.trans ht
  have HB := Nat.le_trans HB ht.size
  refine hK.out _ _ (.inr ⟨S3, S4, S5⟩) ?_; clear hK K; (try simp only [Act.put, zs])
  clear ht
  refine wpTwo_ready (rs := [3]) (by kernel_rfl) (by simp) ?_
  refine AllTwo.cons rfl (fun K hK => ?_) AllTwo.nil
  refine st_app (base := base) rfl _ _ _ rfl elS rfl rfl BO3 (r3.turn0 TW hDr) (vss_one _) (by unfold maxLen; first | omega | (simp; done) | (simp; omega)) (by first | omega | (simp; done) | (simp; omega)) HB ?_
  intro A3 c3 W4 AO3 ht hb
  rw [Nat.zero_add, List.nil_append] at AO3
  rw [Nat.zero_add]
  replace ht : Turn W3 W4 (some q3) := ht
  have BO4 := BO4.turn ht (.inr (BO4.not_blk BK3 (by decide)))
  have BK4 := BK4.turn ht (blk_ne BK4 BK3 (by decide))
  have BO5 := BO5.turn ht (.inr (BO5.not_blk BK3 (by decide)))
  have BK5 := BK5.turn ht (blk_ne BK5 BK3 (by decide))
  have HP := HP.turn ht (blk_ne HP BK3 (by decide))
  have S3 : W4.cell? ⟨p, 3, none⟩ = some (.slice As x.syms.length sc) := HP.ats rfl
  have S4 : W4.cell? ⟨p, 4, none⟩ = some (.slice Ai x.items.length ic) := HP.ats rfl
  have S5 : W4.cell? ⟨p, 5, none⟩ = some (.slice Af x.fields.length fc) := HP.ats rfl
  have TW := TW.new ht (fun g e => by injection e with e; omega)
  have HB := Nat.le_trans HB ht.size
  refine hK.out _ _ (.inr ⟨S3, S4, S5⟩) ?_; clear hK K; (try simp only [Act.put, zs])
  clear ht BK3 BO3
  have hHeld : W4.cell? ⟨p, 3, none⟩ = some (.slice As x.syms.length sc) ∧ W4.cell? ⟨p, 4, none⟩ = some (.slice Ai x.items.length ic) ∧ W4.cell? ⟨p, 5, none⟩ = some (.slice Af x.fields.length fc) := ⟨S3, S4, S5⟩
  (refine wpTwo_take (i := 12) (v := ?_) rfl rfl (by kernel_rfl) (by kernel_rfl) (by kernel_rfl) (by kernel_rfl) (by kernel_rfl) (by decide) (fun c a w h => hQP c a _ _ w h) (Or.inl ⟨rfl, ?_⟩) (by assumption) ?_; rotate_left 1; · (intro w hSw; (try dsimp only at hSw); go_simp; (try with_reducible rfl))); (try simp only [Act.put, zs])
  clear hHeld
  refine wpTwo_ready (rs := [7]) (by kernel_rfl) (by simp) ?_
  refine AllTwo.cons rfl (fun K hK => ?_) AllTwo.nil
  refine st_app (base := base) rfl _ _ _ rfl elI rfl rfl BO4 (r4.turn0 TW hDr) (vis_one _) (by unfold maxLen; first | omega | (simp; done) | (simp; omega)) (by first | omega | (simp; done) | (simp; omega)) HB ?_
  intro A4 c4 W5 AO4 ht hb
  rw [Nat.zero_add, List.nil_append] at AO4
  rw [Nat.zero_add]
  replace ht : Turn W4 W5 (some q4) := ht
  have AO3 := AO3.turn ht (.inr (AO3.not_blk BK4 (by decide)))
  have BO5 := BO5.turn ht (.inr (BO5.not_blk BK4 (by decide)))
  have BK5 := BK5.turn ht (blk_ne BK5 BK4 (by decide))
  have HP := HP.turn ht (blk_ne HP BK4 (by decide))
  have S3 : W5.cell? ⟨p, 3, none⟩ = some (.slice As x.syms.length sc) := HP.ats rfl
  have S4 : W5.cell? ⟨p, 4, none⟩ = some (.slice Ai x.items.length ic) := HP.ats rfl
  have S5 : W5.cell? ⟨p, 5, none⟩ = some (.slice Af x.fields.length fc) := HP.ats rfl
  have TW := TW.new ht (fun g e => by injection e with e; omega)
  have HB := Nat.le_trans HB ht.size
  refine hK.out _ _ (.inr ⟨S3, S4, S5⟩) ?_; clear hK K; (try simp only [Act.put, zs])
  clear ht BK4 BO4
  refine wpTwo_ready (rs := [11]) (by kernel_rfl) (by simp) ?_
  refine AllTwo.cons rfl (fun K hK => ?_) AllTwo.nil
  refine st_app (base := base) rfl _ _ _ rfl elF rfl rfl BO5 (r5.turn0 TW hDr) (vfs_one _) (by unfold maxLen; first | omega | (simp; done) | (simp; omega)) (by first | omega | (simp; done) | (simp; omega)) HB ?_
  intro A5 c5 W6 AO5 ht hb
  rw [Nat.zero_add, List.nil_append] at AO5
  rw [Nat.zero_add]
  replace ht : Turn W5 W6 (some q5) := ht
  have AO3 := AO3.turn ht (.inr (AO3.not_blk BK5 (by decide)))
  have AO4 := AO4.turn ht (.inr (AO4.not_blk BK5 (by decide)))
  have HP := HP.turn ht (blk_ne HP BK5 (by decide))
  have S3 : W6.cell? ⟨p, 3, none⟩ = some (.slice As x.syms.length sc) := HP.ats rfl
  have S4 : W6.cell? ⟨p, 4, none⟩ = some (.slice Ai x.items.length ic) := HP.ats rfl
  have S5 : W6.cell? ⟨p, 5, none⟩ = some (.slice Af x.fields.length fc) := HP.ats rfl
  have TW := TW.new ht (fun g e => by injection e with e; omega)
  have HB := Nat.le_trans HB ht.size
  refine hK.out _ _ (.inr ⟨S3, S4, S5⟩) ?_; clear hK K; (try simp only [Act.put, zs])
  clear ht BK5 BO5
  refine wpTwo_ready (rs := [13]) (by kernel_rfl) (by simp) ?_
  refine AllTwo.cons rfl (fun K hK => ?_) AllTwo.nil
  have z0 := fun j => HP.frozen j
  go_simp
  obtain ⟨V1, hV1⟩ : ∃ V1, V1 = W6.setCell ⟨p, 3, none⟩ (.slice A3 x.syms.length c3) := ⟨_, rfl⟩
  have HP1 : Blk V1 p 64 ([.int .i64 x.k, .string (txt x.name), .int .i64 x.size, .slice A3 x.syms.length c3, .slice Ai x.items.length ic, .slice Af x.fields.length fc] : List Value).toArray := by rw [hV1]; exact HP.sets 3 _
  have tV1 : Turn W6 V1 (some p) := by rw [hV1]; exact Blk.setTurn W6 p 3 _
  rw [← hV1]
  clear hV1 z0
  refine hK.out _ _ (.inl rfl) ?_; clear hK K; (try simp only [Act.put, zs])
  refine wpTwo_ready (rs := [14]) (by kernel_rfl) (by simp) ?_
  refine AllTwo.cons rfl (fun K hK => ?_) AllTwo.nil
  go_simp
  refine hK.out _ _ (.inl rfl) ?_; clear hK K; (try simp only [Act.put, zs])
  refine wpTwo_ready (rs := [15]) (by kernel_rfl) (by simp) ?_
  refine AllTwo.cons rfl (fun K hK => ?_) AllTwo.nil
  have z1 := fun j => HP1.frozen j
  have y4 : V1.cell? ⟨p, 4, none⟩ = some (.slice Ai x.items.length ic) := HP1.ats rfl
  go_simp
  obtain ⟨V2, hV2⟩ : ∃ V2, V2 = V1.setCell ⟨p, 4, none⟩ (.slice A4 x.items.length c4) := ⟨_, rfl⟩
  have HP2 : Blk V2 p 64 ([.int .i64 x.k, .string (txt x.name), .int .i64 x.size, .slice A3 x.syms.length c3, .slice A4 x.items.length c4, .slice Af x.fields.length fc] : List Value).toArray := by rw [hV2]; exact HP1.sets 4 _
  have tV2 : Turn V1 V2 (some p) := by rw [hV2]; exact Blk.setTurn V1 p 4 _
  rw [← hV2]
  clear hV2 z1 y4
  refine hK.out _ _ (.inl rfl) ?_; clear hK K; (try simp only [Act.put, zs])
  refine wpTwo_ready (rs := [16]) (by kernel_rfl) (by simp) ?_
  refine AllTwo.cons rfl (fun K hK => ?_) AllTwo.nil
  go_simp
  refine hK.out _ _ (.inl rfl) ?_; clear hK K; (try simp only [Act.put, zs])
  refine wpTwo_ready (rs := [17]) (by kernel_rfl) (by simp) ?_
  refine AllTwo.cons rfl (fun K hK => ?_) AllTwo.nil
  have z2 := fun j => HP2.frozen j
  have y5 : V2.cell? ⟨p, 5, none⟩ = some (.slice Af x.fields.length fc) := HP2.ats rfl
  go_simp
  obtain ⟨V3, hV3⟩ : ∃ V3, V3 = V2.setCell ⟨p, 5, none⟩ (.slice A5 x.fields.length c5) := ⟨_, rfl⟩
  have HP3 : Blk V3 p 64 ([.int .i64 x.k, .string (txt x.name), .int .i64 x.size, .slice A3 x.syms.length c3, .slice A4 x.items.length c4, .slice A5 x.fields.length c5] : List Value).toArray := by rw [hV3]; exact HP2.sets 5 _
  have tV3 : Turn V2 V3 (some p) := by rw [hV3]; exact Blk.setTurn V2 p 5 _
  rw [← hV3]
  clear hV3 z2 y5
  refine hK.out _ _ (.inl rfl) ?_; clear hK K; (try simp only [Act.put, zs])
  refine wpTwo_done (by kernel_rfl) ?_ _
  have tp := (tV1.trans tV2).trans tV3
  have O3 := AO3.turn tp (.inr (AO3.not_blk HP (by decide)))
  have O4 := AO4.turn tp (.inr (AO4.not_blk HP (by decide)))
  have O5 := AO5.turn tp (.inr (AO5.not_blk HP (by decide)))
  have TV : Turn wr V3 none := TW.new tp (fun g e => by injection e with e; omega)
  exact HQ V3 A3 c3 A4 c4 A5 c5 HP3 O3 O4 O5 TV
 refine AllTwo.cons rfl (fun K hK => ?_) ?_
 ·go_simp
  obtain ⟨q4, W1, hq, hW, BK4, BO4, ht⟩ := bld_new W0 3 base 1 HB
  rw [← hW, ← hq]
  have LQ4 : wr.heap.size ≤ q4 := by rw [hq]; exact TW.size
  clear hq hW
  have HP := HP.turn0 ht
  have S3 : W1.cell? ⟨p, 3, none⟩ = some (.slice As x.syms.length sc) := HP.ats rfl
  have S4 : W1.cell? ⟨p, 4, none⟩ = some (.slice Ai x.items.length ic) := HP.ats rfl
  have S5 : W1.cell? ⟨p, 5, none⟩ = some (.slice Af x.fields.length fc) := HP.ats rfl
  have TW := TW.trans ht
  have HB := Nat.le_trans HB ht.size
  refine hK.out _ _ (.inr ⟨S3, S4, S5⟩) ?_; clear hK K; (try simp only [Act.put, zs])
  clear ht
  refine wpTwo_ready (rs := [0, 8]) (by kernel_rfl) (by simp) ?_
  refine AllTwo.cons rfl (fun K hK => ?_) ?_
  ·go_simp
   obtain ⟨q3, W2, hq, hW, BK3, BO3, ht⟩ := bld_new W1 9 base 1 HB
   rw [← hW, ← hq]
   have LQ3 : wr.heap.size ≤ q3 := by rw [hq]; exact TW.size
   clear hq hW
   have BO4 := BO4.turn0 ht
   have BK4 := BK4.turn0 ht
   have HP := HP.turn0 ht
   have S3 : W2.cell? ⟨p, 3, none⟩ = some (.slice As x.syms.length sc) := HP.ats rfl
   have S4 : W2.cell? ⟨p, 4, none⟩ = some (.slice Ai x.items.length ic) := HP.ats rfl
   have S5 : W2.cell? ⟨p, 5, none⟩ = some (.slice Af x.fields.length fc) := HP.ats rfl
   have TW := TW.trans ht
   have HB := Nat.le_trans HB ht.size
   refine hK.out _ _ (.inr ⟨S3, S4, S5⟩) ?_; clear hK K; (try simp only [Act.put, zs])
   clear ht
   refine wpTwo_ready (rs := [3, 8]) (by kernel_rfl) (by simp) ?_
   refine AllTwo.cons rfl (fun K hK => ?_) ?_
   ·refine st_app (base := base) rfl _ _ _ rfl elS rfl rfl BO3 (r3.turn0 TW hDr) (vss_one _) (by unfold maxLen; first | omega | (simp; done) | (simp; omega)) (by first | omega | (simp; done) | (simp; omega)) HB ?_
    intro A3 c3 W3 AO3 ht hb
    rw [Nat.zero_add, List.nil_append] at AO3
    rw [Nat.zero_add]
    replace ht : Turn W2 W3 (some q3) := ht
    have BO4 := BO4.turn ht (.inr (BO4.not_blk BK3 (by decide)))
    have BK4 := BK4.turn ht (blk_ne BK4 BK3 (by decide))
    have HP := HP.turn ht (blk_ne HP BK3 (by decide))
    have S3 : W3.cell? ⟨p, 3, none⟩ = some (.slice As x.syms.length sc) := HP.ats rfl
    have S4 : W3.cell? ⟨p, 4, none⟩ = some (.slice Ai x.items.length ic) := HP.ats rfl
    have S5 : W3.cell? ⟨p, 5, none⟩ = some (.slice Af x.fields.length fc) := HP.ats rfl
    have TW := TW.new ht (fun g e => by injection e with e; omega)
    have HB := Nat.le_trans HB ht.size
    refine hK.out _ _ (.inr ⟨S3, S4, S5⟩) ?_; clear hK K; (try simp only [Act.put, zs])
    clear ht BK3 BO3
    have hHeld : W3.cell? ⟨p, 3, none⟩ = some (.slice As x.syms.length sc) ∧ W3.cell? ⟨p, 4, none⟩ = some (.slice Ai x.items.length ic) ∧ W3.cell? ⟨p, 5, none⟩ = some (.slice Af x.fields.length fc) := ⟨S3, S4, S5⟩
    (refine wpTwo_take (i := 12) (v := ?_) rfl rfl (by kernel_rfl) (by kernel_rfl) (by kernel_rfl) (by kernel_rfl) (by kernel_rfl) (by decide) (fun c a w h => hQP c a _ _ w h) (Or.inl ⟨rfl, ?_⟩) (by assumption) ?_; rotate_left 1; · (intro w hSw; (try dsimp only at hSw); go_simp; (try with_reducible rfl))); (try simp only [Act.put, zs])
    clear hHeld
    refine wpTwo_ready (rs := [7, 8]) (by kernel_rfl) (by simp) ?_
    refine AllTwo.cons rfl (fun K hK => ?_) ?_
    ·refine st_app (base := base) rfl _ _ _ rfl elI rfl rfl BO4 (r4.turn0 TW hDr) (vis_one _) (by unfold maxLen; first | omega | (simp; done) | (simp; omega)) (by first | omega | (simp; done) | (simp; omega)) HB ?_
     intro A4 c4 W4 AO4 ht hb
     rw [Nat.zero_add, List.nil_append] at AO4
     rw [Nat.zero_add]
     replace ht : Turn W3 W4 (some q4) := ht
     have AO3 := AO3.turn ht (.inr (AO3.not_blk BK4 (by decide)))
     have HP := HP.turn ht (blk_ne HP BK4 (by decide))
     have S3 : W4.cell? ⟨p, 3, none⟩ = some (.slice As x.syms.length sc) := HP.ats rfl
     have S4 : W4.cell? ⟨p, 4, none⟩ = some (.slice Ai x.items.length ic) := HP.ats rfl
     have S5 : W4.cell? ⟨p, 5, none⟩ = some (.slice Af x.fields.length fc) := HP.ats rfl
     have TW := TW.new ht (fun g e => by injection e with e; omega)
     have HB := Nat.le_trans HB ht.size
     refine hK.out _ _ (.inr ⟨S3, S4, S5⟩) ?_; clear hK K; (try simp only [Act.put, zs])
     clear ht BK4 BO4
     refine wpTwo_ready (rs := [8]) (by kernel_rfl) (by simp) ?_
     refine AllTwo.cons rfl (fun K hK => ?_) AllTwo.nil
     go_simp
     obtain ⟨q5, W5, hq, hW, BK5, BO5, ht⟩ := bld_new W4 119 base 3 HB
     rw [← hW, ← hq]
     have LQ5 : wr.heap.size ≤ q5 := by rw [hq]; exact TW.size
     clear hq hW
     have AO3 := AO3.turn0 ht
     have AO4 := AO4.turn0 ht
     have HP := HP.turn0 ht
     have S3 : W5.cell? ⟨p, 3, none⟩ = some (.slice As x.syms.length sc) := HP.ats rfl
     have S4 : W5.cell? ⟨p, 4, none⟩ = some (.slice Ai x.items.length ic) := HP.ats rfl
     have S5 : W5.cell? ⟨p, 5, none⟩ = some (.slice Af x.fields.length fc) := HP.ats rfl
     have TW := TW.trans ht
     have HB := Nat.le_trans HB ht.size
     refine hK.out _ _ (.inr ⟨S3, S4, S5⟩) ?_; clear hK K; (try simp only [Act.put, zs])
     clear ht
     refine wpTwo_ready (rs := [11]) (by kernel_rfl) (by simp) ?_
     refine AllTwo.cons rfl (fun K hK => ?_) AllTwo.nil
     refine st_app (base := base) rfl _ _ _ rfl elF rfl rfl BO5 (r5.turn0 TW hDr) (vfs_one _) (by unfold maxLen; first | omega | (simp; done) | (simp; omega)) (by first | omega | (simp; done) | (simp; omega)) HB ?_
     intro A5 c5 W6 AO5 ht hb
     rw [Nat.zero_add, List.nil_append] at AO5
     rw [Nat.zero_add]
     replace ht : Turn W5 W6 (some q5) := ht
     have AO3 := AO3.turn ht (.inr (AO3.not_blk BK5 (by decide)))
     have AO4 := AO4.turn ht (.inr (AO4.not_blk BK5 (by decide)))
     have HP := HP.turn ht (blk_ne HP BK5 (by decide))
     have S3 : W6.cell? ⟨p, 3, none⟩ = some (.slice As x.syms.length sc) := HP.ats rfl
     have S4 : W6.cell? ⟨p, 4, none⟩ = some (.slice Ai x.items.length ic) := HP.ats rfl
     have S5 : W6.cell? ⟨p, 5, none⟩ = some (.slice Af x.fields.length fc) := HP.ats rfl
     have TW := TW.new ht (fun g e => by injection e with e; omega)
     have HB := Nat.le_trans HB ht.size
     refine hK.out _ _ (.inr ⟨S3, S4, S5⟩) ?_; clear hK K; (try simp only [Act.put, zs])
     clear ht BK5 BO5
     refine wpTwo_ready (rs := [13]) (by kernel_rfl) (by simp) ?_
     refine AllTwo.cons rfl (fun K hK => ?_) AllTwo.nil
     have z0 := fun j => HP.frozen j
     go_simp
     obtain ⟨V1, hV1⟩ : ∃ V1, V1 = W6.setCell ⟨p, 3, none⟩ (.slice A3 x.syms.length c3) := ⟨_, rfl⟩
     have HP1 : Blk V1 p 64 ([.int .i64 x.k, .string (txt x.name), .int .i64 x.size, .slice A3 x.syms.length c3, .slice Ai x.items.length ic, .slice Af x.fields.length fc] : List Value).toArray := by rw [hV1]; exact HP.sets 3 _
     have tV1 : Turn W6 V1 (some p) := by rw [hV1]; exact Blk.setTurn W6 p 3 _
     rw [← hV1]
     clear hV1 z0
     refine hK.out _ _ (.inl rfl) ?_; clear hK K; (try simp only [Act.put, zs])
     refine wpTwo_ready (rs := [14]) (by kernel_rfl) (by simp) ?_
     refine AllTwo.cons rfl (fun K hK => ?_) AllTwo.nil
     go_simp
     refine hK.out _ _ (.inl rfl) ?_; clear hK K; (try simp only [Act.put, zs])
     refine wpTwo_ready (rs := [15]) (by kernel_rfl) (by simp) ?_
     refine AllTwo.cons rfl (fun K hK => ?_) AllTwo.nil
     have z1 := fun j => HP1.frozen j
     have y4 : V1.cell? ⟨p, 4, none⟩ = some (.slice Ai x.items.length ic) := HP1.ats rfl
     go_simp
     obtain ⟨V2, hV2⟩ : ∃ V2, V2 = V1.setCell ⟨p, 4, none⟩ (.slice A4 x.items.length c4) := ⟨_, rfl⟩
     have HP2 : Blk V2 p 64 ([.int .i64 x.k, .string (txt x.name), .int .i64 x.size, .slice A3 x.syms.length c3, .slice A4 x.items.length c4, .slice Af x.fields.length fc] : List Value).toArray := by rw [hV2]; exact HP1.sets 4 _
     have tV2 : Turn V1 V2 (some p) := by rw [hV2]; exact Blk.setTurn V1 p 4 _
     rw [← hV2]
     clear hV2 z1 y4
     refine hK.out _ _ (.inl rfl) ?_; clear hK K; (try simp only [Act.put, zs])
     refine wpTwo_ready (rs := [16]) (by kernel_rfl) (by simp) ?_
     refine AllTwo.cons rfl (fun K hK => ?_) AllTwo.nil
     go_simp
     refine hK.out _ _ (.inl rfl) ?_; clear hK K; (try simp only [Act.put, zs])
     refine wpTwo_ready (rs := [17]) (by kernel_rfl) (by simp) ?_
     refine AllTwo.cons rfl (fun K hK => ?_) AllTwo.nil
     have z2 := fun j => HP2.frozen j
     have y5 : V2.cell? ⟨p, 5, none⟩ = some (.slice Af x.fields.length fc) := HP2.ats rfl
     go_simp
     obtain ⟨V3, hV3⟩ : ∃ V3, V3 = V2.setCell ⟨p, 5, none⟩ (.slice A5 x.fields.length c5) := ⟨_, rfl⟩
     have HP3 : Blk V3 p 64 ([.int .i64 x.k, .string (txt x.name), .int .i64 x.size, .slice A3 x.syms.length c3, .slice A4 x.items.length c4, .slice A5 x.fields.length c5] : List Value).toArray := by rw [hV3]; exact HP2.sets 5 _
     have tV3 : Turn V2 V3 (some p) := by rw [hV3]; exact Blk.setTurn V2 p 5 _
     rw [← hV3]
     clear hV3 z2 y5
     refine hK.out _ _ (.inl rfl) ?_; clear hK K; (try simp only [Act.put, zs])
     refine wpTwo_done (by kernel_rfl) ?_ _
     have tp := (tV1.trans tV2).trans tV3
     have O3 := AO3.turn tp (.inr (AO3.not_blk HP (by decide)))
     have O4 := AO4.turn tp (.inr (AO4.not_blk HP (by decide)))
     have O5 := AO5.turn tp (.inr (AO5.not_blk HP (by decide)))
     have TV : Turn wr V3 none := TW.new tp (fun g e => by injection e with e; omega)
     exact HQ V3 A3 c3 A4 c4 A5 c5 HP3 O3 O4 O5 TV
    refine AllTwo.cons rfl (fun K hK => ?_) AllTwo.nil
    go_simp
    obtain ⟨q5, W4, hq, hW, BK5, BO5, ht⟩ := bld_new W3 119 base 3 HB
    rw [← hW, ← hq]
    have LQ5 : wr.heap.size ≤ q5 := by rw [hq]; exact TW.size
    clear hq hW
    have AO3 := AO3.turn0 ht
    have BO4 := BO4.turn0 ht
    have BK4 := BK4.turn0 ht
    have HP := HP.turn0 ht
    have S3 : W4.cell? ⟨p, 3, none⟩ = some (.slice As x.syms.length sc) := HP.ats rfl
    have S4 : W4.cell? ⟨p, 4, none⟩ = some (.slice Ai x.items.length ic) := HP.ats rfl
    have S5 : W4.cell? ⟨p, 5, none⟩ = some (.slice Af x.fields.length fc) := HP.ats rfl
    have TW := TW.trans ht
    have HB := Nat.le_trans HB ht.size
    refine hK.out _ _ (.inr ⟨S3, S4, S5⟩) ?_; clear hK K; (try simp only [Act.put, zs])
    clear ht
    refine wpTwo_ready (rs := [7]) (by kernel_rfl) (by simp) ?_
    refine AllTwo.cons rfl (fun K hK => ?_) AllTwo.nil
    refine st_app (base := base) rfl _ _ _ rfl elI rfl rfl BO4 (r4.turn0 TW hDr) (vis_one _) (by unfold maxLen; first | omega | (simp; done) | (simp; omega)) (by first | omega | (simp; done) | (simp; omega)) HB ?_
    intro A4 c4 W5 AO4 ht hb
    rw [Nat.zero_add, List.nil_append] at AO4
    rw [Nat.zero_add]
    replace ht : Turn W4 W5 (some q4) := ht
    have AO3 := AO3.turn ht (.inr (AO3.not_blk BK4 (by decide)))
    have BO5 := BO5.turn ht (.inr (BO5.not_blk BK4 (by decide)))
    have BK5 := BK5.turn ht (blk_ne BK5 BK4 (by decide))
    have HP := HP.turn ht (blk_ne HP BK4 (by decide))
    have S3 : W5.cell? ⟨p, 3, none⟩ = some (.slice As x.syms.length sc) := HP.ats rfl
    have S4 : W5.cell? ⟨p, 4, none⟩ = some (.slice Ai x.items.length ic) := HP.ats rfl
    have S5 : W5.cell? ⟨p, 5, none⟩ = some (.slice Af x.fields.length fc) := HP.ats rfl
    have TW := TW.new ht (fun g e => by injection e with e; omega)
    have HB := Nat.le_trans HB ht.size
    refine hK.out _ _ (.inr ⟨S3, S4, S5⟩) ?_; clear hK K; (try simp only [Act.put, zs])
    clear ht BK4 BO4
    refine wpTwo_ready (rs := [11]) (by kernel_rfl) (by simp) ?_
    refine AllTwo.cons rfl (fun K hK => ?_) AllTwo.nil
    refine st_app (base := base) rfl _ _ _ rfl elF rfl rfl BO5 (r5.turn0 TW hDr) (vfs_one _) (by unfold maxLen; first | omega | (simp; done) | (simp; omega)) (by first | omega | (simp; done) | (simp; omega)) HB ?_
    intro A5 c5 W6 AO5 ht hb
    rw [Nat.zero_add, List.nil_append] at AO5
    rw [Nat.zero_add]
    replace ht : Turn W5 W6 (some q5) := ht
    have AO3 := AO3.turn ht (.inr (AO3.not_blk BK5 (by decide)))
    have AO4 := AO4.turn ht (.inr (AO4.not_blk BK5 (by decide)))
    have HP := HP.turn ht (blk_ne HP BK5 (by decide))
    have S3 : W6.cell? ⟨p, 3, none⟩ = some (.slice As x.syms.length sc) := HP.ats rfl
    have S4 : W6.cell? ⟨p, 4, none⟩ = some (.slice Ai x.items.length ic) := HP.ats rfl
    have S5 : W6.cell? ⟨p, 5, none⟩ = some (.slice Af x.fields.length fc) := HP.ats rfl
    have TW := TW.new ht (fun g e => by injection e with e; omega)
    have HB := Nat.le_trans HB ht.size
    refine hK.out _ _ (.inr ⟨S3, S4, S5⟩) ?_; clear hK K; (try simp only [Act.put, zs])
    clear ht BK5 BO5
    refine wpTwo_ready (rs := [13]) (by kernel_rfl) (by simp) ?_
    refine AllTwo.cons rfl (fun K hK => ?_) AllTwo.nil
    have z0 := fun j => HP.frozen j
    go_simp
    obtain ⟨V1, hV1⟩ : ∃ V1, V1 = W6.setCell ⟨p, 3, none⟩ (.slice A3 x.syms.length c3) := ⟨_, rfl⟩
    have HP1 : Blk V1 p 64 ([.int .i64 x.k, .string (txt x.name), .int .i64 x.size, .slice A3 x.syms.length c3, .slice Ai x.items.length ic, .slice Af x.fields.length fc] : List Value).toArray := by rw [hV1]; exact HP.sets 3 _
    have tV1 : Turn W6 V1 (some p) := by rw [hV1]; exact Blk.setTurn W6 p 3 _
    rw [← hV1]
    clear hV1 z0
    refine hK.out _ _ (.inl rfl) ?_; clear hK K; (try simp only [Act.put, zs])
    refine wpTwo_ready (rs := [14]) (by kernel_rfl) (by simp) ?_
    refine AllTwo.cons rfl (fun K hK => ?_) AllTwo.nil
    go_simp
    refine hK.out _ _ (.inl rfl) ?_; clear hK K; (try simp only [Act.put, zs])
    refine wpTwo_ready (rs := [15]) (by kernel_rfl) (by simp) ?_
    refine AllTwo.cons rfl (fun K hK => ?_) AllTwo.nil
    have z1 := fun j => HP1.frozen j
    have y4 : V1.cell? ⟨p, 4, none⟩ = some (.slice Ai x.items.length ic) := HP1.ats rfl
    go_simp
    obtain ⟨V2, hV2⟩ : ∃ V2, V2 = V1.setCell ⟨p, 4, none⟩ (.slice A4 x.items.length c4) := ⟨_, rfl⟩
    have HP2 : Blk V2 p 64 ([.int .i64 x.k, .string (txt x.name), .int .i64 x.size, .slice A3 x.syms.length c3, .slice A4 x.items.length c4, .slice Af x.fields.length fc] : List Value).toArray := by rw [hV2]; exact HP1.sets 4 _
    have tV2 : Turn V1 V2 (some p) := by rw [hV2]; exact Blk.setTurn V1 p 4 _
    rw [← hV2]
    clear hV2 z1 y4
    refine hK.out _ _ (.inl rfl) ?_; clear hK K; (try simp only [Act.put, zs])
    refine wpTwo_ready (rs := [16]) (by kernel_rfl) (by simp) ?_
    refine AllTwo.cons rfl (fun K hK => ?_) AllTwo.nil
    go_simp
    refine hK.out _ _ (.inl rfl) ?_; clear hK K; (try simp only [Act.put, zs])
    refine wpTwo_ready (rs := [17]) (by kernel_rfl) (by simp) ?_
    refine AllTwo.cons rfl (fun K hK => ?_) AllTwo.nil
    have z2 := fun j => HP2.frozen j
    have y5 : V2.cell? ⟨p, 5, none⟩ = some (.slice Af x.fields.length fc) := HP2.ats rfl
    go_simp
    obtain ⟨V3, hV3⟩ : ∃ V3, V3 = V2.setCell ⟨p, 5, none⟩ (.slice A5 x.fields.length c5) := ⟨_, rfl⟩
    have HP3 : Blk V3 p 64 ([.int .i64 x.k, .string (txt x.name), .int .i64 x.size, .slice A3 x.syms.length c3, .slice A4 x.items.length c4, .slice A5 x.fields.length c5] : List Value).toArray := by rw [hV3]; exact HP2.sets 5 _
    have tV3 : Turn V2 V3 (some p) := by rw [hV3]; exact Blk.setTurn V2 p 5 _
    rw [← hV3]
    clear hV3 z2 y5
    refine hK.out _ _ (.inl rfl) ?_; clear hK K; (try simp only [Act.put, zs])
    refine wpTwo_done (by kernel_rfl) ?_ _
    have tp := (tV1.trans tV2).trans tV3
    have O3 := AO3.turn tp (.inr (AO3.not_blk HP (by decide)))
    have O4 := AO4.turn tp (.inr (AO4.not_blk HP (by decide)))
    have O5 := AO5.turn tp (.inr (AO5.not_blk HP (by decide)))
    have TV : Turn wr V3 none := TW.new tp (fun g e => by injection e with e; omega)
    exact HQ V3 A3 c3 A4 c4 A5 c5 HP3 O3 O4 O5 TV
   refine AllTwo.cons rfl (fun K hK => ?_) AllTwo.nil
   go_simp
   obtain ⟨q5, W3, hq, hW, BK5, BO5, ht⟩ := bld_new W2 119 base 3 HB
   rw [← hW, ← hq]
   have LQ5 : wr.heap.size ≤ q5 := by rw [hq]; exact TW.size
   clear hq hW
   have BO3 := BO3.turn0 ht
   have BK3 := BK3.turn0 ht
   have BO4 := BO4.turn0 ht
   have BK4 := BK4.turn0 ht
   have HP := HP.turn0 ht
   have S3 : W3.cell? ⟨p, 3, none⟩ = some (.slice As x.syms.length sc) := HP.ats rfl
   have S4 : W3.cell? ⟨p, 4, none⟩ = some (.slice Ai x.items.length ic) := HP.ats rfl
   have S5 : W3.cell? ⟨p, 5, none⟩ = some (.slice Af x.fields.length fc) := HP.ats rfl
   have TW := TW.trans ht
   have HB := Nat.le_trans HB ht.size
   refine hK.out _ _ (.inr ⟨S3, S4, S5⟩) ?_; clear hK K; (try simp only [Act.put, zs])
   clear ht
   refine wpTwo_ready (rs := [3]) (by kernel_rfl) (by simp) ?_
   refine AllTwo.cons rfl (fun K hK => ?_) AllTwo.nil
   refine st_app (base := base) rfl _ _ _ rfl elS rfl rfl BO3 (r3.turn0 TW hDr) (vss_one _) (by unfold maxLen; first | omega | (simp; done) | (simp; omega)) (by first | omega | (simp; done) | (simp; omega)) HB ?_
   intro A3 c3 W4 AO3 ht hb
   rw [Nat.zero_add, List.nil_append] at AO3
   rw [Nat.zero_add]
   replace ht : Turn W3 W4 (some q3) := ht
   have BO4 := BO4.turn ht (.inr (BO4.not_blk BK3 (by decide)))
   have BK4 := BK4.turn ht (blk_ne BK4 BK3 (by decide))
   have BO5 := BO5.turn ht (.inr (BO5.not_blk BK3 (by decide)))
   have BK5 := BK5.turn ht (blk_ne BK5 BK3 (by decide))
   have HP := HP.turn ht (blk_ne HP BK3 (by decide))
   have S3 : W4.cell? ⟨p, 3, none⟩ = some (.slice As x.syms.length sc) := HP.ats rfl
   have S4 : W4.cell? ⟨p, 4, none⟩ = some (.slice Ai x.items.length ic) := HP.ats rfl
   have S5 : W4.cell? ⟨p, 5, none⟩ = some (.slice Af x.fields.length fc) := HP.ats rfl
   have TW := TW.new ht (fun g e => by injection e with e; omega)
   have HB := Nat.le_trans HB ht.size
   refine hK.out _ _ (.inr ⟨S3, S4, S5⟩) ?_; clear hK K; (try simp only [Act.put, zs])
   clear ht BK3 BO3
   have hHeld : W4.cell? ⟨p, 3, none⟩ = some (.slice As x.syms.length sc) ∧ W4.cell? ⟨p, 4, none⟩ = some (.slice Ai x.items.length ic) ∧ W4.cell? ⟨p, 5, none⟩ = some (.slice Af x.fields.length fc) := ⟨S3, S4, S5⟩
   (refine wpTwo_take (i := 12) (v := ?_) rfl rfl (by kernel_rfl) (by kernel_rfl) (by kernel_rfl) (by kernel_rfl) (by kernel_rfl) (by decide) (fun c a w h => hQP c a _ _ w h) (Or.inl ⟨rfl, ?_⟩) (by assumption) ?_; rotate_left 1; · (intro w hSw; (try dsimp only at hSw); go_simp; (try with_reducible rfl))); (try simp only [Act.put, zs])
   clear hHeld
   refine wpTwo_ready (rs := [7]) (by kernel_rfl) (by simp) ?_
   refine AllTwo.cons rfl (fun K hK => ?_) AllTwo.nil
   refine st_app (base := base) rfl _ _ _ rfl elI rfl rfl BO4 (r4.turn0 TW hDr) (vis_one _) (by unfold maxLen; first | omega | (simp; done) | (simp; omega)) (by first | omega | (simp; done) | (simp; omega)) HB ?_
   intro A4 c4 W5 AO4 ht hb
   rw [Nat.zero_add, List.nil_append] at AO4
   rw [Nat.zero_add]
   replace ht : Turn W4 W5 (some q4) := ht
   have AO3 := AO3.turn ht (.inr (AO3.not_blk BK4 (by decide)))
   have BO5 := BO5.turn ht (.inr (BO5.not_blk BK4 (by decide)))
   have BK5 := BK5.turn ht (blk_ne BK5 BK4 (by decide))
   have HP := HP.turn ht (blk_ne HP BK4 (by decide))
   have S3 : W5.cell? ⟨p, 3, none⟩ = some (.slice As x.syms.length sc) := HP.ats rfl
   have S4 : W5.cell? ⟨p, 4, none⟩ = some (.slice Ai x.items.length ic) := HP.ats rfl
   have S5 : W5.cell? ⟨p, 5, none⟩ = some (.slice Af x.fields.length fc) := HP.ats rfl
   have TW := TW.new ht (fun g e => by injection e with e; omega)
   have HB := Nat.le_trans HB ht.size
   refine hK.out _ _ (.inr ⟨S3, S4, S5⟩) ?_; clear hK K; (try simp only [Act.put, zs])
   clear ht BK4 BO4
   refine wpTwo_ready (rs := [11]) (by kernel_rfl) (by simp) ?_
   refine AllTwo.cons rfl (fun K hK => ?_) AllTwo.nil
   refine st_app (base := base) rfl _ _ _ rfl elF rfl rfl BO5 (r5.turn0 TW hDr) (vfs_one _) (by unfold maxLen; first | omega | (simp; done) | (simp; omega)) (by first | omega | (simp; done) | (simp; omega)) HB ?_
   intro A5 c5 W6 AO5 ht hb
   rw [Nat.zero_add, List.nil_append] at AO5
   rw [Nat.zero_add]
   replace ht : Turn W5 W6 (some q5) := ht
   have AO3 := AO3.turn ht (.inr (AO3.not_blk BK5 (by decide)))
   have AO4 := AO4.turn ht (.inr (AO4.not_blk BK5 (by decide)))
   have HP := HP.turn ht (blk_ne HP BK5 (by decide))
   have S3 : W6.cell? ⟨p, 3, none⟩ = some (.slice As x.syms.length sc) := HP.ats rfl
   have S4 : W6.cell? ⟨p, 4, none⟩ = some (.slice Ai x.items.length ic) := HP.ats rfl
   have S5 : W6.cell? ⟨p, 5, none⟩ = some (.slice Af x.fields.length fc) := HP.ats rfl
   have TW := TW.new ht (fun g e => by injection e with e; omega)
   have HB := Nat.le_trans HB ht.size
   refine hK.out _ _ (.inr ⟨S3, S4, S5⟩) ?_; clear hK K; (try simp only [Act.put, zs])
   clear ht BK5 BO5
   refine wpTwo_ready (rs := [13]) (by kernel_rfl) (by simp) ?_
   refine AllTwo.cons rfl (fun K hK => ?_) AllTwo.nil
   have z0 := fun j => HP.frozen j
   go_simp
   obtain ⟨V1, hV1⟩ : ∃ V1, V1 = W6.setCell ⟨p, 3, none⟩ (.slice A3 x.syms.length c3) := ⟨_, rfl⟩
   have HP1 : Blk V1 p 64 ([.int .i64 x.k, .string (txt x.name), .int .i64 x.size, .slice A3 x.syms.length c3, .slice Ai x.items.length ic, .slice Af x.fields.length fc] : List Value).toArray := by rw [hV1]; exact HP.sets 3 _
   have tV1 : Turn W6 V1 (some p) := by rw [hV1]; exact Blk.setTurn W6 p 3 _
   rw [← hV1]
   clear hV1 z0
   refine hK.out _ _ (.inl rfl) ?_; clear hK K; (try simp only [Act.put, zs])
   refine wpTwo_ready (rs := [14]) (by kernel_rfl) (by simp) ?_
   refine AllTwo.cons rfl (fun K hK => ?_) AllTwo.nil
   go_simp
   refine hK.out _ _ (.inl rfl) ?_; clear hK K; (try simp only [Act.put, zs])
   refine wpTwo_ready (rs := [15]) (by kernel_rfl) (by simp) ?_
   refine AllTwo.cons rfl (fun K hK => ?_) AllTwo.nil
   have z1 := fun j => HP1.frozen j
   have y4 : V1.cell? ⟨p, 4, none⟩ = some (.slice Ai x.items.length ic) := HP1.ats rfl
   go_simp
   obtain ⟨V2, hV2⟩ : ∃ V2, V2 = V1.setCell ⟨p, 4, none⟩ (.slice A4 x.items.length c4) := ⟨_, rfl⟩
   have HP2 : Blk V2 p 64 ([.int .i64 x.k, .string (txt x.name), .int .i64 x.size, .slice A3 x.syms.length c3, .slice A4 x.items.length c4, .slice Af x.fields.length fc] : List Value).toArray := by rw [hV2]; exact HP1.sets 4 _
   have tV2 : Turn V1 V2 (some p) := by rw [hV2]; exact Blk.setTurn V1 p 4 _
   rw [← hV2]
   clear hV2 z1 y4
   refine hK.out _ _ (.inl rfl) ?_; clear hK K; (try simp only [Act.put, zs])
   refine wpTwo_ready (rs := [16]) (by kernel_rfl) (by simp) ?_
   refine AllTwo.cons rfl (fun K hK => ?_) AllTwo.nil
   go_simp
   refine hK.out _ _ (.inl rfl) ?_; clear hK K; (try simp only [Act.put, zs])
   refine wpTwo_ready (rs := [17]) (by kernel_rfl) (by simp) ?_
   refine AllTwo.cons rfl (fun K hK => ?_) AllTwo.nil
   have z2 := fun j => HP2.frozen j
   have y5 : V2.cell? ⟨p, 5, none⟩ = some (.slice Af x.fields.length fc) := HP2.ats rfl
   go_simp
   obtain ⟨V3, hV3⟩ : ∃ V3, V3 = V2.setCell ⟨p, 5, none⟩ (.slice A5 x.fields.length c5) := ⟨_, rfl⟩
   have HP3 : Blk V3 p 64 ([.int .i64 x.k, .string (txt x.name), .int .i64 x.size, .slice A3 x.syms.length c3, .slice A4 x.items.length c4, .slice A5 x.fields.length c5] : List Value).toArray := by rw [hV3]; exact HP2.sets 5 _
   have tV3 : Turn V2 V3 (some p) := by rw [hV3]; exact Blk.setTurn V2 p 5 _
   rw [← hV3]
   clear hV3 z2 y5
   refine hK.out _ _ (.inl rfl) ?_; clear hK K; (try simp only [Act.put, zs])
   refine wpTwo_done (by kernel_rfl) ?_ _
   have tp := (tV1.trans tV2).trans tV3
   have O3 := AO3.turn tp (.inr (AO3.not_blk HP (by decide)))
   have O4 := AO4.turn tp (.inr (AO4.not_blk HP (by decide)))
   have O5 := AO5.turn tp (.inr (AO5.not_blk HP (by decide)))
   have TV : Turn wr V3 none := TW.new tp (fun g e => by injection e with e; omega)
   exact HQ V3 A3 c3 A4 c4 A5 c5 HP3 O3 O4 O5 TV
  refine AllTwo.cons rfl (fun K hK => ?_) AllTwo.nil
  go_simp
  obtain ⟨q5, W2, hq, hW, BK5, BO5, ht⟩ := bld_new W1 119 base 3 HB
  rw [← hW, ← hq]
  have LQ5 : wr.heap.size ≤ q5 := by rw [hq]; exact TW.size
  clear hq hW
  have BO4 := BO4.turn0 ht
  have BK4 := BK4.turn0 ht
  have HP := HP.turn0 ht
  have S3 : W2.cell? ⟨p, 3, none⟩ = some (.slice As x.syms.length sc) := HP.ats rfl
  have S4 : W2.cell? ⟨p, 4, none⟩ = some (.slice Ai x.items.length ic) := HP.ats rfl
  have S5 : W2.cell? ⟨p, 5, none⟩ = some (.slice Af x.fields.length fc) := HP.ats rfl
  have TW := TW.trans ht
  have HB := Nat.le_trans HB ht.size
  refine hK.out _ _ (.inr ⟨S3, S4, S5⟩) ?_; clear hK K; (try simp only [Act.put, zs])
  clear ht
  refine wpTwo_ready (rs := [0]) (by kernel_rfl) (by simp) ?_
  refine AllTwo.cons rfl (fun K hK => ?_) AllTwo.nil
  go_simp
  obtain ⟨q3, W3, hq, hW, BK3, BO3, ht⟩ := bld_new W2 9 base 1 HB
  rw [← hW, ← hq]
  have LQ3 : wr.heap.size ≤ q3 := by rw [hq]; exact TW.size
  clear hq hW
  have BO4 := BO4.turn0 ht
  have BK4 := BK4.turn0 ht
  have BO5 := BO5.turn0 ht
  have BK5 := BK5.turn0 ht
  have HP := HP.turn0 ht
  have S3 : W3.cell? ⟨p, 3, none⟩ = some (.slice As x.syms.length sc) := HP.ats rfl
  have S4 : W3.cell? ⟨p, 4, none⟩ = some (.slice Ai x.items.length ic) := HP.ats rfl
  have S5 : W3.cell? ⟨p, 5, none⟩ = some (.slice Af x.fields.length fc) := HP.ats rfl
  have TW := TW.trans ht
  have HB := Nat.le_trans HB ht.size
  refine hK.out _ _ (.inr ⟨S3, S4, S5⟩) ?_; clear hK K; (try simp only [Act.put, zs])
  clear ht
  refine wpTwo_ready (rs := [3]) (by kernel_rfl) (by simp) ?_
  refine AllTwo.cons rfl (fun K hK => ?_) AllTwo.nil
  refine st_app (base := base) rfl _ _ _ rfl elS rfl rfl BO3 (r3.turn0 TW hDr) (vss_one _) (by unfold maxLen; first | omega | (simp; done) | (simp; omega)) (by first | omega | (simp; done) | (simp; omega)) HB ?_
  intro A3 c3 W4 AO3 ht hb
  rw [Nat.zero_add, List.nil_append] at AO3
  rw [Nat.zero_add]
  replace ht : Turn W3 W4 (some q3) := ht
  have BO4 := BO4.turn ht (.inr (BO4.not_blk BK3 (by decide)))
  have BK4 := BK4.turn ht (blk_ne BK4 BK3 (by decide))
  have BO5 := BO5.turn ht (.inr (BO5.not_blk BK3 (by decide)))
  have BK5 := BK5.turn ht (blk_ne BK5 BK3 (by decide))
  have HP := HP.turn ht (blk_ne HP BK3 (by decide))
  have S3 : W4.cell? ⟨p, 3, none⟩ = some (.slice As x.syms.length sc) := HP.ats rfl
  have S4 : W4.cell? ⟨p, 4, none⟩ = some (.slice Ai x.items.length ic) := HP.ats rfl
  have S5 : W4.cell? ⟨p, 5, none⟩ = some (.slice Af x.fields.length fc) := HP.ats rfl
  have TW := TW.new ht (fun g e => by injection e with e; omega)
  have HB := Nat.le_trans HB ht.size
  refine hK.out _ _ (.inr ⟨S3, S4, S5⟩) ?_; clear hK K; (try simp only [Act.put, zs])
  clear ht BK3 BO3
  have hHeld : W4.cell? ⟨p, 3, none⟩ = some (.slice As x.syms.length sc) ∧ W4.cell? ⟨p, 4, none⟩ = some (.slice Ai x.items.length ic) ∧ W4.cell? ⟨p, 5, none⟩ = some (.slice Af x.fields.length fc) := ⟨S3, S4, S5⟩
  (refine wpTwo_take (i := 12) (v := ?_) rfl rfl (by kernel_rfl) (by kernel_rfl) (by kernel_rfl) (by kernel_rfl) (by kernel_rfl) (by decide) (fun c a w h => hQP c a _ _ w h) (Or.inl ⟨rfl, ?_⟩) (by assumption) ?_; rotate_left 1; · (intro w hSw; (try dsimp only at hSw); go_simp; (try with_reducible rfl))); (try simp only [Act.put, zs])
  clear hHeld
  refine wpTwo_ready (rs := [7]) (by kernel_rfl) (by simp) ?_
  refine AllTwo.cons rfl (fun K hK => ?_) AllTwo.nil
  refine st_app (base := base) rfl _ _ _ rfl elI rfl rfl BO4 (r4.turn0 TW hDr) (vis_one _) (by unfold maxLen; first | omega | (simp; done) | (simp; omega)) (by first | omega | (simp; done) | (simp; omega)) HB ?_
  intro A4 c4 W5 AO4 ht hb
  rw [Nat.zero_add, List.nil_append] at AO4
  rw [Nat.zero_add]
  replace ht : Turn W4 W5 (some q4) := ht
  have AO3 := AO3.turn ht (.inr (AO3.not_blk BK4 (by decide)))
  have BO5 := BO5.turn ht (.inr (BO5.not_blk BK4 (by decide)))
  have BK5 := BK5.turn ht (blk_ne BK5 BK4 (by decide))
  have HP := HP.turn ht (blk_ne HP BK4 (by decide))
  have S3 : W5.cell? ⟨p, 3, none⟩ = some (.slice As x.syms.length sc) := HP.ats rfl
  have S4 : W5.cell? ⟨p, 4, none⟩ = some (.slice Ai x.items.length ic) := HP.ats rfl
  have S5 : W5.cell? ⟨p, 5, none⟩ = some (.slice Af x.fields.length fc) := HP.ats rfl
  have TW := TW.new ht (fun g e => by injection e with e; omega)
  have HB := Nat.le_trans HB ht.size
  refine hK.out _ _ (.inr ⟨S3, S4, S5⟩) ?_; clear hK K; (try simp only [Act.put, zs])
  clear ht BK4 BO4
  refine wpTwo_ready (rs := [11]) (by kernel_rfl) (by simp) ?_
  refine AllTwo.cons rfl (fun K hK => ?_) AllTwo.nil
  refine st_app (base := base) rfl _ _ _ rfl elF rfl rfl BO5 (r5.turn0 TW hDr) (vfs_one _) (by unfold maxLen; first | omega | (simp; done) | (simp; omega)) (by first | omega | (simp; done) | (simp; omega)) HB ?_
  intro A5 c5 W6 AO5 ht hb
  rw [Nat.zero_add, List.nil_append] at AO5
  rw [Nat.zero_add]
  replace ht : Turn W5 W6 (some q5) := ht
  have AO3 := AO3.turn ht (.inr (AO3.not_blk BK5 (by decide)))
  have AO4 := AO4.turn ht (.inr (AO4.not_blk BK5 (by decide)))
  have HP := HP.turn ht (blk_ne HP BK5 (by decide))
  have S3 : W6.cell? ⟨p, 3, none⟩ = some (.slice As x.syms.length sc) := HP.ats rfl
  have S4 : W6.cell? ⟨p, 4, none⟩ = some (.slice Ai x.items.length ic) := HP.ats rfl
  have S5 : W6.cell? ⟨p, 5, none⟩ = some (.slice Af x.fields.length fc) := HP.ats rfl
  have TW := TW.new ht (fun g e => by injection e with e; omega)
  have HB := Nat.le_trans HB ht.size
  refine hK.out _ _ (.inr ⟨S3, S4, S5⟩) ?_; clear hK K; (try simp only [Act.put, zs])
  clear ht BK5 BO5
  refine wpTwo_ready (rs := [13]) (by kernel_rfl) (by simp) ?_
  refine AllTwo.cons rfl (fun K hK => ?_) AllTwo.nil
  have z0 := fun j => HP.frozen j
  go_simp
  obtain ⟨V1, hV1⟩ : ∃ V1, V1 = W6.setCell ⟨p, 3, none⟩ (.slice A3 x.syms.length c3) := ⟨_, rfl⟩
  have HP1 : Blk V1 p 64 ([.int .i64 x.k, .string (txt x.name), .int .i64 x.size, .slice A3 x.syms.length c3, .slice Ai x.items.length ic, .slice Af x.fields.length fc] : List Value).toArray := by rw [hV1]; exact HP.sets 3 _
  have tV1 : Turn W6 V1 (some p) := by rw [hV1]; exact Blk.setTurn W6 p 3 _
  rw [← hV1]
  clear hV1 z0
  refine hK.out _ _ (.inl rfl) ?_; clear hK K; (try simp only [Act.put, zs])
  refine wpTwo_ready (rs := [14]) (by kernel_rfl) (by simp) ?_
  refine AllTwo.cons rfl (fun K hK => ?_) AllTwo.nil
  go_simp
  refine hK.out _ _ (.inl rfl) ?_; clear hK K; (try simp only [Act.put, zs])
  refine wpTwo_ready (rs := [15]) (by kernel_rfl) (by simp) ?_
  refine AllTwo.cons rfl (fun K hK => ?_) AllTwo.nil
  have z1 := fun j => HP1.frozen j
  have y4 : V1.cell? ⟨p, 4, none⟩ = some (.slice Ai x.items.length ic) := HP1.ats rfl
  go_simp
  obtain ⟨V2, hV2⟩ : ∃ V2, V2 = V1.setCell ⟨p, 4, none⟩ (.slice A4 x.items.length c4) := ⟨_, rfl⟩
  have HP2 : Blk V2 p 64 ([.int .i64 x.k, .string (txt x.name), .int .i64 x.size, .slice A3 x.syms.length c3, .slice A4 x.items.length c4, .slice Af x.fields.length fc] : List Value).toArray := by rw [hV2]; exact HP1.sets 4 _
  have tV2 : Turn V1 V2 (some p) := by rw [hV2]; exact Blk.setTurn V1 p 4 _
  rw [← hV2]
  clear hV2 z1 y4
  refine hK.out _ _ (.inl rfl) ?_; clear hK K; (try simp only [Act.put, zs])
  refine wpTwo_ready (rs := [16]) (by kernel_rfl) (by simp) ?_
  refine AllTwo.cons rfl (fun K hK => ?_) AllTwo.nil
  go_simp
  refine hK.out _ _ (.inl rfl) ?_; clear hK K; (try simp only [Act.put, zs])
  refine wpTwo_ready (rs := [17]) (by kernel_rfl) (by simp) ?_
  refine AllTwo.cons rfl (fun K hK => ?_) AllTwo.nil
  have z2 := fun j => HP2.frozen j
  have y5 : V2.cell? ⟨p, 5, none⟩ = some (.slice Af x.fields.length fc) := HP2.ats rfl
  go_simp
  obtain ⟨V3, hV3⟩ : ∃ V3, V3 = V2.setCell ⟨p, 5, none⟩ (.slice A5 x.fields.length c5) := ⟨_, rfl⟩
  have HP3 : Blk V3 p 64 ([.int .i64 x.k, .string (txt x.name), .int .i64 x.size, .slice A3 x.syms.length c3, .slice A4 x.items.length c4, .slice A5 x.fields.length c5] : List Value).toArray := by rw [hV3]; exact HP2.sets 5 _
  have tV3 : Turn V2 V3 (some p) := by rw [hV3]; exact Blk.setTurn V2 p 5 _
  rw [← hV3]
  clear hV3 z2 y5
  refine hK.out _ _ (.inl rfl) ?_; clear hK K; (try simp only [Act.put, zs])
  refine wpTwo_done (by kernel_rfl) ?_ _
  have tp := (tV1.trans tV2).trans tV3
  have O3 := AO3.turn tp (.inr (AO3.not_blk HP (by decide)))
  have O4 := AO4.turn tp (.inr (AO4.not_blk HP (by decide)))
  have O5 := AO5.turn tp (.inr (AO5.not_blk HP (by decide)))
  have TV : Turn wr V3 none := TW.new tp (fun g e => by injection e with e; omega)
  exact HQ V3 A3 c3 A4 c4 A5 c5 HP3 O3 O4 O5 TV
 refine AllTwo.cons rfl (fun K hK => ?_) AllTwo.nil
 go_simp
 obtain ⟨q5, W1, hq, hW, BK5, BO5, ht⟩ := bld_new W0 119 base 3 HB
 rw [← hW, ← hq]
 have LQ5 : wr.heap.size ≤ q5 := by rw [hq]; exact TW.size
 clear hq hW
 have HP := HP.turn0 ht
 have S3 : W1.cell? ⟨p, 3, none⟩ = some (.slice As x.syms.length sc) := HP.ats rfl
 have S4 : W1.cell? ⟨p, 4, none⟩ = some (.slice Ai x.items.length ic) := HP.ats rfl
 have S5 : W1.cell? ⟨p, 5, none⟩ = some (.slice Af x.fields.length fc) := HP.ats rfl
 have TW := TW.trans ht
 have HB := Nat.le_trans HB ht.size
 refine hK.out _ _ (.inr ⟨S3, S4, S5⟩) ?_; clear hK K; (try simp only [Act.put, zs])
 clear ht
 refine wpTwo_ready (rs := [0, 4]) (by kernel_rfl) (by simp) ?_
 refine AllTwo.cons rfl (fun K hK => ?_) ?_
 ·go_simp
  obtain ⟨q3, W2, hq, hW, BK3, BO3, ht⟩ := bld_new W1 9 base 1 HB
  rw [← hW, ← hq]
  have LQ3 : wr.heap.size ≤ q3 := by rw [hq]; exact TW.size
  clear hq hW
  have BO5 := BO5.turn0 ht
  have BK5 := BK5.turn0 ht
  have HP := HP.turn0 ht
  have S3 : W2.cell? ⟨p, 3, none⟩ = some (.slice As x.syms.length sc) := HP.ats rfl
  have S4 : W2.cell? ⟨p, 4, none⟩ = some (.slice Ai x.items.length ic) := HP.ats rfl
  have S5 : W2.cell? ⟨p, 5, none⟩ = some (.slice Af x.fields.length fc) := HP.ats rfl
  have TW := TW.trans ht
  have HB := Nat.le_trans HB ht.size
  refine hK.out _ _ (.inr ⟨S3, S4, S5⟩) ?_; clear hK K; (try simp only [Act.put, zs])
  clear ht
  refine wpTwo_ready (rs := [3, 4]) (by kernel_rfl) (by simp) ?_
  refine AllTwo.cons rfl (fun K hK => ?_) ?_
  ·refine st_app (base := base) rfl _ _ _ rfl elS rfl rfl BO3 (r3.turn0 TW hDr) (vss_one _) (by unfold maxLen; first | omega | (simp; done) | (simp; omega)) (by first | omega | (simp; done) | (simp; omega)) HB ?_
   intro A3 c3 W3 AO3 ht hb
   rw [Nat.zero_add, List.nil_append] at AO3
   rw [Nat.zero_add]
   replace ht : Turn W2 W3 (some q3) := ht
   have BO5 := BO5.turn ht (.inr (BO5.not_blk BK3 (by decide)))
   have BK5 := BK5.turn ht (blk_ne BK5 BK3 (by decide))
   have HP := HP.turn ht (blk_ne HP BK3 (by decide))
   have S3 : W3.cell? ⟨p, 3, none⟩ = some (.slice As x.syms.length sc) := HP.ats rfl
   have S4 : W3.cell? ⟨p, 4, none⟩ = some (.slice Ai x.items.length ic) := HP.ats rfl
   have S5 : W3.cell? ⟨p, 5, none⟩ = some (.slice Af x.fields.length fc) := HP.ats rfl
   have TW := TW.new ht (fun g e => by injection e with e; omega)
   have HB := Nat.le_trans HB ht.size
   refine hK.out _ _ (.inr ⟨S3, S4, S5⟩) ?_; clear hK K; (try simp only [Act.put, zs])
   clear ht BK3 BO3
   have hHeld : W3.cell? ⟨p, 3, none⟩ = some (.slice As x.syms.length sc) ∧ W3.cell? ⟨p, 4, none⟩ = some (.slice Ai x.items.length ic) ∧ W3.cell? ⟨p, 5, none⟩ = some (.slice Af x.fields.length fc) := ⟨S3, S4, S5⟩
   (refine wpTwo_take (i := 12) (v := ?_) rfl rfl (by kernel_rfl) (by kernel_rfl) (by kernel_rfl) (by kernel_rfl) (by kernel_rfl) (by decide) (fun c a w h => hQP c a _ _ w h) (Or.inl ⟨rfl, ?_⟩) (by assumption) ?_; rotate_left 1; · (intro w hSw; (try dsimp only at hSw); go_simp; (try with_reducible rfl))); (try simp only [Act.put, zs])
   clear hHeld
   refine wpTwo_ready (rs := [4]) (by kernel_rfl) (by simp) ?_
   refine AllTwo.cons rfl (fun K hK => ?_) AllTwo.nil
   go_simp
   obtain ⟨q4, W4, hq, hW, BK4, BO4, ht⟩ := bld_new W3 3 base 1 HB
   rw [← hW, ← hq]
   have LQ4 : wr.heap.size ≤ q4 := by rw [hq]; exact TW.size
   clear hq hW
   have AO3 := AO3.turn0 ht
   have BO5 := BO5.turn0 ht
   have BK5 := BK5.turn0 ht
   have HP := HP.turn0 ht
   have S3 : W4.cell? ⟨p, 3, none⟩ = some (.slice As x.syms.length sc) := HP.ats rfl
   have S4 : W4.cell? ⟨p, 4, none⟩ = some (.slice Ai x.items.length ic) := HP.ats rfl
   have S5 : W4.cell? ⟨p, 5, none⟩ = some (.slice Af x.fields.length fc) := HP.ats rfl
   have TW := TW.trans ht
   have HB := Nat.le_trans HB ht.size
   refine hK.out _ _ (.inr ⟨S3, S4, S5⟩) ?_; clear hK K; (try simp only [Act.put, zs])
   clear ht
   refine wpTwo_ready (rs := [7]) (by kernel_rfl) (by simp) ?_
   refine AllTwo.cons rfl (fun K hK => ?_) AllTwo.nil
   refine st_app (base := base) rfl _ _ _ rfl elI rfl rfl BO4 (r4.turn0 TW hDr) (vis_one _) (by unfold maxLen; first | omega | (simp; done) | (simp; omega)) (by first | omega | (simp; done) | (simp; omega)) HB ?_
   intro A4 c4 W5 AO4 ht hb
   rw [Nat.zero_add, List.nil_append] at AO4
   rw [Nat.zero_add]
   replace ht : Turn W4 W5 (some q4) := ht
   have AO3 := AO3.turn ht (.inr (AO3.not_blk BK4 (by decide)))
   have BO5 := BO5.turn ht (.inr (BO5.not_blk BK4 (by decide)))
   have BK5 := BK5.turn ht (blk_ne BK5 BK4 (by decide))
   have HP := HP.turn ht (blk_ne HP BK4 (by decide))
   have S3 : W5.cell? ⟨p, 3, none⟩ = some (.slice As x.syms.length sc) := HP.ats rfl
   have S4 : W5.cell? ⟨p, 4, none⟩ = some (.slice Ai x.items.length ic) := HP.ats rfl
   have S5 : W5.cell? ⟨p, 5, none⟩ = some (.slice Af x.fields.length fc) := HP.ats rfl
   have TW := TW.new ht (fun g e => by injection e with e; omega)
   have HB := Nat.le_trans HB ht.size
   refine hK.out _ _ (.inr ⟨S3, S4, S5⟩) ?_; clear hK K; (try simp only [Act.put, zs])
   clear ht BK4 BO4
   refine wpTwo_ready (rs := [11]) (by kernel_rfl) (by simp) ?_
   refine AllTwo.cons rfl (fun K hK => ?_) AllTwo.nil
   refine st_app (base := base) rfl _ _ _ rfl elF rfl rfl BO5 (r5.turn0 TW hDr) (vfs_one _) (by unfold maxLen; first | omega | (simp; done) | (simp; omega)) (by first | omega | (simp; done) | (simp; omega)) HB ?_
   intro A5 c5 W6 AO5 ht hb
   rw [Nat.zero_add, List.nil_append] at AO5
   rw [Nat.zero_add]
   replace ht : Turn W5 W6 (some q5) := ht
   have AO3 := AO3.turn ht (.inr (AO3.not_blk BK5 (by decide)))
   have AO4 := AO4.turn ht (.inr (AO4.not_blk BK5 (by decide)))
   have HP := HP.turn ht (blk_ne HP BK5 (by decide))
   have S3 : W6.cell? ⟨p, 3, none⟩ = some (.slice As x.syms.length sc) := HP.ats rfl
   have S4 : W6.cell? ⟨p, 4, none⟩ = some (.slice Ai x.items.length ic) := HP.ats rfl
   have S5 : W6.cell? ⟨p, 5, none⟩ = some (.slice Af x.fields.length fc) := HP.ats rfl
   have TW := TW.new ht (fun g e => by injection e with e; omega)
   have HB := Nat.le_trans HB ht.size
   refine hK.out _ _ (.inr ⟨S3, S4, S5⟩) ?_; clear hK K; (try simp only [Act.put, zs])
   clear ht BK5 BO5
   refine wpTwo_ready (rs := [13]) (by kernel_rfl) (by simp) ?_
   refine AllTwo.cons rfl (fun K hK => ?_) AllTwo.nil
   have z0 := fun j => HP.frozen j
   go_simp
   obtain ⟨V1, hV1⟩ : ∃ V1, V1 = W6.setCell ⟨p, 3, none⟩ (.slice A3 x.syms.length c3) := ⟨_, rfl⟩
   have HP1 : Blk V1 p 64 ([.int .i64 x.k, .string (txt x.name), .int .i64 x.size, .slice A3 x.syms.length c3, .slice Ai x.items.length ic, .slice Af x.fields.length fc] : List Value).toArray := by rw [hV1]; exact HP.sets 3 _
   have tV1 : Turn W6 V1 (some p) := by rw [hV1]; exact Blk.setTurn W6 p 3 _
   rw [← hV1]
   clear hV1 z0
   refine hK.out _ _ (.inl rfl) ?_; clear hK K; (try simp only [Act.put, zs])
   refine wpTwo_ready (rs := [14]) (by kernel_rfl) (by simp) ?_
   refine AllTwo.cons rfl (fun K hK => ?_) AllTwo.nil
   go_simp
   refine hK.out _ _ (.inl rfl) ?_; clear hK K; (try simp only [Act.put, zs])
   refine wpTwo_ready (rs := [15]) (by kernel_rfl) (by simp) ?_
   refine AllTwo.cons rfl (fun K hK => ?_) AllTwo.nil
   have z1 := fun j => HP1.frozen j
   have y4 : V1.cell? ⟨p, 4, none⟩ = some (.slice Ai x.items.length ic) := HP1.ats rfl
   go_simp
   obtain ⟨V2, hV2⟩ : ∃ V2, V2 = V1.setCell ⟨p, 4, none⟩ (.slice A4 x.items.length c4) := ⟨_, rfl⟩
   have HP2 : Blk V2 p 64 ([.int .i64 x.k, .string (txt x.name), .int .i64 x.size, .slice A3 x.syms.length c3, .slice A4 x.items.length c4, .slice Af x.fields.length fc] : List Value).toArray := by rw [hV2]; exact HP1.sets 4 _
   have tV2 : Turn V1 V2 (some p) := by rw [hV2]; exact Blk.setTurn V1 p 4 _
   rw [← hV2]
   clear hV2 z1 y4
   refine hK.out _ _ (.inl rfl) ?_; clear hK K; (try simp only [Act.put, zs])
   refine wpTwo_ready (rs := [16]) (by kernel_rfl) (by simp) ?_
   refine AllTwo.cons rfl (fun K hK => ?_) AllTwo.nil
   go_simp
   refine hK.out _ _ (.inl rfl) ?_; clear hK K; (try simp only [Act.put, zs])
   refine wpTwo_ready (rs := [17]) (by kernel_rfl) (by simp) ?_
   refine AllTwo.cons rfl (fun K hK => ?_) AllTwo.nil
   have z2 := fun j => HP2.frozen j
   have y5 : V2.cell? ⟨p, 5, none⟩ = some (.slice Af x.fields.length fc) := HP2.ats rfl
   go_simp
   obtain ⟨V3, hV3⟩ : ∃ V3, V3 = V2.setCell ⟨p, 5, none⟩ (.slice A5 x.fields.length c5) := ⟨_, rfl⟩
   have HP3 : Blk V3 p 64 ([.int .i64 x.k, .string (txt x.name), .int .i64 x.size, .slice A3 x.syms.length c3, .slice A4 x.items.length c4, .slice A5 x.fields.length c5] : List Value).toArray := by rw [hV3]; exact HP2.sets 5 _
   have tV3 : Turn V2 V3 (some p) := by rw [hV3]; exact Blk.setTurn V2 p 5 _
   rw [← hV3]
   clear hV3 z2 y5
   refine hK.out _ _ (.inl rfl) ?_; clear hK K; (try simp only [Act.put, zs])
   refine wpTwo_done (by kernel_rfl) ?_ _
   have tp := (tV1.trans tV2).trans tV3
   have O3 := AO3.turn tp (.inr (AO3.not_blk HP (by decide)))
   have O4 := AO4.turn tp (.inr (AO4.not_blk HP (by decide)))
   have O5 := AO5.turn tp (.inr (AO5.not_blk HP (by decide)))
   have TV : Turn wr V3 none := TW.new tp (fun g e => by injection e with e; omega)
   exact HQ V3 A3 c3 A4 c4 A5 c5 HP3 O3 O4 O5 TV
  refine AllTwo.cons rfl (fun K hK => ?_) AllTwo.nil
  go_simp
  obtain ⟨q4, W3, hq, hW, BK4, BO4, ht⟩ := bld_new W2 3 base 1 HB
  rw [← hW, ← hq]
  have LQ4 : wr.heap.size ≤ q4 := by rw [hq]; exact TW.size
  clear hq hW
  have BO3 := BO3.turn0 ht
  have BK3 := BK3.turn0 ht
  have BO5 := BO5.turn0 ht
  have BK5 := BK5.turn0 ht
  have HP := HP.turn0 ht
  have S3 : W3.cell? ⟨p, 3, none⟩ = some (.slice As x.syms.length sc) := HP.ats rfl
  have S4 : W3.cell? ⟨p, 4, none⟩ = some (.slice Ai x.items.length ic) := HP.ats rfl
  have S5 : W3.cell? ⟨p, 5, none⟩ = some (.slice Af x.fields.length fc) := HP.ats rfl
  have TW := TW.trans ht
  have HB := Nat.le_trans HB ht.size
  refine hK.out _ _ (.inr ⟨S3, S4, S5⟩) ?_; clear hK K; (try simp only [Act.put, zs])
  clear ht
  refine wpTwo_ready (rs := [3]) (by kernel_rfl) (by simp) ?_
  refine AllTwo.cons rfl (fun K hK => ?_) AllTwo.nil
  refine st_app (base := base) rfl _ _ _ rfl elS rfl rfl BO3 (r3.turn0 TW hDr) (vss_one _) (by unfold maxLen; first | omega | (simp; done) | (simp; omega)) (by first | omega | (simp; done) | (simp; omega)) HB ?_
  intro A3 c3 W4 AO3 ht hb
  rw [Nat.zero_add, List.nil_append] at AO3
  rw [Nat.zero_add]
  replace ht : Turn W3 W4 (some q3) := ht
  have BO4 := BO4.turn ht (.inr (BO4.not_blk BK3 (by decide)))
  have BK4 := BK4.turn ht (blk_ne BK4 BK3 (by decide))
  have BO5 := BO5.turn ht (.inr (BO5.not_blk BK3 (by decide)))
  have BK5 := BK5.turn ht (blk_ne BK5 BK3 (by decide))
  have HP := HP.turn ht (blk_ne HP BK3 (by decide))
  have S3 : W4.cell? ⟨p, 3, none⟩ = some (.slice As x.syms.length sc) := HP.ats rfl
  have S4 : W4.cell? ⟨p, 4, none⟩ = some (.slice Ai x.items.length ic) := HP.ats rfl
  have S5 : W4.cell? ⟨p, 5, none⟩ = some (.slice Af x.fields.length fc) := HP.ats rfl
  have TW := TW.new ht (fun g e => by injection e with e; omega)
  have HB := Nat.le_trans HB ht.size
  refine hK.out _ _ (.inr ⟨S3, S4, S5⟩) ?_; clear hK K; (try simp only [Act.put, zs])
  clear ht BK3 BO3
  have hHeld : W4.cell? ⟨p, 3, none⟩ = some (.slice As x.syms.length sc) ∧ W4.cell? ⟨p, 4, none⟩ = some (.slice Ai x.items.length ic) ∧ W4.cell? ⟨p, 5, none⟩ = some (.slice Af x.fields.length fc) := ⟨S3, S4, S5⟩
  (refine wpTwo_take (i := 12) (v := ?_) rfl rfl (by kernel_rfl) (by kernel_rfl) (by kernel_rfl) (by kernel_rfl) (by kernel_rfl) (by decide) (fun c a w h => hQP c a _ _ w h) (Or.inl ⟨rfl, ?_⟩) (by assumption) ?_; rotate_left 1; · (intro w hSw; (try dsimp only at hSw); go_simp; (try with_reducible rfl))); (try simp only [Act.put, zs])
  clear hHeld
  refine wpTwo_ready (rs := [7]) (by kernel_rfl) (by simp) ?_
  refine AllTwo.cons rfl (fun K hK => ?_) AllTwo.nil
  refine st_app (base := base) rfl _ _ _ rfl elI rfl rfl BO4 (r4.turn0 TW hDr) (vis_one _) (by unfold maxLen; first | omega | (simp; done) | (simp; omega)) (by first | omega | (simp; done) | (simp; omega)) HB ?_
  intro A4 c4 W5 AO4 ht hb
  rw [Nat.zero_add, List.nil_append] at AO4
  rw [Nat.zero_add]
  replace ht : Turn W4 W5 (some q4) := ht
  have AO3 := AO3.turn ht (.inr (AO3.not_blk BK4 (by decide)))
  have BO5 := BO5.turn ht (.inr (BO5.not_blk BK4 (by decide)))
  have BK5 := BK5.turn ht (blk_ne BK5 BK4 (by decide))
  have HP := HP.turn ht (blk_ne HP BK4 (by decide))
  have S3 : W5.cell? ⟨p, 3, none⟩ = some (.slice As x.syms.length sc) := HP.ats rfl
  have S4 : W5.cell? ⟨p, 4, none⟩ = some (.slice Ai x.items.length ic) := HP.ats rfl
  have S5 : W5.cell? ⟨p, 5, none⟩ = some (.slice Af x.fields.length fc) := HP.ats rfl
  have TW := TW.new ht (fun g e => by injection e with e; omega)
  have HB := Nat.le_trans HB ht.size
  refine hK.out _ _ (.inr ⟨S3, S4, S5⟩) ?_; clear hK K; (try simp only [Act.put, zs])
  clear ht BK4 BO4
  refine wpTwo_ready (rs := [11]) (by kernel_rfl) (by simp) ?_
  refine AllTwo.cons rfl (fun K hK => ?_) AllTwo.nil
  refine st_app (base := base) rfl _ _ _ rfl elF rfl rfl BO5 (r5.turn0 TW hDr) (vfs_one _) (by unfold maxLen; first | omega | (simp; done) | (simp; omega)) (by first | omega | (simp; done) | (simp; omega)) HB ?_
  intro A5 c5 W6 AO5 ht hb
  rw [Nat.zero_add, List.nil_append] at AO5
  rw [Nat.zero_add]
  replace ht : Turn W5 W6 (some q5) := ht
  have AO3 := AO3.turn ht (.inr (AO3.not_blk BK5 (by decide)))
  have AO4 := AO4.turn ht (.inr (AO4.not_blk BK5 (by decide)))
  have HP := HP.turn ht (blk_ne HP BK5 (by decide))
  have S3 : W6.cell? ⟨p, 3, none⟩ = some (.slice As x.syms.length sc) := HP.ats rfl
  have S4 : W6.cell? ⟨p, 4, none⟩ = some (.slice Ai x.items.length ic) := HP.ats rfl
  have S5 : W6.cell? ⟨p, 5, none⟩ = some (.slice Af x.fields.length fc) := HP.ats rfl
  have TW := TW.new ht (fun g e => by injection e with e; omega)
  have HB := Nat.le_trans HB ht.size
  refine hK.out _ _ (.inr ⟨S3, S4, S5⟩) ?_; clear hK K; (try simp only [Act.put, zs])
  clear ht BK5 BO5
  refine wpTwo_ready (rs := [13]) (by kernel_rfl) (by simp) ?_
  refine AllTwo.cons rfl (fun K hK => ?_) AllTwo.nil
  have z0 := fun j => HP.frozen j
  go_simp
  obtain ⟨V1, hV1⟩ : ∃ V1, V1 = W6.setCell ⟨p, 3, none⟩ (.slice A3 x.syms.length c3) := ⟨_, rfl⟩
  have HP1 : Blk V1 p 64 ([.int .i64 x.k, .string (txt x.name), .int .i64 x.size, .slice A3 x.syms.length c3, .slice Ai x.items.length ic, .slice Af x.fields.length fc] : List Value).toArray := by rw [hV1]; exact HP.sets 3 _
  have tV1 : Turn W6 V1 (some p) := by rw [hV1]; exact Blk.setTurn W6 p 3 _
  rw [← hV1]
  clear hV1 z0
  refine hK.out _ _ (.inl rfl) ?_; clear hK K; (try simp only [Act.put, zs])
  refine wpTwo_ready (rs := [14]) (by kernel_rfl) (by simp) ?_
  refine AllTwo.cons rfl (fun K hK => ?_) AllTwo.nil
  go_simp
  refine hK.out _ _ (.inl rfl) ?_; clear hK K; (try simp only [Act.put, zs])
  refine wpTwo_ready (rs := [15]) (by kernel_rfl) (by simp) ?_
  refine AllTwo.cons rfl (fun K hK => ?_) AllTwo.nil
  have z1 := fun j => HP1.frozen j
  have y4 : V1.cell? ⟨p, 4, none⟩ = some (.slice Ai x.items.length ic) := HP1.ats rfl
  go_simp
  obtain ⟨V2, hV2⟩ : ∃ V2, V2 = V1.setCell ⟨p, 4, none⟩ (.slice A4 x.items.length c4) := ⟨_, rfl⟩
  have HP2 : Blk V2 p 64 ([.int .i64 x.k, .string (txt x.name), .int .i64 x.size, .slice A3 x.syms.length c3, .slice A4 x.items.length c4, .slice Af x.fields.length fc] : List Value).toArray := by rw [hV2]; exact HP1.sets 4 _
  have tV2 : Turn V1 V2 (some p) := by rw [hV2]; exact Blk.setTurn V1 p 4 _
  rw [← hV2]
  clear hV2 z1 y4
  refine hK.out _ _ (.inl rfl) ?_; clear hK K; (try simp only [Act.put, zs])
  refine wpTwo_ready (rs := [16]) (by kernel_rfl) (by simp) ?_
  refine AllTwo.cons rfl (fun K hK => ?_) AllTwo.nil
  go_simp
  refine hK.out _ _ (.inl rfl) ?_; clear hK K; (try simp only [Act.put, zs])
  refine wpTwo_ready (rs := [17]) (by kernel_rfl) (by simp) ?_
  refine AllTwo.cons rfl (fun K hK => ?_) AllTwo.nil
  have z2 := fun j => HP2.frozen j
  have y5 : V2.cell? ⟨p, 5, none⟩ = some (.slice Af x.fields.length fc) := HP2.ats rfl
  go_simp
  obtain ⟨V3, hV3⟩ : ∃ V3, V3 = V2.setCell ⟨p, 5, none⟩ (.slice A5 x.fields.length c5) := ⟨_, rfl⟩
  have HP3 : Blk V3 p 64 ([.int .i64 x.k, .string (txt x.name), .int .i64 x.size, .slice A3 x.syms.length c3, .slice A4 x.items.length c4, .slice A5 x.fields.length c5] : List Value).toArray := by rw [hV3]; exact HP2.sets 5 _
  have tV3 : Turn V2 V3 (some p) := by rw [hV3]; exact Blk.setTurn V2 p 5 _
  rw [← hV3]
  clear hV3 z2 y5
  refine hK.out _ _ (.inl rfl) ?_; clear hK K; (try simp only [Act.put, zs])
  refine wpTwo_done (by kernel_rfl) ?_ _
  have tp := (tV1.trans tV2).trans tV3
  have O3 := AO3.turn tp (.inr (AO3.not_blk HP (by decide)))
  have O4 := AO4.turn tp (.inr (AO4.not_blk HP (by decide)))
  have O5 := AO5.turn tp (.inr (AO5.not_blk HP (by decide)))
  have TV : Turn wr V3 none := TW.new tp (fun g e => by injection e with e; omega)
  exact HQ V3 A3 c3 A4 c4 A5 c5 HP3 O3 O4 O5 TV
 refine AllTwo.cons rfl (fun K hK => ?_) AllTwo.nil
 go_simp
 obtain ⟨q4, W2, hq, hW, BK4, BO4, ht⟩ := bld_new W1 3 base 1 HB
 rw [← hW, ← hq]
 have LQ4 : wr.heap.size ≤ q4 := by rw [hq]; exact TW.size
 clear hq hW
 have BO5 := BO5.turn0 ht
 have BK5 := BK5.turn0 ht
 have HP := HP.turn0 ht
 have S3 : W2.cell? ⟨p, 3, none⟩ = some (.slice As x.syms.length sc) := HP.ats rfl
 have S4 : W2.cell? ⟨p, 4, none⟩ = some (.slice Ai x.items.length ic) := HP.ats rfl
 have S5 : W2.cell? ⟨p, 5, none⟩ = some (.slice Af x.fields.length fc) := HP.ats rfl
 have TW := TW.trans ht
 have HB := Nat.le_trans HB ht.size
 refine hK.out _ _ (.inr ⟨S3, S4, S5⟩) ?_; clear hK K; (try simp only [Act.put, zs])
 clear ht
 refine wpTwo_ready (rs := [0]) (by kernel_rfl) (by simp) ?_
 refine AllTwo.cons rfl (fun K hK => ?_) AllTwo.nil
 go_simp
 obtain ⟨q3, W3, hq, hW, BK3, BO3, ht⟩ := bld_new W2 9 base 1 HB
 rw [← hW, ← hq]
 have LQ3 : wr.heap.size ≤ q3 := by rw [hq]; exact TW.size
 clear hq hW
 have BO4 := BO4.turn0 ht
 have BK4 := BK4.turn0 ht
 have BO5 := BO5.turn0 ht
 have BK5 := BK5.turn0 ht
 have HP := HP.turn0 ht
 have S3 : W3.cell? ⟨p, 3, none⟩ = some (.slice As x.syms.length sc) := HP.ats rfl
 have S4 : W3.cell? ⟨p, 4, none⟩ = some (.slice Ai x.items.length ic) := HP.ats rfl
 have S5 : W3.cell? ⟨p, 5, none⟩ = some (.slice Af x.fields.length fc) := HP.ats rfl
 have TW := TW.trans ht
 have HB := Nat.le_trans HB ht.size
 refine hK.out _ _ (.inr ⟨S3, S4, S5⟩) ?_; clear hK K; (try simp only [Act.put, zs])
 clear ht
 refine wpTwo_ready (rs := [3]) (by kernel_rfl) (by simp) ?_
 refine AllTwo.cons rfl (fun K hK => ?_) AllTwo.nil
 refine st_app (base := base) rfl _ _ _ rfl elS rfl rfl BO3 (r3.turn0 TW hDr) (vss_one _) (by unfold maxLen; first | omega | (simp; done) | (simp; omega)) (by first | omega | (simp; done) | (simp; omega)) HB ?_
 intro A3 c3 W4 AO3 ht hb
 rw [Nat.zero_add, List.nil_append] at AO3
 rw [Nat.zero_add]
 replace ht : Turn W3 W4 (some q3) := ht
 have BO4 := BO4.turn ht (.inr (BO4.not_blk BK3 (by decide)))
 have BK4 := BK4.turn ht (blk_ne BK4 BK3 (by decide))
 have BO5 := BO5.turn ht (.inr (BO5.not_blk BK3 (by decide)))
 have BK5 := BK5.turn ht (blk_ne BK5 BK3 (by decide))
 have HP := HP.turn ht (blk_ne HP BK3 (by decide))
 have S3 : W4.cell? ⟨p, 3, none⟩ = some (.slice As x.syms.length sc) := HP.ats rfl
 have S4 : W4.cell? ⟨p, 4, none⟩ = some (.slice Ai x.items.length ic) := HP.ats rfl
 have S5 : W4.cell? ⟨p, 5, none⟩ = some (.slice Af x.fields.length fc) := HP.ats rfl
 have TW := TW.new ht (fun g e => by injection e with e; omega)
 have HB := Nat.le_trans HB ht.size
 refine hK.out _ _ (.inr ⟨S3, S4, S5⟩) ?_; clear hK K; (try simp only [Act.put, zs])
 clear ht BK3 BO3
 have hHeld : W4.cell? ⟨p, 3, none⟩ = some (.slice As x.syms.length sc) ∧ W4.cell? ⟨p, 4, none⟩ = some (.slice Ai x.items.length ic) ∧ W4.cell? ⟨p, 5, none⟩ = some (.slice Af x.fields.length fc) := ⟨S3, S4, S5⟩
 (refine wpTwo_take (i := 12) (v := ?_) rfl rfl (by kernel_rfl) (by kernel_rfl) (by kernel_rfl) (by kernel_rfl) (by kernel_rfl) (by decide) (fun c a w h => hQP c a _ _ w h) (Or.inl ⟨rfl, ?_⟩) (by assumption) ?_; rotate_left 1; · (intro w hSw; (try dsimp only at hSw); go_simp; (try with_reducible rfl))); (try simp only [Act.put, zs])
 clear hHeld
 refine wpTwo_ready (rs := [7]) (by kernel_rfl) (by simp) ?_
 refine AllTwo.cons rfl (fun K hK => ?_) AllTwo.nil
 refine st_app (base := base) rfl _ _ _ rfl elI rfl rfl BO4 (r4.turn0 TW hDr) (vis_one _) (by unfold maxLen; first | omega | (simp; done) | (simp; omega)) (by first | omega | (simp; done) | (simp; omega)) HB ?_
 intro A4 c4 W5 AO4 ht hb
 rw [Nat.zero_add, List.nil_append] at AO4
 rw [Nat.zero_add]
 replace ht : Turn W4 W5 (some q4) := ht
 have AO3 := AO3.turn ht (.inr (AO3.not_blk BK4 (by decide)))
 have BO5 := BO5.turn ht (.inr (BO5.not_blk BK4 (by decide)))
 have BK5 := BK5.turn ht (blk_ne BK5 BK4 (by decide))
 have HP := HP.turn ht (blk_ne HP BK4 (by decide))
 have S3 : W5.cell? ⟨p, 3, none⟩ = some (.slice As x.syms.length sc) := HP.ats rfl
 have S4 : W5.cell? ⟨p, 4, none⟩ = some (.slice Ai x.items.length ic) := HP.ats rfl
 have S5 : W5.cell? ⟨p, 5, none⟩ = some (.slice Af x.fields.length fc) := HP.ats rfl
 have TW := TW.new ht (fun g e => by injection e with e; omega)
 have HB := Nat.le_trans HB ht.size
 refine hK.out _ _ (.inr ⟨S3, S4, S5⟩) ?_; clear hK K; (try simp only [Act.put, zs])
 clear ht BK4 BO4
 refine wpTwo_ready (rs := [11]) (by kernel_rfl) (by simp) ?_
 refine AllTwo.cons rfl (fun K hK => ?_) AllTwo.nil
 refine st_app (base := base) rfl _ _ _ rfl elF rfl rfl BO5 (r5.turn0 TW hDr) (vfs_one _) (by unfold maxLen; first | omega | (simp; done) | (simp; omega)) (by first | omega | (simp; done) | (simp; omega)) HB ?_
 intro A5 c5 W6 AO5 ht hb
 rw [Nat.zero_add, List.nil_append] at AO5
 rw [Nat.zero_add]
 replace ht : Turn W5 W6 (some q5) := ht
 have AO3 := AO3.turn ht (.inr (AO3.not_blk BK5 (by decide)))
 have AO4 := AO4.turn ht (.inr (AO4.not_blk BK5 (by decide)))
 have HP := HP.turn ht (blk_ne HP BK5 (by decide))
 have S3 : W6.cell? ⟨p, 3, none⟩ = some (.slice As x.syms.length sc) := HP.ats rfl
 have S4 : W6.cell? ⟨p, 4, none⟩ = some (.slice Ai x.items.length ic) := HP.ats rfl
 have S5 : W6.cell? ⟨p, 5, none⟩ = some (.slice Af x.fields.length fc) := HP.ats rfl
 have TW := TW.new ht (fun g e => by injection e with e; omega)
 have HB := Nat.le_trans HB ht.size
 refine hK.out _ _ (.inr ⟨S3, S4, S5⟩) ?_; clear hK K; (try simp only [Act.put, zs])
 clear ht BK5 BO5
 refine wpTwo_ready (rs := [13]) (by kernel_rfl) (by simp) ?_
 refine AllTwo.cons rfl (fun K hK => ?_) AllTwo.nil
 have z0 := fun j => HP.frozen j
 go_simp
 obtain ⟨V1, hV1⟩ : ∃ V1, V1 = W6.setCell ⟨p, 3, none⟩ (.slice A3 x.syms.length c3) := ⟨_, rfl⟩
 have HP1 : Blk V1 p 64 ([.int .i64 x.k, .string (txt x.name), .int .i64 x.size, .slice A3 x.syms.length c3, .slice Ai x.items.length ic, .slice Af x.fields.length fc] : List Value).toArray := by rw [hV1]; exact HP.sets 3 _
 have tV1 : Turn W6 V1 (some p) := by rw [hV1]; exact Blk.setTurn W6 p 3 _
 rw [← hV1]
 clear hV1 z0
 refine hK.out _ _ (.inl rfl) ?_; clear hK K; (try simp only [Act.put, zs])
 refine wpTwo_ready (rs := [14]) (by kernel_rfl) (by simp) ?_
 refine AllTwo.cons rfl (fun K hK => ?_) AllTwo.nil
 go_simp
 refine hK.out _ _ (.inl rfl) ?_; clear hK K; (try simp only [Act.put, zs])
 refine wpTwo_ready (rs := [15]) (by kernel_rfl) (by simp) ?_
 refine AllTwo.cons rfl (fun K hK => ?_) AllTwo.nil
 have z1 := fun j => HP1.frozen j
 have y4 : V1.cell? ⟨p, 4, none⟩ = some (.slice Ai x.items.length ic) := HP1.ats rfl
 go_simp
 obtain ⟨V2, hV2⟩ : ∃ V2, V2 = V1.setCell ⟨p, 4, none⟩ (.slice A4 x.items.length c4) := ⟨_, rfl⟩
 have HP2 : Blk V2 p 64 ([.int .i64 x.k, .string (txt x.name), .int .i64 x.size, .slice A3 x.syms.length c3, .slice A4 x.items.length c4, .slice Af x.fields.length fc] : List Value).toArray := by rw [hV2]; exact HP1.sets 4 _
 have tV2 : Turn V1 V2 (some p) := by rw [hV2]; exact Blk.setTurn V1 p 4 _
 rw [← hV2]
 clear hV2 z1 y4
 refine hK.out _ _ (.inl rfl) ?_; clear hK K; (try simp only [Act.put, zs])
 refine wpTwo_ready (rs := [16]) (by kernel_rfl) (by simp) ?_
 refine AllTwo.cons rfl (fun K hK => ?_) AllTwo.nil
 go_simp
 refine hK.out _ _ (.inl rfl) ?_; clear hK K; (try simp only [Act.put, zs])
 refine wpTwo_ready (rs := [17]) (by kernel_rfl) (by simp) ?_
 refine AllTwo.cons rfl (fun K hK => ?_) AllTwo.nil
 have z2 := fun j => HP2.frozen j
 have y5 : V2.cell? ⟨p, 5, none⟩ = some (.slice Af x.fields.length fc) := HP2.ats rfl
 go_simp
 obtain ⟨V3, hV3⟩ : ∃ V3, V3 = V2.setCell ⟨p, 5, none⟩ (.slice A5 x.fields.length c5) := ⟨_, rfl⟩
 have HP3 : Blk V3 p 64 ([.int .i64 x.k, .string (txt x.name), .int .i64 x.size, .slice A3 x.syms.length c3, .slice A4 x.items.length c4, .slice A5 x.fields.length c5] : List Value).toArray := by rw [hV3]; exact HP2.sets 5 _
 have tV3 : Turn V2 V3 (some p) := by rw [hV3]; exact Blk.setTurn V2 p 5 _
 rw [← hV3]
 clear hV3 z2 y5
 refine hK.out _ _ (.inl rfl) ?_; clear hK K; (try simp only [Act.put, zs])
 refine wpTwo_done (by kernel_rfl) ?_ _
 have tp := (tV1.trans tV2).trans tV3
 have O3 := AO3.turn tp (.inr (AO3.not_blk HP (by decide)))
 have O4 := AO4.turn tp (.inr (AO4.not_blk HP (by decide)))
 have O5 := AO5.turn tp (.inr (AO5.not_blk HP (by decide)))
 have TV : Turn wr V3 none := TW.new tp (fun g e => by injection e with e; omega)
 exact HQ V3 A3 c3 A4 c4 A5 c5 HP3 O3 O4 O5 TV
theorem rown_any {A : Option Addr} {n c : Nat} {l : List Gn} {D : Nat} {w : World} (ha : Sc w D A n l) (hD : D ≤ w.heap.size) (hn : n ≤ 1000000) (hs : ∀ x ∈ l, x.syms.length ≤ 1000000 ∧ x.items.length ≤ 1000000 ∧ x.fields.length ≤ 1000000) :
  Calls Tryz.prog 14 #[.agg #[.slice A n c]] w fun e w' => ∃ A' c', e = .returned (.agg #[.slice A' n c']) ∧ Sc w' w'.heap.size A' n l ∧ n ≤ c' ∧ c' ≤ maxLen ∧ Turn w w' none := by
 have hl := ha.1
 have HA := hid hl
 clear hl
 go_enter Tryz.func14, Tryz.ntmps14
 go_wp2_with (first
  | (refine wp_bx rfl 24 _ rfl rfl ?_; intro g w1 hg hb1 ht1)
  | (have q9 := hg2; refine wp_var rfl rfl 24 _ _ rfl rfl rfl rfl zSch (fun _ => rfl) (xs := [.slice none 0 0]) (fun _ => rfl) rfl szSch (one1 rfl) ?_; intro g3 w3 hg3 hb3 ht3)
  | (refine wp_al rfl 24 rfl _ zSch ?_; intro g2 w2 hg2 hb2 ht2))
 have t13 := (ht1.trans ht2).trans ht3
 have gl : g < w3.heap.size := ((hb1.turn0 ht2).turn0 ht3).lt
 have gl2 : g2 < w3.heap.size := (hb2.turn0 ht3).lt
 have gl3 : g3 < w3.heap.size := hb3.lt
 have ne12 : g ≠ g2 := by have := hb1.lt; omega
 have ne13 : g ≠ g3 := by have := (hb1.turn0 ht2).lt; omega
 have ne23 : g2 ≠ g3 := by have := hb2.lt; omega
 obtain ⟨base, hbase⟩ : ∃ base, base = w3.heap.size := ⟨_, rfl⟩
 have i0 : OwInv w w3 base g g2 g3 A n c l 0 := ⟨t13, by omega, (hb1.turn0 ht2).turn0 ht3, hb2.turn0 ht3, none, 0, [], hb3, Own.nil _ _ _ _, fun i x _ h => absurd h (Nat.not_lt_zero i)⟩
 rw [← hbase] at gl gl2 gl3
 have hw1 : w.heap.size ≤ g := by omega
 have hw2 : w.heap.size ≤ g2 := by have := ht1.size; omega
 have hw3 : w.heap.size ≤ g3 := by have := ht1.size; have := ht2.size; omega
 clear hbase hg hg2 hg3 q9 hb1 hb2 hb3 t13 ht1 ht2 ht3
 go_loopw [4] (fun i wr => ∃ j : Nat, j ≤ n ∧ i = .int .i64 (j : Int) ∧ OwInv w wr base g g2 g3 A n c l j) (fun i _ => (n - intOf i).toNat)
 case atStart => exact ⟨0, by omega, rfl, i0⟩
 case round =>
  obtain ⟨j, hj, rfl, tr, hbr, kg, kg2, A', c', vs, kg3, ko, kn⟩ := hrel
  have hwr : wrap64 ((j : Int) + 1) = (j : Int) + 1 := by unfold wrap64; omega
  have c0 : wr.cell? ⟨g, 0, none⟩ = some (.slice A n c) := kg.ats rfl
  have hDr : D ≤ wr.heap.size := Nat.le_trans hD tr.size
  by_cases hjn : j < n
  ·have hjl : j < l.length := by rw [HA.out]; exact hjn
   obtain ⟨x, hx⟩ : ∃ x, l[j]? = some x := ⟨l[j], List.getElem?_eq_getElem hjl⟩
   obtain ⟨b1, o1, As, sc, Ai, ic, Af, fc, rfl, nv, a0, a1, a2, a3, a4, a5⟩ := (ha.turn0 tr hD).cells hx
   obtain ⟨_, _, _, _, _, _, e, r3, r4, r5⟩ := nv
   simp only [Value.agg.injEq, Array.mk.injEq, List.cons.injEq, Value.slice.injEq, true_and, and_true] at e
   obtain ⟨⟨rfl, rfl⟩, ⟨rfl, rfl⟩, rfl, rfl⟩ := e
   obtain ⟨l1, l2, l3⟩ := hs x (List.mem_of_getElem? hx)
   have HX := hid hx
   clear hx hjl
   go_upto_region 6 with (first
     | (refine wp_al rfl 64 rfl _ zNdv ?_; intro p w4 hp hb4 ht4)
     | (refine wp_st rfl 64 _ _ rfl rfl rfl hb4 rfl (xs := [.int .i64 x.k, .string (txt x.name), .int .i64 x.size, .slice As x.syms.length sc, .slice Ai x.items.length ic, .slice Af x.fields.length fc]) szNd (ones_cons rfl (ones_cons rfl (ones_cons rfl (ones_cons rfl (ones_cons rfl (ones_cons rfl ones_nil)))))) ?_; intro w5 hb5 ht5))
   have t05 : Turn wr w5 none := ht4.new ht5 (fun g' e => by injection e with e; omega)
   (try simp only [Act.put, zs])
   refine of_codeR (C' := ownR) (by kernel_rfl) (own_region ?_ t05 hb5 hbr (by omega) hDr r3 r4 r5 l1 l2 l3 (fun V3 A3 c3 A4 c4 A5 c5 HP3 O3 O4 O5 TV => ?_))
   ·intro c a o v w h
    cases o <;> exact h
   clear c0 a0 a1 a2 a3 a4 a5 hb4 ht4 hb5 ht5 t05 hp
   have KG := kg.turn0 TV
   have KG2 := kg2.turn0 TV
   have KG3 := kg3.turn0 TV
   have KO := ko.turn0 TV
   have HBV : base ≤ V3.heap.size := Nat.le_trans hbr TV.size
   obtain ⟨L, hL⟩ : ∃ L, L = V3.alloc (.cells ([.int .i64 x.k, .string (txt x.name), .int .i64 x.size, .slice A3 x.syms.length c3, .slice A4 x.items.length c4, .slice A5 x.fields.length c5] : List Value).toArray 64) := ⟨_, rfl⟩
   have tL : Turn V3 L none := by rw [hL]; exact (Turn.refl V3 none).alloc _
   have lL : Rd L (V3.heap.size + 1) 6 (some ⟨V3.heap.size, 0, none⟩) 1 [.int .i64 x.k, .string (txt x.name), .int .i64 x.size, .slice A3 x.syms.length c3, .slice A4 x.items.length c4, .slice A5 x.fields.length c5] := by rw [hL]; exact Rd.litS V3 _ 6 1 _ rfl
   have KOL := KO.turn0 tL
   have KG3L := KG3.turn0 tL
   have d3 : V3.cell? ⟨g3, 0, none⟩ = some (.slice A' j c') := KG3.ats rfl
   have e3 : L.cell? ⟨g3, 0, none⟩ = some (.slice A' j c') := KG3L.ats rfl
   have nq3 : some g3 ≠ blk A' := fun e => KOL.not_blk KG3L (by decide) e.symm
   have hbL : base ≤ L.heap.size := Nat.le_trans HBV tL.size
   subst hL
   go_wp2_with (first
    | (refine wp_ld rfl 64 _ rfl rfl HP3 (Sub.all [.int .i64 x.k, .string (txt x.name), .int .i64 x.size, .slice A3 x.syms.length c3, .slice A4 x.items.length c4, .slice A5 x.fields.length c5]) Tryz.underlying64 rfl szNd ?_)
    | (at_builtin; refine wp_app rfl _ _ _ rfl elNd rfl rfl KOL lL (by repeat (first | exact ones_nil | refine ones_cons rfl ?_)) (by unfold maxLen; first | omega | (simp; done) | (simp; omega)) (by first | omega | (simp; done) | (simp; omega)) hbL ?_; intro A8 c8 w8 ho8 ht8 hb8; have k8 := (ht8.cell (a := ⟨g3, 0, none⟩) KG3L.lt nq3).trans e3; have z8 := (KG3L.turn ht8 nq3).frozen 0))
   refine ⟨⟨j + 1, by omega, by go_num, ?_⟩, by simp [intOf]; omega⟩
   exact own_next hw1 hw3 ne13 ne23 gl gl2 gl3 tr hbr kg kg2 kg3 ko kn (TV.trans tL) O3 O4 O5 tL HX.out ho8 ht8
  ·obtain rfl : j = n := by omega
   go_wp2_with (first
    | (refine wp_ld rfl 24 _ rfl rfl kg3 (Sub.all [.slice A' j c']) Tryz.underlying24 rfl szSch ?_)
    | (refine wp_st rfl 24 _ _ rfl rfl rfl kg2 rfl (xs := [.slice A' j c']) szSch (one1 rfl) ?_; intro w9 hb9 ht9))
   refine bodyPost_ret (res_own hb9 _ (by rfl)) rfl ?_
   have o9 := ko.turn ht9 (.inr (ko.not_blk kg2 (by decide)))
   refine ⟨A', c', rfl, ⟨HA.out, vs, o9.rd, fun i x hx => ?_⟩, o9.cap.1, o9.cap.2, tr.new ht9 (fun q e => by injection e with e; omega)⟩
   have hi : i < j := by have := (List.getElem?_eq_some_iff.1 hx).1; rw [HA.out] at this; exact this
   exact ((kn i x hx hi).turnB kg2 (by decide) (by decide) (by decide) ht9).nd
end Go.Proofs.YtgigiecdpjchkaaGreatDoor
