import Derived.Test.YtjjdhdieihmnnaaGreatDoorG5
import Derived.Deep.RegionLaw
import Derived.Test.YtjjdhdieihmnnaaGreatDoorG4
set_option linter.unusedSimpArgs false
set_option linter.unusedVariables false
set_option linter.unusedSectionVars false
/-
  Layer 7: the code's apart: whether a union can have a type.
-/
namespace Go.Proofs.YtjjdhdieihmnnaaGreatDoor
open Go.RowKit

/-- Whether one of a union's types is that node, or of that kind. -/
def apB (S : List Nd) (k n : Int) (i : Nat) : Bool := decide ((i : Int) = n) || (decide (k < 9) && match S[i]? with
  | some y => decide ((y.k : Int) = k)
  | none => false)
theorem any_at {α : Type} {p : α → Bool} {l : List α} {j : Nat} {x : α} (h : l[j]? = some x) (hp : p x = true) : l.any p = true := List.any_eq_true.2 ⟨x, List.mem_of_getElem? h, hp⟩
theorem any_none {α : Type} {p : α → Bool} {l : List α} (h : ∀ m x, m < l.length → l[m]? = some x → p x = false) : l.any p = false := by
  rw [List.any_eq_false]
  intro x hx
  obtain ⟨m, hm, rfl⟩ := List.mem_iff_getElem.1 hx
  rw [h m l[m] hm (List.getElem?_eq_getElem hm)]
  simp
section
variable {w : World} {b : RB} {a : Nat} {S : List Nd}
/-- A node's cells, where the reader's nodes are. -/
theorem RS.nd (h : RS w b a S) {i : Nat} {x : Nd} (hx : S[i]? = some x) : ∃ R g, NR w b.base R S ∧ w.cell? ⟨b.pB, 2, none⟩ = some (.slice (some ⟨g, 0, none⟩) S.length (R none).c) ∧ (R none).A = some ⟨g, 0, none⟩ ∧ g < w.heap.size ∧
    ∀ j u, (ndRow R i x)[j]? = some u → w.cell? ⟨g, i * 6 + j, none⟩ = some u := by
  obtain ⟨R, hN, _, _, _, p2, _⟩ := h.opn
  obtain ⟨g, hA, hg, _, hc, _⟩ := hN.at_ hx
  rw [hA] at p2
  exact ⟨R, g, hN, p2, hA, hg, hc⟩
set_option maxRecDepth 100000 in
set_option maxHeartbeats 800000 in
theorem apart_top (h : RS w b a S) (t : Tok) (k n : Int) :
    Calls Tryz.prog 106 #[.pointer (some ⟨b.pB, 0, none⟩), .agg (tc t).toArray, .int .i64 (-1), .int .i64 k, .int .i64 n] w (Un b w a S) := by
  have hw := h.hw
  go_enter Tryz.func106, Tryz.ntmps106
  go_wp2_with (refine wp_bx rfl 50 _ rfl rfl ?_; intro g2 w2 hg2 hb2 ht2)
  go_end0
  exact ⟨rfl, h.turn0 ht2, Fr.of_turn ht2 hw⟩
set_option maxRecDepth 100000 in
set_option maxHeartbeats 800000 in
theorem apart_free (h : RS w b a S) (t : Tok) (k n : Int) {m : Nat} {x : Nd} (hm : S[m]? = some x) (hx : x.k ≠ 8) :
    Calls Tryz.prog 106 #[.pointer (some ⟨b.pB, 0, none⟩), .agg (tc t).toArray, .int .i64 (m : Int), .int .i64 k, .int .i64 n] w (Un b w a S) := by
  have hw := h.hw
  have hml : m < S.length := (List.getElem?_eq_some_iff.1 hm).1
  have e1 : ((m : Int) == -1) = false := by rw [beq_eq_false_iff_ne]; omega
  have e2 : ((x.k : Int) != 8) = true := by rw [bne_iff_ne]; omega
  go_enter Tryz.func106, Tryz.ntmps106
  go_wp2_with (refine wp_bx rfl 50 _ rfl rfl ?_; intro g2 w2 hg2 hb2 ht2; obtain ⟨R, g, hN, p2, hA, hgl, hc⟩ := (h.turn0 ht2).nd hm; have c0 : w2.cell? ⟨g, m * 6, none⟩ = some (.int .i64 (x.k : Int)) := hc 0 _ rfl)
  go_end0
  exact ⟨rfl, h.turn0 ht2, Fr.of_turn ht2 hw⟩
set_option maxRecDepth 100000 in
set_option maxHeartbeats 1600000 in
theorem apart_two (h : RS w b a S) (t : Tok) (n : Int) {m : Nat} {x : Nd} (hm : S[m]? = some x) (hx : x.k = 8) :
    Calls Tryz.prog 106 #[.pointer (some ⟨b.pB, 0, none⟩), .agg (tc t).toArray, .int .i64 (m : Int), .int .i64 8, .int .i64 n] w (Gv b w t.at_ 4) := by
  have hw := h.hw
  have hml : m < S.length := (List.getElem?_eq_some_iff.1 hm).1
  have e1 : ((m : Int) == -1) = false := by rw [beq_eq_false_iff_ne]; omega
  go_enter Tryz.func106, Tryz.ntmps106
  go_wp2_with (first
    | (refine wp_bx rfl 50 _ rfl rfl ?_; intro g2 w2 hg2 hb2 ht2; obtain ⟨R, g, hN, p2, hA, hgl, hc⟩ := (h.turn0 ht2).nd hm; have c0 : w2.cell? ⟨g, m * 6, none⟩ = some (.int .i64 8) := (hc 0 _ rfl).trans (by rw [hx]; rfl))
    | (refine wp_ld rfl 50 _ rfl rfl hb2 (Sub.all (tc t)) Tryz.underlying50 rfl szTok ?_)
    | (go_at_call 84; refine (refuse_any t 4 _).mono ?_; rintro e w3 ⟨rfl, ht3⟩; unfold giveV))
  exact ⟨rfl, rfl, (Fr.of_turn ht2 hw).turn ht3 hw⟩
/-- What apart leaves in a union that is no type itself. -/
def ApPost (b : RB) (w : World) (a : Nat) (S : List Nd) (p : Nat) (bad : Bool) (e : Ending) (w' : World) : Prop := if bad = true then Gv b w p 6 e w' else Un b w a S e w'
set_option maxRecDepth 100000 in
set_option maxHeartbeats 3200000 in
theorem apart_any (h : RS w b a S) (t : Tok) (k n : Int) (hk : k ≠ 8) {m : Nat} {x : Nd} (hm : S[m]? = some x) (hx : x.k = 8) :
    Calls Tryz.prog 106 #[.pointer (some ⟨b.pB, 0, none⟩), .agg (tc t).toArray, .int .i64 (m : Int), .int .i64 k, .int .i64 n] w
      (ApPost b w a S t.at_ (x.items.any (apB S k n))) := by
  have hw := h.hw
  have hfew := h.few
  have hat := h.at_
  have hsm := h.ok.small x (List.mem_of_getElem? hm)
  have hin := h.ok.inn x (List.mem_of_getElem? hm)
  have hS := h.ok.few
  have hml : m < S.length := (List.getElem?_eq_some_iff.1 hm).1
  have e1 : ((m : Int) == -1) = false := by rw [beq_eq_false_iff_ne]; omega
  have e8 : (k == 8) = false := by rw [beq_eq_false_iff_ne]; omega
  go_enter Tryz.func106, Tryz.ntmps106
  go_wp2_with (refine wp_bx rfl 50 _ rfl rfl ?_; intro g2 w2 hg2 hb2 ht2; obtain ⟨R, g, hN, p2, hA, hgl, hc⟩ := (h.turn0 ht2).nd hm; have c0 : w2.cell? ⟨g, m * 6, none⟩ = some (.int .i64 8) := (hc 0 _ rfl).trans (by rw [hx]; rfl); have c4 : w2.cell? ⟨g, m * 6 + 4, none⟩ = some (.slice (R (some (m, 1))).A x.items.length (R (some (m, 1))).c) := (hc 4 _ rfl).trans (by show some (Value.slice _ (R (some (m, 1))).n _) = _; rw [(hN.items m x hm).2.2.1]))
  have hO := (hN.items m x hm).own (hN.aps.own _)
  have hrd := hO.rd
  have h2 := h.turn0 ht2
  go_loopw [38] (fun i wr => ∃ j : Nat, j ≤ x.items.length ∧ i = .int .i64 (j : Int) ∧ Hid (∀ q i, q < j → x.items[q]? = some i → apB S k n i = false) ∧ wr = w2) (fun i _ => (x.items.length - intOf i).toNat)
  case atStart => exact ⟨0, by omega, rfl, hid (fun m x h => absurd h (Nat.not_lt_zero m)), rfl⟩
  case round =>
    obtain ⟨j, hj, rfl, HNO, rfl⟩ := hrel
    by_cases hjn : j < x.items.length
    · obtain ⟨i, hi⟩ : ∃ i, x.items[j]? = some i := ⟨x.items[j], List.getElem?_eq_getElem hjn⟩
      have hiS := hin i (List.mem_of_getElem? hi)
      obtain ⟨y, hy⟩ : ∃ y, S[i]? = some y := ⟨S[i], List.getElem?_eq_getElem hiS⟩
      obtain ⟨bb, off, hAi, _, hci⟩ := hrd.head (by omega)
      have cj : wr.cell? ⟨bb, off + j, none⟩ = some (.int .i64 (i : Int)) := hci j _ (vis_at (n := (i : Int)) (by rw [List.getElem?_map, hi]; rfl))
      obtain ⟨g3, hA3, _, _, hc3, _⟩ := hN.at_ hy
      obtain rfl : g3 = g := by rw [hA] at hA3; injection hA3 with hA3; injection hA3 with hA3; exact hA3.symm
      have d0 : wr.cell? ⟨g3, i * 6, none⟩ = some (.int .i64 (y.k : Int)) := hc3 0 _ rfl
      have HB := hid (show apB S k n i = (decide ((i : Int) = n) || (decide (k < 9) && decide ((y.k : Int) = k))) by unfold apB; rw [hy])
      have HI := hid hi
      clear hi hy hci hc3 hrd hO hin
      have next (hno : apB S k n i = false) : Hid (∀ q i, q < j + 1 → x.items[q]? = some i → apB S k n i = false) := hid (fun q i' hq hi' => by
        rcases Nat.lt_or_ge q j with h | h
        · exact HNO.out q i' h hi'
        · obtain rfl : q = j := by omega
          rw [HI.out, Option.some.injEq] at hi'
          rw [← hi']
          exact hno)
      have HNX := hid next
      clear next
      by_cases hn : (i : Int) = n
      · have H := hid (any_at HI.out (HB.out.trans (by rw [decide_eq_true hn, Bool.true_or])))
        go_wp2_with (first
          | (refine wp_ld rfl 50 _ rfl rfl hb2 (Sub.all (tc t)) Tryz.underlying50 rfl szTok ?_)
          | (go_at_call 84; refine (refuse_any t 6 _).mono ?_; rintro e w3 ⟨rfl, ht3⟩; unfold giveV))
        refine ⟨rfl, ?_⟩
        unfold ApPost
        rw [if_pos H.out]
        exact ⟨rfl, (Fr.of_turn ht2 hw).turn ht3 hw⟩
      · have hnn : ((i : Int) == n) = false := by rw [beq_eq_false_iff_ne]; exact hn
        by_cases hk9 : k < 9
        · by_cases hyk : (y.k : Int) = k
          · have H := hid (any_at HI.out (HB.out.trans (by rw [decide_eq_true hk9, decide_eq_true hyk, Bool.and_true, Bool.or_true])))
            go_wp2_with (first
              | (refine wp_ld rfl 50 _ rfl rfl hb2 (Sub.all (tc t)) Tryz.underlying50 rfl szTok ?_)
              | (go_at_call 84; refine (refuse_any t 6 _).mono ?_; rintro e w3 ⟨rfl, ht3⟩; unfold giveV))
            refine ⟨rfl, ?_⟩
            unfold ApPost
            rw [if_pos H.out]
            exact ⟨rfl, (Fr.of_turn ht2 hw).turn ht3 hw⟩
          · have hyy : ((y.k : Int) == k) = false := by rw [beq_eq_false_iff_ne]; exact hyk
            have H := HNX.out (HB.out.trans (by rw [decide_eq_false hn, decide_eq_false hyk, Bool.and_false, Bool.false_or]))
            go_wp2
            refine ⟨⟨j + 1, by omega, by go_num, H, ?_⟩, by simp [intOf]; omega⟩; first | rfl | trivial
        · have H := HNX.out (HB.out.trans (by rw [decide_eq_false hn, decide_eq_false hk9, Bool.false_and, Bool.false_or]))
          go_wp2
          refine ⟨⟨j + 1, by omega, by go_num, H, ?_⟩, by simp [intOf]; omega⟩; first | rfl | trivial
    · obtain rfl : j = x.items.length := by omega
      have H := hid (any_none HNO.out)
      go_wp2
      go_end0
      unfold ApPost
      rw [if_neg (by rw [H.out]; decide)]
      exact ⟨rfl, h2, Fr.of_turn ht2 hw⟩
end
end Go.Proofs.YtjjdhdieihmnnaaGreatDoor
/-
  Layer 7: the reader's nodes are more, or others.
-/
namespace Go.Proofs.YtjjdhdieihmnnaaGreatDoor
open Go.RowKit

theorem elNd : El Tryz.prog 22 61 6 104 := El.mk_ Tryz.underlying22 (z := .agg #[.int .i64 0, .string .empty, .int .i64 0, .slice none 0 0, .slice none 0 0, .slice none 0 0]) (by kernel_rfl) rfl (by decide)
theorem elI : El Tryz.prog 58 3 1 8 := El.mk_ Tryz.underlying58 (z := .int .i64 0) (by kernel_rfl) rfl (by decide)
theorem elS : El Tryz.prog 53 9 1 16 := El.mk_ Tryz.underlying53 (z := .string .empty) (by kernel_rfl) rfl (by decide)
theorem elF : El Tryz.prog 59 103 3 32 := El.mk_ Tryz.underlying59 (z := .agg #[.string .empty, .bool false, .int .i64 0]) (by kernel_rfl) rfl (by decide)
def NdTy (E : TypeId) : Prop := E = 61 ∨ E = 9 ∨ E = 3 ∨ E = 103
section
variable {w w' : World} {base sz n c g : Nat} {E : TypeId} {A : Option Addr} {xs : List Value}
/-- A row of nodes' types turns. -/
theorem Fr.row (ho : Own w base E sz A n c xs) (hE : NdTy E) (ht : Turn w w' (blk A)) (hb : base ≤ w.heap.size) : Fr base w w' := by
  cases hA : blk A with
  | none => rw [hA] at ht; exact Fr.of_turn ht hb
  | some g =>
    rw [hA] at ht
    refine ⟨below_turn ht hb (ho.block g hA).1, fun g' t cs hB a1 a2 a3 a4 a5 => hB.turn ht ?_⟩
    intro e
    injection e with e
    subst e
    refine ho.not_blk hB ?_ hA
    rcases hE with rfl | rfl | rfl | rfl
    · exact a1
    · exact a2
    · exact a3
    · exact a4
end
section
variable {w w' : World} {b : RB} {a : Nat} {S S' : List Nd} {R R' : Ix → Rw}
/-- The reader's own block turns. -/
theorem Fr.own (hrb : Blk w b.pB 94 (rsCells b.A0 b.c0 b.T R a).toArray) (hb : b.base ≤ b.pB) (i : Nat) (u : Value) : Fr b.base w (w.setCell ⟨b.pB, i, none⟩ u) := by
  refine ⟨(Below.refl b.base w).setCell (p := ⟨b.pB, i, none⟩) hb _, fun g t cs hB _ _ _ _ a5 => hB.turn (Blk.setTurn w b.pB i u) ?_⟩
  intro e
  injection e with e
  subst e
  have e := (show w.heap[b.pB]? = _ from hrb).symm.trans (show w.heap[b.pB]? = _ from hB)
  simp only [Option.some.injEq, Obj.cells.injEq] at e
  exact a5 e.2.1.symm
/-- Other nodes in other rows, of which the reader's block does not know yet. -/
theorem RS.renew (h : RS w b a S) (f : Fr b.base w w') (hN : NR w' b.base R' S') (hrb : Blk w' b.pB 94 (rsCells b.A0 b.c0 b.T R a).toArray) (hok : NOk S' a) (v : Value) (hv : v = (R' none).v) :
    RS (w'.setCell ⟨b.pB, 2, none⟩ v) b a S' ∧ Fr b.base w (w'.setCell ⟨b.pB, 2, none⟩ v) := by
  subst hv
  have f2 := Fr.own hrb h.hb 2 (R' none).v
  have hbl := f.1.trans f2.1
  refine ⟨⟨h.hb, Nat.le_trans h.hw hbl.size, h.h0, h.laid.below hbl h.h0, h.toks.below hbl, h.tok, h.few, h.brief, h.hc, h.at_, hok, R', hN.turn hrb ty_R (Blk.setTurn _ _ _ _), ?_⟩, f.trans f2⟩
  have := hrb.set_ 2 (R' none).v
  simpa [rsCells] using this
/-- Other nodes, of which the reader's block knows: their row is as it was. -/
theorem RS.keep (h : RS w b a S) (f : Fr b.base w w') (hN : NR w' b.base R' S') (hrb : Blk w' b.pB 94 (rsCells b.A0 b.c0 b.T R' a).toArray) (hok : NOk S' a) : RS w' b a S' :=
  ⟨h.hb, Nat.le_trans h.hw f.size, h.h0, h.laid.below f.1 h.h0, h.toks.below f.1, h.tok, h.few, h.brief, h.hc, h.at_, hok, R', hN, hrb⟩
theorem NOk.push (h : NOk S a) (hS : S.length < 200) (k : Nat) : NOk (S ++ [Nd.of k]) a := by
  have hm : ∀ x ∈ S ++ [Nd.of k], x ∈ S ∨ x = Nd.of k := fun x hx => by simpa using hx
  refine ⟨by simp; omega, fun x hx hk => ?_, fun x hx => ?_, fun x hx i hi => ?_⟩
  · rcases hm x hx with hx | rfl
    · exact h.names x hx hk
    · rfl
  · rcases hm x hx with hx | rfl
    · exact h.small x hx
    · exact ⟨Nat.zero_le _, Nat.zero_le _, Nat.zero_le _⟩
  · rcases hm x hx with hx | rfl
    · have := h.inn x hx i hi; simp; omega
    · cases hi
/-- Node i is another one. -/
theorem NOk.mod (h : NOk S a) {i a' : Nat} {x : Nd} {gg : Nd → Nd} (hx : S[i]? = some x) (ha : a ≤ a') (hn : (gg x).k < 9 → (gg x).name = []) (hs : (gg x).syms.length ≤ a' ∧ (gg x).items.length ≤ a' ∧ (gg x).fields.length ≤ a') (hi : ∀ j ∈ (gg x).items, j < S.length) : NOk (S.modify i gg) a' := by
  have hm : ∀ y ∈ S.modify i gg, y ∈ S ∨ y = gg x := fun y hy => by
    obtain ⟨k, hk⟩ := List.mem_iff_getElem?.1 hy
    rw [List.getElem?_modify] at hk
    by_cases hik : i = k
    · subst hik
      rw [hx] at hk
      simp at hk
      exact .inr hk.symm
    · simp [hik] at hk
      exact .inl (List.mem_of_getElem? hk)
  refine ⟨by rw [List.length_modify]; exact h.few, fun y hy hk => ?_, fun y hy => ?_, fun y hy j hj => ?_⟩
  · rcases hm y hy with hy | rfl
    · exact h.names y hy hk
    · exact hn hk
  · rcases hm y hy with hy | rfl
    · have := h.small y hy; omega
    · exact hs
  · rw [List.length_modify]
    rcases hm y hy with hy | rfl
    · exact h.inn y hy j hj
    · exact hi j hj
end
end Go.Proofs.YtjjdhdieihmnnaaGreatDoor
/-
  Layer 7: the code's reader: the name of what has one, and a fixed's size.
-/
namespace Go.Proofs.YtjjdhdieihmnnaaGreatDoor
open Go.RowKit

section
variable {w : World} {b : RB} {a : Nat} {S : List Nd}
/-- A number or the name of a node is stored. -/
theorem RS.scalar (h : RS w b a S) {i jj g n' c' : Nat} {x : Nd} {u : Value} {gg : Nd → Nd} (hx : S[i]? = some x) (hj : jj < 3) (hrow : ∀ R, (ndRow R i x).set jj u = ndRow R i (gg x)) (hs : (gg x).syms = x.syms) (hi : (gg x).items = x.items) (hf : (gg x).fields = x.fields)
    (hk : (gg x).k < 9 → (gg x).name = []) (hg : w.cell? ⟨b.pB, 2, none⟩ = some (.slice (some ⟨g, 0, none⟩) n' c')) : RS (w.setCell ⟨g, i * 6 + jj, none⟩ u) b a (S.modify i gg) ∧ Fr b.base w (w.setCell ⟨g, i * 6 + jj, none⟩ u) := by
  obtain ⟨R, hN, hrb, _, _, p2, _⟩ := h.opn
  rw [hg, Option.some.injEq, Value.slice.injEq] at p2
  have hA : (R none).A = some ⟨g, 0, none⟩ := p2.1.symm
  have ho := hN.own
  rw [hA] at ho
  have f : Fr b.base w (w.setCell ⟨g, i * 6 + jj, none⟩ u) := Fr.row (A := some ⟨g, 0, none⟩) ho (.inl rfl) (ho.storeTurn _ _) h.hw
  have hN2 := hN.scalar (gg := gg) hx hA hj (hrow R) hs hi hf
  have hrb2 := hrb.turn (ho.storeTurn (i * 6 + jj) u) (fun e => hN.off hrb ty_R none (by rw [hA]; exact e.symm))
  have hsm := h.ok.small x (List.mem_of_getElem? hx)
  refine ⟨h.keep f hN2 ?_ (h.ok.mod hx (Nat.le_refl _) hk (by rw [hs, hi, hf]; exact hsm) (by rw [hi]; exact h.ok.inn x (List.mem_of_getElem? hx))), f⟩
  have e : rsCells b.A0 b.c0 b.T (upd R none ⟨61, 6, some ⟨g, 0, none⟩, S.length, (R none).c, ndCells R 0 (S.modify i gg)⟩) a = rsCells b.A0 b.c0 b.T R a := by
    unfold rsCells
    rw [upd_same]
    unfold Rw.v
    rw [hA, hN.len]
  rw [e]
  exact hrb2
/-- The nodes' row is another block than the reader's and than a variable of another type. -/
theorem RS.ne (h : RS w b a S) {g n' c' g2 : Nat} {t : TypeId} {cs : Array Value} (hg : w.cell? ⟨b.pB, 2, none⟩ = some (.slice (some ⟨g, 0, none⟩) n' c')) (hB : Blk w g2 t cs) (ht : t ≠ 61 ∧ t ≠ 9 ∧ t ≠ 3 ∧ t ≠ 103) : g ≠ g2 := by
  obtain ⟨R, hN, _, _, _, p2, _⟩ := h.opn
  rw [hg, Option.some.injEq, Value.slice.injEq] at p2
  intro e
  exact hN.off hB ht none (by rw [← p2.1, e]; rfl)
theorem RS.blkR (h : RS w b a S) : ∃ cs, Blk w b.pB 94 cs := let ⟨_, _, h2⟩ := h.mem; ⟨_, h2⟩
theorem RS.fz (h : RS w b a S) {i g n' c' : Nat} {x : Nd} (hx : S[i]? = some x) (hg : w.cell? ⟨b.pB, 2, none⟩ = some (.slice (some ⟨g, 0, none⟩) n' c')) (j : Nat) : w.frozen? ⟨g, j, none⟩ = false := by
  obtain ⟨R, hN, _, _, _, p2, _⟩ := h.opn
  rw [hg, Option.some.injEq, Value.slice.injEq] at p2
  obtain ⟨g', hg', _, _, _, hz⟩ := hN.at_ hx
  rw [← p2.1] at hg'
  injection hg' with hg'
  injection hg' with hg'
  subst hg'
  exact hz j
/-- What title leaves. -/
def TitlePost (b : RB) (w : World) (a : Nat) (S : List Nd) (n : Nat) (e : Ending) (w' : World) : Prop :=
  if pNm (tokAt b.T a).tt = true then (if (pCalled S (tokAt b.T a).s).isSome = true then Gv b w (tokAt b.T a).at_ 6 e w' else Un b w (a + 1) (S.modify n fun y => { y with name := (tokAt b.T a).s }) e w')
  else Gv b w (tokAt b.T a).at_ 4 e w'
set_option maxRecDepth 100000 in
set_option maxHeartbeats 1600000 in
theorem title_any (h : RS w b a S) (ha : a < b.T.length) {n : Nat} {x : Nd} (hn : S[n]? = some x) (hx : 9 ≤ x.k) :
    Calls Tryz.prog 129 #[.pointer (some ⟨b.pB, 0, none⟩), .int .i64 (n : Int)] w (TitlePost b w a S n) := by
  have hw := h.hw
  have hnl : n < S.length := (List.getElem?_eq_some_iff.1 hn).1
  have key := name_any_ h ha
  unfold NamePost at key
  unfold TitlePost
  by_cases hp : pNm (tokAt b.T a).tt = true
  case neg =>
    simp only [if_neg hp] at key ⊢
    go_enter Tryz.func129, Tryz.ntmps129
    go_wp2_with (go_at_call 139; refine key.mono ?_; rintro e w1 ⟨rfl, f1⟩; unfold giveV)
    exact ⟨rfl, rfl, f1⟩
  case pos =>
    have hne : (tokAt b.T a).s ≠ [] := pNm_ne hp
    simp only [if_pos hp] at key ⊢
    obtain ⟨t, ht⟩ : ∃ t, t = tokAt b.T a := ⟨_, rfl⟩
    rw [← ht] at key hne ⊢
    clear ht hp
    have hfc := fnd_called h.ok hne
    cases hc : pCalled S t.s with
    | some m =>
      rw [hc] at hfc
      simp only [Option.isSome_some, if_true]
      have hf := fun {w : World} (h : RS w b (a + 1) S) => find_any h t.s
      rw [hfc] at hf
      clear hfc hc
      go_enter Tryz.func129, Tryz.ntmps129
      go_wp2_with (first
        | (go_at_call 139; refine key.mono ?_; rintro e w1 ⟨rfl, h1, f1⟩)
        | (refine wp_var rfl rfl 50 _ _ rfl rfl rfl rfl zTok (fun _ => rfl) (xs := tc t) (fun _ => rfl) rfl szTok (tc_one t) ?_; intro g2 w2 hgg2 hb2 ht2; have c1 := tok1 hb2; have c0 := tok0 hb2)
        | (go_at_call 104; refine (hf (h1.turn0 ht2)).mono ?_; rintro e w3 ⟨rfl, ht3⟩)
        | (refine wp_ld rfl 50 _ rfl rfl (hb2.turn0 ht3) (Sub.all (tc t)) Tryz.underlying50 rfl szTok ?_)
        | (go_at_call 84; refine (refuse_any t 6 _).mono ?_; rintro e w4 ⟨rfl, ht4⟩; unfold giveV))
      exact ⟨rfl, rfl, ((f1.turn ht2 hw).turn ht3 hw).turn ht4 hw⟩
    | none =>
      rw [hc] at hfc
      simp only [Option.isSome_none, Bool.false_eq_true, if_false]
      have hf := fun {w : World} (h : RS w b (a + 1) S) => find_any h t.s
      rw [hfc] at hf
      clear hfc hc
      go_enter Tryz.func129, Tryz.ntmps129
      go_wp2_with (first
        | (go_at_call 139; refine key.mono ?_; rintro e w1 ⟨rfl, h1, f1⟩)
        | (refine wp_var rfl rfl 50 _ _ rfl rfl rfl rfl zTok (fun _ => rfl) (xs := tc t) (fun _ => rfl) rfl szTok (tc_one t) ?_; intro g2 w2 hgg2 hb2 ht2; have c1 := tok1 hb2; have c0 := tok0 hb2)
        | (go_at_call 104; refine (hf (h1.turn0 ht2)).mono ?_; rintro e w3 ⟨rfl, ht3⟩))
      have h3 := (h1.turn0 ht2).turn0 ht3
      have d1 := tok1 (hb2.turn0 ht3)
      obtain ⟨R, g, hN, p2, hA, hg, hcs⟩ := h3.nd hn
      have fz := h3.fz hn p2 (n * 6 + 1)
      have cn : w3.cell? ⟨g, n * 6 + 1, none⟩ = some (.string (txt x.name)) := hcs 1 _ rfl
      have f3 := (f1.turn ht2 hw).turn ht3 hw
      obtain ⟨_, hbR⟩ := h3.blkR
      have ne1 : g ≠ b.pB := h3.ne p2 hbR ty_R
      have ne2 : g ≠ g2 := h3.ne p2 (hb2.turn0 ht3) (by decide)
      obtain ⟨h4, f4⟩ := h3.scalar (jj := 1) (u := .string (txt t.s)) (gg := fun y => { y with name := t.s }) hn (by omega) (fun R => rfl) rfl rfl rfl (fun (hk : x.k < 9) => by omega) p2
      go_region_held3 (fun W => W.cell? ⟨b.pB, 2, none⟩ = some (.slice (some ⟨g, 0, none⟩) S.length (R none).c) ∧ W.cell? ⟨g2, 1, none⟩ = some (.string (txt t.s))) (go_keep) (fail)
      go_wp2
      go_end0
      have hd := Turn.drew (Turn.refl (w3.setCell ⟨g, n * 6 + 1, none⟩ (.string (txt t.s))) none)
      exact ⟨rfl, h4.turn0 hd, (f3.trans f4).turn hd hw⟩
/-- What size leaves. -/
def SizePost (b : RB) (w : World) (a : Nat) (S : List Nd) (n : Nat) (e : Ending) (w' : World) : Prop :=
  if wOk (tokAt b.T a).s = true then Un b w (a + 1) (S.modify n fun y => { y with size := wNumAt (tokAt b.T a).s }) e w' else Gv b w (tokAt b.T a).at_ 4 e w'
set_option maxRecDepth 100000 in
set_option maxHeartbeats 1600000 in
theorem size_any (h : RS w b a S) (ha : a < b.T.length) {n : Nat} {x : Nd} (hn : S[n]? = some x) (hx : 9 ≤ x.k) :
    Calls Tryz.prog 131 #[.pointer (some ⟨b.pB, 0, none⟩), .int .i64 (n : Int)] w (SizePost b w a S n) := by
  have hw := h.hw
  have hl := h.brief _ ha
  have hnl : n < S.length := (List.getElem?_eq_some_iff.1 hn).1
  unfold SizePost
  obtain ⟨t, ht⟩ : ∃ t, t = tokAt b.T a := ⟨_, rfl⟩
  rw [← ht] at hl ⊢
  have HT := hid ht
  clear ht
  have num := fun w => lexDone.number _ t.s w rfl (by omega)
  by_cases hp : wOk t.s = true
  case neg =>
    rw [if_neg hp, show wOk t.s = false by simpa using hp] at num
    simp only [if_neg hp]
    go_enter Tryz.func131, Tryz.ntmps131
    go_wp2_with (first
      | (go_at_call 83; refine (take_t HT h ha).mono ?_; rintro e w1 ⟨rfl, h1, f1⟩)
      | (refine wp_var rfl rfl 50 _ _ rfl rfl rfl rfl zTok (fun _ => rfl) (xs := tc t) (fun _ => rfl) rfl szTok (tc_one t) ?_; intro g2 w2 hgg2 hb2 ht2; have c1 := tok1 hb2; have c0 := tok0 hb2)
      | (go_at_call 141; refine (num _).mono ?_; rintro e w3 ⟨rfl, ht3⟩)
      | (refine wp_ld rfl 50 _ rfl rfl (hb2.turn0 ht3) (Sub.all (tc t)) Tryz.underlying50 rfl szTok ?_)
      | (go_at_call 84; refine (refuse_any t 4 _).mono ?_; rintro e w4 ⟨rfl, ht4⟩; unfold giveV))
    exact ⟨rfl, rfl, ((f1.turn ht2 hw).turn ht3 hw).turn ht4 hw⟩
  case pos =>
    rw [if_pos hp, hp] at num
    obtain ⟨z, hz⟩ : ∃ z, z = wNumAt t.s := ⟨_, rfl⟩
    simp only [if_pos hp]
    rw [← hz] at num ⊢
    clear hz
    go_enter Tryz.func131, Tryz.ntmps131
    go_upto_region 4 with (first
      | (go_at_call 83; refine (take_t HT h ha).mono ?_; rintro e w1 ⟨rfl, h1, f1⟩)
      | (refine wp_var rfl rfl 50 _ _ rfl rfl rfl rfl zTok (fun _ => rfl) (xs := tc t) (fun _ => rfl) rfl szTok (tc_one t) ?_; intro g2 w2 hgg2 hb2 ht2; have c1 := tok1 hb2; have c0 := tok0 hb2)
      | (go_at_call 141; refine (num _).mono ?_; rintro e w3 ⟨rfl, ht3⟩))
    have h3 := (h1.turn0 ht2).turn0 ht3
    obtain ⟨R, g, hN, p2, hA, hg, hcs⟩ := h3.nd hn
    have fz := h3.fz hn p2 (n * 6 + 2)
    have cn : w3.cell? ⟨g, n * 6 + 2, none⟩ = some (.int .i64 (x.size : Int)) := hcs 2 _ rfl
    have f3 := (f1.turn ht2 hw).turn ht3 hw
    obtain ⟨h4, f4⟩ := h3.scalar (jj := 2) (u := .int .i64 (z : Int)) (gg := fun y => { y with size := z }) hn (by omega) (fun R => rfl) rfl rfl rfl (fun (hk : x.k < 9) => by omega) p2
    go_wp2
    go_end0
    exact ⟨rfl, h4, f3.trans f4⟩
end
end Go.Proofs.YtjjdhdieihmnnaaGreatDoor
/-
  Layer 7: the code's reader: a row of a node is more; symbols.
-/
namespace Go.Proofs.YtjjdhdieihmnnaaGreatDoor
open Go.RowKit

section
variable {w w1 : World} {b : RB} {a : Nat} {S : List Nd} {R : Ix → Rw}
/-- A row of a node becomes another one, and is stored. -/
theorem RS.slot (h : RS w b a S) (hN : NR w b.base R S) (hrb : Blk w b.pB 94 (rsCells b.A0 b.c0 b.T R a).toArray) {i j g : Nat} {x : Nd} {gg : Nd → Nd} (hx : S[i]? = some x) (hA : (R none).A = some ⟨g, 0, none⟩) (hj : j < 3) {r : Rw} (ho : r.own w1 b.base)
    (ht : Turn w w1 (blk (R (some (i, j))).A)) (hb : blk r.A = blk (R (some (i, j))).A ∨ ∃ q, blk r.A = some q ∧ w.heap.size ≤ q) (hty : r.E = 9 ∨ r.E = 3 ∨ r.E = 103) (hk : (gg x).k = x.k ∧ (gg x).name = x.name ∧ (gg x).size = x.size)
    (h0 : Sh (if j = 0 then r else R (some (i, 0))) 9 1 (gg x).syms.length (vss (gg x).syms)) (h1 : Sh (if j = 1 then r else R (some (i, 1))) 3 1 (gg x).items.length (vis ((gg x).items.map Int.ofNat)))
    (h2 : Sh (if j = 2 then r else R (some (i, 2))) 103 3 (gg x).fields.length (vfs ((gg x).fields.map Fl.g))) (hok : NOk (S.modify i gg) a) :
    RS (w1.setCell ⟨g, i * 6 + (3 + j), none⟩ r.v) b a (S.modify i gg) ∧ Fr b.base w (w1.setCell ⟨g, i * 6 + (3 + j), none⟩ r.v) := by
  have hR : NdTy (R (some (i, j))).E := hN.ty _
  have f1 : Fr b.base w w1 := Fr.row (hN.aps.own (some (i, j))) hR ht h.hw
  have hN2 := hN.slot (gg := gg) hx hA hj ho ht hb hty hk h0 h1 h2
  have hne : blk (R (some (i, j))).A = none ∨ blk (R none).A ≠ blk (R (some (i, j))).A := by
    cases hq : blk (R (some (i, j))).A with
    | none => exact .inl rfl
    | some q => exact .inr fun e => hN.aps.off none (some (i, j)) (by simp) q e hq
  have hown : Own w1 b.base 61 6 (some ⟨g, 0, none⟩) S.length (R none).c (ndCells R 0 S) := by
    have := hN.own
    rw [hA] at this
    refine Own.turn this ht (hne.imp id fun e => ?_)
    rw [← hA]; exact e
  have f2 : Fr b.base w1 (w1.setCell ⟨g, i * 6 + (3 + j), none⟩ r.v) := Fr.row (A := some ⟨g, 0, none⟩) hown (.inl rfl) (hown.storeTurn _ _) (Nat.le_trans h.hw ht.size)
  have hrb1 := hrb.turn ht (fun e => hN.off hrb ty_R (some (i, j)) e.symm)
  have hrb2 := hrb1.turn (hown.storeTurn (i * 6 + (3 + j)) r.v) (fun e => hN.off hrb ty_R none (by rw [hA]; exact e.symm))
  refine ⟨h.keep (f1.trans f2) hN2 ?_ hok, f1.trans f2⟩
  have e : rsCells b.A0 b.c0 b.T (upd (upd R (some (i, j)) r) none ⟨61, 6, some ⟨g, 0, none⟩, S.length, (R none).c, ndCells (upd R (some (i, j)) r) 0 (S.modify i gg)⟩) a = rsCells b.A0 b.c0 b.T R a := by
    unfold rsCells
    rw [upd_same]
    unfold Rw.v
    rw [hA, hN.len]
  rw [e]
  exact hrb2
/-- A node's cells and rows, all told. -/
structure NdAt (w : World) (b : RB) (a : Nat) (S : List Nd) (R : Ix → Rw) (g i : Nat) (x : Nd) : Prop where
  hN : NR w b.base R S
  hrb : Blk w b.pB 94 (rsCells b.A0 b.c0 b.T R a).toArray
  p2 : w.cell? ⟨b.pB, 2, none⟩ = some (.slice (some ⟨g, 0, none⟩) S.length (R none).c)
  hA : (R none).A = some ⟨g, 0, none⟩
  n0 : w.cell? ⟨g, i * 6, none⟩ = some (.int .i64 (x.k : Int))
  n3 : w.cell? ⟨g, i * 6 + 3, none⟩ = some (.slice (R (some (i, 0))).A x.syms.length (R (some (i, 0))).c)
  n4 : w.cell? ⟨g, i * 6 + 4, none⟩ = some (.slice (R (some (i, 1))).A x.items.length (R (some (i, 1))).c)
  n5 : w.cell? ⟨g, i * 6 + 5, none⟩ = some (.slice (R (some (i, 2))).A x.fields.length (R (some (i, 2))).c)
  fz : ∀ j, w.frozen? ⟨g, j, none⟩ = false
  ne : g ≠ b.pB
theorem RS.ndAt (h : RS w b a S) {i : Nat} {x : Nd} (hx : S[i]? = some x) : ∃ R g, NdAt w b a S R g i x := by
  obtain ⟨R, hN, hrb, _, _, p2, _⟩ := h.opn
  obtain ⟨g, hA, hg, _, hc, hz⟩ := hN.at_ hx
  rw [hA] at p2
  refine ⟨R, g, hN, hrb, p2, hA, hc 0 _ rfl, (hc 3 _ rfl).trans ?_, (hc 4 _ rfl).trans ?_, (hc 5 _ rfl).trans ?_, hz, h.ne p2 hrb ty_R⟩
  · show some (Value.slice _ (R (some (i, 0))).n _) = _
    rw [(hN.syms i x hx).2.2.1]
  · show some (Value.slice _ (R (some (i, 1))).n _) = _
    rw [(hN.items i x hx).2.2.1]
  · show some (Value.slice _ (R (some (i, 2))).n _) = _
    rw [(hN.fields i x hx).2.2.1]
theorem NdAt.turn0 {i g : Nat} {x : Nd} (h : NdAt w b a S R g i x) (ht : Turn w w1 none) : NdAt w1 b a S R g i x := by
  have lp := h.hrb.lt
  have lg := World.block_lt_of_cell? w _ h.n0
  have hc : ∀ j v, w.cell? ⟨g, j, none⟩ = some v → w1.cell? ⟨g, j, none⟩ = some v := fun j v hv => (ht.cell (a := ⟨g, j, none⟩) lg (by simp)).trans hv
  refine ⟨h.hN.turn0 ht, h.hrb.turn0 ht, (ht.cell (a := ⟨b.pB, 2, none⟩) lp (by simp)).trans h.p2, h.hA, hc _ _ h.n0, hc _ _ h.n3, hc _ _ h.n4, hc _ _ h.n5, fun j => ?_, h.ne⟩
  have ho := h.hN.turn0 ht |>.own
  rw [h.hA] at ho
  exact ho.frozen j
/-- Row j of the node is another block than the reader's, than the nodes', than a variable of another type. -/
theorem NdAt.q1 {i g : Nat} {x : Nd} (h : NdAt w b a S R g i x) (j : Nat) : some b.pB ≠ blk (R (some (i, j))).A := fun e => h.hN.off h.hrb ty_R _ e.symm
theorem NdAt.q2 {i g : Nat} {x : Nd} (h : NdAt w b a S R g i x) (j : Nat) : some g ≠ blk (R (some (i, j))).A := fun e => h.hN.aps.off none (some (i, j)) (by simp) g (by rw [h.hA]; rfl) e.symm
theorem NdAt.q3 {i g g2 : Nat} {x : Nd} {cs : Array Value} (h : NdAt w b a S R g i x) (j : Nat) (hb : Blk w g2 50 cs) : some g2 ≠ blk (R (some (i, j))).A := fun e => h.hN.off hb (by decide) _ e.symm
end
set_option maxHeartbeats 800000 in
theorem index_s_any (A : Option Addr) (n c : Nat) (l : List (List UInt8)) (x : List UInt8) (B : Nat) (w : World) (hl : l.length = n) (ha : Rd w B 1 A n (vss l)) (hn : n ≤ 1000000) :
    Calls Tryz.prog 147 #[.slice A n c, .string (txt x)] w fun e w' => (∃ i : Int, e = .returned (.int .i64 i) ∧ decide (0 ≤ i) = l.contains x) ∧ w = w' := by
  go_enter Tryz.func147, Tryz.ntmps147
  go_wp2
  go_loopw [8] (fun i wr => ∃ j : Nat, j ≤ n ∧ i = .int .i64 (j : Int) ∧ Hid (∀ m z, m < j → l[m]? = some z → z ≠ x) ∧ wr = w) (fun i _ => (n - intOf i).toNat)
  case atStart => exact ⟨0, by omega, rfl, hid (fun m x h => absurd h (Nat.not_lt_zero m)), rfl⟩
  case round =>
    obtain ⟨j, hj, rfl, HNO, rfl⟩ := hrel
    by_cases hjn : j < n
    · obtain ⟨y, hy⟩ : ∃ y, l[j]? = some y := ⟨l[j]'(by omega), List.getElem?_eq_getElem (by omega)⟩
      obtain ⟨b1, o1, rfl, _, h1⟩ := ha.head (by omega)
      have hc1 := h1 j _ (vss_at hy)
      have HY := hid hy
      clear h1 hy
      by_cases hxy : y = x
      · have e1 : ((txt x).toList == (txt y).toList) = true := by rw [tx_beq]; simpa using hxy.symm
        have HX := hid hxy
        clear hxy
        go_wp2
        go_ret
        refine ⟨⟨(j : Int), rfl, ?_⟩, rfl⟩
        rw [decide_eq_true (by omega)]
        symm
        rw [List.contains_iff_mem, ← HX.out]
        exact List.mem_of_getElem? HY.out
      · have e1 : ((txt x).toList == (txt y).toList) = false := by rw [tx_beq]; simpa using fun e => hxy e.symm
        have HX := hid hxy
        clear hxy
        go_wp2
        refine ⟨⟨j + 1, by omega, by go_num, hid (fun m z hm hz => ?_), ?_⟩, by simp [intOf]; omega⟩
        · rcases Nat.lt_or_ge m j with h | h
          · exact HNO.out m z h hz
          · obtain rfl : m = j := by omega
            rw [HY.out, Option.some.injEq] at hz
            rw [← hz]
            exact HX.out
        · first | rfl | trivial
    · obtain rfl : j = n := by omega
      go_wp2
      go_ret
      refine ⟨⟨-1, rfl, ?_⟩, rfl⟩
      rw [decide_eq_false (by omega)]
      symm
      rw [← Bool.not_eq_true, List.contains_iff_mem]
      intro hm
      obtain ⟨m, hml, e⟩ := List.mem_iff_getElem.1 hm
      exact HNO.out m l[m] (by omega) (List.getElem?_eq_getElem hml) e
set_option maxHeartbeats 800000 in
theorem contains_any (A : Option Addr) (n c : Nat) (l : List (List UInt8)) (x : List UInt8) (B : Nat) (w : World) (hl : l.length = n) (ha : Rd w B 1 A n (vss l)) (hn : n ≤ 1000000) :
    Calls Tryz.prog 140 #[.slice A n c, .string (txt x)] w fun e w' => e = .returned (.bool (l.contains x)) ∧ w = w' := by
  go_enter Tryz.func140, Tryz.ntmps140
  go_wp2_with (go_at_call 147; refine (index_s_any A n c l x B _ hl ha hn).mono ?_; rintro e w2 ⟨⟨i, rfl, hi⟩, rfl⟩; have HI := hid hi; clear hi)
  go_ret
  exact ⟨by rw [← HI.out]; rfl, rfl⟩
end Go.Proofs.YtjjdhdieihmnnaaGreatDoor
/-
  Layer 7: the code's reader: a symbol more.
-/
namespace Go.Proofs.YtjjdhdieihmnnaaGreatDoor
open Go.RowKit

theorem quiet_eq {P : Program} {f : FuncId} {args : Array Value} {w : World} {n : Nat} {v : Value}
    (h : Calls P f args (w.drewN n) fun e w' => e = .returned v ∧ w.drewN n = w') : Calls P f args (w.drewN n) fun e w'' => e = .returned v ∧ ∃ m, w'' = w.drewN m :=
  h.mono fun _ _ ⟨he, hm⟩ => ⟨he, n, hm.symm⟩
/-- What symbol leaves. -/
def SymPost (b : RB) (w : World) (a : Nat) (S : List Nd) (n : Nat) (ys : List (List UInt8)) (e : Ending) (w' : World) : Prop :=
  if pNm (tokAt b.T a).tt = true then (if ys.contains (tokAt b.T a).s = true then Gv b w (tokAt b.T a).at_ 6 e w' else Un b w (a + 1) (S.modify n fun y => { y with syms := y.syms ++ [(tokAt b.T a).s] }) e w')
  else Gv b w (tokAt b.T a).at_ 4 e w'
set_option maxRecDepth 100000 in
set_option maxHeartbeats 1600000 in
theorem symbol_any {w : World} {b : RB} {a : Nat} {S : List Nd} (h : RS w b a S) (ha : a < b.T.length) {n : Nat} {x : Nd} (hn : S[n]? = some x) (hx : 9 ≤ x.k) :
    Calls Tryz.prog 130 #[.pointer (some ⟨b.pB, 0, none⟩), .int .i64 (n : Int)] w (SymPost b w a S n x.syms) := by
  have hw := h.hw
  have hnl : n < S.length := (List.getElem?_eq_some_iff.1 hn).1
  have hsm := h.ok.small x (List.mem_of_getElem? hn)
  have hin := h.ok.inn x (List.mem_of_getElem? hn)
  have hfew := h.few
  have key := name_any_ h ha
  unfold NamePost at key
  unfold SymPost
  by_cases hp : pNm (tokAt b.T a).tt = true
  case neg =>
    simp only [if_neg hp] at key ⊢
    go_enter Tryz.func130, Tryz.ntmps130
    go_wp2_with (go_at_call 139; refine key.mono ?_; rintro e w1 ⟨rfl, f1⟩; unfold giveV)
    exact ⟨rfl, rfl, f1⟩
  case pos =>
    simp only [if_pos hp] at key ⊢
    obtain ⟨t, ht⟩ : ∃ t, t = tokAt b.T a := ⟨_, rfl⟩
    rw [← ht] at key ⊢
    clear ht hp
    have hc1 := fun (A : Option Addr) (c B : Nat) (w : World) (hr : Rd w B 1 A x.syms.length (vss x.syms)) => contains_any A _ c x.syms t.s B w rfl hr (by omega)
    cases hc : x.syms.contains t.s with
    | true =>
      rw [hc] at hc1
      simp only [if_true]
      have HC := hid hc
      clear hc
      go_enter Tryz.func130, Tryz.ntmps130
      go_wp2_with (first
        | (go_at_call 139; refine key.mono ?_; rintro e w1 ⟨rfl, h1, f1⟩)
        | (refine wp_var rfl rfl 50 _ _ rfl rfl rfl rfl zTok (fun _ => rfl) (xs := tc t) (fun _ => rfl) rfl szTok (tc_one t) ?_; intro g2 w2 hgg2 hb2 ht2; have c1 := tok1 hb2; have c0 := tok0 hb2))
      have h2 := h1.turn0 ht2
      obtain ⟨R, g, nd⟩ := h2.ndAt hn
      have p2 := nd.p2
      have n3 := nd.n3
      have hr := ((nd.hN.syms n x hn).own (nd.hN.aps.own _)).rd
      go_quiet ((go_at_call 140; exact quiet_eq (hc1 _ _ _ _ hr)))
      have hT : Turn w2 (w2.drewN nq) none := (Turn.refl w2 none).drewN nq
      go_wp2_with (first
        | (refine wp_ld rfl 50 _ rfl rfl (hb2.turn0 hT) (Sub.all (tc t)) Tryz.underlying50 rfl szTok ?_)
        | (go_at_call 84; refine (refuse_any t 6 _).mono ?_; rintro e w4 ⟨rfl, ht4⟩; unfold giveV))
      exact ⟨rfl, rfl, ((f1.turn ht2 hw).turn hT hw).turn ht4 hw⟩
    | false =>
      rw [hc] at hc1
      simp only [Bool.false_eq_true, if_false]
      have HC := hid hc
      clear hc
      go_enter Tryz.func130, Tryz.ntmps130
      go_wp2_with (first
        | (go_at_call 139; refine key.mono ?_; rintro e w1 ⟨rfl, h1, f1⟩)
        | (refine wp_var rfl rfl 50 _ _ rfl rfl rfl rfl zTok (fun _ => rfl) (xs := tc t) (fun _ => rfl) rfl szTok (tc_one t) ?_; intro g2 w2 hgg2 hb2 ht2; have c1 := tok1 hb2; have c0 := tok0 hb2))
      have h2 := h1.turn0 ht2
      obtain ⟨R, g, nd⟩ := h2.ndAt hn
      have p2 := nd.p2
      have n3 := nd.n3
      have hr := ((nd.hN.syms n x hn).own (nd.hN.aps.own _)).rd
      go_quiet ((go_at_call 140; exact quiet_eq (hc1 _ _ _ _ hr)))
      have hT : Turn w2 (w2.drewN nq) none := (Turn.refl w2 none).drewN nq
      go_wp2_with (fail)
      obtain ⟨w3, hw3⟩ : ∃ w3, w3 = w2.drewN nq := ⟨_, rfl⟩
      rw [← hw3]
      rw [← hw3] at hT
      clear hw3
      have h3 := h2.turn0 hT
      have hb3 := hb2.turn0 hT
      have d1 := tok1 hb3
      have f3 := (f1.turn ht2 hw).turn hT hw
      clear p2 n3 hr
      have nd3 := nd.turn0 hT
      have hN := nd3.hN
      have hrb := nd3.hrb
      have p2 := nd3.p2
      have n3 := nd3.n3
      have hgp := nd3.ne
      have hw3 := h3.hw
      have hown := nd3.hN.own
      rw [nd3.hA] at hown
      have fz3 := nd3.fz (n * 6 + 3)
      have hO := (hN.syms n x hn).own (hN.aps.own _)
      have lp := hrb.lt
      have lg := World.block_lt_of_cell? w3 _ nd3.n0
      have l2 := hb3.lt
      have q1 := nd3.q1 0
      have q2 := nd3.q2 0
      have q3 := nd3.q3 0 hb3
      have ne2 : g ≠ g2 := h3.ne p2 hb3 (by decide)
      have tA : Turn w3 (w3.alloc (.cells #[.string (txt t.s)] 9)).drew none := ((Turn.refl w3 none).alloc _).drew
      have pA := (tA.cell (a := ⟨b.pB, 2, none⟩) lp (by simp)).trans p2
      have dA := (tA.cell (a := ⟨g2, 1, none⟩) l2 (by simp)).trans d1
      have nA := (tA.cell (a := ⟨g, n * 6 + 3, none⟩) lg (by simp)).trans n3
      have hwA : b.base ≤ (w3.alloc (.cells #[.string (txt t.s)] 9)).drew.heap.size := Nat.le_trans h3.hw tA.size
      have hsA : w3.heap.size ≤ (w3.alloc (.cells #[.string (txt t.s)] 9)).drew.heap.size := tA.size
      have hA := nd3.hA
      refine wp_region_noPanic ?_
      refine wp_region_held_drew (S := (fun W => W.cell? ⟨b.pB, 2, none⟩ = some (.slice (some ⟨g, 0, none⟩) S.length (R none).c) ∧ W.cell? ⟨g2, 1, none⟩ = some (.string (txt t.s)))) (by kernel_rfl) (⟨p2, d1⟩) (fun hHeld => ?_)
      (first | (refine wpAnyH_take (i := 0) (v := undef) rfl (by kernel_rfl) (by kernel_rfl) (by kernel_rfl) (fun _ _ _ h => h) (Or.inr ⟨rfl, rfl⟩) (by assumption) ?_) | (refine wpAnyH_take (i := 0) (v := ?_) rfl (by kernel_rfl) (by kernel_rfl) (by kernel_rfl) (fun _ _ _ h => h) (Or.inl ⟨rfl, ?_⟩) (by assumption) ?_; rotate_left 1; · (intro w hSw; (try dsimp only at hSw); go_simp; (try with_reducible rfl)))); (try simp only [Act.put, List.getElem_toArray, List.getElem_cons_zero, List.getElem_cons_succ, List.setIfInBounds_toArray, List.set_cons_zero, List.set_cons_succ])
      (first | (refine wpAnyH_take (i := 1) (v := undef) rfl (by kernel_rfl) (by kernel_rfl) (by kernel_rfl) (fun _ _ _ h => h) (Or.inr ⟨rfl, rfl⟩) (by assumption) ?_) | (refine wpAnyH_take (i := 1) (v := ?_) rfl (by kernel_rfl) (by kernel_rfl) (by kernel_rfl) (fun _ _ _ h => h) (Or.inl ⟨rfl, ?_⟩) (by assumption) ?_; rotate_left 1; · (intro w hSw; (try dsimp only at hSw); go_simp; (try with_reducible rfl)))); (try simp only [Act.put, List.getElem_toArray, List.getElem_cons_zero, List.getElem_cons_succ, List.setIfInBounds_toArray, List.set_cons_zero, List.set_cons_succ])
      (first | (refine wpAnyH_take (i := 2) (v := undef) rfl (by kernel_rfl) (by kernel_rfl) (by kernel_rfl) (fun _ _ _ h => h) (Or.inr ⟨rfl, rfl⟩) (by assumption) ?_) | (refine wpAnyH_take (i := 2) (v := ?_) rfl (by kernel_rfl) (by kernel_rfl) (by kernel_rfl) (fun _ _ _ h => h) (Or.inl ⟨rfl, ?_⟩) (by assumption) ?_; rotate_left 1; · (intro w hSw; (try dsimp only at hSw); go_simp; (try with_reducible rfl)))); (try simp only [Act.put, List.getElem_toArray, List.getElem_cons_zero, List.getElem_cons_succ, List.setIfInBounds_toArray, List.set_cons_zero, List.set_cons_succ])
      (first | (refine wpAnyH_take (i := 3) (v := undef) rfl (by kernel_rfl) (by kernel_rfl) (by kernel_rfl) (fun _ _ _ h => h) (Or.inr ⟨rfl, rfl⟩) (by assumption) ?_) | (refine wpAnyH_take (i := 3) (v := ?_) rfl (by kernel_rfl) (by kernel_rfl) (by kernel_rfl) (fun _ _ _ h => h) (Or.inl ⟨rfl, ?_⟩) (by assumption) ?_; rotate_left 1; · (intro w hSw; (try dsimp only at hSw); go_simp; (try with_reducible rfl)))); (try simp only [Act.put, List.getElem_toArray, List.getElem_cons_zero, List.getElem_cons_succ, List.setIfInBounds_toArray, List.set_cons_zero, List.set_cons_succ])
      (first | (refine wpAnyH_take (i := 4) (v := undef) rfl (by kernel_rfl) (by kernel_rfl) (by kernel_rfl) (fun _ _ _ h => h) (Or.inr ⟨rfl, rfl⟩) (by assumption) ?_) | (refine wpAnyH_take (i := 4) (v := ?_) rfl (by kernel_rfl) (by kernel_rfl) (by kernel_rfl) (fun _ _ _ h => h) (Or.inl ⟨rfl, ?_⟩) (by assumption) ?_; rotate_left 1; · (intro w hSw; (try dsimp only at hSw); go_simp; (try with_reducible rfl)))); (try simp only [Act.put, List.getElem_toArray, List.getElem_cons_zero, List.getElem_cons_succ, List.setIfInBounds_toArray, List.set_cons_zero, List.set_cons_succ])
      (first | (refine wpAnyH_take (i := 5) (v := undef) rfl (by kernel_rfl) (by kernel_rfl) (by kernel_rfl) (fun _ _ _ h => h) (Or.inr ⟨rfl, rfl⟩) (by assumption) ?_) | (refine wpAnyH_take (i := 5) (v := ?_) rfl (by kernel_rfl) (by kernel_rfl) (by kernel_rfl) (fun _ _ _ h => h) (Or.inl ⟨rfl, ?_⟩) (by assumption) ?_; rotate_left 1; · (intro w hSw; (try dsimp only at hSw); go_simp; (try with_reducible rfl)))); (try simp only [Act.put, List.getElem_toArray, List.getElem_cons_zero, List.getElem_cons_succ, List.setIfInBounds_toArray, List.set_cons_zero, List.set_cons_succ])
      (first | (refine wpAnyH_take (i := 6) (v := undef) rfl (by kernel_rfl) (by kernel_rfl) (by kernel_rfl) (fun _ _ _ h => h) (Or.inr ⟨rfl, rfl⟩) (by assumption) ?_) | (refine wpAnyH_take (i := 6) (v := ?_) rfl (by kernel_rfl) (by kernel_rfl) (by kernel_rfl) (fun _ _ _ h => h) (Or.inl ⟨rfl, ?_⟩) (by assumption) ?_; rotate_left 1; · (intro w hSw; (try dsimp only at hSw); go_simp; (try with_reducible rfl)))); (try simp only [Act.put, List.getElem_toArray, List.getElem_cons_zero, List.getElem_cons_succ, List.setIfInBounds_toArray, List.set_cons_zero, List.set_cons_succ])
      (first | (refine wpAnyH_take (i := 7) (v := undef) rfl (by kernel_rfl) (by kernel_rfl) (by kernel_rfl) (fun _ _ _ h => h) (Or.inr ⟨rfl, rfl⟩) (by assumption) ?_) | (refine wpAnyH_take (i := 7) (v := ?_) rfl (by kernel_rfl) (by kernel_rfl) (by kernel_rfl) (fun _ _ _ h => h) (Or.inl ⟨rfl, ?_⟩) (by assumption) ?_; rotate_left 1; · (intro w hSw; (try dsimp only at hSw); go_simp; (try with_reducible rfl)))); (try simp only [Act.put, List.getElem_toArray, List.getElem_cons_zero, List.getElem_cons_succ, List.setIfInBounds_toArray, List.set_cons_zero, List.set_cons_succ])
      (first | (refine wpAnyH_take (i := 8) (v := undef) rfl (by kernel_rfl) (by kernel_rfl) (by kernel_rfl) (fun _ _ _ h => h) (Or.inr ⟨rfl, rfl⟩) (by assumption) ?_) | (refine wpAnyH_take (i := 8) (v := ?_) rfl (by kernel_rfl) (by kernel_rfl) (by kernel_rfl) (fun _ _ _ h => h) (Or.inl ⟨rfl, ?_⟩) (by assumption) ?_; rotate_left 1; · (intro w hSw; (try dsimp only at hSw); go_simp; (try with_reducible rfl)))); (try simp only [Act.put, List.getElem_toArray, List.getElem_cons_zero, List.getElem_cons_succ, List.setIfInBounds_toArray, List.set_cons_zero, List.set_cons_succ])
      (first | (refine wpAnyH_take (i := 9) (v := undef) rfl (by kernel_rfl) (by kernel_rfl) (by kernel_rfl) (fun _ _ _ h => h) (Or.inr ⟨rfl, rfl⟩) (by assumption) ?_) | (refine wpAnyH_take (i := 9) (v := ?_) rfl (by kernel_rfl) (by kernel_rfl) (by kernel_rfl) (fun _ _ _ h => h) (Or.inl ⟨rfl, ?_⟩) (by assumption) ?_; rotate_left 1; · (intro w hSw; (try dsimp only at hSw); go_simp; (try with_reducible rfl)))); (try simp only [Act.put, List.getElem_toArray, List.getElem_cons_zero, List.getElem_cons_succ, List.setIfInBounds_toArray, List.set_cons_zero, List.set_cons_succ])
      (first | (refine wpAnyH_take (i := 10) (v := undef) rfl (by kernel_rfl) (by kernel_rfl) (by kernel_rfl) (fun _ _ _ h => h) (Or.inr ⟨rfl, rfl⟩) (by assumption) ?_) | (refine wpAnyH_take (i := 10) (v := ?_) rfl (by kernel_rfl) (by kernel_rfl) (by kernel_rfl) (fun _ _ _ h => h) (Or.inl ⟨rfl, ?_⟩) (by assumption) ?_; rotate_left 1; · (intro w hSw; (try dsimp only at hSw); go_simp; (try with_reducible rfl)))); (try simp only [Act.put, List.getElem_toArray, List.getElem_cons_zero, List.getElem_cons_succ, List.setIfInBounds_toArray, List.set_cons_zero, List.set_cons_succ])
      (first | (refine wpAnyH_take (i := 11) (v := undef) rfl (by kernel_rfl) (by kernel_rfl) (by kernel_rfl) (fun _ _ _ h => h) (Or.inr ⟨rfl, rfl⟩) (by assumption) ?_) | (refine wpAnyH_take (i := 11) (v := ?_) rfl (by kernel_rfl) (by kernel_rfl) (by kernel_rfl) (fun _ _ _ h => h) (Or.inl ⟨rfl, ?_⟩) (by assumption) ?_; rotate_left 1; · (intro w hSw; (try dsimp only at hSw); go_simp; (try with_reducible rfl)))); (try simp only [Act.put, List.getElem_toArray, List.getElem_cons_zero, List.getElem_cons_succ, List.setIfInBounds_toArray, List.set_cons_zero, List.set_cons_succ])
      (first | (refine wpAnyH_take (i := 13) (v := undef) rfl (by kernel_rfl) (by kernel_rfl) (by kernel_rfl) (fun _ _ _ h => h) (Or.inr ⟨rfl, rfl⟩) (by assumption) ?_) | (refine wpAnyH_take (i := 13) (v := ?_) rfl (by kernel_rfl) (by kernel_rfl) (by kernel_rfl) (fun _ _ _ h => h) (Or.inl ⟨rfl, ?_⟩) (by assumption) ?_; rotate_left 1; · (intro w hSw; (try dsimp only at hSw); go_simp; (try with_reducible rfl)))); (try simp only [Act.put, List.getElem_toArray, List.getElem_cons_zero, List.getElem_cons_succ, List.setIfInBounds_toArray, List.set_cons_zero, List.set_cons_succ])
      (first | (refine wpAnyH_take (i := 14) (v := undef) rfl (by kernel_rfl) (by kernel_rfl) (by kernel_rfl) (fun _ _ _ h => h) (Or.inr ⟨rfl, rfl⟩) (by assumption) ?_) | (refine wpAnyH_take (i := 14) (v := ?_) rfl (by kernel_rfl) (by kernel_rfl) (by kernel_rfl) (fun _ _ _ h => h) (Or.inl ⟨rfl, ?_⟩) (by assumption) ?_; rotate_left 1; · (intro w hSw; (try dsimp only at hSw); go_simp; (try with_reducible rfl)))); (try simp only [Act.put, List.getElem_toArray, List.getElem_cons_zero, List.getElem_cons_succ, List.setIfInBounds_toArray, List.set_cons_zero, List.set_cons_succ])
      refine wpAnyH_ready (rs := [12, 15]) (by kernel_rfl) (by simp) ?_; refine AllReadyH.cons rfl (fun K hK => ?_) (AllReadyH.cons rfl (fun K hK => ?_) AllReadyH.nil)
      · go_simp
        refine hK.out _ _ ⟨p2, d1⟩ (fun hHeld => ?_); clear hK K; (try simp only [Act.put, List.getElem_toArray, List.getElem_cons_zero, List.getElem_cons_succ, List.setIfInBounds_toArray, List.set_cons_zero, List.set_cons_succ])
        refine wpAnyH_ready (rs := [15]) (by kernel_rfl) (by simp) ?_; refine AllReadyH.cons rfl (fun K hK => ?_) AllReadyH.nil
        go_simp
        refine hK.out _ _ ⟨pA, dA⟩ (fun hHeld => ?_); clear hK K; (try simp only [Act.put, List.getElem_toArray, List.getElem_cons_zero, List.getElem_cons_succ, List.setIfInBounds_toArray, List.set_cons_zero, List.set_cons_succ])
        refine wpAnyH_ready (rs := [16]) (by kernel_rfl) (by simp) ?_; refine AllReadyH.cons rfl (fun K hK => ?_) AllReadyH.nil
        refine st_app (base := b.base) rfl _ _ _ rfl elS rfl rfl (hO.alloc _).drew (Rd.litS w3 _ 1 1 [.string (txt t.s)] rfl).drew (by repeat (first | exact ones_nil | refine ones_cons rfl ?_)) (by unfold maxLen; first | omega | (simp; done) | (simp; omega)) (by first | omega | (simp; done) | (simp; omega)) hwA ?_
        intro A5 c5 w5 ho5 ht5 hb5
        have ht6 : Turn w3 w5 (blk (R (some (n, 0))).A) := (((Turn.refl w3 _).alloc _).drew).trans ht5
        have k1 := (ht6.cell (a := ⟨b.pB, 2, none⟩) lp q1).trans p2
        have k2 := (ht6.cell (a := ⟨g2, 1, none⟩) l2 q3).trans d1
        have k3 := (ht6.cell (a := ⟨g, n * 6 + 3, none⟩) lg q2).trans n3
        have fz5 := (hown.turn ht6 (.inr q2)).frozen (n * 6 + 3)
        refine hK.out _ _ ⟨k1, k2⟩ (fun hHeld => ?_); clear hK K; (try simp only [Act.put, List.getElem_toArray, List.getElem_cons_zero, List.getElem_cons_succ, List.setIfInBounds_toArray, List.set_cons_zero, List.set_cons_succ])
        (first | (refine wpAnyH_take (i := 17) (v := undef) rfl (by kernel_rfl) (by kernel_rfl) (by kernel_rfl) (fun _ _ _ h => h) (Or.inr ⟨rfl, rfl⟩) (by assumption) ?_) | (refine wpAnyH_take (i := 17) (v := ?_) rfl (by kernel_rfl) (by kernel_rfl) (by kernel_rfl) (fun _ _ _ h => h) (Or.inl ⟨rfl, ?_⟩) (by assumption) ?_; rotate_left 1; · (intro w hSw; (try dsimp only at hSw); go_simp; (try with_reducible rfl)))); (try simp only [Act.put, List.getElem_toArray, List.getElem_cons_zero, List.getElem_cons_succ, List.setIfInBounds_toArray, List.set_cons_zero, List.set_cons_succ])
        (first | (refine wpAnyH_take (i := 18) (v := undef) rfl (by kernel_rfl) (by kernel_rfl) (by kernel_rfl) (fun _ _ _ h => h) (Or.inr ⟨rfl, rfl⟩) (by assumption) ?_) | (refine wpAnyH_take (i := 18) (v := ?_) rfl (by kernel_rfl) (by kernel_rfl) (by kernel_rfl) (fun _ _ _ h => h) (Or.inl ⟨rfl, ?_⟩) (by assumption) ?_; rotate_left 1; · (intro w hSw; (try dsimp only at hSw); go_simp; (try with_reducible rfl)))); (try simp only [Act.put, List.getElem_toArray, List.getElem_cons_zero, List.getElem_cons_succ, List.setIfInBounds_toArray, List.set_cons_zero, List.set_cons_succ])
        refine wpAnyH_ready (rs := [19]) (by kernel_rfl) (by simp) ?_; refine AllReadyH.cons rfl (fun K hK => ?_) AllReadyH.nil
        go_simp
        refine hK.out _ _ ⟨(World.cell?_setCell_far _ _ _ _ hgp).trans k1, (World.cell?_setCell_far _ _ _ _ ne2).trans k2⟩ (fun hHeld => ?_); clear hK K; (try simp only [Act.put, List.getElem_toArray, List.getElem_cons_zero, List.getElem_cons_succ, List.setIfInBounds_toArray, List.set_cons_zero, List.set_cons_succ])
        refine wpAnyH_done (by kernel_rfl) ?_ _
        refine NoPanic.normal ?_
        clear hHeld
        obtain ⟨h4, f4⟩ := h3.slot (w1 := w5) (gg := fun y => { y with syms := y.syms ++ [t.s] }) (r := ⟨9, 1, A5, x.syms.length + 1, c5, vss x.syms ++ [Value.string (txt t.s)]⟩) hN hrb hn hA (j := 0) (by omega) ho5 ht6 (hb5.imp id fun e => ⟨_, e, hsA⟩) (.inl rfl) ⟨rfl, rfl, rfl⟩
          ⟨rfl, rfl, by simp, by simp [vss]⟩ (hN.items n x hn) (hN.fields n x hn) (h3.ok.mod hn (Nat.le_refl _) (fun (hk : x.k < 9) => by omega) ⟨by simp; omega, by show x.items.length ≤ a + 1; omega, by show x.fields.length ≤ a + 1; omega⟩ hin)
        go_wp2
        go_end0
        exact ⟨rfl, h4, f3.trans f4⟩
      · go_simp
        refine hK.out _ _ ⟨pA, dA⟩ (fun hHeld => ?_); clear hK K; (try simp only [Act.put, List.getElem_toArray, List.getElem_cons_zero, List.getElem_cons_succ, List.setIfInBounds_toArray, List.set_cons_zero, List.set_cons_succ])
        refine wpAnyH_ready (rs := [12]) (by kernel_rfl) (by simp) ?_; refine AllReadyH.cons rfl (fun K hK => ?_) AllReadyH.nil
        go_simp
        refine hK.out _ _ ⟨pA, dA⟩ (fun hHeld => ?_); clear hK K; (try simp only [Act.put, List.getElem_toArray, List.getElem_cons_zero, List.getElem_cons_succ, List.setIfInBounds_toArray, List.set_cons_zero, List.set_cons_succ])
        refine wpAnyH_ready (rs := [16]) (by kernel_rfl) (by simp) ?_; refine AllReadyH.cons rfl (fun K hK => ?_) AllReadyH.nil
        refine st_app (base := b.base) rfl _ _ _ rfl elS rfl rfl (hO.alloc _).drew (Rd.litS w3 _ 1 1 [.string (txt t.s)] rfl).drew (by repeat (first | exact ones_nil | refine ones_cons rfl ?_)) (by unfold maxLen; first | omega | (simp; done) | (simp; omega)) (by first | omega | (simp; done) | (simp; omega)) hwA ?_
        intro A5 c5 w5 ho5 ht5 hb5
        have ht6 : Turn w3 w5 (blk (R (some (n, 0))).A) := (((Turn.refl w3 _).alloc _).drew).trans ht5
        have k1 := (ht6.cell (a := ⟨b.pB, 2, none⟩) lp q1).trans p2
        have k2 := (ht6.cell (a := ⟨g2, 1, none⟩) l2 q3).trans d1
        have k3 := (ht6.cell (a := ⟨g, n * 6 + 3, none⟩) lg q2).trans n3
        have fz5 := (hown.turn ht6 (.inr q2)).frozen (n * 6 + 3)
        refine hK.out _ _ ⟨k1, k2⟩ (fun hHeld => ?_); clear hK K; (try simp only [Act.put, List.getElem_toArray, List.getElem_cons_zero, List.getElem_cons_succ, List.setIfInBounds_toArray, List.set_cons_zero, List.set_cons_succ])
        (first | (refine wpAnyH_take (i := 17) (v := undef) rfl (by kernel_rfl) (by kernel_rfl) (by kernel_rfl) (fun _ _ _ h => h) (Or.inr ⟨rfl, rfl⟩) (by assumption) ?_) | (refine wpAnyH_take (i := 17) (v := ?_) rfl (by kernel_rfl) (by kernel_rfl) (by kernel_rfl) (fun _ _ _ h => h) (Or.inl ⟨rfl, ?_⟩) (by assumption) ?_; rotate_left 1; · (intro w hSw; (try dsimp only at hSw); go_simp; (try with_reducible rfl)))); (try simp only [Act.put, List.getElem_toArray, List.getElem_cons_zero, List.getElem_cons_succ, List.setIfInBounds_toArray, List.set_cons_zero, List.set_cons_succ])
        (first | (refine wpAnyH_take (i := 18) (v := undef) rfl (by kernel_rfl) (by kernel_rfl) (by kernel_rfl) (fun _ _ _ h => h) (Or.inr ⟨rfl, rfl⟩) (by assumption) ?_) | (refine wpAnyH_take (i := 18) (v := ?_) rfl (by kernel_rfl) (by kernel_rfl) (by kernel_rfl) (fun _ _ _ h => h) (Or.inl ⟨rfl, ?_⟩) (by assumption) ?_; rotate_left 1; · (intro w hSw; (try dsimp only at hSw); go_simp; (try with_reducible rfl)))); (try simp only [Act.put, List.getElem_toArray, List.getElem_cons_zero, List.getElem_cons_succ, List.setIfInBounds_toArray, List.set_cons_zero, List.set_cons_succ])
        refine wpAnyH_ready (rs := [19]) (by kernel_rfl) (by simp) ?_; refine AllReadyH.cons rfl (fun K hK => ?_) AllReadyH.nil
        go_simp
        refine hK.out _ _ ⟨(World.cell?_setCell_far _ _ _ _ hgp).trans k1, (World.cell?_setCell_far _ _ _ _ ne2).trans k2⟩ (fun hHeld => ?_); clear hK K; (try simp only [Act.put, List.getElem_toArray, List.getElem_cons_zero, List.getElem_cons_succ, List.setIfInBounds_toArray, List.set_cons_zero, List.set_cons_succ])
        refine wpAnyH_done (by kernel_rfl) ?_ _
        refine NoPanic.normal ?_
        clear hHeld
        obtain ⟨h4, f4⟩ := h3.slot (w1 := w5) (gg := fun y => { y with syms := y.syms ++ [t.s] }) (r := ⟨9, 1, A5, x.syms.length + 1, c5, vss x.syms ++ [Value.string (txt t.s)]⟩) hN hrb hn hA (j := 0) (by omega) ho5 ht6 (hb5.imp id fun e => ⟨_, e, hsA⟩) (.inl rfl) ⟨rfl, rfl, rfl⟩
          ⟨rfl, rfl, by simp, by simp [vss]⟩ (hN.items n x hn) (hN.fields n x hn) (h3.ok.mod hn (Nat.le_refl _) (fun (hk : x.k < 9) => by omega) ⟨by simp; omega, by show x.items.length ≤ a + 1; omega, by show x.fields.length ≤ a + 1; omega⟩ hin)
        go_wp2
        go_end0
        exact ⟨rfl, h4, f3.trans f4⟩
end Go.Proofs.YtjjdhdieihmnnaaGreatDoor
/-
  Layer 7, its pure side: reading, cut as the code cuts it.
-/
namespace Go.Proofs.YtjjdhdieihmnnaaGreatDoor

theorem tk_eq {T : List Tok} (h : TOk T) {i : Nat} (hi : i < T.length) {c : UInt8} (hc : wSign c = true) : ((tokAt T i).k = 2 ∧ (tokAt T i).s = [c]) ↔ (tokAt T i).s = [c] := ⟨fun e => e.2, fun e => ⟨tk_sign h hi hc e, e⟩⟩
/-- What is behind a type's first token, a word. -/
def eBody (rec : Option (List Nat) → ERd) (f k : Nat) (r : List Tok) (N : List Nd) : EO :=
  if k < 6 then .ok (N.length, r, N ++ [Nd.of k])
  else if k = 6 then eOne (rec none) [93] r (N ++ [Nd.of 6]) N.length
  else if k = 7 then eOne (rec none) [125] r (N ++ [Nd.of 7]) N.length
  else if k = 8 then
    match eAllW (fun its => rec (some its)) f [] r (N ++ [Nd.of 8]) with
    | .ok (its, r1, N1) => .ok (N.length, r1, N1.modify N.length (fun y => { y with items := its }))
    | .error e => .error e
  else eNamed (rec none) f k r N
/-- A word's type, as the code looks at it. -/
theorem eStep_word {rec : Option (List Nat) → ERd} {f deep : Nat} {un : Option (List Nat)} {t : Tok} {r : List Tok} {N : List Nd} {k : Nat} (hk : pKind t.tt = some k) : eStep rec f deep un t r N =
    if 20 ≤ deep ∨ 200 ≤ N.length then .error (t.at_, 2) else if un.isSome ∧ k = 8 then .error (t.at_, 4) else if eSame un N k then .error (t.at_, 6) else eBody rec f k r N := by
  unfold eStep eBody
  rw [hk]
  rfl
theorem eStep_name {rec : Option (List Nat) → ERd} {f deep : Nat} {un : Option (List Nat)} {t : Tok} {r : List Tok} {N : List Nd} (hk : pKind t.tt = none) : eStep rec f deep un t r N =
    if pNm t.tt = false then .error (t.at_, 4) else if 20 ≤ deep then .error (t.at_, 2) else match pCalled N t.s with
      | none => .error (t.at_, 5)
      | some n => if (un.getD []).contains n then .error (t.at_, 6) else .ok (n, r, N) := by
  unfold eStep
  rw [hk]
  rfl
theorem eType_cons (F deep : Nat) (un : Option (List Nat)) (t : Tok) (r : List Tok) (N : List Nd) : eType (F + 1) deep un (t :: r) N = eStep (fun u => eType F (deep + 1) u) F deep un t r N := by rw [eType]
/-- What is behind one of a union's types. -/
def eAllT (rec : List Nat → ERd) (g : Nat) (its : List Nat) (ts : List Tok) (N : List Nd) : Except PE (List Nat × List Tok × List Nd) :=
  match ts with
  | [] => .error (0, 0)
  | u :: r => if u.k = 2 ∧ u.s = [41] then .ok (its, r, N) else if u.k = 2 ∧ u.s = [124] then eAllW rec g its r N else .error (u.at_, 4)
theorem eAllW_step (rec : List Nat → ERd) (g : Nat) (its : List Nat) (ts : List Tok) (N : List Nd) : eAllW rec (g + 1) its ts N = match rec its ts N with
    | .error e => .error e
    | .ok (x, ts1, N1) => eAllT rec g (its ++ [x]) ts1 N1 := by
  rw [eAllW]
  cases rec its ts N with
  | error e => rfl
  | ok p =>
    obtain ⟨x, ts1, N1⟩ := p
    cases ts1 <;> rfl
/-- What is behind one of an enum's symbols. -/
def eSymT (g : Nat) (ys : List (List UInt8)) (ts : List Tok) : Except PE (List (List UInt8) × List Tok) :=
  match ts with
  | [] => .error (0, 0)
  | u :: r => if u.k = 2 ∧ u.s = [62] then .ok (ys, r) else if u.k = 2 ∧ u.s = [44] then eSyms g ys r else .error (u.at_, 4)
theorem eSyms_step (g : Nat) (ys : List (List UInt8)) (t : Tok) (r : List Tok) : eSyms (g + 1) ys (t :: r) = if pNm t.tt = false then .error (t.at_, 4) else if ys.contains t.s then .error (t.at_, 6) else eSymT g (ys ++ [t.s]) r := by
  rw [eSyms_cons]
  cases r <;> rfl
/-- One field. -/
def eField (rec : ERd) (fs : List Fl) (t : Tok) (r : List Tok) (N : List Nd) : Except PE (Fl × List Tok × List Nd) :=
  if pNm t.tt = false then .error (t.at_, 4)
  else if fs.any (fun y => y.name == t.s) then .error (t.at_, 6)
  else match eHas r with
    | .error e => .error e
    | .ok (h, r1) =>
      match rec r1 N with
      | .error e => .error e
      | .ok (_, [], _) => .error (0, 0)
      | .ok (x, u :: r2, N1) => if u.k = 2 ∧ u.s = [59] then .ok (⟨t.s, x, h⟩, r2, N1) else .error (u.at_, 4)
theorem eFields_step (rec : ERd) (g : Nat) (fs : List Fl) (t : Tok) (r : List Tok) (N : List Nd) : eFields rec (g + 1) fs (t :: r) N = if t.k = 2 ∧ t.s = [125] then .ok (fs, r, N) else match eField rec fs t r N with
    | .error e => .error e
    | .ok (f, r2, N1) => eFields rec g (fs ++ [f]) r2 N1 := by
  rw [eFields]
  unfold eField
  by_cases h1 : t.k = 2 ∧ t.s = [125]
  · rw [if_pos h1, if_pos h1]
  rw [if_neg h1, if_neg h1]
  by_cases h2 : pNm t.tt = false
  · rw [if_pos h2, if_pos h2]
  rw [if_neg h2, if_neg h2]
  by_cases h3 : (fs.any fun y => y.name == t.s) = true
  · rw [if_pos h3, if_pos h3]
  rw [if_neg h3, if_neg h3]
  cases eHas r with
  | error e => rfl
  | ok p =>
    obtain ⟨hh, r1⟩ := p
    simp only
    cases rec r1 N with
    | error e => rfl
    | ok q =>
      obtain ⟨x, ts, N1⟩ := q
      cases ts with
      | nil => rfl
      | cons u r2 =>
        simp only
        by_cases h4 : u.k = 2 ∧ u.s = [59]
        · rw [if_pos h4, if_pos h4]
        · rw [if_neg h4, if_neg h4]
/-- What a node is in: a union's types so far. -/
def unOf (S : List Nd) (i : Int) : Option (List Nat) := if i < 0 then none else match S[i.toNat]? with
  | some x => if x.k = 8 then some x.items else none
  | none => none
theorem unOf_top (S : List Nd) : unOf S (-1) = none := rfl
theorem unOf_at {S : List Nd} {m : Nat} {x : Nd} (h : S[m]? = some x) : unOf S (m : Int) = if x.k = 8 then some x.items else none := by
  unfold unOf
  rw [if_neg (by omega), Int.toNat_natCast, h]
theorem NE.modify {S : List Nd} {m : Nat} {g : Nd → Nd} (hg : ∀ y, kn (g y) = kn y) : NE (S.modify m g) S := by
  show (S.modify m g).map kn = S.map kn
  apply List.ext_getElem?
  intro i
  rw [List.getElem?_map, List.getElem?_map, List.getElem?_modify]
  cases S[i]? with
  | none => rfl
  | some y =>
    by_cases h : m = i
    · simp [h, hg]
    · simp [h]
theorem modify_app {S new : List Nd} {m : Nat} {g : Nd → Nd} (hm : m < S.length) : (S ++ new).modify m g = S.modify m g ++ new := by
  apply List.ext_getElem?
  intro i
  rw [List.getElem?_modify]
  by_cases h : i < S.length
  · rw [List.getElem?_append_left h, List.getElem?_append_left (by rw [List.length_modify]; exact h), List.getElem?_modify]
  · rw [List.getElem?_append_right (by omega), List.getElem?_append_right (by rw [List.length_modify]; omega), List.length_modify]
    have hmi : ¬m = i := by omega
    cases new[i - S.length]? <;> simp [hmi]
theorem modify_two {S : List Nd} {m : Nat} {g g2 : Nd → Nd} : (S.modify m g).modify m g2 = S.modify m fun y => g2 (g y) := by
  apply List.ext_getElem?
  intro i
  rw [List.getElem?_modify, List.getElem?_modify, List.getElem?_modify]
  cases S[i]? with
  | none => rfl
  | some y => by_cases h : m = i <;> simp [h]
theorem modify_at {S : List Nd} {m : Nat} {x : Nd} {g : Nd → Nd} (h : S[m]? = some x) : (S.modify m g)[m]? = some (g x) := by
  rw [List.getElem?_modify, h]; simp
theorem modify_id {S : List Nd} {m : Nat} {x : Nd} {g : Nd → Nd} (h : S[m]? = some x) (hg : g x = x) : S.modify m g = S := by
  apply List.ext_getElem?
  intro i
  rw [List.getElem?_modify]
  by_cases hi : m = i
  · subst hi; rw [h]; simp [hg]
  · simp [hi]
theorem modify_eq {S : List Nd} {m : Nat} {x : Nd} {g g2 : Nd → Nd} (h : S[m]? = some x) (hg : g x = g2 x) : S.modify m g = S.modify m g2 := by
  apply List.ext_getElem?
  intro i
  rw [List.getElem?_modify, List.getElem?_modify]
  by_cases hi : m = i
  · subst hi; rw [h]; simp [hg]
  · simp [hi]
theorem type_lt {f deep : Nat} {un : Option (List Nat)} {ts r : List Tok} {N N' : List Nd} {n : Nat} (h : eType f deep un ts N = .ok (n, r, N')) : n < N'.length := by
  have he := eType_er f deep un ts N
  rw [h] at he
  obtain ⟨hp, out, _, _, hw⟩ := pType_ok f deep un _ _ _ _ _ he.symm
  have hf : Fit N' N N' := ⟨fun _ _ _ => rfl, fun i hi => pre_kn hp hi⟩
  have hw := hw N' hf
  cases f with
  | zero => rw [wTok] at hw; cases hw
  | succ f =>
    rw [wTok] at hw
    cases hn : N'[n]? with
    | none => rw [hn] at hw; cases hw
    | some x => exact (List.getElem?_eq_some_iff.1 hn).1
theorem body_fst {rec : Option (List Nat) → ERd} {f k : Nat} {r ts : List Tok} {N S' : List Nd} {n : Nat} (hk : k < 12) (h : eBody rec f k r N = .ok (n, ts, S')) : n = N.length := by
  unfold eBody at h
  split at h
  · injection h with h; injection h with h; exact h.symm
  split at h
  · unfold eOne at h
    split at h
    · cases h
    · cases h
    · split at h
      · injection h with h; injection h with h; exact h.symm
      · cases h
  split at h
  · unfold eOne at h
    split at h
    · cases h
    · cases h
    · split at h
      · injection h with h; injection h with h; exact h.symm
      · cases h
  split at h
  · split at h
    · injection h with h; injection h with h; exact h.symm
    · cases h
  unfold eNamed at h
  split at h
  · cases h
  split at h
  · cases h
  split at h
  · cases h
  split at h
  · cases h
  split at h
  · split at h
    · injection h with h; injection h with h; exact h.symm
    · cases h
  split at h
  · split at h
    · split at h
      · injection h with h; injection h with h; exact h.symm
      · cases h
    · cases h
  split at h
  · split at h
    · injection h with h; injection h with h; exact h.symm
    · cases h
  · cases h
end Go.Proofs.YtjjdhdieihmnnaaGreatDoor
/-
  Layer 7: the code's reader: what is read of a type within another one (given that types are read as they should).
-/
namespace Go.Proofs.YtjjdhdieihmnnaaGreatDoor
open Go.RowKit

/-- What typ leaves. -/
def TypPost (b : RB) (w : World) (a : Nat) (o : EO) (e : Ending) (w' : World) : Prop := match o with
  | .ok (n, ts, S') => ∃ a', ts = b.T.drop a' ∧ a < a' ∧ a' < b.T.length ∧ n < S'.length ∧ e = .returned (.int .i64 (n : Int)) ∧ RS w' b a' S' ∧ Fr b.base w w'
  | .error (p, er) => Gv b w p er e w'
/-- Types in d others are read as they should be. -/
def TypC (d : Nat) : Prop := ∀ (w : World) (b : RB) (a : Nat) (S : List Nd) (inn : Int) (F : Nat), RS w b a S → a < b.T.length → (inn = -1 ∨ ∃ m : Nat, inn = (m : Int) ∧ m < S.length) → b.T.length - a < F →
  Calls Tryz.prog 82 #[.pointer (some ⟨b.pB, 0, none⟩), .int .i64 inn, .int .i64 (d : Int)] w (TypPost b w a (eType F d (unOf S inn) (b.T.drop a) S))
/-- What item leaves. -/
def ItemPost (b : RB) (w : World) (a n : Nat) (o : EO) (e : Ending) (w' : World) : Prop := match o with
  | .ok (x, ts, S') => ∃ a', ts = b.T.drop a' ∧ a < a' ∧ a' < b.T.length ∧ e = .returned (.tuple #[]) ∧ RS w' b a' (S'.modify n fun y => { y with items := y.items ++ [x] }) ∧ Fr b.base w w'
  | .error (p, er) => Gv b w p er e w'
set_option maxRecDepth 100000 in
set_option maxHeartbeats 1600000 in
theorem item_any {d : Nat} (hd : d ≤ 20) (TC : TypC d) {w : World} {b : RB} {a : Nat} {S : List Nd} (h : RS w b a S) (ha : a < b.T.length) {n : Nat} {x : Nd} (hn : S[n]? = some x) {F : Nat} (hF : b.T.length - a < F) :
    Calls Tryz.prog 126 #[.pointer (some ⟨b.pB, 0, none⟩), .int .i64 (n : Int), .int .i64 (d : Int)] w (ItemPost b w a n (eType F d (unOf S (n : Int)) (b.T.drop a) S)) := by
  have hw := h.hw
  have hnl : n < S.length := (List.getElem?_eq_some_iff.1 hn).1
  have hsm := h.ok.small x (List.mem_of_getElem? hn)
  have hin := h.ok.inn x (List.mem_of_getElem? hn)
  have hnm := h.ok.names x (List.mem_of_getElem? hn)
  have hfew := h.few
  have key := TC w b a S (n : Int) F h ha (.inr ⟨n, rfl, hnl⟩) hF
  have hal := type_alike (deep := d) (un := unOf S (n : Int)) h.tok hd ha hF (NE.refl S)
  revert key hal
  generalize eType F d (unOf S (n : Int)) (b.T.drop a) S = o
  intro key hal
  cases o with
  | error p =>
    obtain ⟨p, er⟩ := p
    unfold TypPost at key
    go_enter Tryz.func126, Tryz.ntmps126
    go_wp2_with (go_at_call 82; refine key.mono ?_; rintro e w1 ⟨rfl, f1⟩; unfold giveV)
    exact ⟨rfl, show Gv b w p er _ _ from ⟨rfl, f1⟩⟩
  | ok p =>
    obtain ⟨i, ts, S'⟩ := p
    unfold TypPost at key
    obtain ⟨new, _, rfl, -⟩ := hal
    have hn' : (S ++ new)[n]? = some x := by rw [List.getElem?_append_left hnl]; exact hn
    have hnl' : n < (S ++ new).length := by rw [List.length_append]; omega
    obtain ⟨S', hS'⟩ : ∃ S', S' = S ++ new := ⟨_, rfl⟩
    rw [← hS'] at key hn' hnl' ⊢
    have hSS : S.length ≤ S'.length := by rw [hS', List.length_append]; omega
    clear hS' hn hnl
    go_enter Tryz.func126, Tryz.ntmps126
    go_wp2_with (go_at_call 82; refine key.mono ?_; rintro e w3 ⟨a', hts, haa, hal, hil, rfl, h3, f3⟩; have HTS := hid hts; clear hts)
    obtain ⟨R, g, nd3⟩ := h3.ndAt hn'
    have hN := nd3.hN
    have hrb := nd3.hrb
    have p2 := nd3.p2
    have n3 := nd3.n4
    have hgp := nd3.ne
    have hA := nd3.hA
    have hO := (hN.items n x hn').own (hN.aps.own _)
    have lp := hrb.lt
    have lg := World.block_lt_of_cell? w3 _ nd3.n0
    have q1 := nd3.q1 1
    have q2 := nd3.q2 1
    have hown := nd3.hN.own
    rw [nd3.hA] at hown
    have tA : Turn w3 (w3.alloc (.cells #[.int .i64 (i : Int)] 3)).drew none := ((Turn.refl w3 none).alloc _).drew
    have pA := (tA.cell (a := ⟨b.pB, 2, none⟩) lp (by simp)).trans p2
    have nA := (tA.cell (a := ⟨g, n * 6 + 4, none⟩) lg (by simp)).trans n3
    have hwA : b.base ≤ (w3.alloc (.cells #[.int .i64 (i : Int)] 3)).drew.heap.size := Nat.le_trans h3.hw tA.size
    have hsA : w3.heap.size ≤ (w3.alloc (.cells #[.int .i64 (i : Int)] 3)).drew.heap.size := tA.size
    refine wp_region_noPanic ?_
    refine wp_region_held_drew (S := (fun W => W.cell? ⟨b.pB, 2, none⟩ = some (.slice (some ⟨g, 0, none⟩) S'.length (R none).c))) (by kernel_rfl) (p2) (fun hHeld => ?_)
    (first | (refine wpAnyH_take (i := 0) (v := undef) rfl (by kernel_rfl) (by kernel_rfl) (by kernel_rfl) (fun _ _ _ h => h) (Or.inr ⟨rfl, rfl⟩) (by assumption) ?_) | (refine wpAnyH_take (i := 0) (v := ?_) rfl (by kernel_rfl) (by kernel_rfl) (by kernel_rfl) (fun _ _ _ h => h) (Or.inl ⟨rfl, ?_⟩) (by assumption) ?_; rotate_left 1; · (intro w hSw; (try dsimp only at hSw); go_simp; (try with_reducible rfl)))); (try simp only [Act.put, List.getElem_toArray, List.getElem_cons_zero, List.getElem_cons_succ, List.setIfInBounds_toArray, List.set_cons_zero, List.set_cons_succ])
    (first | (refine wpAnyH_take (i := 1) (v := undef) rfl (by kernel_rfl) (by kernel_rfl) (by kernel_rfl) (fun _ _ _ h => h) (Or.inr ⟨rfl, rfl⟩) (by assumption) ?_) | (refine wpAnyH_take (i := 1) (v := ?_) rfl (by kernel_rfl) (by kernel_rfl) (by kernel_rfl) (fun _ _ _ h => h) (Or.inl ⟨rfl, ?_⟩) (by assumption) ?_; rotate_left 1; · (intro w hSw; (try dsimp only at hSw); go_simp; (try with_reducible rfl)))); (try simp only [Act.put, List.getElem_toArray, List.getElem_cons_zero, List.getElem_cons_succ, List.setIfInBounds_toArray, List.set_cons_zero, List.set_cons_succ])
    (first | (refine wpAnyH_take (i := 2) (v := undef) rfl (by kernel_rfl) (by kernel_rfl) (by kernel_rfl) (fun _ _ _ h => h) (Or.inr ⟨rfl, rfl⟩) (by assumption) ?_) | (refine wpAnyH_take (i := 2) (v := ?_) rfl (by kernel_rfl) (by kernel_rfl) (by kernel_rfl) (fun _ _ _ h => h) (Or.inl ⟨rfl, ?_⟩) (by assumption) ?_; rotate_left 1; · (intro w hSw; (try dsimp only at hSw); go_simp; (try with_reducible rfl)))); (try simp only [Act.put, List.getElem_toArray, List.getElem_cons_zero, List.getElem_cons_succ, List.setIfInBounds_toArray, List.set_cons_zero, List.set_cons_succ])
    (first | (refine wpAnyH_take (i := 3) (v := undef) rfl (by kernel_rfl) (by kernel_rfl) (by kernel_rfl) (fun _ _ _ h => h) (Or.inr ⟨rfl, rfl⟩) (by assumption) ?_) | (refine wpAnyH_take (i := 3) (v := ?_) rfl (by kernel_rfl) (by kernel_rfl) (by kernel_rfl) (fun _ _ _ h => h) (Or.inl ⟨rfl, ?_⟩) (by assumption) ?_; rotate_left 1; · (intro w hSw; (try dsimp only at hSw); go_simp; (try with_reducible rfl)))); (try simp only [Act.put, List.getElem_toArray, List.getElem_cons_zero, List.getElem_cons_succ, List.setIfInBounds_toArray, List.set_cons_zero, List.set_cons_succ])
    (first | (refine wpAnyH_take (i := 4) (v := undef) rfl (by kernel_rfl) (by kernel_rfl) (by kernel_rfl) (fun _ _ _ h => h) (Or.inr ⟨rfl, rfl⟩) (by assumption) ?_) | (refine wpAnyH_take (i := 4) (v := ?_) rfl (by kernel_rfl) (by kernel_rfl) (by kernel_rfl) (fun _ _ _ h => h) (Or.inl ⟨rfl, ?_⟩) (by assumption) ?_; rotate_left 1; · (intro w hSw; (try dsimp only at hSw); go_simp; (try with_reducible rfl)))); (try simp only [Act.put, List.getElem_toArray, List.getElem_cons_zero, List.getElem_cons_succ, List.setIfInBounds_toArray, List.set_cons_zero, List.set_cons_succ])
    (first | (refine wpAnyH_take (i := 5) (v := undef) rfl (by kernel_rfl) (by kernel_rfl) (by kernel_rfl) (fun _ _ _ h => h) (Or.inr ⟨rfl, rfl⟩) (by assumption) ?_) | (refine wpAnyH_take (i := 5) (v := ?_) rfl (by kernel_rfl) (by kernel_rfl) (by kernel_rfl) (fun _ _ _ h => h) (Or.inl ⟨rfl, ?_⟩) (by assumption) ?_; rotate_left 1; · (intro w hSw; (try dsimp only at hSw); go_simp; (try with_reducible rfl)))); (try simp only [Act.put, List.getElem_toArray, List.getElem_cons_zero, List.getElem_cons_succ, List.setIfInBounds_toArray, List.set_cons_zero, List.set_cons_succ])
    (first | (refine wpAnyH_take (i := 6) (v := undef) rfl (by kernel_rfl) (by kernel_rfl) (by kernel_rfl) (fun _ _ _ h => h) (Or.inr ⟨rfl, rfl⟩) (by assumption) ?_) | (refine wpAnyH_take (i := 6) (v := ?_) rfl (by kernel_rfl) (by kernel_rfl) (by kernel_rfl) (fun _ _ _ h => h) (Or.inl ⟨rfl, ?_⟩) (by assumption) ?_; rotate_left 1; · (intro w hSw; (try dsimp only at hSw); go_simp; (try with_reducible rfl)))); (try simp only [Act.put, List.getElem_toArray, List.getElem_cons_zero, List.getElem_cons_succ, List.setIfInBounds_toArray, List.set_cons_zero, List.set_cons_succ])
    (first | (refine wpAnyH_take (i := 7) (v := undef) rfl (by kernel_rfl) (by kernel_rfl) (by kernel_rfl) (fun _ _ _ h => h) (Or.inr ⟨rfl, rfl⟩) (by assumption) ?_) | (refine wpAnyH_take (i := 7) (v := ?_) rfl (by kernel_rfl) (by kernel_rfl) (by kernel_rfl) (fun _ _ _ h => h) (Or.inl ⟨rfl, ?_⟩) (by assumption) ?_; rotate_left 1; · (intro w hSw; (try dsimp only at hSw); go_simp; (try with_reducible rfl)))); (try simp only [Act.put, List.getElem_toArray, List.getElem_cons_zero, List.getElem_cons_succ, List.setIfInBounds_toArray, List.set_cons_zero, List.set_cons_succ])
    (first | (refine wpAnyH_take (i := 8) (v := undef) rfl (by kernel_rfl) (by kernel_rfl) (by kernel_rfl) (fun _ _ _ h => h) (Or.inr ⟨rfl, rfl⟩) (by assumption) ?_) | (refine wpAnyH_take (i := 8) (v := ?_) rfl (by kernel_rfl) (by kernel_rfl) (by kernel_rfl) (fun _ _ _ h => h) (Or.inl ⟨rfl, ?_⟩) (by assumption) ?_; rotate_left 1; · (intro w hSw; (try dsimp only at hSw); go_simp; (try with_reducible rfl)))); (try simp only [Act.put, List.getElem_toArray, List.getElem_cons_zero, List.getElem_cons_succ, List.setIfInBounds_toArray, List.set_cons_zero, List.set_cons_succ])
    (first | (refine wpAnyH_take (i := 9) (v := undef) rfl (by kernel_rfl) (by kernel_rfl) (by kernel_rfl) (fun _ _ _ h => h) (Or.inr ⟨rfl, rfl⟩) (by assumption) ?_) | (refine wpAnyH_take (i := 9) (v := ?_) rfl (by kernel_rfl) (by kernel_rfl) (by kernel_rfl) (fun _ _ _ h => h) (Or.inl ⟨rfl, ?_⟩) (by assumption) ?_; rotate_left 1; · (intro w hSw; (try dsimp only at hSw); go_simp; (try with_reducible rfl)))); (try simp only [Act.put, List.getElem_toArray, List.getElem_cons_zero, List.getElem_cons_succ, List.setIfInBounds_toArray, List.set_cons_zero, List.set_cons_succ])
    (first | (refine wpAnyH_take (i := 10) (v := undef) rfl (by kernel_rfl) (by kernel_rfl) (by kernel_rfl) (fun _ _ _ h => h) (Or.inr ⟨rfl, rfl⟩) (by assumption) ?_) | (refine wpAnyH_take (i := 10) (v := ?_) rfl (by kernel_rfl) (by kernel_rfl) (by kernel_rfl) (fun _ _ _ h => h) (Or.inl ⟨rfl, ?_⟩) (by assumption) ?_; rotate_left 1; · (intro w hSw; (try dsimp only at hSw); go_simp; (try with_reducible rfl)))); (try simp only [Act.put, List.getElem_toArray, List.getElem_cons_zero, List.getElem_cons_succ, List.setIfInBounds_toArray, List.set_cons_zero, List.set_cons_succ])
    (first | (refine wpAnyH_take (i := 11) (v := undef) rfl (by kernel_rfl) (by kernel_rfl) (by kernel_rfl) (fun _ _ _ h => h) (Or.inr ⟨rfl, rfl⟩) (by assumption) ?_) | (refine wpAnyH_take (i := 11) (v := ?_) rfl (by kernel_rfl) (by kernel_rfl) (by kernel_rfl) (fun _ _ _ h => h) (Or.inl ⟨rfl, ?_⟩) (by assumption) ?_; rotate_left 1; · (intro w hSw; (try dsimp only at hSw); go_simp; (try with_reducible rfl)))); (try simp only [Act.put, List.getElem_toArray, List.getElem_cons_zero, List.getElem_cons_succ, List.setIfInBounds_toArray, List.set_cons_zero, List.set_cons_succ])
    (first | (refine wpAnyH_take (i := 13) (v := undef) rfl (by kernel_rfl) (by kernel_rfl) (by kernel_rfl) (fun _ _ _ h => h) (Or.inr ⟨rfl, rfl⟩) (by assumption) ?_) | (refine wpAnyH_take (i := 13) (v := ?_) rfl (by kernel_rfl) (by kernel_rfl) (by kernel_rfl) (fun _ _ _ h => h) (Or.inl ⟨rfl, ?_⟩) (by assumption) ?_; rotate_left 1; · (intro w hSw; (try dsimp only at hSw); go_simp; (try with_reducible rfl)))); (try simp only [Act.put, List.getElem_toArray, List.getElem_cons_zero, List.getElem_cons_succ, List.setIfInBounds_toArray, List.set_cons_zero, List.set_cons_succ])
    refine wpAnyH_ready (rs := [12, 14]) (by kernel_rfl) (by simp) ?_; refine AllReadyH.cons rfl (fun K hK => ?_) (AllReadyH.cons rfl (fun K hK => ?_) AllReadyH.nil)
    · go_simp
      refine hK.out _ _ p2 (fun hHeld => ?_); clear hK K; (try simp only [Act.put, List.getElem_toArray, List.getElem_cons_zero, List.getElem_cons_succ, List.setIfInBounds_toArray, List.set_cons_zero, List.set_cons_succ])
      refine wpAnyH_ready (rs := [14]) (by kernel_rfl) (by simp) ?_; refine AllReadyH.cons rfl (fun K hK => ?_) AllReadyH.nil
      go_simp
      refine hK.out _ _ pA (fun hHeld => ?_); clear hK K; (try simp only [Act.put, List.getElem_toArray, List.getElem_cons_zero, List.getElem_cons_succ, List.setIfInBounds_toArray, List.set_cons_zero, List.set_cons_succ])
      refine wpAnyH_ready (rs := [15]) (by kernel_rfl) (by simp) ?_; refine AllReadyH.cons rfl (fun K hK => ?_) AllReadyH.nil
      refine st_app (base := b.base) rfl _ _ _ rfl elI rfl rfl (hO.alloc _).drew (Rd.litS w3 _ 1 1 [.int .i64 (i : Int)] rfl).drew (by repeat (first | exact ones_nil | refine ones_cons rfl ?_)) (by unfold maxLen; first | omega | (simp; done) | (simp; omega)) (by first | omega | (simp; done) | (simp; omega)) hwA ?_
      intro A5 c5 w5 ho5 ht5 hb5
      have ht6 : Turn w3 w5 (blk (R (some (n, 1))).A) := (((Turn.refl w3 _).alloc _).drew).trans ht5
      have k1 := (ht6.cell (a := ⟨b.pB, 2, none⟩) lp q1).trans p2
      have k3 := (ht6.cell (a := ⟨g, n * 6 + 4, none⟩) lg q2).trans n3
      have fz5 := (hown.turn ht6 (.inr q2)).frozen (n * 6 + 4)
      refine hK.out _ _ k1 (fun hHeld => ?_); clear hK K; (try simp only [Act.put, List.getElem_toArray, List.getElem_cons_zero, List.getElem_cons_succ, List.setIfInBounds_toArray, List.set_cons_zero, List.set_cons_succ])
      (first | (refine wpAnyH_take (i := 16) (v := undef) rfl (by kernel_rfl) (by kernel_rfl) (by kernel_rfl) (fun _ _ _ h => h) (Or.inr ⟨rfl, rfl⟩) (by assumption) ?_) | (refine wpAnyH_take (i := 16) (v := ?_) rfl (by kernel_rfl) (by kernel_rfl) (by kernel_rfl) (fun _ _ _ h => h) (Or.inl ⟨rfl, ?_⟩) (by assumption) ?_; rotate_left 1; · (intro w hSw; (try dsimp only at hSw); go_simp; (try with_reducible rfl)))); (try simp only [Act.put, List.getElem_toArray, List.getElem_cons_zero, List.getElem_cons_succ, List.setIfInBounds_toArray, List.set_cons_zero, List.set_cons_succ])
      (first | (refine wpAnyH_take (i := 17) (v := undef) rfl (by kernel_rfl) (by kernel_rfl) (by kernel_rfl) (fun _ _ _ h => h) (Or.inr ⟨rfl, rfl⟩) (by assumption) ?_) | (refine wpAnyH_take (i := 17) (v := ?_) rfl (by kernel_rfl) (by kernel_rfl) (by kernel_rfl) (fun _ _ _ h => h) (Or.inl ⟨rfl, ?_⟩) (by assumption) ?_; rotate_left 1; · (intro w hSw; (try dsimp only at hSw); go_simp; (try with_reducible rfl)))); (try simp only [Act.put, List.getElem_toArray, List.getElem_cons_zero, List.getElem_cons_succ, List.setIfInBounds_toArray, List.set_cons_zero, List.set_cons_succ])
      refine wpAnyH_ready (rs := [18]) (by kernel_rfl) (by simp) ?_; refine AllReadyH.cons rfl (fun K hK => ?_) AllReadyH.nil
      go_simp
      refine hK.out _ _ ((World.cell?_setCell_far _ _ _ _ hgp).trans k1) (fun hHeld => ?_); clear hK K; (try simp only [Act.put, List.getElem_toArray, List.getElem_cons_zero, List.getElem_cons_succ, List.setIfInBounds_toArray, List.set_cons_zero, List.set_cons_succ])
      refine wpAnyH_done (by kernel_rfl) ?_ _
      refine NoPanic.normal ?_
      clear hHeld
      obtain ⟨h4, f4⟩ := h3.slot (w1 := w5) (gg := fun y => { y with items := y.items ++ [i] }) (r := ⟨3, 1, A5, x.items.length + 1, c5, vis (x.items.map Int.ofNat) ++ [Value.int .i64 (i : Int)]⟩) hN hrb hn' hA (j := 1) (by omega) ho5 ht6 (hb5.imp id fun e => ⟨_, e, hsA⟩) (.inr (.inl rfl)) ⟨rfl, rfl, rfl⟩
        (hN.syms n x hn') ⟨rfl, rfl, by simp, by simp [vis]⟩ (hN.fields n x hn') (h3.ok.mod hn' (Nat.le_refl _) hnm ⟨by show x.syms.length ≤ a'; omega, by simp; omega, by show x.fields.length ≤ a'; omega⟩ (fun j hj => by
          have hj : j ∈ x.items ++ [i] := hj
          rcases List.mem_append.1 hj with hj | hj
          · have := hin j hj; omega
          · have : j = i := by simpa using hj
            omega))
      go_wp2
      go_end0
      unfold ItemPost
      exact ⟨a', HTS.out, haa, hal, rfl, h4, f3.trans f4⟩
    · go_simp
      refine hK.out _ _ pA (fun hHeld => ?_); clear hK K; (try simp only [Act.put, List.getElem_toArray, List.getElem_cons_zero, List.getElem_cons_succ, List.setIfInBounds_toArray, List.set_cons_zero, List.set_cons_succ])
      refine wpAnyH_ready (rs := [12]) (by kernel_rfl) (by simp) ?_; refine AllReadyH.cons rfl (fun K hK => ?_) AllReadyH.nil
      go_simp
      refine hK.out _ _ pA (fun hHeld => ?_); clear hK K; (try simp only [Act.put, List.getElem_toArray, List.getElem_cons_zero, List.getElem_cons_succ, List.setIfInBounds_toArray, List.set_cons_zero, List.set_cons_succ])
      refine wpAnyH_ready (rs := [15]) (by kernel_rfl) (by simp) ?_; refine AllReadyH.cons rfl (fun K hK => ?_) AllReadyH.nil
      refine st_app (base := b.base) rfl _ _ _ rfl elI rfl rfl (hO.alloc _).drew (Rd.litS w3 _ 1 1 [.int .i64 (i : Int)] rfl).drew (by repeat (first | exact ones_nil | refine ones_cons rfl ?_)) (by unfold maxLen; first | omega | (simp; done) | (simp; omega)) (by first | omega | (simp; done) | (simp; omega)) hwA ?_
      intro A5 c5 w5 ho5 ht5 hb5
      have ht6 : Turn w3 w5 (blk (R (some (n, 1))).A) := (((Turn.refl w3 _).alloc _).drew).trans ht5
      have k1 := (ht6.cell (a := ⟨b.pB, 2, none⟩) lp q1).trans p2
      have k3 := (ht6.cell (a := ⟨g, n * 6 + 4, none⟩) lg q2).trans n3
      have fz5 := (hown.turn ht6 (.inr q2)).frozen (n * 6 + 4)
      refine hK.out _ _ k1 (fun hHeld => ?_); clear hK K; (try simp only [Act.put, List.getElem_toArray, List.getElem_cons_zero, List.getElem_cons_succ, List.setIfInBounds_toArray, List.set_cons_zero, List.set_cons_succ])
      (first | (refine wpAnyH_take (i := 16) (v := undef) rfl (by kernel_rfl) (by kernel_rfl) (by kernel_rfl) (fun _ _ _ h => h) (Or.inr ⟨rfl, rfl⟩) (by assumption) ?_) | (refine wpAnyH_take (i := 16) (v := ?_) rfl (by kernel_rfl) (by kernel_rfl) (by kernel_rfl) (fun _ _ _ h => h) (Or.inl ⟨rfl, ?_⟩) (by assumption) ?_; rotate_left 1; · (intro w hSw; (try dsimp only at hSw); go_simp; (try with_reducible rfl)))); (try simp only [Act.put, List.getElem_toArray, List.getElem_cons_zero, List.getElem_cons_succ, List.setIfInBounds_toArray, List.set_cons_zero, List.set_cons_succ])
      (first | (refine wpAnyH_take (i := 17) (v := undef) rfl (by kernel_rfl) (by kernel_rfl) (by kernel_rfl) (fun _ _ _ h => h) (Or.inr ⟨rfl, rfl⟩) (by assumption) ?_) | (refine wpAnyH_take (i := 17) (v := ?_) rfl (by kernel_rfl) (by kernel_rfl) (by kernel_rfl) (fun _ _ _ h => h) (Or.inl ⟨rfl, ?_⟩) (by assumption) ?_; rotate_left 1; · (intro w hSw; (try dsimp only at hSw); go_simp; (try with_reducible rfl)))); (try simp only [Act.put, List.getElem_toArray, List.getElem_cons_zero, List.getElem_cons_succ, List.setIfInBounds_toArray, List.set_cons_zero, List.set_cons_succ])
      refine wpAnyH_ready (rs := [18]) (by kernel_rfl) (by simp) ?_; refine AllReadyH.cons rfl (fun K hK => ?_) AllReadyH.nil
      go_simp
      refine hK.out _ _ ((World.cell?_setCell_far _ _ _ _ hgp).trans k1) (fun hHeld => ?_); clear hK K; (try simp only [Act.put, List.getElem_toArray, List.getElem_cons_zero, List.getElem_cons_succ, List.setIfInBounds_toArray, List.set_cons_zero, List.set_cons_succ])
      refine wpAnyH_done (by kernel_rfl) ?_ _
      refine NoPanic.normal ?_
      clear hHeld
      obtain ⟨h4, f4⟩ := h3.slot (w1 := w5) (gg := fun y => { y with items := y.items ++ [i] }) (r := ⟨3, 1, A5, x.items.length + 1, c5, vis (x.items.map Int.ofNat) ++ [Value.int .i64 (i : Int)]⟩) hN hrb hn' hA (j := 1) (by omega) ho5 ht6 (hb5.imp id fun e => ⟨_, e, hsA⟩) (.inr (.inl rfl)) ⟨rfl, rfl, rfl⟩
        (hN.syms n x hn') ⟨rfl, rfl, by simp, by simp [vis]⟩ (hN.fields n x hn') (h3.ok.mod hn' (Nat.le_refl _) hnm ⟨by show x.syms.length ≤ a'; omega, by simp; omega, by show x.fields.length ≤ a'; omega⟩ (fun j hj => by
          have hj : j ∈ x.items ++ [i] := hj
          rcases List.mem_append.1 hj with hj | hj
          · have := hin j hj; omega
          · have : j = i := by simpa using hj
            omega))
      go_wp2
      go_end0
      unfold ItemPost
      exact ⟨a', HTS.out, haa, hal, rfl, h4, f3.trans f4⟩
end Go.Proofs.YtjjdhdieihmnnaaGreatDoor
