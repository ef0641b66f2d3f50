import Derived.Test.YtgigiecdpjchkaaGreatDoorC1
import Derived.Test.YtgigiecdpjchkaaGreatDoorC2
import Derived.Lib.Strings
set_option linter.unusedSimpArgs false
set_option linter.unusedVariables false
set_option linter.unusedSectionVars false
set_option maxRecDepth 100000
set_option maxHeartbeats 6400000
namespace Go.Proofs.YtgigiecdpjchkaaGreatDoor
open Go.RowKit
abbrev Ix := Option (Nat × Nat)
def ndRow (R : Ix → Rw) (i : Nat) (x : Nd) : List Value := [.int .i64 (x.k : Int), .string (txt x.name), .int .i64 (x.size : Int), (R (some (i, 0))).v, (R (some (i, 1))).v, (R (some (i, 2))).v]
def ndCells (R : Ix → Rw) : Nat → List Nd → List Value
 | _, [] => []
 | b, x :: r => ndRow R b x ++ ndCells R (b + 1) r
theorem ndCells_len (R : Ix → Rw) : ∀ (N : List Nd) (b : Nat), (ndCells R b N).length = N.length * 6
 | [], _ => rfl
 | x :: r, b => by
  show (ndRow R b x ++ ndCells R (b + 1) r).length = _
  rw [List.length_append, ndCells_len R r, List.length_cons]
  simp [ndRow]
  omega
theorem ndCells_at (R : Ix → Rw) : ∀ (N : List Nd) (b i j : Nat) (x : Nd), N[i]? = some x → j < 6 → (ndCells R b N)[i * 6 + j]? = (ndRow R (b + i) x)[j]?
 | [], _, i, _, _, h, _ => by simp at h
 | y :: r, b, 0, j, x, h, hj => by
  obtain rfl : y = x := by simpa using h
  show (ndRow R b y ++ _)[0 * 6 + j]? = _
  rw [List.getElem?_append_left (by simp [ndRow]; omega), Nat.zero_mul, Nat.zero_add]
  rfl
 | y :: r, b, i + 1, j, x, h, hj => by
  have hl : (ndRow R b y).length = 6 := rfl
  show (ndRow R b y ++ ndCells R (b + 1) r)[(i + 1) * 6 + j]? = _
  rw [List.getElem?_append_right (by omega), hl, show (i + 1) * 6 + j - 6 = i * 6 + j by omega, ndCells_at R r (b + 1) i j x (by simpa using h) hj, show b + 1 + i = b + (i + 1) by omega]
theorem ndCells_app (R : Ix → Rw) : ∀ (M N : List Nd) (b : Nat), ndCells R b (M ++ N) = ndCells R b M ++ ndCells R (b + M.length) N
 | [], N, b => rfl
 | x :: r, N, b => by
  show ndRow R b x ++ ndCells R (b + 1) (r ++ N) = _ ++ _
  rw [ndCells_app R r N (b + 1), List.length_cons, show b + 1 + r.length = b + (r.length + 1) by omega]
  show _ = (ndRow R b x ++ ndCells R (b + 1) r) ++ _
  rw [List.append_assoc]
theorem ndCells_same {R R' : Ix → Rw} : ∀ (N : List Nd) (b : Nat), (∀ i j, b ≤ i → i < b + N.length → j < 3 → (R (some (i, j))).v = (R' (some (i, j))).v) → ndCells R b N = ndCells R' b N
 | [], _, _ => rfl
 | x :: r, b, h => by
  show ndRow R b x ++ _ = ndRow R' b x ++ _
  rw [List.length_cons] at h
  rw [ndCells_same r (b + 1) fun i j h1 h2 h3 => h i j (by omega) (by omega) h3]
  unfold ndRow
  rw [h b 0 (by omega) (by omega) (by omega), h b 1 (by omega) (by omega) (by omega), h b 2 (by omega) (by omega) (by omega)]
theorem ndCells_set {R R' : Ix → Rw} {N : List Nd} {i j : Nat} {x : Nd} {u : Value} {g : Nd → Nd} (hx : N[i]? = some x) (hj : j < 6) (ho : ∀ k l, k ≠ i → (R (some (k, l))).v = (R' (some (k, l))).v) (hr : (ndRow R i x).set j u = ndRow R' i (g x)) :
  (ndCells R 0 N).set (i * 6 + j) u = ndCells R' 0 (N.modify i g) := by
 have hi : i < N.length := (List.getElem?_eq_some_iff.1 hx).1
 obtain ⟨S, mid, rfl, hS⟩ : ∃ S mid, N = S ++ x :: mid ∧ S.length = i := by
  refine ⟨N.take i, N.drop (i + 1), ?_, by rw [List.length_take]; omega⟩
  have h2 : N.drop i = x :: N.drop (i + 1) := by
   rw [List.drop_eq_getElem_cons hi]
   congr 1
   exact (List.getElem?_eq_some_iff.1 hx).2
  rw [← h2, List.take_append_drop]
 subst hS
 have hm : (S ++ x :: mid).modify S.length g = S ++ g x :: mid := by
  have := mod_pre S x mid g
  simpa using this
 have hl : (ndCells R 0 S).length = S.length * 6 := ndCells_len R S 0
 have hrl : (ndRow R S.length x).length = 6 := rfl
 rw [hm, ndCells_app, ndCells_app, List.set_append_right _ _ (by omega), hl, Nat.add_sub_cancel_left, Nat.zero_add]
 show _ ++ (ndRow R S.length x ++ ndCells R (S.length + 1) mid).set j u = _ ++ (ndRow R' S.length (g x) ++ ndCells R' (S.length + 1) mid)
 rw [List.set_append_left _ _ (by omega), hr, ndCells_same S 0 fun i l _ h2 _ => ho i l (by omega), ndCells_same mid (S.length + 1) fun i l h1 _ _ => ho i l (by omega)]
def Sh (r : Rw) (E : TypeId) (sz n : Nat) (xs : List Value) : Prop := r.E = E ∧ r.sz = sz ∧ r.n = n ∧ r.xs = xs
theorem Sh.own {w : World} {base : Nat} {r : Rw} {E : TypeId} {sz n : Nat} {xs : List Value} (h : Sh r E sz n xs) (ho : r.own w base) : Own w base E sz r.A n r.c xs := by
 obtain ⟨rfl, rfl, rfl, rfl⟩ := h
 exact ho
def slotE : Nat → TypeId
 | 0 => 9
 | 1 => 3
 | _ => 119
def slotZ : Nat → Nat
 | 0 => 1
 | 1 => 1
 | _ => 3
structure NR (w : World) (base : Nat) (R : Ix → Rw) (N : List Nd) : Prop where
 aps : Aps w base R
 arr : Sh (R none) 64 6 N.length (ndCells R 0 N)
 syms : ∀ i x, N[i]? = some x → Sh (R (some (i, 0))) 9 1 x.syms.length (vss x.syms)
 items : ∀ i x, N[i]? = some x → Sh (R (some (i, 1))) 3 1 x.items.length (vis (x.items.map Int.ofNat))
 fields : ∀ i x, N[i]? = some x → Sh (R (some (i, 2))) 119 3 x.fields.length (vfs (x.fields.map Fl.g))
 far : ∀ i j, N.length ≤ i → R (some (i, j)) = Rw.nil (slotE j) (slotZ j)
 ty : ∀ i, (R i).E = 64 ∨ (R i).E = 9 ∨ (R i).E = 3 ∨ (R i).E = 119
section
variable {w w' : World} {base : Nat} {R : Ix → Rw} {N : List Nd}
theorem NR.nil (w : World) (base : Nat) : NR w base (fun i => match i with | none => Rw.nil 64 6 | some (_, j) => Rw.nil (slotE j) (slotZ j)) [] := by
 refine ⟨⟨fun i => ?_, fun i j _ => ?_⟩, ⟨rfl, rfl, rfl, rfl⟩, fun i x h => by simp at h, fun i x h => by simp at h, fun i x h => by simp at h, fun i j _ => rfl, fun i => ?_⟩
 ·cases i with
  | none => exact Own.nil _ _ _ _
  | some p => exact Own.nil _ _ _ _
 ·cases i with
  | none => exact Off.nil
  | some p => exact Off.nil
 ·cases i with
  | none => exact .inl rfl
  | some p =>
   obtain ⟨_, j⟩ := p
   match j with
   | 0 => exact .inr (.inl rfl)
   | 1 => exact .inr (.inr (.inl rfl))
   | _ + 2 => exact .inr (.inr (.inr rfl))
theorem NR.turn0 (h : NR w base R N) (ht : Turn w w' none) : NR w' base R N := ⟨h.aps.turn0 ht, h.arr, h.syms, h.items, h.fields, h.far, h.ty⟩
theorem NR.off {g : Nat} {t : TypeId} {cs : Array Value} (h : NR w base R N) (hb : Blk w g t cs) (ht : t ≠ 64 ∧ t ≠ 9 ∧ t ≠ 3 ∧ t ≠ 119) (i : Ix) : blk (R i).A ≠ some g := by
 refine Own.not_blk (h.aps.own i) hb ?_
 rcases h.ty i with e | e | e | e <;> rw [e]
 ·exact ht.1
 ·exact ht.2.1
 ·exact ht.2.2.1
 ·exact ht.2.2.2
theorem NR.turn {g : Nat} {t : TypeId} {cs : Array Value} (h : NR w base R N) (hb : Blk w g t cs) (ht : t ≠ 64 ∧ t ≠ 9 ∧ t ≠ 3 ∧ t ≠ 119) (hT : Turn w w' (some g)) : NR w' base R N :=
 ⟨h.aps.turn hT (h.off hb ht), h.arr, h.syms, h.items, h.fields, h.far, h.ty⟩
theorem NR.own (h : NR w base R N) : Own w base 64 6 (R none).A N.length (R none).c (ndCells R 0 N) := h.arr.own (h.aps.own none)
theorem NR.len (h : NR w base R N) : (R none).n = N.length := h.arr.2.2.1
theorem NR.at_ (h : NR w base R N) {i : Nat} {x : Nd} (hx : N[i]? = some x) : ∃ g, (R none).A = some ⟨g, 0, none⟩ ∧ g < w.heap.size ∧ base ≤ g ∧ (∀ j u, (ndRow R i x)[j]? = some u → w.cell? ⟨g, i * 6 + j, none⟩ = some u) ∧ ∀ j, w.frozen? ⟨g, j, none⟩ = false := by
 have hi : i < N.length := (List.getElem?_eq_some_iff.1 hx).1
 obtain ⟨g, hg, h1, h2⟩ := h.own.head (by omega)
 refine ⟨g, hg, h2, h1, fun j u hu => ?_, fun j => ?_⟩
 ·have hj : j < 6 := (List.getElem?_eq_some_iff.1 hu).1
  have ho := h.own
  rw [hg] at ho
  have h3 := ho.cell (i := i * 6 + j) (by omega)
  rw [h3, ndCells_at R N 0 i j x hx hj, Nat.zero_add]
  exact hu
 ·have ho := h.own
  rw [hg] at ho
  exact ho.frozen j
theorem NR.push (h : NR w base R N) (k : Nat) {A : Option Addr} {c : Nat} (ho : Own w' base 64 6 A (N.length + 1) c (ndCells R 0 N ++ [.int .i64 (k : Int), .string ⟨#[]⟩, .int .i64 0, .slice none 0 0, .slice none 0 0, .slice none 0 0]))
  (ht : Turn w w' (blk (R none).A)) (hb : blk A = blk (R none).A ∨ blk A = some w.heap.size) : NR w' base (upd R none ⟨64, 6, A, N.length + 1, c, ndCells R 0 (N ++ [Nd.of k])⟩) (N ++ [Nd.of k]) := by
 have e0 : ∀ j, (R (some (N.length, j))).v = .slice none 0 0 := fun j => by rw [h.far _ _ (Nat.le_refl _)]; rfl
 have hc : ndCells R 0 N ++ [.int .i64 (k : Int), .string ⟨#[]⟩, .int .i64 0, .slice none 0 0, .slice none 0 0, .slice none 0 0] = ndCells R 0 (N ++ [Nd.of k]) := by
  rw [ndCells_app, Nat.zero_add]
  show _ = _ ++ (ndRow R N.length (Nd.of k) ++ [])
  unfold ndRow
  rw [e0, e0, e0]
  rfl
 rw [hc] at ho
 have hupd : ∀ i j, upd R none ⟨64, 6, A, N.length + 1, c, ndCells R 0 (N ++ [Nd.of k])⟩ (some (i, j)) = R (some (i, j)) := fun i j => upd_other R _ (by simp)
 have hat : ∀ i x, (N ++ [Nd.of k])[i]? = some x → N[i]? = some x ∨ (i = N.length ∧ x = Nd.of k) := by
  intro i x hx
  rcases Nat.lt_or_ge i N.length with h1 | h1
  ·rw [List.getElem?_append_left h1] at hx; exact .inl hx
  ·rw [List.getElem?_append_right h1] at hx
   have : i - N.length < 1 := by
    have := (List.getElem?_eq_some_iff.1 hx).1
    simpa using this
   have e : i - N.length = 0 := by omega
   rw [e] at hx
   exact .inr ⟨by omega, by simpa using hx.symm⟩
 refine ⟨h.aps.step none _ ho ht (hb.imp id fun e => ⟨_, e, Nat.le_refl _⟩), ?_, ?_, ?_, ?_, ?_, ?_⟩
 ·rw [upd_same]
  exact ⟨rfl, rfl, by simp, ndCells_same _ 0 fun i j _ _ _ => by rw [hupd]⟩
 ·intro i x hx
  rw [hupd]
  rcases hat i x hx with hx | ⟨rfl, rfl⟩
  ·exact h.syms i x hx
  ·rw [h.far _ _ (Nat.le_refl _)]; exact ⟨rfl, rfl, rfl, rfl⟩
 ·intro i x hx
  rw [hupd]
  rcases hat i x hx with hx | ⟨rfl, rfl⟩
  ·exact h.items i x hx
  ·rw [h.far _ _ (Nat.le_refl _)]; exact ⟨rfl, rfl, rfl, rfl⟩
 ·intro i x hx
  rw [hupd]
  rcases hat i x hx with hx | ⟨rfl, rfl⟩
  ·exact h.fields i x hx
  ·rw [h.far _ _ (Nat.le_refl _)]; exact ⟨rfl, rfl, rfl, rfl⟩
 ·intro i j hij
  rw [hupd]
  exact h.far i j (by simp at hij; omega)
 ·intro i
  cases i with
  | none => rw [upd_same]; exact .inl rfl
  | some p => obtain ⟨i, j⟩ := p; rw [hupd]; exact h.ty _
theorem NR.put {w1 : World} {R1 : Ix → Rw} (h : NR w base R N) {i jj g : Nat} {x : Nd} {u : Value} {gg : Nd → Nd} (hx : N[i]? = some x) (hg : (R none).A = some ⟨g, 0, none⟩) (ha : Aps w1 base R1) (hn : R1 none = R none) (hoth : ∀ k l, k ≠ i → R1 (some (k, l)) = R (some (k, l)))
  (hty : ∀ i, (R1 i).E = 64 ∨ (R1 i).E = 9 ∨ (R1 i).E = 3 ∨ (R1 i).E = 119) (hj : jj < 6) (hrow : (ndRow R i x).set jj u = ndRow R1 i (gg x))
  (h0 : Sh (R1 (some (i, 0))) 9 1 (gg x).syms.length (vss (gg x).syms)) (h1 : Sh (R1 (some (i, 1))) 3 1 (gg x).items.length (vis ((gg x).items.map Int.ofNat)))
  (h2 : Sh (R1 (some (i, 2))) 119 3 (gg x).fields.length (vfs ((gg x).fields.map Fl.g))) :
  NR (w1.setCell ⟨g, i * 6 + jj, none⟩ u) base (upd R1 none ⟨64, 6, some ⟨g, 0, none⟩, N.length, (R none).c, ndCells R1 0 (N.modify i gg)⟩) (N.modify i gg) := by
 have ho : Own w1 base 64 6 (some ⟨g, 0, none⟩) N.length (R none).c (ndCells R 0 N) := by
  have := ha.own none
  rw [hn] at this
  have := h.arr.own this
  rwa [hg] at this
 have hset : (ndCells R 0 N).set (i * 6 + jj) u = ndCells R1 0 (N.modify i gg) := ndCells_set hx hj (fun k l hk => by rw [hoth k l hk]) hrow
 have hs := ho.store (i * 6 + jj) u
 rw [hset] at hs
 have hT := ho.storeTurn (i * 6 + jj) u
 have hi : i < N.length := (List.getElem?_eq_some_iff.1 hx).1
 have hupd : ∀ k l, upd R1 none ⟨64, 6, some ⟨g, 0, none⟩, N.length, (R none).c, ndCells R1 0 (N.modify i gg)⟩ (some (k, l)) = R1 (some (k, l)) := fun k l => upd_other R1 _ (by simp)
 have hat : ∀ k y, (N.modify i gg)[k]? = some y → (k = i ∧ y = gg x) ∨ (k ≠ i ∧ N[k]? = some y) := by
  intro k y hy
  rw [List.getElem?_modify] at hy
  by_cases hk : i = k
  ·subst hk
   rw [hx] at hy
   simp only [if_true, Option.map_eq_map, Option.map_some, Option.some.injEq] at hy
   exact .inl ⟨rfl, hy.symm⟩
  ·simp only [hk, if_false, Option.map_eq_map] at hy
   exact .inr ⟨fun e => hk e.symm, by simpa using hy⟩
 refine ⟨ha.step none _ hs (by rw [hn, hg]; exact hT) (.inl (by rw [hn, hg])), ?_, ?_, ?_, ?_, ?_, ?_⟩
 ·rw [upd_same]
  exact ⟨rfl, rfl, by rw [List.length_modify], ndCells_same _ 0 fun k l _ _ _ => by rw [hupd]⟩
 ·intro k y hy
  rw [hupd]
  rcases hat k y hy with ⟨rfl, rfl⟩ | ⟨hk, hy⟩
  ·exact h0
  ·rw [hoth k 0 hk]; exact h.syms k y hy
 ·intro k y hy
  rw [hupd]
  rcases hat k y hy with ⟨rfl, rfl⟩ | ⟨hk, hy⟩
  ·exact h1
  ·rw [hoth k 1 hk]; exact h.items k y hy
 ·intro k y hy
  rw [hupd]
  rcases hat k y hy with ⟨rfl, rfl⟩ | ⟨hk, hy⟩
  ·exact h2
  ·rw [hoth k 2 hk]; exact h.fields k y hy
 ·intro k l hk
  rw [List.length_modify] at hk
  rw [hupd, hoth k l (by omega)]
  exact h.far k l hk
 ·intro k
  cases k with
  | none => rw [upd_same]; exact .inl rfl
  | some p => obtain ⟨k, l⟩ := p; rw [hupd]; exact hty _
theorem NR.scalar (h : NR w base R N) {i jj g : Nat} {x : Nd} {u : Value} {gg : Nd → Nd} (hx : N[i]? = some x) (hg : (R none).A = some ⟨g, 0, none⟩) (hj : jj < 3) (hrow : (ndRow R i x).set jj u = ndRow R i (gg x)) (hs : (gg x).syms = x.syms) (hi : (gg x).items = x.items) (hf : (gg x).fields = x.fields) :
  NR (w.setCell ⟨g, i * 6 + jj, none⟩ u) base (upd R none ⟨64, 6, some ⟨g, 0, none⟩, N.length, (R none).c, ndCells R 0 (N.modify i gg)⟩) (N.modify i gg) :=
 h.put hx hg h.aps rfl (fun _ _ _ => rfl) h.ty (by omega) hrow (by rw [hs]; exact h.syms i x hx) (by rw [hi]; exact h.items i x hx) (by rw [hf]; exact h.fields i x hx)
theorem NR.slot {w1 : World} {r : Rw} (h : NR w base R N) {i j g : Nat} {x : Nd} {gg : Nd → Nd} (hx : N[i]? = some x) (hg : (R none).A = some ⟨g, 0, none⟩) (hj : j < 3) (ho : r.own w1 base) (ht : Turn w w1 (blk (R (some (i, j))).A)) (hb : blk r.A = blk (R (some (i, j))).A ∨ ∃ b, blk r.A = some b ∧ w.heap.size ≤ b)
  (hty : r.E = 9 ∨ r.E = 3 ∨ r.E = 119) (hk : (gg x).k = x.k ∧ (gg x).name = x.name ∧ (gg x).size = x.size)
  (h0 : Sh (if j = 0 then r else R (some (i, 0))) 9 1 (gg x).syms.length (vss (gg x).syms)) (h1 : Sh (if j = 1 then r else R (some (i, 1))) 3 1 (gg x).items.length (vis ((gg x).items.map Int.ofNat)))
  (h2 : Sh (if j = 2 then r else R (some (i, 2))) 119 3 (gg x).fields.length (vfs ((gg x).fields.map Fl.g))) :
  NR (w1.setCell ⟨g, i * 6 + (3 + j), none⟩ r.v) base (upd (upd R (some (i, j)) r) none ⟨64, 6, some ⟨g, 0, none⟩, N.length, (R none).c, ndCells (upd R (some (i, j)) r) 0 (N.modify i gg)⟩) (N.modify i gg) := by
 have e : ∀ l, upd R (some (i, j)) r (some (i, l)) = if j = l then r else R (some (i, l)) := by
  intro l
  by_cases hl : j = l
  ·subst hl; rw [if_pos rfl]; exact upd_same _ _ _
  ·rw [if_neg hl]; exact upd_other _ _ (by simp; exact fun e => hl e.symm)
 refine h.put hx hg (h.aps.step (some (i, j)) r ho ht hb) (upd_other _ _ (by simp)) (fun k l hk => upd_other _ _ (by simp [hk])) (fun k => ?_) (by omega) ?_ (by rw [e]; exact h0) (by rw [e]; exact h1) (by rw [e]; exact h2)
 ·by_cases hkk : k = some (i, j)
  ·subst hkk; rw [upd_same]; exact .inr hty
  ·rw [upd_other _ _ hkk]; exact h.ty k
 ·unfold ndRow
  rw [e, e, e, hk.1, hk.2.1, hk.2.2]
  match j, hj with
  | 0, _ => rfl
  | 1, _ => rfl
  | 2, _ => rfl
end
structure St where
 at_ : Nat
 N : List Nd
 why : Nat
 bad : Nat
def tokAt (T : List Tok) (i : Nat) : Tok := T.getD i ⟨3, [], 0⟩
section
variable (T : List Tok)
def mBad (is : Bool) (e : Nat) (s : St) : St := if is = true ∧ s.why = 0 then { s with why := e, bad := (tokAt T s.at_).at_ } else s
def mOn (s : St) : St := if s.why = 0 ∧ s.at_ + 1 < T.length then { s with at_ := s.at_ + 1 } else s
def mHere (x : List UInt8) (s : St) : Bool := decide ((tokAt T s.at_).k = 2) && (tokAt T s.at_).s == x
def mSg (x : List UInt8) (s : St) : St := mOn T (mBad T (!mHere T x s) 4 s)
def mNm (s : St) : St := mBad T (!pNm (tokAt T s.at_).tt) 4 s
def wordI (l : List UInt8) : Int := match pWord l with
 | some k => (k : Int)
 | none => -1
def kNo (t : Tok) : Int := if t.k = 0 ∨ t.k = 2 then wordI t.s else -1
def calledI (N : List Nd) (x : List UInt8) : Int := match pCalled N x with
 | some n => (n : Int)
 | none => -1
def mSame (N : List Nd) (l : List Nat) (k n : Int) : Bool := l.any fun i => decide ((i : Int) = n) || (decide (0 ≤ k) && decide (k < 9) && decide (kindAt N i = some k.toNat))
def mLong (deep : Nat) (k : Int) (s : St) : Bool := decide (20 ≤ deep) || (decide (0 ≤ k) && decide (200 ≤ s.N.length))
def mPre (deep : Nat) (un : Option (List Nat)) (k n : Int) (s : St) : St :=
 mBad T (un.isSome && (mSame s.N (un.getD []) k n && (decide (0 ≤ k) || decide (0 ≤ n)))) 6
  (mBad T (un.isSome && decide (k = 8)) 4
   (mBad T (decide (k < 0) && decide (n < 0)) 5
    (mBad T (mLong deep k s) 2 (if k < 0 then mNm T s else s))))
def St.mod (s : St) (m : Nat) (f : Nd → Nd) : St := { s with N := s.N.modify m f }
abbrev MRd := St → Nat × St
def mOne (rec : MRd) (m : Nat) (shut : List UInt8) (s : St) : St := mSg T shut ((rec s).2.mod m fun y => { y with items := [(rec s).1] })
def itemsAt (N : List Nd) (m : Nat) : List Nat := match N[m]? with
 | some x => x.items
 | none => []
def symsAt (N : List Nd) (m : Nat) : List (List UInt8) := match N[m]? with
 | some x => x.syms
 | none => []
def fieldsAt (N : List Nd) (m : Nat) : List Fl := match N[m]? with
 | some x => x.fields
 | none => []
def mAllS (rec : List Nat → MRd) (m : Nat) (s : St) : St := (rec (itemsAt s.N m) s).2.mod m fun y => { y with items := y.items ++ [(rec (itemsAt s.N m) s).1] }
def mAll (rec : List Nat → MRd) (m : Nat) : Nat → St → St
 | 0, s => s
 | g + 1, s =>
  if s.why ≠ 0 then s
  else if mHere T [41] (mAllS rec m s) then mOn T (mAllS rec m s)
  else mAll rec m g (mSg T [124] (mAllS rec m s))
def mSymS (m : Nat) (s : St) : St := mOn T ((mBad T ((symsAt s.N m).contains (tokAt T s.at_).s) 6 (mNm T s)).mod m fun y => { y with syms := y.syms ++ [(tokAt T s.at_).s] })
def mSyms (m : Nat) : Nat → St → St
 | 0, s => s
 | g + 1, s =>
  if s.why ≠ 0 then s
  else if mHere T [62] (mSymS T m s) then mOn T (mSymS T m s)
  else mSyms m g (mSg T [44] (mSymS T m s))
def mFldA (m : Nat) (s : St) : St := mOn T (mBad T ((fieldsAt s.N m).any fun y => y.name == (tokAt T s.at_).s) 6 (mNm T s))
def mFldB (m : Nat) (s : St) : St := mSg T [58] (if mHere T [63] (mFldA T m s) then mOn T (mFldA T m s) else mFldA T m s)
def mFldC (rec : MRd) (m : Nat) (s : St) : St :=
 (mSg T [59] (rec (mFldB T m s)).2).mod m fun y => { y with fields := y.fields ++ [⟨(tokAt T s.at_).s, (rec (mFldB T m s)).1, mHere T [63] (mFldA T m s)⟩] }
def mFldL (rec : MRd) (m : Nat) : Nat → St → Bool × St
 | 0, s => (true, s)
 | g + 1, s =>
  if s.why ≠ 0 ∨ mHere T [125] s = true then (false, s)
  else if (mFldB T m s).why ≠ 0 then (true, mFldB T m s)
  else mFldL rec m g (mFldC T rec m s)
def mFlds (rec : MRd) (m : Nat) (s : St) : St :=
 if (mFldL T rec m (T.length + 1) (mSg T [123] s)).1 then (mFldL T rec m (T.length + 1) (mSg T [123] s)).2 else mSg T [125] (mFldL T rec m (T.length + 1) (mSg T [123] s)).2
def mDefA (m : Nat) (s : St) : St := mOn T ((mBad T (pCalled s.N (tokAt T s.at_).s).isSome 6 (mNm T s)).mod m fun y => { y with name := (tokAt T s.at_).s })
def mFix (m : Nat) (s : St) : St :=
 mOn T ((mBad T (!(decide ((tokAt T s.at_).k = 1) && wOk (tokAt T s.at_).s)) 4 s).mod m fun y => { y with size := if wOk (tokAt T s.at_).s then wNumAt (tokAt T s.at_).s else 0 })
def mDef (rec : MRd) (m : Nat) (k : Int) (s : St) : St :=
 if k = 10 then mFix T m (mDefA T m s)
 else if k = 11 then mFlds T rec m (mDefA T m s)
 else mSyms T m (T.length + 1) (mSg T [60] (mDefA T m s))
def mBody (rec : Option (List Nat) → MRd) (k : Int) (s : St) : Nat × St :=
 (s.N.length,
  if k < 6 then { s with N := s.N ++ [Nd.of k.toNat] }
  else if k = 6 then mOne T (rec none) s.N.length [93] { s with N := s.N ++ [Nd.of k.toNat] }
  else if k = 7 then mOne T (rec none) s.N.length [125] { s with N := s.N ++ [Nd.of k.toNat] }
  else if k = 8 then mAll T (fun u => rec (some u)) s.N.length (T.length + 1) { s with N := s.N ++ [Nd.of k.toNat] }
  else mDef T (rec none) s.N.length k { s with N := s.N ++ [Nd.of k.toNat] })
def mName (t : Tok) (s : St) (k : Int) : Int := if k < 0 then calledI s.N t.s else -1
def mTyped : Nat → Nat → Option (List Nat) → MRd
 | 0, _, _, s => (0, s)
 | f + 1, deep, un, s =>
  if (mPre T deep un (kNo (tokAt T s.at_)) (mName (tokAt T s.at_) s (kNo (tokAt T s.at_))) s).why ≠ 0 then (0, mPre T deep un (kNo (tokAt T s.at_)) (mName (tokAt T s.at_) s (kNo (tokAt T s.at_))) s)
  else if kNo (tokAt T s.at_) < 0 then ((mName (tokAt T s.at_) s (kNo (tokAt T s.at_))).toNat, mOn T (mPre T deep un (kNo (tokAt T s.at_)) (mName (tokAt T s.at_) s (kNo (tokAt T s.at_))) s))
  else mBody T (fun u => mTyped f (deep + 1) u) (kNo (tokAt T s.at_)) (mOn T (mPre T deep un (kNo (tokAt T s.at_)) (mName (tokAt T s.at_) s (kNo (tokAt T s.at_))) s))
def mParse : St := mBad T (decide ((tokAt T (mTyped T 21 0 none ⟨0, [], 0, 0⟩).2.at_).k ≠ 3)) 4 (mTyped T 21 0 none ⟨0, [], 0, 0⟩).2
end
def kn (x : Nd) : Nat × List UInt8 := (x.k, x.name)
def NE (S N : List Nd) : Prop := S.map kn = N.map kn
section
variable {S N : List Nd}
theorem NE.refl (N : List Nd) : NE N N := rfl
theorem NE.len (h : NE S N) : S.length = N.length := by have := congrArg List.length h; simpa using this
theorem NE.called (h : NE S N) (x : List UInt8) : pCalled S x = pCalled N x := by
 have e (M : List Nd) : pCalled M x = (M.map kn).findIdx? (fun p => decide (9 ≤ p.1) && p.2 == x) := by
  unfold pCalled; rw [List.findIdx?_map]; rfl
 rw [e, e, h]
theorem NE.kind (h : NE S N) (i : Nat) : kindAt S i = kindAt N i := by
 have e (M : List Nd) : kindAt M i = ((M.map kn)[i]?).map Prod.fst := by
  unfold kindAt; rw [List.getElem?_map, Option.map_map]; rfl
 rw [e, e, h]
theorem NE.app (h : NE S N) {a b : List Nd} (h2 : NE a b) : NE (S ++ a) (N ++ b) := by
 show (S ++ a).map kn = (N ++ b).map kn
 rw [List.map_append, List.map_append, h, h2]
theorem NE.one {x y : Nd} (h : kn x = kn y) : NE [x] [y] := by show [kn x] = [kn y]; rw [h]
end
def TOk (T : List Tok) : Prop := ∃ ts, T.map Tok.tt = ts ++ [(3, [])] ∧ ∀ t ∈ ts, Wf t
section
variable {T : List Tok}
theorem TOk.pos (h : TOk T) : 0 < T.length := by
 obtain ⟨ts, e, _⟩ := h
 have := congrArg List.length e
 simp at this
 omega
theorem tok_drop {i : Nat} (h : i < T.length) : T.drop i = tokAt T i :: T.drop (i + 1) := by
 rw [List.drop_eq_getElem_cons h]
 congr 1
 unfold tokAt
 rw [List.getD_eq_getElem?_getD, List.getElem?_eq_getElem h]
 rfl
theorem TOk.at_ (h : TOk T) {i : Nat} (hi : i < T.length) : (i + 1 < T.length ∧ Wf (tokAt T i).tt) ∨ (i + 1 = T.length ∧ (tokAt T i).tt = (3, [])) := by
 obtain ⟨ts, e, hw⟩ := h
 have hl := congrArg List.length e
 simp only [List.length_map, List.length_append, List.length_singleton] at hl
 have ht : (T.map Tok.tt)[i]? = some (tokAt T i).tt := by
  rw [List.getElem?_map]
  unfold tokAt
  rw [List.getD_eq_getElem?_getD, List.getElem?_eq_getElem hi]
  rfl
 rw [e] at ht
 rcases Nat.lt_or_ge i ts.length with h1 | h1
 ·rw [List.getElem?_append_left h1] at ht
  exact .inl ⟨by omega, hw _ (List.mem_of_getElem? ht)⟩
 ·obtain rfl : i = ts.length := by omega
  rw [List.getElem?_append_right (by omega), Nat.sub_self] at ht
  simp at ht
  exact .inr ⟨by omega, ht.symm⟩
theorem TOk.more (h : TOk T) {i : Nat} (hi : i < T.length) (hk : (tokAt T i).k ≠ 3) : i + 1 < T.length := by
 rcases h.at_ hi with ⟨h1, _⟩ | ⟨_, h2⟩
 ·exact h1
 ·exact absurd (congrArg Prod.fst h2) hk
theorem kNo_kind (h : TOk T) {i : Nat} (hi : i < T.length) : kNo (tokAt T i) = match pKind (tokAt T i).tt with
  | some k => (k : Int)
  | none => -1 := by
 obtain ⟨t, ht⟩ : ∃ t, t = tokAt T i := ⟨_, rfl⟩
 have hw := h.at_ hi
 rw [← ht] at hw ⊢
 have e2 : t.tt.2 = t.s := rfl
 have e1 : t.tt.1 = t.k := rfl
 unfold kNo pKind wordI
 rw [e2, e1]
 cases hp : pWord t.s with
 | none => simp
 | some k =>
  simp only
  have hk := pWord_some hp
  by_cases h1 : (t.k = 0 ∧ (k < 6 ∨ 9 ≤ k)) ∨ (t.k = 2 ∧ 6 ≤ k ∧ k < 9)
  ·rw [if_pos h1, if_pos (by omega)]
  ·rw [if_neg h1]
   simp only
   rw [if_neg]
   intro h2
   rcases hw with ⟨_, c, w, hs, hb, hkd, _⟩ | ⟨_, h3⟩
   ·rw [e2, hk.2] at hs
    rw [e1] at hkd
    have key : ∀ k : Nat, k < 12 → ∀ c w, kwText k = c :: w → ((k < 6 ∨ 9 ≤ k) → wKind c = 0) ∧ (6 ≤ k ∧ k < 9 → wKind c = 2) := by
     intro k hk
     have : k = 0 ∨ k = 1 ∨ k = 2 ∨ k = 3 ∨ k = 4 ∨ k = 5 ∨ k = 6 ∨ k = 7 ∨ k = 8 ∨ k = 9 ∨ k = 10 ∨ k = 11 := by omega
     rcases this with rfl | rfl | rfl | rfl | rfl | rfl | rfl | rfl | rfl | rfl | rfl | rfl <;>
      (intro c w e; simp only [kwText, kwList, List.getD_cons_zero, List.getD_cons_succ, List.cons.injEq] at e; rw [← e.1]; decide)
    have := key k hk.1 c w hs
    omega
   ·have := congrArg Prod.fst h3
    rw [e1] at this
    simp at this
    omega
variable {s : St}
theorem mBad_no (e : Nat) : mBad T false e s = s := by unfold mBad; rw [if_neg]; simp
theorem mBad_yes (e : Nat) (h : s.why = 0) : mBad T true e s = { s with why := e, bad := (tokAt T s.at_).at_ } := by unfold mBad; rw [if_pos ⟨rfl, h⟩]
theorem mBad_stuck (is : Bool) (e : Nat) (h : s.why ≠ 0) : mBad T is e s = s := by unfold mBad; rw [if_neg fun x => h x.2]
theorem mOn_stuck (h : s.why ≠ 0) : mOn T s = s := by unfold mOn; rw [if_neg fun x => h x.1]
theorem mSg_stuck (x : List UInt8) (h : s.why ≠ 0) : mSg T x s = s := by unfold mSg; rw [mBad_stuck _ _ h, mOn_stuck h]
theorem mOn_more (h : s.why = 0) (hl : s.at_ + 1 < T.length) : mOn T s = { s with at_ := s.at_ + 1 } := by unfold mOn; rw [if_pos ⟨h, hl⟩]
theorem mHere_iff (x : List UInt8) : mHere T x s = true ↔ (tokAt T s.at_).k = 2 ∧ (tokAt T s.at_).s = x := by unfold mHere; simp
theorem mSg_yes (hT : TOk T) (h : s.why = 0) (hl : s.at_ < T.length) {x : List UInt8} (hx : (tokAt T s.at_).k = 2 ∧ (tokAt T s.at_).s = x) : mSg T x s = { s with at_ := s.at_ + 1 } ∧ s.at_ + 1 < T.length := by
 have hm := hT.more hl (by omega)
 refine ⟨?_, hm⟩
 unfold mSg
 rw [(mHere_iff x).2 hx, Bool.not_true, mBad_no, mOn_more h hm]
theorem mSg_no (h : s.why = 0) {x : List UInt8} (hx : ¬((tokAt T s.at_).k = 2 ∧ (tokAt T s.at_).s = x)) : (mSg T x s).why = 4 ∧ (mSg T x s).bad = (tokAt T s.at_).at_ := by
 have : mHere T x s = false := by
  cases hh : mHere T x s with
  | false => rfl
  | true => exact absurd ((mHere_iff x).1 hh) hx
 unfold mSg
 rw [this, Bool.not_false, mBad_yes _ h, mOn_stuck (by simp)]
 exact ⟨rfl, rfl⟩
def Rel (T : List Tok) (s : St) (N : List Nd) (x : Nat × St) (e : EO) : Prop := match e with
 | .ok (n, rest, N') => x.1 = n ∧ x.2.why = 0 ∧ x.2.at_ < T.length ∧ T.drop x.2.at_ = rest ∧ s.at_ < x.2.at_ ∧ ∃ new, N' = N ++ new ∧ x.2.N = s.N ++ new
 | .error (a, er) => x.2.why = er ∧ x.2.bad = a ∧ er ≠ 0
def RdRel (T : List Tok) (F : Nat) (rec : MRd) (rec' : ERd) : Prop := ∀ (s : St) (N : List Nd), s.why = 0 → s.at_ < T.length → T.length - s.at_ < F → NE s.N N → Rel T s N (rec s) (rec' (T.drop s.at_) N)
theorem rel_err {N : List Nd} {x : Nat × St} {a e : Nat} (h1 : x.2.why = e) (h2 : x.2.bad = a) (h3 : e ≠ 0) : Rel T s N x (.error (a, e)) := ⟨h1, h2, h3⟩
theorem mod_at {S mid : List Nd} {x : Nd} (g : Nd → Nd) {m : Nat} (hm : S.length = m) : (S ++ x :: mid).modify m g = S ++ g x :: mid := by
 subst hm
 have := mod_pre S x mid g
 simpa using this
theorem node_at {S mid : List Nd} {x : Nd} {m : Nat} (hm : S.length = m) : (S ++ x :: mid)[m]? = some x := by subst hm; simp
theorem one_rel (hT : TOk T) {F : Nat} {rec : MRd} {rec' : ERd} (hr : RdRel T F rec rec') {shut : List UInt8} {S N0 : List Nd} {k m : Nat} (hm : S.length = m) (hN : NE S N0) (hs : s.N = S ++ [Nd.of k]) (h0 : s.why = 0) (hl : s.at_ < T.length) (hF : T.length - s.at_ < F) :
  Rel T { s with N := S } N0 (m, mOne T rec m shut s) (eOne rec' shut (T.drop s.at_) (N0 ++ [Nd.of k]) m) := by
 have hR := hr s (N0 ++ [Nd.of k]) h0 hl hF (by rw [hs]; exact hN.app (NE.refl _))
 have hm0 : N0.length = m := by rw [← hN.len]; exact hm
 unfold eOne mOne
 cases he : rec' (T.drop s.at_) (N0 ++ [Nd.of k]) with
 | error p =>
  obtain ⟨a, e⟩ := p
  rw [he] at hR
  obtain ⟨h1, h2, h3⟩ := hR
  have hst : ((rec s).2.mod m fun y => { y with items := [(rec s).1] }).why ≠ 0 := by show (rec s).2.why ≠ 0; rw [h1]; exact h3
  show Rel _ _ _ _ (.error (a, e))
  rw [mSg_stuck _ hst]
  exact rel_err h1 h2 h3
 | ok p =>
  obtain ⟨x, ts, N1⟩ := p
  rw [he] at hR
  obtain ⟨h1, h2, h3, h4, h5, new, h6, h7⟩ := hR
  rw [tok_drop h3] at h4
  cases ts with
  | nil => cases h4
  | cons u r1 =>
   injection h4 with h4a h4b
   simp only
   obtain ⟨s1, hs1⟩ : ∃ s1, s1 = (rec s).2.mod m fun y => { y with items := [(rec s).1] } := ⟨_, rfl⟩
   have e1 : s1.why = 0 := by rw [hs1]; exact h2
   have e2 : s1.at_ = (rec s).2.at_ := by rw [hs1]; rfl
   have e3 : s1.N = S ++ { Nd.of k with items := [x] } :: new := by
    rw [hs1]
    show (rec s).2.N.modify m _ = _
    rw [h7, hs, h1, List.append_assoc]
    exact mod_at _ hm
   rw [← hs1]
   by_cases hu : u.k = 2 ∧ u.s = shut
   ·rw [if_pos hu]
    obtain ⟨q1, q2⟩ := mSg_yes (s := s1) hT e1 (by rw [e2]; exact h3) (x := shut) (by rw [e2, h4a]; exact hu)
    rw [q1]
    refine ⟨rfl, e1, q2, by rw [← h4b, e2], by show s.at_ < s1.at_ + 1; omega, { Nd.of k with items := [x] } :: new, ?_, e3⟩
    rw [h6, List.append_assoc]
    exact mod_at _ hm0
   ·rw [if_neg hu]
    obtain ⟨q1, q2⟩ := mSg_no (T := T) (s := s1) e1 (x := shut) (by rw [e2, h4a]; exact hu)
    exact rel_err q1 (by rw [q2, e2, h4a]) (by decide)
theorem all_rel (hT : TOk T) {F : Nat} {rec : List Nat → MRd} {rec' : List Nat → ERd} (hr : ∀ u, RdRel T F (rec u) (rec' u)) {S N0 : List Nd} {m : Nat} (hm : S.length = m) (hN : NE S N0) : ∀ (g g' : Nat) (its : List Nat) (mid : List Nd) (s : St),
  s.N = S ++ { Nd.of 8 with items := its } :: mid → s.why = 0 → s.at_ < T.length → T.length - s.at_ < F → T.length - s.at_ < g → T.length - s.at_ < g' →
  match eAllW rec' g' its (T.drop s.at_) (N0 ++ Nd.of 8 :: mid) with
  | .ok (its', rest, N1) => (mAll T rec m g s).why = 0 ∧ (mAll T rec m g s).at_ < T.length ∧ T.drop (mAll T rec m g s).at_ = rest ∧ s.at_ < (mAll T rec m g s).at_ ∧ ∃ mid', N1 = N0 ++ Nd.of 8 :: mid' ∧ (mAll T rec m g s).N = S ++ { Nd.of 8 with items := its' } :: mid'
  | .error (a, e) => (mAll T rec m g s).why = e ∧ (mAll T rec m g s).bad = a ∧ e ≠ 0
 | 0, _, _, _, _, _, _, _, _, h, _ => by omega
 | _, 0, _, _, _, _, _, _, _, _, h => by omega
 | g + 1, g' + 1, its, mid, s, hs, h0, hl, hF, hg, hg' => by
  have hit : itemsAt s.N m = its := by unfold itemsAt; rw [hs, node_at hm]
  have hR := hr its s (N0 ++ Nd.of 8 :: mid) h0 hl hF (by
   rw [hs]
   refine hN.app ?_
   show kn _ :: _ = kn _ :: _
   rfl)
  rw [eAllW, mAll, if_neg (by simp [h0])]
  obtain ⟨s1, hs1⟩ : ∃ s1, s1 = mAllS rec m s := ⟨_, rfl⟩
  have hs1' : s1 = (rec its s).2.mod m fun y => { y with items := y.items ++ [(rec its s).1] } := by rw [hs1]; unfold mAllS; rw [hit]
  rw [← hs1]
  cases he : rec' its (T.drop s.at_) (N0 ++ Nd.of 8 :: mid) with
  | error p =>
   obtain ⟨a, e⟩ := p
   rw [he] at hR
   obtain ⟨h1, h2, h3⟩ := hR
   have e1 : s1.why = e := by rw [hs1']; exact h1
   have e2 : s1.bad = a := by rw [hs1']; exact h2
   have e3 : s1.why ≠ 0 := by rw [e1]; exact h3
   simp only
   split
   ·rw [mOn_stuck e3]; exact ⟨e1, e2, h3⟩
   ·rw [mSg_stuck _ e3]
    cases g with
    | zero => exact ⟨e1, e2, h3⟩
    | succ g => rw [mAll, if_pos e3]; exact ⟨e1, e2, h3⟩
  | ok p =>
   obtain ⟨x, ts, N1⟩ := p
   rw [he] at hR
   obtain ⟨h1, h2, h3, h4, h5, new, h6, h7⟩ := hR
   rw [tok_drop h3] at h4
   cases ts with
   | nil => cases h4
   | cons u r1 =>
    injection h4 with h4a h4b
    have e1 : s1.why = 0 := by rw [hs1']; exact h2
    have e2 : s1.at_ = (rec its s).2.at_ := by rw [hs1']; rfl
    have e3 : s1.N = S ++ { Nd.of 8 with items := its ++ [x] } :: (mid ++ new) := by
     rw [hs1']
     show (rec its s).2.N.modify m _ = _
     rw [h7, hs, h1, List.append_assoc, List.cons_append]
     exact mod_at _ hm
    have h6' : N1 = N0 ++ Nd.of 8 :: (mid ++ new) := by rw [h6, List.append_assoc, List.cons_append]
    simp only
    have hl1 : s1.at_ < T.length := by rw [e2]; exact h3
    by_cases hu : u.k = 2 ∧ u.s = [41]
    ·rw [if_pos hu]
     have hh : mHere T [41] s1 = true := (mHere_iff _).2 (by rw [e2, h4a]; exact hu)
     have hmo := hT.more hl1 (by rw [e2, h4a]; omega)
     rw [if_pos hh, mOn_more e1 hmo]
     exact ⟨e1, hmo, by rw [← h4b, e2], by show s.at_ < s1.at_ + 1; omega, mid ++ new, h6', e3⟩
    ·rw [if_neg hu]
     have hh : mHere T [41] s1 = false := by
      cases hh : mHere T [41] s1 with
      | false => rfl
      | true => exact absurd ((mHere_iff _).1 hh) (by rw [e2, h4a]; exact hu)
     rw [hh]
     simp only [Bool.false_eq_true, if_false]
     by_cases hv : u.k = 2 ∧ u.s = [124]
     ·rw [if_pos hv]
      obtain ⟨q1, q2⟩ := mSg_yes (s := s1) hT e1 hl1 (x := [124]) (by rw [e2, h4a]; exact hv)
      have := all_rel hT hr hm hN g g' (its ++ [x]) (mid ++ new) { s1 with at_ := s1.at_ + 1 } e3 e1 q2 (by simp only; omega) (by simp only; omega) (by simp only; omega)
      rw [q1]
      have ed : T.drop (s1.at_ + 1) = r1 := by rw [e2, h4b]
      simp only [ed] at this
      rw [h6']
      revert this
      cases eAllW rec' g' (its ++ [x]) r1 (N0 ++ Nd.of 8 :: (mid ++ new)) with
      | error p => exact id
      | ok p =>
       obtain ⟨its', rest, N2⟩ := p
       rintro ⟨j1, j2, j3, j4, j5⟩
       exact ⟨j1, j2, j3, by omega, j5⟩
     ·rw [if_neg hv]
      obtain ⟨q1, q2⟩ := mSg_no (T := T) (s := s1) e1 (x := [124]) (by rw [e2, h4a]; exact hv)
      have q3 : (mSg T [124] s1).why ≠ 0 := by rw [q1]; decide
      have q4 : mAll T rec m g (mSg T [124] s1) = mSg T [124] s1 := by
       cases g with
       | zero => rfl
       | succ g => rw [mAll, if_pos q3]
      rw [q4]
      exact ⟨q1, by rw [q2, e2, h4a], by decide⟩
end
section
variable {T : List Tok} {s : St}
theorem pNm_zero {t : Tok} (h : pNm t.tt = true) : t.k = 0 := by
 have := pNm_form h
 exact congrArg Prod.fst this
theorem pNm_ne {t : Tok} (h : pNm t.tt = true) : t.s ≠ [] := by
 intro e
 unfold pNm at h
 rw [show t.tt.2 = t.s from rfl, e] at h
 simp [wName] at h
theorem mNm_yes (h : pNm (tokAt T s.at_).tt = true) : mNm T s = s := by unfold mNm; rw [h, Bool.not_true, mBad_no]
theorem mNm_no (h : pNm (tokAt T s.at_).tt = false) (h0 : s.why = 0) : (mNm T s).why = 4 ∧ (mNm T s).bad = (tokAt T s.at_).at_ := by
 unfold mNm; rw [h, Bool.not_false, mBad_yes _ h0]; exact ⟨rfl, rfl⟩
theorem eSyms_cons (g : Nat) (ys : List (List UInt8)) (t : Tok) (r0 : List Tok) : eSyms (g + 1) ys (t :: r0) =
  if pNm t.tt = false then .error (t.at_, 4)
  else if ys.contains t.s then .error (t.at_, 6)
  else match r0 with
   | [] => .error (0, 0)
   | u :: r => if u.k = 2 ∧ u.s = [62] then .ok (ys ++ [t.s], r) else if u.k = 2 ∧ u.s = [44] then eSyms g (ys ++ [t.s]) r else .error (u.at_, 4) := by
 cases r0 <;> rw [eSyms]
theorem symS_no (hn : pNm (tokAt T s.at_).tt = false) (h0 : s.why = 0) (m : Nat) : (mSymS T m s).why = 4 ∧ (mSymS T m s).bad = (tokAt T s.at_).at_ := by
 obtain ⟨h1, h2⟩ := mNm_no (T := T) hn h0
 have h3 : (mNm T s).why ≠ 0 := by rw [h1]; decide
 unfold mSymS
 rw [mBad_stuck _ _ h3, mOn_stuck (by exact h3)]
 exact ⟨h1, h2⟩
theorem syms_rel (hT : TOk T) {S : List Nd} {m : Nat} (hm : S.length = m) (nm : List UInt8) : ∀ (g g' : Nat) (ys : List (List UInt8)) (s : St),
  s.N = S ++ [{ Nd.of 9 with name := nm, syms := ys }] → s.why = 0 → s.at_ < T.length → T.length - s.at_ < g → T.length - s.at_ < g' →
  match eSyms g' ys (T.drop s.at_) with
  | .ok (ys', rest) => (mSyms T m g s).why = 0 ∧ (mSyms T m g s).at_ < T.length ∧ T.drop (mSyms T m g s).at_ = rest ∧ s.at_ < (mSyms T m g s).at_ ∧ (mSyms T m g s).N = S ++ [{ Nd.of 9 with name := nm, syms := ys' }]
  | .error (a, e) => (mSyms T m g s).why = e ∧ (mSyms T m g s).bad = a ∧ e ≠ 0
 | 0, _, _, _, _, _, _, h, _ => by omega
 | _, 0, _, _, _, _, _, _, h => by omega
 | g + 1, g' + 1, ys, s, hs, h0, hl, hg, hg' => by
  have hsy : symsAt s.N m = ys := by unfold symsAt; rw [hs, node_at hm]
  have stop : ∀ {s1 : St} {a e : Nat}, s1.why = e → s1.bad = a → e ≠ 0 → ((if mHere T [62] s1 = true then mOn T s1 else mSyms T m g (mSg T [44] s1)).why = e ∧ (if mHere T [62] s1 = true then mOn T s1 else mSyms T m g (mSg T [44] s1)).bad = a ∧ e ≠ 0) := by
   intro s1 a e h1 h2 h3
   have h4 : s1.why ≠ 0 := by rw [h1]; exact h3
   split
   ·rw [mOn_stuck h4]; exact ⟨h1, h2, h3⟩
   ·rw [mSg_stuck _ h4]
    cases g with
    | zero => exact ⟨h1, h2, h3⟩
    | succ g => rw [mSyms, if_pos h4]; exact ⟨h1, h2, h3⟩
  rw [tok_drop hl, eSyms_cons, mSyms, if_neg (show ¬(s.why ≠ 0) by simp [h0])]
  obtain ⟨t, ht⟩ : ∃ t, t = tokAt T s.at_ := ⟨_, rfl⟩
  rw [← ht]
  cases hn : pNm t.tt with
  | false =>
   rw [if_pos rfl]
   obtain ⟨h1, h2⟩ := symS_no (T := T) (by rw [← ht]; exact hn) h0 m
   exact stop h1 (by rw [h2, ht]) (by decide)
  | true =>
   rw [if_neg (by simp)]
   have hnm : mNm T s = s := mNm_yes (by rw [← ht]; exact hn)
   cases hc : ys.contains t.s with
   | true =>
    rw [if_pos rfl]
    have h1 : (mSymS T m s).why = 6 ∧ (mSymS T m s).bad = t.at_ := by
     unfold mSymS
     rw [hnm, hsy, ← ht, hc, mBad_yes _ h0, mOn_stuck (by simp [St.mod])]
     exact ⟨rfl, by rw [ht]; rfl⟩
    exact stop h1.1 h1.2 (by decide)
   | false =>
    rw [if_neg (by simp)]
    have hmo := hT.more hl (by rw [← ht, pNm_zero hn]; decide)
    have h1 : mSymS T m s = { s with at_ := s.at_ + 1, N := S ++ [{ Nd.of 9 with name := nm, syms := ys ++ [t.s] }] } := by
     unfold mSymS
     rw [hnm, hsy, ← ht, hc, mBad_no, mOn_more (by exact h0) (by exact hmo)]
     unfold St.mod
     simp only [hs, mod_at _ hm]
    rw [h1]
    obtain ⟨s1, hs1⟩ : ∃ s1 : St, s1 = { s with at_ := s.at_ + 1, N := S ++ [{ Nd.of 9 with name := nm, syms := ys ++ [t.s] }] } := ⟨_, rfl⟩
    rw [← hs1]
    have e1 : s1.why = 0 := by rw [hs1]; exact h0
    have e2 : s1.at_ = s.at_ + 1 := by rw [hs1]
    have e3 : s1.N = S ++ [{ Nd.of 9 with name := nm, syms := ys ++ [t.s] }] := by rw [hs1]
    have hl1 : s1.at_ < T.length := by rw [e2]; exact hmo
    rw [tok_drop hmo]
    simp only
    obtain ⟨u, hu'⟩ : ∃ u, u = tokAt T (s.at_ + 1) := ⟨_, rfl⟩
    rw [← hu']
    by_cases hu : u.k = 2 ∧ u.s = [62]
    ·rw [if_pos hu]
     have hh : mHere T [62] s1 = true := (mHere_iff _).2 (by rw [e2, ← hu']; exact hu)
     have hmo2 := hT.more hl1 (by rw [e2, ← hu']; omega)
     rw [if_pos hh, mOn_more e1 hmo2]
     exact ⟨e1, hmo2, by rw [e2], by show s.at_ < s1.at_ + 1; omega, e3⟩
    ·rw [if_neg hu]
     have hh : mHere T [62] s1 = false := by
      cases hh : mHere T [62] s1 with
      | false => rfl
      | true => exact absurd ((mHere_iff _).1 hh) (by rw [e2, ← hu']; exact hu)
     rw [hh]
     simp only [Bool.false_eq_true, if_false]
     by_cases hv : u.k = 2 ∧ u.s = [44]
     ·rw [if_pos hv]
      obtain ⟨q1, q2⟩ := mSg_yes (s := s1) hT e1 hl1 (x := [44]) (by rw [e2, ← hu']; exact hv)
      have := syms_rel hT hm nm g g' (ys ++ [t.s]) { s1 with at_ := s1.at_ + 1 } e3 e1 q2 (by simp only; omega) (by simp only; omega)
      rw [q1]
      have ed : T.drop (s1.at_ + 1) = T.drop (s.at_ + 1 + 1) := by rw [e2]
      simp only [ed] at this
      revert this
      cases eSyms g' (ys ++ [t.s]) (T.drop (s.at_ + 1 + 1)) with
      | error p => exact id
      | ok p =>
       obtain ⟨ys', rest⟩ := p
       rintro ⟨j1, j2, j3, j4, j5⟩
       exact ⟨j1, j2, j3, by omega, j5⟩
     ·rw [if_neg hv]
      obtain ⟨q1, q2⟩ := mSg_no (T := T) (s := s1) e1 (x := [44]) (by rw [e2, ← hu']; exact hv)
      have q3 : (mSg T [44] s1).why ≠ 0 := by rw [q1]; decide
      have q4 : mSyms T m g (mSg T [44] s1) = mSg T [44] s1 := by
       cases g with
       | zero => rfl
       | succ g => rw [mSyms, if_pos q3]
      rw [q4]
      exact ⟨q1, by rw [q2, e2, hu'], by decide⟩
def mFin (T : List Tok) (p : Bool × St) : St := if p.1 then p.2 else mSg T [125] p.2
theorem fldB_stuck {m : Nat} {a e : Nat} (h1 : (mFldA T m s).why = e) (h2 : (mFldA T m s).bad = a) (h3 : e ≠ 0) : (mFldB T m s).why = e ∧ (mFldB T m s).bad = a ∧ (mFldB T m s).why ≠ 0 := by
 have h4 : (mFldA T m s).why ≠ 0 := by rw [h1]; exact h3
 unfold mFldB
 rw [mOn_stuck h4, ite_self, mSg_stuck _ h4]
 exact ⟨h1, h2, h4⟩
theorem has_rel (hT : TOk T) {m : Nat} (h0 : (mFldA T m s).why = 0) (hl : (mFldA T m s).at_ < T.length) :
  match eHas (T.drop (mFldA T m s).at_) with
  | .ok (h, rest) => (mFldB T m s).why = 0 ∧ (mFldB T m s).at_ < T.length ∧ T.drop (mFldB T m s).at_ = rest ∧ (mFldA T m s).at_ < (mFldB T m s).at_ ∧ mHere T [63] (mFldA T m s) = h ∧ (mFldB T m s).N = (mFldA T m s).N
  | .error (a, e) => (mFldB T m s).why = e ∧ (mFldB T m s).bad = a ∧ e ≠ 0 := by
 unfold mFldB
 generalize mFldA T m s = s1 at h0 hl ⊢
 rw [tok_drop hl]
 unfold eHas
 simp only
 by_cases hc : (tokAt T s1.at_).k = 2 ∧ (tokAt T s1.at_).s = [58]
 ·rw [if_pos hc]
  have hh : mHere T [63] s1 = false := by
   cases hh : mHere T [63] s1 with
   | false => rfl
   | true => have := (mHere_iff _).1 hh; rw [hc.2] at this; exact absurd this.2 (by decide)
  obtain ⟨q1, q2⟩ := mSg_yes (s := s1) hT h0 hl hc
  rw [hh]
  simp only [Bool.false_eq_true, if_false]
  rw [q1]
  exact ⟨h0, q2, rfl, Nat.lt_succ_self _, trivial, rfl⟩
 ·rw [if_neg hc]
  by_cases hq : (tokAt T s1.at_).k = 2 ∧ (tokAt T s1.at_).s = [63]
  ·rw [if_pos hq]
   have hh : mHere T [63] s1 = true := (mHere_iff _).2 hq
   have hmo := hT.more hl (by omega)
   rw [hh]
   simp only [if_true]
   rw [mOn_more h0 hmo, tok_drop hmo]
   simp only
   by_cases hc2 : (tokAt T (s1.at_ + 1)).k = 2 ∧ (tokAt T (s1.at_ + 1)).s = [58]
   ·rw [if_pos hc2]
    obtain ⟨q1, q2⟩ := mSg_yes (s := { s1 with at_ := s1.at_ + 1 }) hT h0 hmo hc2
    rw [q1]
    exact ⟨h0, q2, rfl, by show s1.at_ < s1.at_ + 1 + 1; omega, rfl, rfl⟩
   ·rw [if_neg hc2]
    obtain ⟨q1, q2⟩ := mSg_no (T := T) (s := { s1 with at_ := s1.at_ + 1 }) h0 hc2
    exact ⟨q1, q2, by decide⟩
  ·rw [if_neg hq]
   have hh : mHere T [63] s1 = false := by
    cases hh : mHere T [63] s1 with
    | false => rfl
    | true => exact absurd ((mHere_iff _).1 hh) hq
   rw [hh]
   simp only [Bool.false_eq_true, if_false]
   obtain ⟨q1, q2⟩ := mSg_no (T := T) (s := s1) h0 hc
   exact ⟨q1, q2, by decide⟩
theorem flds_rel (hT : TOk T) {F : Nat} {rec : MRd} {rec' : ERd} (hr : RdRel T F rec rec') {S N0 : List Nd} {m : Nat} (hm : S.length = m) (hN : NE S N0) (nm : List UInt8) : ∀ (g g' : Nat) (fs : List Fl) (mid : List Nd) (s : St),
  s.N = S ++ { Nd.of 11 with name := nm, fields := fs } :: mid → s.why = 0 → s.at_ < T.length → T.length - s.at_ < F → T.length - s.at_ < g → T.length - s.at_ < g' →
  match eFields rec' g' fs (T.drop s.at_) (N0 ++ { Nd.of 11 with name := nm } :: mid) with
  | .ok (fs', rest, N1) => (mFin T (mFldL T rec m g s)).why = 0 ∧ (mFin T (mFldL T rec m g s)).at_ < T.length ∧ T.drop (mFin T (mFldL T rec m g s)).at_ = rest ∧ s.at_ < (mFin T (mFldL T rec m g s)).at_ ∧ ∃ mid', N1 = N0 ++ { Nd.of 11 with name := nm } :: mid' ∧ (mFin T (mFldL T rec m g s)).N = S ++ { Nd.of 11 with name := nm, fields := fs' } :: mid'
  | .error (a, e) => (mFin T (mFldL T rec m g s)).why = e ∧ (mFin T (mFldL T rec m g s)).bad = a ∧ e ≠ 0
 | 0, _, _, _, _, _, _, _, _, h, _ => by omega
 | _, 0, _, _, _, _, _, _, _, _, h => by omega
 | g + 1, g' + 1, fs, mid, s, hs, h0, hl, hF, hg, hg' => by
  have hfl : fieldsAt s.N m = fs := by unfold fieldsAt; rw [hs, node_at hm]
  rw [mFldL, tok_drop hl, eFields]
  obtain ⟨t, ht⟩ : ∃ t, t = tokAt T s.at_ := ⟨_, rfl⟩
  rw [← ht]
  by_cases hb : t.k = 2 ∧ t.s = [125]
  ·rw [if_pos hb, if_pos (.inr ((mHere_iff _).2 (by rw [← ht]; exact hb)))]
   obtain ⟨q1, q2⟩ := mSg_yes (s := s) hT h0 hl (x := [125]) (by rw [← ht]; exact hb)
   show (mSg T [125] s).why = 0 ∧ (mSg T [125] s).at_ < _ ∧ T.drop (mSg T [125] s).at_ = _ ∧ _ < (mSg T [125] s).at_ ∧ ∃ mid', _ ∧ (mSg T [125] s).N = _
   rw [q1]
   exact ⟨h0, q2, rfl, Nat.lt_succ_self _, mid, rfl, hs⟩
  ·have hh : ¬(s.why ≠ 0 ∨ mHere T [125] s = true) := by
    rintro (h | h)
    ·exact h h0
    ·exact hb (by rw [ht]; exact (mHere_iff _).1 h)
   rw [if_neg hb, if_neg hh]
   have stop : ∀ {a e : Nat}, (mFldB T m s).why = e → (mFldB T m s).bad = a → e ≠ 0 →
     ((mFin T (if (mFldB T m s).why ≠ 0 then (true, mFldB T m s) else mFldL T rec m g (mFldC T rec m s))).why = e ∧ (mFin T (if (mFldB T m s).why ≠ 0 then (true, mFldB T m s) else mFldL T rec m g (mFldC T rec m s))).bad = a ∧ e ≠ 0) := by
    intro a e h1 h2 h3
    rw [if_pos (by rw [h1]; exact h3)]
    exact ⟨h1, h2, h3⟩
   cases hn : pNm t.tt with
   | false =>
    rw [if_pos rfl]
    obtain ⟨h1, h2⟩ := mNm_no (T := T) (s := s) (by rw [← ht]; exact hn) h0
    have h3 : (mNm T s).why ≠ 0 := by rw [h1]; decide
    obtain ⟨k1, k2, _⟩ := fldB_stuck (T := T) (s := s) (m := m) (a := t.at_) (e := 4) (by unfold mFldA; rw [mBad_stuck _ _ h3, mOn_stuck h3]; exact h1) (by unfold mFldA; rw [mBad_stuck _ _ h3, mOn_stuck h3, h2, ht]) (by decide)
    exact stop k1 k2 (by decide)
   | true =>
    rw [if_neg (by simp)]
    have hnm : mNm T s = s := mNm_yes (by rw [← ht]; exact hn)
    cases hc : fs.any (fun y => y.name == t.s) with
    | true =>
     rw [if_pos rfl]
     have h1 : (mFldA T m s).why = 6 ∧ (mFldA T m s).bad = t.at_ := by
      unfold mFldA
      rw [hnm, hfl, ← ht, hc, mBad_yes _ h0, mOn_stuck (by simp)]
      exact ⟨rfl, by rw [ht]⟩
     obtain ⟨k1, k2, _⟩ := fldB_stuck h1.1 h1.2 (by decide)
     exact stop k1 k2 (by decide)
    | false =>
     rw [if_neg (by simp)]
     have hmo := hT.more hl (by rw [← ht, pNm_zero hn]; decide)
     have hA : mFldA T m s = { s with at_ := s.at_ + 1 } := by
      unfold mFldA
      rw [hnm, hfl, ← ht, hc, mBad_no, mOn_more h0 hmo]
     have hH := has_rel (T := T) (s := s) (m := m) hT (by rw [hA]; exact h0) (by rw [hA]; exact hmo)
     have e1 : (mFldA T m s).at_ = s.at_ + 1 := by rw [hA]
     have e0 : (mFldA T m s).N = s.N := by rw [hA]
     rw [e1, e0] at hH
     cases hhas : eHas (T.drop (s.at_ + 1)) with
     | error p =>
      obtain ⟨a, e⟩ := p
      rw [hhas] at hH
      exact stop hH.1 hH.2.1 hH.2.2
     | ok p =>
      obtain ⟨h, r1⟩ := p
      rw [hhas] at hH
      obtain ⟨b1, b2, b3, b4, b5, b6⟩ := hH
      rw [if_neg (by simp [b1])]
      simp only
      have hR := hr (mFldB T m s) (N0 ++ { Nd.of 11 with name := nm } :: mid) b1 b2 (by omega) (by
       rw [b6, hs]
       refine hN.app ?_
       show kn _ :: _ = kn _ :: _
       rfl)
      rw [b3] at hR
      cases he : rec' r1 (N0 ++ { Nd.of 11 with name := nm } :: mid) with
      | error p =>
       obtain ⟨a, e⟩ := p
       rw [he] at hR
       obtain ⟨h1, h2, h3⟩ := hR
       have e2 : (rec (mFldB T m s)).2.why ≠ 0 := by rw [h1]; exact h3
       have c1 : (mFldC T rec m s).why = e := by unfold mFldC; rw [mSg_stuck _ e2]; exact h1
       have c2 : (mFldC T rec m s).bad = a := by unfold mFldC; rw [mSg_stuck _ e2]; exact h2
       have c3 : (mFldC T rec m s).why ≠ 0 := by rw [c1]; exact h3
       cases g with
       | zero => exact ⟨c1, c2, h3⟩
       | succ g =>
        rw [mFldL, if_pos (.inl c3)]
        show (mSg T [125] _).why = _ ∧ (mSg T [125] _).bad = _ ∧ _
        rw [mSg_stuck _ c3]
        exact ⟨c1, c2, h3⟩
      | ok p =>
       obtain ⟨x, ts, N1⟩ := p
       rw [he] at hR
       obtain ⟨h1, h2, h3, h4, h5, new, h6, h7⟩ := hR
       rw [tok_drop h3] at h4
       cases ts with
       | nil => cases h4
       | cons u r2 =>
        injection h4 with h4a h4b
        simp only
        have hN7 : (rec (mFldB T m s)).2.N = S ++ { Nd.of 11 with name := nm, fields := fs } :: (mid ++ new) := by rw [h7, b6, hs, List.append_assoc, List.cons_append]
        have h6' : N1 = N0 ++ { Nd.of 11 with name := nm } :: (mid ++ new) := by rw [h6, List.append_assoc, List.cons_append]
        by_cases hu : u.k = 2 ∧ u.s = [59]
        ·rw [if_pos hu]
         obtain ⟨q1, q2⟩ := mSg_yes (s := (rec (mFldB T m s)).2) hT h2 h3 (x := [59]) (by rw [h4a]; exact hu)
         have hC : mFldC T rec m s = { (rec (mFldB T m s)).2 with at_ := (rec (mFldB T m s)).2.at_ + 1, N := S ++ { Nd.of 11 with name := nm, fields := fs ++ [⟨t.s, x, h⟩] } :: (mid ++ new) } := by
          unfold mFldC
          rw [q1, h1, b5, ← ht]
          unfold St.mod
          simp only [hN7, mod_at _ hm]
         have := flds_rel hT hr hm hN nm g g' (fs ++ [⟨t.s, x, h⟩]) (mid ++ new) (mFldC T rec m s) (by rw [hC]) (by rw [hC]; exact h2) (by rw [hC]; exact q2) (by rw [hC]; simp only; omega) (by rw [hC]; simp only; omega) (by rw [hC]; simp only; omega)
         have ed : T.drop (mFldC T rec m s).at_ = r2 := by rw [hC]; exact h4b
         have ea : s.at_ < (mFldC T rec m s).at_ := by rw [hC]; simp only; omega
         rw [ed, ← h6'] at this
         revert this
         cases eFields rec' g' (fs ++ [⟨t.s, x, h⟩]) r2 N1 with
         | error p => exact id
         | ok p =>
          obtain ⟨fs', rest, N2⟩ := p
          rintro ⟨j1, j2, j3, j4, j5⟩
          exact ⟨j1, j2, j3, by omega, j5⟩
        ·rw [if_neg hu]
         obtain ⟨q1, q2⟩ := mSg_no (T := T) (s := (rec (mFldB T m s)).2) h2 (x := [59]) (by rw [h4a]; exact hu)
         have c1 : (mFldC T rec m s).why = 4 := q1
         have c2 : (mFldC T rec m s).bad = u.at_ := by rw [← h4a]; exact q2
         have c3 : (mFldC T rec m s).why ≠ 0 := by rw [c1]; decide
         cases g with
         | zero => exact ⟨c1, c2, by decide⟩
         | succ g =>
          rw [mFldL, if_pos (.inl c3)]
          show (mSg T [125] _).why = _ ∧ (mSg T [125] _).bad = _ ∧ _
          rw [mSg_stuck _ c3]
          exact ⟨c1, c2, by decide⟩
end
section
variable {T : List Tok} {s : St}
theorem fix_stuck {m : Nat} (h : s.why ≠ 0) : (mFix T m s).why = s.why ∧ (mFix T m s).bad = s.bad := by
 unfold mFix
 rw [mBad_stuck _ _ h, mOn_stuck (by exact h)]
 exact ⟨rfl, rfl⟩
theorem flds_stuck {rec : MRd} {m : Nat} (h : s.why ≠ 0) : mFlds T rec m s = s := by
 have e : mFldL T rec m (T.length + 1) s = (false, s) := by rw [mFldL, if_pos (.inl h)]
 unfold mFlds
 rw [mSg_stuck _ h, e]
 exact mSg_stuck _ h
theorem def_stuck {rec : MRd} {m : Nat} {k : Int} {a e : Nat} (h1 : (mDefA T m s).why = e) (h2 : (mDefA T m s).bad = a) (h3 : e ≠ 0) : (mDef T rec m k s).why = e ∧ (mDef T rec m k s).bad = a := by
 have h4 : (mDefA T m s).why ≠ 0 := by rw [h1]; exact h3
 unfold mDef
 split
 ·have := fix_stuck (T := T) (m := m) h4
  rw [this.1, this.2]; exact ⟨h1, h2⟩
 ·split
  ·rw [flds_stuck h4]; exact ⟨h1, h2⟩
  ·rw [mSg_stuck _ h4, mSyms, if_pos h4]; exact ⟨h1, h2⟩
theorem called_snoc {S : List Nd} {x : Nd} {y : List UInt8} (h : x.name ≠ y) : (pCalled (S ++ [x]) y).isSome = (pCalled S y).isSome := by
 unfold pCalled
 rw [List.findIdx?_isSome, List.findIdx?_isSome, List.any_append]
 have : (x.name == y) = false := by rw [beq_eq_false_iff_ne]; exact h
 simp [this]
theorem named_rel (hT : TOk T) {F : Nat} {rec : MRd} {rec' : ERd} (hr : RdRel T F rec rec') {S N0 : List Nd} {m k f : Nat} (hm : S.length = m) (hN : NE S N0) (hk : 9 ≤ k ∧ k < 12) (hs : s.N = S ++ [Nd.of k]) (h0 : s.why = 0) (hl : s.at_ < T.length)
  (hF : T.length - s.at_ < F) (hf : T.length - s.at_ < f) : Rel T { s with N := S } N0 (m, mDef T rec m (k : Int) s) (eNamed rec' f k (T.drop s.at_) N0) := by
 have hm0 : N0.length = m := by rw [← hN.len]; exact hm
 rw [tok_drop hl]
 unfold eNamed
 simp only
 obtain ⟨t, ht⟩ : ∃ t, t = tokAt T s.at_ := ⟨_, rfl⟩
 rw [← ht]
 cases hn : pNm t.tt with
 | false =>
  rw [if_pos rfl]
  obtain ⟨h1, h2⟩ := mNm_no (T := T) (s := s) (by rw [← ht]; exact hn) h0
  have h3 : (mNm T s).why ≠ 0 := by rw [h1]; decide
  obtain ⟨k1, k2⟩ := def_stuck (T := T) (s := s) (rec := rec) (m := m) (k := (k : Int)) (a := t.at_) (e := 4) (by unfold mDefA; rw [mBad_stuck _ _ h3, mOn_stuck (by exact h3)]; exact h1)
   (by unfold mDefA; rw [mBad_stuck _ _ h3, mOn_stuck (by exact h3)]; show (mNm T s).bad = _; rw [h2, ht]) (by decide)
  exact rel_err k1 k2 (by decide)
 | true =>
  rw [if_neg (by simp)]
  have hnm : mNm T s = s := mNm_yes (by rw [← ht]; exact hn)
  have hcall : (pCalled s.N t.s).isSome = (pCalled N0 t.s).isSome := by
   rw [hs, called_snoc (by intro e; exact pNm_ne hn e.symm), hN.called]
  cases hc : (pCalled N0 t.s).isSome with
  | true =>
   rw [if_pos rfl]
   have h1 : (mDefA T m s).why = 6 ∧ (mDefA T m s).bad = t.at_ := by
    unfold mDefA
    rw [hnm, ← ht, hcall, hc, mBad_yes _ h0, mOn_stuck (by simp [St.mod])]
    exact ⟨rfl, by rw [ht]; rfl⟩
   obtain ⟨k1, k2⟩ := def_stuck (rec := rec) (k := (k : Int)) h1.1 h1.2 (by decide)
   exact rel_err k1 k2 (by decide)
  | false =>
   rw [if_neg (by simp)]
   have hmo := hT.more hl (by rw [← ht, pNm_zero hn]; decide)
   have hA : mDefA T m s = { s with at_ := s.at_ + 1, N := S ++ [{ Nd.of k with name := t.s }] } := by
    unfold mDefA
    rw [hnm, ← ht, hcall, hc, mBad_no, mOn_more (by exact h0) (by exact hmo)]
    unfold St.mod
    simp only [hs, mod_at _ hm]
   rw [tok_drop hmo]
   simp only
   obtain ⟨b, hb⟩ : ∃ b, b = tokAt T (s.at_ + 1) := ⟨_, rfl⟩
   rw [← hb]
   obtain ⟨s1, hs1⟩ : ∃ s1, s1 = mDefA T m s := ⟨_, rfl⟩
   have e1 : s1.why = 0 := by rw [hs1, hA]; exact h0
   have e2 : s1.at_ = s.at_ + 1 := by rw [hs1, hA]
   have e3 : s1.N = S ++ [{ Nd.of k with name := t.s }] := by rw [hs1, hA]
   have hl1 : s1.at_ < T.length := by rw [e2]; exact hmo
   unfold mDef
   rw [← hs1]
   by_cases hk10 : k = 10
   ·subst hk10
    rw [if_pos rfl, if_pos (show ((10 : Nat) : Int) = 10 from rfl)]
    unfold mFix
    rw [e2, ← hb]
    by_cases hok : b.k = 1 ∧ wOk b.s = true
    ·rw [if_pos hok]
     have hd : (decide (b.k = 1) && wOk b.s) = true := by simp [hok.1, hok.2]
     have hmo2 := hT.more hl1 (by rw [e2, ← hb]; omega)
     rw [hd, Bool.not_true, mBad_no, mOn_more (by exact e1) (by exact hmo2), if_pos hok.2]
     refine ⟨hm0.symm, e1, hmo2, by show T.drop (s1.at_ + 1) = _; rw [e2], by show s.at_ < s1.at_ + 1; omega, [{ Nd.of 10 with name := t.s, size := wNumAt b.s }], rfl, ?_⟩
     show s1.N.modify m _ = _
     rw [e3, mod_at _ hm]
    ·rw [if_neg hok]
     have hd : (decide (b.k = 1) && wOk b.s) = false := by
      cases hh : (decide (b.k = 1) && wOk b.s) with
      | false => rfl
      | true => exact absurd (by simpa using hh) hok
     rw [hd, Bool.not_false, mBad_yes _ e1, mOn_stuck (by simp [St.mod])]
     exact rel_err rfl (by show (tokAt T s1.at_).at_ = _; rw [e2, hb]) (by decide)
   ·rw [if_neg hk10, if_neg (show ¬((k : Int) = 10) by omega)]
    by_cases hk9 : k = 9
    ·subst hk9
     rw [if_pos rfl, if_neg (show ¬(((9 : Nat) : Int) = 11) by decide)]
     by_cases hu : b.k = 2 ∧ b.s = [60]
     ·rw [if_pos hu]
      obtain ⟨q1, q2⟩ := mSg_yes (s := s1) hT e1 hl1 (x := [60]) (by rw [e2, ← hb]; exact hu)
      rw [q1]
      have := syms_rel hT hm t.s (T.length + 1) f [] { s1 with at_ := s1.at_ + 1 } e3 e1 q2 (by simp only; omega) (by simp only; omega)
      have ed : T.drop (s1.at_ + 1) = T.drop (s.at_ + 1 + 1) := by rw [e2]
      simp only [ed] at this
      revert this
      cases eSyms f [] (T.drop (s.at_ + 1 + 1)) with
      | error p =>
       obtain ⟨a, e⟩ := p
       rintro ⟨j1, j2, j3⟩
       exact rel_err j1 j2 j3
      | ok p =>
       obtain ⟨ys', rest⟩ := p
       rintro ⟨j1, j2, j3, j4, j5⟩
       exact ⟨hm0.symm, j1, j2, j3, Nat.lt_trans (show s.at_ < s1.at_ + 1 by omega) j4, [{ Nd.of 9 with name := t.s, syms := ys' }], rfl, j5⟩
     ·rw [if_neg hu]
      obtain ⟨q1, q2⟩ := mSg_no (T := T) (s := s1) e1 (x := [60]) (by rw [e2, ← hb]; exact hu)
      have q3 : (mSg T [60] s1).why ≠ 0 := by rw [q1]; decide
      rw [mSyms, if_pos q3]
      exact rel_err q1 (by rw [q2, e2, hb]) (by decide)
    ·obtain rfl : k = 11 := by omega
     rw [if_neg (show ¬((11 : Nat) = 9) by decide), if_pos (show ((11 : Nat) : Int) = 11 from rfl)]
     unfold mFlds
     by_cases hu : b.k = 2 ∧ b.s = [123]
     ·rw [if_pos hu]
      obtain ⟨q1, q2⟩ := mSg_yes (s := s1) hT e1 hl1 (x := [123]) (by rw [e2, ← hb]; exact hu)
      rw [q1]
      have := flds_rel hT hr hm hN t.s (T.length + 1) f [] [] { s1 with at_ := s1.at_ + 1 } e3 e1 q2 (by simp only; omega) (by simp only; omega) (by simp only; omega)
      have ed : T.drop (s1.at_ + 1) = T.drop (s.at_ + 1 + 1) := by rw [e2]
      simp only [ed] at this
      unfold mFin at this
      revert this
      cases eFields rec' f [] (T.drop (s.at_ + 1 + 1)) (N0 ++ [{ Nd.of 11 with name := t.s }]) with
      | error p =>
       obtain ⟨a, e⟩ := p
       rintro ⟨j1, j2, j3⟩
       exact rel_err j1 j2 j3
      | ok p =>
       obtain ⟨fs', rest, N1⟩ := p
       rintro ⟨j1, j2, j3, j4, mid', j5, j6⟩
       refine ⟨hm0.symm, j1, j2, j3, Nat.lt_trans (show s.at_ < s1.at_ + 1 by omega) j4, { Nd.of 11 with name := t.s, fields := fs' } :: mid', ?_, j6⟩
       rw [j5]
       exact mod_at _ rfl
     ·rw [if_neg hu]
      obtain ⟨q1, q2⟩ := mSg_no (T := T) (s := s1) e1 (x := [123]) (by rw [e2, ← hb]; exact hu)
      have q3 : (mSg T [123] s1).why ≠ 0 := by rw [q1]; decide
      have e : mFldL T rec m (T.length + 1) (mSg T [123] s1) = (false, mSg T [123] s1) := by rw [mFldL, if_pos (.inl q3)]
      rw [e]
      show Rel _ _ _ (m, mSg T [125] (mSg T [123] s1)) _
      rw [mSg_stuck _ q3]
      exact rel_err q1 (by rw [q2, e2, hb]) (by decide)
theorem stk2 {a1 a2 : Bool} {e1 e2 : Nat} (h : s.why ≠ 0) : mBad T a1 e1 (mBad T a2 e2 s) = s := by rw [mBad_stuck (s := s) _ _ h, mBad_stuck _ _ h]
theorem stk3 {a1 a2 a3 : Bool} {e1 e2 e3 : Nat} (h : s.why ≠ 0) : mBad T a1 e1 (mBad T a2 e2 (mBad T a3 e3 s)) = s := by rw [mBad_stuck (s := s) _ _ h, mBad_stuck (s := s) _ _ h, mBad_stuck _ _ h]
theorem same_name (N : List Nd) (un : Option (List Nat)) (n : Nat) : (un.isSome && (mSame N (un.getD []) (-1) (n : Int) && (decide ((0 : Int) ≤ -1) || decide ((0 : Int) ≤ n)))) = (un.getD []).contains n := by
 cases un with
 | none => rfl
 | some l =>
  show (true && (mSame N l (-1) n && _)) = l.contains n
  have h1 : (decide ((0 : Int) ≤ -1) || decide ((0 : Int) ≤ n)) = true := by simp
  rw [h1, Bool.and_true, Bool.true_and]
  unfold mSame
  induction l with
  | nil => rfl
  | cons i l ih =>
   rw [List.any_cons, ih, List.contains_cons]
   congr 1
   have : (decide ((0 : Int) ≤ -1) && decide ((-1 : Int) < 9) && decide (kindAt N i = some (-1 : Int).toNat)) = false := rfl
   rw [this, Bool.or_false]
   by_cases h : i = n
   ·subst h; simp
   ·have h2 : (n == i) = false := by rw [beq_eq_false_iff_ne]; exact Ne.symm h
    rw [h2]
    exact decide_eq_false (by omega)
theorem same_kind {S N : List Nd} (hN : NE S N) (un : Option (List Nat)) (k : Nat) : (un.isSome && (mSame S (un.getD []) (k : Int) (-1) && (decide ((0 : Int) ≤ k) || decide ((0 : Int) ≤ -1)))) = eSame un N k := by
 cases un with
 | none => rfl
 | some l =>
  show (true && (mSame S l k (-1) && _)) = (true && (decide (k < 9) && l.any _))
  have h1 : (decide ((0 : Int) ≤ k) || decide ((0 : Int) ≤ -1)) = true := by simp
  rw [h1, Bool.and_true, Bool.true_and, Bool.true_and]
  unfold mSame
  induction l with
  | nil => simp
  | cons i l ih =>
   rw [List.any_cons, List.any_cons, ih, Bool.and_or_distrib_left]
   congr 1
   have e1 : decide ((i : Int) = -1) = false := decide_eq_false (by omega)
   have e2 : decide ((0 : Int) ≤ k) = true := decide_eq_true (by omega)
   have e3 : decide ((k : Int) < 9) = decide (k < 9) := decide_eq_decide.2 (by omega)
   have e4 : decide (kindAt S i = some (k : Int).toNat) = (kindAt N i == some k) := by
    rw [hN.kind, Int.toNat_natCast]
    by_cases h : kindAt N i = some k
    ·rw [h]; simp
    ·rw [decide_eq_false h]; symm; rw [beq_eq_false_iff_ne]; exact h
   rw [e1, e2, e3, e4, Bool.false_or, Bool.true_and]
theorem type_rel (hT : TOk T) : ∀ (f deep : Nat), deep + f = 20 → ∀ (F : Nat) (un : Option (List Nat)), RdRel T F (mTyped T (f + 1) deep un) (eType F deep un) := by
 intro f
 induction f with
 | zero =>
  intro deep hd F un s N h0 hl hF hN
  obtain ⟨F, rfl⟩ : ∃ F', F = F' + 1 := ⟨F - 1, by omega⟩
  obtain rfl : deep = 20 := by omega
  rw [tok_drop hl, eType, mTyped]
  have hkn := kNo_kind hT hl
  obtain ⟨t, ht⟩ : ∃ t, t = tokAt T s.at_ := ⟨_, rfl⟩
  rw [← ht] at hkn ⊢
  unfold eStep
  cases hp : pKind t.tt with
  | none =>
   rw [hp] at hkn
   simp only at hkn
   simp only
   rw [hkn]
   cases hn : pNm t.tt with
   | false =>
    obtain ⟨h1, h2⟩ := mNm_no (T := T) (s := s) (by rw [← ht]; exact hn) h0
    have h3 : (mNm T s).why ≠ 0 := by rw [h1]; decide
    have hP : ∀ n, mPre T 20 un (-1) n s = mNm T s := by
     intro n; unfold mPre; rw [if_pos (by decide), mBad_stuck _ _ h3, mBad_stuck _ _ h3, mBad_stuck _ _ h3, mBad_stuck _ _ h3]
    rw [hP, if_pos h3, if_pos rfl]
    exact rel_err h1 (by rw [h2, ht]) (by decide)
   | true =>
    have hnm : mNm T s = s := mNm_yes (by rw [← ht]; exact hn)
    have hP : ∀ n, mPre T 20 un (-1) n s = { s with why := 2, bad := t.at_ } := by
     intro n; unfold mPre
     rw [if_pos (by decide), hnm, show mLong 20 (-1) s = true from rfl, mBad_yes _ h0, stk3 (by simp), ht]
    rw [hP, if_pos (by simp), if_neg (by simp), if_pos (by decide)]
    exact rel_err rfl rfl (by decide)
  | some k =>
   rw [hp] at hkn
   simp only at hkn
   simp only
   rw [hkn]
   have hP : ∀ n, mPre T 20 un (k : Int) n s = { s with why := 2, bad := t.at_ } := by
    intro n; unfold mPre
    rw [if_neg (by omega), show mLong 20 (k : Int) s = true from rfl, mBad_yes _ h0, stk3 (by simp), ht]
   rw [hP, if_pos (by simp), if_pos (.inl (by decide))]
   exact rel_err rfl rfl (by decide)
 | succ f ih =>
  intro deep hd F un s N h0 hl hF hN
  obtain ⟨F, rfl⟩ : ∃ F', F = F' + 1 := ⟨F - 1, by omega⟩
  have hdeep : ¬20 ≤ deep := by omega
  have hrec : ∀ u, RdRel T F (mTyped T (f + 1) (deep + 1) u) (eType F (deep + 1) u) := fun u => ih (deep + 1) (by omega) F u
  rw [tok_drop hl, eType, mTyped]
  have hkn := kNo_kind hT hl
  obtain ⟨t, ht⟩ : ∃ t, t = tokAt T s.at_ := ⟨_, rfl⟩
  rw [← ht] at hkn ⊢
  unfold eStep
  cases hp : pKind t.tt with
  | none =>
   rw [hp] at hkn
   simp only at hkn
   simp only
   rw [hkn]
   cases hn : pNm t.tt with
   | false =>
    obtain ⟨h1, h2⟩ := mNm_no (T := T) (s := s) (by rw [← ht]; exact hn) h0
    have h3 : (mNm T s).why ≠ 0 := by rw [h1]; decide
    have hP : ∀ n, mPre T deep un (-1) n s = mNm T s := by
     intro n; unfold mPre; rw [if_pos (by decide), mBad_stuck _ _ h3, mBad_stuck _ _ h3, mBad_stuck _ _ h3, mBad_stuck _ _ h3]
    rw [hP, if_pos h3, if_pos rfl]
    exact rel_err h1 (by rw [h2, ht]) (by decide)
   | true =>
    have hnm : mNm T s = s := mNm_yes (by rw [← ht]; exact hn)
    have hlong : mLong deep (-1) s = false := by unfold mLong; rw [decide_eq_false hdeep]; rfl
    rw [if_neg (show ¬(true = false) by simp), if_neg hdeep]
    have hme : mName t s (-1) = calledI N t.s := by
     unfold mName calledI; rw [if_pos (by decide), hN.called]
    unfold calledI at hme
    cases hc : pCalled N t.s with
    | none =>
     rw [hc] at hme
     simp only at hme
     have hP : mPre T deep un (-1) (-1) s = { s with why := 5, bad := t.at_ } := by
      unfold mPre
      rw [if_pos (by decide), hnm, hlong, mBad_no, show (decide ((-1 : Int) < 0) && decide ((-1 : Int) < 0)) = true from rfl, mBad_yes _ h0, stk2 (by simp), ht]
     rw [hme, hP, if_pos (by simp)]
     exact rel_err rfl rfl (by decide)
    | some n =>
     rw [hc] at hme
     simp only at hme
     have hP : mPre T deep un (-1) (n : Int) s = mBad T ((un.getD []).contains n) 6 s := by
      unfold mPre
      rw [if_pos (by decide), hnm, hlong, mBad_no, show (decide ((-1 : Int) < 0) && decide ((n : Int) < 0)) = false by rw [decide_eq_false (p := (n : Int) < 0) (by omega)]; rfl, mBad_no, show (un.isSome && decide ((-1 : Int) = 8)) = false by rw [decide_eq_false (p := (-1 : Int) = 8) (by decide), Bool.and_false], mBad_no, same_name]
     rw [hme, hP]
     simp only
     cases hq : (un.getD []).contains n with
     | true =>
      rw [mBad_yes _ h0, if_pos (by simp), if_pos rfl]
      exact rel_err rfl (by rw [ht]) (by decide)
     | false =>
      have hmo := hT.more hl (by rw [← ht, pNm_zero hn]; decide)
      rw [mBad_no, if_neg (by simp [h0]), if_pos (by decide), if_neg (by simp), mOn_more h0 hmo]
      exact ⟨rfl, h0, hmo, rfl, Nat.lt_succ_self _, [], by simp, by simp⟩
  | some k =>
   rw [hp] at hkn
   simp only at hkn
   simp only
   have hk12 := pKind_some hp
   have hname : mName t s (k : Int) = -1 := by unfold mName; rw [if_neg (by omega)]
   rw [hkn, hname]
   by_cases h200 : 200 ≤ N.length
   ·have hlong : mLong deep (k : Int) s = true := by unfold mLong; rw [decide_eq_true (p := (0 : Int) ≤ k) (by omega), decide_eq_true (p := 200 ≤ s.N.length) (by rw [hN.len]; exact h200)]; simp
    have hP : mPre T deep un (k : Int) (-1) s = { s with why := 2, bad := t.at_ } := by
     unfold mPre
     rw [if_neg (by omega), hlong, mBad_yes _ h0, stk3 (by simp), ht]
    rw [hP, if_pos (by simp), if_pos (.inr h200)]
    exact rel_err rfl rfl (by decide)
   ·have hlong : mLong deep (k : Int) s = false := by unfold mLong; rw [decide_eq_false hdeep, decide_eq_false (p := 200 ≤ s.N.length) (by rw [hN.len]; exact h200)]; simp
    rw [if_neg (show ¬(20 ≤ deep ∨ 200 ≤ N.length) by omega)]
    have hP : mPre T deep un (k : Int) (-1) s = mBad T (eSame un N k) 6 (mBad T (un.isSome && decide (k = 8)) 4 s) := by
     unfold mPre
     rw [if_neg (by omega), hlong, mBad_no, show (decide ((k : Int) < 0) && decide ((-1 : Int) < 0)) = false by rw [decide_eq_false (p := (k : Int) < 0) (by omega)]; rfl, mBad_no, same_kind hN, decide_eq_decide.2 (show (k : Int) = 8 ↔ k = 8 by omega)]
    rw [hP]
    by_cases h8 : un.isSome = true ∧ k = 8
    ·have e8 : (un.isSome && decide (k = 8)) = true := by rw [h8.1, decide_eq_true h8.2]; rfl
     rw [e8, mBad_yes _ h0, mBad_stuck _ _ (by simp), if_pos (by simp), if_pos h8]
     exact rel_err rfl (by rw [ht]) (by decide)
    ·have e8 : (un.isSome && decide (k = 8)) = false := by
      cases hh : (un.isSome && decide (k = 8)) with
      | false => rfl
      | true => exact absurd (by simpa using hh) h8
     rw [e8, mBad_no, if_neg h8]
     cases hsm : eSame un N k with
     | true =>
      rw [mBad_yes _ h0, if_pos (by simp), if_pos rfl]
      exact rel_err rfl (by rw [ht]) (by decide)
     | false =>
      have hk3 : t.k ≠ 3 := by
       rcases hk12.2 with ⟨_, e⟩ | ⟨_, e⟩
       ·have := congrArg Prod.fst e; rw [show t.tt.1 = t.k from rfl] at this; simp only at this; omega
       ·have := congrArg Prod.fst e; rw [show t.tt.1 = t.k from rfl] at this; simp only at this; omega
      have hmo := hT.more hl (by rw [← ht]; exact hk3)
      rw [mBad_no, if_neg (by simp [h0]), if_neg (by omega), if_neg (by simp), mOn_more h0 hmo]
      obtain ⟨s1, hs1⟩ : ∃ s1 : St, s1 = { s with at_ := s.at_ + 1, N := s.N ++ [Nd.of k] } := ⟨_, rfl⟩
      have e1 : s1.why = 0 := by rw [hs1]; exact h0
      have e2 : s1.at_ = s.at_ + 1 := by rw [hs1]
      have e3 : s1.N = s.N ++ [Nd.of k] := by rw [hs1]
      have hl1 : s1.at_ < T.length := by rw [e2]; exact hmo
      have hF1 : T.length - s1.at_ < F := by omega
      have lift : ∀ {x : Nat × St} {e : EO}, Rel T { s1 with N := s.N } N x e → Rel T s N x e := by
       intro x e h
       cases e with
       | error p => exact h
       | ok p =>
        obtain ⟨n, rest, N'⟩ := p
        obtain ⟨j1, j2, j3, j4, j5, j6⟩ := h
        exact ⟨j1, j2, j3, j4, by have : s1.at_ < x.2.at_ := j5; omega, j6⟩
      unfold mBody
      simp only [Int.toNat_natCast]
      have hNl := hN.len
      by_cases h6 : k < 6
      ·rw [if_pos h6, if_pos (show (k : Int) < 6 by omega)]
       exact ⟨hNl, h0, hmo, rfl, Nat.lt_succ_self _, [Nd.of k], rfl, rfl⟩
      rw [if_neg h6, if_neg (show ¬((k : Int) < 6) by omega)]
      by_cases hk6 : k = 6
      ·subst hk6
       rw [if_pos rfl, if_pos (show ((6 : Nat) : Int) = 6 from rfl)]
       have := one_rel (s := s1) hT (hrec none) (shut := [93]) (m := s.N.length) rfl hN e3 e1 hl1 hF1
       rw [hs1] at this
       rw [← hNl]
       rw [hs1] at lift
       exact lift this
      rw [if_neg hk6, if_neg (show ¬((k : Int) = 6) by omega)]
      by_cases hk7 : k = 7
      ·subst hk7
       rw [if_pos rfl, if_pos (show ((7 : Nat) : Int) = 7 from rfl)]
       have := one_rel (s := s1) hT (hrec none) (shut := [125]) (m := s.N.length) rfl hN e3 e1 hl1 hF1
       rw [hs1] at this
       rw [← hNl]
       rw [hs1] at lift
       exact lift this
      rw [if_neg hk7, if_neg (show ¬((k : Int) = 7) by omega)]
      by_cases hk8 : k = 8
      ·subst hk8
       rw [if_pos rfl, if_pos (show ((8 : Nat) : Int) = 8 from rfl)]
       have := all_rel (S := s.N) (N0 := N) hT (fun u => hrec (some u)) rfl hN (T.length + 1) F [] [] s1 e3 e1 hl1 hF1 (by omega) hF1
       rw [e2] at this
       rw [← hs1]
       revert this
       cases eAllW (fun its => eType F (deep + 1) (some its)) F [] (T.drop (s.at_ + 1)) (N ++ [Nd.of 8]) with
       | error p =>
        obtain ⟨a, e⟩ := p
        rintro ⟨j1, j2, j3⟩
        exact rel_err j1 j2 j3
       | ok p =>
        obtain ⟨its', rest, N1⟩ := p
        rintro ⟨j1, j2, j3, j4, mid', j5, j6⟩
        refine ⟨hNl, j1, j2, j3, Nat.lt_trans (show s.at_ < s1.at_ by omega) (e2 ▸ j4), { Nd.of 8 with items := its' } :: mid', ?_, j6⟩
        rw [j5]
        exact mod_at _ rfl
      ·rw [if_neg hk8, if_neg (show ¬((k : Int) = 8) by omega)]
       have := named_rel (s := s1) (f := F) hT (hrec none) (m := s.N.length) rfl hN (k := k) ⟨by omega, hk12.1⟩ e3 e1 hl1 hF1 hF1
       rw [hs1] at this
       rw [hs1] at lift
       exact lift this
end
theorem read_rel {l : List UInt8} {T : List Tok} (h : wWords l = .ok T) : match eRead l with
  | .ok N => (mParse T).why = 0 ∧ (mParse T).N = N
  | .error (a, e) => (mParse T).why = e ∧ (mParse T).bad = a ∧ e ≠ 0 := by
 obtain ⟨ts, e1, e2, _⟩ := wWords_text h
 have hT : TOk T := ⟨ts, e1, e2⟩
 have hw : T.length ≤ 1500 := by have hl := (wWords_ord h).1; unfold wWords at h; rw [if_neg (by omega)] at h; have := wGo_few _ _ _ _ _ h (by omega); omega
 have hR := type_rel hT 20 0 rfl 2000 none ⟨0, [], 0, 0⟩ [] rfl hT.pos (by show T.length - 0 < 2000; omega) (NE.refl _)
 unfold eRead mParse
 rw [h]
 simp only
 rw [show T.drop (⟨0, [], 0, 0⟩ : St).at_ = T from rfl] at hR
 revert hR
 cases eType 2000 0 none T [] with
 | error p =>
  obtain ⟨a, e⟩ := p
  rintro ⟨j1, j2, j3⟩
  rw [mBad_stuck _ _ (by rw [j1]; exact j3)]
  exact ⟨j1, j2, j3⟩
 | ok p =>
  obtain ⟨n, rest, N'⟩ := p
  rintro ⟨j1, j2, j3, j4, j5, new, j6, j7⟩
  rw [tok_drop j3] at j4
  cases rest with
  | nil => cases j4
  | cons u r =>
   injection j4 with j4a j4b
   simp only
   rw [j4a]
   by_cases hk : u.k = 3
   ·rw [if_pos hk, decide_eq_false (by simp [hk]), mBad_no]
    exact ⟨j2, by rw [j7, j6]⟩
   ·rw [if_neg hk, decide_eq_true hk, mBad_yes _ j2]
    exact ⟨rfl, by rw [← j4a], by decide⟩
theorem wSign_cases {c : UInt8} (h : wSign c = true) : wLow c = false ∧ wNum c = false ∧ wKind c = 2 := by
 obtain ⟨_, h2, h3⟩ := sign_no h
 exact ⟨h3, h2, by unfold wKind; rw [h3, h2]; rfl⟩
def keyW (s : List UInt8) : Bool := wName s && (pWord s).isSome
theorem kwText_name : ∀ k : Nat, k < 12 → wName (kwText k) = decide (k < 6 ∨ 8 < k) := by decide
section
variable {T : List Tok}
theorem TOk.wf (h : TOk T) {i : Nat} (hi : i < T.length) : Wf (tokAt T i).tt ∨ (tokAt T i).tt = (3, []) := (h.at_ hi).imp (·.2) (·.2)
theorem tk_sign (h : TOk T) {i : Nat} (hi : i < T.length) {c : UInt8} (hc : wSign c = true) (hs : (tokAt T i).s = [c]) : (tokAt T i).k = 2 := by
 rcases h.wf hi with ⟨d, w, h1, _, h3, _⟩ | h1
 ·rw [tt_snd, hs] at h1
  injection h1 with h1 h1b
  subst h1
  exact h3.trans (wSign_cases hc).2.2
 ·have := congrArg Prod.snd h1
  rw [tt_snd, hs] at this
  cases this
theorem tk_name (h : TOk T) {i : Nat} (hi : i < T.length) (hs : wName (tokAt T i).s = true) : (tokAt T i).k = 0 := by
 rcases h.wf hi with ⟨d, w, h1, _, h3, _⟩ | h1
 ·rw [tt_snd] at h1
  rw [h1] at hs
  have hl : wLow d = true := by
   unfold wName at hs
   simp only [Bool.and_eq_true] at hs
   exact hs.1.2
  rw [tt_fst] at h3
  rw [h3]; unfold wKind; rw [if_pos hl]
 ·have := congrArg Prod.snd h1
  rw [tt_snd] at this
  rw [this] at hs
  cases hs
theorem tk_num (h : TOk T) {i : Nat} (hi : i < T.length) (hs : wOk (tokAt T i).s = true) : (tokAt T i).k = 1 := by
 rcases h.wf hi with ⟨d, w, h1, _, h3, _⟩ | h1
 ·rw [tt_snd] at h1
  rw [h1] at hs
  have hl : wNum d = true := by
   unfold wOk at hs
   simp only [Bool.and_eq_true, List.all_cons] at hs
   exact hs.1.1.2.1
  have hw : wLow d = false := by
   unfold wLow; unfold wNum at hl
   rw [decide_eq_true_eq] at hl
   exact decide_eq_false (by omega)
  rw [tt_fst] at h3
  rw [h3]; unfold wKind; rw [if_neg (by rw [hw]; decide), if_pos hl]
 ·have := congrArg Prod.snd h1
  rw [tt_snd] at this
  rw [this] at hs
  cases hs
theorem tk_kind (h : TOk T) {i : Nat} (hi : i < T.length) : pKind (tokAt T i).tt = pWord (tokAt T i).s := by
 have hk := kNo_kind h hi
 obtain ⟨t, ht⟩ : ∃ t, t = tokAt T i := ⟨_, rfl⟩
 have hw := h.wf hi
 rw [← ht] at hw hk ⊢
 cases hp : pWord t.s with
 | none => unfold pKind; rw [tt_snd, hp]
 | some k =>
  have h12 := pWord_some hp
  have h2 : t.k = 0 ∨ t.k = 2 := by
   rcases hw with ⟨c, w, hs, _, hkd, _⟩ | h3
   ·rw [tt_snd, h12.2] at hs
    rw [tt_fst] at hkd
    have key : ∀ k : Nat, k < 12 → ∀ c w, kwText k = c :: w → wKind c = 0 ∨ wKind c = 2 := by
     intro k hk
     have : k = 0 ∨ k = 1 ∨ k = 2 ∨ k = 3 ∨ k = 4 ∨ k = 5 ∨ k = 6 ∨ k = 7 ∨ k = 8 ∨ k = 9 ∨ k = 10 ∨ k = 11 := by omega
     rcases this with rfl | rfl | rfl | rfl | rfl | rfl | rfl | rfl | rfl | rfl | rfl | rfl <;>
      (intro c w e; simp only [kwText, kwList, List.getD_cons_zero, List.getD_cons_succ, List.cons.injEq] at e; rw [← e.1]; decide)
    rw [hkd]
    exact key k h12.1 c w hs
   ·have h4 := congrArg Prod.snd h3
    rw [tt_snd] at h4
    have : pWord ([] : List UInt8) = none := by decide
    rw [h4, this] at hp
    cases hp
  unfold kNo wordI at hk
  rw [if_pos h2, hp] at hk
  cases hq : pKind t.tt with
  | none => rw [hq] at hk; simp only at hk; omega
  | some m => rw [hq] at hk; simp only at hk; rw [show k = m by omega]
theorem tk_nm (h : TOk T) {i : Nat} (hi : i < T.length) : pNm (tokAt T i).tt = (wName (tokAt T i).s && !keyW (tokAt T i).s) := by
 unfold pNm keyW
 rw [tt_fst, tt_snd]
 cases hn : wName (tokAt T i).s with
 | false => simp
 | true =>
  rw [tk_name h hi hn]
  cases pWord (tokAt T i).s <;> rfl
theorem tk_end (h : TOk T) {i : Nat} (hi : i < T.length) : (tokAt T i).k = 3 ↔ (tokAt T i).s = [] := by
 rcases h.wf hi with ⟨d, w, h1, _, h3, _⟩ | h1
 ·rw [tt_snd] at h1; rw [tt_fst] at h3
  have := wKind_le d
  constructor
  ·intro e; omega
  ·intro e; rw [h1] at e; cases e
 ·exact ⟨fun _ => congrArg Prod.snd h1, fun _ => congrArg Prod.fst h1⟩
def Alike (S N : List Nd) (a : Nat) (T : List Tok) (e e' : EO) : Prop := match e with
 | .ok (n, ts, S') => ∃ new a', S' = S ++ new ∧ e' = .ok (n, ts, N ++ new) ∧ ts = T.drop a' ∧ a < a' ∧ a' < T.length
 | .error (p, er) => er ≠ 0 ∧ e' = .error (p, er)
theorem type_alike (hT : TOk T) {deep F a : Nat} {un : Option (List Nat)} {S N : List Nd} (hd : deep ≤ 20) (ha : a < T.length) (hF : T.length - a < F) (hN : NE S N) :
  Alike S N a T (eType F deep un (T.drop a) S) (eType F deep un (T.drop a) N) := by
 have hR := type_rel hT (20 - deep) deep (by omega) F un
 have h1 := hR ⟨a, S, 0, 0⟩ S rfl ha hF (NE.refl _)
 have h2 := hR ⟨a, S, 0, 0⟩ N rfl ha hF hN
 simp only at h1 h2
 revert h1 h2
 generalize mTyped T (20 - deep + 1) deep un ⟨a, S, 0, 0⟩ = x
 cases eType F deep un (T.drop a) S with
 | error p =>
  obtain ⟨p, er⟩ := p
  rintro ⟨j1, j2, j3⟩ h2
  refine ⟨j3, ?_⟩
  revert h2
  cases eType F deep un (T.drop a) N with
  | error q =>
   obtain ⟨q, er'⟩ := q
   rintro ⟨k1, k2, _⟩
   rw [show q = p by omega, show er' = er by omega]
  | ok q =>
   obtain ⟨n, ts, N'⟩ := q
   rintro ⟨_, k2, _⟩
   omega
 | ok p =>
  obtain ⟨n, ts, S'⟩ := p
  rintro ⟨j1, j2, j3, j4, j5, new, j6, j7⟩ h2
  refine ⟨new, x.2.at_, j6, ?_, j4.symm, j5, j3⟩
  revert h2
  cases eType F deep un (T.drop a) N with
  | error q =>
   obtain ⟨q, er'⟩ := q
   rintro ⟨k1, k2, _⟩
   omega
  | ok q =>
   obtain ⟨n', ts', N'⟩ := q
   rintro ⟨k1, _, k3, k4, _, new', k6, k7⟩
   have : new' = new := List.append_cancel_left (k7.symm.trans j7)
   rw [k6, this, ← k4, ← j4, ← k1, ← j1]
end
open Go.RowKit
def NmPost (l : List UInt8) (w : World) (e : Ending) (w' : World) : Prop := e = .returned (.tuple #[.int .i64 ((if wOk l then wNumAt l else 0 : Nat) : Int), .bool (wOk l)]) ∧ w = w'
theorem nm_no {l : List UInt8} {w : World} (h : wOk l = false) : NmPost l w (.returned (.tuple #[.int .i64 0, .bool false])) w := ⟨by rw [h]; rfl, rfl⟩
open Go.RowKit
def kwVals : List Value := kwList.map fun s => .string (txt s)
theorem kwVals_at {j : Nat} {x : List UInt8} (h : kwList[j]? = some x) : kwVals[j]? = some (.string (txt x)) := by
 unfold kwVals
 rw [List.getElem?_map, h]
 rfl
theorem tx_beq (l m : List UInt8) : ((txt l).toList == (txt m).toList) = (l == m) := by
 have h (l : List UInt8) : (txt l).toList = l := ByteArray.toList_mk l
 rw [h, h]
def wordNo (l : List UInt8) : Int := match pWord l with
 | some k => (k : Int)
 | none => -1
theorem wordNo_at {l : List UInt8} {j : Nat} (h : kwList[j]? = some l) (hno : ∀ m x, m < j → kwList[m]? = some x → x ≠ l) : wordNo l = (j : Int) := by
 have hj : j < kwList.length := by
  rcases Nat.lt_or_ge j kwList.length with h1 | h1
  ·exact h1
  ·rw [List.getElem?_eq_none h1] at h; cases h
 have : pWord l = some j := by
  unfold pWord
  rw [List.findIdx?_eq_some_iff_getElem]
  refine ⟨hj, ?_, fun m hm => ?_⟩
  ·rw [List.getElem?_eq_getElem hj, Option.some.injEq] at h
   rw [h]; simp
  ·have := hno m kwList[m] hm (List.getElem?_eq_getElem (by omega))
   simpa using this
 unfold wordNo
 rw [this]
theorem wordNo_none {l : List UInt8} (hno : ∀ m x, m < 12 → kwList[m]? = some x → x ≠ l) : wordNo l = -1 := by
 have : pWord l = none := by
  unfold pWord
  rw [List.findIdx?_eq_none_iff]
  intro x hx
  obtain ⟨m, hm, rfl⟩ := List.mem_iff_getElem.1 hx
  have h12 : kwList.length = 12 := rfl
  have := hno m kwList[m] (by omega) (List.getElem?_eq_getElem hm)
  simpa using this
 unfold wordNo
 rw [this]
theorem rword_any (s : ByteArray) (l : List UInt8) (w : World) (hs : Tx s l) : Calls Tryz.prog 78 #[.string s] w fun e w' => e = .returned (.int .i64 (wordNo l)) ∧ Turn w w' none := by
 obtain rfl : s = txt l := hs
 go_enter Tryz.func78, Tryz.ntmps78
 go_wp2
 obtain ⟨W, hW⟩ : ∃ W, W = w.alloc (.cells kwVals.toArray 9) := ⟨_, rfl⟩
 have hrd : Rd W (w.heap.size + 1) 1 (some ⟨w.heap.size, 0, none⟩) 12 kwVals := by rw [hW]; exact Rd.litS w _ 1 12 kwVals rfl
 have htn : Turn w W none := by rw [hW]; exact (Turn.refl w none).alloc _
 change Code.wp _ _ _ _ (w.alloc (.cells kwVals.toArray 9))
 rw [← hW]
 clear hW
 go_loopw [4] (fun i wr => ∃ j : Nat, j ≤ 12 ∧ i = .int .i64 (j : Int) ∧ Hid (∀ m x, m < j → kwList[m]? = some x → x ≠ l) ∧ wr = W) (fun i _ => (12 - intOf i).toNat)
 case atStart => exact ⟨0, by omega, rfl, hid (fun m x h => absurd h (Nat.not_lt_zero m)), rfl⟩
 case round =>
  obtain ⟨j, hj, rfl, HNO, rfl⟩ := hrel
  by_cases hjn : j < 12
  ·obtain ⟨x, hx⟩ : ∃ x, kwList[j]? = some x := ⟨kwList[j]'(by have : kwList.length = 12 := rfl; omega), List.getElem?_eq_getElem _⟩
   obtain ⟨b0, off, heq, _, hcells⟩ := hrd.head (by omega)
   have hcell := hcells j _ (kwVals_at hx)
   have HX := hid hx
   clear hx hcells
   by_cases hxl : x = l
   ·have hb : ((txt x).toList == (txt l).toList) = true := by rw [tx_beq]; simpa using hxl
    have HL := hid hxl
    clear hxl
    go_wp2
    go_ret
    refine ⟨?_, htn⟩
    rw [wordNo_at (by rw [HX.out, HL.out]) HNO.out]
    rfl
   ·have hb : ((txt x).toList == (txt l).toList) = false := by rw [tx_beq]; simpa using hxl
    have HL := hid hxl
    clear hxl
    go_wp2
    refine ⟨⟨j + 1, by omega, by go_num, hid (fun m y hm hy => ?_), trivial⟩, by simp [intOf]; omega⟩
    rcases Nat.lt_or_ge m j with h | h
    ·exact HNO.out m y h hy
    ·obtain rfl : m = j := by omega
     rw [HX.out, Option.some.injEq] at hy
     rw [← hy]
     exact HL.out
  ·obtain rfl : j = 12 := by omega
   go_wp2
   go_ret
   refine ⟨?_, htn⟩
   rw [wordNo_none HNO.out]
   rfl
def isKey (l : List UInt8) : Bool := decide (0 ≤ wordNo l ∧ (wordNo l < 6 ∨ 8 < wordNo l))
theorem rkey_any (s : ByteArray) (l : List UInt8) (w : World) (hs : Tx s l) : Calls Tryz.prog 121 #[.string s] w fun e w' => e = .returned (.bool (isKey l)) ∧ Turn w w' none := by
 obtain ⟨k, hk⟩ : ∃ k, wordNo l = k := ⟨_, rfl⟩
 have hi : isKey l = decide (0 ≤ k ∧ (k < 6 ∨ 8 < k)) := by unfold isKey; rw [hk]
 have HK := hid hk
 clear hk
 by_cases h0 : 0 ≤ k
 ·by_cases h6 : k < 6
  ·have H := hid (hi.trans (decide_eq_true (p := 0 ≤ k ∧ (k < 6 ∨ 8 < k)) ⟨h0, .inl h6⟩))
   clear hi
   go_enter Tryz.func121, Tryz.ntmps121
   go_wp2_with (go_at_call 78; refine (rword_any s l _ hs).mono ?_; rintro e w' ⟨rfl, ht⟩; rw [HK.out])
   go_ret
   exact ⟨by rw [H.out]; rfl, ht⟩
  ·have hb : isKey l = (decide (k < 6) || decide (8 < k)) := by
    rw [hi, ← Bool.decide_or]
    apply decide_eq_decide.2
    omega
   have H := hid hb
   clear hb hi
   go_enter Tryz.func121, Tryz.ntmps121
   go_wp2_with (go_at_call 78; refine (rword_any s l _ hs).mono ?_; rintro e w' ⟨rfl, ht⟩; rw [HK.out])
   all_goals go_ret
   all_goals exact ⟨by rw [H.out]; rfl, ht⟩
 ·have H := hid (hi.trans (decide_eq_false (p := 0 ≤ k ∧ (k < 6 ∨ 8 < k)) (fun h => h0 h.1)))
  clear hi
  go_enter Tryz.func121, Tryz.ntmps121
  go_wp2_with (go_at_call 78; refine (rword_any s l _ hs).mono ?_; rintro e w' ⟨rfl, ht⟩; rw [HK.out])
  go_ret
  exact ⟨by rw [H.out]; rfl, ht⟩
end Go.Proofs.YtgigiecdpjchkaaGreatDoor
