import Derived.Test.YtgigiecdpjchkaaGreatDoorP1
import Derived.Test.YtgigiecdpjchkaaGreatDoorP11
import Derived.Deep.Slices
import Derived.Deep.Strs
import Derived.Test.YtgigiecdpjchkaaGreatDoorP6
import Derived.Test.YtgigiecdpjchkaaGreatDoorP4
set_option linter.unusedSimpArgs false
set_option linter.unusedVariables false
set_option linter.unusedSectionVars false
set_option maxRecDepth 100000
set_option maxHeartbeats 6400000
namespace Go.Proofs.YtgigiecdpjchkaaGreatDoor
open Go.ChangeShapes Go.WideShapes Go.ChangeAt Go.RowKit
theorem flat_len {V : Nat → List Value} {sz : Nat} (hV : ∀ i, (V i).length = sz) : ∀ n, ((List.range n).flatMap V).length = n * sz
 | 0 => by simp
 | n + 1 => by
  rw [List.range_succ, List.flatMap_append, List.length_append, flat_len hV n, Nat.succ_mul]
  simp [hV]
theorem flat_at {V : Nat → List Value} {sz : Nat} (hV : ∀ i, (V i).length = sz) : ∀ (n i q : Nat), i < n → q < sz → ((List.range n).flatMap V)[i * sz + q]? = (V i)[q]?
 | 0, _, _, h, _ => absurd h (Nat.not_lt_zero _)
 | n + 1, i, q, h, hq => by
  rw [List.range_succ, List.flatMap_append]
  have hl := flat_len hV n
  by_cases hi : i < n
  ·have : i * sz + q < n * sz := by
    have h1 : (i + 1) * sz ≤ n * sz := Nat.mul_le_mul_right _ hi
    rw [Nat.succ_mul] at h1
    omega
   rw [List.getElem?_append_left (by rw [hl]; exact this)]
   exact flat_at hV n i q hi hq
  ·obtain rfl : i = n := by omega
   rw [List.getElem?_append_right (by omega), hl, Nat.add_sub_cancel_left]
   simp
section
variable {H : Type} {enc : TypeId × Value → H} {P : Program} {W : World}
theorem rd_many {b : Addr} {len sz : Nat} {V : Nat → List Value} (hz : 0 < sz) (hV : ∀ i, (V i).length = sz) (h : ∀ i, i < len → ∀ q v, (V i)[q]? = some v → W.cell? (b.add (i * sz + q)) = some v) : Rd W W.heap.size sz (some b) len ((List.range len).flatMap V) := by
 refine ⟨flat_len hV len, fun k u hu => ?_⟩
 have hk : k < len * sz := by rw [← flat_len hV len]; exact (List.getElem?_eq_some_iff.1 hu).1
 have hi : k / sz < len := Nat.div_lt_of_lt_mul (by rw [Nat.mul_comm]; exact hk)
 have hq : k % sz < sz := Nat.mod_lt _ hz
 have hkk : k / sz * sz + k % sz = k := Nat.div_add_mod' k sz
 rw [← hkk, flat_at hV len _ _ hi hq] at hu
 have hc := h _ hi _ _ hu
 rw [hkk] at hc
 exact ⟨b, rfl, by have := World.block_lt_of_cell? W _ hc; rwa [addr_block] at this, hc⟩
theorem open_many {t e : TypeId} {sz fuel len cap : Nat} {a : Option Addr} {x : DataW H × List MemPlace} (ht : P.underlying t = some (.slice e)) (hsz : P.cellsOf e = sz)
  (h : DataW.trod enc P W 0 (fun _ => true) true fuel t [.slice a len cap] = some x) : (a = none ∧ len = 0 ∧ cap = 0) ∨
  ∃ (b : Addr) (n : Nat) (D : Nat → DataW H × List MemPlace) (C : Nat → List Value) (sp : List (DataW H)), a = some b ∧ len ≤ cap ∧ cap ≤ maxLen ∧ x.1 = .slice ((List.range len).map fun i => (D i).1) sp ∧ len + sp.length = cap ∧
   ∀ i, i < len → (C i).length = sz ∧ (∀ q v, (C i)[q]? = some v → W.cell? (b.add (i * sz + q)) = some v) ∧ DataW.trod enc P W 0 (fun _ => true) true n e (C i) = some (D i) := by
 rcases DataW.trod_slice ht h with ⟨hc, _⟩ | ⟨b, len', cap', elems, rest, n, _, hc, rfl, _, hl, hm, hel, hE, hS, _⟩
 ·simp only [List.cons.injEq, Value.slice.injEq, and_true] at hc
  exact .inl hc
 ·simp only [List.cons.injEq, Value.slice.injEq, and_true] at hc
  obtain ⟨rfl, rfl, rfl⟩ := hc
  obtain ⟨hr, _⟩ := hS rfl
  right
  have one : ∀ i, i < len → ∃ r : List Value × (DataW H × List MemPlace), r.1.length = sz ∧ (∀ q v, r.1[q]? = some v → W.cell? (b.add (i * sz + q)) = some v) ∧ DataW.trod enc P W 0 (fun _ => true) true n e r.1 = some r.2 ∧ elems[i]? = some r.2 := by
   intro i hi
   have h1 := hE i hi
   have h2 : elems[i]? = some elems[i] := List.getElem?_eq_getElem (by omega)
   rw [h2] at h1
   obtain ⟨cs, h3, h4⟩ := Option.bind_eq_some_iff.1 h1
   obtain ⟨_, h5, h6⟩ := World.cells?_some h3
   rw [hsz] at h5 h6
   refine ⟨(cs, elems[i]), h5, fun q v hq => ?_, h4, h2⟩
   have hq2 : q < sz := by rw [← h5]; exact (List.getElem?_eq_some_iff.1 hq).1
   have h7 := h6 q hq2
   rw [Addr.add_add] at h7
   rw [h7]
   exact hq
  classical
  obtain ⟨F, hF⟩ : ∃ F : Nat → List Value × (DataW H × List MemPlace), ∀ i, i < len → (F i).1.length = sz ∧ (∀ q v, (F i).1[q]? = some v → W.cell? (b.add (i * sz + q)) = some v) ∧ DataW.trod enc P W 0 (fun _ => true) true n e (F i).1 = some (F i).2 ∧ elems[i]? = some (F i).2 :=
   ⟨fun i => if hi : i < len then Classical.choose (one i hi) else ([], (.nil, [])), fun i hi => by
    simp only [dif_pos hi]
    exact Classical.choose_spec (one i hi)⟩
  refine ⟨b, n, fun i => (F i).2, fun i => (F i).1, rest.map (·.1), rfl, hl, hm, ?_, by rw [List.length_map, hr]; omega, fun i hi => ⟨(hF i hi).1, (hF i hi).2.1, (hF i hi).2.2.1⟩⟩
  show DataW.slice (elems.map (·.1)) (rest.map (·.1)) = _
  congr 1
  apply List.ext_getElem?
  intro i
  by_cases hi : i < len
  ·rw [List.getElem?_map, List.getElem?_map, (hF i hi).2.2.2, List.getElem?_range hi]
   rfl
  ·rw [List.getElem?_eq_none (by rw [List.length_map]; omega), List.getElem?_eq_none (by simp; omega)]
def Wt (P : Program) (t : TypeId) (d : DataW H) : Prop := ∀ n ∈ d.weights P t, n ≤ 140737488351232
theorem weights_all {e : TypeId} {d : DataW H} {n : Nat} : ∀ {l : List (DataW H)}, d ∈ l → n ∈ d.weights P e → n ∈ DataW.weightsAll P e l
 | x :: r, hd, hn => by
  simp only [DataW.weightsAll, List.mem_append]
  rcases List.mem_cons.1 hd with rfl | hd
  ·exact .inl hn
  ·exact .inr (weights_all hd hn)
theorem Wt.elem {t e : TypeId} {len : Nat} {D : Nat → DataW H × List MemPlace} {sp : List (DataW H)} (ht : P.underlying t = some (.slice e)) (h : Wt P t (.slice ((List.range len).map fun i => (D i).1) sp)) {i : Nat} (hi : i < len) : Wt P e (D i).1 := fun n hn => h n (by
 rw [DataW.weights, ht]
 simp only [List.mem_cons, List.mem_append]
 exact .inr (.inl (weights_all (List.mem_map.2 ⟨i, List.mem_range.2 hi, rfl⟩) hn)))
theorem Wt.len {t e : TypeId} {l sp : List (DataW H)} (ht : P.underlying t = some (.slice e)) (h : Wt P t (.slice l sp)) : (l.length + sp.length) * P.bytesOf e ≤ 140737488351232 := h _ (by rw [DataW.weights, ht]; simp)
theorem Wt.str {t : TypeId} {l : List UInt8} (h : Wt P t (.lit (.string l) : DataW H)) : l.length ≤ 140737488351232 := h _ (by simp [DataW.weights])
end
open Go.ChangeShapes Go.WideShapes Go.ChangeAt Go.RowKit
section
variable {H : Type} {enc : TypeId × Value → H} {W : World} {r : Reach} {b0 : Nat}
theorem cel_str : Tryz.prog.cellsOf 9 = 1 := by kernel_rfl
theorem cel_int : Tryz.prog.cellsOf 3 = 1 := by kernel_rfl
theorem cel_bool : Tryz.prog.cellsOf 4 = 1 := by kernel_rfl
theorem cel_sls : Tryz.prog.cellsOf 46 = 1 := by kernel_rfl
theorem cel_sli : Tryz.prog.cellsOf 61 = 1 := by kernel_rfl
theorem cel_slf : Tryz.prog.cellsOf 62 = 1 := by kernel_rfl
theorem cel_sln : Tryz.prog.cellsOf 22 = 1 := by kernel_rfl
theorem cel_fl : Tryz.prog.cellsOf 119 = 3 := by kernel_rfl
theorem cel_nd : Tryz.prog.cellsOf 64 = 6 := by kernel_rfl
theorem sl_form {P : Program} {t e : TypeId} {fuel : Nat} {v : Value} {x : DataW H × List MemPlace} (ht : P.underlying t = some (.slice e)) (h : DataW.trod enc P W 0 (fun _ => true) true fuel t [v] = some x) : ∃ A n c, v = .slice A n c ∧ n ≤ c ∧ c ≤ maxLen ∧ (A = none → x.1 = .nil) := by
 rcases DataW.trod_slice ht h with ⟨hc, rfl⟩ | ⟨b, len', cap', elems, rest, n, _, hc, rfl, _, hl, hm, _⟩
 ·simp only [List.cons.injEq, and_true] at hc
  exact ⟨_, _, _, hc, Nat.le_refl _, Nat.zero_le _, fun _ => rfl⟩
 ·simp only [List.cons.injEq, and_true] at hc
  exact ⟨_, _, _, hc, hl, hm, fun e => by cases e⟩
theorem open_ss {fuel : Nat} {v : Value} {x : DataW H × List MemPlace} (h : DataW.trod enc Tryz.prog W 0 (fun _ => true) true fuel 46 [v] = some x) :
  ∃ A c l, v = .slice A (l.length) c ∧ Rd W W.heap.size 1 A l.length (vss l) ∧ l.length ≤ c ∧ c ≤ maxLen ∧ (Wt Tryz.prog 46 x.1 → l.length ≤ 140737488351232 ∧ ∀ s ∈ l, s.length ≤ 140737488351232) := by
 obtain ⟨A, n, c, rfl, hn, hc, _⟩ := sl_form Tryz.underlying46 h
 rcases open_many Tryz.underlying46 cel_str h with ⟨rfl, rfl, rfl⟩ | ⟨b, f, D, C, sp, rfl, _, _, hx, hsp, hE⟩
 ·exact ⟨none, 0, [], rfl, Rd.none_ W _ 1 0, Nat.le_refl _, Nat.zero_le _, fun _ => ⟨Nat.zero_le _, by simp⟩⟩
 ·have one : ∀ i, i < n → ∃ s : ByteArray, C i = [.string s] ∧ (D i).1 = .lit (.string s.data.toList) := fun i hi => by
   obtain ⟨s, h1, h2, _⟩ := DataW.trod_string Tryz.underlying9 (hE i hi).2.2
   exact ⟨s, h1, by rw [h2]⟩
  obtain ⟨S, hS⟩ := Deep.choose_lt one
  have hl : ((List.range n).map fun i => (S i).data.toList).length = n := by simp
  refine ⟨some b, c, (List.range n).map fun i => (S i).data.toList, by rw [hl], ?_, by rw [hl]; exact hn, hc, fun hw => ?_⟩
  ·have e : vss ((List.range n).map fun i => (S i).data.toList) = (List.range n).flatMap fun i => [.string (S i)] := by
    unfold vss
    rw [List.map_map, List.map_eq_flatMap]
    exact congrArg (fun f => (List.range n).flatMap f) (funext fun i => congrArg (fun z => [Value.string z]) (txt_of (S i)))
   rw [hl, e]
   refine rd_many (by omega) (fun i => rfl) (fun i hi q v hq => (hE i hi).2.1 q v (by rw [(hS i hi).1]; exact hq))
  ·rw [hx] at hw
   have h1 := hw.len Tryz.underlying46
   rw [show Tryz.prog.bytesOf 9 = 16 by kernel_rfl, List.length_map, List.length_range] at h1
   refine ⟨by rw [hl]; omega, fun s hs => ?_⟩
   obtain ⟨i, hi, rfl⟩ := List.mem_map.1 hs
   have hi := List.mem_range.1 hi
   have h2 := hw.elem Tryz.underlying46 hi
   rw [(hS i hi).2] at h2
   exact h2.str
theorem open_is {fuel : Nat} {v : Value} {x : DataW H × List MemPlace} (h : DataW.trod enc Tryz.prog W 0 (fun _ => true) true fuel 61 [v] = some x) :
  ∃ A c l, v = .slice A (l.length) c ∧ Rd W W.heap.size 1 A l.length (vis l) ∧ l.length ≤ c ∧ c ≤ maxLen ∧ (Wt Tryz.prog 61 x.1 → l.length ≤ 140737488351232) := by
 obtain ⟨A, n, c, rfl, hn, hc, _⟩ := sl_form Tryz.underlying61 h
 rcases open_many Tryz.underlying61 cel_int h with ⟨rfl, rfl, rfl⟩ | ⟨b, f, D, C, sp, rfl, _, _, hx, hsp, hE⟩
 ·exact ⟨none, 0, [], rfl, Rd.none_ W _ 1 0, Nat.le_refl _, Nat.zero_le _, fun _ => Nat.zero_le _⟩
 ·have one : ∀ i, i < n → ∃ s : Int, C i = [.int .i64 s] := fun i hi => by
   obtain ⟨s, h1, h2, _⟩ := DataW.trod_int Tryz.underlying3 (hE i hi).2.2
   exact ⟨s, h1⟩
  obtain ⟨S, hS⟩ := Deep.choose_lt one
  have hl : ((List.range n).map S).length = n := by simp
  refine ⟨some b, c, (List.range n).map S, by rw [hl], ?_, by rw [hl]; exact hn, hc, fun hw => ?_⟩
  ·have e : vis ((List.range n).map S) = (List.range n).flatMap fun i => [.int .i64 (S i)] := by
    unfold vis
    rw [List.map_map, List.map_eq_flatMap]
    rfl
   rw [hl, e]
   refine rd_many (by omega) (fun i => rfl) (fun i hi q v hq => (hE i hi).2.1 q v (by rw [hS i hi]; exact hq))
  ·rw [hx] at hw
   have h1 := hw.len Tryz.underlying61
   rw [show Tryz.prog.bytesOf 3 = 8 by kernel_rfl, List.length_map, List.length_range] at h1
   rw [hl]; omega
theorem Wt.part {t : TypeId} {fs : Array Field} {xs : List (DataW H × List MemPlace)} (ht : Tryz.prog.underlying t = some (.struct fs)) (h : Wt Tryz.prog t (.agg (xs.map (·.1)) : DataW H)) {i : Nat} {f : Field} {y : DataW H × List MemPlace} (hf : fs[i]? = some f) (hy : xs[i]? = some y) : Wt Tryz.prog f.type y.1 := fun n hn => h n (by
 rw [DataW.weights, ht]
 exact DataW.weights_mem_each (j := i) (t := f.type) (by rw [List.getElem?_map, Array.getElem?_toList, hf]; rfl) (by rw [List.getElem?_map, hy]; rfl) n hn)
theorem open_fs {fuel : Nat} {v : Value} {x : DataW H × List MemPlace} (h : DataW.trod enc Tryz.prog W 0 (fun _ => true) true fuel 62 [v] = some x) :
  ∃ A c l, v = .slice A (l.length) c ∧ Rd W W.heap.size 3 A l.length (vfs l) ∧ l.length ≤ c ∧ c ≤ maxLen ∧ (Wt Tryz.prog 62 x.1 → l.length ≤ 140737488351232 ∧ ∀ f ∈ l, f.name.length ≤ 140737488351232) := by
 obtain ⟨A, n, c, rfl, hn, hc, _⟩ := sl_form Tryz.underlying62 h
 rcases open_many Tryz.underlying62 cel_fl h with ⟨rfl, rfl, rfl⟩ | ⟨b, f, D, C, sp, rfl, _, _, hx, hsp, hE⟩
 ·exact ⟨none, 0, [], rfl, Rd.none_ W _ 3 0, Nat.le_refl _, Nat.zero_le _, fun _ => ⟨Nat.zero_le _, by simp⟩⟩
 ·have : Inhabited Gf := ⟨⟨[], 0, false⟩⟩
  have one : ∀ i, i < n → ∃ s : Gf, C i = [.string (txt s.name), .bool s.has, .int .i64 s.ty] ∧ (Wt Tryz.prog 119 (D i).1 → s.name.length ≤ 140737488351232) := fun i hi => by
    obtain ⟨h1, _, h2⟩ := hE i hi
    obtain ⟨xs, m, _, hD, _, h3, h4⟩ := DataW.trod_struct Tryz.underlying119 h2
    match hC : C i, h1 with
    | [a0, a1, a2], _ =>
     rw [hC] at h4
     have g0 : DataW.trod enc Tryz.prog W 0 (fun _ => true) true m 9 (([a0, a1, a2].drop 0).take (Tryz.prog.cellsOf 9)) = xs[0]? := h4 0 _ rfl
     rw [cel_str] at g0
     have g1 : DataW.trod enc Tryz.prog W 0 (fun _ => true) true m 4 (([a0, a1, a2].drop 1).take (Tryz.prog.cellsOf 4)) = xs[1]? := h4 1 _ rfl
     rw [cel_bool] at g1
     have g2 : DataW.trod enc Tryz.prog W 0 (fun _ => true) true m 3 (([a0, a1, a2].drop 2).take (Tryz.prog.cellsOf 3)) = xs[2]? := h4 2 _ rfl
     rw [cel_int] at g2
     match xs, h3 with
     | [y0, y1, y2], _ =>
      obtain ⟨s, e0, e0', _⟩ := DataW.trod_string Tryz.underlying9 g0
      obtain ⟨bb, e1, _⟩ := DataW.trod_bool Tryz.underlying4 g1
      obtain ⟨z, e2, _⟩ := DataW.trod_int Tryz.underlying3 g2
      have e0 := (List.cons.inj (show [a0] = [Value.string s] from e0)).1
      have e1 := (List.cons.inj (show [a1] = [Value.bool bb] from e1)).1
      have e2 := (List.cons.inj (show [a2] = [Value.int .i64 z] from e2)).1
      refine ⟨⟨s.data.toList, z, bb⟩, by rw [e0, e1, e2, txt_of], fun hw => ?_⟩
      rw [hD] at hw
      have h5 := hw.part Tryz.underlying119 (i := 0) rfl rfl
      rw [e0'] at h5
      exact h5.str
  obtain ⟨S, hS⟩ := Deep.choose_lt one
  have hl : ((List.range n).map S).length = n := by simp
  refine ⟨some b, c, (List.range n).map S, by rw [hl], ?_, by rw [hl]; exact hn, hc, fun hw => ?_⟩
  ·have e : vfs ((List.range n).map S) = (List.range n).flatMap fun i => [.string (txt (S i).name), .bool (S i).has, .int .i64 (S i).ty] := by
    unfold vfs
    rw [List.flatMap_map]
   rw [hl, e]
   refine rd_many (by omega) (fun i => rfl) (fun i hi q v hq => (hE i hi).2.1 q v (by rw [(hS i hi).1]; exact hq))
  ·rw [hx] at hw
   have h1 := hw.len Tryz.underlying62
   rw [show Tryz.prog.bytesOf 119 = 32 by kernel_rfl, List.length_map, List.length_range] at h1
   refine ⟨by rw [hl]; omega, fun s hs => ?_⟩
   obtain ⟨i, hi, rfl⟩ := List.mem_map.1 hs
   have hi := List.mem_range.1 hi
   exact (hS i hi).2 (hw.elem Tryz.underlying62 hi)
theorem open_nd {fuel : Nat} {cs : List Value} {x : DataW H × List MemPlace} (hl : cs.length = 6) (h : DataW.trod enc Tryz.prog W 0 (fun _ => true) true fuel 64 cs = some x) :
  ∃ (g : Gn) (As : Option Addr) (sc : Nat) (Ai : Option Addr) (ic : Nat) (Af : Option Addr) (fc : Nat), cs = [.int .i64 g.k, .string (txt g.name), .int .i64 g.size, .slice As g.syms.length sc, .slice Ai g.items.length ic, .slice Af g.fields.length fc] ∧
   Rd W W.heap.size 1 As g.syms.length (vss g.syms) ∧ (g.syms.length ≤ sc ∧ sc ≤ maxLen) ∧ Rd W W.heap.size 1 Ai g.items.length (vis g.items) ∧ (g.items.length ≤ ic ∧ ic ≤ maxLen) ∧ Rd W W.heap.size 3 Af g.fields.length (vfs g.fields) ∧ (g.fields.length ≤ fc ∧ fc ≤ maxLen) ∧
   (Wt Tryz.prog 64 x.1 → (g.syms.length ≤ 281474976710656 ∧ g.items.length ≤ 281474976710656 ∧ g.fields.length ≤ 281474976710656) ∧ g.name.length ≤ 140737488355327 ∧ (∀ s ∈ g.syms, s.length ≤ 140737488355328) ∧ (∀ f ∈ g.fields, f.name.length ≤ 140737488355328) ∧ -9223372036854775808 ≤ g.size ∧ g.size ≤ 9223372036854775807) := by
 obtain ⟨xs, m, _, hD, _, h3, h4⟩ := DataW.trod_struct Tryz.underlying64 h
 match cs, hl with
 | [a0, a1, a2, a3, a4, a5], _ =>
  have g0 : DataW.trod enc Tryz.prog W 0 (fun _ => true) true m 3 (([a0, a1, a2, a3, a4, a5].drop 0).take (Tryz.prog.cellsOf 3)) = xs[0]? := h4 0 _ rfl
  rw [cel_int] at g0
  have g1 : DataW.trod enc Tryz.prog W 0 (fun _ => true) true m 9 (([a0, a1, a2, a3, a4, a5].drop 1).take (Tryz.prog.cellsOf 9)) = xs[1]? := h4 1 _ rfl
  rw [cel_str] at g1
  have g2 : DataW.trod enc Tryz.prog W 0 (fun _ => true) true m 3 (([a0, a1, a2, a3, a4, a5].drop 2).take (Tryz.prog.cellsOf 3)) = xs[2]? := h4 2 _ rfl
  rw [cel_int] at g2
  have g3 : DataW.trod enc Tryz.prog W 0 (fun _ => true) true m 46 (([a0, a1, a2, a3, a4, a5].drop 3).take (Tryz.prog.cellsOf 46)) = xs[3]? := h4 3 _ rfl
  rw [cel_sls] at g3
  have g4 : DataW.trod enc Tryz.prog W 0 (fun _ => true) true m 61 (([a0, a1, a2, a3, a4, a5].drop 4).take (Tryz.prog.cellsOf 61)) = xs[4]? := h4 4 _ rfl
  rw [cel_sli] at g4
  have g5 : DataW.trod enc Tryz.prog W 0 (fun _ => true) true m 62 (([a0, a1, a2, a3, a4, a5].drop 5).take (Tryz.prog.cellsOf 62)) = xs[5]? := h4 5 _ rfl
  rw [cel_slf] at g5
  match xs, h3 with
  | [y0, y1, y2, y3, y4, y5], _ =>
   obtain ⟨z0, e0, _⟩ := DataW.trod_int Tryz.underlying3 g0
   obtain ⟨s, e1, e1', _⟩ := DataW.trod_string Tryz.underlying9 g1
   obtain ⟨z2, e2, _, wf2⟩ := DataW.trod_int Tryz.underlying3 g2
   obtain ⟨As, sc, ls, e3, r3, b3, c3, w3⟩ := open_ss g3
   obtain ⟨Ai, ic, li, e4, r4, b4, c4, w4⟩ := open_is g4
   obtain ⟨Af, fc, lf, e5, r5, b5, c5, w5⟩ := open_fs g5
   have e0 := (List.cons.inj (show [a0] = [Value.int .i64 z0] from e0)).1
   have e1 := (List.cons.inj (show [a1] = [Value.string s] from e1)).1
   have e2 := (List.cons.inj (show [a2] = [Value.int .i64 z2] from e2)).1
   refine ⟨⟨z0, s.data.toList, z2, ls, li, lf⟩, As, sc, Ai, ic, Af, fc, by rw [e0, e1, e2, e3, e4, e5, txt_of], r3, ⟨b3, c3⟩, r4, ⟨b4, c4⟩, r5, ⟨b5, c5⟩, fun hw => ?_⟩
   rw [hD] at hw
   have h1 := hw.part Tryz.underlying64 (i := 1) rfl rfl
   rw [e1'] at h1
   have k1 := h1.str
   obtain ⟨k3, k3'⟩ := w3 (hw.part Tryz.underlying64 (i := 3) rfl rfl)
   have k4 := w4 (hw.part Tryz.underlying64 (i := 4) rfl rfl)
   obtain ⟨k5, k5'⟩ := w5 (hw.part Tryz.underlying64 (i := 5) rfl rfl)
   have kz := bd_i64 wf2
   exact ⟨⟨by show ls.length ≤ _; omega, by show li.length ≤ _; omega, by show lf.length ≤ _; omega⟩, by show s.data.toList.length ≤ _; omega, fun s hs => Nat.le_trans (k3' s hs) (by omega), fun f hf => Nat.le_trans (k5' f hf) (by omega), kz⟩
theorem open_schema {v : Value} {d : DataW H} {p : List MemPlace} (hv : Value.okWide Tryz.prog W r b0 24 v) (h : DataW.Trod enc Tryz.prog W 0 (fun _ => true) true 24 v d p) :
  ∃ A n c gs, v = .agg #[.slice A n c] ∧ (Wt Tryz.prog 24 d → Gvn W A n c gs) := by
 obtain ⟨cs, rfl, hcs⟩ := okWide_struct Tryz.underlying24 hv
 obtain ⟨fuel, hf⟩ := h
 obtain ⟨xs, m, _, hD, hl, h3, h4⟩ := DataW.trod_struct Tryz.underlying24 hf
 rw [show Tryz.prog.cellsOf 24 = 1 by kernel_rfl] at hcs
 obtain ⟨u, rfl⟩ : ∃ u, cs = #[u] := by
  obtain ⟨l⟩ := cs
  match l, hcs with
  | [u], _ => exact ⟨u, rfl⟩
 have g0 : DataW.trod enc Tryz.prog W 0 (fun _ => true) true m 22 (([u].drop 0).take (Tryz.prog.cellsOf 22)) = xs[0]? := h4 0 _ rfl
 rw [cel_sln] at g0
 match xs, h3 with
 | [y0], _ =>
  obtain ⟨A, n, c, rfl, hn, hc, _⟩ := sl_form Tryz.underlying22 g0
  rcases open_many Tryz.underlying22 cel_nd g0 with ⟨rfl, rfl, rfl⟩ | ⟨b, f, D, C, sp, rfl, _, _, hx, hsp, hE⟩
  ·exact ⟨none, 0, 0, [], rfl, fun _ => ⟨Sc.nil _ _ _, by omega, by simp, by simp, ⟨Nat.le_refl _, Nat.zero_le _⟩⟩⟩
  ·have : Inhabited (Gn × (Option Addr × Nat) × (Option Addr × Nat) × (Option Addr × Nat)) := ⟨(⟨0, [], 0, [], [], []⟩, (none, 0), (none, 0), (none, 0))⟩
   have one : ∀ i, i < n → ∃ s : Gn × (Option Addr × Nat) × (Option Addr × Nat) × (Option Addr × Nat), C i = [.int .i64 s.1.k, .string (txt s.1.name), .int .i64 s.1.size, .slice s.2.1.1 s.1.syms.length s.2.1.2, .slice s.2.2.1.1 s.1.items.length s.2.2.1.2, .slice s.2.2.2.1 s.1.fields.length s.2.2.2.2] ∧
     Rd W W.heap.size 1 s.2.1.1 s.1.syms.length (vss s.1.syms) ∧ (s.1.syms.length ≤ s.2.1.2 ∧ s.2.1.2 ≤ maxLen) ∧ Rd W W.heap.size 1 s.2.2.1.1 s.1.items.length (vis s.1.items) ∧ (s.1.items.length ≤ s.2.2.1.2 ∧ s.2.2.1.2 ≤ maxLen) ∧ Rd W W.heap.size 3 s.2.2.2.1 s.1.fields.length (vfs s.1.fields) ∧ (s.1.fields.length ≤ s.2.2.2.2 ∧ s.2.2.2.2 ≤ maxLen) ∧
     (Wt Tryz.prog 64 (D i).1 → (s.1.syms.length ≤ 281474976710656 ∧ s.1.items.length ≤ 281474976710656 ∧ s.1.fields.length ≤ 281474976710656) ∧ s.1.name.length ≤ 140737488355327 ∧ (∀ t ∈ s.1.syms, t.length ≤ 140737488355328) ∧ (∀ f ∈ s.1.fields, f.name.length ≤ 140737488355328) ∧ -9223372036854775808 ≤ s.1.size ∧ s.1.size ≤ 9223372036854775807) := fun i hi => by
    obtain ⟨h1, _, h2⟩ := hE i hi
    obtain ⟨g, As, sc, Ai, ic, Af, fc, q⟩ := open_nd h1 h2
    exact ⟨(g, (As, sc), (Ai, ic), (Af, fc)), q⟩
   obtain ⟨S, hS⟩ := Deep.choose_lt one
   have hln : ((List.range n).map fun i => (S i).1).length = n := by simp
   refine ⟨some b, n, c, (List.range n).map fun i => (S i).1, rfl, fun hw => ?_⟩
   have hd : d = .agg ([y0].map (·.1)) := congrArg Prod.fst hD
   rw [hd] at hw
   have hw0 := hw.part Tryz.underlying24 (i := 0) rfl rfl
   rw [hx] at hw0
   have h1 := hw0.len Tryz.underlying22
   rw [show Tryz.prog.bytesOf 64 = 104 by kernel_rfl, List.length_map, List.length_range] at h1
   have hat : ∀ i x, ((List.range n).map fun i => (S i).1)[i]? = some x → i < n ∧ x = (S i).1 := fun i x hx => by
    have hi : i < n := by have := (List.getElem?_eq_some_iff.1 hx).1; rw [hln] at this; exact this
    rw [List.getElem?_map, List.getElem?_range hi] at hx
    exact ⟨hi, (Option.some.inj hx).symm⟩
   have hmem : ∀ x ∈ (List.range n).map (fun i => (S i).1), ∃ i, i < n ∧ x = (S i).1 := fun x hx => by
    obtain ⟨i, hi, rfl⟩ := List.mem_map.1 hx
    exact ⟨i, List.mem_range.1 hi, rfl⟩
   have hwn := fun i (hi : i < n) => (hS i hi).2.2.2.2.2.2.2 (hw0.elem Tryz.underlying22 hi)
   obtain ⟨V, hV⟩ : ∃ V : Nat → List Value, V = fun i => [.int .i64 (S i).1.k, .string (txt (S i).1.name), .int .i64 (S i).1.size, .slice (S i).2.1.1 (S i).1.syms.length (S i).2.1.2, .slice (S i).2.2.1.1 (S i).1.items.length (S i).2.2.1.2, .slice (S i).2.2.2.1 (S i).1.fields.length (S i).2.2.2.2] := ⟨_, rfl⟩
   have hV6 : ∀ i, (V i).length = 6 := fun i => by rw [hV]; rfl
   refine ⟨⟨hln, (List.range n).flatMap V, rd_many (by omega) hV6 (fun i hi q v hq => (hE i hi).2.1 q v (by rw [(hS i hi).1]; rw [hV] at hq; exact hq)), fun i x hx => ?_⟩, by omega, fun x hx => ?_, fun x hx => ?_, hn, hc⟩
   ·obtain ⟨hi, rfl⟩ := hat i x hx
    obtain ⟨_, r3, b3, r4, b4, r5, b5, _⟩ := hS i hi
    have at_ := fun q (hq : q < 6) => flat_at hV6 n i q hi hq
    refine ⟨(at_ 0 (by omega)).trans (by rw [hV]; rfl), (at_ 1 (by omega)).trans (by rw [hV]; rfl), (at_ 2 (by omega)).trans (by rw [hV]; rfl), ⟨_, (at_ 3 (by omega)).trans (by rw [hV]; rfl), _, _, rfl, r3, b3⟩, ⟨_, (at_ 4 (by omega)).trans (by rw [hV]; rfl), _, _, rfl, r4, b4⟩, ⟨_, (at_ 5 (by omega)).trans (by rw [hV]; rfl), _, _, rfl, r5, b5⟩⟩
   ·obtain ⟨i, hi, rfl⟩ := hmem x hx
    exact (hwn i hi).1
   ·obtain ⟨i, hi, rfl⟩ := hmem x hx
    exact (hwn i hi).2
end
open Go.RowKit
structure QB extends RB where
 out : List Nat
def Bd (b : QB) (w : World) : Prop := b.base ≤ w.heap.size ∧ ∀ g ∈ b.out, g < w.heap.size
theorem Bd.mono {b : QB} {w w' : World} (h : Bd b w) (hs : w.heap.size ≤ w'.heap.size) : Bd b w' := ⟨Nat.le_trans h.1 hs, fun g hg => Nat.lt_of_lt_of_le (h.2 g hg) hs⟩
def Fq (b : QB) (w w' : World) : Prop :=
 Below b.base w w' ∧ (∀ g t cs, Blk w g t cs → t ≠ 64 → t ≠ 9 → t ≠ 3 → t ≠ 119 → t ≠ 86 → Blk w' g t cs) ∧ ∀ g ∈ b.out, w'.heap[g]? = w.heap[g]?
section
variable {w w' w2 : World} {b : QB} {g : Nat} {cs : Array Value} {t : TypeId}
theorem Fq.refl (b : QB) (w : World) : Fq b w w := ⟨Below.refl _ _, fun _ _ _ h _ _ _ _ _ => h, fun _ _ => rfl⟩
theorem Fq.trans (h : Fq b w w') (k : Fq b w' w2) : Fq b w w2 := ⟨h.1.trans k.1, fun g t cs hb a1 a2 a3 a4 a5 => k.2.1 g t cs (h.2.1 g t cs hb a1 a2 a3 a4 a5) a1 a2 a3 a4 a5, fun g hg => (k.2.2 g hg).trans (h.2.2 g hg)⟩
theorem Fq.of_turn (h : Turn w w' none) (hb : Bd b w) : Fq b w w' := ⟨h.below.mono hb.1, fun _ _ _ hB _ _ _ _ _ => hB.turn0 h, fun g hg => h.block g (hb.2 g hg) (by simp)⟩
theorem Fq.size (h : Fq b w w') : w.heap.size ≤ w'.heap.size := h.1.size
theorem Fq.turn (h : Fq b w w') (k : Turn w' w2 none) (hb : Bd b w) : Fq b w w2 := h.trans (Fq.of_turn k (hb.mono h.1.size))
theorem Fq.tok (h : Fq b w w') (hb : Blk w g 90 cs) : Blk w' g 90 cs := h.2.1 _ _ _ hb (by decide) (by decide) (by decide) (by decide) (by decide)
theorem Fq.outB (h : Fq b w w') (hg : g ∈ b.out) (hB : Blk w g t cs) : Blk w' g t cs := (h.2.2 g hg).trans hB
theorem Fq.row {sz n c : Nat} {E : TypeId} {A : Option Addr} {xs : List Value} (ho : Own w b.base E sz A n c xs) (hE : NdTy E) (ht : Turn w w' (blk A)) (hb : Bd b w) (hoff : ∀ g ∈ b.out, blk A ≠ some g) : Fq b w w' := by
 cases hA : blk A with
 | none => rw [hA] at ht; exact Fq.of_turn ht hb
 | some g =>
  rw [hA] at ht
  refine ⟨below_turn ht hb.1 (ho.block g hA).1, fun g' t cs hB a1 a2 a3 a4 a5 => hB.turn ht ?_, fun g' hg' => ht.block g' (hb.2 g' hg') ?_⟩
  ·intro e
   injection e with e
   subst e
   refine ho.not_blk hB ?_ hA
   rcases hE with rfl | rfl | rfl | rfl
   ·exact a1
   ·exact a2
   ·exact a3
   ·exact a4
  ·intro e
   exact hoff g' hg' (by rw [hA]; exact e.symm)
end
def psCells (b : QB) (R : Ix → Rw) (s : St) : List Value := [.slice b.A0 b.T.length b.c0, .int .i64 (s.at_ : Int), (R none).v, .int .i64 (s.why : Int), .int .i64 (s.bad : Int)]
def Offs (b : QB) (R : Ix → Rw) : Prop := ∀ i, ∀ g ∈ b.out, blk (R i).A ≠ some g
structure PS (w : World) (b : QB) (s : St) : Prop where
 hb : b.base ≤ b.pB
 hw : Bd b w
 outs : ∀ g ∈ b.out, g ≠ b.pB
 toks : Rd w b.base 3 b.A0 b.T.length (tcs b.T)
 tok : TOk b.T
 few : b.T.length ≤ 1500
 brief : ∀ i, i < b.T.length → (tokAt b.T i).s.length ≤ 4096
 hc : b.T.length ≤ b.c0 ∧ b.c0 ≤ maxLen
 at_ : s.at_ < b.T.length
 ok : NOk s.N (s.at_ + 1)
 mem : ∃ R, NR w b.base R s.N ∧ Blk w b.pB 86 (psCells b R s).toArray ∧ Offs b R
section
variable {w w' : World} {b : QB} {s s' : St} {R R' : Ix → Rw}
theorem ty_P : 86 ≠ 64 ∧ 86 ≠ 9 ∧ 86 ≠ 3 ∧ 86 ≠ 119 := by decide
theorem PS.turn0 (h : PS w b s) (ht : Turn w w' none) : PS w' b s := by
 obtain ⟨R, h1, h2, h3⟩ := h.mem
 exact ⟨h.hb, h.hw.mono ht.size, h.outs, h.toks.turn0 ht h.hw.1, h.tok, h.few, h.brief, h.hc, h.at_, h.ok, R, h1.turn0 ht, h2.turn0 ht, h3⟩
theorem PS.opn (h : PS w b s) : ∃ R, NR w b.base R s.N ∧ Blk w b.pB 86 (psCells b R s).toArray ∧
  w.cell? ⟨b.pB, 0, none⟩ = some (.slice b.A0 b.T.length b.c0) ∧ w.cell? ⟨b.pB, 1, none⟩ = some (.int .i64 (s.at_ : Int)) ∧ w.cell? ⟨b.pB, 2, none⟩ = some (.slice (R none).A s.N.length (R none).c) ∧ w.cell? ⟨b.pB, 3, none⟩ = some (.int .i64 (s.why : Int)) ∧
  w.cell? ⟨b.pB, 4, none⟩ = some (.int .i64 (s.bad : Int)) ∧ ∀ j, w.frozen? ⟨b.pB, j, none⟩ = false := by
 obtain ⟨R, h1, h2, _⟩ := h.mem
 refine ⟨R, h1, h2, h2.cell 0, h2.cell 1, (h2.cell 2).trans ?_, h2.cell 3, h2.cell 4, fun j => h2.frozen j⟩
 show some (Value.slice (R none).A (R none).n (R none).c) = _
 rw [h1.len]
theorem PS.tk (h : PS w b s) {i : Nat} (hi : i < b.T.length) : ∃ bb off, b.A0 = some ⟨bb, off, none⟩ ∧ bb < b.base ∧ w.cell? ⟨bb, off + i * 3, none⟩ = some (.int .i64 ((tokAt b.T i).k : Int)) ∧
  w.cell? ⟨bb, off + i * 3 + 1, none⟩ = some (.string (txt (tokAt b.T i).s)) ∧ w.cell? ⟨bb, off + i * 3 + 2, none⟩ = some (.int .i64 ((tokAt b.T i).at_ : Int)) := by
 obtain ⟨bb, off, e, hlt, hc⟩ := h.toks.head (by omega)
 have ht : b.T[i]? = some (tokAt b.T i) := by
  unfold tokAt
  rw [List.getD_eq_getElem?_getD, List.getElem?_eq_getElem hi]
  rfl
 obtain ⟨h1, h2, h3⟩ := tcs_at ht
 refine ⟨bb, off, e, hlt, hc _ _ h1, ?_, ?_⟩
 ·rw [Nat.add_assoc]; exact hc _ _ h2
 ·rw [Nat.add_assoc]; exact hc _ _ h3
theorem Fq.own (hrb : Blk w b.pB 86 (psCells b R s).toArray) (hb : b.base ≤ b.pB) (ht : Turn w w' (some b.pB)) (hw : Bd b w) (ho : ∀ g ∈ b.out, g ≠ b.pB) : Fq b w w' := by
 refine ⟨below_turn ht hw.1 hb, fun g t cs hB _ _ _ _ a5 => hB.turn ht ?_, fun g hg => ht.block g (hw.2 g hg) (fun e => ho g hg (by injection e))⟩
 intro e
 injection e with e
 subst e
 have e := (show w.heap[b.pB]? = _ from hrb).symm.trans (show w.heap[b.pB]? = _ from hB)
 simp only [Option.some.injEq, Obj.cells.injEq] at e
 exact a5 e.2.1.symm
theorem PS.num (h : PS w b s) (hN : s'.N = s.N) (ha : s.at_ ≤ s'.at_) (hl : s'.at_ < b.T.length) (ht : Turn w w' (some b.pB)) (hc : ∀ R, Blk w b.pB 86 (psCells b R s).toArray → Blk w' b.pB 86 (psCells b R s').toArray) :
  PS w' b s' ∧ Fq b w w' := by
 obtain ⟨R, h1, h2, h3⟩ := h.mem
 have f := Fq.own h2 h.hb ht h.hw h.outs
 refine ⟨⟨h.hb, h.hw.mono ht.size, h.outs, h.toks.below f.1, h.tok, h.few, h.brief, h.hc, hl, by rw [hN]; exact h.ok.mono (by omega), R, by rw [hN]; exact h1.turn h2 ty_P ht, hc R h2, h3⟩, f⟩
theorem ps_set {j : Nat} {u : Value} (hs : (psCells b R s).set j u = psCells b R s') (h : Blk w b.pB 86 (psCells b R s).toArray) : Blk (w.setCell ⟨b.pB, j, none⟩ u) b.pB 86 (psCells b R s').toArray := by
 have := h.set_ j u
 rw [← hs]
 simpa using this
theorem PS.setAt (h : PS w b s) {a : Nat} (v : Int) (hv : v = (a : Int)) (ha : s.at_ ≤ a) (hl : a < b.T.length) : PS (w.setCell ⟨b.pB, 1, none⟩ (.int .i64 v)) b { s with at_ := a } ∧ Fq b w (w.setCell ⟨b.pB, 1, none⟩ (.int .i64 v)) := by
 subst hv
 exact h.num (s' := { s with at_ := a }) rfl ha hl (Blk.setTurn w b.pB 1 _) fun R hb => ps_set (s := s) rfl hb
end
section
variable {P : Program} {ops : Array Oper} {a : Act} {w : World} {Q : Exit → Act → World → Prop} {o : Oper} {g : Nat} {t : TypeId} {cs : Array Value} {xs : List Value}
theorem st_st {K : Act → World → Prop} {F : Prop} (hgd : o.guard = none) (ty : TypeId) (x y : Operand) (ho : o.op = .store ty x y) (hx : a.eval x = .pointer (some ⟨g, 0, none⟩)) (hy : a.eval y = .agg xs.toArray) (h : Blk w g t cs) (hsz : cs.size = xs.length)
  (hi : (P.info? ty).map (·.size) = some xs.length) (h1 : ∀ u ∈ xs, u.oneCell' = true) (hK : ∀ w', Blk w' g t xs.toArray → Turn w w' (some g) → K (a.put o.dst undef) w') :
  if Region.wanted o (yielded ops a.tmps) = true then Oper.wp P o a w K Q else F := by
 have hw : Region.wanted o (yielded ops a.tmps) = true := by simp [Region.wanted, hgd]
 rw [if_pos hw]
 unfold Oper.wp execOp
 simp only [ho, hx, hy, Sem.run_bind, run_st h hsz hi h1, Result.andThen_ok]
 exact hK _ (h.setRow xs) (Turn.setRow w g _)
end
theorem ptok_any {w : World} {b : QB} {s : St} (h : PS w b s) :
  Calls Tryz.prog 51 #[.pointer (some ⟨b.pB, 0, none⟩)] w fun e w' => e = .returned (tkV (tokAt b.T s.at_)) ∧ Turn w w' none := by
 obtain ⟨t, ht⟩ : ∃ t, t = tokAt b.T s.at_ := ⟨_, rfl⟩
 rw [← ht]
 have HT := hid ht
 clear ht
 have hat := h.at_
 have hfew := h.few
 go_enter Tryz.func51, Tryz.ntmps51
 go_wp2_with (refine wp_al rfl 90 rfl _ zTok ?_; intro g1 w1 hg1 hb1 ht1)
 have h1 := h.turn0 ht1
 obtain ⟨R, _, hrb, p0, p1, _, _, _, hf⟩ := h1.opn
 obtain ⟨bb, off, hA0, hbb, t0, t1, t2⟩ := h1.tk hat
 rw [← HT.out] at t0 t1 t2
 rw [hA0] at p0
 have hl1 := hrb.lt
 have hl2 := World.block_lt_of_cell? w1 _ t0
 have hb1 : Blk w1 g1 90 tz.toArray := hb1
 have hbd := hb1.drew
 refine wp_region_noPanic ?_
 refine wp_region_held_drew (S := (fun W => W.cell? ⟨b.pB, 0, none⟩ = some (.slice (some ⟨bb, off, none⟩) b.T.length b.c0) ∧ W.cell? ⟨b.pB, 1, none⟩ = some (.int .i64 (s.at_ : Int)) ∧ W.cell? ⟨bb, off + s.at_ * 3, none⟩ = some (.int .i64 (t.k : Int)) ∧ W.cell? ⟨bb, off + s.at_ * 3 + 1, none⟩ = some (.string (txt t.s)) ∧ W.cell? ⟨bb, off + s.at_ * 3 + 2, none⟩ = some (.int .i64 (t.at_ : Int)))) (by kernel_rfl) (⟨p0, p1, t0, t1, t2⟩) (fun hHeld => ?_)
 (first | refine tkN 0 ?_ | refine tkY 0 _ ?_); (try simp only [Act.put, zs])
 (first | refine tkN 1 ?_ | refine tkY 1 _ ?_); (try simp only [Act.put, zs])
 (first | refine tkN 2 ?_ | refine tkY 2 _ ?_); (try simp only [Act.put, zs])
 (first | refine tkN 3 ?_ | refine tkY 3 _ ?_); (try simp only [Act.put, zs])
 (first | refine tkN 4 ?_ | refine tkY 4 _ ?_); (try simp only [Act.put, zs])
 (first | refine tkN 5 ?_ | refine tkY 5 _ ?_); (try simp only [Act.put, zs])
 (first | refine tkN 6 ?_ | refine tkY 6 _ ?_); (try simp only [Act.put, zs])
 (first | refine tkN 7 ?_ | refine tkY 7 _ ?_); (try simp only [Act.put, zs])
 (first | refine tkN 8 ?_ | refine tkY 8 _ ?_); (try simp only [Act.put, zs])
 (first | refine tkN 9 ?_ | refine tkY 9 _ ?_); (try simp only [Act.put, zs])
 refine wpAnyH_ready (rs := [10]) (by kernel_rfl) (by simp) ?_
 refine AllReadyH.cons rfl (fun K hK => ?_) AllReadyH.nil
 refine st_st (xs := tc t) rfl 90 _ _ rfl rfl rfl hbd rfl szTok (tc_one t) ?_
 intro w2 hb2 ht2
 have hne : g1 < w.heap.size + 1 := by omega
 have hb1l := hb1.lt
 have T2 : Turn w1 w2 (some g1) := (Turn.refl w1 (some g1)).drew.trans ht2
 have n1 : b.pB ≠ g1 := fun e => by subst e; have := (show w1.heap[b.pB]? = _ from hrb).symm.trans (show w1.heap[b.pB]? = _ from hb1); simp at this
 have n2 : bb ≠ g1 := by have := h.hw.1; omega
 have m1 : some b.pB ≠ some g1 := fun e => n1 (by injection e)
 have m2 : some bb ≠ some g1 := fun e => n2 (by injection e)
 have k0 := (T2.cell (a := ⟨b.pB, 0, none⟩) hl1 m1).trans p0
 have k1 := (T2.cell (a := ⟨b.pB, 1, none⟩) hl1 m1).trans p1
 have k2 := (T2.cell (a := ⟨bb, off + s.at_ * 3, none⟩) hl2 m2).trans t0
 have k3 := (T2.cell (a := ⟨bb, off + s.at_ * 3 + 1, none⟩) hl2 m2).trans t1
 have k4 := (T2.cell (a := ⟨bb, off + s.at_ * 3 + 2, none⟩) hl2 m2).trans t2
 refine hK.out _ _ (⟨k0, k1, k2, k3, k4⟩) (fun hHeld => ?_)
 clear hK K
 (try simp only [Act.put, zs])
 refine wpAnyH_done (by kernel_rfl) ?_ _
 refine NoPanic.normal ?_
 clear hHeld
 go_wp2
 refine ret_cell Tryz.results51 rfl rfl hb2 Tryz.underlying90 rfl szTok ⟨rfl, ht1.new T2 (fun q e => by injection e with e; omega)⟩
def Uq (b : QB) (w : World) (s : St) (e : Ending) (w' : World) : Prop := e = .returned (.tuple #[]) ∧ PS w' b s ∧ Turn w w' (some b.pB)
theorem PS.fq {w w' : World} {b : QB} {s : St} (h : PS w b s) (ht : Turn w w' (some b.pB)) : Fq b w w' := by
 obtain ⟨R, _, hrb, _⟩ := h.mem
 exact Fq.own hrb h.hb ht h.hw h.outs
def Two2 (b : QB) (w w' : World) : Prop := w'.cell? ⟨b.pB, 2, none⟩ = w.cell? ⟨b.pB, 2, none⟩
theorem pbad_two {w : World} {b : QB} {s : St} (h : PS w b s) (is : Bool) (e : Nat) :
  Calls Tryz.prog 50 #[.pointer (some ⟨b.pB, 0, none⟩), .bool is, .int .i64 (e : Int)] w fun en w' => Uq b w (mBad b.T is e s) en w' ∧ Two2 b w w' := by
 obtain ⟨R, hN, hrb, p0, p1, p2, p3, p4, hf⟩ := h.opn
 have hw := h.hw
 by_cases hc : is = true ∧ s.why = 0
 case neg =>
  have HM := hid (show mBad b.T is e s = s by unfold mBad; rw [if_neg hc])
  have fin : Uq b w (mBad b.T is e s) (.returned (.tuple #[])) w ∧ Two2 b w w := ⟨⟨rfl, by rw [HM.out]; exact h, Turn.refl _ _⟩, rfl⟩
  have HF := hid fin
  clear fin
  cases is with
  | false =>
   clear hc
   go_enter Tryz.func50, Tryz.ntmps50
   go_wp2
   go_end0
   exact HF.out
  | true =>
   have e1 : ((s.why : Int) == 0) = false := by rw [beq_eq_false_iff_ne]; intro q; exact hc ⟨rfl, by omega⟩
   clear hc
   go_enter Tryz.func50, Tryz.ntmps50
   go_wp2
   go_end0
   exact HF.out
 case pos =>
  obtain ⟨rfl, hz⟩ := hc
  obtain ⟨t, ht⟩ : ∃ t, t = tokAt b.T s.at_ := ⟨_, rfl⟩
  have hat := h.at_
  have hfew := h.few
  obtain ⟨bb, off, hA0, hbb, t0, t1, t2⟩ := h.tk hat
  rw [← ht] at t2
  have HM := hid (show mBad b.T true e s = { s with why := e, bad := t.at_ } by rw [ht]; exact mBad_yes e hz)
  clear ht t0 t1
  rw [hA0] at p0
  have e1 : ((s.why : Int) == 0) = true := by rw [beq_iff_eq]; omega
  have hl1 := hrb.lt
  have f3 := hf 3
  have f4 := hf 4
  have n2 : bb ≠ b.pB := by have := h.hb; omega
  go_enter Tryz.func50, Tryz.ntmps50
  go_wp2
  refine wp_region_noPanic ?_
  refine wp_region_held_drew (S := (fun W => W.cell? ⟨b.pB, 0, none⟩ = some (.slice (some ⟨bb, off, none⟩) b.T.length b.c0) ∧ W.cell? ⟨b.pB, 1, none⟩ = some (.int .i64 (s.at_ : Int)) ∧ W.cell? ⟨bb, off + s.at_ * 3 + 2, none⟩ = some (.int .i64 (t.at_ : Int)))) (by kernel_rfl) (⟨p0, p1, t2⟩) (fun hHeld => ?_)
  (first | refine tkN 0 ?_ | refine tkY 0 _ ?_); (try simp only [Act.put, zs])
  (first | refine tkN 1 ?_ | refine tkY 1 _ ?_); (try simp only [Act.put, zs])
  (first | refine tkN 2 ?_ | refine tkY 2 _ ?_); (try simp only [Act.put, zs])
  (first | refine tkN 3 ?_ | refine tkY 3 _ ?_); (try simp only [Act.put, zs])
  (first | refine tkN 4 ?_ | refine tkY 4 _ ?_); (try simp only [Act.put, zs])
  (first | refine tkN 5 ?_ | refine tkY 5 _ ?_); (try simp only [Act.put, zs])
  (first | refine tkN 6 ?_ | refine tkY 6 _ ?_); (try simp only [Act.put, zs])
  (first | refine tkN 7 ?_ | refine tkY 7 _ ?_); (try simp only [Act.put, zs])
  (first | refine tkN 8 ?_ | refine tkY 8 _ ?_); (try simp only [Act.put, zs])
  (first | refine tkN 9 ?_ | refine tkY 9 _ ?_); (try simp only [Act.put, zs])
  (first | refine tkN 10 ?_ | refine tkY 10 _ ?_); (try simp only [Act.put, zs])
  (first | refine tkN 11 ?_ | refine tkY 11 _ ?_); (try simp only [Act.put, zs])
  (first | refine tkN 12 ?_ | refine tkY 12 _ ?_); (try simp only [Act.put, zs])
  (first | refine tkN 13 ?_ | refine tkY 13 _ ?_); (try simp only [Act.put, zs])
  (first | refine tkN 14 ?_ | refine tkY 14 _ ?_); (try simp only [Act.put, zs])
  (first | refine tkN 15 ?_ | refine tkY 15 _ ?_); (try simp only [Act.put, zs])
  refine wpAnyH_ready (rs := [16]) (by kernel_rfl) (by simp) ?_; refine AllReadyH.cons rfl (fun K hK => ?_) AllReadyH.nil
  go_simp
  obtain ⟨w1, hw1⟩ : ∃ w1, w1 = (w.setCell ⟨b.pB, 3, none⟩ (.int .i64 (e : Int))).drew := ⟨_, rfl⟩
  have T1 : Turn w w1 (some b.pB) := by rw [hw1]; exact (Blk.setTurn _ _ _ _).drew
  have b1 : Blk w1 b.pB 86 (psCells b R { s with why := e }).toArray := by rw [hw1]; exact (ps_set (s := s) rfl hrb).drew
  rw [← hw1]
  clear hw1
  have m2 : some bb ≠ some b.pB := fun e => n2 (by injection e)
  have c0 : w1.cell? ⟨b.pB, 0, none⟩ = some (.slice (some ⟨bb, off, none⟩) b.T.length b.c0) := (b1.cell 0).trans (by rw [← hA0]; rfl)
  have c1 : w1.cell? ⟨b.pB, 1, none⟩ = some (.int .i64 (s.at_ : Int)) := b1.cell 1
  have hl2 := World.block_lt_of_cell? w _ t2
  have c2 := (T1.cell (a := ⟨bb, off + s.at_ * 3 + 2, none⟩) hl2 m2).trans t2
  have g4 := b1.frozen 4
  have d4 : w1.cell? ⟨b.pB, 4, none⟩ = some (.int .i64 (s.bad : Int)) := b1.cell 4
  refine hK.out _ _ (⟨c0, c1, c2⟩) (fun hHeld => ?_)
  clear hK K
  (try simp only [Act.put, zs])
  (first | refine tkN 17 ?_ | refine tkY 17 _ ?_); (try simp only [Act.put, zs])
  (first | refine tkN 18 ?_ | refine tkY 18 _ ?_); (try simp only [Act.put, zs])
  refine wpAnyH_ready (rs := [19]) (by kernel_rfl) (by simp) ?_; refine AllReadyH.cons rfl (fun K hK => ?_) AllReadyH.nil
  go_simp
  obtain ⟨w2, hw2⟩ : ∃ w2, w2 = w1.setCell ⟨b.pB, 4, none⟩ (.int .i64 (t.at_ : Int)) := ⟨_, rfl⟩
  have T2 : Turn w1 w2 (some b.pB) := by rw [hw2]; exact Blk.setTurn _ _ _ _
  have b2 : Blk w2 b.pB 86 (psCells b R { s with why := e, bad := t.at_ }).toArray := by rw [hw2]; exact ps_set (s := { s with why := e }) rfl b1
  rw [← hw2]
  clear hw2
  have c0 : w2.cell? ⟨b.pB, 0, none⟩ = some (.slice (some ⟨bb, off, none⟩) b.T.length b.c0) := (b2.cell 0).trans (by rw [← hA0]; rfl)
  have c1 : w2.cell? ⟨b.pB, 1, none⟩ = some (.int .i64 (s.at_ : Int)) := b2.cell 1
  have c2 := (T2.cell (a := ⟨bb, off + s.at_ * 3 + 2, none⟩) (Nat.lt_of_lt_of_le hl2 T1.size) m2).trans c2
  refine hK.out _ _ (⟨c0, c1, c2⟩) (fun hHeld => ?_)
  clear hK K
  (try simp only [Act.put, zs])
  refine wpAnyH_done (by kernel_rfl) ?_ _
  refine NoPanic.normal ?_
  clear hHeld
  go_wp2
  go_end0
  have hk : ∀ R', Blk w b.pB 86 (psCells b R' s).toArray → Blk w2 b.pB 86 (psCells b R' { s with why := e, bad := t.at_ }).toArray := by
   intro R' hb
   have : psCells b R' s = psCells b R s := by
    have e1 := (show w.heap[b.pB]? = _ from hb).symm.trans (show w.heap[b.pB]? = _ from hrb)
    simp only [Option.some.injEq, Obj.cells.injEq] at e1
    simpa using e1.1
   have e2 : (R' none).v = (R none).v := by
    have := congrArg (fun l => l[2]?) this
    simpa [psCells] using this
   have : psCells b R' { s with why := e, bad := t.at_ } = psCells b R { s with why := e, bad := t.at_ } := by unfold psCells; rw [e2]
   rw [this]
   exact b2
  rw [HM.out]
  obtain ⟨k1, k2⟩ := h.num (w' := w2) (s' := { s with why := e, bad := t.at_ }) rfl (Nat.le_refl _) hat (T1.trans T2) hk
  exact ⟨⟨rfl, k1, T1.trans T2⟩, (b2.cell 2).trans (hrb.cell 2).symm⟩
theorem pbad_any {w : World} {b : QB} {s : St} (h : PS w b s) (is : Bool) (e : Nat) :
  Calls Tryz.prog 50 #[.pointer (some ⟨b.pB, 0, none⟩), .bool is, .int .i64 (e : Int)] w (Uq b w (mBad b.T is e s)) := (pbad_two h is e).mono fun _ _ q => q.1
theorem pon_any {w : World} {b : QB} {s : St} (h : PS w b s) :
  Calls Tryz.prog 82 #[.pointer (some ⟨b.pB, 0, none⟩)] w (Uq b w (mOn b.T s)) := by
 obtain ⟨R, hN, hrb, p0, p1, p2, p3, p4, hf⟩ := h.opn
 have hw := h.hw
 have hat := h.at_
 have hfew := h.few
 have hf1 := hf 1
 by_cases hz : s.why = 0
 case neg =>
  have HM := hid (mOn_stuck (T := b.T) hz)
  have e1 : ((s.why : Int) == 0) = false := by rw [beq_eq_false_iff_ne]; omega
  go_enter Tryz.func82, Tryz.ntmps82
  go_wp2_with (fail)
  go_quiet (fail)
  have hT : Turn w (w.drewN nq) none := (Turn.refl w none).drewN nq
  go_wp2
  go_end0
  rw [HM.out]
  exact ⟨rfl, h.turn0 hT, hT.any _⟩
 case pos =>
  have e1 : ((s.why : Int) == 0) = true := by rw [beq_iff_eq]; omega
  by_cases hl : s.at_ + 1 < b.T.length
  case neg =>
   have HM := hid (show mOn b.T s = s by unfold mOn; rw [if_neg fun x => hl x.2])
   have l1 : ¬((s.at_ : Int) + 1 < (b.T.length : Int)) := by omega
   clear hl
   go_enter Tryz.func82, Tryz.ntmps82
   go_wp2_with (fail)
   go_quiet (fail)
   have hT : Turn w (w.drewN nq) none := (Turn.refl w none).drewN nq
   go_wp2
   go_end0
   rw [HM.out]
   exact ⟨rfl, h.turn0 hT, hT.any _⟩
  case pos =>
   have HM := hid (mOn_more (T := b.T) hz hl)
   have l1 : (s.at_ : Int) + 1 < (b.T.length : Int) := by omega
   go_enter Tryz.func82, Tryz.ntmps82
   go_wp2_with (fail)
   go_quiet (fail)
   have hT : Turn w (w.drewN nq) none := (Turn.refl w none).drewN nq
   have h1 := h.turn0 hT
   obtain ⟨h3, f3⟩ := h1.setAt (a := s.at_ + 1) ((s.at_ : Int) + 1) (by omega) (by omega) hl
   go_wp2
   go_end0
   rw [HM.out]
   exact ⟨rfl, h3, (hT.any _).trans (Blk.setTurn _ _ _ _)⟩
open Go.RowKit
theorem rlow_any (c : UInt8) (w : World) : Calls Tryz.prog 75 #[.int .u8 (c.toNat : Int)] w fun e w' => e = .returned (.bool (wLow c)) ∧ w = w' := by
 rcases wLow_cases c with ⟨h1, h⟩ | ⟨h1, h2, h⟩ | ⟨h0, h1, h⟩
 all_goals
  have H := hid h
  clear h
  go_enter Tryz.func75, Tryz.ntmps75
  go_wp2
  all_goals go_ret
  all_goals exact ⟨by rw [H.out]; first | rfl | (refine congrArg (fun b => Ending.returned (.bool b)) ?_; exact decide_eq_false (by omega)), rfl⟩
theorem rnum_any (c : UInt8) (w : World) : Calls Tryz.prog 76 #[.int .u8 (c.toNat : Int)] w fun e w' => e = .returned (.bool (wNum c)) ∧ w = w' := by
 rcases wNum_cases c with ⟨h1, h⟩ | ⟨h1, h2, h⟩ | ⟨h0, h1, h⟩
 all_goals
  have H := hid h
  clear h
  go_enter Tryz.func76, Tryz.ntmps76
  go_wp2
  all_goals go_ret
  all_goals exact ⟨by rw [H.out]; first | rfl | (refine congrArg (fun b => Ending.returned (.bool b)) ?_; exact decide_eq_false (by omega)), rfl⟩
theorem rname_any (s : ByteArray) (l : List UInt8) (w : World) (hs : Tx s l) : Calls Tryz.prog 120 #[.string s] w fun e w' => e = .returned (.bool (wName l)) ∧ w = w' := by
 obtain ⟨n, hn⟩ : ∃ n, l.length = n := ⟨_, rfl⟩
 have hsz : s.size = n := hs.size.trans hn
 have hli := hs.list
 cases l with
 | nil =>
  have h0 : s.toList.isEmpty = true := by rw [hli]; rfl
  have h1 : s.toList = [] := hli
  clear hli
  go_enter Tryz.func120, Tryz.ntmps120
  go_wp2_with fail
  go_ret
  exact ⟨rfl, rfl⟩
 | cons c r =>
  have h0 : s.toList.isEmpty = false := by rw [hli]; rfl
  have h1 : ¬ s.toList = [] := by rw [hli]; simp
  have hc0 := hs.at_ (i := 0) (c := c) rfl
  have hnp : 0 < n := by rw [← hn]; simp
  obtain ⟨l, hl⟩ : ∃ l, l = c :: r := ⟨_, rfl⟩
  have hl0 : l[0]? = some c := by rw [hl]; rfl
  rw [← hl] at hs hn hli
  rw [← hl]
  clear hl hli
  by_cases hlong : 40 < n
  ·have H := hid (wName_long (l := l) (by omega))
   have hlong2 : (40 : Int) < n := by omega
   go_enter Tryz.func120, Tryz.ntmps120
   go_wp2_with fail
   go_ret
   exact ⟨by rw [H.out]; rfl, rfl⟩
  ·have hlong2 : (n : Int) ≤ 40 := by omega
   cases hlow : wLow c with
   | false =>
    have H := hid (wName_first hl0 hlow)
    have HL := hid hlow
    clear hlow
    go_enter Tryz.func120, Tryz.ntmps120
    go_wp2_with (go_at_call 75; refine (rlow_any c _).mono ?_; rintro e w' ⟨rfl, rfl⟩; rw [HL.out])
    go_ret
    exact ⟨by rw [H.out]; rfl, rfl⟩
   | true =>
    have H := hid (wName_in hl0 hlow (by omega))
    have HL := hid hlow
    clear hlow
    go_enter Tryz.func120, Tryz.ntmps120
    go_wp2_with (go_at_call 75; refine (rlow_any c _).mono ?_; rintro e w' ⟨rfl, rfl⟩; rw [HL.out])
    go_loopw [3] (fun i wr => ∃ j : Nat, j ≤ n ∧ i = .int .i64 (j : Int) ∧ (l.take j).all wIn = true ∧ w = wr) (fun i _ => (n - intOf i).toNat)
    case atStart => exact ⟨0, by omega, rfl, by simp, rfl⟩
    case round =>
     obtain ⟨j, hj, rfl, hall, rfl⟩ := hrel
     by_cases hjn : j < n
     ·obtain ⟨d, hd⟩ : ∃ d, l[j]? = some d := ⟨l[j]'(by omega), List.getElem?_eq_getElem (by omega)⟩
      have hcj := hs.at_ hd
      have hin := all_next (p := wIn) hd
      rw [hall, Bool.true_and] at hin
      have hno := all_not (p := wIn) hd
      have HI := hid hin
      have HNO := hid hno
      clear hin hno hall
      have hd256 := d.toNat_lt
      have hw : wIn d = (wLow d || wNum d || decide (d.toNat = 95)) := rfl
      cases h1 : wLow d with
      | true =>
       rw [h1, Bool.true_or, Bool.true_or] at hw
       have H1 := hid h1
       have HW := hid hw
       clear h1 hw
       go_wp2_with (go_at_call 75; refine (rlow_any d _).mono ?_; rintro e w' ⟨rfl, rfl⟩; rw [H1.out])
       refine ⟨⟨j + 1, by omega, by go_num, by rw [HI.out, HW.out], trivial⟩, ?_⟩
       simp [intOf]; omega
      | false =>
       cases h2 : wNum d with
       | true =>
        rw [h1, h2, Bool.false_or, Bool.true_or] at hw
        have H1 := hid h1
        have H2 := hid h2
        have HW := hid hw
        clear h1 h2 hw
        go_wp2_with (first | (go_at_call 75; refine (rlow_any d _).mono ?_; rintro e w' ⟨rfl, rfl⟩; rw [H1.out]) | (go_at_call 76; refine (rnum_any d _).mono ?_; rintro e w' ⟨rfl, rfl⟩; rw [H2.out]))
        refine ⟨⟨j + 1, by omega, by go_num, by rw [HI.out, HW.out], trivial⟩, ?_⟩
        simp [intOf]; omega
       | false =>
        rw [h1, h2, Bool.false_or, Bool.false_or] at hw
        have H1 := hid h1
        have H2 := hid h2
        have HW := hid hw
        clear h1 h2 hw
        by_cases h95 : d.toNat = 95
        ·have e1 : ((d.toNat : Int) != 95) = false := by rw [h95]; rfl
         have e2 : ((d.toNat : Int) == 95) = true := by rw [h95]; rfl
         have HT : Hid (decide (d.toNat = 95) = true) := hid (decide_eq_true h95)
         clear h95
         go_wp2_with (first | (go_at_call 75; refine (rlow_any d _).mono ?_; rintro e w' ⟨rfl, rfl⟩; rw [H1.out]) | (go_at_call 76; refine (rnum_any d _).mono ?_; rintro e w' ⟨rfl, rfl⟩; rw [H2.out]))
         refine ⟨⟨j + 1, by omega, by go_num, by rw [HI.out, HW.out, HT.out], trivial⟩, ?_⟩
         simp [intOf]; omega
        ·have e1 : ((d.toNat : Int) != 95) = true := by rw [bne_iff_ne]; omega
         have e2 : ((d.toNat : Int) == 95) = false := by rw [beq_eq_false_iff_ne]; omega
         have HF := hid (HNO.out (by rw [HW.out]; exact decide_eq_false h95))
         clear h95
         go_wp2_with (first | (go_at_call 75; refine (rlow_any d _).mono ?_; rintro e w' ⟨rfl, rfl⟩; rw [H1.out]) | (go_at_call 76; refine (rnum_any d _).mono ?_; rintro e w' ⟨rfl, rfl⟩; rw [H2.out]))
         go_ret
         exact ⟨by rw [H.out, HF.out]; rfl, rfl⟩
     ·obtain rfl : j = n := by omega
      rw [List.take_of_length_le (by omega)] at hall
      have HA := hid hall
      clear hall
      go_wp2
      go_ret
      exact ⟨by rw [H.out, HA.out]; rfl, rfl⟩
theorem rnumber_any (s : ByteArray) (l : List UInt8) (w : World) (hs : Tx s l) (hb : s.size ≤ 140737488355328) : Calls Tryz.prog 123 #[.string s] w (NmPost l w) := by
 obtain ⟨n, hn⟩ : ∃ n, l.length = n := ⟨_, rfl⟩
 have hsz : s.size = n := hs.size.trans hn
 rw [hsz] at hb
 have HLI := hid hs.list
 go_enter Tryz.func123, Tryz.ntmps123
 go_wp2
 go_loopw [4, 5] (fun v i wr => ∃ j m : Nat, j ≤ n ∧ i = .int .i64 (j : Int) ∧ v = .int .i64 (m : Int) ∧ Hid (wNumAt (l.take j) = m) ∧ m ≤ 40969 ∧ Hid ((l.take j).all wNum = true) ∧ (j ≤ 1 ∨ l[0]? ≠ some 48) ∧ w = wr) (fun _ i _ => (n - intOf i).toNat)
 case atStart => exact ⟨0, 0, by omega, rfl, rfl, hid rfl, by omega, hid (by simp), .inl (by omega), rfl⟩
 case round =>
  obtain ⟨j, m, hj, rfl, rfl, HM, hm, HA, hh, rfl⟩ := hrel
  by_cases hjn : j < n
  ·obtain ⟨d, hd⟩ : ∃ d, l[j]? = some d := ⟨l[j]'(by omega), List.getElem?_eq_getElem (by omega)⟩
   have hcj := hs.at_ hd
   have HD := hid hd
   clear hd
   rcases wNum_cases d with ⟨d1, h2⟩ | ⟨d1, d2, h2⟩ | ⟨d1, d2, h2⟩
   case inl =>
    have H2 := hid h2
    clear h2
    go_wp2_with (go_at_call 76; refine (rnum_any d _).mono ?_; rintro e w' ⟨rfl, rfl⟩; rw [H2.out])
    go_ret2
    exact nm_no (wOk_not HD.out H2.out)
   case inr.inr =>
    have H2 := hid h2
    clear h2
    go_wp2_with (go_at_call 76; refine (rnum_any d _).mono ?_; rintro e w' ⟨rfl, rfl⟩; rw [H2.out])
    go_ret2
    exact nm_no (wOk_not HD.out H2.out)
   case inr.inl =>
    have H2 := hid h2
    clear h2
    by_cases hm4 : 4096 < m
    ·have hm4i : (4096 : Int) < m := by omega
     go_wp2_with (go_at_call 76; refine (rnum_any d _).mono ?_; rintro e w' ⟨rfl, rfl⟩; rw [H2.out])
     go_ret2
     exact nm_no (wOk_great (j := j) (by rw [HM.out]; exact hm4))
    ·have hm4i : (m : Int) ≤ 4096 := by omega
     by_cases hz : j = 1 ∧ m = 0
     ·obtain ⟨rfl, rfl⟩ := hz
      go_wp2_with (go_at_call 76; refine (rnum_any d _).mono ?_; rintro e w' ⟨rfl, rfl⟩; rw [H2.out])
      go_ret2
      refine nm_no (wOk_nought ?_ (by omega))
      obtain ⟨c, hc⟩ : ∃ c, l[0]? = some c := ⟨l[0]'(by omega), List.getElem?_eq_getElem (by omega)⟩
      have h1 := HM.out
      have h3 := HA.out
      rw [wNumAt_next hc] at h1
      rw [all_next hc, Bool.and_eq_true] at h3
      have h4 := h3.2
      unfold wNum at h4
      rw [decide_eq_true_iff] at h4
      simp only [List.take_zero, wNumAt, List.foldl_nil, Nat.zero_mul, Nat.zero_add] at h1
      rw [hc]
      congr 1
      apply UInt8.toNat_inj.1
      show c.toNat = 48
      omega
     ·have hh2 : j + 1 ≤ 1 ∨ l[0]? ≠ some 48 := by
       rcases Nat.lt_or_ge j 1 with h | h
       ·exact .inl (by omega)
       ·rcases hh with hh | hh
        ·obtain rfl : j = 1 := by omega
         have hm0 : m ≠ 0 := fun e => hz ⟨rfl, e⟩
         refine .inr fun e => hm0 ?_
         have h1 := HM.out
         rw [wNumAt_next e] at h1
         rw [← h1]
         rfl
        ·exact .inr hh
      have hzb : ((j : Int) == 1) = false ∨ (((j : Int) == 1) = true ∧ ((m : Int) == 0) = false) := by
       by_cases h1 : j = 1
       ·right
        refine ⟨by rw [h1]; rfl, ?_⟩
        rw [beq_eq_false_iff_ne]
        intro e
        exact hz ⟨h1, by omega⟩
       ·left
        rw [beq_eq_false_iff_ne]
        omega
      clear hz hh
      have HH := hid hh2
      clear hh2
      rcases hzb with hz1 | ⟨hz1, hz2⟩
      all_goals
       go_wp2_with (go_at_call 76; refine (rnum_any d _).mono ?_; rintro e w' ⟨rfl, rfl⟩; rw [H2.out])
       refine ⟨⟨j + 1, m * 10 + (d.toNat - 48), by omega, by go_num, by go_num, hid (by rw [wNumAt_next HD.out, HM.out]), by omega, hid (by rw [all_next HD.out, HA.out, H2.out]; rfl), HH.out, trivial⟩, ?_⟩
       simp [intOf]; omega
  ·obtain rfl : j = n := by omega
   have hfull : l.take j = l := List.take_of_length_le (by omega)
   by_cases hj0 : j = 0
   ·have hl0 : l = [] := List.eq_nil_of_length_eq_zero (by omega)
    have e0 : s.toList.isEmpty = true := by rw [HLI.out, hl0]; rfl
    have e1 : s.toList = [] := by rw [HLI.out, hl0]
    have HO := hid (show wOk l = false by rw [hl0]; rfl)
    clear hl0 hfull hj0
    go_wp2
    go_ret2
    exact nm_no HO.out
   ·have hl0 : l ≠ [] := fun e => hj0 (by rw [← hn, e]; rfl)
    have e0 : s.toList.isEmpty = false := by
     rw [HLI.out]
     cases l with
     | nil => exact absurd rfl hl0
     | cons c r => rfl
    have e1 : ¬ s.toList = [] := by rw [HLI.out]; exact hl0
    by_cases hm4 : 4096 < m
    ·have hm4i : (4096 : Int) < m := by omega
     have HO := hid (wOk_great (l := l) (j := j) (by rw [HM.out]; exact hm4))
     clear hl0 hfull
     go_wp2
     go_ret2
     exact nm_no HO.out
    ·have hm4i : (m : Int) ≤ 4096 := by omega
     have h1 := HM.out
     have h2 := HA.out
     rw [hfull] at h1 h2
     have HO := hid (wOk_yes hl0 h2 (hh.imp (fun h => by omega) id) (by omega))
     have H1 := hid h1
     clear hl0 hfull h1 h2 hh
     go_wp2
     go_ret2
     exact ⟨by rw [HO.out, H1.out]; rfl, rfl⟩
open Go.RowKit
theorem fld0 (k a : Int) (s : ByteArray) : ∀ w, (Instr.field 90 (.agg #[.int .i64 k, .string s, .int .i64 a]) 0).run Tryz.prog w = .ok (.int .i64 k) w := fun _ => by kernel_rfl
theorem fld1 (k a : Int) (s : ByteArray) : ∀ w, (Instr.field 90 (.agg #[.int .i64 k, .string s, .int .i64 a]) 1).run Tryz.prog w = .ok (.string s) w := fun _ => by kernel_rfl
section
variable {w : World} {b : QB} {s : St}
theorem ptok_t {t : Tok} (HT : Hid (t = tokAt b.T s.at_)) (h : PS w b s) :
  Calls Tryz.prog 51 #[.pointer (some ⟨b.pB, 0, none⟩)] w fun e w' => e = .returned (.agg #[.int .i64 (t.k : Int), .string (txt t.s), .int .i64 (t.at_ : Int)]) ∧ Turn w w' none := by
 rw [HT.out]; exact ptok_any h
theorem mHere_no {T : List Tok} {x : List UInt8} (h : ¬((tokAt T s.at_).k = 2 ∧ (tokAt T s.at_).s = x)) : mHere T x s = false := by
 cases hh : mHere T x s with
 | false => rfl
 | true => exact absurd ((mHere_iff _).1 hh) h
theorem psign_any (h : PS w b s) (x : List UInt8) :
  Calls Tryz.prog 83 #[.pointer (some ⟨b.pB, 0, none⟩), .string (txt x)] w (Uq b w (mSg b.T x s)) := by
 have hw := h.hw
 have hT := Turn.refl w none
 obtain ⟨t, ht⟩ : ∃ t, t = tokAt b.T s.at_ := ⟨_, rfl⟩
 have HT := hid ht
 have q0 := fld0 t.k t.at_ (txt t.s)
 have q1 := fld1 t.k t.at_ (txt t.s)
 by_cases hk : t.k = 2
 ·by_cases hx : t.s = x
  ·have HM := hid (show mSg b.T x s = mOn b.T (mBad b.T false 4 s) by unfold mSg; rw [(mHere_iff x).2 (by rw [← ht]; exact ⟨hk, hx⟩)]; rfl)
   have e1 : ((t.k : Int) != 2) = false := by rw [bne_eq_false_iff_eq]; omega
   have e2 : ((txt t.s).toList == (txt x).toList) = true := by rw [tx_beq]; simpa using hx
   clear ht hk hx
   go_enter Tryz.func83, Tryz.ntmps83
   go_wp2_with (first
    | (go_at_call 51; refine (ptok_t HT (h.turn0 hT)).mono ?_; rintro e w1 ⟨rfl, ht1⟩; have hT := hT.trans ht1)
    | (go_at_call 50; refine (pbad_any (h.turn0 hT) false 4).mono ?_; rintro e w2 ⟨rfl, h2, f2⟩)
    | (go_at_call 82; refine (pon_any h2).mono ?_; rintro e w3 ⟨rfl, h3, f3⟩))
   go_end0
   rw [HM.out]
   exact ⟨rfl, h3, ((hT.any _).trans f2).trans f3⟩
  ·have HM := hid (show mSg b.T x s = mOn b.T (mBad b.T true 4 s) by unfold mSg; rw [mHere_no (by rw [← ht]; exact fun q => hx q.2)]; rfl)
   have e1 : ((t.k : Int) != 2) = false := by rw [bne_eq_false_iff_eq]; omega
   have e2 : ((txt t.s).toList == (txt x).toList) = false := by rw [tx_beq]; simpa using hx
   clear ht hk hx
   go_enter Tryz.func83, Tryz.ntmps83
   go_wp2_with (first
    | (go_at_call 51; refine (ptok_t HT (h.turn0 hT)).mono ?_; rintro e w1 ⟨rfl, ht1⟩; have hT := hT.trans ht1)
    | (go_at_call 50; refine (pbad_any (h.turn0 hT) true 4).mono ?_; rintro e w2 ⟨rfl, h2, f2⟩)
    | (go_at_call 82; refine (pon_any h2).mono ?_; rintro e w3 ⟨rfl, h3, f3⟩))
   go_end0
   rw [HM.out]
   exact ⟨rfl, h3, ((hT.any _).trans f2).trans f3⟩
 ·have HM := hid (show mSg b.T x s = mOn b.T (mBad b.T true 4 s) by unfold mSg; rw [mHere_no (by rw [← ht]; exact fun q => hk q.1)]; rfl)
  have e1 : ((t.k : Int) != 2) = true := by rw [bne_iff_ne]; omega
  clear ht hk
  go_enter Tryz.func83, Tryz.ntmps83
  go_wp2_with (first
   | (go_at_call 51; refine (ptok_t HT (h.turn0 hT)).mono ?_; rintro e w1 ⟨rfl, ht1⟩; have hT := hT.trans ht1)
   | (go_at_call 50; refine (pbad_any (h.turn0 hT) true 4).mono ?_; rintro e w2 ⟨rfl, h2, f2⟩)
   | (go_at_call 82; refine (pon_any h2).mono ?_; rintro e w3 ⟨rfl, h3, f3⟩))
  go_end0
  rw [HM.out]
  exact ⟨rfl, h3, ((hT.any _).trans f2).trans f3⟩
theorem phere_any (h : PS w b s) (x : List UInt8) :
  Calls Tryz.prog 122 #[.pointer (some ⟨b.pB, 0, none⟩), .string (txt x)] w fun e w' => e = .returned (.bool (mHere b.T x s)) ∧ Turn w w' none := by
 have hw := h.hw
 have hT := Turn.refl w none
 obtain ⟨t, ht⟩ : ∃ t, t = tokAt b.T s.at_ := ⟨_, rfl⟩
 have HT := hid ht
 have q0 := fld0 t.k t.at_ (txt t.s)
 have q1 := fld1 t.k t.at_ (txt t.s)
 by_cases hk : t.k = 2
 ·have HM := hid (show mHere b.T x s = ((txt t.s).toList == (txt x).toList) by rw [tx_beq]; unfold mHere; rw [← ht, decide_eq_true hk, Bool.true_and])
  have e1 : ((t.k : Int) == 2) = true := by rw [beq_iff_eq]; omega
  clear ht hk
  go_enter Tryz.func122, Tryz.ntmps122
  go_wp2_with (go_at_call 51; refine (ptok_t HT (h.turn0 hT)).mono ?_; rintro e w1 ⟨rfl, ht1⟩; have hT := hT.trans ht1)
  go_ret
  exact ⟨by rw [HM.out]; rfl, hT⟩
 ·have HM := hid (show mHere b.T x s = false from mHere_no (by rw [← ht]; exact fun q => hk q.1))
  have e1 : ((t.k : Int) == 2) = false := by rw [beq_eq_false_iff_ne]; omega
  clear ht hk
  go_enter Tryz.func122, Tryz.ntmps122
  go_wp2_with (go_at_call 51; refine (ptok_t HT (h.turn0 hT)).mono ?_; rintro e w1 ⟨rfl, ht1⟩; have hT := hT.trans ht1)
  go_ret
  exact ⟨by rw [HM.out]; rfl, hT⟩
theorem pNm_is (t : Tok) : pNm t.tt = (decide (t.k = 0) && (wName t.s && !isKey t.s)) := by
 have h1 : pNm t.tt = (decide (t.k = 0) && wName t.s && (pWord t.s).isNone) := rfl
 rw [h1, ← key_eq, Bool.and_assoc]
 congr 1
 unfold keyW
 cases wName t.s <;> cases pWord t.s <;> rfl
theorem pname_any (h : PS w b s) :
  Calls Tryz.prog 79 #[.pointer (some ⟨b.pB, 0, none⟩)] w fun e w' => e = .returned (.string (txt (tokAt b.T s.at_).s)) ∧ PS w' b (mNm b.T s) ∧ Turn w w' (some b.pB) := by
 have hw := h.hw
 have hT := Turn.refl w none
 obtain ⟨t, ht⟩ : ∃ t, t = tokAt b.T s.at_ := ⟨_, rfl⟩
 have HT := hid ht
 have HM := hid (show mNm b.T s = mBad b.T (!(decide (t.k = 0) && (wName t.s && !isKey t.s))) 4 s by unfold mNm; rw [← ht, pNm_is])
 rw [← ht]
 clear ht
 have kn := fun w => rname_any (txt t.s) t.s w rfl
 have kk := fun w => rkey_any (txt t.s) t.s w rfl
 by_cases hk : t.k = 0
 ·have e1 : ((t.k : Int) != 0) = false := by rw [bne_eq_false_iff_eq]; omega
  rw [decide_eq_true hk, Bool.true_and] at HM
  clear hk
  cases hn : wName t.s with
  | false =>
   rw [hn] at HM kn
   clear hn
   go_enter Tryz.func79, Tryz.ntmps79
   go_wp2_with (first
    | (go_at_call 51; refine (ptok_t HT (h.turn0 hT)).mono ?_; rintro e w1 ⟨rfl, ht1⟩; have hT := hT.trans ht1)
    | (refine wp_var rfl rfl 90 _ _ rfl rfl rfl rfl zTok (fun _ => rfl) (xs := tc t) (fun _ => rfl) rfl szTok (tc_one t) ?_; intro g2 w2 hgg2 hb2 ht2; have c1 := tok1 hb2; have c0 := tok0 hb2)
    | (go_at_call 120; refine (kn _).mono ?_; rintro e w3 ⟨rfl, rfl⟩)
    | (go_at_call 50; refine (pbad_any ((h.turn0 hT).turn0 ht2) true 4).mono ?_; rintro e w4 ⟨rfl, h4, f4⟩; have c1 := tok1 ((((h.turn0 hT).turn0 ht2).fq f4).tok hb2)))
   go_ret
   rw [HM.out]
   exact ⟨rfl, h4, ((hT.trans ht2).any _).trans f4⟩
  | true =>
   rw [hn] at HM kn
   clear hn
   cases hkey : isKey t.s with
   | true =>
    rw [hkey] at HM kk
    clear hkey
    go_enter Tryz.func79, Tryz.ntmps79
    go_wp2_with (first
     | (go_at_call 51; refine (ptok_t HT (h.turn0 hT)).mono ?_; rintro e w1 ⟨rfl, ht1⟩; have hT := hT.trans ht1)
     | (refine wp_var rfl rfl 90 _ _ rfl rfl rfl rfl zTok (fun _ => rfl) (xs := tc t) (fun _ => rfl) rfl szTok (tc_one t) ?_; intro g2 w2 hgg2 hb2 ht2; have c1 := tok1 hb2; have c0 := tok0 hb2)
     | (go_at_call 120; refine (kn _).mono ?_; rintro e w3 ⟨rfl, rfl⟩)
     | (go_at_call 121; refine (kk _).mono ?_; rintro e w5 ⟨rfl, ht5⟩)
     | (go_at_call 50; refine (pbad_any (((h.turn0 hT).turn0 ht2).turn0 ht5) true 4).mono ?_; rintro e w4 ⟨rfl, h4, f4⟩; have c1 := tok1 (((((h.turn0 hT).turn0 ht2).turn0 ht5).fq f4).tok (hb2.turn0 ht5))))
    go_ret
    rw [HM.out]
    exact ⟨rfl, h4, (((hT.trans ht2).trans ht5).any _).trans f4⟩
   | false =>
    rw [hkey] at HM kk
    clear hkey
    go_enter Tryz.func79, Tryz.ntmps79
    go_wp2_with (first
     | (go_at_call 51; refine (ptok_t HT (h.turn0 hT)).mono ?_; rintro e w1 ⟨rfl, ht1⟩; have hT := hT.trans ht1)
     | (refine wp_var rfl rfl 90 _ _ rfl rfl rfl rfl zTok (fun _ => rfl) (xs := tc t) (fun _ => rfl) rfl szTok (tc_one t) ?_; intro g2 w2 hgg2 hb2 ht2; have c1 := tok1 hb2; have c0 := tok0 hb2)
     | (go_at_call 120; refine (kn _).mono ?_; rintro e w3 ⟨rfl, rfl⟩)
     | (go_at_call 121; refine (kk _).mono ?_; rintro e w5 ⟨rfl, ht5⟩)
     | (go_at_call 50; refine (pbad_any (((h.turn0 hT).turn0 ht2).turn0 ht5) false 4).mono ?_; rintro e w4 ⟨rfl, h4, f4⟩; have c1 := tok1 (((((h.turn0 hT).turn0 ht2).turn0 ht5).fq f4).tok (hb2.turn0 ht5))))
    go_ret
    rw [HM.out]
    exact ⟨rfl, h4, (((hT.trans ht2).trans ht5).any _).trans f4⟩
 ·have e1 : ((t.k : Int) != 0) = true := by rw [bne_iff_ne]; omega
  rw [decide_eq_false hk, Bool.false_and] at HM
  clear hk
  go_enter Tryz.func79, Tryz.ntmps79
  go_wp2_with (first
   | (go_at_call 51; refine (ptok_t HT (h.turn0 hT)).mono ?_; rintro e w1 ⟨rfl, ht1⟩; have hT := hT.trans ht1)
   | (refine wp_var rfl rfl 90 _ _ rfl rfl rfl rfl zTok (fun _ => rfl) (xs := tc t) (fun _ => rfl) rfl szTok (tc_one t) ?_; intro g2 w2 hgg2 hb2 ht2; have c1 := tok1 hb2; have c0 := tok0 hb2)
   | (go_at_call 50; refine (pbad_any ((h.turn0 hT).turn0 ht2) true 4).mono ?_; rintro e w4 ⟨rfl, h4, f4⟩; have c1 := tok1 ((((h.turn0 hT).turn0 ht2).fq f4).tok hb2)))
  go_ret
  rw [HM.out]
  exact ⟨rfl, h4, ((hT.trans ht2).any _).trans f4⟩
end
end Go.Proofs.YtgigiecdpjchkaaGreatDoor
