/-
  Layer 4: Root, Way (contracts).
-/
import Derived.Test.YtcaaanncanmpnaaDoorEi
namespace Go.Proofs.YtcaaanncanmpnaaDoor
open Go.RowKit Go.Extern.Stop Go.Stop Go.Extern

/-- What the loops of Root and Way hold of the fault at hand: block g; whether there is one. -/
def Head (w : World) (g : Nat) (r : Rt) (th : Value) (l : List ByteArray) : Prop :=
  match l with
  | [] => th = .bool false ∧ Blk w g 37 #[.string ⟨#[]⟩, .nilIface]
  | s :: l2 => th = .bool true ∧ Blk w g 37 #[.string s, ev r l2]
theorem head_of (r : Rt) (l : List ByteArray) : ∃ x y b, outV r l = .tuple #[.agg #[x, y], .bool b] ∧ (∀ (w : World) (g : Nat), Blk w g 37 #[x, y] → Head w g r (.bool b) l) ∧ x.oneCell' = true ∧ y.oneCell' = true := by
  cases l with
  | nil => exact ⟨_, _, _, rfl, fun w g h => ⟨rfl, h⟩, rfl, rfl⟩
  | cons s l2 =>
    refine ⟨_, _, _, rfl, fun w g h => ⟨rfl, h⟩, rfl, ?_⟩
    obtain ⟨T, u, h⟩ := ev_iface r l2
    rw [h]
    rfl
theorem ev_one (r : Rt) (l : List ByteArray) : (ev r l).oneCell' = true := by
  obtain ⟨T, u, h⟩ := ev_iface r l
  rw [h]
  rfl
/-- A store into the first cell of two leaves the others' marks. -/
theorem froz_set {w : World} {g : Nat} {t : TypeId} {u v : Value} (h : Blk w g t #[u, v]) (a : Value) : (w.setCell ⟨g, 0, none⟩ a).frozen? ⟨g, 1, none⟩ = false ∧ (w.setCell ⟨g, 0, none⟩ a).cell? ⟨g, 1, none⟩ = some v :=
  ⟨(h.set_ 0 a).frozen 1, (h.set_ 0 a).cell 1⟩

set_option maxRecDepth 100000 in
set_option maxHeartbeats 4000000 in
theorem root_any (r : Rt) (l : List ByteArray) (w : World) (hH : Hnd w) :
    Calls Tryd.prog 19 #[ev r l] w fun e w' => e = .returned (ev r []) ∧ Turn w w' none := by
  have k0 := out_any r l w hH
  obtain ⟨x, y, b, hv, hh, hx1, hy1⟩ := head_of r l
  rw [hv] at k0
  have sX := fun (a : Addr) (w : World) => run_store Tryd.prog w a x .plain hx1
  have sY := fun (a : Addr) (w : World) => run_store Tryd.prog w a y .plain hy1
  go_enter Tryd.func19, Tryd.ntmps19
  go_wp2_with (go_at_call 26; refine k0.mono ?_; rintro e w1 ⟨rfl, h1⟩)
  have hb0 := Blk.new w1 37 #[x, y]
  have hH0 := hh _ _ hb0
  go_loopg [0, 3, 4] l.length (fun k e fp th wr => ∃ (l' : List ByteArray) (g : Nat), l'.length = k ∧ e = ev r l' ∧ fp = .pointer (some ⟨g, 0, none⟩) ∧ Head wr g r th l' ∧ Turn w wr none ∧ w.heap.size ≤ g ∧ g < wr.heap.size)
  case atStart => exact ⟨l, _, rfl, rfl, rfl, hH0, h1.alloc _, h1.size, hb0.lt⟩
  case round =>
    clear sX sY hv hh hx1 hy1 k0 hb0 hH0
    obtain ⟨l', g, hk, rfl, rfl, hh, ht, hg1, hg2⟩ := hrel
    have HK := hid hk
    clear hk
    rcases l' with _ | ⟨s, l2⟩
    · obtain ⟨rfl, hb⟩ := hh
      go_wp2_with fail
      go_ret
      exact ⟨rfl, ht⟩
    · obtain ⟨rfl, hb⟩ := hh
      obtain ⟨c0, c1⟩ := cell2 hb
      have sE := fun (a : Addr) (w : World) => run_store Tryd.prog w a (ev r l2) .plain (ev_one r l2)
      obtain ⟨x, y, b, hv, hh, hx1, hy1⟩ := head_of r l2
      have k2 := fun w hH => out_any r l2 w hH
      rw [hv] at k2
      have sX := fun (a : Addr) (w : World) => run_store Tryd.prog w a x .plain hx1
      have sY := fun (a : Addr) (w : World) => run_store Tryd.prog w a y .plain hy1
      have HH := hid hh
      clear hv hh
      go_wp2_with (go_at_call 26; refine (k2 _ ((hH.turn0 ht).turn0 ((Turn.refl _ none).alloc _))).mono ?_; rintro e w2 ⟨rfl, h2⟩; have hb2 := (Blk.new wr 37 #[.string s, ev r l2]).turn0 h2; obtain ⟨d0, d1⟩ := cell2 hb2; obtain ⟨f0, f1⟩ := froz2 hb2; obtain ⟨f3, d3⟩ := froz_set hb2 x)
      have hs := set2 hb2 x y
      have hT2 : Turn w w2 none := (ht.alloc _).trans h2
      go_roundg l2.length
      case measure => have := HK.out; simp at this; omega
      case rel => exact ⟨l2, wr.heap.size, rfl, rfl, rfl, HH.out _ _ hs, hT2.new ((Blk.setTurn _ _ 0 _).trans (Blk.setTurn _ _ 1 _)) (fun g hg => by injection hg with hg; omega), by omega, hs.lt⟩
theorem root_nil (w : World) : Calls Tryd.prog 19 #[.nilIface] w fun e w' => e = .returned .nilIface ∧ Turn w w' none := by
  go_enter Tryd.func19, Tryd.ntmps19
  go_wp2_with (go_at_call 26; refine (out_nil _).mono ?_; rintro e w1 ⟨rfl, h1⟩)
  refine wp_loop_rounds 1 ?_
  rw [rounds_succ]
  go_wp2_with fail
  go_ret
  exact ⟨rfl, h1.alloc _⟩

set_option maxRecDepth 100000 in
set_option maxHeartbeats 4000000 in
theorem way_any (r : Rt) (l : List ByteArray) (w : World) (hH : Hnd w) (hl : l.length ≤ 1000) :
    Calls Tryd.prog 12 #[ev r l] w fun e w' => ∃ A c, e = .returned (.slice A l.length c) ∧ Rd w' w'.heap.size 1 A l.length (svs l) ∧ Turn w w' none := by
  have k0 := out_any r l w hH
  obtain ⟨x, y, b, hv, hh, hx1, hy1⟩ := head_of r l
  rw [hv] at k0
  have sX := fun (a : Addr) (w : World) => run_store Tryd.prog w a x .plain hx1
  have sY := fun (a : Addr) (w : World) => run_store Tryd.prog w a y .plain hy1
  go_enter Tryd.func12, Tryd.ntmps12
  go_wp2_with (go_at_call 26; refine k0.mono ?_; rintro e w1 ⟨rfl, h1⟩)
  have hb0 := Blk.new w1 37 #[x, y]
  have hH0 := hh _ _ hb0
  go_loopg [3, 4, 5] l.length (fun k pl fp th wr => ∃ (done l' : List ByteArray) (g : Nat) (A : Option Addr) (c : Nat), l = done ++ l' ∧ l'.length = k ∧ pl = .slice A done.length c ∧ Own wr w.heap.size 9 1 A done.length c (svs done) ∧
    fp = .pointer (some ⟨g, 0, none⟩) ∧ Head wr g r th l' ∧ Turn w wr none ∧ w.heap.size ≤ g ∧ g < wr.heap.size ∧ blk A ≠ some g)
  case atStart => exact ⟨[], l, _, none, 0, rfl, rfl, rfl, Own.nil _ _ _ _, rfl, hH0, h1.alloc _, h1.size, hb0.lt, by simp [blk]⟩
  case round =>
    clear sX sY hv hh hx1 hy1 k0 hb0 hH0
    obtain ⟨done, l', g, A, c, hdl, hk, rfl, hown, rfl, hh, ht, hg1, hg2, hne⟩ := hrel
    have HK := hid hk
    have HDL := hid hdl
    have hlen : done.length + l'.length ≤ 1000 := by rw [hdl, List.length_append] at hl; exact hl
    clear hk hdl
    rcases l' with _ | ⟨s, l2⟩
    · obtain ⟨rfl, hb⟩ := hh
      go_wp2_with fail
      go_ret
      have el : l = done := by simpa using HDL.out
      refine ⟨A, c, ?_, ?_, ht⟩
      · rw [show l.length = done.length by rw [el]]; rfl
      · rw [el]; exact hown.rd
    · obtain ⟨rfl, hb⟩ := hh
      rw [List.length_cons] at hlen
      obtain ⟨c0, c1⟩ := cell2 hb
      have sE := fun (a : Addr) (w : World) => run_store Tryd.prog w a (ev r l2) .plain (ev_one r l2)
      obtain ⟨x, y, b, hv, hh, hx1, hy1⟩ := head_of r l2
      have k2 := fun w hH => out_any r l2 w hH
      rw [hv] at k2
      have sX := fun (a : Addr) (w : World) => run_store Tryd.prog w a x .plain hx1
      have sY := fun (a : Addr) (w : World) => run_store Tryd.prog w a y .plain hy1
      have HH := hid hh
      clear hv hh
      go_wp2_with (first
        | (at_builtin; refine wp_app rfl _ _ _ rfl elS rfl rfl (hown.alloc (.cells #[.string s] 9)) (Rd.lit wr 9 [.string s]) (by repeat (first | exact ones_nil | refine ones_cons rfl ?_)) (by unfold maxLen; first | omega | (simp; done) | (simp; omega)) (by first | omega | (simp; done) | (simp; omega)) (by first | omega | (simp; done) | (simp; omega)) ?_; intro A3 c3 w3 ho3 ht3 hA3; have hb3 := (hb.alloc (.cells #[.string s] 9)).turn ht3 (fun e => hne e.symm); obtain ⟨e0, e1⟩ := cell2 hb3; have hTn : Turn w w3 none := (ht.alloc _).new ht3 (fun g hg => (hown.block g hg).1))
        | (go_at_call 26; refine (k2 _ (hH.turn0 (hTn.alloc _))).mono ?_; rintro e w2 ⟨rfl, h2⟩; have hb2 := (Blk.new w3 37 #[.string s, ev r l2]).turn0 h2; obtain ⟨d0, d1⟩ := cell2 hb2; obtain ⟨f0, f1⟩ := froz2 hb2; obtain ⟨f3, d3⟩ := froz_set hb2 x))
      have hs := set2 hb2 x y
      have hT2 : Turn w w2 none := (hTn.alloc _).trans h2
      have hne3 : blk A3 ≠ some w3.heap.size := fun e => by have := (ho3.block _ e).2; omega
      have ho4 := (((ho3.alloc (.cells #[.string s, ev r l2] 37)).turn0 h2).turn (Blk.setTurn _ _ 0 x) (.inr hne3)).turn (Blk.setTurn _ _ 1 y) (.inr hne3)
      go_roundg l2.length
      case measure => have := HK.out; simp at this; omega
      case rel =>
        refine ⟨done ++ [s], l2, w3.heap.size, A3, c3, by rw [HDL.out]; simp, rfl, by simp, ?_, rfl, HH.out _ _ hs, hT2.new ((Blk.setTurn _ _ 0 _).trans (Blk.setTurn _ _ 1 _)) (fun g hg => by injection hg with hg; have := hTn.size; omega), hTn.size, hs.lt, hne3⟩
        rw [svs_app, List.length_append]
        exact ho4
theorem way_nil (w : World) : Calls Tryd.prog 12 #[.nilIface] w fun e w' => e = .returned (.slice none 0 0) ∧ Turn w w' none := by
  go_enter Tryd.func12, Tryd.ntmps12
  go_wp2_with (go_at_call 26; refine (out_nil _).mono ?_; rintro e w1 ⟨rfl, h1⟩)
  refine wp_loop_rounds 1 ?_
  rw [rounds_succ]
  go_wp2_with fail
  go_ret
  exact ⟨rfl, h1.alloc _⟩
end Go.Proofs.YtcaaanncanmpnaaDoor
