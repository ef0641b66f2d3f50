/-
  Layer 4: Why, outermost, Is, At (contracts).
-/
import Derived.Test.YtcaaanncanmpnaaDoorEg
import Derived.Laws.ResultCell
namespace Go.Proofs.YtcaaanncanmpnaaDoor
open Go.RowKit Go.Extern.Stop Go.Stop Go.Extern

theorem cell1 {w : World} {g : Nat} {t : TypeId} {v : Value} (h : Blk w g t #[v]) : w.cell? ⟨g, 0, none⟩ = some v := h.cell 0

set_option maxHeartbeats 1600000 in
theorem why_any (r : Rt) (l : List ByteArray) (w : World) (hH : Hnd w) :
    Calls Tryd.prog 11 #[ev r l] w fun e w' => e = .returned (.int .i64 r.why) ∧ Turn w w' none := by
  have hmf : ∀ (fn : Fn) (first cap : Array Value) (w : World), (Instr.makeFunc fn first cap).run Tryd.prog w = .ok (.func fn first cap) w := fun _ _ _ _ => rfl
  have hT2 : Turn w ((w.alloc (.cells #[ev r l] 26)).alloc (.cells #[.int .i64 0] 24)) none := ((Turn.refl w none).alloc _).alloc _
  have hz : (w.alloc (.cells #[ev r l] 26)).heap.size = w.heap.size + 1 := by simp
  have hg := Blk.new (w.alloc (.cells #[ev r l] 26)) 24 #[.int .i64 0]
  rw [hz] at hg
  have he := cell1 ((Blk.new w 26 #[ev r l]).alloc (.cells #[.int .i64 0] 24))
  have key := whyC_any r l w.heap.size (w.heap.size + 1) _ (hH.turn0 hT2) he hg
  clear he hg hz
  obtain ⟨T, u, hT⟩ := ev_iface r l
  rw [hT] at key hT2 ⊢
  clear hT
  go_enter Tryd.func11, Tryd.ntmps11
  cases r with
  | num n =>
    have k2 := safelyW _ _ true _ _ key
    go_wp2_with (go_at_call 24; refine k2.mono ?_; rintro e w1 ⟨rfl, h1, h2⟩; have c1 := cell1 h1)
    go_ret
    exact ⟨rfl, hT2.new h2 (fun g hg => by injection hg with hg; omega)⟩
  | oth a =>
    have k2 := safelyW _ _ false _ _ key
    go_wp2_with (go_at_call 24; refine k2.mono ?_; rintro e w1 ⟨rfl, h1, h2⟩; have c1 := cell1 h1)
    go_ret
    exact ⟨rfl, hT2.trans h2⟩

theorem why_nil (w : World) : Calls Tryd.prog 11 #[.nilIface] w fun e w' => e = .returned (.int .i64 0) ∧ Turn w w' none := by
  go_enter Tryd.func11, Tryd.ntmps11
  go_wp2_with fail
  go_ret
  exact ⟨rfl, (Turn.refl w none).alloc _⟩

/-- What outermost answers. -/
def outV (r : Rt) : List ByteArray → Value
  | [] => .tuple #[.agg #[.string ByteArray.empty, .nilIface], .bool false]
  | s :: l => .tuple #[.agg #[.string s, ev r l], .bool true]

theorem cell2 {w : World} {g : Nat} {t : TypeId} {u v : Value} (h : Blk w g t #[u, v]) : w.cell? ⟨g, 0, none⟩ = some u ∧ w.cell? ⟨g, 1, none⟩ = some v := ⟨h.cell 0, h.cell 1⟩
theorem froz2 {w : World} {g : Nat} {t : TypeId} {u v : Value} (h : Blk w g t #[u, v]) : w.frozen? ⟨g, 0, none⟩ = false ∧ w.frozen? ⟨g, 1, none⟩ = false := ⟨h.frozen 0, h.frozen 1⟩
theorem set2 {w : World} {g : Nat} {t : TypeId} {u v : Value} (h : Blk w g t #[u, v]) (a b : Value) : Blk ((w.setCell ⟨g, 0, none⟩ a).setCell ⟨g, 1, none⟩ b) g t #[a, b] := by
  simpa using (h.set_ 0 a).set_ 1 b

theorem ldF {w : World} {g : Nat} {u v : Value} (h : Blk w g 37 #[u, v]) : (loadVar 37 ⟨g, 0, none⟩).run Tryd.prog w = .ok (.agg #[u, v]) w := by
  have hsz : (sizeOf 37).run Tryd.prog w = .ok 2 w := by kernel_rfl
  have hl : (loadCells ⟨g, 0, none⟩ 2).run Tryd.prog w = .ok #[u, v] w := run_loadCells_list w ⟨g, 0, none⟩ [u, v] (fun j x hj => by
    rw [add_flat]
    rcases j with _ | _ | j
    · simp at hj; subst hj; exact (cell2 h).1
    · simp at hj; subst hj; exact (cell2 h).2
    · simp at hj)
  simp [loadVar, isAgg, underlying, Tryd.underlying37, hsz, hl]
theorem resF {w : World} {g : Nat} {u v : Value} (h : Blk w g 37 #[u, v]) (tmps : Array Value) (b : Bool) (h2 : tmps.getD 2 undef = .pointer (some ⟨g, 0, none⟩)) (h3 : tmps.getD 3 undef = .bool b) :
    (results Tryd.f26 tmps).run Tryd.prog w = .ok (.tuple #[.agg #[u, v], .bool b]) w := by
  rw [results_cell_tmp (p := 2) (u := 3) (ty := 37) Tryd.results26, h2, h3]
  have ha : (asAddr (.pointer (some ⟨g, 0, none⟩))).run Tryd.prog w = .ok ⟨g, 0, none⟩ w := rfl
  rw [ha]
  simp [Result.andThen, ldF h]

set_option maxHeartbeats 1600000 in
theorem out_any (r : Rt) (l : List ByteArray) (w : World) (hH : Hnd w) :
    Calls Tryd.prog 26 #[ev r l] w fun e w' => e = .returned (outV r l) ∧ Turn w w' none := by
  have hmf : ∀ (fn : Fn) (first cap : Array Value) (w : World), (Instr.makeFunc fn first cap).run Tryd.prog w = .ok (.func fn first cap) w := fun _ _ _ _ => rfl
  obtain ⟨wb, hwb⟩ : ∃ wb, wb = (((w.alloc (.cells #[ev r l] 26)).alloc (.cells #[.string ⟨#[]⟩, .nilIface] 37)).alloc (.cells #[.string ⟨#[]⟩, .nilIface] 37)) := ⟨_, rfl⟩
  have hT : Turn w wb none := by rw [hwb]; exact (((Turn.refl w none).alloc _).alloc _).alloc _
  have hr : Blk wb (w.heap.size + 1) 37 #[.string ⟨#[]⟩, .nilIface] := by
    have h := (Blk.new (w.alloc (.cells #[ev r l] 26)) 37 #[.string ⟨#[]⟩, .nilIface]).alloc (.cells #[.string ⟨#[]⟩, .nilIface] 37)
    rw [hwb]; simpa using h
  have hf : Blk wb (w.heap.size + 1 + 1) 37 #[.string ⟨#[]⟩, .nilIface] := by
    have h := Blk.new ((w.alloc (.cells #[ev r l] 26)).alloc (.cells #[.string ⟨#[]⟩, .nilIface] 37)) 37 #[.string ⟨#[]⟩, .nilIface]
    rw [hwb]; simpa using h
  have he : wb.cell? ⟨w.heap.size, 0, none⟩ = some (ev r l) := by
    rw [hwb]; exact cell1 (((Blk.new w 26 #[ev r l]).alloc _).alloc _)
  have key := outC_any r l w.heap.size (w.heap.size + 1 + 1) _ _ wb (hH.turn0 hT) he hf
  clear he
  obtain ⟨T, u, hTu⟩ := ev_iface r l
  rw [hTu] at hwb ⊢
  have HW := hid hwb
  clear hwb hTu
  obtain ⟨b, hb⟩ : ∃ b, b = w.heap.size := ⟨_, rfl⟩
  go_enter Tryd.func26, Tryd.ntmps26
  cases l with
  | nil =>
    have k2 := safelyO _ _ false wb (fun w' => Blk w' (w.heap.size + 1 + 1) 37 #[.string ⟨#[]⟩, .nilIface] ∧ Turn wb w' none) key
    go_wp2_with fail
    rw [← HW.out]
    refine k2.mono ?_
    rintro e w1 ⟨rfl, h1, h2⟩
    have hr1 := hr.turn0 h2
    obtain ⟨c0, c1⟩ := cell2 h1
    obtain ⟨d0, d1⟩ := cell2 hr1
    obtain ⟨f0, f1⟩ := froz2 hr1
    have hs := set2 hr1 (.string ⟨#[]⟩) .nilIface
    obtain ⟨s0, s1⟩ := cell2 hs
    go_wp2_with fail
    refine bodyPost_ret (resF hs _ false rfl rfl) rfl ?_
    exact ⟨rfl, hT.trans h2 |>.new ((Blk.setTurn _ _ 0 _).trans (Blk.setTurn _ _ 1 _)) (fun g hg => by injection hg with hg; omega)⟩
  | cons s l2 =>
    obtain ⟨T2, u2, hT2⟩ := ev_iface r l2
    have k2 := safelyO _ _ true wb (fun w' => Blk w' (w.heap.size + 1 + 1) 37 #[.string s, ev r l2] ∧ Turn wb w' (some (w.heap.size + 1 + 1))) key
    rw [hT2] at k2
    go_wp2_with fail
    rw [← HW.out]
    refine k2.mono ?_
    rintro e w1 ⟨rfl, h1, h2⟩
    have hr1 := hr.turn h2 (by simp)
    obtain ⟨c0, c1⟩ := cell2 h1
    obtain ⟨d0, d1⟩ := cell2 hr1
    obtain ⟨f0, f1⟩ := froz2 hr1
    have hs := set2 hr1 (.string s) (.iface T2 u2)
    obtain ⟨s0, s1⟩ := cell2 hs
    obtain ⟨_, f3⟩ := froz2 (by simpa using hr1.set_ 0 (.string s) : Blk (w1.setCell ⟨w.heap.size + 1, 0, none⟩ (.string s)) (w.heap.size + 1) 37 #[.string s, .nilIface])
    have HT2 := hid hT2
    clear hT2
    go_wp2_with fail
    refine bodyPost_ret (resF hs _ true rfl rfl) rfl ?_
    refine ⟨by rw [← HT2.out]; rfl, ?_⟩
    have h3 : Turn w w1 none := hT.new h2 (fun g hg => by injection hg with hg; omega)
    exact h3.new ((Blk.setTurn _ _ 0 _).trans (Blk.setTurn _ _ 1 _)) (fun g hg => by injection hg with hg; omega)

set_option maxHeartbeats 1600000 in
theorem out_nil (w : World) : Calls Tryd.prog 26 #[.nilIface] w fun e w' => e = .returned (.tuple #[.agg #[.string ⟨#[]⟩, .nilIface], .bool false]) ∧ Turn w w' none := by
  have hmf : ∀ (fn : Fn) (first cap : Array Value) (w : World), (Instr.makeFunc fn first cap).run Tryd.prog w = .ok (.func fn first cap) w := fun _ _ _ _ => rfl
  obtain ⟨wb, hwb⟩ : ∃ wb, wb = (((w.alloc (.cells #[.nilIface] 26)).alloc (.cells #[.string ⟨#[]⟩, .nilIface] 37)).alloc (.cells #[.string ⟨#[]⟩, .nilIface] 37)) := ⟨_, rfl⟩
  have hT : Turn w wb none := by rw [hwb]; exact (((Turn.refl w none).alloc _).alloc _).alloc _
  have hr : Blk wb (w.heap.size + 1) 37 #[.string ⟨#[]⟩, .nilIface] := by
    have h := (Blk.new (w.alloc (.cells #[.nilIface] 26)) 37 #[.string ⟨#[]⟩, .nilIface]).alloc (.cells #[.string ⟨#[]⟩, .nilIface] 37)
    rw [hwb]; simpa using h
  have hf : Blk wb (w.heap.size + 1 + 1) 37 #[.string ⟨#[]⟩, .nilIface] := by
    have h := Blk.new ((w.alloc (.cells #[.nilIface] 26)).alloc (.cells #[.string ⟨#[]⟩, .nilIface] 37)) 37 #[.string ⟨#[]⟩, .nilIface]
    rw [hwb]; simpa using h
  have he : wb.cell? ⟨w.heap.size, 0, none⟩ = some .nilIface := by
    rw [hwb]; exact cell1 (((Blk.new w 26 #[.nilIface]).alloc _).alloc _)
  have key := outC_nil w.heap.size (.pointer (some ⟨w.heap.size + 1 + 1, 0, none⟩)) wb he
  have k2 := safelyO _ _ false wb (fun w' => w' = wb) key
  clear he key
  have HW := hid hwb
  clear hwb
  go_enter Tryd.func26, Tryd.ntmps26
  go_wp2_with fail
  rw [← HW.out]
  refine k2.mono ?_
  rintro e w1 ⟨rfl, rfl⟩
  obtain ⟨c0, c1⟩ := cell2 hf
  obtain ⟨d0, d1⟩ := cell2 hr
  obtain ⟨f0, f1⟩ := froz2 hr
  have hs := set2 hr (.string ⟨#[]⟩) .nilIface
  go_wp2_with fail
  refine bodyPost_ret (resF hs _ false rfl rfl) rfl ?_
  exact ⟨rfl, hT.new ((Blk.setTurn _ _ 0 _).trans (Blk.setTurn _ _ 1 _)) (fun g hg => by injection hg with hg; omega)⟩

set_option maxHeartbeats 1600000 in
theorem isF_any (r : Rt) (l : List ByteArray) (m : Int) (w : World) (hH : Hnd w) :
    Calls Tryd.prog 15 #[ev r l, .int .i64 m] w fun e w' => e = .returned (.bool (if m = 0 then r.why == 0 else finds r (.num m))) ∧ Turn w w' none := by
  have hmf : ∀ (fn : Fn) (first cap : Array Value) (w : World), (Instr.makeFunc fn first cap).run Tryd.prog w = .ok (.func fn first cap) w := fun _ _ _ _ => rfl
  have hT : Turn w ((w.alloc (.cells #[ev r l] 26)).alloc (.cells #[.int .i64 m] 24)) none := ((Turn.refl w none).alloc _).alloc _
  have he : ((w.alloc (.cells #[ev r l] 26)).alloc (.cells #[.int .i64 m] 24)).cell? ⟨w.heap.size, 0, none⟩ = some (ev r l) := cell1 ((Blk.new w 26 #[ev r l]).alloc _)
  have hg := cell1 (Blk.new (w.alloc (.cells #[ev r l] 26)) 24 #[.int .i64 m])
  have hz : (w.alloc (.cells #[ev r l] 26)).heap.size = w.heap.size + 1 := by simp
  rw [hz] at hg
  have key := safelyI _ _ _ _ _ (isC_any r l m w.heap.size (w.heap.size + 1) _ he hg)
  have kw := why_any r l _ (hH.turn0 hT)
  obtain ⟨T, u, hTu⟩ := ev_iface r l
  rw [hTu] at key kw hT ⊢
  clear he hg hz hTu
  go_enter Tryd.func15, Tryd.ntmps15
  by_cases hm : m = 0
  · subst hm
    go_wp2_with (go_at_call 11; refine kw.mono ?_; rintro e w1 ⟨rfl, h1⟩)
    go_ret
    exact ⟨by simp, hT.trans h1⟩
  · go_wp2_with (go_at_call 24; refine key.mono ?_; rintro e w1 ⟨rfl, h1⟩)
    go_ret
    exact ⟨by simp [hm], hT.trans h1⟩

set_option maxHeartbeats 1600000 in
theorem at_any (s : ByteArray) (r : Rt) (l : List ByteArray) (w : World) (hH : Hnd w) :
    Calls Tryd.prog 17 #[.string s, ev r l] w fun e w' => e = .returned (if r.why = 0 then .nilIface else ev r (s :: l)) ∧ Turn w w' none := by
  have kw := why_any r l w hH
  obtain ⟨T, u, hTu⟩ := ev_iface r l
  rw [ev_cons]
  rw [hTu] at kw ⊢
  clear hTu
  go_enter Tryd.func17, Tryd.ntmps17
  by_cases hm : r.why = 0
  · rw [hm] at kw
    rw [if_pos hm]
    clear hm
    go_wp2_with (go_at_call 11; refine kw.mono ?_; rintro e w1 ⟨rfl, h1⟩)
    go_ret
    exact ⟨rfl, h1⟩
  · rw [if_neg hm]
    go_wp2_with (go_at_call 11; refine kw.mono ?_; rintro e w1 ⟨rfl, h1⟩)
    go_ret
    exact ⟨rfl, h1⟩
theorem at_nil (s : Value) (w : World) : Calls Tryd.prog 17 #[s, .nilIface] w fun e w' => e = .returned .nilIface ∧ Turn w w' none := by
  go_enter Tryd.func17, Tryd.ntmps17
  go_wp2_with (go_at_call 11; refine (why_nil _).mono ?_; rintro e w1 ⟨rfl, h1⟩)
  go_ret
  exact ⟨rfl, h1⟩
end Go.Proofs.YtcaaanncanmpnaaDoor
