import Derived.Test.YtmghkfnnilapdaaDoorG3
import Derived.Test.YtmghkfnnilapdaaDoorG12
set_option linter.unusedSimpArgs false
set_option linter.unusedVariables false
set_option linter.unusedSectionVars false
/-
  Layer 7, its pure side: what is read has at most 200 nodes.
-/
namespace Go.Proofs.YtmghkfnnilapdaaDoor

def KFew (rec : ERd) : Prop := ∀ ts N n r N', N.length ≤ 200 → rec ts N = .ok (n, r, N') → N'.length ≤ 200
theorem eOne_few {rec : ERd} (hr : KFew rec) {shut : List UInt8} {r : List Tok} {N : List Nd} {m n : Nat} {r' : List Tok} {N' : List Nd} (hN : N.length ≤ 200) (h : eOne rec shut r N m = .ok (n, r', N')) : N'.length ≤ 200 := by
  unfold eOne at h
  split at h
  · cases h
  · cases h
  · rename_i x u r1 N1 e
    split at h
    · injection h with h
      injection h with _ h
      injection h with h1 h2
      subst h2
      rw [List.length_modify]
      exact hr _ _ _ _ _ hN e
    · cases h
theorem eAllW_few {rec : List Nat → ERd} (hr : ∀ its, KFew (rec its)) : ∀ (g : Nat) (its : List Nat) (ts : List Tok) (N : List Nd) (its' : List Nat) (r : List Tok) (N' : List Nd), N.length ≤ 200 → eAllW rec g its ts N = .ok (its', r, N') → N'.length ≤ 200
  | 0, _, _, _, _, _, _, _, h => by cases h
  | g + 1, its, ts, N, its', r, N', hN, h => by
    rw [eAllW] at h
    split at h
    · cases h
    · cases h
    · rename_i x u r1 N1 e
      have a2 := hr _ _ _ _ _ _ hN e
      split at h
      · injection h with h
        injection h with _ h
        injection h with h1 h2
        subst h2
        exact a2
      · split at h
        · exact eAllW_few hr g _ _ _ _ _ _ a2 h
        · cases h
theorem eFields_few {rec : ERd} (hr : KFew rec) : ∀ (g : Nat) (fs : List Fl) (ts : List Tok) (N : List Nd) (fs' : List Fl) (r : List Tok) (N' : List Nd), N.length ≤ 200 → eFields rec g fs ts N = .ok (fs', r, N') → N'.length ≤ 200
  | 0, _, _, _, _, _, _, _, h => by unfold eFields at h; cases h
  | g + 1, _, [], _, _, _, _, _, h => by unfold eFields at h; cases h
  | g + 1, fs, t :: r, N, fs', r', N', hN, h => by
    rw [eFields] at h
    split at h
    · injection h with h
      injection h with h0 h
      injection h with h1 h2
      subst h2
      exact hN
    split at h
    · cases h
    split at h
    · cases h
    split at h
    · cases h
    · split at h
      · cases h
      · cases h
      · rename_i x u r2 N1 e2
        have a2 := hr _ _ _ _ _ hN e2
        split at h
        · exact eFields_few hr g _ _ _ _ _ _ a2 h
        · cases h
theorem few_push {N : List Nd} {x : Nd} (h : ¬200 ≤ N.length) : (N ++ [x]).length ≤ 200 := by rw [List.length_append]; simp; omega
theorem eNamed_few {rec : ERd} (hr : KFew rec) {f k : Nat} {r : List Tok} {N : List Nd} {n : Nat} {r' : List Tok} {N' : List Nd} (hN : ¬200 ≤ N.length) (h : eNamed rec f k r N = .ok (n, r', N')) : N'.length ≤ 200 := by
  unfold eNamed at h
  split at h
  · cases h
  split at h
  · cases h
  split at h
  · cases h
  split at h
  · cases h
  split at h
  · split at h
    · injection h with h
      injection h with _ h
      injection h with h1 h2
      subst h2
      exact few_push hN
    · cases h
  split at h
  · split at h
    · split at h
      · injection h with h
        injection h with _ h
        injection h with h1 h2
        subst h2
        exact few_push hN
      · cases h
    · cases h
  split at h
  · split at h
    · rename_i fs r3 N1 e
      injection h with h
      injection h with _ h
      injection h with h1 h2
      subst h2
      rw [List.length_modify]
      exact eFields_few hr _ _ _ _ _ _ _ (few_push hN) e
    · cases h
  · cases h
theorem eStep_few {rec : Option (List Nat) → ERd} (hr : ∀ u, KFew (rec u)) {f deep : Nat} {un : Option (List Nat)} {t : Tok} {r : List Tok} {N : List Nd} {n : Nat} {r' : List Tok} {N' : List Nd} (hN : N.length ≤ 200) (h : eStep rec f deep un t r N = .ok (n, r', N')) : N'.length ≤ 200 := by
  unfold eStep at h
  split at h
  · split at h
    · cases h
    split at h
    · cases h
    split at h
    · cases h
    · split at h
      · cases h
      · injection h with h
        injection h with _ h
        injection h with h1 h2
        subst h2
        exact hN
  · split at h
    · cases h
    rename_i hdn
    have hn : ¬200 ≤ N.length := fun e => hdn (.inr e)
    split at h
    · cases h
    split at h
    · cases h
    split at h
    · injection h with h
      injection h with _ h
      injection h with h1 h2
      subst h2
      exact few_push hn
    split at h
    · exact eOne_few (hr none) (few_push hn) h
    split at h
    · exact eOne_few (hr none) (few_push hn) h
    split at h
    · split at h
      · rename_i its r1 N1 e
        injection h with h
        injection h with _ h
        injection h with h1 h2
        subst h2
        rw [List.length_modify]
        exact eAllW_few (fun its => hr (some its)) _ _ _ _ _ _ _ (few_push hn) e
      · cases h
    · exact eNamed_few (hr none) hn h
theorem eType_few : ∀ (f deep : Nat) (un : Option (List Nat)), KFew (eType f deep un)
  | 0, _, _, _, _, _, _, _, _, h => by cases h
  | f + 1, deep, un, [], _, _, _, _, _, h => by cases h
  | f + 1, deep, un, t :: r, N, n, r', N', hN, h => by
    rw [eType] at h
    exact eStep_few (fun u => eType_few f (deep + 1) u) hN h
theorem read_few {l : List UInt8} {N : List Nd} (h : eRead l = .ok N) : N.length ≤ 200 := by
  unfold eRead at h
  split at h
  · cases h
  · split at h
    · cases h
    · cases h
    · rename_i n t r N1 e
      split at h
      · injection h with h
        subst h
        exact eType_few _ _ _ _ _ _ _ _ (Nat.zero_le _) e
      · cases h
end Go.Proofs.YtmghkfnnilapdaaDoor
/-
  Layer 7: the walk of ParseBack.
-/
namespace Go.Proofs.YtmghkfnnilapdaaDoor
open Go.RowKit

theorem show_back {l : List UInt8} {N : List Nd} (h : eRead l = .ok N) (hN : N.length ≤ 200) : ∃ t d, cShow (N.map Nd.g) = some (t, d) ∧ eRead t = .ok N ∧ t.length ≤ l.length := by
  obtain ⟨t, d, h1, h2, h3⟩ := read_top h hN
  refine ⟨t, d, ?_, h2, h3⟩
  unfold cShow
  rw [h1]
  simp only
  rw [h2]
  simp
theorem Sv.own {w w' : World} {A A' : Option Addr} {n c c' : Nat} {gs : List Gn} (h : Sv w A n c gs) (hs : Sc w' w'.heap.size A' n gs) (h1 : n ≤ c') (h2 : c' ≤ maxLen) : Sv w' A' n c' gs := ⟨hs, h.ok, h.few, h1, h2⟩
set_option maxRecDepth 100000 in
set_option maxHeartbeats 1600000 in
theorem back_no (l : List UInt8) (w : World) (hT : LT w) (hl : l.length ≤ 140737488355328) {p er : Nat} (h : eRead l = .error (p, er)) : Calls Tryd.prog 3 #[.string (txt l)] w fun e w' => e = .returned (.bool true) ∧ Turn w w' none := by
  have pa := parse_no h w hT.lf hl
  have lv := fun {w1 : World} (t : Turn w w1 none) => lives_any w1 (hT.turn t)
  clear h
  go_enter Tryd.func3, Tryd.ntmps3
  go_wp2_with (first
    | (go_at_call 6; refine pa.mono ?_; rintro e w1 ⟨rfl, hne, ht1⟩)
    | (refine wp_var rfl rfl 24 _ _ rfl rfl rfl rfl zSch (fun _ => rfl) (xs := [.slice none 0 0]) (fun _ => rfl) rfl szSch (one1 rfl) ?_; intro g2 w2 hg2 hb2 ht2; have c2 : w2.cell? ⟨g2, 0, none⟩ = some (.slice none 0 0) := hb2.ats rfl)
    | (go_at_call 7; refine (lv (ht1.trans ht2)).mono ?_; rintro e w3 ⟨rfl, ht3⟩))
  go_ret
  exact ⟨rfl, (ht1.trans ht2).trans ht3⟩
set_option maxRecDepth 100000 in
set_option maxHeartbeats 3200000 in
theorem back_ok (l : List UInt8) (w : World) (hT : LT w) (hl : l.length ≤ 140737488355328) {N : List Nd} (h : eRead l = .ok N) (hN : N.length ≤ 200) : Calls Tryd.prog 3 #[.string (txt l)] w fun e w' => e = .returned (.bool true) ∧ Turn w w' none := by
  obtain ⟨t, d, hs, hr, htl⟩ := show_back h hN
  have pa := parse_ok h w hT.lf hl
  have pb := fun {w1 : World} (ht : Turn w w1 none) => parse_ok hr w1 (hT.turn ht).lf (by omega)
  have sh := fun {w1 : World} {A c} (ht : Turn w w1 none) (q : Sv w1 A N.length c (N.map Nd.g)) => show_ok hs (hT.turn ht) q
  have lv := fun {w1 : World} (ht : Turn w w1 none) => lives_any w1 (hT.turn ht)
  have ow := fun {w1 : World} {A c} (q : Sv w1 A N.length c (N.map Nd.g)) => rown_any (c := c) q.sc (Nat.le_refl _) q.few (fun x hx => ⟨(q.ok x hx).ls, (q.ok x hx).li, (q.ok x hx).lf⟩)
  have sm := fun {w1 : World} {A c B d} (q : Sv w1 A N.length c (N.map Nd.g)) (r : Sv w1 B N.length d (N.map Nd.g)) => rsame_any (c := c) (d := d) q.sc r.sc (Nat.le_refl _) q.few (fun x hx => ⟨(q.ok x hx).ls, (q.ok x hx).li, (q.ok x hx).lf⟩)
  have e1 : ((txt t).toList == (txt t).toList) = true := by rw [tx_beq]; simp
  have e2 : (N.map Nd.g == N.map Nd.g) = true := by simp
  have z1 : (txt t).size = t.length := txt_size t
  have z2 : (txt l).size = l.length := txt_size l
  have hle : (t.length : Int) ≤ (l.length : Int) := by omega
  obtain ⟨gs, hgs⟩ : ∃ gs, gs = N.map Nd.g := ⟨_, rfl⟩
  obtain ⟨n, hn⟩ : ∃ n, n = N.length := ⟨_, rfl⟩
  simp only [← hgs, ← hn] at pa pb sh ow sm
  rw [← hgs] at e2
  simp only [e2] at sm
  clear hgs hn hs hr h hN htl e2
  go_enter Tryd.func3, Tryd.ntmps3
  go_upto_region 4 with (first
    | (go_at_call 6; refine pa.mono ?_; rintro e w1 ⟨A, c, rfl, v1, _, ht1⟩)
    | (refine wp_var rfl rfl 24 _ _ rfl rfl rfl rfl zSch (fun _ => rfl) (xs := [.slice A n c]) (fun _ => rfl) rfl szSch (one1 rfl) ?_; intro g2 w2 hg2 hb2 ht2; have v2 := v1.turn ht2))
  have T2 := ht1.trans ht2
  go_upto_region 5 with (first
    | (refine wp_ld rfl 24 _ rfl rfl hb2 (Sub.all [.slice A n c]) Tryd.underlying24 rfl szSch ?_)
    | (go_at_call 9; refine (ow v2).mono ?_; rintro e w3 ⟨A3, c3, rfl, s3, m3, x3, ht3⟩; have v3 := v2.own s3 m3 x3; have T3 := T2.trans ht3)
    | (go_at_call 8; refine (sh T3 v3).mono ?_; rintro e w4 ⟨rfl, ht4⟩))
  have T4 := T3.trans ht4
  have b4 := (hb2.turn0 ht3).turn0 ht4
  have u4 := (v2.turn ht3).turn ht4
  clear v1 v2 v3 s3 hb2
  go_upto_region 6 with (first
    | (go_at_call 6; refine (pb T4).mono ?_; rintro e w5 ⟨B, d5, rfl, v5, _, ht5⟩)
    | (refine wp_var rfl rfl 24 _ _ rfl rfl rfl rfl zSch (fun _ => rfl) (xs := [.slice B n d5]) (fun _ => rfl) rfl szSch (one1 rfl) ?_; intro g6 w6 hg6 hb6 ht6; have v6 := v5.turn ht6))
  have T6 := (T4.trans ht5).trans ht6
  have b6 := (b4.turn0 ht5).turn0 ht6
  have u6 := (u4.turn ht5).turn ht6
  go_upto_region 7 with (first
    | (refine wp_ld rfl 24 _ rfl rfl hb6 (Sub.all [.slice B n d5]) Tryd.underlying24 rfl szSch ?_)
    | (go_at_call 8; refine (sh T6 v6).mono ?_; rintro e w7 ⟨rfl, ht7⟩))
  have T7 := T6.trans ht7
  have c2 : w7.cell? ⟨g2, 0, none⟩ = some (.slice A n c) := (b6.turn0 ht7).ats (xs := [_]) rfl
  have c6 : w7.cell? ⟨g6, 0, none⟩ = some (.slice B n d5) := (hb6.turn0 ht7).ats (xs := [_]) rfl
  have sa := sm (u6.turn ht7) (v6.turn ht7)
  clear u4 u6 v5 v6 b4 b6 hb6 sh pa pb ow sm
  go_wp2_with (first
    | (go_at_call 10; refine sa.mono ?_; rintro e w8 ⟨rfl, ht8⟩)
    | (go_at_call 7; refine (lv (T7.trans ht8)).mono ?_; rintro e w9 ⟨rfl, ht9⟩))
  go_ret
  exact ⟨rfl, (T7.trans ht8).trans ht9⟩
theorem back_walk (s : ByteArray) (l : List UInt8) (w : World) (hT : LT w) (hs : s = txt l) (hl : l.length ≤ 140737488355328) : Calls Tryd.prog 3 #[.string s] w fun e w' => e = .returned (.bool true) ∧ Turn w w' none := by
  subst hs
  cases h : eRead l with
  | error p => exact back_no l w hT hl h
  | ok N => exact back_ok l w hT hl h (read_few h)
end Go.Proofs.YtmghkfnnilapdaaDoor
