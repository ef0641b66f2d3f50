/-
  Layer 1 in a seat of a later layer: what prefix.takeNumber, Take and the document's own Take do.
-/
import Derived.Test.YtadkhafjkbkinaaKp
import Derived.BigQuiet
import Derived.Deep.QuietTactic
namespace Go.Proofs.Ytadkhafjkbkinaa
open Go.RowKit

/-- What is behind the number. -/
def pRest (l : List UInt8) : List UInt8 := if (pTake l).2.2 = 0 then l.drop (pTake l).2.1 else []
theorem pLen_le (b : UInt8) : pLen b ≤ 8 := by
  unfold pLen
  repeat' split
  all_goals omega
/-- The facts on the first byte that the walk wants. -/
theorem first_facts (b : UInt8) : (b.toNat : Int) < 64 ∧ (b.toNat : Int) / 64 = 0 ∧ pLen b = 1 ∨ 64 ≤ (b.toNat : Int) ∧ (b.toNat : Int) < 128 ∧ (b.toNat : Int) / 64 = 1 ∧ pLen b = 2 ∨
    128 ≤ (b.toNat : Int) ∧ (b.toNat : Int) < 192 ∧ (b.toNat : Int) / 64 = 2 ∧ pLen b = 4 ∨ 192 ≤ (b.toNat : Int) ∧ (b.toNat : Int) < 256 ∧ (b.toNat : Int) / 64 = 3 ∧ pLen b = 8 := by
  have := b.toNat_lt
  unfold pLen
  by_cases c1 : b.toNat < 64
  · left; rw [if_pos c1]; omega
  by_cases c2 : b.toNat < 128
  · right; left; rw [if_neg c1, if_pos c2]; omega
  by_cases c3 : b.toNat < 192
  · right; right; left; rw [if_neg c1, if_neg c2, if_pos c3]; omega
  · right; right; right; rw [if_neg c1, if_neg c2, if_neg c3]; omega
/-- One byte more: the shift and the or. -/
theorem or_byte {x : Int} (c : UInt8) (h0 : 0 ≤ x) (hx : x < 72057594037927936) : bits .or .u64 (x * 256) (c.toNat : Int) = x * 256 + (c.toNat : Int) := by
  obtain ⟨n, rfl⟩ := Int.eq_ofNat_of_zero_le h0
  have hc := c.toNat_lt
  have e : (n : Int) * 256 = ((n * 256 : Nat) : Int) := by omega
  rw [e, u64_or_nat _ _ (by omega) (by omega)]
  have h := Nat.two_pow_add_eq_or_of_lt (i := 8) (b := c.toNat) hc n
  rw [Nat.mul_comm] at h
  rw [← h]
  omega
/-- After i bytes more: below 2^56 while a byte may follow. -/
theorem ube_small {x : Nat} (hx : x < 64) (l : List UInt8) (hl : l.length ≤ 6) : ube x l < 72057594037927936 := by
  have h := (ube_ge x l).2
  have h2 : 256 ^ l.length ≤ 256 ^ 6 := Nat.pow_le_pow_right (by omega) hl
  have h3 : (x + 1) * 256 ^ l.length ≤ 64 * 256 ^ 6 := Nat.mul_le_mul (by omega) h2
  omega
theorem pRest_of {l : List UInt8} {n k e : Nat} (h : pTake l = (n, k, e)) : pRest l = if e = 0 then l.drop k else [] := by unfold pRest; rw [h]
/-- Too few bytes. -/
theorem pTake_few {b : UInt8} {r : List UInt8} (h : r.length + 1 < pLen b) : pTake (b :: r) = (0, 0, 3) := by rw [pTake, if_pos h]
theorem pTake_yes {b : UInt8} {r : List UInt8} {k : Nat} (hk : pLen b = k) (h : k ≤ r.length + 1) (hs : pSize (ube (b.toNat % 64) (r.take (k - 1))) = k) : pTake (b :: r) = (ube (b.toNat % 64) (r.take (k - 1)), k, 0) := by
  subst hk
  rw [pTake, if_neg (by omega), if_pos hs]
theorem pTake_no {b : UInt8} {r : List UInt8} {k : Nat} (hk : pLen b = k) (h : k ≤ r.length + 1) (hs : ¬ pSize (ube (b.toNat % 64) (r.take (k - 1))) = k) : pTake (b :: r) = (0, 0, 4) := by
  subst hk
  rw [pTake, if_neg (by omega), if_neg hs]
/-- What takeNumber leaves. -/
def TakePost (l : List UInt8) (B : Nat) (w : World) (e : Ending) (w' : World) : Prop :=
  ∃ R m c' q, e = .returned (.tuple #[.int .u64 ((pTake l).1 : Nat), .slice R m c', .int .i64 ((pTake l).2.2 : Nat)]) ∧ Rd w B 1 R m (vbs (pRest l)) ∧ m ≤ c' ∧ c' ≤ maxLen ∧ w' = w.drewN q
theorem rest_rd {w : World} {B B0 off n c k x : Nat} {b : UInt8} {r : List UInt8} (hr : Rd w B 1 (some ⟨B0, off, none⟩) n (vbs (b :: r))) (hk : k ≤ n) (hnc : n ≤ c) (e1 : pTake (b :: r) = (x, k, 0)) (hk0 : k ≠ 0)
    {R : Option Addr} (hR : R = if c = k then some ⟨B0, off, none⟩ else some ⟨B0, off + k, none⟩) : Rd w B 1 R (n - k) (vbs (pRest (b :: r))) := by
  have h := hr.cut hk hnc
  rw [pRest_of e1, if_pos rfl, ← vbs_drop]
  rw [Nat.mul_one] at h
  have e : (⟨B0, off, none⟩ : Addr).add k = ⟨B0, off + k, none⟩ := by
    unfold Addr.add
    rw [if_neg hk0]
  simp only [Option.map_some, e] at h
  rw [hR]
  exact h
theorem take_no {l : List UInt8} {B : Nat} {w : World} {e : Nat} (h : pTake l = (0, 0, e)) (he : e ≠ 0) : TakePost l B w (.returned (.tuple #[.int .u64 0, .slice none 0 0, .int .i64 e])) w :=
  ⟨none, 0, 0, 0, by rw [h]; rfl, by rw [pRest_of h, if_neg he]; exact Rd.none_ w B 1 0, Nat.le_refl _, Nat.zero_le _, rfl⟩
theorem take_yes {w : World} {B B0 off n c k q : Nat} {x : Int} {b : UInt8} {r : List UInt8} (hr : Rd w B 1 (some ⟨B0, off, none⟩) n (vbs (b :: r))) (hk : k ≤ n) (hnc : n ≤ c) (hc : c ≤ maxLen) (h0 : 0 ≤ x) (e1 : pTake (b :: r) = (x.toNat, k, 0)) (hk0 : k ≠ 0)
    {R : Option Addr} {m c' : Nat} (hR : R = if c = k then some ⟨B0, off, none⟩ else some ⟨B0, off + k, none⟩) (hm : m = n - k) (hc' : c' = c - k) :
    TakePost (b :: r) B w (.returned (.tuple #[.int .u64 x, .slice R m c', .int .i64 0])) (w.drewN q) := by
  subst hm; subst hc'
  refine ⟨R, n - k, c - k, q, ?_, rest_rd hr hk hnc e1 hk0 hR, Nat.sub_le_sub_right hnc k, Nat.le_trans (Nat.sub_le c k) hc, rfl⟩
  rw [e1]
  have e : ((x.toNat : Nat) : Int) = x := Int.toNat_of_nonneg h0
  rw [e]
  rfl
set_option maxRecDepth 100000 in
set_option maxHeartbeats 800000 in
theorem takeNumber_any (A : Option Addr) (n c : Nat) (l : List UInt8) (B : Nat) (w : World) (hr : Rd w B 1 A n (vbs l)) (hnc : n ≤ c) (hc : c ≤ maxLen) :
    Calls Try.prog 31 #[.slice A n c] w (TakePost l B w) := by
  have hlen := hr.len
  rw [vbs_len] at hlen
  cases l with
  | nil =>
    simp at hlen
    subst hlen
    unfold maxLen at hc
    go_enter Try.func31, Try.ntmps31
    go_wp2
    go_ret3
    exact take_no (l := []) (e := 3) rfl (by omega)
  | cons b r =>
    simp only [List.length_cons] at hlen
    have hn0 : ((n : Int) == 0) = false := by rw [beq_eq_false_iff_ne]; omega
    have hnp : (0 : Int) < n := by omega
    obtain ⟨B0, off, rfl, hB0, hcells⟩ := hr.head (by omega)
    have hcell0 := hcells 0 _ (show (vbs (b :: r))[0]? = some (.int .u8 (b.toNat : Int)) from rfl)
    simp only [Nat.add_zero] at hcell0
    have HC := hid hcells
    have HL := hid hlen
    clear hcells hlen
    have hx64 : b.toNat % 64 < 64 := Nat.mod_lt _ (by omega)
    rcases first_facts b with ⟨b1, b3, b4⟩ | ⟨b1, b2, b3, b4⟩ | ⟨b1, b2, b3, b4⟩ | ⟨b1, b2, b3, b4⟩
    all_goals
      have H4 := hid b4
      clear b4
      unfold maxLen at hc
      go_enter Try.func31, Try.ntmps31
      go_wp2_with (fail)
      all_goals first
        | (go_ret3
           have hk := H4.out
           have hl := HL.out
           have e1 := pTake_few (b := b) (r := r) (by omega)
           exact take_no (e := 3) e1 (by omega))
        | (go_loop [6, 30] (fun x i => ∃ j : Nat, j + 1 ≤ pLen b ∧ i = .int .i64 j ∧ x = .int .u64 ((ube (b.toNat % 64) (r.take j) : Nat) : Int)) (fun _ i => (8 - intOf i).toNat)
           case atStart => exact ⟨0, by rw [H4.out]; omega, rfl, by simp [ube]⟩
           case round =>
             obtain ⟨j, hj, rfl, rfl⟩ := hrel
             rw [H4.out] at hj
             by_cases hlt : j + 1 < pLen b
             · rw [H4.out] at hlt
               obtain ⟨rj, hrj⟩ : ∃ rj, r[j]? = some rj := ⟨r[j]'(by have := HL.out; omega), List.getElem?_eq_getElem _⟩
               obtain ⟨x, hx⟩ : ∃ x : Int, x = (ube (b.toNat % 64) (r.take j) : Nat) := ⟨_, rfl⟩
               have hcj := HC.out (1 + j) (.int .u8 (rj.toNat : Int)) (by rw [Nat.add_comm]; simp [vbs, vb, hrj])
               rw [← Nat.add_assoc] at hcj
               have hub := ube_small hx64 (r.take j) (by rw [List.length_take]; omega)
               have hx0 : 0 ≤ x := by omega
               have hub2 : x < 72057594037927936 := by omega
               have HO := hid (or_byte rj hx0 hub2)
               have hr256 : (rj.toNat : Int) < 256 := by have := rj.toNat_lt; omega
               rw [← hx]
               have HN := hid (show ((ube (b.toNat % 64) (r.take (j + 1)) : Nat) : Int) = x * 256 + (rj.toNat : Int) by rw [take_next hrj, ube_snoc, hx]; omega)
               clear hub hx hrj
               go_wp2
               all_goals
                 go_round
                 case rel => exact ⟨j + 1, by rw [H4.out]; omega, by go_num, by rw [HN.out, HO.out]⟩
                 case measure => simp [intOf]; omega
             · rw [H4.out] at hlt
               have hjk : j + 1 = pLen b := by rw [H4.out]; omega
               have hge : pLen b ≤ r.length + 1 := by rw [H4.out]; have := HL.out; omega
               obtain ⟨x, hx⟩ : ∃ x : Int, x = (ube (b.toNat % 64) (r.take j) : Nat) := ⟨_, rfl⟩
               rw [← hx]
               have hxx : ube (b.toNat % 64) (r.take (pLen b - 1)) = x.toNat := by rw [← hjk, hx]; rfl
               have hx0 : 0 ≤ x := by omega
               have hx1 : x ≤ 18446744073709551615 := by
                 have h1 := (ube_ge (b.toNat % 64) (r.take j)).2
                 have h2 : (r.take j).length ≤ 7 := by rw [List.length_take]; have := pLen_le b; omega
                 have h3 : 256 ^ (r.take j).length ≤ 256 ^ 7 := Nat.pow_le_pow_right (by omega) h2
                 have h4 : (b.toNat % 64 + 1) * 256 ^ (r.take j).length ≤ 64 * 256 ^ 7 := Nat.mul_le_mul (by omega) h3
                 omega
               have HXX := hid hxx
               clear hx hxx
               by_cases hs : pSize x.toNat = pLen b
               · have e1 := hid (pTake_yes (b := b) (r := r) rfl hge (by rw [HXX.out]; exact hs))
                 have hs2 : (((pSize x.toNat : Nat) : Int) == ((pLen b : Nat) : Int)) = true := by rw [hs]; simp
                 have Hge := hid hge
                 clear hs hjk hge
                 rw [H4.out] at hs2
                 go_wp2_with (go_at_call 25; refine (size_any _ _ hx0 hx1).mono ?_; rintro e w' ⟨rfl, rfl⟩)
                 go_quiet (fail)
                 all_goals go_wp2
                 all_goals go_ret3
                 all_goals
                   have hk := H4.out
                   have hl := HL.out
                   have hg := Hge.out
                   have h1 := e1.out
                   rw [HXX.out, hk] at h1
                   exact take_yes hr (by omega) hnc (by unfold maxLen; omega) hx0 h1 (by omega) (by first | (rw [if_pos (by omega)]; done) | (rw [if_neg (by omega)]; done)) (by first | rfl | omega) (by first | rfl | omega)
               · have e1 := hid (pTake_no (b := b) (r := r) rfl hge (by rw [HXX.out]; exact hs))
                 have hs2 : (((pSize x.toNat : Nat) : Int) == ((pLen b : Nat) : Int)) = false := by rw [beq_eq_false_iff_ne]; omega
                 have Hge := hid hge
                 clear hs hjk hge
                 rw [H4.out] at hs2
                 go_wp2_with (go_at_call 25; refine (size_any _ _ hx0 hx1).mono ?_; rintro e w' ⟨rfl, rfl⟩)
                 go_ret3
                 exact take_no (e := 4) e1.out (by omega))
theorem pRest_len (l : List UInt8) : (pRest l).length ≤ l.length := by
  unfold pRest
  split
  · rw [List.length_drop]; omega
  · simp
set_option maxHeartbeats 400000 in
theorem take_any (A : Option Addr) (n c : Nat) (l : List UInt8) (B : Nat) (w : World) (hr : Rd w B 1 A n (vbs l)) (hB : B ≤ w.heap.size) (hnc : n ≤ c) (hc : c ≤ maxLen) (hn : n ≤ 140737488355328) :
    Calls Try.prog 30 #[.slice A n c] w fun e w' =>
      ∃ R m c', e = .returned (.tuple #[.int .u64 ((pTake l).1 : Nat), .slice R m c', .int .i64 ((pTake l).2.2 : Nat)]) ∧ Own w' w.heap.size 5 1 R m c' (vbs (pRest l)) ∧ Turn w w' none := by
  have hl := hr.len
  rw [vbs_len] at hl
  have hlr := pRest_len l
  rw [hl] at hlr
  have hl := hid hl
  go_enter Try.func30, Try.ntmps30
  go_wp2_with (first
    | (go_at_call 31; refine (takeNumber_any _ _ _ l B _ hr hnc hc).mono ?_; rintro e w1 ⟨R, m, c1, q, rfl, hR, hm, hcm, rfl⟩; have hml := hR.len; rw [vbs_len] at hml; have hmn : m ≤ n := (by omega); have hml := hid hml)
    | (go_at_call 26; refine (fresh_any _ _ _ _ (pRest l) B _ (hR.drewN q) (by omega) (by omega) hB).mono ?_; rintro e w2 ⟨A2, c2, rfl, ho, ht⟩))
  go_ret3
  exact ⟨A2, m, c2, rfl, ho, ⟨ht.os, ht.tape, ht.output, ht.size, ht.block⟩⟩
end Go.Proofs.Ytadkhafjkbkinaa
