import Derived.Test.YtjjdhdieihmnnaaGreatDoorG1
import Derived.Laws.BitsAllLaws
import Derived.Test.YtjjdhdieihmnnaaGreatDoorG5
set_option linter.unusedSimpArgs false
set_option linter.unusedVariables false
set_option linter.unusedSectionVars false
/-
  Layer 3, its pure side: words of 32 bits, blocks, rounds; the hash of bytes.
-/
namespace Go.Proofs.YtjjdhdieihmnnaaGreatDoor.Sha
open Go.RowKit

/-- A word as an integer. -/
def cV (s : BitVec 32) : Int := (s.toNat : Int)
theorem cV_bd (s : BitVec 32) : 0 ≤ cV s ∧ cV s ≤ 4294967295 := by
  have h := s.isLt
  unfold cV
  omega
theorem cV_inj {s t : BitVec 32} (h : cV s = cV t) : s = t := by
  unfold cV at h
  exact BitVec.eq_of_toNat_eq (by omega)
theorem cV_of {n : Int} (h0 : 0 ≤ n) (h1 : n ≤ 4294967295) : ∃ s, n = cV s := by
  obtain ⟨k, rfl⟩ := Int.eq_ofNat_of_zero_le h0
  refine ⟨BitVec.ofNat 32 k, ?_⟩
  unfold cV
  rw [BitVec.toNat_ofNat, Nat.mod_eq_of_lt (by omega)]
theorem cV_xor (s t : BitVec 32) : bits .xor .u32 (cV s) (cV t) = cV (s ^^^ t) := by
  unfold cV
  rw [u32_xor_nat _ _ s.isLt t.isLt, BitVec.toNat_xor]
theorem cV_or (s t : BitVec 32) : bits .or .u32 (cV s) (cV t) = cV (s ||| t) := by
  unfold cV
  rw [u32_or_nat _ _ s.isLt t.isLt, BitVec.toNat_or]
theorem cV_and (s t : BitVec 32) : bits .and .u32 (cV s) (cV t) = cV (s &&& t) := by
  unfold cV
  rw [u32_and_nat _ _ s.isLt t.isLt, BitVec.toNat_and]
theorem cV_not (s : BitVec 32) : 4294967295 - cV s = cV (~~~ s) := by
  have h := s.isLt
  unfold cV
  rw [BitVec.toNat_not]
  omega
theorem cV_add (s t : BitVec 32) : (cV s + cV t) % 4294967296 = cV (s + t) := by
  unfold cV
  rw [BitVec.toNat_add]
  simp
theorem cW_add (s t : BitVec 32) : IntKind.u32.wrap (cV s + cV t) = cV (s + t) := by
  rw [IntKind.wrap_u32, cV_add]
theorem cV_shl (s : BitVec 32) (k : Nat) : cV s * 2 ^ k % 4294967296 = cV (s <<< k) := by
  unfold cV
  rw [BitVec.toNat_shiftLeft, Nat.shiftLeft_eq]
  simp
theorem cV_shr (s : BitVec 32) (k : Nat) : cV s / 2 ^ k = cV (s >>> k) := by
  unfold cV
  rw [BitVec.toNat_ushiftRight, Nat.shiftRight_eq_div_pow]
  simp
theorem cV_ofNat {n : Nat} (h : n ≤ 4294967295) : ((n : Nat) : Int) = cV (BitVec.ofNat 32 n) := by
  unfold cV
  rw [BitVec.toNat_ofNat, Nat.mod_eq_of_lt (by omega)]
theorem cOr_code (s : BitVec 32) (c : UInt8) : bits .or .u32 (cV s * (256 : Int) % (4294967296 : Int)) (c.toNat : Int) = cV ((s <<< 8) ||| BitVec.ofNat 32 c.toNat) := by
  have := c.toNat_lt
  have e1 : cV s * (256 : Int) % (4294967296 : Int) = cV (s <<< 8) := by
    unfold cV
    rw [BitVec.toNat_shiftLeft, Nat.shiftLeft_eq]
    omega
  have e2 : (c.toNat : Int) = cV (BitVec.ofNat 32 c.toNat) := by
    unfold cV
    rw [BitVec.toNat_ofNat, Nat.mod_eq_of_lt (by omega)]
  rw [e1, e2, cV_or]
/-- Words as values. -/
def cvs (l : List (BitVec 32)) : List Value := l.map fun s => .int .u32 (cV s)
theorem cvs_len (l : List (BitVec 32)) : (cvs l).length = l.length := by simp [cvs]
theorem cvs_at {l : List (BitVec 32)} {i : Nat} {s : BitVec 32} (h : l[i]? = some s) : (cvs l)[i]? = some (.int .u32 (cV s)) := by simp [cvs, h]
theorem cvs_append (l m : List (BitVec 32)) : cvs (l ++ m) = cvs l ++ cvs m := by simp [cvs]
theorem cvs_one (l : List (BitVec 32)) : ∀ u ∈ cvs l, u.oneCell' = true := by
  intro u hu
  obtain ⟨b, _, rfl⟩ := List.mem_map.1 hu
  rfl
theorem cvs_set (l : List (BitVec 32)) (i : Nat) (s : BitVec 32) : (cvs l).set i (.int .u32 (cV s)) = cvs (l.set i s) := by
  unfold cvs
  rw [List.map_set]

/-! ### Rounds -/
def sRot (x : BitVec 32) (n : Nat) : BitVec 32 := (x >>> n) ||| (x <<< (32 - n))
def sTri (x : BitVec 32) (i j k : Nat) : BitVec 32 := (sRot x i ^^^ sRot x j) ^^^ sRot x k
def sShi (x : BitVec 32) (i j k : Nat) : BitVec 32 := (sRot x i ^^^ sRot x j) ^^^ (x >>> k)
/-- The eight words. -/
structure W8 where
  a : BitVec 32
  b : BitVec 32
  c : BitVec 32
  d : BitVec 32
  e : BitVec 32
  f : BitVec 32
  g : BitVec 32
  h : BitVec 32
def W8.list (v : W8) : List (BitVec 32) := [v.a, v.b, v.c, v.d, v.e, v.f, v.g, v.h]
def W8.add (v w : W8) : W8 := ⟨v.a + w.a, v.b + w.b, v.c + w.c, v.d + w.d, v.e + w.e, v.f + w.f, v.g + w.g, v.h + w.h⟩
def sStart : W8 := ⟨0x6a09e667#32, 0xbb67ae85#32, 0x3c6ef372#32, 0xa54ff53a#32, 0x510e527f#32, 0x9b05688c#32, 0x1f83d9ab#32, 0x5be0cd19#32⟩
def sKeys : List (BitVec 32) := [
  0x428a2f98#32, 0x71374491#32, 0xb5c0fbcf#32, 0xe9b5dba5#32, 0x3956c25b#32, 0x59f111f1#32, 0x923f82a4#32, 0xab1c5ed5#32,
  0xd807aa98#32, 0x12835b01#32, 0x243185be#32, 0x550c7dc3#32, 0x72be5d74#32, 0x80deb1fe#32, 0x9bdc06a7#32, 0xc19bf174#32,
  0xe49b69c1#32, 0xefbe4786#32, 0x0fc19dc6#32, 0x240ca1cc#32, 0x2de92c6f#32, 0x4a7484aa#32, 0x5cb0a9dc#32, 0x76f988da#32,
  0x983e5152#32, 0xa831c66d#32, 0xb00327c8#32, 0xbf597fc7#32, 0xc6e00bf3#32, 0xd5a79147#32, 0x06ca6351#32, 0x14292967#32,
  0x27b70a85#32, 0x2e1b2138#32, 0x4d2c6dfc#32, 0x53380d13#32, 0x650a7354#32, 0x766a0abb#32, 0x81c2c92e#32, 0x92722c85#32,
  0xa2bfe8a1#32, 0xa81a664b#32, 0xc24b8b70#32, 0xc76c51a3#32, 0xd192e819#32, 0xd6990624#32, 0xf40e3585#32, 0x106aa070#32,
  0x19a4c116#32, 0x1e376c08#32, 0x2748774c#32, 0x34b0bcb5#32, 0x391c0cb3#32, 0x4ed8aa4a#32, 0x5b9cca4f#32, 0x682e6ff3#32,
  0x748f82ee#32, 0x78a5636f#32, 0x84c87814#32, 0x8cc70208#32, 0x90befffa#32, 0xa4506ceb#32, 0xbef9a3f7#32, 0xc67178f2#32]
theorem sKeys_len : sKeys.length = 64 := rfl
def sT1 (v : W8) (k w : BitVec 32) : BitVec 32 := (((v.h + sTri v.e 6 11 25) + ((v.e &&& v.f) ^^^ (~~~ v.e &&& v.g))) + k) + w
def sT2 (v : W8) : BitVec 32 := sTri v.a 2 13 22 + (((v.a &&& v.b) ^^^ (v.a &&& v.c)) ^^^ (v.b &&& v.c))
def sRnd (v : W8) (k w : BitVec 32) : W8 := ⟨sT1 v k w + sT2 v, v.a, v.b, v.c, v.d + sT1 v k w, v.e, v.f, v.g⟩
theorem cNot_code (s : BitVec 32) : bits .xor .u32 (if IntKind.u32.signed = true then -1 else IntKind.u32.max) (cV s) = cV (~~~ s) := by
  have e : (if IntKind.u32.signed = true then -1 else IntKind.u32.max) = cV 0xffffffff#32 := by decide
  have h2 : 0xffffffff#32 ^^^ s = ~~~ s := by rw [show (0xffffffff#32 : BitVec 32) = BitVec.allOnes 32 from rfl, BitVec.allOnes_xor]
  rw [e, cV_xor, h2]
theorem cNot_ref (s : BitVec 32) : bits .xor .u32 (cV s) 4294967295 = cV (~~~ s) := by
  have e : (4294967295 : Int) = cV 0xffffffff#32 := by decide
  have h2 : s ^^^ 0xffffffff#32 = ~~~ s := by rw [show (0xffffffff#32 : BitVec 32) = BitVec.allOnes 32 from rfl, BitVec.xor_allOnes]
  rw [e, cV_xor, h2]
theorem cT1_code (v : W8) (k w : BitVec 32) : (((cV v.h + cV (sTri v.e 6 11 25) + bits .xor .u32 (bits .and .u32 (cV v.e) (cV v.f)) (bits .and .u32 (bits .xor .u32 (if IntKind.u32.signed = true then -1 else IntKind.u32.max) (cV v.e)) (cV v.g)) + cV k) % 4294967296 + cV w) % 4294967296) = cV (sT1 v k w) := by
  rw [cNot_code, cV_and, cV_and, cV_xor]
  unfold sT1
  rw [← cV_add, ← cV_add, ← cV_add, ← cV_add]
  simp
theorem cT2_code (v : W8) : (cV (sTri v.a 2 13 22) + bits .xor .u32 (bits .xor .u32 (bits .and .u32 (cV v.a) (cV v.b)) (bits .and .u32 (cV v.a) (cV v.c))) (bits .and .u32 (cV v.b) (cV v.c))) % 4294967296 = cV (sT2 v) := by
  rw [cV_and, cV_and, cV_and, cV_xor, cV_xor, cV_add]
  rfl
/-- The first n rounds. -/
def sRun (ws : List (BitVec 32)) (v : W8) : Nat → W8
  | 0 => v
  | n + 1 => sRnd (sRun ws v n) (sKeys.getD n 0#32) (ws.getD n 0#32)
/-- The first i words are added already. -/
def sMix (s r : W8) (i : Nat) : List (BitVec 32) := (s.add r).list.take i ++ s.list.drop i
theorem sMix_at (s r : W8) (i : Nat) (h : i < 8) : ∃ x y, r.list[i]? = some y ∧ (sMix s r i)[i]? = some x ∧ (sMix s r i).set i (x + y) = sMix s r (i + 1) := by
  have : i = 0 ∨ i = 1 ∨ i = 2 ∨ i = 3 ∨ i = 4 ∨ i = 5 ∨ i = 6 ∨ i = 7 := by omega
  rcases this with rfl | rfl | rfl | rfl | rfl | rfl | rfl | rfl <;> exact ⟨_, _, rfl, rfl, rfl⟩
theorem sMix_len (s r : W8) (i : Nat) (h : i ≤ 8) : (sMix s r i).length = 8 := by simp [sMix, W8.list]; omega
theorem sMix_zero (s r : W8) : sMix s r 0 = s.list := rfl
theorem sMix_all (s r : W8) : sMix s r 8 = (s.add r).list := rfl
/-- A word of four bytes. -/
def sWord (l : List UInt8) : BitVec 32 := l.foldl (fun s c => (s <<< 8) ||| BitVec.ofNat 32 c.toNat) 0#32
theorem sWord_last (l : List UInt8) (c : UInt8) : sWord (l ++ [c]) = (sWord l <<< 8) ||| BitVec.ofNat 32 c.toNat := by simp [sWord]
/-- The block's first n words. -/
def sFirst (m : List UInt8) : Nat → List (BitVec 32)
  | 0 => []
  | n + 1 => sFirst m n ++ [sWord ((m.drop (4 * n)).take 4)]
theorem sFirst_len (m : List UInt8) (n : Nat) : (sFirst m n).length = n := by
  induction n with
  | zero => rfl
  | succ n ih => simp [sFirst, ih]
def sNext (ws : List (BitVec 32)) (i : Nat) : BitVec 32 :=
  ((ws.getD (i - 16) 0#32 + sShi (ws.getD (i - 15) 0#32) 7 18 3) + ws.getD (i - 7) 0#32) + sShi (ws.getD (i - 2) 0#32) 17 19 10
/-- And n more. -/
def sMore (ws : List (BitVec 32)) : Nat → List (BitVec 32)
  | 0 => ws
  | n + 1 => sMore ws n ++ [sNext (sMore ws n) (ws.length + n)]
theorem sMore_len (ws : List (BitVec 32)) (n : Nat) : (sMore ws n).length = ws.length + n := by
  induction n with
  | zero => rfl
  | succ n ih => simp [sMore, ih]; omega
/-- The table after j bytes. -/
def sPart (m : List UInt8) (j : Nat) : List (BitVec 32) := (List.range 64).map fun q => sWord (((m.take j).drop (4 * q)).take 4)
theorem sPart_len (m : List UInt8) (j : Nat) : (sPart m j).length = 64 := by simp [sPart]
theorem sPart_zero (m : List UInt8) : sPart m 0 = List.replicate 64 0#32 := by
  simp only [sPart, List.take_zero, List.drop_nil, List.take_nil]
  rfl
theorem sPart_at (m : List UInt8) (j q : Nat) (hq : q < 64) : (sPart m j)[q]? = some (sWord (((m.take j).drop (4 * q)).take 4)) := by
  simp [sPart, List.getElem?_map, List.getElem?_range hq]
theorem sPart_next {m : List UInt8} {j : Nat} {c : UInt8} (hj : j < 64) (hc : m[j]? = some c) :
    (sPart m j).set (j / 4) ((sWord (((m.take j).drop (4 * (j / 4))).take 4) <<< 8) ||| BitVec.ofNat 32 c.toNat) = sPart m (j + 1) := by
  have hlt := (List.getElem?_eq_some_iff.1 hc).1
  have ht : m.take (j + 1) = m.take j ++ [c] := by rw [List.take_add_one, hc]; rfl
  have hl : (m.take j).length = j := by rw [List.length_take]; omega
  apply List.ext_getElem?
  intro q
  by_cases hq : q < 64
  · rw [sPart_at _ _ _ hq, List.getElem?_set]
    by_cases e : j / 4 = q
    · rw [if_pos e, if_pos (by rw [sPart_len]; omega), ht]
      subst e
      have h1 : (m.take j ++ [c]).drop (4 * (j / 4)) = (m.take j).drop (4 * (j / 4)) ++ [c] := List.drop_append_of_le_length (by omega)
      have h2 : ((m.take j).drop (4 * (j / 4))).length < 4 := by rw [List.length_drop, hl]; omega
      rw [h1, List.take_of_length_le (l := _ ++ [c]) (by rw [List.length_append]; simp; omega), sWord_last, List.take_of_length_le (by omega)]
    · rw [if_neg e, sPart_at _ _ _ hq, ht]
      congr 2
      by_cases h : q < j / 4
      · rw [List.drop_append_of_le_length (by omega), List.take_append_of_le_length (by rw [List.length_drop]; omega)]
      · rw [List.drop_eq_nil_of_le (by omega), List.drop_eq_nil_of_le (by simp; omega)]
  · rw [List.getElem?_eq_none (by rw [List.length_set, sPart_len]; omega), List.getElem?_eq_none (by rw [sPart_len]; omega)]
/-- The table from word 16 on. -/
def sTab (m : List UInt8) (n : Nat) : List (BitVec 32) := sMore (sFirst m 16) n ++ List.replicate (48 - n) 0#32
theorem sTab_len {m : List UInt8} {n : Nat} (h : n ≤ 48) : (sTab m n).length = 64 := by simp [sTab, sMore_len, sFirst_len]; omega
theorem sTab_at (m : List UInt8) (n k : Nat) (h : k < 16 + n) : (sTab m n)[k]? = some ((sMore (sFirst m 16) n).getD k 0#32) := by
  have hk : k < (sMore (sFirst m 16) n).length := by rw [sMore_len, sFirst_len]; exact h
  rw [sTab, List.getElem?_append_left hk, List.getElem?_eq_getElem hk, List.getD_eq_getElem?_getD, List.getElem?_eq_getElem hk]
  rfl
theorem sTab_next (m : List UInt8) (n : Nat) (h : n < 48) : (sTab m n).set (16 + n) (sNext (sMore (sFirst m 16) n) (16 + n)) = sTab m (n + 1) := by
  have e : List.replicate (48 - n) 0#32 = 0#32 :: List.replicate (48 - (n + 1)) 0#32 := by
    have : 48 - n = (48 - (n + 1)) + 1 := by omega
    rw [this]; rfl
  have hl : (sMore (sFirst m 16) n).length = 16 + n := by rw [sMore_len, sFirst_len]
  rw [sTab, sTab, e, sMore, sFirst_len, List.append_assoc, List.set_append_right _ _ (by omega), hl, Nat.sub_self]
  rfl
theorem sFirst_at (m : List UInt8) (n q : Nat) (h : q < n) : (sFirst m n)[q]? = some (sWord ((m.drop (4 * q)).take 4)) := by
  induction n with
  | zero => omega
  | succ n ih =>
    rw [sFirst]
    by_cases e : q = n
    · subst e
      rw [List.getElem?_append_right (by rw [sFirst_len]; omega), sFirst_len, Nat.sub_self]
      rfl
    · rw [List.getElem?_append_left (by rw [sFirst_len]; omega)]
      exact ih (by omega)
theorem sPart_all {m : List UInt8} (h : m.length = 64) : sPart m 64 = sTab m 0 := by
  have e64 : m.take 64 = m := List.take_of_length_le (by omega)
  apply List.ext_getElem?
  intro q
  by_cases hq : q < 64
  · rw [sPart_at _ _ _ hq, e64, sTab, sMore]
    by_cases e : q < 16
    · rw [List.getElem?_append_left (by rw [sFirst_len]; omega), sFirst_at _ _ _ e]
    · rw [List.getElem?_append_right (by rw [sFirst_len]; omega), sFirst_len, List.getElem?_replicate, if_pos (by omega), List.drop_eq_nil_of_le (by omega)]
      rfl
  · rw [List.getElem?_eq_none (by rw [sPart_len]; omega), List.getElem?_eq_none (by rw [sTab_len (by omega)]; omega)]
def sSpread (m : List UInt8) : List (BitVec 32) := sMore (sFirst m 16) 48
theorem sSpread_len (m : List UInt8) : (sSpread m).length = 64 := by rw [sSpread, sMore_len, sFirst_len]
def sBlock (s : W8) (m : List UInt8) : W8 := s.add (sRun (sSpread m) s 64)
/-- The first n blocks. -/
def sGo (m : List UInt8) : Nat → W8
  | 0 => sStart
  | n + 1 => sBlock (sGo m n) ((m.drop (64 * n)).take 64)
theorem sGo_more (m x : List UInt8) (n : Nat) (h : 64 * n ≤ m.length) : sGo (m ++ x) n = sGo m n := by
  induction n with
  | zero => rfl
  | succ n ih =>
    have e : ((m ++ x).drop (64 * n)).take 64 = (m.drop (64 * n)).take 64 := by
      rw [List.drop_append_of_le_length (by omega), List.take_append_of_le_length (by rw [List.length_drop]; omega)]
    rw [sGo, sGo, e, ih (by omega)]
/-- What a hash under way holds, l being written: its words s, its block m. -/
def sState (l : List UInt8) (s : W8) (m : List UInt8) : Prop := m.length = 64 ∧ s = sGo l (l.length / 64) ∧ m.take (l.length % 64) = l.drop (64 * (l.length / 64))
/-- The block with x laid behind its first r bytes. -/
def sLay (m : List UInt8) (r : Nat) (x : List UInt8) : List UInt8 := m.take r ++ x ++ m.drop (r + x.length)
theorem sLay_len {m x : List UInt8} {r : Nat} (h : m.length = 64) (hx : r + x.length ≤ 64) : (sLay m r x).length = 64 := by
  simp [sLay, h]; omega
theorem sState_nil : sState [] sStart (List.replicate 64 0) := ⟨by simp, rfl, by simp⟩
theorem sState_part {l x m : List UInt8} {s : W8} (h : sState l s m) (hx : l.length % 64 + x.length < 64) : sState (l ++ x) s (sLay m (l.length % 64) x) := by
  obtain ⟨h1, h2, h3⟩ := h
  have e1 : (l ++ x).length / 64 = l.length / 64 := by rw [List.length_append]; omega
  have e2 : (l ++ x).length % 64 = l.length % 64 + x.length := by rw [List.length_append]; omega
  refine ⟨sLay_len h1 (by omega), ?_, ?_⟩
  · rw [e1, sGo_more _ _ _ (by omega)]; exact h2
  · rw [e1, e2, List.drop_append_of_le_length (by omega), ← h3]
    unfold sLay
    rw [List.take_append_of_le_length (by rw [List.length_append, List.length_take]; omega), List.take_of_length_le (by rw [List.length_append, List.length_take]; omega)]
theorem sState_full {l x m : List UInt8} {s : W8} (h : sState l s m) (hx : l.length % 64 + x.length = 64) : sState (l ++ x) (sBlock s (sLay m (l.length % 64) x)) (sLay m (l.length % 64) x) := by
  obtain ⟨h1, h2, h3⟩ := h
  have e1 : (l ++ x).length / 64 = l.length / 64 + 1 := by rw [List.length_append]; omega
  have e2 : (l ++ x).length % 64 = 0 := by rw [List.length_append]; omega
  have hl : sLay m (l.length % 64) x = (l ++ x).drop (64 * (l.length / 64)) := by
    unfold sLay
    rw [List.drop_append_of_le_length (by omega), ← h3, hx, List.drop_eq_nil_of_le (by omega), List.append_nil]
  refine ⟨sLay_len h1 (by omega), ?_, ?_⟩
  · rw [e1, sGo, sGo_more _ _ _ (by omega), ← h2]
    have h4 : (sLay m (l.length % 64) x).take 64 = sLay m (l.length % 64) x := List.take_of_length_le (by rw [sLay_len h1 (by omega)]; omega)
    rw [hl] at h4 ⊢
    rw [h4]
  · rw [e1, e2, List.take_zero, List.drop_eq_nil_of_le (by rw [List.length_append]; omega)]
/-- The number of bits, in eight bytes. -/
def sLen (n : Nat) : List UInt8 := [UInt8.ofNat (n * 8 / 72057594037927936), UInt8.ofNat (n * 8 / 281474976710656), UInt8.ofNat (n * 8 / 1099511627776), UInt8.ofNat (n * 8 / 4294967296), UInt8.ofNat (n * 8 / 16777216), UInt8.ofNat (n * 8 / 65536), UInt8.ofNat (n * 8 / 256), UInt8.ofNat (n * 8)]
def sZeros (n : Nat) : Nat := (119 - n % 64) % 64
def sEnd (n : Nat) : List UInt8 := (128 :: List.replicate (sZeros n) 0) ++ sLen n
theorem sEnd_len (n : Nat) : (sEnd n).length = sZeros n + 9 := by simp [sEnd, sLen]
theorem sZeros_lt (n : Nat) : sZeros n < 64 := Nat.mod_lt _ (by decide)
def sPad (l : List UInt8) : List UInt8 := l ++ sEnd l.length
/-- The words' bytes. -/
def sBs (s : BitVec 32) : List UInt8 := [UInt8.ofNat (s.toNat / 16777216), UInt8.ofNat (s.toNat / 65536), UInt8.ofNat (s.toNat / 256), UInt8.ofNat s.toNat]
def sOut (v : W8) : List UInt8 := v.list.flatMap sBs
theorem sOut_len (v : W8) : (sOut v).length = 32 := by simp [sOut, W8.list, sBs]
/-- The hash. -/
def sHash (l : List UInt8) : List UInt8 := sOut (sGo (sPad l) ((sPad l).length / 64))
theorem sHash_len (l : List UInt8) : (sHash l).length = 32 := sOut_len _
theorem sPad_len (l : List UInt8) : (sPad l).length = 64 * ((sPad l).length / 64) := by
  have h : (sPad l).length = l.length + (sZeros l.length + 9) := by rw [sPad, List.length_append, sEnd_len]
  rw [h]
  unfold sZeros
  omega
/-- At the end the words are the hash's. -/
theorem sState_out {l : List UInt8} {s : W8} {m : List UInt8} (h : sState (sPad l) s m) : sOut s = sHash l := by
  rw [h.2.1]
  rfl
/-- The first i words' bytes, and noughts. -/
def sOutTo (s : W8) (i : Nat) : List UInt8 := (sOut s).take (4 * i) ++ List.replicate (32 - 4 * i) 0
theorem sOutTo_at (s : W8) (i : Nat) (h : i < 8) : ∃ x, s.list[i]? = some x ∧
    ((((sOutTo s i).set (4 * i) (UInt8.ofNat (x.toNat / 16777216))).set (4 * i + 1) (UInt8.ofNat (x.toNat / 65536))).set (4 * i + 2) (UInt8.ofNat (x.toNat / 256))).set (4 * i + 3) (UInt8.ofNat x.toNat) = sOutTo s (i + 1) := by
  have : i = 0 ∨ i = 1 ∨ i = 2 ∨ i = 3 ∨ i = 4 ∨ i = 5 ∨ i = 6 ∨ i = 7 := by omega
  rcases this with rfl | rfl | rfl | rfl | rfl | rfl | rfl | rfl <;> exact ⟨_, rfl, rfl⟩
theorem sOutTo_len (s : W8) (i : Nat) (h : i ≤ 8) : (sOutTo s i).length = 32 := by
  simp [sOutTo, sOut_len]; omega
theorem sOutTo_zero (s : W8) : sOutTo s 0 = List.replicate 32 0 := rfl
theorem sOutTo_all (s : W8) : sOutTo s 8 = sOut s := by
  unfold sOutTo
  rw [List.take_of_length_le (by rw [sOut_len]; omega)]
  simp
theorem sMore_at (m : List UInt8) (n k : Nat) (h : k < 16 + n) : (sMore (sFirst m 16) n)[k]? = some ((sMore (sFirst m 16) n).getD k 0#32) := by
  have hk : k < (sMore (sFirst m 16) n).length := by rw [sMore_len, sFirst_len]; exact h
  rw [List.getElem?_eq_getElem hk, List.getD_eq_getElem?_getD, List.getElem?_eq_getElem hk]
  rfl
theorem cS3 (s : BitVec 32) : cV s / (8 : Int) = cV (s >>> 3) := cV_shr s 3
theorem cS10 (s : BitVec 32) : cV s / (1024 : Int) = cV (s >>> 10) := cV_shr s 10
theorem cOr_add (s : BitVec 32) (c : UInt8) : cV ((s <<< 8) ||| BitVec.ofNat 32 c.toNat) = cV s % 16777216 * 256 + (c.toNat : Int) := by
  have hc := c.toNat_lt
  have h1 : (s <<< 8).toNat = (s.toNat % 16777216) <<< 8 := by
    rw [BitVec.toNat_shiftLeft, Nat.shiftLeft_eq, Nat.shiftLeft_eq]
    omega
  unfold cV
  rw [BitVec.toNat_or, BitVec.toNat_ofNat, Nat.mod_eq_of_lt (a := c.toNat) (by omega), h1, ← Nat.shiftLeft_add_eq_or_of_lt (by omega : c.toNat < 2 ^ 8), Nat.shiftLeft_eq]
  omega
theorem sWord4 (x0 x1 x2 x3 : UInt8) : IntKind.u32.wrap (IntKind.u32.wrap (IntKind.u32.wrap (IntKind.u32.wrap (IntKind.u32.wrap (x0.toNat : Int) * 16777216) + IntKind.u32.wrap (IntKind.u32.wrap (x1.toNat : Int) * 65536)) + IntKind.u32.wrap (IntKind.u32.wrap (x2.toNat : Int) * 256)) + IntKind.u32.wrap (x3.toNat : Int)) = cV (sWord [x0, x1, x2, x3]) := by
  have h0 := x0.toNat_lt
  have h1 := x1.toNat_lt
  have h2 := x2.toNat_lt
  have h3 := x3.toNat_lt
  have hz : cV 0#32 = 0 := rfl
  simp only [sWord, List.foldl_cons, List.foldl_nil, cOr_add, hz, IntKind.wrap_u32]
  omega
theorem cTri_ref (s : BitVec 32) (i j k : Nat) : bits .xor .u32 (bits .xor .u32 (cV (sRot s i)) (cV (sRot s j))) (cV (sRot s k)) = cV (sTri s i j k) := by
  rw [cV_xor, cV_xor]; rfl
theorem cT1_ref (v : W8) (k w : BitVec 32) : (((cV v.h + bits .xor .u32 (bits .xor .u32 (cV (sRot v.e 6)) (cV (sRot v.e 11))) (cV (sRot v.e 25)) + bits .xor .u32 (bits .and .u32 (cV v.e) (cV v.f)) (bits .and .u32 (bits .xor .u32 (cV v.e) (4294967295 : Int)) (cV v.g)) + cV k) % (4294967296 : Int) + cV w) % (4294967296 : Int)) = cV (sT1 v k w) := by
  rw [cTri_ref, cNot_ref, cV_and, cV_and, cV_xor]
  unfold sT1
  rw [← cV_add, ← cV_add, ← cV_add, ← cV_add]
  simp
theorem cT2_ref (v : W8) : (bits .xor .u32 (bits .xor .u32 (cV (sRot v.a 2)) (cV (sRot v.a 13))) (cV (sRot v.a 22)) + bits .xor .u32 (bits .xor .u32 (bits .and .u32 (cV v.a) (cV v.b)) (bits .and .u32 (cV v.a) (cV v.c))) (bits .and .u32 (cV v.b) (cV v.c))) % (4294967296 : Int) = cV (sT2 v) := by
  rw [cTri_ref]
  exact cT2_code v
theorem sOut_at (s : W8) (i : Nat) (h : i < 32) : ∃ x, s.list[i / 4]? = some x ∧ (sOut s)[i]? = some (UInt8.ofNat (x.toNat / 2 ^ (24 - 8 * (i % 4)))) := by
  have : i = 0 ∨ i = 1 ∨ i = 2 ∨ i = 3 ∨ i = 4 ∨ i = 5 ∨ i = 6 ∨ i = 7 ∨ i = 8 ∨ i = 9 ∨ i = 10 ∨ i = 11 ∨ i = 12 ∨ i = 13 ∨ i = 14 ∨ i = 15 ∨ i = 16 ∨ i = 17 ∨ i = 18 ∨ i = 19 ∨ i = 20 ∨ i = 21 ∨ i = 22 ∨ i = 23 ∨ i = 24 ∨ i = 25 ∨ i = 26 ∨ i = 27 ∨ i = 28 ∨ i = 29 ∨ i = 30 ∨ i = 31 := by omega
  rcases this with rfl | rfl | rfl | rfl | rfl | rfl | rfl | rfl | rfl | rfl | rfl | rfl | rfl | rfl | rfl | rfl | rfl | rfl | rfl | rfl | rfl | rfl | rfl | rfl | rfl | rfl | rfl | rfl | rfl | rfl | rfl | rfl <;> first | exact ⟨_, rfl, rfl⟩ | exact ⟨_, rfl, (by show some (UInt8.ofNat (BitVec.toNat _)) = some (UInt8.ofNat (BitVec.toNat _ / 1)); rw [Nat.div_one]; try rfl)⟩
/-- The first i bytes, and noughts. -/
def sOutBy (s : W8) (i : Nat) : List UInt8 := (sOut s).take i ++ List.replicate (32 - i) 0
theorem sOutBy_len (s : W8) (i : Nat) (h : i ≤ 32) : (sOutBy s i).length = 32 := by
  simp [sOutBy, sOut_len]; omega
theorem sOutBy_next {s : W8} {i : Nat} {b : UInt8} (h : i < 32) (hb : (sOut s)[i]? = some b) : (sOutBy s i).set i b = sOutBy s (i + 1) := by
  have e : List.replicate (32 - i) (0 : UInt8) = 0 :: List.replicate (32 - (i + 1)) 0 := by
    have : 32 - i = (32 - (i + 1)) + 1 := by omega
    rw [this]; rfl
  have hl : ((sOut s).take i).length = i := by rw [List.length_take, sOut_len]; omega
  rw [sOutBy, sOutBy, e, List.set_append_right _ _ (by omega), hl, Nat.sub_self, List.take_add_one, hb, List.append_assoc]
  rfl
theorem sOutBy_zero (s : W8) : sOutBy s 0 = List.replicate 32 0 := rfl
theorem sOutBy_all (s : W8) : sOutBy s 32 = sOut s := by
  unfold sOutBy
  rw [List.take_of_length_le (by rw [sOut_len]; omega)]
  simp
end Go.Proofs.YtjjdhdieihmnnaaGreatDoor.Sha
/-
  Layer 3: words that are turned and shifted (contracts).
-/
namespace Go.Proofs.YtjjdhdieihmnnaaGreatDoor.Sha
open Go.RowKit

theorem elB : El Tryz.prog 55 5 1 1 := El.mk_ Tryz.underlying55 (z := .int .u8 0) (by kernel_rfl) rfl (by decide)
theorem elW : El Tryz.prog 114 117 1 4 := El.mk_ Tryz.underlying114 (z := .int .u32 0) (by kernel_rfl) rfl (by decide)

theorem neg_and : ∀ n : Nat, n < 32 → 0 < n → bits .and .u64 (IntKind.u64.wrap (-(n : Int))) 31 = ((32 - n : Nat) : Int) := by
  decide +kernel

theorem rotl_any (s : BitVec 32) (n : Nat) (hn : n < 32) (h0 : 0 < n) (w : World) :
    Calls Tryz.prog 144 #[.int .u32 (cV s), .int .i64 (-(n : Int))] w fun e w' => e = .returned (.int .u32 (cV (sRot s n))) ∧ w = w' := by
  have hs := cV_bd s
  have hf := neg_and n hn h0
  obtain ⟨k, hk⟩ : ∃ k, k = 32 - n := ⟨_, rfl⟩
  rw [← hk] at hf
  have hk32 : k < 32 := by omega
  go_enter Tryz.func144, Tryz.ntmps144
  go_wp2
  go_ret
  refine ⟨?_, rfl⟩
  have e : 32 - (32 - n) = n := by omega
  rw [e, cV_shr, cV_shl, cV_or, BitVec.or_comm]
  rfl
theorem right_any (s : BitVec 32) (n : Nat) (hn : n < 32) (h0 : 0 < n) (w : World) :
    Calls Tryz.prog 137 #[.int .u32 (cV s), .int .i64 (n : Int)] w fun e w' => e = .returned (.int .u32 (cV (sRot s n))) ∧ w = w' := by
  have hs := cV_bd s
  go_enter Tryz.func137, Tryz.ntmps137
  go_wp2_with (go_at_call 144; refine (rotl_any s n hn h0 _).mono ?_; rintro e w' ⟨rfl, rfl⟩)
  go_ret
  exact ⟨rfl, rfl⟩
theorem rturn_any (s : BitVec 32) (n : Nat) (hn : n < 32) (h0 : 0 < n) (w : World) :
    Calls Tryz.prog 74 #[.int .u32 (cV s), .int .u64 (n : Int)] w fun e w' => e = .returned (.int .u32 (cV (sRot s n))) ∧ w = w' := by
  have hs := cV_bd s
  go_enter Tryz.func74, Tryz.ntmps74
  go_wp2
  go_ret
  refine ⟨?_, rfl⟩
  rw [cV_shr, cV_shl, cV_or]
  rfl
theorem turned_any (s : BitVec 32) (i j k : Nat) (hi : i < 32) (hj : j < 32) (hk : k < 32) (i0 : 0 < i) (j0 : 0 < j) (k0 : 0 < k) (w : World) :
    Calls Tryz.prog 115 #[.int .u32 (cV s), .int .i64 (i : Int), .int .i64 (j : Int), .int .i64 (k : Int)] w fun e w' => e = .returned (.int .u32 (cV (sTri s i j k))) ∧ w = w' := by
  have hs := cV_bd s
  have b1 := cV_bd (sRot s i)
  have b2 := cV_bd (sRot s j)
  have b3 := cV_bd (sRot s k)
  go_enter Tryz.func115, Tryz.ntmps115
  go_wp2_with (first
    | (go_at_call_of 137 (Value.int .i64 (i : Int)); refine (right_any s i hi i0 _).mono ?_; rintro e w' ⟨rfl, rfl⟩)
    | (go_at_call_of 137 (Value.int .i64 (j : Int)); refine (right_any s j hj j0 _).mono ?_; rintro e w' ⟨rfl, rfl⟩)
    | (go_at_call_of 137 (Value.int .i64 (k : Int)); refine (right_any s k hk k0 _).mono ?_; rintro e w' ⟨rfl, rfl⟩))
  rw [cV_xor, cV_xor]
  go_ret
  exact ⟨rfl, rfl⟩
/-- A callee that turns nothing, in a region that is walked quietly. -/
theorem quiet_eq {P : Program} {f : FuncId} {args : Array Value} {w : World} {n : Nat} {v : Value}
    (h : Calls P f args (w.drewN n) fun e w' => e = .returned v ∧ w.drewN n = w') : Calls P f args (w.drewN n) fun e w'' => e = .returned v ∧ ∃ m, w'' = w.drewN m :=
  h.mono fun _ _ ⟨he, hm⟩ => ⟨he, n, hm.symm⟩
theorem quiet_ex {P : Program} {f : FuncId} {args : Array Value} {w : World} {n : Nat} {v : Value}
    (h : Calls P f args (w.drewN n) fun e w' => e = .returned v ∧ ∃ q, w' = (w.drewN n).drewN q) : Calls P f args (w.drewN n) fun e w'' => e = .returned v ∧ ∃ m, w'' = w.drewN m :=
  Calls.quiet_of h
set_option maxRecDepth 100000 in
theorem shifted_any (s : BitVec 32) (i j k : Nat) (hi : i < 32) (hj : j < 32) (hk : k < 32) (i0 : 0 < i) (j0 : 0 < j) (w : World) :
    Calls Tryz.prog 136 #[.int .u32 (cV s), .int .i64 (i : Int), .int .i64 (j : Int), .int .i64 (k : Int)] w fun e w' => e = .returned (.int .u32 (cV (sShi s i j k))) ∧ ∃ q, w' = w.drewN q := by
  have hs := cV_bd s
  have b1 := cV_bd (sRot s i)
  have b2 := cV_bd (sRot s j)
  go_enter Tryz.func136, Tryz.ntmps136
  go_wp2_with fail
  go_quiet (first
    | (go_at_call_of 137 (Value.int .i64 (i : Int)); exact quiet_eq (right_any s i hi i0 _))
    | (go_at_call_of 137 (Value.int .i64 (j : Int)); exact quiet_eq (right_any s j hj j0 _)))
  rw [cV_xor, cV_shr, cV_xor]
  go_wp2_with fail
  go_ret
  exact ⟨rfl, nq, rfl⟩
theorem turned_of (x : Int) (s : BitVec 32) (h : x = cV s) (a b c : Int) (i j k : Nat) (ha : a = i) (hb : b = j) (hc : c = k) (hi : i < 32) (hj : j < 32) (hk : k < 32) (i0 : 0 < i) (j0 : 0 < j) (k0 : 0 < k) (w : World) :
    Calls Tryz.prog 115 #[.int .u32 x, .int .i64 a, .int .i64 b, .int .i64 c] w fun e w' => e = .returned (.int .u32 (cV (sTri s i j k))) ∧ w = w' := by
  subst h ha hb hc
  exact turned_any s i j k hi hj hk i0 j0 k0 w
theorem shifted_of (x : Int) (s : BitVec 32) (h : x = cV s) (a b c : Int) (i j k : Nat) (ha : a = i) (hb : b = j) (hc : c = k) (hi : i < 32) (hj : j < 32) (hk : k < 32) (i0 : 0 < i) (j0 : 0 < j) (w : World) :
    Calls Tryz.prog 136 #[.int .u32 x, .int .i64 a, .int .i64 b, .int .i64 c] w fun e w' => e = .returned (.int .u32 (cV (sShi s i j k))) ∧ ∃ q, w' = w.drewN q := by
  subst h ha hb hc
  exact shifted_any s i j k hi hj hk i0 j0 w
theorem rturn_of (x : Int) (s : BitVec 32) (h : x = cV s) (a : Int) (i : Nat) (ha : a = i) (hi : i < 32) (i0 : 0 < i) (w : World) :
    Calls Tryz.prog 74 #[.int .u32 x, .int .u64 a] w fun e w' => e = .returned (.int .u32 (cV (sRot s i))) ∧ w = w' := by
  subst h ha
  exact rturn_any s i hi i0 w
end Go.Proofs.YtjjdhdieihmnnaaGreatDoor.Sha
/-
  Layer 3: a block's words (contracts).
-/
namespace Go.Proofs.YtjjdhdieihmnnaaGreatDoor.Sha
open Go.RowKit

theorem nul64 : ∀ w, (zeroValue 150).run Tryz.prog w = .ok (.agg (cvs (List.replicate 64 0#32)).toArray) w := zero_at (by kernel_rfl)
theorem sz64w {xs : List Value} (h : xs.length = 64) : (Tryz.prog.info? 150).map (·.size) = some xs.length := by rw [h]; kernel_rfl
theorem sz64b {xs : List Value} (h : xs.length = 64) : (Tryz.prog.info? 134).map (·.size) = some xs.length := by rw [h]; kernel_rfl
theorem cells_agg (cs : Array Value) : (Value.agg cs).cells = cs := rfl

set_option maxRecDepth 100000 in
set_option maxHeartbeats 800000 in
theorem spread_any (m : List UInt8) (hm : m.length = 64) (w : World) :
    Calls Tryz.prog 114 #[.agg (vbs m).toArray] w fun e w' => e = .returned (.agg (cvs (sSpread m)).toArray) ∧ Turn w w' none := by
  have hT := Turn.refl w none
  obtain ⟨X, hX⟩ : ∃ X, X = cvs (sSpread m) := ⟨_, rfl⟩
  have hX1 : X.length = 64 := by rw [hX, cvs_len, sSpread_len]
  have hX2 : ∀ u ∈ X, u.oneCell' = true := by rw [hX]; exact cvs_one _
  rw [← hX]
  have HX := hid hX
  clear hX
  go_enter Tryz.func114, Tryz.ntmps114
  go_wp2_with (first
    | (refine wp_bx rfl 134 _ rfl rfl ?_; intro g1 w1 hg1 hb1 ht1; have hT := hT.trans ht1)
    | (refine wp_al rfl 150 rfl _ nul64 ?_; first
        | (have hh := hb2; clear hh; intro g3 w3 hg3 hb3 ht3; have hT := hT.trans ht3; have g23 : g2 < g3 := (by rw [← hg3]; exact hb2.lt); have hb2 := hb2.turn0 ht3; have hb1 := hb1.turn0 ht3; rw [cells_agg] at hb3)
        | (intro g2 w2 hg2 hb2 ht2; have hT := hT.trans ht2; have hb1 := hb1.turn0 ht2; rw [cells_agg] at hb2))
    | (refine wp_ld rfl 134 _ rfl rfl hb1 (Sub.all _) Tryz.underlying134 rfl (sz64b (by rw [vbs_len, hm])) ?_))
  have hs1 := ht1.size
  have hs2 := ht2.size
  have g12 := hb1.lt
  have g02 : w.heap.size ≤ g3 := by omega
  clear hb1 ht1 ht2 ht3
  go_loopw [8] (fun i wr => ∃ j : Nat, j ≤ 64 ∧ i = .int .i64 (j : Int) ∧ Blk wr g3 150 (cvs (sPart m j)).toArray ∧ Turn w3 wr (some g3)) (fun i _ => (64 - intOf i).toNat)
  case atStart => exact ⟨0, by omega, rfl, by rw [sPart_zero]; exact hb3, Turn.refl w3 _⟩
  case round =>
    obtain ⟨j, hj, rfl, hb, ht⟩ := hrel
    clear hb3
    by_cases hj64 : j < 64
    · obtain ⟨c, hc⟩ : ∃ c, m[j]? = some c := ⟨m[j]'(by omega), List.getElem?_eq_getElem (by omega)⟩
      have hix := fun W : World => run_ix (P := Tryz.prog) (w := W) Tryz.underlying134 Tryz.underlying5 (by kernel_rfl) hj64 (show (vbs m).toArray[j]? = some (.int .u8 (c.toNat : Int)) by rw [List.getElem?_toArray, vbs, List.getElem?_map, hc]; rfl)
      have hcell := hb.ats (cvs_at (sPart_at m j (j / 4) (by omega)))
      have hfr := hb.frozen (j / 4)
      have hc256 := c.toNat_lt
      have hx := cV_bd (sWord (((m.take j).drop (4 * (j / 4))).take 4))
      go_wp2_with fail
      rw [cOr_code]
      refine ⟨⟨j + 1, by omega, rfl, ?_, ht.trans (Blk.setTurn wr g3 _ _)⟩, ?_⟩
      · rw [← sPart_next hj64 hc, ← cvs_set]
        exact hb.sets _ _
      · simp [intOf]; omega
    · have hjj : j = 64 := by omega
      rw [hjj, sPart_all hm] at hb
      clear hjj
      go_wp2_with fail
      go_loopw [6] (fun v wr2 => ∃ i n : Nat, i = 16 + n ∧ n ≤ 48 ∧ v = .int .i64 (i : Int) ∧ Blk wr2 g3 150 (cvs (sTab m n)).toArray ∧ Turn w3 wr2 (some g3)) (fun i _ => (64 - intOf i).toNat)
      case atStart => exact ⟨16, 0, rfl, by omega, rfl, hb, ht⟩
      case round =>
        obtain ⟨i, n, hi, hn, rfl, hb, ht⟩ := hrel
        by_cases hn48 : n < 48
        · obtain ⟨k16, hk16⟩ : ∃ k, k = i - 16 := ⟨_, rfl⟩
          obtain ⟨k15, hk15⟩ : ∃ k, k = i - 15 := ⟨_, rfl⟩
          obtain ⟨k7, hk7⟩ : ∃ k, k = i - 7 := ⟨_, rfl⟩
          obtain ⟨k2, hk2⟩ : ∃ k, k = i - 2 := ⟨_, rfl⟩
          have q16 := hb.ats (cvs_at (sTab_at m n k16 (by omega)))
          have w16 : IntKind.i64.wrap ((i : Int) - 16) = (k16 : Int) := by rw [IntKind.wrap_i64]; omega
          have l16 : (k16 : Int) < 64 := by omega
          have m16 : k16 < 64 := by omega
          have q15 := hb.ats (cvs_at (sTab_at m n k15 (by omega)))
          have w15 : IntKind.i64.wrap ((i : Int) - 15) = (k15 : Int) := by rw [IntKind.wrap_i64]; omega
          have l15 : (k15 : Int) < 64 := by omega
          have m15 : k15 < 64 := by omega
          have q7 := hb.ats (cvs_at (sTab_at m n k7 (by omega)))
          have w7 : IntKind.i64.wrap ((i : Int) - 7) = (k7 : Int) := by rw [IntKind.wrap_i64]; omega
          have l7 : (k7 : Int) < 64 := by omega
          have m7 : k7 < 64 := by omega
          have q2 := hb.ats (cvs_at (sTab_at m n k2 (by omega)))
          have w2 : IntKind.i64.wrap ((i : Int) - 2) = (k2 : Int) := by rw [IntKind.wrap_i64]; omega
          have l2 : (k2 : Int) < 64 := by omega
          have m2 : k2 < 64 := by omega
          obtain ⟨z, hz⟩ : ∃ z, (sTab m n)[i]? = some z := ⟨_, List.getElem?_eq_getElem (by rw [sTab_len hn]; omega)⟩
          have q0 := hb.ats (cvs_at hz)
          have qf := hb.frozen i
          have i64 : i < 64 := by omega
          have i64' : (i : Int) < 64 := by omega
          generalize e16 : (sMore (sFirst m 16) n).getD k16 0#32 = x16 at q16
          have d16 := cV_bd x16
          generalize e15 : (sMore (sFirst m 16) n).getD k15 0#32 = x15 at q15
          have d15 := cV_bd x15
          generalize e7 : (sMore (sFirst m 16) n).getD k7 0#32 = x7 at q7
          have d7 := cV_bd x7
          generalize e2 : (sMore (sFirst m 16) n).getD k2 0#32 = x2 at q2
          have d2 := cV_bd x2
          have d5 := cV_bd (sShi x15 7 18 3)
          have d6 := cV_bd (sShi x2 17 19 10)
          have j16 : i ≠ k16 := by omega
          have j15 : i ≠ k15 := by omega
          have j7 : i ≠ k7 := by omega
          have j2 : i ≠ k2 := by omega
          have H := hid (And.intro hi (And.intro hk16 (And.intro hk15 (And.intro hk7 hk2))))
          clear hi hk16 hk15 hk7 hk2
          go_wp2_with fail
          go_region_held3 (fun W => W.cell? ⟨g3, k16, none⟩ = some (.int .u32 (cV x16)) ∧ W.cell? ⟨g3, k15, none⟩ = some (.int .u32 (cV x15)) ∧ W.cell? ⟨g3, k7, none⟩ = some (.int .u32 (cV x7)) ∧ W.cell? ⟨g3, k2, none⟩ = some (.int .u32 (cV x2))) (first | exact ⟨q16, q15, q7, q2⟩ | exact ⟨(cell_set_ne j16).trans q16, (cell_set_ne j15).trans q15, (cell_set_ne j7).trans q7, (cell_set_ne j2).trans q2⟩) (first
            | (go_at_call_of 136 (Value.int .u32 (cV x15)); refine (shifted_of _ x15 rfl _ _ _ 7 18 3 rfl rfl rfl (by decide) (by decide) (by decide) (by decide) (by decide) _).mono ?_; rintro e w' ⟨rfl, q, rfl⟩)
            | (go_at_call_of 136 (Value.int .u32 (cV x2)); refine (shifted_of _ x2 rfl _ _ _ 17 19 10 rfl rfl rfl (by decide) (by decide) (by decide) (by decide) (by decide) _).mono ?_; rintro e w' ⟨rfl, q, rfl⟩))
          rw [cW_add, cW_add, cW_add]
          have hv : ((x16 + sShi x15 7 18 3) + x7) + sShi x2 17 19 10 = sNext (sMore (sFirst m 16) n) i := by
            obtain ⟨hi, hk16, hk15, hk7, hk2⟩ := H.out
            unfold sNext
            rw [← hk16, ← hk15, ← hk7, ← hk2, e16, e15, e7, e2]
          rw [hv]
          go_wp2_with fail
          obtain ⟨hi, hk16, hk15, hk7, hk2⟩ := H.out
          refine ⟨⟨i + 1, n + 1, by omega, by omega, rfl, ?_, ht.trans ((Turn.refl _ _).drewN _ |>.trans (Blk.setTurn _ g3 _ _))⟩, ?_⟩
          · rw [← sTab_next m n hn48, ← cvs_set, ← hi]
            exact (hb.drewN _).sets _ _
          · simp [intOf]; omega
        · obtain rfl : n = 48 := by omega
          subst hi
          have hall : cvs (sTab m 48) = X := by rw [HX.out]; simp [sTab, sSpread]
          rw [hall] at hb
          go_wp2_with (first
            | (refine wp_ld rfl 150 _ rfl rfl hb (Sub.all X) Tryz.underlying150 rfl (sz64w hX1) ?_)
            | (refine wp_st (xs := X) rfl 150 _ _ rfl rfl rfl (hb2.turn ht (by simp; omega)) (by rw [List.size_toArray, cvs_len, hX1]; rfl) (sz64w hX1) hX2 ?_; intro w9 hb9 ht9))
          refine ret_cell rfl rfl rfl hb9 Tryz.underlying150 rfl (sz64w hX1) ⟨rfl, ?_⟩
          exact (hT.new ht (by simp; omega)).new ht9 (by simp; omega)
end Go.Proofs.YtjjdhdieihmnnaaGreatDoor.Sha
/-
  Layer 3: a block is added to the words (contract).
-/
namespace Go.Proofs.YtjjdhdieihmnnaaGreatDoor.Sha
open Go.RowKit

/-- What the package-level variables hold. -/
def Laid (w : World) : Prop := 2 < w.heap.size ∧ (∀ i s, sStart.list[i]? = some s → w.cell? ⟨0, i, none⟩ = some (.int .u32 (cV s))) ∧ ∀ i s, sKeys[i]? = some s → w.cell? ⟨2, i, none⟩ = some (.int .u32 (cV s))
theorem Laid.turn {w w' : World} {row : Option Nat} (h : Laid w) (ht : Turn w w' row) (hr : ∀ g, row = some g → 2 < g) : Laid w' := by
  obtain ⟨h0, h1, h2⟩ := h
  have hs := ht.size
  refine ⟨by omega, fun i s hi => ?_, fun i s hi => ?_⟩
  · rw [ht.cell (a := ⟨0, i, none⟩) (by simp; omega) (fun e => by have := hr _ e.symm; simp at this)]; exact h1 i s hi
  · rw [ht.cell (a := ⟨2, i, none⟩) (by simp; omega) (fun e => by have := hr _ e.symm; simp at this)]; exact h2 i s hi
theorem Laid.drewN {w : World} (h : Laid w) (n : Nat) : Laid (w.drewN n) := h

/-- The cells of a hash under way: its words, its block, how many bytes there were. -/
def hsCells (s : W8) (blk : List UInt8) (n : Int) : List Value := cvs s.list ++ vbs blk ++ [.int .u64 n]
theorem hsCells_len (s : W8) {blk : List UInt8} (n : Int) (h : blk.length = 64) : (hsCells s blk n).length = 73 := by simp [hsCells, cvs_len, vbs_len, h, W8.list]
theorem sub_words (s : W8) (blk : List UInt8) (n : Int) : Sub (hsCells s blk n).toArray 0 (cvs s.list) := by
  unfold hsCells
  rw [List.append_assoc]
  exact Sub.fst _ _
theorem sub_block (s : W8) (blk : List UInt8) (n : Int) : Sub (hsCells s blk n).toArray 8 (vbs blk) := Sub.mid _ _ _ 8 rfl
theorem hsCells_last (s : W8) {blk : List UInt8} (n : Int) (h : blk.length = 64) : (hsCells s blk n)[72]? = some (.int .u64 n) := by
  unfold hsCells
  rw [List.getElem?_append_right (by simp [cvs_len, vbs_len, h, W8.list])]
  simp [cvs_len, vbs_len, h, W8.list]
/-- A hash under way stands in block g. -/
def HS (w : World) (g : Nat) (s : W8) (blk : List UInt8) (n : Int) : Prop := blk.length = 64 ∧ Blk w g 136 (hsCells s blk n).toArray

theorem sz8 {xs : List Value} (h : xs.length = 8) : (Tryz.prog.info? 133).map (·.size) = some xs.length := by rw [h]; kernel_rfl
theorem nul8 : ∀ w, (zeroValue 133).run Tryz.prog w = .ok (.agg (cvs (List.replicate 8 0#32)).toArray) w := zero_at (by kernel_rfl)
theorem spread_of {m : List UInt8} {xs : List Value} {ys : Array Value} (h : xs = vbs m) (hy : ys = xs.toArray) (hm : m.length = 64) (w : World) :
    Calls Tryz.prog 114 #[.agg ys] w fun e w' => e = .returned (.agg (cvs (sSpread m)).toArray) ∧ Turn w w' none := by
  subst hy h; exact spread_any m hm w

set_option maxRecDepth 100000 in
set_option maxHeartbeats 1600000 in
theorem take_any (s : W8) (blk : List UInt8) (n : Int) (g : Nat) (w : World) (hL : Laid w) (hg : 2 < g) (h : HS w g s blk n) :
    Calls Tryz.prog 96 #[.pointer (some ⟨g, 0, none⟩)] w fun e w' => e = .returned (.tuple #[]) ∧ HS w' g (sBlock s blk) blk n ∧ Turn w w' (some g) := by
  obtain ⟨hbl, hb⟩ := h
  have hT := Turn.refl w none
  obtain ⟨X, hX⟩ : ∃ X, X = cvs (sSpread blk) := ⟨_, rfl⟩
  have HX := hid hX
  clear hX
  go_enter Tryz.func96, Tryz.ntmps96
  go_wp2_with (first
    | (refine wp_ld rfl 133 _ rfl rfl hb (sub_words s blk n) Tryz.underlying133 rfl (sz8 rfl) ?_)
    | (refine wp_ld rfl 134 _ rfl rfl hb (sub_block s blk n) Tryz.underlying134 rfl (sz64b (by rw [vbs_len, hbl])) ?_)
    | (refine wp_al rfl 133 rfl _ nul8 ?_; intro gv w1 hgv hv ht1; have hT := hT.trans ht1; have hg1 : g < gv := (by rw [← hgv]; exact hb.lt); have hb := hb.turn0 ht1; rw [cells_agg] at hv)
    | (refine wp_st rfl 133 _ _ rfl rfl rfl hv rfl (sz8 rfl) (cvs_one _) ?_; intro w2 hv2 ht2; have hb := hb.turn ht2 (by simp; omega); have hT := hT.new ht2 (by simp; omega))
    | (go_at_call 114; refine (spread_of (m := blk) rfl rfl hbl _).mono ?_; rintro e w3 ⟨rfl, ht3⟩; rw [← HX.out]; have hv3 := hv2.turn0 ht3; have hb := hb.turn0 ht3; have hT := hT.trans ht3))
  have hX1 : X.length = 64 := by rw [HX.out, cvs_len, sSpread_len]
  have hLw := hL.turn hT (by simp)
  clear ht1 ht2 ht3 hv hv2
  go_loopw [18] (fun i wr => ∃ j : Nat, j ≤ 64 ∧ i = .int .i64 (j : Int) ∧ Blk wr gv 133 (cvs (sRun (sSpread blk) s j).list).toArray ∧ Turn w3 wr (some gv)) (fun i _ => (64 - intOf i).toNat)
  case atStart => exact ⟨0, by omega, rfl, hv3, Turn.refl w3 _⟩
  case round =>
    obtain ⟨j, hj, rfl, hv, ht⟩ := hrel
    clear hv3
    by_cases hj64 : j < 64
    · obtain ⟨x, hx⟩ : ∃ x, (sSpread blk)[j]? = some x := ⟨_, List.getElem?_eq_getElem (by rw [sSpread_len]; exact hj64)⟩
      obtain ⟨k, hk⟩ : ∃ k, sKeys[j]? = some k := ⟨_, List.getElem?_eq_getElem (by rw [sKeys_len]; exact hj64)⟩
      have hix := fun W : World => run_ix (P := Tryz.prog) (w := W) Tryz.underlying150 Tryz.underlying117 (by kernel_rfl) hj64 (show X.toArray[j]? = some (.int .u32 (cV x)) by rw [List.getElem?_toArray, HX.out]; exact cvs_at hx)
      have hLr := hLw.turn ht (by simp; omega)
      have hkc := hLr.2.2 j k hk
      have Hv := hid (show sRun (sSpread blk) s (j + 1) = sRnd (sRun (sSpread blk) s j) k x by
        have e1 : (sSpread blk).getD j 0#32 = x := by rw [List.getD_eq_getElem?_getD, hx]; rfl
        have e2 : sKeys.getD j 0#32 = k := by rw [List.getD_eq_getElem?_getD, hk]; rfl
        rw [sRun, e1, e2])
      clear hx hk
      generalize sRun (sSpread blk) s j = v at hv Hv
      have c0 := hv.ats (j := 0) (v := .int .u32 (cV v.a)) rfl; have c1 := hv.ats (j := 1) (v := .int .u32 (cV v.b)) rfl; have c2 := hv.ats (j := 2) (v := .int .u32 (cV v.c)) rfl; have c3 := hv.ats (j := 3) (v := .int .u32 (cV v.d)) rfl; have c4 := hv.ats (j := 4) (v := .int .u32 (cV v.e)) rfl; have c5 := hv.ats (j := 5) (v := .int .u32 (cV v.f)) rfl; have c6 := hv.ats (j := 6) (v := .int .u32 (cV v.g)) rfl; have c7 := hv.ats (j := 7) (v := .int .u32 (cV v.h)) rfl
      have b0 := cV_bd v.a; have b1 := cV_bd v.b; have b2 := cV_bd v.c; have b3 := cV_bd v.d; have b4 := cV_bd v.e; have b5 := cV_bd v.f; have b6 := cV_bd v.g; have b7 := cV_bd v.h
      have bk := cV_bd k
      have bx := cV_bd x
      have bt1 := cV_bd (sTri v.e 6 11 25)
      have bt2 := cV_bd (sTri v.a 2 13 22)
      have lj : (j : Int) < 64 := by omega
      go_wp2_with fail
      go_quiet (first | (go_at_call_of 115 (Value.int .u32 (cV v.e)); exact quiet_eq (turned_of _ v.e rfl _ _ _ 6 11 25 rfl rfl rfl (by decide) (by decide) (by decide) (by decide) (by decide) (by decide) _)))
      rw [cT1_code]
      generalize ht1v : sT1 v k x = t1
      have bt1v := cV_bd t1
      clear c0 c1 c2 c3 c4 c5 c6 c7 hkc hix bt1
      have hv := hv.drewN nq
      have ht := ht.drewN nq
      generalize wr.drewN nq = wr1 at *
      have c0 := hv.ats (j := 0) (v := .int .u32 (cV v.a)) rfl; have c1 := hv.ats (j := 1) (v := .int .u32 (cV v.b)) rfl; have c2 := hv.ats (j := 2) (v := .int .u32 (cV v.c)) rfl; have c3 := hv.ats (j := 3) (v := .int .u32 (cV v.d)) rfl; have c4 := hv.ats (j := 4) (v := .int .u32 (cV v.e)) rfl; have c5 := hv.ats (j := 5) (v := .int .u32 (cV v.f)) rfl; have c6 := hv.ats (j := 6) (v := .int .u32 (cV v.g)) rfl; have c7 := hv.ats (j := 7) (v := .int .u32 (cV v.h)) rfl
      go_wp2_with fail
      go_quiet (first | (go_at_call_of 115 (Value.int .u32 (cV v.a)); exact quiet_eq (turned_of _ v.a rfl _ _ _ 2 13 22 rfl rfl rfl (by decide) (by decide) (by decide) (by decide) (by decide) (by decide) _)))
      rw [cT2_code]
      generalize ht2v : sT2 v = t2
      have bt2v := cV_bd t2
      clear c0 c1 c2 c3 c4 c5 c6 c7 bt2
      have hv := hv.drewN nq
      have ht := ht.drewN nq
      generalize wr1.drewN nq = wr2 at *
      go_wp2_with fail
      refine wp_region_noPanic ?_
      refine wp_region_held_drew (S := fun _ => True) (by kernel_rfl) trivial (fun hHeld => ?_)
      (first | (refine wpAnyH_take (i := 0) (v := undef) rfl (by kernel_rfl) (by kernel_rfl) (by kernel_rfl) (fun _ _ _ h => h) (Or.inr ⟨rfl, rfl⟩) (by assumption) ?_) | (refine wpAnyH_take (i := 0) (v := ?_) rfl (by kernel_rfl) (by kernel_rfl) (by kernel_rfl) (fun _ _ _ h => h) (Or.inl ⟨rfl, ?_⟩) (by assumption) ?_; rotate_left 1; · (intro w hSw; (try dsimp only at hSw); go_simp; (try with_reducible rfl)))); (try simp only [Act.put, List.getElem_toArray, List.getElem_cons_zero, List.getElem_cons_succ, List.setIfInBounds_toArray, List.set_cons_zero, List.set_cons_succ])
      (first | (refine wpAnyH_take (i := 1) (v := undef) rfl (by kernel_rfl) (by kernel_rfl) (by kernel_rfl) (fun _ _ _ h => h) (Or.inr ⟨rfl, rfl⟩) (by assumption) ?_) | (refine wpAnyH_take (i := 1) (v := ?_) rfl (by kernel_rfl) (by kernel_rfl) (by kernel_rfl) (fun _ _ _ h => h) (Or.inl ⟨rfl, ?_⟩) (by assumption) ?_; rotate_left 1; · (intro w hSw; (try dsimp only at hSw); go_simp; (try with_reducible rfl)))); (try simp only [Act.put, List.getElem_toArray, List.getElem_cons_zero, List.getElem_cons_succ, List.setIfInBounds_toArray, List.set_cons_zero, List.set_cons_succ])
      refine wpAnyH_ready (rs := [2]) (by kernel_rfl) (by simp) ?_
      refine AllReadyH.cons rfl (fun K hK => ?_) AllReadyH.nil
      have hvd := Blk.drew hv
      refine st_cpB (zs := (cvs v.list).take 7) rfl _ _ rfl Tryz.underlying114 (by kernel_rfl) rfl rfl hvd (hvd.rdAt (Sub.fst ((cvs v.list).take 7) ((cvs v.list).drop 7))) (fun u hu => cvs_one _ u (List.mem_of_mem_take hu)) (by show 0 < 7; decide) (by show 0 < 7; decide) (by show 1 + 7 ≤ 8; decide) ?_
      intro wr3 hv3 ht3
      refine hK.out _ _ trivial (fun hHeld => ?_)
      clear hK K
      (try simp only [Act.put, List.getElem_toArray, List.getElem_cons_zero, List.getElem_cons_succ, List.setIfInBounds_toArray, List.set_cons_zero, List.set_cons_succ])
      refine wpAnyH_done (by kernel_rfl) ?_ _
      refine NoPanic.normal ?_
      clear hHeld
      have hv4 : Blk wr3 gv 133 (cvs (W8.list ⟨v.a, v.a, v.b, v.c, v.d, v.e, v.f, v.g⟩)).toArray := hv3
      have ht := ht.drew.trans ht3
      have cz := hv4.ats (j := 0) (v := .int .u32 (cV v.a)) rfl
      have cd := hv4.ats (j := 4) (v := .int .u32 (cV v.d)) rfl
      have fz := hv4.frozen 0
      have fd := hv4.frozen 4
      go_wp2_with fail
      refine ⟨⟨j + 1, by omega, rfl, ?_, ?_⟩, ?_⟩
      · have h5 := (hv4.sets 4 (.int .u32 (cV (v.d + t1)))).sets 0 (.int .u32 (cV (t1 + t2)))
        rw [cV_add, cV_add, Hv.out]
        rw [← ht1v, ← ht2v] at h5 ⊢
        exact h5
      · exact ht.trans ((Blk.setTurn _ gv _ _).trans (Blk.setTurn _ gv _ _))
      · simp [intOf]; omega
    · have hjj : j = 64 := by omega
      rw [hjj] at hv
      clear hjj
      have hb := hb.turn ht (by simp; omega)
      have hT := hT.new ht (by simp; omega)
      generalize hr : sRun (sSpread blk) s 64 = r at hv
      have hvl : (cvs r.list).length = 8 := rfl
      go_wp2_with (refine wp_ld rfl 133 _ rfl rfl hv (Sub.all _) Tryz.underlying133 rfl (sz8 rfl) ?_)
      go_loopw [82] (fun i wr2 => ∃ q : Nat, q ≤ 8 ∧ i = .int .i64 (q : Int) ∧ Blk wr2 g 136 (cvs (sMix s r q) ++ vbs blk ++ [Value.int .u64 n]).toArray ∧ Turn wr wr2 (some g)) (fun i _ => (8 - intOf i).toNat)
      case atStart => exact ⟨0, by omega, rfl, hb, Turn.refl wr _⟩
      case round =>
        obtain ⟨q, hq, rfl, hb2, ht2⟩ := hrel
        clear hb
        by_cases hq8 : q < 8
        · obtain ⟨x, y, hy, hx, hset⟩ := sMix_at s r q hq8
          have hix := fun W : World => run_ix (P := Tryz.prog) (w := W) Tryz.underlying133 Tryz.underlying117 (by kernel_rfl) hq8 (show (cvs r.list).toArray[q]? = some (.int .u32 (cV y)) by rw [List.getElem?_toArray]; exact cvs_at hy)
          have hxc := hb2.ats (j := q) (v := .int .u32 (cV x)) (by rw [List.append_assoc, List.getElem?_append_left (by rw [cvs_len, sMix_len _ _ _ hq]; exact hq8)]; exact cvs_at hx)
          have hfr := hb2.frozen q
          have bx := cV_bd x
          have byy := cV_bd y
          have lq : (q : Int) < 8 := by omega
          have hs2 := hid hset
          clear hset hx hy hv
          go_wp2_with fail
          refine wp_region_noPanic ?_
          refine wp_region_held_drew (S := fun _ => True) (by kernel_rfl) trivial (fun hHeld => ?_)
          (first | (refine wpAnyH_take (i := 0) (v := undef) rfl (by kernel_rfl) (by kernel_rfl) (by kernel_rfl) (fun _ _ _ h => h) (Or.inr ⟨rfl, rfl⟩) (by assumption) ?_) | (refine wpAnyH_take (i := 0) (v := ?_) rfl (by kernel_rfl) (by kernel_rfl) (by kernel_rfl) (fun _ _ _ h => h) (Or.inl ⟨rfl, ?_⟩) (by assumption) ?_; rotate_left 1; · (intro w hSw; (try dsimp only at hSw); go_simp; (try with_reducible rfl)))); (try simp only [Act.put, List.getElem_toArray, List.getElem_cons_zero, List.getElem_cons_succ, List.setIfInBounds_toArray, List.set_cons_zero, List.set_cons_succ])
          (first | (refine wpAnyH_take (i := 1) (v := undef) rfl (by kernel_rfl) (by kernel_rfl) (by kernel_rfl) (fun _ _ _ h => h) (Or.inr ⟨rfl, rfl⟩) (by assumption) ?_) | (refine wpAnyH_take (i := 1) (v := ?_) rfl (by kernel_rfl) (by kernel_rfl) (by kernel_rfl) (fun _ _ _ h => h) (Or.inl ⟨rfl, ?_⟩) (by assumption) ?_; rotate_left 1; · (intro w hSw; (try dsimp only at hSw); go_simp; (try with_reducible rfl)))); (try simp only [Act.put, List.getElem_toArray, List.getElem_cons_zero, List.getElem_cons_succ, List.setIfInBounds_toArray, List.set_cons_zero, List.set_cons_succ])
          (first | (refine wpAnyH_take (i := 2) (v := undef) rfl (by kernel_rfl) (by kernel_rfl) (by kernel_rfl) (fun _ _ _ h => h) (Or.inr ⟨rfl, rfl⟩) (by assumption) ?_) | (refine wpAnyH_take (i := 2) (v := ?_) rfl (by kernel_rfl) (by kernel_rfl) (by kernel_rfl) (fun _ _ _ h => h) (Or.inl ⟨rfl, ?_⟩) (by assumption) ?_; rotate_left 1; · (intro w hSw; (try dsimp only at hSw); go_simp; (try with_reducible rfl)))); (try simp only [Act.put, List.getElem_toArray, List.getElem_cons_zero, List.getElem_cons_succ, List.setIfInBounds_toArray, List.set_cons_zero, List.set_cons_succ])
          (first | (refine wpAnyH_take (i := 3) (v := undef) rfl (by kernel_rfl) (by kernel_rfl) (by kernel_rfl) (fun _ _ _ h => h) (Or.inr ⟨rfl, rfl⟩) (by assumption) ?_) | (refine wpAnyH_take (i := 3) (v := ?_) rfl (by kernel_rfl) (by kernel_rfl) (by kernel_rfl) (fun _ _ _ h => h) (Or.inl ⟨rfl, ?_⟩) (by assumption) ?_; rotate_left 1; · (intro w hSw; (try dsimp only at hSw); go_simp; (try with_reducible rfl)))); (try simp only [Act.put, List.getElem_toArray, List.getElem_cons_zero, List.getElem_cons_succ, List.setIfInBounds_toArray, List.set_cons_zero, List.set_cons_succ])
          (first | (refine wpAnyH_take (i := 4) (v := undef) rfl (by kernel_rfl) (by kernel_rfl) (by kernel_rfl) (fun _ _ _ h => h) (Or.inr ⟨rfl, rfl⟩) (by assumption) ?_) | (refine wpAnyH_take (i := 4) (v := ?_) rfl (by kernel_rfl) (by kernel_rfl) (by kernel_rfl) (fun _ _ _ h => h) (Or.inl ⟨rfl, ?_⟩) (by assumption) ?_; rotate_left 1; · (intro w hSw; (try dsimp only at hSw); go_simp; (try with_reducible rfl)))); (try simp only [Act.put, List.getElem_toArray, List.getElem_cons_zero, List.getElem_cons_succ, List.setIfInBounds_toArray, List.set_cons_zero, List.set_cons_succ])
          (first | (refine wpAnyH_take (i := 6) (v := undef) rfl (by kernel_rfl) (by kernel_rfl) (by kernel_rfl) (fun _ _ _ h => h) (Or.inr ⟨rfl, rfl⟩) (by assumption) ?_) | (refine wpAnyH_take (i := 6) (v := ?_) rfl (by kernel_rfl) (by kernel_rfl) (by kernel_rfl) (fun _ _ _ h => h) (Or.inl ⟨rfl, ?_⟩) (by assumption) ?_; rotate_left 1; · (intro w hSw; (try dsimp only at hSw); go_simp; (try with_reducible rfl)))); (try simp only [Act.put, List.getElem_toArray, List.getElem_cons_zero, List.getElem_cons_succ, List.setIfInBounds_toArray, List.set_cons_zero, List.set_cons_succ])
          (first | (refine wpAnyH_take (i := 8) (v := undef) rfl (by kernel_rfl) (by kernel_rfl) (by kernel_rfl) (fun _ _ _ h => h) (Or.inr ⟨rfl, rfl⟩) (by assumption) ?_) | (refine wpAnyH_take (i := 8) (v := ?_) rfl (by kernel_rfl) (by kernel_rfl) (by kernel_rfl) (fun _ _ _ h => h) (Or.inl ⟨rfl, ?_⟩) (by assumption) ?_; rotate_left 1; · (intro w hSw; (try dsimp only at hSw); go_simp; (try with_reducible rfl)))); (try simp only [Act.put, List.getElem_toArray, List.getElem_cons_zero, List.getElem_cons_succ, List.setIfInBounds_toArray, List.set_cons_zero, List.set_cons_succ])
          (first | (refine wpAnyH_take (i := 9) (v := undef) rfl (by kernel_rfl) (by kernel_rfl) (by kernel_rfl) (fun _ _ _ h => h) (Or.inr ⟨rfl, rfl⟩) (by assumption) ?_) | (refine wpAnyH_take (i := 9) (v := ?_) rfl (by kernel_rfl) (by kernel_rfl) (by kernel_rfl) (fun _ _ _ h => h) (Or.inl ⟨rfl, ?_⟩) (by assumption) ?_; rotate_left 1; · (intro w hSw; (try dsimp only at hSw); go_simp; (try with_reducible rfl)))); (try simp only [Act.put, List.getElem_toArray, List.getElem_cons_zero, List.getElem_cons_succ, List.setIfInBounds_toArray, List.set_cons_zero, List.set_cons_succ])
          refine wpAnyH_ready (rs := [5]) (by kernel_rfl) (by simp) ?_
          refine AllReadyH.cons rfl (fun K hK => ?_) AllReadyH.nil
          go_simp
          refine hK.out _ _ trivial (fun hHeld => ?_)
          clear hK K
          (try simp only [Act.put, List.getElem_toArray, List.getElem_cons_zero, List.getElem_cons_succ, List.setIfInBounds_toArray, List.set_cons_zero, List.set_cons_succ])
          (first | (refine wpAnyH_take (i := 7) (v := undef) rfl (by kernel_rfl) (by kernel_rfl) (by kernel_rfl) (fun _ _ _ h => h) (Or.inr ⟨rfl, rfl⟩) (by assumption) ?_) | (refine wpAnyH_take (i := 7) (v := ?_) rfl (by kernel_rfl) (by kernel_rfl) (by kernel_rfl) (fun _ _ _ h => h) (Or.inl ⟨rfl, ?_⟩) (by assumption) ?_; rotate_left 1; · (intro w hSw; (try dsimp only at hSw); go_simp; (try with_reducible rfl)))); (try simp only [Act.put, List.getElem_toArray, List.getElem_cons_zero, List.getElem_cons_succ, List.setIfInBounds_toArray, List.set_cons_zero, List.set_cons_succ])
          (first | (refine wpAnyH_take (i := 10) (v := undef) rfl (by kernel_rfl) (by kernel_rfl) (by kernel_rfl) (fun _ _ _ h => h) (Or.inr ⟨rfl, rfl⟩) (by assumption) ?_) | (refine wpAnyH_take (i := 10) (v := ?_) rfl (by kernel_rfl) (by kernel_rfl) (by kernel_rfl) (fun _ _ _ h => h) (Or.inl ⟨rfl, ?_⟩) (by assumption) ?_; rotate_left 1; · (intro w hSw; (try dsimp only at hSw); go_simp; (try with_reducible rfl)))); (try simp only [Act.put, List.getElem_toArray, List.getElem_cons_zero, List.getElem_cons_succ, List.setIfInBounds_toArray, List.set_cons_zero, List.set_cons_succ])
          refine wpAnyH_ready (rs := [11]) (by kernel_rfl) (by simp) ?_
          refine AllReadyH.cons rfl (fun K hK => ?_) AllReadyH.nil
          go_simp
          refine hK.out _ _ trivial (fun hHeld => ?_)
          clear hK K
          (try simp only [Act.put, List.getElem_toArray, List.getElem_cons_zero, List.getElem_cons_succ, List.setIfInBounds_toArray, List.set_cons_zero, List.set_cons_succ])
          refine wpAnyH_done (by kernel_rfl) ?_ _
          refine NoPanic.normal ?_
          clear hHeld
          rw [cW_add]
          have hb3 : Blk ((wr.setCell ⟨g, q, none⟩ (.int .u32 (cV (x + y)))).drew) g 136 (cvs (sMix s r (q + 1)) ++ vbs blk ++ [Value.int .u64 n]).toArray := by
            have h5 := (hb2.sets q (.int .u32 (cV (x + y)))).drew
            rw [List.append_assoc, List.set_append_left _ _ (by rw [cvs_len, sMix_len _ _ _ hq]; exact hq8), cvs_set, hs2.out, ← List.append_assoc] at h5
            exact h5
          have ht3 := (ht2.trans (Blk.setTurn wr g q (.int .u32 (cV (x + y))))).drew
          clear hb2 ht2
          go_wp2_with fail
          refine ⟨⟨q + 1, by omega, rfl, hb3, ht3⟩, ?_⟩
          simp [intOf]; omega
        · have hqq : q = 8 := by omega
          rw [hqq, sMix_all] at hb2
          clear hqq
          go_wp2_with fail
          go_end0
          refine ⟨rfl, ⟨hbl, ?_⟩, ?_⟩
          · unfold sBlock
            rw [hr]
            exact hb2
          · exact (hT.any (some g)).trans ht2
end Go.Proofs.YtjjdhdieihmnnaaGreatDoor.Sha
/-
  Layer 3: what goes behind all that was written (contract).
-/
namespace Go.Proofs.YtjjdhdieihmnnaaGreatDoor.Sha
open Go.RowKit

theorem vbs_zeros (n : Nat) : vbs (List.replicate n 0) = List.replicate n (.int .u8 0) := by
  unfold vbs
  rw [List.map_replicate]
  rfl
theorem sLen_at (N q k : Nat) (hq : q < 8) (hk : k + 8 * q = 56) : (sLen N)[q]? = some (UInt8.ofNat (N * 8 / 2 ^ k)) := by
  have : q = 0 ∨ q = 1 ∨ q = 2 ∨ q = 3 ∨ q = 4 ∨ q = 5 ∨ q = 6 ∨ q = 7 := by omega
  rcases this with rfl | rfl | rfl | rfl | rfl | rfl | rfl | rfl
  · obtain rfl : k = 56 := by omega
    rfl
  · obtain rfl : k = 48 := by omega
    rfl
  · obtain rfl : k = 40 := by omega
    rfl
  · obtain rfl : k = 32 := by omega
    rfl
  · obtain rfl : k = 24 := by omega
    rfl
  · obtain rfl : k = 16 := by omega
    rfl
  · obtain rfl : k = 8 := by omega
    rfl
  · obtain rfl : k = 0 := by omega
    show _ = some (UInt8.ofNat (N * 8 / 1))
    rw [Nat.div_one]; try rfl
theorem vb_ofNat (n : Nat) : vb (UInt8.ofNat n) = .int .u8 ((n : Int) % 256) := by
  unfold vb
  congr 1
theorem sLen_len (N : Nat) : (sLen N).length = 8 := rfl
theorem take_nxt {l : List UInt8} {j : Nat} {b : UInt8} (h : l[j]? = some b) : l.take (j + 1) = l.take j ++ [b] := by
  rw [List.take_add_one, h]; rfl

set_option maxRecDepth 100000 in
set_option maxHeartbeats 1600000 in
theorem padding_any (s : W8) (blk : List UInt8) (N : Nat) (g : Nat) (w : World) (h : HS w g s blk (N : Int)) (hN : N ≤ 281474976710656) :
    Calls Tryz.prog 97 #[.pointer (some ⟨g, 0, none⟩)] w fun e w' => ∃ A c, e = .returned (.slice A (sZeros N + 9) c) ∧ Own w' w.heap.size 5 1 A (sZeros N + 9) c (vbs (sEnd N)) ∧ Turn w w' none := by
  obtain ⟨hbl, hb⟩ := h
  have hT := Turn.refl w none
  obtain ⟨z, hz⟩ : ∃ z, z = sZeros N := ⟨_, rfl⟩
  have hz64 : z < 64 := by rw [hz]; exact sZeros_lt N
  have hzz : (119 - (N : Int) % 64) % 64 = (z : Int) := by rw [hz]; unfold sZeros; omega
  have hzu := hid hz
  have hw := hb.ats (j := 72) (hsCells_last s (N : Int) hbl)
  clear hz
  go_enter Tryz.func97, Tryz.ntmps97
  go_wp2_with (at_make; refine wp_mk0 rfl _ _ _ rfl elB (z0 := .int .u8 0) (by kernel_rfl) rfl rfl rfl (1 + z) 72 (by omega) rfl (by omega) (by omega) (by unfold maxLen; omega) ?_; intro w8 ho ht8; rw [← vbs_zeros] at ho; have gne : w.heap.size ≠ g := (by have := hb.lt; omega); have hw8 := (hb.turn0 ht8).ats (j := 72) (hsCells_last s (N : Int) hbl); have c0 : w8.cell? ⟨w.heap.size, 0, none⟩ = some (.int .u8 0) := (by rw [ho.cell (by omega), vbs_zeros, List.getElem?_replicate, if_pos (by omega)]); have f0 := ho.frozen 0)
  have ho1 := ho.store 0 (.int .u8 128)
  have e1 : (vbs (List.replicate (1 + z) 0)).set 0 (.int .u8 128) = vbs (128 :: List.replicate z 0 ++ (sLen N).take 0) := by
    rw [Nat.add_comm]; simp [vbs, List.replicate_succ, vb]
  rw [e1] at ho1
  have hT1 : Turn w (w8.setCell ⟨w.heap.size, 0, none⟩ (.int .u8 128)) none := ht8.new (Blk.setTurn _ _ _ _) (by simp)
  generalize w8.setCell ⟨w.heap.size, 0, none⟩ (.int .u8 128) = w9 at *
  clear ho c0 f0 hw8 ht8 hzz hw hb hT e1
  go_loopw [4, 6] (fun b v wr => ∃ (q : Nat) (A : Option Addr) (c : Nat), q ≤ 8 ∧ b = .slice A (1 + z + q) c ∧ v = .int .i64 (56 - 8 * (q : Int)) ∧ Own wr w.heap.size 5 1 A (1 + z + q) c (vbs (128 :: List.replicate z 0 ++ (sLen N).take q)) ∧ Turn w wr none) (fun _ v _ => (intOf v + 8).toNat)
  case atStart => exact ⟨0, _, _, by omega, rfl, rfl, ho1, hT1⟩
  case round =>
    obtain ⟨q, A, c, hq, rfl, rfl, ho, hT⟩ := hrel
    clear ho1 hT1
    by_cases hq8 : q < 8
    · obtain ⟨k, hk⟩ : ∃ k, k + 8 * q = 56 := ⟨56 - 8 * q, by omega⟩
      have hks : (56 - 8 * (q : Int)) = (k : Int) := by omega
      have hkn : (k : Int) - 8 = 56 - 8 * ((q + 1 : Nat) : Int) := by omega
      have hk64 : k < 64 := by omega
      have hat := hid (sLen_at N q k hq8 hk)
      rw [hks]
      clear hks
      have hkn2 := hid hkn
      have hTs := hT.size
      clear hkn
      go_wp2_with (at_builtin; refine wp_app rfl _ _ _ rfl elB rfl rfl (ho.alloc _) (Rd.lit _ _ _) (by repeat (first | exact ones_nil | refine ones_cons rfl ?_)) (by unfold maxLen; first | omega | (simp; done) | (simp; omega)) (by first | omega | (simp; done) | (simp; omega)) (by first | omega | (simp; done) | (simp; omega)) ?_; intro A1 c1 w1 ho2 ht2 hb2)
      rw [hkn2.out]
      have hT2 : Turn w w1 none := (hT.alloc _).new ht2 (fun g' hg' => (ho.block g' hg').1)
      have e2 : vbs (128 :: List.replicate z 0 ++ (sLen N).take q) ++ [Value.int .u8 ((N : Int) * 8 / 2 ^ k % 256)] = vbs (128 :: List.replicate z 0 ++ (sLen N).take (q + 1)) := by
        rw [take_nxt hat.out, ← List.append_assoc, vbs_append _ [_]]
        congr 1
      rw [e2] at ho2
      refine ⟨⟨q + 1, A1, c1, by omega, rfl, rfl, ho2, hT2⟩, ?_⟩
      simp [intOf]; omega
    · have hqq : q = 8 := by omega
      have hneg : (56 - 8 * (q : Int)) = -8 := by omega
      rw [hneg]
      clear hneg
      go_wp2_with fail
      go_ret
      refine ⟨A, c, ?_, ?_, hT⟩
      · rw [hqq, ← hzu.out]
        have : 1 + z + 8 = z + 9 := by omega
        rw [this]
        rfl
      · have e3 : 128 :: List.replicate z 0 ++ (sLen N).take q = sEnd N := by rw [hqq, hzu.out]; rfl
        rw [e3] at ho
        rw [← hzu.out]
        have : z + 9 = 1 + z + q := by omega
        rw [this]
        exact ho
end Go.Proofs.YtjjdhdieihmnnaaGreatDoor.Sha
/-
  Layer 3: bytes are put behind what was written (contract).
-/
namespace Go.Proofs.YtjjdhdieihmnnaaGreatDoor.Sha
open Go.RowKit

theorem hs_lay (s : W8) (blk : List UInt8) (n : Int) (r : Nat) (x : List UInt8) (h : blk.length = 64) (hr : r + x.length ≤ 64) :
    (hsCells s blk n).take (8 + r) ++ vbs x ++ (hsCells s blk n).drop (8 + r + x.length) = hsCells s (sLay blk r x) n := by
  have hA : (cvs s.list).length = 8 := rfl
  have hB : (vbs blk).length = 64 := by rw [vbs_len, h]
  unfold hsCells
  rw [List.append_assoc (cvs s.list), Nat.add_assoc, List.take_append, List.drop_append, hA, Nat.add_sub_cancel_left, Nat.add_sub_cancel_left, List.take_of_length_le (l := cvs s.list) (by omega),
    (List.drop_eq_nil_of_le (by omega) : (cvs s.list).drop (8 + (r + x.length)) = []), List.take_append_of_le_length (by omega), List.drop_append_of_le_length (by omega), vbs_take, vbs_drop, List.nil_append]
  unfold sLay
  rw [vbs_append, vbs_append]
  simp only [List.append_assoc]
theorem hs_written (s : W8) (blk : List UInt8) (n n' : Int) (h : blk.length = 64) : (hsCells s blk n).set 72 (.int .u64 n') = hsCells s blk n' := by
  unfold hsCells
  rw [List.set_append_right _ _ (by simp [cvs_len, vbs_len, h, W8.list])]
  simp [cvs_len, vbs_len, h, W8.list]
theorem blk_cut (p : Prop) [Decidable p] (A : Option Addr) (k : Nat) : blk (if p then A else Option.map (fun a => a.add k) A) = blk A := by
  split
  · rfl
  · cases A with
    | none => rfl
    | some a => simp [blk, addr_block]

/-- A hash under way stands in block g; l was written. -/
def HIs (w : World) (g : Nat) (l : List UInt8) : Prop := ∃ s blk, HS w g s blk (l.length : Int) ∧ sState l s blk
theorem HS.turn {w w' : World} {g : Nat} {s : W8} {blk : List UInt8} {n : Int} {row : Option Nat} (h : HS w g s blk n) (ht : Turn w w' row) (hr : some g ≠ row) : HS w' g s blk n := ⟨h.1, h.2.turn ht hr⟩
theorem HIs.turn {w w' : World} {g : Nat} {l : List UInt8} {row : Option Nat} (h : HIs w g l) (ht : Turn w w' row) (hr : some g ≠ row) : HIs w' g l := by
  obtain ⟨s, b, h1, h2⟩ := h
  exact ⟨s, b, h1.turn ht hr, h2⟩
theorem HIs.turn0 {w w' : World} {g : Nat} {l : List UInt8} (h : HIs w g l) (ht : Turn w w' none) : HIs w' g l := h.turn ht (by simp)
theorem HIs.lt {w : World} {g : Nat} {l : List UInt8} (h : HIs w g l) : g < w.heap.size := by
  obtain ⟨s, b, h1, h2⟩ := h
  exact h1.2.lt

set_option maxRecDepth 100000 in
set_option maxHeartbeats 1600000 in
theorem write_any (l : List UInt8) (g : Nat) (A : Option Addr) (n c : Nat) (m : List UInt8) (B : Nat) (w : World) (hL : Laid w) (hg : 2 < g) (h : HIs w g l) (hr : Rd w B 1 A n (vbs m)) (hB : B ≤ w.heap.size) (hA : 0 < n → blk A ≠ some g)
    (hnc : n ≤ c) (hc : c ≤ maxLen) (hN : l.length + n ≤ 281474976710656) :
    Calls Tryz.prog 70 #[.pointer (some ⟨g, 0, none⟩), .slice A n c] w fun e w' => e = .returned (.tuple #[]) ∧ HIs w' g (l ++ m) ∧ Turn w w' (some g) := by
  have hml := hr.len
  rw [vbs_len] at hml
  unfold maxLen at hc
  go_enter Tryz.func70, Tryz.ntmps70
  go_wp2_with fail
  go_loopw [1] (fun v wr => ∃ (k n' c' : Nat) (A' : Option Addr), k + n' = n ∧ v = .slice A' n' c' ∧ n' ≤ c' ∧ c' ≤ 9223372036854775807 ∧ HIs wr g (l ++ m.take k) ∧ Rd wr B 1 A' n' (vbs (m.drop k)) ∧ (0 < n' → blk A' ≠ some g) ∧ Turn w wr (some g)) (fun v _ => match v with | .slice _ n' _ => n' | _ => 0)
  case atStart => exact ⟨0, n, c, A, by omega, rfl, hnc, hc, by simpa using h, by simpa using hr, hA, Turn.refl w _⟩
  case round =>
    obtain ⟨k, n', c', A', hkn, rfl, hnc', hc', hH, hr', hA', ht⟩ := hrel
    clear h hr hnc hc hA
    by_cases hn0 : n' = 0
    · subst hn0
      have hmk : m.take k = m := List.take_of_length_le (by omega)
      rw [hmk] at hH
      go_wp2_with fail
      go_end0
      exact ⟨rfl, hH, ht⟩
    · have hA' := hA' (by omega)
      obtain ⟨s, bk, ⟨hbk, hb⟩, hst⟩ := hH
      obtain ⟨N, hNN⟩ : ∃ N, N = (l ++ m.take k).length := ⟨_, rfl⟩
      have hNl : N + n' ≤ 281474976710656 := by rw [hNN, List.length_append, List.length_take]; omega
      rw [← hNN] at hb
      obtain ⟨r, hrr⟩ : ∃ r, r = N % 64 := ⟨_, rfl⟩
      have hr64 : r < 64 := by omega
      have hri : (N : Int) % 64 = (r : Int) := by omega
      have htm : (N : Int).tmod 64 = (r : Int) := by rw [Int.tmod_eq_emod_of_nonneg (by omega)]; omega
      obtain ⟨b0, off, rfl, _, _⟩ := hr'.head (by omega)
      have hw := hb.ats (j := 72) (hsCells_last s (N : Int) hbk)
      have Hh := hid (And.intro hst (And.intro hNN hrr))
      clear hst hNN hrr
      have l0 : (0 : Int) < (n' : Int) := by omega
      have l1 : (r : Int) ≤ 64 := by omega
      have l2 : r ≤ 64 := by omega
      have l3 : ¬ 64 = r := by omega
      go_wp2_with fail
      obtain ⟨kk, hkk⟩ : ∃ kk, kk = Nat.min n' (64 - r) := ⟨_, rfl⟩
      have hk1 : kk ≤ n' := by rw [hkk]; exact Nat.min_le_left _ _
      have hk2 : r + kk ≤ 64 := by
        have h : Nat.min n' (64 - r) ≤ 64 - r := Nat.min_le_right _ _
        rw [← hkk] at h
        omega
      have hk3 : kk = n' ∨ r + kk = 64 := by
        rcases Nat.le_total n' (64 - r) with h | h
        · exact .inl (by rw [hkk]; exact Nat.min_eq_left h)
        · exact .inr (by rw [hkk, show Nat.min n' (64 - r) = 64 - r from Nat.min_eq_right h]; omega)
      have hk0 : 0 < kk := by omega
      have hxl : ((m.drop k).take kk).length = kk := by rw [List.length_take, List.length_drop]; omega
      have Hk := hid hkk
      clear hkk
      refine wp_region_noPanic ?_
      refine wp_region_held_drew (S := fun _ => True) (by kernel_rfl) trivial (fun hHeld => ?_)
      (first | (refine wpAnyH_take (i := 0) (v := undef) rfl (by kernel_rfl) (by kernel_rfl) (by kernel_rfl) (fun _ _ _ h => h) (Or.inr ⟨rfl, rfl⟩) (by assumption) ?_) | (refine wpAnyH_take (i := 0) (v := ?_) rfl (by kernel_rfl) (by kernel_rfl) (by kernel_rfl) (fun _ _ _ h => h) (Or.inl ⟨rfl, ?_⟩) (by assumption) ?_; rotate_left 1; · (intro w hSw; (try dsimp only at hSw); go_simp; (try with_reducible rfl)))); (try simp only [Act.put, List.getElem_toArray, List.getElem_cons_zero, List.getElem_cons_succ, List.setIfInBounds_toArray, List.set_cons_zero, List.set_cons_succ])
      (first | (refine wpAnyH_take (i := 1) (v := undef) rfl (by kernel_rfl) (by kernel_rfl) (by kernel_rfl) (fun _ _ _ h => h) (Or.inr ⟨rfl, rfl⟩) (by assumption) ?_) | (refine wpAnyH_take (i := 1) (v := ?_) rfl (by kernel_rfl) (by kernel_rfl) (by kernel_rfl) (fun _ _ _ h => h) (Or.inl ⟨rfl, ?_⟩) (by assumption) ?_; rotate_left 1; · (intro w hSw; (try dsimp only at hSw); go_simp; (try with_reducible rfl)))); (try simp only [Act.put, List.getElem_toArray, List.getElem_cons_zero, List.getElem_cons_succ, List.setIfInBounds_toArray, List.set_cons_zero, List.set_cons_succ])
      (first | (refine wpAnyH_take (i := 2) (v := undef) rfl (by kernel_rfl) (by kernel_rfl) (by kernel_rfl) (fun _ _ _ h => h) (Or.inr ⟨rfl, rfl⟩) (by assumption) ?_) | (refine wpAnyH_take (i := 2) (v := ?_) rfl (by kernel_rfl) (by kernel_rfl) (by kernel_rfl) (fun _ _ _ h => h) (Or.inl ⟨rfl, ?_⟩) (by assumption) ?_; rotate_left 1; · (intro w hSw; (try dsimp only at hSw); go_simp; (try with_reducible rfl)))); (try simp only [Act.put, List.getElem_toArray, List.getElem_cons_zero, List.getElem_cons_succ, List.setIfInBounds_toArray, List.set_cons_zero, List.set_cons_succ])
      (first | (refine wpAnyH_take (i := 3) (v := undef) rfl (by kernel_rfl) (by kernel_rfl) (by kernel_rfl) (fun _ _ _ h => h) (Or.inr ⟨rfl, rfl⟩) (by assumption) ?_) | (refine wpAnyH_take (i := 3) (v := ?_) rfl (by kernel_rfl) (by kernel_rfl) (by kernel_rfl) (fun _ _ _ h => h) (Or.inl ⟨rfl, ?_⟩) (by assumption) ?_; rotate_left 1; · (intro w hSw; (try dsimp only at hSw); go_simp; (try with_reducible rfl)))); (try simp only [Act.put, List.getElem_toArray, List.getElem_cons_zero, List.getElem_cons_succ, List.setIfInBounds_toArray, List.set_cons_zero, List.set_cons_succ])
      (first | (refine wpAnyH_take (i := 4) (v := undef) rfl (by kernel_rfl) (by kernel_rfl) (by kernel_rfl) (fun _ _ _ h => h) (Or.inr ⟨rfl, rfl⟩) (by assumption) ?_) | (refine wpAnyH_take (i := 4) (v := ?_) rfl (by kernel_rfl) (by kernel_rfl) (by kernel_rfl) (fun _ _ _ h => h) (Or.inl ⟨rfl, ?_⟩) (by assumption) ?_; rotate_left 1; · (intro w hSw; (try dsimp only at hSw); go_simp; (try with_reducible rfl)))); (try simp only [Act.put, List.getElem_toArray, List.getElem_cons_zero, List.getElem_cons_succ, List.setIfInBounds_toArray, List.set_cons_zero, List.set_cons_succ])
      (first | (refine wpAnyH_take (i := 5) (v := undef) rfl (by kernel_rfl) (by kernel_rfl) (by kernel_rfl) (fun _ _ _ h => h) (Or.inr ⟨rfl, rfl⟩) (by assumption) ?_) | (refine wpAnyH_take (i := 5) (v := ?_) rfl (by kernel_rfl) (by kernel_rfl) (by kernel_rfl) (fun _ _ _ h => h) (Or.inl ⟨rfl, ?_⟩) (by assumption) ?_; rotate_left 1; · (intro w hSw; (try dsimp only at hSw); go_simp; (try with_reducible rfl)))); (try simp only [Act.put, List.getElem_toArray, List.getElem_cons_zero, List.getElem_cons_succ, List.setIfInBounds_toArray, List.set_cons_zero, List.set_cons_succ])
      (first | (refine wpAnyH_take (i := 9) (v := undef) rfl (by kernel_rfl) (by kernel_rfl) (by kernel_rfl) (fun _ _ _ h => h) (Or.inr ⟨rfl, rfl⟩) (by assumption) ?_) | (refine wpAnyH_take (i := 9) (v := ?_) rfl (by kernel_rfl) (by kernel_rfl) (by kernel_rfl) (fun _ _ _ h => h) (Or.inl ⟨rfl, ?_⟩) (by assumption) ?_; rotate_left 1; · (intro w hSw; (try dsimp only at hSw); go_simp; (try with_reducible rfl)))); (try simp only [Act.put, List.getElem_toArray, List.getElem_cons_zero, List.getElem_cons_succ, List.setIfInBounds_toArray, List.set_cons_zero, List.set_cons_succ])
      refine wpAnyH_ready (rs := [6]) (by kernel_rfl) (by simp) ?_
      refine AllReadyH.cons rfl (fun K hK => ?_) AllReadyH.nil
      go_simp
      refine hK.out _ _ trivial (fun hHeld => ?_)
      clear hK K
      (try simp only [Act.put, List.getElem_toArray, List.getElem_cons_zero, List.getElem_cons_succ, List.setIfInBounds_toArray, List.set_cons_zero, List.set_cons_succ])
      (first | (refine wpAnyH_take (i := 7) (v := undef) rfl (by kernel_rfl) (by kernel_rfl) (by kernel_rfl) (fun _ _ _ h => h) (Or.inr ⟨rfl, rfl⟩) (by assumption) ?_) | (refine wpAnyH_take (i := 7) (v := ?_) rfl (by kernel_rfl) (by kernel_rfl) (by kernel_rfl) (fun _ _ _ h => h) (Or.inl ⟨rfl, ?_⟩) (by assumption) ?_; rotate_left 1; · (intro w hSw; (try dsimp only at hSw); go_simp; (try with_reducible rfl)))); (try simp only [Act.put, List.getElem_toArray, List.getElem_cons_zero, List.getElem_cons_succ, List.setIfInBounds_toArray, List.set_cons_zero, List.set_cons_succ])
      (first | (refine wpAnyH_take (i := 8) (v := undef) rfl (by kernel_rfl) (by kernel_rfl) (by kernel_rfl) (fun _ _ _ h => h) (Or.inr ⟨rfl, rfl⟩) (by assumption) ?_) | (refine wpAnyH_take (i := 8) (v := ?_) rfl (by kernel_rfl) (by kernel_rfl) (by kernel_rfl) (fun _ _ _ h => h) (Or.inl ⟨rfl, ?_⟩) (by assumption) ?_; rotate_left 1; · (intro w hSw; (try dsimp only at hSw); go_simp; (try with_reducible rfl)))); (try simp only [Act.put, List.getElem_toArray, List.getElem_cons_zero, List.getElem_cons_succ, List.setIfInBounds_toArray, List.set_cons_zero, List.set_cons_succ])
      refine wpAnyH_ready (rs := [10]) (by kernel_rfl) (by simp) ?_
      refine AllReadyH.cons rfl (fun K hK => ?_) AllReadyH.nil
      have hbd := Blk.drew hb
      refine st_cpB (oo := 8 + r) (nn := 64 - r) (cc := 64 - r) (zs := vbs (m.drop k)) rfl _ _ rfl Tryz.underlying55 (by kernel_rfl) rfl rfl hbd hr'.drew (vbs_one _) (by omega) (by omega) (by rw [hsCells_len s _ hbk]; omega) ?_
      intro wr3 hb3 ht3
      rw [← Hk.out]
      refine hK.out _ _ trivial (fun hHeld => ?_)
      clear hK K
      (try simp only [Act.put, List.getElem_toArray, List.getElem_cons_zero, List.getElem_cons_succ, List.setIfInBounds_toArray, List.set_cons_zero, List.set_cons_succ])
      (first | (refine wpAnyH_take (i := 11) (v := undef) rfl (by kernel_rfl) (by kernel_rfl) (by kernel_rfl) (fun _ _ _ h => h) (Or.inr ⟨rfl, rfl⟩) (by assumption) ?_) | (refine wpAnyH_take (i := 11) (v := ?_) rfl (by kernel_rfl) (by kernel_rfl) (by kernel_rfl) (fun _ _ _ h => h) (Or.inl ⟨rfl, ?_⟩) (by assumption) ?_; rotate_left 1; · (intro w hSw; (try dsimp only at hSw); go_simp; (try with_reducible rfl)))); (try simp only [Act.put, List.getElem_toArray, List.getElem_cons_zero, List.getElem_cons_succ, List.setIfInBounds_toArray, List.set_cons_zero, List.set_cons_succ])
      refine wpAnyH_done (by kernel_rfl) ?_ _
      refine NoPanic.normal ?_
      clear hHeld
      have e1 := hs_lay s bk (N : Int) r ((m.drop k).take kk) hbk (by rw [hxl]; omega)
      rw [hxl, ← vbs_take] at e1
      rw [← Hk.out, e1] at hb3
      have hlen : (sLay bk r ((m.drop k).take kk)).length = 64 := sLay_len hbk (by rw [hxl]; omega)
      have ht4 : Turn wr wr3 (some g) := (Turn.refl wr (some g)).drew.trans ht3
      have htr := ht.trans ht4
      obtain ⟨bk', hbk'⟩ : ∃ bk', bk' = sLay bk r ((m.drop k).take kk) := ⟨_, rfl⟩
      rw [← hbk'] at hlen hb3
      have c72 := hb3.ats (j := 72) (hsCells_last s (N : Int) hlen)
      have f72 := hb3.frozen 72
      have hb4 := hb3.sets 72 (.int .u64 ((N : Int) + (kk : Int)))
      rw [hs_written s bk' _ _ hlen] at hb4
      have ht5 := htr.trans (Blk.setTurn wr3 g 72 (.int .u64 ((N : Int) + (kk : Int))))
      have ht6 := ht4.trans (Blk.setTurn wr3 g 72 (.int .u64 ((N : Int) + (kk : Int))))
      have hLr := hL.turn ht5 (by simp; omega)
      have hBr : B ≤ wr.heap.size := Nat.le_trans hB ht.size
      have hcat : l ++ m.take (k + kk) = (l ++ m.take k) ++ (m.drop k).take kk := by rw [List.append_assoc, List.take_add]
      have hcl : (l ++ m.take (k + kk)).length = N + kk := by rw [hcat, List.length_append, hxl, ← Hh.out.2.1]
      have hst := Hh.out.1
      have hrL : (l ++ m.take k).length % 64 = r := by rw [← Hh.out.2.1]; exact Hh.out.2.2.symm
      have hful : r + kk = 64 → sState (l ++ m.take (k + kk)) (sBlock s bk') bk' := by
        intro h
        rw [hcat, hbk', ← hrL]
        exact sState_full hst (by rw [hxl, hrL]; exact h)
      have hprt : ¬ r + kk = 64 → sState (l ++ m.take (k + kk)) s bk' := by
        intro h
        rw [hcat, hbk', ← hrL]
        exact sState_part hst (by rw [hxl, hrL]; omega)
      have hcut : (c' = kk ∧ Rd wr B 1 (some ⟨b0, off, none⟩) (n' - kk) (vbs (m.drop (k + kk)))) ∨ (¬ c' = kk ∧ Rd wr B 1 (some ⟨b0, off + kk, none⟩) (n' - kk) (vbs (m.drop (k + kk)))) := by
        by_cases hck : c' = kk
        · have h2 := hr'.cutB (c := c') hk1 hnc'
          rw [if_pos hck, List.drop_drop] at h2
          exact .inl ⟨hck, h2⟩
        · have h2 := hr'.tailB (c := c') hk1 hnc' hck
          rw [List.drop_drop] at h2
          exact .inr ⟨hck, h2⟩
      have HB := hid (And.intro hbk' (And.intro hful (And.intro hprt hcl)))
      clear hbk' e1 ht3 hful hprt hcl hst hrL hcat htr ht4 ht hb hw hb3 hr' hxl
      have l4 : (kk : Int) ≤ (n' : Int) := by omega
      have l5 : kk ≤ c' := by omega
      have l6 : kk ≤ n' := by omega
      rcases hcut with ⟨hck, hrd⟩ | ⟨hck, hrd⟩
      all_goals
        by_cases hf : r + kk = 64
        · have hz : ((N : Int) + (kk : Int)) % 64 = 0 := by omega
          have hst := hid (HB.out.2.1 hf)
          clear hf htm hri
          go_wp2_with (go_at_call 96; refine (take_any s bk' ((N : Int) + (kk : Int)) g _ hLr hg ⟨hlen, hb4⟩).mono ?_; rintro e w6 ⟨rfl, hs6, ht7⟩)
          have hcl : ((l ++ m.take (k + kk)).length : Int) = (N : Int) + (kk : Int) := by rw [HB.out.2.2.2]; omega
          rw [← hcl] at hs6
          refine ⟨⟨k + kk, _, _, _, ?_, rfl, ?_, ?_, ⟨_, _, hs6, hst.out⟩, hrd.turnNe (ht6.trans ht7) hBr (.inr ?_), ?_, ht5.trans ht7⟩, ?_⟩
          · omega
          · omega
          · omega
          · simpa [blk] using hA'
          · exact fun _ => by simpa [blk] using hA'
          · simp; omega
        · have hz : ¬ ((N : Int) + (kk : Int)) % 64 = 0 := by omega
          have hst := hid (HB.out.2.2.1 hf)
          clear hf htm hri
          go_wp2_with fail
          have hcl : ((l ++ m.take (k + kk)).length : Int) = (N : Int) + (kk : Int) := by rw [HB.out.2.2.2]; omega
          rw [← hcl] at hb4 ht5 ht6 ⊢
          refine ⟨⟨k + kk, _, _, _, ?_, rfl, ?_, ?_, ⟨_, _, ⟨hlen, hb4⟩, hst.out⟩, hrd.turnNe ht6 hBr (.inr ?_), ?_, ht5⟩, ?_⟩
          · omega
          · omega
          · omega
          · simpa [blk] using hA'
          · exact fun _ => by simpa [blk] using hA'
          · simp; omega
end Go.Proofs.YtjjdhdieihmnnaaGreatDoor.Sha
/-
  Layer 3: the hash of what was written (contract).
-/
namespace Go.Proofs.YtjjdhdieihmnnaaGreatDoor.Sha
open Go.RowKit

theorem sz32 {xs : List Value} (h : xs.length = 32) : (Tryz.prog.info? 41).map (·.size) = some xs.length := by rw [h]; kernel_rfl
theorem szH {xs : List Value} (h : xs.length = 73) : (Tryz.prog.info? 136).map (·.size) = some xs.length := by rw [h]; kernel_rfl
theorem nul32 : ∀ w, (zeroValue 41).run Tryz.prog w = .ok (.agg (vbs (List.replicate 32 0)).toArray) w := zero_at (by kernel_rfl)
theorem nulH : ∀ w, (zeroValue 136).run Tryz.prog w = .ok (.agg (hsCells ⟨0#32, 0#32, 0#32, 0#32, 0#32, 0#32, 0#32, 0#32⟩ (List.replicate 64 0) 0).toArray) w := zero_at (by kernel_rfl)
theorem hs_one (s : W8) (blk : List UInt8) (n : Int) : ∀ u ∈ hsCells s blk n, u.oneCell' = true := by
  intro u hu
  unfold hsCells at hu
  rcases List.mem_append.1 hu with hu | hu
  · rcases List.mem_append.1 hu with hu | hu
    · exact cvs_one _ u hu
    · exact vbs_one _ u hu
  · rw [List.mem_singleton.1 hu]; rfl

theorem vb_b0 (x : BitVec 32) : Value.int .u8 (cV x / 16777216) = vb (UInt8.ofNat (x.toNat / 16777216)) := by
  have := x.isLt
  rw [vb_ofNat]; congr 1; unfold cV; omega
theorem vb_b1 (x : BitVec 32) : Value.int .u8 (cV x / 65536 % 256) = vb (UInt8.ofNat (x.toNat / 65536)) := by
  rw [vb_ofNat]; congr 1
theorem vb_b2 (x : BitVec 32) : Value.int .u8 (cV x / 256 % 256) = vb (UInt8.ofNat (x.toNat / 256)) := by
  rw [vb_ofNat]; congr 1
theorem vb_b3 (x : BitVec 32) : Value.int .u8 (cV x % 256) = vb (UInt8.ofNat x.toNat) := by
  rw [vb_ofNat]; congr 1
theorem vbs_set (l : List UInt8) (i : Nat) (b : UInt8) : (vbs l).set i (vb b) = vbs (l.set i b) := by
  unfold vbs
  rw [List.map_set]

set_option maxRecDepth 100000 in
set_option maxHeartbeats 1600000 in
theorem hsum_any (l : List UInt8) (g : Nat) (w : World) (hL : Laid w) (hg : 2 < g) (h : HIs w g l) (hN : l.length ≤ 281474976710000) :
    Calls Tryz.prog 71 #[.pointer (some ⟨g, 0, none⟩)] w fun e w' => e = .returned (.agg (vbs (sHash l)).toArray) ∧ Turn w w' none := by
  obtain ⟨s, blk, hs, hst⟩ := h
  obtain ⟨hbl, hb⟩ := hs
  have hT := Turn.refl w none
  obtain ⟨X, hX⟩ : ∃ X, X = vbs (sHash l) := ⟨_, rfl⟩
  have hX1 : X.length = 32 := by rw [hX, vbs_len, sHash_len]
  have hX2 : ∀ u ∈ X, u.oneCell' = true := by rw [hX]; exact vbs_one _
  rw [← hX]
  have HX := hid hX
  clear hX
  go_enter Tryz.func71, Tryz.ntmps71
  go_wp2_with (first
    | (refine wp_al rfl 41 rfl _ nul32 ?_; intro gr w1 hgr hr ht1; have hT := hT.trans ht1; have hb := hb.turn0 ht1; rw [cells_agg] at hr)
    | (refine wp_ld rfl 136 _ rfl rfl hb (Sub.all _) Tryz.underlying136 rfl (szH (hsCells_len s _ hbl)) ?_)
    | (refine wp_al rfl 136 rfl _ nulH ?_; intro ge w2 hge he ht2; have hT := hT.trans ht2; have hr1 := hr.turn0 ht2; have ger : gr < ge := (by rw [← hge]; exact hr.lt); have gge : g < ge := (by rw [← hge]; exact hb.lt); rw [cells_agg] at he)
    | (refine wp_st rfl 136 _ _ rfl rfl rfl he (by rw [List.size_toArray, hsCells_len _ _ (by simp), hsCells_len s _ hbl]) (szH (hsCells_len s _ hbl)) (hs_one _ _ _) ?_; intro w3 he3 ht3))
  have hT3 := hT.new ht3 (by simp; omega)
  have hTs := hT3.size
  have hr3 := hr1.turn ht3 (by simp; omega)
  clear hb he hr1
  go_wp2_with (go_at_call 97; refine (padding_any s blk l.length ge _ ⟨hbl, he3⟩ (by omega)).mono ?_; rintro e w4 ⟨A, c, rfl, ho, ht4⟩)
  have hE : HIs w4 ge l := ⟨s, blk, ⟨hbl, he3.turn0 ht4⟩, hst⟩
  have hL4 := (hL.turn hT3 (by simp)).turn ht4 (by simp)
  have hAe : Go.Proofs.YtjjdhdieihmnnaaGreatDoor.blk A ≠ some ge := by
    intro e
    have := (ho.block ge e).1
    have := he3.lt
    omega
  go_wp2_with (first
    | (go_at_call 70; refine (write_any l ge _ _ _ (sEnd l.length) _ _ hL4 (by omega) hE ho.rd (Nat.le_refl _) (fun _ => hAe) ho.cap.1 ho.cap.2 (by have := sZeros_lt l.length; omega)).mono ?_; rintro e w5 ⟨rfl, hE5, ht5⟩; obtain ⟨s', blk', ⟨hbl', hb5⟩, hst'⟩ := hE5; have hT5 := (hT3.trans ht4).new ht5 (by simp; omega); have hr5 := (hr3.turn0 ht4).turn ht5 (by simp; omega); clear hE ho he3 hr3 ht4 ht5 hL4 hAe)
    | (refine wp_al rfl 41 rfl _ nul32 ?_; intro gs w6 hgs hs6 ht6; have hT6 := hT5.trans ht6; have gsr : gr < gs := (by rw [← hgs]; exact hr5.lt); have hr6 := hr5.turn0 ht6; have hb6 := hb5.turn0 ht6; rw [cells_agg] at hs6)
    | (refine wp_ld rfl 133 _ rfl rfl hb6 (sub_words s' blk' _) Tryz.underlying133 rfl (sz8 rfl) ?_))
  have HY := hid (show X = vbs (sOut s') by rw [sState_out (l := l) hst']; exact HX.out)
  clear hst hst'
  clear hb5 hb6 hr5
  go_loopw [14] (fun i wr => ∃ j : Nat, j ≤ 8 ∧ i = .int .i64 (j : Int) ∧ Blk wr gs 41 (vbs (sOutTo s' j)).toArray ∧ Turn w6 wr (some gs)) (fun i _ => (8 - intOf i).toNat)
  case atStart => exact ⟨0, by omega, rfl, by rw [sOutTo_zero]; exact hs6, Turn.refl w6 _⟩
  case round =>
    obtain ⟨j, hj, rfl, hb, ht⟩ := hrel
    clear hs6
    by_cases hj8 : j < 8
    · obtain ⟨x, hx, hset⟩ := sOutTo_at s' j hj8
      have hix := fun W : World => run_ix (P := Tryz.prog) (w := W) Tryz.underlying133 Tryz.underlying117 (by kernel_rfl) hj8 (show (cvs s'.list).toArray[j]? = some (.int .u32 (cV x)) by rw [List.getElem?_toArray]; exact cvs_at hx)
      have Hset := hid hset
      have hx0 := cV_bd x
      have hll : (vbs (sOutTo s' j)).length = 32 := by rw [vbs_len, sOutTo_len s' j hj]
      have d0 := hb.ats (j := 4 * j) (List.getElem?_eq_getElem (by omega))
      have d1 := hb.ats (j := 4 * j + 1) (List.getElem?_eq_getElem (by omega))
      have d2 := hb.ats (j := 4 * j + 2) (List.getElem?_eq_getElem (by omega))
      have d3 := hb.ats (j := 4 * j + 3) (List.getElem?_eq_getElem (by omega))
      have f0 := hb.frozen (4 * j)
      have f1 := hb.frozen (4 * j + 1)
      have f2 := hb.frozen (4 * j + 2)
      have f3 := hb.frozen (4 * j + 3)
      clear hset hx
      go_wp2_with fail
      have hb4 := (((hb.sets (4 * j) (.int .u8 (cV x / 16777216))).sets (4 * j + 1) (.int .u8 (cV x / 65536 % 256))).sets (4 * j + 2) (.int .u8 (cV x / 256 % 256))).sets (4 * j + 3) (.int .u8 (cV x % 256))
      rw [vb_b0, vb_b1, vb_b2, vb_b3, vbs_set, vbs_set, vbs_set, vbs_set, Hset.out, ← vb_b0, ← vb_b1, ← vb_b2, ← vb_b3] at hb4
      refine ⟨⟨j + 1, by omega, rfl, hb4, ht.trans ((((Blk.setTurn _ gs _ _).trans (Blk.setTurn _ gs _ _)).trans (Blk.setTurn _ gs _ _)).trans (Blk.setTurn _ gs _ _))⟩, ?_⟩
      simp [intOf]; omega
    · have hjj : j = 8 := by omega
      rw [hjj, sOutTo_all, ← HY.out] at hb
      clear hjj
      have hr7 := hr6.turn ht (by simp; omega)
      go_wp2_with (first
        | (refine wp_ld rfl 41 _ rfl rfl hb (Sub.all X) Tryz.underlying41 rfl (sz32 hX1) ?_)
        | (refine wp_st (xs := X) rfl 41 _ _ rfl rfl rfl hr7 (by rw [List.size_toArray, vbs_len, hX1]; rfl) (sz32 hX1) hX2 ?_; intro w9 hb9 ht9))
      refine ret_cell rfl rfl rfl hb9 Tryz.underlying41 rfl (sz32 hX1) ⟨rfl, ?_⟩
      exact (hT6.new ht (by simp; omega)).new ht9 (by simp; omega)
end Go.Proofs.YtjjdhdieihmnnaaGreatDoor.Sha
