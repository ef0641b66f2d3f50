/-
  Layer 3, its pure side: words of 32 bits, blocks, rounds; the hash of bytes.
-/
import Derived.Test.YtfmighjblppceaaDoorMem
import Derived.Laws.BitsAllLaws
namespace Go.Proofs.YtfmighjblppceaaDoor
open Go.RowKit

/-- A word as an integer. -/
def cV (s : BitVec 32) : Int := (s.toNat : Int)
theorem cV_bd (s : BitVec 32) : 0 ≤ cV s ∧ cV s ≤ 4294967295 := by
  have h := s.isLt
  unfold cV
  omega
theorem cV_inj {s t : BitVec 32} (h : cV s = cV t) : s = t := by
  unfold cV at h
  exact BitVec.eq_of_toNat_eq (by omega)
theorem cV_of {n : Int} (h0 : 0 ≤ n) (h1 : n ≤ 4294967295) : ∃ s, n = cV s := by
  obtain ⟨k, rfl⟩ := Int.eq_ofNat_of_zero_le h0
  refine ⟨BitVec.ofNat 32 k, ?_⟩
  unfold cV
  rw [BitVec.toNat_ofNat, Nat.mod_eq_of_lt (by omega)]
theorem cV_xor (s t : BitVec 32) : bits .xor .u32 (cV s) (cV t) = cV (s ^^^ t) := by
  unfold cV
  rw [u32_xor_nat _ _ s.isLt t.isLt, BitVec.toNat_xor]
theorem cV_or (s t : BitVec 32) : bits .or .u32 (cV s) (cV t) = cV (s ||| t) := by
  unfold cV
  rw [u32_or_nat _ _ s.isLt t.isLt, BitVec.toNat_or]
theorem cV_and (s t : BitVec 32) : bits .and .u32 (cV s) (cV t) = cV (s &&& t) := by
  unfold cV
  rw [u32_and_nat _ _ s.isLt t.isLt, BitVec.toNat_and]
theorem cV_not (s : BitVec 32) : 4294967295 - cV s = cV (~~~ s) := by
  have h := s.isLt
  unfold cV
  rw [BitVec.toNat_not]
  omega
theorem cV_add (s t : BitVec 32) : (cV s + cV t) % 4294967296 = cV (s + t) := by
  unfold cV
  rw [BitVec.toNat_add]
  simp
theorem cW_add (s t : BitVec 32) : IntKind.u32.wrap (cV s + cV t) = cV (s + t) := by
  rw [IntKind.wrap_u32, cV_add]
theorem cV_shl (s : BitVec 32) (k : Nat) : cV s * 2 ^ k % 4294967296 = cV (s <<< k) := by
  unfold cV
  rw [BitVec.toNat_shiftLeft, Nat.shiftLeft_eq]
  simp
theorem cV_shr (s : BitVec 32) (k : Nat) : cV s / 2 ^ k = cV (s >>> k) := by
  unfold cV
  rw [BitVec.toNat_ushiftRight, Nat.shiftRight_eq_div_pow]
  simp
theorem cV_ofNat {n : Nat} (h : n ≤ 4294967295) : ((n : Nat) : Int) = cV (BitVec.ofNat 32 n) := by
  unfold cV
  rw [BitVec.toNat_ofNat, Nat.mod_eq_of_lt (by omega)]
theorem cOr_code (s : BitVec 32) (c : UInt8) : bits .or .u32 (cV s * (256 : Int) % (4294967296 : Int)) (c.toNat : Int) = cV ((s <<< 8) ||| BitVec.ofNat 32 c.toNat) := by
  have := c.toNat_lt
  have e1 : cV s * (256 : Int) % (4294967296 : Int) = cV (s <<< 8) := by
    unfold cV
    rw [BitVec.toNat_shiftLeft, Nat.shiftLeft_eq]
    omega
  have e2 : (c.toNat : Int) = cV (BitVec.ofNat 32 c.toNat) := by
    unfold cV
    rw [BitVec.toNat_ofNat, Nat.mod_eq_of_lt (by omega)]
  rw [e1, e2, cV_or]
/-- Words as values. -/
def cvs (l : List (BitVec 32)) : List Value := l.map fun s => .int .u32 (cV s)
theorem cvs_len (l : List (BitVec 32)) : (cvs l).length = l.length := by simp [cvs]
theorem cvs_at {l : List (BitVec 32)} {i : Nat} {s : BitVec 32} (h : l[i]? = some s) : (cvs l)[i]? = some (.int .u32 (cV s)) := by simp [cvs, h]
theorem cvs_append (l m : List (BitVec 32)) : cvs (l ++ m) = cvs l ++ cvs m := by simp [cvs]
theorem cvs_one (l : List (BitVec 32)) : ∀ u ∈ cvs l, u.oneCell' = true := by
  intro u hu
  obtain ⟨b, _, rfl⟩ := List.mem_map.1 hu
  rfl
theorem cvs_set (l : List (BitVec 32)) (i : Nat) (s : BitVec 32) : (cvs l).set i (.int .u32 (cV s)) = cvs (l.set i s) := by
  unfold cvs
  rw [List.map_set]

/-! ### Rounds -/
def sRot (x : BitVec 32) (n : Nat) : BitVec 32 := (x >>> n) ||| (x <<< (32 - n))
def sTri (x : BitVec 32) (i j k : Nat) : BitVec 32 := (sRot x i ^^^ sRot x j) ^^^ sRot x k
def sShi (x : BitVec 32) (i j k : Nat) : BitVec 32 := (sRot x i ^^^ sRot x j) ^^^ (x >>> k)
/-- The eight words. -/
structure W8 where
  a : BitVec 32
  b : BitVec 32
  c : BitVec 32
  d : BitVec 32
  e : BitVec 32
  f : BitVec 32
  g : BitVec 32
  h : BitVec 32
def W8.list (v : W8) : List (BitVec 32) := [v.a, v.b, v.c, v.d, v.e, v.f, v.g, v.h]
def W8.add (v w : W8) : W8 := ⟨v.a + w.a, v.b + w.b, v.c + w.c, v.d + w.d, v.e + w.e, v.f + w.f, v.g + w.g, v.h + w.h⟩
def sStart : W8 := ⟨0x6a09e667#32, 0xbb67ae85#32, 0x3c6ef372#32, 0xa54ff53a#32, 0x510e527f#32, 0x9b05688c#32, 0x1f83d9ab#32, 0x5be0cd19#32⟩
def sKeys : List (BitVec 32) := [
  0x428a2f98#32, 0x71374491#32, 0xb5c0fbcf#32, 0xe9b5dba5#32, 0x3956c25b#32, 0x59f111f1#32, 0x923f82a4#32, 0xab1c5ed5#32,
  0xd807aa98#32, 0x12835b01#32, 0x243185be#32, 0x550c7dc3#32, 0x72be5d74#32, 0x80deb1fe#32, 0x9bdc06a7#32, 0xc19bf174#32,
  0xe49b69c1#32, 0xefbe4786#32, 0x0fc19dc6#32, 0x240ca1cc#32, 0x2de92c6f#32, 0x4a7484aa#32, 0x5cb0a9dc#32, 0x76f988da#32,
  0x983e5152#32, 0xa831c66d#32, 0xb00327c8#32, 0xbf597fc7#32, 0xc6e00bf3#32, 0xd5a79147#32, 0x06ca6351#32, 0x14292967#32,
  0x27b70a85#32, 0x2e1b2138#32, 0x4d2c6dfc#32, 0x53380d13#32, 0x650a7354#32, 0x766a0abb#32, 0x81c2c92e#32, 0x92722c85#32,
  0xa2bfe8a1#32, 0xa81a664b#32, 0xc24b8b70#32, 0xc76c51a3#32, 0xd192e819#32, 0xd6990624#32, 0xf40e3585#32, 0x106aa070#32,
  0x19a4c116#32, 0x1e376c08#32, 0x2748774c#32, 0x34b0bcb5#32, 0x391c0cb3#32, 0x4ed8aa4a#32, 0x5b9cca4f#32, 0x682e6ff3#32,
  0x748f82ee#32, 0x78a5636f#32, 0x84c87814#32, 0x8cc70208#32, 0x90befffa#32, 0xa4506ceb#32, 0xbef9a3f7#32, 0xc67178f2#32]
theorem sKeys_len : sKeys.length = 64 := rfl
def sT1 (v : W8) (k w : BitVec 32) : BitVec 32 := (((v.h + sTri v.e 6 11 25) + ((v.e &&& v.f) ^^^ (~~~ v.e &&& v.g))) + k) + w
def sT2 (v : W8) : BitVec 32 := sTri v.a 2 13 22 + (((v.a &&& v.b) ^^^ (v.a &&& v.c)) ^^^ (v.b &&& v.c))
def sRnd (v : W8) (k w : BitVec 32) : W8 := ⟨sT1 v k w + sT2 v, v.a, v.b, v.c, v.d + sT1 v k w, v.e, v.f, v.g⟩
theorem cNot_code (s : BitVec 32) : bits .xor .u32 (if IntKind.u32.signed = true then -1 else IntKind.u32.max) (cV s) = cV (~~~ s) := by
  have e : (if IntKind.u32.signed = true then -1 else IntKind.u32.max) = cV 0xffffffff#32 := by decide
  have h2 : 0xffffffff#32 ^^^ s = ~~~ s := by rw [show (0xffffffff#32 : BitVec 32) = BitVec.allOnes 32 from rfl, BitVec.allOnes_xor]
  rw [e, cV_xor, h2]
theorem cNot_ref (s : BitVec 32) : bits .xor .u32 (cV s) 4294967295 = cV (~~~ s) := by
  have e : (4294967295 : Int) = cV 0xffffffff#32 := by decide
  have h2 : s ^^^ 0xffffffff#32 = ~~~ s := by rw [show (0xffffffff#32 : BitVec 32) = BitVec.allOnes 32 from rfl, BitVec.xor_allOnes]
  rw [e, cV_xor, h2]
theorem cT1_code (v : W8) (k w : BitVec 32) : (((cV v.h + cV (sTri v.e 6 11 25) + bits .xor .u32 (bits .and .u32 (cV v.e) (cV v.f)) (bits .and .u32 (bits .xor .u32 (if IntKind.u32.signed = true then -1 else IntKind.u32.max) (cV v.e)) (cV v.g)) + cV k) % 4294967296 + cV w) % 4294967296) = cV (sT1 v k w) := by
  rw [cNot_code, cV_and, cV_and, cV_xor]
  unfold sT1
  rw [← cV_add, ← cV_add, ← cV_add, ← cV_add]
  simp
theorem cT2_code (v : W8) : (cV (sTri v.a 2 13 22) + bits .xor .u32 (bits .xor .u32 (bits .and .u32 (cV v.a) (cV v.b)) (bits .and .u32 (cV v.a) (cV v.c))) (bits .and .u32 (cV v.b) (cV v.c))) % 4294967296 = cV (sT2 v) := by
  rw [cV_and, cV_and, cV_and, cV_xor, cV_xor, cV_add]
  rfl
/-- The first n rounds. -/
def sRun (ws : List (BitVec 32)) (v : W8) : Nat → W8
  | 0 => v
  | n + 1 => sRnd (sRun ws v n) (sKeys.getD n 0#32) (ws.getD n 0#32)
/-- The first i words are added already. -/
def sMix (s r : W8) (i : Nat) : List (BitVec 32) := (s.add r).list.take i ++ s.list.drop i
theorem sMix_at (s r : W8) (i : Nat) (h : i < 8) : ∃ x y, r.list[i]? = some y ∧ (sMix s r i)[i]? = some x ∧ (sMix s r i).set i (x + y) = sMix s r (i + 1) := by
  have : i = 0 ∨ i = 1 ∨ i = 2 ∨ i = 3 ∨ i = 4 ∨ i = 5 ∨ i = 6 ∨ i = 7 := by omega
  rcases this with rfl | rfl | rfl | rfl | rfl | rfl | rfl | rfl <;> exact ⟨_, _, rfl, rfl, rfl⟩
theorem sMix_len (s r : W8) (i : Nat) (h : i ≤ 8) : (sMix s r i).length = 8 := by simp [sMix, W8.list]; omega
theorem sMix_zero (s r : W8) : sMix s r 0 = s.list := rfl
theorem sMix_all (s r : W8) : sMix s r 8 = (s.add r).list := rfl
/-- A word of four bytes. -/
def sWord (l : List UInt8) : BitVec 32 := l.foldl (fun s c => (s <<< 8) ||| BitVec.ofNat 32 c.toNat) 0#32
theorem sWord_last (l : List UInt8) (c : UInt8) : sWord (l ++ [c]) = (sWord l <<< 8) ||| BitVec.ofNat 32 c.toNat := by simp [sWord]
/-- The block's first n words. -/
def sFirst (m : List UInt8) : Nat → List (BitVec 32)
  | 0 => []
  | n + 1 => sFirst m n ++ [sWord ((m.drop (4 * n)).take 4)]
theorem sFirst_len (m : List UInt8) (n : Nat) : (sFirst m n).length = n := by
  induction n with
  | zero => rfl
  | succ n ih => simp [sFirst, ih]
def sNext (ws : List (BitVec 32)) (i : Nat) : BitVec 32 :=
  ((ws.getD (i - 16) 0#32 + sShi (ws.getD (i - 15) 0#32) 7 18 3) + ws.getD (i - 7) 0#32) + sShi (ws.getD (i - 2) 0#32) 17 19 10
/-- And n more. -/
def sMore (ws : List (BitVec 32)) : Nat → List (BitVec 32)
  | 0 => ws
  | n + 1 => sMore ws n ++ [sNext (sMore ws n) (ws.length + n)]
theorem sMore_len (ws : List (BitVec 32)) (n : Nat) : (sMore ws n).length = ws.length + n := by
  induction n with
  | zero => rfl
  | succ n ih => simp [sMore, ih]; omega
/-- The table after j bytes. -/
def sPart (m : List UInt8) (j : Nat) : List (BitVec 32) := (List.range 64).map fun q => sWord (((m.take j).drop (4 * q)).take 4)
theorem sPart_len (m : List UInt8) (j : Nat) : (sPart m j).length = 64 := by simp [sPart]
theorem sPart_zero (m : List UInt8) : sPart m 0 = List.replicate 64 0#32 := by
  simp only [sPart, List.take_zero, List.drop_nil, List.take_nil]
  rfl
theorem sPart_at (m : List UInt8) (j q : Nat) (hq : q < 64) : (sPart m j)[q]? = some (sWord (((m.take j).drop (4 * q)).take 4)) := by
  simp [sPart, List.getElem?_map, List.getElem?_range hq]
theorem sPart_next {m : List UInt8} {j : Nat} {c : UInt8} (hj : j < 64) (hc : m[j]? = some c) :
    (sPart m j).set (j / 4) ((sWord (((m.take j).drop (4 * (j / 4))).take 4) <<< 8) ||| BitVec.ofNat 32 c.toNat) = sPart m (j + 1) := by
  have hlt := (List.getElem?_eq_some_iff.1 hc).1
  have ht : m.take (j + 1) = m.take j ++ [c] := by rw [List.take_add_one, hc]; rfl
  have hl : (m.take j).length = j := by rw [List.length_take]; omega
  apply List.ext_getElem?
  intro q
  by_cases hq : q < 64
  · rw [sPart_at _ _ _ hq, List.getElem?_set]
    by_cases e : j / 4 = q
    · rw [if_pos e, if_pos (by rw [sPart_len]; omega), ht]
      subst e
      have h1 : (m.take j ++ [c]).drop (4 * (j / 4)) = (m.take j).drop (4 * (j / 4)) ++ [c] := List.drop_append_of_le_length (by omega)
      have h2 : ((m.take j).drop (4 * (j / 4))).length < 4 := by rw [List.length_drop, hl]; omega
      rw [h1, List.take_of_length_le (l := _ ++ [c]) (by rw [List.length_append]; simp; omega), sWord_last, List.take_of_length_le (by omega)]
    · rw [if_neg e, sPart_at _ _ _ hq, ht]
      congr 2
      by_cases h : q < j / 4
      · rw [List.drop_append_of_le_length (by omega), List.take_append_of_le_length (by rw [List.length_drop]; omega)]
      · rw [List.drop_eq_nil_of_le (by omega), List.drop_eq_nil_of_le (by simp; omega)]
  · rw [List.getElem?_eq_none (by rw [List.length_set, sPart_len]; omega), List.getElem?_eq_none (by rw [sPart_len]; omega)]
/-- The table from word 16 on. -/
def sTab (m : List UInt8) (n : Nat) : List (BitVec 32) := sMore (sFirst m 16) n ++ List.replicate (48 - n) 0#32
theorem sTab_len {m : List UInt8} {n : Nat} (h : n ≤ 48) : (sTab m n).length = 64 := by simp [sTab, sMore_len, sFirst_len]; omega
theorem sTab_at (m : List UInt8) (n k : Nat) (h : k < 16 + n) : (sTab m n)[k]? = some ((sMore (sFirst m 16) n).getD k 0#32) := by
  have hk : k < (sMore (sFirst m 16) n).length := by rw [sMore_len, sFirst_len]; exact h
  rw [sTab, List.getElem?_append_left hk, List.getElem?_eq_getElem hk, List.getD_eq_getElem?_getD, List.getElem?_eq_getElem hk]
  rfl
theorem sTab_next (m : List UInt8) (n : Nat) (h : n < 48) : (sTab m n).set (16 + n) (sNext (sMore (sFirst m 16) n) (16 + n)) = sTab m (n + 1) := by
  have e : List.replicate (48 - n) 0#32 = 0#32 :: List.replicate (48 - (n + 1)) 0#32 := by
    have : 48 - n = (48 - (n + 1)) + 1 := by omega
    rw [this]; rfl
  have hl : (sMore (sFirst m 16) n).length = 16 + n := by rw [sMore_len, sFirst_len]
  rw [sTab, sTab, e, sMore, sFirst_len, List.append_assoc, List.set_append_right _ _ (by omega), hl, Nat.sub_self]
  rfl
theorem sFirst_at (m : List UInt8) (n q : Nat) (h : q < n) : (sFirst m n)[q]? = some (sWord ((m.drop (4 * q)).take 4)) := by
  induction n with
  | zero => omega
  | succ n ih =>
    rw [sFirst]
    by_cases e : q = n
    · subst e
      rw [List.getElem?_append_right (by rw [sFirst_len]; omega), sFirst_len, Nat.sub_self]
      rfl
    · rw [List.getElem?_append_left (by rw [sFirst_len]; omega)]
      exact ih (by omega)
theorem sPart_all {m : List UInt8} (h : m.length = 64) : sPart m 64 = sTab m 0 := by
  have e64 : m.take 64 = m := List.take_of_length_le (by omega)
  apply List.ext_getElem?
  intro q
  by_cases hq : q < 64
  · rw [sPart_at _ _ _ hq, e64, sTab, sMore]
    by_cases e : q < 16
    · rw [List.getElem?_append_left (by rw [sFirst_len]; omega), sFirst_at _ _ _ e]
    · rw [List.getElem?_append_right (by rw [sFirst_len]; omega), sFirst_len, List.getElem?_replicate, if_pos (by omega), List.drop_eq_nil_of_le (by omega)]
      rfl
  · rw [List.getElem?_eq_none (by rw [sPart_len]; omega), List.getElem?_eq_none (by rw [sTab_len (by omega)]; omega)]
def sSpread (m : List UInt8) : List (BitVec 32) := sMore (sFirst m 16) 48
theorem sSpread_len (m : List UInt8) : (sSpread m).length = 64 := by rw [sSpread, sMore_len, sFirst_len]
def sBlock (s : W8) (m : List UInt8) : W8 := s.add (sRun (sSpread m) s 64)
/-- The first n blocks. -/
def sGo (m : List UInt8) : Nat → W8
  | 0 => sStart
  | n + 1 => sBlock (sGo m n) ((m.drop (64 * n)).take 64)
theorem sGo_more (m x : List UInt8) (n : Nat) (h : 64 * n ≤ m.length) : sGo (m ++ x) n = sGo m n := by
  induction n with
  | zero => rfl
  | succ n ih =>
    have e : ((m ++ x).drop (64 * n)).take 64 = (m.drop (64 * n)).take 64 := by
      rw [List.drop_append_of_le_length (by omega), List.take_append_of_le_length (by rw [List.length_drop]; omega)]
    rw [sGo, sGo, e, ih (by omega)]
/-- What a hash under way holds, l being written: its words s, its block m. -/
def sState (l : List UInt8) (s : W8) (m : List UInt8) : Prop := m.length = 64 ∧ s = sGo l (l.length / 64) ∧ m.take (l.length % 64) = l.drop (64 * (l.length / 64))
/-- The block with x laid behind its first r bytes. -/
def sLay (m : List UInt8) (r : Nat) (x : List UInt8) : List UInt8 := m.take r ++ x ++ m.drop (r + x.length)
theorem sLay_len {m x : List UInt8} {r : Nat} (h : m.length = 64) (hx : r + x.length ≤ 64) : (sLay m r x).length = 64 := by
  simp [sLay, h]; omega
theorem sState_nil : sState [] sStart (List.replicate 64 0) := ⟨by simp, rfl, by simp⟩
theorem sState_part {l x m : List UInt8} {s : W8} (h : sState l s m) (hx : l.length % 64 + x.length < 64) : sState (l ++ x) s (sLay m (l.length % 64) x) := by
  obtain ⟨h1, h2, h3⟩ := h
  have e1 : (l ++ x).length / 64 = l.length / 64 := by rw [List.length_append]; omega
  have e2 : (l ++ x).length % 64 = l.length % 64 + x.length := by rw [List.length_append]; omega
  refine ⟨sLay_len h1 (by omega), ?_, ?_⟩
  · rw [e1, sGo_more _ _ _ (by omega)]; exact h2
  · rw [e1, e2, List.drop_append_of_le_length (by omega), ← h3]
    unfold sLay
    rw [List.take_append_of_le_length (by rw [List.length_append, List.length_take]; omega), List.take_of_length_le (by rw [List.length_append, List.length_take]; omega)]
theorem sState_full {l x m : List UInt8} {s : W8} (h : sState l s m) (hx : l.length % 64 + x.length = 64) : sState (l ++ x) (sBlock s (sLay m (l.length % 64) x)) (sLay m (l.length % 64) x) := by
  obtain ⟨h1, h2, h3⟩ := h
  have e1 : (l ++ x).length / 64 = l.length / 64 + 1 := by rw [List.length_append]; omega
  have e2 : (l ++ x).length % 64 = 0 := by rw [List.length_append]; omega
  have hl : sLay m (l.length % 64) x = (l ++ x).drop (64 * (l.length / 64)) := by
    unfold sLay
    rw [List.drop_append_of_le_length (by omega), ← h3, hx, List.drop_eq_nil_of_le (by omega), List.append_nil]
  refine ⟨sLay_len h1 (by omega), ?_, ?_⟩
  · rw [e1, sGo, sGo_more _ _ _ (by omega), ← h2]
    have h4 : (sLay m (l.length % 64) x).take 64 = sLay m (l.length % 64) x := List.take_of_length_le (by rw [sLay_len h1 (by omega)]; omega)
    rw [hl] at h4 ⊢
    rw [h4]
  · rw [e1, e2, List.take_zero, List.drop_eq_nil_of_le (by rw [List.length_append]; omega)]
/-- The number of bits, in eight bytes. -/
def sLen (n : Nat) : List UInt8 := [UInt8.ofNat (n * 8 / 72057594037927936), UInt8.ofNat (n * 8 / 281474976710656), UInt8.ofNat (n * 8 / 1099511627776), UInt8.ofNat (n * 8 / 4294967296), UInt8.ofNat (n * 8 / 16777216), UInt8.ofNat (n * 8 / 65536), UInt8.ofNat (n * 8 / 256), UInt8.ofNat (n * 8)]
def sZeros (n : Nat) : Nat := (119 - n % 64) % 64
def sEnd (n : Nat) : List UInt8 := (128 :: List.replicate (sZeros n) 0) ++ sLen n
theorem sEnd_len (n : Nat) : (sEnd n).length = sZeros n + 9 := by simp [sEnd, sLen]
theorem sZeros_lt (n : Nat) : sZeros n < 64 := Nat.mod_lt _ (by decide)
def sPad (l : List UInt8) : List UInt8 := l ++ sEnd l.length
/-- The words' bytes. -/
def sBs (s : BitVec 32) : List UInt8 := [UInt8.ofNat (s.toNat / 16777216), UInt8.ofNat (s.toNat / 65536), UInt8.ofNat (s.toNat / 256), UInt8.ofNat s.toNat]
def sOut (v : W8) : List UInt8 := v.list.flatMap sBs
theorem sOut_len (v : W8) : (sOut v).length = 32 := by simp [sOut, W8.list, sBs]
/-- The hash. -/
def sHash (l : List UInt8) : List UInt8 := sOut (sGo (sPad l) ((sPad l).length / 64))
theorem sHash_len (l : List UInt8) : (sHash l).length = 32 := sOut_len _
theorem sPad_len (l : List UInt8) : (sPad l).length = 64 * ((sPad l).length / 64) := by
  have h : (sPad l).length = l.length + (sZeros l.length + 9) := by rw [sPad, List.length_append, sEnd_len]
  rw [h]
  unfold sZeros
  omega
/-- At the end the words are the hash's. -/
theorem sState_out {l : List UInt8} {s : W8} {m : List UInt8} (h : sState (sPad l) s m) : sOut s = sHash l := by
  rw [h.2.1]
  rfl
/-- The first i words' bytes, and noughts. -/
def sOutTo (s : W8) (i : Nat) : List UInt8 := (sOut s).take (4 * i) ++ List.replicate (32 - 4 * i) 0
theorem sOutTo_at (s : W8) (i : Nat) (h : i < 8) : ∃ x, s.list[i]? = some x ∧
    ((((sOutTo s i).set (4 * i) (UInt8.ofNat (x.toNat / 16777216))).set (4 * i + 1) (UInt8.ofNat (x.toNat / 65536))).set (4 * i + 2) (UInt8.ofNat (x.toNat / 256))).set (4 * i + 3) (UInt8.ofNat x.toNat) = sOutTo s (i + 1) := by
  have : i = 0 ∨ i = 1 ∨ i = 2 ∨ i = 3 ∨ i = 4 ∨ i = 5 ∨ i = 6 ∨ i = 7 := by omega
  rcases this with rfl | rfl | rfl | rfl | rfl | rfl | rfl | rfl <;> exact ⟨_, rfl, rfl⟩
theorem sOutTo_len (s : W8) (i : Nat) (h : i ≤ 8) : (sOutTo s i).length = 32 := by
  simp [sOutTo, sOut_len]; omega
theorem sOutTo_zero (s : W8) : sOutTo s 0 = List.replicate 32 0 := rfl
theorem sOutTo_all (s : W8) : sOutTo s 8 = sOut s := by
  unfold sOutTo
  rw [List.take_of_length_le (by rw [sOut_len]; omega)]
  simp
theorem sMore_at (m : List UInt8) (n k : Nat) (h : k < 16 + n) : (sMore (sFirst m 16) n)[k]? = some ((sMore (sFirst m 16) n).getD k 0#32) := by
  have hk : k < (sMore (sFirst m 16) n).length := by rw [sMore_len, sFirst_len]; exact h
  rw [List.getElem?_eq_getElem hk, List.getD_eq_getElem?_getD, List.getElem?_eq_getElem hk]
  rfl
theorem cS3 (s : BitVec 32) : cV s / (8 : Int) = cV (s >>> 3) := cV_shr s 3
theorem cS10 (s : BitVec 32) : cV s / (1024 : Int) = cV (s >>> 10) := cV_shr s 10
theorem cOr_add (s : BitVec 32) (c : UInt8) : cV ((s <<< 8) ||| BitVec.ofNat 32 c.toNat) = cV s % 16777216 * 256 + (c.toNat : Int) := by
  have hc := c.toNat_lt
  have h1 : (s <<< 8).toNat = (s.toNat % 16777216) <<< 8 := by
    rw [BitVec.toNat_shiftLeft, Nat.shiftLeft_eq, Nat.shiftLeft_eq]
    omega
  unfold cV
  rw [BitVec.toNat_or, BitVec.toNat_ofNat, Nat.mod_eq_of_lt (a := c.toNat) (by omega), h1, ← Nat.shiftLeft_add_eq_or_of_lt (by omega : c.toNat < 2 ^ 8), Nat.shiftLeft_eq]
  omega
theorem sWord4 (x0 x1 x2 x3 : UInt8) : IntKind.u32.wrap (IntKind.u32.wrap (IntKind.u32.wrap (IntKind.u32.wrap (IntKind.u32.wrap (x0.toNat : Int) * 16777216) + IntKind.u32.wrap (IntKind.u32.wrap (x1.toNat : Int) * 65536)) + IntKind.u32.wrap (IntKind.u32.wrap (x2.toNat : Int) * 256)) + IntKind.u32.wrap (x3.toNat : Int)) = cV (sWord [x0, x1, x2, x3]) := by
  have h0 := x0.toNat_lt
  have h1 := x1.toNat_lt
  have h2 := x2.toNat_lt
  have h3 := x3.toNat_lt
  have hz : cV 0#32 = 0 := rfl
  simp only [sWord, List.foldl_cons, List.foldl_nil, cOr_add, hz, IntKind.wrap_u32]
  omega
theorem cTri_ref (s : BitVec 32) (i j k : Nat) : bits .xor .u32 (bits .xor .u32 (cV (sRot s i)) (cV (sRot s j))) (cV (sRot s k)) = cV (sTri s i j k) := by
  rw [cV_xor, cV_xor]; rfl
theorem cT1_ref (v : W8) (k w : BitVec 32) : (((cV v.h + bits .xor .u32 (bits .xor .u32 (cV (sRot v.e 6)) (cV (sRot v.e 11))) (cV (sRot v.e 25)) + bits .xor .u32 (bits .and .u32 (cV v.e) (cV v.f)) (bits .and .u32 (bits .xor .u32 (cV v.e) (4294967295 : Int)) (cV v.g)) + cV k) % (4294967296 : Int) + cV w) % (4294967296 : Int)) = cV (sT1 v k w) := by
  rw [cTri_ref, cNot_ref, cV_and, cV_and, cV_xor]
  unfold sT1
  rw [← cV_add, ← cV_add, ← cV_add, ← cV_add]
  simp
theorem cT2_ref (v : W8) : (bits .xor .u32 (bits .xor .u32 (cV (sRot v.a 2)) (cV (sRot v.a 13))) (cV (sRot v.a 22)) + bits .xor .u32 (bits .xor .u32 (bits .and .u32 (cV v.a) (cV v.b)) (bits .and .u32 (cV v.a) (cV v.c))) (bits .and .u32 (cV v.b) (cV v.c))) % (4294967296 : Int) = cV (sT2 v) := by
  rw [cTri_ref]
  exact cT2_code v
theorem sOut_at (s : W8) (i : Nat) (h : i < 32) : ∃ x, s.list[i / 4]? = some x ∧ (sOut s)[i]? = some (UInt8.ofNat (x.toNat / 2 ^ (24 - 8 * (i % 4)))) := by
  have : i = 0 ∨ i = 1 ∨ i = 2 ∨ i = 3 ∨ i = 4 ∨ i = 5 ∨ i = 6 ∨ i = 7 ∨ i = 8 ∨ i = 9 ∨ i = 10 ∨ i = 11 ∨ i = 12 ∨ i = 13 ∨ i = 14 ∨ i = 15 ∨ i = 16 ∨ i = 17 ∨ i = 18 ∨ i = 19 ∨ i = 20 ∨ i = 21 ∨ i = 22 ∨ i = 23 ∨ i = 24 ∨ i = 25 ∨ i = 26 ∨ i = 27 ∨ i = 28 ∨ i = 29 ∨ i = 30 ∨ i = 31 := by omega
  rcases this with rfl | rfl | rfl | rfl | rfl | rfl | rfl | rfl | rfl | rfl | rfl | rfl | rfl | rfl | rfl | rfl | rfl | rfl | rfl | rfl | rfl | rfl | rfl | rfl | rfl | rfl | rfl | rfl | rfl | rfl | rfl | rfl <;> first | exact ⟨_, rfl, rfl⟩ | exact ⟨_, rfl, (by show some (UInt8.ofNat (BitVec.toNat _)) = some (UInt8.ofNat (BitVec.toNat _ / 1)); rw [Nat.div_one]; try rfl)⟩
/-- The first i bytes, and noughts. -/
def sOutBy (s : W8) (i : Nat) : List UInt8 := (sOut s).take i ++ List.replicate (32 - i) 0
theorem sOutBy_len (s : W8) (i : Nat) (h : i ≤ 32) : (sOutBy s i).length = 32 := by
  simp [sOutBy, sOut_len]; omega
theorem sOutBy_next {s : W8} {i : Nat} {b : UInt8} (h : i < 32) (hb : (sOut s)[i]? = some b) : (sOutBy s i).set i b = sOutBy s (i + 1) := by
  have e : List.replicate (32 - i) (0 : UInt8) = 0 :: List.replicate (32 - (i + 1)) 0 := by
    have : 32 - i = (32 - (i + 1)) + 1 := by omega
    rw [this]; rfl
  have hl : ((sOut s).take i).length = i := by rw [List.length_take, sOut_len]; omega
  rw [sOutBy, sOutBy, e, List.set_append_right _ _ (by omega), hl, Nat.sub_self, List.take_add_one, hb, List.append_assoc]
  rfl
theorem sOutBy_zero (s : W8) : sOutBy s 0 = List.replicate 32 0 := rfl
theorem sOutBy_all (s : W8) : sOutBy s 32 = sOut s := by
  unfold sOutBy
  rw [List.take_of_length_le (by rw [sOut_len]; omega)]
  simp
end Go.Proofs.YtfmighjblppceaaDoor
