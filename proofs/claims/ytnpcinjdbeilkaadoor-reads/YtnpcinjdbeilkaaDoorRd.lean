/-
  WHAT A DROP SAYS (P5), plain: the place at which it breaks off, or none.
-/
import Derived.Test.YtnpcinjdbeilkaaDoorBytes
namespace Go.Proofs.YtnpcinjdbeilkaaDoor.Dw
open Period

open Classical in
/-- the blocks of drop id out of k, as bits -/
noncomputable def maskOf (k id : Nat) : Nat := if h : ∃ m, Drawn k id m ∧ m < 2 ^ k ∧ 1 ≤ (lst m k).length then Classical.choose h else 0
theorem maskOf_spec (k id : Nat) (hk : 1 ≤ k) (hk2 : k ≤ 80) (hid : id ≤ 65535) : Drawn k id (maskOf k id) ∧ maskOf k id < 2 ^ k ∧ 1 ≤ (lst (maskOf k id) k).length := by
  have h := drawn_ex k id hk hk2 hid
  unfold maskOf
  rw [dif_pos h]
  exact Classical.choose_spec h

def rid (s : ByteArray) : Nat := 256 * byteAt s 0 + byteAt s 1
def rlen (s : ByteArray) : Nat := 256 * byteAt s 2 + byteAt s 3
def rsz (s : ByteArray) : Nat := byteAt s 4
theorem rid_le (s : ByteArray) : rid s ≤ 65535 := by
  unfold rid; have := byteAt_lt s 0; have := byteAt_lt s 1; omega
theorem rlen_le (s : ByteArray) : rlen s ≤ 65535 := by
  unfold rlen; have := byteAt_lt s 2; have := byteAt_lt s 3; omega
theorem rsz_le (s : ByteArray) : rsz s ≤ 255 := by
  unfold rsz; have := byteAt_lt s 4; omega
/-- how many bytes of the last block are the text's -/
def endOf (len size : Nat) : Nat := len - (cnt len size - 1) * size
/-- is the last block the only one? -/
noncomputable def lone (s : ByteArray) : Prop := lst (maskOf (cnt (rlen s) (rsz s)) (rid s)) (cnt (rlen s) (rsz s)) = [cnt (rlen s) (rsz s) - 1]
/-- the first byte from p on, below q, that is not 0 -/
def firstNZ (s : ByteArray) (p : Nat) : Nat → Option Nat
  | 0 => none
  | n + 1 => if byteAt s (5 + p) ≠ 0 then some (5 + p) else firstNZ s (p + 1) n

theorem crc_congr (s t : ByteArray) (n : Nat) (h : ∀ i, i < n → byteAt s i = byteAt t i) : crc s n = crc t n := by
  induction n with
  | zero => rfl
  | succ n ih => simp only [crc]; rw [ih (fun i hi => h i (by omega)), h n (by omega)]

open Classical in
/-- the place at which it breaks off -/
noncomputable def breaks (s : ByteArray) : Option Nat :=
  if s.size < 5 then some s.size
  else if rlen s = 0 ∨ 400 < rlen s then some 2
  else if rsz s = 0 ∨ 16 < rsz s ∨ 80 < cnt (rlen s) (rsz s) then some 4
  else if s.size < rsz s + 7 then some s.size
  else if rsz s + 7 < s.size then some (rsz s + 7)
  else if 256 * byteAt s (rsz s + 5) + byteAt s (rsz s + 6) ≠ crc s (rsz s + 5) then some (rsz s + 5)
  else if lone s then firstNZ s (endOf (rlen s) (rsz s)) (rsz s - endOf (rlen s) (rsz s))
  else none
end Go.Proofs.YtnpcinjdbeilkaaDoor.Dw
