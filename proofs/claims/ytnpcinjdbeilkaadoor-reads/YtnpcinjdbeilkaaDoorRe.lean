/-
  Pieces of a drop: plain.
-/
import Derived.Test.YtnpcinjdbeilkaaDoorRd
namespace Go.Proofs.YtnpcinjdbeilkaaDoor.Dw
open Period

theorem crc_extract (s : ByteArray) (n : Nat) (h : n ≤ s.size) : crc (s.extract 0 n) (s.extract 0 n).size = crc s n := by
  have hs : (s.extract 0 n).size = n := by simp; omega
  rw [hs]
  apply crc_congr
  intro i hi
  unfold byteAt
  rw [dif_pos (by omega), dif_pos (by omega)]
  simp [ByteArray.getElem_extract]
theorem byteAt_extract (s : ByteArray) (a b i : Nat) (hb : b ≤ s.size) (hi : a + i < b) : byteAt (s.extract a b) i = byteAt s (a + i) := by
  unfold byteAt
  rw [dif_pos (by simp; omega), dif_pos (by omega)]
  simp [ByteArray.getElem_extract]
end Go.Proofs.YtnpcinjdbeilkaaDoor.Dw
