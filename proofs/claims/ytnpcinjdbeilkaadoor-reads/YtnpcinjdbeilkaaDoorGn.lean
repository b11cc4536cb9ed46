/-
  The reference's Read, every drop.
-/
import Derived.Test.YtnpcinjdbeilkaaDoorGk
import Derived.Test.YtnpcinjdbeilkaaDoorGl
import Derived.Test.YtnpcinjdbeilkaaDoorGm
namespace Go.Proofs.YtnpcinjdbeilkaaDoor
open Go.RowKit Dw Period

theorem rread_any (s : ByteArray) (hs : s.size ≤ maxLen) (w : World) :
    Calls Tryd.prog 10 #[.string s] w fun e w' => e = .returned (readV s) ∧ Below w.heap.size w w' := by
  by_cases h5 : s.size < 5
  · exact rread_short s h5 w
  by_cases hf : 1 ≤ rlen s ∧ rlen s ≤ 400 ∧ 1 ≤ rsz s ∧ rsz s ≤ 16 ∧ cnt (rlen s) (rsz s) ≤ 80 ∧ s.size = rsz s + 7
  · obtain ⟨hl1, hl4, hz1, hz4, hk2, hsz⟩ := hf
    by_cases hc : 256 * byteAt s (rsz s + 5) + byteAt s (rsz s + 6) = crc s (rsz s + 5)
    · have hbr1 : Dw.lone s → breaks s = firstNZ s (endOf (rlen s) (rsz s)) (rsz s - endOf (rlen s) (rsz s)) := fun hlo => by
        conv => lhs; unfold breaks
        rw [if_neg h5, if_neg (by omega), if_neg (by omega), if_neg (by omega), if_neg (by omega), if_neg (by rw [hc]; simp), if_pos hlo]
      have hbr2 : ¬ Dw.lone s → breaks s = none := fun hlo => by
        conv => lhs; unfold breaks
        rw [if_neg h5, if_neg (by omega), if_neg (by omega), if_neg (by omega), if_neg (by omega), if_neg (by rw [hc]; simp), if_neg hlo]
      by_cases hlo : Dw.lone s
      · exact rread_lone s hl1 hl4 hz1 hz4 hk2 hsz hc (hbr1 hlo) hlo w
      · by_cases hlen : (lst (maskOf (cnt (rlen s) (rsz s)) (rid s)) (cnt (rlen s) (rsz s))).length = 1
        · obtain ⟨b0, hb0⟩ := List.length_eq_one_iff.1 hlen
          exact rread_other s hl1 hl4 hz1 hz4 hk2 hsz hc (hbr2 hlo) ⟨b0, hb0, fun e => hlo (by unfold Dw.lone; rw [hb0, e])⟩ w
        · exact rread_many s hl1 hl4 hz1 hz4 hk2 hsz hc (hbr2 hlo) hlen w
    · exact rread_sum s hl1 hl4 hz1 hz4 hk2 hsz hc w
  · exact rread_long s (by omega) hs hf w
end Go.Proofs.YtnpcinjdbeilkaaDoor
