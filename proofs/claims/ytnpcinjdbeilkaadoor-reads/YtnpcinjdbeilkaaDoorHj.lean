/-
  The program's Read: wire.Read, every drop.
-/
import Derived.Test.YtnpcinjdbeilkaaDoorHi
namespace Go.Proofs.YtnpcinjdbeilkaaDoor
open Go.RowKit Dw Period
set_option maxRecDepth 100000
set_option linter.unusedVariables false

theorem lst_one {m k : Nat} (hk : 1 ≤ k) (hm : m < 2 ^ k) : lst m k = [k - 1] ↔ m = 2 ^ (k - 1) := by
  constructor
  · intro h
    apply Nat.eq_of_testBit_eq
    intro i
    rw [Nat.testBit_two_pow]
    by_cases hi : i < k
    · have := lst_mem m k i
      rw [h] at this
      simp at this
      by_cases e : k - 1 = i
      · simp only [e, decide_true]
        exact (this.1 (by omega)).2
      · simp only [e, decide_false]
        cases hb : m.testBit i with
        | false => rfl
        | true => exact absurd (this.2 ⟨hi, hb⟩) (by omega)
    · have e : ¬ k - 1 = i := by omega
      simp only [e, decide_false]
      exact Nat.testBit_lt_two_pow (Nat.lt_of_lt_of_le hm (Nat.pow_le_pow_right (by omega) (by omega)))
  · rintro rfl
    unfold lst
    obtain ⟨n, rfl⟩ : ∃ n, k = n + 1 := ⟨k - 1, by omega⟩
    rw [List.range_succ, List.filter_append]
    have h1 : (List.range n).filter (fun i => (2 ^ (n + 1 - 1)).testBit i) = [] := by
      rw [List.filter_eq_nil_iff]
      intro i hi
      simp [Nat.testBit_two_pow] at hi ⊢
      omega
    rw [h1]
    simp
theorem firstNZ_eq (s d : ByteArray) (S : Nat) (h : ∀ i, i < S → byteAt d i = byteAt s (5 + i)) : ∀ n p, p + n ≤ S → firstNZ s p n = (firstN (byteAt d) p n).map (5 + ·)
  | 0, p, _ => rfl
  | n + 1, p, hp => by
    simp only [firstNZ, firstN]
    rw [h p (by omega)]
    split
    · rfl
    · exact firstNZ_eq s d S h n (p + 1) (by omega)
theorem firstN_le (f : Nat → Nat) : ∀ n p j, firstN f p n = some j → j < p + n
  | 0, p, j, h => by simp [firstN] at h
  | n + 1, p, j, h => by
    simp only [firstN] at h
    split at h
    · injection h with h; omega
    · have := firstN_le f n (p + 1) j h; omega

/-- what wire.Read answers -/
def wreadIs (s : ByteArray) (e : Ending) : Prop :=
  (∃ p c, breaks s = some p ∧ e = .returned (.tuple #[noParts, .iface 99 (.agg #[.int .i64 (p : Nat), .iface 205 (.pointer (some c))])])) ∨
  (breaks s = none ∧ e = .returned (.tuple #[.agg #[.int .i64 (rid s : Nat), .int .i64 (rlen s : Nat), .int .i64 (rsz s : Nat), .int .u64 (lo (maskOf (cnt (rlen s) (rsz s)) (rid s)) : Nat), .int .u64 (hi (maskOf (cnt (rlen s) (rsz s)) (rid s)) : Nat), .string (s.extract 5 (rsz s + 5))], .nilIface]))

theorem wread_any (a : Nat → Addr) (s : ByteArray) (hs : s.size ≤ maxLen) (w : World) (hw : Laid a w) :
    Calls Tryd.prog 27 #[.string s] w fun e w' => wreadIs s e ∧ Below w.heap.size w w' := by
  by_cases h5 : s.size < 5
  · refine (wread_short a s h5 w hw).mono ?_
    rintro e w' ⟨rfl, hb⟩
    exact ⟨.inl ⟨s.size, a 0, by unfold breaks; rw [if_pos h5], rfl⟩, hb⟩
  by_cases h1 : rlen s = 0 ∨ 400 < rlen s
  · refine (wread_head a s hs (by omega) 2 (a 1) w hw (fun W hW => checkhead_len a (rid s) (rlen s) (rsz s) h1 (rlen_le s) W hW)).mono ?_
    rintro e w' ⟨rfl, hb⟩
    exact ⟨.inl ⟨2, a 1, by unfold breaks; rw [if_neg h5, if_pos h1], rfl⟩, hb⟩
  by_cases h2 : rsz s = 0 ∨ 16 < rsz s ∨ 80 < cnt (rlen s) (rsz s)
  · refine (wread_head a s hs (by omega) 4 (a 2) w hw (fun W hW => checkhead_size a (rid s) (rlen s) (rsz s) (by omega) (by omega) h2 W hW)).mono ?_
    rintro e w' ⟨rfl, hb⟩
    exact ⟨.inl ⟨4, a 2, by unfold breaks; rw [if_neg h5, if_neg h1, if_pos h2], rfl⟩, hb⟩
  have hl1 : 1 ≤ rlen s := by omega
  have hl4 : rlen s ≤ 400 := by omega
  have hz1 : 1 ≤ rsz s := by omega
  have hz4 : rsz s ≤ 16 := by omega
  have hk2 : cnt (rlen s) (rsz s) ≤ 80 := by omega
  have hK1 : 1 ≤ cnt (rlen s) (rsz s) := cnt_pos _ _ hz1 hl1
  by_cases h3 : s.size ≠ rsz s + 7
  · refine (wread_end a s hs (by omega) hl1 hl4 hz1 hz4 hk2 ((min s.size (rsz s + 5 + 2) : Nat) : Int) (a 3) w hw (fun W hW => (checkend_len a s (rsz s + 5) (min s.size (rsz s + 5 + 2)) hs (by omega) (by omega) rfl W hW).mono ?_)).mono ?_
    · rintro e w' ⟨rfl, rfl⟩; exact ⟨rfl, Below.refl _ _⟩
    · rintro e w' ⟨rfl, hb⟩
      refine ⟨.inl ⟨min s.size (rsz s + 5 + 2), a 3, ?_, rfl⟩, hb⟩
      unfold breaks
      rw [if_neg h5, if_neg h1, if_neg h2]
      by_cases h4 : s.size < rsz s + 7
      · rw [if_pos h4]; congr 1; omega
      · rw [if_neg h4, if_pos (by omega)]; congr 1; omega
  have h3 : s.size = rsz s + 7 := by omega
  by_cases h4 : 256 * byteAt s (rsz s + 5) + byteAt s (rsz s + 6) ≠ crc s (rsz s + 5)
  · refine (wread_end a s hs (by omega) hl1 hl4 hz1 hz4 hk2 ((rsz s + 5 : Nat) : Int) (a 4) w hw (fun W hW => (checkend_sum a s (rsz s + 5) (by omega) (by omega) h4 W hW).mono ?_)).mono ?_
    · rintro e w' ⟨rfl, n, rfl⟩; exact ⟨rfl, below_drewN (Below.refl _ _) _⟩
    · rintro e w' ⟨rfl, hb⟩
      refine ⟨.inl ⟨rsz s + 5, a 4, ?_, rfl⟩, hb⟩
      unfold breaks
      rw [if_neg h5, if_neg h1, if_neg h2, if_neg (by omega), if_neg (by omega), if_pos h4]
  have h4 := Classical.not_not.1 h4
  have hms := maskOf_spec (cnt (rlen s) (rsz s)) (rid s) hK1 hk2 (rid_le s)
  have hds : (s.extract 5 (rsz s + 5)).size = rsz s := by simp; omega
  have hdb : ∀ i, i < rsz s → byteAt (s.extract 5 (rsz s + 5)) i = byteAt s (5 + i) := fun i hi => byteAt_extract s 5 (rsz s + 5) i (by omega) (by omega)
  have hbr1 : Dw.lone s → breaks s = firstNZ s (endOf (rlen s) (rsz s)) (rsz s - endOf (rlen s) (rsz s)) := fun hlo => by
    conv => lhs; unfold breaks
    rw [if_neg h5, if_neg h1, if_neg h2, if_neg (by omega), if_neg (by omega), if_neg (by rw [h4]; simp), if_pos hlo]
  have hbr2 : ¬ Dw.lone s → breaks s = none := fun hlo => by
    conv => lhs; unfold breaks
    rw [if_neg h5, if_neg h1, if_neg h2, if_neg (by omega), if_neg (by omega), if_neg (by rw [h4]; simp), if_neg hlo]
  have hend := endOf_le (rlen s) (rsz s) hz1 hl1
  by_cases hlo : Dw.lone s
  · have hm : maskOf (cnt (rlen s) (rsz s)) (rid s) = 2 ^ (cnt (rlen s) (rsz s) - 1) := (lst_one hK1 hms.2.1).1 hlo
    have hbr := hbr1 hlo
    rw [firstNZ_eq s _ (rsz s) hdb _ _ (by omega)] at hbr
    have hst := fun W => stray_lone (rlen s) (rsz s) (byteAt (s.extract 5 (rsz s + 5))) hl1 hl4 hz1 hz4 hk2 (byteAt_lt _) W
    rw [← hm] at hst
    cases hf : firstN (byteAt (s.extract 5 (rsz s + 5))) (endOf (rlen s) (rsz s)) (rsz s - endOf (rlen s) (rsz s)) with
    | none =>
      rw [hf] at hbr hst
      refine (wread_ok a s hl1 hl4 hz1 hz4 hk2 h3 h4 _ hms.1 w hw (fun W hW => checkdata_none (rid s) (rlen s) (rsz s) _ _ (by omega) hst W)).mono ?_
      rintro e w' ⟨rfl, hb⟩
      exact ⟨.inr ⟨hbr, rfl⟩, hb⟩
    | some j =>
      rw [hf] at hbr hst
      have hj := firstN_le _ _ _ _ hf
      refine (wread_stray a s hl1 hl4 hz1 hz4 hk2 h3 h4 _ hms.1 (5 + (j : Int)) (a 5) w hw (fun W hW => checkdata_some a (rid s) (rlen s) (rsz s) _ j (by omega) _ (by omega) hst W hW)).mono ?_
      rintro e w' ⟨rfl, hb⟩
      exact ⟨.inl ⟨5 + j, a 5, hbr, rfl⟩, hb⟩
  · have hbr := hbr2 hlo
    have hne : maskOf (cnt (rlen s) (rsz s)) (rid s) ≠ 2 ^ (cnt (rlen s) (rsz s) - 1) := fun h => hlo ((lst_one hK1 hms.2.1).2 h)
    have hst := fun W => stray_no (rlen s) (rsz s) _ (byteAt (s.extract 5 (rsz s + 5))) hl1 hl4 hz1 hz4 hk2 hne W
    refine (wread_ok a s hl1 hl4 hz1 hz4 hk2 h3 h4 _ hms.1 w hw (fun W hW => checkdata_none (rid s) (rlen s) (rsz s) _ _ (by omega) hst W)).mono ?_
    rintro e w' ⟨rfl, hb⟩
    exact ⟨.inr ⟨hbr, rfl⟩, hb⟩
end Go.Proofs.YtnpcinjdbeilkaaDoor
