/-
  The program's Read, walked from below: block.Stray.
-/
import Derived.Test.YtnpcinjdbeilkaaDoorHe
import Derived.Test.YtnpcinjdbeilkaaDoorCs
namespace Go.Proofs.YtnpcinjdbeilkaaDoor
open Go.RowKit Dw Period
set_option maxRecDepth 100000
set_option linter.unusedVariables false

theorem Tryd.eqSet (a b c d : Int) (w : World) : (Op.equalIn 10000 70 (.agg #[.int .u64 a, .int .u64 b]) (.agg #[.int .u64 c, .int .u64 d])).run Tryd.prog w = .ok (a == c && b == d) w := by
  have u3 := Tryd.underlying68
  have a3 := Tryd.isAgg68
  have z3 := Tryd.sizeOf68
  rw [show (10000 : Nat) = 9999 + 1 from rfl, Op.equalIn]
  simp only [Sem.run_bind, run_underlying Tryd.underlying70, Result.andThen_ok]
  simp only [Std.Legacy.Range.forIn_eq_forIn_range', Std.Legacy.Range.size, Nat.sub_zero, Nat.add_sub_cancel, Nat.div_one, List.range'_succ, List.range'_zero, List.forIn_cons, List.forIn_nil]
  go_simp
  by_cases h1 : a = c <;> by_cases h2 : b = d <;> simp [h1, h2]

theorem set_ne {m x : Nat} (h : m ≠ x) : ((((lo m : Nat) : Int) == ((lo x : Nat) : Int)) && (((hi m : Nat) : Int) == ((hi x : Nat) : Int))) = false := by
  cases hb : ((((lo m : Nat) : Int) == ((lo x : Nat) : Int)) && (((hi m : Nat) : Int) == ((hi x : Nat) : Int))) with
  | false => rfl
  | true =>
    exfalso
    simp only [Bool.and_eq_true, beq_iff_eq] at hb
    apply h; unfold lo hi at hb; omega

/-- the first place from p on, n of them, at which there is not 0 -/
def firstN (f : Nat → Nat) (p : Nat) : Nat → Option Nat
  | 0 => none
  | n + 1 => if f p ≠ 0 then some p else firstN f (p + 1) n
def strayV : Option Nat → Value
  | none => .tuple #[.int .i64 0, .bool false]
  | some j => .tuple #[.int .i64 (j : Nat), .bool true]

set_option maxHeartbeats 1000000 in
theorem stray_no (len size m : Nat) (f : Nat → Nat) (hl1 : 1 ≤ len) (hl2 : len ≤ 400) (hz1 : 1 ≤ size) (hz2 : size ≤ 16) (hk : cnt len size ≤ 80)
    (hne : m ≠ 2 ^ (cnt len size - 1)) (w : World) :
    Calls Tryd.prog 72 #[.int .i64 (len : Int), .int .i64 (size : Int), .agg #[.int .u64 (lo m : Nat), .int .u64 (hi m : Nat)], .agg (dcells f)] w fun e w' => e = .returned (strayV none) ∧ Below w.heap.size w w' := by
  have hK1 : 1 ≤ cnt len size := cnt_pos _ _ hz1 hl1
  obtain ⟨K, hKe⟩ : ∃ K, K = cnt len size := ⟨_, rfl⟩
  have HKE : Hid (cnt len size = K) := hKe.symm
  rw [← hKe] at hK1 hk hne
  clear hKe
  obtain ⟨q, hq⟩ : ∃ q, q = K - 1 := ⟨_, rfl⟩
  have iq : (K : Int) - 1 = (q : Int) := by omega
  rw [← hq] at hne
  have hq80 : q < 80 := by omega
  clear hq
  have he := Tryd.eqSet
  have hd := set_ne hne
  clear hne
  go_enter Tryd.func72, Tryd.ntmps72
  go_wp2_with (go_at_call 45; refine (count_any len size hl2 hz1 hz2 _).mono ?_; rintro e w' ⟨rfl, hw'⟩; obtain rfl := hw'.symm; rw [HKE.out])
  go_region_with (go_at_call 53; refine (one_any q hq80 _).mono ?_; rintro e w1 ⟨rfl, hb1⟩; obtain ⟨hcc, hff⟩ := bcell hb1; have HO : Hid (Below w.heap.size w w1) := Below.trans (by go_grown; all_goals (try (refine below_drewN ?_ _; go_grown))) (hb1.mono (by simp <;> omega)); clear hb1)
  all_goals
    go_wp2
    go_ret2
    exact ⟨rfl, by have := HO.out; go_grown⟩

theorem endOf_le (len size : Nat) (hs : 0 < size) (hl : 0 < len) : endOf len size ≤ size ∧ (cnt len size - 1) * size + endOf len size = len := by
  have h := cnt_last len size hs hl
  have h1 := cnt_pos len size hs hl
  unfold endOf
  have e : cnt len size * size = (cnt len size - 1) * size + size := by
    obtain ⟨k, hk⟩ : ∃ k, cnt len size = k + 1 := ⟨cnt len size - 1, by omega⟩
    rw [hk, Nat.add_sub_cancel, Nat.succ_mul]
  omega

set_option maxHeartbeats 2000000 in
theorem stray_lone (len size : Nat) (f : Nat → Nat) (hl1 : 1 ≤ len) (hl2 : len ≤ 400) (hz1 : 1 ≤ size) (hz2 : size ≤ 16) (hk : cnt len size ≤ 80) (hf : ∀ i, f i < 256) (w : World) :
    Calls Tryd.prog 72 #[.int .i64 (len : Int), .int .i64 (size : Int), .agg #[.int .u64 (lo (2 ^ (cnt len size - 1)) : Nat), .int .u64 (hi (2 ^ (cnt len size - 1)) : Nat)], .agg (dcells f)] w fun e w' => e = .returned (strayV (firstN f (endOf len size) (size - endOf len size))) ∧ Below w.heap.size w w' := by
  have hK1 : 1 ≤ cnt len size := cnt_pos _ _ hz1 hl1
  obtain ⟨hee, hep⟩ := endOf_le len size hz1 hl1
  obtain ⟨ed, hed⟩ : ∃ ed, ed = endOf len size := ⟨_, rfl⟩
  obtain ⟨K, hKe⟩ : ∃ K, K = cnt len size := ⟨_, rfl⟩
  have HKE : Hid (cnt len size = K) := hKe.symm
  rw [← hKe] at hK1 hk hep ⊢
  rw [← hed] at hee hep ⊢
  clear hKe hed
  obtain ⟨q, hq⟩ : ∃ q, q = K - 1 := ⟨_, rfl⟩
  have iq : (K : Int) - 1 = (q : Int) := by omega
  rw [← hq] at hep ⊢
  have hq80 : q < 80 := by omega
  clear hq
  obtain ⟨pr, hpr⟩ : ∃ pr, pr = q * size := ⟨_, rfl⟩
  have ipr : (q : Int) * (size : Int) = (pr : Int) := by rw [hpr]; norm_cast
  rw [← hpr] at hep
  clear hpr
  have ied : (len : Int) - (pr : Int) = (ed : Int) := by omega
  have hprl : pr ≤ 400 := by omega
  clear hep
  have he := Tryd.eqSet
  obtain ⟨l, hl⟩ : ∃ l, l = lo (2 ^ q) := ⟨_, rfl⟩
  obtain ⟨h, hh⟩ : ∃ h, h = hi (2 ^ q) := ⟨_, rfl⟩
  have key : ∀ W : World, Calls Tryd.prog 53 #[.int .i64 (q : Int)] W fun e w' => e = .returned (.agg #[.int .u64 (l : Int), .int .u64 (h : Int)]) ∧ Below W.heap.size W w' := by
    rw [hl, hh]; exact one_any q hq80
  rw [← hl, ← hh]
  clear hl hh
  go_enter Tryd.func72, Tryd.ntmps72
  go_wp2_with (go_at_call 45; refine (count_any len size hl2 hz1 hz2 _).mono ?_; rintro e w' ⟨rfl, hw'⟩; obtain rfl := hw'.symm; rw [HKE.out])
  go_region_with (go_at_call 53; refine (key _).mono ?_; rintro e w1 ⟨rfl, hb1⟩; obtain ⟨hcc, hff⟩ := bcell hb1; have HO : Hid (Below w.heap.size w w1) := Below.trans (by go_grown; all_goals (try (refine below_drewN ?_ _; go_grown))) (hb1.mono (by simp <;> omega)); have hdat : ∀ p : Nat, p < 16 → w1.cell? ⟨w.heap.size + 1, p, none⟩ = some (.int .u8 (f p : Nat)) := fun p hp => (hcc (w.heap.size + 1) p (by simp <;> omega)).trans (by rw [← dcells_get f p hp]; simp); have k0 : w1.cell? ⟨w.heap.size, 0, none⟩ = some (.int .u64 (l : Int)) := (hcc w.heap.size 0 (by simp <;> omega)).trans (by simp); have k1 : w1.cell? ⟨w.heap.size, 1, none⟩ = some (.int .u64 (h : Int)) := (hcc w.heap.size 1 (by simp <;> omega)).trans (by simp); clear hb1 hcc hff)
  all_goals
    go_wp2
    go_loop [11] (fun i => ∃ p : Nat, ed ≤ p ∧ p ≤ size ∧ i = .int .i64 (p : Int) ∧ Hid (firstN f ed (size - ed) = firstN f p (size - p))) (fun i => size - (intOf i).toNat)
    case atStart => exact ⟨ed, Nat.le_refl _, hee, rfl, rfl⟩
    case round =>
      obtain ⟨p, hp1, hp2, rfl, HF⟩ := hrel
      by_cases hlt : p < size
      · have hc := hdat p (by omega)
        have hb := hf p
        by_cases h0 : f p = 0
        · have hd0 : (((f p : Nat) : Int) != 0) = false := by simp [h0]
          have HN : Hid (firstN f p (size - p) = firstN f (p + 1) (size - (p + 1))) := by
            show _ = _
            rw [show size - p = (size - (p + 1)) + 1 by omega]
            simp [firstN, h0]
          clear h0
          go_wp2
          go_round
          case rel => exact ⟨p + 1, by omega, by omega, by go_num, HF.out.trans HN.out⟩
          case measure => simp [intOf]; omega
        · have hd0 : (((f p : Nat) : Int) != 0) = true := by simp [h0]
          have HN : Hid (firstN f p (size - p) = some p) := by
            show _ = _
            rw [show size - p = (size - (p + 1)) + 1 by omega]
            simp [firstN, h0]
          clear h0
          go_wp2
          go_ret2
          exact ⟨by rw [HF.out, HN.out]; rfl, by have := HO.out; go_grown⟩
      · have hpe : p = size := by omega
        subst hpe
        have HN : Hid (firstN f p (p - p) = none) := by show _ = _; rw [Nat.sub_self]; rfl
        go_wp2
        go_ret2
        exact ⟨by rw [HF.out, HN.out]; rfl, by have := HO.out; go_grown⟩
end Go.Proofs.YtnpcinjdbeilkaaDoor
