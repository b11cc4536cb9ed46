import Derived.Test.YtnpcinjdbeilkaaDoorXa
namespace Go.Proofs.YtnpcinjdbeilkaaDoor
open Go.RowKit Dw Period
set_option maxRecDepth 100000

theorem bit_of (a n : Nat) (h : a < 18446744073709551616) : (bits BinOp.and IntKind.u64 ((a : Int) / 2 ^ n) 1 == 1) = a.testBit n := by
  have e : (a : Int) / 2 ^ n = ((a / 2 ^ n : Nat) : Int) := by rw [Int.natCast_ediv]; norm_cast
  have hl : a / 2 ^ n < 18446744073709551616 := Nat.lt_of_le_of_lt (Nat.div_le_self _ _) h
  have e2 : bits BinOp.and IntKind.u64 ((a / 2 ^ n : Nat) : Int) 1 = ((a / 2 ^ n % 2 : Nat) : Int) := by
    have := u64_and_nat (a / 2 ^ n) 1 hl (by decide)
    rw [nat_mask1] at this
    exact this
  rw [e, e2, Nat.testBit_eq_decide_div_mod_eq]
  have h2 : a / 2 ^ n % 2 < 2 := Nat.mod_lt _ (by decide)
  generalize a / 2 ^ n % 2 = z at *
  match z, h2 with
  | 0, _ => rfl
  | 1, _ => rfl

theorem has_low (lo : Nat) (hi : Int) (n : Nat) (hn : n < 64) (h1 : lo < 18446744073709551616) (w : World) :
    Calls Tryd.prog 65 #[.agg #[.int .u64 (lo : Int), .int .u64 hi], .int .i64 (n : Int)] w fun e w' => e = .returned (.bool (lo.testBit n)) ∧ Below w.heap.size w w' := by
  have hq : (n : Int) / 64 = 0 := by omega
  have hr : (n : Int) % 64 = n := by omega
  have hb := bit_of lo n h1
  go_enter Tryd.func65, Tryd.ntmps65
  go_wp2
  go_ret
  exact ⟨rfl, (Below.refl _ _).alloc (Nat.le_refl _) _⟩
theorem has_high (lo : Int) (hi n q : Nat) (hn : n = 64 + q) (hq2 : q < 64) (h1 : hi < 18446744073709551616) (w : World) :
    Calls Tryd.prog 65 #[.agg #[.int .u64 lo, .int .u64 (hi : Int)], .int .i64 (n : Int)] w fun e w' => e = .returned (.bool (hi.testBit q)) ∧ Below w.heap.size w w' := by
  have hq : (n : Int) / 64 = 1 := by omega
  have hr : (n : Int) % 64 = q := by omega
  have hb := bit_of hi q h1
  clear hn
  go_enter Tryd.func65, Tryd.ntmps65
  go_wp2
  go_ret
  exact ⟨rfl, (Below.refl _ _).alloc (Nat.le_refl _) _⟩

theorem has_any (m n : Nat) (hm : m < 2 ^ 80) (hn : n < 80) (w : World) :
    Calls Tryd.prog 65 #[setv m, .int .i64 (n : Int)] w fun e w' => e = .returned (.bool (m.testBit n)) ∧ Below w.heap.size w w' := by
  have hh : m / 18446744073709551616 < 18446744073709551616 := by
    have : (2 : Nat) ^ 80 = 18446744073709551616 * 65536 := by decide
    omega
  by_cases h : n < 64
  · have e : m.testBit n = (m % 18446744073709551616).testBit n := by
      have := Nat.testBit_mod_two_pow m 64 n
      rw [show (2 : Nat) ^ 64 = 18446744073709551616 from by decide] at this
      rw [this]; simp [h]
    rw [e]
    exact has_low _ _ n h (Nat.mod_lt _ (by decide)) w
  · have e : m.testBit n = (m / 18446744073709551616).testBit (n - 64) := by
      have := Nat.testBit_div_two_pow (n := 64) m (n - 64)
      rw [show (2 : Nat) ^ 64 = 18446744073709551616 from by decide] at this
      rw [this]; congr 1; omega
    rw [e]
    exact has_high _ _ n (n - 64) (by omega) (by omega) hh w

theorem or_of (a n : Nat) (h : a < 18446744073709551616) (hn : n < 64) : bits BinOp.or IntKind.u64 (a : Int) (IntKind.u64.wrap (2 ^ n)) = ((a ||| 2 ^ n : Nat) : Int) := by
  have hp : (2 : Nat) ^ n < 2 ^ 64 := Nat.pow_lt_pow_right (by omega) hn
  have e : IntKind.u64.wrap (2 ^ n) = ((2 ^ n : Nat) : Int) := by
    rw [IntKind.wrap_u64]
    have : ((2 : Int) ^ n) = ((2 ^ n : Nat) : Int) := by norm_cast
    rw [this]
    generalize (2 : Nat) ^ n = z at *
    omega
  rw [e, u64_or_nat a (2 ^ n) h (by simpa using hp)]

theorem with_low (lo : Nat) (hi : Int) (n : Nat) (hn : n < 64) (h1 : lo < 18446744073709551616) (w : World) :
    Calls Tryd.prog 66 #[.agg #[.int .u64 (lo : Int), .int .u64 hi], .int .i64 (n : Int)] w fun e w' => e = .returned (.agg #[.int .u64 ((lo ||| 2 ^ n : Nat) : Int), .int .u64 hi]) ∧ Below w.heap.size w w' := by
  have hq : (n : Int) / 64 = 0 := by omega
  have hr : (n : Int) % 64 = n := by omega
  have ho := or_of lo n h1 hn
  go_enter Tryd.func66, Tryd.ntmps66
  go_wp2
  go_region
  all_goals go_wp2
  exact bodyPost_ret (v := .agg #[.int .u64 ((lo ||| 2 ^ n : Nat) : Int), .int .u64 hi]) (by simp [results, Tryd.results66, go_sem]) rfl ⟨rfl, (((Below.refl _ _).alloc (Nat.le_refl _) _).alloc (by simp) _).drew⟩
theorem with_high (lo : Int) (hi n q : Nat) (hn : n = 64 + q) (hq2 : q < 64) (h1 : hi < 18446744073709551616) (w : World) :
    Calls Tryd.prog 66 #[.agg #[.int .u64 lo, .int .u64 (hi : Int)], .int .i64 (n : Int)] w fun e w' => e = .returned (.agg #[.int .u64 lo, .int .u64 ((hi ||| 2 ^ q : Nat) : Int)]) ∧ Below w.heap.size w w' := by
  have hq : (n : Int) / 64 = 1 := by omega
  have hr : (n : Int) % 64 = q := by omega
  have ho := or_of hi q h1 hq2
  clear hn
  go_enter Tryd.func66, Tryd.ntmps66
  go_wp2
  go_region
  all_goals go_wp2
  exact bodyPost_ret (v := .agg #[.int .u64 lo, .int .u64 ((hi ||| 2 ^ q : Nat) : Int)]) (by simp [results, Tryd.results66, go_sem]) rfl ⟨rfl, (((Below.refl _ _).alloc (Nat.le_refl _) _).alloc (by simp) _).drew⟩

theorem with_any (m n : Nat) (hm : m < 2 ^ 80) (hn : n < 80) (w : World) :
    Calls Tryd.prog 66 #[setv m, .int .i64 (n : Int)] w fun e w' => e = .returned (setv (m ||| 2 ^ n)) ∧ Below w.heap.size w w' := by
  have hh : m / 18446744073709551616 < 18446744073709551616 := by
    have : (2 : Nat) ^ 80 = 18446744073709551616 * 65536 := by decide
    omega
  by_cases h : n < 64
  · have e : setv (m ||| 2 ^ n) = .agg #[.int .u64 ((m % 18446744073709551616 ||| 2 ^ n : Nat) : Int), .int .u64 ((m / 18446744073709551616 : Nat) : Int)] := by
      unfold setv
      have e1 : (m ||| 2 ^ n) % 18446744073709551616 = m % 18446744073709551616 ||| 2 ^ n := by
        have := Nat.or_mod_two_pow (a := m) (b := 2 ^ n) (n := 64)
        rw [show (2 : Nat) ^ 64 = 18446744073709551616 from by decide] at this
        rw [this, Nat.mod_eq_of_lt (a := 2 ^ n)]
        exact Nat.pow_lt_pow_right (a := 2) (n := 64) (by omega) h
      have e2 : (m ||| 2 ^ n) / 18446744073709551616 = m / 18446744073709551616 := by
        have := Nat.or_div_two_pow (a := m) (b := 2 ^ n) (n := 64)
        rw [show (2 : Nat) ^ 64 = 18446744073709551616 from by decide] at this
        rw [this, Nat.div_eq_of_lt (a := 2 ^ n), Nat.or_zero]
        exact Nat.pow_lt_pow_right (a := 2) (n := 64) (by omega) h
      rw [e1, e2]
    rw [e]
    exact with_low _ _ n h (Nat.mod_lt _ (by decide)) w
  · have hp : (2 : Nat) ^ n = 18446744073709551616 * 2 ^ (n - 64) := by
      rw [show (18446744073709551616 : Nat) = 2 ^ 64 from by decide, ← Nat.pow_add]; congr 1; omega
    have e : setv (m ||| 2 ^ n) = .agg #[.int .u64 ((m % 18446744073709551616 : Nat) : Int), .int .u64 ((m / 18446744073709551616 ||| 2 ^ (n - 64) : Nat) : Int)] := by
      unfold setv
      have e1 : (m ||| 2 ^ n) % 18446744073709551616 = m % 18446744073709551616 := by
        have := Nat.or_mod_two_pow (a := m) (b := 2 ^ n) (n := 64)
        rw [show (2 : Nat) ^ 64 = 18446744073709551616 from by decide] at this
        rw [this, hp, Nat.mul_mod_right, Nat.or_zero]
      have e2 : (m ||| 2 ^ n) / 18446744073709551616 = m / 18446744073709551616 ||| 2 ^ (n - 64) := by
        have := Nat.or_div_two_pow (a := m) (b := 2 ^ n) (n := 64)
        rw [show (2 : Nat) ^ 64 = 18446744073709551616 from by decide] at this
        rw [this, hp, Nat.mul_div_cancel_left _ (by decide)]
      rw [e1, e2]
    rw [e]
    exact with_high _ _ n (n - 64) (by omega) (by omega) hh w
end Go.Proofs.YtnpcinjdbeilkaaDoor
