import Derived.Test.YtnpcinjdbeilkaaDoorRows
import Derived.Test.YtnpcinjdbeilkaaDoorGen
namespace Go.Proofs.YtnpcinjdbeilkaaDoor
open Go.RowKit Dw Period
set_option maxRecDepth 100000

theorem turn_any (x : Nat) (hx : x < 4294967296) (w : World) :
    Calls Tryd.prog 67 #[.int .i64 (x : Int)] w fun e w' => e = .returned (.int .i64 (turn x : Nat)) ∧ w' = w := by
  obtain ⟨a, ea⟩ : ∃ a, a = x ^^^ (x * 8192 % 4294967296) := ⟨_, rfl⟩
  obtain ⟨b, eb⟩ : ∃ b, b = a ^^^ (a / 131072) := ⟨_, rfl⟩
  have ha : a < 4294967296 := by rw [ea]; exact Nat.xor_lt_two_pow (n := 32) hx (Nat.mod_lt _ (by decide))
  have hb : b < 4294967296 := by rw [eb]; exact Nat.xor_lt_two_pow (n := 32) ha (Nat.lt_of_le_of_lt (Nat.div_le_self _ _) ha)
  have h1 : bits .xor .i64 (x : Int) ((x : Int) * 8192 % 4294967296) = (a : Int) := by
    have c : ((x * 8192 % 4294967296 : Nat) : Int) = (x : Int) * 8192 % 4294967296 := by omega
    rw [ea, ← i64_xor x (x * 8192 % 4294967296) (by omega) (by omega), c]
  have h2 : bits .xor .i64 (a : Int) ((a : Int) / 131072) = (b : Int) := by
    have c : ((a / 131072 : Nat) : Int) = (a : Int) / 131072 := by omega
    rw [eb, ← i64_xor a (a / 131072) (by omega) (by omega), c]
  have h3 : bits .xor .i64 (b : Int) ((b : Int) * 32 % 4294967296) = ((turn x : Nat) : Int) := by
    have : turn x = b ^^^ (b * 32 % 4294967296) := by rw [eb, ea]; rfl
    have c : ((b * 32 % 4294967296 : Nat) : Int) = (b : Int) * 32 % 4294967296 := by omega
    rw [this, ← i64_xor b (b * 32 % 4294967296) (by omega) (by omega), c]
  clear ea eb
  go_enter Tryd.func67, Tryd.ntmps67
  go_wp2
  go_ret
  exact ⟨rfl, rfl⟩

theorem cdiv (k : Nat) : ((65536 / k : Nat) : Int) = (65536 : Int) / (k : Int) := Int.natCast_ediv 65536 k
theorem rweight_any (d k : Nat) (hd : 1 ≤ d) (hd2 : d ≤ 80) (hk : 1 ≤ k) (hk2 : k ≤ 80) (w : World) :
    Calls Tryd.prog 68 #[.int .i64 (d : Int), .int .i64 (k : Int)] w fun e w' => e = .returned (.int .i64 (wt d k : Nat)) ∧ w' = w := by
  by_cases h : d = 1
  · subst h
    have hc := cdiv k
    have hq : (65536 : Int) / (k : Int) ≤ 65536 := by have := Nat.div_le_self 65536 k; omega
    have hq0 : 0 ≤ (65536 : Int) / (k : Int) := Int.ediv_nonneg (by decide) (by omega)
    have e : ((65536 / k + 4096 : Nat) : Int) = (65536 : Int) / (k : Int) + 4096 := by omega
    clear hc
    go_enter Tryd.func68, Tryd.ntmps68
    go_wp2
    go_ret
    exact ⟨ret_int (by show _ = ((wt 1 k : Nat) : Int); unfold wt; rw [if_pos rfl, e]), rfl⟩
  · obtain ⟨m, hm⟩ : ∃ m, m = d * (d - 1) := ⟨_, rfl⟩
    have hmi : (d : Int) * ((d : Int) - 1) = (m : Int) := by
      rw [hm]; have : ((d - 1 : Nat) : Int) = (d : Int) - 1 := by omega
      rw [← this]; norm_cast
    have h3 : m ≤ 80 * 79 := by rw [hm]; exact Nat.mul_le_mul hd2 (by omega)
    have h4 : 2 * 1 ≤ m := by rw [hm]; exact Nat.mul_le_mul (by omega) (by omega)
    have hc := cdiv m
    have hq : (65536 : Int) / (m : Int) ≤ 65536 := by have := Nat.div_le_self 65536 m; omega
    have hq0 : 0 ≤ (65536 : Int) / (m : Int) := Int.ediv_nonneg (by decide) (by omega)
    have hne : ((d : Int) == 1) = false := by simp; omega
    have e : ((wt d k : Nat) : Int) = (65536 : Int) / (m : Int) := by unfold wt; rw [if_neg h, ← hm, hc]
    have E : Hid (((wt d k : Nat) : Int) = (65536 : Int) / (m : Int)) := e
    clear hm h hc e
    go_enter Tryd.func68, Tryd.ntmps68
    go_wp2
    go_ret
    exact ⟨ret_int E.out.symm, rfl⟩
end Go.Proofs.YtnpcinjdbeilkaaDoor
