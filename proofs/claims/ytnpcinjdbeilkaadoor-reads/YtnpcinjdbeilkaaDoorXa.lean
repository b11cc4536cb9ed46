import Derived.Test.YtnpcinjdbeilkaaDoorWa
namespace Go.Proofs.YtnpcinjdbeilkaaDoor
open Go.RowKit Dw Period
set_option maxRecDepth 100000

theorem start_any (k id : Nat) (hk : 1 ≤ k) (hk2 : k ≤ 80) (hid : id ≤ 65535) (w : World) :
    Calls Tryd.prog 61 #[.int .i64 (k : Int), .int .i64 (id : Int)] w fun e w' => e = .returned (.int .u32 (seed k id : Nat)) ∧ w' = w := by
  go_enter Tryd.func61, Tryd.ntmps61
  go_wp2
  go_ret
  exact ⟨ret_int (by unfold seed; omega), rfl⟩

theorem next_any (x : Nat) (hx : x < 4294967296) (b o : Nat) (w : World) (hc : w.cell? ⟨b, o, none⟩ = some (.int .u32 (x : Int))) (hf : w.frozen? ⟨b, o, none⟩ = false) :
    Calls Tryd.prog 62 #[.pointer (some ⟨b, o, none⟩)] w fun e w' => e = .returned (.int .u32 (turn x : Nat)) ∧ w' = w.setCell ⟨b, o, none⟩ (.int .u32 (turn x : Nat)) := by
  obtain ⟨a, ea⟩ : ∃ a, a = x ^^^ (x * 8192 % 4294967296) := ⟨_, rfl⟩
  obtain ⟨c, ec⟩ : ∃ c, c = a ^^^ (a / 131072) := ⟨_, rfl⟩
  have ha : a < 4294967296 := by rw [ea]; exact Nat.xor_lt_two_pow (n := 32) hx (Nat.mod_lt _ (by decide))
  have hb : c < 4294967296 := by rw [ec]; exact Nat.xor_lt_two_pow (n := 32) ha (Nat.lt_of_le_of_lt (Nat.div_le_self _ _) ha)
  have h1 : bits .xor .u32 (x : Int) ((x : Int) * 8192 % 4294967296) = (a : Int) := by
    have c : ((x * 8192 % 4294967296 : Nat) : Int) = (x : Int) * 8192 % 4294967296 := by omega
    rw [ea, ← u32_xor_nat x (x * 8192 % 4294967296) (by omega) (by omega), c]
  have h2 : bits .xor .u32 (a : Int) ((a : Int) / 131072) = (c : Int) := by
    have c : ((a / 131072 : Nat) : Int) = (a : Int) / 131072 := by omega
    rw [ec, ← u32_xor_nat a (a / 131072) (by omega) (by omega), c]
  have h3 : bits .xor .u32 (c : Int) ((c : Int) * 32 % 4294967296) = ((turn x : Nat) : Int) := by
    have e : turn x = c ^^^ (c * 32 % 4294967296) := by rw [ec, ea]; rfl
    have e2 : ((c * 32 % 4294967296 : Nat) : Int) = (c : Int) * 32 % 4294967296 := by omega
    rw [e, ← u32_xor_nat c (c * 32 % 4294967296) (by omega) (by omega), e2]
  clear ea ec
  go_enter Tryd.func62, Tryd.ntmps62
  go_wp2
  go_ret
  exact ⟨rfl, rfl⟩

theorem weight_any (d k : Nat) (hd : 1 ≤ d) (hd2 : d ≤ 80) (hk : 1 ≤ k) (hk2 : k ≤ 80) (w : World) :
    Calls Tryd.prog 83 #[.int .i64 (d : Int), .int .i64 (k : Int)] w fun e w' => e = .returned (.int .u32 (wt d k : Nat)) ∧ w' = w := by
  by_cases h : d = 1
  · subst h
    have hc := cdiv k
    have hq : (65536 : Int) / (k : Int) ≤ 65536 := by have := Nat.div_le_self 65536 k; omega
    have hq0 : 0 ≤ (65536 : Int) / (k : Int) := Int.ediv_nonneg (by decide) (by omega)
    have e : ((65536 / k + 4096 : Nat) : Int) = (65536 : Int) / (k : Int) + 4096 := by omega
    clear hc
    go_enter Tryd.func83, Tryd.ntmps83
    go_wp2
    go_ret
    exact ⟨ret_int (by show _ = ((wt 1 k : Nat) : Int); unfold wt; rw [if_pos rfl, e]), rfl⟩
  · obtain ⟨m, hm⟩ : ∃ m, m = d * (d - 1) := ⟨_, rfl⟩
    have hmi : (d : Int) * ((d : Int) - 1) = (m : Int) := by
      rw [hm]; have : ((d - 1 : Nat) : Int) = (d : Int) - 1 := by omega
      rw [← this]; norm_cast
    have h3 : m ≤ 80 * 79 := by rw [hm]; exact Nat.mul_le_mul hd2 (by omega)
    have h4 : 2 * 1 ≤ m := by rw [hm]; exact Nat.mul_le_mul (by omega) (by omega)
    have hc := cdiv m
    have hq : (65536 : Int) / (m : Int) ≤ 65536 := by have := Nat.div_le_self 65536 m; omega
    have hq0 : 0 ≤ (65536 : Int) / (m : Int) := Int.ediv_nonneg (by decide) (by omega)
    have hne : ((d : Int) == 1) = false := by simp; omega
    have e : ((wt d k : Nat) : Int) = (65536 : Int) / (m : Int) := by unfold wt; rw [if_neg h, ← hm, hc]
    have E : Hid (((wt d k : Nat) : Int) = (65536 : Int) / (m : Int)) := e
    clear hm h hc e
    go_enter Tryd.func83, Tryd.ntmps83
    go_wp2
    go_ret
    exact ⟨ret_int E.out.symm, rfl⟩

theorem tot_small' (k n : Nat) (hn : n ≤ 80) : tot k n ≤ 5570560 := by have := tot_le k n; omega

theorem total_any (k : Nat) (hk : 1 ≤ k) (hk2 : k ≤ 80) (w : World) :
    Calls Tryd.prog 64 #[.int .i64 (k : Int)] w fun e w' => e = .returned (.int .u32 (tot k k : Nat)) ∧ w' = w := by
  go_enter Tryd.func64, Tryd.ntmps64
  go_wp2
  go_loop [3, 4] (fun a i => ∃ n : Nat, n ≤ k ∧ i = .int .i64 ((n : Int) + 1) ∧ a = .int .u32 (tot k n : Nat)) (fun _ i => k + 1 - (intOf i).toNat)
  case atStart => exact ⟨0, by omega, rfl, rfl⟩
  case round =>
    obtain ⟨n, hn, rfl, rfl⟩ := hrel
    have htn := tot_small' k n (by omega)
    by_cases hlt : n < k
    · have hw := wt_le (n + 1) k
      go_wp2_with (go_at_call 83; refine (weight_any (n + 1) k (by omega) (by omega) hk hk2 _).mono ?_; rintro e w' ⟨rfl, rfl⟩)
      go_round
      case rel => exact ⟨n + 1, by omega, by go_num, by show _ = Value.int .u32 ((tot k n + wt (n + 1) k : Nat) : Int); go_num⟩
      case measure => simp [intOf]; omega
    · have hnk : n = k := by omega
      subst hnk
      go_wp2
      go_ret
      exact ⟨rfl, rfl⟩

theorem deg_le' {k r d m : Nat} (h : Deg k r d) (hm : m < d) : tot k m ≤ r :=
  Nat.le_trans (tot_mono k m (d - 1) (by omega)) h.2.2.1

theorem degree_any (k r d : Nat) (hk : 1 ≤ k) (hk2 : k ≤ 80) (hd : Deg k r d) (w : World) :
    Calls Tryd.prog 63 #[.int .i64 (k : Int), .int .u32 (r : Int)] w fun e w' => e = .returned (.int .i64 (d : Int)) ∧ w' = w := by
  have hd0 := hd.1
  have hdk := hd.2.1
  have hd2 := hd.2.2.2
  have HD : Hid (Deg k r d) := hd
  clear hd
  have H1 : Hid (tot k 1 = wt 1 k) := by show _ = _; simp [tot]
  go_enter Tryd.func63, Tryd.ntmps63
  go_wp2_with (go_at_call 83; refine (weight_any 1 k (by omega) (by omega) hk hk2 _).mono ?_; rintro e w' ⟨rfl, rfl⟩)
  go_loop [5, 6] (fun i a => ∃ n : Nat, 1 ≤ n ∧ n ≤ d ∧ i = .int .i64 (n : Int) ∧ a = .int .u32 (tot k n : Nat)) (fun i _ => d - (intOf i).toNat)
  case atStart => exact ⟨1, by omega, by omega, rfl, by rw [H1.out]⟩
  case round =>
    obtain ⟨n, hn0, hn, rfl, rfl⟩ := hrel
    have htn := tot_small' k n (by omega)
    by_cases hlt : n < d
    · have hw := wt_le (n + 1) k
      have hge := deg_le' HD.out hlt
      go_wp2_with (go_at_call 83; refine (weight_any (n + 1) k (by omega) (by omega) hk hk2 _).mono ?_; rintro e w' ⟨rfl, rfl⟩)
      go_round
      case rel => exact ⟨n + 1, by omega, by omega, by go_num, by show _ = Value.int .u32 ((tot k n + wt (n + 1) k : Nat) : Int); go_num⟩
      case measure => simp [intOf]; omega
    · have hnk : n = d := by omega
      subst hnk
      go_wp2
      go_ret
      exact ⟨rfl, rfl⟩

/-- a set of blocks, as the program keeps it -/
def setv (m : Nat) : Value := .agg #[.int .u64 ((m % 18446744073709551616 : Nat) : Int), .int .u64 ((m / 18446744073709551616 : Nat) : Int)]

end Go.Proofs.YtnpcinjdbeilkaaDoor
