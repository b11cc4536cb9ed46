/-
  WHICH BLOCKS A DROP HAS, as numbers: the weights, their sums, the degree, the draws till there are enough. Plain mathematics; the period is what makes the drawing end.
-/
import Derived.Test.YtnpcinjdbeilkaaDoorPeriod
namespace Go.Proofs.YtnpcinjdbeilkaaDoor.Dw
open Period

def wt (d k : Nat) : Nat := if d = 1 then 65536 / k + 4096 else 65536 / (d * (d - 1))
theorem wt_le (d k : Nat) : wt d k ≤ 69632 := by
  unfold wt
  by_cases h : d = 1
  · rw [if_pos h]; have := Nat.div_le_self 65536 k; omega
  · rw [if_neg h]; have := Nat.div_le_self 65536 (d * (d - 1)); omega
theorem wt_pos (d k : Nat) (h1 : 1 ≤ d) (h2 : d ≤ 80) : 1 ≤ wt d k := by
  unfold wt
  by_cases h : d = 1
  · rw [if_pos h]; have := Nat.zero_le (65536 / k); omega
  · rw [if_neg h]
    have h3 : d * (d - 1) ≤ 80 * 79 := Nat.mul_le_mul h2 (by omega)
    have h4 : 2 * 1 ≤ d * (d - 1) := Nat.mul_le_mul (by omega) (by omega)
    exact (Nat.le_div_iff_mul_le (by omega)).mpr (by omega)
/-- the weights of 1 to n -/
def tot (k : Nat) : Nat → Nat
  | 0 => 0
  | n + 1 => tot k n + wt (n + 1) k
theorem tot_le (k n : Nat) : tot k n ≤ 69632 * n := by
  induction n with
  | zero => simp [tot]
  | succ n ih => have := wt_le (n + 1) k; simp only [tot]; omega
theorem tot_mono (k m n : Nat) (h : m ≤ n) : tot k m ≤ tot k n := by
  induction n with
  | zero => have : m = 0 := by omega
            subst this; exact Nat.le_refl _
  | succ n ih =>
    by_cases e : m = n + 1
    · subst e; exact Nat.le_refl _
    · have := ih (by omega); simp only [tot]; omega
/-- d is how many blocks the drop has -/
def Deg (k r d : Nat) : Prop := 1 ≤ d ∧ d ≤ k ∧ tot k (d - 1) ≤ r ∧ r < tot k d
theorem deg_ex (k r n : Nat) (hn : n ≤ k) (h : r < tot k n) : ∃ d, Deg k r d := by
  induction n with
  | zero => simp [tot] at h
  | succ n ih =>
    by_cases e : r < tot k n
    · exact ih (by omega) e
    · exact ⟨n + 1, by omega, hn, by simpa using (by omega : tot k n ≤ r), h⟩

/-- the blocks after j draws, as bits -/
def ms (k x : Nat) : Nat → Nat
  | 0 => 0
  | j + 1 => ms k x j ||| 2 ^ (it turn (j + 1) x % k)
/-- how many they are -/
def cs (k x : Nat) : Nat → Nat
  | 0 => 0
  | j + 1 => if (ms k x j).testBit (it turn (j + 1) x % k) then cs k x j else cs k x j + 1

theorem ms_lt (k x j : Nat) (hk : 0 < k) : ms k x j < 2 ^ k := by
  induction j with
  | zero => exact Nat.two_pow_pos k
  | succ j ih => exact Nat.or_lt_two_pow ih (Nat.pow_lt_pow_right (by omega) (Nat.mod_lt _ hk))

theorem bit_or (m r i : Nat) : (m ||| 2 ^ r).testBit i = (m.testBit i || decide (r = i)) := by
  rw [Nat.testBit_or, Nat.testBit_two_pow]
theorem or_same (m r : Nat) (h : m.testBit r = true) : m ||| 2 ^ r = m := by
  apply Nat.eq_of_testBit_eq; intro i; rw [bit_or]
  by_cases e : r = i
  · subst e; simp [h]
  · simp [e]

/-- how many of the lowest n bits are set -/
def pc (m : Nat) : Nat → Nat
  | 0 => 0
  | n + 1 => pc m n + (if m.testBit n then 1 else 0)
theorem pc_le (m n : Nat) : pc m n ≤ n := by
  induction n with
  | zero => exact Nat.le_refl _
  | succ n ih => simp only [pc]; split <;> omega
theorem pc_lt (m n : Nat) (h : pc m n < n) : ∃ r, r < n ∧ m.testBit r = false := by
  induction n with
  | zero => simp [pc] at h
  | succ n ih =>
    by_cases e : m.testBit n = true
    · simp only [pc, e, if_true] at h
      obtain ⟨r, h1, h2⟩ := ih (by omega)
      exact ⟨r, by omega, h2⟩
    · exact ⟨n, by omega, by simpa using e⟩
theorem pc_or_ge (m r n : Nat) (h : n ≤ r) : pc (m ||| 2 ^ r) n = pc m n := by
  induction n with
  | zero => rfl
  | succ n ih =>
    have : decide (r = n) = false := by simp; omega
    simp only [pc, bit_or, this, Bool.or_false]; rw [ih (by omega)]
theorem pc_or (m r n : Nat) (h : r < n) (hr : m.testBit r = false) : pc (m ||| 2 ^ r) n = pc m n + 1 := by
  induction n with
  | zero => omega
  | succ n ih =>
    by_cases e : r = n
    · subst e
      simp only [pc, bit_or, hr, pc_or_ge m r r (Nat.le_refl _)]; simp
    · have : decide (r = n) = false := by simpa using e
      simp only [pc, bit_or, this, Bool.or_false]; rw [ih (by omega)]; omega
theorem cs_pc (k x j : Nat) (hk : 0 < k) : cs k x j = pc (ms k x j) k := by
  induction j with
  | zero =>
    show 0 = pc 0 k
    have : ∀ n, pc 0 n = 0 := by intro n; induction n with
      | zero => rfl
      | succ n ih => simp [pc, ih]
    rw [this]
  | succ j ih =>
    simp only [cs, ms]
    by_cases e : (ms k x j).testBit (it turn (j + 1) x % k) = true
    · rw [if_pos e, or_same _ _ e, ih]
    · rw [if_neg e, pc_or _ _ _ (Nat.mod_lt _ hk) (by simpa using e), ih]

theorem cs_step (k x j : Nat) : cs k x (j + 1) = cs k x j ∨ cs k x (j + 1) = cs k x j + 1 := by
  simp only [cs]; split
  · exact .inl rfl
  · exact .inr rfl
theorem cs_same (k x j : Nat) (h : cs k x (j + 1) = cs k x j) : ms k x (j + 1) = ms k x j := by
  simp only [cs] at h
  by_cases e : (ms k x j).testBit (it turn (j + 1) x % k) = true
  · exact or_same _ _ e
  · rw [if_neg e] at h; omega
theorem ms_keeps (k x j n r : Nat) (h : (ms k x j).testBit r = true) : (ms k x (j + n)).testBit r = true := by
  induction n with
  | zero => exact h
  | succ n ih => show (ms k x (j + n) ||| _).testBit r = true; rw [bit_or, ih]; rfl

/-- some time a new block is drawn -/
theorem more (k x j : Nat) (hk : 0 < k) (hk2 : k ≤ 80) (hx : x < 4294967296) (hx0 : x ≠ 0) (h : cs k x j < k) : ∃ j', j < j' ∧ cs k x j' = cs k x j + 1 := by
  rw [cs_pc k x j hk] at h
  obtain ⟨r, hr, hb⟩ := pc_lt _ _ h
  obtain ⟨y, hy, hy0, hyr⟩ : ∃ y, y < 4294967296 ∧ y ≠ 0 ∧ y % k = r := by
    by_cases e : r = 0
    · exact ⟨k, by omega, by omega, by rw [e]; exact Nat.mod_self k⟩
    · exact ⟨r, by omega, e, Nat.mod_eq_of_lt hr⟩
  obtain ⟨n, hn⟩ := comes (it turn j x) y (it_turn_lt j x hx) (it_turn_ne j x hx hx0) hy hy0
  have hn' : it turn (n + 4294967295 + j) x = y := by
    rw [it_add, it_add, whole _ (it_turn_lt j x hx), hn]
  have hset : (ms k x (j + (n + 4294967295))).testBit r = true := by
    obtain ⟨m, hm⟩ : ∃ m, j + (n + 4294967295) = m + 1 := ⟨j + (n + 4294967294), by omega⟩
    rw [hm]
    show (ms k x m ||| 2 ^ (it turn (m + 1) x % k)).testBit r = true
    rw [bit_or, ← hm, Nat.add_comm j, hn', hyr]; simp
  have go : ∀ i, (∃ j', j < j' ∧ cs k x j' = cs k x j + 1) ∨ (cs k x (j + i) = cs k x j ∧ ms k x (j + i) = ms k x j) := by
    intro i
    induction i with
    | zero => exact .inr ⟨rfl, rfl⟩
    | succ i ih =>
      rcases ih with h | ⟨h1, h2⟩
      · exact .inl h
      · rcases cs_step k x (j + i) with h3 | h3
        · exact .inr ⟨by rw [← Nat.add_assoc, h3, h1], by rw [← Nat.add_assoc, cs_same _ _ _ h3, h2]⟩
        · exact .inl ⟨j + i + 1, by omega, by rw [h3, h1]⟩
  rcases go (n + 4294967295) with h1 | ⟨_, h2⟩
  · exact h1
  · rw [h2, hb] at hset; simp at hset

/-- J: after so many draws, not sooner, there are d -/
def Enough (k x d J : Nat) : Prop := cs k x J = d ∧ ∀ j, j < J → cs k x j < d
theorem cs_mono (k x j n : Nat) : cs k x j ≤ cs k x (j + n) := by
  induction n with
  | zero => exact Nat.le_refl _
  | succ n ih => have := cs_step k x (j + n); rw [← Nat.add_assoc]; omega
theorem ends_ex (k x d : Nat) (hk : 0 < k) (hk2 : k ≤ 80) (hx : x < 4294967296) (hx0 : x ≠ 0) (hd : d ≤ k) : ∃ J, Enough k x d J := by
  have h : ∃ j, cs k x j = d := by
    induction d with
    | zero => exact ⟨0, rfl⟩
    | succ d ih =>
      obtain ⟨j, hj⟩ := ih (by omega)
      obtain ⟨j', _, h'⟩ := more k x j hk hk2 hx hx0 (by omega)
      exact ⟨j', by omega⟩
  obtain ⟨n, hn⟩ := h
  obtain ⟨J, h1, h2⟩ := least (fun j => cs k x j = d) n hn
  refine ⟨J, h1, fun j hj => ?_⟩
  have h3 := cs_mono k x j (J - j)
  have e : j + (J - j) = J := by omega
  have h4 := h2 j hj
  rw [e, h1] at h3
  omega

/-- the blocks, rising -/
def lst (m n : Nat) : List Nat := (List.range n).filter fun i => m.testBit i
theorem lst_succ (m n : Nat) : lst m (n + 1) = if m.testBit n then lst m n ++ [n] else lst m n := by
  unfold lst; rw [List.range_succ, List.filter_append]
  by_cases h : m.testBit n = true <;> simp [h]
theorem lst_len (m n : Nat) : (lst m n).length ≤ n := by
  unfold lst; have := List.length_filter_le (fun i => m.testBit i) (List.range n); simpa using this
theorem lst_beyond (m k n : Nat) (h : m < 2 ^ k) (hn : k ≤ n) : lst m n = lst m k := by
  induction n with
  | zero => have : k = 0 := by omega
            subst this; rfl
  | succ n ih =>
    by_cases e : k = n + 1
    · rw [e]
    · rw [lst_succ, ih (by omega)]
      have : m.testBit n = false := Nat.testBit_lt_two_pow (Nat.lt_of_lt_of_le h (Nat.pow_le_pow_right (by omega) (by omega)))
      rw [this]; rfl
theorem lst_pc (m n : Nat) : (lst m n).length = pc m n := by
  induction n with
  | zero => rfl
  | succ n ih => rw [lst_succ]; simp only [pc]; split <;> simp [ih]

/-- where the draws begin: never 0 -/
def seed (k id : Nat) : Nat := (40503 * id + 2654435769 * k + 12345) % 4294967296
theorem seed_tab : ∀ k, k < 81 → 1 ≤ k → (2654435769 * k + 12345) % 4294967296 ≠ 0 ∧ ((4294967296 - (2654435769 * k + 12345) % 4294967296) % 40503 ≠ 0 ∨ 65535 < (4294967296 - (2654435769 * k + 12345) % 4294967296) / 40503) := by decide +kernel
theorem seed_ne (k id : Nat) (h1 : 1 ≤ k) (h2 : k ≤ 80) (h3 : id ≤ 65535) : seed k id ≠ 0 := by
  have h := seed_tab k (by omega) h1
  unfold seed
  have hm : (2654435769 * k + 12345) % 4294967296 < 4294967296 := Nat.mod_lt _ (by decide)
  have e : (40503 * id + 2654435769 * k + 12345) % 4294967296 = (40503 * id + (2654435769 * k + 12345) % 4294967296) % 4294967296 := by
    rw [Nat.add_assoc]; simp
  rw [e]
  clear e
  generalize (2654435769 * k + 12345) % 4294967296 = a at *
  obtain ⟨ha, hb⟩ := h
  intro h0
  have h5 : 40503 * id + a = 4294967296 := by
    clear hb
    have : 40503 * id < 4294967296 := by omega
    generalize 40503 * id = z at *
    omega
  have h6 : 4294967296 - a = 40503 * id := by omega
  rw [h6] at hb
  rcases hb with hb | hb
  · exact hb (Nat.mul_mod_right _ _)
  · rw [Nat.mul_div_cancel_left _ (by decide)] at hb; omega
theorem seed_lt (k id : Nat) : seed k id < 4294967296 := Nat.mod_lt _ (by decide)
/-- m: the blocks of drop id, out of k, as bits -/
def Drawn (k id m : Nat) : Prop := ∃ x d J, it turn 4 (seed k id) = x ∧ Deg k (x % tot k k) d ∧ Enough k x d J ∧ ms k x J = m
theorem drawn_ex (k id : Nat) (hk : 1 ≤ k) (hk2 : k ≤ 80) (hid : id ≤ 65535) : ∃ m, Drawn k id m ∧ m < 2 ^ k ∧ 1 ≤ (lst m k).length := by
  have hs := seed_lt k id
  have hs0 := seed_ne k id hk hk2 hid
  have hx := it_turn_lt 4 _ hs
  have hx0 := it_turn_ne 4 _ hs hs0
  have ht : 0 < tot k k := by
    have h1 := tot_mono k 1 k hk
    have h2 : tot k 1 = wt 1 k := by simp [tot]
    have h3 := wt_pos 1 k (by omega) (by omega)
    omega
  obtain ⟨d, hd⟩ := deg_ex k (it turn 4 (seed k id) % tot k k) k (Nat.le_refl _) (Nat.mod_lt _ ht)
  obtain ⟨J, hJ⟩ := ends_ex k (it turn 4 (seed k id)) d hk hk2 hx hx0 hd.2.1
  refine ⟨_, ⟨_, d, J, rfl, hd, hJ, rfl⟩, ms_lt _ _ _ hk, ?_⟩
  rw [lst_pc, ← cs_pc _ _ _ hk, hJ.1]; exact hd.1
end Go.Proofs.YtnpcinjdbeilkaaDoor.Dw
