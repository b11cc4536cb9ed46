/-
  A DROP AS BYTES: bytes are numbers below 256; the sum; the blocks put together, once block by block and once byte by byte. Plain mathematics.
-/
import Derived.Test.YtnpcinjdbeilkaaDoorSpec
namespace Go.Proofs.YtnpcinjdbeilkaaDoor.Dw
open Period

def str (l : List Nat) : ByteArray := ⟨(l.map UInt8.ofNat).toArray⟩
theorem str_append (a b : List Nat) : str a ++ str b = str (a ++ b) := by
  apply ByteArray.ext
  rw [ByteArray.data_append]
  simp [str]
theorem str_size (l : List Nat) : (str l).size = l.length := by simp [str, ByteArray.size]
theorem str_nil : str [] = ByteArray.empty := rfl

/-- a text's byte, 0 behind its end -/
def byteAt (s : ByteArray) (i : Nat) : Nat := if h : i < s.size then s[i].toNat else 0
theorem byteAt_lt (s : ByteArray) (i : Nat) : byteAt s i < 256 := by
  unfold byteAt; split
  · exact UInt8.toNat_lt _
  · decide
theorem byteAt_str (l : List Nat) (i : Nat) (h : i < l.length) (hb : ∀ b ∈ l, b < 256) : byteAt (str l) i = l[i] := by
  have h1 : i < (str l).size := by rw [str_size]; exact h
  unfold byteAt; rw [dif_pos h1]
  have : (str l)[i] = UInt8.ofNat l[i] := by
    show (str l).data[i] = _
    simp [str]
  rw [this]
  have := hb l[i] (List.getElem_mem h)
  simp; omega

def pair (n : Nat) : List Nat := [n / 256, n % 256]
theorem pair_lt (n : Nat) (h : n < 65536) : ∀ b ∈ pair n, b < 256 := by
  intro b hb; simp [pair] at hb; omega

/-! the sum -/
def cr1 (c : Nat) : Nat := if 32768 ≤ c then (c * 2 % 65536) ^^^ 4129 else c * 2 % 65536
theorem cr1_lt (c : Nat) : cr1 c < 65536 := by
  unfold cr1; split
  · exact Nat.xor_lt_two_pow (n := 16) (Nat.mod_lt _ (by decide)) (by decide)
  · exact Nat.mod_lt _ (by decide)
theorem it_cr1_lt (j c : Nat) (h : c < 65536) : it cr1 j c < 65536 := by
  induction j generalizing c with
  | zero => exact h
  | succ j ih => exact ih _ (cr1_lt c)
def crb (c b : Nat) : Nat := it cr1 8 (c ^^^ (b * 256))
theorem crx_lt (c b : Nat) (hc : c < 65536) (hb : b < 256) : c ^^^ (b * 256) < 65536 := Nat.xor_lt_two_pow (n := 16) hc (by omega)
theorem crb_lt (c b : Nat) (hc : c < 65536) (hb : b < 256) : crb c b < 65536 := it_cr1_lt 8 _ (crx_lt c b hc hb)
/-- the sum of a text's first n bytes -/
def crc (s : ByteArray) : Nat → Nat
  | 0 => 65535
  | n + 1 => crb (crc s n) (byteAt s n)
theorem crc_lt (s : ByteArray) (n : Nat) : crc s n < 65536 := by
  induction n with
  | zero => show 65535 < 65536; decide
  | succ n ih => exact crb_lt _ _ ih (byteAt_lt s n)

/-! xor of many -/
def xr (f : Nat → Nat) : Nat → Nat
  | 0 => 0
  | n + 1 => xr f n ^^^ f n
theorem xr_lt (f : Nat → Nat) (n : Nat) (h : ∀ i, f i < 256) : xr f n < 256 := by
  induction n with
  | zero => show 0 < 256; decide
  | succ n ih => exact Nat.xor_lt_two_pow (n := 8) ih (h n)
theorem xr_congr (f g : Nat → Nat) (n : Nat) (h : ∀ i, i < n → f i = g i) : xr f n = xr g n := by
  induction n with
  | zero => rfl
  | succ n ih => simp only [xr]; rw [ih (fun i hi => h i (by omega)), h n (by omega)]
theorem xr_one (f g : Nat → Nat) (n r v : Nat) (hr : r < n) (h : ∀ i, i < n → i ≠ r → f i = g i) (hv : f r = g r ^^^ v) : xr f n = xr g n ^^^ v := by
  induction n with
  | zero => omega
  | succ n ih =>
    simp only [xr]
    by_cases e : r = n
    · subst e
      rw [xr_congr f g r (fun i hi => h i (by omega) (by omega)), hv, Nat.xor_assoc]
    · rw [ih (by omega) (fun i hi => h i (by omega)), h n (by omega) (fun e' => e e'.symm), Nat.xor_assoc, Nat.xor_assoc, Nat.xor_comm v]

/-- byte p of the blocks of m put together, as far as the text's first n bytes go -/
def upto (m size : Nat) (s : ByteArray) (n p : Nat) : Nat → Nat := fun i => if m.testBit i && decide (i * size + p < n) then byteAt s (i * size + p) else 0
def mixed (m size k : Nat) (s : ByteArray) (n p : Nat) : Nat := xr (upto m size s n p) k
/-- byte p of the blocks of m put together -/
def blk (m size : Nat) (s : ByteArray) (p : Nat) : Nat → Nat := fun i => if m.testBit i then byteAt s (i * size + p) else 0
def datum (m size k : Nat) (s : ByteArray) (p : Nat) : Nat := xr (blk m size s p) k
theorem blk_lt (m size : Nat) (s : ByteArray) (p i : Nat) : blk m size s p i < 256 := by
  unfold blk; split
  · exact byteAt_lt _ _
  · decide
theorem datum_lt (m size k : Nat) (s : ByteArray) (p : Nat) : datum m size k s p < 256 := xr_lt _ _ (blk_lt m size s p)
theorem xrblk_lt (m size : Nat) (s : ByteArray) (p i : Nat) : xr (blk m size s p) i < 256 := xr_lt _ _ (blk_lt m size s p)
theorem mixed_lt (m size k : Nat) (s : ByteArray) (n p : Nat) : mixed m size k s n p < 256 := by
  apply xr_lt; intro i; unfold upto; split
  · exact byteAt_lt _ _
  · decide
theorem mixed_zero (m size k : Nat) (s : ByteArray) (p : Nat) : mixed m size k s 0 p = 0 := by
  unfold mixed
  have : ∀ n, xr (upto m size s 0 p) n = 0 := by
    intro n; induction n with
    | zero => rfl
    | succ n ih => simp [xr, ih, upto]
  exact this k
theorem mixed_all (m size k : Nat) (s : ByteArray) (p : Nat) : mixed m size k s s.size p = datum m size k s p := by
  apply xr_congr; intro i _
  unfold upto blk
  by_cases h : m.testBit i = true
  · by_cases h2 : i * size + p < s.size
    · simp [h, h2]
    · simp [h, h2, byteAt]
  · simp [h]

theorem divmod_eq {size n i p : Nat} (hp : p < size) (h : i * size + p = n) : i = n / size ∧ p = n % size := by
  have hs : 0 < size := by omega
  subst h
  constructor
  · rw [Nat.add_comm, Nat.add_mul_div_right _ _ hs, Nat.div_eq_of_lt hp]; omega
  · rw [Nat.add_comm, Nat.add_mul_mod_self_right, Nat.mod_eq_of_lt hp]
theorem mixed_other (m size k : Nat) (s : ByteArray) (n p : Nat) (hp : p < size) (h : p ≠ n % size) : mixed m size k s (n + 1) p = mixed m size k s n p := by
  apply xr_congr; intro i _
  unfold upto
  have e : decide (i * size + p < n + 1) = decide (i * size + p < n) := by
    have hne : i * size + p ≠ n := fun e => h (divmod_eq hp e).2
    rw [decide_eq_decide]; omega
  rw [e]
theorem mixed_miss (m size k : Nat) (s : ByteArray) (n p : Nat) (hp : p < size) (h : m.testBit (n / size) = false) : mixed m size k s (n + 1) p = mixed m size k s n p := by
  apply xr_congr; intro i _
  unfold upto
  by_cases hb : m.testBit i = true
  · have e : decide (i * size + p < n + 1) = decide (i * size + p < n) := by
      have hne : i * size + p ≠ n := fun e => by
        have := (divmod_eq hp e).1
        rw [this, h] at hb; simp at hb
      rw [decide_eq_decide]; omega
    rw [e]
  · simp [hb]
theorem mixed_hit (m size k : Nat) (s : ByteArray) (n : Nat) (hs : 0 < size) (hn : n / size < k) (h : m.testBit (n / size) = true) :
    mixed m size k s (n + 1) (n % size) = mixed m size k s n (n % size) ^^^ byteAt s n := by
  have hpos : n / size * size + n % size = n := by rw [Nat.mul_comm]; exact Nat.div_add_mod n size
  refine xr_one _ _ _ (n / size) _ hn ?_ ?_
  · intro i _ hne
    unfold upto
    have e : decide (i * size + n % size < n + 1) = decide (i * size + n % size < n) := by
      have hne : i * size + n % size ≠ n := fun e => hne (divmod_eq (Nat.mod_lt _ hs) e).1
      rw [decide_eq_decide]; omega
    rw [e]
  · unfold upto
    rw [hpos]
    simp [h]

/-- how many blocks -/
def cnt (n size : Nat) : Nat := (n + size - 1) / size
theorem cnt_gt (n size i : Nat) (hs : 0 < size) (h : i < n) : i / size < cnt n size := by
  unfold cnt
  rw [Nat.div_lt_iff_lt_mul hs]
  have h1 := Nat.div_add_mod (n + size - 1) size
  have h2 := Nat.mod_lt (n + size - 1) hs
  rw [Nat.mul_comm] at h1
  omega
theorem cnt_pos (n size : Nat) (hs : 0 < size) (h : 0 < n) : 1 ≤ cnt n size := by
  have := cnt_gt n size 0 hs h; rw [Nat.zero_div] at this; exact this

/-- a drop's bytes ahead of its data -/
def head (id len size : Nat) : List Nat := pair id ++ pair len ++ [size]
def dataOf (m size k : Nat) (s : ByteArray) (n : Nat) : List Nat := (List.range n).map (datum m size k s)
theorem dataOf_succ (m size k : Nat) (s : ByteArray) (n : Nat) : dataOf m size k s (n + 1) = dataOf m size k s n ++ [datum m size k s n] := by
  simp [dataOf, List.range_succ]
theorem dataOf_len (m size k : Nat) (s : ByteArray) (n : Nat) : (dataOf m size k s n).length = n := by simp [dataOf]
theorem dataOf_lt (m size k : Nat) (s : ByteArray) (n : Nat) : ∀ b ∈ dataOf m size k s n, b < 256 := by
  intro b hb; simp [dataOf] at hb; obtain ⟨i, _, rfl⟩ := hb; exact datum_lt _ _ _ _ _
def body (m size k id : Nat) (s : ByteArray) : List Nat := head id s.size size ++ dataOf m size k s size
/-- the drop -/
def drop (m size k id : Nat) (s : ByteArray) : List Nat := body m size k id s ++ pair (crc (str (body m size k id s)) (str (body m size k id s)).size)
end Go.Proofs.YtnpcinjdbeilkaaDoor.Dw
