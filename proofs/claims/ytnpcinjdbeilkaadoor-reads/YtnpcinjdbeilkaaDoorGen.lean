/-
  SMALL THINGS that the walks share: nothing of any cut.
-/
import Derived.Test.YtnpcinjdbeilkaaDoorBytes
import Derived.WalkKit
import Derived.WalkSpells
import Derived.WalkLawsBesides
import Derived.Laws.BitsAllLaws
import Derived.Laws.BytesArg
import Derived.Laws.ShiftsVar
import Derived.Laws.ShiftsVarLaws
import Derived.RegionTactic
import Derived.Deep.LoopGhost
import Derived.Deep.QuietTactic
import Derived.Deep.RegionWith
import Derived.BigQuiet
namespace Go.Proofs.YtnpcinjdbeilkaaDoor
open Go.RowKit Dw Period

theorem ret_int {k : IntKind} {a b : Int} (h : a = b) : Ending.returned (.int k a) = .returned (.int k b) := by rw [h]
theorem i64_xor (a b : Nat) (ha : a < 9223372036854775808) (hb : b < 9223372036854775808) : bits .xor .i64 (a : Int) (b : Int) = ((a ^^^ b : Nat) : Int) := by
  show IntKind.i64.wrap ((BitVec.ofInt 64 (a : Int) ^^^ BitVec.ofInt 64 (b : Int)).toNat : Int) = _
  rw [BitVec.toNat_xor, ofInt_u64 a (by omega), ofInt_u64 b (by omega)]
  have h : a ^^^ b < 2 ^ 63 := Nat.xor_lt_two_pow (by simpa using ha) (by simpa using hb)
  rw [IntKind.wrap_i64]
  omega
/-- a row of bools: the bits -/
def bools (m k : Nat) : List Value := (List.range k).map fun i => Value.bool (m.testBit i)
theorem bools_zero (k : Nat) : bools 0 k = List.replicate k (.bool false) := by
  unfold bools; apply List.ext_getElem <;> simp
theorem bools_len (m k : Nat) : (bools m k).length = k := by simp [bools]
theorem bools_get (m k i : Nat) (h : i < k) : (bools m k)[i]? = some (.bool (m.testBit i)) := by simp [bools, h]
theorem bools_set (m k r : Nat) : (bools m k).set r (.bool true) = bools (m ||| 2 ^ r) k := by
  apply List.ext_getElem
  · simp [bools]
  · intro i h1 h2
    simp only [bools, List.getElem_set, List.getElem_map, List.getElem_range, bit_or]
    by_cases e : r = i <;> simp [e]
theorem tot_small (k n : Nat) (hn : n ≤ 80) : tot k n ≤ 5570560 := by have := tot_le k n; omega
theorem deg_pos {k r d : Nat} (h : Deg k r d) : 1 ≤ tot k k := by
  have h1 := h.2.2.2
  have h2 := tot_mono k d k h.2.1
  omega
theorem deg_le {k r d m : Nat} (h : Deg k r d) (hm : m < d) : tot k m ≤ r :=
  Nat.le_trans (tot_mono k m (d - 1) (by omega)) h.2.2.1
/-- one draw's way: the block is there already -/
theorem way_old {k x j : Nat} (h : (ms k x j).testBit (it turn (j + 1) x % k) = true) : ms k x (j + 1) = ms k x j ∧ cs k x (j + 1) = cs k x j := by
  refine ⟨or_same _ _ h, ?_⟩; simp only [cs]; rw [if_pos h]
theorem way_new {k x j : Nat} (h : (ms k x j).testBit (it turn (j + 1) x % k) = false) : ms k x (j + 1) = ms k x j ||| 2 ^ (it turn (j + 1) x % k) ∧ cs k x (j + 1) = cs k x j + 1 := by
  refine ⟨rfl, ?_⟩; simp only [cs]; rw [if_neg (by simp [h])]
theorem cs_le80 (k x j : Nat) (hk : 0 < k) (hk2 : k ≤ 80) : cs k x j ≤ 80 := by
  rw [cs_pc k x j hk]; exact Nat.le_trans (pc_le _ _) hk2
theorem own_below {w w' : World} {B C e size n : Nat} {v : Value} {xs : List Value} (h : w.ownsRow B e size v n xs) (hb : Below C w w') (hc : w.heap.size ≤ C) : w'.ownsRow B e size v n xs := by
  refine ⟨h.1, ?_⟩
  rcases h.2 with h2 | ⟨g, cap, cur, rfl, h3, h4, h5⟩
  · exact .inl h2
  · refine .inr ⟨g, cap, cur, rfl, h3, ?_, h5⟩
    have hg : g < w.heap.size := (h.lt g rfl).2
    rw [hb.block g (by omega)]; exact h4
theorem own_base {w : World} {B B' e size n : Nat} {v : Value} {xs : List Value} (h : w.ownsRow B e size v n xs) (hb : B' ≤ B) : w.ownsRow B' e size v n xs := by
  refine ⟨h.1, ?_⟩
  rcases h.2 with h2 | ⟨g, cap, cur, rfl, h3, h5⟩
  · exact .inl h2
  · exact .inr ⟨g, cap, cur, rfl, by omega, h5⟩
/-- numbers as values -/
def nums (l : List Nat) : List Value := l.map fun (i : Nat) => Value.int .i64 (i : Int)
theorem nums_len (l : List Nat) : (nums l).length = l.length := by simp [nums]
theorem nums_snoc (l : List Nat) (i : Nat) : nums (l ++ [i]) = nums l ++ [Value.int .i64 (i : Int)] := by simp [nums]
theorem ret_bool {a b : Bool} (h : a = b) : Ending.returned (.bool a) = .returned (.bool b) := by rw [h]
theorem bcell {W w1 : World} (hb : Below W.heap.size W w1) : (∀ b o, b < W.heap.size → w1.cell? ⟨b, o, none⟩ = W.cell? ⟨b, o, none⟩) ∧ (∀ b o, b < W.heap.size → w1.frozen? ⟨b, o, none⟩ = W.frozen? ⟨b, o, none⟩) :=
  ⟨fun b o h => hb.cell (p := ⟨b, o, none⟩) h, fun b o h => hb.frozen (p := ⟨b, o, none⟩) h⟩
theorem set_other {w : World} {b o b' o' : Nat} {v : Value} (h : b ≠ b' ∨ o ≠ o') : (w.setCell ⟨b, o, none⟩ v).cell? ⟨b', o', none⟩ = w.cell? ⟨b', o', none⟩ :=
  World.cell?_setCell_other _ _ _ _ (by intro e; injection e with h1 h2; rcases h with h | h <;> contradiction)
theorem own_form {w : World} {B e n : Nat} {v : Value} {xs : List Value} (h : w.ownsRow B e 1 v n xs) (hn : 1 ≤ n) :
    ∃ g cap, v = .slice (some ⟨g, 0, none⟩) n cap := by
  rcases h.2 with ⟨_, h2⟩ | ⟨g, cap, cur, h2, _⟩
  · omega
  · exact ⟨g, cap, h2⟩
theorem ret_str {a b : ByteArray} (h : a = b) : Ending.returned (.string a) = .returned (.string b) := by rw [h]
theorem byteAt_get (s : ByteArray) (i : Nat) (h : i < s.size) : (s[i].toNat : Int) = ((byteAt s i : Nat) : Int) := by unfold byteAt; rw [dif_pos h]
theorem size_list (s : ByteArray) : s.toList.length = s.size := by rw [ByteArray.toList_eq, Array.length_toList]; rfl
theorem empty_yes (s : ByteArray) (h : s.size = 0) : s.toList.isEmpty = true := by
  rw [List.isEmpty_iff_length_eq_zero, size_list]; exact h
theorem empty_no (s : ByteArray) (h : 1 ≤ s.size) : s.toList.isEmpty = false := by
  cases hb : s.toList.isEmpty with
  | false => rfl
  | true => rw [List.isEmpty_iff_length_eq_zero, size_list] at hb; omega
theorem str_eq {a b : List Nat} (h : a = b) : Value.string (str a) = Value.string (str b) := by rw [h]
/-- a row of bytes -/
def octs (l : List Nat) : List Value := l.map fun (b : Nat) => Value.int .u8 (b : Int)
theorem octs_len (l : List Nat) : (octs l).length = l.length := by simp [octs]
theorem octs_append (a b : List Nat) : octs (a ++ b) = octs a ++ octs b := by simp [octs]
theorem octs_one (l : List Nat) : ∀ u ∈ octs l, u.oneCell' = true := by
  intro u hu; simp [octs] at hu; obtain ⟨b, _, rfl⟩ := hu; rfl
theorem own_eq {w : World} {B : Nat} {v : Value} {n n' : Nat} {xs xs' : List Value} (h : w.ownsRow B 5 1 v n xs) (e1 : n = n') (e2 : xs = xs') : w.ownsRow B 5 1 v n' xs' := by subst e1; subst e2; exact h
theorem mul_small (t size : Nat) (ht : t ≤ 80) (hs : size ≤ 16) : t * size ≤ 1280 := Nat.mul_le_mul ht hs
end Go.Proofs.YtnpcinjdbeilkaaDoor
