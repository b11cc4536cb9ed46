/-
  The program's Read, walked from below: wire.pair, wire.readHead, wire.checkHead.
-/
import Derived.Test.YtnpcinjdbeilkaaDoorZb
import Derived.Test.YtnpcinjdbeilkaaDoorRd
import Derived.Test.YtnpcinjdbeilkaaDoorOnly
import Derived.Handy
namespace Go.Proofs.YtnpcinjdbeilkaaDoor
open Go.RowKit Dw Period
set_option maxRecDepth 100000

theorem i64_or_lo (a b : Nat) (ha : a < 256) (hb : b < 256) : bits .or .i64 ((a : Int) * 256) (b : Int) = ((256 * a + b : Nat) : Int) := by
  have e : (a : Int) * 256 = ((a * 256 : Nat) : Int) := by omega
  rw [e]
  show IntKind.i64.wrap ((BitVec.ofInt 64 ((a * 256 : Nat) : Int) ||| BitVec.ofInt 64 (b : Int)).toNat : Int) = _
  rw [BitVec.toNat_or, ofInt_u64 (a * 256) (by omega), ofInt_u64 b (by omega)]
  have h : a * 256 ||| b = a * 256 + b := by
    have := Nat.two_pow_add_eq_or_of_lt (i := 8) (b := b) (by omega) a
    simp only [Nat.reducePow] at this
    rw [Nat.mul_comm a 256]; omega
  rw [h, IntKind.wrap_i64]
  omega

theorem pair_any (s : ByteArray) (i : Nat) (hs : s.size ≤ maxLen) (h : i + 1 < s.size) (w : World) :
    Calls Tryd.prog 69 #[.string s, .int .i64 (i : Int)] w fun e w' => e = .returned (.int .i64 (256 * byteAt s i + byteAt s (i + 1) : Nat)) ∧ ∃ n, w' = w.drewN n := by
  unfold maxLen at hs
  have hi : i < s.size := by omega
  have g0 := byteAt_get s i hi
  have g1 := byteAt_get s (i + 1) h
  have l0 := byteAt_lt s i
  have l1 := byteAt_lt s (i + 1)
  have ho := i64_or_lo (byteAt s i) (byteAt s (i + 1)) l0 l1
  go_enter Tryd.func69, Tryd.ntmps69
  go_wp2
  go_quiet (fail)
  go_wp2
  go_ret
  exact ⟨rfl, _, rfl⟩

/-- what the head says, as the program keeps it: no blocks and no data yet -/
def partsV (id len size m : Nat) (d : ByteArray) : Value := .agg #[.int .i64 (id : Int), .int .i64 (len : Int), .int .i64 (size : Int), .int .u64 (lo m : Nat), .int .u64 (hi m : Nat), .string d]
/-- the number of two bytes at a place -/
def pairV (s : ByteArray) (z : Int) : Int := (256 * byteAt s z.toNat + byteAt s (z.toNat + 1) : Nat)
theorem pair_z (s : ByteArray) (z : Int) (hs : s.size ≤ maxLen) (h : 0 ≤ z ∧ z + 1 < s.size) (w : World) :
    Calls Tryd.prog 69 #[.string s, .int .i64 z] w fun e w' => e = .returned (.int .i64 (pairV s z)) ∧ ∃ n, w' = w.drewN n := by
  obtain ⟨i, rfl⟩ : ∃ i : Nat, z = (i : Int) := ⟨z.toNat, by omega⟩
  refine (pair_any s i hs (by omega) w).mono ?_
  rintro e w' ⟨rfl, n, rfl⟩
  exact ⟨rfl, n, rfl⟩
theorem pairV_0 (s : ByteArray) : pairV s 0 = ((rid s : Nat) : Int) := rfl
theorem pairV_2 (s : ByteArray) : pairV s 2 = ((rlen s : Nat) : Int) := rfl

set_option maxHeartbeats 1000000 in
theorem readhead_any (s : ByteArray) (hs : s.size ≤ maxLen) (h5 : 5 ≤ s.size) (w : World) :
    Calls Tryd.prog 42 #[.string s] w fun e w' => e = .returned (.agg #[.int .i64 (rid s : Nat), .int .i64 (rlen s : Nat), .int .i64 (rsz s : Nat), .int .u64 0, .int .u64 0, .string { data := #[] }]) ∧ Below w.heap.size w w' := by
  have g4 := byteAt_get s 4 (by omega)
  have l4 := byteAt_lt s 4
  have e4 : IntKind.i64.wrap ((byteAt s 4 : Nat) : Int) = ((rsz s : Nat) : Int) := IntWalk.i64_in _ ⟨by omega, by omega⟩
  have p0 := pairV_0 s
  have p2 := pairV_2 s
  go_enter Tryd.func42, Tryd.ntmps42
  go_wp2
  go_region_with (go_at_call 69; refine (pair_z s _ hs ⟨by omega, by omega⟩ _).mono ?_; rintro e w' ⟨rfl, n1, rfl⟩)
  all_goals
    go_wp2
    exact bodyPost_ret (v := .agg #[.int .i64 (rid s : Nat), .int .i64 (rlen s : Nat), .int .i64 (rsz s : Nat), .int .u64 0, .int .u64 0, .string { data := #[] }]) (by simp [results, Tryd.results42, go_sem]) rfl ⟨rfl, by (go_grown; refine below_drewN ?_ _; go_grown)⟩
end Go.Proofs.YtnpcinjdbeilkaaDoor
