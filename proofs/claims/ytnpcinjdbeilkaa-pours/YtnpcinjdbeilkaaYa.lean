import Derived.Test.YtnpcinjdbeilkaaYc
namespace Go.Proofs.Ytnpcinjdbeilkaa
open Go.RowKit Dw Period
set_option maxRecDepth 100000

theorem two_any (n : Nat) (hn : n < 65536) (w : World) :
    Calls Try.prog 20 #[.int .i64 (n : Int)] w fun e w' => e = .returned (.string (str (pair n))) ∧ Below w.heap.size w w' := by
  have kc := conv_two
  go_enter Try.func20, Try.ntmps20
  go_wp2
  go_ret
  exact ⟨ret_str (by unfold pair; congr 2), (Below.refl _ _).alloc (Nat.le_refl _) _⟩

theorem at_any (s : ByteArray) (i : Nat) (w : World) (_hs : s.size ≤ 400) (_hi : i < 10000) :
    Calls Try.prog 21 #[.string s, .int .i64 (i : Int)] w fun e w' => e = .returned (.int .i64 (byteAt s i : Nat)) ∧ w' = w := by
  by_cases h : i < s.size
  · have E : Hid (byteAt s i = s[i].toNat) := by show _ = _; unfold byteAt; rw [dif_pos h]
    have hlt : s[i].toNat < 256 := UInt8.toNat_lt _
    go_enter Try.func21, Try.ntmps21
    go_wp2
    go_ret
    exact ⟨ret_int (by rw [E.out]), rfl⟩
  · have E : Hid (byteAt s i = 0) := by show _ = _; unfold byteAt; rw [dif_neg h]
    go_enter Try.func21, Try.ntmps21
    go_wp2
    go_ret
    exact ⟨ret_int (by rw [E.out]; rfl), rfl⟩

end Go.Proofs.Ytnpcinjdbeilkaa
