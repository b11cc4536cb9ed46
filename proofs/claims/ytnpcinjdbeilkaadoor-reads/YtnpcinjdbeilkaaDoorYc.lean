import Derived.Test.YtnpcinjdbeilkaaDoorWc
namespace Go.Proofs.YtnpcinjdbeilkaaDoor
open Go.RowKit Dw Period
set_option maxRecDepth 100000

theorem rcount_any (n size : Nat) (hn : n ≤ 400) (hs : 1 ≤ size) (hs2 : size ≤ 16) (w : World) :
    Calls Tryd.prog 22 #[.int .i64 (n : Int), .int .i64 (size : Int)] w fun e w' => e = .returned (.int .i64 (cnt n size : Nat)) ∧ w' = w := by
  have E : Hid (((cnt n size : Nat) : Int) = ((n : Int) + (size : Int) - 1) / (size : Int)) := by
    show _ = _; unfold cnt; rw [Int.natCast_ediv]; congr 1; omega
  have h1 : ((n : Int) + (size : Int) - 1) / (size : Int) ≤ 10000 := by
    rw [← E.out]; unfold cnt; have := Nat.div_le_self (n + size - 1) size; omega
  have h0 : 0 ≤ ((n : Int) + (size : Int) - 1) / (size : Int) := by rw [← E.out]; omega
  go_enter Tryd.func22, Tryd.ntmps22
  go_wp2
  go_ret
  exact ⟨ret_int E.out.symm, rfl⟩
theorem conv_two (w : World) (a b : Int) : (convert 59 9 (.slice (some ⟨w.heap.size, 0, none⟩) 2 2)).run Tryd.prog (w.alloc (.cells #[.int .u8 a, .int .u8 b] 5)) = .ok (.string (str [a.toNat, b.toNat])) (w.alloc (.cells #[.int .u8 a, .int .u8 b] 5)) := by
  have h := run_convert_bytes_arg (P := Tryd.prog) (w.alloc (.cells #[.int .u8 a, .int .u8 b] 5)) 59 5 Tryd.underlying59 Tryd.underlying5 w.heap.size 0 2 2 [a, b] rfl (by
    intro i hi
    match i, hi with
    | 0, _ => simp
    | 1, _ => simp) 9 Tryd.underlying9
  rw [h]; rfl
theorem conv_one (w : World) (a : Int) : (convert 59 9 (.slice (some ⟨w.heap.size, 0, none⟩) 1 1)).run Tryd.prog (w.alloc (.cells #[.int .u8 a] 5)) = .ok (.string (str [a.toNat])) (w.alloc (.cells #[.int .u8 a] 5)) := by
  have h := run_convert_bytes_arg (P := Tryd.prog) (w.alloc (.cells #[.int .u8 a] 5)) 59 5 Tryd.underlying59 Tryd.underlying5 w.heap.size 0 1 1 [a] rfl (by
    intro i hi
    match i, hi with
    | 0, _ => simp) 9 Tryd.underlying9
  rw [h]; rfl

set_option maxHeartbeats 1000000 in
theorem rsum_any (s : ByteArray) (hs : s.size ≤ 1000) (w : World) :
    Calls Tryd.prog 29 #[.string s] w fun e w' => e = .returned (.int .i64 (crc s s.size : Nat)) ∧ w' = w := by
  go_enter Tryd.func29, Tryd.ntmps29
  go_wp2
  go_loop [3, 4] (fun c i => ∃ n : Nat, n ≤ s.size ∧ i = .int .i64 (n : Int) ∧ c = .int .i64 (crc s n : Nat)) (fun _ i => s.size - (intOf i).toNat)
  case atStart => exact ⟨0, by omega, rfl, rfl⟩
  case round =>
    obtain ⟨n, hn, rfl, rfl⟩ := hrel
    have hc := crc_lt s n
    by_cases hlt : n < s.size
    · have hb := byteAt_lt s n
      have hg := byteAt_get s n hlt
      obtain ⟨c0, hc0⟩ : ∃ c0, c0 = crc s n ^^^ (byteAt s n * 256) := ⟨_, rfl⟩
      have hx : bits .xor .i64 ((crc s n : Nat) : Int) (((byteAt s n : Nat) : Int) * 256) = (c0 : Int) := by
        have e : ((byteAt s n : Nat) : Int) * 256 = ((byteAt s n * 256 : Nat) : Int) := by omega
        rw [e, i64_xor _ _ (by omega) (by omega), hc0]
      have hl0 : c0 < 65536 := by rw [hc0]; exact crx_lt _ _ hc hb
      have HN : Hid (crc s (n + 1) = it cr1 8 c0) := by show _ = _; rw [hc0]; rfl
      clear hc0
      go_wp2
      clear hg hx
      go_loop [3, 5] (fun c i => ∃ j : Nat, j ≤ 8 ∧ i = .int .i64 (j : Int) ∧ c = .int .i64 (it cr1 j c0 : Nat)) (fun _ i => 8 - (intOf i).toNat)
      case atStart => exact ⟨0, by omega, rfl, rfl⟩
      case round =>
        obtain ⟨j, hj, rfl, rfl⟩ := hrel
        have hz := it_cr1_lt j c0 hl0
        have HS : Hid (it cr1 (j + 1) c0 = cr1 (it cr1 j c0)) := it_succ' cr1 j c0
        by_cases hj8 : j < 8
        · obtain ⟨z, hzz⟩ : ∃ z, z = it cr1 j c0 := ⟨_, rfl⟩
          rw [← hzz] at hz HS ⊢
          clear hzz
          by_cases hbig : 32768 ≤ z
          · have hy : bits .xor .i64 ((z : Int) * 2 % 65536) 4129 = ((cr1 z : Nat) : Int) := by
              have e : (z : Int) * 2 % 65536 = ((z * 2 % 65536 : Nat) : Int) := by omega
              have := i64_xor (z * 2 % 65536) 4129 (by omega) (by omega)
              rw [e]; unfold cr1; rw [if_pos hbig]; exact this
            have hd : decide (32768 ≤ (z : Int)) = true := decide_eq_true (by omega)
            clear hbig
            go_wp2
            go_round
            case rel => exact ⟨j + 1, by omega, by go_num, by rw [HS.out]⟩
            case measure => simp [intOf]; omega
          · have hy : ((cr1 z : Nat) : Int) = (z : Int) * 2 % 65536 := by unfold cr1; rw [if_neg hbig]; omega
            have HY : Hid (((cr1 z : Nat) : Int) = (z : Int) * 2 % 65536) := hy
            clear hy
            have hd : decide (32768 ≤ (z : Int)) = false := decide_eq_false (by omega)
            clear hbig
            go_wp2
            go_round
            case rel => exact ⟨j + 1, by omega, by go_num, by rw [HS.out, HY.out]⟩
            case measure => simp [intOf]; omega
        · have hj' : j = 8 := by omega
          subst hj'
          go_wp2
          go_round
          case rel => exact ⟨n + 1, by omega, by go_num, by rw [HN.out]⟩
          case measure => simp [intOf]; omega
    · have hnk : n = s.size := by omega
      subst hnk
      go_wp2
      go_ret
      exact ⟨rfl, rfl⟩
end Go.Proofs.YtnpcinjdbeilkaaDoor
