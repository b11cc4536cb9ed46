import Derived.Test.YtnpcinjdbeilkaaYa
namespace Go.Proofs.Ytnpcinjdbeilkaa
open Go.RowKit Dw Period
set_option maxRecDepth 100000

theorem rpour_long (s : ByteArray) (size id : Int) (hs : s.size ≤ maxLen) (h : 400 < s.size) (w : World) :
    Calls Try.prog 10 #[.string s, .int .i64 size, .int .i64 id] w fun e w' => e = .returned (.tuple #[.string ByteArray.empty, .int .i64 1]) ∧ w' = w := by
  unfold maxLen at hs
  go_enter Try.func10, Try.ntmps10
  go_wp2
  go_ret2
  exact ⟨rfl, rfl⟩

theorem rpour_bad (s : ByteArray) (size id : Int) (hs : s.size ≤ 400)
    (h : ¬ (1 ≤ size ∧ size ≤ 16 ∧ 0 ≤ id ∧ id ≤ 65535 ∧ 1 ≤ s.size ∧ cnt s.size size.toNat ≤ 80)) (w : World) :
    Calls Try.prog 10 #[.string s, .int .i64 size, .int .i64 id] w fun e w' => e = .returned (.tuple #[.string ByteArray.empty, .int .i64 2]) ∧ w' = w := by
  by_cases h1 : size < 1
  · clear h
    go_enter Try.func10, Try.ntmps10
    go_wp2
    go_ret2
    exact ⟨rfl, rfl⟩
  by_cases h2 : 16 < size
  · clear h
    go_enter Try.func10, Try.ntmps10
    go_wp2
    go_ret2
    exact ⟨rfl, rfl⟩
  by_cases h3 : id < 0
  · clear h
    go_enter Try.func10, Try.ntmps10
    go_wp2
    go_ret2
    exact ⟨rfl, rfl⟩
  by_cases h4 : 65535 < id
  · clear h
    go_enter Try.func10, Try.ntmps10
    go_wp2
    go_ret2
    exact ⟨rfl, rfl⟩
  by_cases h5 : s.size = 0
  · clear h
    have he := empty_yes s h5
    clear h5
    go_enter Try.func10, Try.ntmps10
    go_wp2
    go_ret2
    exact ⟨rfl, rfl⟩
  have he := empty_no s (by omega)
  obtain ⟨z, rfl⟩ : ∃ z : Nat, size = z := ⟨size.toNat, by omega⟩
  have h6 : 80 < cnt s.size z := by
    have e : (z : Int).toNat = z := by simp
    rw [e] at h; omega
  have hz1 : 1 ≤ z := by omega
  have hz2 : z ≤ 16 := by omega
  clear h h5
  go_enter Try.func10, Try.ntmps10
  go_wp2_with (go_at_call 19; refine (rcount_any s.size z hs hz1 hz2 _).mono ?_; rintro e w' ⟨rfl, rfl⟩)
  go_ret2
  exact ⟨rfl, rfl⟩

theorem at_int (s : ByteArray) (i : Nat) (z : Int) (hz : z = (i : Int)) (hs : s.size ≤ 400) (hi : i < 10000) (w : World) :
    Calls Try.prog 21 #[.string s, .int .i64 z] w fun e w' => e = .returned (.int .i64 (byteAt s i : Nat)) ∧ w' = w := by
  subst hz; exact at_any s i w hs hi
theorem two_int (n : Nat) (z : Int) (hz : z = (n : Int)) (hn : n < 65536) (w : World) :
    Calls Try.prog 20 #[.int .i64 z] w fun e w' => e = .returned (.string (str (pair n))) ∧ Below w.heap.size w w' := by
  subst hz; exact two_any n hn w
theorem body_len (m size k id : Nat) (s : ByteArray) : (body m size k id s).length = size + 5 := by
  simp [body, head, pair, dataOf]
set_option maxHeartbeats 400000 in
theorem rpour_ok (s : ByteArray) (size id m k : Nat) (hk : k = cnt s.size size) (hs : s.size ≤ 400) (hs1 : 1 ≤ s.size) (hz1 : 1 ≤ size) (hz2 : size ≤ 16) (hid : id ≤ 65535) (hk2 : k ≤ 80) (hm : Drawn k id m) (w : World) :
    Calls Try.prog 10 #[.string s, .int .i64 (size : Int), .int .i64 (id : Int)] w fun e w' => e = .returned (.tuple #[.string (str (drop m size k id s)), .int .i64 0]) ∧ Below w.heap.size w w' := by
  have he := empty_no s hs1
  have hk1 : 1 ≤ k := by rw [hk]; exact cnt_pos _ _ hz1 hs1
  have HK : Hid (cnt s.size size = k) := hk.symm
  have HM : Hid (Drawn k id m) := hm
  clear hk hm
  have sa := str_append
  have k1 := conv_one
  have p1 : ∀ n, (str (pair n)).size = 2 := fun n => by rw [str_size]; rfl
  have p2 : ∀ a b, (str (pair a ++ pair b)).size = 4 := fun a b => by rw [str_size]; rfl
  have p3 : ∀ x, (str [x]).size = 1 := fun x => by rw [str_size]; rfl
  have p4 : ∀ q, (str (head id s.size size ++ dataOf m size k s q)).size = q + 5 := fun q => by rw [str_size, List.length_append, dataOf_len]; simp [head, pair]; omega
  go_enter Try.func10, Try.ntmps10
  go_wp2_with (first | (go_at_call 19; refine (rcount_any s.size size hs hz1 hz2 _).mono ?_; rintro e w' ⟨rfl, hw'⟩; obtain rfl := hw'.symm; rw [HK.out]) | (go_at_call 14; refine (rdraw_of k id m hk1 hk2 hid _ HM.out).mono ?_; rintro e w1 ⟨rfl, hown, hb⟩; have hlt1 := (hown.lt _ rfl).2) | (go_at_call 20; have hb2' := hb2; refine (two_any s.size (by omega) _).mono ?_; rintro e w3 ⟨rfl, hb3⟩) | (go_at_call 20; refine (two_any id (by omega) _).mono ?_; rintro e w2 ⟨rfl, hb2⟩))
  have hbs : Below w1.heap.size w1 (w3.alloc (Obj.cells #[Value.int IntKind.u8 ↑size] 5)) :=
    (hb2.trans (hb3.mono hb2.size)).alloc (Nat.le_trans hb2.size hb3.size) _
  clear hb2 hb3 HM HK
  go_loopw [12, 13] (fun v p wr => ∃ q : Nat, q ≤ size ∧ p = .int .i64 (q : Int) ∧ v = .string (str (head id s.size size ++ dataOf m size k s q)) ∧ Below w1.heap.size w1 wr) (fun _ p _ => size - (intOf p).toNat)
  case atStart => exact ⟨0, by omega, rfl, str_eq (by simp [head, dataOf]), hbs⟩
  case round =>
    clear hbs
    obtain ⟨q, hq, rfl, rfl, hbr⟩ := hrel
    have hsz := hbr.size
    by_cases hlt : q < size
    · go_wp2
      go_loop [14, 15] (fun c i => ∃ t : Nat, t ≤ k ∧ i = .int .i64 (t : Int) ∧ c = .int .i64 (xr (blk m size s q) t : Nat)) (fun _ i => k - (intOf i).toNat)
      case atStart => exact ⟨0, by omega, rfl, rfl⟩
      case round =>
        obtain ⟨t, ht, rfl, rfl⟩ := hrel
        have hxl := xrblk_lt m size s q t
        by_cases hltk : t < k
        · have hcell := hown.cellAt t (by omega)
          rw [bools_get _ _ _ hltk, ← hbr.cell (p := ⟨w.heap.size, t, none⟩) hlt1] at hcell
          by_cases hbit : m.testBit t = true
          · rw [hbit] at hcell
            have hml := mul_small t size (by omega) hz2
            obtain ⟨z, hzz⟩ : ∃ z, z = t * size := ⟨_, rfl⟩
            have hmi : (t : Int) * (size : Int) = (z : Int) := by rw [hzz]; norm_cast
            rw [← hzz] at hml
            have hyb := byteAt_lt s (z + q)
            have hx : bits .xor .i64 ((xr (blk m size s q) t : Nat) : Int) ((byteAt s (z + q) : Nat) : Int) = ((xr (blk m size s q) (t + 1) : Nat) : Int) := by
              rw [i64_xor _ _ (by omega) (by omega)]; simp only [xr]; rw [show blk m size s q t = byteAt s (z + q) from by unfold blk; rw [if_pos hbit, hzz]]
            clear hbit hzz
            go_wp2_with (go_at_call 21; refine (at_int s (z + q) _ (by omega) hs (by omega) _).mono ?_; rintro e w' ⟨rfl, hw'⟩; obtain rfl := hw'.symm)
            go_round
            case rel => exact ⟨t + 1, by omega, by go_num, rfl⟩
            case measure => simp [intOf]; omega
          · have hbit' : m.testBit t = false := by simpa using hbit
            rw [hbit'] at hcell
            have HX : Hid (xr (blk m size s q) (t + 1) = xr (blk m size s q) t) := by
              show _ = _; simp only [xr]; rw [show blk m size s q t = 0 from by unfold blk; rw [if_neg hbit], Nat.xor_zero]
            clear hbit hbit'
            go_wp2
            go_round
            case rel => exact ⟨t + 1, by omega, by go_num, by rw [HX.out]⟩
            case measure => simp [intOf]; omega
        · have htk : t = k := by omega
          subst htk
          go_wp2
          go_roundw
          case rel => exact ⟨q + 1, by omega, by go_num, str_eq (by rw [dataOf_succ]; simp [datum]), hbr.alloc hsz _⟩
          case measure => simp [intOf]; omega
    · have hqk : q = size := by omega
      subst hqk
      obtain ⟨B, hB⟩ : ∃ B, B = str (head id s.size q ++ dataOf m q k s q) := ⟨_, rfl⟩
      have hBs : B.size ≤ 1000 := by rw [hB, p4]; omega
      obtain ⟨c, hc⟩ : ∃ c, c = crc B B.size := ⟨_, rfl⟩
      have hcl : c < 65536 := by rw [hc]; exact crc_lt _ _
      have HC : Hid (crc B B.size = c) := hc.symm
      have HE : Hid (B ++ str (pair c) = str (drop m q k id s)) := by
        show _ = _; rw [hc, hB, str_append]; rfl
      rw [← hB]
      clear k1 sa p4 hB hc
      go_wp2_with (first | (go_at_call 22; refine (rsum_any B hBs _).mono ?_; rintro e w' ⟨rfl, hw'⟩; obtain rfl := hw'.symm; rw [HC.out]) | (go_at_call 20; refine (two_any c hcl _).mono ?_; rintro e w5 ⟨rfl, hb5⟩))
      go_ret2
      exact ⟨by show Ending.returned (.tuple #[.string (B ++ str (pair c)), .int .i64 0]) = _; rw [HE.out], hb.trans ((hbr.trans (hb5.mono hsz)).mono (by omega))⟩
end Go.Proofs.Ytnpcinjdbeilkaa
