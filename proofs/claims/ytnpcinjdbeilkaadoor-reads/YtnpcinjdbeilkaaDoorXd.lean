import Derived.Test.YtnpcinjdbeilkaaDoorXc
namespace Go.Proofs.YtnpcinjdbeilkaaDoor
open Go.RowKit Dw Period
set_option maxRecDepth 100000

set_option maxHeartbeats 1000000 in
theorem list_any (m : Nat) (hm : m < 2 ^ 80) (w : World) :
    Calls Tryd.prog 40 #[.agg #[.int .u64 (lo m : Nat), .int .u64 (hi m : Nat)]] w fun e w' => ∃ v, e = .returned v ∧
      w'.ownsRow w.heap.size 3 1 v (lst m 80).length (nums (lst m 80)) ∧ Below w.heap.size w w' := by
  obtain ⟨i0, hi0, hz0, hz1, hz2⟩ := info_parts Tryd.info3
  go_enter Tryd.func40, Tryd.ntmps40
  go_wp2
  obtain ⟨w0, hw0⟩ : ∃ w0, w0 = w.alloc (Obj.cells #[Value.int IntKind.u64 (lo m : Nat), Value.int IntKind.u64 (hi m : Nat)] 70) := ⟨_, rfl⟩
  have c0 : w0.cell? ⟨w.heap.size, 0, none⟩ = some (.int .u64 (lo m : Nat)) := by rw [hw0]; simp
  have c1 : w0.cell? ⟨w.heap.size, 1, none⟩ = some (.int .u64 (hi m : Nat)) := by rw [hw0]; simp
  have hs0 : w0.heap.size = w.heap.size + 1 := by rw [hw0]; simp
  have hb0 : Below w.heap.size w w0 := by rw [hw0]; exact (Below.refl _ _).alloc (Nat.le_refl _) _
  rw [← hw0]
  have HS0 : Hid (w0.heap.size = w.heap.size + 1) := hs0
  clear hw0 hs0
  go_loopw [3, 5] (fun v i wr => ∃ n : Nat, n ≤ 80 ∧ i = .int .i64 n ∧ wr.ownsRow w0.heap.size 3 1 v (lst m n).length (nums (lst m n)) ∧ Below w0.heap.size w0 wr) (fun _ i _ => 80 - (intOf i).toNat)
  case atStart => exact ⟨0, by omega, rfl, World.ownsRow_nil _ _ _ _, Below.refl _ _⟩
  case round =>
    obtain ⟨n, hn, rfl, ho, hbr⟩ := hrel
    have hsz := hbr.size
    have hlt0 : w.heap.size < w0.heap.size := by rw [HS0.out]; omega
    by_cases hlt : n < 80
    · have q0 := (hbr.cell (p := ⟨w.heap.size, 0, none⟩) hlt0).trans c0
      have q1 := (hbr.cell (p := ⟨w.heap.size, 1, none⟩) hlt0).trans c1
      have hll := lst_len m n
      by_cases hbit : m.testBit n = true
      · have HB : Hid (m.testBit n = true) := hbit
        have HL : Hid (lst m (n + 1) = lst m n ++ [n]) := by show _ = _; rw [lst_succ, if_pos hbit]
        clear hbit
        go_wp2_with (first | (go_at_call 65; refine (has_at m n hm hlt _).mono ?_; rintro e w2 ⟨rfl, hb2⟩; rw [HB.out]; have ho1 := own_below ho hb2 (Nat.le_refl _); have hs2 := hb2.size) | (at_builtin; go_loud (refine wpList_append_own _ rfl _ _ 48 rfl w0.heap.size 3 i0 (.int .i64 0) 1 8 Tryd.underlying48 hi0 hz0 hz1 hz2 rfl (by decide) _ _ _ rfl (ho1.alloc _) ⟨w2.heap.size, 0, none⟩ 1 1 [.int .i64 (n : Int)] rfl rfl (cell_one_new _ _ _) (by intro u hu; simp at hu; subst hu; rfl) (by unfold maxLen; omega) (by omega) (by simp; omega) ?_); intro v' w3 ho3 hg3 _))
        have hb3 : Below w0.heap.size w0 w3 := ((hbr.trans (hb2.mono hsz)).alloc (by omega) _).grown hg3 (by simp; omega) (fun k hk => (ho.lt k hk).1)
        go_roundw
        case rel => exact ⟨n + 1, by omega, by go_num, by rw [HL.out, nums_snoc, List.length_append]; exact ho3, hb3⟩
        case measure => simp [intOf]; omega
      · have HB : Hid (m.testBit n = false) := by show _ = _; simpa using hbit
        have HL : Hid (lst m (n + 1) = lst m n) := by show _ = _; rw [lst_succ, if_neg hbit]
        clear hbit
        go_wp2_with (go_at_call 65; refine (has_at m n hm hlt _).mono ?_; rintro e w2 ⟨rfl, hb2⟩; rw [HB.out])
        have ho1 := own_below ho hb2 (Nat.le_refl _)
        go_roundw
        case rel => exact ⟨n + 1, by omega, by go_num, by rw [HL.out]; exact ho1, hbr.trans (hb2.mono hsz)⟩
        case measure => simp [intOf]; omega
    · have hnk : n = 80 := by omega
      subst hnk
      go_wp2
      go_ret
      exact ⟨_, rfl, own_base ho (by omega), hb0.trans (hbr.mono (by omega))⟩

theorem isid_yes (id : Int) (h1 : 0 ≤ id) (h2 : id ≤ 65535) (w : World) :
    Calls Tryd.prog 38 #[.int .i64 id] w fun e w' => e = .returned (.bool true) ∧ w' = w := by
  go_enter Tryd.func38, Tryd.ntmps38
  go_wp2
  go_ret
  exact ⟨ret_bool (by simp), rfl⟩
theorem isid_no (id : Int) (h : id < 0 ∨ 65535 < id) (w : World) :
    Calls Tryd.prog 38 #[.int .i64 id] w fun e w' => e = .returned (.bool false) ∧ w' = w := by
  rcases h with h | h
  · have hd : decide (0 ≤ id) = false := by simpa using h
    go_enter Tryd.func38, Tryd.ntmps38
    go_wp2
    go_ret
    exact ⟨rfl, rfl⟩
  · have h0 : 0 ≤ id := by omega
    go_enter Tryd.func38, Tryd.ntmps38
    go_wp2
    go_ret
    exact ⟨ret_bool (by simp; omega), rfl⟩

theorem blocks_bad (k id : Int) (w : World) (h : ¬ (1 ≤ k ∧ k ≤ 80 ∧ 0 ≤ id ∧ id ≤ 65535)) :
    Calls Tryd.prog 25 #[.int .i64 k, .int .i64 id] w fun e w' => e = .returned (.tuple #[.slice none 0 0, .int .i64 2]) ∧ w' = w := by
  by_cases h1 : k < 1
  · clear h
    go_enter Tryd.func25, Tryd.ntmps25
    go_wp2
    go_ret2
    exact ⟨rfl, rfl⟩
  by_cases h2 : 80 < k
  · clear h
    go_enter Tryd.func25, Tryd.ntmps25
    go_wp2
    go_ret2
    exact ⟨rfl, rfl⟩
  have h3 : Hid (id < 0 ∨ 65535 < id) := by show _ ∨ _; omega
  clear h
  go_enter Tryd.func25, Tryd.ntmps25
  go_wp2_with (go_at_call 38; refine (isid_no id h3.out _).mono ?_; rintro e w' ⟨rfl, rfl⟩)
  go_ret2
  exact ⟨rfl, rfl⟩

theorem blocks_ok (k id m : Nat) (hk : 1 ≤ k) (hk2 : k ≤ 80) (hid : id ≤ 65535) (w : World) (hm : Drawn k id m) (hmk : m < 2 ^ k) :
    Calls Tryd.prog 25 #[.int .i64 (k : Int), .int .i64 (id : Int)] w fun e w' => ∃ v, e = .returned (.tuple #[v, .int .i64 0]) ∧
      w'.ownsRow w.heap.size 3 1 v (lst m k).length (nums (lst m k)) ∧ Below w.heap.size w w' := by
  have HM : Hid (Drawn k id m) := hm
  have hm80 : m < 2 ^ 80 := Nat.lt_of_lt_of_le hmk (Nat.pow_le_pow_right (by omega) hk2)
  have HL : Hid (lst m 80 = lst m k) := lst_beyond m k 80 hmk hk2
  clear hm hmk
  go_enter Tryd.func25, Tryd.ntmps25
  go_wp2_with (first | (go_at_call 38; refine (isid_yes (id : Int) (by omega) (by omega) _).mono ?_; rintro e w' ⟨rfl, rfl⟩) | (go_at_call 39; refine (draw_of k id m hk hk2 hid _ HM.out).mono ?_; rintro e w1 ⟨rfl, hb1⟩) | (go_at_call 40; refine (list_any m hm80 _).mono ?_; rintro e w2 ⟨v, rfl, ho2, hb2⟩))
  have hs := hb1.size
  rw [HL.out] at ho2
  go_ret2
  exact ⟨_, rfl, own_base ho2 hs, hb1.trans (hb2.mono hs)⟩

theorem num_any (e : Int) (w : World) : Calls Tryd.prog 11 #[.int .i64 e] w fun x w' => x = .returned (.int .i64 e) ∧ w' = w := by
  go_enter Tryd.func11, Tryd.ntmps11
  go_wp2
  go_ret
  exact ⟨rfl, rfl⟩
end Go.Proofs.YtnpcinjdbeilkaaDoor
