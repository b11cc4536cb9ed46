import Derived.Test.YtnpcinjdbeilkaaDoorWb
namespace Go.Proofs.YtnpcinjdbeilkaaDoor
open Go.RowKit Dw Period
set_option maxRecDepth 100000

theorem Tryd.info3 : (Tryd.prog.info? 3).map (fun i => (i.zero, i.size, i.bytes)) = some (some (.int .i64 0), 1, 8) := by kernel_rfl

set_option maxHeartbeats 400000 in
theorem rblocks_bad (k id : Int) (w : World) (h : ¬ (1 ≤ k ∧ k ≤ 80 ∧ 0 ≤ id ∧ id ≤ 65535)) :
    Calls Tryd.prog 26 #[.int .i64 k, .int .i64 id] w fun e w' => e = .returned (.tuple #[.slice none 0 0, .int .i64 2]) ∧ w' = w := by
  by_cases h1 : k < 1
  · clear h
    go_enter Tryd.func26, Tryd.ntmps26
    go_wp2
    go_ret2
    exact ⟨rfl, rfl⟩
  by_cases h2 : 80 < k
  · clear h
    go_enter Tryd.func26, Tryd.ntmps26
    go_wp2
    go_ret2
    exact ⟨rfl, rfl⟩
  by_cases h3 : id < 0
  · clear h
    go_enter Tryd.func26, Tryd.ntmps26
    go_wp2
    go_ret2
    exact ⟨rfl, rfl⟩
  have h4 : 65535 < id := by omega
  clear h
  go_enter Tryd.func26, Tryd.ntmps26
  go_wp2
  go_ret2
  exact ⟨rfl, rfl⟩

set_option maxHeartbeats 1000000 in
theorem rblocks_ok (k id m : Nat) (hk : 1 ≤ k) (hk2 : k ≤ 80) (hid : id ≤ 65535) (w : World) (hm : Drawn k id m) :
    Calls Tryd.prog 26 #[.int .i64 (k : Int), .int .i64 (id : Int)] w fun e w' => ∃ v, e = .returned (.tuple #[v, .int .i64 0]) ∧
      w'.ownsRow w.heap.size 3 1 v (lst m k).length (nums (lst m k)) ∧ Below w.heap.size w w' := by
  have HM : Hid (Drawn k id m) := hm
  clear hm
  obtain ⟨i0, hi, hz0, hz1, hz2⟩ := info_parts Tryd.info3
  go_enter Tryd.func26, Tryd.ntmps26
  go_wp2_with (go_at_call 41; refine (rdraw_of k id m hk hk2 hid _ HM.out).mono ?_; rintro e w1 ⟨rfl, hown, hb⟩)
  clear HM
  have hlt1 : w.heap.size < w1.heap.size := (hown.lt _ rfl).2
  go_loopw [7, 8] (fun v i wr => ∃ n : Nat, n ≤ k ∧ i = .int .i64 n ∧ wr.ownsRow w1.heap.size 3 1 v (lst m n).length (nums (lst m n)) ∧ Below w1.heap.size w1 wr) (fun _ i _ => k - (intOf i).toNat)
  case atStart => exact ⟨0, by omega, rfl, World.ownsRow_nil _ _ _ _, Below.refl _ _⟩
  case round =>
    obtain ⟨n, hn, rfl, ho, hbr⟩ := hrel
    have hsz := hbr.size
    by_cases hlt : n < k
    · have hcell := hown.cellAt n (by omega)
      rw [bools_get _ _ _ hlt, ← hbr.cell (p := ⟨w.heap.size, n, none⟩) hlt1] at hcell
      have hll := lst_len m n
      by_cases hbit : m.testBit n = true
      · rw [hbit] at hcell
        have HL : Hid (lst m (n + 1) = lst m n ++ [n]) := by show _ = _; rw [lst_succ, if_pos hbit]
        clear hbit
        go_wp2_with (at_builtin; go_loud (refine wpList_append_own _ rfl _ _ 48 rfl w1.heap.size 3 i0 (.int .i64 0) 1 8 Tryd.underlying48 hi hz0 hz1 hz2 rfl (by decide) _ _ _ rfl (ho.alloc _) ⟨wr.heap.size, 0, none⟩ 1 1 [.int .i64 (n : Int)] rfl rfl (cell_one_new _ _ _) (by intro u hu; simp at hu; subst hu; rfl) (by unfold maxLen; omega) (by omega) (by simp; omega) ?_); intro v' w2 ho2 hg2 _)
        have hb2 : Below w1.heap.size w1 w2 := (hbr.alloc hsz _).grown hg2 (by simp; omega) (fun k hk => (ho.lt k hk).1)
        go_roundw
        case rel => exact ⟨n + 1, by omega, by go_num, by rw [HL.out, nums_snoc, List.length_append]; exact ho2, hb2⟩
        case measure => simp [intOf]; omega
      · have hbit' : m.testBit n = false := by simpa using hbit
        rw [hbit'] at hcell
        have HL : Hid (lst m (n + 1) = lst m n) := by show _ = _; rw [lst_succ, if_neg hbit]
        clear hbit hbit'
        go_wp2
        go_roundw
        case rel => exact ⟨n + 1, by omega, by go_num, by rw [HL.out]; exact ho, hbr⟩
        case measure => simp [intOf]; omega
    · have hnk : n = k := by omega
      subst hnk
      go_wp2
      go_ret2
      exact ⟨_, rfl, own_base ho (by omega), hb.trans (hbr.mono (by omega))⟩
end Go.Proofs.YtnpcinjdbeilkaaDoor
