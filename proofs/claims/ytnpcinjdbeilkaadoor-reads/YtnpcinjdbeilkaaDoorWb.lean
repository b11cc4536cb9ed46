import Derived.Test.YtnpcinjdbeilkaaDoorWa
namespace Go.Proofs.YtnpcinjdbeilkaaDoor
open Go.RowKit Dw Period
set_option maxRecDepth 100000

theorem Tryd.info4 : (Tryd.prog.info? 4).map (fun i => (i.zero, i.size, i.bytes)) = some (some (.bool false), 1, 1) := by kernel_rfl

set_option maxHeartbeats 2000000 in
theorem rdraw_any (k id x d J : Nat) (hk : 1 ≤ k) (hk2 : k ≤ 80) (hid : id ≤ 65535) (w : World)
    (hx : it turn 4 (seed k id) = x) (hd : Deg k (x % tot k k) d) (hJ : Enough k x d J) :
    Calls Tryd.prog 41 #[.int .i64 (k : Int), .int .i64 (id : Int)] w fun e w' => e = .returned (.slice (some ⟨w.heap.size, 0, none⟩) k k) ∧
      w'.ownsRow w.heap.size 4 1 (.slice (some ⟨w.heap.size, 0, none⟩) k k) k (bools (ms k x J) k) ∧ Below w.heap.size w w' := by
  obtain ⟨s, hs⟩ : ∃ s, s = seed k id := ⟨_, rfl⟩
  have hsl : s < 4294967296 := by rw [hs]; exact seed_lt k id
  have HSI : Hid (((40503 : Int) * (id : Int) + 2654435769 * (k : Int) + 12345) % 4294967296 = (s : Int)) := by show _ = (s : Int); rw [hs]; unfold seed; omega
  have HX : Hid (it turn 4 s = x) := by rw [hs]; exact hx
  have hxl : x < 4294967296 := by rw [← HX.out]; exact it_turn_lt 4 s hsl
  clear hs hx
  have hd0 := hd.1
  have hdk := hd.2.1
  have hd2 := hd.2.2.2
  have htp := deg_pos hd
  have htd := tot_small k d (by omega)
  have HD : Hid (Deg k (x % tot k k) d) := hd
  have HJ : Hid (Enough k x d J) := hJ
  obtain ⟨r, hr⟩ : ∃ r, r = x % tot k k := ⟨_, rfl⟩
  rw [← hr] at hd2 HD
  have HR : Hid ((x : Int) % (tot k k : Nat) = (r : Int)) := by show _ = (r : Int); rw [hr]; rfl
  clear hd hJ hr
  obtain ⟨i0, hi, hz0, hz1, hz2⟩ := info_parts Tryd.info4
  go_enter Tryd.func41, Tryd.ntmps41
  go_wp2
  go_loop [5, 6] (fun x i => ∃ j : Nat, j ≤ 4 ∧ i = .int .i64 j ∧ x = .int .i64 (it turn j s : Nat)) (fun _ i => 4 - (intOf i).toNat)
  case atStart => exact ⟨0, by omega, rfl, by rw [HSI.out]; rfl⟩
  case round =>
    clear HSI
    obtain ⟨j, hj, rfl, rfl⟩ := hrel
    have hjl := it_turn_lt j s hsl
    by_cases hlt : j < 4
    · go_wp2_with (go_at_call 67; refine (turn_any _ (by assumption) _).mono ?_; rintro e w' ⟨rfl, rfl⟩)
      go_round
      case rel => exact ⟨j + 1, by omega, by go_num, by rw [it_succ']⟩
      case measure => simp [intOf]; omega
    · have hj4 : j = 4 := by omega
      subst hj4
      rw [HX.out]
      clear hjl
      go_wp2
      go_loop [7, 8] (fun a i => ∃ n : Nat, n ≤ k ∧ i = .int .i64 ((n : Int) + 1) ∧ a = .int .i64 (tot k n : Nat)) (fun _ i => k + 1 - (intOf i).toNat)
      case atStart => exact ⟨0, by omega, rfl, rfl⟩
      case round =>
        obtain ⟨n, hn, rfl, rfl⟩ := hrel
        have htn := tot_small k n (by omega)
        by_cases hlt : n < k
        · have hw := wt_le (n + 1) k
          go_wp2_with (go_at_call 68; refine (rweight_any (n + 1) k (by omega) (by omega) hk hk2 _).mono ?_; rintro e w' ⟨rfl, rfl⟩)
          go_round
          case rel => exact ⟨n + 1, by omega, by go_num, by show _ = Value.int .i64 ((tot k n + wt (n + 1) k : Nat) : Int); go_num⟩
          case measure => simp [intOf]; omega
        · have hnk : n = k := by omega
          subst hnk
          go_wp2
          go_loop [10, 11] (fun a i => ∃ m : Nat, m ≤ d ∧ i = .int .i64 (m : Int) ∧ a = .int .i64 ((r : Int) - (tot n m : Nat))) (fun _ i => d - (intOf i).toNat)
          case atStart => exact ⟨0, by omega, rfl, by rw [HR.out]; show _ = Value.int .i64 ((r : Int) - (0 : Nat)); simp⟩
          case round =>
            obtain ⟨m, hm, rfl, rfl⟩ := hrel
            have htm := tot_small n m (by omega)
            by_cases hlt : m < d
            · have hw := wt_le (m + 1) n
              have hge := deg_le HD.out hlt
              go_wp2_with (go_at_call 68; refine (rweight_any (m + 1) n (by omega) (by omega) hk hk2 _).mono ?_; rintro e w' ⟨rfl, rfl⟩)
              go_round
              case rel => exact ⟨m + 1, by omega, by go_num, by show _ = Value.int .i64 ((r : Int) - ((tot n m + wt (m + 1) n : Nat) : Int)); go_num⟩
              case measure => simp [intOf]; omega
            · have hmd : m = d := by omega
              subst hmd
              clear HR HD HX
              go_wp2_with (at_make; refine wpList_make_full _ rfl _ _ 33 rfl w.heap.size 4 i0 (.bool false) 1 Tryd.underlying33 hi hz0 hz1 .i64 .i64 _ _ n rfl rfl rfl rfl (by rw [hz2]; omega) (by unfold maxLen; omega) (Nat.le_refl _) ?_; intro w1 hown hgrow)
              have hown1 : w1.ownsRow w.heap.size 4 1 (.slice (some ⟨w.heap.size, 0, none⟩) n n) n (bools 0 n) := by
                rw [bools_zero, ← toList_madeCells_one]; rw [Nat.mul_one] at hown; exact hown
              have hb1 : Below w.heap.size w w1 := (Below.refl _ _).grown hgrow (Nat.le_refl _) (by simp)
              clear hown hgrow
              go_loopg [5, 14] J (fun g a c wr => ∃ j : Nat, j + g = J ∧ a = .int .i64 (it turn j x : Nat) ∧ c = .int .i64 (cs n x j : Nat) ∧ wr.ownsRow w.heap.size 4 1 (.slice (some ⟨w.heap.size, 0, none⟩) n n) n (bools (ms n x j) n) ∧ Below w.heap.size w wr)
              case atStart => exact ⟨0, by omega, rfl, rfl, hown1, hb1⟩
              case round =>
                clear hown1 hb1
                obtain ⟨j, hj, rfl, rfl, hown, hb⟩ := hrel
                have hjl := it_turn_lt j x hxl
                have hyl := turn_lt _ hjl
                have hcb := cs_le80 n x j hk hk2
                by_cases hg : gk = 0
                · have hjJ : j = J := by omega
                  subst hjJ
                  have hc : cs n x j = m := HJ.out.1
                  go_wp2
                  go_ret
                  exact ⟨rfl, hown, hb⟩
                · have hc : cs n x j < m := HJ.out.2 j (by omega)
                  have hmod : turn (it turn j x) % n < n := Nat.mod_lt _ hk
                  have hcell := hown.cellAt (turn (it turn j x) % n) (by omega)
                  rw [bools_get _ _ _ hmod] at hcell
                  have hfz := hown.frozenAt (turn (it turn j x) % n)
                  have hnx : it turn (j + 1) x = turn (it turn j x) := it_succ' turn j x
                  by_cases hbit : (ms n x j).testBit (turn (it turn j x) % n) = true
                  · have hw := way_old (k := n) (x := x) (j := j) (by rw [hnx]; exact hbit)
                    rw [hbit] at hcell
                    have HW : Hid (ms n x (j + 1) = ms n x j ∧ cs n x (j + 1) = cs n x j) := hw
                    have HN : Hid (it turn (j + 1) x = turn (it turn j x)) := hnx
                    clear hw hbit hfz hnx
                    go_wp2_with (go_at_call 67; refine (turn_any _ (by assumption) _).mono ?_; rintro e w' ⟨rfl, rfl⟩)
                    go_roundg (gk - 1)
                    case rel => exact ⟨j + 1, by omega, by rw [HN.out], by rw [HW.out.2], by rw [HW.out.1]; exact hown, hb⟩
                    case measure => omega
                  · have hbit' : (ms n x j).testBit (turn (it turn j x) % n) = false := by simpa using hbit
                    have hw := way_new (k := n) (x := x) (j := j) (by rw [hnx]; exact hbit')
                    rw [hbit'] at hcell
                    have HW : Hid (ms n x (j + 1) = ms n x j ||| 2 ^ (turn (it turn j x) % n) ∧ cs n x (j + 1) = cs n x j + 1) := by rw [← hnx]; exact hw
                    have HN : Hid (it turn (j + 1) x = turn (it turn j x)) := hnx
                    clear hw hbit hbit' hnx
                    have hst := hown.stored (turn (it turn j x) % n) (.bool true)
                    rw [bools_set] at hst
                    go_wp2_with (go_at_call 67; refine (turn_any _ (by assumption) _).mono ?_; rintro e w' ⟨rfl, rfl⟩)
                    go_roundg (gk - 1)
                    case rel => exact ⟨j + 1, by omega, by rw [HN.out], by rw [HW.out.2]; go_num, by rw [HW.out.1]; exact hst.1, hb.setCell (Nat.le_refl _) _⟩
                    case measure => omega
theorem rdraw_of (k id m : Nat) (hk : 1 ≤ k) (hk2 : k ≤ 80) (hid : id ≤ 65535) (w : World) (hm : Drawn k id m) :
    Calls Tryd.prog 41 #[.int .i64 (k : Int), .int .i64 (id : Int)] w fun e w' => e = .returned (.slice (some ⟨w.heap.size, 0, none⟩) k k) ∧
      w'.ownsRow w.heap.size 4 1 (.slice (some ⟨w.heap.size, 0, none⟩) k k) k (bools m k) ∧ Below w.heap.size w w' := by
  obtain ⟨x, d, J, hx, hd, hJ, rfl⟩ := hm
  exact rdraw_any k id x d J hk hk2 hid w hx hd hJ
end Go.Proofs.YtnpcinjdbeilkaaDoor
