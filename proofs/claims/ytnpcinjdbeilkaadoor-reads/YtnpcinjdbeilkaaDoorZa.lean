import Derived.Test.YtnpcinjdbeilkaaDoorYc
import Derived.Test.YtnpcinjdbeilkaaDoorXd
namespace Go.Proofs.YtnpcinjdbeilkaaDoor
open Go.RowKit Dw Period
set_option maxRecDepth 100000

theorem count_any (n size : Nat) (hn : n ≤ 400) (hs : 1 ≤ size) (hs2 : size ≤ 16) (w : World) :
    Calls Tryd.prog 45 #[.int .i64 (n : Int), .int .i64 (size : Int)] w fun e w' => e = .returned (.int .i64 (cnt n size : Nat)) ∧ w' = w := by
  have E : Hid (((cnt n size : Nat) : Int) = ((n : Int) + (size : Int) - 1) / (size : Int)) := by
    show _ = _; unfold cnt; rw [Int.natCast_ediv]; congr 1; omega
  have h1 : ((n : Int) + (size : Int) - 1) / (size : Int) ≤ 10000 := by
    rw [← E.out]; unfold cnt; have := Nat.div_le_self (n + size - 1) size; omega
  have h0 : 0 ≤ ((n : Int) + (size : Int) - 1) / (size : Int) := by rw [← E.out]; omega
  go_enter Tryd.func45, Tryd.ntmps45
  go_wp2
  go_ret
  exact ⟨ret_int E.out.symm, rfl⟩
theorem fit_yes (n size : Nat) (h1 : 1 ≤ n) (h2 : n ≤ 400) (h3 : 1 ≤ size) (h4 : size ≤ 16) (h5 : cnt n size ≤ 80) (w : World) :
    Calls Tryd.prog 58 #[.int .i64 (n : Int), .int .i64 (size : Int)] w fun e w' => e = .returned (.bool true) ∧ w' = w := by
  go_enter Tryd.func58, Tryd.ntmps58
  go_wp2_with (go_at_call 45; refine (count_any n size h2 h3 h4 _).mono ?_; rintro e w' ⟨rfl, hw'⟩; obtain rfl := hw'.symm)
  go_ret
  exact ⟨ret_bool (by simp; omega), rfl⟩
theorem fit_no (n : Nat) (size : Int) (h2 : n ≤ 400) (h : ¬ (1 ≤ n ∧ 1 ≤ size ∧ size ≤ 16 ∧ cnt n size.toNat ≤ 80)) (w : World) :
    Calls Tryd.prog 58 #[.int .i64 (n : Int), .int .i64 size] w fun e w' => e = .returned (.bool false) ∧ w' = w := by
  by_cases h1 : n < 1
  · clear h
    go_enter Tryd.func58, Tryd.ntmps58
    go_wp2
    go_ret
    exact ⟨rfl, rfl⟩
  by_cases h3 : size < 1
  · clear h
    go_enter Tryd.func58, Tryd.ntmps58
    go_wp2
    go_ret
    exact ⟨rfl, rfl⟩
  by_cases h4 : 16 < size
  · clear h
    go_enter Tryd.func58, Tryd.ntmps58
    go_wp2
    go_ret
    exact ⟨rfl, rfl⟩
  obtain ⟨z, rfl⟩ : ∃ z : Nat, size = z := ⟨size.toNat, by omega⟩
  have h6 : 80 < cnt n z := by
    have e : (z : Int).toNat = z := by simp
    rw [e] at h; omega
  have hz1 : 1 ≤ z := by omega
  have hz2 : z ≤ 16 := by omega
  clear h
  go_enter Tryd.func58, Tryd.ntmps58
  go_wp2_with (go_at_call 45; refine (count_any n z h2 hz1 hz2 _).mono ?_; rintro e w' ⟨rfl, hw'⟩; obtain rfl := hw'.symm)
  go_ret
  exact ⟨ret_bool (by simp; omega), rfl⟩

def mixRow (m size k : Nat) (s : ByteArray) (n : Nat) : List Nat := (List.range size).map (mixed m size k s n)
theorem mixRow_len (m size k : Nat) (s : ByteArray) (n : Nat) : (mixRow m size k s n).length = size := by simp [mixRow]
theorem mixRow_get (m size k : Nat) (s : ByteArray) (n p : Nat) (h : p < size) : (octs (mixRow m size k s n))[p]? = some (.int .u8 (mixed m size k s n p : Nat)) := by simp [octs, mixRow, h]
theorem mixRow_zero (m size k : Nat) (s : ByteArray) : octs (mixRow m size k s 0) = List.replicate size (.int .u8 0) := by
  apply List.ext_getElem
  · simp [octs, mixRow]
  · intro i h1 h2; simp [octs, mixRow, mixed_zero]
theorem mixRow_miss (m size k : Nat) (s : ByteArray) (n : Nat) (h : m.testBit (n / size) = false) : mixRow m size k s (n + 1) = mixRow m size k s n := by
  unfold mixRow; apply List.map_congr_left; intro p hp
  exact mixed_miss m size k s n p (by simpa using hp) h
theorem mixRow_hit (m size k : Nat) (s : ByteArray) (n : Nat) (hs : 0 < size) (hn : n / size < k) (h : m.testBit (n / size) = true) :
    (octs (mixRow m size k s n)).set (n % size) (.int .u8 ((mixed m size k s n (n % size) ^^^ byteAt s n : Nat) : Int)) = octs (mixRow m size k s (n + 1)) := by
  apply List.ext_getElem
  · simp [octs, mixRow]
  · intro p h1 h2
    have hp : p < size := by simpa [octs, mixRow] using h2
    simp only [octs, mixRow, List.getElem_set, List.getElem_map, List.getElem_range]
    by_cases e : n % size = p
    · rw [if_pos e]; subst e; rw [mixed_hit m size k s n hs hn h]
    · rw [if_neg e, mixed_other m size k s n p hp (fun e' => e e'.symm)]
theorem mixRow_all (m size k : Nat) (s : ByteArray) : mixRow m size k s s.size = dataOf m size k s size := by
  unfold mixRow dataOf; apply List.map_congr_left; intro p _; exact mixed_all m size k s p

theorem Tryd.info5 : (Tryd.prog.info? 5).map (fun i => (i.zero, i.size, i.bytes)) = some (some (.int .u8 0), 1, 1) := by kernel_rfl

set_option maxHeartbeats 400000 in
theorem mix_any (s : ByteArray) (size m k : Nat) (hs : s.size ≤ 400) (hz1 : 1 ≤ size) (hz2 : size ≤ 16) (hk : k = cnt s.size size) (hk2 : k ≤ 80) (hm : m < 2 ^ 80) (w : World) :
    Calls Tryd.prog 60 #[.string s, .int .i64 (size : Int), .agg #[.int .u64 (lo m : Nat), .int .u64 (hi m : Nat)]] w fun e w' => ∃ g, e = .returned (.slice (some ⟨g, 0, none⟩) size size) ∧
      w'.ownsRow w.heap.size 5 1 (.slice (some ⟨g, 0, none⟩) size size) size (octs (dataOf m size k s size)) ∧ Below w.heap.size w w' := by
  obtain ⟨i0, hi0, hy0, hy1, hy2⟩ := info_parts Tryd.info5
  have HK : Hid (∀ n, n < s.size → n / size < k) := by intro n hn; rw [hk]; exact cnt_gt _ _ _ hz1 hn
  clear hk
  go_enter Tryd.func60, Tryd.ntmps60
  go_wp2_with (at_make; refine wpList_make_full _ rfl _ _ 59 rfl (w.heap.size + 1) 5 i0 (.int .u8 0) 1 Tryd.underlying59 hi0 hy0 hy1 .i64 .i64 _ _ size rfl rfl rfl rfl (by rw [hy2]; omega) (by unfold maxLen; omega) (by simp) ?_; intro w1 hown hgrow)
  obtain ⟨w0, hw0⟩ : ∃ w0, w0 = w.alloc (Obj.cells #[Value.int IntKind.u64 (lo m : Nat), Value.int IntKind.u64 (hi m : Nat)] 70) := ⟨_, rfl⟩
  have c0 : w0.cell? ⟨w.heap.size, 0, none⟩ = some (.int .u64 (lo m : Nat)) := by rw [hw0]; simp
  have c1 : w0.cell? ⟨w.heap.size, 1, none⟩ = some (.int .u64 (hi m : Nat)) := by rw [hw0]; simp
  have hs0 : w0.heap.size = w.heap.size + 1 := by rw [hw0]; simp
  have hb0 : Below w.heap.size w w0 := by rw [hw0]; exact (Below.refl _ _).alloc (Nat.le_refl _) _
  have hb1 : Below (w.heap.size + 1) w0 w1 := by rw [hw0]; exact (Below.refl _ _).grown hgrow (by simp) (by simp)
  have hown1 : w1.ownsRow (w.heap.size + 1) 5 1 (.slice (some ⟨w.heap.size + 1, 0, none⟩) size size) size (octs (mixRow m size k s 0)) := by
    rw [mixRow_zero, ← toList_madeCells_one]; rw [Nat.mul_one] at hown; simp only [World.size_alloc] at hown; exact hown
  clear hw0 hown hgrow
  go_loopw [13] (fun i wr => ∃ n : Nat, n ≤ s.size ∧ i = .int .i64 (n : Int) ∧ wr.ownsRow (w.heap.size + 1) 5 1 (.slice (some ⟨w.heap.size + 1, 0, none⟩) size size) size (octs (mixRow m size k s n)) ∧ Below (w.heap.size + 1) w0 wr) (fun i _ => s.size - (intOf i).toNat)
  case atStart => exact ⟨0, by omega, rfl, hown1, hb1⟩
  case round =>
    clear hown1 hb1
    obtain ⟨n, hn, rfl, ho, hbr⟩ := hrel
    have hsz := hbr.size
    by_cases hlt : n < s.size
    · have q0 := (hbr.cell (p := ⟨w.heap.size, 0, none⟩) (by simp)).trans c0
      have q1 := (hbr.cell (p := ⟨w.heap.size, 1, none⟩) (by simp)).trans c1
      have htk := HK.out n hlt
      have hrl : n % size < size := Nat.mod_lt _ hz1
      by_cases hbit : m.testBit (n / size) = true
      · have hms := mixRow_hit m size k s n hz1 htk hbit
        have HB : Hid (m.testBit (n / size) = true) := hbit
        clear hbit
        obtain ⟨t, ht⟩ : ∃ t, t = n / size := ⟨_, rfl⟩
        have hti : (n : Int) / (size : Int) = (t : Int) := by rw [ht]; norm_cast
        rw [← ht] at htk HB
        clear ht
        obtain ⟨r, hr⟩ : ∃ r, r = n % size := ⟨_, rfl⟩
        have hri : (n : Int) % (size : Int) = (r : Int) := by rw [hr]; norm_cast
        rw [← hr] at hms hrl
        clear hr
        have hbl := byteAt_lt s n
        have hml := mixed_lt m size k s n r
        have HMS : Hid ((octs (mixRow m size k s n)).set r (.int .u8 ((mixed m size k s n r ^^^ byteAt s n : Nat) : Int)) = octs (mixRow m size k s (n + 1))) := hms
        clear hms
        obtain ⟨v, hv⟩ : ∃ v, v = mixed m size k s n r ^^^ byteAt s n := ⟨_, rfl⟩
        have hx : bits .xor .u8 ((mixed m size k s n r : Nat) : Int) (s[n].toNat : Int) = (v : Int) := by
          rw [byteAt_get s n hlt, u8_xor_nat _ _ hml hbl, hv]
        rw [← hv] at HMS
        clear hv
        go_wp2
        go_region_with (go_at_call 65; refine (has_at m t hm (by omega) _).mono ?_; rintro e w2 ⟨rfl, hb2⟩; rw [HB.out])
        all_goals
          have ho2 := own_below ho.drew hb2 (Nat.le_refl _)
          have hb3 : Below (w.heap.size + 1) w0 w2 := (hbr.drew).trans (hb2.mono (by show w.heap.size + 1 ≤ wr.heap.size; omega))
          have hcell := ho2.cellAt r (by omega)
          rw [mixRow_get _ _ _ _ _ _ hrl] at hcell
          have hfz := ho2.frozenAt r
          have hst := ho2.stored r (.int .u8 (v : Int))
          rw [HMS.out] at hst
          clear ho hbr q0 q1 hb2
          go_wp2
          go_region
          all_goals
            go_wp2
            go_roundw
            case rel => exact ⟨n + 1, by omega, by go_num, hst.1.drew, (hb3.setCell (by simp) _).drew⟩
            case measure => simp [intOf]; omega
      · have hms := mixRow_miss m size k s n (by simpa using hbit)
        have HMS : Hid (mixRow m size k s (n + 1) = mixRow m size k s n) := hms
        have HB : Hid (m.testBit (n / size) = false) := by show _ = _; simpa using hbit
        clear hbit hms
        obtain ⟨t, ht⟩ : ∃ t, t = n / size := ⟨_, rfl⟩
        have hti : (n : Int) / (size : Int) = (t : Int) := by rw [ht]; norm_cast
        rw [← ht] at htk HB
        clear ht
        go_wp2
        go_region_with (go_at_call 65; refine (has_at m t hm (by omega) _).mono ?_; rintro e w2 ⟨rfl, hb2⟩; rw [HB.out])
        all_goals
          have ho2 := own_below ho.drew hb2 (Nat.le_refl _)
          have hb3 : Below (w.heap.size + 1) w0 w2 := (hbr.drew).trans (hb2.mono (by show w.heap.size + 1 ≤ wr.heap.size; omega))
          clear ho hbr q0 q1 hb2
          go_wp2
          go_roundw
          case rel => exact ⟨n + 1, by omega, by go_num, by rw [HMS.out]; exact ho2, hb3⟩
          case measure => simp [intOf]; omega
    · have hnk : n = s.size := by omega
      subst hnk
      rw [mixRow_all] at ho
      go_wp2
      go_ret
      exact ⟨_, rfl, own_base ho (by omega), hb0.trans (hbr.mono (by omega))⟩
end Go.Proofs.YtnpcinjdbeilkaaDoor
