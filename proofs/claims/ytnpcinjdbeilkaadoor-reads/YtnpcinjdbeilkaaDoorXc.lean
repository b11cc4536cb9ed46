import Derived.Test.YtnpcinjdbeilkaaDoorXb
import Derived.Test.YtnpcinjdbeilkaaDoorWc
namespace Go.Proofs.YtnpcinjdbeilkaaDoor
open Go.RowKit Dw Period
set_option maxRecDepth 100000

def lo (m : Nat) : Nat := m % 18446744073709551616
def hi (m : Nat) : Nat := m / 18446744073709551616
theorem has_at (m n : Nat) (hm : m < 2 ^ 80) (hn : n < 80) (w : World) :
    Calls Tryd.prog 65 #[.agg #[.int .u64 (lo m : Nat), .int .u64 (hi m : Nat)], .int .i64 (n : Int)] w fun e w' => e = .returned (.bool (m.testBit n)) ∧ Below w.heap.size w w' := has_any m n hm hn w
theorem with_at (m n : Nat) (hm : m < 2 ^ 80) (hn : n < 80) (w : World) :
    Calls Tryd.prog 66 #[.agg #[.int .u64 (lo m : Nat), .int .u64 (hi m : Nat)], .int .i64 (n : Int)] w fun e w' => e = .returned (.agg #[.int .u64 (lo (m ||| 2 ^ n) : Nat), .int .u64 (hi (m ||| 2 ^ n) : Nat)]) ∧ Below w.heap.size w w' := with_any m n hm hn w

theorem ms_80 (k x j : Nat) (hk : 1 ≤ k) (hk2 : k ≤ 80) : ms k x j < 2 ^ 80 :=
  Nat.lt_of_lt_of_le (ms_lt k x j hk) (Nat.pow_le_pow_right (by omega) hk2)

/-- what the drawing loop keeps in memory -/
structure Kept (w wr : World) (y m : Nat) : Prop where
  sc : wr.cell? ⟨w.heap.size + 1, 0, none⟩ = some (.int .u32 (y : Int))
  sf : wr.frozen? ⟨w.heap.size + 1, 0, none⟩ = false
  m0 : wr.cell? ⟨w.heap.size + 1 + 1, 0, none⟩ = some (.int .u64 (lo m : Nat))
  m1 : wr.cell? ⟨w.heap.size + 1 + 1, 1, none⟩ = some (.int .u64 (hi m : Nat))
  f0 : wr.frozen? ⟨w.heap.size + 1 + 1, 0, none⟩ = false
  f1 : wr.frozen? ⟨w.heap.size + 1 + 1, 1, none⟩ = false
  r0 : wr.cell? ⟨w.heap.size, 0, none⟩ = some (.int .u64 0)
  r1 : wr.cell? ⟨w.heap.size, 1, none⟩ = some (.int .u64 0)
  g0 : wr.frozen? ⟨w.heap.size, 0, none⟩ = false
  g1 : wr.frozen? ⟨w.heap.size, 1, none⟩ = false
  be : Below w.heap.size w wr
  sz : w.heap.size + 3 ≤ wr.heap.size

theorem Kept.next {w wr : World} {y m : Nat} (h : Kept w wr y m) (z : Nat) : Kept w (wr.setCell ⟨w.heap.size + 1, 0, none⟩ (.int .u32 (z : Int))) z m := by
  have hsz := h.sz
  refine ⟨World.cell?_setCell_same _ _ _ h.sc, by simpa using h.sf, ?_, ?_, by simpa using h.f0, by simpa using h.f1, ?_, ?_, by simpa using h.g0, by simpa using h.g1, h.be.setCell (by simp) _, by simpa using hsz⟩
  · rw [set_other (by omega)]; exact h.m0
  · rw [set_other (by omega)]; exact h.m1
  · rw [set_other (by omega)]; exact h.r0
  · rw [set_other (by omega)]; exact h.r1
theorem Kept.below {w wr w' : World} {y m : Nat} (h : Kept w wr y m) (hb : Below wr.heap.size wr w') : Kept w w' y m := by
  have hsz := h.sz
  have hs := hb.size
  obtain ⟨hc, hf⟩ := bcell hb
  refine ⟨?_, ?_, ?_, ?_, ?_, ?_, ?_, ?_, ?_, ?_, h.be.trans (hb.mono (by omega)), by omega⟩
  · rw [hc _ _ (by omega)]; exact h.sc
  · rw [hf _ _ (by omega)]; exact h.sf
  · rw [hc _ _ (by omega)]; exact h.m0
  · rw [hc _ _ (by omega)]; exact h.m1
  · rw [hf _ _ (by omega)]; exact h.f0
  · rw [hf _ _ (by omega)]; exact h.f1
  · rw [hc _ _ (by omega)]; exact h.r0
  · rw [hc _ _ (by omega)]; exact h.r1
  · rw [hf _ _ (by omega)]; exact h.g0
  · rw [hf _ _ (by omega)]; exact h.g1
theorem Kept.store {w wr : World} {y m : Nat} (h : Kept w wr y m) (m' : Nat) : Kept w ((wr.setCell ⟨w.heap.size + 1 + 1, 0, none⟩ (.int .u64 (lo m' : Nat))).setCell ⟨w.heap.size + 1 + 1, 1, none⟩ (.int .u64 (hi m' : Nat))) y m' := by
  have hsz := h.sz
  have e1 := World.cell?_setCell_same _ _ (.int .u64 (lo m' : Nat)) h.m0
  have e2 : (wr.setCell ⟨w.heap.size + 1 + 1, 0, none⟩ (.int .u64 (lo m' : Nat))).cell? ⟨w.heap.size + 1 + 1, 1, none⟩ = some (.int .u64 (hi m : Nat)) := by rw [set_other (by omega)]; exact h.m1
  refine ⟨?_, by simpa using h.sf, ?_, World.cell?_setCell_same _ _ _ e2, by simpa using h.f0, by simpa using h.f1, ?_, ?_, by simpa using h.g0, by simpa using h.g1, (h.be.setCell (by simp; omega) _).setCell (by simp; omega) _, by simpa using hsz⟩
  · rw [set_other (by omega), set_other (by omega)]; exact h.sc
  · rw [set_other (by omega)]; exact e1
  · rw [set_other (by omega), set_other (by omega)]; exact h.r0
  · rw [set_other (by omega), set_other (by omega)]; exact h.r1
theorem Kept.start (w : World) (x : Nat) : Kept w (((w.alloc (Obj.cells #[Value.int IntKind.u64 0, Value.int IntKind.u64 0] 70)).alloc (Obj.cells #[Value.int IntKind.u32 (x : Int)] 134)).alloc (Obj.cells #[Value.int IntKind.u64 0, Value.int IntKind.u64 0] 70)) x 0 := by
  constructor
  all_goals try simp [go_sem, lo, hi]
  exact (((Below.refl _ _).alloc (Nat.le_refl _) _).alloc (by simp) _).alloc (by simp; omega) _

set_option maxHeartbeats 2000000 in
theorem draw_any (k id x d J : Nat) (hk : 1 ≤ k) (hk2 : k ≤ 80) (hid : id ≤ 65535) (w : World)
    (hx : it turn 4 (seed k id) = x) (hd : Deg k (x % tot k k) d) (hJ : Enough k x d J) :
    Calls Tryd.prog 39 #[.int .i64 (k : Int), .int .i64 (id : Int)] w fun e w' =>
      e = .returned (.agg #[.int .u64 (lo (ms k x J) : Nat), .int .u64 (hi (ms k x J) : Nat)]) ∧ Below w.heap.size w w' := by
  obtain ⟨s, hs⟩ : ∃ s, s = seed k id := ⟨_, rfl⟩
  have hsl : s < 4294967296 := by rw [hs]; exact seed_lt k id
  have HS : Hid (seed k id = s) := hs.symm
  have HX : Hid (it turn 4 s = x) := by rw [hs]; exact hx
  have hxl : x < 4294967296 := by rw [← HX.out]; exact it_turn_lt 4 s hsl
  clear hs hx
  have hd0 := hd.1
  have hdk := hd.2.1
  have htp := deg_pos hd
  have htt := tot_small k k hk2
  have HD : Hid (Deg k (x % tot k k) d) := hd
  have HJ : Hid (Enough k x d J) := hJ
  clear hd hJ
  go_enter Tryd.func39, Tryd.ntmps39
  go_wp2_with (go_at_call 61; refine (start_any k id hk hk2 hid _).mono ?_; rintro e w' ⟨rfl, rfl⟩; rw [HS.out])
  clear HS
  go_loopw [12] (fun i wr => ∃ j : Nat, j ≤ 3 ∧ i = .int .i64 j ∧ wr = (w.alloc (Obj.cells #[Value.int IntKind.u64 0, Value.int IntKind.u64 0] 70)).alloc (Obj.cells #[Value.int IntKind.u32 (it turn j s : Nat)] 134)) (fun i _ => 3 - (intOf i).toNat)
  case atStart => exact ⟨0, by omega, rfl, rfl⟩
  case round =>
    obtain ⟨j, hj, rfl, rfl⟩ := hrel
    have hjl := it_turn_lt j s hsl
    have hyl := turn_lt _ hjl
    by_cases hlt : j < 3
    · go_wp2_with (go_at_call 62; refine (next_any (it turn j s) hjl (w.heap.size + 1) 0 _ (by simp) (by simp)).mono ?_; rintro e w' ⟨rfl, rfl⟩)
      go_roundw
      case rel => exact ⟨j + 1, by omega, by go_num, by rw [it_succ']⟩
      case measure => simp [intOf]; omega
    · have hj3 : j = 3 := by omega
      subst hj3
      have H4 : Hid (turn (it turn 3 s) = x) := by show _ = _; rw [← HX.out]; exact (it_succ' turn 3 s).symm
      clear HX hyl
      go_wp2_with (first | (go_at_call 62; refine (next_any (it turn 3 s) hjl (w.heap.size + 1) 0 _ (by simp) (by simp)).mono ?_; rintro e w' ⟨rfl, rfl⟩; rw [H4.out]) | (go_at_call 64; refine (total_any k hk hk2 _).mono ?_; rintro e w' ⟨rfl, rfl⟩) | (go_at_call 63; refine (degree_any k (x % tot k k) d hk hk2 HD.out _).mono ?_; rintro e w' ⟨rfl, rfl⟩))
      clear H4 hjl HD htt htp
      go_loopg [6] J (fun g c wr => ∃ j : Nat, j + g = J ∧ c = .int .i64 ((d : Int) - (cs k x j : Nat)) ∧ Kept w wr (it turn j x) (ms k x j))
      case atStart => exact ⟨0, by omega, by show _ = Value.int .i64 ((d : Int) - ((0 : Nat) : Int)); simp, Kept.start w x⟩
      case round =>
        obtain ⟨j, hj, rfl, hK⟩ := hrel
        have hjl := it_turn_lt j x hxl
        have hyl := turn_lt _ hjl
        have hm80 := ms_80 k x j hk hk2
        have hcb := cs_le80 k x j hk hk2
        by_cases hg : gk = 0
        · have hjJ : j = J := by omega
          subst hjJ
          have hc : cs k x j = d := HJ.out.1
          have q1 := hK.r0
          have q2 := hK.r1
          have q3 := hK.g0
          have q4 := hK.g1
          have q5 := hK.m0
          have q6 := hK.m1
          have hbe := hK.be
          clear hK
          have c1 := World.cell?_setCell_same (wr.setCell ⟨w.heap.size, 0, none⟩ (.int .u64 (lo (ms k x j) : Nat))) ⟨w.heap.size, 1, none⟩ (.int .u64 (hi (ms k x j) : Nat)) (u := .int .u64 0) (by rw [set_other (by omega)]; exact q2)
          have c0 : ((wr.setCell ⟨w.heap.size, 0, none⟩ (.int .u64 (lo (ms k x j) : Nat))).setCell ⟨w.heap.size, 1, none⟩ (.int .u64 (hi (ms k x j) : Nat))).cell? ⟨w.heap.size, 0, none⟩ = some (.int .u64 (lo (ms k x j) : Nat)) := by
            rw [set_other (by omega)]; exact World.cell?_setCell_same _ _ _ q1
          go_wp2
          exact bodyPost_ret (v := .agg #[.int .u64 (lo (ms k x j) : Nat), .int .u64 (hi (ms k x j) : Nat)]) (by simp [results, Tryd.results39, go_sem, c0, c1]) rfl ⟨rfl, (hbe.setCell (Nat.le_refl _) _).setCell (Nat.le_refl _) _⟩
        · have hc : cs k x j < d := HJ.out.2 j (by omega)
          have hnx : it turn (j + 1) x = turn (it turn j x) := it_succ' turn j x
          have hK1 := hK.next (turn (it turn j x))
          have q1 := hK.sc
          have q2 := hK.sf
          have q3 := hK1.m0
          have q4 := hK1.m1
          clear hK
          obtain ⟨m, hm⟩ : ∃ m, m = ms k x j := ⟨_, rfl⟩
          obtain ⟨y, hy⟩ : ∃ y, y = turn (it turn j x) := ⟨_, rfl⟩
          have hmod : y % k < 80 := by have := Nat.mod_lt y hk; omega
          rw [← hm] at hK1 q3 q4 hm80
          rw [← hy] at hK1 q3 q4 hnx hyl
          have HY : Hid (turn (it turn j x) = y) := hy.symm
          by_cases hbit : m.testBit (y % k) = true
          · have hw := way_old (k := k) (x := x) (j := j) (by rw [hnx, ← hm]; exact hbit)
            rw [← hm] at hw
            have HW : Hid (ms k x (j + 1) = m ∧ cs k x (j + 1) = cs k x j) := hw
            have HN : Hid (it turn (j + 1) x = y) := hnx
            have HB : Hid (m.testBit (y % k) = true) := hbit
            clear hw hbit hnx hm hy
            go_wp2_with (first | (go_at_call 62; refine (next_any (it turn j x) hjl (w.heap.size + 1) 0 _ q1 q2).mono ?_; rintro e w' ⟨rfl, rfl⟩; rw [HY.out]) | (go_at_call 65; refine (has_at m (y % k) hm80 hmod _).mono ?_; rintro e w2 ⟨rfl, hb2⟩; rw [HB.out]))
            go_roundg (gk - 1)
            case rel => exact ⟨j + 1, by omega, by rw [HW.out.2], by rw [HN.out, HW.out.1]; exact hK1.below hb2⟩
            case measure => omega
          · have hbit' : m.testBit (y % k) = false := by simpa using hbit
            have hw := way_new (k := k) (x := x) (j := j) (by rw [hnx, ← hm]; exact hbit')
            rw [← hm, hnx] at hw
            have HW : Hid (ms k x (j + 1) = m ||| 2 ^ (y % k) ∧ cs k x (j + 1) = cs k x j + 1) := hw
            have HN : Hid (it turn (j + 1) x = y) := hnx
            have HB : Hid (m.testBit (y % k) = false) := hbit'
            clear hw hbit hbit' hnx hm hy
            go_wp2_with (first | (go_at_call 62; refine (next_any (it turn j x) hjl (w.heap.size + 1) 0 _ q1 q2).mono ?_; rintro e w' ⟨rfl, rfl⟩; rw [HY.out]) | (go_at_call 65; refine (has_at m (y % k) hm80 hmod _).mono ?_; rintro e w2 ⟨rfl, hb2⟩; rw [HB.out]; have hK2 := hK1.below hb2; have q5 := hK2.m0; have q6 := hK2.m1) | (go_at_call 66; refine (with_at m (y % k) hm80 hmod _).mono ?_; rintro e w3 ⟨rfl, hb3⟩; have hK3 := hK2.below hb3; have q7 := hK3.m0; have q8 := hK3.m1; have q9 := hK3.f0; have q10 := hK3.f1))
            go_roundg (gk - 1)
            case rel => exact ⟨j + 1, by omega, by rw [HW.out.2]; go_num, by rw [HN.out, HW.out.1]; exact hK3.store _⟩
            case measure => omega

theorem draw_of (k id m : Nat) (hk : 1 ≤ k) (hk2 : k ≤ 80) (hid : id ≤ 65535) (w : World) (hm : Drawn k id m) :
    Calls Tryd.prog 39 #[.int .i64 (k : Int), .int .i64 (id : Int)] w fun e w' =>
      e = .returned (.agg #[.int .u64 (lo m : Nat), .int .u64 (hi m : Nat)]) ∧ Below w.heap.size w w' := by
  obtain ⟨x, d, J, hx, hd, hJ, rfl⟩ := hm
  exact draw_any k id x d J hk hk2 hid w hx hd hJ
end Go.Proofs.YtnpcinjdbeilkaaDoor
