/-
  The program's Read: wire.Read, walked: the ways that come to the data.
-/
import Derived.Test.YtnpcinjdbeilkaaDoorHh
namespace Go.Proofs.YtnpcinjdbeilkaaDoor
open Go.RowKit Dw Period
set_option maxRecDepth 100000
set_option linter.unusedVariables false

theorem Six.set34 {w : World} {b : Nat} {o0 o1 o2 o3 o4 o5 : Value} (h : Six w b o0 o1 o2 o3 o4 o5) (v3 v4 : Value) :
    Six ((w.setCell ⟨b, 3, none⟩ v3).setCell ⟨b, 4, none⟩ v4) b o0 o1 o2 v3 v4 o5 := by
  constructor <;> simp [World.cell?_setCell_same', World.cell?_setCell_other, h.c0, h.c1, h.c2, h.c3, h.c4, h.c5, h.f0, h.f1, h.f2, h.f3, h.f4, h.f5]
theorem Six.set5 {w : World} {b : Nat} {o0 o1 o2 o3 o4 o5 : Value} (h : Six w b o0 o1 o2 o3 o4 o5) (v5 : Value) :
    Six (w.setCell ⟨b, 5, none⟩ v5) b o0 o1 o2 o3 o4 v5 := by
  constructor <;> simp [World.cell?_setCell_same', World.cell?_setCell_other, h.c0, h.c1, h.c2, h.c3, h.c4, h.c5, h.f0, h.f1, h.f2, h.f3, h.f4, h.f5]
/-- what the walk of wire.Read carries behind the head: the two blocks of its own, the package's variables, all that was -/
structure Way (a : Nat → Addr) (w wc : World) (b : Nat) (v0 v1 v2 v3 v4 v5 : Value) : Prop where
  res : Six wc w.heap.size (.int .i64 0) (.int .i64 0) (.int .i64 0) (.int .u64 0) (.int .u64 0) (.string { data := #[] })
  own : Six wc b v0 v1 v2 v3 v4 v5
  laid : Laid a wc
  old : Below w.heap.size w wc
  lt : w.heap.size < b
theorem Way.after {a : Nat → Addr} {w wc w' : World} {b : Nat} {v0 v1 v2 v3 v4 v5 : Value} (h : Way a w wc b v0 v1 v2 v3 v4 v5) (hb : Below wc.heap.size wc w') : Way a w w' b v0 v1 v2 v3 v4 v5 :=
  ⟨h.res.after hb, h.own.after hb, h.laid.after hb, h.old.trans (hb.mono h.old.size), h.lt⟩
theorem Way.base {a : Nat → Addr} {w wc : World} {b : Nat} {v0 v1 v2 v3 v4 v5 : Value} {x0 x1 x2 x3 x4 x5 : Value} (h : Way a w wc b v0 v1 v2 v3 v4 v5) (hg : 12 ≤ w.heap.size) (w' : World) (hb : Below b wc w') (ho : Six w' b x0 x1 x2 x3 x4 x5) : Way a w w' b x0 x1 x2 x3 x4 x5 :=
  ⟨h.res.below hb h.lt, ho, h.laid.below hb (by have := h.lt; omega), h.old.trans (hb.mono (Nat.le_of_lt h.lt)), h.lt⟩
theorem Way.set34 {a : Nat → Addr} {w wc : World} {b : Nat} {v0 v1 v2 v3 v4 v5 : Value} (h : Way a w wc b v0 v1 v2 v3 v4 v5) (hg : 12 ≤ w.heap.size) (x y : Value) : Way a w ((wc.setCell ⟨b, 3, none⟩ x).setCell ⟨b, 4, none⟩ y) b v0 v1 v2 x y v5 :=
  h.base hg _ (((Below.refl b wc).setCell (Nat.le_refl _) _).setCell (Nat.le_refl _) _) (h.own.set34 x y)
theorem Way.set5 {a : Nat → Addr} {w wc : World} {b : Nat} {v0 v1 v2 v3 v4 v5 : Value} (h : Way a w wc b v0 v1 v2 v3 v4 v5) (hg : 12 ≤ w.heap.size) (x : Value) : Way a w (wc.setCell ⟨b, 5, none⟩ x) b v0 v1 v2 v3 v4 x :=
  h.base hg _ ((Below.refl b wc).setCell (Nat.le_refl _) _) (h.own.set5 x)

set_option maxHeartbeats 4000000 in
theorem wread_stray (a : Nat → Addr) (s : ByteArray) (hl1 : 1 ≤ rlen s) (hl4 : rlen s ≤ 400) (hz1 : 1 ≤ rsz s) (hz4 : rsz s ≤ 16) (hk2 : cnt (rlen s) (rsz s) ≤ 80) (hsz : s.size = rsz s + 7)
    (hcrc : 256 * byteAt s (rsz s + 5) + byteAt s (rsz s + 6) = crc s (rsz s + 5)) (m : Nat) (hm : Drawn (cnt (rlen s) (rsz s)) (rid s) m) (p : Int) (c : Addr) (w : World) (hw : Laid a w)
    (hX : ∀ W : World, Laid a W → Calls Tryd.prog 47 #[.agg #[.int .i64 (rid s : Nat), .int .i64 (rlen s : Nat), .int .i64 (rsz s : Nat), .int .u64 (lo m : Nat), .int .u64 (hi m : Nat), .string (s.extract 5 (rsz s + 5))]] W fun e w' => e = .returned (.iface 99 (.agg #[.int .i64 p, .iface 205 (.pointer (some c))])) ∧ Below W.heap.size W w') :
    Calls Tryd.prog 27 #[.string s] w fun e w' => e = .returned (.tuple #[noParts, (.iface 99 (.agg #[.int .i64 p, .iface 205 (.pointer (some c))]))]) ∧ Below w.heap.size w w' := by
  have hsm : s.size ≤ maxLen := by unfold maxLen; omega
  have h5 : 5 ≤ s.size := by omega
  have hC := fun W => checkhead_ok (rid s) (rlen s) (rsz s) hl1 hl4 hz1 hz4 hk2 W
  have hE := fun W => checkend_ok s (rsz s + 5) (by omega) (by omega) hcrc W
  have hN := fun W => count_any (rlen s) (rsz s) hl4 hz1 hz4 W
  have hK1 : 1 ≤ cnt (rlen s) (rsz s) := cnt_pos _ _ hz1 hl1
  have hri := rid_le s
  have hQ := fun W => draw_of (cnt (rlen s) (rsz s)) (rid s) m hK1 hk2 hri W hm
  obtain ⟨z5, hz5⟩ : ∃ z5, z5 = rsz s + 5 := ⟨_, rfl⟩
  rw [← hz5] at hE hX
  have i5 : (5 : Int) + ((rsz s : Nat) : Int) = (z5 : Int) := by omega
  have hz21 : z5 ≤ 21 := by omega
  have hz5s : z5 ≤ s.size := by omega
  have hz5i : (z5 : Int) ≤ (s.size : Int) := by omega
  have hz55 : 5 ≤ z5 := by omega
  have hz56 : 6 ≤ z5 := by omega
  have hsb : s.size ≤ 23 := by omega
  obtain ⟨d, hd⟩ : ∃ d, d = s.extract 5 z5 := ⟨_, rfl⟩
  have hds : d.size = z5 - 5 := by rw [hd]; simp; omega
  have hL := fun W => clone_any d W (by omega) (by omega)
  have hde : s.extract 5 z5 = d := hd.symm
  rw [← hd] at hX
  obtain ⟨l, hl⟩ : ∃ l, l = lo m := ⟨_, rfl⟩
  obtain ⟨h, hh⟩ : ∃ h, h = hi m := ⟨_, rfl⟩
  rw [← hl, ← hh] at hX hQ
  obtain ⟨K, hKe⟩ : ∃ K, K = cnt (rlen s) (rsz s) := ⟨_, rfl⟩
  rw [← hKe] at hQ hN
  have hg := hw.size
  clear hl hh hz5 hd hds hcrc hm hk2 hKe hK1 hsz
  go_enter Tryd.func27, Tryd.ntmps27
  go_upto_region 10 with (first
    | (go_at_call 42; refine (readhead_any s hsm h5 _).mono ?_; rintro e w1 ⟨rfl, hb1⟩; have A1 := (Six.new w 72 (.int .i64 0) (.int .i64 0) (.int .i64 0) (.int .u64 0) (.int .u64 0) (.string { data := #[] })).after hb1; have L1 := (hw.alloc _).after hb1; have HB1 : Hid (Below w.heap.size w w1) := below_new hb1; clear hb1)
    | (go_at_call 43; refine (hC _).mono ?_; rintro e w2 ⟨rfl, hb2⟩; have W2 : Way a w w2 w1.heap.size _ _ _ _ _ _ := ⟨(A1.alloc _).after hb2, (Six.new w1 72 (.int .i64 (rid s : Nat)) (.int .i64 (rlen s : Nat)) (.int .i64 (rsz s : Nat)) (.int .u64 0) (.int .u64 0) (.string { data := #[] })).after hb2, (L1.alloc _).after hb2, HB1.out.trans ((below_new hb2).mono HB1.out.size), A1.lt⟩; obtain ⟨t0, t1, t2, t3, t4, t5, g0, g1, g2, g3, g4, g5⟩ := W2.own; clear hb2)
    | (go_at_call 44; refine (hE _).mono ?_; rintro e w3 ⟨rfl, n3, hw3⟩; have W3 : Way a w w3 w1.heap.size _ _ _ _ _ _ := W2.after (by rw [hw3]; exact below_drewN (Below.refl _ _) _); clear hw3; clear t0 t1 t2 t3 t4 t5 g0 g1 g2 g3 g4 g5))
  obtain ⟨t0, t1, t2, t3, t4, t5, g0, g1, g2, g3, g4, g5⟩ := W3.own
  go_cut [4] (fun v wc => v = .pointer (some ⟨w1.heap.size, 0, none⟩) ∧ Way a w wc w1.heap.size (.int .i64 (rid s : Nat)) (.int .i64 (rlen s : Nat)) (.int .i64 (rsz s : Nat)) (.int .u64 (l : Int)) (.int .u64 (h : Int)) (.string { data := #[] }))
  case first =>
    go_region_with (first | (go_at_call 45; refine (hN _).mono ?_; rintro e w' ⟨rfl, hw'⟩; obtain rfl := hw'.symm) | (go_at_call 39; refine (hQ _).mono ?_; rintro e w4 ⟨rfl, hb4⟩; have W4 := W3.after (Below.trans (by go_grown; all_goals (try (refine below_drewN ?_ _; go_grown))) (hb4.mono (by simp <;> omega))); obtain ⟨u0, u1, u2, u3, u4, u5, k0, k1, k2, k3, k4, k5⟩ := W4.own; clear hb4))
    all_goals (go_wp2_with fail; go_meet; exact ⟨rfl, W4.set34 hg _ _⟩)
  clear t0 t1 t2 t3 t4 t5 g0 g1 g2 g3 g4 g5
  obtain ⟨hv4, W5⟩ := hcut
  subst hv4
  obtain ⟨t0, t1, t2, t3, t4, t5, g0, g1, g2, g3, g4, g5⟩ := W5.own
  go_wp2_with (first
    | (go_at_call 46; refine (hL _).mono ?_; rintro e w6 ⟨rfl, hb6⟩; have W6 := W5.after hb6; clear hb6; obtain ⟨u0, u1, u2, u3, u4, u5, k0, k1, k2, k3, k4, k5⟩ := W6.own)
    | (go_at_call 47; have W7 := W6.set5 hg (.string d); refine (hX _ W7.laid).mono ?_; rintro e w8 ⟨rfl, hb8⟩; have W8 := W7.after hb8; obtain ⟨p0, p1, p2, p3, p4, p5, q0, q1, q2, q3, q4, q5⟩ := W8.own; obtain ⟨c0, c1, c2, c3, c4, c5, f0, f1, f2, f3, f4, f5⟩ := W8.res; clear hb8))
  refine bodyPost_ret (v := .tuple #[noParts, (.iface 99 (.agg #[.int .i64 p, .iface 205 (.pointer (some c))]))]) ?_ rfl ⟨rfl, below_set6 W8.old (Nat.le_refl _) _ _ _ _ _ _⟩
  exact results_six (W8.res.set _ _ _ _ _ _) _ rfl

set_option maxHeartbeats 4000000 in
theorem wread_ok (a : Nat → Addr) (s : ByteArray) (hl1 : 1 ≤ rlen s) (hl4 : rlen s ≤ 400) (hz1 : 1 ≤ rsz s) (hz4 : rsz s ≤ 16) (hk2 : cnt (rlen s) (rsz s) ≤ 80) (hsz : s.size = rsz s + 7)
    (hcrc : 256 * byteAt s (rsz s + 5) + byteAt s (rsz s + 6) = crc s (rsz s + 5)) (m : Nat) (hm : Drawn (cnt (rlen s) (rsz s)) (rid s) m)  (w : World) (hw : Laid a w)
    (hX : ∀ W : World, Laid a W → Calls Tryd.prog 47 #[.agg #[.int .i64 (rid s : Nat), .int .i64 (rlen s : Nat), .int .i64 (rsz s : Nat), .int .u64 (lo m : Nat), .int .u64 (hi m : Nat), .string (s.extract 5 (rsz s + 5))]] W fun e w' => e = .returned .nilIface ∧ Below W.heap.size W w') :
    Calls Tryd.prog 27 #[.string s] w fun e w' => e = .returned (.tuple #[.agg #[.int .i64 (rid s : Nat), .int .i64 (rlen s : Nat), .int .i64 (rsz s : Nat), .int .u64 (lo m : Nat), .int .u64 (hi m : Nat), .string (s.extract 5 (rsz s + 5))], .nilIface]) ∧ Below w.heap.size w w' := by
  have hsm : s.size ≤ maxLen := by unfold maxLen; omega
  have h5 : 5 ≤ s.size := by omega
  have hC := fun W => checkhead_ok (rid s) (rlen s) (rsz s) hl1 hl4 hz1 hz4 hk2 W
  have hE := fun W => checkend_ok s (rsz s + 5) (by omega) (by omega) hcrc W
  have hN := fun W => count_any (rlen s) (rsz s) hl4 hz1 hz4 W
  have hK1 : 1 ≤ cnt (rlen s) (rsz s) := cnt_pos _ _ hz1 hl1
  have hri := rid_le s
  have hQ := fun W => draw_of (cnt (rlen s) (rsz s)) (rid s) m hK1 hk2 hri W hm
  obtain ⟨z5, hz5⟩ : ∃ z5, z5 = rsz s + 5 := ⟨_, rfl⟩
  rw [← hz5] at hE hX ⊢
  have i5 : (5 : Int) + ((rsz s : Nat) : Int) = (z5 : Int) := by omega
  have hz21 : z5 ≤ 21 := by omega
  have hz5s : z5 ≤ s.size := by omega
  have hz5i : (z5 : Int) ≤ (s.size : Int) := by omega
  have hz55 : 5 ≤ z5 := by omega
  have hz56 : 6 ≤ z5 := by omega
  have hsb : s.size ≤ 23 := by omega
  obtain ⟨d, hd⟩ : ∃ d, d = s.extract 5 z5 := ⟨_, rfl⟩
  have hds : d.size = z5 - 5 := by rw [hd]; simp; omega
  have hL := fun W => clone_any d W (by omega) (by omega)
  have hde : s.extract 5 z5 = d := hd.symm
  rw [← hd] at hX ⊢
  obtain ⟨l, hl⟩ : ∃ l, l = lo m := ⟨_, rfl⟩
  obtain ⟨h, hh⟩ : ∃ h, h = hi m := ⟨_, rfl⟩
  rw [← hl, ← hh] at hX hQ ⊢
  obtain ⟨K, hKe⟩ : ∃ K, K = cnt (rlen s) (rsz s) := ⟨_, rfl⟩
  rw [← hKe] at hQ hN
  have hg := hw.size
  clear hl hh hz5 hd hds hcrc hm hk2 hKe hK1 hsz
  go_enter Tryd.func27, Tryd.ntmps27
  go_upto_region 10 with (first
    | (go_at_call 42; refine (readhead_any s hsm h5 _).mono ?_; rintro e w1 ⟨rfl, hb1⟩; have A1 := (Six.new w 72 (.int .i64 0) (.int .i64 0) (.int .i64 0) (.int .u64 0) (.int .u64 0) (.string { data := #[] })).after hb1; have L1 := (hw.alloc _).after hb1; have HB1 : Hid (Below w.heap.size w w1) := below_new hb1; clear hb1)
    | (go_at_call 43; refine (hC _).mono ?_; rintro e w2 ⟨rfl, hb2⟩; have W2 : Way a w w2 w1.heap.size _ _ _ _ _ _ := ⟨(A1.alloc _).after hb2, (Six.new w1 72 (.int .i64 (rid s : Nat)) (.int .i64 (rlen s : Nat)) (.int .i64 (rsz s : Nat)) (.int .u64 0) (.int .u64 0) (.string { data := #[] })).after hb2, (L1.alloc _).after hb2, HB1.out.trans ((below_new hb2).mono HB1.out.size), A1.lt⟩; obtain ⟨t0, t1, t2, t3, t4, t5, g0, g1, g2, g3, g4, g5⟩ := W2.own; clear hb2)
    | (go_at_call 44; refine (hE _).mono ?_; rintro e w3 ⟨rfl, n3, hw3⟩; have W3 : Way a w w3 w1.heap.size _ _ _ _ _ _ := W2.after (by rw [hw3]; exact below_drewN (Below.refl _ _) _); clear hw3; clear t0 t1 t2 t3 t4 t5 g0 g1 g2 g3 g4 g5))
  obtain ⟨t0, t1, t2, t3, t4, t5, g0, g1, g2, g3, g4, g5⟩ := W3.own
  go_cut [4] (fun v wc => v = .pointer (some ⟨w1.heap.size, 0, none⟩) ∧ Way a w wc w1.heap.size (.int .i64 (rid s : Nat)) (.int .i64 (rlen s : Nat)) (.int .i64 (rsz s : Nat)) (.int .u64 (l : Int)) (.int .u64 (h : Int)) (.string { data := #[] }))
  case first =>
    go_region_with (first | (go_at_call 45; refine (hN _).mono ?_; rintro e w' ⟨rfl, hw'⟩; obtain rfl := hw'.symm) | (go_at_call 39; refine (hQ _).mono ?_; rintro e w4 ⟨rfl, hb4⟩; have W4 := W3.after (Below.trans (by go_grown; all_goals (try (refine below_drewN ?_ _; go_grown))) (hb4.mono (by simp <;> omega))); obtain ⟨u0, u1, u2, u3, u4, u5, k0, k1, k2, k3, k4, k5⟩ := W4.own; clear hb4))
    all_goals (go_wp2_with fail; go_meet; exact ⟨rfl, W4.set34 hg _ _⟩)
  clear t0 t1 t2 t3 t4 t5 g0 g1 g2 g3 g4 g5
  obtain ⟨hv4, W5⟩ := hcut
  subst hv4
  obtain ⟨t0, t1, t2, t3, t4, t5, g0, g1, g2, g3, g4, g5⟩ := W5.own
  go_wp2_with (first
    | (go_at_call 46; refine (hL _).mono ?_; rintro e w6 ⟨rfl, hb6⟩; have W6 := W5.after hb6; clear hb6; obtain ⟨u0, u1, u2, u3, u4, u5, k0, k1, k2, k3, k4, k5⟩ := W6.own)
    | (go_at_call 47; have W7 := W6.set5 hg (.string d); refine (hX _ W7.laid).mono ?_; rintro e w8 ⟨rfl, hb8⟩; have W8 := W7.after hb8; obtain ⟨p0, p1, p2, p3, p4, p5, q0, q1, q2, q3, q4, q5⟩ := W8.own; obtain ⟨c0, c1, c2, c3, c4, c5, f0, f1, f2, f3, f4, f5⟩ := W8.res; clear hb8))
  refine bodyPost_ret (v := .tuple #[.agg #[.int .i64 (rid s : Nat), .int .i64 (rlen s : Nat), .int .i64 (rsz s : Nat), .int .u64 (l : Int), .int .u64 (h : Int), .string d], .nilIface]) ?_ rfl ⟨rfl, below_set6 W8.old (Nat.le_refl _) _ _ _ _ _ _⟩
  exact results_six (W8.res.set _ _ _ _ _ _) _ rfl
end Go.Proofs.YtnpcinjdbeilkaaDoor
