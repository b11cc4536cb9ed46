/-
  The program's Read: wire.Read, walked: the ways on which it breaks off ahead of the data.
-/
import Derived.Test.YtnpcinjdbeilkaaDoorHg
namespace Go.Proofs.YtnpcinjdbeilkaaDoor
open Go.RowKit Dw Period
set_option maxRecDepth 100000
set_option linter.unusedVariables false

abbrev noStr : Value := .string { data := #[] }
abbrev noParts : Value := .agg #[.int .i64 0, .int .i64 0, .int .i64 0, .int .u64 0, .int .u64 0, .string { data := #[] }]
theorem Six.set {w : World} {b : Nat} {o0 o1 o2 o3 o4 o5 : Value} (h : Six w b o0 o1 o2 o3 o4 o5) (v0 v1 v2 v3 v4 v5 : Value) :
    Six ((((((w.setCell ⟨b, 0, none⟩ v0).setCell ⟨b, 1, none⟩ v1).setCell ⟨b, 2, none⟩ v2).setCell ⟨b, 3, none⟩ v3).setCell ⟨b, 4, none⟩ v4).setCell ⟨b, 5, none⟩ v5) b v0 v1 v2 v3 v4 v5 := by
  constructor <;> simp [World.cell?_setCell_same', World.cell?_setCell_other, h.c0, h.c1, h.c2, h.c3, h.c4, h.c5, h.f0, h.f1, h.f2, h.f3, h.f4, h.f5]
/-- the result that lies in a block of six cells, and one beside it -/
theorem results_six {w : World} {b : Nat} {v0 v1 v2 v3 v4 v5 : Value} (h : Six w b v0 v1 v2 v3 v4 v5) (tmps : Array Value) (h2 : tmps.getD 2 undef = .pointer (some ⟨b, 0, none⟩)) :
    (results Tryd.f27 tmps).run Tryd.prog w = .ok (.tuple #[.agg #[v0, v1, v2, v3, v4, v5], tmps.getD 3 undef]) w := by
  have h2' : tmps[2]?.getD undef = .pointer (some ⟨b, 0, none⟩) := by simpa using h2
  simp [results, Tryd.results27, go_sem, h2', asAddr, h.c0, h.c1, h.c2, h.c3, h.c4, h.c5]

set_option maxHeartbeats 1000000 in
theorem wread_short (a : Nat → Addr) (s : ByteArray) (h : s.size < 5) (w : World) (hw : Laid a w) :
    Calls Tryd.prog 27 #[.string s] w fun e w' => e = .returned (.tuple #[noParts, faultV (s.size : Int) (a 0)]) ∧ Below w.heap.size w w' := by
  have q1 := (hw.alloc (.cells #[.int .i64 0, .int .i64 0, .int .i64 0, .int .u64 0, .int .u64 0, .string { data := #[] }] 72)).head
  go_enter Tryd.func27, Tryd.ntmps27
  go_wp2
  go_region
  all_goals
    go_wp2
    exact bodyPost_ret (v := .tuple #[noParts, faultV (s.size : Int) (a 0)]) (by simp [results, Tryd.results27, go_sem, faultV]) rfl ⟨rfl, by go_grown; all_goals (try (refine below_drewN ?_ _; go_grown))⟩
theorem Six.alloc {w : World} {b : Nat} {v0 v1 v2 v3 v4 v5 : Value} (h : Six w b v0 v1 v2 v3 v4 v5) (o : Obj) : Six (w.alloc o) b v0 v1 v2 v3 v4 v5 := h.after ((Below.refl _ _).alloc (Nat.le_refl _) o)
theorem below_new {w w' : World} {o : Obj} (h : Below (w.alloc o).heap.size (w.alloc o) w') : Below w.heap.size w w' := ((Below.refl _ _).alloc (Nat.le_refl _) o).trans (h.mono (by simp))
theorem below_set6 {B : Nat} {w w' : World} {b : Nat} (h : Below B w w') (hb : B ≤ b) (v0 v1 v2 v3 v4 v5 : Value) :
    Below B w ((((((w'.setCell ⟨b, 0, none⟩ v0).setCell ⟨b, 1, none⟩ v1).setCell ⟨b, 2, none⟩ v2).setCell ⟨b, 3, none⟩ v3).setCell ⟨b, 4, none⟩ v4).setCell ⟨b, 5, none⟩ v5) :=
  (((((h.setCell hb _).setCell hb _).setCell hb _).setCell hb _).setCell hb _).setCell hb _

set_option maxHeartbeats 1000000 in
theorem wread_head (a : Nat → Addr) (s : ByteArray) (hs : s.size ≤ maxLen) (h5 : 5 ≤ s.size) (p : Int) (c : Addr) (w : World) (hw : Laid a w)
    (hC : ∀ W : World, Laid a W → Calls Tryd.prog 43 #[.agg #[.int .i64 (rid s : Nat), .int .i64 (rlen s : Nat), .int .i64 (rsz s : Nat), .int .u64 0, .int .u64 0, .string { data := #[] }]] W fun e w' => e = .returned (.iface 99 (.agg #[.int .i64 p, .iface 205 (.pointer (some c))])) ∧ Below W.heap.size W w') :
    Calls Tryd.prog 27 #[.string s] w fun e w' => e = .returned (.tuple #[noParts, .iface 99 (.agg #[.int .i64 p, .iface 205 (.pointer (some c))])]) ∧ Below w.heap.size w w' := by
  have hsm : s.size ≤ maxLen := hs
  unfold maxLen at hs
  go_enter Tryd.func27, Tryd.ntmps27
  go_wp2_with (first
    | (go_at_call 42; refine (readhead_any s hsm h5 _).mono ?_; rintro e w1 ⟨rfl, hb1⟩; have A1 := (Six.new w 72 (.int .i64 0) (.int .i64 0) (.int .i64 0) (.int .u64 0) (.int .u64 0) (.string { data := #[] })).after hb1; have L1 := (hw.alloc _).after hb1; have HB1 : Hid (Below w.heap.size w w1) := below_new hb1; clear hb1)
    | (go_at_call 43; refine (hC _ (L1.alloc _)).mono ?_; rintro e w2 ⟨rfl, hb2⟩; have A2 := (A1.alloc _).after hb2; have HB2 : Hid (Below w.heap.size w w2) := HB1.out.trans ((below_new hb2).mono HB1.out.size); have HA2 : Hid (Six w2 w.heap.size _ _ _ _ _ _) := A2; obtain ⟨c0, c1, c2, c3, c4, c5, f0, f1, f2, f3, f4, f5⟩ := A2; clear hb2))
  refine bodyPost_ret (v := .tuple #[noParts, .iface 99 (.agg #[.int .i64 p, .iface 205 (.pointer (some c))])]) ?_ rfl ⟨rfl, below_set6 HB2.out (Nat.le_refl _) _ _ _ _ _ _⟩
  exact results_six (HA2.out.set _ _ _ _ _ _) _ rfl

set_option maxHeartbeats 1000000 in
theorem wread_end (a : Nat → Addr) (s : ByteArray) (hs : s.size ≤ maxLen) (h5 : 5 ≤ s.size) (hl1 : 1 ≤ rlen s) (hl4 : rlen s ≤ 400) (hz1 : 1 ≤ rsz s) (hz4 : rsz s ≤ 16) (hk2 : cnt (rlen s) (rsz s) ≤ 80) (p : Int) (c : Addr) (w : World) (hw : Laid a w)
    (hE : ∀ W : World, Laid a W → Calls Tryd.prog 44 #[.string s, .int .i64 (rsz s + 5 : Nat)] W fun e w' => e = .returned (.iface 99 (.agg #[.int .i64 p, .iface 205 (.pointer (some c))])) ∧ Below W.heap.size W w') :
    Calls Tryd.prog 27 #[.string s] w fun e w' => e = .returned (.tuple #[noParts, .iface 99 (.agg #[.int .i64 p, .iface 205 (.pointer (some c))])]) ∧ Below w.heap.size w w' := by
  have hsm : s.size ≤ maxLen := hs
  unfold maxLen at hs
  have hC := fun W => checkhead_ok (rid s) (rlen s) (rsz s) hl1 hl4 hz1 hz4 hk2 W
  obtain ⟨z5, hz5⟩ : ∃ z5, z5 = rsz s + 5 := ⟨_, rfl⟩
  rw [← hz5] at hE
  have i5 : (5 : Int) + ((rsz s : Nat) : Int) = (z5 : Int) := by omega
  have hz21 : z5 ≤ 21 := by omega
  clear hz5
  go_enter Tryd.func27, Tryd.ntmps27
  go_wp2_with (first
    | (go_at_call 42; refine (readhead_any s hsm h5 _).mono ?_; rintro e w1 ⟨rfl, hb1⟩; have A1 := (Six.new w 72 (.int .i64 0) (.int .i64 0) (.int .i64 0) (.int .u64 0) (.int .u64 0) (.string { data := #[] })).after hb1; have L1 := (hw.alloc _).after hb1; have HB1 : Hid (Below w.heap.size w w1) := below_new hb1; clear hb1)
    | (go_at_call 43; refine (hC _).mono ?_; rintro e w2 ⟨rfl, hb2⟩; have A2 := (A1.alloc _).after hb2; have L2 := (L1.alloc _).after hb2; have HB2 : Hid (Below w.heap.size w w2) := HB1.out.trans ((below_new hb2).mono HB1.out.size); obtain ⟨t0, t1, t2, t3, t4, t5, g0, g1, g2, g3, g4, g5⟩ := (Six.new w1 72 (.int .i64 (rid s : Nat)) (.int .i64 (rlen s : Nat)) (.int .i64 (rsz s : Nat)) (.int .u64 0) (.int .u64 0) (.string { data := #[] })).after hb2; clear hb2)
    | (go_at_call 44; refine (hE _ L2).mono ?_; rintro e w3 ⟨rfl, hb3⟩; have A3 := A2.after hb3; have HB3 : Hid (Below w.heap.size w w3) := HB2.out.trans (hb3.mono HB2.out.size); have HA3 : Hid (Six w3 w.heap.size _ _ _ _ _ _) := A3; obtain ⟨c0, c1, c2, c3, c4, c5, f0, f1, f2, f3, f4, f5⟩ := A3; clear hb3))
  refine bodyPost_ret (v := .tuple #[noParts, .iface 99 (.agg #[.int .i64 p, .iface 205 (.pointer (some c))])]) ?_ rfl ⟨rfl, below_set6 HB3.out (Nat.le_refl _) _ _ _ _ _ _⟩
  exact results_six (HA3.out.set _ _ _ _ _ _) _ rfl
end Go.Proofs.YtnpcinjdbeilkaaDoor
