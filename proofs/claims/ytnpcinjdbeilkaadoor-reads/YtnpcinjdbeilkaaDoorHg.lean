/-
  The program's Read, walked from below: wire.checkData.
-/
import Derived.Test.YtnpcinjdbeilkaaDoorHf
import Derived.Deep.RegionHeld
namespace Go.Proofs.YtnpcinjdbeilkaaDoor
open Go.RowKit Dw Period
set_option maxRecDepth 100000
set_option linter.unusedVariables false

/-- six cells of an older block, and all that is older -/
theorem six_kept {w W w1 : World} {v0 v1 v2 v3 v4 v5 : Value}
    (h : W.cell? ⟨w.heap.size, 0, none⟩ = some v0 ∧ W.cell? ⟨w.heap.size, 1, none⟩ = some v1 ∧ W.cell? ⟨w.heap.size, 2, none⟩ = some v2 ∧ W.cell? ⟨w.heap.size, 3, none⟩ = some v3 ∧ W.cell? ⟨w.heap.size, 4, none⟩ = some v4 ∧ W.cell? ⟨w.heap.size, 5, none⟩ = some v5 ∧ Below w.heap.size w W)
    (hb : Below W.heap.size W w1) :
    w1.cell? ⟨w.heap.size, 0, none⟩ = some v0 ∧ w1.cell? ⟨w.heap.size, 1, none⟩ = some v1 ∧ w1.cell? ⟨w.heap.size, 2, none⟩ = some v2 ∧ w1.cell? ⟨w.heap.size, 3, none⟩ = some v3 ∧ w1.cell? ⟨w.heap.size, 4, none⟩ = some v4 ∧ w1.cell? ⟨w.heap.size, 5, none⟩ = some v5 ∧ Below w.heap.size w w1 := by
  obtain ⟨h0, h1, h2, h3, h4, h5, hB⟩ := h
  have hlt : w.heap.size < W.heap.size := by
    rcases Nat.lt_or_ge w.heap.size W.heap.size with h | h
    · exact h
    · simp [World.cell?, Array.getElem?_eq_none h] at h0
  have q : ∀ i, w1.cell? ⟨w.heap.size, i, none⟩ = W.cell? ⟨w.heap.size, i, none⟩ := fun i => hb.cell (p := ⟨w.heap.size, i, none⟩) hlt
  exact ⟨(q 0).trans h0, (q 1).trans h1, (q 2).trans h2, (q 3).trans h3, (q 4).trans h4, (q 5).trans h5, hB.trans (hb.mono (Nat.le_of_lt hlt))⟩

set_option maxHeartbeats 4000000 in
theorem checkdata_none (id len size m : Nat) (d : ByteArray) (hd : d.size ≤ 16)
    (hS : ∀ W : World, Calls Tryd.prog 72 #[.int .i64 (len : Int), .int .i64 (size : Int), .agg #[.int .u64 (lo m : Nat), .int .u64 (hi m : Nat)], .agg (dcells (byteAt d))] W fun e w' => e = .returned (.tuple #[.int .i64 0, .bool false]) ∧ Below W.heap.size W w') (w : World) :
    Calls Tryd.prog 47 #[.agg #[.int .i64 (id : Int), .int .i64 (len : Int), .int .i64 (size : Int), .int .u64 (lo m : Nat), .int .u64 (hi m : Nat), .string d]] w fun e w' => e = .returned .nilIface ∧ Below w.heap.size w w' := by
  have hD := fun W => dataof_any d W hd
  obtain ⟨l, hl⟩ : ∃ l, l = lo m := ⟨_, rfl⟩
  obtain ⟨h, hh⟩ : ∃ h, h = hi m := ⟨_, rfl⟩
  obtain ⟨D, hDe⟩ : ∃ D, D = dcells (byteAt d) := ⟨_, rfl⟩
  rw [← hl, ← hh] at hS ⊢
  rw [← hDe] at hS hD
  clear hl hh hDe
  go_enter Tryd.func47, Tryd.ntmps47
  go_wp2
  go_region_held (fun w' => w'.cell? ⟨w.heap.size, 0, none⟩ = some (.int .i64 (id : Int)) ∧ w'.cell? ⟨w.heap.size, 1, none⟩ = some (.int .i64 (len : Int)) ∧ w'.cell? ⟨w.heap.size, 2, none⟩ = some (.int .i64 (size : Int)) ∧ w'.cell? ⟨w.heap.size, 3, none⟩ = some (.int .u64 (l : Int)) ∧ w'.cell? ⟨w.heap.size, 4, none⟩ = some (.int .u64 (h : Int)) ∧ w'.cell? ⟨w.heap.size, 5, none⟩ = some (.string d) ∧ Below w.heap.size w w')
    (first | assumption | exact six_kept (by assumption) (by assumption) | exact ⟨by simp, by simp, by simp, by simp, by simp, by simp, by go_grown⟩)
    (first | (go_at_call 73; refine (hD _).mono ?_; rintro e w1 ⟨rfl, hb1⟩) | (go_at_call 72; refine (hS _).mono ?_; rintro e w2 ⟨rfl, hb2⟩))
  all_goals
    rename_i hH
    have HO : Hid (Below w.heap.size w w2) := hH.2.2.2.2.2.2
    clear hH
    go_wp2
    go_ret
    exact ⟨rfl, HO.out⟩

set_option maxHeartbeats 4000000 in
theorem checkdata_some (a : Nat → Addr) (id len size m j : Nat) (hj : j ≤ 16) (d : ByteArray) (hd : d.size ≤ 16)
    (hS : ∀ W : World, Calls Tryd.prog 72 #[.int .i64 (len : Int), .int .i64 (size : Int), .agg #[.int .u64 (lo m : Nat), .int .u64 (hi m : Nat)], .agg (dcells (byteAt d))] W fun e w' => e = .returned (.tuple #[.int .i64 (j : Int), .bool true]) ∧ Below W.heap.size W w') (w : World) (hw : Laid a w) :
    Calls Tryd.prog 47 #[.agg #[.int .i64 (id : Int), .int .i64 (len : Int), .int .i64 (size : Int), .int .u64 (lo m : Nat), .int .u64 (hi m : Nat), .string d]] w fun e w' => e = .returned (faultV (5 + (j : Int)) (a 5)) ∧ Below w.heap.size w w' := by
  have hD := fun W => dataof_any d W hd
  obtain ⟨l, hl⟩ : ∃ l, l = lo m := ⟨_, rfl⟩
  obtain ⟨h, hh⟩ : ∃ h, h = hi m := ⟨_, rfl⟩
  obtain ⟨D, hDe⟩ : ∃ D, D = dcells (byteAt d) := ⟨_, rfl⟩
  rw [← hl, ← hh] at hS ⊢
  rw [← hDe] at hS hD
  clear hl hh hDe
  go_enter Tryd.func47, Tryd.ntmps47
  go_wp2
  go_region_held (fun w' => w'.cell? ⟨w.heap.size, 0, none⟩ = some (.int .i64 (id : Int)) ∧ w'.cell? ⟨w.heap.size, 1, none⟩ = some (.int .i64 (len : Int)) ∧ w'.cell? ⟨w.heap.size, 2, none⟩ = some (.int .i64 (size : Int)) ∧ w'.cell? ⟨w.heap.size, 3, none⟩ = some (.int .u64 (l : Int)) ∧ w'.cell? ⟨w.heap.size, 4, none⟩ = some (.int .u64 (h : Int)) ∧ w'.cell? ⟨w.heap.size, 5, none⟩ = some (.string d) ∧ Below w.heap.size w w')
    (first | assumption | exact six_kept (by assumption) (by assumption) | exact ⟨by simp, by simp, by simp, by simp, by simp, by simp, by go_grown⟩)
    (first | (go_at_call 73; refine (hD _).mono ?_; rintro e w1 ⟨rfl, hb1⟩) | (go_at_call 72; refine (hS _).mono ?_; rintro e w2 ⟨rfl, hb2⟩))
  all_goals
    rename_i hH
    have HO : Hid (Below w.heap.size w w2) := hH.2.2.2.2.2.2
    have hq := (hw.after HO.out).stray
    clear hH
    go_wp2
    go_ret
    exact ⟨rfl, HO.out⟩

/-- six cells of a block, all of which may be written -/
structure Six (w : World) (b : Nat) (v0 v1 v2 v3 v4 v5 : Value) : Prop where
  c0 : w.cell? ⟨b, 0, none⟩ = some v0
  c1 : w.cell? ⟨b, 1, none⟩ = some v1
  c2 : w.cell? ⟨b, 2, none⟩ = some v2
  c3 : w.cell? ⟨b, 3, none⟩ = some v3
  c4 : w.cell? ⟨b, 4, none⟩ = some v4
  c5 : w.cell? ⟨b, 5, none⟩ = some v5
  f0 : w.frozen? ⟨b, 0, none⟩ = false
  f1 : w.frozen? ⟨b, 1, none⟩ = false
  f2 : w.frozen? ⟨b, 2, none⟩ = false
  f3 : w.frozen? ⟨b, 3, none⟩ = false
  f4 : w.frozen? ⟨b, 4, none⟩ = false
  f5 : w.frozen? ⟨b, 5, none⟩ = false
theorem Six.lt {w : World} {b : Nat} {v0 v1 v2 v3 v4 v5 : Value} (h : Six w b v0 v1 v2 v3 v4 v5) : b < w.heap.size := by
  rcases Nat.lt_or_ge b w.heap.size with h' | h'
  · exact h'
  · have := h.c0; simp [World.cell?, Array.getElem?_eq_none h'] at this
theorem Six.below {w w' : World} {b B : Nat} {v0 v1 v2 v3 v4 v5 : Value} (h : Six w b v0 v1 v2 v3 v4 v5) (hb : Below B w w') (hB : b < B) : Six w' b v0 v1 v2 v3 v4 v5 := by
  have q : ∀ i, w'.cell? ⟨b, i, none⟩ = w.cell? ⟨b, i, none⟩ := fun i => hb.cell (p := ⟨b, i, none⟩) hB
  have r : ∀ i, w'.frozen? ⟨b, i, none⟩ = w.frozen? ⟨b, i, none⟩ := fun i => hb.frozen (p := ⟨b, i, none⟩) hB
  exact ⟨(q 0).trans h.c0, (q 1).trans h.c1, (q 2).trans h.c2, (q 3).trans h.c3, (q 4).trans h.c4, (q 5).trans h.c5, (r 0).trans h.f0, (r 1).trans h.f1, (r 2).trans h.f2, (r 3).trans h.f3, (r 4).trans h.f4, (r 5).trans h.f5⟩
theorem Six.after {w w' : World} {b : Nat} {v0 v1 v2 v3 v4 v5 : Value} (h : Six w b v0 v1 v2 v3 v4 v5) (hb : Below w.heap.size w w') : Six w' b v0 v1 v2 v3 v4 v5 := h.below hb h.lt
theorem Six.new (w : World) (t : TypeId) (v0 v1 v2 v3 v4 v5 : Value) : Six (w.alloc (.cells #[v0, v1, v2, v3, v4, v5] t)) w.heap.size v0 v1 v2 v3 v4 v5 := by
  constructor <;> simp
end Go.Proofs.YtnpcinjdbeilkaaDoor
