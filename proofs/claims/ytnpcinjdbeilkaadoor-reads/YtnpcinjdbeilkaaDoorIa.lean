/-
  The program's Read: spring.tell at a drop's fault; spring.Read.
-/
import Derived.Test.YtnpcinjdbeilkaaDoorHj
import Derived.Test.YtnpcinjdbeilkaaDoorEb
import Derived.Test.YtnpcinjdbeilkaaDoorGe
namespace Go.Proofs.YtnpcinjdbeilkaaDoor
open Go.RowKit Dw Period
set_option maxRecDepth 100000
set_option linter.unusedVariables false

theorem as_fault (p : Int) (c : Addr) (tb : Nat) (o0 o1 : Value) (w : World) (hg : w.cell? ⟨11, 0, none⟩ = some (.iface 178 (.agg #[.pointer (some ⟨13, 74, none⟩)])))
    (ht0 : w.cell? ⟨tb, 0, none⟩ = some o0) (ht1 : w.cell? ⟨tb, 1, none⟩ = some o1) (hf0 : w.frozen? ⟨tb, 0, none⟩ = false) (hf1 : w.frozen? ⟨tb, 1, none⟩ = false) :
    Calls Tryd.prog 48 #[.iface 99 (.agg #[.int .i64 p, .iface 205 (.pointer (some c))]), .iface 107 (.pointer (some ⟨tb, 0, none⟩))] w fun ev w' => ev = .returned (.bool true) ∧ w'.cell? ⟨tb, 0, none⟩ = some (.int .i64 p) ∧ Below tb w w' := by
  refine (as_hit p c tb o0 o1 w hg ht0 ht1 hf0 hf1).mono ?_
  rintro e w' ⟨rfl, rfl⟩
  have htl : tb < w.heap.size := by
    rcases Nat.lt_or_ge tb w.heap.size with h | h
    · exact h
    · simp [World.cell?, Array.getElem?_eq_none h] at ht0
  have hA : Below w.heap.size w (asWorld w tb p c) := by unfold asWorld; go_grown
  have h0 : (asWorld w tb p c).cell? ⟨tb, 0, none⟩ = some o0 := by rw [hA.cell (p := ⟨tb, 0, none⟩) htl]; exact ht0
  refine ⟨rfl, ?_, ((hA.mono (Nat.le_of_lt htl)).setCell (Nat.le_refl _) _).setCell (Nat.le_refl _) _⟩
  rw [set_other (.inr (by omega))]
  exact World.cell?_setCell_same _ _ _ h0

set_option maxHeartbeats 1000000 in
theorem tell_fault (a : Nat → Addr) (p : Int) (c : Addr) (w : World) (hw : Laid a w) :
    Calls Tryd.prog 28 #[.iface 99 (.agg #[.int .i64 p, .iface 205 (.pointer (some c))])] w fun e w' => e = .returned (.tuple #[.int .i64 3, .int .i64 p]) ∧ Below w.heap.size w w' := by
  have ht := ((hw.alloc (.cells #[.int .i64 0, .nilIface] 99)).alloc (.cells #[.int .i64 0, .nilIface] 105)).typ
  have hA := as_fault p c w.heap.size (.int .i64 0) .nilIface ((w.alloc (.cells #[.int .i64 0, .nilIface] 99)).alloc (.cells #[.int .i64 0, .nilIface] 105)) ht (by simp) (by simp) (by simp) (by simp)
  go_enter Tryd.func28, Tryd.ntmps28
  go_wp2_with (go_at_call 48; refine hA.mono ?_; rintro e w1 ⟨rfl, hc, hb⟩)
  go_quiet (fail)
  go_wp2
  go_ret2
  refine ⟨rfl, below_drewN (Below.trans ?_ hb) _⟩
  go_grown

/-- four cells of a block, all of which may be written -/
structure Four (w : World) (b : Nat) (v0 v1 v2 v3 : Value) : Prop where
  c0 : w.cell? ⟨b, 0, none⟩ = some v0
  c1 : w.cell? ⟨b, 1, none⟩ = some v1
  c2 : w.cell? ⟨b, 2, none⟩ = some v2
  c3 : w.cell? ⟨b, 3, none⟩ = some v3
  f0 : w.frozen? ⟨b, 0, none⟩ = false
  f1 : w.frozen? ⟨b, 1, none⟩ = false
  f2 : w.frozen? ⟨b, 2, none⟩ = false
  f3 : w.frozen? ⟨b, 3, none⟩ = false
theorem Four.lt {w : World} {b : Nat} {v0 v1 v2 v3 : Value} (h : Four w b v0 v1 v2 v3) : b < w.heap.size := by
  rcases Nat.lt_or_ge b w.heap.size with h' | h'
  · exact h'
  · have := h.c0; simp [World.cell?, Array.getElem?_eq_none h'] at this
theorem Four.below {w w' : World} {b B : Nat} {v0 v1 v2 v3 : Value} (h : Four w b v0 v1 v2 v3) (hb : Below B w w') (hB : b < B) : Four w' b v0 v1 v2 v3 := by
  have q : ∀ i, w'.cell? ⟨b, i, none⟩ = w.cell? ⟨b, i, none⟩ := fun i => hb.cell (p := ⟨b, i, none⟩) hB
  have r : ∀ i, w'.frozen? ⟨b, i, none⟩ = w.frozen? ⟨b, i, none⟩ := fun i => hb.frozen (p := ⟨b, i, none⟩) hB
  exact ⟨(q 0).trans h.c0, (q 1).trans h.c1, (q 2).trans h.c2, (q 3).trans h.c3, (r 0).trans h.f0, (r 1).trans h.f1, (r 2).trans h.f2, (r 3).trans h.f3⟩
theorem Four.after {w w' : World} {b : Nat} {v0 v1 v2 v3 : Value} (h : Four w b v0 v1 v2 v3) (hb : Below w.heap.size w w') : Four w' b v0 v1 v2 v3 := h.below hb h.lt
theorem Four.alloc {w : World} {b : Nat} {v0 v1 v2 v3 : Value} (h : Four w b v0 v1 v2 v3) (o : Obj) : Four (w.alloc o) b v0 v1 v2 v3 := h.after ((Below.refl _ _).alloc (Nat.le_refl _) o)
theorem Four.new (w : World) (t : TypeId) (v0 v1 v2 v3 : Value) : Four (w.alloc (.cells #[v0, v1, v2, v3] t)) w.heap.size v0 v1 v2 v3 := by
  constructor <;> simp
theorem Four.set {w : World} {b : Nat} {o0 o1 o2 o3 : Value} (h : Four w b o0 o1 o2 o3) (v0 v1 v2 v3 : Value) :
    Four ((((w.setCell ⟨b, 0, none⟩ v0).setCell ⟨b, 1, none⟩ v1).setCell ⟨b, 2, none⟩ v2).setCell ⟨b, 3, none⟩ v3) b v0 v1 v2 v3 := by
  constructor <;> simp [World.cell?_setCell_same', World.cell?_setCell_other, h.c0, h.c1, h.c2, h.c3, h.f0, h.f1, h.f2, h.f3]
theorem below_set4 {B : Nat} {w w' : World} {b : Nat} (h : Below B w w') (hb : B ≤ b) (v0 v1 v2 v3 : Value) :
    Below B w ((((w'.setCell ⟨b, 0, none⟩ v0).setCell ⟨b, 1, none⟩ v1).setCell ⟨b, 2, none⟩ v2).setCell ⟨b, 3, none⟩ v3) :=
  (((h.setCell hb _).setCell hb _).setCell hb _).setCell hb _
/-- the result that lies in a block of four cells, and two beside it -/
theorem results_four {w : World} {b : Nat} {v0 v1 v2 v3 : Value} (h : Four w b v0 v1 v2 v3) (tmps : Array Value) (h2 : tmps.getD 2 undef = .pointer (some ⟨b, 0, none⟩)) :
    (results Tryd.f9 tmps).run Tryd.prog w = .ok (.tuple #[.agg #[v0, v1, v2, v3], tmps.getD 3 undef, tmps.getD 4 undef]) w := by
  have h2' : tmps[2]?.getD undef = .pointer (some ⟨b, 0, none⟩) := by simpa using h2
  simp [results, Tryd.results9, go_sem, h2', asAddr, h.c0, h.c1, h.c2, h.c3]

set_option maxHeartbeats 1000000 in
theorem sread_any (a : Nat → Addr) (s : ByteArray) (hs : s.size ≤ maxLen) (w : World) (hw : Laid a w) :
    Calls Tryd.prog 9 #[.string s] w fun e w' => e = .returned (readV s) ∧ Below w.heap.size w w' := by
  have hR := fun W hW => wread_any a s hs W hW
  cases hbk : breaks s with
  | some p =>
    have hv : readV s = .tuple #[.agg #[.int .i64 0, .int .i64 0, .int .i64 0, .string { data := #[] }], .int .i64 3, .int .i64 (p : Nat)] := by unfold readV; rw [hbk]; rfl
    rw [hv]
    have hR' : ∀ W : World, Laid a W → Calls Tryd.prog 27 #[.string s] W fun e w' => (∃ c, e = .returned (.tuple #[.agg #[.int .i64 0, .int .i64 0, .int .i64 0, .int .u64 0, .int .u64 0, .string { data := #[] }], .iface 99 (.agg #[.int .i64 (p : Nat), .iface 205 (.pointer (some c))])])) ∧ Below W.heap.size W w' := by
      intro W hW
      refine (hR W hW).mono ?_
      rintro e w' ⟨h | h, hb⟩
      · obtain ⟨p', c, h1, rfl⟩ := h
        rw [hbk] at h1; injection h1 with h1; subst h1
        exact ⟨⟨c, rfl⟩, hb⟩
      · rw [hbk] at h; exact absurd h.1 (by simp)
    clear hv hR hbk
    have hw0 := hw.alloc (.cells #[.int .i64 0, .int .i64 0, .int .i64 0, .string { data := #[] }] 23)
    go_enter Tryd.func9, Tryd.ntmps9
    go_wp2_with (first
      | (go_at_call 27; refine (hR' _ hw0).mono ?_; rintro e w1 ⟨⟨c, rfl⟩, hb1⟩; have A1 := (Four.new w 23 (.int .i64 0) (.int .i64 0) (.int .i64 0) (.string { data := #[] })).after hb1; have L1 := hw0.after hb1; have HB1 : Hid (Below w.heap.size w w1) := below_new hb1; clear hb1)
      | (go_at_call 28; refine (tell_fault a (p : Int) c _ (L1.alloc _)).mono ?_; rintro e w2 ⟨rfl, hb2⟩; have A2 := (A1.alloc _).after hb2; have HB2 : Hid (Below w.heap.size w w2) := HB1.out.trans ((below_new hb2).mono HB1.out.size); have HA2 : Hid (Four w2 w.heap.size _ _ _ _) := A2; obtain ⟨c0, c1, c2, c3, f0, f1, f2, f3⟩ := A2; clear hb2))
    refine bodyPost_ret (v := .tuple #[.agg #[.int .i64 0, .int .i64 0, .int .i64 0, .string { data := #[] }], .int .i64 3, .int .i64 (p : Nat)]) ?_ rfl ⟨rfl, below_set4 HB2.out (Nat.le_refl _) _ _ _ _⟩
    exact results_four (HA2.out.set _ _ _ _) _ rfl
  | none =>
    obtain ⟨d, hd⟩ : ∃ d, d = s.extract 5 (rsz s + 5) := ⟨_, rfl⟩
    have hv : readV s = .tuple #[.agg #[.int .i64 (rid s : Nat), .int .i64 (rlen s : Nat), .int .i64 (rsz s : Nat), .string d], .int .i64 0, .int .i64 0] := by unfold readV; rw [hbk, hd]
    rw [hv]
    obtain ⟨l, hl⟩ : ∃ l, l = lo (maskOf (cnt (rlen s) (rsz s)) (rid s)) := ⟨_, rfl⟩
    obtain ⟨h, hh⟩ : ∃ h, h = hi (maskOf (cnt (rlen s) (rsz s)) (rid s)) := ⟨_, rfl⟩
    have hR' : ∀ W : World, Laid a W → Calls Tryd.prog 27 #[.string s] W fun e w' => e = .returned (.tuple #[.agg #[.int .i64 (rid s : Nat), .int .i64 (rlen s : Nat), .int .i64 (rsz s : Nat), .int .u64 (l : Int), .int .u64 (h : Int), .string d], .nilIface]) ∧ Below W.heap.size W w' := by
      intro W hW
      refine (hR W hW).mono ?_
      rintro e w' ⟨h | h, hb⟩
      · obtain ⟨p', c, h1, rfl⟩ := h
        rw [hbk] at h1; exact absurd h1 (by simp)
      · rw [hl, hh, hd]; exact ⟨h.2, hb⟩
    clear hv hR hbk hl hh hd
    have hw0 := hw.alloc (.cells #[.int .i64 0, .int .i64 0, .int .i64 0, .string { data := #[] }] 23)
    go_enter Tryd.func9, Tryd.ntmps9
    go_wp2_with (go_at_call 27; refine (hR' _ hw0).mono ?_; rintro e w1 ⟨rfl, hb1⟩; have A1 := (Four.new w 23 (.int .i64 0) (.int .i64 0) (.int .i64 0) (.string { data := #[] })).after hb1; have HB1 : Hid (Below w.heap.size w w1) := below_new hb1; have HA1 : Hid (Four w1 w.heap.size _ _ _ _) := A1; obtain ⟨c0, c1, c2, c3, f0, f1, f2, f3⟩ := A1.alloc (.cells #[.int .i64 (rid s : Nat), .int .i64 (rlen s : Nat), .int .i64 (rsz s : Nat), .int .u64 (l : Int), .int .u64 (h : Int), .string d] 72); clear hb1)
    refine bodyPost_ret (v := .tuple #[.agg #[.int .i64 (rid s : Nat), .int .i64 (rlen s : Nat), .int .i64 (rsz s : Nat), .string d], .int .i64 0, .int .i64 0]) ?_ rfl ⟨rfl, below_set4 (HB1.out.alloc HB1.out.size _) (Nat.le_refl _) _ _ _ _⟩
    exact results_four ((HA1.out.alloc _).set _ _ _ _) _ rfl
end Go.Proofs.YtnpcinjdbeilkaaDoor
