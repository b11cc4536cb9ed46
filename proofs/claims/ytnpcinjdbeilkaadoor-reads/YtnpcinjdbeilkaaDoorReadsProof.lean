/-
  P5: the walk of the law, its row, and its card.
-/
import Derived.Test.YtnpcinjdbeilkaaDoorRows
import Derived.Test.YtnpcinjdbeilkaaDoorCards
import Derived.Test.YtnpcinjdbeilkaaDoorTie
import Derived.Test.YtnpcinjdbeilkaaDoorLd
import Derived.Test.YtnpcinjdbeilkaaDoorGn
import Derived.ProofKit
import Derived.OpenShut
import Derived.ShutString
import Derived.LaidMore
import Derived.SevenTiedAt
namespace Go.Proofs.YtnpcinjdbeilkaaDoor.reads
open Go.ChangeShapes Go.WideShapes Go.ChangeAt Go.RowKit
open Go.ChangeMaps (open_string shut_string)
set_option linter.unusedVariables false
set_option maxRecDepth 100000

theorem own : ownKnob Tryd.prog.godebug = none := by kernel_rfl

theorem readV_form (s : ByteArray) : ∃ (i l z e p : Int) (d : ByteArray), readV s = .tuple #[.agg #[.int .i64 i, .int .i64 l, .int .i64 z, .string d], .int .i64 e, .int .i64 p] := by
  unfold readV
  cases Dw.breaks s with
  | some p => exact ⟨0, 0, 0, 3, p, _, rfl⟩
  | none => exact ⟨_, _, _, 0, 0, _, rfl⟩

set_option maxHeartbeats 1000000 in
theorem walk (a : Nat → Addr) (s : ByteArray) (hs : s.size ≤ maxLen) (w : World) (hw : Laid a w) :
    Calls Tryd.prog 3 #[.string s] w fun e w' => e = .returned (.bool true) ∧ Below w.heap.size w w' := by
  obtain ⟨i, l, z, x, p, d, hv⟩ := readV_form s
  have hA := sread_any a s hs w hw
  have hR := fun W => rread_any s hs W
  rw [hv] at hA
  simp only [hv] at hR
  clear hv
  go_enter Tryd.func3, Tryd.ntmps3
  go_wp2_with (first
    | (go_at_call 9; refine hA.mono ?_; rintro e w1 ⟨rfl, hb1⟩)
    | (go_at_call 10; refine (hR _).mono ?_; rintro e w2 ⟨rfl, hb2⟩; obtain ⟨c0, c1, c2, c3, f0, f1, f2, f3⟩ := ((Four.new w1 23 (.int .i64 i) (.int .i64 l) (.int .i64 z) (.string d)).after hb2).alloc (.cells #[.int .i64 i, .int .i64 l, .int .i64 z, .string d] 27); have HB : Hid (Below w.heap.size w w2) := hb1.trans ((below_new hb2).mono hb1.size); clear hb2)
    | (go_at_call 11; refine (num_any _ _).mono ?_; rintro e w' ⟨rfl, hw'⟩; obtain rfl := hw'.symm))
  go_ret
  exact ⟨rfl, HB.out.alloc HB.out.size _⟩

/-- The door's own heap meets the condition. -/
theorem door_met (os : Os) (args : Array Value) : laidMetH Tryd.prog Rows.readsRow.laid ((World.doorLaid Tryd.prog 230 os).forCall (fun _ _ => 0) ⟨#[], args, []⟩).memory :=
  laidMetH_of_parts3 (fuel := 8) (laidMet_of_run' 8 (by kernel_rfl) (by kernel_rfl)) (by kernel_rfl) (by kernel_rfl)

theorem lifted (os : Os) (started : os.Started) (H : Type) (enc : TypeId × Value → H) :
    ReturnsInHanded {} Tryd.checked os 3 .any (fun w args => (Rows.readsSpec.pre enc Tryd.prog Tryd.f3 [] false w args ∧ laidMetH Tryd.prog Rows.readsRow.laid w) ∧ sizedMet enc Tryd.prog Tryd.f3 (OpenSpec.ofChange Rows.readsSpec) false w args)
      (Rows.readsSpec.post enc Tryd.prog Tryd.f3 false true false false) := by
  refine returnsInHanded_of_change_and (C := Tryd.checked) (X := fun w _ => laidMetH Tryd.prog Rows.readsRow.laid w) (fun _ _ _ hh h => h.of_heap hh) own started (by kernel_rfl) Tryd.func3
    (ChangeSpec.witness_shaped (enc := enc) (C := Tryd.checked) (os := os) (X := fun w _ => laidMetH Tryd.prog Rows.readsRow.laid w) false (World.doorLaid Tryd.prog 230 os) #[.string ByteArray.empty] 8 rfl (World.shaped_of_RefB (by kernel_rfl) (by kernel_rfl)) (by kernel_rfl) (by kernel_rfl) (by kernel_rfl) (door_met os _)) ?_
  intro W base args ds gs before hval0 hW _ _ hL _
  have hval : ∀ (j : Nat) t v, Tryd.f3.params[j]? = some t → args[j]? = some v → Value.okWide Tryd.prog W .any base t v := hval0
  have hW' := hW
  obtain ⟨p, q, hA0, hV, rfl, hfz, hnd⟩ := hW
  have hA : DataW.TrodAll enc Tryd.prog W 0 (fun _ => true) true Tryd.f3.params.toList args.toList ds p := hA0
  rw [Tryd.params3] at hA hval
  obtain ⟨v0, vs0, d0, ds0, p0, q0, hargs, rfl, rfl, h0, r0⟩ := trodAll_cons hA
  obtain ⟨rfl, rfl, rfl⟩ := trodAll_nil r0
  obtain rfl : args = #[v0] := by cases args; simp_all
  obtain ⟨rfl, rfl⟩ := trodVars_none hV
  obtain ⟨a0, rfl, rfl, rfl, w0⟩ := open_string Tryd.underlying9 (hval 0 9 v0 rfl rfl) h0
  obtain ⟨a, ha⟩ := laid_of_reads hL
  clear hA0 hval0
  simp only [List.append_nil] at hW'
  refine (walk a a0 w0 W ha).mono fun e W' ⟨he, hg⟩ => ?_
  subst he
  exact ⟨_, rfl, _, _, _, [], _, [], hW', trodAll_mk1 (shut_bool Tryd.underlying4 _), (trodAll_cons_mk (shut_string Tryd.underlying9 w0) trodAll_mk0), rfl, hg.frame _, fun h => by cases h⟩

theorem over : Rows.ReadsSaid :=
  OpenClaim.holds_of_wide 3 Tryd.f3 rfl rfl rfl rfl rfl rfl rfl ⟨rfl, rfl, rfl, rfl, rfl⟩ rfl rfl rfl rfl rfl (by kernel_rfl) Tryd.func3 (by kernel_rfl)
    (of_decide_eq_true (by kernel_rfl)) (by unfold Func.isWrapper; first | (rw [if_pos (by decide +kernel)]; kernel_rfl) | (rw [if_neg (by decide +kernel)]; exact ⟨rfl, rfl⟩))
    (fun os started H enc _ => lifted os started H enc)
end Go.Proofs.YtnpcinjdbeilkaaDoor.reads
namespace Go.Proofs.YtnpcinjdbeilkaaDoor
/-- THE STATEMENT: every Read answers as the document says (P5). -/
theorem reads_holds : Rows.ReadsCardSaid := by
  refine ⟨?_, (fun D hD => by cases hD), reads_row_tie, (fun h => by cases h), by kernel_rfl⟩
  refine Claim7.tied_new_at .later Rows.readsCard.laidKinds true (Claim7.new_of_sixth reads.over Rows.readsCard.stood.harness true rfl ⟨rfl, rfl⟩ (by kernel_rfl) rfl ?_) (by kernel_rfl)
  intro f fn hf hfn
  obtain rfl : f = 3 := Option.some.inj ((show Tryd.prog.funcNamed "spring/springlaw.Reads" = some 3 by kernel_rfl).symm.trans hf) |>.symm
  obtain rfl : fn = Tryd.f3 := (Option.some.inj (Tryd.func3.symm.trans hfn)).symm
  exact ⟨by kernel_rfl, fun j t ht => by
    rw [Tryd.params3] at ht
    have hm : t ∈ [9] := by simpa using Array.mem_of_getElem? ht
    have hall : ([9].all fun u => !Tryd.prog.wantsStandIn u) = true := by kernel_rfl
    exact (show Tryd.prog.wantsStandIn t = false by simpa using List.all_eq_true.1 hall t hm)⟩
#print axioms reads_holds
end Go.Proofs.YtnpcinjdbeilkaaDoor
