/-
  P3: the walk of the law, and its row.
-/
import Derived.Test.YtnpcinjdbeilkaaRows
import Derived.WalkKit
import Derived.ProofKit
import Derived.OpenShut
import Derived.Lib.SliceRun
import Derived.Test.YtnpcinjdbeilkaaXe
namespace Go.Proofs.Ytnpcinjdbeilkaa.draws
open Go.ChangeShapes Go.WideShapes Go.ChangeAt Go.RowKit
set_option linter.unusedVariables false

theorem own : ownKnob Try.prog.godebug = none := by kernel_rfl

theorem same_nil (w : World) : Calls Try.prog 7 #[.slice none 0 0, .slice none 0 0] w fun e w' => e = .returned (.bool true) ∧ w' = w := by
  go_enter Try.func7, Try.ntmps7
  go_wp2
  go_loop [5] (fun i => i = .int .i64 0) (fun _ => 0)
  case atStart => rfl
  case round =>
    subst hrel
    go_wp2
    go_ret
    exact ⟨rfl, rfl⟩

theorem walk (a0 : Int) (a1 : Int) (w0 : (Lit.int .i64 a0).wf = true) (w1 : (Lit.int .i64 a1).wf = true) (w : World) :
    Calls Try.prog 3 #[.int .i64 a0, .int .i64 a1] w fun e w' => e = .returned (.bool true) ∧ Below w.heap.size w w' := by
  have qn : ∀ (w : World) (a : Option Addr) (n c n' c' : Nat), (binOp .eql 22 (.slice a n c) (.slice none n' c')).run Try.prog w = .ok (.bool a.isNone) w := fun w a n c n' c' => Lib.run_eql_slice_nil w 22 3 a n c n' c' Try.underlying22
  by_cases h : 1 ≤ a0 ∧ a0 ≤ 80 ∧ 0 ≤ a1 ∧ a1 ≤ 65535
  · obtain ⟨k, rfl⟩ : ∃ k : Nat, a0 = k := ⟨a0.toNat, by omega⟩
    obtain ⟨id, rfl⟩ : ∃ id : Nat, a1 = id := ⟨a1.toNat, by omega⟩
    have hk : 1 ≤ k := by omega
    have hk2 : k ≤ 80 := by omega
    have hid : id ≤ 65535 := by omega
    obtain ⟨m, hm, hmk, hlen⟩ := Dw.drawn_ex k id hk hk2 hid
    have hll := Dw.lst_len m k
    clear h w0 w1
    go_enter Try.func3, Try.ntmps3
    go_wp2_with (first | (go_at_call 5; refine (blocks_ok k id m hk hk2 hid _ hm hmk).mono ?_; rintro e w1 ⟨v1, rfl, ho1, hb1⟩; obtain ⟨g1, c1, hv1⟩ := own_form ho1 hlen; subst hv1) | (go_at_call 6; refine (rblocks_ok k id m hk hk2 hid _ hm).mono ?_; rintro e w2 ⟨v2, rfl, ho2, hb2⟩; obtain ⟨g2, c2, hv2⟩ := own_form ho2 hlen; subst hv2; have ho3 := own_below ho1 hb2 (Nat.le_refl _)) | (go_at_call 7; refine (same_any (Dw.lst m k) (by omega) _ _ g1 c1 g2 c2 _ ho3 ho2).mono ?_; rintro e w3 ⟨rfl, nq, rfl⟩) | (go_at_call 8; refine (num_any _ _).mono ?_; rintro e w4 ⟨rfl, rfl⟩))
    go_ret
    exact ⟨rfl, below_drewN (hb1.trans (hb2.mono hb1.size)) _⟩
  · have H : Hid (¬ (1 ≤ a0 ∧ a0 ≤ 80 ∧ 0 ≤ a1 ∧ a1 ≤ 65535)) := h
    clear h w0 w1
    go_enter Try.func3, Try.ntmps3
    go_wp2_with (first | (go_at_call 5; refine (blocks_bad a0 a1 _ H.out).mono ?_; rintro e w1 ⟨rfl, rfl⟩) | (go_at_call 6; refine (rblocks_bad a0 a1 _ H.out).mono ?_; rintro e w1 ⟨rfl, rfl⟩) | (go_at_call 7; refine (same_nil _).mono ?_; rintro e w1 ⟨rfl, rfl⟩) | (go_at_call 8; refine (num_any _ _).mono ?_; rintro e w4 ⟨rfl, rfl⟩))
    go_ret
    exact ⟨rfl, Below.refl _ _⟩

set_option maxRecDepth 100000 in
theorem lifted (os : Os) (started : os.Started) (H : Type) (enc : TypeId × Value → H) :
    ReturnsInHanded {} Try.checked os 3 .any (Rows.drawsSpec.pre6 enc Try.prog Try.f3 Rows.drawsRow.domain false) (Rows.drawsSpec.post enc Try.prog Try.f3 false true false false) := by
  refine returnsInHanded_of_change (C := Try.checked) own started (by kernel_rfl) Try.func3
    (ChangeSpec.witness6 (enc := enc) (C := Try.checked) false ⟨#[], #[.int .i64 0, .int .i64 0], []⟩ 8 (by kernel_rfl) (by kernel_rfl) (by kernel_rfl) (by kernel_rfl)) ?_
  intro W base args ds gs before hval0 hW hcnd _
  have hval : ∀ (j : Nat) t v, Try.f3.params[j]? = some t → args[j]? = some v → Value.okWide Try.prog W .any base t v := hval0
  have hW' := hW
  obtain ⟨p, q, hA0, hV, rfl, hfz, hnd⟩ := hW
  have hA : DataW.TrodAll enc Try.prog W 0 (fun _ => true) true Try.f3.params.toList args.toList ds p := hA0
  rw [Try.params3] at hA hval
  obtain ⟨v0, vs0, d0, ds0, p0, q0, hargs, rfl, rfl, h0, r0⟩ := trodAll_cons hA
  obtain ⟨v1, vs1, d1, ds1, p1, q1, rfl, rfl, rfl, h1, r1⟩ := trodAll_cons r0
  obtain ⟨rfl, rfl, rfl⟩ := trodAll_nil r1
  obtain rfl : args = #[v0, v1] := by cases args; simp_all
  obtain ⟨rfl, rfl⟩ := trodVars_none hV
  obtain ⟨a0, rfl, rfl, rfl, w0⟩ := open_int Try.underlying3 (hval 0 3 v0 rfl rfl) h0
  obtain ⟨a1, rfl, rfl, rfl, w1⟩ := open_int Try.underlying3 (hval 1 3 v1 rfl rfl) h1
  clear hA0 hval0
  simp only [List.append_nil] at hW'
  refine (walk a0 a1 w0 w1 W).mono fun e W' ⟨he, hg⟩ => ?_
  subst he
  exact ⟨_, rfl, _, _, _, [], _, [], hW', trodAll_mk1 (shut_bool Try.underlying4 _), (trodAll_cons_mk (shut_int Try.underlying3 w0) (trodAll_cons_mk (shut_int Try.underlying3 w1) trodAll_mk0)), rfl, hg.frame _, fun h => by cases h⟩

theorem over : Rows.drawsRow.holds Try.pinned (OpenSpec.ofChange Rows.drawsSpec) :=
  OpenClaim.holds_of_wide 3 Try.f3 rfl rfl rfl rfl rfl rfl rfl ⟨rfl, rfl, rfl, rfl, rfl⟩ rfl rfl rfl rfl rfl (by kernel_rfl) Try.func3 (by kernel_rfl)
    (of_decide_eq_true (by kernel_rfl)) (by unfold Func.isWrapper; first | (rw [if_pos (by decide +kernel)]; kernel_rfl) | (rw [if_neg (by decide +kernel)]; exact ⟨rfl, rfl⟩))
    (fun os started H enc _ => lifted os started H enc)

end Go.Proofs.Ytnpcinjdbeilkaa.draws
namespace Go.Proofs.Ytnpcinjdbeilkaa
/-- THE STATEMENT: every Blocks answers as the document says (P3). -/
theorem draws_holds : Rows.DrawsSaid := draws.over
#print axioms draws_holds
end Go.Proofs.Ytnpcinjdbeilkaa
