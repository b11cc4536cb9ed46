/-
  P4: every Pour: the walks of the program's call, of the law, and its row.
-/
import Derived.Test.YtnpcinjdbeilkaaRows
import Derived.WalkKit
import Derived.ProofKit
import Derived.OpenShut
import Derived.ShutString
import Derived.Test.YtnpcinjdbeilkaaYb
import Derived.Test.YtnpcinjdbeilkaaZb
namespace Go.Proofs.Ytnpcinjdbeilkaa.pours
open Go.ChangeShapes Go.WideShapes Go.ChangeAt Go.RowKit
open Go.ChangeMaps (open_string shut_string)
set_option linter.unusedVariables false

theorem own : ownKnob Try.prog.godebug = none := by kernel_rfl

theorem pour_long (s : ByteArray) (size id : Int) (hs : s.size ≤ maxLen) (h : 400 < s.size) (w : World) :
    Calls Try.prog 9 #[.string s, .int .i64 size, .int .i64 id] w fun e w' => e = .returned (.tuple #[.string ByteArray.empty, .int .i64 1]) ∧ w' = w := by
  unfold maxLen at hs
  go_enter Try.func9, Try.ntmps9
  go_wp2
  go_ret2
  exact ⟨rfl, rfl⟩

theorem pour_bad (s : ByteArray) (size id : Int) (hs : s.size ≤ 400)
    (h : ¬ (1 ≤ size ∧ size ≤ 16 ∧ 0 ≤ id ∧ id ≤ 65535 ∧ 1 ≤ s.size ∧ Dw.cnt s.size size.toNat ≤ 80)) (w : World) :
    Calls Try.prog 9 #[.string s, .int .i64 size, .int .i64 id] w fun e w' => e = .returned (.tuple #[.string ByteArray.empty, .int .i64 2]) ∧ w' = w := by
  by_cases h1 : id < 0 ∨ 65535 < id
  · have H1 : Hid (id < 0 ∨ 65535 < id) := h1
    clear h h1
    go_enter Try.func9, Try.ntmps9
    go_wp2_with (go_at_call 11; refine (isid_no id H1.out _).mono ?_; rintro e w' ⟨rfl, hw'⟩; obtain rfl := hw'.symm)
    go_ret2
    exact ⟨rfl, rfl⟩
  · have i1 : 0 ≤ id := by omega
    have i2 : id ≤ 65535 := by omega
    have H2 : Hid (¬ (1 ≤ s.size ∧ 1 ≤ size ∧ size ≤ 16 ∧ Dw.cnt s.size size.toNat ≤ 80)) := fun hh => h ⟨hh.2.1, hh.2.2.1, i1, i2, hh.1, hh.2.2.2⟩
    clear h h1
    go_enter Try.func9, Try.ntmps9
    go_wp2_with (first | (go_at_call 11; refine (isid_yes id i1 i2 _).mono ?_; rintro e w' ⟨rfl, hw'⟩; obtain rfl := hw'.symm) | (go_at_call 15; refine (fit_no s.size size hs H2.out _).mono ?_; rintro e w' ⟨rfl, hw'⟩; obtain rfl := hw'.symm))
    go_ret2
    exact ⟨rfl, rfl⟩

set_option maxHeartbeats 1000000 in
theorem pour_ok (s : ByteArray) (size id m k : Nat) (hk : k = Dw.cnt s.size size) (hs : s.size ≤ 400) (hs1 : 1 ≤ s.size) (hz1 : 1 ≤ size) (hz2 : size ≤ 16) (hid : id ≤ 65535) (hk2 : k ≤ 80) (hm : Dw.Drawn k id m) (hmk : m < 2 ^ k) (w : World) :
    Calls Try.prog 9 #[.string s, .int .i64 (size : Int), .int .i64 (id : Int)] w fun e w' => e = .returned (.tuple #[.string (Dw.str (Dw.drop m size k id s)), .int .i64 0]) ∧ Below w.heap.size w w' := by
  have hk1 : 1 ≤ k := by rw [hk]; exact Dw.cnt_pos _ _ hz1 hs1
  have HK : Hid (Dw.cnt s.size size = k) := hk.symm
  have HM : Hid (Dw.Drawn k id m) := hm
  have hm80 : m < 2 ^ 80 := Nat.lt_of_lt_of_le hmk (Nat.pow_le_pow_right (by omega) hk2)
  clear hk hm hmk
  go_enter Try.func9, Try.ntmps9
  go_wp2_with (first | (go_at_call 11; refine (isid_yes (id : Int) (by omega) (by omega) _).mono ?_; rintro e w' ⟨rfl, hw'⟩; obtain rfl := hw'.symm) | (go_at_call 15; refine (fit_yes s.size size hs1 hs hz1 hz2 (by rw [HK.out]; exact hk2) _).mono ?_; rintro e w' ⟨rfl, hw'⟩; obtain rfl := hw'.symm) | (go_at_call 16; refine (count_any s.size size hs hz1 hz2 _).mono ?_; rintro e w' ⟨rfl, hw'⟩; obtain rfl := hw'.symm; rw [HK.out]) | (go_at_call 12; refine (draw_of k id m hk1 hk2 hid _ HM.out).mono ?_; rintro e w1 ⟨rfl, hb1⟩) | (go_at_call 18; refine (mix_any s size m k hs hz1 hz2 HK.out.symm hk2 hm80 _).mono ?_; rintro e w2 ⟨g, rfl, ho2, hb2⟩) | (go_at_call 17; refine (write_any id s.size size (Dw.dataOf m size k s size) g _ _ hid (by omega) hz1 hz2 (Dw.dataOf_len _ _ _ _ _) _ ho2 rfl).mono ?_; rintro e w3 ⟨rfl, hb3⟩))
  go_ret2
  have hb1' := (hb1.alloc hb1.size (Obj.cells #[Value.int IntKind.u64 (lo m : Nat), Value.int IntKind.u64 (hi m : Nat)] 39)).trans (hb2.mono (by simp; have := hb1.size; omega))
  exact ⟨rfl, hb1'.trans (hb3.mono hb1'.size)⟩

theorem walk (a0 : ByteArray) (a1 : Int) (a2 : Int) (w0 : a0.size ≤ maxLen) (w1 : (Lit.int .i64 a1).wf = true) (w2 : (Lit.int .i64 a2).wf = true) (w : World) :
    Calls Try.prog 4 #[.string a0, .int .i64 a1, .int .i64 a2] w fun e w' => e = .returned (.bool true) ∧ Below w.heap.size w w' := by
  by_cases hl : 400 < a0.size
  · go_enter Try.func4, Try.ntmps4
    go_wp2_with (first | (go_at_call 9; refine (pour_long a0 a1 a2 w0 hl _).mono ?_; rintro e w' ⟨rfl, hw'⟩; obtain rfl := hw'.symm) | (go_at_call 10; refine (rpour_long a0 a1 a2 w0 hl _).mono ?_; rintro e w' ⟨rfl, hw'⟩; obtain rfl := hw'.symm) | (go_at_call 8; refine (num_any _ _).mono ?_; rintro e w' ⟨rfl, hw'⟩; obtain rfl := hw'.symm))
    go_ret
    exact ⟨rfl, Below.refl _ _⟩
  · have hs : a0.size ≤ 400 := by omega
    by_cases h : 1 ≤ a1 ∧ a1 ≤ 16 ∧ 0 ≤ a2 ∧ a2 ≤ 65535 ∧ 1 ≤ a0.size ∧ Dw.cnt a0.size a1.toNat ≤ 80
    · obtain ⟨size, rfl⟩ : ∃ z : Nat, a1 = z := ⟨a1.toNat, by omega⟩
      obtain ⟨id, rfl⟩ : ∃ z : Nat, a2 = z := ⟨a2.toNat, by omega⟩
      obtain ⟨h1, h2, h3, h4, h5, h6⟩ := h
      rw [show (size : Int).toNat = size from by simp] at h6
      obtain ⟨k, hk⟩ : ∃ k, k = Dw.cnt a0.size size := ⟨_, rfl⟩
      rw [← hk] at h6
      have hz1 : 1 ≤ size := by omega
      have hz2 : size ≤ 16 := by omega
      have hid : id ≤ 65535 := by omega
      have hk1 : 1 ≤ k := by rw [hk]; exact Dw.cnt_pos _ _ hz1 h5
      obtain ⟨m, hm, hmk, _⟩ := Dw.drawn_ex k id hk1 h6 hid
      have HK : Hid (k = Dw.cnt a0.size size) := hk
      have HM : Hid (Dw.Drawn k id m) := hm
      clear hk hm w0 w1 w2 hl h1 h2 h3 h4
      go_enter Try.func4, Try.ntmps4
      go_wp2_with (first | (go_at_call 9; refine (pour_ok a0 size id m k HK.out hs h5 hz1 hz2 hid h6 HM.out hmk _).mono ?_; rintro e w1 ⟨rfl, hb1⟩) | (go_at_call 10; refine (rpour_ok a0 size id m k HK.out hs h5 hz1 hz2 hid h6 HM.out _).mono ?_; rintro e w2 ⟨rfl, hb2⟩) | (go_at_call 8; refine (num_any _ _).mono ?_; rintro e w' ⟨rfl, hw'⟩; obtain rfl := hw'.symm))
      go_ret
      exact ⟨rfl, hb1.trans (hb2.mono hb1.size)⟩
    · have H : Hid (¬ (1 ≤ a1 ∧ a1 ≤ 16 ∧ 0 ≤ a2 ∧ a2 ≤ 65535 ∧ 1 ≤ a0.size ∧ Dw.cnt a0.size a1.toNat ≤ 80)) := h
      clear h w0 w1 w2 hl
      go_enter Try.func4, Try.ntmps4
      go_wp2_with (first | (go_at_call 9; refine (pour_bad a0 a1 a2 hs H.out _).mono ?_; rintro e w' ⟨rfl, hw'⟩; obtain rfl := hw'.symm) | (go_at_call 10; refine (rpour_bad a0 a1 a2 hs H.out _).mono ?_; rintro e w' ⟨rfl, hw'⟩; obtain rfl := hw'.symm) | (go_at_call 8; refine (num_any _ _).mono ?_; rintro e w' ⟨rfl, hw'⟩; obtain rfl := hw'.symm))
      go_ret
      exact ⟨rfl, Below.refl _ _⟩

set_option maxRecDepth 100000 in
theorem lifted (os : Os) (started : os.Started) (H : Type) (enc : TypeId × Value → H) :
    ReturnsInHanded {} Try.checked os 4 .any (Rows.poursSpec.pre6 enc Try.prog Try.f4 Rows.poursRow.domain false) (Rows.poursSpec.post enc Try.prog Try.f4 false true false false) := by
  refine returnsInHanded_of_change (C := Try.checked) own started (by kernel_rfl) Try.func4
    (ChangeSpec.witness6 (enc := enc) (C := Try.checked) false ⟨#[], #[.string ByteArray.empty, .int .i64 0, .int .i64 0], []⟩ 8 (by kernel_rfl) (by kernel_rfl) (by kernel_rfl) (by kernel_rfl)) ?_
  intro W base args ds gs before hval0 hW hcnd _
  have hval : ∀ (j : Nat) t v, Try.f4.params[j]? = some t → args[j]? = some v → Value.okWide Try.prog W .any base t v := hval0
  have hW' := hW
  obtain ⟨p, q, hA0, hV, rfl, hfz, hnd⟩ := hW
  have hA : DataW.TrodAll enc Try.prog W 0 (fun _ => true) true Try.f4.params.toList args.toList ds p := hA0
  rw [Try.params4] at hA hval
  obtain ⟨v0, vs0, d0, ds0, p0, q0, hargs, rfl, rfl, h0, r0⟩ := trodAll_cons hA
  obtain ⟨v1, vs1, d1, ds1, p1, q1, rfl, rfl, rfl, h1, r1⟩ := trodAll_cons r0
  obtain ⟨v2, vs2, d2, ds2, p2, q2, rfl, rfl, rfl, h2, r2⟩ := trodAll_cons r1
  obtain ⟨rfl, rfl, rfl⟩ := trodAll_nil r2
  obtain rfl : args = #[v0, v1, v2] := by cases args; simp_all
  obtain ⟨rfl, rfl⟩ := trodVars_none hV
  obtain ⟨a0, rfl, rfl, rfl, w0⟩ := open_string Try.underlying9 (hval 0 9 v0 rfl rfl) h0
  obtain ⟨a1, rfl, rfl, rfl, w1⟩ := open_int Try.underlying3 (hval 1 3 v1 rfl rfl) h1
  obtain ⟨a2, rfl, rfl, rfl, w2⟩ := open_int Try.underlying3 (hval 2 3 v2 rfl rfl) h2
  clear hA0 hval0
  simp only [List.append_nil] at hW'
  refine (walk a0 a1 a2 w0 w1 w2 W).mono fun e W' ⟨he, hg⟩ => ?_
  subst he
  exact ⟨_, rfl, _, _, _, [], _, [], hW', trodAll_mk1 (shut_bool Try.underlying4 _), (trodAll_cons_mk (shut_string Try.underlying9 w0) (trodAll_cons_mk (shut_int Try.underlying3 w1) (trodAll_cons_mk (shut_int Try.underlying3 w2) trodAll_mk0))), rfl, hg.frame _, fun h => by cases h⟩

theorem over : Rows.poursRow.holds Try.pinned (OpenSpec.ofChange Rows.poursSpec) :=
  OpenClaim.holds_of_wide 4 Try.f4 rfl rfl rfl rfl rfl rfl rfl ⟨rfl, rfl, rfl, rfl, rfl⟩ rfl rfl rfl rfl rfl (by kernel_rfl) Try.func4 (by kernel_rfl)
    (of_decide_eq_true (by kernel_rfl)) (by unfold Func.isWrapper; first | (rw [if_pos (by decide +kernel)]; kernel_rfl) | (rw [if_neg (by decide +kernel)]; exact ⟨rfl, rfl⟩))
    (fun os started H enc _ => lifted os started H enc)

end Go.Proofs.Ytnpcinjdbeilkaa.pours
namespace Go.Proofs.Ytnpcinjdbeilkaa
/-- THE STATEMENT: every Pour answers as the document says (P4). -/
theorem pours_holds : Rows.PoursSaid := pours.over
#print axioms pours_holds
end Go.Proofs.Ytnpcinjdbeilkaa
