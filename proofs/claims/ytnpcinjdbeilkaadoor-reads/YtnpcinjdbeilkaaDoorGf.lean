/-
  The reference's Read, walked: a drop of the right length.
-/
import Derived.Test.YtnpcinjdbeilkaaDoorGe
import Derived.Test.YtnpcinjdbeilkaaDoorRe
import Derived.Test.YtnpcinjdbeilkaaDoorWc
import Derived.Deep.DeepCutAuto
namespace Go.Proofs.YtnpcinjdbeilkaaDoor
open Go.RowKit Dw Period
set_option maxRecDepth 100000

theorem old4 (w : World) (v0 v1 v2 v3 : Value) (t : TypeId) (B : Obj) (n : Nat) (a : Addr) (v : Value) (ha : a.block ≠ w.heap.size) (o : Nat) :
    ((((w.alloc (.cells #[v0, v1, v2, v3] t)).alloc B).drewN n).setCell a v).cell? ⟨w.heap.size, o, none⟩ = #[v0, v1, v2, v3][o]? := by
  rw [World.cell?_setCell_other _ _ _ _ (by intro e; rw [e] at ha; exact ha rfl)]
  show ((w.alloc (.cells #[v0, v1, v2, v3] t)).alloc B).cell? ⟨w.heap.size, o, none⟩ = _
  rw [World.cell?_alloc_lt _ _ ⟨w.heap.size, o, none⟩ (by simp), World.cell?_alloc_at _ _ _ _ rfl]
/-- four cells written one by one -/
theorem set4 {w : World} {b : Nat} {o0 o1 o2 o3 : Value} (h0 : w.cell? ⟨b, 0, none⟩ = some o0) (h1 : w.cell? ⟨b, 1, none⟩ = some o1) (h2 : w.cell? ⟨b, 2, none⟩ = some o2) (h3 : w.cell? ⟨b, 3, none⟩ = some o3) (v0 v1 v2 v3 : Value) :
    (w.setCell ⟨b, 0, none⟩ v0).cell? ⟨b, 0, none⟩ = some v0 ∧ ((w.setCell ⟨b, 0, none⟩ v0).setCell ⟨b, 1, none⟩ v1).cell? ⟨b, 1, none⟩ = some v1 ∧
    (((w.setCell ⟨b, 0, none⟩ v0).setCell ⟨b, 1, none⟩ v1).setCell ⟨b, 2, none⟩ v2).cell? ⟨b, 2, none⟩ = some v2 ∧
    ((((w.setCell ⟨b, 0, none⟩ v0).setCell ⟨b, 1, none⟩ v1).setCell ⟨b, 2, none⟩ v2).setCell ⟨b, 3, none⟩ v3).cell? ⟨b, 3, none⟩ = some v3 := by
  refine ⟨World.cell?_setCell_same (u := o0) _ _ _ ?_, World.cell?_setCell_same (u := o1) _ _ _ ?_, World.cell?_setCell_same (u := o2) _ _ _ ?_, World.cell?_setCell_same (u := o3) _ _ _ ?_⟩
  · exact h0
  · rw [set_other (.inr (by omega))]; exact h1
  · rw [set_other (.inr (by omega)), set_other (.inr (by omega))]; exact h2
  · rw [set_other (.inr (by omega)), set_other (.inr (by omega)), set_other (.inr (by omega))]; exact h3

set_option maxRecDepth 100000 in
set_option maxHeartbeats 4000000 in
theorem rread_sum (s : ByteArray) (hl1 : 1 ≤ rlen s) (hl4 : rlen s ≤ 400) (hz1 : 1 ≤ rsz s) (hz4 : rsz s ≤ 16) (hk2 : cnt (rlen s) (rsz s) ≤ 80) (hsz : s.size = rsz s + 7) (hcrc : ¬ 256 * byteAt s (rsz s + 5) + byteAt s (rsz s + 6) = crc s (rsz s + 5)) (w : World) :
    Calls Tryd.prog 10 #[.string s] w fun e w' => e = .returned (readV s) ∧ Below w.heap.size w w' := by
  have h5 : 5 ≤ s.size := by omega
  have g0 := byteAt_get s 0 (by omega)
  have g1 := byteAt_get s 1 (by omega)
  have g2 := byteAt_get s 2 (by omega)
  have g3 := byteAt_get s 3 (by omega)
  have g4 := byteAt_get s 4 (by omega)
  have l0 := byteAt_lt s 0
  have l1 := byteAt_lt s 1
  have l2 := byteAt_lt s 2
  have l3 := byteAt_lt s 3
  have l4 := byteAt_lt s 4
  have e0 : IntKind.i64.wrap ((byteAt s 0 : Nat) : Int) = ((byteAt s 0 : Nat) : Int) := IntWalk.i64_in _ ⟨by omega, by omega⟩
  have e1 : IntKind.i64.wrap ((byteAt s 1 : Nat) : Int) = ((byteAt s 1 : Nat) : Int) := IntWalk.i64_in _ ⟨by omega, by omega⟩
  have e2 : IntKind.i64.wrap ((byteAt s 2 : Nat) : Int) = ((byteAt s 2 : Nat) : Int) := IntWalk.i64_in _ ⟨by omega, by omega⟩
  have e3 : IntKind.i64.wrap ((byteAt s 3 : Nat) : Int) = ((byteAt s 3 : Nat) : Int) := IntWalk.i64_in _ ⟨by omega, by omega⟩
  have e4 : IntKind.i64.wrap ((byteAt s 4 : Nat) : Int) = ((rsz s : Nat) : Int) := IntWalk.i64_in _ ⟨by omega, by omega⟩
  have e5 : IntKind.i64.wrap (256 * ((byteAt s 0 : Nat) : Int)) = 256 * ((byteAt s 0 : Nat) : Int) := IntWalk.i64_in _ ⟨by omega, by omega⟩
  have e6 : IntKind.i64.wrap (256 * ((byteAt s 2 : Nat) : Int)) = 256 * ((byteAt s 2 : Nat) : Int) := IntWalk.i64_in _ ⟨by omega, by omega⟩
  have e7 : IntKind.i64.wrap (256 * ((byteAt s 0 : Nat) : Int) + ((byteAt s 1 : Nat) : Int)) = ((rid s : Nat) : Int) := by
    rw [IntWalk.i64_in _ ⟨by omega, by omega⟩]; unfold rid; omega
  have e8 : IntKind.i64.wrap (256 * ((byteAt s 2 : Nat) : Int) + ((byteAt s 3 : Nat) : Int)) = ((rlen s : Nat) : Int) := by
    rw [IntWalk.i64_in _ ⟨by omega, by omega⟩]; unfold rlen; omega
  have hrl := rlen_le s
  have hrs := rsz_le s
  have hri := rid_le s
  go_enter Tryd.func10, Tryd.ntmps10
  go_wp2
  go_cut [5] (fun v wc => v = .pointer (some ⟨w.heap.size + 1, 0, none⟩) ∧ wc = ((w.alloc (Obj.cells #[Value.int IntKind.i64 0, Value.int IntKind.i64 0, Value.int IntKind.i64 0, Value.string { data := #[] }] 27)).alloc (Obj.cells #[Value.int IntKind.i64 (rid s : Nat), Value.int IntKind.i64 (rlen s : Nat), Value.int IntKind.i64 (rsz s : Nat), Value.string { data := #[] }] 27)).drew)
  case first =>
    go_region
    all_goals (go_wp2_with fail; go_meet; exact ⟨rfl, rfl⟩)
  clear g0 g1 g2 g3 g4 l0 l1 l2 l3 l4 e0 e1 e2 e3 e4 e5 e6 e7 e8
  obtain ⟨hv5, hwc⟩ := hcut
  subst hv5 hwc
  have hd1 : (((rlen s : Nat) : Int) == 0) = false := by simp; omega
  have hd2 : (((rsz s : Nat) : Int) == 0) = false := by simp; omega
  have hz7 : (s.size : Int) = ((rsz s : Nat) : Int) + 7 := by omega
  obtain ⟨z5, hz5⟩ : ∃ z5, z5 = rsz s + 5 := ⟨_, rfl⟩
  have i5 : ((rsz s : Nat) : Int) + 5 = (z5 : Int) := by omega
  have hz5s : z5 ≤ s.size := by omega
  have hx : (s.extract 0 z5).size ≤ 1000 := by simp; omega
  have HCR : Hid (crc (s.extract 0 z5) (s.extract 0 z5).size = crc s z5) := crc_extract s z5 hz5s
  have HSZ : Hid (s.size = rsz s + 7) := hsz
  have hlt1 : z5 < s.size := by omega
  obtain ⟨z6, hz6⟩ : ∃ z6, z6 = rsz s + 6 := ⟨_, rfl⟩
  have i6 : ((rsz s : Nat) : Int) + 6 = (z6 : Int) := by omega
  have hlt2 : z6 < s.size := by omega
  have f5 := byteAt_get s z5 hlt1
  have f6 := byteAt_get s z6 hlt2
  have l5 := byteAt_lt s z5
  have l6 := byteAt_lt s z6
  have e5 : IntKind.i64.wrap ((byteAt s z5 : Nat) : Int) = ((byteAt s z5 : Nat) : Int) := IntWalk.i64_in _ ⟨by omega, by omega⟩
  have e6 : IntKind.i64.wrap ((byteAt s z6 : Nat) : Int) = ((byteAt s z6 : Nat) : Int) := IntWalk.i64_in _ ⟨by omega, by omega⟩
  obtain ⟨sm, hsm⟩ : ∃ sm, sm = 256 * byteAt s z5 + byteAt s z6 := ⟨_, rfl⟩
  have e7 : IntKind.i64.wrap (256 * ((byteAt s z5 : Nat) : Int)) = 256 * ((byteAt s z5 : Nat) : Int) := IntWalk.i64_in _ ⟨by omega, by omega⟩
  have e8 : IntKind.i64.wrap (256 * ((byteAt s z5 : Nat) : Int) + ((byteAt s z6 : Nat) : Int)) = (sm : Int) := by
    rw [IntWalk.i64_in _ ⟨by omega, by omega⟩]; omega
  have e9 : IntKind.i64.wrap (z5 : Int) = (z5 : Int) := IntWalk.i64_in _ ⟨by omega, by omega⟩
  have e10 : IntKind.i64.wrap (z6 : Int) = (z6 : Int) := IntWalk.i64_in _ ⟨by omega, by omega⟩
  have HSM : Hid (256 * byteAt s z5 + byteAt s z6 = sm) := hsm.symm
  have HZ5 : Hid (z5 = rsz s + 5) := hz5
  have HZ6 : Hid (z6 = rsz s + 6) := hz6
  have hlt1' : (z5 : Int) < ((rsz s : Nat) : Int) + 7 := by omega
  have hlt2' : (z6 : Int) < ((rsz s : Nat) : Int) + 7 := by omega
  clear hsz hz5 hz6 hsm h5
  rw [← HZ5.out, ← HZ6.out, HSM.out] at hcrc
  have hd3 : ((sm : Int) != ((crc s z5 : Nat) : Int)) = true := by simp; omega
  have HB : Hid (readV s = .tuple #[noDrop, .int .i64 3, .int .i64 (z5 : Nat)]) := by
    show _ = _; unfold readV breaks
    rw [if_neg (by have := HSZ.out; omega), if_neg (by omega), if_neg (by omega), if_neg (by have := HSZ.out; omega), if_neg (by have := HSZ.out; omega), ← HZ5.out, ← HZ6.out, if_pos (by rw [HSM.out]; exact hcrc)]
  clear hcrc
  go_wp2_with (first | (go_at_call 22; refine (rcount_any (rlen s) (rsz s) hl4 hz1 hz4 _).mono ?_; rintro e w' ⟨rfl, hw'⟩; obtain rfl := hw'.symm) | (go_at_call 29; refine (rsum_any _ hx _).mono ?_; rintro e w' ⟨rfl, hw'⟩; obtain rfl := hw'.symm; rw [HCR.out]))
  go_quiet (fail)
  go_wp2
  go_region
  all_goals
    go_wp2
    exact bodyPost_ret (v := .tuple #[noDrop, .int .i64 3, .int .i64 (z5 : Nat)]) (by simp [results, Tryd.results10, go_sem, noDrop]) rfl ⟨by rw [HB.out], by repeat (first | exact Below.refl _ _ | apply Below.drew | apply below_drewN | (refine Below.setCell ?_ (by simp) _) | (refine Below.alloc ?_ (by simp) _))⟩
end Go.Proofs.YtnpcinjdbeilkaaDoor
