/-
  The reference's Read, walked.
-/
import Derived.Test.YtnpcinjdbeilkaaDoorYc
import Derived.Test.YtnpcinjdbeilkaaDoorRd
import Derived.Test.YtnpcinjdbeilkaaDoorOnly
namespace Go.Proofs.YtnpcinjdbeilkaaDoor
open Go.RowKit Dw Period
set_option maxRecDepth 100000

def noDrop : Value := .agg #[.int .i64 0, .int .i64 0, .int .i64 0, .string { data := #[] }]
/-- what Read answers -/
noncomputable def readV (s : ByteArray) : Value :=
  match breaks s with
  | some p => .tuple #[noDrop, .int .i64 3, .int .i64 (p : Nat)]
  | none => .tuple #[.agg #[.int .i64 (rid s : Nat), .int .i64 (rlen s : Nat), .int .i64 (rsz s : Nat), .string (s.extract 5 (rsz s + 5))], .int .i64 0, .int .i64 0]

set_option maxRecDepth 100000 in
set_option maxHeartbeats 400000 in
theorem rread_short (s : ByteArray) (h : s.size < 5) (w : World) :
    Calls Tryd.prog 10 #[.string s] w fun e w' => e = .returned (readV s) ∧ Below w.heap.size w w' := by
  have hb : readV s = .tuple #[noDrop, .int .i64 3, .int .i64 (s.size : Int)] := by unfold readV breaks; rw [if_pos h]
  rw [hb]
  clear hb
  go_enter Tryd.func10, Tryd.ntmps10
  go_wp2
  exact bodyPost_ret (v := .tuple #[noDrop, .int .i64 3, .int .i64 (s.size : Int)]) (by simp [results, Tryd.results10, go_sem, noDrop]) rfl ⟨rfl, (Below.refl _ _).alloc (Nat.le_refl _) _⟩

set_option maxRecDepth 100000 in
set_option maxHeartbeats 4000000 in
theorem rread_long (s : ByteArray) (h5 : 5 ≤ s.size) (hsm : s.size ≤ maxLen) (hfull : ¬ (1 ≤ rlen s ∧ rlen s ≤ 400 ∧ 1 ≤ rsz s ∧ rsz s ≤ 16 ∧ cnt (rlen s) (rsz s) ≤ 80 ∧ s.size = rsz s + 7)) (w : World) :
    Calls Tryd.prog 10 #[.string s] w fun e w' => e = .returned (readV s) ∧ Below w.heap.size w w' := by
  unfold maxLen at hsm
  have HFULL : Hid (¬ (1 ≤ rlen s ∧ rlen s ≤ 400 ∧ 1 ≤ rsz s ∧ rsz s ≤ 16 ∧ cnt (rlen s) (rsz s) ≤ 80 ∧ s.size = rsz s + 7)) := hfull
  clear hfull
  have g0 := byteAt_get s 0 (by omega)
  have g1 := byteAt_get s 1 (by omega)
  have g2 := byteAt_get s 2 (by omega)
  have g3 := byteAt_get s 3 (by omega)
  have g4 := byteAt_get s 4 (by omega)
  have l0 := byteAt_lt s 0
  have l1 := byteAt_lt s 1
  have l2 := byteAt_lt s 2
  have l3 := byteAt_lt s 3
  have l4 := byteAt_lt s 4
  have e0 : IntKind.i64.wrap ((byteAt s 0 : Nat) : Int) = ((byteAt s 0 : Nat) : Int) := IntWalk.i64_in _ ⟨by omega, by omega⟩
  have e1 : IntKind.i64.wrap ((byteAt s 1 : Nat) : Int) = ((byteAt s 1 : Nat) : Int) := IntWalk.i64_in _ ⟨by omega, by omega⟩
  have e2 : IntKind.i64.wrap ((byteAt s 2 : Nat) : Int) = ((byteAt s 2 : Nat) : Int) := IntWalk.i64_in _ ⟨by omega, by omega⟩
  have e3 : IntKind.i64.wrap ((byteAt s 3 : Nat) : Int) = ((byteAt s 3 : Nat) : Int) := IntWalk.i64_in _ ⟨by omega, by omega⟩
  have e4 : IntKind.i64.wrap ((byteAt s 4 : Nat) : Int) = ((rsz s : Nat) : Int) := IntWalk.i64_in _ ⟨by omega, by omega⟩
  have e5 : IntKind.i64.wrap (256 * ((byteAt s 0 : Nat) : Int)) = 256 * ((byteAt s 0 : Nat) : Int) := IntWalk.i64_in _ ⟨by omega, by omega⟩
  have e6 : IntKind.i64.wrap (256 * ((byteAt s 2 : Nat) : Int)) = 256 * ((byteAt s 2 : Nat) : Int) := IntWalk.i64_in _ ⟨by omega, by omega⟩
  have e7 : IntKind.i64.wrap (256 * ((byteAt s 0 : Nat) : Int) + ((byteAt s 1 : Nat) : Int)) = ((rid s : Nat) : Int) := by
    rw [IntWalk.i64_in _ ⟨by omega, by omega⟩]; unfold rid; omega
  have e8 : IntKind.i64.wrap (256 * ((byteAt s 2 : Nat) : Int) + ((byteAt s 3 : Nat) : Int)) = ((rlen s : Nat) : Int) := by
    rw [IntWalk.i64_in _ ⟨by omega, by omega⟩]; unfold rlen; omega
  have hrl := rlen_le s
  have hrs := rsz_le s
  have hri := rid_le s
  go_enter Tryd.func10, Tryd.ntmps10
  go_wp2
  go_region
  clear g0 g1 g2 g3 g4 l0 l1 l2 l3 l4 e0 e1 e2 e3 e4 e5 e6 e7 e8
  by_cases h1 : rlen s = 0 ∨ 400 < rlen s
  · have HB : Hid (readV s = .tuple #[noDrop, .int .i64 3, .int .i64 2]) := by show _ = _; unfold readV breaks; rw [if_neg (by omega), if_pos h1]; rfl
    by_cases h2 : rlen s = 0
    · have hd : (((rlen s : Nat) : Int) == 0) = true := by simp [h2]
      clear h1 h2
      go_wp2
      exact bodyPost_ret (v := .tuple #[noDrop, .int .i64 3, .int .i64 2]) (by simp [results, Tryd.results10, go_sem, noDrop]) rfl ⟨by rw [HB.out], (((Below.refl _ _).alloc (Nat.le_refl _) _).alloc (by simp) _).drew⟩

    · have hd : (((rlen s : Nat) : Int) == 0) = false := by simp; omega
      have h3 : 400 < rlen s := by omega
      clear h1 h2
      go_wp2
      exact bodyPost_ret (v := .tuple #[noDrop, .int .i64 3, .int .i64 2]) (by simp [results, Tryd.results10, go_sem, noDrop]) rfl ⟨by rw [HB.out], (((Below.refl _ _).alloc (Nat.le_refl _) _).alloc (by simp) _).drew⟩

  have hd1 : (((rlen s : Nat) : Int) == 0) = false := by simp; omega
  have hl4 : rlen s ≤ 400 := by omega
  have hl1 : 1 ≤ rlen s := by omega
  have HN1 : Hid (¬ (rlen s = 0 ∨ 400 < rlen s)) := h1
  clear h1
  by_cases h1 : rsz s = 0 ∨ 16 < rsz s ∨ 80 < cnt (rlen s) (rsz s)
  · have HB : Hid (readV s = .tuple #[noDrop, .int .i64 3, .int .i64 4]) := by show _ = _; unfold readV breaks; rw [if_neg (by omega), if_neg HN1.out, if_pos h1]; rfl
    by_cases h2 : rsz s = 0
    · have hd : (((rsz s : Nat) : Int) == 0) = true := by simp [h2]
      clear h1 h2
      go_wp2
      exact bodyPost_ret (v := .tuple #[noDrop, .int .i64 3, .int .i64 4]) (by simp [results, Tryd.results10, go_sem, noDrop]) rfl ⟨by rw [HB.out], (((Below.refl _ _).alloc (Nat.le_refl _) _).alloc (by simp) _).drew⟩

    · have hd : (((rsz s : Nat) : Int) == 0) = false := by simp; omega
      by_cases h3 : 16 < rsz s
      · clear h1 h2
        go_wp2
        exact bodyPost_ret (v := .tuple #[noDrop, .int .i64 3, .int .i64 4]) (by simp [results, Tryd.results10, go_sem, noDrop]) rfl ⟨by rw [HB.out], (((Below.refl _ _).alloc (Nat.le_refl _) _).alloc (by simp) _).drew⟩

      · have h4 : 80 < cnt (rlen s) (rsz s) := by omega
        have h5' : 1 ≤ rsz s := by omega
        have h6 : rsz s ≤ 16 := by omega
        clear h1 h2 h3
        go_wp2_with (go_at_call 22; refine (rcount_any (rlen s) (rsz s) hl4 h5' h6 _).mono ?_; rintro e w' ⟨rfl, hw'⟩; obtain rfl := hw'.symm)
        exact bodyPost_ret (v := .tuple #[noDrop, .int .i64 3, .int .i64 4]) (by simp [results, Tryd.results10, go_sem, noDrop]) rfl ⟨by rw [HB.out], (((Below.refl _ _).alloc (Nat.le_refl _) _).alloc (by simp) _).drew⟩

  have hd2 : (((rsz s : Nat) : Int) == 0) = false := by simp; omega
  have hz4 : rsz s ≤ 16 := by omega
  have hz1 : 1 ≤ rsz s := by omega
  have hk2 : cnt (rlen s) (rsz s) ≤ 80 := by omega
  have HN2 : Hid (¬ (rsz s = 0 ∨ 16 < rsz s ∨ 80 < cnt (rlen s) (rsz s))) := h1
  clear h1
  by_cases h1 : s.size < rsz s + 7
  · have HB : Hid (readV s = .tuple #[noDrop, .int .i64 3, .int .i64 (s.size : Nat)]) := by show _ = _; unfold readV breaks; rw [if_neg (by omega), if_neg HN1.out, if_neg HN2.out, if_pos h1]
    go_wp2_with (go_at_call 22; refine (rcount_any (rlen s) (rsz s) hl4 hz1 hz4 _).mono ?_; rintro e w' ⟨rfl, hw'⟩; obtain rfl := hw'.symm)
    exact bodyPost_ret (v := .tuple #[noDrop, .int .i64 3, .int .i64 (s.size : Nat)]) (by simp [results, Tryd.results10, go_sem, noDrop]) rfl ⟨by rw [HB.out], (((Below.refl _ _).alloc (Nat.le_refl _) _).alloc (by simp) _).drew⟩

  by_cases h2 : rsz s + 7 < s.size
  · have HB : Hid (readV s = .tuple #[noDrop, .int .i64 3, .int .i64 ((rsz s : Nat) + 7 : Int)]) := by
      show _ = _; unfold readV breaks; rw [if_neg (by omega), if_neg HN1.out, if_neg HN2.out, if_neg h1, if_pos h2]; rfl
    have ew : IntKind.i64.wrap (((rsz s : Nat) : Int) + 7) = ((rsz s : Nat) : Int) + 7 := IntWalk.i64_in _ ⟨by omega, by omega⟩
    go_wp2_with (go_at_call 22; refine (rcount_any (rlen s) (rsz s) hl4 hz1 hz4 _).mono ?_; rintro e w' ⟨rfl, hw'⟩; obtain rfl := hw'.symm)
    go_region
    all_goals
      go_wp2
      exact bodyPost_ret (v := .tuple #[noDrop, .int .i64 3, .int .i64 ((rsz s : Nat) + 7 : Int)]) (by simp [results, Tryd.results10, go_sem, noDrop]) rfl ⟨by rw [HB.out], ((((Below.refl _ _).alloc (Nat.le_refl _) _).alloc (by simp) _).drew).drew⟩
  exact absurd ⟨hl1, hl4, hz1, hz4, hk2, by omega⟩ HFULL.out
end Go.Proofs.YtnpcinjdbeilkaaDoor
