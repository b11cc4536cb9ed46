/-
  The program's Read, walked from below: wire.checkEnd, strings.Clone, block.DataOf, block.One.
-/
import Derived.Test.YtnpcinjdbeilkaaDoorHb
import Derived.Test.YtnpcinjdbeilkaaDoorRe
namespace Go.Proofs.YtnpcinjdbeilkaaDoor
open Go.RowKit Dw Period
set_option maxRecDepth 100000
set_option linter.unusedVariables false

set_option maxHeartbeats 1000000 in
theorem checkend_len (a : Nat → Addr) (s : ByteArray) (e p : Nat) (hs : s.size ≤ maxLen) (he : e ≤ 300) (hne : s.size ≠ e + 2) (hp : p = min s.size (e + 2)) (w : World) (hw : Laid a w) :
    Calls Tryd.prog 44 #[.string s, .int .i64 (e : Int)] w fun x w' => x = .returned (faultV (p : Int) (a 3)) ∧ w' = w := by
  unfold maxLen at hs
  have q1 := hw.fin
  have hd : ((s.size : Int) != (e : Int) + 2) = true := by simp; omega
  by_cases h : s.size < e + 2
  · have hp' : p = s.size := by omega
    subst hp'
    clear hne hp
    have hmin : min (s.size : Int) ((e : Int) + 2) = (s.size : Int) := by omega
    go_enter Tryd.func44, Tryd.ntmps44
    go_wp2
    go_ret
    exact ⟨rfl, rfl⟩
  · have HP : Hid ((p : Int) = (e : Int) + 2) := by show _ = _; omega
    have h' : e + 2 < s.size := by omega
    clear hne hp h
    have hmin : min (s.size : Int) ((e : Int) + 2) = (e : Int) + 2 := by omega
    go_enter Tryd.func44, Tryd.ntmps44
    go_wp2
    go_ret
    exact ⟨by rw [HP.out]; rfl, rfl⟩

theorem Tryd.conv16 (z : Nat) (hz : z < 65536) : IntKind.i64.wrap (z : Int) = (z : Int) := IntWalk.i64_in _ ⟨by omega, by omega⟩
theorem pairV_at (s : ByteArray) (e : Nat) : pairV s (e : Int) = ((256 * byteAt s e + byteAt s (e + 1) : Nat) : Int) := rfl

set_option maxHeartbeats 1000000 in
theorem checkend_sum (a : Nat → Addr) (s : ByteArray) (e : Nat) (he : e ≤ 300) (hse : s.size = e + 2) (hne : 256 * byteAt s e + byteAt s (e + 1) ≠ crc s e) (w : World) (hw : Laid a w) :
    Calls Tryd.prog 44 #[.string s, .int .i64 (e : Int)] w fun x w' => x = .returned (faultV (e : Int) (a 4)) ∧ ∃ n, w' = w.drewN n := by
  have q1 := hw.sum
  have q2 : ∀ n, (w.drewN n).cell? ⟨9, 0, none⟩ = some (.iface 205 (.pointer (some (a 4)))) := fun n => q1
  have hd : ((s.size : Int) != (e : Int) + 2) = false := by simp; omega
  have hz7 : (s.size : Int) = (e : Int) + 2 := by omega
  have hsm : s.size ≤ maxLen := by unfold maxLen; omega
  have hes : e ≤ s.size := by omega
  have hx : (s.extract 0 e).size ≤ 1000 := by simp; omega
  have HCR : Hid (crc (s.extract 0 e) (s.extract 0 e).size = crc s e) := crc_extract s e hes
  have hcl := crc_lt s e
  have hcw := Tryd.conv16 (crc s e) hcl
  obtain ⟨sm, hsmv⟩ : ∃ sm, sm = 256 * byteAt s e + byteAt s (e + 1) := ⟨_, rfl⟩
  have hpv : pairV s (e : Int) = (sm : Int) := by rw [pairV_at, hsmv]
  have hd3 : ((sm : Int) != ((crc s e : Nat) : Int)) = true := by simp; omega
  have HSE : Hid (s.size = e + 2) := hse
  clear hne hsmv hse
  go_enter Tryd.func44, Tryd.ntmps44
  go_wp2
  go_region_with (first | (go_at_call 69; refine (pair_z s _ hsm ⟨by omega, by omega⟩ _).mono ?_; rintro e w' ⟨rfl, n1, rfl⟩) | (go_at_call 70; refine (sum_any _ hx _).mono ?_; rintro e w' ⟨rfl, hw'⟩; obtain rfl := hw'.symm; rw [HCR.out]))
  all_goals
    go_wp2
    go_ret
    exact ⟨rfl, _, rfl⟩

set_option maxHeartbeats 1000000 in
theorem checkend_ok (s : ByteArray) (e : Nat) (he : e ≤ 300) (hse : s.size = e + 2) (hne : 256 * byteAt s e + byteAt s (e + 1) = crc s e) (w : World) :
    Calls Tryd.prog 44 #[.string s, .int .i64 (e : Int)] w fun x w' => x = .returned .nilIface ∧ ∃ n, w' = w.drewN n := by
  have hd : ((s.size : Int) != (e : Int) + 2) = false := by simp; omega
  have hz7 : (s.size : Int) = (e : Int) + 2 := by omega
  have hsm : s.size ≤ maxLen := by unfold maxLen; omega
  have hes : e ≤ s.size := by omega
  have hx : (s.extract 0 e).size ≤ 1000 := by simp; omega
  have HCR : Hid (crc (s.extract 0 e) (s.extract 0 e).size = crc s e) := crc_extract s e hes
  have hcl := crc_lt s e
  have hcw := Tryd.conv16 (crc s e) hcl
  obtain ⟨sm, hsmv⟩ : ∃ sm, sm = 256 * byteAt s e + byteAt s (e + 1) := ⟨_, rfl⟩
  have hpv : pairV s (e : Int) = (sm : Int) := by rw [pairV_at, hsmv]
  have hd3 : ((sm : Int) != ((crc s e : Nat) : Int)) = false := by simp; omega
  clear hne hsmv hse
  go_enter Tryd.func44, Tryd.ntmps44
  go_wp2
  go_region_with (first | (go_at_call 69; refine (pair_z s _ hsm ⟨by omega, by omega⟩ _).mono ?_; rintro e w' ⟨rfl, n1, rfl⟩) | (go_at_call 70; refine (sum_any _ hx _).mono ?_; rintro e w' ⟨rfl, hw'⟩; obtain rfl := hw'.symm; rw [HCR.out]))
  all_goals
    go_wp2
    go_ret
    exact ⟨rfl, _, rfl⟩
end Go.Proofs.YtnpcinjdbeilkaaDoor
