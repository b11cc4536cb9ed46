import Derived.Test.YtnpcinjdbeilkaaXd
namespace Go.Proofs.Ytnpcinjdbeilkaa
open Go.RowKit Dw Period
set_option maxRecDepth 100000

set_option maxHeartbeats 1000000 in
theorem same_any (l : List Nat) (hl : l.length ≤ 80) (B1 B2 g1 c1 g2 c2 : Nat) (w : World)
    (h1 : w.ownsRow B1 3 1 (.slice (some ⟨g1, 0, none⟩) l.length c1) l.length (nums l)) (h2 : w.ownsRow B2 3 1 (.slice (some ⟨g2, 0, none⟩) l.length c2) l.length (nums l)) :
    Calls Try.prog 7 #[.slice (some ⟨g1, 0, none⟩) l.length c1, .slice (some ⟨g2, 0, none⟩) l.length c2] w fun e w' => e = .returned (.bool true) ∧ ∃ n, w' = w.drewN n := by
  go_enter Try.func7, Try.ntmps7
  go_wp2
  go_loopw [5] (fun i wr => ∃ n : Nat, n ≤ l.length ∧ i = .int .i64 n ∧ ∃ q, wr = w.drewN q) (fun i _ => l.length - (intOf i).toNat)
  case atStart => exact ⟨0, by omega, rfl, 0, rfl⟩
  case round =>
    obtain ⟨n, hn, rfl, q, rfl⟩ := hrel
    by_cases hlt : n < l.length
    · have e : (nums l)[n]? = some (.int .i64 (l[n] : Nat)) := by simp [nums, hlt]
      have q1 := (h1.cellAt n (by omega)).trans e
      have q2 := (h2.cellAt n (by omega)).trans e
      clear e
      go_wp2
      go_quiet (fail)
      go_wp2
      go_roundw
      case rel => exact ⟨n + 1, by omega, by go_num, _, rfl⟩
      case measure => simp [intOf]; omega
    · have hnk : n = l.length := by omega
      subst hnk
      go_wp2
      go_ret
      exact ⟨rfl, _, rfl⟩
end Go.Proofs.Ytnpcinjdbeilkaa
