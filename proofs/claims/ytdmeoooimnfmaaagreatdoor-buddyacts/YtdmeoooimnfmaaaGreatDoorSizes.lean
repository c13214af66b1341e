/- The contracts of the sizes of orders: frames.Size, frames.Order, and the document's answer's own IsOrder and Pages. -/
import Derived.Test.YtdmeoooimnfmaaaGreatDoorTwice
namespace Go.Proofs.YtdmeoooimnfmaaaGreatDoor
open Go.RowKit
namespace Fr

theorem pw_succ (k : Int) (h : 0 ≤ k) : pw (k + 1) = 2 * pw k := by
  unfold pw
  rw [show (k + 1).toNat = k.toNat + 1 from by omega, Int.pow_succ]; omega
theorem pw_le (k : Int) (h0 : 0 ≤ k) (h : k ≤ 5) : pw k ≤ 32 := by
  rcases orders k h0 (by omega) with rfl | rfl | rfl | rfl | rfl | rfl | rfl <;> first | omega | decide
theorem pw_le6 (k : Int) (h0 : 0 ≤ k) (h : k ≤ 6) : pw k ≤ 64 := by
  rcases orders k h0 (by omega) with rfl | rfl | rfl | rfl | rfl | rfl | rfl <;> decide

theorem rIsOrder_yes (k : Int) (w : World) (h0 : 0 ≤ k) (h1 : k ≤ 6) : Calls Tryz.prog 9 #[.int .i64 k] w fun ev w' => ev = .returned (.bool true) ∧ w' = w := by
  go_enter Tryz.func9, Tryz.ntmps9
  go_wp2
  go_ret
  exact ⟨rfl, rfl⟩
theorem rIsOrder_no (k : Int) (w : World) (h : k < 0 ∨ 6 < k) : Calls Tryz.prog 9 #[.int .i64 k] w fun ev w' => ev = .returned (.bool false) ∧ w' = w := by
  by_cases c : k < 0
  · have c1 : decide (0 ≤ k) = false := by simp; omega
    clear h
    go_enter Tryz.func9, Tryz.ntmps9
    go_wp2
    go_ret
    exact ⟨rfl, rfl⟩
  · have c1 : 0 ≤ k := by omega
    have c2 : decide (k ≤ 6) = false := by simp; omega
    clear h c
    go_enter Tryz.func9, Tryz.ntmps9
    go_wp2
    go_ret
    exact ⟨rfl, rfl⟩

theorem pages_ok (k : Int) (w : World) (h0 : 0 ≤ k) (h1 : k ≤ 6) : Calls Tryz.prog 40 #[.int .i64 k] w fun ev w' => ev = .returned (.int .i64 (pw k)) ∧ w' = w := by
  obtain ⟨n, rfl⟩ := Int.eq_ofNat_of_zero_le h0
  go_enter Tryz.func40, Tryz.ntmps40
  go_wp2
  go_loop [3, 4] (fun p i => ∃ j : Nat, j ≤ n ∧ i = .int .i64 j ∧ p = .int .i64 (pw j)) (fun _ i => n - (intOf i).toNat)
  case atStart => exact ⟨0, Nat.zero_le _, rfl, rfl⟩
  case round =>
    obtain ⟨j, hj, rfl, rfl⟩ := hrel
    have hs := hide (pw_succ j (by omega))
    have hp := pw_pos j
    by_cases hlt : j < n
    · have hle := pw_le j (by omega) (by omega)
      go_wp2
      go_round
      case rel => exact ⟨j + 1, by omega, by go_num, by rw [show (((j + 1 : Nat) : Int)) = (j : Int) + 1 from by omega, unhide hs]⟩
      case measure => simp [intOf]; omega
    · obtain rfl : j = n := by omega
      go_wp2
      go_ret
      exact ⟨rfl, rfl⟩

end Fr
end Go.Proofs.YtdmeoooimnfmaaaGreatDoor
