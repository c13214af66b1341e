/- The contracts of the sizes of orders: frames.Size, frames.Order, and the document's answer's own IsOrder and Pages. -/
import Derived.Test.YtdmeoooimnfmaaaDoorTwice
namespace Go.Proofs.YtdmeoooimnfmaaaDoor
open Go.RowKit
namespace Fr

theorem pw_succ (k : Int) (h : 0 ≤ k) : pw (k + 1) = 2 * pw k := by
  unfold pw
  rw [show (k + 1).toNat = k.toNat + 1 from by omega, Int.pow_succ]; omega
theorem pw_le (k : Int) (h0 : 0 ≤ k) (h : k ≤ 5) : pw k ≤ 32 := by
  rcases orders k h0 (by omega) with rfl | rfl | rfl | rfl | rfl | rfl | rfl <;> first | omega | decide
theorem pw_le6 (k : Int) (h0 : 0 ≤ k) (h : k ≤ 6) : pw k ≤ 64 := by
  rcases orders k h0 (by omega) with rfl | rfl | rfl | rfl | rfl | rfl | rfl <;> decide

theorem rIsOrder_yes (k : Int) (w : World) (h0 : 0 ≤ k) (h1 : k ≤ 6) : Calls Tryd.prog 24 #[.int .i64 k] w fun ev w' => ev = .returned (.bool true) ∧ w' = w := by
  go_enter Tryd.func24, Tryd.ntmps24
  go_wp2
  go_ret
  exact ⟨rfl, rfl⟩
theorem rIsOrder_no (k : Int) (w : World) (h : k < 0 ∨ 6 < k) : Calls Tryd.prog 24 #[.int .i64 k] w fun ev w' => ev = .returned (.bool false) ∧ w' = w := by
  by_cases c : k < 0
  · have c1 : decide (0 ≤ k) = false := by simp; omega
    clear h
    go_enter Tryd.func24, Tryd.ntmps24
    go_wp2
    go_ret
    exact ⟨rfl, rfl⟩
  · have c1 : 0 ≤ k := by omega
    have c2 : decide (k ≤ 6) = false := by simp; omega
    clear h c
    go_enter Tryd.func24, Tryd.ntmps24
    go_wp2
    go_ret
    exact ⟨rfl, rfl⟩

theorem pages_ok (k : Int) (w : World) (h0 : 0 ≤ k) (h1 : k ≤ 6) : Calls Tryd.prog 25 #[.int .i64 k] w fun ev w' => ev = .returned (.int .i64 (pw k)) ∧ w' = w := by
  obtain ⟨n, rfl⟩ := Int.eq_ofNat_of_zero_le h0
  go_enter Tryd.func25, Tryd.ntmps25
  go_wp2
  go_loop [3, 4] (fun p i => ∃ j : Nat, j ≤ n ∧ i = .int .i64 j ∧ p = .int .i64 (pw j)) (fun _ i => n - (intOf i).toNat)
  case atStart => exact ⟨0, Nat.zero_le _, rfl, rfl⟩
  case round =>
    obtain ⟨j, hj, rfl, rfl⟩ := hrel
    have hs := hide (pw_succ j (by omega))
    have hp := pw_pos j
    by_cases hlt : j < n
    · have hle := pw_le j (by omega) (by omega)
      go_wp2
      go_round
      case rel => exact ⟨j + 1, by omega, by go_num, by rw [show (((j + 1 : Nat) : Int)) = (j : Int) + 1 from by omega, unhide hs]⟩
      case measure => simp [intOf]; omega
    · obtain rfl : j = n := by omega
      go_wp2
      go_ret
      exact ⟨rfl, rfl⟩

theorem size_ok (k : Int) (w : World) (h0 : 0 ≤ k) (h1 : k ≤ 6) : Calls Tryd.prog 23 #[.int .i64 k] w fun ev w' => ev = .returned (.tuple #[.int .i64 (pw k), .nilIface]) ∧ w' = w := by
  rcases orders k h0 h1 with rfl | rfl | rfl | rfl | rfl | rfl | rfl
  all_goals
    clear h0 h1
    go_enter Tryd.func23, Tryd.ntmps23
    go_wp2
    go_ret2
    exact ⟨rfl, rfl⟩
theorem size_err (k : Int) (w : World) (e : Nat → Addr) (he : Errs3 w e) (h : k < 0 ∨ 6 < k) : Calls Tryd.prog 23 #[.int .i64 k] w fun ev w' => ev = .returned (.tuple #[.int .i64 0, errV (e 1)]) ∧ Below w.heap.size w w' := by
  have hB := he.bound
  clear he
  by_cases c : k < 0
  · have c1 : decide (0 ≤ k) = false := by simp; omega
    clear h
    go_enter Tryd.func23, Tryd.ntmps23
    go_wp2
    go_region
    go_wp2
    go_ret2
    exact ⟨rfl, (Below.refl _ _).drew⟩
  · have c1 : 0 ≤ k := by omega
    have c2 : decide (k ≤ 6) = false := by simp; omega
    clear h c
    go_enter Tryd.func23, Tryd.ntmps23
    go_wp2
    go_region
    go_wp2
    go_ret2
    exact ⟨rfl, (Below.refl _ _).drew⟩

theorem order_err (n : Int) (w : World) (e : Nat → Addr) (he : Errs3 w e) (h : n < 1 ∨ 64 < n) : Calls Tryd.prog 26 #[.int .i64 n] w fun ev w' => ev = .returned (.tuple #[.int .i64 0, errV (e 1)]) ∧ Below w.heap.size w w' := by
  have hB := he.bound
  clear he
  by_cases c : n < 1
  · clear h
    go_enter Tryd.func26, Tryd.ntmps26
    go_wp2
    go_region
    go_wp2
    go_ret2
    exact ⟨rfl, (Below.refl _ _).drew⟩
  · have c1 : decide (n < 1) = false := by simp; omega
    have c2 : 64 < n := by omega
    clear h c
    go_enter Tryd.func26, Tryd.ntmps26
    go_wp2
    go_region
    go_wp2
    go_ret2
    exact ⟨rfl, (Below.refl _ _).drew⟩

set_option maxHeartbeats 2000000 in
theorem order_ok (n : Int) (w : World) (h0 : 1 ≤ n) (h1 : n ≤ 64) : Calls Tryd.prog 26 #[.int .i64 n] w fun ev w' => ∃ k : Int, ev = .returned (.tuple #[.int .i64 k, .nilIface]) ∧ 0 ≤ k ∧ k ≤ 6 ∧ n ≤ pw k ∧ (k = 0 ∨ pw (k - 1) < n) ∧ w' = w := by
  have c1 : decide (n < 1) = false := by simp; omega
  have c2 : decide (64 < n) = false := by simp; omega
  go_enter Tryd.func26, Tryd.ntmps26
  go_wp2
  clear c1 c2
  go_loop [4] (fun k => ∃ j : Int, 0 ≤ j ∧ j ≤ 6 ∧ (j = 0 ∨ pw (j - 1) < n) ∧ k = .int .i64 j) (fun k => 6 - (intOf k).toNat)
  case atStart => exact ⟨0, by omega, by omega, Or.inl rfl, rfl⟩
  case round =>
    obtain ⟨j, hj0, hj6, hj, rfl⟩ := hrel
    by_cases hlt : pw j < n
    · have hj5 : j ≤ 5 := by
        rcases Int.lt_or_le j 6 with h | h
        · omega
        · obtain rfl : j = 6 := by omega
          rw [pw6] at hlt; omega
      clear hj
      rcases orders j hj0 hj6 with rfl | rfl | rfl | rfl | rfl | rfl | rfl
      all_goals first | omega | skip
      all_goals
        have HL := hide hlt
        simp only [pw0, pw1, pw2, pw3, pw4, pw5] at hlt
        clear hj0 hj6 hj5
        go_wp2
        go_round
        case rel => exact ⟨_, by omega, by omega, Or.inr (unhide HL), rfl⟩
        case measure => simp [intOf]
    · have HJ := hide hj
      have HL := hide (Int.not_lt.1 hlt)
      clear hj
      rcases orders j hj0 hj6 with rfl | rfl | rfl | rfl | rfl | rfl | rfl
      all_goals
        simp only [pw0, pw1, pw2, pw3, pw4, pw5, pw6] at hlt
        clear hj0 hj6
        go_wp2
        go_ret2
        exact ⟨_, rfl, by omega, by omega, unhide HL, by first | exact Or.inl rfl | exact unhide HJ, rfl⟩
end Fr
end Go.Proofs.YtdmeoooimnfmaaaDoor
