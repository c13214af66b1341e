/- The contracts of frames.Cover and of the document's answer's own CoverOf: the same blocks. -/
import Derived.Test.YtdmeoooimnfmaaaGreatDoorCov
import Derived.OwnWalk
namespace Go.Proofs.YtdmeoooimnfmaaaGreatDoor
open Go.RowKit
namespace Fr

theorem shr_cond (a r j : Int) (j0 : 0 ≤ j) (j5 : j ≤ 5) (hr : 1 ≤ r) (hr2 : r ≤ 256) : cond a r (j + 1) = (al a (j + 1) && decide (0 < r / pw (j + 1))) := by
  unfold cond
  congr 1
  rcases orders j j0 (by omega) with rfl | rfl | rfl | rfl | rfl | rfl | rfl
  all_goals first | omega | skip
  all_goals
    simp only [Int.reduceAdd, pw1, pw2, pw3, pw4, pw5, pw6]
    rw [decide_eq_decide]
    omega

set_option maxHeartbeats 4000000 in
theorem widest_ok (a t : Int) (w : World) (h0 : 0 ≤ a) (h1 : a < t) (h2 : t ≤ 256) : Calls Tryz.prog 37 #[.int .i64 a, .int .i64 t] w fun ev w' => ev = .returned (.int .i64 (wid a (t - a))) ∧ w' = w := by
  go_enter Tryz.func37, Tryz.ntmps37
  go_wp2
  go_loop [5] (fun k => ∃ j : Int, 0 ≤ j ∧ j ≤ 6 ∧ Hid (upto a (t - a) j) ∧ k = .int .i64 j) (fun k => 6 - (intOf k).toNat)
  case atStart => exact ⟨0, by omega, by omega, upto_zero _ _, rfl⟩
  case round =>
    obtain ⟨j, j0, j6, hu, rfl⟩ := hrel
    by_cases hc : j ≤ 5 ∧ cond a (t - a) (j + 1) = true
    · obtain ⟨j5, hc⟩ := hc
      have HC := hide hc
      rw [shr_cond a (t - a) j j0 j5 (by omega) (by omega)] at hc
      simp only [Bool.and_eq_true, decide_eq_true_eq] at hc
      obtain ⟨ha, hs⟩ := hc
      unfold al at ha
      rcases orders j j0 (by omega) with rfl | rfl | rfl | rfl | rfl | rfl | rfl
      all_goals first | omega | skip
      all_goals
        simp only [Int.reduceAdd, pw1, pw2, pw3, pw4, pw5, pw6] at ha hs
        clear j0 j6 j5
        go_wp2
        go_round
        case rel => exact ⟨_, by omega, by omega, upto_succ (unhide hu) (unhide HC), rfl⟩
        case measure => simp [intOf]
    · have hw : wid a (t - a) = j := wid_of (unhide hu) j0 j6 (by
        by_cases h6 : j = 6
        · exact Or.inl h6
        · right
          have := fun h => hc ⟨by omega, h⟩
          simpa using this)
      have HW := hide hw
      clear hw
      by_cases h6 : j = 6
      · subst h6
        clear hc
        go_wp2
        go_ret
        exact ⟨by rw [unhide HW]; rfl, rfl⟩
      · have hc2 : cond a (t - a) (j + 1) = false := by
          have := fun h => hc ⟨by omega, h⟩
          simpa using this
        rw [shr_cond a (t - a) j j0 (by omega) (by omega) (by omega)] at hc2
        clear hc
        by_cases ha : al a (j + 1) = true
        · rw [ha] at hc2
          simp only [Bool.true_and] at hc2
          unfold al at ha
          rcases orders j j0 (by omega) with rfl | rfl | rfl | rfl | rfl | rfl | rfl
          all_goals first | omega | skip
          all_goals
            simp only [Int.reduceAdd, pw1, pw2, pw3, pw4, pw5, pw6] at ha hc2
            clear j0 j6 h6
            go_wp2
            go_ret
            exact ⟨by rw [unhide HW]; rfl, rfl⟩
        · have ha2 : al a (j + 1) = false := by simpa using ha
          clear hc2 ha
          unfold al at ha2
          rcases orders j j0 (by omega) with rfl | rfl | rfl | rfl | rfl | rfl | rfl
          all_goals first | omega | skip
          all_goals
            simp only [Int.reduceAdd, pw1, pw2, pw3, pw4, pw5, pw6] at ha2
            clear j0 j6 h6
            go_wp2
            go_ret
            exact ⟨by rw [unhide HW]; rfl, rfl⟩
end Fr
end Go.Proofs.YtdmeoooimnfmaaaGreatDoor
