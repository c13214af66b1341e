/- The contracts of package frames' Halves. -/
import Derived.Test.YtdmeoooimnfmaaaGreatDoorFrames3
namespace Go.Proofs.YtdmeoooimnfmaaaGreatDoor
open Go.RowKit
namespace Fr
set_option maxHeartbeats 2000000 in
theorem halves_ok (a k : Int) (w : World) (h0 : 0 ≤ a) (h1 : a < 256) (k0 : 1 ≤ k) (k6 : k ≤ 6) (ha : al a k = true) :
    Calls Tryz.prog 24 #[.agg #[.int .i64 a, .int .i64 k]] w fun e w' => e = .returned (.tuple #[blkV a (k - 1), blkV (a + pw (k - 1)) (k - 1), .nilIface]) ∧ Below w.heap.size w w' := by
  have hx := or_up a (k - 1) h0 h1 (by omega) (by omega) (by rw [show k - 1 + 1 = k from by omega]; exact ha)
  rcases orders k (by omega) (by omega) with rfl | rfl | rfl | rfl | rfl | rfl | rfl
  all_goals first | omega | skip
  all_goals
    have H := fun w => hide (anywhere_ok a _ w h0 h1 (by omega) k6 ha)
    simp only [Int.reduceSub, pw0, pw1, pw2, pw3, pw4, pw5] at hx ⊢
    clear ha k0 k6
    go_enter Tryz.func24, Tryz.ntmps24
    go_wp2_with (go_at_call 46; refine (unhide (H _)).mono ?_; rintro e w' ⟨rfl, rfl⟩)
    go_region
    go_wp2
    exact bodyPost_ret (v := .tuple #[blkV a _, blkV _ _, .nilIface]) (by simp [results, Tryz.results24, go_sem]) rfl ⟨rfl, by repeat (first | exact Below.refl _ _ | refine Below.drew ?_ | refine Below.setCell ?_ (by simp) _ | refine Below.alloc ?_ (by simp; try omega) _)⟩

theorem anywhere_err (a k : Int) (w : World) (e : Nat → Addr) (he : Errs3 w e) (h : upperE a k = 1 ∨ upperE a k = 2) :
    Calls Tryz.prog 46 #[.agg #[.int .i64 a, .int .i64 k]] w fun ev w' => ev = .returned (errV (e (upperE a k))) ∧ w' = w.alloc (blkO a k) := by
  unfold upperE at *
  by_cases c1 : a < 0 ∨ 256 ≤ a ∨ k < 0 ∨ 6 < k
  · rw [if_pos c1]; exact anywhere_bound a k w e he c1
  · rw [if_neg c1] at *
    by_cases c2 : al a k = true
    · rw [if_pos c2] at h; split at h <;> omega
    · rw [if_neg c2]; exact anywhere_shape a k w e he (by omega) (by omega) (by omega) (by omega) (by simpa using c2)

theorem halves_err (a k : Int) (w : World) (e : Nat → Addr) (he : Errs3 w e) (h : upperE a k ≠ 0) :
    Calls Tryz.prog 24 #[.agg #[.int .i64 a, .int .i64 k]] w fun ev w' => ev = .returned (.tuple #[blkV 0 0, blkV 0 0, errV (e (upperE a k))]) ∧ Below w.heap.size w w' := by
  by_cases h12 : upperE a k = 1 ∨ upperE a k = 2
  · have H := fun o o' o'' => hide (anywhere_err a k (((w.alloc o).alloc o').alloc o'') e (((he.alloc o).alloc o').alloc o'') h12)
    generalize upperE a k = c at *
    clear h he h12
    go_enter Tryz.func24, Tryz.ntmps24
    go_wp2_with (go_at_call 46; refine (unhide (H _ _ _)).mono ?_; rintro e w' ⟨rfl, rfl⟩)
    exact bodyPost_ret (v := .tuple #[blkV 0 0, blkV 0 0, errV (e c)]) (by simp [results, Tryz.results24, go_sem]) rfl ⟨rfl, by repeat (first | exact Below.refl _ _ | refine Below.drew ?_ | refine Below.setCell ?_ (by simp) _ | refine Below.alloc ?_ (by simp; try omega) _)⟩
  · unfold upperE at *
    by_cases c1 : a < 0 ∨ 256 ≤ a ∨ k < 0 ∨ 6 < k
    · rw [if_pos c1] at h12; exact absurd (Or.inl rfl) h12
    · rw [if_neg c1] at *
      by_cases c2 : al a k = true
      · rw [if_pos c2] at *
        by_cases c3 : k = 0
        · rw [if_pos c3] at *
          subst c3
          have H := fun w => hide (anywhere_ok a 0 w (by omega) (by omega) (by omega) (by omega) c2)
          have hN := fun o1 o2 o3 o4 => ((((he.alloc o1).alloc o2).alloc o3).alloc o4).none
          clear h12 he c2
          go_enter Tryz.func24, Tryz.ntmps24
          go_wp2_with (go_at_call 46; refine (unhide (H _)).mono ?_; rintro e w' ⟨rfl, rfl⟩)
          go_region
          go_wp2
          exact bodyPost_ret (v := .tuple #[blkV 0 0, blkV 0 0, errV (e 3)]) (by simp [results, Tryz.results24, go_sem]) rfl ⟨rfl, by repeat (first | exact Below.refl _ _ | refine Below.drew ?_ | refine Below.setCell ?_ (by simp) _ | refine Below.alloc ?_ (by simp; try omega) _)⟩
        · rw [if_neg c3] at h; exact absurd rfl h
      · rw [if_neg c2] at h12; exact absurd (Or.inr rfl) h12

end Fr
end Go.Proofs.YtdmeoooimnfmaaaGreatDoor
