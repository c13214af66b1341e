/- The contracts of package frames' Buddy, Parent, Halves: what they answer at each block. -/
import Derived.Test.YtdmeoooimnfmaaaGreatDoorFrames2
namespace Go.Proofs.YtdmeoooimnfmaaaGreatDoor
open Go.RowKit
namespace Fr

/-- Which error a block has that is asked for its buddy or parent (0: none). -/
def lowerE (a k : Int) : Nat := if a < 0 ∨ 256 ≤ a ∨ k < 0 ∨ 6 < k then 1 else if al a k = true then (if k = 6 then 3 else 0) else 2
/-- Which error a block has that is asked for its halves (0: none). -/
def upperE (a k : Int) : Nat := if a < 0 ∨ 256 ≤ a ∨ k < 0 ∨ 6 < k then 1 else if al a k = true then (if k = 0 then 3 else 0) else 2

theorem below_err (a k : Int) (w : World) (e : Nat → Addr) (he : Errs3 w e) (h : lowerE a k ≠ 0) :
    Calls Tryz.prog 61 #[.agg #[.int .i64 a, .int .i64 k]] w fun ev w' => ev = .returned (errV (e (lowerE a k))) ∧ w' = (w.alloc (blkO a k)).alloc (blkO a k) := by
  unfold lowerE at *
  by_cases c1 : a < 0 ∨ 256 ≤ a ∨ k < 0 ∨ 6 < k
  · rw [if_pos c1]; exact below_bound a k w e he c1
  · rw [if_neg c1] at *
    by_cases c2 : al a k = true
    · rw [if_pos c2] at *
      by_cases c3 : k = 6
      · rw [if_pos c3]; subst c3; exact below_none a w e he (by omega) (by omega) c2
      · rw [if_neg c3] at h; exact absurd rfl h
    · rw [if_neg c2]; exact below_shape a k w e he (by omega) (by omega) (by omega) (by omega) (by simpa using c2)

theorem lowerE_ok {a k : Int} (h : lowerE a k = 0) : 0 ≤ a ∧ a < 256 ∧ 0 ≤ k ∧ k ≤ 5 ∧ al a k = true := by
  unfold lowerE at h
  split at h
  · simp at h
  · split at h
    · split at h
      · simp at h
      · next c1 c2 c3 => exact ⟨by omega, by omega, by omega, by omega, c2⟩
    · simp at h
theorem upperE_ok {a k : Int} (h : upperE a k = 0) : 0 ≤ a ∧ a < 256 ∧ 1 ≤ k ∧ k ≤ 6 ∧ al a k = true := by
  unfold upperE at h
  split at h
  · simp at h
  · split at h
    · split at h
      · simp at h
      · next c1 c2 c3 => exact ⟨by omega, by omega, by omega, by omega, c2⟩
    · simp at h

theorem buddy_err (a k : Int) (w : World) (e : Nat → Addr) (he : Errs3 w e) (h : lowerE a k ≠ 0) :
    Calls Tryz.prog 47 #[.agg #[.int .i64 a, .int .i64 k]] w fun ev w' => ev = .returned (.tuple #[blkV 0 0, errV (e (lowerE a k))]) ∧ Below w.heap.size w w' := by
  have H := fun o o' => hide (below_err a k ((w.alloc o).alloc o') e ((he.alloc o).alloc o') h)
  generalize lowerE a k = c at *
  clear h he
  go_enter Tryz.func47, Tryz.ntmps47
  go_wp2_with (go_at_call 61; refine (unhide (H _ _)).mono ?_; rintro e w' ⟨rfl, rfl⟩)
  exact bodyPost_ret (v := .tuple #[blkV 0 0, errV (e c)]) (by simp [results, Tryz.results47, go_sem]) rfl ⟨rfl, by repeat (first | exact Below.refl _ _ | refine Below.drew ?_ | refine Below.setCell ?_ (by simp) _ | refine Below.alloc ?_ (by simp; try omega) _)⟩

end Fr
end Go.Proofs.YtdmeoooimnfmaaaGreatDoor
