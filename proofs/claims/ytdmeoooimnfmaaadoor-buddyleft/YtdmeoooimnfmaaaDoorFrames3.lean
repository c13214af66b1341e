/- The contracts of package frames' Buddy, Parent, Halves: what they answer at each block. -/
import Derived.Test.YtdmeoooimnfmaaaDoorFrames2
namespace Go.Proofs.YtdmeoooimnfmaaaDoor
open Go.RowKit
namespace Fr

/-- Which error a block has that is asked for its buddy or parent (0: none). -/
def lowerE (a k : Int) : Nat := if a < 0 ∨ 256 ≤ a ∨ k < 0 ∨ 6 < k then 1 else if al a k = true then (if k = 6 then 3 else 0) else 2
/-- Which error a block has that is asked for its halves (0: none). -/
def upperE (a k : Int) : Nat := if a < 0 ∨ 256 ≤ a ∨ k < 0 ∨ 6 < k then 1 else if al a k = true then (if k = 0 then 3 else 0) else 2

theorem below_err (a k : Int) (w : World) (e : Nat → Addr) (he : Errs3 w e) (h : lowerE a k ≠ 0) :
    Calls Tryd.prog 42 #[.agg #[.int .i64 a, .int .i64 k]] w fun ev w' => ev = .returned (errV (e (lowerE a k))) ∧ w' = (w.alloc (blkO a k)).alloc (blkO a k) := by
  unfold lowerE at *
  by_cases c1 : a < 0 ∨ 256 ≤ a ∨ k < 0 ∨ 6 < k
  · rw [if_pos c1]; exact below_bound a k w e he c1
  · rw [if_neg c1] at *
    by_cases c2 : al a k = true
    · rw [if_pos c2] at *
      by_cases c3 : k = 6
      · rw [if_pos c3]; subst c3; exact below_none a w e he (by omega) (by omega) c2
      · rw [if_neg c3] at h; exact absurd rfl h
    · rw [if_neg c2]; exact below_shape a k w e he (by omega) (by omega) (by omega) (by omega) (by simpa using c2)

theorem lowerE_ok {a k : Int} (h : lowerE a k = 0) : 0 ≤ a ∧ a < 256 ∧ 0 ≤ k ∧ k ≤ 5 ∧ al a k = true := by
  unfold lowerE at h
  split at h
  · simp at h
  · split at h
    · split at h
      · simp at h
      · next c1 c2 c3 => exact ⟨by omega, by omega, by omega, by omega, c2⟩
    · simp at h
theorem upperE_ok {a k : Int} (h : upperE a k = 0) : 0 ≤ a ∧ a < 256 ∧ 1 ≤ k ∧ k ≤ 6 ∧ al a k = true := by
  unfold upperE at h
  split at h
  · simp at h
  · split at h
    · split at h
      · simp at h
      · next c1 c2 c3 => exact ⟨by omega, by omega, by omega, by omega, c2⟩
    · simp at h

theorem buddy_err (a k : Int) (w : World) (e : Nat → Addr) (he : Errs3 w e) (h : lowerE a k ≠ 0) :
    Calls Tryd.prog 18 #[.agg #[.int .i64 a, .int .i64 k]] w fun ev w' => ev = .returned (.tuple #[blkV 0 0, errV (e (lowerE a k))]) ∧ Below w.heap.size w w' := by
  have H := fun o o' => hide (below_err a k ((w.alloc o).alloc o') e ((he.alloc o).alloc o') h)
  generalize lowerE a k = c at *
  clear h he
  go_enter Tryd.func18, Tryd.ntmps18
  go_wp2_with (go_at_call 42; refine (unhide (H _ _)).mono ?_; rintro e w' ⟨rfl, rfl⟩)
  exact bodyPost_ret (v := .tuple #[blkV 0 0, errV (e c)]) (by simp [results, Tryd.results18, go_sem]) rfl ⟨rfl, by repeat (first | exact Below.refl _ _ | refine Below.drew ?_ | refine Below.setCell ?_ (by simp) _ | refine Below.alloc ?_ (by simp; try omega) _)⟩

theorem parent_err (a k : Int) (w : World) (e : Nat → Addr) (he : Errs3 w e) (h : lowerE a k ≠ 0) :
    Calls Tryd.prog 19 #[.agg #[.int .i64 a, .int .i64 k]] w fun ev w' => ev = .returned (.tuple #[blkV 0 0, errV (e (lowerE a k))]) ∧ Below w.heap.size w w' := by
  have H := fun o o' => hide (below_err a k ((w.alloc o).alloc o') e ((he.alloc o).alloc o') h)
  generalize lowerE a k = c at *
  clear h he
  go_enter Tryd.func19, Tryd.ntmps19
  go_wp2_with (go_at_call 42; refine (unhide (H _ _)).mono ?_; rintro e w' ⟨rfl, rfl⟩)
  exact bodyPost_ret (v := .tuple #[blkV 0 0, errV (e c)]) (by simp [results, Tryd.results19, go_sem]) rfl ⟨rfl, by repeat (first | exact Below.refl _ _ | refine Below.drew ?_ | refine Below.setCell ?_ (by simp) _ | refine Below.alloc ?_ (by simp; try omega) _)⟩

theorem parent_ok (a k : Int) (w : World) (h0 : 0 ≤ a) (h1 : a < 256) (k0 : 0 ≤ k) (k5 : k ≤ 5) (ha : al a k = true) :
    Calls Tryd.prog 19 #[.agg #[.int .i64 a, .int .i64 k]] w fun e w' => e = .returned (.tuple #[blkV (par a k) (k + 1), .nilIface]) ∧ Below w.heap.size w w' := by
  have hx : par a k = a / pw (k + 1) * pw (k + 1) := rfl
  rcases orders k k0 (by omega) with rfl | rfl | rfl | rfl | rfl | rfl | rfl
  all_goals first | omega | skip
  all_goals
    have H := fun w => hide (below_ok a _ w h0 h1 k0 k5 ha)
    simp only [Int.reduceAdd, pw1, pw2, pw3, pw4, pw5, pw6] at hx
    clear ha k0 k5
    have HX := hide hx
    clear hx
    go_enter Tryd.func19, Tryd.ntmps19
    go_wp2_with (go_at_call 42; refine (unhide (H _)).mono ?_; rintro e w' ⟨rfl, rfl⟩)
    exact bodyPost_ret (v := .tuple #[blkV (par a _) _, .nilIface]) (by simp [results, Tryd.results19, go_sem, unhide HX]) rfl ⟨rfl, by repeat (first | exact Below.refl _ _ | refine Below.drew ?_ | refine Below.setCell ?_ (by simp) _ | refine Below.alloc ?_ (by simp; try omega) _)⟩
end Fr
end Go.Proofs.YtdmeoooimnfmaaaDoor
