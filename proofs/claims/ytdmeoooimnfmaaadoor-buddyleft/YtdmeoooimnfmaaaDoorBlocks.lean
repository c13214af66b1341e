/- The contracts of frames.Check, and of the document's answer's own BlockError, AloneError, ParentOf, BuddyOf. -/
import Derived.Test.YtdmeoooimnfmaaaDoorSizes
import Derived.Deep.QuietTactic
import Derived.BigQuiet
namespace Go.Proofs.YtdmeoooimnfmaaaDoor
open Go.RowKit
namespace Fr

/-- Which error Check has for a block (0: none). -/
def blockE (a k p : Int) : Nat := if p < 1 ∨ 256 < p ∨ k < 0 ∨ 6 < k then 1 else if a < 0 ∨ p - pw k < a then 1 else if al a k = true then 0 else 2

theorem bdrN {w w' : World} (h : Below w.heap.size w w') (n : Nat) : Below w.heap.size w (w'.drewN n) := h.trans ⟨rfl, rfl, rfl, Nat.le_refl _, fun _ _ => rfl⟩
theorem check_bound1 (a k p : Int) (w : World) (e : Nat → Addr) (he : Errs3 w e) (h : p < 1 ∨ 256 < p ∨ k < 0 ∨ 6 < k) :
    Calls Tryd.prog 15 #[.agg #[.int .i64 a, .int .i64 k], .int .i64 p] w fun ev w' => ev = .returned (errV (e 1)) ∧ Below w.heap.size w w' := by
  have hB := fun o => (he.alloc o).bound
  clear he
  by_cases c1 : p < 1
  · clear h
    go_enter Tryd.func15, Tryd.ntmps15
    go_wp2
    go_ret
    exact ⟨rfl, ballo (Below.refl _ _) _⟩
  have d1 : decide (p < 1) = false := by simpa using c1
  by_cases c2 : 256 < p
  · clear h c1
    go_enter Tryd.func15, Tryd.ntmps15
    go_wp2
    go_ret
    exact ⟨rfl, ballo (Below.refl _ _) _⟩
  have d2 : decide (256 < p) = false := by simpa using c2
  by_cases c3 : k < 0
  · have c1 : decide (0 ≤ k) = false := by simp; omega
    clear h c1 c2
    go_enter Tryd.func15, Tryd.ntmps15
    go_wp2
    go_ret
    exact ⟨rfl, ballo (Below.refl _ _) _⟩
  have c4 : decide (k ≤ 6) = false := by simp; omega
  clear h c1 c2
  go_enter Tryd.func15, Tryd.ntmps15
  go_wp2
  go_ret
  exact ⟨rfl, ballo (Below.refl _ _) _⟩

set_option maxHeartbeats 2000000 in
theorem check_low (a k p : Int) (w : World) (e : Nat → Addr) (he : Errs3 w e) (p1 : 1 ≤ p) (p2 : p ≤ 256) (k0 : 0 ≤ k) (k6 : k ≤ 6) (ha : a < 0) :
    Calls Tryd.prog 15 #[.agg #[.int .i64 a, .int .i64 k], .int .i64 p] w fun ev w' => ev = .returned (errV (e 1)) ∧ Below w.heap.size w w' := by
  have hB := fun o => (he.alloc o).bound
  clear he
  have d1 : decide (p < 1) = false := by simp; omega
  have d2 : decide (256 < p) = false := by simp; omega
  go_enter Tryd.func15, Tryd.ntmps15
  go_wp2
  go_quiet (fail)
  go_wp2
  go_ret
  exact ⟨rfl, bdrN (ballo (Below.refl _ _) _) _⟩

set_option maxHeartbeats 4000000 in
theorem check_high (a k p : Int) (w : World) (e : Nat → Addr) (he : Errs3 w e) (p1 : 1 ≤ p) (p2 : p ≤ 256) (k0 : 0 ≤ k) (k6 : k ≤ 6) (ha : 0 ≤ a) (hp : p - pw k < a) :
    Calls Tryd.prog 15 #[.agg #[.int .i64 a, .int .i64 k], .int .i64 p] w fun ev w' => ev = .returned (errV (e 1)) ∧ Below w.heap.size w w' := by
  have hB := fun o => (he.alloc o).bound
  clear he
  have d1 : decide (p < 1) = false := by simp; omega
  have d2 : decide (256 < p) = false := by simp; omega
  have d3 : decide (a < 0) = false := by simp; omega
  rcases orders k k0 k6 with rfl | rfl | rfl | rfl | rfl | rfl | rfl
  all_goals
    simp only [pw0, pw1, pw2, pw3, pw4, pw5, pw6] at hp
    clear k0 k6
    go_enter Tryd.func15, Tryd.ntmps15
    go_wp2
    go_quiet (fail)
    go_wp2
    go_ret
    exact ⟨rfl, bdrN (ballo (Below.refl _ _) _) _⟩

set_option maxHeartbeats 4000000 in
theorem check_ok (a k p : Int) (w : World) (p1 : 1 ≤ p) (p2 : p ≤ 256) (k0 : 0 ≤ k) (k6 : k ≤ 6) (ha : 0 ≤ a) (hp : a ≤ p - pw k) (hal : al a k = true) :
    Calls Tryd.prog 15 #[.agg #[.int .i64 a, .int .i64 k], .int .i64 p] w fun ev w' => ev = .returned .nilIface ∧ Below w.heap.size w w' := by
  have d1 : decide (p < 1) = false := by simp; omega
  have d2 : decide (256 < p) = false := by simp; omega
  have d3 : decide (a < 0) = false := by simp; omega
  unfold al at hal
  rcases orders k k0 k6 with rfl | rfl | rfl | rfl | rfl | rfl | rfl
  all_goals
    simp only [pw0, pw1, pw2, pw3, pw4, pw5, pw6] at hp hal
    clear k0 k6
    go_enter Tryd.func15, Tryd.ntmps15
    go_wp2
    go_quiet (fail)
    go_wp2
    go_ret
    exact ⟨rfl, bdrN (ballo (Below.refl _ _) _) _⟩

set_option maxHeartbeats 4000000 in
theorem check_shape (a k p : Int) (w : World) (e : Nat → Addr) (he : Errs3 w e) (p1 : 1 ≤ p) (p2 : p ≤ 256) (k0 : 0 ≤ k) (k6 : k ≤ 6) (ha : 0 ≤ a) (hp : a ≤ p - pw k) (hal : al a k = false) :
    Calls Tryd.prog 15 #[.agg #[.int .i64 a, .int .i64 k], .int .i64 p] w fun ev w' => ev = .returned (errV (e 2)) ∧ Below w.heap.size w w' := by
  have hB := fun o => (he.alloc o).shape
  clear he
  have d1 : decide (p < 1) = false := by simp; omega
  have d2 : decide (256 < p) = false := by simp; omega
  have d3 : decide (a < 0) = false := by simp; omega
  unfold al at hal
  rcases orders k k0 k6 with rfl | rfl | rfl | rfl | rfl | rfl | rfl
  · simp [pw0] at hal
  all_goals
    simp only [pw1, pw2, pw3, pw4, pw5, pw6] at hp hal
    clear k0 k6
    go_enter Tryd.func15, Tryd.ntmps15
    go_wp2
    go_quiet (fail)
    go_wp2
    go_ret
    exact ⟨rfl, bdrN (ballo (Below.refl _ _) _) _⟩

theorem check_any (a k p : Int) (w : World) (e : Nat → Addr) (he : Errs3 w e) :
    Calls Tryd.prog 15 #[.agg #[.int .i64 a, .int .i64 k], .int .i64 p] w fun ev w' => ev = .returned (if blockE a k p = 0 then .nilIface else errV (e (blockE a k p))) ∧ Below w.heap.size w w' := by
  unfold blockE
  by_cases c1 : p < 1 ∨ 256 < p ∨ k < 0 ∨ 6 < k
  · rw [if_pos c1, if_neg (by omega)]; exact check_bound1 a k p w e he c1
  rw [if_neg c1]
  by_cases c2 : a < 0 ∨ p - pw k < a
  · rw [if_pos c2, if_neg (by omega)]
    by_cases c3 : a < 0
    · exact check_low a k p w e he (by omega) (by omega) (by omega) (by omega) c3
    · exact check_high a k p w e he (by omega) (by omega) (by omega) (by omega) (by omega) (by omega)
  rw [if_neg c2]
  by_cases c4 : al a k = true
  · rw [if_pos c4, if_pos rfl]; exact check_ok a k p w (by omega) (by omega) (by omega) (by omega) (by omega) (by omega) c4
  · rw [if_neg c4, if_neg (by omega)]; exact check_shape a k p w e he (by omega) (by omega) (by omega) (by omega) (by omega) (by omega) (by simpa using c4)
end Fr
end Go.Proofs.YtdmeoooimnfmaaaDoor
