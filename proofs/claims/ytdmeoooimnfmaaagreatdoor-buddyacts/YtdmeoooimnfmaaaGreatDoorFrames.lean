/- The contracts of package frames' small functions: checkAnywhere, checkBelow, Buddy, Parent, Halves. -/
import Derived.Test.YtdmeoooimnfmaaaGreatDoorChecked
import Derived.Test.YtdmeoooimnfmaaaGreatDoorNum
import Derived.WalkKit
import Derived.WalkLawsBesides
import Derived.Outline
import Derived.RegionTactic
namespace Go.Proofs.YtdmeoooimnfmaaaGreatDoor
open Go.RowKit

theorem bcell {W w1 : World} (hb : Below W.heap.size W w1) : (∀ b o, b < W.heap.size → w1.cell? ⟨b, o, none⟩ = W.cell? ⟨b, o, none⟩) ∧ (∀ b o, b < W.heap.size → w1.frozen? ⟨b, o, none⟩ = W.frozen? ⟨b, o, none⟩) :=
  ⟨fun b o h => hb.cell (p := ⟨b, o, none⟩) h, fun b o h => hb.frozen (p := ⟨b, o, none⟩) h⟩

theorem cell_lt {w : World} {a : Addr} {v : Value} (h : w.cell? a = some v) : a.block < w.heap.size := by
  rcases Nat.lt_or_ge a.block w.heap.size with h' | h'
  · exact h'
  · simp [World.cell?, Array.getElem?_eq_none h'] at h
/-- A cell that is there stays as it is. -/
theorem keep {w w' : World} {a : Addr} {v : Value} (h : w.cell? a = some v) (hb : Below w.heap.size w w') : w'.cell? a = some v := by
  rw [hb.cell (cell_lt h)]; exact h

/-- What the three errors' variables hold. -/
structure Errs3 (w : World) (e : Nat → Addr) : Prop where
  bound : w.cell? ⟨0, 0, none⟩ = some (.iface 148 (.pointer (some (e 1))))
  shape : w.cell? ⟨3, 0, none⟩ = some (.iface 148 (.pointer (some (e 2))))
  none : w.cell? ⟨2, 0, none⟩ = some (.iface 148 (.pointer (some (e 3))))

theorem Errs3.below {w w' : World} {e : Nat → Addr} (h : Errs3 w e) (hb : Below w.heap.size w w') : Errs3 w' e := ⟨keep h.bound hb, keep h.shape hb, keep h.none hb⟩
theorem Errs3.alloc {w : World} {e : Nat → Addr} (h : Errs3 w e) (o : Obj) : Errs3 (w.alloc o) e := h.below ((Below.refl _ _).alloc (Nat.le_refl _) o)

namespace Fr
theorem anywhere_ok (a k : Int) (w : World) (h0 : 0 ≤ a) (h1 : a < 256) (k0 : 0 ≤ k) (k6 : k ≤ 6) (ha : al a k = true) :
    Calls Tryz.prog 46 #[.agg #[.int .i64 a, .int .i64 k]] w fun e w' => e = .returned .nilIface ∧ w' = w.alloc (.cells #[.int .i64 a, .int .i64 k] 33) := by
  unfold al at ha
  rcases orders k k0 k6 with rfl | rfl | rfl | rfl | rfl | rfl | rfl
  all_goals
    simp only [pw0, pw1, pw2, pw3, pw4, pw5, pw6] at ha
    go_enter Tryz.func46, Tryz.ntmps46
    go_wp2
    go_ret
    exact ⟨rfl, rfl⟩

theorem anywhere_bound (a k : Int) (w : World) (e : Nat → Addr) (he : Errs3 w e) (h : a < 0 ∨ 256 ≤ a ∨ k < 0 ∨ 6 < k) :
    Calls Tryz.prog 46 #[.agg #[.int .i64 a, .int .i64 k]] w fun ev w' => ev = .returned (.iface 148 (.pointer (some (e 1)))) ∧ w' = w.alloc (.cells #[.int .i64 a, .int .i64 k] 33) := by
  have hB := fun o => (he.alloc o).bound
  clear he
  by_cases c1 : a < 0
  · go_enter Tryz.func46, Tryz.ntmps46
    go_wp2
    go_ret
    exact ⟨rfl, rfl⟩
  by_cases c2 : 256 ≤ a
  · go_enter Tryz.func46, Tryz.ntmps46
    go_wp2
    go_ret
    exact ⟨rfl, rfl⟩
  by_cases c3 : k < 0
  · clear h
    go_enter Tryz.func46, Tryz.ntmps46
    go_wp2
    go_ret
    exact ⟨rfl, rfl⟩
  have c4 : decide (k ≤ 6) = false := by simp; omega
  clear h
  go_enter Tryz.func46, Tryz.ntmps46
  go_wp2
  go_ret
  exact ⟨rfl, rfl⟩

theorem anywhere_shape (a k : Int) (w : World) (e : Nat → Addr) (he : Errs3 w e) (h0 : 0 ≤ a) (h1 : a < 256) (k0 : 0 ≤ k) (k6 : k ≤ 6) (ha : al a k = false) :
    Calls Tryz.prog 46 #[.agg #[.int .i64 a, .int .i64 k]] w fun ev w' => ev = .returned (.iface 148 (.pointer (some (e 2)))) ∧ w' = w.alloc (.cells #[.int .i64 a, .int .i64 k] 33) := by
  have hB := fun o => (he.alloc o).shape
  clear he
  unfold al at ha
  rcases orders k k0 k6 with rfl | rfl | rfl | rfl | rfl | rfl | rfl
  · simp [pw0] at ha
  all_goals
    simp only [pw1, pw2, pw3, pw4, pw5, pw6] at ha
    go_enter Tryz.func46, Tryz.ntmps46
    go_wp2
    go_ret
    exact ⟨rfl, rfl⟩
end Fr
end Go.Proofs.YtdmeoooimnfmaaaGreatDoor
