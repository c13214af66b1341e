/- The contracts of frames.Check, and of the document's answer's own BlockError, AloneError, ParentOf, BuddyOf. -/
import Derived.Test.YtdmeoooimnfmaaaGreatDoorSizes
import Derived.Deep.QuietTactic
import Derived.BigQuiet
namespace Go.Proofs.YtdmeoooimnfmaaaGreatDoor
open Go.RowKit
namespace Fr

/-- Which error Check has for a block (0: none). -/
def blockE (a k p : Int) : Nat := if p < 1 ∨ 256 < p ∨ k < 0 ∨ 6 < k then 1 else if a < 0 ∨ p - pw k < a then 1 else if al a k = true then 0 else 2

theorem bdrN {w w' : World} (h : Below w.heap.size w w') (n : Nat) : Below w.heap.size w (w'.drewN n) := h.trans ⟨rfl, rfl, rfl, Nat.le_refl _, fun _ _ => rfl⟩
end Fr
end Go.Proofs.YtdmeoooimnfmaaaGreatDoor
