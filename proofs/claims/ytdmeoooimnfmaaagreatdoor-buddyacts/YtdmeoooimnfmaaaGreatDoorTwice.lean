/- FramesTwice: its walk, over the contracts. -/
import Derived.Test.YtdmeoooimnfmaaaGreatDoorFrames4
import Derived.BigQuiet
import Derived.Deep.QuietTactic
namespace Go.Proofs.YtdmeoooimnfmaaaGreatDoor
open Go.RowKit
namespace Fr
theorem ballo {w w' : World} (h : Below w.heap.size w w') (o : Obj) : Below w.heap.size w (w'.alloc o) := h.alloc h.size o
theorem btr {w w1 w2 : World} (h : Below w.heap.size w w1) (k : Below w1.heap.size w1 w2) : Below w.heap.size w w2 := h.trans (k.mono h.size)
/-- A block of pages lies in memory at the block number b. -/
structure Blk (w : World) (b : Nat) (a k : Int) : Prop where
  c0 : w.cell? ⟨b, 0, none⟩ = some (.int .i64 a)
  c1 : w.cell? ⟨b, 1, none⟩ = some (.int .i64 k)
  lt : b < w.heap.size
theorem bl_new (w : World) (a k : Int) : Blk (w.alloc (blkO a k)) w.heap.size a k := ⟨by simp, by simp, by simp⟩
theorem Blk.b {w w' : World} {b : Nat} {a k : Int} (h : Blk w b a k) (hb : Below w.heap.size w w') : Blk w' b a k :=
  ⟨by rw [hb.cell (p := ⟨b, 0, none⟩) h.lt]; exact h.c0, by rw [hb.cell (p := ⟨b, 1, none⟩) h.lt]; exact h.c1, Nat.lt_of_lt_of_le h.lt hb.size⟩
theorem Blk.a {w : World} {b : Nat} {a k : Int} (h : Blk w b a k) (o : Obj) : Blk (w.alloc o) b a k := h.b (ballo (Below.refl _ _) o)
theorem pw_pos (k : Int) : 0 < pw k := by unfold pw; exact Int.pow_pos (by omega)

/-- The two ways in which a block may lie in its parent. -/
theorem two_ways (a k : Int) (h0 : 0 ≤ a) (h1 : a < 256) (k0 : 0 ≤ k) (k5 : k ≤ 5) (ha : al a k = true) :
    ∃ x, 0 ≤ x ∧ x + pw k < 256 ∧ al x k = true ∧ al (x + pw k) k = true ∧ al x (k + 1) = true ∧ (a = x ∨ a = x + pw k) ∧ bud x k = x + pw k ∧ bud (x + pw k) k = x ∧ par x k = x ∧ par (x + pw k) k = x := by
  refine ⟨par a k, ?_⟩
  rw [al_iff] at *
  simp only [al_iff]
  unfold par bud
  rcases orders k k0 (by omega) with rfl | rfl | rfl | rfl | rfl | rfl | rfl
  all_goals first | omega | skip
  all_goals
    simp only [Int.reduceAdd, pw0, pw1, pw2, pw3, pw4, pw5, pw6] at *
    refine ⟨by omega, by omega, by omega, by omega, by omega, by omega, ?_, ?_, by omega, by omega⟩
    · rw [if_pos (by omega)]
    · rw [if_neg (by omega)]; omega

end Fr
end Go.Proofs.YtdmeoooimnfmaaaGreatDoor
