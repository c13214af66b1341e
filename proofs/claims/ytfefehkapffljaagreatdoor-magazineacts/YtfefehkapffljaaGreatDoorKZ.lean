/- Y1. -/
import Derived.Test.YtfefehkapffljaaGreatDoorGH
import Derived.Maps.OwnSet
import Derived.Maps.OwnOps
import Derived.DeepKeys4
import Derived.BigQuiet
import Derived.Test.YtfefehkapffljaaGreatDoorGR
namespace Go.Proofs.YtfefehkapffljaaGreatDoor
open Go.RowKit Go.Maps
namespace Sb
open Fr Bd Zn Dz
theorem laidOut : laidOutB Tryz.prog = true := by kernel_rfl
theorem keyType42 : Tryz.prog.keyType 42 = true := by kernel_rfl
theorem tsize : Tryz.prog.types.size = 336 := by kernel_rfl
theorem cellsOf42 : Tryz.prog.cellsOf 42 = 2 := by kernel_rfl
theorem cellsOf3 : Tryz.prog.cellsOf 3 = 1 := by kernel_rfl
theorem keyed42 : Keyed Tryz.prog 42 := Keyed.of_law (deep_law_laid (P := Tryz.prog) laidOut (m := 2) (by omega) (by rw [tsize]; decide) (by kernel_rfl) (by rw [Tryz.underlying42]))
theorem key42 {a b : Int} (ha : (Lit.int .i64 a).wf = true) (hb : (Lit.int .i64 b).wf = true) : keyOf Tryz.prog 42 (.agg #[.int .i64 a, .int .i64 b]) = some (.string (keyBytes [.int .i64 a, .int .i64 b])) := by
 have e : ∀ d, Tryz.prog.keyLits (d + 1 + 1) 42 [.int .i64 a, .int .i64 b] = some [.int .i64 a, .int .i64 b] := fun d => by
   simp [Program.keyLits, Tryz.underlying42, Tryz.underlying3, cellsOf42, cellsOf3, ha, hb]
 have e2 := e 335
 have e3 : Tryz.prog.types.size + 1 = 335 + 1 + 1 := by rw [tsize]
 rw [← e3] at e2
 simp only [keyOf, Tryz.underlying42]
 rw [show (Value.agg #[.int .i64 a, .int .i64 b]).cells.toList = [.int .i64 a, .int .i64 b] from rfl, e2, keyType42]
 simp [Value.formed, Tryz.underlying42, cellsOf42]
theorem zero165 (w : World) : (zeroValue 165).run Tryz.prog w = .ok (.pointer none) w := by kernel_rfl
theorem alloc_at {w : World} {o : Obj} {b : Nat} {x : Obj} (h : w.heap[b]? = some x) : (w.alloc o).heap[b]? = some x := (ballo (Below.refl w.heap.size w) o).block b (Array.getElem?_eq_some_iff.mp h).1 |>.trans h
end Sb
end Go.Proofs.YtfefehkapffljaaGreatDoor
