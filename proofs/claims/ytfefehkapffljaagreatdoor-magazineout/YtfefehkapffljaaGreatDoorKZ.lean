/- Objects as a map's keys; a look-up in an empty map of objects. -/
import Derived.Test.YtfefehkapffljaaGreatDoorGI
import Derived.Maps.OwnSet
import Derived.Maps.OwnOps
import Derived.DeepKeys4
import Derived.BigQuiet
import Derived.Test.YtfefehkapffljaaGreatDoorGQ
namespace Go.Proofs.YtfefehkapffljaaGreatDoor
open Go.RowKit Go.Maps
namespace Sb
open Fr Bd Zn Dz
theorem laidOut : laidOutB Tryz.prog = true := by kernel_rfl
theorem keyType42 : Tryz.prog.keyType 42 = true := by kernel_rfl
theorem tsize : Tryz.prog.types.size = 336 := by kernel_rfl
theorem cellsOf42 : Tryz.prog.cellsOf 42 = 2 := by kernel_rfl
theorem cellsOf3 : Tryz.prog.cellsOf 3 = 1 := by kernel_rfl
theorem keyed42 : Keyed Tryz.prog 42 := Keyed.of_law (deep_law_laid (P := Tryz.prog) laidOut (m := 2) (by omega) (by rw [tsize]; decide) (by kernel_rfl) (by rw [Tryz.underlying42]))
theorem key42 {a b : Int} (ha : (Lit.int .i64 a).wf = true) (hb : (Lit.int .i64 b).wf = true) : keyOf Tryz.prog 42 (.agg #[.int .i64 a, .int .i64 b]) = some (.string (keyBytes [.int .i64 a, .int .i64 b])) := by
  have e : ∀ d, Tryz.prog.keyLits (d + 1 + 1) 42 [.int .i64 a, .int .i64 b] = some [.int .i64 a, .int .i64 b] := fun d => by
    simp [Program.keyLits, Tryz.underlying42, Tryz.underlying3, cellsOf42, cellsOf3, ha, hb]
  have e2 := e 335
  have e3 : Tryz.prog.types.size + 1 = 335 + 1 + 1 := by rw [tsize]
  rw [← e3] at e2
  simp only [keyOf, Tryz.underlying42]
  rw [show (Value.agg #[.int .i64 a, .int .i64 b]).cells.toList = [.int .i64 a, .int .i64 b] from rfl, e2, keyType42]
  simp [Value.formed, Tryz.underlying42, cellsOf42]
theorem zero165 (w : World) : (zeroValue 165).run Tryz.prog w = .ok (.pointer none) w := by kernel_rfl
theorem look_none {w : World} {mb : Nat} {key : Value} {kl : Lit} (hb : w.heap[mb]? = some (.map #[] 0)) (hk : keyOf Tryz.prog 42 key = some kl) : (Instr.lookup 111 (.map (some mb)) key false).run Tryz.prog w = .ok (.pointer none) w := by
  have F : WideElems.Fit Tryz.prog 42 (fun _ => (none : Option (DataW Unit × List MemPlace))) #[] 0 := ⟨by simp, MapKept.stamped_empty 0, by simp⟩
  rcases fit_look false keyed42 Tryz.underlying111 (zero165 w) hb F hk with ⟨h, _⟩ | ⟨e0, y, h, _⟩
  · simpa using h
  · simp at h
theorem alloc_at {w : World} {o : Obj} {b : Nat} {x : Obj} (h : w.heap[b]? = some x) : (w.alloc o).heap[b]? = some x := (ballo (Below.refl w.heap.size w) o).block b (Array.getElem?_eq_some_iff.mp h).1 |>.trans h
set_option maxHeartbeats 1000000 in
theorem clear_none (c mb : Nat) (oN oA : Int) (w : World) (c3 : w.cell? ⟨c, 3, none⟩ = some (.map (some mb))) (hm : w.heap[mb]? = some (.map #[] 0)) (ha : (Lit.int .i64 oN).wf = true) (hb : (Lit.int .i64 oA).wf = true) :
    Calls Tryz.prog 54 #[.pointer (some ⟨c, 0, none⟩), .agg #[.int .i64 oN, .int .i64 oA]] w fun ev w' => ev = .returned (.tuple #[]) ∧ Below w.heap.size w w' := by
  have F1 := ballo (Below.refl w.heap.size w) (.cells #[.int .i64 oN, .int .i64 oA] 42)
  have q := World.cell?_alloc_new w #[.int .i64 oN, .int .i64 oA] 42
  have q0 := q 0
  have q1 := q 1
  have hl := World.block_lt_of_cell? w _ c3
  have d3 := (F1.cell (p := ⟨c, 3, none⟩) hl).trans c3
  have hr : ∀ n, (Instr.lookup 111 (.map (some mb)) (.agg #[.int .i64 oN, .int .i64 oA]) false).run Tryz.prog ((w.alloc (.cells #[.int .i64 oN, .int .i64 oA] 42)).drewN n) = .ok (.pointer none) ((w.alloc (.cells #[.int .i64 oN, .int .i64 oA] 42)).drewN n) := fun n => look_none (alloc_at (o := .cells #[.int .i64 oN, .int .i64 oA] 42) hm) (key42 ha hb)
  simp only [List.getElem?_toArray, List.getElem?_cons_zero, List.getElem?_cons_succ] at q0 q1
  clear q c3 hm ha hb
  go_enter Tryz.func54, Tryz.ntmps54
  go_upto_region 1 with (fail)
  generalize w.alloc (.cells #[.int .i64 oN, .int .i64 oA] 42) = W at *
  go_quiet (fail)
  go_wp2
  refine bodyPost_ret (results_none rfl _ _ _) rfl ?_
  exact ⟨rfl, bdN F1 _⟩
end Sb
end Go.Proofs.YtfefehkapffljaaGreatDoor
