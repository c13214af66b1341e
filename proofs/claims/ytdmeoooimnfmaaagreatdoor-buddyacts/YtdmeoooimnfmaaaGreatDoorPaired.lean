/- The closed fact 'paired' of the laws of chapter 2. -/
import Derived.Test.YtdmeoooimnfmaaaGreatDoorPages
import Derived.Test.YtdmeoooimnfmaaaGreatDoorLawCover
namespace Go.Proofs.YtdmeoooimnfmaaaGreatDoor
open Go.RowKit Go.Maps
namespace Bd
open Fr
theorem pair1 : fit 0 (cv 0 2) = some (0, 1) := by decide +kernel
theorem pair2 : takeF 0 (0, 1) (cv 0 2) = [(1, 0)] := by decide +kernel
theorem pair3 : giveF (0, 0) [(1, 0)] = [(0, 1)] := by decide +kernel
theorem pair4 : del 0 (ins (0, 0) []) = [] := by decide +kernel
theorem pair5 : pgs [(0, 1)] = 2 := by decide +kernel

set_option maxRecDepth 100000 in
set_option maxHeartbeats 4000000 in
theorem paired_ok (w : World) (e : Nat → Addr) (he : Errs3 w e) :
    Calls Tryz.prog 4 #[] w fun ev w' => ev = .returned (.bool true) ∧ Below w.heap.size w w' := by
  have HE := hide he
  clear he
  go_enter Tryz.func4, Tryz.ntmps4
  go_wp2_with fail
  refine (new_ok 2 w (by omega) (by omega)).mono ?_
  rintro ev w1 ⟨b, fm, tm, rfl, B1, hfm, htm, b1⟩
  have I1 := cv_inv 2 (by omega)
  have HT := take_ok b fm tm 2 (cv 0 2) [] 0 (0, 1) w1 B1 I1 (by omega) (by omega) (by omega) pair1
  have I2 := take_inv (by omega) I1 (fit_some pair1).1 (fit_some pair1).2
  rw [pair2] at HT I2
  have HT := hide HT
  have hs1 := b1.size
  have F1 := b1
  clear B1 I1
  unfold ptr at *
  go_wp2_with fail
  refine (unhide HT).mono ?_
  rintro ev w2 ⟨rfl, B2, k2⟩
  have F2 := F1.trans (k2.below hfm htm hs1)
  have hs2 := k2.size
  have B3 := B2.a (blkO 0 0)
  have E3 := (unhide HE).below (ballo F2 (blkO 0 0))
  have X3 := bx_new w2 (0, 0)
  have HG := give_ok b fm tm 2 [(1, 0)] (ins (0, 0) []) (0, 0) (w2.alloc (blkO 0 0)) e E3 B3 I2 (by omega) (mem_ins_self _ _)
  rw [pair3, pair4] at HG
  have HG := hide HG
  clear HT I2 B2 E3 F1 B3
  go_wp2_with fail
  refine (unhide HG).mono ?_
  rintro ev w3 ⟨rfl, B4, k3⟩
  have F3 := (ballo F2 (blkO 0 0)).trans (k3.below hfm htm (by simp; omega))
  clear HG X3 F2
  go_wp2_with fail
  refine (free_ok b fm tm 2 [(0, 1)] [] w3 B4).mono ?_
  rintro ev w4 ⟨v, rfl, hrow, _, b4⟩
  obtain ⟨g, cap, rfl, hg, hcap, hcap2, hr⟩ := row_of hrow (by simp)
  have cc := hr.c 0 (by simp)
  have hgl := hr.lt
  have B5 := B4.b b4
  have F4 := btr F3 b4
  simp only [List.getD_cons_zero, Nat.zero_mul, Nat.zero_add, List.length_cons, List.length_nil] at cc hcap ⊢
  clear hrow hr B4 F3 b4
  obtain ⟨q0, q1⟩ := cc
  go_wp2_with fail
  refine (pages_free b fm tm 2 [(0, 1)] [] w4 B5).mono ?_
  rintro ev w5 ⟨rfl, b5⟩
  rw [pair5]
  have q2 := (b5.cell (p := ⟨g, 0, none⟩) hgl).trans q0
  have q3 := (b5.cell (p := ⟨g, 1, none⟩) hgl).trans q1
  unfold maxLen at hcap2
  have F5 := btr F4 b5
  clear q0 q1 B5 F4 b5
  go_wp2_with fail
  go_ret
  exact ⟨rfl, F5⟩
end Bd
end Go.Proofs.YtdmeoooimnfmaaaGreatDoor
