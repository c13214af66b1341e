/- What the variables that MagazineLast lists give: six errors, and the table of package bits; the witness' world. -/
import Derived.Test.YtjkdnoafgcmheaaGreatDoorMA
namespace Go.Proofs.YtjkdnoafgcmheaaGreatDoor
open Go.ChangeShapes Go.WideShapes Go.RowKit
def texts6 : List (String × List UInt8) := [("slabyard/api.ErrBound", [115, 108, 97, 98, 121, 97, 114, 100, 58, 32, 98, 111, 117, 110, 100]), ("slabyard/api.ErrShape", [115, 108, 97, 98, 121, 97, 114, 100, 58, 32, 115, 104, 97, 112, 101]), ("slabyard/api.ErrNone", [115, 108, 97, 98, 121, 97, 114, 100, 58, 32, 110, 111, 110, 101]), ("slabyard/api.ErrFull", [115, 108, 97, 98, 121, 97, 114, 100, 58, 32, 102, 117, 108, 108]), ("slabyard/api.ErrLow", [115, 108, 97, 98, 121, 97, 114, 100, 58, 32, 108, 111, 119]), ("slabyard/api.ErrStale", [115, 108, 97, 98, 121, 97, 114, 100, 58, 32, 115, 116, 97, 108, 101])]
theorem errsM_of {W : World} (h : laidMetH Tryz.prog Rows.magazineLastRow.laid W) : ∃ e, ErrsM W e := by
  have h1' : laidMet Tryz.prog (("math/bits.deBruijn64tab", Rows.laid_math_bits_deBruijn64tab) :: texts6.map senti) W := h
  have hTab : ∀ j, j < 64 → W.cell? ⟨5, j, none⟩ = some (.int .u8 ((Lib.deBruijn64tab.getD j 0 : Nat) : Int)) := fun j hj => by
    rw [tabData_is] at h1'
    have ht := Lib.tabIs_of_head gTab gtTab Tryz.underlying200 Tryz.underlying5 cells5 cells152 h1'
    have := ht.cell gTab j (by simp [Lib.deBruijn64tab]; omega)
    rw [this]
    congr 2
    rw [List.getD_eq_getElem?_getD, List.getD_eq_getElem?_getD, List.getElem?_map]
    cases Lib.deBruijn64tab[j]? <;> rfl
  obtain ⟨ps, hl, hn, hr⟩ := laid_tail h1'
  obtain ⟨az, hf⟩ := found_of texts6 ps hl (by
    intro x hx
    simp only [texts6, List.mem_cons, List.mem_nil_iff, or_false] at hx
    rcases hx with rfl | rfl | rfl | rfl | rfl | rfl
    · exact ⟨_, g1, gt1⟩
    · exact ⟨_, g2, gt2⟩
    · exact ⟨_, g3, gt3⟩
    · exact ⟨_, g4, gt4⟩
    · exact ⟨_, g6, gt6⟩
    · exact ⟨_, g8, gt8⟩) hr
  match az, hf with
  | [a1, a2, a3, a4, a6, a8], ⟨x1, _, k1, c1, ⟨x2, _, k2, c2, ⟨x3, _, k3, c3, ⟨x4, _, k4, c4, ⟨x6, _, k6, c6, ⟨x8, _, k8, c8, _, _⟩, _⟩, _⟩, _⟩, _⟩, _⟩ =>
    obtain rfl := Option.some.inj (g1.symm.trans k1)
    obtain rfl := Option.some.inj (g2.symm.trans k2)
    obtain rfl := Option.some.inj (g3.symm.trans k3)
    obtain rfl := Option.some.inj (g4.symm.trans k4)
    obtain rfl := Option.some.inj (g6.symm.trans k6)
    obtain rfl := Option.some.inj (g8.symm.trans k8)
    exact ⟨fun i => [a1, a1, a2, a3, a4, a4, a6, a6, a8].getD i a1, c1, c2, c3, c4, c6, c8, hTab⟩
theorem door6 (os : Os) (args : Array Value) : laidMetH Tryz.prog Rows.magazineLastRow.laid ((World.doorLaid Tryz.prog 206 os).forCall (fun _ _ => 0) ⟨#[], args, []⟩).memory :=
  laidMetH_of_parts3 (fuel := 8) (laidMet_of_run' 8 (by kernel_rfl) (by kernel_rfl)) (by kernel_rfl) (by kernel_rfl)
end Go.Proofs.YtjkdnoafgcmheaaGreatDoor
