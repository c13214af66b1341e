/- A list of blocks that lies in a slice. -/
import Derived.Test.YtdmeoooimnfmaaaGreatDoorCov
import Derived.WalkKit
import Derived.OwnWalk
namespace Go.Proofs.YtdmeoooimnfmaaaGreatDoor
open Go.RowKit
namespace Fr
/-- A list of blocks lies in a slice. -/
def Lies (w : World) (v : Value) (L : List (Int × Int)) : Prop :=
  (L = [] ∧ v = .slice none 0 0) ∨ ∃ g c, v = .slice (some ⟨g, 0, none⟩) L.length c ∧ g < w.heap.size ∧ L ≠ [] ∧ L.length ≤ c ∧ c ≤ maxLen ∧ ∀ i, i < L.length → w.cell? ⟨g, i * 2, none⟩ = some (.int .i64 (L.getD i (0, 0)).1) ∧ w.cell? ⟨g, i * 2 + 1, none⟩ = some (.int .i64 (L.getD i (0, 0)).2)
theorem lies_of {w : World} {B : Nat} {v : Value} {L : List (Int × Int)} (h : w.ownsRow B 33 2 v L.length (flat L)) (hn : L = [] → v = .slice none 0 0) : Lies w v L := by
  by_cases hL : L = []
  · exact Or.inl ⟨hL, hn hL⟩
  · right
    rcases h.2 with ⟨_, h0⟩ | ⟨g, cap, cur, rfl, hb, hg, hle, hcap, hcs, hx⟩
    · exact absurd (List.length_eq_zero_iff.1 h0) hL
    · have hlt : g < w.heap.size := by
        rcases Nat.lt_or_ge g w.heap.size with h' | h'
        · exact h'
        · rw [Array.getElem?_eq_none h'] at hg; cases hg
      refine ⟨g, cap, rfl, hlt, hL, hle, hcap, fun i hi => ?_⟩
      have hf := flat_get L i hi
      rw [List.getD_eq_getElem?_getD, List.getElem?_eq_getElem hi, Option.getD_some]
      rw [Nat.mul_comm i 2]
      exact ⟨(h.cellAt (2 * i) (by omega)).trans hf.1, (h.cellAt (2 * i + 1) (by omega)).trans hf.2⟩
theorem Lies.b {w w' : World} {v : Value} {L : List (Int × Int)} (h : Lies w v L) (hb : Below w.heap.size w w') : Lies w' v L := by
  rcases h with h | ⟨g, c, hv, hg, hL, h1, h2, hc⟩
  · exact Or.inl h
  · exact Or.inr ⟨g, c, hv, Nat.lt_of_lt_of_le hg hb.size, hL, h1, h2, fun i hi => ⟨(hb.cell (p := ⟨g, i * 2, none⟩) hg).trans (hc i hi).1, (hb.cell (p := ⟨g, i * 2 + 1, none⟩) hg).trans (hc i hi).2⟩⟩

theorem drop_cons {L : List (Int × Int)} {j : Nat} {y : Int × Int} {r : List (Int × Int)} (h : L.drop j = y :: r) : j < L.length ∧ L.getD j (0, 0) = y ∧ L.drop (j + 1) = r := by
  have hj : j < L.length := by
    rcases Nat.lt_or_ge j L.length with h' | h'
    · exact h'
    · rw [List.drop_of_length_le h'] at h; cases h
  rw [List.drop_eq_getElem_cons hj] at h
  simp only [List.cons.injEq] at h
  refine ⟨hj, ?_, h.2⟩
  rw [List.getD_eq_getElem?_getD, List.getElem?_eq_getElem hj, Option.getD_some, h.1]

end Fr
end Go.Proofs.YtdmeoooimnfmaaaGreatDoor
