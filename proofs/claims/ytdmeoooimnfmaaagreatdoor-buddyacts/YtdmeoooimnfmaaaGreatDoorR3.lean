/- The contracts of the document's answer's own list functions of chapter 2: find, without, with. -/
import Derived.Test.YtdmeoooimnfmaaaGreatDoorLies
import Derived.Test.YtdmeoooimnfmaaaGreatDoorTwice
namespace Go.Proofs.YtdmeoooimnfmaaaGreatDoor
open Go.RowKit
namespace Fr

/-- The number of a block in a list (-1: none). -/
def fiN : List (Int × Int) → Int × Int → Nat → Int
  | [], _, _ => -1
  | x :: l, y, n => if x = y then n else fiN l y (n + 1)
theorem drop_at (L : List (Int × Int)) (j : Nat) (hj : j < L.length) : L.drop j = L.getD j (0, 0) :: L.drop (j + 1) := by
  rw [List.drop_eq_getElem_cons hj, List.getD_eq_getElem?_getD, List.getElem?_eq_getElem hj, Option.getD_some]
theorem fiN_hit {L : List (Int × Int)} {y : Int × Int} {j : Nat} {F : Int} (hj : j < L.length) (h : L.getD j (0, 0) = y) (hF : fiN (L.drop j) y j = F) : F = j := by
  rw [drop_at L j hj, fiN, if_pos h] at hF; exact hF.symm
theorem fiN_next {L : List (Int × Int)} {y : Int × Int} {j : Nat} {F : Int} (hj : j < L.length) (h : L.getD j (0, 0) ≠ y) (hF : fiN (L.drop j) y j = F) : fiN (L.drop (j + 1)) y (j + 1) = F := by
  rw [drop_at L j hj, fiN, if_neg h] at hF; exact hF
theorem fiN_out {L : List (Int × Int)} {y : Int × Int} {j : Nat} {F : Int} (hj : L.length ≤ j) (hF : fiN (L.drop j) y j = F) : F = -1 := by
  rw [List.drop_of_length_le hj] at hF; exact hF.symm

/-- The worlds of a loop that only reads. -/
def Same (w w' : World) : Prop := w'.heap = w.heap ∧ w'.os = w.os ∧ w'.tape = w.tape ∧ w'.output = w.output
theorem Same.refl (w : World) : Same w w := ⟨rfl, rfl, rfl, rfl⟩
theorem Same.below {w w' : World} (h : Same w w') : Below w.heap.size w w' := ⟨h.2.1, h.2.2.1, h.2.2.2, by rw [h.1]; exact Nat.le_refl _, fun k _ => by rw [h.1]⟩
theorem Same.cell {w w' : World} (h : Same w w') (a : Addr) : w'.cell? a = w.cell? a := by simp [World.cell?, h.1]

set_option maxHeartbeats 1000000 in
theorem find_ok (v : Value) (L : List (Int × Int)) (a k : Int) (w : World) (hl : L.length ≤ 1000) (h : Lies w v L) :
    Calls Tryz.prog 30 #[v, .agg #[.int .i64 a, .int .i64 k]] w fun ev w' => ev = .returned (.int .i64 (fiN L (a, k) 0)) ∧ Below w.heap.size w w' := by
  rcases h with ⟨hL, rfl⟩ | ⟨g, c, rfl, hg, hL, q1, q2, hc⟩
  · subst hL
    go_enter Tryz.func30, Tryz.ntmps30
    go_wp2
    refine wp_loop_rounds 1 ?_
    rw [rounds_succ]
    go_wp2
    go_ret
    exact ⟨rfl, ballo (Below.refl _ _) _⟩
  · have HX := bl_new w a k
    have HG : ∀ i, i < L.length → (w.alloc (blkO a k)).cell? ⟨g, i * 2, none⟩ = some (.int .i64 (L.getD i (0, 0)).1) ∧ (w.alloc (blkO a k)).cell? ⟨g, i * 2 + 1, none⟩ = some (.int .i64 (L.getD i (0, 0)).2) := fun i hi =>
      ⟨(World.cell?_alloc_lt _ _ ⟨g, i * 2, none⟩ hg).trans (hc i hi).1, (World.cell?_alloc_lt _ _ ⟨g, i * 2 + 1, none⟩ hg).trans (hc i hi).2⟩
    have HF : Hid (fiN (L.drop 0) (a, k) 0 = fiN L (a, k) 0) := rfl
    have HB := hide (ballo (Below.refl w.heap.size w) (blkO a k))
    have H1 := hide HG
    have H2 := hide HX
    clear hc hL HG HX hg
    unfold maxLen at q2
    generalize fiN L (a, k) 0 = F at *
    go_enter Tryz.func30, Tryz.ntmps30
    go_wp2
    generalize w.alloc (blkO a k) = W at *
    go_loopw [5] (fun i wr => ∃ j : Nat, j ≤ L.length ∧ i = .int .i64 j ∧ Hid (Same W wr) ∧ Hid (fiN (L.drop j) (a, k) j = F)) (fun i _ => L.length - (intOf i).toNat)
    case atStart => exact ⟨0, Nat.zero_le _, rfl, Same.refl _, HF⟩
    case round =>
      obtain ⟨j, hj, rfl, hQ, hF⟩ := hrel
      by_cases hlt : j < L.length
      · have e1 := (unhide H1) j hlt
        have c1 := ((unhide hQ).cell ⟨g, j * 2, none⟩).trans e1.1
        have c2 := ((unhide hQ).cell ⟨g, j * 2 + 1, none⟩).trans e1.2
        have c3 := ((unhide hQ).cell ⟨w.heap.size, 0, none⟩).trans (unhide H2).c0
        have c4 := ((unhide hQ).cell ⟨w.heap.size, 1, none⟩).trans (unhide H2).c1
        by_cases hx : L.getD j (0, 0) = (a, k)
        · have FH := hide (fiN_hit hlt hx (unhide hF))
          rw [hx] at c1 c2
          clear hx e1 hF
          go_wp2
          go_region
          go_wp2
          go_ret
          exact ⟨by rw [unhide FH]; rfl, btr (unhide HB) ((unhide hQ).below.drew)⟩
        · have FN := hide (fiN_next hlt hx (unhide hF))
          clear e1 hF
          generalize L.getD j (0, 0) = x at *
          obtain ⟨x1, x2⟩ := x
          by_cases h1 : x1 = a
          · subst h1
            have h2 : ¬ x2 = k := fun h => hx (by rw [h])
            clear hx
            go_wp2
            go_region
            go_wp2
            go_roundw
            case rel => exact ⟨j + 1, by omega, by go_num, unhide hQ, unhide FN⟩
            case measure => simp [intOf]; omega
          · clear hx
            go_wp2
            go_region
            go_wp2
            go_roundw
            case rel => exact ⟨j + 1, by omega, by go_num, unhide hQ, unhide FN⟩
            case measure => simp [intOf]; omega
      · have FO := hide (fiN_out (Nat.not_lt.1 hlt) (unhide hF))
        clear hF
        go_wp2
        go_ret
        exact ⟨by rw [unhide FO]; rfl, btr (unhide HB) (unhide hQ).below⟩
end Fr
end Go.Proofs.YtdmeoooimnfmaaaGreatDoor
