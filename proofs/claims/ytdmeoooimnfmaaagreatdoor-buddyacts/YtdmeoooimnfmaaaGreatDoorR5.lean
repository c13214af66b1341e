/- The document's answer's own Split. -/
import Derived.Test.YtdmeoooimnfmaaaGreatDoorR4
import Derived.Test.YtdmeoooimnfmaaaGreatDoorBlocks2
namespace Go.Proofs.YtdmeoooimnfmaaaGreatDoor
open Go.RowKit
namespace Bd
open Fr
theorem fwd {w w1 w2 : World} {n : Nat} (h : Below n w w1) (hn : n ≤ w1.heap.size) (k : Below w1.heap.size w1 w2) : Below n w w2 := h.trans (k.mono hn)
theorem bdn {w w' : World} (h : Below w.heap.size w w') : Below w.heap.size w.drew w' := ⟨h.os, h.tape, h.output, h.size, h.block⟩

set_option maxHeartbeats 4000000 in
theorem rsplit_none (b : Nat) (N : Int) (F T : List Bl) (x : Bl) (w : World) (h : RB w b N F T) (hl : T.length ≤ 256) (hx : x ∉ T) :
    Calls Tryz.prog 14 #[ptr b, blkV x.1 x.2] w fun ev w' => ev = .returned (.int .i64 4) ∧ Below w.heap.size w w' := by
  have B2 := h.a (blkO x.1 x.2)
  have X2 := bx_new w x
  have F2 := ballo (Below.refl w.heap.size w) (blkO x.1 x.2)
  have s2 : (w.alloc (blkO x.1 x.2)).heap.size = w.heap.size + 1 := by simp
  clear h
  obtain ⟨a, k⟩ := x
  simp only at *
  unfold ptr
  go_enter Tryz.func14, Tryz.ntmps14
  go_wp2_with fail
  generalize w.alloc (blkO a k) = W at *
  obtain ⟨v2, e2, l2⟩ := B2.c2
  have x0 := X2.c0
  have x1 := X2.c1
  simp only at x0 x1
  have HF := hide (find_any b v2 T (a, k) W.drew (l2.b ⟨rfl, rfl, rfl, Nat.le_refl _, fun _ _ => rfl⟩) hl)
  have KC := hide (fun w1 (hb : Below W.heap.size W.drew w1) => (⟨((bd hb).cell (p := ⟨b, 2, none⟩) B2.lt).trans e2, ((bd hb).cell (p := ⟨w.heap.size, 0, none⟩) X2.lt).trans X2.c0, ((bd hb).cell (p := ⟨w.heap.size, 1, none⟩) X2.lt).trans X2.c1⟩ : w1.cell? ⟨b, 2, none⟩ = some v2 ∧ w1.cell? ⟨w.heap.size, 0, none⟩ = some (.int .i64 a) ∧ w1.cell? ⟨w.heap.size, 1, none⟩ = some (.int .i64 k)))
  have HF := hide ((unhide HF).mono (R' := fun ev w' => Below W.heap.size W.drew w' ∧ ev = .returned (.int .i64 (-1))) (fun ev w' h => ⟨h.1, by
    rcases h.2 with h2 | ⟨q, hq, _, h3⟩
    · exact h2.1
    · exact absurd (by rw [← h3]; exact List.getElem_mem hq) hx⟩))
  go_region_held3 (fun w' => w'.cell? ⟨b, 2, none⟩ = some v2 ∧ w'.cell? ⟨w.heap.size, 0, none⟩ = some (.int .i64 a) ∧ w'.cell? ⟨w.heap.size, 1, none⟩ = some (.int .i64 k)) ((first | (go_keep; done) | (exact (unhide KC) _ (by assumption)))) ((go_at_call 30; refine (unhide HF).mono ?_; rintro ev w3 ⟨b3, rfl⟩))
  have F3 := F2.trans ((bd b3).mono (by omega))
  clear KC HF e2 x0 x1
  go_wp2
  go_ret
  exact ⟨rfl, F3⟩

set_option maxHeartbeats 4000000 in
theorem rsplit_one (b : Nat) (N : Int) (F T : List Bl) (a : Int) (w : World) (h : RB w b N F T) (hl : T.length ≤ 256) (hx : (a, 0) ∈ T) :
    Calls Tryz.prog 14 #[ptr b, blkV a 0] w fun ev w' => ev = .returned (.int .i64 3) ∧ Below w.heap.size w w' := by
  obtain ⟨k, hk⟩ : ∃ k : Int, Hid (k = 0) := ⟨0, rfl⟩
  have hk0 : (k == 0) = true := by rw [unhide hk]; rfl
  rw [← unhide hk] at hx ⊢
  have B2 := h.a (blkO a k)
  have X2 := bx_new w (a, k)
  have F2 := ballo (Below.refl w.heap.size w) (blkO a k)
  have s2 : (w.alloc (blkO a k)).heap.size = w.heap.size + 1 := by simp
  clear h
  unfold ptr
  go_enter Tryz.func14, Tryz.ntmps14
  go_wp2_with fail
  generalize w.alloc (blkO a k) = W at *
  obtain ⟨v2, e2, l2⟩ := B2.c2
  have x0 := X2.c0
  have x1 := X2.c1
  simp only at x0 x1
  have HF := hide (find_any b v2 T (a, k) W.drew (l2.b ⟨rfl, rfl, rfl, Nat.le_refl _, fun _ _ => rfl⟩) hl)
  have KC := hide (fun w1 (hb : Below W.heap.size W.drew w1) => (⟨((bd hb).cell (p := ⟨b, 2, none⟩) B2.lt).trans e2, ((bd hb).cell (p := ⟨w.heap.size, 0, none⟩) X2.lt).trans X2.c0, ((bd hb).cell (p := ⟨w.heap.size, 1, none⟩) X2.lt).trans X2.c1⟩ : w1.cell? ⟨b, 2, none⟩ = some v2 ∧ w1.cell? ⟨w.heap.size, 0, none⟩ = some (.int .i64 a) ∧ w1.cell? ⟨w.heap.size, 1, none⟩ = some (.int .i64 k)))
  have HF := hide ((unhide HF).mono (R' := fun ev w' => Below W.heap.size W.drew w' ∧ ∃ q : Nat, ∃ hq : q < T.length, ev = .returned (.int .i64 q) ∧ T[q] = (a, k)) (fun ev w' h => ⟨h.1, by
    rcases h.2 with h2 | h2
    · exact absurd hx h2.2
    · exact h2⟩))
  go_region_held3 (fun w' => w'.cell? ⟨b, 2, none⟩ = some v2 ∧ w'.cell? ⟨w.heap.size, 0, none⟩ = some (.int .i64 a) ∧ w'.cell? ⟨w.heap.size, 1, none⟩ = some (.int .i64 k)) ((first | (go_keep; done) | (exact (unhide KC) _ (by assumption)))) ((go_at_call 30; refine (unhide HF).mono ?_; rintro ev w3 ⟨b3, q, hq, rfl, hTq⟩))
  have hqn : decide ((q : Int) < 0) = false := by simp
  have B3 := B2.b (bd b3)
  have X3 := X2.b (bd b3)
  have F3 := F2.trans ((bd b3).mono (by omega))
  clear KC HF e2 l2 x0 x1 B2 X2 F2 b3
  have x0 := X3.c0
  have x1 := X3.c1
  simp only at x0 x1
  go_wp2
  go_ret
  exact ⟨rfl, F3⟩

end Bd
end Go.Proofs.YtdmeoooimnfmaaaGreatDoor
