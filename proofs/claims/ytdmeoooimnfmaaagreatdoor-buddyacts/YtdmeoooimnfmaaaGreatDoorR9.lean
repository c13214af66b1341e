/- The contract of package buddy's Copy. -/
import Derived.Test.YtdmeoooimnfmaaaGreatDoorR8
import Derived.Test.YtdmeoooimnfmaaaGreatDoorLaying
namespace Go.Proofs.YtdmeoooimnfmaaaGreatDoor
open Go.RowKit Go.Maps
attribute [local go_sem ↓] Go.wp_at_zero Go.wp_at_succ
namespace Bd
open Fr
theorem clone_ok (m : Nat) (L : List Bl) (w : World) (h : Mp w m L) :
    Calls Tryz.prog 32 #[.map (some m)] w fun ev w' => ev = .returned (.map (some w.heap.size)) ∧ Mp w' w.heap.size L ∧ w.heap.size < w'.heap.size ∧ Below w.heap.size w w' := by
  refine (AnyW.maps_Clone_owns cloneA 3 (plainElem Tryz.prog 3) m L.length (dOf L) w h.own).mono ?_
  rintro ev w' ⟨rfl, h1, _, hb⟩
  exact ⟨rfl, ⟨h1, h.srt, h.rng⟩, h1.lt, hb⟩

set_option maxRecDepth 100000 in
set_option maxHeartbeats 8000000 in
theorem copy_ok (b fm tm : Nat) (N : Int) (F T : List Bl) (w : World) (h : Bud w b fm tm N F T) :
    Calls Tryz.prog 15 #[ptr b] w fun ev w' => ∃ c fm' tm', ev = .returned (ptr c) ∧ Bud w' c fm' tm' N F T ∧ w.heap.size ≤ c ∧ w.heap.size ≤ fm' ∧ w.heap.size ≤ tm' ∧ Below w.heap.size w w' := by
  have hq : ∀ x : Nat, ptr x = .pointer (some ⟨x, 0, none⟩) := fun _ => rfl
  have e0 := h.c0
  have e1 := h.c1
  have e2 := h.c2
  have hbl := h.lt
  have KC := hide (fun w1 (hb : Below w.heap.size w w1) => (⟨(hb.cell (p := ⟨b, 0, none⟩) hbl).trans e0, (hb.cell (p := ⟨b, 1, none⟩) hbl).trans e1, (hb.cell (p := ⟨b, 2, none⟩) hbl).trans e2⟩ : w1.cell? ⟨b, 0, none⟩ = some (.int .i64 N) ∧ w1.cell? ⟨b, 1, none⟩ = some (.map (some fm)) ∧ w1.cell? ⟨b, 2, none⟩ = some (.map (some tm))))
  have HF := hide (fun w1 (hb : Below w.heap.size w w1) => clone_ok fm F w1 (h.f.b hb))
  have HT := hide (fun w1 (hb : Below w.heap.size w w1) => clone_ok tm T w1 (h.t.b hb))
  have hne : fm ≠ tm := h.n3
  clear h e0 e1 e2
  have K0 := (unhide KC) w.drew (drw w)
  rw [hq b]
  go_enter Tryz.func15, Tryz.ntmps15
  go_wp2_with fail
  have tk1 : True := trivial
  go_region_held3 (fun w' => w'.cell? ⟨b, 0, none⟩ = some (.int .i64 N) ∧ w'.cell? ⟨b, 1, none⟩ = some (.map (some fm)) ∧ w'.cell? ⟨b, 2, none⟩ = some (.map (some tm))) ((first | (go_keep; done) | (exact (unhide KC) _ (by assumption)) | (exact (unhide KC) _ (ballo f4 _)))) ((first
    | (go_at_call 32; have _t := tk1; refine ((unhide HF) _ (drw w)).mono ?_; rintro ev w3 ⟨rfl, m3, l3, b3⟩; have f3 : Below w.heap.size w w3 := bd b3; clear tk1)
    | (go_at_call 32; refine ((unhide HT) w3 f3).mono ?_; rintro ev w4 ⟨rfl, m4, l4, b4⟩; have f4 : Below w.heap.size w w4 := fwd f3 f3.size b4)))
  have F5 := ballo f4 (.cells #[.int .i64 N, .map (some w.heap.size), .map (some w3.heap.size)] 54)
  have q0 := World.cell?_alloc_new w4 #[.int .i64 N, .map (some w.heap.size), .map (some w3.heap.size)] 54 0
  have q1 := World.cell?_alloc_new w4 #[.int .i64 N, .map (some w.heap.size), .map (some w3.heap.size)] 54 1
  have q2 := World.cell?_alloc_new w4 #[.int .i64 N, .map (some w.heap.size), .map (some w3.heap.size)] 54 2
  have s3 := f3.size
  have s4 := f4.size
  have l3' : w.heap.size < w3.heap.size := l3
  have l4' : w3.heap.size < w4.heap.size := l4
  have M3 : Mp w4 w.heap.size F := Mp.b m3 b4
  have M4 : Mp w4 w3.heap.size T := m4
  have BD : Bud (w4.alloc (.cells #[.int .i64 N, .map (some w.heap.size), .map (some w3.heap.size)] 54)) w4.heap.size w.heap.size w3.heap.size N F T := ⟨q0, q1, q2, M3.a _, M4.a _, by omega, by omega, by omega, by simp⟩
  go_wp2
  go_ret
  exact ⟨w4.heap.size, w.heap.size, w3.heap.size, rfl, BD, by omega, Nat.le_refl _, by omega, F5⟩
end Bd
end Go.Proofs.YtdmeoooimnfmaaaGreatDoor
