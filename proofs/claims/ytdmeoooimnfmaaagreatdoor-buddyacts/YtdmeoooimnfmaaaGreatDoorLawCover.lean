/- FramesCover: its walk, over the contracts. -/
import Derived.Test.YtdmeoooimnfmaaaGreatDoorCover3
import Derived.Test.YtdmeoooimnfmaaaGreatDoorLies
import Derived.Test.YtdmeoooimnfmaaaGreatDoorCode
namespace Go.Proofs.YtdmeoooimnfmaaaGreatDoor
open Go.RowKit
namespace Fr

theorem rcover_no (a n : Int) (w : World) (ha : -9223372036854775808 ≤ a) (ha2 : a ≤ 9223372036854775807) (hn : -9223372036854775808 ≤ n) (hn2 : n ≤ 9223372036854775807) (h : a < 0 ∨ 256 < a ∨ n < 0 ∨ 256 < n ∨ 256 < a + n) :
    Calls Tryz.prog 22 #[.int .i64 a, .int .i64 n] w fun ev w' => ev = .returned (.tuple #[.slice none 0 0, .bool false]) ∧ w' = w := by
  by_cases c1 : a < 0
  · clear h
    go_enter Tryz.func22, Tryz.ntmps22
    go_wp2_with fail
    go_ret2
    exact ⟨rfl, rfl⟩
  have d1 : decide (a < 0) = false := by simpa using c1
  by_cases c2 : 256 < a
  · clear h c1
    go_enter Tryz.func22, Tryz.ntmps22
    go_wp2_with fail
    go_ret2
    exact ⟨rfl, rfl⟩
  have d2 : decide (256 < a) = false := by simpa using c2
  by_cases c3 : n < 0
  · clear h c1 c2
    go_enter Tryz.func22, Tryz.ntmps22
    go_wp2_with fail
    go_ret2
    exact ⟨rfl, rfl⟩
  have d3 : decide (n < 0) = false := by simpa using c3
  by_cases c4 : 256 < n
  · clear h c1 c2 c3
    go_enter Tryz.func22, Tryz.ntmps22
    go_wp2_with fail
    go_ret2
    exact ⟨rfl, rfl⟩
  have d4 : decide (256 < n) = false := by simpa using c4
  have c5 : 256 < a + n := by omega
  clear h
  go_enter Tryz.func22, Tryz.ntmps22
  go_wp2_with fail
  go_ret2
  exact ⟨rfl, rfl⟩

set_option maxHeartbeats 1000000 in
theorem same_blocks (v1 v2 : Value) (L : List (Int × Int)) (w : World) (hl : L.length ≤ 256) (h1 : Lies w v1 L) (h2 : Lies w v2 L) :
    Calls Tryz.prog 33 #[v1, v2] w fun ev w' => ev = .returned (.bool true) ∧ Below w.heap.size w w' := by
  rcases h1 with ⟨hL, rfl⟩ | ⟨g1, c1, rfl, hg1, hL, q1, q2, hc1⟩
  · rcases h2 with ⟨_, rfl⟩ | ⟨g2, c2, rfl, hg2, hL2, _⟩
    · go_enter Tryz.func33, Tryz.ntmps33
      go_wp2
      refine wp_loop_rounds 1 ?_
      rw [rounds_succ]
      go_wp2
      go_ret
      exact ⟨rfl, Below.refl _ _⟩
    · exact absurd hL hL2
  · rcases h2 with ⟨hL2, _⟩ | ⟨g2, c2, rfl, hg2, hL2, q3, q4, hc2⟩
    · exact absurd hL2 hL
    · have H1 := hide hc1
      have H2 := hide hc2
      clear hc1 hc2 hL hL2
      unfold maxLen at q2 q4
      generalize hn : L.length = n at *
      clear hn
      go_enter Tryz.func33, Tryz.ntmps33
      go_wp2
      go_loopw [5] (fun i wr => ∃ j : Nat, j ≤ n ∧ i = .int .i64 j ∧ Hid (wr.heap = w.heap ∧ wr.os = w.os ∧ wr.tape = w.tape ∧ wr.output = w.output)) (fun i _ => n - (intOf i).toNat)
      case atStart => exact ⟨0, Nat.zero_le _, rfl, rfl, rfl, rfl, rfl⟩
      case round =>
        obtain ⟨j, hj, rfl, hQ⟩ := hrel
        by_cases hlt : j < n
        · have e1 := (unhide H1) j hlt
          have e2 := (unhide H2) j hlt
          generalize L.getD j (0, 0) = x at *
          have c1 : wr.cell? ⟨g1, j * 2, none⟩ = some (.int .i64 x.1) := by rw [← e1.1]; simp [World.cell?, (unhide hQ).1]
          have c2 : wr.cell? ⟨g1, j * 2 + 1, none⟩ = some (.int .i64 x.2) := by rw [← e1.2]; simp [World.cell?, (unhide hQ).1]
          have c3 : wr.cell? ⟨g2, j * 2, none⟩ = some (.int .i64 x.1) := by rw [← e2.1]; simp [World.cell?, (unhide hQ).1]
          have c4 : wr.cell? ⟨g2, j * 2 + 1, none⟩ = some (.int .i64 x.2) := by rw [← e2.2]; simp [World.cell?, (unhide hQ).1]
          clear e1 e2
          go_wp2
          go_region
          go_wp2
          go_roundw
          case rel => exact ⟨j + 1, by omega, by go_num, unhide hQ⟩
          case measure => simp [intOf]; omega
        · go_wp2
          go_ret
          have hQ := unhide hQ
          exact ⟨rfl, ⟨hQ.2.1, hQ.2.2.1, hQ.2.2.2, by rw [hQ.1]; exact Nat.le_refl _, fun k _ => by rw [hQ.1]⟩⟩

theorem bd_i64 {n : Int} (h : (Lit.int .i64 n).wf = true) : -9223372036854775808 ≤ n ∧ n ≤ 9223372036854775807 := by
  simp [Lit.wf, IntKind.min, IntKind.max, IntKind.signed, IntKind.bits] at h
  omega
end Fr
end Go.Proofs.YtdmeoooimnfmaaaGreatDoor
