/- The contracts of package plain's Code, and of the law's own helper over it: at nil, at each of package api's errors. -/
import Derived.Test.YtdmeoooimnfmaaaGreatDoorLaid
import Derived.Test.YtdmeoooimnfmaaaGreatDoorAs
import Derived.Test.YtdmeoooimnfmaaaGreatDoorIs
import Derived.Test.YtdmeoooimnfmaaaGreatDoorTwice
namespace Go.Proofs.YtdmeoooimnfmaaaGreatDoor
open Go.RowKit

theorem code_nil (w : World) : Calls Tryz.prog 21 #[.nilIface] w fun ev w' => ev = .returned (.tuple #[.int .i64 0, .int .i64 (-1)]) ∧ Below w.heap.size w w' := by
  go_enter Tryz.func21, Tryz.ntmps21
  go_wp2_with fail
  go_ret2
  exact ⟨rfl, Below.refl _ _⟩

/-- The list of the ten errors, as it lies in memory. -/
abbrev tenO (e : Nat → Addr) : Obj := .cells #[Fr.errV (e 0), Fr.errV (e 1), Fr.errV (e 2), Fr.errV (e 3), Fr.errV (e 4), Fr.errV (e 5), Fr.errV (e 6), Fr.errV (e 7), Fr.errV (e 8), Fr.errV (e 9)] 26
theorem ten_cell (w : World) (e : Nat → Addr) (n : Nat) (hn : n < 10) : (w.alloc (tenO e)).cell? ⟨w.heap.size, n, none⟩ = some (.iface 148 (.pointer (some (e n)))) := by
  match n, hn with
  | 0, _ => simp
  | 1, _ => simp
  | 2, _ => simp
  | 3, _ => simp
  | 4, _ => simp
  | 5, _ => simp
  | 6, _ => simp
  | 7, _ => simp
  | 8, _ => simp
  | 9, _ => simp
  | k + 10, h => omega

set_option maxHeartbeats 1000000 in
theorem code_sent (i : Nat) (hi : i < 10) (w : World) (e : Nat → Addr) (he : Errs w e) :
    Calls Tryz.prog 21 #[.iface 148 (.pointer (some (e i)))] w fun ev w' => ev = .returned (.tuple #[.int .i64 (i + 1), .int .i64 (-1)]) ∧ Below w.heap.size w w' := by
  go_enter Tryz.func21, Tryz.ntmps21
  go_wp2_with fail
  refine (as_miss _ _ _ (he.alloc _).typ).mono ?_
  rintro ev w1 ⟨rfl, hw1⟩
  have hb : Below w.heap.size w w1 := by rw [hw1]; exact Fr.ballo (Fr.ballo (Fr.ballo (Fr.ballo (Below.refl _ _) _) _) _) _
  clear hw1
  have h1 := he.below hb
  have v0 := h1.v0
  have v1 := h1.v1
  have v2 := h1.v2
  have v3 := h1.v3
  have v4 := h1.v4
  have v5 := h1.v5
  have v6 := h1.v6
  have v7 := h1.v7
  have v8 := h1.v8
  have v9 := h1.v9
  clear he
  go_wp2_with fail
  have hcell := ten_cell w1 e
  have h2 := h1.alloc (tenO e)
  have hb2 := Fr.ballo hb (tenO e)
  clear h1 hb v0 v1 v2 v3 v4 v5 v6 v7 v8 v9
  generalize w1.alloc (tenO e) = W2 at *
  generalize w1.heap.size = B at *
  have H2 := hide h2
  have HB := hide hb2
  clear h2 hb2
  have HC := hide hcell
  clear hcell
  go_loop [3, 28] (fun at_ k => ∃ n : Nat, n ≤ i ∧ k = .int .i64 n ∧ at_ = .int .i64 (-1)) (fun _ k => 10 - (intOf k).toNat)
  case atStart => exact ⟨0, Nat.zero_le _, rfl, rfl⟩
  case round =>
    obtain ⟨n, hn, rfl, rfl⟩ := hrel
    have hc := (unhide HC) n (by omega)
    by_cases hni : n = i
    · subst hni
      go_wp2_with (go_at_call 39; refine (is_same _ _).mono ?_; rintro ev w' ⟨rfl, rfl⟩)
      go_ret2
      exact ⟨rfl, unhide HB⟩
    · obtain ⟨ca, ta, hba⟩ := (unhide H2).blk i hi
      obtain ⟨cb, tb, hbb⟩ := (unhide H2).blk n (by omega)
      have HI := hide (is_other (e i) (e n) ca cb ta tb W2 (fun h => hni ((unhide H2).inj i n hi (by omega) h).symm) hba hbb)
      have hlt : n < i := by omega
      clear hba hbb hni
      go_wp2_with (go_at_call 39; refine (unhide HI).mono ?_; rintro ev w' ⟨rfl, rfl⟩)
      go_round
      case rel => exact ⟨n + 1, by omega, by go_num, rfl⟩
      case measure => simp [intOf]; omega

/-- The law's helper at an error of the ten: it holds at that error's own number alone. -/
theorem coded_sent (i : Nat) (hi : i < 10) (c : Int) (hc : c = i + 1) (w : World) (e : Nat → Addr) (he : Errs w e) :
    Calls Tryz.prog 6 #[.iface 148 (.pointer (some (e i))), .int .i64 c] w fun ev w' => ev = .returned (.bool true) ∧ Below w.heap.size w w' := by
  subst hc
  go_enter Tryz.func6, Tryz.ntmps6
  go_wp2_with (go_at_call 21; refine (code_sent i hi _ e he).mono ?_; rintro ev w' ⟨rfl, hb⟩)
  go_ret
  exact ⟨rfl, by assumption⟩
theorem coded_nil (w : World) : Calls Tryz.prog 6 #[.nilIface, .int .i64 0] w fun ev w' => ev = .returned (.bool true) ∧ Below w.heap.size w w' := by
  go_enter Tryz.func6, Tryz.ntmps6
  go_wp2_with (go_at_call 21; refine (code_nil _).mono ?_; rintro ev w' ⟨rfl, hb⟩)
  go_ret
  exact ⟨rfl, by assumption⟩
end Go.Proofs.YtdmeoooimnfmaaaGreatDoor
