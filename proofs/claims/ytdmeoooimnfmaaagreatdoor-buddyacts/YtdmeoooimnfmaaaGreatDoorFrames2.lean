/- The contracts of package frames' small functions: checkBelow, Buddy, Parent, Halves. -/
import Derived.Test.YtdmeoooimnfmaaaGreatDoorFrames
namespace Go.Proofs.YtdmeoooimnfmaaaGreatDoor
open Go.RowKit
theorem hide {p : Prop} (h : p) : Hid p := h
theorem unhide {p : Prop} (h : Hid p) : p := h
namespace Fr

abbrev blkO (a k : Int) : Obj := .cells #[.int .i64 a, .int .i64 k] 33
abbrev blkV (a k : Int) : Value := .agg #[.int .i64 a, .int .i64 k]
abbrev errV (p : Addr) : Value := .iface 148 (.pointer (some p))

theorem below_ok (a k : Int) (w : World) (h0 : 0 ≤ a) (h1 : a < 256) (k0 : 0 ≤ k) (k5 : k ≤ 5) (ha : al a k = true) :
    Calls Tryz.prog 61 #[.agg #[.int .i64 a, .int .i64 k]] w fun e w' => e = .returned .nilIface ∧ w' = (w.alloc (blkO a k)).alloc (blkO a k) := by
  have hk : (k == 6) = false := by simp; omega
  go_enter Tryz.func61, Tryz.ntmps61
  go_wp2_with (go_at_call 46; refine (anywhere_ok a k _ h0 h1 k0 (by omega) ha).mono ?_; rintro e w' ⟨rfl, rfl⟩)
  go_ret
  exact ⟨rfl, rfl⟩

theorem below_bound (a k : Int) (w : World) (e : Nat → Addr) (he : Errs3 w e) (h : a < 0 ∨ 256 ≤ a ∨ k < 0 ∨ 6 < k) :
    Calls Tryz.prog 61 #[.agg #[.int .i64 a, .int .i64 k]] w fun ev w' => ev = .returned (errV (e 1)) ∧ w' = (w.alloc (blkO a k)).alloc (blkO a k) := by
  have H := hide (anywhere_bound a k (w.alloc (blkO a k)) e (he.alloc _) h)
  clear h he
  go_enter Tryz.func61, Tryz.ntmps61
  go_wp2_with (go_at_call 46; refine (unhide H).mono ?_; rintro e w' ⟨rfl, rfl⟩)
  go_ret
  exact ⟨rfl, rfl⟩

theorem below_shape (a k : Int) (w : World) (e : Nat → Addr) (he : Errs3 w e) (h0 : 0 ≤ a) (h1 : a < 256) (k0 : 0 ≤ k) (k6 : k ≤ 6) (ha : al a k = false) :
    Calls Tryz.prog 61 #[.agg #[.int .i64 a, .int .i64 k]] w fun ev w' => ev = .returned (errV (e 2)) ∧ w' = (w.alloc (blkO a k)).alloc (blkO a k) := by
  have H := hide (anywhere_shape a k (w.alloc (blkO a k)) e (he.alloc _) h0 h1 k0 k6 ha)
  clear ha he
  go_enter Tryz.func61, Tryz.ntmps61
  go_wp2_with (go_at_call 46; refine (unhide H).mono ?_; rintro e w' ⟨rfl, rfl⟩)
  go_ret
  exact ⟨rfl, rfl⟩

theorem below_none (a : Int) (w : World) (e : Nat → Addr) (he : Errs3 w e) (h0 : 0 ≤ a) (h1 : a < 256) (ha : al a 6 = true) :
    Calls Tryz.prog 61 #[.agg #[.int .i64 a, .int .i64 6]] w fun ev w' => ev = .returned (errV (e 3)) ∧ w' = (w.alloc (blkO a 6)).alloc (blkO a 6) := by
  have H := hide (anywhere_ok a 6 (w.alloc (blkO a 6)) h0 h1 (by omega) (by omega) ha)
  have hN := fun o o' => ((he.alloc o).alloc o').none
  clear ha he
  go_enter Tryz.func61, Tryz.ntmps61
  go_wp2_with (go_at_call 46; refine (unhide H).mono ?_; rintro e w' ⟨rfl, rfl⟩)
  go_ret
  exact ⟨rfl, rfl⟩

theorem buddy_ok (a k : Int) (w : World) (h0 : 0 ≤ a) (h1 : a < 256) (k0 : 0 ≤ k) (k5 : k ≤ 5) (ha : al a k = true) :
    Calls Tryz.prog 47 #[.agg #[.int .i64 a, .int .i64 k]] w fun e w' => e = .returned (.tuple #[blkV (bud a k) k, .nilIface]) ∧ Below w.heap.size w w' := by
  have hx := xor_bud a k h0 h1 k0 (by omega)
  rcases orders k k0 (by omega) with rfl | rfl | rfl | rfl | rfl | rfl | rfl
  all_goals first | omega | skip
  all_goals
    have H := fun w => hide (below_ok a _ w h0 h1 k0 k5 ha)
    simp only [pw0, pw1, pw2, pw3, pw4, pw5] at hx
    clear ha k0 k5
    go_enter Tryz.func47, Tryz.ntmps47
    go_wp2_with (go_at_call 61; refine (unhide (H _)).mono ?_; rintro e w' ⟨rfl, rfl⟩)
    go_region
    go_wp2
    exact bodyPost_ret (v := .tuple #[blkV (bud a _) _, .nilIface]) (by simp [results, Tryz.results47, go_sem]) rfl ⟨rfl, (((((Below.refl _ _).alloc (Nat.le_refl _) _).alloc (by simp) _).alloc (by simp; omega) _).alloc (by simp; omega) _).drew⟩
end Fr
end Go.Proofs.YtdmeoooimnfmaaaGreatDoor
