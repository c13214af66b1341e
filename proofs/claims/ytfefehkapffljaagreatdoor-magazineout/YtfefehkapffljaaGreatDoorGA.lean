/- The plain arithmetic of blocks of pages: powers of two at the orders 0 to 6, what is aligned, the buddy, the parent. Nothing of a program stands here · The contracts of package frames' small functions: checkAnywhere, checkBelow, Buddy, Parent, Halves · The contracts of package frames' small functions: checkBelow, Buddy, Parent, Halves · The contracts of package frames' Buddy, Parent, Halves: what they answer at each block · The contracts of package frames' Halves · FramesTwice: its walk, over the contracts · The contracts of the sizes of orders: frames.Size, frames.Order, and the document's answer's own IsOrder and Pages. -/
import Derived.Laws.BitsAllLaws
import Derived.Below
import Derived.Test.YtfefehkapffljaaGreatDoorChecked
import Derived.WalkKit
import Derived.WalkLawsBesides
import Derived.Outline
import Derived.RegionTactic
import Derived.BigQuiet
import Derived.Deep.QuietTactic
namespace Go.Proofs.YtfefehkapffljaaGreatDoor
open Go.RowKit

namespace Fr
def pw (k : Int) : Int := 2 ^ k.toNat
def al (a k : Int) : Bool := a / pw k * pw k == a
def bud (a k : Int) : Int := if a / pw k % 2 = 0 then a + pw k else a - pw k
def par (a k : Int) : Int := a / pw (k + 1) * pw (k + 1)

theorem orders (k : Int) (h0 : 0 ≤ k) (h6 : k ≤ 6) : k = 0 ∨ k = 1 ∨ k = 2 ∨ k = 3 ∨ k = 4 ∨ k = 5 ∨ k = 6 := by omega
theorem pw0 : pw 0 = 1 := by decide
theorem pw1 : pw 1 = 2 := by decide
theorem pw2 : pw 2 = 4 := by decide
theorem pw3 : pw 3 = 8 := by decide
theorem pw4 : pw 4 = 16 := by decide
theorem pw5 : pw 5 = 32 := by decide
theorem pw6 : pw 6 = 64 := by decide

theorem al_iff (a k : Int) : al a k = true ↔ a / pw k * pw k = a := by simp [al]

/-- The bits: 'a xor 2^k' is the buddy, for an aligned a. -/
theorem xor_all : ∀ n : Fin 256, ∀ k : Fin 7, bits .xor .i64 ((n.val : Nat) : Int) ((2 ^ k.val : Nat) : Int) = if ((n.val / 2 ^ k.val) % 2 = 0) then ((n.val + 2 ^ k.val : Nat) : Int) else ((n.val - 2 ^ k.val : Nat) : Int) := by decide +kernel
theorem or_all : ∀ n : Fin 256, ∀ k : Fin 7, bits .or .i64 ((n.val : Nat) : Int) ((2 ^ k.val : Nat) : Int) = if ((n.val / 2 ^ k.val) % 2 = 0) then ((n.val + 2 ^ k.val : Nat) : Int) else ((n.val : Nat) : Int) := by decide +kernel

theorem xor_bud (a k : Int) (h0 : 0 ≤ a) (h1 : a < 256) (k0 : 0 ≤ k) (k6 : k ≤ 6) : bits .xor .i64 a (pw k) = bud a k := by
  obtain ⟨n, rfl⟩ := Int.eq_ofNat_of_zero_le h0
  have h := xor_all ⟨n, by omega⟩ ⟨k.toNat, by omega⟩
  simp only at h
  have e : ((2 ^ k.toNat : Nat) : Int) = pw k := by simp [pw]
  rw [e] at h
  rw [h]
  unfold bud
  rw [← e]
  have h2 : 0 < 2 ^ k.toNat := Nat.pow_pos (by omega)
  generalize 2 ^ k.toNat = p at *
  by_cases hp : n / p % 2 = 0
  · rw [if_pos hp, if_pos (by omega)]; omega
  · have : p ≤ n := by
      rcases Nat.lt_or_ge n p with hlt | hge
      · rw [Nat.div_eq_of_lt hlt] at hp; omega
      · exact hge
    rw [if_neg hp, if_neg (by omega)]; omega

theorem or_up (a k : Int) (h0 : 0 ≤ a) (h1 : a < 256) (k0 : 0 ≤ k) (k6 : k ≤ 5) (ha : al a (k + 1) = true) : bits .or .i64 a (pw k) = a + pw k := by
  rw [al_iff] at ha
  obtain ⟨n, rfl⟩ := Int.eq_ofNat_of_zero_le h0
  have h := or_all ⟨n, by omega⟩ ⟨k.toNat, by omega⟩
  simp only at h
  have e : ((2 ^ k.toNat : Nat) : Int) = pw k := by simp [pw]
  rw [e] at h
  rw [h]
  have hz : n / 2 ^ k.toNat % 2 = 0 := by
    rcases orders k k0 (by omega) with rfl | rfl | rfl | rfl | rfl | rfl | rfl <;> simp [pw] at ha ⊢ <;> omega
  rw [if_pos hz, ← e]; omega
end Fr
end Go.Proofs.YtfefehkapffljaaGreatDoor
namespace Go.Proofs.YtfefehkapffljaaGreatDoor
open Go.RowKit

theorem bcell {W w1 : World} (hb : Below W.heap.size W w1) : (∀ b o, b < W.heap.size → w1.cell? ⟨b, o, none⟩ = W.cell? ⟨b, o, none⟩) ∧ (∀ b o, b < W.heap.size → w1.frozen? ⟨b, o, none⟩ = W.frozen? ⟨b, o, none⟩) :=
  ⟨fun b o h => hb.cell (p := ⟨b, o, none⟩) h, fun b o h => hb.frozen (p := ⟨b, o, none⟩) h⟩

theorem cell_lt {w : World} {a : Addr} {v : Value} (h : w.cell? a = some v) : a.block < w.heap.size := by
  rcases Nat.lt_or_ge a.block w.heap.size with h' | h'
  · exact h'
  · simp [World.cell?, Array.getElem?_eq_none h'] at h
/-- A cell that is there stays as it is. -/
theorem keep {w w' : World} {a : Addr} {v : Value} (h : w.cell? a = some v) (hb : Below w.heap.size w w') : w'.cell? a = some v := by
  rw [hb.cell (cell_lt h)]; exact h

/-- What the three errors' variables hold. -/
structure Errs3 (w : World) (e : Nat → Addr) : Prop where
  bound : w.cell? ⟨1, 0, none⟩ = some (.iface 304 (.pointer (some (e 1))))
  shape : w.cell? ⟨0, 0, none⟩ = some (.iface 304 (.pointer (some (e 2))))
  none : w.cell? ⟨7, 0, none⟩ = some (.iface 304 (.pointer (some (e 3))))

theorem Errs3.below {w w' : World} {e : Nat → Addr} (h : Errs3 w e) (hb : Below w.heap.size w w') : Errs3 w' e := ⟨keep h.bound hb, keep h.shape hb, keep h.none hb⟩
theorem Errs3.alloc {w : World} {e : Nat → Addr} (h : Errs3 w e) (o : Obj) : Errs3 (w.alloc o) e := h.below ((Below.refl _ _).alloc (Nat.le_refl _) o)

namespace Fr
theorem anywhere_ok (a k : Int) (w : World) (h0 : 0 ≤ a) (h1 : a < 256) (k0 : 0 ≤ k) (k6 : k ≤ 6) (ha : al a k = true) :
    Calls Tryz.prog 195 #[.agg #[.int .i64 a, .int .i64 k]] w fun e w' => e = .returned .nilIface ∧ w' = w.alloc (.cells #[.int .i64 a, .int .i64 k] 71) := by
  unfold al at ha
  rcases orders k k0 k6 with rfl | rfl | rfl | rfl | rfl | rfl | rfl
  all_goals
    simp only [pw0, pw1, pw2, pw3, pw4, pw5, pw6] at ha
    go_enter Tryz.func195, Tryz.ntmps195
    go_wp2
    go_ret
    exact ⟨rfl, rfl⟩

theorem anywhere_bound (a k : Int) (w : World) (e : Nat → Addr) (he : Errs3 w e) (h : a < 0 ∨ 256 ≤ a ∨ k < 0 ∨ 6 < k) :
    Calls Tryz.prog 195 #[.agg #[.int .i64 a, .int .i64 k]] w fun ev w' => ev = .returned (.iface 304 (.pointer (some (e 1)))) ∧ w' = w.alloc (.cells #[.int .i64 a, .int .i64 k] 71) := by
  have hB := fun o => (he.alloc o).bound
  clear he
  by_cases c1 : a < 0
  · go_enter Tryz.func195, Tryz.ntmps195
    go_wp2
    go_ret
    exact ⟨rfl, rfl⟩
  by_cases c2 : 256 ≤ a
  · go_enter Tryz.func195, Tryz.ntmps195
    go_wp2
    go_ret
    exact ⟨rfl, rfl⟩
  by_cases c3 : k < 0
  · clear h
    go_enter Tryz.func195, Tryz.ntmps195
    go_wp2
    go_ret
    exact ⟨rfl, rfl⟩
  have c4 : decide (k ≤ 6) = false := by simp; omega
  clear h
  go_enter Tryz.func195, Tryz.ntmps195
  go_wp2
  go_ret
  exact ⟨rfl, rfl⟩

theorem anywhere_shape (a k : Int) (w : World) (e : Nat → Addr) (he : Errs3 w e) (h0 : 0 ≤ a) (h1 : a < 256) (k0 : 0 ≤ k) (k6 : k ≤ 6) (ha : al a k = false) :
    Calls Tryz.prog 195 #[.agg #[.int .i64 a, .int .i64 k]] w fun ev w' => ev = .returned (.iface 304 (.pointer (some (e 2)))) ∧ w' = w.alloc (.cells #[.int .i64 a, .int .i64 k] 71) := by
  have hB := fun o => (he.alloc o).shape
  clear he
  unfold al at ha
  rcases orders k k0 k6 with rfl | rfl | rfl | rfl | rfl | rfl | rfl
  · simp [pw0] at ha
  all_goals
    simp only [pw1, pw2, pw3, pw4, pw5, pw6] at ha
    go_enter Tryz.func195, Tryz.ntmps195
    go_wp2
    go_ret
    exact ⟨rfl, rfl⟩
end Fr
end Go.Proofs.YtfefehkapffljaaGreatDoor
namespace Go.Proofs.YtfefehkapffljaaGreatDoor
open Go.RowKit
theorem hide {p : Prop} (h : p) : Hid p := h
theorem unhide {p : Prop} (h : Hid p) : p := h
namespace Fr

abbrev blkO (a k : Int) : Obj := .cells #[.int .i64 a, .int .i64 k] 71
abbrev blkV (a k : Int) : Value := .agg #[.int .i64 a, .int .i64 k]
abbrev errV (p : Addr) : Value := .iface 304 (.pointer (some p))

theorem below_ok (a k : Int) (w : World) (h0 : 0 ≤ a) (h1 : a < 256) (k0 : 0 ≤ k) (k5 : k ≤ 5) (ha : al a k = true) :
    Calls Tryz.prog 199 #[.agg #[.int .i64 a, .int .i64 k]] w fun e w' => e = .returned .nilIface ∧ w' = (w.alloc (blkO a k)).alloc (blkO a k) := by
  have hk : (k == 6) = false := by simp; omega
  go_enter Tryz.func199, Tryz.ntmps199
  go_wp2_with (go_at_call 195; refine (anywhere_ok a k _ h0 h1 k0 (by omega) ha).mono ?_; rintro e w' ⟨rfl, rfl⟩)
  go_ret
  exact ⟨rfl, rfl⟩

theorem below_bound (a k : Int) (w : World) (e : Nat → Addr) (he : Errs3 w e) (h : a < 0 ∨ 256 ≤ a ∨ k < 0 ∨ 6 < k) :
    Calls Tryz.prog 199 #[.agg #[.int .i64 a, .int .i64 k]] w fun ev w' => ev = .returned (errV (e 1)) ∧ w' = (w.alloc (blkO a k)).alloc (blkO a k) := by
  have H := hide (anywhere_bound a k (w.alloc (blkO a k)) e (he.alloc _) h)
  clear h he
  go_enter Tryz.func199, Tryz.ntmps199
  go_wp2_with (go_at_call 195; refine (unhide H).mono ?_; rintro e w' ⟨rfl, rfl⟩)
  go_ret
  exact ⟨rfl, rfl⟩

theorem below_shape (a k : Int) (w : World) (e : Nat → Addr) (he : Errs3 w e) (h0 : 0 ≤ a) (h1 : a < 256) (k0 : 0 ≤ k) (k6 : k ≤ 6) (ha : al a k = false) :
    Calls Tryz.prog 199 #[.agg #[.int .i64 a, .int .i64 k]] w fun ev w' => ev = .returned (errV (e 2)) ∧ w' = (w.alloc (blkO a k)).alloc (blkO a k) := by
  have H := hide (anywhere_shape a k (w.alloc (blkO a k)) e (he.alloc _) h0 h1 k0 k6 ha)
  clear ha he
  go_enter Tryz.func199, Tryz.ntmps199
  go_wp2_with (go_at_call 195; refine (unhide H).mono ?_; rintro e w' ⟨rfl, rfl⟩)
  go_ret
  exact ⟨rfl, rfl⟩

theorem below_none (a : Int) (w : World) (e : Nat → Addr) (he : Errs3 w e) (h0 : 0 ≤ a) (h1 : a < 256) (ha : al a 6 = true) :
    Calls Tryz.prog 199 #[.agg #[.int .i64 a, .int .i64 6]] w fun ev w' => ev = .returned (errV (e 3)) ∧ w' = (w.alloc (blkO a 6)).alloc (blkO a 6) := by
  have H := hide (anywhere_ok a 6 (w.alloc (blkO a 6)) h0 h1 (by omega) (by omega) ha)
  have hN := fun o o' => ((he.alloc o).alloc o').none
  clear ha he
  go_enter Tryz.func199, Tryz.ntmps199
  go_wp2_with (go_at_call 195; refine (unhide H).mono ?_; rintro e w' ⟨rfl, rfl⟩)
  go_ret
  exact ⟨rfl, rfl⟩

theorem buddy_ok (a k : Int) (w : World) (h0 : 0 ≤ a) (h1 : a < 256) (k0 : 0 ≤ k) (k5 : k ≤ 5) (ha : al a k = true) :
    Calls Tryz.prog 185 #[.agg #[.int .i64 a, .int .i64 k]] w fun e w' => e = .returned (.tuple #[blkV (bud a k) k, .nilIface]) ∧ Below w.heap.size w w' := by
  have hx := xor_bud a k h0 h1 k0 (by omega)
  rcases orders k k0 (by omega) with rfl | rfl | rfl | rfl | rfl | rfl | rfl
  all_goals first | omega | skip
  all_goals
    have H := fun w => hide (below_ok a _ w h0 h1 k0 k5 ha)
    simp only [pw0, pw1, pw2, pw3, pw4, pw5] at hx
    clear ha k0 k5
    go_enter Tryz.func185, Tryz.ntmps185
    go_wp2_with (go_at_call 199; refine (unhide (H _)).mono ?_; rintro e w' ⟨rfl, rfl⟩)
    go_region
    go_wp2
    exact bodyPost_ret (v := .tuple #[blkV (bud a _) _, .nilIface]) (by simp [results, Tryz.results185, go_sem]) rfl ⟨rfl, (((((Below.refl _ _).alloc (Nat.le_refl _) _).alloc (by simp) _).alloc (by simp; omega) _).alloc (by simp; omega) _).drew⟩
end Fr
end Go.Proofs.YtfefehkapffljaaGreatDoor
namespace Go.Proofs.YtfefehkapffljaaGreatDoor
open Go.RowKit
namespace Fr

/-- Which error a block has that is asked for its buddy or parent (0: none). -/
def lowerE (a k : Int) : Nat := if a < 0 ∨ 256 ≤ a ∨ k < 0 ∨ 6 < k then 1 else if al a k = true then (if k = 6 then 3 else 0) else 2
/-- Which error a block has that is asked for its halves (0: none). -/
def upperE (a k : Int) : Nat := if a < 0 ∨ 256 ≤ a ∨ k < 0 ∨ 6 < k then 1 else if al a k = true then (if k = 0 then 3 else 0) else 2

theorem below_err (a k : Int) (w : World) (e : Nat → Addr) (he : Errs3 w e) (h : lowerE a k ≠ 0) :
    Calls Tryz.prog 199 #[.agg #[.int .i64 a, .int .i64 k]] w fun ev w' => ev = .returned (errV (e (lowerE a k))) ∧ w' = (w.alloc (blkO a k)).alloc (blkO a k) := by
  unfold lowerE at *
  by_cases c1 : a < 0 ∨ 256 ≤ a ∨ k < 0 ∨ 6 < k
  · rw [if_pos c1]; exact below_bound a k w e he c1
  · rw [if_neg c1] at *
    by_cases c2 : al a k = true
    · rw [if_pos c2] at *
      by_cases c3 : k = 6
      · rw [if_pos c3]; subst c3; exact below_none a w e he (by omega) (by omega) c2
      · rw [if_neg c3] at h; exact absurd rfl h
    · rw [if_neg c2]; exact below_shape a k w e he (by omega) (by omega) (by omega) (by omega) (by simpa using c2)

theorem lowerE_ok {a k : Int} (h : lowerE a k = 0) : 0 ≤ a ∧ a < 256 ∧ 0 ≤ k ∧ k ≤ 5 ∧ al a k = true := by
  unfold lowerE at h
  split at h
  · simp at h
  · split at h
    · split at h
      · simp at h
      · next c1 c2 c3 => exact ⟨by omega, by omega, by omega, by omega, c2⟩
    · simp at h
theorem upperE_ok {a k : Int} (h : upperE a k = 0) : 0 ≤ a ∧ a < 256 ∧ 1 ≤ k ∧ k ≤ 6 ∧ al a k = true := by
  unfold upperE at h
  split at h
  · simp at h
  · split at h
    · split at h
      · simp at h
      · next c1 c2 c3 => exact ⟨by omega, by omega, by omega, by omega, c2⟩
    · simp at h

theorem buddy_err (a k : Int) (w : World) (e : Nat → Addr) (he : Errs3 w e) (h : lowerE a k ≠ 0) :
    Calls Tryz.prog 185 #[.agg #[.int .i64 a, .int .i64 k]] w fun ev w' => ev = .returned (.tuple #[blkV 0 0, errV (e (lowerE a k))]) ∧ Below w.heap.size w w' := by
  have H := fun o o' => hide (below_err a k ((w.alloc o).alloc o') e ((he.alloc o).alloc o') h)
  generalize lowerE a k = c at *
  clear h he
  go_enter Tryz.func185, Tryz.ntmps185
  go_wp2_with (go_at_call 199; refine (unhide (H _ _)).mono ?_; rintro e w' ⟨rfl, rfl⟩)
  exact bodyPost_ret (v := .tuple #[blkV 0 0, errV (e c)]) (by simp [results, Tryz.results185, go_sem]) rfl ⟨rfl, by repeat (first | exact Below.refl _ _ | refine Below.drew ?_ | refine Below.setCell ?_ (by simp) _ | refine Below.alloc ?_ (by simp; try omega) _)⟩

end Fr
end Go.Proofs.YtfefehkapffljaaGreatDoor
namespace Go.Proofs.YtfefehkapffljaaGreatDoor
open Go.RowKit
namespace Fr
set_option maxHeartbeats 2000000 in
theorem halves_ok (a k : Int) (w : World) (h0 : 0 ≤ a) (h1 : a < 256) (k0 : 1 ≤ k) (k6 : k ≤ 6) (ha : al a k = true) :
    Calls Tryz.prog 175 #[.agg #[.int .i64 a, .int .i64 k]] w fun e w' => e = .returned (.tuple #[blkV a (k - 1), blkV (a + pw (k - 1)) (k - 1), .nilIface]) ∧ Below w.heap.size w w' := by
  have hx := or_up a (k - 1) h0 h1 (by omega) (by omega) (by rw [show k - 1 + 1 = k from by omega]; exact ha)
  rcases orders k (by omega) (by omega) with rfl | rfl | rfl | rfl | rfl | rfl | rfl
  all_goals first | omega | skip
  all_goals
    have H := fun w => hide (anywhere_ok a _ w h0 h1 (by omega) k6 ha)
    simp only [Int.reduceSub, pw0, pw1, pw2, pw3, pw4, pw5] at hx ⊢
    clear ha k0 k6
    go_enter Tryz.func175, Tryz.ntmps175
    go_wp2_with (go_at_call 195; refine (unhide (H _)).mono ?_; rintro e w' ⟨rfl, rfl⟩)
    go_region
    go_wp2
    exact bodyPost_ret (v := .tuple #[blkV a _, blkV _ _, .nilIface]) (by simp [results, Tryz.results175, go_sem]) rfl ⟨rfl, by repeat (first | exact Below.refl _ _ | refine Below.drew ?_ | refine Below.setCell ?_ (by simp) _ | refine Below.alloc ?_ (by simp; try omega) _)⟩

theorem anywhere_err (a k : Int) (w : World) (e : Nat → Addr) (he : Errs3 w e) (h : upperE a k = 1 ∨ upperE a k = 2) :
    Calls Tryz.prog 195 #[.agg #[.int .i64 a, .int .i64 k]] w fun ev w' => ev = .returned (errV (e (upperE a k))) ∧ w' = w.alloc (blkO a k) := by
  unfold upperE at *
  by_cases c1 : a < 0 ∨ 256 ≤ a ∨ k < 0 ∨ 6 < k
  · rw [if_pos c1]; exact anywhere_bound a k w e he c1
  · rw [if_neg c1] at *
    by_cases c2 : al a k = true
    · rw [if_pos c2] at h; split at h <;> omega
    · rw [if_neg c2]; exact anywhere_shape a k w e he (by omega) (by omega) (by omega) (by omega) (by simpa using c2)

theorem halves_err (a k : Int) (w : World) (e : Nat → Addr) (he : Errs3 w e) (h : upperE a k ≠ 0) :
    Calls Tryz.prog 175 #[.agg #[.int .i64 a, .int .i64 k]] w fun ev w' => ev = .returned (.tuple #[blkV 0 0, blkV 0 0, errV (e (upperE a k))]) ∧ Below w.heap.size w w' := by
  by_cases h12 : upperE a k = 1 ∨ upperE a k = 2
  · have H := fun o o' o'' => hide (anywhere_err a k (((w.alloc o).alloc o').alloc o'') e (((he.alloc o).alloc o').alloc o'') h12)
    generalize upperE a k = c at *
    clear h he h12
    go_enter Tryz.func175, Tryz.ntmps175
    go_wp2_with (go_at_call 195; refine (unhide (H _ _ _)).mono ?_; rintro e w' ⟨rfl, rfl⟩)
    exact bodyPost_ret (v := .tuple #[blkV 0 0, blkV 0 0, errV (e c)]) (by simp [results, Tryz.results175, go_sem]) rfl ⟨rfl, by repeat (first | exact Below.refl _ _ | refine Below.drew ?_ | refine Below.setCell ?_ (by simp) _ | refine Below.alloc ?_ (by simp; try omega) _)⟩
  · unfold upperE at *
    by_cases c1 : a < 0 ∨ 256 ≤ a ∨ k < 0 ∨ 6 < k
    · rw [if_pos c1] at h12; exact absurd (Or.inl rfl) h12
    · rw [if_neg c1] at *
      by_cases c2 : al a k = true
      · rw [if_pos c2] at *
        by_cases c3 : k = 0
        · rw [if_pos c3] at *
          subst c3
          have H := fun w => hide (anywhere_ok a 0 w (by omega) (by omega) (by omega) (by omega) c2)
          have hN := fun o1 o2 o3 o4 => ((((he.alloc o1).alloc o2).alloc o3).alloc o4).none
          clear h12 he c2
          go_enter Tryz.func175, Tryz.ntmps175
          go_wp2_with (go_at_call 195; refine (unhide (H _)).mono ?_; rintro e w' ⟨rfl, rfl⟩)
          go_region
          go_wp2
          exact bodyPost_ret (v := .tuple #[blkV 0 0, blkV 0 0, errV (e 3)]) (by simp [results, Tryz.results175, go_sem]) rfl ⟨rfl, by repeat (first | exact Below.refl _ _ | refine Below.drew ?_ | refine Below.setCell ?_ (by simp) _ | refine Below.alloc ?_ (by simp; try omega) _)⟩
        · rw [if_neg c3] at h; exact absurd rfl h
      · rw [if_neg c2] at h12; exact absurd (Or.inr rfl) h12

end Fr
end Go.Proofs.YtfefehkapffljaaGreatDoor
namespace Go.Proofs.YtfefehkapffljaaGreatDoor
open Go.RowKit
namespace Fr
theorem ballo {w w' : World} (h : Below w.heap.size w w') (o : Obj) : Below w.heap.size w (w'.alloc o) := h.alloc h.size o
theorem btr {w w1 w2 : World} (h : Below w.heap.size w w1) (k : Below w1.heap.size w1 w2) : Below w.heap.size w w2 := h.trans (k.mono h.size)
/-- A block of pages lies in memory at the block number b. -/
structure Blk (w : World) (b : Nat) (a k : Int) : Prop where
  c0 : w.cell? ⟨b, 0, none⟩ = some (.int .i64 a)
  c1 : w.cell? ⟨b, 1, none⟩ = some (.int .i64 k)
  lt : b < w.heap.size
theorem bl_new (w : World) (a k : Int) : Blk (w.alloc (blkO a k)) w.heap.size a k := ⟨by simp, by simp, by simp⟩
theorem Blk.b {w w' : World} {b : Nat} {a k : Int} (h : Blk w b a k) (hb : Below w.heap.size w w') : Blk w' b a k :=
  ⟨by rw [hb.cell (p := ⟨b, 0, none⟩) h.lt]; exact h.c0, by rw [hb.cell (p := ⟨b, 1, none⟩) h.lt]; exact h.c1, Nat.lt_of_lt_of_le h.lt hb.size⟩
theorem Blk.a {w : World} {b : Nat} {a k : Int} (h : Blk w b a k) (o : Obj) : Blk (w.alloc o) b a k := h.b (ballo (Below.refl _ _) o)
theorem pw_pos (k : Int) : 0 < pw k := by unfold pw; exact Int.pow_pos (by omega)

/-- The two ways in which a block may lie in its parent. -/
theorem two_ways (a k : Int) (h0 : 0 ≤ a) (h1 : a < 256) (k0 : 0 ≤ k) (k5 : k ≤ 5) (ha : al a k = true) :
    ∃ x, 0 ≤ x ∧ x + pw k < 256 ∧ al x k = true ∧ al (x + pw k) k = true ∧ al x (k + 1) = true ∧ (a = x ∨ a = x + pw k) ∧ bud x k = x + pw k ∧ bud (x + pw k) k = x ∧ par x k = x ∧ par (x + pw k) k = x := by
  refine ⟨par a k, ?_⟩
  rw [al_iff] at *
  simp only [al_iff]
  unfold par bud
  rcases orders k k0 (by omega) with rfl | rfl | rfl | rfl | rfl | rfl | rfl
  all_goals first | omega | skip
  all_goals
    simp only [Int.reduceAdd, pw0, pw1, pw2, pw3, pw4, pw5, pw6] at *
    refine ⟨by omega, by omega, by omega, by omega, by omega, by omega, ?_, ?_, by omega, by omega⟩
    · rw [if_pos (by omega)]
    · rw [if_neg (by omega)]; omega

end Fr
end Go.Proofs.YtfefehkapffljaaGreatDoor
namespace Go.Proofs.YtfefehkapffljaaGreatDoor
open Go.RowKit
namespace Fr

theorem pw_succ (k : Int) (h : 0 ≤ k) : pw (k + 1) = 2 * pw k := by
  unfold pw
  rw [show (k + 1).toNat = k.toNat + 1 from by omega, Int.pow_succ]; omega
theorem pw_le (k : Int) (h0 : 0 ≤ k) (h : k ≤ 5) : pw k ≤ 32 := by
  rcases orders k h0 (by omega) with rfl | rfl | rfl | rfl | rfl | rfl | rfl <;> first | omega | decide
theorem pw_le6 (k : Int) (h0 : 0 ≤ k) (h : k ≤ 6) : pw k ≤ 64 := by
  rcases orders k h0 (by omega) with rfl | rfl | rfl | rfl | rfl | rfl | rfl <;> decide

theorem rIsOrder_yes (k : Int) (w : World) (h0 : 0 ≤ k) (h1 : k ≤ 6) : Calls Tryz.prog 80 #[.int .i64 k] w fun ev w' => ev = .returned (.bool true) ∧ w' = w := by
  go_enter Tryz.func80, Tryz.ntmps80
  go_wp2
  go_ret
  exact ⟨rfl, rfl⟩
theorem rIsOrder_no (k : Int) (w : World) (h : k < 0 ∨ 6 < k) : Calls Tryz.prog 80 #[.int .i64 k] w fun ev w' => ev = .returned (.bool false) ∧ w' = w := by
  by_cases c : k < 0
  · have c1 : decide (0 ≤ k) = false := by simp; omega
    clear h
    go_enter Tryz.func80, Tryz.ntmps80
    go_wp2
    go_ret
    exact ⟨rfl, rfl⟩
  · have c1 : 0 ≤ k := by omega
    have c2 : decide (k ≤ 6) = false := by simp; omega
    clear h c
    go_enter Tryz.func80, Tryz.ntmps80
    go_wp2
    go_ret
    exact ⟨rfl, rfl⟩

theorem pages_ok (k : Int) (w : World) (h0 : 0 ≤ k) (h1 : k ≤ 6) : Calls Tryz.prog 136 #[.int .i64 k] w fun ev w' => ev = .returned (.int .i64 (pw k)) ∧ w' = w := by
  obtain ⟨n, rfl⟩ := Int.eq_ofNat_of_zero_le h0
  go_enter Tryz.func136, Tryz.ntmps136
  go_wp2
  go_loop [3, 4] (fun p i => ∃ j : Nat, j ≤ n ∧ i = .int .i64 j ∧ p = .int .i64 (pw j)) (fun _ i => n - (intOf i).toNat)
  case atStart => exact ⟨0, Nat.zero_le _, rfl, rfl⟩
  case round =>
    obtain ⟨j, hj, rfl, rfl⟩ := hrel
    have hs := hide (pw_succ j (by omega))
    have hp := pw_pos j
    by_cases hlt : j < n
    · have hle := pw_le j (by omega) (by omega)
      go_wp2
      go_round
      case rel => exact ⟨j + 1, by omega, by go_num, by rw [show (((j + 1 : Nat) : Int)) = (j : Int) + 1 from by omega, unhide hs]⟩
      case measure => simp [intOf]; omega
    · obtain rfl : j = n := by omega
      go_wp2
      go_ret
      exact ⟨rfl, rfl⟩

end Fr
end Go.Proofs.YtfefehkapffljaaGreatDoor
