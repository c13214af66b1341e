/- Num · Frames · Frames2 · Frames3 · Frames4 · Twice · Sizes. -/
import Derived.Laws.BitsAllLaws
import Derived.Below
import Derived.Test.YtfefehkapffljaaGreatDoorChecked
import Derived.WalkKit
import Derived.WalkLawsBesides
import Derived.Outline
import Derived.RegionTactic
import Derived.BigQuiet
import Derived.Deep.QuietTactic
namespace Go.Proofs.YtfefehkapffljaaGreatDoor
open Go.RowKit
namespace Fr
def pw (k : Int) : Int := 2 ^ k.toNat
def al (a k : Int) : Bool := a / pw k * pw k == a
def bud (a k : Int) : Int := if a / pw k % 2 = 0 then a + pw k else a - pw k
def par (a k : Int) : Int := a / pw (k + 1) * pw (k + 1)
theorem orders (k : Int) (h0 : 0 ≤ k) (h6 : k ≤ 6) : k = 0 ∨ k = 1 ∨ k = 2 ∨ k = 3 ∨ k = 4 ∨ k = 5 ∨ k = 6 := by omega
theorem pw0 : pw 0 = 1 := by decide
theorem pw1 : pw 1 = 2 := by decide
theorem pw2 : pw 2 = 4 := by decide
theorem pw3 : pw 3 = 8 := by decide
theorem pw4 : pw 4 = 16 := by decide
theorem pw5 : pw 5 = 32 := by decide
theorem pw6 : pw 6 = 64 := by decide
theorem al_iff (a k : Int) : al a k = true ↔ a / pw k * pw k = a := by simp [al]
theorem or_all : ∀ n : Fin 256, ∀ k : Fin 7, bits .or .i64 ((n.val : Nat) : Int) ((2 ^ k.val : Nat) : Int) = if ((n.val / 2 ^ k.val) % 2 = 0) then ((n.val + 2 ^ k.val : Nat) : Int) else ((n.val : Nat) : Int) := by decide +kernel
theorem or_up (a k : Int) (h0 : 0 ≤ a) (h1 : a < 256) (k0 : 0 ≤ k) (k6 : k ≤ 5) (ha : al a (k + 1) = true) : bits .or .i64 a (pw k) = a + pw k := by
 rw [al_iff] at ha
 obtain ⟨n, rfl⟩ := Int.eq_ofNat_of_zero_le h0
 have h := or_all ⟨n, by omega⟩ ⟨k.toNat, by omega⟩
 simp only at h
 have e : ((2 ^ k.toNat : Nat) : Int) = pw k := by simp [pw]
 rw [e] at h
 rw [h]
 have hz : n / 2 ^ k.toNat % 2 = 0 := by
   rcases orders k k0 (by omega) with rfl | rfl | rfl | rfl | rfl | rfl | rfl <;> simp [pw] at ha ⊢ <;> omega
 rw [if_pos hz, ← e]; omega
end Fr
end Go.Proofs.YtfefehkapffljaaGreatDoor
namespace Go.Proofs.YtfefehkapffljaaGreatDoor
open Go.RowKit
theorem cell_lt {w : World} {a : Addr} {v : Value} (h : w.cell? a = some v) : a.block < w.heap.size := by
 rcases Nat.lt_or_ge a.block w.heap.size with h' | h'
 · exact h'
 · simp [World.cell?, Array.getElem?_eq_none h'] at h
theorem keep {w w' : World} {a : Addr} {v : Value} (h : w.cell? a = some v) (hb : Below w.heap.size w w') : w'.cell? a = some v := by
 rw [hb.cell (cell_lt h)]; exact h
structure Errs3 (w : World) (e : Nat → Addr) : Prop where
 bound : w.cell? ⟨1, 0, none⟩ = some (.iface 304 (.pointer (some (e 1))))
 shape : w.cell? ⟨0, 0, none⟩ = some (.iface 304 (.pointer (some (e 2))))
 none : w.cell? ⟨7, 0, none⟩ = some (.iface 304 (.pointer (some (e 3))))
theorem Errs3.below {w w' : World} {e : Nat → Addr} (h : Errs3 w e) (hb : Below w.heap.size w w') : Errs3 w' e := ⟨keep h.bound hb, keep h.shape hb, keep h.none hb⟩
namespace Fr
theorem anywhere_ok (a k : Int) (w : World) (h0 : 0 ≤ a) (h1 : a < 256) (k0 : 0 ≤ k) (k6 : k ≤ 6) (ha : al a k = true) :
   Calls Tryz.prog 195 #[.agg #[.int .i64 a, .int .i64 k]] w fun e w' => e = .returned .nilIface ∧ w' = w.alloc (.cells #[.int .i64 a, .int .i64 k] 71) := by
 unfold al at ha
 rcases orders k k0 k6 with rfl | rfl | rfl | rfl | rfl | rfl | rfl
 all_goals
   simp only [pw0, pw1, pw2, pw3, pw4, pw5, pw6] at ha
   go_enter Tryz.func195, Tryz.ntmps195
   go_wp2
   go_ret
   exact ⟨rfl, rfl⟩
end Fr
end Go.Proofs.YtfefehkapffljaaGreatDoor
namespace Go.Proofs.YtfefehkapffljaaGreatDoor
open Go.RowKit
theorem hide {p : Prop} (h : p) : Hid p := h
theorem unhide {p : Prop} (h : Hid p) : p := h
namespace Fr
abbrev blkO (a k : Int) : Obj := .cells #[.int .i64 a, .int .i64 k] 71
abbrev blkV (a k : Int) : Value := .agg #[.int .i64 a, .int .i64 k]
abbrev errV (p : Addr) : Value := .iface 304 (.pointer (some p))
end Fr
end Go.Proofs.YtfefehkapffljaaGreatDoor
namespace Go.Proofs.YtfefehkapffljaaGreatDoor
open Go.RowKit
namespace Fr
end Fr
end Go.Proofs.YtfefehkapffljaaGreatDoor
namespace Go.Proofs.YtfefehkapffljaaGreatDoor
open Go.RowKit
namespace Fr
set_option maxHeartbeats 2000000 in
theorem halves_ok (a k : Int) (w : World) (h0 : 0 ≤ a) (h1 : a < 256) (k0 : 1 ≤ k) (k6 : k ≤ 6) (ha : al a k = true) :
   Calls Tryz.prog 175 #[.agg #[.int .i64 a, .int .i64 k]] w fun e w' => e = .returned (.tuple #[blkV a (k - 1), blkV (a + pw (k - 1)) (k - 1), .nilIface]) ∧ Below w.heap.size w w' := by
 have hx := or_up a (k - 1) h0 h1 (by omega) (by omega) (by rw [show k - 1 + 1 = k from by omega]; exact ha)
 rcases orders k (by omega) (by omega) with rfl | rfl | rfl | rfl | rfl | rfl | rfl
 all_goals first | omega | skip
 all_goals
   have H := fun w => hide (anywhere_ok a _ w h0 h1 (by omega) k6 ha)
   simp only [Int.reduceSub, pw0, pw1, pw2, pw3, pw4, pw5] at hx ⊢
   clear ha k0 k6
   go_enter Tryz.func175, Tryz.ntmps175
   go_wp2_with (go_at_call 195; refine (unhide (H _)).mono ?_; rintro e w' ⟨rfl, rfl⟩)
   go_region
   go_wp2
   exact bodyPost_ret (v := .tuple #[blkV a _, blkV _ _, .nilIface]) (by simp [results, Tryz.results175, go_sem]) rfl ⟨rfl, by repeat (first | exact Below.refl _ _ | refine Below.drew ?_ | refine Below.setCell ?_ (by simp) _ | refine Below.alloc ?_ (by simp; try omega) _)⟩
end Fr
end Go.Proofs.YtfefehkapffljaaGreatDoor
namespace Go.Proofs.YtfefehkapffljaaGreatDoor
open Go.RowKit
namespace Fr
theorem ballo {w w' : World} (h : Below w.heap.size w w') (o : Obj) : Below w.heap.size w (w'.alloc o) := h.alloc h.size o
theorem btr {w w1 w2 : World} (h : Below w.heap.size w w1) (k : Below w1.heap.size w1 w2) : Below w.heap.size w w2 := h.trans (k.mono h.size)
structure Blk (w : World) (b : Nat) (a k : Int) : Prop where
 c0 : w.cell? ⟨b, 0, none⟩ = some (.int .i64 a)
 c1 : w.cell? ⟨b, 1, none⟩ = some (.int .i64 k)
 lt : b < w.heap.size
theorem bl_new (w : World) (a k : Int) : Blk (w.alloc (blkO a k)) w.heap.size a k := ⟨by simp, by simp, by simp⟩
theorem Blk.b {w w' : World} {b : Nat} {a k : Int} (h : Blk w b a k) (hb : Below w.heap.size w w') : Blk w' b a k :=
 ⟨by rw [hb.cell (p := ⟨b, 0, none⟩) h.lt]; exact h.c0, by rw [hb.cell (p := ⟨b, 1, none⟩) h.lt]; exact h.c1, Nat.lt_of_lt_of_le h.lt hb.size⟩
theorem Blk.a {w : World} {b : Nat} {a k : Int} (h : Blk w b a k) (o : Obj) : Blk (w.alloc o) b a k := h.b (ballo (Below.refl _ _) o)
theorem pw_pos (k : Int) : 0 < pw k := by unfold pw; exact Int.pow_pos (by omega)
end Fr
end Go.Proofs.YtfefehkapffljaaGreatDoor
namespace Go.Proofs.YtfefehkapffljaaGreatDoor
open Go.RowKit
namespace Fr
theorem pw_succ (k : Int) (h : 0 ≤ k) : pw (k + 1) = 2 * pw k := by
 unfold pw
 rw [show (k + 1).toNat = k.toNat + 1 from by omega, Int.pow_succ]; omega
theorem pw_le (k : Int) (h0 : 0 ≤ k) (h : k ≤ 5) : pw k ≤ 32 := by
 rcases orders k h0 (by omega) with rfl | rfl | rfl | rfl | rfl | rfl | rfl <;> first | omega | decide
theorem pw_le6 (k : Int) (h0 : 0 ≤ k) (h : k ≤ 6) : pw k ≤ 64 := by
 rcases orders k h0 (by omega) with rfl | rfl | rfl | rfl | rfl | rfl | rfl <;> decide
theorem rIsOrder_yes (k : Int) (w : World) (h0 : 0 ≤ k) (h1 : k ≤ 6) : Calls Tryz.prog 80 #[.int .i64 k] w fun ev w' => ev = .returned (.bool true) ∧ w' = w := by
 go_enter Tryz.func80, Tryz.ntmps80
 go_wp2
 go_ret
 exact ⟨rfl, rfl⟩
theorem pages_ok (k : Int) (w : World) (h0 : 0 ≤ k) (h1 : k ≤ 6) : Calls Tryz.prog 136 #[.int .i64 k] w fun ev w' => ev = .returned (.int .i64 (pw k)) ∧ w' = w := by
 obtain ⟨n, rfl⟩ := Int.eq_ofNat_of_zero_le h0
 go_enter Tryz.func136, Tryz.ntmps136
 go_wp2
 go_loop [3, 4] (fun p i => ∃ j : Nat, j ≤ n ∧ i = .int .i64 j ∧ p = .int .i64 (pw j)) (fun _ i => n - (intOf i).toNat)
 case atStart => exact ⟨0, Nat.zero_le _, rfl, rfl⟩
 case round =>
   obtain ⟨j, hj, rfl, rfl⟩ := hrel
   have hs := hide (pw_succ j (by omega))
   have hp := pw_pos j
   by_cases hlt : j < n
   · have hle := pw_le j (by omega) (by omega)
     go_wp2
     go_round
     case rel => exact ⟨j + 1, by omega, by go_num, by rw [show (((j + 1 : Nat) : Int)) = (j : Int) + 1 from by omega, unhide hs]⟩
     case measure => simp [intOf]; omega
   · obtain rfl : j = n := by omega
     go_wp2
     go_ret
     exact ⟨rfl, rfl⟩
end Fr
end Go.Proofs.YtfefehkapffljaaGreatDoor
