/- FramesTwice: its walk, over the contracts. -/
import Derived.Test.YtdmeoooimnfmaaaDoorFrames4
import Derived.BigQuiet
import Derived.Deep.QuietTactic
namespace Go.Proofs.YtdmeoooimnfmaaaDoor
open Go.RowKit
namespace Fr
theorem ballo {w w' : World} (h : Below w.heap.size w w') (o : Obj) : Below w.heap.size w (w'.alloc o) := h.alloc h.size o
theorem btr {w w1 w2 : World} (h : Below w.heap.size w w1) (k : Below w1.heap.size w1 w2) : Below w.heap.size w w2 := h.trans (k.mono h.size)
/-- A block of pages lies in memory at the block number b. -/
structure Blk (w : World) (b : Nat) (a k : Int) : Prop where
  c0 : w.cell? ⟨b, 0, none⟩ = some (.int .i64 a)
  c1 : w.cell? ⟨b, 1, none⟩ = some (.int .i64 k)
  lt : b < w.heap.size
theorem bl_new (w : World) (a k : Int) : Blk (w.alloc (blkO a k)) w.heap.size a k := ⟨by simp, by simp, by simp⟩
theorem Blk.b {w w' : World} {b : Nat} {a k : Int} (h : Blk w b a k) (hb : Below w.heap.size w w') : Blk w' b a k :=
  ⟨by rw [hb.cell (p := ⟨b, 0, none⟩) h.lt]; exact h.c0, by rw [hb.cell (p := ⟨b, 1, none⟩) h.lt]; exact h.c1, Nat.lt_of_lt_of_le h.lt hb.size⟩
theorem Blk.a {w : World} {b : Nat} {a k : Int} (h : Blk w b a k) (o : Obj) : Blk (w.alloc o) b a k := h.b (ballo (Below.refl _ _) o)
theorem pw_pos (k : Int) : 0 < pw k := by unfold pw; exact Int.pow_pos (by omega)

/-- The two ways in which a block may lie in its parent. -/
theorem two_ways (a k : Int) (h0 : 0 ≤ a) (h1 : a < 256) (k0 : 0 ≤ k) (k5 : k ≤ 5) (ha : al a k = true) :
    ∃ x, 0 ≤ x ∧ x + pw k < 256 ∧ al x k = true ∧ al (x + pw k) k = true ∧ al x (k + 1) = true ∧ (a = x ∨ a = x + pw k) ∧ bud x k = x + pw k ∧ bud (x + pw k) k = x ∧ par x k = x ∧ par (x + pw k) k = x := by
  refine ⟨par a k, ?_⟩
  rw [al_iff] at *
  simp only [al_iff]
  unfold par bud
  rcases orders k k0 (by omega) with rfl | rfl | rfl | rfl | rfl | rfl | rfl
  all_goals first | omega | skip
  all_goals
    simp only [Int.reduceAdd, pw0, pw1, pw2, pw3, pw4, pw5, pw6] at *
    refine ⟨by omega, by omega, by omega, by omega, by omega, by omega, ?_, ?_, by omega, by omega⟩
    · rw [if_pos (by omega)]
    · rw [if_neg (by omega)]; omega

set_option maxHeartbeats 1000000 in
theorem twice_err (a k : Int) (w : World) (e : Nat → Addr) (he : Errs3 w e) (h : lowerE a k ≠ 0) :
    Calls Tryd.prog 6 #[.agg #[.int .i64 a, .int .i64 k]] w fun ev w' => ev = .returned (.bool true) ∧ Below w.heap.size w w' := by
  have H := fun w1 o (hb : Below (w.alloc o).heap.size (w.alloc o) w1) => hide (buddy_err a k w1 e ((he.alloc o).below hb) h)
  generalize lowerE a k = c at *
  clear h he
  go_enter Tryd.func6, Tryd.ntmps6
  go_wp2_with fail
  refine (halved_true _).mono ?_
  rintro ev w1 ⟨rfl, hb⟩
  obtain ⟨hc, hf⟩ := bcell hb
  have hz := hb.size
  simp at hz
  go_wp2_with fail
  refine (unhide (H _ _ hb)).mono ?_
  rintro ev w2 ⟨rfl, hb2⟩
  have hz2 := hb2.size
  go_wp2_with fail
  go_ret
  exact ⟨rfl, by
    have hb3 : Below w.heap.size w w2 := (((Below.refl _ _).alloc (Nat.le_refl _) _).trans (hb.mono (by simp))).trans (hb2.mono (by omega))
    exact ballo hb3 _⟩

set_option maxHeartbeats 2000000 in
theorem twice_low (x k : Int) (w : World) (h0 : 0 ≤ x) (h1 : x + pw k < 256) (k0 : 0 ≤ k) (k5 : k ≤ 5) (hal : al x k = true) (hal2 : al (x + pw k) k = true) (hal3 : al x (k + 1) = true) (hb1 : bud x k = x + pw k) (hb2 : bud (x + pw k) k = x) (hp1 : par x k = x) (hp2 : par (x + pw k) k = x) :
    Calls Tryd.prog 6 #[.agg #[.int .i64 x, .int .i64 k]] w fun ev w' => ev = .returned (.bool true) ∧ Below w.heap.size w w' := by
  have hd := pw_pos k
  have B1 := fun w => hide (buddy_ok x k w h0 (by omega) k0 k5 hal)
  have B2 := fun w => hide (buddy_ok (x + pw k) k w (by omega) h1 k0 k5 hal2)
  have P1 := fun w => hide (parent_ok x k w h0 (by omega) k0 k5 hal)
  have P2 := fun w => hide (parent_ok (x + pw k) k w (by omega) h1 k0 k5 hal2)
  have V1 := fun w => hide (halves_ok x (k + 1) w h0 (by omega) (by omega) (by omega) hal3)
  rw [hb1] at B1; rw [hb2] at B2; rw [hp1] at P1; rw [hp2] at P2; rw [show k + 1 - 1 = k from by omega] at V1
  generalize pw k = d at *
  clear hal hal2 hal3 hb1 hb2 hp1 hp2
  go_enter Tryd.func6, Tryd.ntmps6
  go_wp2_with fail
  refine (halved_true _).mono ?_
  rintro ev w1 ⟨rfl, c1⟩
  have t1 := (bl_new w x k).b c1
  have u0 := t1.c0
  have u1 := t1.c1
  go_wp2_with fail
  refine (unhide (B1 _)).mono ?_
  rintro ev w2 ⟨rfl, c2⟩
  clear u0 u1
  go_wp2_with fail
  refine (unhide (B2 _)).mono ?_
  rintro ev w3 ⟨rfl, c3⟩
  replace t1 := ((t1.b c2).a (blkO (x + d) k)).b c3
  have t4 := (bl_new w2 (x + d) k).b c3
  have u0 := fun o => (t1.a o).c0
  have u1 := fun o => (t1.a o).c1
  go_wp2_with fail
  refine (unhide (P1 _)).mono ?_
  rintro ev w4 ⟨rfl, c4⟩
  replace t1 := (t1.a (blkO x k)).b c4
  replace t4 := (t4.a (blkO x k)).b c4
  have t6 := (bl_new w3 x k).b c4
  clear u0 u1
  have u0 := fun o => (t4.a o).c0
  have u1 := fun o => (t4.a o).c1
  go_wp2_with fail
  refine (unhide (P2 _)).mono ?_
  rintro ev w5 ⟨rfl, c5⟩
  replace t1 := (t1.a (blkO x (k + 1))).b c5
  replace t4 := (t4.a (blkO x (k + 1))).b c5
  replace t6 := (t6.a (blkO x (k + 1))).b c5
  have t8 := (bl_new w4 x (k + 1)).b c5
  clear u0 u1
  have u0 := fun o => (t8.a o).c0
  have u1 := fun o => (t8.a o).c1
  go_wp2_with fail
  refine (unhide (V1 _)).mono ?_
  rintro ev w6 ⟨rfl, c6⟩
  replace t1 := (t1.a (blkO x (k + 1))).b c6
  replace t4 := (t4.a (blkO x (k + 1))).b c6
  replace t6 := (t6.a (blkO x (k + 1))).b c6
  replace t8 := (t8.a (blkO x (k + 1))).b c6
  have t10 := (bl_new w5 x (k + 1)).b c6
  clear u0 u1
  have u0 := fun o o' => ((t1.a o).a o').c0
  have u1 := fun o o' => ((t1.a o).a o').c1
  have u2 := fun o o' => ((t4.a o).a o').c0
  have u3 := fun o o' => ((t4.a o).a o').c1
  have u4 := fun o o' => ((t6.a o).a o').c0
  have u5 := fun o o' => ((t6.a o).a o').c1
  have u6 := fun o o' => ((t8.a o).a o').c0
  have u7 := fun o o' => ((t8.a o).a o').c1
  have u8 := fun o o' => ((t10.a o).a o').c0
  have u9 := fun o o' => ((t10.a o).a o').c1
  have fin : Below w.heap.size w w6 := btr (ballo (btr (ballo (btr (ballo (btr (ballo (btr (btr (ballo (Below.refl _ _) _) c1) c2) _) c3) _) c4) _) c5) _) c6
  clear t1 t4 t6 t8 t10 c1 c2 c3 c4 c5 c6
  go_wp2_with fail
  go_ret
  exact ⟨rfl, ballo (ballo fin _) _⟩
set_option maxHeartbeats 2000000 in
theorem twice_high (x k : Int) (w : World) (h0 : 0 ≤ x) (h1 : x + pw k < 256) (k0 : 0 ≤ k) (k5 : k ≤ 5) (hal : al x k = true) (hal2 : al (x + pw k) k = true) (hal3 : al x (k + 1) = true) (hb1 : bud x k = x + pw k) (hb2 : bud (x + pw k) k = x) (hp1 : par x k = x) (hp2 : par (x + pw k) k = x) :
    Calls Tryd.prog 6 #[.agg #[.int .i64 (x + pw k), .int .i64 k]] w fun ev w' => ev = .returned (.bool true) ∧ Below w.heap.size w w' := by
  have hd := pw_pos k
  have B1 := fun w => hide (buddy_ok x k w h0 (by omega) k0 k5 hal)
  have B2 := fun w => hide (buddy_ok (x + pw k) k w (by omega) h1 k0 k5 hal2)
  have P1 := fun w => hide (parent_ok x k w h0 (by omega) k0 k5 hal)
  have P2 := fun w => hide (parent_ok (x + pw k) k w (by omega) h1 k0 k5 hal2)
  have V1 := fun w => hide (halves_ok x (k + 1) w h0 (by omega) (by omega) (by omega) hal3)
  rw [hb1] at B1; rw [hb2] at B2; rw [hp1] at P1; rw [hp2] at P2; rw [show k + 1 - 1 = k from by omega] at V1
  generalize pw k = d at *
  have hne : (x == x + d) = false := by simp; omega
  clear hal hal2 hal3 hb1 hb2 hp1 hp2
  go_enter Tryd.func6, Tryd.ntmps6
  go_wp2_with fail
  refine (halved_true _).mono ?_
  rintro ev w1 ⟨rfl, c1⟩
  have t1 := (bl_new w (x + d) k).b c1
  have u0 := t1.c0
  have u1 := t1.c1
  go_wp2_with fail
  refine (unhide (B2 _)).mono ?_
  rintro ev w2 ⟨rfl, c2⟩
  clear u0 u1
  go_wp2_with fail
  refine (unhide (B1 _)).mono ?_
  rintro ev w3 ⟨rfl, c3⟩
  replace t1 := ((t1.b c2).a (blkO x k)).b c3
  have t4 := (bl_new w2 x k).b c3
  have u0 := fun o => (t1.a o).c0
  have u1 := fun o => (t1.a o).c1
  go_wp2_with fail
  refine (unhide (P2 _)).mono ?_
  rintro ev w4 ⟨rfl, c4⟩
  replace t1 := (t1.a (blkO (x + d) k)).b c4
  replace t4 := (t4.a (blkO (x + d) k)).b c4
  have t6 := (bl_new w3 (x + d) k).b c4
  clear u0 u1
  have u0 := fun o => (t4.a o).c0
  have u1 := fun o => (t4.a o).c1
  go_wp2_with fail
  refine (unhide (P1 _)).mono ?_
  rintro ev w5 ⟨rfl, c5⟩
  replace t1 := (t1.a (blkO x (k + 1))).b c5
  replace t4 := (t4.a (blkO x (k + 1))).b c5
  replace t6 := (t6.a (blkO x (k + 1))).b c5
  have t8 := (bl_new w4 x (k + 1)).b c5
  clear u0 u1
  have u0 := fun o => (t8.a o).c0
  have u1 := fun o => (t8.a o).c1
  go_wp2_with fail
  refine (unhide (V1 _)).mono ?_
  rintro ev w6 ⟨rfl, c6⟩
  replace t1 := (t1.a (blkO x (k + 1))).b c6
  replace t4 := (t4.a (blkO x (k + 1))).b c6
  replace t6 := (t6.a (blkO x (k + 1))).b c6
  replace t8 := (t8.a (blkO x (k + 1))).b c6
  have t10 := (bl_new w5 x (k + 1)).b c6
  clear u0 u1
  have u0 := fun o o' => ((t1.a o).a o').c0
  have u1 := fun o o' => ((t1.a o).a o').c1
  have u2 := fun o o' => ((t4.a o).a o').c0
  have u3 := fun o o' => ((t4.a o).a o').c1
  have u4 := fun o o' => ((t6.a o).a o').c0
  have u5 := fun o o' => ((t6.a o).a o').c1
  have u6 := fun o o' => ((t8.a o).a o').c0
  have u7 := fun o o' => ((t8.a o).a o').c1
  have u8 := fun o o' => ((t10.a o).a o').c0
  have u9 := fun o o' => ((t10.a o).a o').c1
  have fin : Below w.heap.size w w6 := btr (ballo (btr (ballo (btr (ballo (btr (ballo (btr (btr (ballo (Below.refl _ _) _) c1) c2) _) c3) _) c4) _) c5) _) c6
  clear t1 t4 t6 t8 t10 c1 c2 c3 c4 c5 c6
  go_wp2_with fail
  go_ret
  exact ⟨rfl, ballo (ballo fin _) _⟩

theorem twice_any (a k : Int) (w : World) (e : Nat → Addr) (he : Errs3 w e) :
    Calls Tryd.prog 6 #[.agg #[.int .i64 a, .int .i64 k]] w fun ev w' => ev = .returned (.bool true) ∧ Below w.heap.size w w' := by
  by_cases h : lowerE a k = 0
  · obtain ⟨h0, h1, k0, k5, ha⟩ := lowerE_ok h
    obtain ⟨x, q1, q2, q3, q4, q5, q6 | q6, q7, q8, q9, q10⟩ := two_ways a k h0 h1 k0 k5 ha
    · subst q6; exact twice_low a k w q1 q2 k0 k5 q3 q4 q5 q7 q8 q9 q10
    · subst q6; exact twice_high x k w q1 q2 k0 k5 q3 q4 q5 q7 q8 q9 q10
  · exact twice_err a k w e he h
end Fr
end Go.Proofs.YtdmeoooimnfmaaaDoor
