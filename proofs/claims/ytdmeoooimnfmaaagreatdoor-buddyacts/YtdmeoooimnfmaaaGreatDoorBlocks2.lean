/- The contracts of the document's answer's own BlockError, AloneError, ParentOf, BuddyOf. -/
import Derived.Test.YtdmeoooimnfmaaaGreatDoorBlocks
import Derived.Deep.RegionHeld3
namespace Go.Proofs.YtdmeoooimnfmaaaGreatDoor
open Go.RowKit
namespace Fr

theorem al_rem (a k : Int) : (a % pw k != 0) = !al a k := by
  have h := pw_pos k
  unfold al
  generalize pw k = d at *
  have := Int.mul_ediv_add_emod a d
  have e : a / d * d = d * (a / d) := Int.mul_comm _ _
  rw [e]
  by_cases h0 : a % d = 0
  · rw [show d * (a / d) = a from by omega]; simp [h0]
  · have h1 : ¬ d * (a / d) = a := by omega
    have e1 : (a % d != 0) = true := by simpa using h0
    have e2 : (d * (a / d) == a) = false := by simpa using h1
    rw [e1, e2]; rfl

/-- The number that BlockError answers. -/
def blockN (a k p : Int) : Int := if p < 1 ∨ 256 < p ∨ k < 0 ∨ 6 < k then 2 else if a < 0 ∨ p - pw k < a then 2 else if al a k = true then 0 else 3
def aloneN (a k : Int) : Int := if a < 0 ∨ 256 ≤ a ∨ k < 0 ∨ 6 < k then 2 else if al a k = true then 0 else 3

theorem par_facts (a k : Int) (h0 : 0 ≤ a) (h1 : a < 256) (k0 : 0 ≤ k) (k5 : k ≤ 5) : 0 ≤ a / pw (k + 1) * pw (k + 1) ∧ a / pw (k + 1) * pw (k + 1) ≤ 256 := by
  rcases orders k k0 (by omega) with rfl | rfl | rfl | rfl | rfl | rfl | rfl
  all_goals first | omega | (simp only [Int.reduceAdd, pw1, pw2, pw3, pw4, pw5, pw6]; omega)

theorem rparent_ok (a k : Int) (w : World) (h0 : 0 ≤ a) (h1 : a < 256) (k0 : 0 ≤ k) (k5 : k ≤ 5) :
    Calls Tryz.prog 31 #[.agg #[.int .i64 a, .int .i64 k]] w fun ev w' => ev = .returned (blkV (par a k) (k + 1)) ∧ Below w.heap.size w w' := by
  have hf := par_facts a k h0 h1 k0 k5
  have hx : par a k = a / pw (k + 1) * pw (k + 1) := rfl
  have hd := pw_pos (k + 1)
  have H := fun w => hide (pages_ok (k + 1) w (by omega) (by omega))
  generalize pw (k + 1) = d at *
  generalize hy : a / d * d = y at *
  have HX := hide hx
  have HY := hide hy
  clear hx hy
  have hy2 := unhide HY
  go_enter Tryz.func31, Tryz.ntmps31
  go_wp2_with (go_at_call 40; refine (unhide (H _)).mono ?_; rintro ev w' ⟨rfl, rfl⟩)
  go_region
  go_wp2_with fail
  exact bodyPost_ret (v := blkV (par a k) (k + 1)) (by simp [results, Tryz.results31, go_sem, unhide HX]) rfl ⟨rfl, by repeat (first | exact Below.refl _ _ | refine Below.drew ?_ | refine ballo ?_ _ | refine Below.setCell ?_ (by simp) _)⟩

theorem bud_par (a k : Int) (_h0 : 0 ≤ a) (_h1 : a < 256) (k0 : 0 ≤ k) (k5 : k ≤ 5) (ha : al a k = true) : bud a k = if par a k = a then a + pw k else par a k := by
  rw [al_iff] at ha
  unfold bud par
  rcases orders k k0 (by omega) with rfl | rfl | rfl | rfl | rfl | rfl | rfl
  all_goals first | omega | skip
  all_goals
    simp only [Int.reduceAdd, pw0, pw1, pw2, pw3, pw4, pw5, pw6] at *
    split <;> split <;> omega

theorem wrap_id (x : Int) (h0 : 0 ≤ x) (h1 : x ≤ 1000000) : IntKind.i64.wrap x = x := by rw [IntKind.wrap_i64]; omega

set_option maxHeartbeats 1000000 in
theorem rbuddy_ok (a k : Int) (w : World) (h0 : 0 ≤ a) (h1 : a < 256) (k0 : 0 ≤ k) (k5 : k ≤ 5) (ha : al a k = true) :
    Calls Tryz.prog 27 #[.agg #[.int .i64 a, .int .i64 k]] w fun ev w' => ev = .returned (blkV (bud a k) k) ∧ Below w.heap.size w w' := by
  have hbp := bud_par a k h0 h1 k0 k5 ha
  have H := fun w => hide (pages_ok k w k0 (by omega))
  have HP := fun w => hide (rparent_ok a k w h0 h1 k0 k5)
  have hd := pw_pos k
  have hd2 := pw_le k k0 k5
  generalize par a k = q at *
  generalize pw k = d at *
  by_cases c : q = a
  · rw [if_pos c] at hbp
    subst c
    rw [hbp]
    clear hbp ha
    have hwr := wrap_id (q + d) (by omega) (by omega)
    go_enter Tryz.func27, Tryz.ntmps27
    go_wp2_with fail
    refine (unhide (HP _)).mono ?_
    rintro ev w1 ⟨rfl, b1⟩
    have t1 := (((bl_new w q k).a (blkO 0 0)).b b1).a (blkO q (k + 1))
    have r1 : Blk w1 (w.heap.size + 1) 0 0 := by simpa using (bl_new (w.alloc (blkO q k)) 0 0).b b1
    have z1 : ∀ j, (w1.alloc (blkO q (k + 1))).frozen? ⟨w.heap.size + 1, j, none⟩ = false := fun j => by
      rw [World.frozen?_alloc_old w1 _ ⟨w.heap.size + 1, j, none⟩ (by have := r1.lt; simp; omega), b1.frozen (p := ⟨w.heap.size + 1, j, none⟩) (by simp)]
      simp
    have y2 := (r1.a (blkO q (k + 1))).c0
    have y3 := (r1.a (blkO q (k + 1))).c1
    have fW : Below w.heap.size w (w1.alloc (blkO q (k + 1))) := ballo (btr (ballo (ballo (Below.refl _ _) _) _) b1) _
    have s1 := r1.lt
    have u0 := fun o => ((((bl_new w q k).a (blkO 0 0)).b b1).a o).c0
    have u1 := fun o => ((((bl_new w q k).a (blkO 0 0)).b b1).a o).c1
    clear r1 b1
    go_wp2_with fail
    have y0 := t1.c0
    have y1 := t1.c1
    have y4 := z1 0
    have y5 := z1 1
    clear u0 u1 z1 t1
    generalize w1.alloc (blkO q (k + 1)) = W at *
    go_region_held3 (fun w' => w'.cell? ⟨w.heap.size, 0, none⟩ = some (.int .i64 q) ∧ w'.cell? ⟨w.heap.size, 1, none⟩ = some (.int .i64 k)) (go_keep) ((go_at_call 40; refine (unhide (H _)).mono ?_; rintro ev w' ⟨rfl, rfl⟩))
    go_wp2_with fail
    exact bodyPost_ret (v := blkV (q + d) k) (by simp [results, Tryz.results27, go_sem, y2, y3]) rfl ⟨rfl, ((fW.setCell (by simp) _).setCell (by simp) _).drew⟩
  · rw [if_neg c] at hbp
    rw [hbp]
    have hne : (q == a) = false := by simpa using c
    clear hbp ha c
    go_enter Tryz.func27, Tryz.ntmps27
    go_wp2_with fail
    refine (unhide (HP _)).mono ?_
    rintro ev w1 ⟨rfl, b1⟩
    have t1 := (((bl_new w a k).a (blkO 0 0)).b b1)
    have r1 : Blk w1 (w.heap.size + 1) 0 0 := by simpa using (bl_new (w.alloc (blkO a k)) 0 0).b b1
    have z1 : ∀ j, w1.frozen? ⟨w.heap.size + 1, j, none⟩ = false := fun j => by
      rw [b1.frozen (p := ⟨w.heap.size + 1, j, none⟩) (by simp)]
      simp
    have y0 := r1.c0
    have y1 := r1.c1
    have fW : Below w.heap.size w w1 := btr (ballo (ballo (Below.refl _ _) _) _) b1
    have s1 := r1.lt
    have u0 := fun o => (t1.a o).c0
    have u1 := fun o => (t1.a o).c1
    clear r1 b1 t1
    go_wp2_with fail
    have q0 : ∀ (o : Obj) (p1 p2 : Addr) (v1 v2 : Value) (j : Nat), (((w1.setCell p1 v1).setCell p2 v2).alloc o).cell? ⟨w.heap.size + 1, j, none⟩ = ((w1.setCell p1 v1).setCell p2 v2).cell? ⟨w.heap.size + 1, j, none⟩ :=
      fun o p1 p2 v1 v2 j => World.cell?_alloc_lt _ _ ⟨w.heap.size + 1, j, none⟩ (by simp [World.setCell]; omega)
    exact bodyPost_ret (v := blkV q k) (by simp [results, Tryz.results27, go_sem, y0, y1, q0]) rfl ⟨rfl, ballo ((fW.setCell (by simp) _).setCell (by simp) _) _⟩
end Fr
end Go.Proofs.YtdmeoooimnfmaaaGreatDoor
