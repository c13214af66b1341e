/- The library's slices.MinFunc at blocks, with the function that fit hands to it: of the least order the first. -/
import Derived.Test.YtdmeoooimnfmaaaGreatDoorDel
import Derived.Deep.RegionHeld3
import Derived.Deep.QuietTactic
import Derived.BigQuiet
namespace Go.Proofs.YtdmeoooimnfmaaaGreatDoor
open Go.RowKit
namespace Bd
open Fr
/-- A block of the call's own. -/
structure Bx (w : World) (b : Nat) (x : Bl) : Prop where
  c0 : w.cell? ⟨b, 0, none⟩ = some (.int .i64 x.1)
  c1 : w.cell? ⟨b, 1, none⟩ = some (.int .i64 x.2)
  f0 : w.frozen? ⟨b, 0, none⟩ = false
  f1 : w.frozen? ⟨b, 1, none⟩ = false
  lt : b < w.heap.size
theorem bx_new (w : World) (x : Bl) : Bx (w.alloc (blkO x.1 x.2)) w.heap.size x := ⟨by simp, by simp, by simp, by simp, by simp⟩
theorem Bx.b {w w' : World} {b : Nat} {x : Bl} (h : Bx w b x) (hb : Below w.heap.size w w') : Bx w' b x :=
  ⟨(hb.cell (p := ⟨b, 0, none⟩) h.lt).trans h.c0, (hb.cell (p := ⟨b, 1, none⟩) h.lt).trans h.c1, (hb.frozen (p := ⟨b, 0, none⟩) h.lt).trans h.f0, (hb.frozen (p := ⟨b, 1, none⟩) h.lt).trans h.f1, Nat.lt_of_lt_of_le h.lt hb.size⟩
theorem Bx.a {w : World} {b : Nat} {x : Bl} (h : Bx w b x) (o : Obj) : Bx (w.alloc o) b x := h.b (ballo (Below.refl _ _) o)
theorem Bx.set {w : World} {b : Nat} {x : Bl} (h : Bx w b x) (y : Bl) : Bx ((w.setCell ⟨b, 0, none⟩ (.int .i64 y.1)).setCell ⟨b, 1, none⟩ (.int .i64 y.2)) b y :=
  ⟨by rw [cso (by simp)]; exact css h.c0, css (u := .int .i64 x.2) (by rw [cso (by simp)]; exact h.c1), by simp only [World.frozen?_setCell]; exact h.f0, by simp only [World.frozen?_setCell]; exact h.f1, by simpa [World.setCell] using h.lt⟩
theorem Bx.off {w : World} {b c : Nat} {x : Bl} (h : Bx w b x) (hne : b ≠ c) (o : Nat) (v : Value) : Bx (w.setCell ⟨c, o, none⟩ v) b x :=
  ⟨by rw [cso (by simp <;> omega)]; exact h.c0, by rw [cso (by simp <;> omega)]; exact h.c1, by simp only [World.frozen?_setCell]; exact h.f0, by simp only [World.frozen?_setCell]; exact h.f1, by simpa [World.setCell] using h.lt⟩

def cmpv (a b : Int) : Int := if a < b then -1 else if b < a then 1 else 0
theorem compare_ok (a b : Int) (w : World) : Calls Tryz.prog 45 #[.int .i64 a, .int .i64 b] w fun ev w' => ev = .returned (.int .i64 (cmpv a b)) ∧ w' = w := by
  have n1 : (a != a) = false := by simp
  have n2 : (b != b) = false := by simp
  unfold cmpv
  by_cases h1 : a < b
  · have d1 : decide (a < b) = true := by simpa using h1
    rw [if_pos h1]
    go_enter Tryz.func45, Tryz.ntmps45
    go_wp2
    go_ret
    exact ⟨rfl, rfl⟩
  · have d1 : decide (a < b) = false := by simpa using h1
    rw [if_neg h1]
    by_cases h2 : b < a
    · have d2 : decide (b < a) = true := by simpa using h2
      rw [if_pos h2]
      go_enter Tryz.func45, Tryz.ntmps45
      go_wp2
      go_ret
      exact ⟨rfl, rfl⟩
    · have d2 : decide (b < a) = false := by simpa using h2
      rw [if_neg h2]
      go_enter Tryz.func45, Tryz.ntmps45
      go_wp2
      go_ret
      exact ⟨rfl, rfl⟩

theorem cmp_ok (x y : Bl) (w : World) : Calls Tryz.prog 44 #[blkV x.1 x.2, blkV y.1 y.2] w fun ev w' => ev = .returned (.int .i64 (cmpv x.2 y.2)) ∧ w' = (w.alloc (blkO x.1 x.2)).alloc (blkO y.1 y.2) := by
  obtain ⟨a, k⟩ := x
  obtain ⟨a', k'⟩ := y
  simp only
  have H := fun w => hide (compare_ok k k' w)
  generalize cmpv k k' = c at *
  go_enter Tryz.func44, Tryz.ntmps44
  go_wp2_with (go_at_call 45; refine (unhide (H _)).mono ?_; rintro ev w1 ⟨rfl, rfl⟩)
  go_ret
  exact ⟨rfl, rfl⟩

/-- Of the first j + 1 blocks the first one of the least order. -/
def pk (L : List Bl) : Nat → Bl
  | 0 => L.getD 0 (0, 0)
  | j + 1 => if (L.getD (j + 1) (0, 0)).2 < (pk L j).2 then L.getD (j + 1) (0, 0) else pk L j

set_option maxHeartbeats 4000000 in
theorem min_ok (L : List Bl) (g cap : Nat) (w : World) (hr : Row w g L) (hl : L.length ≤ 256) (h0 : 0 < L.length) :
    Calls Tryz.prog 43 #[.slice (some ⟨g, 0, none⟩) L.length cap, .func (.func 44) #[] #[]] w fun ev w' => ev = .returned (blkV (pk L (L.length - 1)).1 (pk L (L.length - 1)).2) ∧ Below w.heap.size w w' := by
  have HR := hide hr
  have c0 := (hr.c 0 h0)
  have hgl := hr.lt
  generalize hn : L.length = n at *
  have hx0 : L.getD 0 (0, 0) = pk L 0 := rfl
  rw [hx0] at c0
  obtain ⟨x0, hx⟩ : ∃ x, x = pk L 0 := ⟨_, rfl⟩
  rw [← hx] at c0
  have HX := hide hx
  clear hr hx0 hx
  obtain ⟨a, k⟩ := x0
  obtain ⟨c1, c2⟩ := c0
  simp only [Nat.zero_mul, Nat.zero_add] at c1 c2
  have hn1 : decide ((n : Int) < 1) = false := by simp; omega
  go_enter Tryz.func43, Tryz.ntmps43
  go_wp2
  go_loopw [6] (fun s6 wr => ∃ (j : Nat), s6 = .int .i64 j ∧ 1 ≤ j ∧ j ≤ n ∧ Hid (Bx wr w.heap.size (0, 0)) ∧ Hid (Bx wr (w.heap.size + 1) (pk L (j - 1))) ∧ Below w.heap.size w wr) (fun s6 _ => n - (RowKit.intOf s6).toNat)
  case atStart =>
    refine ⟨1, rfl, by omega, by omega, ?_, ?_, ballo (ballo (Below.refl _ _) _) _⟩
    · exact (bx_new w (0, 0)).a _
    · rw [← unhide HX]; have := bx_new (w.alloc (blkO 0 0)) (a, k); rw [show (w.alloc (blkO 0 0)).heap.size = w.heap.size + 1 by simp] at this; exact this
  case round =>
    obtain ⟨j, rfl, hj1, hj, h4, h5, hb⟩ := hrel
    by_cases hjn : j < n
    · have cc := ((unhide HR).b hb).c j (by omega)
      have hm := unhide h5
      obtain ⟨x, hx⟩ : ∃ x, x = L.getD j (0, 0) := ⟨_, rfl⟩
      rw [← hx] at cc
      obtain ⟨m, hmm⟩ : ∃ m, m = pk L (j - 1) := ⟨_, rfl⟩
      rw [← hmm] at hm h5
      have HP := hide (show pk L j = if x.2 < m.2 then x else m by
        obtain ⟨i, rfl⟩ : ∃ i, j = i + 1 := ⟨j - 1, by omega⟩
        rw [hx, hmm]; rfl)
      clear hx hmm
      have hc0 := hm.c0
      have hc1 := hm.c1
      have hf0 := hm.f0
      have hf1 := hm.f1
      have hml := hm.lt
      have H := fun w => hide (cmp_ok x m w)
      clear hm
      obtain ⟨x1, x2⟩ := x
      obtain ⟨m1, m2⟩ := m
      obtain ⟨c3, c4⟩ := cc
      simp only at c3 c4 hc0 hc1 H HP
      have hlt0 : (0 : Int) ≤ j := by omega
      have hlt1 : (j : Int) < n := by omega
      have hgr : g < wr.heap.size := by have := hb.size; omega
      by_cases hlt : x2 < m2
      · have hcv : cmpv x2 m2 = -1 := by unfold cmpv; rw [if_pos hlt]
        rw [hcv] at H
        rw [if_pos hlt] at HP
        go_wp2
        go_region_held3 (fun w' => w'.cell? ⟨g, j * 2, none⟩ = some (.int .i64 x1) ∧ w'.cell? ⟨g, j * 2 + 1, none⟩ = some (.int .i64 x2) ∧ w'.cell? ⟨w.heap.size + 1, 0, none⟩ = some (.int .i64 m1) ∧ w'.cell? ⟨w.heap.size + 1, 1, none⟩ = some (.int .i64 m2)) (go_keep) ((go_at_call 44; refine (unhide (H _)).mono ?_; rintro ev w' ⟨rfl, rfl⟩))
        have B2 : Below wr.heap.size wr ((wr.alloc (blkO x1 x2)).alloc (blkO m1 m2)).drew := (ballo (ballo (Below.refl _ _) _) _).drew
        generalize ((wr.alloc (blkO x1 x2)).alloc (blkO m1 m2)).drew = W at *
        have e3 := (B2.cell (p := ⟨g, j * 2, none⟩) hgr).trans c3
        have e4 := (B2.cell (p := ⟨g, j * 2 + 1, none⟩) hgr).trans c4
        have X5 := hide ((unhide h5).b B2)
        have q0 := (unhide X5).c0
        have q1 := (unhide X5).c1
        have q2 := (unhide X5).f0
        have q3 := (unhide X5).f1
        clear c3 c4 hc0 hc1 hf0 hf1
        simp only at q0 q1
        go_wp2
        go_roundw
        case rel => exact ⟨j + 1, by go_num, by omega, by omega, (((unhide h4).b B2).off (by omega) _ _).off (by omega) _ _, (by rw [Nat.add_sub_cancel, unhide HP]; exact (unhide X5).set (x1, x2)), ((btr hb B2).setCell (by simp) _).setCell (by simp) _⟩
        case measure => simp [RowKit.intOf]; omega
      · have hcv : decide (cmpv x2 m2 < 0) = false := by unfold cmpv; rw [if_neg hlt]; split <;> simp
        rw [if_neg hlt] at HP
        generalize cmpv x2 m2 = cv at *
        go_wp2
        go_region_held3 (fun w' => w'.cell? ⟨g, j * 2, none⟩ = some (.int .i64 x1) ∧ w'.cell? ⟨g, j * 2 + 1, none⟩ = some (.int .i64 x2) ∧ w'.cell? ⟨w.heap.size + 1, 0, none⟩ = some (.int .i64 m1) ∧ w'.cell? ⟨w.heap.size + 1, 1, none⟩ = some (.int .i64 m2)) (go_keep) ((go_at_call 44; refine (unhide (H _)).mono ?_; rintro ev w' ⟨rfl, rfl⟩))
        have B2 : Below wr.heap.size wr ((wr.alloc (blkO x1 x2)).alloc (blkO m1 m2)).drew := (ballo (ballo (Below.refl _ _) _) _).drew
        generalize ((wr.alloc (blkO x1 x2)).alloc (blkO m1 m2)).drew = W at *
        have e3 := (B2.cell (p := ⟨g, j * 2, none⟩) hgr).trans c3
        have e4 := (B2.cell (p := ⟨g, j * 2 + 1, none⟩) hgr).trans c4
        have X5 := hide ((unhide h5).b B2)
        have q0 := (unhide X5).c0
        have q1 := (unhide X5).c1
        have q2 := (unhide X5).f0
        have q3 := (unhide X5).f1
        clear c3 c4 hc0 hc1 hf0 hf1
        simp only at q0 q1
        go_wp2
        go_roundw
        case rel => exact ⟨j + 1, by go_num, by omega, by omega, (unhide h4).b B2, (by rw [Nat.add_sub_cancel, unhide HP]; exact unhide X5), btr hb B2⟩
        case measure => simp [RowKit.intOf]; omega
    · have hjn2 : j = n := by omega
      subst hjn2
      have X4 := unhide h4
      have X5 := unhide h5
      have q0 := X5.c0
      have q1 := X5.c1
      have p0 := X4.c0
      have p1 := X4.c1
      have g0 := X4.f0
      have g1 := X4.f1
      clear X4 X5 h4 h5
      obtain ⟨m, hm⟩ : ∃ m, m = pk L (j - 1) := ⟨_, rfl⟩
      rw [← hm] at q0 q1
      have HM := hide hm
      clear hm
      obtain ⟨m1, m2⟩ := m
      simp only at q0 q1 p0 p1
      go_wp2
      have r0 := css (v := .int .i64 m1) p0
      exact bodyPost_ret (v := blkV m1 m2) (by simp [results, Tryz.results43, go_sem, p0, p1]) rfl ⟨by rw [← unhide HM], (hb.setCell (by simp) _).setCell (by simp) _⟩
end Bd
end Go.Proofs.YtdmeoooimnfmaaaGreatDoor
