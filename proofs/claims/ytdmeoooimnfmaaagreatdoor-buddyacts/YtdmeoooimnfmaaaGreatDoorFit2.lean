/- The contracts of package buddy's Free, Taken and fit. -/
import Derived.Test.YtdmeoooimnfmaaaGreatDoorMin
import Derived.Test.YtdmeoooimnfmaaaGreatDoorRising
namespace Go.Proofs.YtdmeoooimnfmaaaGreatDoor
open Go.RowKit
namespace Bd
open Fr
def ptr (b : Nat) : Value := .pointer (some ⟨b, 0, none⟩)
theorem free_ok (b fm tm : Nat) (N : Int) (F T : List Bl) (w : World) (h : Bud w b fm tm N F T) :
    Calls Tryz.prog 17 #[ptr b] w fun ev w' => ∃ v, ev = .returned v ∧ w'.ownsRow w.heap.size 33 2 v F.length (flat F) ∧ (F = [] → v = .slice none 0 0) ∧ Below w.heap.size w w' := by
  have c1 := h.c1
  have H := hide (rising_ok fm F w h.f)
  clear h
  unfold ptr
  go_enter Tryz.func17, Tryz.ntmps17
  go_wp2_with fail
  refine (unhide H).mono ?_
  rintro ev w1 ⟨v, rfl, h1, h2, h3⟩
  go_wp2_with fail
  go_ret
  exact ⟨_, rfl, h1, h2, h3⟩
theorem taken_ok (b fm tm : Nat) (N : Int) (F T : List Bl) (w : World) (h : Bud w b fm tm N F T) :
    Calls Tryz.prog 34 #[ptr b] w fun ev w' => ∃ v, ev = .returned v ∧ w'.ownsRow w.heap.size 33 2 v T.length (flat T) ∧ (T = [] → v = .slice none 0 0) ∧ Below w.heap.size w w' := by
  have c2 := h.c2
  have H := hide (rising_ok tm T w h.t)
  clear h
  unfold ptr
  go_enter Tryz.func34, Tryz.ntmps34
  go_wp2_with fail
  refine (unhide H).mono ?_
  rintro ev w1 ⟨v, rfl, h1, h2, h3⟩
  go_wp2_with fail
  go_ret
  exact ⟨_, rfl, h1, h2, h3⟩

theorem index_nil (fv : Value) (w : World) : Calls Tryz.prog 58 #[.slice none 0 0, fv] w fun ev w' => ev = .returned (.int .i64 (-1)) ∧ w' = w := by
  go_enter Tryz.func58, Tryz.ntmps58
  go_wp2
  refine wp_loop_rounds 1 ?_
  rw [rounds_succ]
  go_wp2
  go_ret
  exact ⟨rfl, rfl⟩
theorem delete_nil (fv : Value) (w : World) : Calls Tryz.prog 41 #[.slice none 0 0, fv] w fun ev w' => ev = .returned (.slice none 0 0) ∧ w' = w := by
  have H := fun w => hide (index_nil fv w)
  have hne1 : ((-1 : Int) == -1) = true := rfl
  go_enter Tryz.func41, Tryz.ntmps41
  go_wp2_with fail
  refine (unhide (H _)).mono ?_
  rintro ev w1 ⟨rfl, rfl⟩
  go_wp2
  go_ret
  exact ⟨rfl, rfl⟩
theorem delete_any (v : Value) (L : List Bl) (B cb : Nat) (o : Int) (w : World) (hrow : w.ownsRow B 33 2 v L.length (flat L)) (hnil : L = [] → v = .slice none 0 0) (hl : L.length ≤ 256) (hB : B ≤ w.heap.size) (hc : w.cell? ⟨cb, 0, none⟩ = some (.int .i64 o)) (hlt : cb < B) :
    Calls Tryz.prog 41 #[v, .func (.func 42) #[] #[.pointer (some ⟨cb, 0, none⟩)]] w fun ev w' => Below B w w' ∧
      ∃ p c, ev = .returned (.slice p (L.filter (fun x => decide (o ≤ x.2))).length c) ∧ (L.filter (fun x => decide (o ≤ x.2)) ≠ [] → ∃ g, p = some ⟨g, 0, none⟩ ∧ Row w' g (L.filter (fun x => decide (o ≤ x.2)))) := by
  by_cases hL : L = []
  · rw [hnil hL, hL]
    refine (delete_nil _ w).mono ?_
    rintro ev w' ⟨rfl, rfl⟩
    exact ⟨Below.refl _ _, none, 0, rfl, fun h => absurd rfl h⟩
  · obtain ⟨g, cap, rfl, hg, h1, _, hr⟩ := row_of hrow hL
    refine (delete_ok L g cap cb o w hr hl h1 hc (by omega) (by omega)).mono ?_
    rintro ev w' ⟨hk, M, rfl, rfl, hM⟩
    exact ⟨hk.below hg hg hB, _, _, rfl, fun _ => ⟨g, rfl, hM⟩⟩

/-- The free block that is taken. -/
def fit (o : Int) (F : List Bl) : Option Bl :=
  if F.filter (fun x => decide (o ≤ x.2)) = [] then none else some (pk (F.filter (fun x => decide (o ≤ x.2))) ((F.filter (fun x => decide (o ≤ x.2))).length - 1))
def fitV (o : Int) (F : List Bl) : Value := match fit o F with
  | none => .tuple #[blkV 0 0, .bool false]
  | some x => .tuple #[blkV x.1 x.2, .bool true]

set_option maxHeartbeats 1000000 in
theorem fit_ok (o : Int) (b fm tm : Nat) (N : Int) (F T : List Bl) (w : World) (h : Bud w b fm tm N F T) :
    Calls Tryz.prog 23 #[ptr b, .int .i64 o] w fun ev w' => ev = .returned (fitV o F) ∧ Below w.heap.size w w' := by
  have hlen := h.f.len
  have H1 := hide (free_ok b fm tm N F T _ ((h.a (.cells #[.int .i64 o] 3)).a (blkO 0 0)))
  have hfl : (F.filter (fun x => decide (o ≤ x.2))).length ≤ 256 := Nat.le_trans (List.length_filter_le _ _) hlen
  clear h
  have HF : Hid (fitV o F = if F.filter (fun x => decide (o ≤ x.2)) = [] then .tuple #[blkV 0 0, .bool false] else .tuple #[blkV (pk (F.filter (fun x => decide (o ≤ x.2))) ((F.filter (fun x => decide (o ≤ x.2))).length - 1)).1 (pk (F.filter (fun x => decide (o ≤ x.2))) ((F.filter (fun x => decide (o ≤ x.2))).length - 1)).2, .bool true]) := by
    show fitV o F = _
    unfold fitV fit
    by_cases c : F.filter (fun x => decide (o ≤ x.2)) = []
    · rw [if_pos c, if_pos c]
    · rw [if_neg c, if_neg c]
  rw [unhide HF]
  generalize hMF : F.filter (fun x => decide (o ≤ x.2)) = M at *
  have HMF := hide hMF
  clear HF hMF
  unfold ptr at *
  go_enter Tryz.func23, Tryz.ntmps23
  go_wp2_with fail
  refine (unhide H1).mono ?_
  rintro ev w1 ⟨v, rfl, h1, h2, h3⟩
  have sz := h3.size
  simp at sz
  have hco : w1.cell? ⟨w.heap.size, 0, none⟩ = some (.int .i64 o) := (h3.cell (p := ⟨w.heap.size, 0, none⟩) (by simp; omega)).trans (((ballo (Below.refl _ (w.alloc (.cells #[.int .i64 o] 3))) _).cell (p := ⟨w.heap.size, 0, none⟩) (by simp)).trans (by simp))
  have B1 : Below w.heap.size w w1 := (ballo (ballo (Below.refl _ _) _) _).trans (h3.mono (by simp; omega))
  have X1 : Bx w1 (w.heap.size + 1) (0, 0) := by have := (bx_new (w.alloc (.cells #[.int .i64 o] 3)) (0, 0)).b h3; simpa using this
  have H2 := hide (delete_any v F _ w.heap.size o w1 h1 h2 hlen h3.size hco (by simp; omega))
  clear h1 h2 h3 H1 hco
  go_wp2_with fail
  refine (unhide H2).mono ?_
  rintro ev w2 ⟨b2, p, c, rfl, hM⟩
  rw [show ((w.alloc (.cells #[.int .i64 o] 3)).alloc (blkO 0 0)).heap.size = w.heap.size + 2 by simp] at b2
  have X2 : Bx w2 (w.heap.size + 1) (0, 0) := ⟨(b2.cell (p := ⟨w.heap.size + 1, 0, none⟩) (by simp only; omega)).trans X1.c0, (b2.cell (p := ⟨w.heap.size + 1, 1, none⟩) (by simp only; omega)).trans X1.c1, (b2.frozen (p := ⟨w.heap.size + 1, 0, none⟩) (by simp only; omega)).trans X1.f0, (b2.frozen (p := ⟨w.heap.size + 1, 1, none⟩) (by simp only; omega)).trans X1.f1, Nat.lt_of_lt_of_le X1.lt b2.size⟩
  have B2 : Below w.heap.size w w2 := B1.trans (b2.mono (by omega))
  rw [unhide HMF] at hM ⊢
  clear H2 b2 B1 X1
  have p0 := X2.c0
  have p1 := X2.c1
  have g0 := X2.f0
  have g1 := X2.f1
  simp only at p0 p1
  by_cases hc : M = []
  · subst hc
    have hz : (((0 : Nat) : Int) == 0) = true := rfl
    simp only [List.length_nil] at *
    clear hM
    go_wp2
    exact bodyPost_ret (v := .tuple #[blkV 0 0, .bool false]) (by simp [results, Tryz.results23, go_sem, p0, p1]) rfl ⟨rfl, (B2.setCell (by simp) _).setCell (by simp) _⟩
  · obtain ⟨g, rfl, hr⟩ := hM hc
    have hpos : 0 < M.length := List.length_pos_iff.2 hc
    have hz : ((M.length : Int) == 0) = false := by simp; exact hc
    have H3 := min_ok M g c w2 hr hfl hpos
    obtain ⟨x, hx⟩ : ∃ x, x = pk M (M.length - 1) := ⟨_, rfl⟩
    rw [← hx] at H3
    have HX := hide hx
    have HC := hide hc
    have H3 := hide H3
    clear hx hM hc hr hpos
    obtain ⟨x1, x2⟩ := x
    go_wp2_with fail
    refine (unhide H3).mono ?_
    rintro ev w3 ⟨rfl, b3⟩
    have X3 := X2.b b3
    have s0 := X3.c0
    have s1 := X3.c1
    have t0 := X3.f0
    have t1 := X3.f1
    simp only at s0 s1
    clear p0 p1 g0 g1
    go_wp2_with fail
    exact bodyPost_ret (v := .tuple #[blkV x1 x2, .bool true]) (by simp [results, Tryz.results23, go_sem, s0, s1]) rfl ⟨by rw [← unhide HX], ((btr B2 b3).setCell (by simp) _).setCell (by simp) _⟩
end Bd
end Go.Proofs.YtdmeoooimnfmaaaGreatDoor
