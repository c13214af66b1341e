/- The contract of package buddy's Take. -/
import Derived.Test.YtdmeoooimnfmaaaGreatDoorGive
namespace Go.Proofs.YtdmeoooimnfmaaaGreatDoor
open Go.RowKit Go.Maps
namespace Bd
open Fr
theorem pk_mem (L : List Bl) : ∀ j, j < L.length → pk L j ∈ L
  | 0, h => by unfold pk; rw [getD_lt h]; exact List.getElem_mem h
  | j + 1, h => by
    unfold pk
    split
    · rw [getD_lt h]; exact List.getElem_mem h
    · exact pk_mem L j (by omega)
theorem fit_some {o : Int} {F : List Bl} {x : Bl} (h : fit o F = some x) : x ∈ F ∧ o ≤ x.2 := by
  unfold fit at h
  split at h
  · cases h
  · next hne =>
    have := pk_mem (F.filter (fun x => decide (o ≤ x.2))) ((F.filter (fun x => decide (o ≤ x.2))).length - 1) (by have := List.length_pos_iff.2 hne; omega)
    rw [Option.some.inj h] at this
    simpa using this
theorem fit_none {o : Int} {F : List Bl} : fit o F = none ↔ ∀ x ∈ F, x.2 < o := by
  unfold fit
  by_cases h : F.filter (fun x => decide (o ≤ x.2)) = []
  · rw [if_pos h]
    rw [List.filter_eq_nil_iff] at h
    simp at h ⊢
    exact h
  · rw [if_neg h]
    simp
    rw [List.filter_eq_nil_iff] at h
    simpa using h
/-- Halving: what is free behind it. -/
def halveF : Nat → Int → Int → List Bl → List Bl
  | 0, _, _, G => G
  | n + 1, a, j, G => halveF n a (j - 1) (ins (a + pw (j - 1), j - 1) G)
def takeF (k : Int) (x : Bl) (F : List Bl) : List Bl := halveF (x.2 - k).toNat x.1 x.2 (del x.1 F)
theorem halve_inv {N : Int} {T : List Bl} {a k : Int} (k0 : 0 ≤ k) : ∀ (n : Nat) (j : Int) (G : List Bl), n = (j - k).toNat → k ≤ j → HInv N G T (a, j) → HInv N (halveF n a j G) T (a, k)
  | 0, j, G, hn, hj, h => by
    have : j = k := by omega
    subst this; exact h
  | n + 1, j, G, hn, hj, h => by
    unfold halveF
    exact halve_inv k0 n (j - 1) _ (by omega) (by omega) (h.halve (by omega))
theorem take_inv {N : Int} {F T : List Bl} {k : Int} {x : Bl} (k0 : 0 ≤ k) (h : Inv N F T) (hx : x ∈ F) (hk : k ≤ x.2) : Inv N (takeF k x F) (ins (x.1, k) T) :=
  (halve_inv k0 _ x.2 _ rfl hk (h.outF hx)).inTaken

/-- The variables of errors that Take asks for. -/
structure Errs4 (w : World) (e : Nat → Addr) : Prop where
  three : Errs3 w e
  full : w.cell? ⟨1, 0, none⟩ = some (.iface 148 (.pointer (some (e 4))))
theorem Errs4.below {w w' : World} {e : Nat → Addr} (h : Errs4 w e) (hb : Below w.heap.size w w') : Errs4 w' e := ⟨h.three.below hb, keep h.full hb⟩

set_option maxHeartbeats 1000000 in
theorem take_bound (b : Nat) (o : Int) (w : World) (e : Nat → Addr) (he : Errs3 w e) (ho : o < 0 ∨ 6 < o) :
    Calls Tryz.prog 8 #[ptr b, .int .i64 o] w fun ev w' => ev = .returned (.tuple #[blkV 0 0, errV (e 1)]) ∧ Below w.heap.size w w' := by
  have E2 := (he.alloc (blkO 0 0)).bound
  have X2 := bx_new w (0, 0)
  have F2 := ballo (Below.refl w.heap.size w) (blkO 0 0)
  have hne1 : 0 < w.heap.size := World.block_lt_of_cell? w ⟨0, 0, none⟩ he.bound
  clear he
  unfold ptr
  have hdd : decide (o < 0) = true ∨ (decide (o < 0) = false ∧ decide (6 < o) = true) := by
    by_cases c : o < 0
    · exact Or.inl (by simpa using c)
    · exact Or.inr ⟨by simpa using c, by simp; omega⟩
  clear ho
  have x0 := X2.c0
  have x1 := X2.c1
  have x2 := X2.f0
  have x3 := X2.f1
  clear X2
  rcases hdd with d | ⟨d, d2⟩
  · go_enter Tryz.func8, Tryz.ntmps8
    go_wp2_with fail
    generalize w.alloc (blkO 0 0) = W at *
    have q1 : ∀ u v, ((W.setCell ⟨w.heap.size, 0, none⟩ u).setCell ⟨w.heap.size, 1, none⟩ v).cell? ⟨0, 0, none⟩ = some (.iface 148 (.pointer (some (e 1)))) := fun u v => by rw [cso (by simp <;> omega), cso (by simp <;> omega)]; exact E2
    go_region
    go_wp2
    exact bodyPost_ret (v := .tuple #[blkV 0 0, errV (e 1)]) (by simp [results, Tryz.results8, go_sem, x0, x1]) rfl ⟨rfl, by first | exact ((F2.setCell (by simp) _).setCell (by simp) _).drew | exact ((F2.drew).setCell (by simp) _).setCell (by simp) _⟩
  · go_enter Tryz.func8, Tryz.ntmps8
    go_wp2_with fail
    generalize w.alloc (blkO 0 0) = W at *
    have q1 : ∀ u v, ((W.setCell ⟨w.heap.size, 0, none⟩ u).setCell ⟨w.heap.size, 1, none⟩ v).cell? ⟨0, 0, none⟩ = some (.iface 148 (.pointer (some (e 1)))) := fun u v => by rw [cso (by simp <;> omega), cso (by simp <;> omega)]; exact E2
    go_region
    go_wp2
    exact bodyPost_ret (v := .tuple #[blkV 0 0, errV (e 1)]) (by simp [results, Tryz.results8, go_sem, x0, x1]) rfl ⟨rfl, by first | exact ((F2.setCell (by simp) _).setCell (by simp) _).drew | exact ((F2.drew).setCell (by simp) _).setCell (by simp) _⟩

set_option maxHeartbeats 1000000 in
theorem take_full (b fm tm : Nat) (N : Int) (F T : List Bl) (o : Int) (w : World) (e : Nat → Addr) (he : Errs4 w e) (h : Bud w b fm tm N F T) (h0 : 0 ≤ o) (h6 : o ≤ 6) (hf : fit o F = none) :
    Calls Tryz.prog 8 #[ptr b, .int .i64 o] w fun ev w' => ev = .returned (.tuple #[blkV 0 0, errV (e 4)]) ∧ Below w.heap.size w w' := by
  have HE := hide he
  have hne4 : 1 < w.heap.size := World.block_lt_of_cell? w ⟨1, 0, none⟩ he.full
  have HF := fit_ok o b fm tm N F T (w.alloc (blkO 0 0)) (h.a _)
  have hfv : fitV o F = .tuple #[blkV 0 0, .bool false] := by unfold fitV; rw [hf]
  rw [hfv] at HF
  have HF := hide HF
  have X2 := hide (bx_new w (0, 0))
  have F2 := ballo (Below.refl w.heap.size w) (blkO 0 0)
  clear he h hf hfv
  unfold ptr at *
  have d1 : decide (o < 0) = false := by simp; omega
  have d2 : decide (6 < o) = false := by simp; omega
  go_enter Tryz.func8, Tryz.ntmps8
  go_wp2_with fail
  refine (unhide HF).mono ?_
  rintro ev w2 ⟨rfl, b2⟩
  have X3 := ((unhide X2).b b2).a (blkO 0 0)
  have F3 := ballo (btr F2 b2) (blkO 0 0)
  have E3 := ((unhide HE).below F3).full
  have x0 := X3.c0
  have x1 := X3.c1
  have x2 := X3.f0
  have x3 := X3.f1
  clear X3 X2 F2 HF
  go_wp2_with fail
  generalize w2.alloc (blkO 0 0) = W at *
  have q1 : ∀ u v, ((W.setCell ⟨w.heap.size, 0, none⟩ u).setCell ⟨w.heap.size, 1, none⟩ v).cell? ⟨1, 0, none⟩ = some (.iface 148 (.pointer (some (e 4)))) := fun u v => by rw [cso (by simp <;> omega), cso (by simp <;> omega)]; exact E3
  go_region
  go_wp2
  exact bodyPost_ret (v := .tuple #[blkV 0 0, errV (e 4)]) (by simp [results, Tryz.results8, go_sem, x0, x1]) rfl ⟨rfl, by first | exact ((F3.setCell (by simp) _).setCell (by simp) _).drew | exact ((F3.drew).setCell (by simp) _).setCell (by simp) _⟩
end Bd
end Go.Proofs.YtdmeoooimnfmaaaGreatDoor
