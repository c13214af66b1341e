/- Z7. -/
import Derived.Test.YtfefehkapffljaaGreatDoorGM
namespace Go.Proofs.YtfefehkapffljaaGreatDoor
open Go.RowKit
namespace Zn
open Fr Bd
def tkC (o mn : Int) (u : Bool) (d : Nd) : Nat := match fit o d.F with
 | none => 0
 | some x => if u = false ∧ pgs (takeF o x d.F) < mn then 1 else 2
def tkA (o : Int) (d : Nd) : Int := match fit o d.F with
 | none => 0
 | some x => x.1
def tkN (o : Int) (d : Nd) : Nd := match fit o d.F with
 | none => d
 | some x => ⟨d.N, takeF o x d.F, ins (x.1, o) d.T⟩
theorem tkN_ok {o : Int} {d : Nd} (h0 : 0 ≤ o) (h : d.ok) : (tkN o d).ok := by
 unfold tkN
 split
 · exact h
 · rename_i x hx
   exact ⟨h.1, h.2.1, take_inv h0 h.2.2 (fit_some hx).1 (fit_some hx).2⟩
theorem rtake_any (b : Nat) (d : Nd) (o : Int) (w : World) (h : RB w b d.N d.F d.T) (hok : d.ok) (h0 : 0 ≤ o) :
   (tkC o 0 true d = 0 ∧ fit o d.F = none ∧ Calls Tryz.prog 82 #[ptr b, .int .i64 o] w fun ev w' => ev = .returned (.tuple #[blkV 0 0, .bool false]) ∧ Below w.heap.size w w') ∨
   (∃ x, fit o d.F = some x ∧ Calls Tryz.prog 82 #[ptr b, .int .i64 o] w fun ev w' => ev = .returned (.tuple #[blkV (tkA o d) o, .bool true]) ∧ RB w' b (tkN o d).N (tkN o d).F (tkN o d).T ∧ Kept b b w w') := by
 cases hf : fit o d.F with
 | none => exact Or.inl ⟨by simp [tkC, hf], rfl, rtake_none b d.N d.F d.T o w h hok.2.2 hok.2.1 hf⟩
 | some x =>
   refine Or.inr ⟨x, rfl, ?_⟩
   have e1 : tkA o d = x.1 := by simp [tkA, hf]
   have e2 : tkN o d = ⟨d.N, takeF o x d.F, ins (x.1, o) d.T⟩ := by simp [tkN, hf]
   rw [e1, e2]
   exact rtake_ok b d.N d.F d.T o x w h hok.2.2 hok.2.1 h0 hf
theorem RZ.swap {w : World} {z : Nat} {mn lw hi : Int} {k : Nat} {nb : Nat → Nat} {nd : Nat → Nd} {fr : Nat → List Nat} (h : RZ w z mn lw hi k nb nd fr) {x : Nat} (hx : x < k) {c : Nat} (hc : ∀ i, i < k → nb i ≠ c) {d : Nd} (hd : RB w c d.N d.F d.T) (hok : d.ok) {g cp : Nat} (hg : w.cell? ⟨z, 5, none⟩ = some (.slice (some ⟨g, 0, none⟩) k cp)) : RZ (w.setCell ⟨g, x, none⟩ (ptr c)) z mn lw hi k (up nb x c) (up nd x d) fr := by
 have hl := h.tg.lt
 obtain ⟨g', cp', e1, o1⟩ := h.cn
 rw [hg] at e1
 simp only [Option.some.injEq, Value.slice.injEq, Addr.mk.injEq, and_true] at e1
 obtain ⟨rfl, _, rfl⟩ := e1
 have ht : Tag w g 137 := by
   rcases o1.2 with ⟨h', _⟩ | ⟨g', cap', cur, h', _, hg', _⟩
   · cases h'
   · simp only [Value.slice.injEq, Option.some.injEq, Addr.mk.injEq] at h'
     obtain ⟨⟨rfl, _⟩, _⟩ := h'
     exact ⟨cur, _, hg'⟩
 have hk := kept_set (g := g) w x (ptr c)
 have hz := h.tg.ne ht (by decide)
 obtain ⟨g2, c2, rows, e2, o2, r2⟩ := h.cf
 refine ⟨(hk.cell (p := ⟨z, 2, none⟩) hl hz hz).trans h.m2, (hk.cell (p := ⟨z, 3, none⟩) hl hz hz).trans h.m3, (hk.cell (p := ⟨z, 4, none⟩) hl hz hz).trans h.m4, ⟨g, cp, (hk.cell (p := ⟨z, 5, none⟩) hl hz hz).trans hg, ?_⟩, ⟨g2, c2, rows, (hk.cell (p := ⟨z, 6, none⟩) hl hz hz).trans e2, own_keep o2 hk ht (by decide), fun i hi => ?_⟩, h.tg.keep hk hz, fun i hi => ?_, fun i hi => ?_, fun i j hi hj hij => ?_⟩
 · have := (o1.stored x (ptr c)).1
   rw [ptrs_set] at this
   exact this
 · obtain ⟨h', d, e3, o3⟩ := r2 i hi
   exact ⟨h', d, e3, own_keep o3 hk ht (by decide)⟩
 · by_cases hix : i = x
   · subst hix; rw [up_at, up_at]; exact hd.keep hk (hd.tg.ne ht (by decide)) ht (by decide)
   · rw [up_ne _ _ hix, up_ne _ _ hix]; exact (h.rb i hi).keep hk ((h.rb i hi).tg.ne ht (by decide)) ht (by decide)
 · by_cases hix : i = x
   · subst hix; rw [up_at]; exact hok
   · rw [up_ne _ _ hix]; exact h.ok i hi
 · by_cases hix : i = x
   · subst hix
     rw [up_at, up_ne _ _ (Ne.symm hij)]
     exact (hc j hj).symm
   · by_cases hjx : j = x
     · subst hjx
       rw [up_at, up_ne _ _ hij]
       exact hc i hi
     · rw [up_ne _ _ hix, up_ne _ _ hjx]; exact h.ne i j hi hj hij
theorem RZ.from {w : World} {z : Nat} {mn lw hi : Int} {k : Nat} {nb : Nat → Nat} {nd : Nat → Nd} {fr : Nat → List Nat} (h : RZ w z mn lw hi k nb nd fr) {x : Nat} (hx : x < k) {j : Nat} (hj : j < (fr x).length) : ∃ g c h' d, w.cell? ⟨z, 6, none⟩ = some (.slice (some ⟨g, 0, none⟩) k c) ∧ g < w.heap.size ∧ w.cell? ⟨g, x, none⟩ = some (.slice (some ⟨h', 0, none⟩) (fr x).length d) ∧ h' < w.heap.size ∧ w.cell? ⟨h', j, none⟩ = some (.int .i64 ((fr x)[j] : Nat)) := by
 obtain ⟨g, c, rows, e1, o1, r1⟩ := h.cf
 obtain ⟨h', d, e2, o2⟩ := r1 x hx
 refine ⟨g, c, h', d, e1, (o1.lt g rfl).2, (o1.cellAt x (by omega)).trans e2, (o2.lt h' rfl).2, (o2.cellAt j (by omega)).trans ?_⟩
 simp [ivs, hj]
structure PB (w : World) (b : Nat) : Prop where
 c0 : w.cell? ⟨b, 0, none⟩ = some (.int .i64 0)
 c1 : w.cell? ⟨b, 1, none⟩ = some (.int .i64 0)
 c2 : w.cell? ⟨b, 2, none⟩ = some (.int .i64 0)
 f : ∀ o, w.frozen? ⟨b, o, none⟩ = false
 lt : b < w.heap.size
 tg : Tag w b 73
theorem pb_new (w : World) : PB (w.alloc (plO 0 0 0)) w.heap.size := ⟨World.cell?_alloc_new w _ 73 0, World.cell?_alloc_new w _ 73 1, World.cell?_alloc_new w _ 73 2, fun o => by simp [plO], by simp, tag_new _ _ _⟩
theorem PB.b {w w' : World} {b : Nat} (h : PB w b) (hb : Below w.heap.size w w') : PB w' b :=
 ⟨(hb.cell (p := ⟨b, 0, none⟩) h.lt).trans h.c0, (hb.cell (p := ⟨b, 1, none⟩) h.lt).trans h.c1, (hb.cell (p := ⟨b, 2, none⟩) h.lt).trans h.c2, fun o => (hb.frozen (p := ⟨b, o, none⟩) h.lt).trans (h.f o), Nat.lt_of_lt_of_le h.lt hb.size, h.tg.b hb⟩
theorem PB.k {w w' : World} {b A : Nat} (h : PB w b) (hk : Kept A A w w') (hne : b ≠ A) : PB w' b :=
 ⟨(hk.cell (p := ⟨b, 0, none⟩) h.lt hne hne).trans h.c0, (hk.cell (p := ⟨b, 1, none⟩) h.lt hne hne).trans h.c1, (hk.cell (p := ⟨b, 2, none⟩) h.lt hne hne).trans h.c2, fun o => (World.frozen?_of_block (w := w) (a := ⟨b, o, none⟩) (hk.block b h.lt hne hne)).trans (h.f o), Nat.lt_of_lt_of_le h.lt hk.size, h.tg.keep hk hne⟩
theorem find_at {α : Type} {p : α → Bool} : ∀ {L : List α} {j : Nat} (hj : j < L.length), (∀ j' (hj' : j' < L.length), j' < j → p L[j'] = false) → p L[j] = true → L.find? p = some L[j]
 | [], _, hj, _, _ => by simp at hj
 | x :: l, 0, _, _, h => by simp at h; simp [h]
 | x :: l, j + 1, hj, h1, h2 => by
   have hx := h1 0 (by simp) (by omega)
   simp only [List.getElem_cons_zero] at hx
   rw [List.find?_cons, hx]
   simp only [List.getElem_cons_succ] at h2 ⊢
   exact find_at (by simpa using hj) (fun j' hj' hlt => by have := h1 (j' + 1) (by simpa using hj') (by omega); simpa using this) h2
theorem set3 {n : Nat} {w w' : World} (h : Below n w w') {b : Nat} (hb : n ≤ b) (x a o : Int) : Below n w (((w'.setCell ⟨b, 0, none⟩ (.int .i64 x)).setCell ⟨b, 1, none⟩ (.int .i64 a)).setCell ⟨b, 2, none⟩ (.int .i64 o)) :=
 ((h.setCell hb _).setCell hb _).setCell hb _
end Zn
end Go.Proofs.YtfefehkapffljaaGreatDoor
