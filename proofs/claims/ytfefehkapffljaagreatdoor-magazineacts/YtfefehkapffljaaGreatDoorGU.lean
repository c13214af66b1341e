/- V8 · V9. -/
import Derived.Test.YtfefehkapffljaaGreatDoorGT
import Derived.Deep.Cut
namespace Go.Proofs.YtfefehkapffljaaGreatDoor
open Go.RowKit Go.Maps
namespace Dz
open Fr Bd Zn
structure TB (w : World) (s z : Nat) (o : Int) (u : Bool) : Prop where
 cz : w.cell? ⟨s, 0, none⟩ = some (ptr z)
 co : w.cell? ⟨s + 1, 0, none⟩ = some (.int .i64 o)
 cu : w.cell? ⟨s + 2, 0, none⟩ = some (.bool u)
 pb : PB w (s + 3)
 lt : s + 3 < w.heap.size
theorem TB.b {w w' : World} {s z : Nat} {o : Int} {u : Bool} (h : TB w s z o u) (hb : Below w.heap.size w w') : TB w' s z o u := by
 have := h.lt
 exact ⟨(hb.cell (p := ⟨s, 0, none⟩) (by simp only; omega)).trans h.cz, (hb.cell (p := ⟨s + 1, 0, none⟩) (by simp only; omega)).trans h.co, (hb.cell (p := ⟨s + 2, 0, none⟩) (by simp only; omega)).trans h.cu, h.pb.b hb, Nat.lt_of_lt_of_le h.lt hb.size⟩
abbrev tbW (w : World) (z : Nat) (o : Int) (u : Bool) : World := (((w.alloc (.cells #[.pointer (some ⟨z, 0, none⟩)] 31)).alloc (.cells #[.int .i64 o] 3)).alloc (.cells #[.bool u] 4)).alloc (.cells #[.int .i64 0, .int .i64 0, .int .i64 0] 73)
theorem tb_new (w : World) (z : Nat) (o : Int) (u : Bool) : TB (tbW w z o u) w.heap.size z o u ∧ Below w.heap.size w (tbW w z o u) := by
 unfold tbW
 have s1 : (w.alloc (.cells #[.pointer (some ⟨z, 0, none⟩)] 31)).heap.size = w.heap.size + 1 := by simp
 have q0 := World.cell?_alloc_new w #[.pointer (some ⟨z, 0, none⟩)] 31 0
 have q1 := World.cell?_alloc_new (w.alloc (.cells #[.pointer (some ⟨z, 0, none⟩)] 31)) #[.int .i64 o] 3 0
 have s2 : ((w.alloc (.cells #[.pointer (some ⟨z, 0, none⟩)] 31)).alloc (.cells #[.int .i64 o] 3)).heap.size = w.heap.size + 2 := by simp
 have q2 := World.cell?_alloc_new ((w.alloc (.cells #[.pointer (some ⟨z, 0, none⟩)] 31)).alloc (.cells #[.int .i64 o] 3)) #[.bool u] 4 0
 have q3 := pb_new (((w.alloc (.cells #[.pointer (some ⟨z, 0, none⟩)] 31)).alloc (.cells #[.int .i64 o] 3)).alloc (.cells #[.bool u] 4))
 have s3 : (((w.alloc (.cells #[.pointer (some ⟨z, 0, none⟩)] 31)).alloc (.cells #[.int .i64 o] 3)).alloc (.cells #[.bool u] 4)).heap.size = w.heap.size + 3 := by simp
 have s4 : ((((w.alloc (.cells #[.pointer (some ⟨z, 0, none⟩)] 31)).alloc (.cells #[.int .i64 o] 3)).alloc (.cells #[.bool u] 4)).alloc (.cells #[.int .i64 0, .int .i64 0, .int .i64 0] 73)).heap.size = w.heap.size + 4 := by simp
 rw [s1] at q1
 rw [s2] at q2
 rw [s3] at q3
 exact ⟨⟨((ballo (ballo (ballo (Below.refl _ _) _) _) _).cell (p := ⟨w.heap.size, 0, none⟩) (by rw [s1]; simp)).trans q0, ((ballo (ballo (Below.refl _ _) _) _).cell (p := ⟨w.heap.size + 1, 0, none⟩) (by rw [s2]; simp)).trans q1, ((ballo (Below.refl _ _) _).cell (p := ⟨w.heap.size + 2, 0, none⟩) (by rw [s3]; simp)).trans q2, q3, by rw [s4]; omega⟩, ballo (ballo (ballo (ballo (Below.refl _ _) _) _) _) _⟩
theorem below_set3 {w w' : World} {c : Nat} (h : Below w.heap.size w w') (hc : w.heap.size ≤ c) (a b o : Value) : Below w.heap.size w (((w'.setCell ⟨c, 0, none⟩ a).setCell ⟨c, 1, none⟩ b).setCell ⟨c, 2, none⟩ o) := ((h.setCell hc a).setCell hc b).setCell hc o
theorem pb_three {W : World} {b : Nat} (P : PB W b) (x a o : Int) :
   ((((W.setCell ⟨b, 0, none⟩ (.int .i64 x)).setCell ⟨b, 1, none⟩ (.int .i64 a)).setCell ⟨b, 2, none⟩ (.int .i64 o)).cell? ⟨b, 0, none⟩ = some (.int .i64 x)) ∧
   ((((W.setCell ⟨b, 0, none⟩ (.int .i64 x)).setCell ⟨b, 1, none⟩ (.int .i64 a)).setCell ⟨b, 2, none⟩ (.int .i64 o)).cell? ⟨b, 1, none⟩ = some (.int .i64 a)) ∧
   ((((W.setCell ⟨b, 0, none⟩ (.int .i64 x)).setCell ⟨b, 1, none⟩ (.int .i64 a)).setCell ⟨b, 2, none⟩ (.int .i64 o)).cell? ⟨b, 2, none⟩ = some (.int .i64 o)) :=
 ⟨by rw [cso (by simp), cso (by simp)]; exact css P.c0, by rw [cso (by simp)]; exact css (by rw [cso (by simp)]; exact P.c1), css (by rw [cso (by simp), cso (by simp)]; exact P.c2)⟩
theorem set3_far {W : World} {b : Nat} {g : Addr} {v : Value} (h : W.cell? g = some v) (hg : g.block ≠ b) (x a o : Value) : (((W.setCell ⟨b, 0, none⟩ x).setCell ⟨b, 1, none⟩ a).setCell ⟨b, 2, none⟩ o).cell? g = some v := by
 rw [cso (fun e => hg (by rw [← e])), cso (fun e => hg (by rw [← e])), cso (fun e => hg (by rw [← e]))]; exact h
end Dz
end Go.Proofs.YtfefehkapffljaaGreatDoor
namespace Go.Proofs.YtfefehkapffljaaGreatDoor
open Go.RowKit Go.Maps
namespace Dz
open Fr Bd Zn
theorem any_list (L : List Nat) (k : Nat) (hk : L.length = k) (p : Nat → Bool) : ((List.range k).any fun j => p (L.getD j 0)) = L.any p := by
 rw [Bool.eq_iff_iff]
 simp only [List.any_eq_true, List.mem_range]
 constructor
 · rintro ⟨i, hi, h⟩
   rw [List.getD_eq_getElem?_getD, List.getElem?_eq_getElem (by omega), Option.getD_some] at h
   exact ⟨_, List.getElem_mem (by omega), h⟩
 · rintro ⟨y, hy, h⟩
   obtain ⟨i, hi, rfl⟩ := List.getElem_of_mem hy
   exact ⟨i, by omega, by rw [List.getD_eq_getElem?_getD, List.getElem?_eq_getElem hi, Option.getD_some]; exact h⟩
theorem fst_find {L : List Nat} {k : Nat} {r : Int} {p q : Nat → Bool} (hk : L.length = k) (hpq : ∀ i ∈ L, p i = q i) (h : Fst (fun j => p (L.getD j 0)) k r) :
   (r = -1 ∧ L.find? q = none) ∨ ∃ j : Nat, j < k ∧ r = j ∧ L.find? q = some (L.getD j 0) ∧ q (L.getD j 0) = true := by
 have hg : ∀ j (hj : j < L.length), L.getD j 0 = L[j] := fun j hj => by rw [List.getD_eq_getElem?_getD, List.getElem?_eq_getElem hj, Option.getD_some]
 rcases h with ⟨h1, h2⟩ | ⟨i, hi, h1, h2, h3⟩
 · refine Or.inl ⟨h1, ?_⟩
   rw [List.find?_eq_none]
   intro y hy
   obtain ⟨j, hj, rfl⟩ := List.getElem_of_mem hy
   have := h2 j (by omega)
   simp only [hg j hj] at this
   rw [← hpq _ (List.getElem_mem hj), this]; simp
 · have hi' : i < L.length := by omega
   have h4 : q L[i] = true := by
     have := h2
     simp only [hg i hi'] at this
     rw [← hpq _ (List.getElem_mem hi')]; exact this
   refine Or.inr ⟨i, hi, h1, ?_, by rw [hg i hi']; exact h4⟩
   rw [hg i hi']
   refine find_at hi' (fun j' hj' hlt => ?_) h4
   have := h3 j' hlt
   simp only [hg j' hj'] at this
   rw [← hpq _ (List.getElem_mem hj')]; exact this
def TkR (z : Nat) (mn lw hi : Int) (k : Nat) (nb fm tm : Nat → Nat) (nd : Nat → Nd) (fr : Nat → List Nat) (x : Nat) (o : Int) (u : Bool) (e : Nat → Addr) (w : World) (ev : Ending) (w' : World) : Prop :=
 ((fr x).find? (fun i => tkC o mn u (nd i) == 2) = none ∧ ev = .returned (.tuple #[plV 0 0 0, errV (e (if (fr x).any (fun i => tkC o mn u (nd i) == 1) then 6 else 4))]) ∧ Below w.heap.size w w') ∨
     ∃ i, (fr x).find? (fun i => tkC o mn u (nd i) == 2) = some i ∧ i < k ∧ ev = .returned (.tuple #[plV i (tkA o (nd i)) o, .nilIface]) ∧ DZ w' z mn lw hi k nb fm tm (up nd i (tkN o (nd i))) fr ∧ Kept (fm i) (tm i) w w'
end Dz
end Go.Proofs.YtfefehkapffljaaGreatDoor
