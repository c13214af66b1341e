/- Z8. -/
import Derived.Test.YtfefehkapffljaaGreatDoorGM
namespace Go.Proofs.YtfefehkapffljaaGreatDoor
open Go.RowKit
namespace Zn
open Fr Bd
def nd0 (P : Nat → Int) (i : Nat) : Nd := ⟨P i, cv 0 (P i), []⟩
theorem nd0_ok {P : Nat → Int} {i : Nat} (h1 : 1 ≤ P i) (h2 : P i ≤ 256) : (nd0 P i).ok := ⟨h1, h2, cv_inv _ (by show (0 : Int) ≤ P i; omega)⟩
theorem info116 : (Tryz.prog.info? 137).map (fun i => (i.zero, i.size, i.bytes)) = some (some (.pointer none), 1, 8) := by kernel_rfl
structure ZB (w : World) (z : Nat) (mn lw hi : Int) (v5 v6 : Value) : Prop where
 c2 : w.cell? ⟨z, 2, none⟩ = some (.int .i64 mn)
 c3 : w.cell? ⟨z, 3, none⟩ = some (.int .i64 lw)
 c4 : w.cell? ⟨z, 4, none⟩ = some (.int .i64 hi)
 c5 : w.cell? ⟨z, 5, none⟩ = some v5
 c6 : w.cell? ⟨z, 6, none⟩ = some v6
 ff : ∀ o, w.frozen? ⟨z, o, none⟩ = false
 tg : Tag w z 136
theorem ZB.b {w w' : World} {z : Nat} {mn lw hi : Int} {v5 v6 : Value} (h : ZB w z mn lw hi v5 v6) (hb : Below w.heap.size w w') : ZB w' z mn lw hi v5 v6 :=
 have hl := h.tg.lt
 ⟨(hb.cell (p := ⟨z, 2, none⟩) hl).trans h.c2, (hb.cell (p := ⟨z, 3, none⟩) hl).trans h.c3, (hb.cell (p := ⟨z, 4, none⟩) hl).trans h.c4, (hb.cell (p := ⟨z, 5, none⟩) hl).trans h.c5, (hb.cell (p := ⟨z, 6, none⟩) hl).trans h.c6, fun o => (hb.frozen (p := ⟨z, o, none⟩) hl).trans (h.ff o), h.tg.b hb⟩
theorem ZB.bn {w w' : World} {z N : Nat} {mn lw hi : Int} {v5 v6 : Value} (h : ZB w z mn lw hi v5 v6) (hb : Below N w w') (hN : z < N) : ZB w' z mn lw hi v5 v6 :=
 ⟨(hb.cell (p := ⟨z, 2, none⟩) hN).trans h.c2, (hb.cell (p := ⟨z, 3, none⟩) hN).trans h.c3, (hb.cell (p := ⟨z, 4, none⟩) hN).trans h.c4, (hb.cell (p := ⟨z, 5, none⟩) hN).trans h.c5, (hb.cell (p := ⟨z, 6, none⟩) hN).trans h.c6, fun o => (hb.frozen (p := ⟨z, o, none⟩) hN).trans (h.ff o), h.tg.blk (hb.block z hN)⟩
theorem ZB.p5 {w : World} {z : Nat} {mn lw hi : Int} {v5 v6 : Value} (h : ZB w z mn lw hi v5 v6) (v : Value) : ZB (w.setCell ⟨z, 5, none⟩ v) z mn lw hi v v6 :=
 ⟨(cso (by simp)).trans h.c2, (cso (by simp)).trans h.c3, (cso (by simp)).trans h.c4, css h.c5, (cso (by simp)).trans h.c6, fun o => by simp only [World.frozen?_setCell]; exact h.ff o, h.tg.set _ _⟩
theorem ZB.p6 {w : World} {z : Nat} {mn lw hi : Int} {v5 v6 : Value} (h : ZB w z mn lw hi v5 v6) (v : Value) : ZB (w.setCell ⟨z, 6, none⟩ v) z mn lw hi v5 v :=
 ⟨(cso (by simp)).trans h.c2, (cso (by simp)).trans h.c3, (cso (by simp)).trans h.c4, (cso (by simp)).trans h.c5, css h.c6, fun o => by simp only [World.frozen?_setCell]; exact h.ff o, h.tg.set _ _⟩
theorem zb_new (w : World) (a b : Value) (mn lw hi : Int) (z : Nat) (hz : w.heap.size = z) : ZB (w.alloc (.cells #[a, b, .int .i64 mn, .int .i64 lw, .int .i64 hi, .slice none 0 0, .slice none 0 0] 136)) z mn lw hi (.slice none 0 0) (.slice none 0 0) := by
 subst hz
 exact ⟨by simp, by simp, by simp, by simp, by simp, fun o => by simp, tag_new _ _ _⟩
theorem own_some {w : World} {b e size n : Nat} {v : Value} {xs : List Value} (h : w.ownsRow b e size v n xs) (hn : 0 < n) : ∃ g cap, v = .slice (some ⟨g, 0, none⟩) n cap := by
 rcases h.2 with ⟨_, h0⟩ | ⟨g, cap, cur, hv, _⟩
 · omega
 · exact ⟨g, cap, hv⟩
theorem ptrs_snoc (i : Nat) (nb : Nat → Nat) (b : Nat) : ptrs (i + 1) (up nb i b) = ptrs i nb ++ [ptr b] := by
 unfold ptrs
 rw [List.range_succ, List.map_append]
 congr 1
 · apply List.map_congr_left
   intro j hj
   rw [up_ne _ _ (by have := List.mem_range.1 hj; omega)]
 · simp [up]
theorem grown_own {w w' : World} {b e size n : Nat} {v : Value} {xs : List Value} (U : w.ownsRow b e size v n xs) (q : w.grownBy w' v.ownBlock) : Below w.heap.size w w' ∨ ∃ g, Tag w g e ∧ b ≤ g ∧ Kept g g w w' := by
 rcases U.2 with ⟨rfl, _⟩ | ⟨g, cap, cur, rfl, hb, hg, _⟩
 · exact Or.inl ⟨q.os, q.tape, q.output, q.size, fun k hk => q.block k hk (by simp [Value.ownBlock])⟩
 · exact Or.inr ⟨g, ⟨cur, _, hg⟩, hb, ⟨q.os, q.tape, q.output, q.size, fun k hk h1 _ => q.block k hk (by simp [Value.ownBlock]; exact h1)⟩⟩
theorem rb_grown {w w' : World} {b e size n : Nat} {v : Value} {xs : List Value} (U : w.ownsRow b e size v n xs) (q : w.grownBy w' v.ownBlock) (he : e ≠ 71) (he2 : e ≠ 213) {c : Nat} {N : Int} {F T : List Bl} (h : RB w c N F T) : RB w' c N F T := by
 rcases grown_own U q with hb | ⟨g, ht, _, hk⟩
 · exact h.b hb
 · exact h.keep hk (h.tg.ne ht he2.symm) ht he
end Zn
end Go.Proofs.YtfefehkapffljaaGreatDoor
