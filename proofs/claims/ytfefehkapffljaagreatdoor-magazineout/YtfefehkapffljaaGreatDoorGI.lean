/- The document's answer's buddies in memory; its Split · The document's answer's own Split · The document's answer's lists in memory: blocks beside which they lie · The document's answer's own Give. -/
import Derived.Test.YtfefehkapffljaaGreatDoorGH
import Derived.Test.YtfefehkapffljaaGreatDoorGF
import Derived.Test.YtfefehkapffljaaGreatDoorGE
namespace Go.Proofs.YtfefehkapffljaaGreatDoor
open Go.RowKit
namespace Bd
open Fr
/-- A block of cells of such elements. -/
def Tag (w : World) (g : Nat) (t : TypeId) : Prop := ∃ cur fz, w.heap[g]? = some (.cells cur t fz)
theorem Tag.blk {w w' : World} {g : Nat} {t : TypeId} (h : Tag w g t) (hb : w'.heap[g]? = w.heap[g]?) : Tag w' g t := by
  obtain ⟨cur, fz, e⟩ := h
  exact ⟨cur, fz, hb.trans e⟩
theorem Tag.lt {w : World} {g : Nat} {t : TypeId} (h : Tag w g t) : g < w.heap.size := by
  obtain ⟨cur, fz, e⟩ := h
  rcases Nat.lt_or_ge g w.heap.size with h' | h'
  · exact h'
  · rw [Array.getElem?_eq_none h'] at e; cases e
theorem Tag.b {w w' : World} {g : Nat} {t : TypeId} (h : Tag w g t) (hb : Below w.heap.size w w') : Tag w' g t := h.blk (hb.block g h.lt)
theorem Tag.set {w : World} {g : Nat} {t : TypeId} (h : Tag w g t) (a : Addr) (v : Value) : Tag (w.setCell a v) g t := by
  obtain ⟨cur, fz, e⟩ := h
  by_cases hg : g = a.block
  · subst hg
    refine ⟨if a.spot.isSome then cur else cur.setIfInBounds a.off v, fz, ?_⟩
    simp only [World.setCell, Array.getElem?_modify, e]
    simp
  · exact ⟨cur, fz, (Below.heap_setCell _ _ _ _ hg).trans e⟩
theorem Tag.ne {w : World} {g g' : Nat} {t t' : TypeId} (h : Tag w g t) (h' : Tag w g' t') (hne : t ≠ t') : g ≠ g' := by
  rintro rfl
  obtain ⟨cur, fz, e⟩ := h
  obtain ⟨cur', fz', e'⟩ := h'
  rw [e] at e'
  simp only [Option.some.injEq, Obj.cells.injEq] at e'
  exact hne e'.2.1
theorem tag_new (w : World) (cs : Array Value) (t : TypeId) : Tag (w.alloc (.cells cs t)) w.heap.size t := ⟨cs, (0, 0), heap_alloc_new w _⟩
/-- A row of blocks, and what its block is. -/
structure Rowt (w : World) (g : Nat) (R : List Bl) : Prop extends Row w g R where
  tg : Tag w g 71
theorem Rowt.b {w w' : World} {g : Nat} {R : List Bl} (h : Rowt w g R) (hb : Below w.heap.size w w') : Rowt w' g R := ⟨h.toRow.b hb, h.tg.b hb⟩
theorem rowt_of {w : World} {B : Nat} {v : Value} {L : List Bl} (h : w.ownsRow B 71 2 v L.length (flat L)) (hL : L ≠ []) : ∃ g cap, v = .slice (some ⟨g, 0, none⟩) L.length cap ∧ B ≤ g ∧ L.length ≤ cap ∧ cap ≤ maxLen ∧ Rowt w g L := by
  obtain ⟨g, cap, hv, hB, h1, h2, hr⟩ := row_of h hL
  refine ⟨g, cap, hv, hB, h1, h2, hr, ?_⟩
  rcases h.2 with ⟨h0, _⟩ | ⟨g', cap', cur, hv', _, hg, _⟩
  · rw [h0] at hv; cases hv
  · rw [hv] at hv'
    simp only [Value.slice.injEq, Option.some.injEq, Addr.mk.injEq] at hv'
    obtain ⟨⟨rfl, _⟩, _⟩ := hv'
    exact ⟨cur, _, hg⟩
/-- A list in a slice whose row lies elsewhere than in the block b. -/
def RL (w : World) (b : Nat) (v : Value) (L : List Bl) : Prop :=
  (L = [] ∧ v = .slice none 0 0) ∨ ∃ g c, v = .slice (some ⟨g, 0, none⟩) L.length c ∧ g ≠ b ∧ L.length ≤ c ∧ c ≤ maxLen ∧ L ≠ [] ∧ Rowt w g L
theorem RL.lies {w : World} {b : Nat} {v : Value} {L : List Bl} (h : RL w b v L) : Lies w v L := by
  rcases h with h | ⟨g, c, hv, _, h1, h2, h3, hr⟩
  · exact Or.inl h
  · exact Or.inr ⟨g, c, hv, hr.lt, h3, h1, h2, hr.c⟩
theorem RL.b {w w' : World} {b : Nat} {v : Value} {L : List Bl} (h : RL w b v L) (hb : Below w.heap.size w w') : RL w' b v L := by
  rcases h with h | ⟨g, c, hv, h0, h1, h2, h3, hr⟩
  · exact Or.inl h
  · exact Or.inr ⟨g, c, hv, h0, h1, h2, h3, hr.b hb⟩
theorem Row.off {w : World} {g b : Nat} {L : List Bl} (h : Row w g L) (hne : g ≠ b) (o : Nat) (v : Value) : Row (w.setCell ⟨b, o, none⟩ v) g L :=
  ⟨fun i hi => ⟨(cso (by simp <;> omega)).trans (h.c i hi).1, (cso (by simp <;> omega)).trans (h.c i hi).2⟩, fun o' ho => by simp only [World.frozen?_setCell]; exact h.fz o' ho, by simpa [World.setCell] using h.lt⟩
theorem Rowt.off {w : World} {g b : Nat} {L : List Bl} (h : Rowt w g L) (hne : g ≠ b) (o : Nat) (v : Value) : Rowt (w.setCell ⟨b, o, none⟩ v) g L := ⟨h.toRow.off hne o v, h.tg.set _ _⟩
theorem RL.off {w : World} {b : Nat} {v : Value} {L : List Bl} (h : RL w b v L) (o : Nat) (u : Value) : RL (w.setCell ⟨b, o, none⟩ u) b v L := by
  rcases h with h | ⟨g, c, hv, h0, h1, h2, h3, hr⟩
  · exact Or.inl h
  · exact Or.inr ⟨g, c, hv, h0, h1, h2, h3, hr.off h0 o u⟩
theorem rl_of {w : World} {B b : Nat} {v : Value} {L : List Bl} (h : w.ownsRow B 71 2 v L.length (flat L)) (hn : L = [] → v = .slice none 0 0) (hb : b < B) : RL w b v L := by
  by_cases hL : L = []
  · exact Or.inl ⟨hL, hn hL⟩
  · obtain ⟨g, cap, hv, hg, h1, h2, hr⟩ := rowt_of h hL
    exact Or.inr ⟨g, cap, hv, by omega, h1, h2, hL, hr⟩
structure RB (w : World) (b : Nat) (N : Int) (F T : List Bl) : Prop where
  c0 : w.cell? ⟨b, 0, none⟩ = some (.int .i64 N)
  c1 : ∃ v, w.cell? ⟨b, 1, none⟩ = some v ∧ RL w b v F
  c2 : ∃ v, w.cell? ⟨b, 2, none⟩ = some v ∧ RL w b v T
  f1 : w.frozen? ⟨b, 1, none⟩ = false
  f2 : w.frozen? ⟨b, 2, none⟩ = false
  lt : b < w.heap.size
  tg : Tag w b 213
theorem RB.b {w w' : World} {b : Nat} {N : Int} {F T : List Bl} (h : RB w b N F T) (hb : Below w.heap.size w w') : RB w' b N F T := by
  obtain ⟨v1, e1, l1⟩ := h.c1
  obtain ⟨v2, e2, l2⟩ := h.c2
  exact ⟨(hb.cell (p := ⟨b, 0, none⟩) h.lt).trans h.c0, ⟨v1, (hb.cell (p := ⟨b, 1, none⟩) h.lt).trans e1, l1.b hb⟩, ⟨v2, (hb.cell (p := ⟨b, 2, none⟩) h.lt).trans e2, l2.b hb⟩, (hb.frozen (p := ⟨b, 1, none⟩) h.lt).trans h.f1, (hb.frozen (p := ⟨b, 2, none⟩) h.lt).trans h.f2, Nat.lt_of_lt_of_le h.lt hb.size, h.tg.b hb⟩
theorem RB.a {w : World} {b : Nat} {N : Int} {F T : List Bl} (h : RB w b N F T) (o : Obj) : RB (w.alloc o) b N F T := h.b (ballo (Below.refl _ _) o)
theorem RB.d {w : World} {b : Nat} {N : Int} {F T : List Bl} (h : RB w b N F T) : RB w.drew b N F T := h.b ⟨rfl, rfl, rfl, Nat.le_refl _, fun _ _ => rfl⟩
theorem RB.putF {w : World} {b : Nat} {N : Int} {F F' T : List Bl} {v : Value} (h : RB w b N F T) (hv : RL w b v F') : RB (w.setCell ⟨b, 1, none⟩ v) b N F' T := by
  obtain ⟨v1, e1, l1⟩ := h.c1
  obtain ⟨v2, e2, l2⟩ := h.c2
  exact ⟨(cso (by simp)).trans h.c0, ⟨v, css e1, hv.off _ _⟩, ⟨v2, (cso (by simp)).trans e2, l2.off _ _⟩, by simp only [World.frozen?_setCell]; exact h.f1, by simp only [World.frozen?_setCell]; exact h.f2, by simpa [World.setCell] using h.lt, h.tg.set _ _⟩
theorem RB.putT {w : World} {b : Nat} {N : Int} {F T T' : List Bl} {v : Value} (h : RB w b N F T) (hv : RL w b v T') : RB (w.setCell ⟨b, 2, none⟩ v) b N F T' := by
  obtain ⟨v1, e1, l1⟩ := h.c1
  obtain ⟨v2, e2, l2⟩ := h.c2
  exact ⟨(cso (by simp)).trans h.c0, ⟨v1, (cso (by simp)).trans e1, l1.off _ _⟩, ⟨v, css e2, hv.off _ _⟩, by simp only [World.frozen?_setCell]; exact h.f1, by simp only [World.frozen?_setCell]; exact h.f2, by simpa [World.setCell] using h.lt, h.tg.set _ _⟩

theorem rl_slice {w : World} {b : Nat} {v : Value} {L : List Bl} (h : RL w b v L) : ∃ p m c, v = .slice p m c ∧ RL w b (.slice p m c) L := by
  have h' := h
  rcases h with ⟨_, rfl⟩ | ⟨g, c, rfl, _⟩
  · exact ⟨_, _, _, rfl, h'⟩
  · exact ⟨_, _, _, rfl, h'⟩
/-- 'with', whatever the list. -/
theorem with_any (b : Nat) (v : Value) (L : List Bl) (x : Bl) (w : World) (h : RL w b v L) (hl : L.length ≤ 256) (hx : ∀ y ∈ L, y.1 ≠ x.1) (hb : b < w.heap.size) :
    Calls Tryz.prog 134 #[v, blkV x.1 x.2] w fun ev w' => ∃ p m c, ev = .returned (.slice p m c) ∧ RL w' b (.slice p m c) (ins x L) ∧ Below w.heap.size w w' := by
  rcases h with ⟨hL, rfl⟩ | ⟨g, c, rfl, _, h1, h2, h3, hr⟩
  · subst hL
    refine (with_nil x w).mono ?_
    rintro ev w' ⟨v', rfl, ho, hn, hbl⟩
    obtain ⟨p, m, c, rfl, hh⟩ := rl_slice (rl_of ho hn hb)
    exact ⟨p, m, c, rfl, hh, hbl⟩
  · refine (with_ok g c L x w hr.toRow (List.length_pos_iff.2 h3) hl h1 h2 hx).mono ?_
    rintro ev w' ⟨v', rfl, ho, hn, hbl⟩
    obtain ⟨p, m, c, rfl, hh⟩ := rl_slice (rl_of ho hn hb)
    exact ⟨p, m, c, rfl, hh, hbl⟩
theorem without_any (b : Nat) (v : Value) (L : List Bl) (k : Nat) (w : World) (h : RL w b v L) (hs : Srt L) (hl : L.length ≤ 256) (hk : k < L.length) (hb : b < w.heap.size) :
    Calls Tryz.prog 133 #[v, .int .i64 k] w fun ev w' => ∃ p m c, ev = .returned (.slice p m c) ∧ RL w' b (.slice p m c) (del L[k].1 L) ∧ Below w.heap.size w w' := by
  rcases h with ⟨hL, _⟩ | ⟨g, c, rfl, _, h1, h2, h3, hr⟩
  · subst hL; simp at hk
  · refine (without_ok g c k L w hr.toRow hl h1 h2 hk).mono ?_
    rintro ev w' ⟨v', rfl, ho, hn, hbl⟩
    rw [erase_del hs hk] at ho hn
    obtain ⟨p, m, c, rfl, hh⟩ := rl_slice (rl_of ho hn hb)
    exact ⟨p, m, c, rfl, hh, hbl⟩
theorem fiN_is : ∀ (L : List Bl) (y : Bl) (n : Nat), (fiN L y n = -1 ∧ y ∉ L) ∨ ∃ k, ∃ h : k < L.length, fiN L y n = (n + k : Nat) ∧ L[k] = y
  | [], y, n => Or.inl ⟨rfl, by simp⟩
  | x :: l, y, n => by
    unfold fiN
    by_cases h : x = y
    · rw [if_pos h]; exact Or.inr ⟨0, by simp, by simp, h⟩
    · rw [if_neg h]
      rcases fiN_is l y (n + 1) with ⟨h1, h2⟩ | ⟨k, hk, h1, h2⟩
      · exact Or.inl ⟨h1, by simp; exact ⟨fun e => h e.symm, h2⟩⟩
      · exact Or.inr ⟨k + 1, by simpa using hk, by rw [h1]; congr 1; omega, by simpa using h2⟩
/-- 'find'. -/
theorem find_any (b : Nat) (v : Value) (L : List Bl) (x : Bl) (w : World) (h : RL w b v L) (hl : L.length ≤ 256) :
    Calls Tryz.prog 177 #[v, blkV x.1 x.2] w fun ev w' => Below w.heap.size w w' ∧ ((ev = .returned (.int .i64 (-1)) ∧ x ∉ L) ∨ ∃ k : Nat, ∃ hk : k < L.length, ev = .returned (.int .i64 k) ∧ L[k] = x) := by
  refine (find_ok v L x.1 x.2 w (by omega) h.lies).mono ?_
  rintro ev w' ⟨rfl, hb⟩
  refine ⟨hb, ?_⟩
  rcases fiN_is L x 0 with ⟨h1, h2⟩ | ⟨k, hk, h1, h2⟩
  · exact Or.inl ⟨by rw [show ((x.1, x.2) : Bl) = x from rfl, h1], h2⟩
  · exact Or.inr ⟨k, hk, by rw [show ((x.1, x.2) : Bl) = x from rfl, h1]; simp, h2⟩
end Bd
end Go.Proofs.YtfefehkapffljaaGreatDoor
namespace Go.Proofs.YtfefehkapffljaaGreatDoor
open Go.RowKit
namespace Bd
open Fr
theorem fwd {w w1 w2 : World} {n : Nat} (h : Below n w w1) (hn : n ≤ w1.heap.size) (k : Below w1.heap.size w1 w2) : Below n w w2 := h.trans (k.mono hn)
theorem bdn {w w' : World} (h : Below w.heap.size w w') : Below w.heap.size w.drew w' := ⟨h.os, h.tape, h.output, h.size, h.block⟩

end Bd
end Go.Proofs.YtfefehkapffljaaGreatDoor
namespace Go.Proofs.YtfefehkapffljaaGreatDoor
open Go.RowKit
namespace Bd
open Fr
/-- 'with', whatever the list: what it lays lies beside all that was. -/
theorem with_all (b : Nat) (v : Value) (L : List Bl) (x : Bl) (w : World) (h : RL w b v L) (hl : L.length ≤ 256) (hx : ∀ y ∈ L, y.1 ≠ x.1) :
    Calls Tryz.prog 134 #[v, blkV x.1 x.2] w fun ev w' => ∃ p m c, ev = .returned (.slice p m c) ∧ (∀ b', b' < w.heap.size → RL w' b' (.slice p m c) (ins x L)) ∧ Below w.heap.size w w' := by
  have key : ∀ (w' : World) v', w'.ownsRow w.heap.size 71 2 v' (ins x L).length (flat (ins x L)) → (ins x L = [] → v' = .slice none 0 0) → ∃ p m c, v' = .slice p m c ∧ ∀ b', b' < w.heap.size → RL w' b' (.slice p m c) (ins x L) := by
    intro w' v' ho hn
    by_cases h0 : 0 < w.heap.size
    · obtain ⟨p, m, c, rfl, _⟩ := rl_slice (rl_of ho hn h0)
      exact ⟨p, m, c, rfl, fun b' hb' => rl_of ho hn hb'⟩
    · by_cases hL : ins x L = []
      · exact ⟨none, 0, 0, hn hL, fun b' hb' => absurd hb' (by omega)⟩
      · obtain ⟨g, cap, hv, _⟩ := row_of ho hL
        exact ⟨_, _, _, hv, fun b' hb' => absurd hb' (by omega)⟩
  rcases h with ⟨hL, rfl⟩ | ⟨g, c, rfl, _, h1, h2, h3, hr⟩
  · subst hL
    refine (with_nil x w).mono ?_
    rintro ev w' ⟨v', rfl, ho, hn, hbl⟩
    obtain ⟨p, m, c, rfl, hh⟩ := key w' v' ho hn
    exact ⟨p, m, c, rfl, hh, hbl⟩
  · refine (with_ok g c L x w hr.toRow (List.length_pos_iff.2 h3) hl h1 h2 hx).mono ?_
    rintro ev w' ⟨v', rfl, ho, hn, hbl⟩
    obtain ⟨p, m, c, rfl, hh⟩ := key w' v' ho hn
    exact ⟨p, m, c, rfl, hh, hbl⟩
theorem without_all (b : Nat) (v : Value) (L : List Bl) (k : Nat) (w : World) (h : RL w b v L) (hs : Srt L) (hl : L.length ≤ 256) (hk : k < L.length) :
    Calls Tryz.prog 133 #[v, .int .i64 k] w fun ev w' => ∃ p m c, ev = .returned (.slice p m c) ∧ (∀ b', b' < w.heap.size → RL w' b' (.slice p m c) (del L[k].1 L)) ∧ Below w.heap.size w w' := by
  rcases h with ⟨hL, _⟩ | ⟨g, c, rfl, _, h1, h2, h3, hr⟩
  · subst hL; simp at hk
  · have hpos : 0 < w.heap.size := Nat.lt_of_le_of_lt (Nat.zero_le _) hr.lt
    refine (without_ok g c k L w hr.toRow hl h1 h2 hk).mono ?_
    rintro ev w' ⟨v', rfl, ho, hn, hbl⟩
    rw [erase_del hs hk] at ho hn
    obtain ⟨p, m, c, rfl, hh⟩ := rl_slice (rl_of ho hn hpos)
    exact ⟨p, m, c, rfl, fun b' hb' => rl_of ho hn hb', hbl⟩
/-- The lists of b lie beside the block c. -/
structure Off (w : World) (b c : Nat) : Prop where
  o1 : ∃ v L, w.cell? ⟨b, 1, none⟩ = some v ∧ RL w c v L
  o2 : ∃ v L, w.cell? ⟨b, 2, none⟩ = some v ∧ RL w c v L
theorem Off.b {w w' : World} {b c : Nat} (h : Off w b c) (hl : b < w.heap.size) (hb : Below w.heap.size w w') : Off w' b c := by
  obtain ⟨v1, L1, e1, r1⟩ := h.o1
  obtain ⟨v2, L2, e2, r2⟩ := h.o2
  exact ⟨⟨v1, L1, (hb.cell (p := ⟨b, 1, none⟩) hl).trans e1, r1.b hb⟩, ⟨v2, L2, (hb.cell (p := ⟨b, 2, none⟩) hl).trans e2, r2.b hb⟩⟩
theorem RL.off2 {w : World} {b c : Nat} {v : Value} {L M : List Bl} (h : RL w c v L) (h2 : RL w b v M) (o : Nat) (u : Value) : RL (w.setCell ⟨b, o, none⟩ u) c v L := by
  rcases h with h | ⟨g, c, rfl, h0, h1, h2', h3, hr⟩
  · exact Or.inl h
  · rcases h2 with ⟨_, hv⟩ | ⟨g', c', hv, h0', _⟩
    · cases hv
    · have e : g' = g := by
        have := hv
        simp only [Value.slice.injEq, Option.some.injEq, Addr.mk.injEq] at this
        exact this.1.1.symm
      exact Or.inr ⟨g, _, rfl, h0, h1, h2', h3, hr.off (e ▸ h0') o u⟩
theorem RB.offF {w : World} {b c : Nat} {N : Int} {F F' T : List Bl} {v : Value} (h : RB w b N F T) (ho : Off w b c) (hv : RL w b v F') (hc : RL w c v F') : Off (w.setCell ⟨b, 1, none⟩ v) b c := by
  obtain ⟨v2, L2, e2, r2⟩ := ho.o2
  obtain ⟨v3, e3, l3⟩ := h.c2
  have e : v2 = v3 := Option.some.inj (e2.symm.trans e3)
  subst e
  obtain ⟨v1, e1, l1⟩ := h.c1
  exact ⟨⟨v, F', css e1, hc.off2 hv _ _⟩, ⟨v2, L2, (cso (by simp)).trans e2, r2.off2 l3 _ _⟩⟩
theorem RB.offT {w : World} {b c : Nat} {N : Int} {F T T' : List Bl} {v : Value} (h : RB w b N F T) (ho : Off w b c) (hv : RL w b v T') (hc : RL w c v T') : Off (w.setCell ⟨b, 2, none⟩ v) b c := by
  obtain ⟨v1, L1, e1, r1⟩ := ho.o1
  obtain ⟨v3, e3, l3⟩ := h.c1
  have e : v1 = v3 := Option.some.inj (e1.symm.trans e3)
  subst e
  obtain ⟨v2, e2, l2⟩ := h.c2
  exact ⟨⟨v1, L1, (cso (by simp)).trans e1, r1.off2 l3 _ _⟩, ⟨v, T', css e2, hc.off2 hv _ _⟩⟩
theorem RB.offNew {w : World} {b : Nat} {N : Int} {F T : List Bl} (h : RB w b N F T) (o : Obj) : Off (w.alloc o) b w.heap.size := by
  obtain ⟨v1, e1, l1⟩ := h.c1
  obtain ⟨v2, e2, l2⟩ := h.c2
  have key : ∀ v L, RL w b v L → RL w w.heap.size v L := by
    intro v L h
    rcases h with h | ⟨g, c, hv, h0, h1, h2, h3, hr⟩
    · exact Or.inl h
    · exact Or.inr ⟨g, c, hv, Nat.ne_of_lt hr.lt, h1, h2, h3, hr⟩
  have hb := ballo (Below.refl w.heap.size w) o
  exact ⟨⟨v1, F, (hb.cell (p := ⟨b, 1, none⟩) h.lt).trans e1, (key _ _ l1).b hb⟩, ⟨v2, T, (hb.cell (p := ⟨b, 2, none⟩) h.lt).trans e2, (key _ _ l2).b hb⟩⟩
/-- A store into another block. -/
theorem RB.box {w : World} {b c : Nat} {N : Int} {F T : List Bl} (h : RB w b N F T) (ho : Off w b c) (hbc : c ≠ b) (o : Nat) (u : Value) : RB (w.setCell ⟨c, o, none⟩ u) b N F T ∧ Off (w.setCell ⟨c, o, none⟩ u) b c := by
  obtain ⟨v1, e1, l1⟩ := h.c1
  obtain ⟨v2, e2, l2⟩ := h.c2
  obtain ⟨u1, L1, g1, r1⟩ := ho.o1
  obtain ⟨u2, L2, g2, r2⟩ := ho.o2
  have q1 : u1 = v1 := Option.some.inj (g1.symm.trans e1)
  have q2 : u2 = v2 := Option.some.inj (g2.symm.trans e2)
  subst q1
  subst q2
  exact ⟨⟨(cso (by simp <;> omega)).trans h.c0, ⟨u1, (cso (by simp <;> omega)).trans e1, l1.off2 r1 _ _⟩, ⟨u2, (cso (by simp <;> omega)).trans e2, l2.off2 r2 _ _⟩, by simp only [World.frozen?_setCell]; exact h.f1, by simp only [World.frozen?_setCell]; exact h.f2, by simpa [World.setCell] using h.lt, h.tg.set _ _⟩,
    ⟨⟨u1, L1, (cso (by simp <;> omega)).trans e1, r1.off _ _⟩, ⟨u2, L2, (cso (by simp <;> omega)).trans e2, r2.off _ _⟩⟩⟩
end Bd
end Go.Proofs.YtfefehkapffljaaGreatDoor
namespace Go.Proofs.YtfefehkapffljaaGreatDoor
open Go.RowKit
namespace Bd
open Fr
theorem drw (w : World) : Below w.heap.size w w.drew := ⟨rfl, rfl, rfl, Nat.le_refl _, fun _ _ => rfl⟩

set_option maxRecDepth 100000 in
set_option maxHeartbeats 4000000 in
theorem rgive_none (b : Nat) (N : Int) (F T : List Bl) (x : Bl) (w : World) (h : RB w b N F T) (hl : T.length ≤ 256) (hx : x ∉ T) :
    Calls Tryz.prog 137 #[ptr b, blkV x.1 x.2] w fun ev w' => ev = .returned (.int .i64 4) ∧ Below w.heap.size w w' := by
  obtain ⟨a, k⟩ := x
  simp only
  have B2 := h.a (blkO a k)
  have X2 := bx_new w (a, k)
  have F2 := ballo (Below.refl w.heap.size w) (blkO a k)
  have s2 : (w.alloc (blkO a k)).heap.size = w.heap.size + 1 := by simp
  clear h
  unfold ptr
  go_enter Tryz.func137, Tryz.ntmps137
  go_wp2_with fail
  generalize w.alloc (blkO a k) = W at *
  obtain ⟨v2, e2, l2⟩ := B2.c2
  have x0 := X2.c0
  have x1 := X2.c1
  simp only at x0 x1
  have HF := hide (find_any b v2 T (a, k) W.drew (l2.b ⟨rfl, rfl, rfl, Nat.le_refl _, fun _ _ => rfl⟩) hl)
  have KC := hide (fun w1 (hb : Below W.heap.size W.drew w1) => (⟨((bd hb).cell (p := ⟨b, 2, none⟩) B2.lt).trans e2, ((bd hb).cell (p := ⟨w.heap.size, 0, none⟩) X2.lt).trans X2.c0, ((bd hb).cell (p := ⟨w.heap.size, 1, none⟩) X2.lt).trans X2.c1⟩ : w1.cell? ⟨b, 2, none⟩ = some v2 ∧ w1.cell? ⟨w.heap.size, 0, none⟩ = some (.int .i64 a) ∧ w1.cell? ⟨w.heap.size, 1, none⟩ = some (.int .i64 k)))
  have HF := hide ((unhide HF).mono (R' := fun ev w' => Below W.heap.size W.drew w' ∧ ev = .returned (.int .i64 (-1))) (fun ev w' h => ⟨h.1, by
    rcases h.2 with h2 | ⟨q, hq, _, h3⟩
    · exact h2.1
    · exact absurd (by rw [← h3]; exact List.getElem_mem hq) hx⟩))
  go_region_held3 (fun w' => w'.cell? ⟨b, 2, none⟩ = some v2 ∧ w'.cell? ⟨w.heap.size, 0, none⟩ = some (.int .i64 a) ∧ w'.cell? ⟨w.heap.size, 1, none⟩ = some (.int .i64 k)) ((first | (go_keep; done) | (exact (unhide KC) _ (by assumption)))) ((go_at_call 177; refine (unhide HF).mono ?_; rintro ev w3 ⟨b3, rfl⟩))
  have B3 := B2.b (bd b3)
  have X3 := X2.b (bd b3)
  have F3 := F2.trans ((bd b3).mono (by omega))
  clear KC HF e2 l2 x0 x1 B2 X2 F2 b3
  have x0 := X3.c0
  have x1 := X3.c1
  simp only at x0 x1
  go_wp2
  go_ret
  exact ⟨rfl, F3⟩

set_option maxRecDepth 100000 in
set_option maxHeartbeats 8000000 in
theorem rgive_ok (b : Nat) (N : Int) (F T : List Bl) (x : Bl) (w : World) (h : RB w b N F T) (hi : Inv N F T) (hN : N ≤ 256) (hx : x ∈ T) :
    Calls Tryz.prog 137 #[ptr b, blkV x.1 x.2] w fun ev w' => ev = .returned (.int .i64 0) ∧ RB w' b N (giveF x F) (del x.1 T) ∧ Kept b b w w' := by
  have hl : T.length ≤ 256 := by
    have := srt_len hi.sT (a := 0) (b := 256) (fun z hz => by have := hi.small hN hz; omega)
    omega
  have HS := hide hi.sT
  have HBW := hide h.lt
  have HI0 := hide (hi.outT hx)
  obtain ⟨J, hJ⟩ : ∃ J, Hid (J = joinL (6 - x.2).toNat x F) := ⟨_, rfl⟩
  have hgf : giveF x F = ins J.1 J.2 := by unfold giveF; rw [unhide hJ]
  rw [hgf]
  clear hi hgf
  obtain ⟨a, k⟩ := x
  simp only at *
  have B2 := h.a (blkO a k)
  have X2 := bx_new w (a, k)
  have O2 := h.offNew (blkO a k)
  have F2 := ballo (Below.refl w.heap.size w) (blkO a k)
  have s2 : (w.alloc (blkO a k)).heap.size = w.heap.size + 1 := by simp
  clear h
  unfold ptr
  go_enter Tryz.func137, Tryz.ntmps137
  go_wp2_with fail
  generalize w.alloc (blkO a k) = W at *
  obtain ⟨v2, e2, l2⟩ := B2.c2
  have x0 := X2.c0
  have x1 := X2.c1
  simp only at x0 x1
  have HF := hide (find_any b v2 T (a, k) W.drew (l2.b ⟨rfl, rfl, rfl, Nat.le_refl _, fun _ _ => rfl⟩) hl)
  have KC := hide (fun w1 (hb : Below W.heap.size W.drew w1) => (⟨((bd hb).cell (p := ⟨b, 2, none⟩) B2.lt).trans e2, ((bd hb).cell (p := ⟨w.heap.size, 0, none⟩) X2.lt).trans X2.c0, ((bd hb).cell (p := ⟨w.heap.size, 1, none⟩) X2.lt).trans X2.c1⟩ : w1.cell? ⟨b, 2, none⟩ = some v2 ∧ w1.cell? ⟨w.heap.size, 0, none⟩ = some (.int .i64 a) ∧ w1.cell? ⟨w.heap.size, 1, none⟩ = some (.int .i64 k)))
  have HF := hide ((unhide HF).mono (R' := fun ev w' => Below W.heap.size W.drew w' ∧ ∃ q : Nat, ∃ hq : q < T.length, ev = .returned (.int .i64 q) ∧ T[q] = (a, k)) (fun ev w' h => ⟨h.1, by
    rcases h.2 with h2 | h2
    · exact absurd hx h2.2
    · exact h2⟩))
  go_region_held3 (fun w' => w'.cell? ⟨b, 2, none⟩ = some v2 ∧ w'.cell? ⟨w.heap.size, 0, none⟩ = some (.int .i64 a) ∧ w'.cell? ⟨w.heap.size, 1, none⟩ = some (.int .i64 k)) ((first | (go_keep; done) | (exact (unhide KC) _ (by assumption)))) ((go_at_call 177; refine (unhide HF).mono ?_; rintro ev w3 ⟨b3, q, hq, rfl, hTq⟩))
  have hqn : decide ((q : Int) < 0) = false := by simp
  have B3 := B2.b (bd b3)
  have X3 := X2.b (bd b3)
  have O3 := hide (O2.b B2.lt (bd b3))
  have F3 := F2.trans ((bd b3).mono (by omega))
  have e3 := ((unhide KC) w3 b3).1
  have l3 := l2.b (bd b3)
  clear KC HF e2 l2 x0 x1 B2 X2 O2 F2 b3
  have x0 := X3.c0
  have x1 := X3.c1
  simp only at x0 x1
  have ff := B3.f2
  have hbl3 := B3.lt
  have hcl3 := X3.lt
  have H25 := hide (without_all b v2 T q w3 l3 (unhide HS) hl hq)
  rw [show T[q].1 = a by rw [hTq]] at H25
  have B3H := hide B3
  have X3H := hide X3
  clear l3 B3 X3 hTq HS
  go_wp2_with fail
  refine (unhide H25).mono ?_
  rintro ev w4 ⟨p4, m4, c4, rfl, l4, b4⟩
  have y4 := (b4.cell (p := ⟨b, 2, none⟩) hbl3).trans e3
  have z4 := (b4.frozen (p := ⟨b, 2, none⟩) hbl3).trans ff
  have B4 := hide (((unhide B3H).b b4).putT (l4 b hbl3))
  have O4 := hide (((unhide B3H).b b4).offT ((unhide O3).b hbl3 b4) (l4 b hbl3) (l4 _ hcl3))
  have hbw : b < w.heap.size := unhide HBW
  have hxne : w.heap.size ≠ b := by omega
  have X4 := hide (((unhide X3H).b b4).off hxne 2 (.slice p4 m4 c4))
  have F4 := hide (((kept_of (F3.trans (b4.mono (by have := F3.size; omega))) : Kept b b w w4)).trans (kept_set w4 2 (.slice p4 m4 c4)))
  clear B3H X3H O3 F3 b4 e3 ff x0 x1 hbl3 hcl3 H25 l4
  go_wp2_with fail
  go_loopw [5] (fun _ wr => ∃ (y : Bl) (G : List Bl), Hid (HInv N G (del a T) y) ∧ Hid (J = joinL (6 - y.2).toNat y G) ∧ Hid (Bx wr w.heap.size y) ∧ Hid (RB wr b N G (del a T)) ∧ Hid (Off wr b w.heap.size) ∧ Kept b b w wr) (fun _ wr => (6 - RowKit.intOf ((wr.cell? ⟨w.heap.size, 1, none⟩).getD undef)).toNat)
  case atStart => exact ⟨(a, k), F, HI0, hJ, X4, B4, O4, unhide F4⟩
  case round =>
    clear B4 X4 O4 F4 HI0 hJ
    obtain ⟨⟨y1, y2⟩, G, hI, hJ, h3, hB, hO, hk⟩ := hrel
    have hIs := unhide hI
    have x0 := (unhide h3).c0
    have x1 := (unhide h3).c1
    simp only at x0 x1
    have hox := hIs.ox
    have hsmx := hIs.smallX hN
    unfold Okb at hox
    simp only at hox hsmx
    have HX1 := hide x1
    by_cases h6 : y2 = 6
    · have hJ6 : Hid (ins J.1 J.2 = ins (y1, y2) G) := by show _ = _; rw [unhide hJ, show (6 - y2).toNat = 0 by omega]; rfl
      have hd6 : decide (y2 < 6) = false := by simp; omega
      clear hI h3 hox hsmx h6 hJ
      have hlg : G.length ≤ 256 := by
        have := srt_len hIs.sF (a := 0) (b := 256) (fun z hz => by have h1 := hIs.inF hz; have h2 := pw_pos z.2; omega)
        omega
      have hoff : ∀ z ∈ G, z.1 ≠ y1 := fun z hz => by have h1 := hIs.offF hz; have h2 := pw_pos y2; simp only at h1; omega
      obtain ⟨v1, e1, l1⟩ := (unhide hB).c1
      have ff := (unhide hB).f1
      have hbl := (unhide hB).lt
      have HW := hide (fun w1 (hb : Below wr.heap.size wr w1) => with_any b v1 G (y1, y2) w1 (l1.b hb) hlg hoff (Nat.lt_of_lt_of_le hbl hb.size))
      have KE := hide (fun w1 (hb : Below wr.heap.size wr w1) => (⟨(hb.cell (p := ⟨b, 1, none⟩) hbl).trans e1, (hb.frozen (p := ⟨b, 1, none⟩) hbl).trans ff⟩ : w1.cell? ⟨b, 1, none⟩ = some v1 ∧ w1.frozen? ⟨b, 1, none⟩ = false))
      have BH := hide (unhide hB)
      have HLI := hide hIs
      clear l1 hB hoff hlg hIs
      go_wp2_with fail
      go_region_with ((go_at_call 134; refine ((unhide HW) _ (drw wr)).mono ?_; rintro ev w7 ⟨p7, m7, c7, rfl, l7, b7⟩; have f7 : Below wr.heap.size wr w7 := bd b7; have y8 := ((unhide KE) w7 f7).1; have z8 := ((unhide KE) w7 f7).2))
      all_goals
        have B7 := ((unhide BH).b f7).putF l7
        have F7 := hk.trans ((kept_of f7).trans (kept_set w7 1 (.slice p7 m7 c7)))
        clear HW KE BH y8 z8
        go_wp2
        go_ret
        exact ⟨rfl, by rw [unhide hJ6]; exact B7, F7⟩
    · have hy5 : y2 ≤ 5 := by omega
      have hal := (al_dvd y1 y2).2 hox.2.2
      have hd6 : decide (y2 < 6) = true := by simp; omega
      have HBU := hide (fun w => rbuddy_ok y1 y2 w hsmx.1 hsmx.2.1 hsmx.2.2.1 hy5 hal)
      have HPA := hide (fun w => rparent_ok y1 y2 w hsmx.1 hsmx.2.1 hsmx.2.2.1 hy5)
      have hJ2 : Hid (J = if (bud y1 y2, y2) ∈ G then joinL (6 - (y2 + 1)).toNat (par y1 y2, y2 + 1) (del (bud y1 y2) G) else ((y1, y2), G)) := by
        have := unhide hJ
        simp only at this
        rw [show (6 - y2).toNat = (6 - (y2 + 1)).toNat + 1 by omega] at this
        exact this
      have HIJ := hide (fun hm => HInv.join hIs (by omega) hm)
      have hlg : G.length ≤ 256 := by
        have := srt_len hIs.sF (a := 0) (b := 256) (fun z hz => by have h1 := hIs.inF hz; have h2 := pw_pos z.2; omega)
        omega
      have HSG := hide hIs.sF
      generalize bud y1 y2 = β at *
      generalize par y1 y2 = π at *
      obtain ⟨v1, e1, l1⟩ := (unhide hB).c1
      have hbl := (unhide hB).lt
      have hf1 := (unhide hB).f1
      have L1 := hide l1
      have XH := hide (unhide h3)
      have BH := hide (unhide hB)
      have HF := hide (fun w1 (hb : Below wr.heap.size wr w1) => find_any b v1 G (β, y2) w1 (l1.b hb) hlg)
      have KC := hide (fun w1 (hb : Below wr.heap.size wr w1) => (⟨(hb.cell (p := ⟨b, 1, none⟩) hbl).trans e1, (hb.cell (p := ⟨w.heap.size, 0, none⟩) (unhide XH).lt).trans (unhide XH).c0, (hb.cell (p := ⟨w.heap.size, 1, none⟩) (unhide XH).lt).trans (unhide XH).c1⟩ : w1.cell? ⟨b, 1, none⟩ = some v1 ∧ w1.cell? ⟨w.heap.size, 0, none⟩ = some (.int .i64 y1) ∧ w1.cell? ⟨w.heap.size, 1, none⟩ = some (.int .i64 y2)))
      clear l1 h3 hB hI hJ hox hal
      by_cases hm : (β, y2) ∈ G
      · rw [if_pos hm] at hJ2
        have HI2 := hide ((unhide HIJ) hm)
        have HF := hide (fun w1 hb => ((unhide HF) w1 hb).mono (R' := fun ev w' => Below w1.heap.size w1 w' ∧ ∃ q : Nat, ∃ hq : q < G.length, ev = .returned (.int .i64 q) ∧ G[q] = (β, y2)) (fun ev w' h => ⟨h.1, by
          rcases h.2 with h2 | h2
          · exact absurd hm h2.2
          · exact h2⟩))
        clear HIJ hIs
        go_wp2_with fail
        go_region_held3 (fun w' => w'.cell? ⟨b, 1, none⟩ = some v1 ∧ w'.cell? ⟨w.heap.size, 0, none⟩ = some (.int .i64 y1) ∧ w'.cell? ⟨w.heap.size, 1, none⟩ = some (.int .i64 y2)) ((first | (go_keep; done) | (exact (unhide KC) _ (by assumption)))) ((first
          | (go_at_call 135; refine ((unhide HBU) _).mono ?_; rintro ev w5 ⟨rfl, b5⟩; have f5 : Below wr.heap.size wr w5 := bd b5)
          | (go_at_call 177; refine ((unhide HF) w5 f5).mono ?_; rintro ev w6 ⟨b6, q, hq, rfl, hGq⟩; have f6 : Below wr.heap.size wr w6 := fwd f5 f5.size b6)))
        have hqn : decide ((q : Int) < 0) = false := by simp
        have e6 := ((unhide KC) w6 f6).1
        have hbl6 : b < w6.heap.size := Nat.lt_of_lt_of_le hbl f6.size
        have ff6 := (f6.frozen (p := ⟨b, 1, none⟩) hbl).trans hf1
        have H25 := without_all b v1 G q w6 ((unhide L1).b f6) (unhide HSG) hlg hq
        rw [show G[q].1 = β by rw [hGq]] at H25
        have H25 := hide H25
        have X6 := hide ((unhide XH).b f6)
        have O6 := hide ((unhide hO).b hbl f6)
        have B6 := hide ((unhide BH).b f6)
        have F6 := hide (hk.trans (kept_of f6))
        clear KC HF HBU L1 XH BH f5 b5 b6 hGq e1 hf1 x0 x1
        go_wp2_with fail
        refine (unhide H25).mono ?_
        rintro ev w7 ⟨p7, m7, c7, rfl, l7, b7⟩
        have y7 := (b7.cell (p := ⟨b, 1, none⟩) hbl6).trans e6
        have z7 := (b7.frozen (p := ⟨b, 1, none⟩) hbl6).trans ff6
        have B7 := hide (((unhide B6).b b7).putF (l7 b hbl6))
        have O7 := hide (((unhide B6).b b7).offF ((unhide O6).b hbl6 b7) (l7 b hbl6) (l7 _ (unhide X6).lt))
        have X7 := hide (((unhide X6).b b7).off hxne 1 (.slice p7 m7 c7))
        have F7 := hide ((unhide F6).trans ((kept_of b7).trans (kept_set w7 1 (.slice p7 m7 c7))))
        clear H25 B6 X6 F6 O6 e6 ff6 b7 l7
        have x0 := (unhide X7).c0
        have x1 := (unhide X7).c1
        simp only at x0 x1
        go_wp2_with fail
        refine ((unhide HPA) _).mono ?_
        rintro ev w8 ⟨rfl, b8⟩
        have O8 := (unhide O7).b (unhide B7).lt b8
        have B8 := (unhide B7).b b8
        have X8 := (unhide X7).b b8
        have F8 := (unhide F7).trans (kept_of b8)
        have hxl : w.heap.size ≤ w8.heap.size := F8.size
        clear B7 X7 F7 O7 x0 x1 y7 z7
        have x0 := X8.c0
        have x1 := X8.c1
        have x2 := X8.f0
        have x3 := X8.f1
        simp only at x0 x1
        go_wp2
        go_roundw
        case rel =>
          have bb := B8.box O8 hxne 0 (.int .i64 π)
          have bb2 := bb.1.box bb.2 hxne 1 (.int .i64 (y2 + 1))
          exact ⟨(π, y2 + 1), del β G, HI2, hJ2, hide (X8.set (π, y2 + 1)), hide bb2.1, hide bb2.2, (F8.setNew (Nat.le_refl _) _ _).setNew (Nat.le_refl _) _ _⟩
        case measure =>
          have m1 : ((w8.setCell ⟨w.heap.size, 0, none⟩ (.int .i64 π)).setCell ⟨w.heap.size, 1, none⟩ (.int .i64 (y2 + 1))).cell? ⟨w.heap.size, 1, none⟩ = some (.int .i64 (y2 + 1)) := css (u := .int .i64 y2) (by rw [cso (by simp)]; exact x1)
          rw [m1, unhide HX1]; simp [RowKit.intOf]; omega
      · rw [if_neg hm] at hJ2
        have hJ6 : Hid (ins J.1 J.2 = ins (y1, y2) G) := by show _ = _; rw [unhide hJ2]
        have HF := hide (fun w1 hb => ((unhide HF) w1 hb).mono (R' := fun ev w' => Below w1.heap.size w1 w' ∧ ev = .returned (.int .i64 (-1))) (fun ev w' h => ⟨h.1, by
          rcases h.2 with h2 | ⟨q, hq, _, h3⟩
          · exact h2.1
          · exact absurd (by rw [← h3]; exact List.getElem_mem hq) hm⟩))
        have hoff := hide (fun (z : Bl) (hz : z ∈ G) => (by have h1 := hIs.offF hz; have h2 := pw_pos y2; simp only at h1; omega : z.1 ≠ y1))
        clear HIJ hIs hJ2
        go_wp2_with fail
        go_region_held3 (fun w' => w'.cell? ⟨b, 1, none⟩ = some v1 ∧ w'.cell? ⟨w.heap.size, 0, none⟩ = some (.int .i64 y1) ∧ w'.cell? ⟨w.heap.size, 1, none⟩ = some (.int .i64 y2)) ((first | (go_keep; done) | (exact (unhide KC) _ (by assumption)))) ((first
          | (go_at_call 135; refine ((unhide HBU) _).mono ?_; rintro ev w5 ⟨rfl, b5⟩; have f5 : Below wr.heap.size wr w5 := bd b5)
          | (go_at_call 177; refine ((unhide HF) w5 f5).mono ?_; rintro ev w6 ⟨b6, rfl⟩; have f6 : Below wr.heap.size wr w6 := fwd f5 f5.size b6)))
        have e1 := ((unhide KC) w6 f6).1
        have hbl6 : b < w6.heap.size := Nat.lt_of_lt_of_le hbl f6.size
        have ff := (f6.frozen (p := ⟨b, 1, none⟩) hbl).trans hf1
        have l1 := (unhide L1).b f6
        have X6 := (unhide XH).b f6
        have BH6 := hide ((unhide BH).b f6)
        have hk6 := hk.trans (kept_of f6)
        clear KC HF HBU L1 XH BH f5 b5 b6 hf1 x0 x1
        have x0 := X6.c0
        have x1 := X6.c1
        simp only at x0 x1
        have HW := hide (fun w1 (hb : Below w6.heap.size w6 w1) => with_any b v1 G (y1, y2) w1 (l1.b hb) hlg (unhide hoff) (Nat.lt_of_lt_of_le hbl6 hb.size))
        have KE := hide (fun w1 (hb : Below w6.heap.size w6 w1) => (⟨(hb.cell (p := ⟨b, 1, none⟩) hbl6).trans e1, (hb.frozen (p := ⟨b, 1, none⟩) hbl6).trans ff⟩ : w1.cell? ⟨b, 1, none⟩ = some v1 ∧ w1.frozen? ⟨b, 1, none⟩ = false))
        clear l1 hoff X6
        go_wp2_with fail
        go_region_with ((go_at_call 134; refine ((unhide HW) _ (drw w6)).mono ?_; rintro ev w7 ⟨p7, m7, c7, rfl, l7, b7⟩; have f7 : Below w6.heap.size w6 w7 := bd b7; have y8 := ((unhide KE) w7 f7).1; have z8 := ((unhide KE) w7 f7).2))
        all_goals
          have B7 := ((unhide BH6).b f7).putF l7
          have F7 := hk6.trans ((kept_of f7).trans (kept_set w7 1 (.slice p7 m7 c7)))
          clear HW KE BH6 y8 z8
          go_wp2
          go_ret
          exact ⟨rfl, by rw [unhide hJ6]; exact B7, F7⟩
end Bd
end Go.Proofs.YtfefehkapffljaaGreatDoor
