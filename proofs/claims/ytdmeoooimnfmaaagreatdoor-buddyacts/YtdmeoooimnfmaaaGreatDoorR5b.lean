/- The document's answer's lists in memory: blocks beside which they lie. -/
import Derived.Test.YtdmeoooimnfmaaaGreatDoorR5
namespace Go.Proofs.YtdmeoooimnfmaaaGreatDoor
open Go.RowKit
namespace Bd
open Fr
/-- 'with', whatever the list: what it lays lies beside all that was. -/
theorem with_all (b : Nat) (v : Value) (L : List Bl) (x : Bl) (w : World) (h : RL w b v L) (hl : L.length ≤ 256) (hx : ∀ y ∈ L, y.1 ≠ x.1) :
    Calls Tryz.prog 26 #[v, blkV x.1 x.2] w fun ev w' => ∃ p m c, ev = .returned (.slice p m c) ∧ (∀ b', b' < w.heap.size → RL w' b' (.slice p m c) (ins x L)) ∧ Below w.heap.size w w' := by
  have key : ∀ (w' : World) v', w'.ownsRow w.heap.size 33 2 v' (ins x L).length (flat (ins x L)) → (ins x L = [] → v' = .slice none 0 0) → ∃ p m c, v' = .slice p m c ∧ ∀ b', b' < w.heap.size → RL w' b' (.slice p m c) (ins x L) := by
    intro w' v' ho hn
    by_cases h0 : 0 < w.heap.size
    · obtain ⟨p, m, c, rfl, _⟩ := rl_slice (rl_of ho hn h0)
      exact ⟨p, m, c, rfl, fun b' hb' => rl_of ho hn hb'⟩
    · by_cases hL : ins x L = []
      · exact ⟨none, 0, 0, hn hL, fun b' hb' => absurd hb' (by omega)⟩
      · obtain ⟨g, cap, hv, _⟩ := row_of ho hL
        exact ⟨_, _, _, hv, fun b' hb' => absurd hb' (by omega)⟩
  rcases h with ⟨hL, rfl⟩ | ⟨g, c, rfl, _, h1, h2, h3, hr⟩
  · subst hL
    refine (with_nil x w).mono ?_
    rintro ev w' ⟨v', rfl, ho, hn, hbl⟩
    obtain ⟨p, m, c, rfl, hh⟩ := key w' v' ho hn
    exact ⟨p, m, c, rfl, hh, hbl⟩
  · refine (with_ok g c L x w hr (List.length_pos_iff.2 h3) hl h1 h2 hx).mono ?_
    rintro ev w' ⟨v', rfl, ho, hn, hbl⟩
    obtain ⟨p, m, c, rfl, hh⟩ := key w' v' ho hn
    exact ⟨p, m, c, rfl, hh, hbl⟩
theorem without_all (b : Nat) (v : Value) (L : List Bl) (k : Nat) (w : World) (h : RL w b v L) (hs : Srt L) (hl : L.length ≤ 256) (hk : k < L.length) :
    Calls Tryz.prog 25 #[v, .int .i64 k] w fun ev w' => ∃ p m c, ev = .returned (.slice p m c) ∧ (∀ b', b' < w.heap.size → RL w' b' (.slice p m c) (del L[k].1 L)) ∧ Below w.heap.size w w' := by
  rcases h with ⟨hL, _⟩ | ⟨g, c, rfl, _, h1, h2, h3, hr⟩
  · subst hL; simp at hk
  · have hpos : 0 < w.heap.size := Nat.lt_of_le_of_lt (Nat.zero_le _) hr.lt
    refine (without_ok g c k L w hr hl h1 h2 hk).mono ?_
    rintro ev w' ⟨v', rfl, ho, hn, hbl⟩
    rw [erase_del hs hk] at ho hn
    obtain ⟨p, m, c, rfl, hh⟩ := rl_slice (rl_of ho hn hpos)
    exact ⟨p, m, c, rfl, fun b' hb' => rl_of ho hn hb', hbl⟩
/-- The lists of b lie beside the block c. -/
structure Off (w : World) (b c : Nat) : Prop where
  o1 : ∃ v L, w.cell? ⟨b, 1, none⟩ = some v ∧ RL w c v L
  o2 : ∃ v L, w.cell? ⟨b, 2, none⟩ = some v ∧ RL w c v L
theorem Off.b {w w' : World} {b c : Nat} (h : Off w b c) (hl : b < w.heap.size) (hb : Below w.heap.size w w') : Off w' b c := by
  obtain ⟨v1, L1, e1, r1⟩ := h.o1
  obtain ⟨v2, L2, e2, r2⟩ := h.o2
  exact ⟨⟨v1, L1, (hb.cell (p := ⟨b, 1, none⟩) hl).trans e1, r1.b hb⟩, ⟨v2, L2, (hb.cell (p := ⟨b, 2, none⟩) hl).trans e2, r2.b hb⟩⟩
theorem RL.off2 {w : World} {b c : Nat} {v : Value} {L M : List Bl} (h : RL w c v L) (h2 : RL w b v M) (o : Nat) (u : Value) : RL (w.setCell ⟨b, o, none⟩ u) c v L := by
  rcases h with h | ⟨g, c, rfl, h0, h1, h2', h3, hr⟩
  · exact Or.inl h
  · rcases h2 with ⟨_, hv⟩ | ⟨g', c', hv, h0', _⟩
    · cases hv
    · have e : g' = g := by
        have := hv
        simp only [Value.slice.injEq, Option.some.injEq, Addr.mk.injEq] at this
        exact this.1.1.symm
      exact Or.inr ⟨g, _, rfl, h0, h1, h2', h3, hr.off (e ▸ h0') o u⟩
theorem RB.offF {w : World} {b c : Nat} {N : Int} {F F' T : List Bl} {v : Value} (h : RB w b N F T) (ho : Off w b c) (hv : RL w b v F') (hc : RL w c v F') : Off (w.setCell ⟨b, 1, none⟩ v) b c := by
  obtain ⟨v2, L2, e2, r2⟩ := ho.o2
  obtain ⟨v3, e3, l3⟩ := h.c2
  have e : v2 = v3 := Option.some.inj (e2.symm.trans e3)
  subst e
  obtain ⟨v1, e1, l1⟩ := h.c1
  exact ⟨⟨v, F', css e1, hc.off2 hv _ _⟩, ⟨v2, L2, (cso (by simp)).trans e2, r2.off2 l3 _ _⟩⟩
theorem RB.offT {w : World} {b c : Nat} {N : Int} {F T T' : List Bl} {v : Value} (h : RB w b N F T) (ho : Off w b c) (hv : RL w b v T') (hc : RL w c v T') : Off (w.setCell ⟨b, 2, none⟩ v) b c := by
  obtain ⟨v1, L1, e1, r1⟩ := ho.o1
  obtain ⟨v3, e3, l3⟩ := h.c1
  have e : v1 = v3 := Option.some.inj (e1.symm.trans e3)
  subst e
  obtain ⟨v2, e2, l2⟩ := h.c2
  exact ⟨⟨v1, L1, (cso (by simp)).trans e1, r1.off2 l3 _ _⟩, ⟨v, T', css e2, hc.off2 hv _ _⟩⟩
theorem RB.offNew {w : World} {b : Nat} {N : Int} {F T : List Bl} (h : RB w b N F T) (o : Obj) : Off (w.alloc o) b w.heap.size := by
  obtain ⟨v1, e1, l1⟩ := h.c1
  obtain ⟨v2, e2, l2⟩ := h.c2
  have key : ∀ v L, RL w b v L → RL w w.heap.size v L := by
    intro v L h
    rcases h with h | ⟨g, c, hv, h0, h1, h2, h3, hr⟩
    · exact Or.inl h
    · exact Or.inr ⟨g, c, hv, Nat.ne_of_lt hr.lt, h1, h2, h3, hr⟩
  have hb := ballo (Below.refl w.heap.size w) o
  exact ⟨⟨v1, F, (hb.cell (p := ⟨b, 1, none⟩) h.lt).trans e1, (key _ _ l1).b hb⟩, ⟨v2, T, (hb.cell (p := ⟨b, 2, none⟩) h.lt).trans e2, (key _ _ l2).b hb⟩⟩
/-- A store into another block. -/
theorem RB.box {w : World} {b c : Nat} {N : Int} {F T : List Bl} (h : RB w b N F T) (ho : Off w b c) (hbc : c ≠ b) (o : Nat) (u : Value) : RB (w.setCell ⟨c, o, none⟩ u) b N F T ∧ Off (w.setCell ⟨c, o, none⟩ u) b c := by
  obtain ⟨v1, e1, l1⟩ := h.c1
  obtain ⟨v2, e2, l2⟩ := h.c2
  obtain ⟨u1, L1, g1, r1⟩ := ho.o1
  obtain ⟨u2, L2, g2, r2⟩ := ho.o2
  have q1 : u1 = v1 := Option.some.inj (g1.symm.trans e1)
  have q2 : u2 = v2 := Option.some.inj (g2.symm.trans e2)
  subst q1
  subst q2
  exact ⟨⟨(cso (by simp <;> omega)).trans h.c0, ⟨u1, (cso (by simp <;> omega)).trans e1, l1.off2 r1 _ _⟩, ⟨u2, (cso (by simp <;> omega)).trans e2, l2.off2 r2 _ _⟩, by simp only [World.frozen?_setCell]; exact h.f1, by simp only [World.frozen?_setCell]; exact h.f2, by simpa [World.setCell] using h.lt⟩,
    ⟨⟨u1, L1, (cso (by simp <;> omega)).trans e1, r1.off _ _⟩, ⟨u2, L2, (cso (by simp <;> omega)).trans e2, r2.off _ _⟩⟩⟩
end Bd
end Go.Proofs.YtdmeoooimnfmaaaGreatDoor
