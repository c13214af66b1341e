/- The document's answer's buddies in memory; its Split. -/
import Derived.Test.YtdmeoooimnfmaaaGreatDoorR2
import Derived.Test.YtdmeoooimnfmaaaGreatDoorR3
import Derived.Test.YtdmeoooimnfmaaaGreatDoorGive
namespace Go.Proofs.YtdmeoooimnfmaaaGreatDoor
open Go.RowKit
namespace Bd
open Fr
/-- A list in a slice whose row lies elsewhere than in the block b. -/
def RL (w : World) (b : Nat) (v : Value) (L : List Bl) : Prop :=
  (L = [] ∧ v = .slice none 0 0) ∨ ∃ g c, v = .slice (some ⟨g, 0, none⟩) L.length c ∧ g ≠ b ∧ L.length ≤ c ∧ c ≤ maxLen ∧ L ≠ [] ∧ Row w g L
theorem RL.lies {w : World} {b : Nat} {v : Value} {L : List Bl} (h : RL w b v L) : Lies w v L := by
  rcases h with h | ⟨g, c, hv, _, h1, h2, h3, hr⟩
  · exact Or.inl h
  · exact Or.inr ⟨g, c, hv, hr.lt, h3, h1, h2, hr.c⟩
theorem RL.b {w w' : World} {b : Nat} {v : Value} {L : List Bl} (h : RL w b v L) (hb : Below w.heap.size w w') : RL w' b v L := by
  rcases h with h | ⟨g, c, hv, h0, h1, h2, h3, hr⟩
  · exact Or.inl h
  · exact Or.inr ⟨g, c, hv, h0, h1, h2, h3, hr.b hb⟩
theorem Row.off {w : World} {g b : Nat} {L : List Bl} (h : Row w g L) (hne : g ≠ b) (o : Nat) (v : Value) : Row (w.setCell ⟨b, o, none⟩ v) g L :=
  ⟨fun i hi => ⟨(cso (by simp <;> omega)).trans (h.c i hi).1, (cso (by simp <;> omega)).trans (h.c i hi).2⟩, fun o' ho => by simp only [World.frozen?_setCell]; exact h.fz o' ho, by simpa [World.setCell] using h.lt⟩
theorem RL.off {w : World} {b : Nat} {v : Value} {L : List Bl} (h : RL w b v L) (o : Nat) (u : Value) : RL (w.setCell ⟨b, o, none⟩ u) b v L := by
  rcases h with h | ⟨g, c, hv, h0, h1, h2, h3, hr⟩
  · exact Or.inl h
  · exact Or.inr ⟨g, c, hv, h0, h1, h2, h3, hr.off h0 o u⟩
theorem rl_of {w : World} {B b : Nat} {v : Value} {L : List Bl} (h : w.ownsRow B 33 2 v L.length (flat L)) (hn : L = [] → v = .slice none 0 0) (hb : b < B) : RL w b v L := by
  by_cases hL : L = []
  · exact Or.inl ⟨hL, hn hL⟩
  · obtain ⟨g, cap, hv, hg, h1, h2, hr⟩ := row_of h hL
    exact Or.inr ⟨g, cap, hv, by omega, h1, h2, hL, hr⟩
structure RB (w : World) (b : Nat) (N : Int) (F T : List Bl) : Prop where
  c0 : w.cell? ⟨b, 0, none⟩ = some (.int .i64 N)
  c1 : ∃ v, w.cell? ⟨b, 1, none⟩ = some v ∧ RL w b v F
  c2 : ∃ v, w.cell? ⟨b, 2, none⟩ = some v ∧ RL w b v T
  f1 : w.frozen? ⟨b, 1, none⟩ = false
  f2 : w.frozen? ⟨b, 2, none⟩ = false
  lt : b < w.heap.size
theorem RB.b {w w' : World} {b : Nat} {N : Int} {F T : List Bl} (h : RB w b N F T) (hb : Below w.heap.size w w') : RB w' b N F T := by
  obtain ⟨v1, e1, l1⟩ := h.c1
  obtain ⟨v2, e2, l2⟩ := h.c2
  exact ⟨(hb.cell (p := ⟨b, 0, none⟩) h.lt).trans h.c0, ⟨v1, (hb.cell (p := ⟨b, 1, none⟩) h.lt).trans e1, l1.b hb⟩, ⟨v2, (hb.cell (p := ⟨b, 2, none⟩) h.lt).trans e2, l2.b hb⟩, (hb.frozen (p := ⟨b, 1, none⟩) h.lt).trans h.f1, (hb.frozen (p := ⟨b, 2, none⟩) h.lt).trans h.f2, Nat.lt_of_lt_of_le h.lt hb.size⟩
theorem RB.a {w : World} {b : Nat} {N : Int} {F T : List Bl} (h : RB w b N F T) (o : Obj) : RB (w.alloc o) b N F T := h.b (ballo (Below.refl _ _) o)
theorem RB.d {w : World} {b : Nat} {N : Int} {F T : List Bl} (h : RB w b N F T) : RB w.drew b N F T := h.b ⟨rfl, rfl, rfl, Nat.le_refl _, fun _ _ => rfl⟩
theorem RB.putF {w : World} {b : Nat} {N : Int} {F F' T : List Bl} {v : Value} (h : RB w b N F T) (hv : RL w b v F') : RB (w.setCell ⟨b, 1, none⟩ v) b N F' T := by
  obtain ⟨v1, e1, l1⟩ := h.c1
  obtain ⟨v2, e2, l2⟩ := h.c2
  exact ⟨(cso (by simp)).trans h.c0, ⟨v, css e1, hv.off _ _⟩, ⟨v2, (cso (by simp)).trans e2, l2.off _ _⟩, by simp only [World.frozen?_setCell]; exact h.f1, by simp only [World.frozen?_setCell]; exact h.f2, by simpa [World.setCell] using h.lt⟩
theorem RB.putT {w : World} {b : Nat} {N : Int} {F T T' : List Bl} {v : Value} (h : RB w b N F T) (hv : RL w b v T') : RB (w.setCell ⟨b, 2, none⟩ v) b N F T' := by
  obtain ⟨v1, e1, l1⟩ := h.c1
  obtain ⟨v2, e2, l2⟩ := h.c2
  exact ⟨(cso (by simp)).trans h.c0, ⟨v1, (cso (by simp)).trans e1, l1.off _ _⟩, ⟨v, css e2, hv.off _ _⟩, by simp only [World.frozen?_setCell]; exact h.f1, by simp only [World.frozen?_setCell]; exact h.f2, by simpa [World.setCell] using h.lt⟩

theorem rl_slice {w : World} {b : Nat} {v : Value} {L : List Bl} (h : RL w b v L) : ∃ p m c, v = .slice p m c ∧ RL w b (.slice p m c) L := by
  have h' := h
  rcases h with ⟨_, rfl⟩ | ⟨g, c, rfl, _⟩
  · exact ⟨_, _, _, rfl, h'⟩
  · exact ⟨_, _, _, rfl, h'⟩
/-- 'with', whatever the list. -/
theorem with_any (b : Nat) (v : Value) (L : List Bl) (x : Bl) (w : World) (h : RL w b v L) (hl : L.length ≤ 256) (hx : ∀ y ∈ L, y.1 ≠ x.1) (hb : b < w.heap.size) :
    Calls Tryz.prog 26 #[v, blkV x.1 x.2] w fun ev w' => ∃ p m c, ev = .returned (.slice p m c) ∧ RL w' b (.slice p m c) (ins x L) ∧ Below w.heap.size w w' := by
  rcases h with ⟨hL, rfl⟩ | ⟨g, c, rfl, _, h1, h2, h3, hr⟩
  · subst hL
    refine (with_nil x w).mono ?_
    rintro ev w' ⟨v', rfl, ho, hn, hbl⟩
    obtain ⟨p, m, c, rfl, hh⟩ := rl_slice (rl_of ho hn hb)
    exact ⟨p, m, c, rfl, hh, hbl⟩
  · refine (with_ok g c L x w hr (List.length_pos_iff.2 h3) hl h1 h2 hx).mono ?_
    rintro ev w' ⟨v', rfl, ho, hn, hbl⟩
    obtain ⟨p, m, c, rfl, hh⟩ := rl_slice (rl_of ho hn hb)
    exact ⟨p, m, c, rfl, hh, hbl⟩
theorem without_any (b : Nat) (v : Value) (L : List Bl) (k : Nat) (w : World) (h : RL w b v L) (hs : Srt L) (hl : L.length ≤ 256) (hk : k < L.length) (hb : b < w.heap.size) :
    Calls Tryz.prog 25 #[v, .int .i64 k] w fun ev w' => ∃ p m c, ev = .returned (.slice p m c) ∧ RL w' b (.slice p m c) (del L[k].1 L) ∧ Below w.heap.size w w' := by
  rcases h with ⟨hL, _⟩ | ⟨g, c, rfl, _, h1, h2, h3, hr⟩
  · subst hL; simp at hk
  · refine (without_ok g c k L w hr hl h1 h2 hk).mono ?_
    rintro ev w' ⟨v', rfl, ho, hn, hbl⟩
    rw [erase_del hs hk] at ho hn
    obtain ⟨p, m, c, rfl, hh⟩ := rl_slice (rl_of ho hn hb)
    exact ⟨p, m, c, rfl, hh, hbl⟩
theorem fiN_is : ∀ (L : List Bl) (y : Bl) (n : Nat), (fiN L y n = -1 ∧ y ∉ L) ∨ ∃ k, ∃ h : k < L.length, fiN L y n = (n + k : Nat) ∧ L[k] = y
  | [], y, n => Or.inl ⟨rfl, by simp⟩
  | x :: l, y, n => by
    unfold fiN
    by_cases h : x = y
    · rw [if_pos h]; exact Or.inr ⟨0, by simp, by simp, h⟩
    · rw [if_neg h]
      rcases fiN_is l y (n + 1) with ⟨h1, h2⟩ | ⟨k, hk, h1, h2⟩
      · exact Or.inl ⟨h1, by simp; exact ⟨fun e => h e.symm, h2⟩⟩
      · exact Or.inr ⟨k + 1, by simpa using hk, by rw [h1]; congr 1; omega, by simpa using h2⟩
/-- 'find'. -/
theorem find_any (b : Nat) (v : Value) (L : List Bl) (x : Bl) (w : World) (h : RL w b v L) (hl : L.length ≤ 256) :
    Calls Tryz.prog 30 #[v, blkV x.1 x.2] w fun ev w' => Below w.heap.size w w' ∧ ((ev = .returned (.int .i64 (-1)) ∧ x ∉ L) ∨ ∃ k : Nat, ∃ hk : k < L.length, ev = .returned (.int .i64 k) ∧ L[k] = x) := by
  refine (find_ok v L x.1 x.2 w (by omega) h.lies).mono ?_
  rintro ev w' ⟨rfl, hb⟩
  refine ⟨hb, ?_⟩
  rcases fiN_is L x 0 with ⟨h1, h2⟩ | ⟨k, hk, h1, h2⟩
  · exact Or.inl ⟨by rw [show ((x.1, x.2) : Bl) = x from rfl, h1], h2⟩
  · exact Or.inr ⟨k, hk, by rw [show ((x.1, x.2) : Bl) = x from rfl, h1]; simp, h2⟩
end Bd
end Go.Proofs.YtdmeoooimnfmaaaGreatDoor
