/- The contracts of the document's answer's own list functions of chapter 2: find, without, with · The contracts of the document's answer's own list functions of chapter 2: find, without, with · The contract of package buddy's join: a block and its buddies, as long as they are free, are one · The contracts of package buddy's Give and Split · The document's answer's buddies in memory; its Split · The document's answer's lists in memory: blocks beside which they lie · The document's answer's own Give · The contract of package buddy's Take · The contract of package buddy's Take, where a block is had. -/
import Derived.Test.YtcbmfakjfoggaaaGreatDoorG05
import Derived.Test.YtcbmfakjfoggaaaGreatDoorG02
import Derived.Test.YtcbmfakjfoggaaaGreatDoorG03
import Derived.Test.YtcbmfakjfoggaaaGreatDoorG00
import Derived.Laws.AppendOwnNone
import Derived.Test.YtcbmfakjfoggaaaGreatDoorG04
namespace Go.Proofs.YtcbmfakjfoggaaaGreatDoor
open Go.RowKit
namespace Bd
open Fr
theorem flat_append (a b : List Bl) : flat (a ++ b) = flat a ++ flat b := by simp [flat]
theorem add_at (g o j : Nat) : ((⟨g, o, none⟩ : Addr).add j) = ⟨g, o + j, none⟩ := by
  by_cases h : j = 0
  · subst h; simp [Addr.add]
  · simp [Addr.add, h]
end Bd
end Go.Proofs.YtcbmfakjfoggaaaGreatDoor
namespace Go.Proofs.YtcbmfakjfoggaaaGreatDoor
open Go.RowKit
namespace Fr

/-- The worlds of a loop that only reads. -/
def Same (w w' : World) : Prop := w'.heap = w.heap ∧ w'.os = w.os ∧ w'.tape = w.tape ∧ w'.output = w.output
theorem Same.refl (w : World) : Same w w := ⟨rfl, rfl, rfl, rfl⟩
theorem Same.below {w w' : World} (h : Same w w') : Below w.heap.size w w' := ⟨h.2.1, h.2.2.1, h.2.2.2, by rw [h.1]; exact Nat.le_refl _, fun k _ => by rw [h.1]⟩
theorem Same.cell {w w' : World} (h : Same w w') (a : Addr) : w'.cell? a = w.cell? a := by simp [World.cell?, h.1]

end Fr
end Go.Proofs.YtcbmfakjfoggaaaGreatDoor
namespace Go.Proofs.YtcbmfakjfoggaaaGreatDoor
open Go.RowKit Go.Maps
namespace Bd
open Fr
def joinL : Nat → Bl → List Bl → Bl × List Bl
  | 0, x, F => (x, F)
  | n + 1, x, F => if (bud x.1 x.2, x.2) ∈ F then joinL n (par x.1 x.2, x.2 + 1) (del (bud x.1 x.2) F) else (x, F)
/-- Give a block back: what is free then. -/
def giveF (x : Bl) (F : List Bl) : List Bl := ins (joinL (6 - x.2).toNat x F).1 (joinL (6 - x.2).toNat x F).2
theorem Mp.d {w : World} {m : Nat} {L : List Bl} (h : Mp w m L) : Mp w.drew m L := h.blk rfl

/-- What a cell holds stays, while maps turn. -/
theorem cell_kept {A B : Nat} {w w' : World} {p : Addr} {v : Value} {LA LB : List Bl} (h : w.cell? p = some v) (hA : Mp w A LA) (hB : Mp w B LB) (hk : Kept A B w w') : w'.cell? p = some v := by
  have hlt := World.block_lt_of_cell? w p h
  have ne : ∀ C LC, Mp w C LC → p.block ≠ C := fun C LC hC e => by
    obtain ⟨⟨es, clock, h1, _⟩, _, _⟩ := hC
    rw [← e] at h1
    simp [World.cell?, h1] at h
  exact (hk.cell hlt (ne A LA hA) (ne B LB hB)).trans h
theorem ne_map {w : World} {A : Nat} {p : Addr} {v : Value} {LA : List Bl} (h : w.cell? p = some v) (hA : Mp w A LA) : p.block ≠ A := fun e => by
  obtain ⟨⟨es, clock, h1, _⟩, _, _⟩ := hA
  rw [← e] at h1
  simp [World.cell?, h1] at h
theorem Bx.k {A B : Nat} {w w' : World} {c : Nat} {x : Bl} {LA LB : List Bl} (h : Bx w c x) (hA : Mp w A LA) (hB : Mp w B LB) (hk : Kept A B w w') : Bx w' c x := by
  have e := hk.block c h.lt (ne_map h.c0 hA) (ne_map h.c0 hB)
  exact ⟨(World.cell?_of_block (w := w) e).trans h.c0, (World.cell?_of_block (w := w) e).trans h.c1, (World.frozen?_of_block (w := w) e).trans h.f0, (World.frozen?_of_block (w := w) e).trans h.f1, Nat.lt_of_lt_of_le h.lt hk.size⟩
theorem Bud.blk {w w' : World} {b fm tm : Nat} {N : Int} {F T : List Bl} (h : Bud w b fm tm N F T) (hs : w.heap.size ≤ w'.heap.size) (e1 : w'.heap[b]? = w.heap[b]?) (e2 : w'.heap[fm]? = w.heap[fm]?) (e3 : w'.heap[tm]? = w.heap[tm]?) : Bud w' b fm tm N F T :=
  ⟨(World.cell?_of_block (w := w) e1).trans h.c0, (World.cell?_of_block (w := w) e1).trans h.c1, (World.cell?_of_block (w := w) e1).trans h.c2, h.f.blk e2, h.t.blk e3, h.n1, h.n2, h.n3, Nat.lt_of_lt_of_le h.lt hs⟩
theorem Bud.set {w : World} {b fm tm : Nat} {N : Int} {F T : List Bl} (h : Bud w b fm tm N F T) {c : Nat} (n1 : b ≠ c) (n2 : fm ≠ c) (n3 : tm ≠ c) (o : Nat) (v : Value) : Bud (w.setCell ⟨c, o, none⟩ v) b fm tm N F T :=
  h.blk (by simp [World.setCell]) (Below.heap_setCell _ _ _ _ n1) (Below.heap_setCell _ _ _ _ n2) (Below.heap_setCell _ _ _ _ n3)
theorem Bud.d {w : World} {b fm tm : Nat} {N : Int} {F T : List Bl} (h : Bud w b fm tm N F T) : Bud w.drew b fm tm N F T := h.blk (Nat.le_refl _) rfl rfl rfl
theorem Kept.setNew {A B : Nat} {w w' : World} (h : Kept A B w w') {c : Nat} (hc : w.heap.size ≤ c) (o : Nat) (v : Value) : Kept A B w (w'.setCell ⟨c, o, none⟩ v) :=
  ⟨h.os, h.tape, h.output, by simpa [World.setCell] using h.size, fun k hk h1 h2 => (Below.heap_setCell _ _ _ _ (by simp only; omega)).trans (h.block k hk h1 h2)⟩
theorem Kept.d {A B : Nat} {w w' : World} (h : Kept A B w w') : Kept A B w w'.drew := ⟨h.os, h.tape, h.output, h.size, h.block⟩
theorem bd {w w' : World} (h : Below w.heap.size w.drew w') : Below w.heap.size w w' := ⟨h.os, h.tape, h.output, h.size, h.block⟩
theorem kd {A B : Nat} {w w' : World} (h : Kept A B w.drew w') : Kept A B w w' := ⟨h.os, h.tape, h.output, h.size, h.block⟩
/-- A key is taken out of a map. -/
theorem del_run (m : Nat) (L : List Bl) (a : Int) (w : World) (h : Mp w m L) (h0 : 0 ≤ a) (h1 : a < 256) (ty : TypeId) :
    ∃ w', (Builtin.delete_ #[325, 3] ty #[.map (some m), .int .i64 a]).run Tryz.prog w = .ok (.tuple #[]) w' ∧ Mp w' m (del a L) ∧ Kept m m w w' := by
  obtain ⟨w', e1, e2, e3⟩ := h.own.drop law Tryz.underlying325 (keyOf_int_mk Tryz.underlying3 (wf_small h0 h1)) ty
  exact ⟨w', e1, h.del e2, kept_turned e3 (Or.inl rfl)⟩

end Bd
end Go.Proofs.YtcbmfakjfoggaaaGreatDoor
namespace Go.Proofs.YtcbmfakjfoggaaaGreatDoor
open Go.RowKit Go.Maps
namespace Bd
open Fr
theorem Kept.wd {A A' B' : Nat} {w w' : World} (h : Kept A A w w') (hA : A = A' ∨ A = B') : Kept A' B' w w' :=
  ⟨h.os, h.tape, h.output, h.size, fun k hk h1 h2 => by
    have : k ≠ A := by rcases hA with rfl | rfl <;> assumption
    exact h.block k hk this this⟩
theorem HInv.smallX {N : Int} {F T : List Bl} {x : Bl} (h : HInv N F T x) (hN : N ≤ 256) : 0 ≤ x.1 ∧ x.1 < 256 ∧ 0 ≤ x.2 ∧ x.2 ≤ 6 := by
  have h1 := h.inX
  have h2 := h.ox
  have h3 := pw_pos x.2
  unfold Okb at h2
  omega

end Bd
end Go.Proofs.YtcbmfakjfoggaaaGreatDoor
namespace Go.Proofs.YtcbmfakjfoggaaaGreatDoor
open Go.RowKit
namespace Bd
open Fr
/-- A block of cells of such elements. -/
def Tag (w : World) (g : Nat) (t : TypeId) : Prop := ∃ cur fz, w.heap[g]? = some (.cells cur t fz)
theorem Tag.blk {w w' : World} {g : Nat} {t : TypeId} (h : Tag w g t) (hb : w'.heap[g]? = w.heap[g]?) : Tag w' g t := by
  obtain ⟨cur, fz, e⟩ := h
  exact ⟨cur, fz, hb.trans e⟩
theorem Tag.lt {w : World} {g : Nat} {t : TypeId} (h : Tag w g t) : g < w.heap.size := by
  obtain ⟨cur, fz, e⟩ := h
  rcases Nat.lt_or_ge g w.heap.size with h' | h'
  · exact h'
  · rw [Array.getElem?_eq_none h'] at e; cases e
theorem Tag.b {w w' : World} {g : Nat} {t : TypeId} (h : Tag w g t) (hb : Below w.heap.size w w') : Tag w' g t := h.blk (hb.block g h.lt)
theorem Tag.set {w : World} {g : Nat} {t : TypeId} (h : Tag w g t) (a : Addr) (v : Value) : Tag (w.setCell a v) g t := by
  obtain ⟨cur, fz, e⟩ := h
  by_cases hg : g = a.block
  · subst hg
    refine ⟨if a.spot.isSome then cur else cur.setIfInBounds a.off v, fz, ?_⟩
    simp only [World.setCell, Array.getElem?_modify, e]
    simp
  · exact ⟨cur, fz, (Below.heap_setCell _ _ _ _ hg).trans e⟩
theorem Tag.ne {w : World} {g g' : Nat} {t t' : TypeId} (h : Tag w g t) (h' : Tag w g' t') (hne : t ≠ t') : g ≠ g' := by
  rintro rfl
  obtain ⟨cur, fz, e⟩ := h
  obtain ⟨cur', fz', e'⟩ := h'
  rw [e] at e'
  simp only [Option.some.injEq, Obj.cells.injEq] at e'
  exact hne e'.2.1
theorem tag_new (w : World) (cs : Array Value) (t : TypeId) : Tag (w.alloc (.cells cs t)) w.heap.size t := ⟨cs, (0, 0), heap_alloc_new w _⟩
/-- A row of blocks, and what its block is. -/
structure Rowt (w : World) (g : Nat) (R : List Bl) : Prop extends Row w g R where
  tg : Tag w g 291
theorem Rowt.b {w w' : World} {g : Nat} {R : List Bl} (h : Rowt w g R) (hb : Below w.heap.size w w') : Rowt w' g R := ⟨h.toRow.b hb, h.tg.b hb⟩
theorem rowt_of {w : World} {B : Nat} {v : Value} {L : List Bl} (h : w.ownsRow B 291 2 v L.length (flat L)) (hL : L ≠ []) : ∃ g cap, v = .slice (some ⟨g, 0, none⟩) L.length cap ∧ B ≤ g ∧ L.length ≤ cap ∧ cap ≤ maxLen ∧ Rowt w g L := by
  obtain ⟨g, cap, hv, hB, h1, h2, hr⟩ := row_of h hL
  refine ⟨g, cap, hv, hB, h1, h2, hr, ?_⟩
  rcases h.2 with ⟨h0, _⟩ | ⟨g', cap', cur, hv', _, hg, _⟩
  · rw [h0] at hv; cases hv
  · rw [hv] at hv'
    simp only [Value.slice.injEq, Option.some.injEq, Addr.mk.injEq] at hv'
    obtain ⟨⟨rfl, _⟩, _⟩ := hv'
    exact ⟨cur, _, hg⟩
/-- A list in a slice whose row lies elsewhere than in the block b. -/
def RL (w : World) (b : Nat) (v : Value) (L : List Bl) : Prop :=
  (L = [] ∧ v = .slice none 0 0) ∨ ∃ g c, v = .slice (some ⟨g, 0, none⟩) L.length c ∧ g ≠ b ∧ L.length ≤ c ∧ c ≤ maxLen ∧ L ≠ [] ∧ Rowt w g L
theorem RL.b {w w' : World} {b : Nat} {v : Value} {L : List Bl} (h : RL w b v L) (hb : Below w.heap.size w w') : RL w' b v L := by
  rcases h with h | ⟨g, c, hv, h0, h1, h2, h3, hr⟩
  · exact Or.inl h
  · exact Or.inr ⟨g, c, hv, h0, h1, h2, h3, hr.b hb⟩
theorem Row.off {w : World} {g b : Nat} {L : List Bl} (h : Row w g L) (hne : g ≠ b) (o : Nat) (v : Value) : Row (w.setCell ⟨b, o, none⟩ v) g L :=
  ⟨fun i hi => ⟨(cso (by simp <;> omega)).trans (h.c i hi).1, (cso (by simp <;> omega)).trans (h.c i hi).2⟩, fun o' ho => by simp only [World.frozen?_setCell]; exact h.fz o' ho, by simpa [World.setCell] using h.lt⟩
theorem Rowt.off {w : World} {g b : Nat} {L : List Bl} (h : Rowt w g L) (hne : g ≠ b) (o : Nat) (v : Value) : Rowt (w.setCell ⟨b, o, none⟩ v) g L := ⟨h.toRow.off hne o v, h.tg.set _ _⟩
theorem RL.off {w : World} {b : Nat} {v : Value} {L : List Bl} (h : RL w b v L) (o : Nat) (u : Value) : RL (w.setCell ⟨b, o, none⟩ u) b v L := by
  rcases h with h | ⟨g, c, hv, h0, h1, h2, h3, hr⟩
  · exact Or.inl h
  · exact Or.inr ⟨g, c, hv, h0, h1, h2, h3, hr.off h0 o u⟩
structure RB (w : World) (b : Nat) (N : Int) (F T : List Bl) : Prop where
  c0 : w.cell? ⟨b, 0, none⟩ = some (.int .i64 N)
  c1 : ∃ v, w.cell? ⟨b, 1, none⟩ = some v ∧ RL w b v F
  c2 : ∃ v, w.cell? ⟨b, 2, none⟩ = some v ∧ RL w b v T
  f1 : w.frozen? ⟨b, 1, none⟩ = false
  f2 : w.frozen? ⟨b, 2, none⟩ = false
  lt : b < w.heap.size
  tg : Tag w b 333
theorem RB.b {w w' : World} {b : Nat} {N : Int} {F T : List Bl} (h : RB w b N F T) (hb : Below w.heap.size w w') : RB w' b N F T := by
  obtain ⟨v1, e1, l1⟩ := h.c1
  obtain ⟨v2, e2, l2⟩ := h.c2
  exact ⟨(hb.cell (p := ⟨b, 0, none⟩) h.lt).trans h.c0, ⟨v1, (hb.cell (p := ⟨b, 1, none⟩) h.lt).trans e1, l1.b hb⟩, ⟨v2, (hb.cell (p := ⟨b, 2, none⟩) h.lt).trans e2, l2.b hb⟩, (hb.frozen (p := ⟨b, 1, none⟩) h.lt).trans h.f1, (hb.frozen (p := ⟨b, 2, none⟩) h.lt).trans h.f2, Nat.lt_of_lt_of_le h.lt hb.size, h.tg.b hb⟩
theorem RB.a {w : World} {b : Nat} {N : Int} {F T : List Bl} (h : RB w b N F T) (o : Obj) : RB (w.alloc o) b N F T := h.b (ballo (Below.refl _ _) o)
theorem RB.d {w : World} {b : Nat} {N : Int} {F T : List Bl} (h : RB w b N F T) : RB w.drew b N F T := h.b ⟨rfl, rfl, rfl, Nat.le_refl _, fun _ _ => rfl⟩
theorem rl_slice {w : World} {b : Nat} {v : Value} {L : List Bl} (h : RL w b v L) : ∃ p m c, v = .slice p m c ∧ RL w b (.slice p m c) L := by
  have h' := h
  rcases h with ⟨_, rfl⟩ | ⟨g, c, rfl, _⟩
  · exact ⟨_, _, _, rfl, h'⟩
  · exact ⟨_, _, _, rfl, h'⟩
end Bd
end Go.Proofs.YtcbmfakjfoggaaaGreatDoor
namespace Go.Proofs.YtcbmfakjfoggaaaGreatDoor
open Go.RowKit
namespace Bd
open Fr
/-- The lists of b lie beside the block c. -/
structure Off (w : World) (b c : Nat) : Prop where
  o1 : ∃ v L, w.cell? ⟨b, 1, none⟩ = some v ∧ RL w c v L
  o2 : ∃ v L, w.cell? ⟨b, 2, none⟩ = some v ∧ RL w c v L
theorem Off.b {w w' : World} {b c : Nat} (h : Off w b c) (hl : b < w.heap.size) (hb : Below w.heap.size w w') : Off w' b c := by
  obtain ⟨v1, L1, e1, r1⟩ := h.o1
  obtain ⟨v2, L2, e2, r2⟩ := h.o2
  exact ⟨⟨v1, L1, (hb.cell (p := ⟨b, 1, none⟩) hl).trans e1, r1.b hb⟩, ⟨v2, L2, (hb.cell (p := ⟨b, 2, none⟩) hl).trans e2, r2.b hb⟩⟩
theorem RL.off2 {w : World} {b c : Nat} {v : Value} {L M : List Bl} (h : RL w c v L) (h2 : RL w b v M) (o : Nat) (u : Value) : RL (w.setCell ⟨b, o, none⟩ u) c v L := by
  rcases h with h | ⟨g, c, rfl, h0, h1, h2', h3, hr⟩
  · exact Or.inl h
  · rcases h2 with ⟨_, hv⟩ | ⟨g', c', hv, h0', _⟩
    · cases hv
    · have e : g' = g := by
        have := hv
        simp only [Value.slice.injEq, Option.some.injEq, Addr.mk.injEq] at this
        exact this.1.1.symm
      exact Or.inr ⟨g, _, rfl, h0, h1, h2', h3, hr.off (e ▸ h0') o u⟩
theorem RB.offF {w : World} {b c : Nat} {N : Int} {F F' T : List Bl} {v : Value} (h : RB w b N F T) (ho : Off w b c) (hv : RL w b v F') (hc : RL w c v F') : Off (w.setCell ⟨b, 1, none⟩ v) b c := by
  obtain ⟨v2, L2, e2, r2⟩ := ho.o2
  obtain ⟨v3, e3, l3⟩ := h.c2
  have e : v2 = v3 := Option.some.inj (e2.symm.trans e3)
  subst e
  obtain ⟨v1, e1, l1⟩ := h.c1
  exact ⟨⟨v, F', css e1, hc.off2 hv _ _⟩, ⟨v2, L2, (cso (by simp)).trans e2, r2.off2 l3 _ _⟩⟩
theorem RB.offT {w : World} {b c : Nat} {N : Int} {F T T' : List Bl} {v : Value} (h : RB w b N F T) (ho : Off w b c) (hv : RL w b v T') (hc : RL w c v T') : Off (w.setCell ⟨b, 2, none⟩ v) b c := by
  obtain ⟨v1, L1, e1, r1⟩ := ho.o1
  obtain ⟨v3, e3, l3⟩ := h.c1
  have e : v1 = v3 := Option.some.inj (e1.symm.trans e3)
  subst e
  obtain ⟨v2, e2, l2⟩ := h.c2
  exact ⟨⟨v1, L1, (cso (by simp)).trans e1, r1.off2 l3 _ _⟩, ⟨v, T', css e2, hc.off2 hv _ _⟩⟩
/-- A store into another block. -/
theorem RB.box {w : World} {b c : Nat} {N : Int} {F T : List Bl} (h : RB w b N F T) (ho : Off w b c) (hbc : c ≠ b) (o : Nat) (u : Value) : RB (w.setCell ⟨c, o, none⟩ u) b N F T ∧ Off (w.setCell ⟨c, o, none⟩ u) b c := by
  obtain ⟨v1, e1, l1⟩ := h.c1
  obtain ⟨v2, e2, l2⟩ := h.c2
  obtain ⟨u1, L1, g1, r1⟩ := ho.o1
  obtain ⟨u2, L2, g2, r2⟩ := ho.o2
  have q1 : u1 = v1 := Option.some.inj (g1.symm.trans e1)
  have q2 : u2 = v2 := Option.some.inj (g2.symm.trans e2)
  subst q1
  subst q2
  exact ⟨⟨(cso (by simp <;> omega)).trans h.c0, ⟨u1, (cso (by simp <;> omega)).trans e1, l1.off2 r1 _ _⟩, ⟨u2, (cso (by simp <;> omega)).trans e2, l2.off2 r2 _ _⟩, by simp only [World.frozen?_setCell]; exact h.f1, by simp only [World.frozen?_setCell]; exact h.f2, by simpa [World.setCell] using h.lt, h.tg.set _ _⟩,
    ⟨⟨u1, L1, (cso (by simp <;> omega)).trans e1, r1.off _ _⟩, ⟨u2, L2, (cso (by simp <;> omega)).trans e2, r2.off _ _⟩⟩⟩
end Bd
end Go.Proofs.YtcbmfakjfoggaaaGreatDoor
namespace Go.Proofs.YtcbmfakjfoggaaaGreatDoor
open Go.RowKit
namespace Bd
open Fr
theorem drw (w : World) : Below w.heap.size w w.drew := ⟨rfl, rfl, rfl, Nat.le_refl _, fun _ _ => rfl⟩

end Bd
end Go.Proofs.YtcbmfakjfoggaaaGreatDoor
namespace Go.Proofs.YtcbmfakjfoggaaaGreatDoor
open Go.RowKit Go.Maps
namespace Bd
open Fr
theorem pk_mem (L : List Bl) : ∀ j, j < L.length → pk L j ∈ L
  | 0, h => by unfold pk; rw [getD_lt h]; exact List.getElem_mem h
  | j + 1, h => by
    unfold pk
    split
    · rw [getD_lt h]; exact List.getElem_mem h
    · exact pk_mem L j (by omega)
theorem fit_some {o : Int} {F : List Bl} {x : Bl} (h : fit o F = some x) : x ∈ F ∧ o ≤ x.2 := by
  unfold fit at h
  split at h
  · cases h
  · next hne =>
    have := pk_mem (F.filter (fun x => decide (o ≤ x.2))) ((F.filter (fun x => decide (o ≤ x.2))).length - 1) (by have := List.length_pos_iff.2 hne; omega)
    rw [Option.some.inj h] at this
    simpa using this
theorem fit_none {o : Int} {F : List Bl} : fit o F = none ↔ ∀ x ∈ F, x.2 < o := by
  unfold fit
  by_cases h : F.filter (fun x => decide (o ≤ x.2)) = []
  · rw [if_pos h]
    rw [List.filter_eq_nil_iff] at h
    simp at h ⊢
    exact h
  · rw [if_neg h]
    simp
    rw [List.filter_eq_nil_iff] at h
    simpa using h
/-- Halving: what is free behind it. -/
def halveF : Nat → Int → Int → List Bl → List Bl
  | 0, _, _, G => G
  | n + 1, a, j, G => halveF n a (j - 1) (ins (a + pw (j - 1), j - 1) G)
def takeF (k : Int) (x : Bl) (F : List Bl) : List Bl := halveF (x.2 - k).toNat x.1 x.2 (del x.1 F)
theorem halve_inv {N : Int} {T : List Bl} {a k : Int} (k0 : 0 ≤ k) : ∀ (n : Nat) (j : Int) (G : List Bl), n = (j - k).toNat → k ≤ j → HInv N G T (a, j) → HInv N (halveF n a j G) T (a, k)
  | 0, j, G, hn, hj, h => by
    have : j = k := by omega
    subst this; exact h
  | n + 1, j, G, hn, hj, h => by
    unfold halveF
    exact halve_inv k0 n (j - 1) _ (by omega) (by omega) (h.halve (by omega))
theorem take_inv {N : Int} {F T : List Bl} {k : Int} {x : Bl} (k0 : 0 ≤ k) (h : Inv N F T) (hx : x ∈ F) (hk : k ≤ x.2) : Inv N (takeF k x F) (ins (x.1, k) T) :=
  (halve_inv k0 _ x.2 _ rfl hk (h.outF hx)).inTaken

/-- The variables of errors that Take asks for. -/
structure Errs4 (w : World) (e : Nat → Addr) : Prop where
  three : Errs3 w e
  full : w.cell? ⟨6, 0, none⟩ = some (.iface 424 (.pointer (some (e 4))))
theorem Errs4.below {w w' : World} {e : Nat → Addr} (h : Errs4 w e) (hb : Below w.heap.size w w') : Errs4 w' e := ⟨h.three.below hb, keep h.full hb⟩

end Bd
end Go.Proofs.YtcbmfakjfoggaaaGreatDoor
namespace Go.Proofs.YtcbmfakjfoggaaaGreatDoor
open Go.RowKit Go.Maps
namespace Bd
open Fr
set_option maxHeartbeats 8000000 in
theorem take_ok (b fm tm : Nat) (N : Int) (F T : List Bl) (k : Int) (x : Bl) (w : World) (h : Bud w b fm tm N F T) (hi : Inv N F T) (hN : N ≤ 256) (h0 : 0 ≤ k) (h6 : k ≤ 6) (hf : fit k F = some x) :
    Calls Tryz.prog 259 #[ptr b, .int .i64 k] w fun ev w' => ev = .returned (.tuple #[blkV x.1 k, .nilIface]) ∧ Bud w' b fm tm N (takeF k x F) (ins (x.1, k) T) ∧ Kept fm tm w w' := by
  obtain ⟨hxF, hkx⟩ := fit_some hf
  have HF := fit_ok k b fm tm N F T (w.alloc (blkO 0 0)) (h.a _)
  have hfv : fitV k F = .tuple #[blkV x.1 x.2, .bool true] := by unfold fitV; rw [hf]
  rw [hfv] at HF
  have HF := hide HF
  have hbl := h.lt
  have hfl := h.f.lt
  have htl := h.t.lt
  have B1 := h.a (blkO 0 0)
  have X1 := bx_new w (0, 0)
  have F1 : Kept fm tm w (w.alloc (blkO 0 0)) := kept_alloc _ _ _ _
  have s1 : (w.alloc (blkO 0 0)).heap.size = w.heap.size + 1 := by simp
  have HI0 := hide (hi.outF hxF)
  have hsm := (hi.outF hxF).smallX hN
  have HR : Hid (takeF k x F = halveF (x.2 - k).toNat x.1 x.2 (del x.1 F)) := rfl
  obtain ⟨R, hR⟩ : ∃ R, R = takeF k x F := ⟨_, rfl⟩
  rw [← hR] at HR ⊢
  clear h hi hfv hf hR hxF
  unfold ptr at *
  obtain ⟨a, j0⟩ := x
  simp only at *
  have d1 : decide (k < 0) = false := by simp; omega
  have d2 : decide (6 < k) = false := by simp; omega
  go_enter Tryz.func259, Tryz.ntmps259
  go_wp2_with fail
  refine (unhide HF).mono ?_
  rintro ev w2 ⟨rfl, b2⟩
  have B2 := (B1.b b2).a (blkO a j0)
  have X2 := (X1.b b2).a (blkO a j0)
  have XB := bx_new w2 (a, j0)
  have F2 := F1.trans (kept_of (ballo b2 (blkO a j0)))
  have s2 := b2.size
  clear B1 X1 F1 HF d1 d2
  go_wp2_with fail
  generalize hW : w2.alloc (blkO a j0) = W at *
  generalize hxb : w2.heap.size = xb at *
  clear hW b2
  have c1 := B2.c1
  have x0 := XB.c0
  obtain ⟨w4, hrun, hM4, hK4⟩ := del_run fm F a W.drew B2.f.d hsm.1 hsm.2.1 0
  have KC := hide (fun w1 (hb : Kept fm fm W.drew w1) => (⟨cell_kept B2.c1 B2.f B2.f (kd hb), cell_kept XB.c0 B2.f B2.f (kd hb)⟩ : w1.cell? ⟨b, 1, none⟩ = some (.map (some fm)) ∧ w1.cell? ⟨xb, 0, none⟩ = some (.int .i64 a)))
  have KC4 := (unhide KC) w4 hK4
  have KC3 := (unhide KC) W.drew (Kept.refl _ _ _)
  simp only at x0
  go_region_held3 (fun w' => w'.cell? ⟨b, 1, none⟩ = some (.map (some fm)) ∧ w'.cell? ⟨xb, 0, none⟩ = some (.int .i64 a)) ((first | (exact KC4) | (exact KC3) | (go_keep; done))) (fail)
  have hK5 := kd hK4
  have B4 := hide (B2.setF hK5 hM4)
  have X4 := hide (X2.k B2.f B2.f hK5)
  have XB4 := hide (XB.k B2.f B2.f hK5)
  have F4 := F2.trans (hK5.wd (Or.inl rfl))
  clear KC KC3 KC4 hK4 hrun c1 x0 X2 XB B2 F2 hM4 hK5
  go_wp2
  go_loopw [8, 9, 10] (fun _ _ _ wr => ∃ (j : Int) (G : List Bl), k ≤ j ∧ j ≤ 6 ∧ Hid (HInv N G T (a, j)) ∧ Hid (R = halveF (j - k).toNat a j G) ∧ Hid (Bx wr w.heap.size (0, 0)) ∧ Hid (Bx wr xb (a, j)) ∧ Hid (Bud wr b fm tm N G T) ∧ Kept fm tm w wr) (fun _ _ _ wr => (RowKit.intOf ((wr.cell? ⟨xb, 1, none⟩).getD undef)).toNat)
  case atStart => exact ⟨j0, del a F, hkx, hsm.2.2.2, HI0, HR, X4, XB4, B4, F4⟩
  case round =>
    clear B4 X4 XB4 F4 HI0 HR
    obtain ⟨j, G, hkj, hj6, hI, hR, h4, h5, hB, hk⟩ := hrel
    have y0 := (unhide h5).c0
    have y1 := (unhide h5).c1
    simp only at y0 y1
    have HY1 := hide y1
    have hxl := (unhide h5).lt
    by_cases hkj2 : k < j
    · have dk : decide (k < j) = true := by simpa using hkj2
      have hsj := (unhide hI).smallX hN
      have hin := (unhide hI).inX
      have hox := (unhide hI).ox
      unfold Okb at hox
      simp only at hsj hin hox
      have hhd := half_dvd (by omega : 1 ≤ j) hox.2.2
      have hpp := pw_pos (j - 1)
      have HH := hide (fun w => halves_ok a j w hsj.1 hsj.2.1 (by omega) hj6 ((al_dvd _ _).2 hox.2.2))
      have HI2 := hide ((unhide hI).halve (by omega))
      have hR2 : Hid (R = halveF (j - 1 - k).toNat a (j - 1) (ins (a + pw (j - 1), j - 1) G)) := by
        have := unhide hR
        rw [show (j - k).toNat = (j - 1 - k).toNat + 1 by omega] at this
        exact this
      have hl1 : 0 ≤ a + pw (j - 1) ∧ a + pw (j - 1) < 256 ∧ 0 ≤ j - 1 ∧ j - 1 ≤ 6 := by omega
      obtain ⟨a2, j2, HA2, HJ2⟩ : ∃ a2 j2, Hid (a2 = a + pw (j - 1)) ∧ Hid (j2 = j - 1) := ⟨_, _, rfl, rfl⟩
      rw [← unhide HA2, ← unhide HJ2] at HH hl1 HI2 hR2
      clear hin hox hhd hI hR hpp
      go_wp2_with fail
      refine (unhide HH _).mono ?_
      rintro ev w5 ⟨rfl, b5⟩
      have B5 := (((unhide hB).b b5).a (blkO a j2)).a (blkO a2 j2)
      have F5 := hk.trans (kept_of (ballo (ballo b5 (blkO a j2)) (blkO a2 j2)))
      have XL := (bx_new w5 (a, j2)).a (blkO a2 j2)
      have XH := bx_new (w5.alloc (blkO a j2)) (a2, j2)
      rw [show (w5.alloc (blkO a j2)).heap.size = w5.heap.size + 1 by simp] at XH
      have X0 := (((unhide h4).b b5).a (blkO a j2)).a (blkO a2 j2)
      have XX := (((unhide h5).b b5).a (blkO a j2)).a (blkO a2 j2)
      have s5 := b5.size
      have hks := hk.size
      clear y0 y1 hB h4 h5 b5
      go_wp2_with fail
      generalize (w5.alloc (blkO a j2)).alloc (blkO a2 j2) = W5 at *
      generalize hcc : w5.heap.size = c at *
      have c1 := B5.c1
      have x0 := XH.c0
      have x1 := XH.c1
      simp only at x0 x1
      have HP := hide (put_ok (a2, j2) fm G W5.drew B5.f.d hl1)
      have KC := hide (fun w1 (hb : Kept fm fm W5.drew w1) => (⟨cell_kept B5.c1 B5.f B5.f (kd hb), cell_kept XH.c0 B5.f B5.f (kd hb), cell_kept XH.c1 B5.f B5.f (kd hb)⟩ : w1.cell? ⟨b, 1, none⟩ = some (.map (some fm)) ∧ w1.cell? ⟨c + 1, 0, none⟩ = some (.int .i64 a2) ∧ w1.cell? ⟨c + 1, 1, none⟩ = some (.int .i64 j2)))
      go_region_held3 (fun w' => w'.cell? ⟨b, 1, none⟩ = some (.map (some fm)) ∧ w'.cell? ⟨c + 1, 0, none⟩ = some (.int .i64 a2) ∧ w'.cell? ⟨c + 1, 1, none⟩ = some (.int .i64 j2)) ((first | (go_keep; done) | (exact (unhide KC) _ (by assumption)))) ((go_at_call 196; refine (unhide HP).mono ?_; rintro ev w6 ⟨rfl, M6, k6⟩))
      have k7 := kd k6
      have B6 := B5.setF k7 M6
      have F6 := F5.trans (k7.wd (Or.inl rfl))
      have XL6 := XL.k B5.f B5.f k7
      have X06 := X0.k B5.f B5.f k7
      have XX6 := XX.k B5.f B5.f k7
      clear x0 x1 c1 KC HP B5 F5 XL XH X0 XX k6 k7 M6
      have l0 := XL6.c0
      have l1 := XL6.c1
      have p0 := XX6.c0
      have p1 := XX6.c1
      have p2 := XX6.f0
      have p3 := XX6.f1
      simp only at l0 l1 p0 p1
      go_wp2
      go_roundw
      case rel =>
        have hj2 : j2 = j - 1 := unhide HJ2
        exact ⟨j2, _, by omega, by omega, unhide HI2, unhide hR2, (X06.off (by omega) _ _).off (by omega) _ _, XX6.set (a, j2), (B6.set (by omega) (by omega) (by omega) _ _).set (by omega) (by omega) (by omega) _ _, (F6.setNew (by omega) _ _).setNew (by omega) _ _⟩
      case measure =>
        have m1 : ((w6.setCell ⟨xb, 0, none⟩ (.int .i64 a)).setCell ⟨xb, 1, none⟩ (.int .i64 j2)).cell? ⟨xb, 1, none⟩ = some (.int .i64 j2) := css (u := .int .i64 j) (by rw [cso (by simp)]; exact p1)
        have hj2 : j2 = j - 1 := unhide HJ2
        rw [m1, unhide HY1]; simp [RowKit.intOf]; omega
    · have hjk : j = k := by omega
      subst hjk
      have dk : decide (j < j) = false := by simp
      have HIE := hide (unhide hI).inTaken
      have hsj := (unhide hI).smallX hN
      have hRe : R = G := by have := unhide hR; rw [show (j - j).toNat = 0 by omega] at this; exact this
      have B5 := unhide hB
      have XX := unhide h5
      have X0 := unhide h4
      clear hB h5 h4 hR hI
      have c2 := B5.c2
      have HP := hide (put_ok (a, j) tm T wr.drew B5.t.d hsj)
      have KC := hide (fun w1 (hb : Kept tm tm wr.drew w1) => (⟨cell_kept B5.c2 B5.t B5.t (kd hb), cell_kept XX.c0 B5.t B5.t (kd hb), cell_kept XX.c1 B5.t B5.t (kd hb)⟩ : w1.cell? ⟨b, 2, none⟩ = some (.map (some tm)) ∧ w1.cell? ⟨xb, 0, none⟩ = some (.int .i64 a) ∧ w1.cell? ⟨xb, 1, none⟩ = some (.int .i64 j)))
      have HRE := hide hRe
      clear hRe
      go_wp2
      go_region_held3 (fun w' => w'.cell? ⟨b, 2, none⟩ = some (.map (some tm)) ∧ w'.cell? ⟨xb, 0, none⟩ = some (.int .i64 a) ∧ w'.cell? ⟨xb, 1, none⟩ = some (.int .i64 j)) ((first | (go_keep; done) | (exact (unhide KC) _ (by assumption)))) ((go_at_call 196; refine (unhide HP).mono ?_; rintro ev w6 ⟨rfl, M6, k6⟩))
      have k7 := kd k6
      have B6 := B5.setT k7 M6
      have F6 := hk.trans (k7.wd (Or.inr rfl))
      have X06 := X0.k B5.t B5.t k7
      have XX6 := XX.k B5.t B5.t k7
      clear c2 KC HP B5 X0 XX k6 k7 M6 y0 y1
      have l0 := XX6.c0
      have l1 := XX6.c1
      have p0 := X06.c0
      have p1 := X06.c1
      have p2 := X06.f0
      have p3 := X06.f1
      simp only at l0 l1 p0 p1
      go_wp2
      refine bodyPost_ret (v := .tuple #[blkV a j, .nilIface]) (by simp [results, Tryz.results259, go_sem, p0, p1]) rfl ⟨rfl, ?_, (F6.setNew (by omega) _ _).setNew (by omega) _ _⟩
      rw [unhide HRE]
      exact (B6.set (by omega) (by omega) (by omega) _ _).set (by omega) (by omega) (by omega) _ _
end Bd
end Go.Proofs.YtcbmfakjfoggaaaGreatDoor
