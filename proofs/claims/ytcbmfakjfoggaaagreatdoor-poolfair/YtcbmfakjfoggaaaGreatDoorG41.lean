/- The document's answer's depot in memory · The document's answer's depot: a worker there is; Take · What stands at a place of a row of objects · The document's answer's depot: Give · The document's answer's depot: a new one · The package's depot and the document's answer's in one memory · Both depots in one memory. -/
import Derived.Test.YtcbmfakjfoggaaaGreatDoorG40
import Derived.Test.YtcbmfakjfoggaaaGreatDoorG31
import Derived.Laws.AppendOwnNone
import Derived.Test.YtcbmfakjfoggaaaGreatDoorG27
import Derived.Deep.RegionHeldLaw
namespace Go.Proofs.YtcbmfakjfoggaaaGreatDoor
open Go.RowKit Go.Maps
namespace Rd
open Fr Bd Zn Dz Sb Mg
/-- A slice of objects that nobody writes. -/
def OS (U : Nat → Prop) (w : World) (v : Value) (xs : List Bl) : Prop := (v = .slice none 0 0 ∧ xs = []) ∨ ∃ b cp, v = .slice (some ⟨b, 0, none⟩) xs.length cp ∧ xs.length ≤ cp ∧ cp ≤ maxLen ∧ U b ∧ b < w.heap.size ∧ ∀ j u, (flat xs)[j]? = some u → w.cell? ⟨b, j, none⟩ = some u
section
variable {U V : Nat → Prop} {w w' : World} {v : Value} {xs : List Bl}
theorem OS.keep (h : OS U w v xs) (hb : ∀ k, U k → w'.heap[k]? = w.heap[k]?) (hz : w.heap.size ≤ w'.heap.size) (hv : ∀ k, U k → V k) : OS V w' v xs := by
  rcases h with h | ⟨b, cp, h1, h2, h3, h4, h5, h6⟩
  · exact Or.inl h
  · exact Or.inr ⟨b, cp, h1, h2, h3, hv b h4, Nat.lt_of_lt_of_le h5 hz, fun j u hu => (World.cell?_of_block (w := w) (a := ⟨b, j, none⟩) (hb b h4)).trans (h6 j u hu)⟩
theorem OS.b (h : OS U w v xs) (hb : Below w.heap.size w w') : OS U w' v xs := by
  rcases h with h | ⟨b, cp, h1, h2, h3, h4, h5, h6⟩
  · exact Or.inl h
  · exact Or.inr ⟨b, cp, h1, h2, h3, h4, Nat.lt_of_lt_of_le h5 hb.size, fun j u hu => (hb.cell (p := ⟨b, j, none⟩) h5).trans (h6 j u hu)⟩
theorem OS.uk (h : OS U w v xs) (hu : UK U w w') : OS U w' v xs := h.keep hu.u hu.z (fun _ h => h)
/-- A row of one's own is one. -/
theorem OS.own {B k : Nat} (h : w.ownsRow B 34 2 v k (flat xs)) (hk : k = xs.length) (hU : ∀ j, OB v j → U j) : OS U w v xs := by
  subst hk
  rcases id h.2 with ⟨h1, h2⟩ | ⟨g, cap, cur, rfl, hb, hg, hle, hcap, _⟩
  · exact Or.inl ⟨h1, List.length_eq_zero_iff.1 h2⟩
  · refine Or.inr ⟨g, cap, rfl, hle, hcap, hU g rfl, (h.lt g rfl).2, fun j u hu => ?_⟩
    have hj := (List.getElem?_eq_some_iff.1 hu).1
    rw [flat_length] at hj
    exact (h.cellAt j (by omega)).trans hu
theorem OS.len (h : OS U w v xs) : ∃ p cp, v = .slice p xs.length cp ∧ xs.length ≤ cp := by
  rcases h with ⟨h1, h2⟩ | ⟨b, cp, h1, h2, _⟩
  · subst h2; exact ⟨none, 0, h1, Nat.le_refl _⟩
  · exact ⟨_, cp, h1, h2⟩
end
/-- A pile of such slices. -/
def PV (U : Nat → Prop) (w : World) (v : Value) (P : List (List Bl)) : Prop := (v = .slice none 0 0 ∧ P = []) ∨ ∃ b cp, v = .slice (some ⟨b, 0, none⟩) P.length cp ∧ P.length ≤ cp ∧ cp ≤ maxLen ∧ Tag w b 32 ∧ ∀ i xs, P[i]? = some xs → ∃ u, w.cell? ⟨b, i, none⟩ = some u ∧ OS U w u xs
/-- The document's answer's depot: hands, a pile. -/
structure RD (N1 : Nat) (U : Nat → Prop) (w : World) (rd rc hb : Nat) (H : List (List Bl × List Bl)) (P : List (List Bl)) : Prop where
  c0 : w.cell? ⟨rd, 0, none⟩ = some (ptr rc)
  c1 : ∃ cp, w.cell? ⟨rd, 1, none⟩ = some (.slice (some ⟨hb, 0, none⟩) H.length cp)
  c2 : ∃ v, w.cell? ⟨rd, 2, none⟩ = some v ∧ PV U w v P
  hd : ∀ (i : Nat) (a b : List Bl), H[i]? = some (a, b) → ∃ v1 v2, w.cell? ⟨hb, i * 2, none⟩ = some v1 ∧ w.cell? ⟨hb, i * 2 + 1, none⟩ = some v2 ∧ OS U w v1 a ∧ OS U w v2 b
  tg : Tag w rd 164
  th : Tag w hb 185
  ge : N1 ≤ rd
  gh : N1 ≤ hb
  fd : ∀ o, w.frozen? ⟨rd, o, none⟩ = false
  fh : ∀ o, w.frozen? ⟨hb, o, none⟩ = false
section
variable {N1 : Nat} {U V : Nat → Prop} {w w' : World} {rd rc hb : Nat} {H : List (List Bl × List Bl)} {P : List (List Bl)} {v : Value}
theorem PV.keep (h : PV U w v P) (hb : ∀ k, U k → w'.heap[k]? = w.heap[k]?) (hs : Sb.Same [32] w w') (hz : w.heap.size ≤ w'.heap.size) (hv : ∀ k, U k → V k) : PV V w' v P := by
  rcases h with h | ⟨b, cp, h1, h2, h3, h4, h5⟩
  · exact Or.inl h
  · refine Or.inr ⟨b, cp, h1, h2, h3, tag_same hs (by simp) h4, fun i xs hi => ?_⟩
    obtain ⟨u, e1, e2⟩ := h5 i xs hi
    exact ⟨u, (cell_same hs (by simp) h4 i).trans e1, e2.keep hb hz hv⟩
theorem RD.keep (h : RD N1 U w rd rc hb H P) (hk : ∀ k, U k → w'.heap[k]? = w.heap[k]?) (hs : Sb.Same [164, 185, 32] w w') (hz : w.heap.size ≤ w'.heap.size) (hv : ∀ k, U k → V k) : RD N1 V w' rd rc hb H P := by
  have hc := fun j => cell_same hs (by simp) h.tg j
  have hh := fun j => cell_same hs (by simp) h.th j
  obtain ⟨cp, e1⟩ := h.c1
  obtain ⟨v, e2, e3⟩ := h.c2
  refine ⟨(hc 0).trans h.c0, ⟨cp, (hc 1).trans e1⟩, ⟨v, (hc 2).trans e2, e3.keep hk (fun b t hm ht => hs b t (by simp at hm; simp [hm]) ht) hz hv⟩, fun i a b hi => ?_, tag_same hs (by simp) h.tg, tag_same hs (by simp) h.th, h.ge, h.gh, fun o => (World.frozen?_of_block (w := w) (a := ⟨rd, o, none⟩) (hs rd 164 (by simp) h.tg)).trans (h.fd o), fun o => (World.frozen?_of_block (w := w) (a := ⟨hb, o, none⟩) (hs hb 185 (by simp) h.th)).trans (h.fh o)⟩
  obtain ⟨v1, v2, x1, x2, x3, x4⟩ := h.hd i a b hi
  exact ⟨v1, v2, (hh _).trans x1, (hh _).trans x2, x3.keep hk hz hv, x4.keep hk hz hv⟩
theorem RD.b (h : RD N1 U w rd rc hb H P) (hU : ∀ k, U k → Tag w k 34) (hb' : Below w.heap.size w w') : RD N1 U w' rd rc hb H P := h.keep (fun k hk => hb'.block k (hU k hk).lt) (same_below hb') hb'.size (fun _ h => h)
theorem RD.uk (h : RD N1 U w rd rc hb H P) (hu : UK U w w') : RD N1 U w' rd rc hb H P := h.keep hu.u (fun b t hm ht => hu.s b t (by simp at hm; rcases hm with rfl | rfl | rfl <;> simp) ht) hu.z (fun _ h => h)
theorem RD.chg (h : RD N1 U w rd rc hb H P) (hU : ∀ k, U k → Tag w k 34) {ts : List (Option TypeId)} {N : Nat} (hc : Chg ts N w w') (hn : ∀ t ∈ ([164, 185, 32, 34] : List TypeId), some t ∉ ts) : RD N1 U w' rd rc hb H P :=
  h.keep (fun k hk => hc.same (hU k hk) (hn 34 (by simp))) (hc.toSame (fun t ht => hn t (by simp at ht; rcases ht with rfl | rfl | rfl <;> simp))) hc.size (fun _ h => h)
/-- A hand written anew. -/
theorem RD.put (h : RD N1 U w rd rc hb H P) (hU : ∀ k, U k → Tag w k 34) {i : Nat} (hi : i < H.length) {v1 v2 : Value} {a b : List Bl} (h1 : OS U w v1 a) (h2 : OS U w v2 b) : RD N1 U ((w.setCell ⟨hb, i * 2, none⟩ v1).setCell ⟨hb, i * 2 + 1, none⟩ v2) rd rc hb (H.set i (a, b)) P ∧ Chg [some 185] N1 w ((w.setCell ⟨hb, i * 2, none⟩ v1).setCell ⟨hb, i * 2 + 1, none⟩ v2) := by
  have hc1 : Chg [some 185] N1 w (w.setCell ⟨hb, i * 2, none⟩ v1) := Chg.set h.th h.gh _ _
  have hc : Chg [some 185] N1 w ((w.setCell ⟨hb, i * 2, none⟩ v1).setCell ⟨hb, i * 2 + 1, none⟩ v2) := hc1.trans (Chg.set (h.th.set _ _) h.gh _ _)
  have hk : ∀ k, U k → ((w.setCell ⟨hb, i * 2, none⟩ v1).setCell ⟨hb, i * 2 + 1, none⟩ v2).heap[k]? = w.heap[k]? := fun k hk => hc.same (hU k hk) (by decide)
  have hs : Sb.Same [164, 32] w ((w.setCell ⟨hb, i * 2, none⟩ v1).setCell ⟨hb, i * 2 + 1, none⟩ v2) := hc.toSame (by decide)
  have hcl := fun j => cell_same hs (by simp) h.tg j
  obtain ⟨cp, e1⟩ := h.c1
  obtain ⟨v, e2, e3⟩ := h.c2
  obtain ⟨a0, b0, e0⟩ : ∃ a0 b0, H[i]? = some (a0, b0) := ⟨_, _, List.getElem?_eq_getElem hi⟩
  obtain ⟨u1, u2, y1, y2, _, _⟩ := h.hd i a0 b0 e0
  refine ⟨⟨(hcl 0).trans h.c0, ⟨cp, by rw [List.length_set]; exact (hcl 1).trans e1⟩, ⟨v, (hcl 2).trans e2, e3.keep hk (hc.toSame (by decide)) hc.size (fun _ h => h)⟩, fun j a' b' hj => ?_, (h.tg.blk (hs rd 164 (by simp) h.tg)), (h.th.set _ _).set _ _, h.ge, h.gh, fun o => (World.frozen?_of_block (w := w) (a := ⟨rd, o, none⟩) (hs rd 164 (by simp) h.tg)).trans (h.fd o), fun o => by rw [World.frozen?_setCell, World.frozen?_setCell]; exact h.fh o⟩, hc⟩
  by_cases e : j = i
  · subst e
    rw [List.getElem?_set_self hi] at hj
    cases hj
    exact ⟨v1, v2, (cso (by simp)).trans (css y1), css ((cso (by simp)).trans y2), h1.keep hk hc.size (fun _ h => h), h2.keep hk hc.size (fun _ h => h)⟩
  · rw [List.getElem?_set_ne (Ne.symm e)] at hj
    obtain ⟨z1, z2, x1, x2, x3, x4⟩ := h.hd j a' b' hj
    exact ⟨z1, z2, (cso (by simp <;> omega)).trans ((cso (by simp <;> omega)).trans x1), (cso (by simp <;> omega)).trans ((cso (by simp <;> omega)).trans x2), x3.keep hk hc.size (fun _ h => h), x4.keep hk hc.size (fun _ h => h)⟩
/-- The pile written anew. -/
theorem RD.piled (h : RD N1 U w rd rc hb H P) (hU : ∀ k, U k → Tag w k 34) {v' : Value} {P' : List (List Bl)} (hp : PV U w v' P') : RD N1 U (w.setCell ⟨rd, 2, none⟩ v') rd rc hb H P' ∧ Chg [some 164] N1 w (w.setCell ⟨rd, 2, none⟩ v') := by
  have hc : Chg [some 164] N1 w (w.setCell ⟨rd, 2, none⟩ v') := Chg.set h.tg h.ge _ _
  have hk : ∀ k, U k → (w.setCell ⟨rd, 2, none⟩ v').heap[k]? = w.heap[k]? := fun k hk => hc.same (hU k hk) (by decide)
  have hs : Sb.Same [185] w (w.setCell ⟨rd, 2, none⟩ v') := hc.toSame (by decide)
  have hh := fun j => cell_same hs (by simp) h.th j
  obtain ⟨cp, e1⟩ := h.c1
  obtain ⟨v, e2, e3⟩ := h.c2
  refine ⟨⟨(cso (by simp)).trans h.c0, ⟨cp, (cso (by simp)).trans e1⟩, ⟨v', css e2, hp.keep hk (hc.toSame (by decide)) hc.size (fun _ h => h)⟩, fun i a b hi => ?_, h.tg.set _ _, h.th.blk (hs hb 185 (by simp) h.th), h.ge, h.gh, fun o => by rw [World.frozen?_setCell]; exact h.fd o, fun o => (World.frozen?_of_block (w := w) (a := ⟨hb, o, none⟩) (hs hb 185 (by simp) h.th)).trans (h.fh o)⟩, hc⟩
  obtain ⟨v1, v2, x1, x2, x3, x4⟩ := h.hd i a b hi
  exact ⟨v1, v2, (hh _).trans x1, (hh _).trans x2, x3.keep hk hc.size (fun _ h => h), x4.keep hk hc.size (fun _ h => h)⟩
end
end Rd
end Go.Proofs.YtcbmfakjfoggaaaGreatDoor
namespace Go.Proofs.YtcbmfakjfoggaaaGreatDoor
open Go.RowKit Go.Maps
namespace Rd
open Fr Bd Zn Dz Sb Mg
section
variable {N1 : Nat} {U V : Nat → Prop} {w w' : World} {rd rc hb : Nat} {H : List (List Bl × List Bl)} {P : List (List Bl)} {v : Value}
/-- A box of a hand. -/
structure B2 (w : World) (p : Nat) (u v : Value) : Prop where
  c0 : w.cell? ⟨p, 0, none⟩ = some u
  c1 : w.cell? ⟨p, 1, none⟩ = some v
  fz : ∀ o, w.frozen? ⟨p, o, none⟩ = false
  lt : p < w.heap.size
theorem B2.new (w : World) (u v : Value) (t : TypeId) : B2 (w.alloc (.cells #[u, v] t)) w.heap.size u v := by
  have q := World.cell?_alloc_new w #[u, v] t
  exact ⟨q 0, q 1, fun o => World.frozen?_alloc_at _ _ w.heap.size o rfl, by simp⟩
theorem B2.b {p : Nat} {u v : Value} (h : B2 w p u v) (hb : Below w.heap.size w w') : B2 w' p u v := ⟨(hb.cell (p := ⟨p, 0, none⟩) h.lt).trans h.c0, (hb.cell (p := ⟨p, 1, none⟩) h.lt).trans h.c1, fun o => (hb.frozen (p := ⟨p, o, none⟩) h.lt).trans (h.fz o), Nat.lt_of_lt_of_le h.lt hb.size⟩
theorem B2.off {p : Nat} {u v : Value} (h : B2 w p u v) {a : Addr} (hne : a.block ≠ p) (x : Value) : B2 (w.setCell a x) p u v := ⟨(cso (fun e => hne (by rw [e]))).trans h.c0, (cso (fun e => hne (by rw [e]))).trans h.c1, fun o => by rw [World.frozen?_setCell]; exact h.fz o, by simpa [World.setCell] using h.lt⟩
/-- While Take goes on: the hand's box p, the result's box r. -/
structure TW (N1 : Nat) (U : Nat → Prop) (w : World) (rd rc hb : Nat) (x0 y0 : Int) (H : List (List Bl × List Bl)) (P : List (List Bl)) (p r : Nat) (v1 v2 : Value) (W : World) : Prop where
  d : RD N1 U W rd rc hb H P
  ch : Chg [some 164, some 185] N1 w W
  bx : B2 W p v1 v2
  tp : Tag W p 185
  gp : w.heap.size ≤ p
  rx : Rx W r (.int .i64 x0) (.int .i64 y0)
  gr : w.heap.size ≤ r
  lr : rd < w.heap.size ∧ hb < w.heap.size
  hu : ∀ k, U k → Tag w k 34
variable {p r : Nat} {v1 v2 : Value} {W W' : World} {x0 y0 : Int}
theorem TW.u (h : TW N1 U w rd rc hb x0 y0 H P p r v1 v2 W) : ∀ k, U k → Tag W k 34 := fun k hk => (h.hu k hk).blk (h.ch.same (h.hu k hk) (by decide))
theorem TW.ne (h : TW N1 U w rd rc hb x0 y0 H P p r v1 v2 W) : p ≠ r := h.tp.ne h.rx.tg (by decide)
theorem TW.b (h : TW N1 U w rd rc hb x0 y0 H P p r v1 v2 W) (hb' : Below W.heap.size W W') : TW N1 U w rd rc hb x0 y0 H P p r v1 v2 W' := ⟨h.d.b h.u hb', h.ch.trans (Chg.below hb'), h.bx.b hb', h.tp.b hb', h.gp, h.rx.b hb', h.gr, h.lr, h.hu⟩
theorem TW.np (h : TW N1 U w rd rc hb x0 y0 H P p r v1 v2 W) : p ≠ rd ∧ p ≠ hb ∧ ¬ U p := ⟨fun e => by have := h.lr; have := h.gp; omega, fun e => by have := h.lr; have := h.gp; omega, fun hU => by have := (h.hu p hU).lt; have := h.gp; omega⟩
theorem TW.pile (h : TW N1 U w rd rc hb x0 y0 H P p r v1 v2 W) {v' : Value} {P' : List (List Bl)} (hp : PV U W v' P') : TW N1 U w rd rc hb x0 y0 H P' p r v1 v2 (W.setCell ⟨rd, 2, none⟩ v') := by
  obtain ⟨h1, h2⟩ := h.d.piled h.u hp
  exact ⟨h1, h.ch.trans (h2.mono (by decide) (Nat.le_refl _)), h.bx.off (fun e => h.np.1 e.symm) _, h.tp.set _ _, h.gp, h.rx.blk (Below.heap_setCell _ _ _ _ (fun e => by have := h.lr; have := h.gr; simp only at e; omega)), h.gr, h.lr, h.hu⟩
theorem TW.os {H' : List (List Bl × List Bl)} {P' : List (List Bl)} {v3 v4 : Value} (h : TW N1 U w rd rc hb x0 y0 H P p r v1 v2 W) (h' : TW N1 U w rd rc hb x0 y0 H' P' p r v3 v4 W') {xs : List Bl} (ho : OS U W v xs) : OS U W' v xs := by
  rcases ho with ho | ⟨b, cp, x1, x2, x3, x4, x5, x6⟩
  · exact Or.inl ho
  · exact Or.inr ⟨b, cp, x1, x2, x3, x4, (h'.u b x4).lt, fun j u hu => (World.cell?_of_block (w := W) (a := ⟨b, j, none⟩) ((h'.ch.same (h.hu b x4) (by decide)).trans (h.ch.same (h.hu b x4) (by decide)).symm)).trans (x6 j u hu)⟩
end
end Rd
end Go.Proofs.YtcbmfakjfoggaaaGreatDoor
namespace Go.Proofs.YtcbmfakjfoggaaaGreatDoor
open Go.RowKit Go.Maps
namespace Mg
open Fr Bd Zn Dz Sb
theorem own_tg {w : World} {b e size n g o d m : Nat} {xs : List Value} (h : w.ownsRow b e size (.slice (some ⟨g, o, none⟩) m d) n xs) : Tag w g e := by
  rcases h.2 with ⟨e2, _⟩ | ⟨g', cap, cur, e2, hg, hh, _⟩
  · cases e2
  · simp only [Value.slice.injEq, Option.some.injEq, Addr.mk.injEq] at e2
    obtain ⟨⟨rfl, _⟩, _⟩ := e2
    exact ⟨cur, _, hh⟩
end Mg
end Go.Proofs.YtcbmfakjfoggaaaGreatDoor
namespace Go.Proofs.YtcbmfakjfoggaaaGreatDoor
open Go.RowKit Go.Maps
namespace Rd
open Fr Bd Zn Dz Sb Mg
/-- The values that stand in a pile's row. -/
def PW (U : Nat → Prop) (w : World) (vs : List Value) (P : List (List Bl)) : Prop := vs.length = P.length ∧ ∀ (i : Nat) (xs : List Bl), P[i]? = some xs → ∃ u : Value, vs[i]? = some u ∧ OS U w u xs
section
variable {N1 : Nat} {U V : Nat → Prop} {w w' : World} {rd rc rz hb : Nat} {H : List (List Bl × List Bl)} {P : List (List Bl)} {v : Value} {vs : List Value}
theorem PW.keep (h : PW U w vs P) (hk : ∀ (v : Value) (xs : List Bl), OS U w v xs → OS V w' v xs) : PW V w' vs P := ⟨h.1, fun i xs hi => by
  obtain ⟨u, h1, h2⟩ := h.2 i xs hi
  exact ⟨u, h1, hk _ _ h2⟩⟩
theorem OS.one {xs : List Bl} (h : OS U w v xs) : v.oneCell' = true := by
  rcases h with ⟨rfl, _⟩ | ⟨b, cp, rfl, _⟩ <;> rfl
theorem PW.one (h : PW U w vs P) : ∀ u ∈ vs, u.oneCell' = true := fun u hu => by
  obtain ⟨i, hi⟩ := List.getElem?_of_mem hu
  obtain ⟨xs, hx⟩ : ∃ xs, P[i]? = some xs := ⟨_, List.getElem?_eq_getElem (by rw [← h.1]; exact (List.getElem?_eq_some_iff.1 hi).1)⟩
  obtain ⟨u', h1, h2⟩ := h.2 i xs hx
  rw [hi] at h1
  cases h1
  exact h2.one
end
end Rd
end Go.Proofs.YtcbmfakjfoggaaaGreatDoor
namespace Go.Proofs.YtcbmfakjfoggaaaGreatDoor
open Go.RowKit Go.Maps
namespace Rd
open Fr Bd Zn Dz Sb Mg
theorem info179 : (Tryz.prog.info? 185).map (fun i => (i.zero, i.size, i.bytes)) = some (some (.agg #[.slice none 0 0, .slice none 0 0]), 2, 48) := by kernel_rfl
/-- A list of so many hands is made. -/
theorem make_hands (n : Nat) (hn : 1 ≤ n ∧ n ≤ 4) : ∃ ZZ : Array Value, (∀ j, j < n * 2 → ZZ[j]? = some (.slice none 0 0)) ∧ ∀ W : World, (Instr.makeSlice 161 (.int .i64 (n : Int)) (.int .i64 (n : Int))).run Tryz.prog W = .ok (.slice (some ⟨W.heap.size, 0, none⟩) n n) (W.alloc (.cells ZZ 185)) := by
  obtain ⟨i0, h0, hz0, hz1, hz2⟩ := info_parts info179
  refine ⟨madeCells (Value.agg #[.slice none 0 0, .slice none 0 0]).cells (n * 2), fun j hj => ?_, fun W => ?_⟩
  · have h1 : (Value.agg #[.slice none 0 0, .slice none 0 0]).cells = #[.slice none 0 0, .slice none 0 0] := rfl
    rw [h1]
    have h2 : j % 2 = 0 ∨ j % 2 = 1 := by omega
    unfold madeCells
    rw [Array.getElem?_map, Array.getElem?_range]
    rcases h2 with h2 | h2 <;> simp [hj, h2]
  · have := run_makeSlice (P := Tryz.prog) W 161 185 i0 (.agg #[.slice none 0 0, .slice none 0 0]) Tryz.underlying161 h0 hz0 .i64 .i64 n n (by omega) (by omega) (by rw [hz1]; simp; omega) (by rw [hz2]; omega) (by omega)
    rw [hz1] at this
    simpa using this
set_option maxRecDepth 100000 in
theorem rdnew_ok (N1 rc n : Nat) (hn : 1 ≤ n ∧ n ≤ 4) (w : World) (hN : N1 ≤ w.heap.size) (U : Nat → Prop) :
    Calls Tryz.prog 68 #[.pointer (some ⟨rc, 0, none⟩), .int .i64 (n : Int)] w fun ev w' => ∃ rd hb, ev = .returned (.pointer (some ⟨rd, 0, none⟩)) ∧ RD N1 U w' rd rc hb (List.replicate n ([], [])) [] ∧ Below w.heap.size w w' := by
  obtain ⟨ZZ, hZ, hm⟩ := make_hands n hn
  go_enter Tryz.func68, Tryz.ntmps68
  go_wp2
  go_ret
  have e1 : (w.alloc (.cells ZZ 185)).heap.size = w.heap.size + 1 := by simp
  have hq := World.cell?_alloc_new (w.alloc (.cells ZZ 185)) #[.pointer (some ⟨rc, 0, none⟩), .slice (some ⟨w.heap.size, 0, none⟩) n n, .slice none 0 0] 164
  have ht := tag_new (w.alloc (.cells ZZ 185)) #[.pointer (some ⟨rc, 0, none⟩), .slice (some ⟨w.heap.size, 0, none⟩) n n, .slice none 0 0] 164
  have hf := fun o => World.frozen?_alloc_at (w := w.alloc (.cells ZZ 185)) #[.pointer (some ⟨rc, 0, none⟩), .slice (some ⟨w.heap.size, 0, none⟩) n n, .slice none 0 0] 164 (w.heap.size + 1) o e1.symm
  rw [e1] at hq ht
  have b2 := ballo (Below.refl (w.alloc (.cells ZZ 185)).heap.size (w.alloc (.cells ZZ 185))) (.cells #[.pointer (some ⟨rc, 0, none⟩), .slice (some ⟨w.heap.size, 0, none⟩) n n, .slice none 0 0] 164)
  have hc := World.cell?_alloc_new w ZZ 185
  have htz := (tag_new w ZZ 185).b b2
  have hcz : ∀ j, j < n * 2 → ((w.alloc (.cells ZZ 185)).alloc (.cells #[.pointer (some ⟨rc, 0, none⟩), .slice (some ⟨w.heap.size, 0, none⟩) n n, .slice none 0 0] 164)).cell? ⟨w.heap.size, j, none⟩ = some (.slice none 0 0) := fun j hj => (b2.cell (p := ⟨w.heap.size, j, none⟩) (by rw [e1]; simp)).trans ((hc j).trans (hZ j hj))
  have hfz : ∀ o, ((w.alloc (.cells ZZ 185)).alloc (.cells #[.pointer (some ⟨rc, 0, none⟩), .slice (some ⟨w.heap.size, 0, none⟩) n n, .slice none 0 0] 164)).frozen? ⟨w.heap.size, o, none⟩ = false := fun o => (b2.frozen (p := ⟨w.heap.size, o, none⟩) (by rw [e1]; simp)).trans (World.frozen?_alloc_at _ _ w.heap.size o rfl)
  refine ⟨w.heap.size + 1, w.heap.size, rfl, ⟨hq 0, ⟨n, by rw [List.length_replicate]; exact hq 1⟩, ⟨_, hq 2, Or.inl ⟨rfl, rfl⟩⟩, fun i a b hi => ?_, ht, htz, by omega, hN, hf, hfz⟩, ballo (ballo (Below.refl _ _) _) _⟩
  have hil := (List.getElem?_eq_some_iff.1 hi).1
  rw [List.length_replicate] at hil
  rw [List.getElem?_replicate, if_pos hil] at hi
  simp only [Option.some.injEq, Prod.mk.injEq] at hi
  obtain ⟨rfl, rfl⟩ := hi
  exact ⟨_, _, hcz (i * 2) (by omega), hcz (i * 2 + 1) (by omega), Or.inl ⟨rfl, rfl⟩, Or.inl ⟨rfl, rfl⟩⟩
end Rd
end Go.Proofs.YtcbmfakjfoggaaaGreatDoor
namespace Go.Proofs.YtcbmfakjfoggaaaGreatDoor
open Go.RowKit Go.Maps
namespace Rd
open Fr Bd Zn Dz Sb Mg
def HH (ct : Nat → List Bl) (ws : List (Nat × Nat)) : List (List Bl × List Bl) := ws.map fun x => (ct x.1, ct x.2)
def PP (ct : Nat → List Bl) (pl : List Nat) : List (List Bl) := pl.map ct
end Rd
end Go.Proofs.YtcbmfakjfoggaaaGreatDoor
namespace Go.Proofs.YtcbmfakjfoggaaaGreatDoor
open Go.RowKit Go.Maps
namespace Rd
open Fr Bd Zn Dz Sb Mg
/-- All kinds that the document's answer's depot turns, its cache and its zone. -/
abbrev R6 : List (Option TypeId) := [some 333, some 253, some 140, some 302, some 4, some 164, some 185]
section
variable {w0 : World} {N0 : Nat} {U V O : Nat → Prop} {X : Nat → Option Obj} {c z d g rc rz rd hb : Nat} {sz : Int} {m : Nat} {mn lw hi : Int} {k : Nat} {nb fm tm : Nat → Nat} {fr : Nat → List Nat} {Q : Nat} {ss ss2 : List Sl} {nd nd2 : Nat → Nd} {ws : List (Nat × Nat)} {pl : List Nat} {ct : Nat → List Bl} {H : List (List Bl × List Bl)} {P : List (List Bl)} {w w' : World}
/-- Both depots in one memory. -/
structure QD (w0 : World) (N0 : Nat) (X : Nat → Option Obj) (c z d g rc rz rd hb : Nat) (sz : Int) (m : Nat) (mn lw hi : Int) (k : Nat) (nb fm tm : Nat → Nat) (fr : Nat → List Nat) (U O : Nat → Prop) (Q : Nat) (ss : List Sl) (nd : Nat → Nd) (ws : List (Nat × Nat)) (pl : List Nat) (ct : Nat → List Bl) (ss2 : List Sl) (nd2 : Nat → Nd) (H : List (List Bl × List Bl)) (P : List (List Bl)) (w : World) : Prop where
  q : DQ w0 N0 (fun j => U j ∨ O j) X c z d g sz m mn lw hi k nb fm tm fr Q ss nd ws pl ct w
  r : ∃ rb rt nb2, RR N0 w rc rz sz m rb rt ss2 mn lw hi k nb2 nd2 fr
  d : RD N0 U w rd rc hb H P
theorem QD.uk (h : QD w0 N0 X c z d g rc rz rd hb sz m mn lw hi k nb fm tm fr U O Q ss nd ws pl ct ss2 nd2 H P w) : ∀ k, U k → Tag w k 34 := fun k hk => h.q.uk k (Or.inl hk)
theorem QD.b (h : QD w0 N0 X c z d g rc rz rd hb sz m mn lw hi k nb fm tm fr U O Q ss nd ws pl ct ss2 nd2 H P w) (hb' : Below w.heap.size w w') : QD w0 N0 X c z d g rc rz rd hb sz m mn lw hi k nb fm tm fr U O Q ss nd ws pl ct ss2 nd2 H P w' := by
  obtain ⟨rb, rt, nb2, hr⟩ := h.r
  exact ⟨h.q.b hb', ⟨rb, rt, nb2, hr.b hb'⟩, h.d.b h.uk hb'⟩
theorem QD.box (h : QD w0 N0 X c z d g rc rz rd hb sz m mn lw hi k nb fm tm fr U O Q ss nd ws pl ct ss2 nd2 H P w) (x y : Int) : QD w0 N0 X c z d g rc rz rd hb sz m mn lw hi k nb fm tm fr (fun j => U j ∨ j = w.heap.size) O Q ss nd ws pl ct ss2 nd2 H P (w.alloc (.cells #[.int .i64 x, .int .i64 y] 34)) := by
  have hb' := ballo (Below.refl w.heap.size w) (.cells #[.int .i64 x, .int .i64 y] 34)
  have h1 := h.b hb'
  exact ⟨(h.q.more hb' (Nat.le_refl _) (tag_new _ _ _)).less (fun j hj => by
    rcases hj with (h | h) | h
    · exact Or.inl (Or.inl h)
    · exact Or.inr h
    · exact Or.inl (Or.inr h)), h1.r, h1.d.keep (fun _ _ => rfl) (fun _ _ _ _ => rfl) (Nat.le_refl _) (fun _ h => Or.inl h)⟩
end
end Rd
end Go.Proofs.YtcbmfakjfoggaaaGreatDoor
