/- The document's answer's buddies' own memory (Own), by contract · The document's answer's zone in memory; IsNode, Lack, Give by contract · Package zone's zone in memory; its has, Free, Low, Lack, Node by contract. -/
import Derived.Test.YtcbmfakjfoggaaaGreatDoorG12
import Derived.Test.YtcbmfakjfoggaaaGreatDoorG10
import Derived.Test.YtcbmfakjfoggaaaGreatDoorG07
import Derived.Test.YtcbmfakjfoggaaaGreatDoorG08
import Derived.Test.YtcbmfakjfoggaaaGreatDoorG04
import Derived.Laws.EntriesVeiled
import Derived.BigQuiet
import Derived.Deep.RegionHeld3
namespace Go.Proofs.YtcbmfakjfoggaaaGreatDoor
open Go.RowKit
namespace Bd
open Fr
theorem own_keep {w w' : World} {b e size n A : Nat} {v : Value} {xs : List Value} (h : w.ownsRow b e size v n xs) (hk : Kept A A w w') {t : TypeId} (ht : Tag w A t) (hne : t ≠ e) : w'.ownsRow b e size v n xs := by
  have hl := h.lt
  refine ⟨h.1, ?_⟩
  rcases h.2 with h2 | ⟨g, cap, cur, rfl, h2, h3, h4⟩
  · exact Or.inl h2
  · have n1 : g ≠ A := fun e1 => Tag.ne (t := e) (t' := t) (g := g) (g' := A) ⟨cur, _, h3⟩ ht hne.symm e1
    exact Or.inr ⟨g, cap, cur, rfl, h2, (hk.block g (hl g rfl).2 n1 n1).trans h3, h4⟩
theorem Row.keep {w w' : World} {g A : Nat} {R : List Bl} (h : Row w g R) (hk : Kept A A w w') (hne : g ≠ A) : Row w' g R :=
  ⟨fun i hi => ⟨(hk.cell (p := ⟨g, i * 2, none⟩) h.lt hne hne).trans (h.c i hi).1, (hk.cell (p := ⟨g, i * 2 + 1, none⟩) h.lt hne hne).trans (h.c i hi).2⟩, fun o ho => (World.frozen?_of_block (w := w) (a := ⟨g, o, none⟩) (hk.block g h.lt hne hne)).trans (h.fz o ho), Nat.lt_of_lt_of_le h.lt hk.size⟩
theorem Tag.keep {w w' : World} {g A : Nat} {t : TypeId} (h : Tag w g t) (hk : Kept A A w w') (hne : g ≠ A) : Tag w' g t := h.blk (hk.block g h.lt hne hne)
/-- The lists of buddies where a block of another type turns. -/
theorem RL.keep {w w' : World} {b A : Nat} {v : Value} {L : List Bl} (h : RL w b v L) (hk : Kept A A w w') {t : TypeId} (ht : Tag w A t) (hne : t ≠ 291) : RL w' b v L := by
  rcases h with h | ⟨g, c, hv, h0, h1, h2, h3, hr⟩
  · exact Or.inl h
  · have n1 := Tag.ne hr.tg ht hne.symm
    exact Or.inr ⟨g, c, hv, h0, h1, h2, h3, hr.toRow.keep hk n1, hr.tg.keep hk n1⟩
theorem RB.keep {w w' : World} {b A : Nat} {N : Int} {F T : List Bl} (h : RB w b N F T) (hk : Kept A A w w') (hb : b ≠ A) {t : TypeId} (ht : Tag w A t) (hne : t ≠ 291) : RB w' b N F T := by
  obtain ⟨v1, e1, l1⟩ := h.c1
  obtain ⟨v2, e2, l2⟩ := h.c2
  have fr : ∀ o, w'.frozen? ⟨b, o, none⟩ = w.frozen? ⟨b, o, none⟩ := fun o => World.frozen?_of_block (w := w) (a := ⟨b, o, none⟩) (hk.block b h.lt hb hb)
  exact ⟨(hk.cell (p := ⟨b, 0, none⟩) h.lt hb hb).trans h.c0, ⟨v1, (hk.cell (p := ⟨b, 1, none⟩) h.lt hb hb).trans e1, l1.keep hk ht hne⟩, ⟨v2, (hk.cell (p := ⟨b, 2, none⟩) h.lt hb hb).trans e2, l2.keep hk ht hne⟩, (fr 1).trans h.f1, (fr 2).trans h.f2, Nat.lt_of_lt_of_le h.lt hk.size, h.tg.keep hk hb⟩
end Bd
namespace Zn
open Fr Bd
end Zn
end Go.Proofs.YtcbmfakjfoggaaaGreatDoor
namespace Go.Proofs.YtcbmfakjfoggaaaGreatDoor
open Go.RowKit
namespace Bd
open Fr
/-- Buddies' numbers: pages, free ones, taken ones. -/
structure Nd where
  N : Int
  F : List Bl
  T : List Bl
def Nd.ok (d : Nd) : Prop := 1 ≤ d.N ∧ d.N ≤ 256 ∧ Inv d.N d.F d.T
def up {α : Type} (f : Nat → α) (i : Nat) (v : α) : Nat → α := fun j => if j = i then v else f j
theorem up_at {α : Type} (f : Nat → α) (i : Nat) (v : α) : up f i v i = v := by simp [up]
theorem up_ne {α : Type} (f : Nat → α) {i j : Nat} (v : α) (h : j ≠ i) : up f i v j = f j := by simp [up, h]
def ptrs (k : Nat) (nb : Nat → Nat) : List Value := (List.range k).map fun i => ptr (nb i)
theorem ptrs_at {k : Nat} {nb : Nat → Nat} {i : Nat} (h : i < k) : (ptrs k nb)[i]? = some (ptr (nb i)) := by simp [ptrs, h]
theorem ptrs_set {k : Nat} {nb : Nat → Nat} {i c : Nat} : (ptrs k nb).set i (ptr c) = ptrs k (up nb i c) := by
  apply List.ext_getElem?
  intro j
  rw [List.getElem?_set]
  by_cases hj : j < k
  · by_cases h : i = j
    · subst h; simp [ptrs, hj, up]
    · rw [if_neg h]
      simp [ptrs, hj, up, Ne.symm h]
  · by_cases h : i = j
    · subst h; simp [ptrs, hj]
    · rw [if_neg h]
      simp [ptrs, hj]
end Bd
namespace Zn
open Fr Bd
/-- The document's answer's zone in memory. -/
structure RZ (w : World) (z : Nat) (mn lw hi : Int) (k : Nat) (nb : Nat → Nat) (nd : Nat → Nd) (fr : Nat → List Nat) : Prop where
  m2 : w.cell? ⟨z, 2, none⟩ = some (.int .i64 mn)
  m3 : w.cell? ⟨z, 3, none⟩ = some (.int .i64 lw)
  m4 : w.cell? ⟨z, 4, none⟩ = some (.int .i64 hi)
  cn : ∃ g c, w.cell? ⟨z, 5, none⟩ = some (.slice (some ⟨g, 0, none⟩) k c) ∧ w.ownsRow 0 253 1 (.slice (some ⟨g, 0, none⟩) k c) k (ptrs k nb)
  cf : ∃ g c rows, w.cell? ⟨z, 6, none⟩ = some (.slice (some ⟨g, 0, none⟩) k c) ∧ w.ownsRow 0 38 1 (.slice (some ⟨g, 0, none⟩) k c) k rows ∧ ∀ i, i < k → ∃ h d, rows[i]? = some (.slice (some ⟨h, 0, none⟩) (fr i).length d) ∧ w.ownsRow 0 3 1 (.slice (some ⟨h, 0, none⟩) (fr i).length d) (fr i).length (ivs (fr i))
  tg : Tag w z 252
  rb : ∀ i, i < k → RB w (nb i) (nd i).N (nd i).F (nd i).T
  ok : ∀ i, i < k → (nd i).ok
  ne : ∀ i j, i < k → j < k → i ≠ j → nb i ≠ nb j
theorem RZ.b {w w' : World} {z : Nat} {mn lw hi : Int} {k : Nat} {nb : Nat → Nat} {nd : Nat → Nd} {fr : Nat → List Nat} (h : RZ w z mn lw hi k nb nd fr) (hb : Below w.heap.size w w') : RZ w' z mn lw hi k nb nd fr := by
  have hl := h.tg.lt
  obtain ⟨g, c, e1, o1⟩ := h.cn
  obtain ⟨g2, c2, rows, e2, o2, r2⟩ := h.cf
  refine ⟨(hb.cell (p := ⟨z, 2, none⟩) hl).trans h.m2, (hb.cell (p := ⟨z, 3, none⟩) hl).trans h.m3, (hb.cell (p := ⟨z, 4, none⟩) hl).trans h.m4, ⟨g, c, (hb.cell (p := ⟨z, 5, none⟩) hl).trans e1, own_b o1 hb⟩, ⟨g2, c2, rows, (hb.cell (p := ⟨z, 6, none⟩) hl).trans e2, own_b o2 hb, fun i hi => ?_⟩, h.tg.b hb, fun i hi => (h.rb i hi).b hb, h.ok, h.ne⟩
  obtain ⟨h', d, e3, o3⟩ := r2 i hi
  exact ⟨h', d, e3, own_b o3 hb⟩
/-- Where a block of another type turns. -/
theorem RZ.keep {w w' : World} {z A : Nat} {mn lw hi : Int} {k : Nat} {nb : Nat → Nat} {nd : Nat → Nd} {fr : Nat → List Nat} (h : RZ w z mn lw hi k nb nd fr) (hk : Kept A A w w') {t : TypeId} (ht : Tag w A t) (n1 : t ≠ 252) (n2 : t ≠ 253) (n3 : t ≠ 38) (n4 : t ≠ 3) (n5 : t ≠ 291) (n6 : t ≠ 333) : RZ w' z mn lw hi k nb nd fr := by
  have hl := h.tg.lt
  have hz := h.tg.ne ht n1.symm
  obtain ⟨g, c, e1, o1⟩ := h.cn
  obtain ⟨g2, c2, rows, e2, o2, r2⟩ := h.cf
  refine ⟨(hk.cell (p := ⟨z, 2, none⟩) hl hz hz).trans h.m2, (hk.cell (p := ⟨z, 3, none⟩) hl hz hz).trans h.m3, (hk.cell (p := ⟨z, 4, none⟩) hl hz hz).trans h.m4, ⟨g, c, (hk.cell (p := ⟨z, 5, none⟩) hl hz hz).trans e1, own_keep o1 hk ht n2⟩, ⟨g2, c2, rows, (hk.cell (p := ⟨z, 6, none⟩) hl hz hz).trans e2, own_keep o2 hk ht n3, fun i hi => ?_⟩, h.tg.keep hk hz, fun i hi => (h.rb i hi).keep hk ((h.rb i hi).tg.ne ht n6.symm) ht n5, h.ok, h.ne⟩
  obtain ⟨h', d, e3, o3⟩ := r2 i hi
  exact ⟨h', d, e3, own_keep o3 hk ht n4⟩
/-- One node's buddies have turned. -/
theorem RZ.turn {w w' : World} {z : Nat} {mn lw hi : Int} {k : Nat} {nb : Nat → Nat} {nd : Nat → Nd} {fr : Nat → List Nat} (h : RZ w z mn lw hi k nb nd fr) {x : Nat} (hx : x < k) (hk : Kept (nb x) (nb x) w w') {d : Nd} (hd : RB w' (nb x) d.N d.F d.T) (hok : d.ok) : RZ w' z mn lw hi k nb (up nd x d) fr := by
  have hl := h.tg.lt
  have ht := (h.rb x hx).tg
  have hz := h.tg.ne ht (by decide)
  obtain ⟨g, c, e1, o1⟩ := h.cn
  obtain ⟨g2, c2, rows, e2, o2, r2⟩ := h.cf
  refine ⟨(hk.cell (p := ⟨z, 2, none⟩) hl hz hz).trans h.m2, (hk.cell (p := ⟨z, 3, none⟩) hl hz hz).trans h.m3, (hk.cell (p := ⟨z, 4, none⟩) hl hz hz).trans h.m4, ⟨g, c, (hk.cell (p := ⟨z, 5, none⟩) hl hz hz).trans e1, own_keep o1 hk ht (by decide)⟩, ⟨g2, c2, rows, (hk.cell (p := ⟨z, 6, none⟩) hl hz hz).trans e2, own_keep o2 hk ht (by decide), fun i hi => ?_⟩, h.tg.keep hk hz, fun i hi => ?_, fun i hi => ?_, h.ne⟩
  · obtain ⟨h', d, e3, o3⟩ := r2 i hi
    exact ⟨h', d, e3, own_keep o3 hk ht (by decide)⟩
  · by_cases hix : i = x
    · subst hix; rw [up_at]; exact hd
    · rw [up_ne _ _ hix]; exact (h.rb i hi).keep hk (h.ne i x hi hx hix) ht (by decide)
  · by_cases hix : i = x
    · subst hix; rw [up_at]; exact hok
    · rw [up_ne _ _ hix]; exact h.ok i hi

theorem RZ.node {w : World} {z : Nat} {mn lw hi : Int} {k : Nat} {nb : Nat → Nat} {nd : Nat → Nd} {fr : Nat → List Nat} (h : RZ w z mn lw hi k nb nd fr) {x : Nat} (hx : x < k) : ∃ g c, w.cell? ⟨z, 5, none⟩ = some (.slice (some ⟨g, 0, none⟩) k c) ∧ g < w.heap.size ∧ w.cell? ⟨g, x, none⟩ = some (ptr (nb x)) := by
  obtain ⟨g, c, e1, o1⟩ := h.cn
  exact ⟨g, c, e1, (o1.lt g rfl).2, (o1.cellAt x (by omega)).trans (ptrs_at hx)⟩
theorem nd_len {d : Nd} (h : d.ok) : d.F.length ≤ 256 ∧ d.T.length ≤ 256 ∧ ∀ y ∈ d.F, 0 ≤ y.2 ∧ y.2 ≤ 6 := by
  obtain ⟨_, h2, hi⟩ := h
  refine ⟨?_, ?_, ?_⟩
  · have := srt_len hi.sF (a := 0) (b := 256) (fun z hz => by have h1 := hi.inF hz; have h2 := pw_pos z.2; omega)
    omega
  · have := srt_len hi.sT (a := 0) (b := 256) (fun z hz => by have h1 := hi.inT hz; have h2 := pw_pos z.2; omega)
    omega
  · intro y hy
    have := hi.oF y hy
    unfold Okb at this
    omega
/-- A node's buddies behind Give, and what it answers. -/
def gaveD (x : Bl) (d : Nd) : Nd := if x ∈ d.T then ⟨d.N, giveF x d.F, del x.1 d.T⟩ else d
def plV (x a o : Int) : Value := .agg #[.int .i64 x, .int .i64 a, .int .i64 o]
def plO (x a o : Int) : Obj := .cells #[.int .i64 x, .int .i64 a, .int .i64 o] 293
end Zn
end Go.Proofs.YtcbmfakjfoggaaaGreatDoor
namespace Go.Proofs.YtcbmfakjfoggaaaGreatDoor
open Go.RowKit Go.Maps
namespace Dz
open Fr Bd Zn
/-- A row of cells stays where maps turn. -/
theorem own_turn {w w' : World} {A B b e size n : Nat} {v : Value} {xs : List Value} {LA LB : List Bl} (h : w.ownsRow b e size v n xs) (hA : Mp w A LA) (hB : Mp w B LB) (hk : Kept A B w w') : w'.ownsRow b e size v n xs := by
  have hl := h.lt
  refine ⟨h.1, ?_⟩
  rcases h.2 with h2 | ⟨g, cap, cur, rfl, h2, h3, h4⟩
  · exact Or.inl h2
  · have ne : ∀ C LC, Mp w C LC → g ≠ C := fun C LC hC e => by
      obtain ⟨⟨es, clock, h1, _⟩, _, _⟩ := hC
      rw [← e, h3] at h1
      cases h1
    exact Or.inr ⟨g, cap, cur, rfl, h2, (hk.block g (hl g rfl).2 (ne A LA hA) (ne B LB hB)).trans h3, h4⟩
/-- Package zone's zone in memory. -/
structure DZ (w : World) (z : Nat) (mn lw hi : Int) (k : Nat) (nb fm tm : Nat → Nat) (nd : Nat → Nd) (fr : Nat → List Nat) : Prop where
  m0 : w.cell? ⟨z, 0, none⟩ = some (.int .i64 mn)
  m1 : w.cell? ⟨z, 1, none⟩ = some (.int .i64 lw)
  m2 : w.cell? ⟨z, 2, none⟩ = some (.int .i64 hi)
  cn : ∃ g c, w.cell? ⟨z, 3, none⟩ = some (.slice (some ⟨g, 0, none⟩) k c) ∧ w.ownsRow 0 242 1 (.slice (some ⟨g, 0, none⟩) k c) k (ptrs k nb)
  cf : ∃ g c rows, w.cell? ⟨z, 4, none⟩ = some (.slice (some ⟨g, 0, none⟩) k c) ∧ w.ownsRow 0 38 1 (.slice (some ⟨g, 0, none⟩) k c) k rows ∧ ∀ i, i < k → ∃ h d, rows[i]? = some (.slice (some ⟨h, 0, none⟩) k d) ∧ w.ownsRow 0 3 1 (.slice (some ⟨h, 0, none⟩) k d) k (ivs (fr i))
  lt : z < w.heap.size
  bd : ∀ i, i < k → Bud w (nb i) (fm i) (tm i) (nd i).N (nd i).F (nd i).T
  ok : ∀ i, i < k → (nd i).ok
  ne : ∀ i j, i < k → j < k → i ≠ j → fm i ≠ fm j ∧ tm i ≠ tm j ∧ fm i ≠ tm j
  fl : ∀ i, i < k → (fr i).length = k ∧ ∀ j ∈ fr i, j < k
  tz : Tag w z 241
  tb : ∀ i, i < k → Tag w (nb i) 327
theorem DZ.b {w w' : World} {z : Nat} {mn lw hi : Int} {k : Nat} {nb fm tm : Nat → Nat} {nd : Nat → Nd} {fr : Nat → List Nat} (h : DZ w z mn lw hi k nb fm tm nd fr) (hb : Below w.heap.size w w') : DZ w' z mn lw hi k nb fm tm nd fr := by
  have hl := h.lt
  obtain ⟨g, c, e1, o1⟩ := h.cn
  obtain ⟨g2, c2, rows, e2, o2, r2⟩ := h.cf
  refine ⟨(hb.cell (p := ⟨z, 0, none⟩) hl).trans h.m0, (hb.cell (p := ⟨z, 1, none⟩) hl).trans h.m1, (hb.cell (p := ⟨z, 2, none⟩) hl).trans h.m2, ⟨g, c, (hb.cell (p := ⟨z, 3, none⟩) hl).trans e1, own_b o1 hb⟩, ⟨g2, c2, rows, (hb.cell (p := ⟨z, 4, none⟩) hl).trans e2, own_b o2 hb, fun i hi => ?_⟩, Nat.lt_of_lt_of_le hl hb.size, fun i hi => (h.bd i hi).b hb, h.ok, h.ne, h.fl, h.tz.b hb, fun i hi => (h.tb i hi).b hb⟩
  obtain ⟨h', d, e3, o3⟩ := r2 i hi
  exact ⟨h', d, e3, own_b o3 hb⟩
/-- One node's buddies turn. -/
theorem DZ.turn {w w' : World} {z : Nat} {mn lw hi : Int} {k : Nat} {nb fm tm : Nat → Nat} {nd : Nat → Nd} {fr : Nat → List Nat} (h : DZ w z mn lw hi k nb fm tm nd fr) {x : Nat} (hx : x < k) (hk : Kept (fm x) (tm x) w w') {d : Nd} (hd : Bud w' (nb x) (fm x) (tm x) d.N d.F d.T) (hok : d.ok) : DZ w' z mn lw hi k nb fm tm (up nd x d) fr := by
  have hF := (h.bd x hx).f
  have hT := (h.bd x hx).t
  obtain ⟨g, c, e1, o1⟩ := h.cn
  obtain ⟨g2, c2, rows, e2, o2, r2⟩ := h.cf
  refine ⟨cell_kept h.m0 hF hT hk, cell_kept h.m1 hF hT hk, cell_kept h.m2 hF hT hk, ⟨g, c, cell_kept e1 hF hT hk, own_turn o1 hF hT hk⟩, ⟨g2, c2, rows, cell_kept e2 hF hT hk, own_turn o2 hF hT hk, fun i hi => ?_⟩, Nat.lt_of_lt_of_le h.lt hk.size, fun i hi => ?_, fun i hi => ?_, h.ne, h.fl, h.tz.blk (hk.block z h.lt (ne_map h.m0 hF) (ne_map h.m0 hT)), fun i hi => (h.tb i hi).blk (hk.block _ (h.bd i hi).lt (ne_map (h.bd i hi).c0 hF) (ne_map (h.bd i hi).c0 hT))⟩
  · obtain ⟨h', d', e3, o3⟩ := r2 i hi
    exact ⟨h', d', e3, own_turn o3 hF hT hk⟩
  · by_cases e : i = x
    · subst e; rw [up_at]; exact hd
    · rw [up_ne _ _ e]
      have hbi := h.bd i hi
      have n1 := h.ne i x hi hx e
      have n2 := h.ne x i hx hi (Ne.symm e)
      exact hbi.blk hk.size (hk.block _ hbi.lt (ne_map hbi.c0 hF) (ne_map hbi.c0 hT)) (hk.block _ hbi.f.lt n1.1 n1.2.2) (hk.block _ hbi.t.lt (Ne.symm n2.2.2) n1.2.1)
  · by_cases e : i = x
    · subst e; rw [up_at]; exact hok
    · rw [up_ne _ _ e]; exact h.ok i hi
theorem DZ.node {w : World} {z : Nat} {mn lw hi : Int} {k : Nat} {nb fm tm : Nat → Nat} {nd : Nat → Nd} {fr : Nat → List Nat} (h : DZ w z mn lw hi k nb fm tm nd fr) {x : Nat} (hx : x < k) : ∃ g c, w.cell? ⟨z, 3, none⟩ = some (.slice (some ⟨g, 0, none⟩) k c) ∧ g < w.heap.size ∧ w.cell? ⟨g, x, none⟩ = some (ptr (nb x)) := by
  obtain ⟨g, c, e1, o1⟩ := h.cn
  exact ⟨g, c, e1, (o1.lt g rfl).2, (o1.cellAt x (by omega)).trans (ptrs_at hx)⟩
/-- The order of nodes from one. -/
theorem DZ.from {w : World} {z : Nat} {mn lw hi : Int} {k : Nat} {nb fm tm : Nat → Nat} {nd : Nat → Nd} {fr : Nat → List Nat} (h : DZ w z mn lw hi k nb fm tm nd fr) {x : Nat} (hx : x < k) : ∃ g c h' d, w.cell? ⟨z, 4, none⟩ = some (.slice (some ⟨g, 0, none⟩) k c) ∧ w.cell? ⟨g, x, none⟩ = some (.slice (some ⟨h', 0, none⟩) k d) ∧ h' < w.heap.size ∧ ∀ j, j < k → w.cell? ⟨h', j, none⟩ = some (.int .i64 (((fr x).getD j 0 : Nat) : Int)) := by
  obtain ⟨g2, c2, rows, e2, o2, r2⟩ := h.cf
  obtain ⟨h', d, e3, o3⟩ := r2 x hx
  refine ⟨g2, c2, h', d, e2, (o2.cellAt x (by omega)).trans e3, (o3.lt h' rfl).2, fun j hj => ?_⟩
  rw [o3.cellAt j (by omega)]
  have hl := (h.fl x hx).1
  simp [ivs, List.getElem?_eq_getElem (show j < (fr x).length by omega), List.getD_eq_getElem?_getD]

set_option maxHeartbeats 2000000 in
theorem has_ok (z : Nat) (mn lw hi : Int) (k : Nat) (nb fm tm : Nat → Nat) (nd : Nat → Nd) (fr : Nat → List Nat) (x : Int) (w : World) (h : DZ w z mn lw hi k nb fm tm nd fr) :
    Calls Tryz.prog 221 #[ptr z, .int .i64 x] w fun ev w' => ev = .returned (.bool (decide (0 ≤ x ∧ x < k))) ∧ w' = w := by
  obtain ⟨g, c, e1, o1⟩ := h.cn
  clear h o1
  unfold ptr
  by_cases h0 : 0 ≤ x
  · have d0 : decide (0 ≤ x) = true := by simpa using h0
    have dd : decide (0 ≤ x ∧ x < k) = decide (x < k) := by simp [h0]
    rw [dd]
    go_enter Tryz.func221, Tryz.ntmps221
    go_wp2
    go_ret
    exact ⟨rfl, rfl⟩
  · have d0 : decide (0 ≤ x) = false := by simpa using h0
    have dd : decide (0 ≤ x ∧ x < k) = false := by simp [h0]
    rw [dd]
    go_enter Tryz.func221, Tryz.ntmps221
    go_wp2
    go_ret
    exact ⟨rfl, rfl⟩
theorem free1_ok (b fm tm : Nat) (N : Int) (F T : List Bl) (w : World) (h : Bud w b fm tm N F T) :
    Calls Tryz.prog 204 (#[ptr b] ++ #[]) w fun ev w' => ev = .returned (.int .i64 (pgs F)) ∧ Below w.heap.size w w' := by
  have H := hide (pages_free b fm tm N F T w h)
  clear h
  unfold ptr at *
  simp only [Array.append_empty]
  go_enter Tryz.func204, Tryz.ntmps204
  go_wp2_with fail
  refine (unhide H).mono ?_
  rintro ev w' ⟨rfl, hb⟩
  go_wp2_with fail
  go_ret
  exact ⟨rfl, hb⟩
theorem eg63 : ∀ args w, (callFunc 204 args).run Tryz.prog w = .ok (.enter 204 args) w := enters_of Tryz.func204 (by kernel_rfl) rfl
set_option maxHeartbeats 2000000 in
theorem ask_bad_int (z : Nat) (mn lw hi : Int) (k : Nat) (nb fm tm : Nat → Nat) (nd : Nat → Nd) (fr : Nat → List Nat) (x : Int) (fv : Value) (w : World) (e : Nat → Addr) (he : Errs3 w e) (h : DZ w z mn lw hi k nb fm tm nd fr) (hx : ¬ (0 ≤ x ∧ x < k)) :
    Calls Tryz.prog 203 #[ptr z, .int .i64 x, fv] w fun ev w' => ev = .returned (.tuple #[.int .i64 0, errV (e 1)]) ∧ Below w.heap.size w w' := by
  have H := has_ok z mn lw hi k nb fm tm nd fr x w h
  rw [show decide (0 ≤ x ∧ x < k) = false by simpa using hx] at H
  have H := hide H
  have hE := he.bound
  clear h he hx
  unfold ptr errV at *
  go_enter Tryz.func203, Tryz.ntmps203
  go_wp2_with fail
  refine (unhide H).mono ?_
  rintro ev w' ⟨rfl, rfl⟩
  go_wp2_with fail
  go_quiet (fail)
  go_wp2
  go_ret2
  exact ⟨rfl, bdN (Below.refl _ _) _⟩
set_option maxHeartbeats 2000000 in
theorem ask_int (z : Nat) (mn lw hi : Int) (k : Nat) (nb fm tm : Nat → Nat) (nd : Nat → Nd) (fr : Nat → List Nat) (x : Nat) (f : Nat) (lb : Array Value) (ef : ∀ args w, (callFunc f args).run Tryz.prog w = .ok (.enter f args) w) (R : Value → World → Prop) (w : World) (h : DZ w z mn lw hi k nb fm tm nd fr) (hx : x < k)
    (hp : Calls Tryz.prog f (#[ptr (nb x)] ++ lb) w fun ev w' => ∃ r, ev = .returned r ∧ R r w' ∧ Below w.heap.size w w') :
    Calls Tryz.prog 203 #[ptr z, .int .i64 x, .func (.func f) #[] lb] w fun ev w' => ∃ r, ev = .returned (.tuple #[r, .nilIface]) ∧ R r w' ∧ Below w.heap.size w w' := by
  have H := has_ok z mn lw hi k nb fm tm nd fr x w h
  rw [show decide ((0 : Int) ≤ (x : Int) ∧ (x : Int) < k) = true by simp; omega] at H
  have H := hide H
  obtain ⟨g, c, c1, _, c2⟩ := h.node hx
  have hxk : (x : Int) < k := by omega
  have hx0 : (0 : Int) ≤ x := by omega
  have HP := hide hp
  clear h hp
  unfold ptr at *
  go_enter Tryz.func203, Tryz.ntmps203
  go_wp2_with fail
  refine (unhide H).mono ?_
  rintro ev w' ⟨rfl, rfl⟩
  go_wp2_with (go_at_fn f; refine (unhide HP).mono ?_; rintro ev w2 ⟨r, rfl, hR, hb⟩)
  go_ret2
  exact ⟨_, rfl, hR, hb⟩
theorem zfree_bad (z : Nat) (mn lw hi : Int) (k : Nat) (nb fm tm : Nat → Nat) (nd : Nat → Nd) (fr : Nat → List Nat) (x : Int) (w : World) (e : Nat → Addr) (he : Errs3 w e) (h : DZ w z mn lw hi k nb fm tm nd fr) (hx : ¬ (0 ≤ x ∧ x < k)) :
    Calls Tryz.prog 149 #[ptr z, .int .i64 x] w fun ev w' => ev = .returned (.tuple #[.int .i64 0, errV (e 1)]) ∧ Below w.heap.size w w' := by
  have H := hide (ask_bad_int z mn lw hi k nb fm tm nd fr x (.func (.func 204) #[] #[]) w e he h hx)
  clear h he hx
  unfold ptr errV at *
  go_enter Tryz.func149, Tryz.ntmps149
  go_wp2_with fail
  refine (unhide H).mono ?_
  rintro ev w' ⟨rfl, hb⟩
  go_wp2_with fail
  go_ret2
  exact ⟨rfl, hb⟩
theorem zfree_ok (z : Nat) (mn lw hi : Int) (k : Nat) (nb fm tm : Nat → Nat) (nd : Nat → Nd) (fr : Nat → List Nat) (x : Nat) (w : World) (h : DZ w z mn lw hi k nb fm tm nd fr) (hx : x < k) :
    Calls Tryz.prog 149 #[ptr z, .int .i64 x] w fun ev w' => ev = .returned (.tuple #[.int .i64 (pgs (nd x).F), .nilIface]) ∧ Below w.heap.size w w' := by
  have H := hide (ask_int z mn lw hi k nb fm tm nd fr x 204 #[] eg63 (fun r _ => r = .int .i64 (pgs (nd x).F)) w h hx ((free1_ok _ _ _ _ _ _ w (h.bd x hx)).mono fun ev w' hh => ⟨_, hh.1, rfl, hh.2⟩))
  clear h hx
  generalize pgs (nd x).F = v at *
  unfold ptr at *
  go_enter Tryz.func149, Tryz.ntmps149
  go_wp2_with fail
  refine (unhide H).mono ?_
  rintro ev w' ⟨r, rfl, rfl, hb⟩
  go_wp2_with fail
  go_ret2
  exact ⟨rfl, hb⟩
end Dz
end Go.Proofs.YtcbmfakjfoggaaaGreatDoor
