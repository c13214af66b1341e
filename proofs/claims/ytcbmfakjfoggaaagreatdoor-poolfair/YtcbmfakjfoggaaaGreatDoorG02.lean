/- What is free at the beginning, and again when nothing is taken: the cover. Plain arithmetic · A list of blocks that lies in a slice · Maps of orders by where blocks begin: what a map in memory holds, as a rising list; what is left as it was · The library's functions that buddy.fit hands function values to: the search, the deletion. -/
import Derived.Test.YtcbmfakjfoggaaaGreatDoorG01
import Derived.WalkKit
import Derived.OwnWalk
import Derived.Maps.OwnSet
import Derived.Maps.Ext
import Derived.Lib.SlKeysI
import Derived.Laws.IdiomCopy
import Derived.Shelf.AbstractIn
namespace Go.Proofs.YtcbmfakjfoggaaaGreatDoor
open Go.RowKit
namespace Bd
open Fr
def seg (a t p : Int) : Nat := if a ≤ p ∧ p < t then 1 else 0
theorem cv_facts : ∀ (n : Nat) (a r : Int), r.toNat = n → Srt (cv a r) ∧ (∀ p, cnt p (cv a r) = seg a (a + r) p) ∧ ∀ x ∈ cv a r, a ≤ x.1 ∧ x.1 + pw x.2 ≤ a + r ∧ Okb x ∧ x.2 = wid x.1 (a + r - x.1) := by
  intro n
  induction n using Nat.strongRecOn with
  | _ n ih =>
    intro a r hn
    by_cases hr : r ≤ 0
    · rw [cv_nil a r hr]
      refine ⟨srt_nil, fun p => ?_, fun x hx => by cases hx⟩
      unfold seg; rw [if_neg (by omega)]; rfl
    · have hw := wid_facts a r (by omega)
      have hp := pw_pos (wid a r)
      obtain ⟨h1, h2, h3⟩ := ih (r - pw (wid a r)).toNat (by omega) (a + pw (wid a r)) (r - pw (wid a r)) rfl
      rw [show a + pw (wid a r) + (r - pw (wid a r)) = a + r by omega] at h2 h3
      rw [cv_cons a r (by omega)]
      refine ⟨srt_cons.2 ⟨fun y hy => by have := (h3 y hy).1; simp only; omega, h1⟩, fun p => ?_, fun x hx => ?_⟩
      · simp only [cnt]
        rw [h2]
        unfold inb seg
        simp only
        by_cases c1 : a ≤ p ∧ p < a + pw (wid a r)
        · rw [if_pos c1, if_neg (by omega), if_pos (by omega)]
        · rw [if_neg c1]
          by_cases c2 : a + pw (wid a r) ≤ p ∧ p < a + r
          · rw [if_pos c2, if_pos (by omega)]
          · rw [if_neg c2, if_neg (by omega)]
      · rcases List.mem_cons.1 hx with rfl | hx
        · refine ⟨Int.le_refl _, by simp only; omega, ⟨hw.1, hw.2.1, (al_dvd _ _).1 hw.2.2.1⟩, ?_⟩
          simp only
          rw [show a + r - a = r by omega]
        · have := h3 x hx
          exact ⟨by omega, this.2.1, this.2.2⟩

theorem cv_inv (N : Int) (_h0 : 0 ≤ N) : Inv N (cv 0 N) [] := by
  obtain ⟨h1, h2, h3⟩ := cv_facts N.toNat 0 N rfl
  rw [show (0 : Int) + N = N by omega] at h2 h3
  refine ⟨h1, srt_nil, fun y hy => (h3 y hy).2.2.1, fun y hy => (by cases hy), fun p => (by rw [h2]; rfl), fun y hy h6 hb => ?_⟩
  -- of two buddies the lower one would have been wider
  have key : ∀ a k : Int, 0 ≤ k → k < 6 → pw (k + 1) ∣ a → (a, k) ∈ cv 0 N → (a + pw k, k) ∈ cv 0 N → False := fun a k k0 k6 hd q1 q2 => by
    have e1 := (h3 _ q1).2.2.2
    have e2 := (h3 _ q2).2.1
    simp only at e1 e2
    have hs := pw_succ k k0
    have := wid_max (a := a) (r := N - a) (j := k + 1) (by omega) (by omega) hd (by omega)
    omega
  have ho := (h3 y hy).2.2.1
  unfold Okb at ho
  rcases low_or_high ho.1 ho.2.2 with c | c
  · rw [bud_low ho.1 c] at hb
    exact key y.1 y.2 ho.1 h6 c hy hb
  · have e := bud_high ho.1 c
    rw [show y.1 - pw y.2 + pw y.2 = y.1 by omega] at e
    rw [e] at hb
    exact key (y.1 - pw y.2) y.2 ho.1 h6 c hb (by rw [show y.1 - pw y.2 + pw y.2 = y.1 by omega]; exact hy)

theorem ins_last {x : Bl} : ∀ {l : List Bl}, (∀ y ∈ l, y.1 < x.1) → ins x l = l ++ [x]
  | [], _ => rfl
  | y :: l, h => by
    have h1 := h y (List.mem_cons_self ..)
    unfold ins
    rw [if_neg (by omega), if_neg (by omega), ins_last (fun z hz => h z (List.mem_cons_of_mem _ hz))]
    rfl
theorem ins_take {L : List Bl} (h : Srt L) {j : Nat} (hj : j < L.length) : ins L[j] (L.take j) = L.take (j + 1) := by
  rw [List.take_succ_eq_append_getElem hj]
  refine ins_last (fun y hy => ?_)
  obtain ⟨m, hm, rfl⟩ := List.getElem_of_mem hy
  have hm2 : m < j := by simp at hm; omega
  rw [List.getElem_take]
  exact List.pairwise_iff_getElem.1 h m j (by omega) hj hm2

/-- The pages that are free. -/
def pgs : List Bl → Int
  | [] => 0
  | x :: l => pw x.2 + pgs l
end Bd
end Go.Proofs.YtcbmfakjfoggaaaGreatDoor
namespace Go.Proofs.YtcbmfakjfoggaaaGreatDoor
open Go.RowKit
namespace Fr
/-- A list of blocks lies in a slice. -/
def Lies (w : World) (v : Value) (L : List (Int × Int)) : Prop :=
  (L = [] ∧ v = .slice none 0 0) ∨ ∃ g c, v = .slice (some ⟨g, 0, none⟩) L.length c ∧ g < w.heap.size ∧ L ≠ [] ∧ L.length ≤ c ∧ c ≤ maxLen ∧ ∀ i, i < L.length → w.cell? ⟨g, i * 2, none⟩ = some (.int .i64 (L.getD i (0, 0)).1) ∧ w.cell? ⟨g, i * 2 + 1, none⟩ = some (.int .i64 (L.getD i (0, 0)).2)
theorem Lies.b {w w' : World} {v : Value} {L : List (Int × Int)} (h : Lies w v L) (hb : Below w.heap.size w w') : Lies w' v L := by
  rcases h with h | ⟨g, c, hv, hg, hL, h1, h2, hc⟩
  · exact Or.inl h
  · exact Or.inr ⟨g, c, hv, Nat.lt_of_lt_of_le hg hb.size, hL, h1, h2, fun i hi => ⟨(hb.cell (p := ⟨g, i * 2, none⟩) hg).trans (hc i hi).1, (hb.cell (p := ⟨g, i * 2 + 1, none⟩) hg).trans (hc i hi).2⟩⟩

end Fr
end Go.Proofs.YtcbmfakjfoggaaaGreatDoor
namespace Go.Proofs.YtcbmfakjfoggaaaGreatDoor
open Go.RowKit Go.Maps
namespace Bd
open Fr

/-- A list of blocks as a map reads. -/
def ent (x : Bl) : Lit × DataW Unit := (.int .i64 x.1, .lit (.int .i64 x.2))
def dOf (L : List Bl) : DataW Unit := .map (L.map ent)
theorem same_int (a b : Int) : (Lit.int .i64 a).sameKey (.int .i64 b) = (a == b) := by
  by_cases h : a = b <;> simp [Lit.sameKey, h]
theorem filter_ent (a : Int) (L : List Bl) : (L.map ent).filter (fun p => !p.1.sameKey (.int .i64 a)) = (del a L).map ent := by
  unfold del
  rw [List.filter_map]
  congr 1
  apply List.filter_congr
  intro x _
  simp [ent, same_int, bne]
theorem dOf_del (a : Int) (L : List Bl) : (dOf L).del (.int .i64 a) = dOf (del a L) := by
  show DataW.map _ = DataW.map _
  rw [filter_ent]
theorem insert_ent (x : Bl) : ∀ {L : List Bl}, Srt L → DataW.insert (ent x) ((del x.1 L).map ent) = (ins x L).map ent
  | [], _ => rfl
  | y :: l, h => by
    have h' := srt_cons.1 h
    by_cases c1 : x.1 < y.1
    · have e : del x.1 (y :: l) = y :: l := del_none (fun z hz => by
        rcases List.mem_cons.1 hz with rfl | hz
        · omega
        · have := h'.1 z hz; omega)
      rw [e]
      simp [ins, c1, DataW.insert, ent, Lit.before]
    · by_cases c2 : x.1 = y.1
      · have e : del x.1 (y :: l) = l := by
          show List.filter _ (y :: l) = l
          rw [List.filter_cons, if_neg (by simp [c2])]
          exact del_none (a := x.1) (fun z hz => by have := h'.1 z hz; omega)
        rw [e]
        unfold ins
        rw [if_neg c1, if_pos c2]
        cases l with
        | nil => rfl
        | cons z l =>
          have := h'.1 z (List.mem_cons_self ..)
          simp [DataW.insert, ent, Lit.before, show x.1 < z.1 from by omega]
      · have e : del x.1 (y :: l) = y :: del x.1 l := by
          show List.filter _ (y :: l) = y :: List.filter _ l
          rw [List.filter_cons, if_pos (by simp; omega)]
        rw [e]
        have ih := insert_ent x h'.2
        unfold ins
        rw [if_neg c1, if_neg c2]
        simp only [List.map_cons, DataW.insert]
        rw [if_neg (by simp [ent, Lit.before]; omega), ih]
theorem dOf_put (x : Bl) {L : List Bl} (h : Srt L) : (dOf L).put (.int .i64 x.1) (.lit (.int .i64 x.2)) = dOf (ins x L) := by
  show DataW.map (DataW.insert (ent x) _) = DataW.map _
  rw [filter_ent, insert_ent x h]
theorem dOf_size (L : List Bl) : Maps.size (dOf L) = L.length := by simp [dOf, Maps.size]
theorem dOf_keys (L : List Bl) : intKeys (dOf L) = L.map (·.1) := by simp only [dOf, intKeys, List.map_map]; rfl
theorem dOf_has (L : List Bl) (a : Int) : Maps.has (dOf L) (.int .i64 a) = L.any (fun x => x.1 == a) := by
  simp [dOf, Maps.has, List.any_map, Function.comp_def, ent, same_int]
theorem dOf_at {L : List Bl} (h : Srt L) {x : Bl} (hx : x ∈ L) (z : DataW Unit) : (dOf L).atKey (.int .i64 x.1) z = .lit (.int .i64 x.2) := by
  have e : (L.map ent).find? (fun p => p.1.sameKey (.int .i64 x.1)) = some (ent x) := by
    induction L with
    | nil => cases hx
    | cons y l ih =>
      rw [srt_cons] at h
      rw [List.map_cons, List.find?_cons]
      rcases List.mem_cons.1 hx with rfl | hx
      · simp [ent, same_int]
      · have := h.1 x hx
        have hne : ((ent y).1.sameKey (.int .i64 x.1)) = false := by simp [ent, same_int]; omega
        rw [hne]
        exact ih h.2 hx
  simp only [dOf, DataW.atKey, e]; rfl
theorem tight {P : Program} {k : TypeId} {R : Value → Option (DataW Unit × List MemPlace)} {w : World} {b n : Nat} {D : DataW Unit} (h : w.ownsMap P k R b n D) : w.ownsMap P k R b (Maps.size D) D := by
  obtain ⟨es, clock, hb, F, hs, rfl⟩ := h
  exact ⟨es, clock, hb, F, by simp [Maps.size, length_sorted], rfl⟩

/-- All old blocks but two are as they were. -/
structure Kept (A B : Nat) (w w' : World) : Prop where
  os : w'.os = w.os
  tape : w'.tape = w.tape
  output : w'.output = w.output
  size : w.heap.size ≤ w'.heap.size
  block : ∀ k, k < w.heap.size → k ≠ A → k ≠ B → w'.heap[k]? = w.heap[k]?
theorem Kept.refl (A B : Nat) (w : World) : Kept A B w w := ⟨rfl, rfl, rfl, Nat.le_refl _, fun _ _ _ _ => rfl⟩
theorem Kept.trans {A B : Nat} {a b c : World} (h : Kept A B a b) (k : Kept A B b c) : Kept A B a c :=
  ⟨k.os.trans h.os, k.tape.trans h.tape, k.output.trans h.output, Nat.le_trans h.size k.size, fun i hi h1 h2 => (k.block i (Nat.lt_of_lt_of_le hi h.size) h1 h2).trans (h.block i hi h1 h2)⟩
theorem kept_of {A B : Nat} {w w' : World} (h : Below w.heap.size w w') : Kept A B w w' := ⟨h.os, h.tape, h.output, h.size, fun k hk _ _ => h.block k hk⟩
theorem kept_alloc (A B : Nat) (w : World) (o : Obj) : Kept A B w (w.alloc o) := kept_of (ballo (Below.refl _ _) o)
theorem kept_turned {A B b : Nat} {w w' : World} (h : w.mapTurned w' b) (hb : b = A ∨ b = B) : Kept A B w w' := by
  have g := h.grown
  exact ⟨g.os, g.tape, g.output, g.size, fun k hk h1 h2 => g.block k hk (fun e => by
    have := Option.some.inj e
    rcases hb with rfl | rfl
    · exact h1 this
    · exact h2 this)⟩
theorem Kept.wide {A A' B' : Nat} {w w' : World} (h : Kept A A w w') (hA : A = A' ∨ A = B') : Kept A' B' w w' :=
  ⟨h.os, h.tape, h.output, h.size, fun k hk h1 h2 => by
    have : k ≠ A := by rcases hA with rfl | rfl <;> assumption
    exact h.block k hk this this⟩
theorem Kept.below {A B N : Nat} {w w' : World} (h : Kept A B w w') (hA : N ≤ A) (hB : N ≤ B) (hN : N ≤ w.heap.size) : Below N w w' :=
  ⟨h.os, h.tape, h.output, h.size, fun k hk => h.block k (by omega) (by omega) (by omega)⟩
theorem Kept.cell {A B : Nat} {w w' : World} (h : Kept A B w w') {p : Addr} (hp : p.block < w.heap.size) (h1 : p.block ≠ A) (h2 : p.block ≠ B) : w'.cell? p = w.cell? p :=
  World.cell?_of_block (w := w) (h.block p.block hp h1 h2)

/-- A map of orders in memory, as a rising list of blocks. -/
structure Mp (w : World) (b : Nat) (L : List Bl) : Prop where
  own : w.ownsMap (H := Unit) Tryz.prog 3 (plainElem Tryz.prog 3) b L.length (dOf L)
  srt : Srt L
  rng : ∀ x ∈ L, 0 ≤ x.1 ∧ x.1 < 256 ∧ 0 ≤ x.2 ∧ x.2 ≤ 6
theorem Mp.lt {w : World} {b : Nat} {L : List Bl} (h : Mp w b L) : b < w.heap.size := h.own.lt
theorem Mp.blk {w w' : World} {b : Nat} {L : List Bl} (h : Mp w b L) (hb : w'.heap[b]? = w.heap[b]?) : Mp w' b L := by
  obtain ⟨⟨es, clock, h1, h2⟩, h3, h4⟩ := h
  exact ⟨⟨es, clock, hb.trans h1, h2⟩, h3, h4⟩
theorem Mp.b {w w' : World} {b : Nat} {L : List Bl} (h : Mp w b L) (hb : Below w.heap.size w w') : Mp w' b L := h.blk (hb.block b h.lt)
theorem Mp.a {w : World} {b : Nat} {L : List Bl} (h : Mp w b L) (o : Obj) : Mp (w.alloc o) b L := h.b (ballo (Below.refl _ _) o)
theorem Mp.k {A B : Nat} {w w' : World} {b : Nat} {L : List Bl} (h : Mp w b L) (hk : Kept A B w w') (h1 : b ≠ A) (h2 : b ≠ B) : Mp w' b L := h.blk (hk.block b h.lt h1 h2)
theorem Mp.len {w : World} {b : Nat} {L : List Bl} (h : Mp w b L) : L.length ≤ 256 := by
  have := srt_len h.srt (a := 0) (b := 256) (fun x hx => ⟨(h.rng x hx).1, (h.rng x hx).2.1⟩)
  omega
theorem wf_small {a : Int} (h0 : 0 ≤ a) (h1 : a < 256) : (Lit.int .i64 a).wf = true := by
  simp [Lit.wf, IntKind.min, IntKind.max, IntKind.signed, IntKind.bits]; omega
theorem Mp.put {w w' : World} {b n : Nat} {L : List Bl} {x : Bl} (h : Mp w b L) (hx : 0 ≤ x.1 ∧ x.1 < 256 ∧ 0 ≤ x.2 ∧ x.2 ≤ 6) (ho : w'.ownsMap (H := Unit) Tryz.prog 3 (plainElem Tryz.prog 3) b n ((dOf L).put (.int .i64 x.1) (.lit (.int .i64 x.2)))) : Mp w' b (ins x L) := by
  rw [dOf_put x h.srt] at ho
  refine ⟨by have := tight ho; rwa [dOf_size] at this, srt_ins h.srt, fun y hy => ?_⟩
  rcases mem_ins_sub hy with rfl | hy
  · exact hx
  · exact h.rng y hy
theorem Mp.del {w w' : World} {b n : Nat} {L : List Bl} {a : Int} (h : Mp w b L) (ho : w'.ownsMap (H := Unit) Tryz.prog 3 (plainElem Tryz.prog 3) b n ((dOf L).del (.int .i64 a))) : Mp w' b (del a L) := by
  rw [dOf_del] at ho
  exact ⟨by have := tight ho; rwa [dOf_size] at this, srt_del h.srt, fun y hy => h.rng y (mem_del.1 hy).1⟩
theorem mp_new (w : World) : Mp (w.alloc (.map #[] 0)) w.heap.size [] := ⟨World.ownsMap_made _ _ _ _, srt_nil, fun x hx => by cases hx⟩

/-- Buddies in memory. -/
structure Bud (w : World) (b fm tm : Nat) (N : Int) (F T : List Bl) : Prop where
  c0 : w.cell? ⟨b, 0, none⟩ = some (.int .i64 N)
  c1 : w.cell? ⟨b, 1, none⟩ = some (.map (some fm))
  c2 : w.cell? ⟨b, 2, none⟩ = some (.map (some tm))
  f : Mp w fm F
  t : Mp w tm T
  n1 : b ≠ fm
  n2 : b ≠ tm
  n3 : fm ≠ tm
  lt : b < w.heap.size
theorem Bud.b {w w' : World} {b fm tm : Nat} {N : Int} {F T : List Bl} (h : Bud w b fm tm N F T) (hb : Below w.heap.size w w') : Bud w' b fm tm N F T :=
  ⟨(hb.cell (p := ⟨b, 0, none⟩) h.lt).trans h.c0, (hb.cell (p := ⟨b, 1, none⟩) h.lt).trans h.c1, (hb.cell (p := ⟨b, 2, none⟩) h.lt).trans h.c2, h.f.b hb, h.t.b hb, h.n1, h.n2, h.n3, Nat.lt_of_lt_of_le h.lt hb.size⟩
theorem Bud.a {w : World} {b fm tm : Nat} {N : Int} {F T : List Bl} (h : Bud w b fm tm N F T) (o : Obj) : Bud (w.alloc o) b fm tm N F T := h.b (ballo (Below.refl _ _) o)
/-- The free ones' map has turned, the taken ones' has. -/
theorem Bud.setF {w w' : World} {b fm tm : Nat} {N : Int} {F F' T : List Bl} (h : Bud w b fm tm N F T) (hk : Kept fm fm w w') (hm : Mp w' fm F') : Bud w' b fm tm N F' T :=
  ⟨(hk.cell (p := ⟨b, 0, none⟩) h.lt h.n1 h.n1).trans h.c0, (hk.cell (p := ⟨b, 1, none⟩) h.lt h.n1 h.n1).trans h.c1, (hk.cell (p := ⟨b, 2, none⟩) h.lt h.n1 h.n1).trans h.c2, hm, h.t.k hk h.n3.symm h.n3.symm, h.n1, h.n2, h.n3, Nat.lt_of_lt_of_le h.lt hk.size⟩
theorem Bud.setT {w w' : World} {b fm tm : Nat} {N : Int} {F T T' : List Bl} (h : Bud w b fm tm N F T) (hk : Kept tm tm w w') (hm : Mp w' tm T') : Bud w' b fm tm N F T' :=
  ⟨(hk.cell (p := ⟨b, 0, none⟩) h.lt h.n2 h.n2).trans h.c0, (hk.cell (p := ⟨b, 1, none⟩) h.lt h.n2 h.n2).trans h.c1, (hk.cell (p := ⟨b, 2, none⟩) h.lt h.n2 h.n2).trans h.c2, h.f.k hk h.n3 h.n3, hm, h.n1, h.n2, h.n3, Nat.lt_of_lt_of_le h.lt hk.size⟩
end Bd
end Go.Proofs.YtcbmfakjfoggaaaGreatDoor
namespace Go.Proofs.YtcbmfakjfoggaaaGreatDoor
open Go.RowKit
namespace Bd
open Fr
/-- A row of blocks in the block g. -/
structure Row (w : World) (g : Nat) (R : List Bl) : Prop where
  c : ∀ i, i < R.length → w.cell? ⟨g, i * 2, none⟩ = some (.int .i64 (R.getD i (0, 0)).1) ∧ w.cell? ⟨g, i * 2 + 1, none⟩ = some (.int .i64 (R.getD i (0, 0)).2)
  fz : ∀ o, o < R.length * 2 → w.frozen? ⟨g, o, none⟩ = false
  lt : g < w.heap.size
theorem Row.b {w w' : World} {g : Nat} {R : List Bl} (h : Row w g R) (hb : Below w.heap.size w w') : Row w' g R :=
  ⟨fun i hi => ⟨(hb.cell (p := ⟨g, i * 2, none⟩) h.lt).trans (h.c i hi).1, (hb.cell (p := ⟨g, i * 2 + 1, none⟩) h.lt).trans (h.c i hi).2⟩, fun o ho => (hb.frozen (p := ⟨g, o, none⟩) h.lt).trans (h.fz o ho), Nat.lt_of_lt_of_le h.lt hb.size⟩
theorem row_of {w : World} {B : Nat} {v : Value} {L : List Bl} (h : w.ownsRow B 291 2 v L.length (flat L)) (hL : L ≠ []) : ∃ g cap, v = .slice (some ⟨g, 0, none⟩) L.length cap ∧ B ≤ g ∧ L.length ≤ cap ∧ cap ≤ maxLen ∧ Row w g L := by
  rcases h.2 with ⟨_, h0⟩ | ⟨g, cap, cur, rfl, hb, hg, hle, hcap, hcs, hx⟩
  · exact absurd (List.length_eq_zero_iff.1 h0) hL
  · have hlt : g < w.heap.size := by
      rcases Nat.lt_or_ge g w.heap.size with h' | h'
      · exact h'
      · rw [Array.getElem?_eq_none h'] at hg; cases hg
    refine ⟨g, cap, rfl, hb, hle, hcap, fun i hi => ?_, fun o _ => by simp [World.frozen?, hg], hlt⟩
    have hf := flat_get L i hi
    rw [List.getD_eq_getElem?_getD, List.getElem?_eq_getElem hi, Option.getD_some]
    rw [Nat.mul_comm i 2]
    exact ⟨(h.cellAt (2 * i) (by omega)).trans hf.1, (h.cellAt (2 * i + 1) (by omega)).trans hf.2⟩

theorem less_ok (a k o : Int) (cb : Nat) (w : World) (hc : w.cell? ⟨cb, 0, none⟩ = some (.int .i64 o)) (hlt : cb < w.heap.size) :
    Calls Tryz.prog 294 #[blkV a k, .pointer (some ⟨cb, 0, none⟩)] w fun ev w' => ev = .returned (.bool (decide (k < o))) ∧ w' = w.alloc (blkO a k) := by
  have hc2 : (w.alloc (blkO a k)).cell? ⟨cb, 0, none⟩ = some (.int .i64 o) := ((ballo (Below.refl _ _) _).cell (p := ⟨cb, 0, none⟩) hlt).trans hc
  clear hc
  go_enter Tryz.func294, Tryz.ntmps294
  go_wp2
  go_ret
  exact ⟨rfl, rfl⟩

set_option maxHeartbeats 1000000 in
theorem index_ok (L : List Bl) (g cap cb : Nat) (o : Int) (w : World) (hr : Row w g L) (hl : L.length ≤ 256) (hc : w.cell? ⟨cb, 0, none⟩ = some (.int .i64 o)) (hlt : cb < w.heap.size) :
    Calls Tryz.prog 257 #[.slice (some ⟨g, 0, none⟩) L.length cap, .func (.func 294) #[] #[.pointer (some ⟨cb, 0, none⟩)]] w fun ev w' => Below w.heap.size w w' ∧
      ((ev = .returned (.int .i64 (-1)) ∧ ∀ j, j < L.length → o ≤ (L.getD j (0, 0)).2) ∨ ∃ i : Nat, i < L.length ∧ ev = .returned (.int .i64 i) ∧ (L.getD i (0, 0)).2 < o ∧ ∀ j, j < i → o ≤ (L.getD j (0, 0)).2) := by
  have HR := hide hr
  clear hr
  generalize hn : L.length = n at *
  go_enter Tryz.func257, Tryz.ntmps257
  go_wp2
  go_loopw [8] (fun s wr => ∃ i : Nat, s = .int .i64 i ∧ i ≤ n ∧ Below w.heap.size w wr ∧ Hid (∀ j, j < i → o ≤ (L.getD j (0, 0)).2)) (fun s _ => n - (RowKit.intOf s).toNat)
  case atStart => exact ⟨0, rfl, Nat.zero_le _, Below.refl _ _, fun j hj => by omega⟩
  case round =>
    obtain ⟨i, rfl, hi, hb, ha⟩ := hrel
    by_cases hin : i < n
    · have hcb := (hb.cell (p := ⟨cb, 0, none⟩) hlt).trans hc
      have hz := hb.size
      have cc := ((unhide HR).b hb).c i (by omega)
      have HX := hide (show o ≤ (L.getD i (0, 0)).2 ∨ (L.getD i (0, 0)).2 < o by omega)
      obtain ⟨c1, c2⟩ := cc
      obtain ⟨x, hx⟩ : ∃ x, x = L.getD i (0, 0) := ⟨_, rfl⟩
      rw [← hx] at c1 c2 HX
      have HXE := hide hx
      clear hx
      obtain ⟨x1, x2⟩ := x
      simp only at c1 c2 HX
      rcases unhide HX with hk | hk
      · have hd : decide (x2 < o) = false := by simp; omega
        go_wp2_with fail
        refine (less_ok x1 x2 o cb _ hcb (by omega)).mono ?_
        rintro ev w2 ⟨rfl, rfl⟩
        go_wp2_with fail
        go_roundw
        case rel => exact ⟨i + 1, by go_num, by omega, ballo hb _, fun j hj => by
          by_cases e : j = i
          · subst e; rw [← unhide HXE]; exact hk
          · exact (unhide ha) j (by omega)⟩
        case measure => simp [RowKit.intOf]; omega
      · have hd : decide (x2 < o) = true := by simp; omega
        go_wp2_with fail
        refine (less_ok x1 x2 o cb _ hcb (by omega)).mono ?_
        rintro ev w2 ⟨rfl, rfl⟩
        go_wp2_with fail
        go_ret
        exact ⟨ballo hb _, Or.inr ⟨i, by omega, rfl, by rw [← unhide HXE]; exact hk, unhide ha⟩⟩
    · have hin2 : i = n := by omega
      subst hin2
      go_wp2
      go_ret
      exact ⟨hb, Or.inl ⟨rfl, unhide ha⟩⟩
end Bd
end Go.Proofs.YtcbmfakjfoggaaaGreatDoor
