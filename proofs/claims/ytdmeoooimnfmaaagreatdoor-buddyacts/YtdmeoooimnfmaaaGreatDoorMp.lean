/- Maps of orders by where blocks begin: what a map in memory holds, as a rising list; what is left as it was. -/
import Derived.Test.YtdmeoooimnfmaaaGreatDoorBud2
import Derived.Test.YtdmeoooimnfmaaaGreatDoorLies
import Derived.Maps.OwnSet
import Derived.Maps.Ext
import Derived.Lib.SlKeysI
namespace Go.Proofs.YtdmeoooimnfmaaaGreatDoor
open Go.RowKit Go.Maps
namespace Bd
open Fr

/-- A list of blocks as a map reads. -/
def ent (x : Bl) : Lit × DataW Unit := (.int .i64 x.1, .lit (.int .i64 x.2))
def dOf (L : List Bl) : DataW Unit := .map (L.map ent)
theorem same_int (a b : Int) : (Lit.int .i64 a).sameKey (.int .i64 b) = (a == b) := by
  by_cases h : a = b <;> simp [Lit.sameKey, h]
theorem filter_ent (a : Int) (L : List Bl) : (L.map ent).filter (fun p => !p.1.sameKey (.int .i64 a)) = (del a L).map ent := by
  unfold del
  rw [List.filter_map]
  congr 1
  apply List.filter_congr
  intro x _
  simp [ent, same_int, bne]
theorem dOf_del (a : Int) (L : List Bl) : (dOf L).del (.int .i64 a) = dOf (del a L) := by
  show DataW.map _ = DataW.map _
  rw [filter_ent]
theorem insert_ent (x : Bl) : ∀ {L : List Bl}, Srt L → DataW.insert (ent x) ((del x.1 L).map ent) = (ins x L).map ent
  | [], _ => rfl
  | y :: l, h => by
    have h' := srt_cons.1 h
    by_cases c1 : x.1 < y.1
    · have e : del x.1 (y :: l) = y :: l := del_none (fun z hz => by
        rcases List.mem_cons.1 hz with rfl | hz
        · omega
        · have := h'.1 z hz; omega)
      rw [e]
      simp [ins, c1, DataW.insert, ent, Lit.before]
    · by_cases c2 : x.1 = y.1
      · have e : del x.1 (y :: l) = l := by
          show List.filter _ (y :: l) = l
          rw [List.filter_cons, if_neg (by simp [c2])]
          exact del_none (a := x.1) (fun z hz => by have := h'.1 z hz; omega)
        rw [e]
        unfold ins
        rw [if_neg c1, if_pos c2]
        cases l with
        | nil => rfl
        | cons z l =>
          have := h'.1 z (List.mem_cons_self ..)
          simp [DataW.insert, ent, Lit.before, show x.1 < z.1 from by omega]
      · have e : del x.1 (y :: l) = y :: del x.1 l := by
          show List.filter _ (y :: l) = y :: List.filter _ l
          rw [List.filter_cons, if_pos (by simp; omega)]
        rw [e]
        have ih := insert_ent x h'.2
        unfold ins
        rw [if_neg c1, if_neg c2]
        simp only [List.map_cons, DataW.insert]
        rw [if_neg (by simp [ent, Lit.before]; omega), ih]
theorem dOf_put (x : Bl) {L : List Bl} (h : Srt L) : (dOf L).put (.int .i64 x.1) (.lit (.int .i64 x.2)) = dOf (ins x L) := by
  show DataW.map (DataW.insert (ent x) _) = DataW.map _
  rw [filter_ent, insert_ent x h]
theorem dOf_size (L : List Bl) : Maps.size (dOf L) = L.length := by simp [dOf, Maps.size]
theorem dOf_keys (L : List Bl) : intKeys (dOf L) = L.map (·.1) := by simp only [dOf, intKeys, List.map_map]; rfl
theorem dOf_has (L : List Bl) (a : Int) : Maps.has (dOf L) (.int .i64 a) = L.any (fun x => x.1 == a) := by
  simp [dOf, Maps.has, List.any_map, Function.comp_def, ent, same_int]
theorem dOf_at {L : List Bl} (h : Srt L) {x : Bl} (hx : x ∈ L) (z : DataW Unit) : (dOf L).atKey (.int .i64 x.1) z = .lit (.int .i64 x.2) := by
  have e : (L.map ent).find? (fun p => p.1.sameKey (.int .i64 x.1)) = some (ent x) := by
    induction L with
    | nil => cases hx
    | cons y l ih =>
      rw [srt_cons] at h
      rw [List.map_cons, List.find?_cons]
      rcases List.mem_cons.1 hx with rfl | hx
      · simp [ent, same_int]
      · have := h.1 x hx
        have hne : ((ent y).1.sameKey (.int .i64 x.1)) = false := by simp [ent, same_int]; omega
        rw [hne]
        exact ih h.2 hx
  simp only [dOf, DataW.atKey, e]; rfl
theorem dOf_none {L : List Bl} {a : Int} (h : ∀ x ∈ L, x.1 ≠ a) (z : DataW Unit) : (dOf L).atKey (.int .i64 a) z = z :=
  Maps.atKey_of_not_has (by rw [dOf_has]; simpa using h) z

theorem tight {P : Program} {k : TypeId} {R : Value → Option (DataW Unit × List MemPlace)} {w : World} {b n : Nat} {D : DataW Unit} (h : w.ownsMap P k R b n D) : w.ownsMap P k R b (Maps.size D) D := by
  obtain ⟨es, clock, hb, F, hs, rfl⟩ := h
  exact ⟨es, clock, hb, F, by simp [Maps.size, length_sorted], rfl⟩

/-- All old blocks but two are as they were. -/
structure Kept (A B : Nat) (w w' : World) : Prop where
  os : w'.os = w.os
  tape : w'.tape = w.tape
  output : w'.output = w.output
  size : w.heap.size ≤ w'.heap.size
  block : ∀ k, k < w.heap.size → k ≠ A → k ≠ B → w'.heap[k]? = w.heap[k]?
theorem Kept.refl (A B : Nat) (w : World) : Kept A B w w := ⟨rfl, rfl, rfl, Nat.le_refl _, fun _ _ _ _ => rfl⟩
theorem Kept.trans {A B : Nat} {a b c : World} (h : Kept A B a b) (k : Kept A B b c) : Kept A B a c :=
  ⟨k.os.trans h.os, k.tape.trans h.tape, k.output.trans h.output, Nat.le_trans h.size k.size, fun i hi h1 h2 => (k.block i (Nat.lt_of_lt_of_le hi h.size) h1 h2).trans (h.block i hi h1 h2)⟩
theorem kept_of {A B : Nat} {w w' : World} (h : Below w.heap.size w w') : Kept A B w w' := ⟨h.os, h.tape, h.output, h.size, fun k hk _ _ => h.block k hk⟩
theorem kept_alloc (A B : Nat) (w : World) (o : Obj) : Kept A B w (w.alloc o) := kept_of (ballo (Below.refl _ _) o)
theorem kept_turned {A B b : Nat} {w w' : World} (h : w.mapTurned w' b) (hb : b = A ∨ b = B) : Kept A B w w' := by
  have g := h.grown
  exact ⟨g.os, g.tape, g.output, g.size, fun k hk h1 h2 => g.block k hk (fun e => by
    have := Option.some.inj e
    rcases hb with rfl | rfl
    · exact h1 this
    · exact h2 this)⟩
theorem Kept.wide {A A' B' : Nat} {w w' : World} (h : Kept A A w w') (hA : A = A' ∨ A = B') : Kept A' B' w w' :=
  ⟨h.os, h.tape, h.output, h.size, fun k hk h1 h2 => by
    have : k ≠ A := by rcases hA with rfl | rfl <;> assumption
    exact h.block k hk this this⟩
theorem Kept.below {A B N : Nat} {w w' : World} (h : Kept A B w w') (hA : N ≤ A) (hB : N ≤ B) (hN : N ≤ w.heap.size) : Below N w w' :=
  ⟨h.os, h.tape, h.output, h.size, fun k hk => h.block k (by omega) (by omega) (by omega)⟩
theorem Kept.cell {A B : Nat} {w w' : World} (h : Kept A B w w') {p : Addr} (hp : p.block < w.heap.size) (h1 : p.block ≠ A) (h2 : p.block ≠ B) : w'.cell? p = w.cell? p :=
  World.cell?_of_block (w := w) (h.block p.block hp h1 h2)

/-- A map of orders in memory, as a rising list of blocks. -/
structure Mp (w : World) (b : Nat) (L : List Bl) : Prop where
  own : w.ownsMap (H := Unit) Tryz.prog 3 (plainElem Tryz.prog 3) b L.length (dOf L)
  srt : Srt L
  rng : ∀ x ∈ L, 0 ≤ x.1 ∧ x.1 < 256 ∧ 0 ≤ x.2 ∧ x.2 ≤ 6
theorem Mp.lt {w : World} {b : Nat} {L : List Bl} (h : Mp w b L) : b < w.heap.size := h.own.lt
theorem Mp.blk {w w' : World} {b : Nat} {L : List Bl} (h : Mp w b L) (hb : w'.heap[b]? = w.heap[b]?) : Mp w' b L := by
  obtain ⟨⟨es, clock, h1, h2⟩, h3, h4⟩ := h
  exact ⟨⟨es, clock, hb.trans h1, h2⟩, h3, h4⟩
theorem Mp.b {w w' : World} {b : Nat} {L : List Bl} (h : Mp w b L) (hb : Below w.heap.size w w') : Mp w' b L := h.blk (hb.block b h.lt)
theorem Mp.a {w : World} {b : Nat} {L : List Bl} (h : Mp w b L) (o : Obj) : Mp (w.alloc o) b L := h.b (ballo (Below.refl _ _) o)
theorem Mp.k {A B : Nat} {w w' : World} {b : Nat} {L : List Bl} (h : Mp w b L) (hk : Kept A B w w') (h1 : b ≠ A) (h2 : b ≠ B) : Mp w' b L := h.blk (hk.block b h.lt h1 h2)
theorem Mp.len {w : World} {b : Nat} {L : List Bl} (h : Mp w b L) : L.length ≤ 256 := by
  have := srt_len h.srt (a := 0) (b := 256) (fun x hx => ⟨(h.rng x hx).1, (h.rng x hx).2.1⟩)
  omega
theorem wf_small {a : Int} (h0 : 0 ≤ a) (h1 : a < 256) : (Lit.int .i64 a).wf = true := by
  simp [Lit.wf, IntKind.min, IntKind.max, IntKind.signed, IntKind.bits]; omega
theorem Mp.put {w w' : World} {b n : Nat} {L : List Bl} {x : Bl} (h : Mp w b L) (hx : 0 ≤ x.1 ∧ x.1 < 256 ∧ 0 ≤ x.2 ∧ x.2 ≤ 6) (ho : w'.ownsMap (H := Unit) Tryz.prog 3 (plainElem Tryz.prog 3) b n ((dOf L).put (.int .i64 x.1) (.lit (.int .i64 x.2)))) : Mp w' b (ins x L) := by
  rw [dOf_put x h.srt] at ho
  refine ⟨by have := tight ho; rwa [dOf_size] at this, srt_ins h.srt, fun y hy => ?_⟩
  rcases mem_ins_sub hy with rfl | hy
  · exact hx
  · exact h.rng y hy
theorem Mp.del {w w' : World} {b n : Nat} {L : List Bl} {a : Int} (h : Mp w b L) (ho : w'.ownsMap (H := Unit) Tryz.prog 3 (plainElem Tryz.prog 3) b n ((dOf L).del (.int .i64 a))) : Mp w' b (del a L) := by
  rw [dOf_del] at ho
  exact ⟨by have := tight ho; rwa [dOf_size] at this, srt_del h.srt, fun y hy => h.rng y (mem_del.1 hy).1⟩
theorem mp_new (w : World) : Mp (w.alloc (.map #[] 0)) w.heap.size [] := ⟨World.ownsMap_made _ _ _ _, srt_nil, fun x hx => by cases hx⟩

/-- Buddies in memory. -/
structure Bud (w : World) (b fm tm : Nat) (N : Int) (F T : List Bl) : Prop where
  c0 : w.cell? ⟨b, 0, none⟩ = some (.int .i64 N)
  c1 : w.cell? ⟨b, 1, none⟩ = some (.map (some fm))
  c2 : w.cell? ⟨b, 2, none⟩ = some (.map (some tm))
  f : Mp w fm F
  t : Mp w tm T
  n1 : b ≠ fm
  n2 : b ≠ tm
  n3 : fm ≠ tm
  lt : b < w.heap.size
theorem Bud.b {w w' : World} {b fm tm : Nat} {N : Int} {F T : List Bl} (h : Bud w b fm tm N F T) (hb : Below w.heap.size w w') : Bud w' b fm tm N F T :=
  ⟨(hb.cell (p := ⟨b, 0, none⟩) h.lt).trans h.c0, (hb.cell (p := ⟨b, 1, none⟩) h.lt).trans h.c1, (hb.cell (p := ⟨b, 2, none⟩) h.lt).trans h.c2, h.f.b hb, h.t.b hb, h.n1, h.n2, h.n3, Nat.lt_of_lt_of_le h.lt hb.size⟩
theorem Bud.a {w : World} {b fm tm : Nat} {N : Int} {F T : List Bl} (h : Bud w b fm tm N F T) (o : Obj) : Bud (w.alloc o) b fm tm N F T := h.b (ballo (Below.refl _ _) o)
/-- The free ones' map has turned, the taken ones' has. -/
theorem Bud.setF {w w' : World} {b fm tm : Nat} {N : Int} {F F' T : List Bl} (h : Bud w b fm tm N F T) (hk : Kept fm fm w w') (hm : Mp w' fm F') : Bud w' b fm tm N F' T :=
  ⟨(hk.cell (p := ⟨b, 0, none⟩) h.lt h.n1 h.n1).trans h.c0, (hk.cell (p := ⟨b, 1, none⟩) h.lt h.n1 h.n1).trans h.c1, (hk.cell (p := ⟨b, 2, none⟩) h.lt h.n1 h.n1).trans h.c2, hm, h.t.k hk h.n3.symm h.n3.symm, h.n1, h.n2, h.n3, Nat.lt_of_lt_of_le h.lt hk.size⟩
theorem Bud.setT {w w' : World} {b fm tm : Nat} {N : Int} {F T T' : List Bl} (h : Bud w b fm tm N F T) (hk : Kept tm tm w w') (hm : Mp w' tm T') : Bud w' b fm tm N F T' :=
  ⟨(hk.cell (p := ⟨b, 0, none⟩) h.lt h.n2 h.n2).trans h.c0, (hk.cell (p := ⟨b, 1, none⟩) h.lt h.n2 h.n2).trans h.c1, (hk.cell (p := ⟨b, 2, none⟩) h.lt h.n2 h.n2).trans h.c2, h.f.k hk h.n3 h.n3, hm, h.n1, h.n2, h.n3, Nat.lt_of_lt_of_le h.lt hk.size⟩
end Bd
end Go.Proofs.YtdmeoooimnfmaaaGreatDoor
