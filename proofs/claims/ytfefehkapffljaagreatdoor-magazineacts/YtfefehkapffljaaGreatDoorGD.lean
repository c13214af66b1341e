/- Mp · Fit · Del · Min · Laying · Put · Rising · Fit2. -/
import Derived.Test.YtfefehkapffljaaGreatDoorGC
import Derived.Maps.OwnSet
import Derived.Maps.Ext
import Derived.Lib.SlKeysI
import Derived.Laws.IdiomCopy
import Derived.Shelf.AbstractIn
import Derived.Deep.RegionHeld3
import Derived.Deep.QuietTactic
import Derived.BigQuiet
import Derived.Shelf.SlIterI.Nil
import Derived.Shelf.SortM.Plain
import Derived.Shelf.SortM.SortNone
import Derived.Shelf.SlMaps.Clone
import Derived.Ground.GgzProg
import Derived.Ground.SlgmProg
import Derived.Ground.SlmcProg
import Derived.Test.YtfefehkapffljaaGreatDoorProg
import Derived.Test.YtfefehkapffljaaGreatDoorGE
import Derived.Maps.OwnOps
namespace Go.Proofs.YtfefehkapffljaaGreatDoor
open Go.RowKit Go.Maps
namespace Bd
open Fr
def ent (x : Bl) : Lit × DataW Unit := (.int .i64 x.1, .lit (.int .i64 x.2))
def dOf (L : List Bl) : DataW Unit := .map (L.map ent)
theorem same_int (a b : Int) : (Lit.int .i64 a).sameKey (.int .i64 b) = (a == b) := by
 by_cases h : a = b <;> simp [Lit.sameKey, h]
theorem filter_ent (a : Int) (L : List Bl) : (L.map ent).filter (fun p => !p.1.sameKey (.int .i64 a)) = (del a L).map ent := by
 unfold del
 rw [List.filter_map]
 congr 1
 apply List.filter_congr
 intro x _
 simp [ent, same_int, bne]
theorem dOf_del (a : Int) (L : List Bl) : (dOf L).del (.int .i64 a) = dOf (del a L) := by
 show DataW.map _ = DataW.map _
 rw [filter_ent]
theorem insert_ent (x : Bl) : ∀ {L : List Bl}, Srt L → DataW.insert (ent x) ((del x.1 L).map ent) = (ins x L).map ent
 | [], _ => rfl
 | y :: l, h => by
   have h' := srt_cons.1 h
   by_cases c1 : x.1 < y.1
   · have e : del x.1 (y :: l) = y :: l := del_none (fun z hz => by
       rcases List.mem_cons.1 hz with rfl | hz
       · omega
       · have := h'.1 z hz; omega)
     rw [e]
     simp [ins, c1, DataW.insert, ent, Lit.before]
   · by_cases c2 : x.1 = y.1
     · have e : del x.1 (y :: l) = l := by
         show List.filter _ (y :: l) = l
         rw [List.filter_cons, if_neg (by simp [c2])]
         exact del_none (a := x.1) (fun z hz => by have := h'.1 z hz; omega)
       rw [e]
       unfold ins
       rw [if_neg c1, if_pos c2]
       cases l with
       | nil => rfl
       | cons z l =>
         have := h'.1 z (List.mem_cons_self ..)
         simp [DataW.insert, ent, Lit.before, show x.1 < z.1 from by omega]
     · have e : del x.1 (y :: l) = y :: del x.1 l := by
         show List.filter _ (y :: l) = y :: List.filter _ l
         rw [List.filter_cons, if_pos (by simp; omega)]
       rw [e]
       have ih := insert_ent x h'.2
       unfold ins
       rw [if_neg c1, if_neg c2]
       simp only [List.map_cons, DataW.insert]
       rw [if_neg (by simp [ent, Lit.before]; omega), ih]
theorem dOf_put (x : Bl) {L : List Bl} (h : Srt L) : (dOf L).put (.int .i64 x.1) (.lit (.int .i64 x.2)) = dOf (ins x L) := by
 show DataW.map (DataW.insert (ent x) _) = DataW.map _
 rw [filter_ent, insert_ent x h]
theorem dOf_size (L : List Bl) : Maps.size (dOf L) = L.length := by simp [dOf, Maps.size]
theorem dOf_keys (L : List Bl) : intKeys (dOf L) = L.map (·.1) := by simp only [dOf, intKeys, List.map_map]; rfl
theorem dOf_has (L : List Bl) (a : Int) : Maps.has (dOf L) (.int .i64 a) = L.any (fun x => x.1 == a) := by
 simp [dOf, Maps.has, List.any_map, Function.comp_def, ent, same_int]
theorem dOf_at {L : List Bl} (h : Srt L) {x : Bl} (hx : x ∈ L) (z : DataW Unit) : (dOf L).atKey (.int .i64 x.1) z = .lit (.int .i64 x.2) := by
 have e : (L.map ent).find? (fun p => p.1.sameKey (.int .i64 x.1)) = some (ent x) := by
   induction L with
   | nil => cases hx
   | cons y l ih =>
     rw [srt_cons] at h
     rw [List.map_cons, List.find?_cons]
     rcases List.mem_cons.1 hx with rfl | hx
     · simp [ent, same_int]
     · have := h.1 x hx
       have hne : ((ent y).1.sameKey (.int .i64 x.1)) = false := by simp [ent, same_int]; omega
       rw [hne]
       exact ih h.2 hx
 simp only [dOf, DataW.atKey, e]; rfl
theorem tight {P : Program} {k : TypeId} {R : Value → Option (DataW Unit × List MemPlace)} {w : World} {b n : Nat} {D : DataW Unit} (h : w.ownsMap P k R b n D) : w.ownsMap P k R b (Maps.size D) D := by
 obtain ⟨es, clock, hb, F, hs, rfl⟩ := h
 exact ⟨es, clock, hb, F, by simp [Maps.size, length_sorted], rfl⟩
structure Kept (A B : Nat) (w w' : World) : Prop where
 os : w'.os = w.os
 tape : w'.tape = w.tape
 output : w'.output = w.output
 size : w.heap.size ≤ w'.heap.size
 block : ∀ k, k < w.heap.size → k ≠ A → k ≠ B → w'.heap[k]? = w.heap[k]?
theorem Kept.refl (A B : Nat) (w : World) : Kept A B w w := ⟨rfl, rfl, rfl, Nat.le_refl _, fun _ _ _ _ => rfl⟩
theorem Kept.trans {A B : Nat} {a b c : World} (h : Kept A B a b) (k : Kept A B b c) : Kept A B a c :=
 ⟨k.os.trans h.os, k.tape.trans h.tape, k.output.trans h.output, Nat.le_trans h.size k.size, fun i hi h1 h2 => (k.block i (Nat.lt_of_lt_of_le hi h.size) h1 h2).trans (h.block i hi h1 h2)⟩
theorem kept_of {A B : Nat} {w w' : World} (h : Below w.heap.size w w') : Kept A B w w' := ⟨h.os, h.tape, h.output, h.size, fun k hk _ _ => h.block k hk⟩
theorem kept_alloc (A B : Nat) (w : World) (o : Obj) : Kept A B w (w.alloc o) := kept_of (ballo (Below.refl _ _) o)
theorem kept_turned {A B b : Nat} {w w' : World} (h : w.mapTurned w' b) (hb : b = A ∨ b = B) : Kept A B w w' := by
 have g := h.grown
 exact ⟨g.os, g.tape, g.output, g.size, fun k hk h1 h2 => g.block k hk (fun e => by
   have := Option.some.inj e
   rcases hb with rfl | rfl
   · exact h1 this
   · exact h2 this)⟩
theorem Kept.below {A B N : Nat} {w w' : World} (h : Kept A B w w') (hA : N ≤ A) (hB : N ≤ B) (hN : N ≤ w.heap.size) : Below N w w' :=
 ⟨h.os, h.tape, h.output, h.size, fun k hk => h.block k (by omega) (by omega) (by omega)⟩
theorem Kept.cell {A B : Nat} {w w' : World} (h : Kept A B w w') {p : Addr} (hp : p.block < w.heap.size) (h1 : p.block ≠ A) (h2 : p.block ≠ B) : w'.cell? p = w.cell? p :=
 World.cell?_of_block (w := w) (h.block p.block hp h1 h2)
structure Mp (w : World) (b : Nat) (L : List Bl) : Prop where
 own : w.ownsMap (H := Unit) Tryz.prog 3 (plainElem Tryz.prog 3) b L.length (dOf L)
 srt : Srt L
 rng : ∀ x ∈ L, 0 ≤ x.1 ∧ x.1 < 256 ∧ 0 ≤ x.2 ∧ x.2 ≤ 6
theorem Mp.lt {w : World} {b : Nat} {L : List Bl} (h : Mp w b L) : b < w.heap.size := h.own.lt
theorem Mp.blk {w w' : World} {b : Nat} {L : List Bl} (h : Mp w b L) (hb : w'.heap[b]? = w.heap[b]?) : Mp w' b L := by
 obtain ⟨⟨es, clock, h1, h2⟩, h3, h4⟩ := h
 exact ⟨⟨es, clock, hb.trans h1, h2⟩, h3, h4⟩
theorem Mp.b {w w' : World} {b : Nat} {L : List Bl} (h : Mp w b L) (hb : Below w.heap.size w w') : Mp w' b L := h.blk (hb.block b h.lt)
theorem Mp.a {w : World} {b : Nat} {L : List Bl} (h : Mp w b L) (o : Obj) : Mp (w.alloc o) b L := h.b (ballo (Below.refl _ _) o)
theorem Mp.k {A B : Nat} {w w' : World} {b : Nat} {L : List Bl} (h : Mp w b L) (hk : Kept A B w w') (h1 : b ≠ A) (h2 : b ≠ B) : Mp w' b L := h.blk (hk.block b h.lt h1 h2)
theorem Mp.len {w : World} {b : Nat} {L : List Bl} (h : Mp w b L) : L.length ≤ 256 := by
 have := srt_len h.srt (a := 0) (b := 256) (fun x hx => ⟨(h.rng x hx).1, (h.rng x hx).2.1⟩)
 omega
theorem wf_small {a : Int} (h0 : 0 ≤ a) (h1 : a < 256) : (Lit.int .i64 a).wf = true := by
 simp [Lit.wf, IntKind.min, IntKind.max, IntKind.signed, IntKind.bits]; omega
theorem Mp.put {w w' : World} {b n : Nat} {L : List Bl} {x : Bl} (h : Mp w b L) (hx : 0 ≤ x.1 ∧ x.1 < 256 ∧ 0 ≤ x.2 ∧ x.2 ≤ 6) (ho : w'.ownsMap (H := Unit) Tryz.prog 3 (plainElem Tryz.prog 3) b n ((dOf L).put (.int .i64 x.1) (.lit (.int .i64 x.2)))) : Mp w' b (ins x L) := by
 rw [dOf_put x h.srt] at ho
 refine ⟨by have := tight ho; rwa [dOf_size] at this, srt_ins h.srt, fun y hy => ?_⟩
 rcases mem_ins_sub hy with rfl | hy
 · exact hx
 · exact h.rng y hy
theorem Mp.del {w w' : World} {b n : Nat} {L : List Bl} {a : Int} (h : Mp w b L) (ho : w'.ownsMap (H := Unit) Tryz.prog 3 (plainElem Tryz.prog 3) b n ((dOf L).del (.int .i64 a))) : Mp w' b (del a L) := by
 rw [dOf_del] at ho
 exact ⟨by have := tight ho; rwa [dOf_size] at this, srt_del h.srt, fun y hy => h.rng y (mem_del.1 hy).1⟩
theorem mp_new (w : World) : Mp (w.alloc (.map #[] 0)) w.heap.size [] := ⟨World.ownsMap_made _ _ _ _, srt_nil, fun x hx => by cases hx⟩
structure Bud (w : World) (b fm tm : Nat) (N : Int) (F T : List Bl) : Prop where
 c0 : w.cell? ⟨b, 0, none⟩ = some (.int .i64 N)
 c1 : w.cell? ⟨b, 1, none⟩ = some (.map (some fm))
 c2 : w.cell? ⟨b, 2, none⟩ = some (.map (some tm))
 f : Mp w fm F
 t : Mp w tm T
 n1 : b ≠ fm
 n2 : b ≠ tm
 n3 : fm ≠ tm
 lt : b < w.heap.size
theorem Bud.b {w w' : World} {b fm tm : Nat} {N : Int} {F T : List Bl} (h : Bud w b fm tm N F T) (hb : Below w.heap.size w w') : Bud w' b fm tm N F T :=
 ⟨(hb.cell (p := ⟨b, 0, none⟩) h.lt).trans h.c0, (hb.cell (p := ⟨b, 1, none⟩) h.lt).trans h.c1, (hb.cell (p := ⟨b, 2, none⟩) h.lt).trans h.c2, h.f.b hb, h.t.b hb, h.n1, h.n2, h.n3, Nat.lt_of_lt_of_le h.lt hb.size⟩
theorem Bud.a {w : World} {b fm tm : Nat} {N : Int} {F T : List Bl} (h : Bud w b fm tm N F T) (o : Obj) : Bud (w.alloc o) b fm tm N F T := h.b (ballo (Below.refl _ _) o)
theorem Bud.setF {w w' : World} {b fm tm : Nat} {N : Int} {F F' T : List Bl} (h : Bud w b fm tm N F T) (hk : Kept fm fm w w') (hm : Mp w' fm F') : Bud w' b fm tm N F' T :=
 ⟨(hk.cell (p := ⟨b, 0, none⟩) h.lt h.n1 h.n1).trans h.c0, (hk.cell (p := ⟨b, 1, none⟩) h.lt h.n1 h.n1).trans h.c1, (hk.cell (p := ⟨b, 2, none⟩) h.lt h.n1 h.n1).trans h.c2, hm, h.t.k hk h.n3.symm h.n3.symm, h.n1, h.n2, h.n3, Nat.lt_of_lt_of_le h.lt hk.size⟩
theorem Bud.setT {w w' : World} {b fm tm : Nat} {N : Int} {F T T' : List Bl} (h : Bud w b fm tm N F T) (hk : Kept tm tm w w') (hm : Mp w' tm T') : Bud w' b fm tm N F T' :=
 ⟨(hk.cell (p := ⟨b, 0, none⟩) h.lt h.n2 h.n2).trans h.c0, (hk.cell (p := ⟨b, 1, none⟩) h.lt h.n2 h.n2).trans h.c1, (hk.cell (p := ⟨b, 2, none⟩) h.lt h.n2 h.n2).trans h.c2, h.f.k hk h.n3 h.n3, hm, h.n1, h.n2, h.n3, Nat.lt_of_lt_of_le h.lt hk.size⟩
end Bd
end Go.Proofs.YtfefehkapffljaaGreatDoor
namespace Go.Proofs.YtfefehkapffljaaGreatDoor
open Go.RowKit
namespace Bd
open Fr
structure Row (w : World) (g : Nat) (R : List Bl) : Prop where
 c : ∀ i, i < R.length → w.cell? ⟨g, i * 2, none⟩ = some (.int .i64 (R.getD i (0, 0)).1) ∧ w.cell? ⟨g, i * 2 + 1, none⟩ = some (.int .i64 (R.getD i (0, 0)).2)
 fz : ∀ o, o < R.length * 2 → w.frozen? ⟨g, o, none⟩ = false
 lt : g < w.heap.size
theorem Row.b {w w' : World} {g : Nat} {R : List Bl} (h : Row w g R) (hb : Below w.heap.size w w') : Row w' g R :=
 ⟨fun i hi => ⟨(hb.cell (p := ⟨g, i * 2, none⟩) h.lt).trans (h.c i hi).1, (hb.cell (p := ⟨g, i * 2 + 1, none⟩) h.lt).trans (h.c i hi).2⟩, fun o ho => (hb.frozen (p := ⟨g, o, none⟩) h.lt).trans (h.fz o ho), Nat.lt_of_lt_of_le h.lt hb.size⟩
theorem row_of {w : World} {B : Nat} {v : Value} {L : List Bl} (h : w.ownsRow B 71 2 v L.length (flat L)) (hL : L ≠ []) : ∃ g cap, v = .slice (some ⟨g, 0, none⟩) L.length cap ∧ B ≤ g ∧ L.length ≤ cap ∧ cap ≤ maxLen ∧ Row w g L := by
 rcases h.2 with ⟨_, h0⟩ | ⟨g, cap, cur, rfl, hb, hg, hle, hcap, hcs, hx⟩
 · exact absurd (List.length_eq_zero_iff.1 h0) hL
 · have hlt : g < w.heap.size := by
     rcases Nat.lt_or_ge g w.heap.size with h' | h'
     · exact h'
     · rw [Array.getElem?_eq_none h'] at hg; cases hg
   refine ⟨g, cap, rfl, hb, hle, hcap, fun i hi => ?_, fun o _ => by simp [World.frozen?, hg], hlt⟩
   have hf := flat_get L i hi
   rw [List.getD_eq_getElem?_getD, List.getElem?_eq_getElem hi, Option.getD_some]
   rw [Nat.mul_comm i 2]
   exact ⟨(h.cellAt (2 * i) (by omega)).trans hf.1, (h.cellAt (2 * i + 1) (by omega)).trans hf.2⟩
theorem less_ok (a k o : Int) (cb : Nat) (w : World) (hc : w.cell? ⟨cb, 0, none⟩ = some (.int .i64 o)) (hlt : cb < w.heap.size) :
   Calls Tryz.prog 192 #[blkV a k, .pointer (some ⟨cb, 0, none⟩)] w fun ev w' => ev = .returned (.bool (decide (k < o))) ∧ w' = w.alloc (blkO a k) := by
 have hc2 : (w.alloc (blkO a k)).cell? ⟨cb, 0, none⟩ = some (.int .i64 o) := ((ballo (Below.refl _ _) _).cell (p := ⟨cb, 0, none⟩) hlt).trans hc
 clear hc
 go_enter Tryz.func192, Tryz.ntmps192
 go_wp2
 go_ret
 exact ⟨rfl, rfl⟩
set_option maxHeartbeats 1000000 in
theorem index_ok (L : List Bl) (g cap cb : Nat) (o : Int) (w : World) (hr : Row w g L) (hl : L.length ≤ 256) (hc : w.cell? ⟨cb, 0, none⟩ = some (.int .i64 o)) (hlt : cb < w.heap.size) :
   Calls Tryz.prog 130 #[.slice (some ⟨g, 0, none⟩) L.length cap, .func (.func 192) #[] #[.pointer (some ⟨cb, 0, none⟩)]] w fun ev w' => Below w.heap.size w w' ∧
     ((ev = .returned (.int .i64 (-1)) ∧ ∀ j, j < L.length → o ≤ (L.getD j (0, 0)).2) ∨ ∃ i : Nat, i < L.length ∧ ev = .returned (.int .i64 i) ∧ (L.getD i (0, 0)).2 < o ∧ ∀ j, j < i → o ≤ (L.getD j (0, 0)).2) := by
 have HR := hide hr
 clear hr
 generalize hn : L.length = n at *
 go_enter Tryz.func130, Tryz.ntmps130
 go_wp2
 go_loopw [8] (fun s wr => ∃ i : Nat, s = .int .i64 i ∧ i ≤ n ∧ Below w.heap.size w wr ∧ Hid (∀ j, j < i → o ≤ (L.getD j (0, 0)).2)) (fun s _ => n - (RowKit.intOf s).toNat)
 case atStart => exact ⟨0, rfl, Nat.zero_le _, Below.refl _ _, fun j hj => by omega⟩
 case round =>
   obtain ⟨i, rfl, hi, hb, ha⟩ := hrel
   by_cases hin : i < n
   · have hcb := (hb.cell (p := ⟨cb, 0, none⟩) hlt).trans hc
     have hz := hb.size
     have cc := ((unhide HR).b hb).c i (by omega)
     have HX := hide (show o ≤ (L.getD i (0, 0)).2 ∨ (L.getD i (0, 0)).2 < o by omega)
     obtain ⟨c1, c2⟩ := cc
     obtain ⟨x, hx⟩ : ∃ x, x = L.getD i (0, 0) := ⟨_, rfl⟩
     rw [← hx] at c1 c2 HX
     have HXE := hide hx
     clear hx
     obtain ⟨x1, x2⟩ := x
     simp only at c1 c2 HX
     rcases unhide HX with hk | hk
     · have hd : decide (x2 < o) = false := by simp; omega
       go_wp2_with fail
       refine (less_ok x1 x2 o cb _ hcb (by omega)).mono ?_
       rintro ev w2 ⟨rfl, rfl⟩
       go_wp2_with fail
       go_roundw
       case rel => exact ⟨i + 1, by go_num, by omega, ballo hb _, fun j hj => by
         by_cases e : j = i
         · subst e; rw [← unhide HXE]; exact hk
         · exact (unhide ha) j (by omega)⟩
       case measure => simp [RowKit.intOf]; omega
     · have hd : decide (x2 < o) = true := by simp; omega
       go_wp2_with fail
       refine (less_ok x1 x2 o cb _ hcb (by omega)).mono ?_
       rintro ev w2 ⟨rfl, rfl⟩
       go_wp2_with fail
       go_ret
       exact ⟨ballo hb _, Or.inr ⟨i, by omega, rfl, by rw [← unhide HXE]; exact hk, unhide ha⟩⟩
   · have hin2 : i = n := by omega
     subst hin2
     go_wp2
     go_ret
     exact ⟨hb, Or.inl ⟨rfl, unhide ha⟩⟩
end Bd
end Go.Proofs.YtfefehkapffljaaGreatDoor
namespace Go.Proofs.YtfefehkapffljaaGreatDoor
open Go.RowKit
namespace Bd
open Fr
theorem cso {w : World} {a b : Addr} {v : Value} (h : a ≠ b) : (w.setCell a v).cell? b = w.cell? b := by
 apply World.cell?_setCell_other; exact h
theorem css {w : World} {a : Addr} {u v : Value} (h : w.cell? a = some u) : (w.setCell a v).cell? a = some v := by
 apply World.cell?_setCell_same; exact h
theorem Row.two {w : World} {g : Nat} {R : List Bl} (h : Row w g R) {i : Nat} (hi : i < R.length) (a k : Int) : Row ((w.setCell ⟨g, i * 2, none⟩ (.int .i64 a)).setCell ⟨g, i * 2 + 1, none⟩ (.int .i64 k)) g (R.set i (a, k)) := by
 refine ⟨fun j hj => ?_, fun o ho => by simp only [World.frozen?_setCell]; exact h.fz o (by simpa using ho), by simpa [World.setCell] using h.lt⟩
 have hj' : j < R.length := by simpa using hj
 have hc := h.c j hj'
 by_cases e : j = i
 · subst e
   have e1 : (R.set j (a, k)).getD j (0, 0) = (a, k) := by simp [List.getD_eq_getElem?_getD, hj']
   rw [e1]
   constructor
   · rw [cso (by simp), css hc.1]
   · exact css (u := .int .i64 (R.getD j (0, 0)).2) (by rw [cso (by simp)]; exact hc.2)
 · have e1 : (R.set i (a, k)).getD j (0, 0) = R.getD j (0, 0) := by simp [List.getD_eq_getElem?_getD, Ne.symm e]
   rw [e1]
   constructor
   · rw [cso (by simp <;> omega), cso (by simp <;> omega)]; exact hc.1
   · rw [cso (by simp <;> omega), cso (by simp <;> omega)]; exact hc.2
theorem kept_set {g : Nat} (w : World) (o : Nat) (v : Value) : Kept g g w (w.setCell ⟨g, o, none⟩ v) :=
 ⟨rfl, rfl, rfl, by simp [World.setCell], fun k _ h1 _ => Below.heap_setCell _ _ _ _ h1⟩
structure KI (o : Int) (L R : List Bl) (i j : Nat) : Prop where
 len : R.length = L.length
 lt : i < j
 le : j ≤ L.length
 took : R.take i = (L.take j).filter (fun x => decide (o ≤ x.2))
 rest : ∀ m, j ≤ m → R.getD m (0, 0) = L.getD m (0, 0)
theorem getD_lt {L : List Bl} {i : Nat} (h : i < L.length) : L.getD i (0, 0) = L[i] := by rw [List.getD_eq_getElem?_getD, List.getElem?_eq_getElem h, Option.getD_some]
theorem KI.start {o : Int} {L : List Bl} {i : Nat} (hi : i < L.length) (h1 : (L.getD i (0, 0)).2 < o) (h2 : ∀ j, j < i → o ≤ (L.getD j (0, 0)).2) : KI o L L i (i + 1) := by
 refine ⟨rfl, by omega, by omega, ?_, fun _ _ => rfl⟩
 rw [List.take_succ_eq_append_getElem hi, List.filter_append]
 rw [getD_lt hi] at h1
 have e1 : (L.take i).filter (fun x => decide (o ≤ x.2)) = L.take i := List.filter_eq_self.2 (fun x hx => by
   obtain ⟨m, hm, rfl⟩ := List.getElem_of_mem hx
   have hm' : m < i := by simp at hm; omega
   have := h2 m hm'
   rw [getD_lt (by omega)] at this
   simpa using this)
 rw [e1]
 simp [show ¬ o ≤ L[i].2 by omega]
theorem KI.skip {o : Int} {L R : List Bl} {i j : Nat} (h : KI o L R i j) (hj : j < L.length) (h1 : (L.getD j (0, 0)).2 < o) : KI o L R i (j + 1) := by
 refine ⟨h.len, by have := h.lt; omega, by omega, ?_, fun m hm => h.rest m (by omega)⟩
 rw [List.take_succ_eq_append_getElem hj, List.filter_append, h.took]
 rw [getD_lt hj] at h1
 simp [show ¬ o ≤ L[j].2 by omega]
theorem KI.keep {o : Int} {L R : List Bl} {i j : Nat} (h : KI o L R i j) (hj : j < L.length) (h1 : o ≤ (L.getD j (0, 0)).2) : KI o L (R.set i (L.getD j (0, 0))) (i + 1) (j + 1) := by
 have hl := h.len
 have hlt := h.lt
 refine ⟨by simpa using h.len, by omega, by omega, ?_, fun m hm => ?_⟩
 · rw [List.take_succ_eq_append_getElem hj, List.filter_append, ← h.took]
   rw [getD_lt hj] at h1 ⊢
   rw [List.take_succ_eq_append_getElem (by simp; omega)]
   rw [List.take_set, List.filter_cons, if_pos (by simpa using h1)]
   simp
   exact List.set_eq_of_length_le (by simp; omega)
 · rw [← h.rest m (by omega)]
   simp [List.getD_eq_getElem?_getD, show i ≠ m by omega]
theorem KI.done {o : Int} {L R : List Bl} {i : Nat} (h : KI o L R i L.length) : R.take i = L.filter (fun x => decide (o ≤ x.2)) ∧ i = (L.filter (fun x => decide (o ≤ x.2))).length := by
 have e := h.took
 rw [List.take_length] at e
 refine ⟨e, ?_⟩
 rw [← e, List.length_take, h.len]
 have := h.lt
 omega
theorem zeros (n : Nat) : (Builtin.zeroCells #[.int .i64 0, .int .i64 0] n).toList = List.replicate (n * 2) (.int .i64 0) := by
 simp [Builtin.zeroCells]
 apply List.ext_getElem
 · simp
 · intro i h1 h2
   simp
   have : i % 2 = 0 ∨ i % 2 = 1 := by omega
   rcases this with e | e <;> simp [e]
theorem clear_run (w : World) (g i n c ty : Nat) (R : List Bl) (hr : Row w g R) (hi : i < R.length) (hn : n = R.length - i) :
   (Builtin.clear_ #[146] ty #[.slice (some ⟨g, i * 2, none⟩) n c]).run Tryz.prog w = .ok (.tuple #[]) (w.setCells g (i * 2) (List.replicate (n * 2) (.int .i64 0))) := by
 have hst := run_storeCells_cells (P := Tryz.prog) g (i * 2) (List.replicate (n * 2) (.int .i64 0)) 0 w (fun j hj => by
   simp at hj
   have e : i * 2 + 0 + j = (i + j / 2) * 2 + j % 2 := by omega
   have hc := hr.c (i + j / 2) (by omega)
   rw [e]
   rcases (by omega : j % 2 = 0 ∨ j % 2 = 1) with h | h
   · rw [h]; simp [hc.1]
   · rw [h]; simp [hc.2]) (fun j hj => hr.fz _ (by simp at hj; omega)) (by intro v hv'; rw [List.eq_of_mem_replicate hv']; rfl)
 simp only [Nat.add_zero] at hst
 obtain ⟨m, rfl⟩ : ∃ m, n = m + 1 := ⟨n - 1, by omega⟩
 have hz : ∀ w, (zeroValue 71).run Tryz.prog w = .ok (.agg #[.int .i64 0, .int .i64 0]) w := fun w => by kernel_rfl
 have hcs : (Value.agg #[.int .i64 0, .int .i64 0]).cells = #[.int .i64 0, .int .i64 0] := rfl
 simp [Builtin.clear_, run_underlying Tryz.underlying146, hz, hcs, zeros, hst]
theorem kept_sets {g : Nat} : ∀ (vs : List Value) (o : Nat) (w : World), Kept g g w (w.setCells g o vs)
 | [], _, _ => Kept.refl _ _ _
 | v :: r, o, w => (kept_set w o v).trans (kept_sets r (o + 1) _)
theorem Row.cleared {w : World} {g : Nat} {R : List Bl} (h : Row w g R) (i : Nat) (hi : i ≤ R.length) (vs : List Value) : Row (w.setCells g (i * 2) vs) g (R.take i) := by
 refine ⟨fun j hj => ?_, fun o ho => ?_, ?_⟩
 · have hj' : j < i ∧ j < R.length := by simp at hj; omega
   have hc := h.c j hj'.2
   have e1 : (R.take i).getD j (0, 0) = R.getD j (0, 0) := by simp [List.getD_eq_getElem?_getD, hj'.1]
   rw [e1, World.cell?_setCells_out g vs _ _ _ (fun _ _ => Or.inl (by simp only; omega)), World.cell?_setCells_out g vs _ _ _ (fun _ _ => Or.inl (by simp only; omega))]
   exact hc
 · rw [World.frozen?_setCells]; exact h.fz o (by simp at ho; omega)
 · have := (kept_sets (g := g) vs (i * 2) w).size
   have := h.lt; omega
set_option maxHeartbeats 4000000 in
theorem delete_ok (L : List Bl) (g cap cb : Nat) (o : Int) (w : World) (hr : Row w g L) (hl : L.length ≤ 256) (hcap : L.length ≤ cap) (hc : w.cell? ⟨cb, 0, none⟩ = some (.int .i64 o)) (hlt : cb < w.heap.size) (hne : cb ≠ g) :
   Calls Tryz.prog 191 #[.slice (some ⟨g, 0, none⟩) L.length cap, .func (.func 192) #[] #[.pointer (some ⟨cb, 0, none⟩)]] w fun ev w' => Kept g g w w' ∧
     ∃ M, M = L.filter (fun x => decide (o ≤ x.2)) ∧ ev = .returned (.slice (some ⟨g, 0, none⟩) M.length cap) ∧ Row w' g M := by
 have HI := hide (index_ok L g cap cb o w hr hl hc hlt)
 have HR := hide hr
 have hgl := hr.lt
 clear hr
 generalize hn : L.length = n at *
 have HN := hide hn
 go_enter Tryz.func191, Tryz.ntmps191
 go_wp2_with fail
 refine (unhide HI).mono ?_
 rintro ev w1 ⟨hb1, ⟨rfl, ha⟩ | ⟨i0, hi0, rfl, h1, h2⟩⟩
 · have HA := hide ha
   clear ha HI
   have hne1 : ((-1 : Int) == -1) = true := rfl
   go_wp2
   go_ret
   have e : L.filter (fun x => decide (o ≤ x.2)) = L := List.filter_eq_self.2 (fun x hx => by
     obtain ⟨m, hm, rfl⟩ := List.getElem_of_mem hx
     have := (unhide HA) m (by omega)
     rw [getD_lt hm] at this
     simpa using this)
   exact ⟨kept_of hb1, L, e.symm, by rw [hn]; rfl, (unhide HR).b hb1⟩
 · have K0 := hide (KI.start (o := o) (by omega : i0 < L.length) h1 h2)
   have R0 := hide ((unhide HR).b hb1)
   have hz1 := hb1.size
   have B1 := hide hb1
   have hcb1 := (hb1.cell (p := ⟨cb, 0, none⟩) hlt).trans hc
   clear h1 h2 HI hb1 hc
   have hne1 : ((i0 : Int) == -1) = false := beq_eq_false_iff_ne.2 (by omega)
   go_wp2
   go_loopw [5, 6, 7] (fun s5 s6 _ wr => ∃ (i j : Nat) (R : List Bl), s5 = .int .i64 i ∧ s6 = .int .i64 j ∧ i < j ∧ j ≤ n ∧ Hid (KI o L R i j) ∧ Hid (Row wr g R) ∧ Kept g g w1 wr) (fun _ s6 _ _ => n - (RowKit.intOf s6).toNat)
   case atStart => exact ⟨i0, i0 + 1, L, rfl, by go_num, by omega, by omega, K0, R0, Kept.refl _ _ _⟩
   case round =>
     obtain ⟨i, j, R, rfl, rfl, hij, hjn, hK, hRw, hk⟩ := hrel
     have hRl : R.length = n := by rw [(unhide hK).len]; exact hn
     by_cases hjlt : j < n
     · have cc := (unhide hRw).c j (by omega)
       have ci := (unhide hRw).c i (by omega)
       have f1 := (unhide hRw).fz (i * 2) (by omega)
       have f2 := (unhide hRw).fz (i * 2 + 1) (by omega)
       have hcw : wr.cell? ⟨cb, 0, none⟩ = some (.int .i64 o) := (hk.cell (p := ⟨cb, 0, none⟩) (by simp only; omega) hne hne).trans hcb1
       have hz2 := hk.size
       have hgw := (unhide hRw).lt
       rw [(unhide hK).rest j (Nat.le_refl _)] at cc
       obtain ⟨x, hx⟩ : ∃ x, x = L.getD j (0, 0) := ⟨_, rfl⟩
       rw [← hx] at cc
       have HX := hide hx
       clear hx
       obtain ⟨x1, x2⟩ := x
       generalize R.getD i (0, 0) = y at ci
       obtain ⟨c1, c2⟩ := cc
       obtain ⟨i1, i2⟩ := ci
       simp only at c1 c2
       have hcw2 : (wr.alloc (blkO x1 x2)).cell? ⟨cb, 0, none⟩ = some (.int .i64 o) := ((ballo (Below.refl _ _) _).cell (p := ⟨cb, 0, none⟩) (by simp only; omega)).trans hcw
       by_cases hlo : x2 < o
       · have hd : decide (x2 < o) = true := by simpa using hlo
         go_wp2_with fail
         refine (less_ok x1 x2 o cb _ hcw2 (by simp; omega)).mono ?_
         rintro ev w3 ⟨rfl, rfl⟩
         go_wp2_with fail
         go_roundw
         case rel =>
           have b2 := ballo (ballo (Below.refl _ wr) (blkO x1 x2)) (blkO x1 x2)
           exact ⟨i, j + 1, R, rfl, by go_num, by omega, by omega, (unhide hK).skip (by omega) (by rw [← unhide HX]; exact hlo), (unhide hRw).b b2, hk.trans (kept_of b2)⟩
         case measure => simp [RowKit.intOf]; omega
       · have hd : decide (x2 < o) = false := by simpa using hlo
         have s1 := ballo (ballo (Below.refl _ wr) (blkO x1 x2)) (blkO x1 x2)
         have t1 := (s1.cell (p := ⟨g, i * 2, none⟩) hgw).trans i1
         have t2 := (s1.cell (p := ⟨g, i * 2 + 1, none⟩) hgw).trans i2
         have t3 := (s1.frozen (p := ⟨g, i * 2, none⟩) hgw).trans f1
         have t4 := (s1.frozen (p := ⟨g, i * 2 + 1, none⟩) hgw).trans f2
         have hin : i < n := by omega
         go_wp2_with fail
         refine (less_ok x1 x2 o cb _ hcw2 (by simp; omega)).mono ?_
         rintro ev w3 ⟨rfl, rfl⟩
         go_wp2_with fail
         go_roundw
         case rel =>
           have r2 := (unhide hRw).two (i := i) (by omega) x1 x2
           have s2 := ballo (ballo (Below.refl _ ((wr.setCell ⟨g, i * 2, none⟩ (.int .i64 x1)).setCell ⟨g, i * 2 + 1, none⟩ (.int .i64 x2))) (blkO x1 x2)) (blkO x1 x2)
           refine ⟨i + 1, j + 1, R.set i (x1, x2), by go_num, by go_num, by omega, by omega, ?_, r2.b s2, hk.trans (((kept_set _ _ _).trans (kept_set _ _ _)).trans (kept_of s2))⟩
           have := (unhide hK).keep (by omega) (by rw [← unhide HX]; simp only; omega)
           rwa [← unhide HX] at this
         case measure => simp [RowKit.intOf]; omega
     · have hjn2 : j = n := by omega
       subst hjn2
       have hkd := (unhide hK)
       rw [← hn] at hkd
       obtain ⟨d1, d2⟩ := hkd.done
       have HD1 := hide d1
       have HD2 := hide d2
       clear hkd d1 d2
       have hin : i < j := hij
       have hcl := fun ty => clear_run wr g i (j - i) (cap - i) ty R (unhide hRw) (by omega) (by omega)
       go_wp2
       go_ret
       refine ⟨(kept_of (unhide B1)).trans (hk.trans (kept_sets _ _ _)), _, rfl, by rw [← unhide HD2]; rfl, ?_⟩
       rw [← unhide HD1]
       exact (unhide hRw).cleared i (by omega) _
end Bd
end Go.Proofs.YtfefehkapffljaaGreatDoor
namespace Go.Proofs.YtfefehkapffljaaGreatDoor
open Go.RowKit
namespace Bd
open Fr
structure Bx (w : World) (b : Nat) (x : Bl) : Prop where
 c0 : w.cell? ⟨b, 0, none⟩ = some (.int .i64 x.1)
 c1 : w.cell? ⟨b, 1, none⟩ = some (.int .i64 x.2)
 f0 : w.frozen? ⟨b, 0, none⟩ = false
 f1 : w.frozen? ⟨b, 1, none⟩ = false
 lt : b < w.heap.size
theorem bx_new (w : World) (x : Bl) : Bx (w.alloc (blkO x.1 x.2)) w.heap.size x := ⟨by simp, by simp, by simp, by simp, by simp⟩
theorem Bx.b {w w' : World} {b : Nat} {x : Bl} (h : Bx w b x) (hb : Below w.heap.size w w') : Bx w' b x :=
 ⟨(hb.cell (p := ⟨b, 0, none⟩) h.lt).trans h.c0, (hb.cell (p := ⟨b, 1, none⟩) h.lt).trans h.c1, (hb.frozen (p := ⟨b, 0, none⟩) h.lt).trans h.f0, (hb.frozen (p := ⟨b, 1, none⟩) h.lt).trans h.f1, Nat.lt_of_lt_of_le h.lt hb.size⟩
theorem Bx.a {w : World} {b : Nat} {x : Bl} (h : Bx w b x) (o : Obj) : Bx (w.alloc o) b x := h.b (ballo (Below.refl _ _) o)
theorem Bx.set {w : World} {b : Nat} {x : Bl} (h : Bx w b x) (y : Bl) : Bx ((w.setCell ⟨b, 0, none⟩ (.int .i64 y.1)).setCell ⟨b, 1, none⟩ (.int .i64 y.2)) b y :=
 ⟨by rw [cso (by simp)]; exact css h.c0, css (u := .int .i64 x.2) (by rw [cso (by simp)]; exact h.c1), by simp only [World.frozen?_setCell]; exact h.f0, by simp only [World.frozen?_setCell]; exact h.f1, by simpa [World.setCell] using h.lt⟩
theorem Bx.off {w : World} {b c : Nat} {x : Bl} (h : Bx w b x) (hne : b ≠ c) (o : Nat) (v : Value) : Bx (w.setCell ⟨c, o, none⟩ v) b x :=
 ⟨by rw [cso (by simp <;> omega)]; exact h.c0, by rw [cso (by simp <;> omega)]; exact h.c1, by simp only [World.frozen?_setCell]; exact h.f0, by simp only [World.frozen?_setCell]; exact h.f1, by simpa [World.setCell] using h.lt⟩
def cmpv (a b : Int) : Int := if a < b then -1 else if b < a then 1 else 0
theorem compare_ok (a b : Int) (w : World) : Calls Tryz.prog 113 #[.int .i64 a, .int .i64 b] w fun ev w' => ev = .returned (.int .i64 (cmpv a b)) ∧ w' = w := by
 have n1 : (a != a) = false := by simp
 have n2 : (b != b) = false := by simp
 unfold cmpv
 by_cases h1 : a < b
 · have d1 : decide (a < b) = true := by simpa using h1
   rw [if_pos h1]
   go_enter Tryz.func113, Tryz.ntmps113
   go_wp2
   go_ret
   exact ⟨rfl, rfl⟩
 · have d1 : decide (a < b) = false := by simpa using h1
   rw [if_neg h1]
   by_cases h2 : b < a
   · have d2 : decide (b < a) = true := by simpa using h2
     rw [if_pos h2]
     go_enter Tryz.func113, Tryz.ntmps113
     go_wp2
     go_ret
     exact ⟨rfl, rfl⟩
   · have d2 : decide (b < a) = false := by simpa using h2
     rw [if_neg h2]
     go_enter Tryz.func113, Tryz.ntmps113
     go_wp2
     go_ret
     exact ⟨rfl, rfl⟩
theorem cmp_ok (x y : Bl) (w : World) : Calls Tryz.prog 194 #[blkV x.1 x.2, blkV y.1 y.2] w fun ev w' => ev = .returned (.int .i64 (cmpv x.2 y.2)) ∧ w' = (w.alloc (blkO x.1 x.2)).alloc (blkO y.1 y.2) := by
 obtain ⟨a, k⟩ := x
 obtain ⟨a', k'⟩ := y
 simp only
 have H := fun w => hide (compare_ok k k' w)
 generalize cmpv k k' = c at *
 go_enter Tryz.func194, Tryz.ntmps194
 go_wp2_with (go_at_call 113; refine (unhide (H _)).mono ?_; rintro ev w1 ⟨rfl, rfl⟩)
 go_ret
 exact ⟨rfl, rfl⟩
def pk (L : List Bl) : Nat → Bl
 | 0 => L.getD 0 (0, 0)
 | j + 1 => if (L.getD (j + 1) (0, 0)).2 < (pk L j).2 then L.getD (j + 1) (0, 0) else pk L j
set_option maxHeartbeats 4000000 in
theorem min_ok (L : List Bl) (g cap : Nat) (w : World) (hr : Row w g L) (hl : L.length ≤ 256) (h0 : 0 < L.length) :
   Calls Tryz.prog 193 #[.slice (some ⟨g, 0, none⟩) L.length cap, .func (.func 194) #[] #[]] w fun ev w' => ev = .returned (blkV (pk L (L.length - 1)).1 (pk L (L.length - 1)).2) ∧ Below w.heap.size w w' := by
 have HR := hide hr
 have c0 := (hr.c 0 h0)
 have hgl := hr.lt
 generalize hn : L.length = n at *
 have hx0 : L.getD 0 (0, 0) = pk L 0 := rfl
 rw [hx0] at c0
 obtain ⟨x0, hx⟩ : ∃ x, x = pk L 0 := ⟨_, rfl⟩
 rw [← hx] at c0
 have HX := hide hx
 clear hr hx0 hx
 obtain ⟨a, k⟩ := x0
 obtain ⟨c1, c2⟩ := c0
 simp only [Nat.zero_mul, Nat.zero_add] at c1 c2
 have hn1 : decide ((n : Int) < 1) = false := by simp; omega
 go_enter Tryz.func193, Tryz.ntmps193
 go_wp2
 go_loopw [6] (fun s6 wr => ∃ (j : Nat), s6 = .int .i64 j ∧ 1 ≤ j ∧ j ≤ n ∧ Hid (Bx wr w.heap.size (0, 0)) ∧ Hid (Bx wr (w.heap.size + 1) (pk L (j - 1))) ∧ Below w.heap.size w wr) (fun s6 _ => n - (RowKit.intOf s6).toNat)
 case atStart =>
   refine ⟨1, rfl, by omega, by omega, ?_, ?_, ballo (ballo (Below.refl _ _) _) _⟩
   · exact (bx_new w (0, 0)).a _
   · rw [← unhide HX]; have := bx_new (w.alloc (blkO 0 0)) (a, k); rw [show (w.alloc (blkO 0 0)).heap.size = w.heap.size + 1 by simp] at this; exact this
 case round =>
   obtain ⟨j, rfl, hj1, hj, h4, h5, hb⟩ := hrel
   by_cases hjn : j < n
   · have cc := ((unhide HR).b hb).c j (by omega)
     have hm := unhide h5
     obtain ⟨x, hx⟩ : ∃ x, x = L.getD j (0, 0) := ⟨_, rfl⟩
     rw [← hx] at cc
     obtain ⟨m, hmm⟩ : ∃ m, m = pk L (j - 1) := ⟨_, rfl⟩
     rw [← hmm] at hm h5
     have HP := hide (show pk L j = if x.2 < m.2 then x else m by
       obtain ⟨i, rfl⟩ : ∃ i, j = i + 1 := ⟨j - 1, by omega⟩
       rw [hx, hmm]; rfl)
     clear hx hmm
     have hc0 := hm.c0
     have hc1 := hm.c1
     have hf0 := hm.f0
     have hf1 := hm.f1
     have hml := hm.lt
     have H := fun w => hide (cmp_ok x m w)
     clear hm
     obtain ⟨x1, x2⟩ := x
     obtain ⟨m1, m2⟩ := m
     obtain ⟨c3, c4⟩ := cc
     simp only at c3 c4 hc0 hc1 H HP
     have hlt0 : (0 : Int) ≤ j := by omega
     have hlt1 : (j : Int) < n := by omega
     have hgr : g < wr.heap.size := by have := hb.size; omega
     by_cases hlt : x2 < m2
     · have hcv : cmpv x2 m2 = -1 := by unfold cmpv; rw [if_pos hlt]
       rw [hcv] at H
       rw [if_pos hlt] at HP
       go_wp2
       go_region_held3 (fun w' => w'.cell? ⟨g, j * 2, none⟩ = some (.int .i64 x1) ∧ w'.cell? ⟨g, j * 2 + 1, none⟩ = some (.int .i64 x2) ∧ w'.cell? ⟨w.heap.size + 1, 0, none⟩ = some (.int .i64 m1) ∧ w'.cell? ⟨w.heap.size + 1, 1, none⟩ = some (.int .i64 m2)) (go_keep) ((go_at_call 194; refine (unhide (H _)).mono ?_; rintro ev w' ⟨rfl, rfl⟩))
       have B2 : Below wr.heap.size wr ((wr.alloc (blkO x1 x2)).alloc (blkO m1 m2)).drew := (ballo (ballo (Below.refl _ _) _) _).drew
       generalize ((wr.alloc (blkO x1 x2)).alloc (blkO m1 m2)).drew = W at *
       have e3 := (B2.cell (p := ⟨g, j * 2, none⟩) hgr).trans c3
       have e4 := (B2.cell (p := ⟨g, j * 2 + 1, none⟩) hgr).trans c4
       have X5 := hide ((unhide h5).b B2)
       have q0 := (unhide X5).c0
       have q1 := (unhide X5).c1
       have q2 := (unhide X5).f0
       have q3 := (unhide X5).f1
       clear c3 c4 hc0 hc1 hf0 hf1
       simp only at q0 q1
       go_wp2
       go_roundw
       case rel => exact ⟨j + 1, by go_num, by omega, by omega, (((unhide h4).b B2).off (by omega) _ _).off (by omega) _ _, (by rw [Nat.add_sub_cancel, unhide HP]; exact (unhide X5).set (x1, x2)), ((btr hb B2).setCell (by simp) _).setCell (by simp) _⟩
       case measure => simp [RowKit.intOf]; omega
     · have hcv : decide (cmpv x2 m2 < 0) = false := by unfold cmpv; rw [if_neg hlt]; split <;> simp
       rw [if_neg hlt] at HP
       generalize cmpv x2 m2 = cv at *
       go_wp2
       go_region_held3 (fun w' => w'.cell? ⟨g, j * 2, none⟩ = some (.int .i64 x1) ∧ w'.cell? ⟨g, j * 2 + 1, none⟩ = some (.int .i64 x2) ∧ w'.cell? ⟨w.heap.size + 1, 0, none⟩ = some (.int .i64 m1) ∧ w'.cell? ⟨w.heap.size + 1, 1, none⟩ = some (.int .i64 m2)) (go_keep) ((go_at_call 194; refine (unhide (H _)).mono ?_; rintro ev w' ⟨rfl, rfl⟩))
       have B2 : Below wr.heap.size wr ((wr.alloc (blkO x1 x2)).alloc (blkO m1 m2)).drew := (ballo (ballo (Below.refl _ _) _) _).drew
       generalize ((wr.alloc (blkO x1 x2)).alloc (blkO m1 m2)).drew = W at *
       have e3 := (B2.cell (p := ⟨g, j * 2, none⟩) hgr).trans c3
       have e4 := (B2.cell (p := ⟨g, j * 2 + 1, none⟩) hgr).trans c4
       have X5 := hide ((unhide h5).b B2)
       have q0 := (unhide X5).c0
       have q1 := (unhide X5).c1
       have q2 := (unhide X5).f0
       have q3 := (unhide X5).f1
       clear c3 c4 hc0 hc1 hf0 hf1
       simp only at q0 q1
       go_wp2
       go_roundw
       case rel => exact ⟨j + 1, by go_num, by omega, by omega, (unhide h4).b B2, (by rw [Nat.add_sub_cancel, unhide HP]; exact unhide X5), btr hb B2⟩
       case measure => simp [RowKit.intOf]; omega
   · have hjn2 : j = n := by omega
     subst hjn2
     have X4 := unhide h4
     have X5 := unhide h5
     have q0 := X5.c0
     have q1 := X5.c1
     have p0 := X4.c0
     have p1 := X4.c1
     have g0 := X4.f0
     have g1 := X4.f1
     clear X4 X5 h4 h5
     obtain ⟨m, hm⟩ : ∃ m, m = pk L (j - 1) := ⟨_, rfl⟩
     rw [← hm] at q0 q1
     have HM := hide hm
     clear hm
     obtain ⟨m1, m2⟩ := m
     simp only at q0 q1 p0 p1
     go_wp2
     have r0 := css (v := .int .i64 m1) p0
     exact bodyPost_ret (v := blkV m1 m2) (by simp [results, Tryz.results193, go_sem, p0, p1]) rfl ⟨by rw [← unhide HM], (hb.setCell (by simp) _).setCell (by simp) _⟩
end Bd
end Go.Proofs.YtfefehkapffljaaGreatDoor
namespace Go.Proofs.YtfefehkapffljaaGreatDoor
open Go.Shelf
def keysA_ren : Go.Shelf.Ren := ⟨fun | 7 => 173 | 10 => 190 | n => n, fun | 23 => 186 | 26 => 3 | 3 => 3 | 28 => 253 | 0 => 0 | 27 => 252 | 33 => 78 | 4 => 4 | n => n, fun | n => n⟩
set_option maxRecDepth 100000 in
theorem keysA : Go.Proofs.SlLaysZI.n7 Tryz.prog keysA_ren := {
 mixed := by kernel_rfl
 f7 := ⟨Tryz.f173.name, by decide, Tryz.func173.trans (congrArg some (by kernel_rfl))⟩
 f10 := ⟨Tryz.f190.name, by decide, Tryz.func190.trans (congrArg some (by kernel_rfl))⟩
 t0 := Tryz.underlying0
 a0 := Tryz.isAgg0
 z0 := Tryz.sizeOf0
 v0 := Tryz.zeroValue0
 t4 := Tryz.underlying4
 a4 := Tryz.isAgg4
 z4 := Tryz.sizeOf4
 v4 := Tryz.zeroValue4
 t23 := Tryz.underlying186
 a23 := Tryz.isAgg186
 z23 := Tryz.sizeOf186
 v23 := Tryz.zeroValue186
 t26 := Tryz.underlying3
 a26 := Tryz.isAgg3
 z26 := Tryz.sizeOf3
 v26 := Tryz.zeroValue3
 t27 := Tryz.underlying252
 a27 := Tryz.isAgg252
 z27 := Tryz.sizeOf252
 v27 := Tryz.zeroValue252
 t28 := Tryz.underlying253
 a28 := Tryz.isAgg253
 z28 := Tryz.sizeOf253
 v28 := Tryz.zeroValue253
 t33 := Tryz.underlying78
 a33 := Tryz.isAgg78
 z33 := Tryz.sizeOf78
 v33 := Tryz.zeroValue78 }
def sortedA_ren : Go.Shelf.Ren := ⟨fun | 6 => 172 | 8 => 188 | 9 => 189 | 11 => 200 | 13 => 202 | 12 => 201 | 23 => 213 | 24 => 214 | 14 => 204 | 15 => 205 | 16 => 206 | 17 => 207 | 18 => 208 | 19 => 209 | 20 => 210 | 21 => 211 | 22 => 212 | 25 => 215 | 26 => 216 | 27 => 217 | 28 => 218 | 29 => 219 | 30 => 160 | 31 => 220 | n => n, fun | 26 => 3 | 28 => 253 | 24 => 22 | 0 => 0 | 3 => 3 | 37 => 201 | 48 => 295 | 50 => 122 | 4 => 4 | 40 => 289 | 39 => 288 | 45 => 195 | 5 => 5 | 9 => 9 | 51 => 296 | 55 => 300 | 57 => 302 | 58 => 57 | 33 => 78 | n => n, fun | n => n⟩
set_option maxRecDepth 100000 in
theorem sortedA : Go.Proofs.SlLaysZI.n6 Tryz.prog sortedA_ren := {
 mixed := by kernel_rfl
 f6 := ⟨Tryz.f172.name, by decide, Tryz.func172.trans (congrArg some (by kernel_rfl))⟩
 f8 := ⟨Tryz.f188.name, by decide, Tryz.func188.trans (congrArg some (by kernel_rfl))⟩
 f11 := ⟨Tryz.f200.name, by decide, Tryz.func200.trans (congrArg some (by kernel_rfl))⟩
 t0 := Tryz.underlying0
 a0 := Tryz.isAgg0
 z0 := Tryz.sizeOf0
 v0 := Tryz.zeroValue0
 t24 := Tryz.underlying22
 a24 := Tryz.isAgg22
 z24 := Tryz.sizeOf22
 v24 := Tryz.zeroValue22
 t26 := Tryz.underlying3
 a26 := Tryz.isAgg3
 z26 := Tryz.sizeOf3
 v26 := Tryz.zeroValue3
 t28 := Tryz.underlying253
 a28 := Tryz.isAgg253
 z28 := Tryz.sizeOf253
 v28 := Tryz.zeroValue253
 i26 := by kernel_rfl }
def sortA_ren : Go.Shelf.Ren := ⟨fun | 5 => 189 | 8 => 202 | 7 => 201 | 19 => 213 | 20 => 214 | 10 => 204 | 11 => 205 | 12 => 206 | 13 => 207 | 14 => 208 | 15 => 209 | 16 => 210 | 17 => 211 | 18 => 212 | 30 => 215 | 31 => 216 | 32 => 217 | 33 => 218 | 34 => 219 | 35 => 160 | 40 => 220 | n => n, fun | 23 => 22 | 25 => 3 | 3 => 3 | 32 => 201 | 22 => 22 | 0 => 0 | 44 => 295 | 46 => 122 | 4 => 4 | 36 => 289 | 35 => 288 | 41 => 195 | 5 => 5 | 9 => 9 | 53 => 296 | 57 => 300 | 63 => 302 | 64 => 57 | n => n, fun | n => n⟩
set_option maxRecDepth 100000 in
theorem sortA : Go.Proofs.SlLaysM.n5 Tryz.prog sortA_ren := {
 mixed := by kernel_rfl
 f5 := ⟨Tryz.f189.name, by decide, Tryz.func189.trans (congrArg some (by kernel_rfl))⟩
 f7 := ⟨Tryz.f201.name, by decide, Tryz.func201.trans (congrArg some (by kernel_rfl))⟩
 f8 := Tryz.func202.trans (congrArg some (by kernel_rfl))
 f10 := ⟨Tryz.f204.name, by decide, Tryz.func204.trans (congrArg some (by kernel_rfl))⟩
 f11 := ⟨Tryz.f205.name, by decide, Tryz.func205.trans (congrArg some (by kernel_rfl))⟩
 f12 := ⟨Tryz.f206.name, by decide, Tryz.func206.trans (congrArg some (by kernel_rfl))⟩
 f13 := ⟨Tryz.f207.name, by decide, Tryz.func207.trans (congrArg some (by kernel_rfl))⟩
 f14 := ⟨Tryz.f208.name, by decide, Tryz.func208.trans (congrArg some (by kernel_rfl))⟩
 f15 := ⟨Tryz.f209.name, by decide, Tryz.func209.trans (congrArg some (by kernel_rfl))⟩
 f16 := ⟨Tryz.f210.name, by decide, Tryz.func210.trans (congrArg some (by kernel_rfl))⟩
 f17 := ⟨Tryz.f211.name, by decide, Tryz.func211.trans (congrArg some (by kernel_rfl))⟩
 f18 := ⟨Tryz.f212.name, by decide, Tryz.func212.trans (congrArg some (by kernel_rfl))⟩
 f19 := Tryz.func213.trans (congrArg some (by kernel_rfl))
 f20 := Tryz.func214.trans (congrArg some (by kernel_rfl))
 f30 := ⟨Tryz.f215.name, by decide, Tryz.func215.trans (congrArg some (by kernel_rfl))⟩
 f31 := Tryz.func216.trans (congrArg some (by kernel_rfl))
 f32 := Tryz.func217.trans (congrArg some (by kernel_rfl))
 f33 := ⟨Tryz.f218.name, by decide, Tryz.func218.trans (congrArg some (by kernel_rfl))⟩
 f34 := ⟨Tryz.f219.name, by decide, Tryz.func219.trans (congrArg some (by kernel_rfl))⟩
 f35 := ⟨Tryz.f160.name, by decide, Tryz.func160.trans (congrArg some (by kernel_rfl))⟩
 f40 := ⟨Tryz.f220.name, by decide, Tryz.func220.trans (congrArg some (by kernel_rfl))⟩
 t0 := Tryz.underlying0
 a0 := Tryz.isAgg0
 z0 := Tryz.sizeOf0
 v0 := Tryz.zeroValue0
 t3 := Tryz.underlying3
 a3 := Tryz.isAgg3
 z3 := Tryz.sizeOf3
 v3 := Tryz.zeroValue3
 t4 := Tryz.underlying4
 a4 := Tryz.isAgg4
 z4 := Tryz.sizeOf4
 v4 := Tryz.zeroValue4
 t5 := Tryz.underlying5
 a5 := Tryz.isAgg5
 z5 := Tryz.sizeOf5
 v5 := Tryz.zeroValue5
 t9 := Tryz.underlying9
 a9 := Tryz.isAgg9
 z9 := Tryz.sizeOf9
 v9 := Tryz.zeroValue9
 t22 := Tryz.underlying22
 a22 := Tryz.isAgg22
 z22 := Tryz.sizeOf22
 v22 := Tryz.zeroValue22
 t23 := Tryz.underlying22
 a23 := Tryz.isAgg22
 z23 := Tryz.sizeOf22
 v23 := Tryz.zeroValue22
 t25 := Tryz.underlying3
 a25 := Tryz.isAgg3
 z25 := Tryz.sizeOf3
 v25 := Tryz.zeroValue3
 t32 := Tryz.underlying201
 a32 := Tryz.isAgg201
 z32 := Tryz.sizeOf201
 v32 := Tryz.zeroValue201
 t35 := Tryz.underlying288
 a35 := Tryz.isAgg288
 z35 := Tryz.sizeOf288
 v35 := Tryz.zeroValue288
 t36 := Tryz.underlying289
 a36 := Tryz.isAgg289
 z36 := Tryz.sizeOf289
 v36 := Tryz.zeroValue289
 t41 := Tryz.underlying195
 a41 := Tryz.isAgg195
 z41 := Tryz.sizeOf195
 v41 := Tryz.zeroValue195
 t44 := Tryz.underlying295
 a44 := Tryz.isAgg295
 z44 := Tryz.sizeOf295
 v44 := Tryz.zeroValue295
 t46 := Tryz.underlying122
 a46 := Tryz.isAgg122
 z46 := Tryz.sizeOf122
 v46 := Tryz.zeroValue122
 t53 := Tryz.underlying296
 a53 := Tryz.isAgg296
 z53 := Tryz.sizeOf296
 v53 := Tryz.zeroValue296
 t57 := Tryz.underlying300
 a57 := Tryz.isAgg300
 z57 := Tryz.sizeOf300
 v57 := Tryz.zeroValue300
 t63 := Tryz.underlying302
 a63 := Tryz.isAgg302
 z63 := Tryz.sizeOf302
 v63 := Tryz.zeroValue302
 t64 := Tryz.underlying57
 a64 := Tryz.isAgg57
 z64 := Tryz.sizeOf57
 v64 := Tryz.zeroValue57 }
def cloneA_ren : Go.Shelf.Ren := ⟨fun | 5 => 178 | 7 => 196 | n => n, fun | 23 => 186 | 25 => 3 | 3 => 3 | 4 => 4 | 20 => 20 | n => n, fun | n => n⟩
theorem cloneA : Go.Proofs.SlLaysW.n5 Tryz.prog cloneA_ren := {
 mixed := by kernel_rfl
 f5 := ⟨Tryz.f178.name, by decide, Tryz.func178.trans (congrArg some (by kernel_rfl))⟩
 f7 := Tryz.func196.trans (congrArg some (by kernel_rfl))
 t4 := Tryz.underlying4
 a4 := Tryz.isAgg4
 z4 := Tryz.sizeOf4
 v4 := Tryz.zeroValue4
 t20 := Tryz.underlying20
 a20 := Tryz.isAgg20
 z20 := Tryz.sizeOf20
 v20 := Tryz.zeroValue20
 t23 := Tryz.underlying186
 a23 := Tryz.isAgg186
 z23 := Tryz.sizeOf186
 v23 := Tryz.zeroValue186 }
end Go.Proofs.YtfefehkapffljaaGreatDoor
namespace Go.Proofs.YtfefehkapffljaaGreatDoor
open Go.RowKit Go.Maps
namespace Bd
open Fr
theorem law : Keyed Tryz.prog 3 := int_keyed Tryz.underlying3
theorem zero3 (w : World) : (zeroValue 3).run Tryz.prog w = .ok (.int .i64 0) w := by kernel_rfl
theorem put_ok (x : Bl) (m : Nat) (L : List Bl) (w : World) (h : Mp w m L) (hx : 0 ≤ x.1 ∧ x.1 < 256 ∧ 0 ≤ x.2 ∧ x.2 ≤ 6) :
   Calls Tryz.prog 110 #[.map (some m), blkV x.1 x.2] w fun ev w' => ev = .returned (.tuple #[]) ∧ Mp w' m (ins x L) ∧ Kept m m w w' := by
 have hl := h.len
 have hown := (h.a (blkO x.1 x.2)).own
 have HM := hide h
 have HX := hide hx
 have w1 := wf_small hx.1 hx.2.1
 have w2 := wf_small hx.2.2.1 (by omega)
 clear h hx
 obtain ⟨a, k⟩ := x
 simp only at *
 go_enter Tryz.func110, Tryz.ntmps110
 go_wp2_with (at_mapUpdate; refine wpList_mapUpdate_in _ rfl _ _ _ 186 rfl 3 3 law Tryz.underlying186 _ m L.length _ rfl hown (by unfold maxLen; omega) _ _ _ rfl rfl (keyOf_int_mk Tryz.underlying3 w1) _ [] (plainElem_int Tryz.underlying3 w2) ?_; intro w9 hown9 hturn9)
 go_end0
 exact ⟨rfl, (unhide HM).put (x := (a, k)) (unhide HX) hown9, (kept_alloc _ _ _ _).trans (kept_turned hturn9 (Or.inl rfl))⟩
end Bd
end Go.Proofs.YtfefehkapffljaaGreatDoor
namespace Go.Proofs.YtfefehkapffljaaGreatDoor
open Go.RowKit Go.Maps Go.Sort Go.Shelf
namespace Bd
open Fr
theorem sortsA (m : Nat) : AnyZI.SortsIn Tryz.prog sortedA_ren Fence.wide m :=
 ⟨fun blk off cap ss W hH hblk hsz => callsIn_wide.2 (AnyM.slices_Sort_int sortA blk off cap ss W hH hblk hsz),
  fun p cap W => callsIn_wide.2 (AnyM.slices_Sort_int_none sortA p cap W)⟩
theorem keys_ok (mb : Option Nat) (W : World) : Calls Tryz.prog 173 #[.map mb] W fun e w' => e = .returned (.func (.func 190) #[] #[.pointer (some ⟨W.heap.size, 0, none⟩)]) ∧ w' = W.alloc (.cells #[.map mb] 186) :=
 (callsIn_wide (n := 5)).1 (AnyZI.keys_in keysA Fence.wide 5 trivial rfl mb W)
theorem sort_keys {ss : List Int} {L : List Bl} (h : ss.Perm (intKeys (dOf L))) (hs : Srt L) : ss.mergeSort (fun x y => decide (x ≤ y)) = L.map (·.1) := by
 rw [dOf_keys] at h
 rw [show ss.mergeSort (fun x y => decide (x ≤ y)) = (L.map (·.1)).mergeSort (fun x y => decide (x ≤ y)) from mergeSort_of_perm_i h]
 exact List.mergeSort_of_pairwise (by
   rw [List.pairwise_map]
   exact hs.imp (fun h => by simp; omega))
theorem sorted_ok (m : Nat) (L : List Bl) (w : World) (h : Mp w m L) :
   Calls Tryz.prog 172 #[.func (.func 190) #[] #[.pointer (some ⟨w.heap.size, 0, none⟩)]] (w.alloc (.cells #[.map (some m)] 186)) fun e w' => ∃ v, e = .returned v ∧ w'.ownsRow w.heap.size 3 1 v L.length (L.map fun x => .int .i64 x.1) ∧ (L = [] → v = .slice none 0 0) ∧ Below w.heap.size w w' := by
 have hown := h.own
 have hl := h.len
 have hbl := hown.lt
 have hmax : Maps.size (dOf L) ≤ maxLen := by rw [dOf_size]; unfold maxLen; omega
 have hbytes : Maps.size (dOf L) * 8 ≤ 140737488355328 := by rw [dOf_size]; omega
 have hseq : SeqGives Fence.wide 2 Tryz.prog 190 #[.pointer (some ⟨w.heap.size, 0, none⟩)] encZ (fun ss => ss.Perm (intKeys (dOf L))) (Maps.size (dOf L)) (w.alloc (.cells #[.map (some m)] 186)) :=
   AnyZI.keys_gives (ρ := keysA_ren) { keysA with } Fence.wide _ trivial rfl (by omega) w.heap.size m L.length (dOf L) _ (by simp) (by simp) (by
     obtain ⟨es, clock, hb, Ft, hs, hD⟩ := hown
     exact ⟨es, clock, (Below.heap_alloc _ _ m hbl).trans hb, Ft, hs, hD⟩)
 have cS := AnyZI.sorted_in sortedA Fence.wide 5 trivial trivial trivial trivial rfl (by omega) (sortsA _) (enters_of Tryz.func189 (by kernel_rfl) rfl) 190 #[.pointer (some ⟨w.heap.size, 0, none⟩)] trivial (enters_of Tryz.func190 (by kernel_rfl) rfl) _ _ hmax hbytes _ hseq
 change CallsIn _ _ Tryz.prog 172 _ _ _ at cS
 refine ((callsIn_wide (n := 5)).1 cS).mono ?_
 rintro e w' ⟨v, ss, rfl, hS, hrow, hnil, hb⟩
 have e1 := sort_keys hS h.srt
 have e2 : ss.length = L.length := by have := hS.length_eq; rw [dOf_keys] at this; simpa using this
 rw [e1, e2] at hrow
 refine ⟨v, rfl, ?_, fun hL => hnil.2 (by rw [hL] at e2; exact List.length_eq_zero_iff.1 e2), ((Below.refl _ w).alloc (Nat.le_refl _) _).trans (hb.mono (by simp))⟩
 have := ownsRow_base_a hrow (show w.heap.size ≤ _ by simp)
 rw [List.map_map] at this
 exact this
theorem take_flat (L : List Bl) (j : Nat) (h : j < L.length) : flat (L.take (j + 1)) = flat (L.take j) ++ [.int .i64 (L[j]).1, .int .i64 (L[j]).2] := by
 rw [List.take_succ_eq_append_getElem h, flat_snoc]
set_option maxHeartbeats 4000000 in
theorem rising_ok (m : Nat) (L : List Bl) (w : World) (h : Mp w m L) :
   Calls Tryz.prog 131 #[.map (some m)] w fun ev w' => ∃ v, ev = .returned v ∧ w'.ownsRow w.heap.size 71 2 v L.length (flat L) ∧ (L = [] → v = .slice none 0 0) ∧ Below w.heap.size w w' := by
 have hl := h.len
 obtain ⟨i0, hi, hz0, hz1, hz2⟩ := info_parts info36
 have HI := hide hi
 have HZ := hide hz0
 have HZ1 := hide hz1
 have HZ2 := hide hz2
 have HK := hide (keys_ok (some m) w)
 have HS := hide (sorted_ok m L w h)
 clear hi hz0 hz1 hz2
 have HM := hide h
 clear h
 go_enter Tryz.func131, Tryz.ntmps131
 go_wp2_with fail
 refine (unhide HK).mono ?_
 rintro ev w9 ⟨rfl, rfl⟩
 go_wp2_with fail
 refine (unhide HS).mono ?_
 rintro ev w1 ⟨v, rfl, hrow, hnil, hb⟩
 have M1 := hide ((unhide HM).b hb)
 have hz := hb.size
 have HB := hide hb
 clear hb HM HS HK
 by_cases hL : L = []
 · obtain rfl := hnil hL
   subst hL
   go_wp2
   refine wp_loop_rounds 1 ?_
   rw [rounds_succ]
   go_wp2
   go_ret
   exact ⟨_, rfl, World.ownsRow_nil _ _ _ _, rfl, unhide HB⟩
 · rcases hrow.2 with ⟨_, h0⟩ | ⟨g, cap, cur, rfl, hg0, hg, hle, hcap, hcs, hx⟩
   · exact absurd (List.length_eq_zero_iff.1 h0) hL
   · have hlt : g < w1.heap.size := by
       rcases Nat.lt_or_ge g w1.heap.size with h' | h'
       · exact h'
       · rw [Array.getElem?_eq_none h'] at hg; cases hg
     have hc : Hid (∀ j, j < L.length → w1.cell? ⟨g, j, none⟩ = some (.int .i64 (L.getD j (0, 0)).1)) := fun j hj => by
       have := hrow.cellAt j (by simpa using hj)
       rw [this]; simp [List.getD_eq_getElem?_getD, hj]
     unfold maxLen at hcap
     have HL := hide hL
     clear hx hcs hg hrow hnil hL
     generalize hn : L.length = n at *
     go_wp2
     go_loopw [3, 10] (fun b i wr => ∃ j : Nat, j ≤ n ∧ i = .int .i64 j ∧ wr.ownsRow w1.heap.size 71 2 b j (flat (L.take j)) ∧ Below w1.heap.size w1 wr ∧ Hid (j = 0 → b = .slice none 0 0)) (fun _ i _ => n - (RowKit.intOf i).toNat)
     case atStart => exact ⟨0, Nat.zero_le _, rfl, World.ownsRow_nil _ _ _ _, Below.refl _ _, fun _ => rfl⟩
     case round =>
       obtain ⟨j, hj, rfl, hown, hbr, _⟩ := hrel
       by_cases hjn : j < n
       · have hjl : j < L.length := by omega
         have hcj := (hbr.cell (p := ⟨g, j, none⟩) hlt).trans (unhide hc j hjn)
         have hM := ((unhide M1).b hbr).own
         have hg1 : L.getD j (0, 0) = L[j] := by simp [List.getD_eq_getElem?_getD, hjl]
         have hr := (unhide M1).rng L[j] (List.getElem_mem hjl)
         have hat0 := hide (fun z => dOf_at (unhide M1).srt (List.getElem_mem hjl) z)
         have htf := hide (take_flat L j hjl)
         rw [hg1] at hcj
         clear hg1
         generalize L[j] = x at *
         obtain ⟨x1, x2⟩ := x
         simp only at hcj hr
         have wx := wf_small hr.1 hr.2.1
         have wx2 := hide (wf_small hr.2.2.1 (by omega : x2 < 256))
         have sz := hbr.size
         go_wp2_with (first
           | (at_lookup; refine wpList_lookup_own_int _ rfl _ _ 186 rfl 3 3 .i64 law Tryz.underlying186 Tryz.underlying3 (zero3 _) m L.length _ rfl hM _ _ rfl (keyOf_int_mk Tryz.underlying3 wx) ?_; intro c hat hwc)
           | (at_builtin; refine wpList_append_own _ rfl (.tmp 14) (.tmp 20) 146 rfl w1.heap.size 71 i0 (.agg #[.int .i64 0, .int .i64 0]) 2 16 Tryz.underlying146 (unhide HI) (unhide HZ) (unhide HZ1) (unhide HZ2) rfl (by decide) _ _ _ rfl (hown.alloc _) ⟨wr.heap.size, 0, none⟩ 1 1 [.int .i64 x1, .int .i64 c] rfl rfl (news2 _ x1 c) (one2 x1 c) (by unfold maxLen; omega) (by omega) (by simp; omega) ?_; intro v' w5 hown' hgrow hnil'))
         have hc2 : c = x2 := by
           have := (unhide hat0) (.lit (.int .i64 0))
           rw [this] at hat
           simpa using hat.symm
         subst hc2
         go_roundw
         case rel => exact ⟨j + 1, by omega, by go_num, by rw [unhide htf]; simpa using hown', (ballo hbr _).grown hgrow (by simp; omega) (own_row hown), fun h => by omega⟩
         case measure => simp [RowKit.intOf]; omega
       · have hjn2 : j = n := by omega
         subst hjn2
         have e1 : L.take j = L := by rw [← hn]; exact List.take_length
         rw [e1] at hown
         have HO := hide hown
         clear hown e1
         go_wp2
         go_ret
         refine ⟨_, rfl, ?_, fun h => ?_, (unhide HB).trans (hbr.mono hz)⟩
         · rw [hn]; exact ownsRow_base_a (unhide HO) hz
         · exact absurd h (unhide HL)
end Bd
end Go.Proofs.YtfefehkapffljaaGreatDoor
namespace Go.Proofs.YtfefehkapffljaaGreatDoor
open Go.RowKit
namespace Bd
open Fr
def ptr (b : Nat) : Value := .pointer (some ⟨b, 0, none⟩)
theorem free_ok (b fm tm : Nat) (N : Int) (F T : List Bl) (w : World) (h : Bud w b fm tm N F T) :
   Calls Tryz.prog 74 #[ptr b] w fun ev w' => ∃ v, ev = .returned v ∧ w'.ownsRow w.heap.size 71 2 v F.length (flat F) ∧ (F = [] → v = .slice none 0 0) ∧ Below w.heap.size w w' := by
 have c1 := h.c1
 have H := hide (rising_ok fm F w h.f)
 clear h
 unfold ptr
 go_enter Tryz.func74, Tryz.ntmps74
 go_wp2_with fail
 refine (unhide H).mono ?_
 rintro ev w1 ⟨v, rfl, h1, h2, h3⟩
 go_wp2_with fail
 go_ret
 exact ⟨_, rfl, h1, h2, h3⟩
theorem taken_ok (b fm tm : Nat) (N : Int) (F T : List Bl) (w : World) (h : Bud w b fm tm N F T) :
   Calls Tryz.prog 145 #[ptr b] w fun ev w' => ∃ v, ev = .returned v ∧ w'.ownsRow w.heap.size 71 2 v T.length (flat T) ∧ (T = [] → v = .slice none 0 0) ∧ Below w.heap.size w w' := by
 have c2 := h.c2
 have H := hide (rising_ok tm T w h.t)
 clear h
 unfold ptr
 go_enter Tryz.func145, Tryz.ntmps145
 go_wp2_with fail
 refine (unhide H).mono ?_
 rintro ev w1 ⟨v, rfl, h1, h2, h3⟩
 go_wp2_with fail
 go_ret
 exact ⟨_, rfl, h1, h2, h3⟩
theorem index_nil (fv : Value) (w : World) : Calls Tryz.prog 130 #[.slice none 0 0, fv] w fun ev w' => ev = .returned (.int .i64 (-1)) ∧ w' = w := by
 go_enter Tryz.func130, Tryz.ntmps130
 go_wp2
 refine wp_loop_rounds 1 ?_
 rw [rounds_succ]
 go_wp2
 go_ret
 exact ⟨rfl, rfl⟩
theorem delete_nil (fv : Value) (w : World) : Calls Tryz.prog 191 #[.slice none 0 0, fv] w fun ev w' => ev = .returned (.slice none 0 0) ∧ w' = w := by
 have H := fun w => hide (index_nil fv w)
 have hne1 : ((-1 : Int) == -1) = true := rfl
 go_enter Tryz.func191, Tryz.ntmps191
 go_wp2_with fail
 refine (unhide (H _)).mono ?_
 rintro ev w1 ⟨rfl, rfl⟩
 go_wp2
 go_ret
 exact ⟨rfl, rfl⟩
theorem delete_any (v : Value) (L : List Bl) (B cb : Nat) (o : Int) (w : World) (hrow : w.ownsRow B 71 2 v L.length (flat L)) (hnil : L = [] → v = .slice none 0 0) (hl : L.length ≤ 256) (hB : B ≤ w.heap.size) (hc : w.cell? ⟨cb, 0, none⟩ = some (.int .i64 o)) (hlt : cb < B) :
   Calls Tryz.prog 191 #[v, .func (.func 192) #[] #[.pointer (some ⟨cb, 0, none⟩)]] w fun ev w' => Below B w w' ∧
     ∃ p c, ev = .returned (.slice p (L.filter (fun x => decide (o ≤ x.2))).length c) ∧ (L.filter (fun x => decide (o ≤ x.2)) ≠ [] → ∃ g, p = some ⟨g, 0, none⟩ ∧ Row w' g (L.filter (fun x => decide (o ≤ x.2)))) := by
 by_cases hL : L = []
 · rw [hnil hL, hL]
   refine (delete_nil _ w).mono ?_
   rintro ev w' ⟨rfl, rfl⟩
   exact ⟨Below.refl _ _, none, 0, rfl, fun h => absurd rfl h⟩
 · obtain ⟨g, cap, rfl, hg, h1, _, hr⟩ := row_of hrow hL
   refine (delete_ok L g cap cb o w hr hl h1 hc (by omega) (by omega)).mono ?_
   rintro ev w' ⟨hk, M, rfl, rfl, hM⟩
   exact ⟨hk.below hg hg hB, _, _, rfl, fun _ => ⟨g, rfl, hM⟩⟩
def fit (o : Int) (F : List Bl) : Option Bl :=
 if F.filter (fun x => decide (o ≤ x.2)) = [] then none else some (pk (F.filter (fun x => decide (o ≤ x.2))) ((F.filter (fun x => decide (o ≤ x.2))).length - 1))
def fitV (o : Int) (F : List Bl) : Value := match fit o F with
 | none => .tuple #[blkV 0 0, .bool false]
 | some x => .tuple #[blkV x.1 x.2, .bool true]
set_option maxHeartbeats 1000000 in
theorem fit_ok (o : Int) (b fm tm : Nat) (N : Int) (F T : List Bl) (w : World) (h : Bud w b fm tm N F T) :
   Calls Tryz.prog 174 #[ptr b, .int .i64 o] w fun ev w' => ev = .returned (fitV o F) ∧ Below w.heap.size w w' := by
 have hlen := h.f.len
 have H1 := hide (free_ok b fm tm N F T _ ((h.a (.cells #[.int .i64 o] 3)).a (blkO 0 0)))
 have hfl : (F.filter (fun x => decide (o ≤ x.2))).length ≤ 256 := Nat.le_trans (List.length_filter_le _ _) hlen
 clear h
 have HF : Hid (fitV o F = if F.filter (fun x => decide (o ≤ x.2)) = [] then .tuple #[blkV 0 0, .bool false] else .tuple #[blkV (pk (F.filter (fun x => decide (o ≤ x.2))) ((F.filter (fun x => decide (o ≤ x.2))).length - 1)).1 (pk (F.filter (fun x => decide (o ≤ x.2))) ((F.filter (fun x => decide (o ≤ x.2))).length - 1)).2, .bool true]) := by
   show fitV o F = _
   unfold fitV fit
   by_cases c : F.filter (fun x => decide (o ≤ x.2)) = []
   · rw [if_pos c, if_pos c]
   · rw [if_neg c, if_neg c]
 rw [unhide HF]
 generalize hMF : F.filter (fun x => decide (o ≤ x.2)) = M at *
 have HMF := hide hMF
 clear HF hMF
 unfold ptr at *
 go_enter Tryz.func174, Tryz.ntmps174
 go_wp2_with fail
 refine (unhide H1).mono ?_
 rintro ev w1 ⟨v, rfl, h1, h2, h3⟩
 have sz := h3.size
 simp at sz
 have hco : w1.cell? ⟨w.heap.size, 0, none⟩ = some (.int .i64 o) := (h3.cell (p := ⟨w.heap.size, 0, none⟩) (by simp; omega)).trans (((ballo (Below.refl _ (w.alloc (.cells #[.int .i64 o] 3))) _).cell (p := ⟨w.heap.size, 0, none⟩) (by simp)).trans (by simp))
 have B1 : Below w.heap.size w w1 := (ballo (ballo (Below.refl _ _) _) _).trans (h3.mono (by simp; omega))
 have X1 : Bx w1 (w.heap.size + 1) (0, 0) := by have := (bx_new (w.alloc (.cells #[.int .i64 o] 3)) (0, 0)).b h3; simpa using this
 have H2 := hide (delete_any v F _ w.heap.size o w1 h1 h2 hlen h3.size hco (by simp; omega))
 clear h1 h2 h3 H1 hco
 go_wp2_with fail
 refine (unhide H2).mono ?_
 rintro ev w2 ⟨b2, p, c, rfl, hM⟩
 rw [show ((w.alloc (.cells #[.int .i64 o] 3)).alloc (blkO 0 0)).heap.size = w.heap.size + 2 by simp] at b2
 have X2 : Bx w2 (w.heap.size + 1) (0, 0) := ⟨(b2.cell (p := ⟨w.heap.size + 1, 0, none⟩) (by simp only; omega)).trans X1.c0, (b2.cell (p := ⟨w.heap.size + 1, 1, none⟩) (by simp only; omega)).trans X1.c1, (b2.frozen (p := ⟨w.heap.size + 1, 0, none⟩) (by simp only; omega)).trans X1.f0, (b2.frozen (p := ⟨w.heap.size + 1, 1, none⟩) (by simp only; omega)).trans X1.f1, Nat.lt_of_lt_of_le X1.lt b2.size⟩
 have B2 : Below w.heap.size w w2 := B1.trans (b2.mono (by omega))
 rw [unhide HMF] at hM ⊢
 clear H2 b2 B1 X1
 have p0 := X2.c0
 have p1 := X2.c1
 have g0 := X2.f0
 have g1 := X2.f1
 simp only at p0 p1
 by_cases hc : M = []
 · subst hc
   have hz : (((0 : Nat) : Int) == 0) = true := rfl
   simp only [List.length_nil] at *
   clear hM
   go_wp2
   exact bodyPost_ret (v := .tuple #[blkV 0 0, .bool false]) (by simp [results, Tryz.results174, go_sem, p0, p1]) rfl ⟨rfl, (B2.setCell (by simp) _).setCell (by simp) _⟩
 · obtain ⟨g, rfl, hr⟩ := hM hc
   have hpos : 0 < M.length := List.length_pos_iff.2 hc
   have hz : ((M.length : Int) == 0) = false := by simp; exact hc
   have H3 := min_ok M g c w2 hr hfl hpos
   obtain ⟨x, hx⟩ : ∃ x, x = pk M (M.length - 1) := ⟨_, rfl⟩
   rw [← hx] at H3
   have HX := hide hx
   have HC := hide hc
   have H3 := hide H3
   clear hx hM hc hr hpos
   obtain ⟨x1, x2⟩ := x
   go_wp2_with fail
   refine (unhide H3).mono ?_
   rintro ev w3 ⟨rfl, b3⟩
   have X3 := X2.b b3
   have s0 := X3.c0
   have s1 := X3.c1
   have t0 := X3.f0
   have t1 := X3.f1
   simp only at s0 s1
   clear p0 p1 g0 g1
   go_wp2_with fail
   exact bodyPost_ret (v := .tuple #[blkV x1 x2, .bool true]) (by simp [results, Tryz.results174, go_sem, s0, s1]) rfl ⟨by rw [← unhide HX], ((btr B2 b3).setCell (by simp) _).setCell (by simp) _⟩
end Bd
end Go.Proofs.YtfefehkapffljaaGreatDoor
