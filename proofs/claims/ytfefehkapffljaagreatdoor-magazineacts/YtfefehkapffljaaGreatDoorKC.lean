/- K2 · K1. -/
import Derived.Test.YtfefehkapffljaaGreatDoorKA
import Derived.Test.YtfefehkapffljaaGreatDoorGS
import Derived.Test.YtfefehkapffljaaGreatDoorGT
import Derived.Test.YtfefehkapffljaaGreatDoorKB
namespace Go.Proofs.YtfefehkapffljaaGreatDoor
open Go.RowKit Go.Maps
namespace Sb
open Fr Bd Zn Dz
def Same (ts : List TypeId) (w w' : World) : Prop := ∀ b t, t ∈ ts → Tag w b t → w'.heap[b]? = w.heap[b]?
theorem same_below {ts : List TypeId} {w w' : World} (h : Below w.heap.size w w') : Same ts w w' := fun b _ _ ht => h.block b ht.lt
theorem same_tag {ts : List TypeId} {w w' : World} {A : Nat} {s : TypeId} (hk : Kept A A w w') (hs : Tag w A s) (hn : s ∉ ts) : Same ts w w' := fun b t hm ht => by
 have hne : b ≠ A := ht.ne hs (fun e => hn (e ▸ hm))
 exact hk.block b ht.lt hne hne
theorem tag_same {ts : List TypeId} {w w' : World} (h : Same ts w w') {b : Nat} {t : TypeId} (hm : t ∈ ts) (ht : Tag w b t) : Tag w' b t := ht.blk (h b t hm ht)
theorem cell_same {ts : List TypeId} {w w' : World} (h : Same ts w w') {b : Nat} {t : TypeId} (hm : t ∈ ts) (ht : Tag w b t) (j : Nat) : w'.cell? ⟨b, j, none⟩ = w.cell? ⟨b, j, none⟩ := World.cell?_of_block (w := w) (h b t hm ht)
theorem own_same {w w' : World} {b e size n : Nat} {v : Value} {xs : List Value} (h : w.ownsRow b e size v n xs) {ts : List TypeId} (hs : Same ts w w') (hm : e ∈ ts) : w'.ownsRow b e size v n xs := by
 refine ⟨h.1, ?_⟩
 rcases h.2 with h2 | ⟨g, cap, cur, h1, h2, h3, h4⟩
 · exact Or.inl h2
 · exact Or.inr ⟨g, cap, cur, h1, h2, (hs g e hm ⟨cur, _, h3⟩).trans h3, h4⟩
structure SLm (w : World) (b : Nat) (s : Sl) : Prop where
 c0 : w.cell? ⟨b, 0, none⟩ = some (.int .i64 s.nd)
 c1 : w.cell? ⟨b, 1, none⟩ = some (.int .i64 s.at_)
 c2 : w.cell? ⟨b, 2, none⟩ = some (.int .i64 0)
 c3 : w.cell? ⟨b, 3, none⟩ = some (.int .u64 s.bm)
 tg : Tag w b 124
 fz : ∀ o, w.frozen? ⟨b, o, none⟩ = false
theorem SLm.same {w w' : World} {b : Nat} {s : Sl} (h : SLm w b s) (hb : w'.heap[b]? = w.heap[b]?) : SLm w' b s :=
 ⟨(World.cell?_of_block (w := w) hb).trans h.c0, (World.cell?_of_block (w := w) hb).trans h.c1, (World.cell?_of_block (w := w) hb).trans h.c2, (World.cell?_of_block (w := w) hb).trans h.c3, h.tg.blk hb, fun o => (World.frozen?_of_block (w := w) (a := ⟨b, o, none⟩) hb).trans (h.fz o)⟩
theorem SLm.b {w w' : World} {b : Nat} {s : Sl} (h : SLm w b s) (hb : Below w.heap.size w w') : SLm w' b s := h.same (hb.block b h.tg.lt)
def sok (m : Nat) (s : Sl) : Prop := 0 ≤ s.at_ ∧ s.at_ < 256 ∧ s.bm < 2 ^ m ∧ s.nd < 1000
def ptrl (bs : List Nat) : List Value := bs.map ptr
theorem ptrl_at {bs : List Nat} {i b : Nat} (h : bs[i]? = some b) : (ptrl bs)[i]? = some (ptr b) := by simp [ptrl, h]
def kind : Obj → Option TypeId
 | .cells _ t _ => some t
 | _ => none
abbrev Ly := Nat × Obj
structure LY (N0 : Nat) (w : World) (c : Nat) (ly : Ly) : Prop where
 c3 : w.cell? ⟨c, 3, none⟩ = some (.map (some ly.1))
 lm : w.heap[ly.1]? = some ly.2
 lk : kind ly.2 = none
 lg : N0 ≤ ly.1
theorem LY.lt {N0 : Nat} {w : World} {c : Nat} {ly : Ly} (h : LY N0 w c ly) : ly.1 < w.heap.size := (Array.getElem?_eq_some_iff.mp h.lm).1
theorem LY.ne {N0 : Nat} {w : World} {c : Nat} {ly : Ly} (h : LY N0 w c ly) {b : Nat} {t : TypeId} (ht : Tag w b t) : ly.1 ≠ b := fun e => by
 obtain ⟨cur, fz, e2⟩ := ht
 have h1 := h.lm
 rw [e, e2] at h1
 have h2 := h.lk
 rw [← Option.some.inj h1] at h2
 cases h2
theorem LY.set {N0 : Nat} {w w' : World} {c c' : Nat} {ly : Ly} (h : LY N0 w c ly) (h3 : w'.cell? ⟨c', 3, none⟩ = some (.map (some ly.1))) (hm : w'.heap[ly.1]? = w.heap[ly.1]?) : LY N0 w' c' ly := ⟨h3, hm.trans h.lm, h.lk, h.lg⟩
structure DC (N0 : Nat) (w : World) (c z : Nat) (ly : Ly) (sz : Int) (m : Nat) (bs : List Nat) (ss : List Sl) : Prop where
 c0 : w.cell? ⟨c, 0, none⟩ = some (ptr z)
 c1 : w.cell? ⟨c, 1, none⟩ = some (.int .i64 sz)
 c2 : ∃ p d, w.cell? ⟨c, 2, none⟩ = some (.slice p bs.length d) ∧ w.ownsRow N0 116 1 (.slice p bs.length d) bs.length (ptrl bs)
 tg : Tag w c 114
 ge : N0 ≤ c
 bg : ∀ b ∈ bs, N0 ≤ b
 len : bs.length = ss.length
 nd : bs.Nodup
 sl : ∀ (i : Nat) (b : Nat) (s : Sl), bs[i]? = some b → ss[i]? = some s → SLm w b s
 ok : ∀ s ∈ ss, sok m s
 so : Sorted ss
 cf : ∀ o, w.frozen? ⟨c, o, none⟩ = false
 mm : 1 ≤ sz ∧ sz ≤ 64 ∧ (m : Int) = 64 / sz
 ym : LY N0 w c ly
section
variable {N0 : Nat} {w w' : World} {c z : Nat} {ly : Ly} {sz : Int} {m : Nat} {bs : List Nat} {ss : List Sl}
theorem DC.same (h : DC N0 w c z ly sz m bs ss) (hs : Same [114, 116, 124] w w') (hm : w'.heap[ly.1]? = w.heap[ly.1]?) : DC N0 w' c z ly sz m bs ss := by
 obtain ⟨p, d, e2, o2⟩ := h.c2
 have hc := fun j => cell_same hs (by simp) h.tg j
 exact ⟨(hc 0).trans h.c0, (hc 1).trans h.c1, ⟨p, d, (hc 2).trans e2, own_same o2 hs (by simp)⟩, tag_same hs (by simp) h.tg, h.ge, h.bg, h.len, h.nd, fun i b s h1 h2 => (h.sl i b s h1 h2).same (hs b 124 (by simp) (h.sl i b s h1 h2).tg), h.ok, h.so, fun o => (World.frozen?_of_block (w := w) (a := ⟨c, o, none⟩) (hs c 114 (by simp) h.tg)).trans (h.cf o), h.mm, h.ym.set ((hc 3).trans h.ym.c3) hm⟩
theorem DC.b (h : DC N0 w c z ly sz m bs ss) (hb : Below w.heap.size w w') : DC N0 w' c z ly sz m bs ss := h.same (same_below hb) (hb.block _ h.ym.lt)
theorem DC.slab (h : DC N0 w c z ly sz m bs ss) {i : Nat} (hi : i < ss.length) : ∃ b s, bs[i]? = some b ∧ ss[i]? = some s ∧ SLm w b s ∧ sok m s := by
 have hb : i < bs.length := by rw [h.len]; exact hi
 exact ⟨_, _, List.getElem?_eq_getElem hb, List.getElem?_eq_getElem hi, h.sl i _ _ (List.getElem?_eq_getElem hb) (List.getElem?_eq_getElem hi), h.ok _ (List.getElem_mem hi)⟩
theorem DC.row (h : DC N0 w c z ly sz m bs ss) (hn : 0 < ss.length) : ∃ g d, w.cell? ⟨c, 2, none⟩ = some (.slice (some ⟨g, 0, none⟩) ss.length d) ∧ w.ownsRow N0 116 1 (.slice (some ⟨g, 0, none⟩) ss.length d) ss.length (ptrl bs) ∧ g < w.heap.size ∧ N0 ≤ g ∧ ∀ i b, bs[i]? = some b → w.cell? ⟨g, i, none⟩ = some (ptr b) := by
 obtain ⟨p, d, e2, o2⟩ := h.c2
 rw [h.len] at e2 o2
 obtain ⟨g, cap, hv, hg, hl⟩ := o2.form hn
 simp only [Value.slice.injEq, true_and] at hv
 obtain ⟨rfl, rfl⟩ := hv
 refine ⟨g, d, e2, o2, hl, hg, fun i b hb => ?_⟩
 have hi : i < bs.length := (List.getElem?_eq_some_iff.mp hb).1
 exact (o2.cellAt i (by rw [h.len] at hi; omega)).trans (ptrl_at hb)
theorem DC.turn (h : DC N0 w c z ly sz m bs ss) {i b : Nat} {s : Sl} (hb : bs[i]? = some b) (hs : ss[i]? = some s) (x : Nat) (hx : x < 2 ^ m) (hk : Kept b b w w') (hS : SLm w' b { s with bm := x }) : DC N0 w' c z ly sz m bs (ss.set i { s with bm := x }) := by
 have ht := (h.sl i b s hb hs).tg
 have hsm : Same [114, 116] w w' := same_tag hk ht (by decide)
 obtain ⟨p, d, e2, o2⟩ := h.c2
 have hc := fun j => cell_same hsm (by simp) h.tg j
 refine ⟨(hc 0).trans h.c0, (hc 1).trans h.c1, ⟨p, d, (hc 2).trans e2, own_same o2 hsm (by simp)⟩, tag_same hsm (by simp) h.tg, h.ge, h.bg, by rw [List.length_set]; exact h.len, h.nd, fun j b' s' h1 h2 => ?_, fun s' hs' => ?_, sorted_set h.so hs x, fun o => (World.frozen?_of_block (w := w) (a := ⟨c, o, none⟩) (hsm c 114 (by simp) h.tg)).trans (h.cf o), h.mm, h.ym.set ((hc 3).trans h.ym.c3) (hk.block _ h.ym.lt (h.ym.ne ht) (h.ym.ne ht))⟩
 · by_cases e : j = i
   · subst e
     have hj : j < ss.length := (List.getElem?_eq_some_iff.mp hs).1
     rw [List.getElem?_set_self hj] at h2
     rw [hb] at h1
     cases h1; cases h2
     exact hS
   · rw [List.getElem?_set_ne (Ne.symm e)] at h2
     have h3 := h.sl j b' s' h1 h2
     have hne : b' ≠ b := fun e2 => by
       subst e2
       obtain ⟨hj, hj'⟩ := List.getElem?_eq_some_iff.mp h1
       obtain ⟨hi, hi'⟩ := List.getElem?_eq_some_iff.mp hb
       have hpw := List.pairwise_iff_getElem.mp h.nd
       rcases Nat.lt_trichotomy j i with q | q | q
       · exact hpw j i hj hi q (hj'.trans hi'.symm)
       · exact e q
       · exact hpw i j hi hj q (hi'.trans hj'.symm)
     exact h3.same (hk.block b' h3.tg.lt hne hne)
 · rcases List.mem_or_eq_of_mem_set hs' with h1 | rfl
   · exact h.ok s' h1
   · have := h.ok s (List.mem_of_getElem? hs)
     exact ⟨this.1, this.2.1, hx, this.2.2.2⟩
end
end Sb
end Go.Proofs.YtfefehkapffljaaGreatDoor
namespace Go.Proofs.YtfefehkapffljaaGreatDoor
open Go.RowKit Go.Maps
namespace Sb
open Fr Bd Zn Dz
structure Chg (ts : List (Option TypeId)) (N : Nat) (w w' : World) : Prop where
 os : w'.os = w.os
 tape : w'.tape = w.tape
 output : w'.output = w.output
 size : w.heap.size ≤ w'.heap.size
 blk : ∀ k, k < w.heap.size → w'.heap[k]? = w.heap[k]? ∨ (N ≤ k ∧ ∃ o, w.heap[k]? = some o ∧ kind o ∈ ts)
theorem Chg.below {ts : List (Option TypeId)} {N : Nat} {w w' : World} (h : Below w.heap.size w w') : Chg ts N w w' := ⟨h.os, h.tape, h.output, h.size, fun k hk => Or.inl (h.block k hk)⟩
theorem Chg.refl (ts : List (Option TypeId)) (N : Nat) (w : World) : Chg ts N w w := Chg.below (Below.refl _ _)
theorem Chg.trans {ts : List (Option TypeId)} {N : Nat} {w w1 w2 : World} (h : Chg ts N w w1) (k : Chg ts N w1 w2) : Chg ts N w w2 := by
 refine ⟨k.os.trans h.os, k.tape.trans h.tape, k.output.trans h.output, Nat.le_trans h.size k.size, fun j hj => ?_⟩
 rcases h.blk j hj with e1 | h1
 · rcases k.blk j (Nat.lt_of_lt_of_le hj h.size) with f1 | ⟨hN, p, f0, f3⟩
   · exact Or.inl (f1.trans e1)
   · exact Or.inr ⟨hN, p, e1.symm.trans f0, f3⟩
 · exact Or.inr h1
theorem Chg.mono {ts ts' : List (Option TypeId)} {N N' : Nat} {w w' : World} (h : Chg ts N w w') (hs : ∀ t ∈ ts, t ∈ ts') (hN : N' ≤ N) : Chg ts' N' w w' :=
 ⟨h.os, h.tape, h.output, h.size, fun k hk => (h.blk k hk).imp id fun ⟨h1, o, h2, h5⟩ => ⟨Nat.le_trans hN h1, o, h2, hs _ h5⟩⟩
theorem Chg.toBelow {ts : List (Option TypeId)} {N : Nat} {w w' : World} (h : Chg ts N w w') (hN : N ≤ w.heap.size) : Below N w w' :=
 ⟨h.os, h.tape, h.output, h.size, fun k hk => by
   rcases h.blk k (by omega) with e | ⟨h1, _⟩
   · exact e
   · omega⟩
theorem Chg.same {ts : List (Option TypeId)} {N : Nat} {w w' : World} (h : Chg ts N w w') {b : Nat} {t : TypeId} (ht : Tag w b t) (hn : some t ∉ ts) : w'.heap[b]? = w.heap[b]? := by
 rcases h.blk b ht.lt with e | ⟨_, o, h1, h4⟩
 · exact e
 · obtain ⟨cur, fz, e⟩ := ht
   rw [e] at h1
   cases h1
   exact absurd h4 hn
theorem Chg.toSame {ts : List (Option TypeId)} {us : List TypeId} {N : Nat} {w w' : World} (h : Chg ts N w w') (hd : ∀ t ∈ us, some t ∉ ts) : Same us w w' := fun _ t hm ht => h.same ht (hd t hm)
theorem Chg.mp {ts : List (Option TypeId)} {N : Nat} {w w' : World} (h : Chg ts N w w') (hn : none ∉ ts) {b : Nat} {L : List Bl} (hm : Mp w b L) : w'.heap[b]? = w.heap[b]? := by
 rcases h.blk b hm.lt with e | ⟨_, o, h1, h4⟩
 · exact e
 · obtain ⟨⟨es, clock, e, _⟩, _, _⟩ := hm
   rw [e] at h1
   cases h1
   exact absurd h4 hn
theorem Chg.one {N : Nat} {w w' : World} {A : Nat} {t : TypeId} (hk : Kept A A w w') (ht : Tag w A t) (hN : N ≤ A) : Chg [some t] N w w' :=
 ⟨hk.os, hk.tape, hk.output, hk.size, fun k hl => by
   by_cases e : k = A
   · subst e
     obtain ⟨c, f, h1⟩ := ht
     exact Or.inr ⟨hN, _, h1, by simp [kind]⟩
   · exact Or.inl (hk.block k hl e e)⟩
theorem Chg.grown {N : Nat} {w w' : World} {t : TypeId} {p : Option Addr} {n d : Nat} {xs : List Value} (h : w.grownBy w' (Value.slice p n d).ownBlock) (ho : w.ownsRow N t 1 (.slice p n d) n xs) : Chg [some t] N w w' :=
 ⟨h.os, h.tape, h.output, h.size, fun k hl => by
   by_cases e : some k = (Value.slice p n d).ownBlock
   · rcases ho.2 with ⟨e2, _⟩ | ⟨g, cap, cur, e2, hg, hh, _⟩
     · rw [e2] at e; cases e
     · rw [e2] at e
       simp only [Value.ownBlock, Option.some.injEq] at e
       subst e
       exact Or.inr ⟨hg, _, hh, by simp [kind]⟩
   · exact Or.inl (h.block k hl e)⟩
theorem Chg.set {N : Nat} {w : World} {A : Nat} {t : TypeId} (ht : Tag w A t) (hN : N ≤ A) (o : Nat) (v : Value) : Chg [some t] N w (w.setCell ⟨A, o, none⟩ v) :=
 ⟨rfl, rfl, rfl, by simp [World.setCell], fun k _ => by
   by_cases e : k = A
   · subst e
     obtain ⟨c, f, h1⟩ := ht
     exact Or.inr ⟨hN, _, h1, by simp [kind]⟩
   · exact Or.inl (Below.heap_setCell _ _ _ _ e)⟩
theorem Chg.maps {N : Nat} {w w' : World} {A B : Nat} {LA LB : List Bl} (hk : Kept A B w w') (hA : Mp w A LA) (hB : Mp w B LB) (h1 : N ≤ A) (h2 : N ≤ B) : Chg [none] N w w' :=
 ⟨hk.os, hk.tape, hk.output, hk.size, fun k hl => by
   by_cases e : k = A
   · subst e
     obtain ⟨⟨es, clock, e1, _⟩, _, _⟩ := hA
     exact Or.inr ⟨h1, _, e1, by simp [kind]⟩
   · by_cases e' : k = B
     · subst e'
       obtain ⟨⟨es, clock, e1, _⟩, _, _⟩ := hB
       exact Or.inr ⟨h2, _, e1, by simp [kind]⟩
     · exact Or.inl (hk.block k hl e e')⟩
theorem dz_chg {ts : List (Option TypeId)} {N : Nat} {w w' : World} {z : Nat} {mn lw hi : Int} {k : Nat} {nb fm tm : Nat → Nat} {nd : Nat → Nd} {fr : Nat → List Nat} (h : DZ w z mn lw hi k nb fm tm nd fr) (hc : Chg ts N w w') (h0 : none ∉ ts) (h1 : ∀ t ∈ ([106, 107, 22, 3, 188] : List TypeId), some t ∉ ts) : DZ w' z mn lw hi k nb fm tm nd fr := by
 have hs := hc.toSame h1
 have hl := h.lt
 have hz := fun j => cell_same hs (by simp) h.tz j
 obtain ⟨g, c, e1, o1⟩ := h.cn
 obtain ⟨g2, c2, rows, e2, o2, r2⟩ := h.cf
 refine ⟨(hz 0).trans h.m0, (hz 1).trans h.m1, (hz 2).trans h.m2, ⟨g, c, (hz 3).trans e1, own_same o1 hs (by simp)⟩, ⟨g2, c2, rows, (hz 4).trans e2, own_same o2 hs (by simp), fun i hi => ?_⟩, Nat.lt_of_lt_of_le hl hc.size, fun i hi => ?_, h.ok, h.ne, h.fl, tag_same hs (by simp) h.tz, fun i hi => tag_same hs (by simp) (h.tb i hi)⟩
 · obtain ⟨h', d, e3, o3⟩ := r2 i hi
   exact ⟨h', d, e3, own_same o3 hs (by simp)⟩
 · have hb := h.bd i hi
   exact hb.blk hc.size (hs _ 188 (by simp) (h.tb i hi)) (hc.mp h0 hb.f) (hc.mp h0 hb.t)
theorem Chg.ly {ts : List (Option TypeId)} {N N0 : Nat} {w w' : World} {c : Nat} {ly : Ly} (h : Chg ts N w w') (hn : none ∉ ts) (hy : LY N0 w c ly) : w'.heap[ly.1]? = w.heap[ly.1]? := by
 rcases h.blk _ hy.lt with e | ⟨_, o, h1, h4⟩
 · exact e
 · rw [hy.lm] at h1
   rw [← Option.some.inj h1, hy.lk] at h4
   exact absurd h4 hn
end Sb
end Go.Proofs.YtfefehkapffljaaGreatDoor
