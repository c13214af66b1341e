/- E1 · E2 · E3 · E4. -/
import Derived.Test.YtfefehkapffljaaGreatDoorCC
import Derived.Test.YtfefehkapffljaaGreatDoorMJ
import Derived.Laws.AppendOwnNone
namespace Go.Proofs.YtfefehkapffljaaGreatDoor
open Go.RowKit Go.Maps
namespace Rd
open Fr Bd Zn Dz Sb Mg
def OS (U : Nat → Prop) (w : World) (v : Value) (xs : List Bl) : Prop := (v = .slice none 0 0 ∧ xs = []) ∨ ∃ b cp, v = .slice (some ⟨b, 0, none⟩) xs.length cp ∧ xs.length ≤ cp ∧ cp ≤ maxLen ∧ U b ∧ b < w.heap.size ∧ ∀ j u, (flat xs)[j]? = some u → w.cell? ⟨b, j, none⟩ = some u
section
variable {U V : Nat → Prop} {w w' : World} {v : Value} {xs : List Bl}
theorem OS.keep (h : OS U w v xs) (hb : ∀ k, U k → w'.heap[k]? = w.heap[k]?) (hz : w.heap.size ≤ w'.heap.size) (hv : ∀ k, U k → V k) : OS V w' v xs := by
 rcases h with h | ⟨b, cp, h1, h2, h3, h4, h5, h6⟩
 · exact Or.inl h
 · exact Or.inr ⟨b, cp, h1, h2, h3, hv b h4, Nat.lt_of_lt_of_le h5 hz, fun j u hu => (World.cell?_of_block (w := w) (a := ⟨b, j, none⟩) (hb b h4)).trans (h6 j u hu)⟩
theorem OS.b (h : OS U w v xs) (hb : Below w.heap.size w w') : OS U w' v xs := by
 rcases h with h | ⟨b, cp, h1, h2, h3, h4, h5, h6⟩
 · exact Or.inl h
 · exact Or.inr ⟨b, cp, h1, h2, h3, h4, Nat.lt_of_lt_of_le h5 hb.size, fun j u hu => (hb.cell (p := ⟨b, j, none⟩) h5).trans (h6 j u hu)⟩
theorem OS.own {B k : Nat} (h : w.ownsRow B 42 2 v k (flat xs)) (hk : k = xs.length) (hU : ∀ j, OB v j → U j) : OS U w v xs := by
 subst hk
 rcases id h.2 with ⟨h1, h2⟩ | ⟨g, cap, cur, rfl, hb, hg, hle, hcap, _⟩
 · exact Or.inl ⟨h1, List.length_eq_zero_iff.1 h2⟩
 · refine Or.inr ⟨g, cap, rfl, hle, hcap, hU g rfl, (h.lt g rfl).2, fun j u hu => ?_⟩
   have hj := (List.getElem?_eq_some_iff.1 hu).1
   rw [flat_length] at hj
   exact (h.cellAt j (by omega)).trans hu
theorem OS.len (h : OS U w v xs) : ∃ p cp, v = .slice p xs.length cp ∧ xs.length ≤ cp := by
 rcases h with ⟨h1, h2⟩ | ⟨b, cp, h1, h2, _⟩
 · subst h2; exact ⟨none, 0, h1, Nat.le_refl _⟩
 · exact ⟨_, cp, h1, h2⟩
theorem OS.last {o : Bl} (h : OS U w v (xs ++ [o])) : ∃ b cp, v = .slice (some ⟨b, 0, none⟩) (xs.length + 1) cp ∧ xs.length < cp ∧ U b ∧ b < w.heap.size ∧ w.cell? ⟨b, xs.length * 2, none⟩ = some (.int .i64 o.1) ∧ w.cell? ⟨b, xs.length * 2 + 1, none⟩ = some (.int .i64 o.2) ∧ OS U w (.slice (some ⟨b, 0, none⟩) xs.length cp) xs := by
 rcases h with ⟨_, h⟩ | ⟨b, cp, h1, h2, h3, h4, h5, h6⟩
 · exact absurd h (by simp)
 · have e : flat (xs ++ [o]) = flat xs ++ [.int .i64 o.1, .int .i64 o.2] := flat_snoc xs o
   have hl := flat_length xs
   simp only [List.length_append, List.length_singleton] at h1 h2
   refine ⟨b, cp, h1, by omega, h4, h5, ?_, ?_, Or.inr ⟨b, cp, rfl, by omega, h3, h4, h5, fun j u hu => h6 j u ?_⟩⟩
   · refine h6 _ _ ?_
     rw [e, List.getElem?_append_right (by omega)]
     simp [hl]
   · refine h6 _ _ ?_
     rw [e, List.getElem?_append_right (by omega), show xs.length * 2 + 1 - (flat xs).length = 1 from by omega]
     simp
   · rw [e, List.getElem?_append_left (List.getElem?_eq_some_iff.1 hu).1]
     exact hu
end
def PV (U : Nat → Prop) (w : World) (v : Value) (P : List (List Bl)) : Prop := (v = .slice none 0 0 ∧ P = []) ∨ ∃ b cp, v = .slice (some ⟨b, 0, none⟩) P.length cp ∧ P.length ≤ cp ∧ cp ≤ maxLen ∧ Tag w b 45 ∧ ∀ i xs, P[i]? = some xs → ∃ u, w.cell? ⟨b, i, none⟩ = some u ∧ OS U w u xs
structure RD (N1 : Nat) (U : Nat → Prop) (w : World) (rd rc hb : Nat) (H : List (List Bl × List Bl)) (P : List (List Bl)) : Prop where
 c0 : w.cell? ⟨rd, 0, none⟩ = some (ptr rc)
 c1 : ∃ cp, w.cell? ⟨rd, 1, none⟩ = some (.slice (some ⟨hb, 0, none⟩) H.length cp)
 c2 : ∃ v, w.cell? ⟨rd, 2, none⟩ = some v ∧ PV U w v P
 hd : ∀ (i : Nat) (a b : List Bl), H[i]? = some (a, b) → ∃ v1 v2, w.cell? ⟨hb, i * 2, none⟩ = some v1 ∧ w.cell? ⟨hb, i * 2 + 1, none⟩ = some v2 ∧ OS U w v1 a ∧ OS U w v2 b
 tg : Tag w rd 101
 th : Tag w hb 179
 ge : N1 ≤ rd
 gh : N1 ≤ hb
 fd : ∀ o, w.frozen? ⟨rd, o, none⟩ = false
 fh : ∀ o, w.frozen? ⟨hb, o, none⟩ = false
section
variable {N1 : Nat} {U V : Nat → Prop} {w w' : World} {rd rc hb : Nat} {H : List (List Bl × List Bl)} {P : List (List Bl)} {v : Value}
theorem PV.keep (h : PV U w v P) (hb : ∀ k, U k → w'.heap[k]? = w.heap[k]?) (hs : Sb.Same [45] w w') (hz : w.heap.size ≤ w'.heap.size) (hv : ∀ k, U k → V k) : PV V w' v P := by
 rcases h with h | ⟨b, cp, h1, h2, h3, h4, h5⟩
 · exact Or.inl h
 · refine Or.inr ⟨b, cp, h1, h2, h3, tag_same hs (by simp) h4, fun i xs hi => ?_⟩
   obtain ⟨u, e1, e2⟩ := h5 i xs hi
   exact ⟨u, (cell_same hs (by simp) h4 i).trans e1, e2.keep hb hz hv⟩
theorem RD.keep (h : RD N1 U w rd rc hb H P) (hk : ∀ k, U k → w'.heap[k]? = w.heap[k]?) (hs : Sb.Same [101, 179, 45] w w') (hz : w.heap.size ≤ w'.heap.size) (hv : ∀ k, U k → V k) : RD N1 V w' rd rc hb H P := by
 have hc := fun j => cell_same hs (by simp) h.tg j
 have hh := fun j => cell_same hs (by simp) h.th j
 obtain ⟨cp, e1⟩ := h.c1
 obtain ⟨v, e2, e3⟩ := h.c2
 refine ⟨(hc 0).trans h.c0, ⟨cp, (hc 1).trans e1⟩, ⟨v, (hc 2).trans e2, e3.keep hk (fun b t hm ht => hs b t (by simp at hm; simp [hm]) ht) hz hv⟩, fun i a b hi => ?_, tag_same hs (by simp) h.tg, tag_same hs (by simp) h.th, h.ge, h.gh, fun o => (World.frozen?_of_block (w := w) (a := ⟨rd, o, none⟩) (hs rd 101 (by simp) h.tg)).trans (h.fd o), fun o => (World.frozen?_of_block (w := w) (a := ⟨hb, o, none⟩) (hs hb 179 (by simp) h.th)).trans (h.fh o)⟩
 obtain ⟨v1, v2, x1, x2, x3, x4⟩ := h.hd i a b hi
 exact ⟨v1, v2, (hh _).trans x1, (hh _).trans x2, x3.keep hk hz hv, x4.keep hk hz hv⟩
theorem RD.b (h : RD N1 U w rd rc hb H P) (hU : ∀ k, U k → Tag w k 42) (hb' : Below w.heap.size w w') : RD N1 U w' rd rc hb H P := h.keep (fun k hk => hb'.block k (hU k hk).lt) (same_below hb') hb'.size (fun _ h => h)
theorem RD.uk (h : RD N1 U w rd rc hb H P) (hu : UK U w w') : RD N1 U w' rd rc hb H P := h.keep hu.u (fun b t hm ht => hu.s b t (by simp at hm; rcases hm with rfl | rfl | rfl <;> simp) ht) hu.z (fun _ h => h)
theorem RD.chg (h : RD N1 U w rd rc hb H P) (hU : ∀ k, U k → Tag w k 42) {ts : List (Option TypeId)} {N : Nat} (hc : Chg ts N w w') (hn : ∀ t ∈ ([101, 179, 45, 42] : List TypeId), some t ∉ ts) : RD N1 U w' rd rc hb H P :=
 h.keep (fun k hk => hc.same (hU k hk) (hn 42 (by simp))) (hc.toSame (fun t ht => hn t (by simp at ht; rcases ht with rfl | rfl | rfl <;> simp))) hc.size (fun _ h => h)
theorem RD.put (h : RD N1 U w rd rc hb H P) (hU : ∀ k, U k → Tag w k 42) {i : Nat} (hi : i < H.length) {v1 v2 : Value} {a b : List Bl} (h1 : OS U w v1 a) (h2 : OS U w v2 b) : RD N1 U ((w.setCell ⟨hb, i * 2, none⟩ v1).setCell ⟨hb, i * 2 + 1, none⟩ v2) rd rc hb (H.set i (a, b)) P ∧ Chg [some 179] N1 w ((w.setCell ⟨hb, i * 2, none⟩ v1).setCell ⟨hb, i * 2 + 1, none⟩ v2) := by
 have hc1 : Chg [some 179] N1 w (w.setCell ⟨hb, i * 2, none⟩ v1) := Chg.set h.th h.gh _ _
 have hc : Chg [some 179] N1 w ((w.setCell ⟨hb, i * 2, none⟩ v1).setCell ⟨hb, i * 2 + 1, none⟩ v2) := hc1.trans (Chg.set (h.th.set _ _) h.gh _ _)
 have hk : ∀ k, U k → ((w.setCell ⟨hb, i * 2, none⟩ v1).setCell ⟨hb, i * 2 + 1, none⟩ v2).heap[k]? = w.heap[k]? := fun k hk => hc.same (hU k hk) (by decide)
 have hs : Sb.Same [101, 45] w ((w.setCell ⟨hb, i * 2, none⟩ v1).setCell ⟨hb, i * 2 + 1, none⟩ v2) := hc.toSame (by decide)
 have hcl := fun j => cell_same hs (by simp) h.tg j
 obtain ⟨cp, e1⟩ := h.c1
 obtain ⟨v, e2, e3⟩ := h.c2
 obtain ⟨a0, b0, e0⟩ : ∃ a0 b0, H[i]? = some (a0, b0) := ⟨_, _, List.getElem?_eq_getElem hi⟩
 obtain ⟨u1, u2, y1, y2, _, _⟩ := h.hd i a0 b0 e0
 refine ⟨⟨(hcl 0).trans h.c0, ⟨cp, by rw [List.length_set]; exact (hcl 1).trans e1⟩, ⟨v, (hcl 2).trans e2, e3.keep hk (hc.toSame (by decide)) hc.size (fun _ h => h)⟩, fun j a' b' hj => ?_, (h.tg.blk (hs rd 101 (by simp) h.tg)), (h.th.set _ _).set _ _, h.ge, h.gh, fun o => (World.frozen?_of_block (w := w) (a := ⟨rd, o, none⟩) (hs rd 101 (by simp) h.tg)).trans (h.fd o), fun o => by rw [World.frozen?_setCell, World.frozen?_setCell]; exact h.fh o⟩, hc⟩
 by_cases e : j = i
 · subst e
   rw [List.getElem?_set_self hi] at hj
   cases hj
   exact ⟨v1, v2, (cso (by simp)).trans (css y1), css ((cso (by simp)).trans y2), h1.keep hk hc.size (fun _ h => h), h2.keep hk hc.size (fun _ h => h)⟩
 · rw [List.getElem?_set_ne (Ne.symm e)] at hj
   obtain ⟨z1, z2, x1, x2, x3, x4⟩ := h.hd j a' b' hj
   exact ⟨z1, z2, (cso (by simp <;> omega)).trans ((cso (by simp <;> omega)).trans x1), (cso (by simp <;> omega)).trans ((cso (by simp <;> omega)).trans x2), x3.keep hk hc.size (fun _ h => h), x4.keep hk hc.size (fun _ h => h)⟩
theorem RD.piled (h : RD N1 U w rd rc hb H P) (hU : ∀ k, U k → Tag w k 42) {v' : Value} {P' : List (List Bl)} (hp : PV U w v' P') : RD N1 U (w.setCell ⟨rd, 2, none⟩ v') rd rc hb H P' ∧ Chg [some 101] N1 w (w.setCell ⟨rd, 2, none⟩ v') := by
 have hc : Chg [some 101] N1 w (w.setCell ⟨rd, 2, none⟩ v') := Chg.set h.tg h.ge _ _
 have hk : ∀ k, U k → (w.setCell ⟨rd, 2, none⟩ v').heap[k]? = w.heap[k]? := fun k hk => hc.same (hU k hk) (by decide)
 have hs : Sb.Same [179] w (w.setCell ⟨rd, 2, none⟩ v') := hc.toSame (by decide)
 have hh := fun j => cell_same hs (by simp) h.th j
 obtain ⟨cp, e1⟩ := h.c1
 obtain ⟨v, e2, e3⟩ := h.c2
 refine ⟨⟨(cso (by simp)).trans h.c0, ⟨cp, (cso (by simp)).trans e1⟩, ⟨v', css e2, hp.keep hk (hc.toSame (by decide)) hc.size (fun _ h => h)⟩, fun i a b hi => ?_, h.tg.set _ _, h.th.blk (hs hb 179 (by simp) h.th), h.ge, h.gh, fun o => by rw [World.frozen?_setCell]; exact h.fd o, fun o => (World.frozen?_of_block (w := w) (a := ⟨hb, o, none⟩) (hs hb 179 (by simp) h.th)).trans (h.fh o)⟩, hc⟩
 obtain ⟨v1, v2, x1, x2, x3, x4⟩ := h.hd i a b hi
 exact ⟨v1, v2, (hh _).trans x1, (hh _).trans x2, x3.keep hk hc.size (fun _ h => h), x4.keep hk hc.size (fun _ h => h)⟩
end
end Rd
end Go.Proofs.YtfefehkapffljaaGreatDoor
namespace Go.Proofs.YtfefehkapffljaaGreatDoor
open Go.RowKit Go.Maps
namespace Rd
open Fr Bd Zn Dz Sb Mg
section
variable {N1 : Nat} {U V : Nat → Prop} {w w' : World} {rd rc hb : Nat} {H : List (List Bl × List Bl)} {P : List (List Bl)} {v : Value}
set_option maxRecDepth 100000 in
theorem isw_yes (h : RD N1 U w rd rc hb H P) {i : Nat} (hi : i < H.length) :
   Calls Tryz.prog 42 #[.pointer (some ⟨rd, 0, none⟩), .int .i64 (i : Int)] w fun ev w' => ev = .returned (.bool true) ∧ w' = w := by
 obtain ⟨cp, e1⟩ := h.c1
 have d1 : decide ((i : Int) ≥ 0) = true := by simp
 have d2 : decide ((i : Int) < H.length) = true := by simp; omega
 have d0 : (0 : Int) ≤ i := by omega
 have d3 : (i : Int) < H.length := by omega
 clear h
 go_enter Tryz.func42, Tryz.ntmps42
 go_wp2
 go_ret
 exact ⟨rfl, rfl⟩
set_option maxRecDepth 100000 in
theorem isw_no (h : RD N1 U w rd rc hb H P) {x : Int} (hx : x < 0 ∨ (H.length : Int) ≤ x) :
   Calls Tryz.prog 42 #[.pointer (some ⟨rd, 0, none⟩), .int .i64 x] w fun ev w' => ev = .returned (.bool false) ∧ w' = w := by
 obtain ⟨cp, e1⟩ := h.c1
 clear h
 by_cases h0 : x < 0
 · have d1 : decide (x ≥ 0) = false := by simp; omega
   go_enter Tryz.func42, Tryz.ntmps42
   go_wp2
   go_ret
   exact ⟨rfl, rfl⟩
 · have d0 : 0 ≤ x := by omega
   have d1 : decide (x ≥ 0) = true := by simp; omega
   have d2 : decide (x < (H.length : Int)) = false := by simp; omega
   have d3 : ¬ x < (H.length : Int) := by omega
   go_enter Tryz.func42, Tryz.ntmps42
   go_wp2
   go_ret
   exact ⟨rfl, rfl⟩
structure B2 (w : World) (p : Nat) (u v : Value) : Prop where
 c0 : w.cell? ⟨p, 0, none⟩ = some u
 c1 : w.cell? ⟨p, 1, none⟩ = some v
 fz : ∀ o, w.frozen? ⟨p, o, none⟩ = false
 lt : p < w.heap.size
theorem B2.new (w : World) (u v : Value) (t : TypeId) : B2 (w.alloc (.cells #[u, v] t)) w.heap.size u v := by
 have q := World.cell?_alloc_new w #[u, v] t
 exact ⟨q 0, q 1, fun o => World.frozen?_alloc_at _ _ w.heap.size o rfl, by simp⟩
theorem B2.b {p : Nat} {u v : Value} (h : B2 w p u v) (hb : Below w.heap.size w w') : B2 w' p u v := ⟨(hb.cell (p := ⟨p, 0, none⟩) h.lt).trans h.c0, (hb.cell (p := ⟨p, 1, none⟩) h.lt).trans h.c1, fun o => (hb.frozen (p := ⟨p, o, none⟩) h.lt).trans (h.fz o), Nat.lt_of_lt_of_le h.lt hb.size⟩
theorem B2.set0 {p : Nat} {u v : Value} (h : B2 w p u v) (u' : Value) : B2 (w.setCell ⟨p, 0, none⟩ u') p u' v := ⟨css h.c0, (cso (by simp)).trans h.c1, fun o => by rw [World.frozen?_setCell]; exact h.fz o, by simpa [World.setCell] using h.lt⟩
theorem B2.set1 {p : Nat} {u v : Value} (h : B2 w p u v) (v' : Value) : B2 (w.setCell ⟨p, 1, none⟩ v') p u v' := ⟨(cso (by simp)).trans h.c0, css h.c1, fun o => by rw [World.frozen?_setCell]; exact h.fz o, by simpa [World.setCell] using h.lt⟩
theorem B2.off {p : Nat} {u v : Value} (h : B2 w p u v) {a : Addr} (hne : a.block ≠ p) (x : Value) : B2 (w.setCell a x) p u v := ⟨(cso (fun e => hne (by rw [e]))).trans h.c0, (cso (fun e => hne (by rw [e]))).trans h.c1, fun o => by rw [World.frozen?_setCell]; exact h.fz o, by simpa [World.setCell] using h.lt⟩
theorem RD.boxw (h : RD N1 U w rd rc hb H P) {p : Nat} {t : TypeId} (hp : Tag w p t) (ht : t ≠ 45) (h1 : p ≠ rd) (h2 : p ≠ hb) (h3 : ¬ U p) (o : Nat) (x : Value) : RD N1 U (w.setCell ⟨p, o, none⟩ x) rd rc hb H P := by
 have hk : ∀ k, U k → (w.setCell ⟨p, o, none⟩ x).heap[k]? = w.heap[k]? := fun k hk => Below.heap_setCell _ _ _ _ (fun e => h3 (by simp only at e; rw [← e]; exact hk))
 have hz : w.heap.size ≤ (w.setCell ⟨p, o, none⟩ x).heap.size := by simp [World.setCell]
 have hs : Sb.Same [45] w (w.setCell ⟨p, o, none⟩ x) := fun b t' hm hb' => Below.heap_setCell _ _ _ _ (fun e => by
   simp only at e
   simp only [List.mem_cons, List.not_mem_nil, or_false] at hm
   rw [hm, e] at hb'
   exact hb'.ne hp (Ne.symm ht) rfl)
 have hr : (w.setCell ⟨p, o, none⟩ x).heap[rd]? = w.heap[rd]? := Below.heap_setCell _ _ _ _ (fun e => h1 e.symm)
 have hh : (w.setCell ⟨p, o, none⟩ x).heap[hb]? = w.heap[hb]? := Below.heap_setCell _ _ _ _ (fun e => h2 e.symm)
 have cr := fun j => World.cell?_of_block (w := w) (a := ⟨rd, j, none⟩) hr
 have ch := fun j => World.cell?_of_block (w := w) (a := ⟨hb, j, none⟩) hh
 obtain ⟨cp, e1⟩ := h.c1
 obtain ⟨v, e2, e3⟩ := h.c2
 refine ⟨(cr 0).trans h.c0, ⟨cp, (cr 1).trans e1⟩, ⟨v, (cr 2).trans e2, e3.keep hk hs hz (fun _ h => h)⟩, fun i a b hi => ?_, h.tg.blk hr, h.th.blk hh, h.ge, h.gh, fun j => (World.frozen?_of_block (w := w) (a := ⟨rd, j, none⟩) hr).trans (h.fd j), fun j => (World.frozen?_of_block (w := w) (a := ⟨hb, j, none⟩) hh).trans (h.fh j)⟩
 obtain ⟨v1, v2, x1, x2, x3, x4⟩ := h.hd i a b hi
 exact ⟨v1, v2, (ch _).trans x1, (ch _).trans x2, x3.keep hk hz (fun _ h => h), x4.keep hk hz (fun _ h => h)⟩
structure TW (N1 : Nat) (U : Nat → Prop) (w : World) (rd rc hb : Nat) (x0 y0 : Int) (H : List (List Bl × List Bl)) (P : List (List Bl)) (p r : Nat) (v1 v2 : Value) (W : World) : Prop where
 d : RD N1 U W rd rc hb H P
 ch : Chg [some 101, some 179] N1 w W
 bx : B2 W p v1 v2
 tp : Tag W p 179
 gp : w.heap.size ≤ p
 rx : Rx W r (.int .i64 x0) (.int .i64 y0)
 gr : w.heap.size ≤ r
 lr : rd < w.heap.size ∧ hb < w.heap.size
 hu : ∀ k, U k → Tag w k 42
variable {p r : Nat} {v1 v2 : Value} {W W' : World} {x0 y0 : Int}
theorem TW.u (h : TW N1 U w rd rc hb x0 y0 H P p r v1 v2 W) : ∀ k, U k → Tag W k 42 := fun k hk => (h.hu k hk).blk (h.ch.same (h.hu k hk) (by decide))
theorem TW.ne (h : TW N1 U w rd rc hb x0 y0 H P p r v1 v2 W) : p ≠ r := h.tp.ne h.rx.tg (by decide)
theorem TW.b (h : TW N1 U w rd rc hb x0 y0 H P p r v1 v2 W) (hb' : Below W.heap.size W W') : TW N1 U w rd rc hb x0 y0 H P p r v1 v2 W' := ⟨h.d.b h.u hb', h.ch.trans (Chg.below hb'), h.bx.b hb', h.tp.b hb', h.gp, h.rx.b hb', h.gr, h.lr, h.hu⟩
theorem TW.np (h : TW N1 U w rd rc hb x0 y0 H P p r v1 v2 W) : p ≠ rd ∧ p ≠ hb ∧ ¬ U p := ⟨fun e => by have := h.lr; have := h.gp; omega, fun e => by have := h.lr; have := h.gp; omega, fun hU => by have := (h.hu p hU).lt; have := h.gp; omega⟩
theorem TW.set0 (h : TW N1 U w rd rc hb x0 y0 H P p r v1 v2 W) (v : Value) : TW N1 U w rd rc hb x0 y0 H P p r v v2 (W.setCell ⟨p, 0, none⟩ v) :=
 ⟨h.d.boxw h.tp (by decide) h.np.1 h.np.2.1 h.np.2.2 _ _, h.ch.fresh h.gp _ _, h.bx.set0 v, h.tp.set _ _, h.gp, h.rx.blk (Below.heap_setCell _ _ _ _ (fun e => h.ne e.symm)), h.gr, h.lr, h.hu⟩
theorem TW.set1 (h : TW N1 U w rd rc hb x0 y0 H P p r v1 v2 W) (v : Value) : TW N1 U w rd rc hb x0 y0 H P p r v1 v (W.setCell ⟨p, 1, none⟩ v) :=
 ⟨h.d.boxw h.tp (by decide) h.np.1 h.np.2.1 h.np.2.2 _ _, h.ch.fresh h.gp _ _, h.bx.set1 v, h.tp.set _ _, h.gp, h.rx.blk (Below.heap_setCell _ _ _ _ (fun e => h.ne e.symm)), h.gr, h.lr, h.hu⟩
theorem TW.pile (h : TW N1 U w rd rc hb x0 y0 H P p r v1 v2 W) {v' : Value} {P' : List (List Bl)} (hp : PV U W v' P') : TW N1 U w rd rc hb x0 y0 H P' p r v1 v2 (W.setCell ⟨rd, 2, none⟩ v') := by
 obtain ⟨h1, h2⟩ := h.d.piled h.u hp
 exact ⟨h1, h.ch.trans (h2.mono (by decide) (Nat.le_refl _)), h.bx.off (fun e => h.np.1 e.symm) _, h.tp.set _ _, h.gp, h.rx.blk (Below.heap_setCell _ _ _ _ (fun e => by have := h.lr; have := h.gr; simp only at e; omega)), h.gr, h.lr, h.hu⟩
theorem TW.hand (h : TW N1 U w rd rc hb x0 y0 H P p r v1 v2 W) {i : Nat} (hi : i < H.length) {a b : List Bl} (h1 : OS U W v1 a) (h2 : OS U W v2 b) : TW N1 U w rd rc hb x0 y0 (H.set i (a, b)) P p r v1 v2 ((W.setCell ⟨hb, i * 2, none⟩ v1).setCell ⟨hb, i * 2 + 1, none⟩ v2) := by
 obtain ⟨h3, h4⟩ := h.d.put h.u hi h1 h2
 have hr : hb ≠ r := fun e => by have := h.lr; have := h.gr; omega
 exact ⟨h3, h.ch.trans (h4.mono (by decide) (Nat.le_refl _)), (h.bx.off (fun e => h.np.2.1 e.symm) _).off (fun e => h.np.2.1 e.symm) _, (h.tp.set _ _).set _ _, h.gp, h.rx.blk ((Below.heap_setCell _ _ _ _ (fun e => hr e.symm)).trans (Below.heap_setCell _ _ _ _ (fun e => hr e.symm))), h.gr, h.lr, h.hu⟩
theorem TW.os {H' : List (List Bl × List Bl)} {P' : List (List Bl)} {v3 v4 : Value} (h : TW N1 U w rd rc hb x0 y0 H P p r v1 v2 W) (h' : TW N1 U w rd rc hb x0 y0 H' P' p r v3 v4 W') {xs : List Bl} (ho : OS U W v xs) : OS U W' v xs := by
 rcases ho with ho | ⟨b, cp, x1, x2, x3, x4, x5, x6⟩
 · exact Or.inl ho
 · exact Or.inr ⟨b, cp, x1, x2, x3, x4, (h'.u b x4).lt, fun j u hu => (World.cell?_of_block (w := W) (a := ⟨b, j, none⟩) ((h'.ch.same (h.hu b x4) (by decide)).trans (h.ch.same (h.hu b x4) (by decide)).symm)).trans (x6 j u hu)⟩
theorem TW.res (h : TW N1 U w rd rc hb x0 y0 H P p r v1 v2 W) (x y : Value) : RD N1 U ((W.setCell ⟨r, 0, none⟩ x).setCell ⟨r, 1, none⟩ y) rd rc hb H P ∧ Chg [some 101, some 179] N1 w ((W.setCell ⟨r, 0, none⟩ x).setCell ⟨r, 1, none⟩ y) := by
 have n1 : r ≠ rd := fun e => by have := h.lr; have := h.gr; omega
 have n2 : r ≠ hb := fun e => by have := h.lr; have := h.gr; omega
 have n3 : ¬ U r := fun hU => by have := (h.hu r hU).lt; have := h.gr; omega
 exact ⟨(h.d.boxw h.rx.tg (by decide) n1 n2 n3 _ _).boxw (h.rx.tg.set _ _) (by decide) n1 n2 n3 _ _, (h.ch.fresh h.gr _ _).fresh h.gr _ _⟩
inductive LdH (a b : List Bl) : List (List Bl) → List Bl → List Bl → List (List Bl) → Prop
 | keep (P : List (List Bl)) (h : a ≠ []) : LdH a b P a b P
 | swap (P : List (List Bl)) (h : a = []) (h2 : b ≠ []) : LdH a b P b a P
 | pile (P : List (List Bl)) (t : List Bl) (h : a = []) (h2 : b = []) : LdH a b (P ++ [t]) t b P
theorem PV.top {t : List Bl} (h : PV U w v (P ++ [t])) : ∃ b cp u, v = .slice (some ⟨b, 0, none⟩) (P.length + 1) cp ∧ P.length < cp ∧ w.cell? ⟨b, P.length, none⟩ = some u ∧ OS U w u t ∧ PV U w (.slice (some ⟨b, 0, none⟩) P.length cp) P := by
 rcases h with ⟨_, h⟩ | ⟨b, cp, h1, h2, h3, h4, h5⟩
 · exact absurd h (by simp)
 · simp only [List.length_append, List.length_singleton] at h1 h2
   obtain ⟨u, e1, e2⟩ := h5 P.length t (by simp)
   refine ⟨b, cp, u, h1, by omega, e1, e2, Or.inr ⟨b, cp, rfl, by omega, h3, h4, fun i xs hi => h5 i xs ?_⟩⟩
   rw [List.getElem?_append_left (List.getElem?_eq_some_iff.1 hi).1]
   exact hi
end
end Rd
end Go.Proofs.YtfefehkapffljaaGreatDoor
namespace Go.Proofs.YtfefehkapffljaaGreatDoor
open Go.RowKit Go.Maps
namespace Rd
open Fr Bd Zn Dz Sb Mg
section
variable {N1 : Nat} {U V : Nat → Prop} {w w' : World} {rd rc hb : Nat} {H : List (List Bl × List Bl)} {P : List (List Bl)} {v : Value}
set_option maxRecDepth 100000 in
set_option maxHeartbeats 16000000 in
theorem rdtake_lift (h : RD N1 U w rd rc hb H P) (hU : ∀ k, U k → Tag w k 42) {i : Nat} {a b a' b' : List Bl} {P' : List (List Bl)} (hi : H[i]? = some (a, b)) (hl : LdH a b P a' b' P') {xs : List Bl} {oN oA : Int} (ha : a' = xs ++ [(oN, oA)]) (hm : xs.length ≤ 100) (hp : P.length ≤ 1000000) (y : Int) (u : Bool) :
   Calls Tryz.prog 40 #[.pointer (some ⟨rd, 0, none⟩), .int .i64 (i : Int), .int .i64 y, .bool u] w fun ev w' => ev = .returned (.tuple #[.agg #[.int .i64 oN, .int .i64 oA], .int .i64 0]) ∧ RD N1 U w' rd rc hb (H.set i (xs, b')) P' ∧ Chg [some 101, some 179] N1 w w' := by
 have hil : i < H.length := (List.getElem?_eq_some_iff.1 hi).1
 have F1 := ballo (Below.refl w.heap.size w) (.cells #[.int .i64 0, .int .i64 0] 42)
 have R1 := rx_new w
 have D1 := h.b hU F1
 have HW := hide (isw_yes D1 hil)
 obtain ⟨cp, e1⟩ := D1.c1
 obtain ⟨va, vb, x1, x2, x3, x4⟩ := D1.hd i a b hi
 have hd0 : (0 : Int) ≤ i := by omega
 have hd1 : (i : Int) < H.length := by omega
 have F2 : Below w.heap.size w ((w.alloc (.cells #[.int .i64 0, .int .i64 0] 42)).alloc (.cells #[va, vb] 179)) := ballo F1 _
 have b2 := ballo (Below.refl (w.alloc (.cells #[.int .i64 0, .int .i64 0] 42)).heap.size (w.alloc (.cells #[.int .i64 0, .int .i64 0] 42))) (.cells #[va, vb] 179)
 have hs1 : (w.alloc (.cells #[.int .i64 0, .int .i64 0] 42)).heap.size = w.heap.size + 1 := by simp
 have T2 : Hid (TW N1 U w rd rc hb 0 0 H P (w.heap.size + 1) w.heap.size va vb ((w.alloc (.cells #[.int .i64 0, .int .i64 0] 42)).alloc (.cells #[va, vb] 179))) :=
   ⟨h.b hU F2, Chg.below F2, by rw [← hs1]; exact B2.new _ va vb 179, by rw [← hs1]; exact tag_new _ _ _, by omega, R1.b b2, Nat.le_refl _, ⟨h.tg.lt, h.th.lt⟩, hU⟩
 have X3 := hide (x3.b b2)
 have X4 := hide (x4.b b2)
 obtain ⟨pa, ca, rfl, _⟩ := x3.len
 obtain ⟨pb, cb, rfl, _⟩ := x4.len
 clear h F1 R1 D1 x3 x4 F2 b2
 go_enter Tryz.func40, Tryz.ntmps40
 go_upto_region 1 with (fail)
 generalize w.alloc (.cells #[.int .i64 0, .int .i64 0] 42) = W1 at *
 go_wp2_with fail
 refine (unhide HW).mono ?_
 rintro ev w1 ⟨rfl, rfl⟩
 go_upto_region 5 with (fail)
 generalize w1.alloc (.cells #[.slice pa a.length ca, .slice pb b.length cb] 179) = W2 at *
 clear HW x1 x2 e1 hs1
 generalize w.heap.size + 1 = q2 at *
 have key : ∃ (bo co : Nat) (v2 : Value), OS U W2 v2 b' ∧ xs.length < co ∧ OS U W2 (.slice (some ⟨bo, 0, none⟩) (xs.length + 1) co) (xs ++ [(oN, oA)]) ∧ ((a ≠ [] ∧ P' = P ∧ Value.slice pa a.length ca = .slice (some ⟨bo, 0, none⟩) (xs.length + 1) co ∧ v2 = .slice pb b.length cb) ∨ (a = [] ∧ b ≠ [] ∧ P' = P ∧ Value.slice pb b.length cb = .slice (some ⟨bo, 0, none⟩) (xs.length + 1) co ∧ v2 = .slice pa a.length ca) ∨ (a = [] ∧ b = [] ∧ v2 = .slice pb b.length cb ∧ ∃ bp cq, W2.cell? ⟨rd, 2, none⟩ = some (.slice (some ⟨bp, 0, none⟩) (P'.length + 1) cq) ∧ P'.length < cq ∧ P'.length ≤ 1000000 ∧ W2.cell? ⟨bp, P'.length, none⟩ = some (.slice (some ⟨bo, 0, none⟩) (xs.length + 1) co) ∧ PV U W2 (.slice (some ⟨bp, 0, none⟩) P'.length cq) P')) := by
   have lem : ∀ (v : Value) (l : List Bl), OS U W2 v l → l = xs ++ [(oN, oA)] → ∃ bo co : Nat, v = .slice (some ⟨bo, 0, none⟩) (xs.length + 1) co ∧ xs.length < co := fun v l h e => by
     subst e
     obtain ⟨bo, co, h1, h2, _⟩ := h.last
     exact ⟨bo, co, h1, h2⟩
   cases hl with
   | keep _ h =>
     obtain ⟨bo, co, h1, h2⟩ := lem _ _ (unhide X3) ha
     refine ⟨bo, co, _, unhide X4, h2, ?_, Or.inl ⟨h, rfl, h1, rfl⟩⟩
     rw [← h1, ← ha]; exact unhide X3
   | swap _ h hb2 =>
     obtain ⟨bo, co, h1, h2⟩ := lem _ _ (unhide X4) ha
     refine ⟨bo, co, _, unhide X3, h2, ?_, Or.inr (Or.inl ⟨h, hb2, rfl, h1, rfl⟩)⟩
     rw [← h1, ← ha]; exact unhide X4
   | pile _ _ h hb2 =>
     obtain ⟨v, e2, e3⟩ := (unhide T2).d.c2
     obtain ⟨bp, cq, u', e4, e5, e6, e7, e8⟩ := e3.top
     subst e4
     obtain ⟨bo, co, h1, h2⟩ := lem _ _ e7 ha
     refine ⟨bo, co, _, unhide X4, h2, ?_, Or.inr (Or.inr ⟨h, hb2, rfl, bp, cq, e2, e5, ?_, ?_, e8⟩)⟩
     · rw [← h1, ← ha]; exact e7
     · rw [List.length_append] at hp; omega
     · rw [e6, h1]
 obtain ⟨bo, co, v2, hv2, hlt, hvo, hcase⟩ := key
 have HV2 := hide hv2
 have HVO := hide hvo
 obtain ⟨bo2, co2, hv0, hlt2, hUb, hbl, g0, g1, hO⟩ := hvo.last
 simp only [Value.slice.injEq, Option.some.injEq, Addr.mk.injEq, and_true, true_and] at hv0
 obtain ⟨rfl, rfl⟩ := hv0
 have HO := hide hO
 simp only at g0 g1
 generalize hk : xs.length = k at *
 have HK := hide hk
 have HI := hide hi
 clear hv2 hvo hO hl X3 X4 hi ha hk
 have hk0 : (0 : Int) ≤ k := by omega
 have hk1 : (k : Int) < ((k + 1 : Nat) : Int) := by omega
 have hk2 : ((k + 1 : Nat) : Int) - 1 = (k : Int) := by omega
 have hk3 : (((k + 1 : Nat) : Int) == 0) = false := by simp; omega
 have hk4 : decide (((k + 1 : Nat) : Int) > 0) = true := by simp <;> omega
 have pre : ∀ W5 : World, True := fun _ => trivial
 rcases hcase with ⟨hae, rfl, hv, rfl⟩ | ⟨rfl, hbe, rfl, hv, rfl⟩ | ⟨rfl, rfl, rfl, bp, cq, e2, e5, e6, e7, e8⟩
 · rw [hv] at T2
   have T5 := T2
   obtain ⟨c0, c1, cf, _⟩ := (unhide T2).bx
   have f0 := cf 0
   clear hv cf
   go_upto_region 13 with (fail)
   clear c0 c1 f0
   obtain ⟨c0, c1, cf, cl⟩ := (unhide T5).bx
   have hO5 := (unhide T2).os (unhide T5) (unhide HVO)
   obtain ⟨b9, c9, hv9, _, _, hb9, g0, g1, hO9⟩ := hO5.last
   rw [unhide HK] at hv9 hO9 g0 g1
   simp only [Value.slice.injEq, Option.some.injEq, Addr.mk.injEq, and_true, true_and] at hv9
   obtain ⟨rfl, rfl⟩ := hv9
   have hV5 := (unhide T2).os (unhide T5) (unhide HV2)
   simp only at g0 g1
   have F6 := ballo (Below.refl W2.heap.size W2) (.cells #[.int .i64 oN, .int .i64 oA] 42)
   have T6 := hide ((unhide T5).b F6)
   have B6 := Mg.Bx.new W2 oN oA
   have O6 := hide (hO9.b F6)
   have V6 := hide (hV5.b F6)
   have hhb : hb < W2.heap.size := (unhide T5).d.th.lt
   have T22 := T2
   clear T2 T5 hO5 hO9 hV5 F6 cf HV2 HVO HO
   go_upto_region 15 with (fail)
   generalize W2.alloc (.cells #[.int .i64 oN, .int .i64 oA] 42) = W6 at *
   generalize W2.heap.size = p6 at *
   clear c0 c1 g0 g1
   obtain ⟨c0, c1, cf, _⟩ := (unhide T6).bx
   have f0 := cf 0
   have T7 := hide ((unhide T6).set0 (.slice (some ⟨bo, 0, none⟩) k co))
   have hne6 : p6 ≠ q2 := by omega
   have B7 : Mg.Bx (W6.setCell ⟨q2, 0, none⟩ (.slice (some ⟨bo, 0, none⟩) k co)) p6 (oN, oA) := B6.blk (Below.heap_setCell _ _ _ _ (by first | exact hne6 | exact hne6.symm))
   have O7 := hide ((unhide T6).os (unhide T7) (unhide O6))
   have V7 := hide ((unhide T6).os (unhide T7) (unhide V6))
   clear B6 O6 V6 cf
   go_upto_region 16 with (fail)
   generalize W6.setCell ⟨q2, 0, none⟩ (.slice (some ⟨bo, 0, none⟩) k co) = W7 at *
   clear c0 c1 f0 T6
   obtain ⟨c0, c1, _, _⟩ := (unhide T7).bx
   obtain ⟨cp7, e7⟩ := (unhide T7).d.c1
   obtain ⟨u1, u2, h71, h72, _, _⟩ := (unhide T7).d.hd i _ _ (unhide HI)
   have fh0 := (unhide T7).d.fh (i * 2)
   have fh1 := (unhide T7).d.fh (i * 2 + 1)
   have nrh : rd ≠ hb := (unhide T7).d.tg.ne (unhide T7).d.th (by decide)
   have nph : p6 ≠ hb := by omega
   have T8 := hide ((unhide T7).hand hil (unhide O7) (unhide V7))
   have K8 : Hid ((((W7.setCell ⟨hb, i * 2, none⟩ (.slice (some ⟨bo, 0, none⟩) k co)).setCell ⟨hb, i * 2 + 1, none⟩ (.slice pb b.length cb))).drew.cell? ⟨rd, 1, none⟩ = some (.slice (some ⟨hb, 0, none⟩) H.length cp7) ∧ (((W7.setCell ⟨hb, i * 2, none⟩ (.slice (some ⟨bo, 0, none⟩) k co)).setCell ⟨hb, i * 2 + 1, none⟩ (.slice pb b.length cb))).drew.cell? ⟨q2, 0, none⟩ = some (.slice (some ⟨bo, 0, none⟩) k co) ∧ (((W7.setCell ⟨hb, i * 2, none⟩ (.slice (some ⟨bo, 0, none⟩) k co)).setCell ⟨hb, i * 2 + 1, none⟩ (.slice pb b.length cb))).drew.cell? ⟨q2, 1, none⟩ = some (.slice pb b.length cb)) := by
     have hbx := (unhide T8).bx.b (drw _)
     exact ⟨(cso (fun e => by injection e with e1; first | exact nrh e1 | exact nrh e1.symm)).trans ((cso (fun e => by injection e with e1; first | exact nrh e1 | exact nrh e1.symm)).trans e7), hbx.c0, hbx.c1⟩
   have HB8 := hide ((B7.blk ((Below.heap_setCell _ _ _ _ (by first | exact nph | exact nph.symm)).trans (Below.heap_setCell _ _ _ _ (by first | exact nph | exact nph.symm))) : Mg.Bx ((W7.setCell ⟨hb, i * 2, none⟩ (.slice (some ⟨bo, 0, none⟩) k co)).setCell ⟨hb, i * 2 + 1, none⟩ (.slice pb b.length cb)) p6 (oN, oA)))
   clear B7 T7
   go_region_held3 (fun w' => w'.cell? ⟨rd, 1, none⟩ = some (.slice (some ⟨hb, 0, none⟩) H.length cp7) ∧ w'.cell? ⟨q2, 0, none⟩ = some (.slice (some ⟨bo, 0, none⟩) k co) ∧ w'.cell? ⟨q2, 1, none⟩ = some (.slice pb b.length cb)) (first | (go_keep; done) | exact unhide K8) (fail)
   clear K8 c0 c1 e7 h71 h72 fh0 fh1
   generalize (W7.setCell ⟨hb, i * 2, none⟩ (.slice (some ⟨bo, 0, none⟩) k co)).setCell ⟨hb, i * 2 + 1, none⟩ (.slice pb b.length cb) = W8 at *
   have T9 := hide ((unhide T8).b (drw W8))
   obtain ⟨b0, b1⟩ := (unhide HB8).b (drw W8)
   clear T8 HB8
   generalize W8.drew = W9 at *
   obtain ⟨r0, r1, rfz, rt⟩ := (unhide T9).rx
   have rf0 := rfz 0
   have rf1 := rfz 1
   have FIN := hide ((unhide T9).res (.int .i64 oN) (.int .i64 oA))
   simp only at b0 b1
   clear T9 rfz rt
   obtain ⟨t0, t1⟩ := set2_at r0 r1 (.int .i64 oN) (.int .i64 oA)
   go_wp2
   refine bodyPost_ret (v := .tuple #[.agg #[.int .i64 oN, .int .i64 oA], .int .i64 0]) (by simp [results, Tryz.results40, go_sem, t0, t1]; try rfl) rfl ?_
   exact ⟨rfl, (unhide FIN).1, (unhide FIN).2⟩
 · rw [hv] at T2
   obtain ⟨c0, c1, cf, _⟩ := (unhide T2).bx
   have f0 := cf 0
   have f1 := cf 1
   have T5 := hide (((unhide T2).set0 (.slice (some ⟨bo, 0, none⟩) (k + 1) co)).set1 (.slice pa ([] : List Bl).length ca))
   clear hv cf
   simp only [List.length_nil] at c0 c1 T5
   go_upto_region 13 with (fail)
   generalize (W2.setCell ⟨q2, 0, none⟩ (.slice (some ⟨bo, 0, none⟩) (k + 1) co)).setCell ⟨q2, 1, none⟩ (.slice pa 0 ca) = W5 at *
   clear c0 c1 f0 f1
   obtain ⟨c0, c1, cf, cl⟩ := (unhide T5).bx
   have hO5 := (unhide T2).os (unhide T5) (unhide HVO)
   obtain ⟨b9, c9, hv9, _, _, hb9, g0, g1, hO9⟩ := hO5.last
   rw [unhide HK] at hv9 hO9 g0 g1
   simp only [Value.slice.injEq, Option.some.injEq, Addr.mk.injEq, and_true, true_and] at hv9
   obtain ⟨rfl, rfl⟩ := hv9
   have hV5 := (unhide T2).os (unhide T5) (unhide HV2)
   simp only at g0 g1
   have F6 := ballo (Below.refl W5.heap.size W5) (.cells #[.int .i64 oN, .int .i64 oA] 42)
   have T6 := hide ((unhide T5).b F6)
   have B6 := Mg.Bx.new W5 oN oA
   have O6 := hide (hO9.b F6)
   have V6 := hide (hV5.b F6)
   have hhb : hb < W5.heap.size := (unhide T5).d.th.lt
   have T22 := T2
   clear T2 T5 hO5 hO9 hV5 F6 cf HV2 HVO HO
   go_upto_region 15 with (fail)
   generalize W5.alloc (.cells #[.int .i64 oN, .int .i64 oA] 42) = W6 at *
   generalize W5.heap.size = p6 at *
   clear c0 c1 g0 g1
   obtain ⟨c0, c1, cf, _⟩ := (unhide T6).bx
   have f0 := cf 0
   have T7 := hide ((unhide T6).set0 (.slice (some ⟨bo, 0, none⟩) k co))
   have hne6 : p6 ≠ q2 := by omega
   have B7 : Mg.Bx (W6.setCell ⟨q2, 0, none⟩ (.slice (some ⟨bo, 0, none⟩) k co)) p6 (oN, oA) := B6.blk (Below.heap_setCell _ _ _ _ (by first | exact hne6 | exact hne6.symm))
   have O7 := hide ((unhide T6).os (unhide T7) (unhide O6))
   have V7 := hide ((unhide T6).os (unhide T7) (unhide V6))
   clear B6 O6 V6 cf
   go_upto_region 16 with (fail)
   generalize W6.setCell ⟨q2, 0, none⟩ (.slice (some ⟨bo, 0, none⟩) k co) = W7 at *
   clear c0 c1 f0 T6
   obtain ⟨c0, c1, _, _⟩ := (unhide T7).bx
   obtain ⟨cp7, e7⟩ := (unhide T7).d.c1
   obtain ⟨u1, u2, h71, h72, _, _⟩ := (unhide T7).d.hd i _ _ (unhide HI)
   have fh0 := (unhide T7).d.fh (i * 2)
   have fh1 := (unhide T7).d.fh (i * 2 + 1)
   have nrh : rd ≠ hb := (unhide T7).d.tg.ne (unhide T7).d.th (by decide)
   have nph : p6 ≠ hb := by omega
   have T8 := hide ((unhide T7).hand hil (unhide O7) (unhide V7))
   have K8 : Hid ((((W7.setCell ⟨hb, i * 2, none⟩ (.slice (some ⟨bo, 0, none⟩) k co)).setCell ⟨hb, i * 2 + 1, none⟩ (.slice pa 0 ca))).drew.cell? ⟨rd, 1, none⟩ = some (.slice (some ⟨hb, 0, none⟩) H.length cp7) ∧ (((W7.setCell ⟨hb, i * 2, none⟩ (.slice (some ⟨bo, 0, none⟩) k co)).setCell ⟨hb, i * 2 + 1, none⟩ (.slice pa 0 ca))).drew.cell? ⟨q2, 0, none⟩ = some (.slice (some ⟨bo, 0, none⟩) k co) ∧ (((W7.setCell ⟨hb, i * 2, none⟩ (.slice (some ⟨bo, 0, none⟩) k co)).setCell ⟨hb, i * 2 + 1, none⟩ (.slice pa 0 ca))).drew.cell? ⟨q2, 1, none⟩ = some (.slice pa 0 ca)) := by
     have hbx := (unhide T8).bx.b (drw _)
     exact ⟨(cso (fun e => by injection e with e1; first | exact nrh e1 | exact nrh e1.symm)).trans ((cso (fun e => by injection e with e1; first | exact nrh e1 | exact nrh e1.symm)).trans e7), hbx.c0, hbx.c1⟩
   have HB8 := hide ((B7.blk ((Below.heap_setCell _ _ _ _ (by first | exact nph | exact nph.symm)).trans (Below.heap_setCell _ _ _ _ (by first | exact nph | exact nph.symm))) : Mg.Bx ((W7.setCell ⟨hb, i * 2, none⟩ (.slice (some ⟨bo, 0, none⟩) k co)).setCell ⟨hb, i * 2 + 1, none⟩ (.slice pa 0 ca)) p6 (oN, oA)))
   clear B7 T7
   go_region_held3 (fun w' => w'.cell? ⟨rd, 1, none⟩ = some (.slice (some ⟨hb, 0, none⟩) H.length cp7) ∧ w'.cell? ⟨q2, 0, none⟩ = some (.slice (some ⟨bo, 0, none⟩) k co) ∧ w'.cell? ⟨q2, 1, none⟩ = some (.slice pa 0 ca)) (first | (go_keep; done) | exact unhide K8) (fail)
   clear K8 c0 c1 e7 h71 h72 fh0 fh1
   generalize (W7.setCell ⟨hb, i * 2, none⟩ (.slice (some ⟨bo, 0, none⟩) k co)).setCell ⟨hb, i * 2 + 1, none⟩ (.slice pa 0 ca) = W8 at *
   have T9 := hide ((unhide T8).b (drw W8))
   obtain ⟨b0, b1⟩ := (unhide HB8).b (drw W8)
   clear T8 HB8
   generalize W8.drew = W9 at *
   obtain ⟨r0, r1, rfz, rt⟩ := (unhide T9).rx
   have rf0 := rfz 0
   have rf1 := rfz 1
   have FIN := hide ((unhide T9).res (.int .i64 oN) (.int .i64 oA))
   simp only at b0 b1
   clear T9 rfz rt
   obtain ⟨t0, t1⟩ := set2_at r0 r1 (.int .i64 oN) (.int .i64 oA)
   go_wp2
   refine bodyPost_ret (v := .tuple #[.agg #[.int .i64 oN, .int .i64 oA], .int .i64 0]) (by simp [results, Tryz.results40, go_sem, t0, t1]; try rfl) rfl ?_
   exact ⟨rfl, (unhide FIN).1, (unhide FIN).2⟩
 · have hq0 : (0 : Int) ≤ P'.length := by omega
   have hq1 : (P'.length : Int) < ((P'.length + 1 : Nat) : Int) := by omega
   have hq2 : ((P'.length + 1 : Nat) : Int) - 1 = (P'.length : Int) := by omega
   have hq3 : decide (((P'.length + 1 : Nat) : Int) > 0) = true := by simp <;> omega
   obtain ⟨c0, c1, cf, _⟩ := (unhide T2).bx
   have f0 := cf 0
   have f1 := cf 1
   have fd := (unhide T2).d.fd 2
   have nr := (unhide T2).np.1
   have T3 := (unhide T2).set0 (.slice (some ⟨bo, 0, none⟩) (k + 1) co)
   have T5 := hide (T3.pile (e8.keep (w' := W2.setCell ⟨q2, 0, none⟩ (.slice (some ⟨bo, 0, none⟩) (k + 1) co)) (fun j hj => Below.heap_setCell _ _ _ _ (fun e => (unhide T2).np.2.2 (by simp only at e; rw [← e]; exact hj))) (fun b t hm ht => Below.heap_setCell _ _ _ _ (fun e => by
     simp only at e
     simp only [List.mem_cons, List.not_mem_nil, or_false] at hm
     rw [hm, e] at ht
     exact ht.ne (unhide T2).tp (by decide) rfl)) (by simp [World.setCell]) (fun _ h => h)))
   simp only [List.length_nil] at c0 c1 T5
   clear cf T3
   go_upto_region 13 with (fail)
   generalize (W2.setCell ⟨q2, 0, none⟩ (.slice (some ⟨bo, 0, none⟩) (k + 1) co)).setCell ⟨rd, 2, none⟩ (.slice (some ⟨bp, 0, none⟩) P'.length cq) = W5 at *
   clear c0 c1 f0 f1 fd e2 e6
   obtain ⟨c0, c1, cf, cl⟩ := (unhide T5).bx
   have hO5 := (unhide T2).os (unhide T5) (unhide HVO)
   obtain ⟨b9, c9, hv9, _, _, hb9, g0, g1, hO9⟩ := hO5.last
   rw [unhide HK] at hv9 hO9 g0 g1
   simp only [Value.slice.injEq, Option.some.injEq, Addr.mk.injEq, and_true, true_and] at hv9
   obtain ⟨rfl, rfl⟩ := hv9
   have hV5 := (unhide T2).os (unhide T5) (unhide HV2)
   simp only at g0 g1
   have F6 := ballo (Below.refl W5.heap.size W5) (.cells #[.int .i64 oN, .int .i64 oA] 42)
   have T6 := hide ((unhide T5).b F6)
   have B6 := Mg.Bx.new W5 oN oA
   have O6 := hide (hO9.b F6)
   have V6 := hide (hV5.b F6)
   have hhb : hb < W5.heap.size := (unhide T5).d.th.lt
   have T22 := T2
   clear T2 T5 hO5 hO9 hV5 F6 cf HV2 HVO HO
   go_upto_region 15 with (fail)
   generalize W5.alloc (.cells #[.int .i64 oN, .int .i64 oA] 42) = W6 at *
   generalize W5.heap.size = p6 at *
   clear c0 c1 g0 g1
   obtain ⟨c0, c1, cf, _⟩ := (unhide T6).bx
   have f0 := cf 0
   have T7 := hide ((unhide T6).set0 (.slice (some ⟨bo, 0, none⟩) k co))
   have hne6 : p6 ≠ q2 := by omega
   have B7 : Mg.Bx (W6.setCell ⟨q2, 0, none⟩ (.slice (some ⟨bo, 0, none⟩) k co)) p6 (oN, oA) := B6.blk (Below.heap_setCell _ _ _ _ (by first | exact hne6 | exact hne6.symm))
   have O7 := hide ((unhide T6).os (unhide T7) (unhide O6))
   have V7 := hide ((unhide T6).os (unhide T7) (unhide V6))
   clear B6 O6 V6 cf
   go_upto_region 16 with (fail)
   generalize W6.setCell ⟨q2, 0, none⟩ (.slice (some ⟨bo, 0, none⟩) k co) = W7 at *
   clear c0 c1 f0 T6
   obtain ⟨c0, c1, _, _⟩ := (unhide T7).bx
   obtain ⟨cp7, e7⟩ := (unhide T7).d.c1
   obtain ⟨u1, u2, h71, h72, _, _⟩ := (unhide T7).d.hd i _ _ (unhide HI)
   have fh0 := (unhide T7).d.fh (i * 2)
   have fh1 := (unhide T7).d.fh (i * 2 + 1)
   have nrh : rd ≠ hb := (unhide T7).d.tg.ne (unhide T7).d.th (by decide)
   have nph : p6 ≠ hb := by omega
   have T8 := hide ((unhide T7).hand hil (unhide O7) (unhide V7))
   have K8 : Hid ((((W7.setCell ⟨hb, i * 2, none⟩ (.slice (some ⟨bo, 0, none⟩) k co)).setCell ⟨hb, i * 2 + 1, none⟩ (.slice pb 0 cb))).drew.cell? ⟨rd, 1, none⟩ = some (.slice (some ⟨hb, 0, none⟩) H.length cp7) ∧ (((W7.setCell ⟨hb, i * 2, none⟩ (.slice (some ⟨bo, 0, none⟩) k co)).setCell ⟨hb, i * 2 + 1, none⟩ (.slice pb 0 cb))).drew.cell? ⟨q2, 0, none⟩ = some (.slice (some ⟨bo, 0, none⟩) k co) ∧ (((W7.setCell ⟨hb, i * 2, none⟩ (.slice (some ⟨bo, 0, none⟩) k co)).setCell ⟨hb, i * 2 + 1, none⟩ (.slice pb 0 cb))).drew.cell? ⟨q2, 1, none⟩ = some (.slice pb 0 cb)) := by
     have hbx := (unhide T8).bx.b (drw _)
     exact ⟨(cso (fun e => by injection e with e1; first | exact nrh e1 | exact nrh e1.symm)).trans ((cso (fun e => by injection e with e1; first | exact nrh e1 | exact nrh e1.symm)).trans e7), hbx.c0, hbx.c1⟩
   have HB8 := hide ((B7.blk ((Below.heap_setCell _ _ _ _ (by first | exact nph | exact nph.symm)).trans (Below.heap_setCell _ _ _ _ (by first | exact nph | exact nph.symm))) : Mg.Bx ((W7.setCell ⟨hb, i * 2, none⟩ (.slice (some ⟨bo, 0, none⟩) k co)).setCell ⟨hb, i * 2 + 1, none⟩ (.slice pb 0 cb)) p6 (oN, oA)))
   clear B7 T7
   go_region_held3 (fun w' => w'.cell? ⟨rd, 1, none⟩ = some (.slice (some ⟨hb, 0, none⟩) H.length cp7) ∧ w'.cell? ⟨q2, 0, none⟩ = some (.slice (some ⟨bo, 0, none⟩) k co) ∧ w'.cell? ⟨q2, 1, none⟩ = some (.slice pb 0 cb)) (first | (go_keep; done) | exact unhide K8) (fail)
   clear K8 c0 c1 e7 h71 h72 fh0 fh1
   generalize (W7.setCell ⟨hb, i * 2, none⟩ (.slice (some ⟨bo, 0, none⟩) k co)).setCell ⟨hb, i * 2 + 1, none⟩ (.slice pb 0 cb) = W8 at *
   have T9 := hide ((unhide T8).b (drw W8))
   obtain ⟨b0, b1⟩ := (unhide HB8).b (drw W8)
   clear T8 HB8
   generalize W8.drew = W9 at *
   obtain ⟨r0, r1, rfz, rt⟩ := (unhide T9).rx
   have rf0 := rfz 0
   have rf1 := rfz 1
   have FIN := hide ((unhide T9).res (.int .i64 oN) (.int .i64 oA))
   simp only at b0 b1
   clear T9 rfz rt
   obtain ⟨t0, t1⟩ := set2_at r0 r1 (.int .i64 oN) (.int .i64 oA)
   go_wp2
   refine bodyPost_ret (v := .tuple #[.agg #[.int .i64 oN, .int .i64 oA], .int .i64 0]) (by simp [results, Tryz.results40, go_sem, t0, t1]; try rfl) rfl ?_
   exact ⟨rfl, (unhide FIN).1, (unhide FIN).2⟩
end
end Rd
end Go.Proofs.YtfefehkapffljaaGreatDoor
namespace Go.Proofs.YtfefehkapffljaaGreatDoor
open Go.RowKit Go.Maps
namespace Rd
open Fr Bd Zn Dz Sb Mg
section
variable {N1 : Nat} {U V : Nat → Prop} {w w' : World} {rd rc hb : Nat} {H : List (List Bl × List Bl)} {P : List (List Bl)} {v : Value}
set_option maxRecDepth 100000 in
set_option maxHeartbeats 4000000 in
theorem rdtake_bad (h : RD N1 U w rd rc hb H P) (hU : ∀ k, U k → Tag w k 42) {x : Int} (hx : x < 0 ∨ (H.length : Int) ≤ x) (y : Int) (u : Bool) :
   Calls Tryz.prog 40 #[.pointer (some ⟨rd, 0, none⟩), .int .i64 x, .int .i64 y, .bool u] w fun ev w' => ev = .returned (.tuple #[.agg #[.int .i64 0, .int .i64 0], .int .i64 2]) ∧ Below w.heap.size w w' := by
 have F1 := ballo (Below.refl w.heap.size w) (.cells #[.int .i64 0, .int .i64 0] 42)
 have R1 := rx_new w
 have HW := hide (isw_no (h.b hU F1) hx)
 have HF := hide F1
 clear h F1
 obtain ⟨r0, r1, rfz, _⟩ := R1
 have f0 := rfz 0
 have f1 := rfz 1
 clear rfz
 go_enter Tryz.func40, Tryz.ntmps40
 go_upto_region 1 with (fail)
 generalize w.alloc (.cells #[.int .i64 0, .int .i64 0] 42) = W1 at *
 go_wp2_with fail
 refine (unhide HW).mono ?_
 rintro ev w1 ⟨rfl, rfl⟩
 obtain ⟨t0, t1⟩ := set2_at r0 r1 (.int .i64 0) (.int .i64 0)
 go_wp2
 refine bodyPost_ret (v := .tuple #[.agg #[.int .i64 0, .int .i64 0], .int .i64 2]) (by simp [results, Tryz.results40, go_sem, t0, t1]; try rfl) rfl ?_
 exact ⟨rfl, below_set2 (unhide HF) (Nat.le_refl _) _ _⟩
set_option maxRecDepth 100000 in
set_option maxHeartbeats 8000000 in
theorem rdtake_cache (h : RD N1 U w rd rc hb H []) (hU : ∀ k, U k → Tag w k 42) {i : Nat} (hi : H[i]? = some ([], [])) (y : Int) (u : Bool) {Φ : Int → Int → Int → World → World → Prop} (hc : ∀ W, Below w.heap.size w W → Calls Tryz.prog 25 #[.pointer (some ⟨rc, 0, none⟩), .int .i64 y, .bool u] W fun ev w' => ∃ oN oA r, ev = .returned (.tuple #[.agg #[.int .i64 oN, .int .i64 oA], .int .i64 r]) ∧ Φ oN oA r W w' ∧ Chg R4 N1 W w') :
   Calls Tryz.prog 40 #[.pointer (some ⟨rd, 0, none⟩), .int .i64 (i : Int), .int .i64 y, .bool u] w fun ev w' => ∃ oN oA r W w2 p, ev = .returned (.tuple #[.agg #[.int .i64 oN, .int .i64 oA], .int .i64 r]) ∧ Below w.heap.size w W ∧ Φ oN oA r W w2 ∧ Chg R4 N1 W w2 ∧ w' = (w2.setCell ⟨p, 0, none⟩ (.int .i64 oN)).setCell ⟨p, 1, none⟩ (.int .i64 oA) ∧ w.heap.size ≤ p ∧ Tag w2 p 42 := by
 have hil : i < H.length := (List.getElem?_eq_some_iff.1 hi).1
 have F1 := ballo (Below.refl w.heap.size w) (.cells #[.int .i64 0, .int .i64 0] 42)
 have R1 := rx_new w
 have D1 := h.b hU F1
 have HW := hide (isw_yes D1 hil)
 obtain ⟨cp, e1⟩ := D1.c1
 obtain ⟨va, vb, x1, x2, x3, x4⟩ := D1.hd i [] [] hi
 obtain ⟨v3, e2, e3⟩ := h.c2
 obtain ⟨pp, cq, rfl⟩ : ∃ pp cq, v3 = .slice pp 0 cq := by
   rcases e3 with ⟨h1, _⟩ | ⟨b, cp, h1, _⟩
   · exact ⟨none, 0, h1⟩
   · exact ⟨_, cp, h1⟩
 have hd0 : (0 : Int) ≤ i := by omega
 have hd1 : (i : Int) < H.length := by omega
 have F2 : Below w.heap.size w ((w.alloc (.cells #[.int .i64 0, .int .i64 0] 42)).alloc (.cells #[va, vb] 179)) := ballo F1 _
 have b2 := ballo (Below.refl (w.alloc (.cells #[.int .i64 0, .int .i64 0] 42)).heap.size (w.alloc (.cells #[.int .i64 0, .int .i64 0] 42))) (.cells #[va, vb] 179)
 have hs1 : (w.alloc (.cells #[.int .i64 0, .int .i64 0] 42)).heap.size = w.heap.size + 1 := by simp
 have T2 : Hid (TW N1 U w rd rc hb 0 0 H [] (w.heap.size + 1) w.heap.size va vb ((w.alloc (.cells #[.int .i64 0, .int .i64 0] 42)).alloc (.cells #[va, vb] 179))) :=
   ⟨h.b hU F2, Chg.below F2, by rw [← hs1]; exact B2.new _ va vb 179, by rw [← hs1]; exact tag_new _ _ _, by omega, R1.b b2, Nat.le_refl _, ⟨h.tg.lt, h.th.lt⟩, hU⟩
 have e22 := (F2.cell (p := ⟨rd, 2, none⟩) h.tg.lt).trans e2
 have e20 := (F2.cell (p := ⟨rd, 0, none⟩) h.tg.lt).trans h.c0
 obtain ⟨pa, ca, rfl, _⟩ := x3.len
 obtain ⟨pb, cb, rfl, _⟩ := x4.len
 have HC := hide (hc _ F2)
 have HF2 := hide F2
 unfold ptr at e20
 simp only [List.length_nil] at *
 clear h F1 R1 D1 x3 x4 F2 b2 hc e2 e3
 go_enter Tryz.func40, Tryz.ntmps40
 go_upto_region 1 with (fail)
 generalize w.alloc (.cells #[.int .i64 0, .int .i64 0] 42) = W1 at *
 go_wp2_with fail
 refine (unhide HW).mono ?_
 rintro ev w1 ⟨rfl, rfl⟩
 go_upto_region 5 with (fail)
 generalize w1.alloc (.cells #[.slice pa 0 ca, .slice pb 0 cb] 179) = W2 at *
 clear HW x1 x2 e1 hs1
 generalize w.heap.size + 1 = q2 at *
 obtain ⟨c0, c1, _, _⟩ := (unhide T2).bx
 go_wp2_with fail
 refine (unhide HC).mono ?_
 rintro ev w3 ⟨oN, oA, r, rfl, hPhi, hCh⟩
 have R3 := (unhide T2).rx.blk (hCh.same (unhide T2).rx.tg (by decide))
 have HP := hide hPhi
 have HCH := hide hCh
 clear hPhi hCh HC c0 c1 e20 e22
 have HT := hide R3.tg
 obtain ⟨r0, r1, rfz, _⟩ := R3
 have f0 := rfz 0
 have f1 := rfz 1
 clear rfz
 obtain ⟨t0, t1⟩ := set2_at r0 r1 (.int .i64 oN) (.int .i64 oA)
 go_wp2
 refine bodyPost_ret (v := .tuple #[.agg #[.int .i64 oN, .int .i64 oA], .int .i64 r]) (by simp [results, Tryz.results40, go_sem, t0, t1]; try rfl) rfl ?_
 exact ⟨oN, oA, r, W2, w3, w.heap.size, rfl, unhide HF2, unhide HP, unhide HCH, rfl, Nat.le_refl _, unhide HT⟩
theorem append_os {ops : Array Oper} {rest : List Oper} {o : Oper} {a : Act} {Q : Exit → Act → World → Prop} (hgd : o.guard = none) (s x : Operand)
   (ho : o.op = .call { callee := .builtin .append, args := #[s, x], argTypes := #[45, 45] }) (base : Nat) (v : Value) (n : Nat) (xs : List Value) (hs : a.eval s = v) (hown : w.ownsRow base 42 2 v n xs) {vx : Value} {ys : List Bl} (hx : a.eval x = vx) (hos : OS U w vx ys) (hlen : n + ys.length ≤ 1000000) (hbase : base ≤ w.heap.size)
   (h : ∀ v' w', w'.ownsRow base 42 2 v' (n + ys.length) (xs ++ flat ys) → w.grownBy w' v.ownBlock → wpList Tryz.prog ops Q rest (a.put o.dst v') w') : wpList Tryz.prog ops Q (o :: rest) a w := by
 obtain ⟨i0, hi0, hz0, hz1, hz2⟩ := info_parts info42o
 rcases hos with ⟨rfl, rfl⟩ | ⟨b, cp, rfl, h2, h3, h4, h5, h6⟩
 · refine wpList_append_own_none hgd s x 45 ho base 42 i0 2 Tryz.underlying45 hi0 v n xs hs hown hx ?_
   have := h v w (by simpa [flat] using hown) ⟨rfl, rfl, rfl, Nat.le_refl _, fun _ _ _ => rfl⟩
   exact this
 · exact wpList_append_own w hgd s x 45 ho base 42 i0 (.agg #[.int .i64 0, .int .i64 0]) 2 16 Tryz.underlying45 hi0 hz0 hz1 hz2 rfl (by decide) v n xs hs hown ⟨b, 0, none⟩ ys.length cp (flat ys) hx (flat_length ys) (fun j u hu => by rw [Bd.add_at, Nat.zero_add]; exact h6 j u hu) (flat_one ys) (by unfold maxLen; omega) (by omega) hbase fun v' w' h7 h8 _ => h v' w' h7 h8
end
end Rd
end Go.Proofs.YtfefehkapffljaaGreatDoor
