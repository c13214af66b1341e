/- A zone, a cache and a depot in one memory · A depot's load, by contract · A depot's load, by contract: the other ways. -/
import Derived.Test.YtcbmfakjfoggaaaGreatDoorG27
namespace Go.Proofs.YtcbmfakjfoggaaaGreatDoor
open Go.RowKit Go.Maps
namespace Mg
open Fr Bd Zn Dz Sb
theorem trs_cons (x : Nat × Nat) (ws : List (Nat × Nat)) (pl : List Nat) : trs (x :: ws) pl = x.1 :: x.2 :: trs ws pl := rfl
theorem trs_perm : ∀ {ws : List (Nat × Nat)} {i a b : Nat} (pl : List Nat), ws[i]? = some (a, b) → (trs ws pl).Perm (a :: b :: trs (ws.eraseIdx i) pl)
  | [], i, a, b, pl, h => by simp at h
  | x :: ws, 0, a, b, pl, h => by
    simp only [List.getElem?_cons_zero, Option.some.injEq] at h
    subst h
    rw [trs_cons]
    exact List.Perm.refl _
  | x :: ws, i + 1, a, b, pl, h => by
    have ih := trs_perm (ws := ws) (i := i) pl (by simpa using h)
    rw [trs_cons, List.eraseIdx_cons_succ, trs_cons]
    refine (List.Perm.cons x.1 (List.Perm.cons x.2 ih)).trans ?_
    refine (List.Perm.cons x.1 (List.Perm.swap a x.2 _)).trans ?_
    refine (List.Perm.swap a x.1 _).trans ?_
    refine List.Perm.cons a ?_
    refine (List.Perm.cons x.1 (List.Perm.swap b x.2 _)).trans ?_
    exact List.Perm.swap b x.1 _
theorem erase_set : ∀ (ws : List (Nat × Nat)) (i : Nat) (x : Nat × Nat), (ws.set i x).eraseIdx i = ws.eraseIdx i
  | [], _, _ => rfl
  | _ :: _, 0, _ => rfl
  | y :: ws, i + 1, x => by
    rw [List.set_cons_succ, List.eraseIdx_cons_succ, List.eraseIdx_cons_succ, erase_set ws i x]
theorem trs_set {ws : List (Nat × Nat)} {i : Nat} (hi : i < ws.length) (a b : Nat) (pl : List Nat) : (trs (ws.set i (a, b)) pl).Perm (a :: b :: trs (ws.eraseIdx i) pl) := by
  have := trs_perm (ws := ws.set i (a, b)) (i := i) (a := a) (b := b) pl (by rw [List.getElem?_set_self hi])
  rwa [erase_set] at this
theorem trs_app (ws : List (Nat × Nat)) (pl : List Nat) (t : Nat) : (trs ws (pl ++ [t])).Perm (t :: trs ws pl) := by
  unfold trs
  rw [← List.append_assoc]
  exact List.perm_append_comm
/-- The kinds of the document's answer's blocks, and of a law's own. -/
abbrev RK : List TypeId := [252, 253, 38, 3, 333, 291, 140, 302, 305, 4, 164, 185, 32, 144, 258, 241, 64, 167, 189, 192, 90, 93, 91, 208, 209, 220, 205, 234, 237, 316, 51, 86, 114, 5, 9, 29, 147]
/-- Where others' rows stay. -/
structure UK (U : Nat → Prop) (w w' : World) : Prop where
  u : ∀ k, U k → w'.heap[k]? = w.heap[k]?
  s : Sb.Same RK w w'
  z : w.heap.size ≤ w'.heap.size
theorem same_trans {ts : List TypeId} {w w1 w2 : World} (h : Sb.Same ts w w1) (h' : Sb.Same ts w1 w2) : Sb.Same ts w w2 := fun b t hm ht => (h' b t hm (tag_same h hm ht)).trans (h b t hm ht)
theorem UK.trans {U : Nat → Prop} {w w1 w2 : World} (h : UK U w w1) (h' : UK U w1 w2) : UK U w w2 := ⟨fun k hk => (h'.u k hk).trans (h.u k hk), same_trans h.s h'.s, Nat.le_trans h.z h'.z⟩
theorem UK.refl (U : Nat → Prop) (w : World) : UK U w w := ⟨fun _ _ => rfl, fun _ _ _ _ => rfl, Nat.le_refl _⟩
theorem UK.chg {U : Nat → Prop} {w w' : World} {ts : List (Option TypeId)} {N : Nat} (hu : ∀ k, U k → Tag w k 34) (hc : Chg ts N w w') (h : ∀ t ∈ 34 :: RK, some t ∉ ts) : UK U w w' := ⟨fun k hk => hc.same (hu k hk) (h 34 (by simp)), hc.toSame (fun t ht => h t (List.mem_cons_of_mem _ ht)), hc.size⟩
theorem UK.below {U : Nat → Prop} {w w' : World} (hu : ∀ k, U k → Tag w k 34) (hb : Below w.heap.size w w') : UK U w w' := ⟨fun k hk => hb.block k (hu k hk).lt, same_below hb, hb.size⟩
/-- A box of one's own is written. -/
theorem UK.box {U : Nat → Prop} {w w' : World} (h : UK U w w') (hu : ∀ k, U k → k < w.heap.size) {p : Nat} (hp : w.heap.size ≤ p) (o : Nat) (v : Value) : UK U w (w'.setCell ⟨p, o, none⟩ v) :=
  ⟨fun k hk => (Below.heap_setCell _ _ _ _ (by have := hu k hk; simp only; omega)).trans (h.u k hk), fun b t hm ht => (Below.heap_setCell _ _ _ _ (by have := ht.lt; simp only; omega)).trans (h.s b t hm ht), Nat.le_trans h.z (by simp [World.setCell])⟩
/-- A zone, a cache on it, a depot ahead. -/
structure DQ (w0 : World) (N0 : Nat) (U : Nat → Prop) (X : Nat → Option Obj) (c z d g : Nat) (sz : Int) (m : Nat) (mn lw hi : Int) (k : Nat) (nb fm tm : Nat → Nat) (fr : Nat → List Nat) (Q : Nat) (ss : List Sl) (nd : Nat → Nd) (ws : List (Nat × Nat)) (pl : List Nat) (ct : Nat → List Bl) (w : World) : Prop where
  b0 : Below w0.heap.size w0 w
  ex : ∃ (ly : Nat × Obj) (bs : List Nat) (q : Nat) (f : Int → Int → Option Nat) (rb : Nat → Nat), PS N0 w c z (ly.1, ly.2, X) sz m bs ss mn lw hi k nb fm tm nd fr ∧ TS N0 U w c ly.1 q f (trs ws pl) rb ct ∧ q ≤ Q
  db : DB N0 w c d g ws pl
  pf : ∀ t ∈ pl, (ct t).length = 4
  tk : ∀ t ∈ trs ws pl, ∀ o ∈ ct t, Tkn m sz ss o.1 o.2
  uk : ∀ k, U k → Tag w k 34
  ul : ∀ k, U k → w0.heap.size ≤ k
  pq : pl.length ≤ Q
section
variable {w0 : World} {N0 : Nat} {U : Nat → Prop} {X : Nat → Option Obj} {c z d g : Nat} {sz : Int} {m : Nat} {mn lw hi : Int} {k : Nat} {nb fm tm : Nat → Nat} {fr : Nat → List Nat} {Q : Nat} {ss : List Sl} {nd : Nat → Nd} {ws : List (Nat × Nat)} {pl : List Nat} {ct : Nat → List Bl} {w w' : World}
theorem DQ.b (h : DQ w0 N0 U X c z d g sz m mn lw hi k nb fm tm fr Q ss nd ws pl ct w) (hb : Below w.heap.size w w') : DQ w0 N0 U X c z d g sz m mn lw hi k nb fm tm fr Q ss nd ws pl ct w' := by
  obtain ⟨ly, bs, q, f, rb, h1, h2, h3⟩ := h.ex
  exact ⟨btr h.b0 hb, ⟨ly, bs, q, f, rb, h1.b hb, h2.b hb, h3⟩, h.db.b hb, h.pf, h.tk, fun k hk => (h.uk k hk).b hb, h.ul, h.pq⟩
theorem DQ.ukb (h : DQ w0 N0 U X c z d g sz m mn lw hi k nb fm tm fr Q ss nd ws pl ct w) (hb : Below w.heap.size w w') : UK U w w' := UK.below h.uk hb
/-- Where a depot's own blocks turn, and its trays change places. -/
theorem DQ.own (h : DQ w0 N0 U X c z d g sz m mn lw hi k nb fm tm fr Q ss nd ws pl ct w) (hN : w0.heap.size ≤ N0) (hc : Chg [some 182, some 175, some 177] N0 w w') {ws' : List (Nat × Nat)} {pl' : List Nat} (hd : DB N0 w' c d g ws' pl') (hn : (trs ws' pl').Nodup) (hs : ∀ t ∈ trs ws' pl', t ∈ trs ws pl) (he : ∀ t ∈ trs ws pl, t ∉ trs ws' pl' → ct t = []) (hp : ∀ t ∈ pl', t ∈ pl) (hl : pl'.length ≤ pl.length) : DQ w0 N0 U X c z d g sz m mn lw hi k nb fm tm fr Q ss nd ws' pl' ct w' ∧ UK U w w' := by
  obtain ⟨ly, bs, q, f, rb, h1, h2, h3⟩ := h.ex
  have huk : UK U w w' := UK.chg h.uk hc (by decide)
  exact ⟨⟨h.b0.trans ((hc.mono (fun _ h => h) hN).toBelow h.b0.size), ⟨ly, bs, q, f, rb, h1.chg hc (by decide) (by decide) (by decide), (h2.chgN hc (by decide) (by decide) (by decide)).sub hn hs he, h3⟩, hd, fun t ht => h.pf t (hp t ht), fun t ht => h.tk t (hs t ht), fun k hk => (h.uk k hk).blk (huk.u k hk), h.ul, Nat.le_trans hl h.pq⟩, huk⟩
/-- One more row is others'. -/
theorem DQ.more (h : DQ w0 N0 U X c z d g sz m mn lw hi k nb fm tm fr Q ss nd ws pl ct w) (hb : Below w.heap.size w w') {b : Nat} (hw : w.heap.size ≤ b) (ht : Tag w' b 34) : DQ w0 N0 (fun j => U j ∨ j = b) X c z d g sz m mn lw hi k nb fm tm fr Q ss nd ws pl ct w' := by
  obtain ⟨ly, bs, q, f, rb, h1, h2, h3⟩ := h.ex
  have h4 := h.b hb
  refine ⟨h4.b0, ⟨ly, bs, q, f, rb, h1.b hb, (h2.b hb).others (fun t hT hV => ?_), h3⟩, h4.db, h.pf, h.tk, fun j hj => ?_, fun j hj => ?_, h.pq⟩
  · rcases hV with hV | hV
    · exact hV
    · have := (h2.tr t hT).rlt; omega
  · rcases hj with hj | rfl
    · exact h4.uk j hj
    · exact ht
  · rcases hj with hj | rfl
    · exact h.ul j hj
    · exact Nat.le_trans h.b0.size hw
theorem DQ.less {V : Nat → Prop} (h : DQ w0 N0 U X c z d g sz m mn lw hi k nb fm tm fr Q ss nd ws pl ct w) (hv : ∀ j, V j → U j) : DQ w0 N0 V X c z d g sz m mn lw hi k nb fm tm fr Q ss nd ws pl ct w := by
  obtain ⟨ly, bs, q, f, rb, h1, h2, h3⟩ := h.ex
  exact ⟨h.b0, ⟨ly, bs, q, f, rb, h1, h2.others (fun t _ hV => hv _ hV), h3⟩, h.db, h.pf, h.tk, fun j hj => h.uk j (hv j hj), fun j hj => h.ul j (hv j hj), h.pq⟩
/-- Others write theirs. -/
theorem DQ.theirs (h : DQ w0 N0 U X c z d g sz m mn lw hi k nb fm tm fr Q ss nd ws pl ct w) (hs : ∀ j, j < w.heap.size → ¬ U j → w'.heap[j]? = w.heap[j]?) (ho : w'.os = w.os) (ht : w'.tape = w.tape) (hu : w'.output = w.output) (hz : w.heap.size ≤ w'.heap.size) (hT : ∀ j, U j → Tag w' j 34) : DQ w0 N0 U X c z d g sz m mn lw hi k nb fm tm fr Q ss nd ws pl ct w' := by
  obtain ⟨ly, bs, q, f, rb, h1, h2, h3⟩ := h.ex
  have hc : Chg [some 34] 0 w w' := ⟨ho, ht, hu, hz, fun j hj => by
    by_cases e : U j
    · obtain ⟨cur, fz, e2⟩ := h.uk j e
      exact Or.inr ⟨Nat.zero_le _, _, e2, by simp [kind]⟩
    · exact Or.inl (hs j hj e)⟩
  refine ⟨⟨ho.trans h.b0.os, ht.trans h.b0.tape, hu.trans h.b0.output, Nat.le_trans h.b0.size hz, fun j hj => (hs j (Nat.lt_of_lt_of_le hj h.b0.size) (fun e => by have := h.ul j e; omega)).trans (h.b0.block j hj)⟩, ⟨ly, bs, q, f, rb, h1.chg hc (by decide) (by decide) (by decide), h2.turnU hs h.uk, h3⟩, h.db.same (hc.toSame (by decide)), h.pf, h.tk, hT, h.ul, h.pq⟩
theorem DQ.setU (h : DQ w0 N0 U X c z d g sz m mn lw hi k nb fm tm fr Q ss nd ws pl ct w) {b : Nat} (hb : U b) (o : Nat) (v : Value) : DQ w0 N0 U X c z d g sz m mn lw hi k nb fm tm fr Q ss nd ws pl ct (w.setCell ⟨b, o, none⟩ v) :=
  h.theirs (fun j _ hn => Below.heap_setCell _ _ _ _ (fun e => hn (e ▸ hb))) rfl rfl rfl (by simp [World.setCell]) (fun j hj => (h.uk j hj).set _ _)
/-- The pair's row written anew. -/
theorem DB.pair {p : List Nat} (h : DB N0 w c d g ws p) {ws' : List (Nat × Nat)} (hl : ws'.length = ws.length) (hc : Chg [some 177] N0 w w') {cp : Nat} (e1 : w.cell? ⟨d, 1, none⟩ = some (.slice (some ⟨g, 0, none⟩) ws.length cp)) (ho : w'.ownsRow N0 177 2 (.slice (some ⟨g, 0, none⟩) ws.length cp) ws.length (flatP ws')) : DB N0 w' c d g ws' p := by
  have hs : Same [182, 175] w w' := hc.toSame (by decide)
  obtain ⟨q, cp2, e2, o2⟩ := h.d2
  have hc' := fun j => cell_same hs (by simp) h.tg j
  refine ⟨(hc' 0).trans h.d0, ⟨cp, ?_, ?_⟩, ⟨q, cp2, (hc' 2).trans e2, own_same o2 hs (by simp)⟩, tag_same hs (by simp) h.tg, h.ge, fun o => (World.frozen?_of_block (w := w) (a := ⟨d, o, none⟩) (hs d 182 (by simp) h.tg)).trans (h.fz o)⟩
  · rw [hl]; exact (hc' 1).trans e1
  · rw [hl]; exact ho
end
end Mg
end Go.Proofs.YtcbmfakjfoggaaaGreatDoor
namespace Go.Proofs.YtcbmfakjfoggaaaGreatDoor
open Go.RowKit Go.Maps
namespace Mg
open Fr Bd Zn Dz Sb
/-- What load makes of a pair and the pile. -/
inductive LdR (ct : Nat → List Bl) (a b : Nat) : List Nat → Nat → Nat → List Nat → Prop
  | keep (pl : List Nat) (h : ct a ≠ []) : LdR ct a b pl a b pl
  | swap (pl : List Nat) (h : ct a = []) (h2 : ct b ≠ []) : LdR ct a b pl b a pl
  | none (h : ct a = []) (h2 : ct b = []) : LdR ct a b [] b a []
  | pile (pl : List Nat) (t : Nat) (h : ct a = []) (h2 : ct b = []) : LdR ct a b (pl ++ [t]) t a pl
section
variable {w0 : World} {N0 : Nat} {U : Nat → Prop} {X : Nat → Option Obj} {c z d g : Nat} {sz : Int} {m : Nat} {mn lw hi : Int} {k : Nat} {nb fm tm : Nat → Nat} {fr : Nat → List Nat} {Q : Nat} {ss : List Sl} {nd : Nat → Nd} {ws : List (Nat × Nat)} {pl : List Nat} {ct : Nat → List Bl} {w w' : World}
theorem DQ.mem (_h : DQ w0 N0 U X c z d g sz m mn lw hi k nb fm tm fr Q ss nd ws pl ct w) {i a b : Nat} (hx : ws[i]? = some (a, b)) : a ∈ trs ws pl ∧ b ∈ trs ws pl ∧ a ≠ b := by
  have hp := trs_perm pl hx
  obtain ⟨ly, bs, q, f, rb, h1, h2, h3⟩ := _h.ex
  have hn := hp.nodup_iff.1 h2.nd
  refine ⟨hp.mem_iff.2 (by simp), hp.mem_iff.2 (by simp), ?_⟩
  have := (List.nodup_cons.1 hn).1
  intro e
  exact this (by rw [e]; simp)
theorem DQ.tray (h : DQ w0 N0 U X c z d g sz m mn lw hi k nb fm tm fr Q ss nd ws pl ct w) {t : Nat} (ht : t ∈ trs ws pl) : ∃ r, TRy N0 w c t r (ct t) ∧ (ct t).length ≤ 4 := by
  obtain ⟨ly, bs, q, f, rb, h1, h2, h3⟩ := h.ex
  exact ⟨_, h2.tr t ht, (h2.cn t ht).2.1⟩
theorem DQ.cells (h : DQ w0 N0 U X c z d g sz m mn lw hi k nb fm tm fr Q ss nd ws pl ct w) {i a b : Nat} (hx : ws[i]? = some (a, b)) : w.cell? ⟨g, i * 2, none⟩ = some (ptr a) ∧ w.cell? ⟨g, i * 2 + 1, none⟩ = some (ptr b) ∧ (∀ j, w.frozen? ⟨g, j, none⟩ = false) ∧ g < w.heap.size := by
  obtain ⟨cp, e1, o1⟩ := h.db.d1
  obtain ⟨f0, f1⟩ := flatP_get ws i (a, b) hx
  have hn : i < ws.length := (List.getElem?_eq_some_iff.mp hx).1
  exact ⟨(o1.cellAt (i * 2) (by omega)).trans f0, (o1.cellAt (i * 2 + 1) (by omega)).trans f1, o1.frozenAt, (o1.lt g rfl).2⟩
/-- The swap of a pair, in one memory. -/
theorem DQ.swapped (h : DQ w0 N0 U X c z d g sz m mn lw hi k nb fm tm fr Q ss nd ws pl ct w) (hN : w0.heap.size ≤ N0) {i a b : Nat} (hx : ws[i]? = some (a, b)) :
    Calls Tryz.prog 167 #[.pointer (some ⟨g, i * 2, none⟩)] w fun ev w' => ev = .returned (.tuple #[]) ∧ DQ w0 N0 U X c z d g sz m mn lw hi k nb fm tm fr Q ss nd (ws.set i (b, a)) pl ct w' ∧ UK U w w' := by
  obtain ⟨cp, e1, o1⟩ := h.db.d1
  have hn : i < ws.length := (List.getElem?_eq_some_iff.mp hx).1
  refine (swap_ok o1 hx).mono ?_
  rintro ev w' ⟨rfl, o2, hc, _⟩
  have hp1 := trs_perm pl hx
  have hp2 := trs_set hn b a pl
  have hpp : (trs (ws.set i (b, a)) pl).Perm (trs ws pl) := (hp2.trans (List.Perm.swap a b _)).trans hp1.symm
  obtain ⟨ly, bs, q, f, rb, h1, h2, h3⟩ := h.ex
  have hd : DB N0 w' c d g (ws.set i (b, a)) pl := h.db.pair (by simp) hc e1 o2
  exact ⟨rfl, h.own hN (hc.mono (by decide) (Nat.le_refl _)) hd (hpp.nodup_iff.2 h2.nd) (fun t ht => hpp.mem_iff.1 ht) (fun t ht hn => absurd (hpp.mem_iff.2 ht) hn) (fun t ht => ht) (Nat.le_refl _)⟩
theorem own_max {b e size n : Nat} {v : Value} {xs : List Value} (h : w.ownsRow b e size v n xs) : n ≤ 9223372036854775807 := by
  rcases h.2 with ⟨_, rfl⟩ | ⟨g, cap, cur, _, _, _, h1, h2, _⟩
  · omega
  · unfold maxLen at h2; omega
theorem DQ.pile (h : DQ w0 N0 U X c z d g sz m mn lw hi k nb fm tm fr Q ss nd ws pl ct w) : ∃ p cp, w.cell? ⟨d, 2, none⟩ = some (.slice p pl.length cp) ∧ w.ownsRow N0 175 1 (.slice p pl.length cp) pl.length (ptrl pl) ∧ d < w.heap.size ∧ w.frozen? ⟨d, 2, none⟩ = false := by
  obtain ⟨p, cp, e2, o2⟩ := h.db.d2
  exact ⟨p, cp, e2, o2, h.db.tg.lt, h.db.fz 2⟩
set_option maxRecDepth 100000 in
set_option maxHeartbeats 4000000 in
/-- load where the loaded tray has an object. -/
theorem load_full (h : DQ w0 N0 U X c z d g sz m mn lw hi k nb fm tm fr Q ss nd ws pl ct w) {i a b : Nat} (hx : ws[i]? = some (a, b)) (hne : ct a ≠ []) :
    Calls Tryz.prog 99 #[.pointer (some ⟨d, 0, none⟩), .pointer (some ⟨g, i * 2, none⟩)] w fun ev w' => ev = .returned (.tuple #[]) ∧ w' = w := by
  obtain ⟨ga, gb, gf, gl⟩ := h.cells hx
  obtain ⟨ma, mb', hab⟩ := h.mem hx
  obtain ⟨r, hT, hl4⟩ := h.tray ma
  obtain ⟨p, cp, e2, o2, dl, df⟩ := h.pile
  have HC := hide (tcount_ok hT)
  have hpos : 0 < (ct a).length := List.length_pos_iff.2 hne
  have hz : (((ct a).length : Int) == 0) = false := by simp; omega
  generalize (ct a).length = n at *
  unfold ptr at ga
  have hmx := own_max o2
  clear o2 hT h
  go_enter Tryz.func99, Tryz.ntmps99
  go_wp2_with fail
  refine (unhide HC).mono ?_
  rintro ev w1 ⟨rfl, rfl⟩
  by_cases hp : pl.length = 0
  · rw [hp] at e2
    go_wp2_with fail
    refine wp_loop_rounds 1 ?_
    rw [rounds_succ]
    go_wp2
    go_end0
    exact ⟨rfl, rfl⟩
  · obtain ⟨K, hK⟩ : ∃ K, pl.length = K + 1 := ⟨pl.length - 1, by omega⟩
    rw [hK] at e2 hmx
    have hKm : K ≤ 9223372036854775806 := by omega
    have hk2 : ((K + 1 : Nat) : Int) - 1 = (K : Int) := by omega
    have hk0 : (0 : Int) ≤ (K : Int) := by omega
    have hk1 : decide ((K : Int) ≥ 0) = true := by simp
    have hk3 : decide ((0 : Int) ≤ (K : Int)) = true := by simp
    clear hK hp
    go_wp2_with fail
    refine wp_loop_rounds 1 ?_
    rw [rounds_succ]
    go_wp2_with fail
    refine (unhide HC).mono ?_
    rintro ev w2 ⟨rfl, rfl⟩
    go_wp2
    go_end0
    exact ⟨rfl, rfl⟩
end
end Mg
end Go.Proofs.YtcbmfakjfoggaaaGreatDoor
namespace Go.Proofs.YtcbmfakjfoggaaaGreatDoor
open Go.RowKit Go.Maps
namespace Mg
open Fr Bd Zn Dz Sb
theorem flatP_set1 : ∀ (l : List (Nat × Nat)) (i x y z : Nat), l[i]? = some (z, y) → (flatP l).set (i * 2) (ptr x) = flatP (l.set i (x, y))
  | [], i, x, y, z, h => by simp at h
  | u :: l, 0, x, y, z, h => by
    simp only [List.getElem?_cons_zero, Option.some.injEq] at h
    subst h
    rfl
  | u :: l, i + 1, x, y, z, h => by
    have := flatP_set1 l i x y z (by simpa using h)
    have e : flatP (u :: l) = ptr u.1 :: ptr u.2 :: flatP l := rfl
    have e2 : flatP ((u :: l).set (i + 1) (x, y)) = ptr u.1 :: ptr u.2 :: flatP (l.set i (x, y)) := rfl
    rw [e, e2, show (i + 1) * 2 = i * 2 + 1 + 1 from by omega, ← this]
    rfl
section
variable {w0 : World} {N0 : Nat} {U : Nat → Prop} {X : Nat → Option Obj} {c z d g : Nat} {sz : Int} {m : Nat} {mn lw hi : Int} {k : Nat} {nb fm tm : Nat → Nat} {fr : Nat → List Nat} {Q : Nat} {ss : List Sl} {nd : Nat → Nd} {ws : List (Nat × Nat)} {pl : List Nat} {ct : Nat → List Bl} {w w' : World}
/-- The pile's row written anew, and told to the depot. -/
theorem DB.piled (h : DB N0 w c d g ws pl) (hc : Chg [some 175] N0 w w') {pl' : List Nat} {p : Option Addr} {cp : Nat} (ho : w'.ownsRow N0 175 1 (.slice p pl'.length cp) pl'.length (ptrl pl')) : DB N0 (w'.setCell ⟨d, 2, none⟩ (.slice p pl'.length cp)) c d g ws pl' ∧ Chg [some 182, some 175, some 177] N0 w (w'.setCell ⟨d, 2, none⟩ (.slice p pl'.length cp)) := by
  have hs : Same [182, 177] w w' := hc.toSame (by decide)
  obtain ⟨cp1, e1, o1⟩ := h.d1
  obtain ⟨q, cp2, e2, o2⟩ := h.d2
  have hc' := fun j => cell_same hs (by simp) h.tg j
  have ht := tag_same hs (by simp) h.tg
  have hc2 : Chg [some 182] N0 w' (w'.setCell ⟨d, 2, none⟩ (.slice p pl'.length cp)) := Chg.set ht h.ge _ _
  refine ⟨⟨(cso (by simp)).trans ((hc' 0).trans h.d0), ⟨cp1, (cso (by simp)).trans ((hc' 1).trans e1), own_chg (own_same o1 hs (by simp)) hc2 (by decide)⟩, ⟨p, cp, css ((hc' 2).trans e2), own_chg ho hc2 (by decide)⟩, ht.set _ _, h.ge, fun o => by rw [World.frozen?_setCell]; exact (World.frozen?_of_block (w := w) (a := ⟨d, o, none⟩) (hs d 182 (by simp) h.tg)).trans (h.fz o)⟩, (hc.mono (by decide) (Nat.le_refl _)).trans (hc2.mono (by decide) (Nat.le_refl _))⟩
/-- The pair's first cell. -/
theorem pair_set1 {g cp : Nat} (ho : w.ownsRow N0 177 2 (.slice (some ⟨g, 0, none⟩) ws.length cp) ws.length (flatP ws)) {i x y z : Nat} (hx : ws[i]? = some (z, y)) :
    (w.setCell ⟨g, i * 2, none⟩ (ptr x)).ownsRow N0 177 2 (.slice (some ⟨g, 0, none⟩) ws.length cp) ws.length (flatP (ws.set i (x, y))) ∧ Chg [some 177] N0 w (w.setCell ⟨g, i * 2, none⟩ (ptr x)) := by
  have hg : N0 ≤ g := (ho.lt g rfl).1
  have ht : Tag w g 177 := by
    rcases ho.2 with ⟨e, _⟩ | ⟨g', cap, cur, e, _, hh, _⟩
    · cases e
    · simp only [Value.slice.injEq, Option.some.injEq, Addr.mk.injEq] at e
      obtain ⟨⟨rfl, _⟩, _⟩ := e
      exact ⟨cur, _, hh⟩
  have h1 := (ho.stored (i * 2) (ptr x)).1
  rw [flatP_set1 ws i x y z hx] at h1
  exact ⟨h1, Chg.set ht hg _ _⟩
set_option maxRecDepth 100000 in
set_option maxHeartbeats 8000000 in
theorem load_empty (h : DQ w0 N0 U X c z d g sz m mn lw hi k nb fm tm fr Q ss nd ws pl ct w) (hN : w0.heap.size ≤ N0) {i a b : Nat} (hx : ws[i]? = some (a, b)) (ha : ct a = []) :
    Calls Tryz.prog 99 #[.pointer (some ⟨d, 0, none⟩), .pointer (some ⟨g, i * 2, none⟩)] w fun ev w' => ev = .returned (.tuple #[]) ∧ ∃ a' b' pl', LdR ct a b pl a' b' pl' ∧ DQ w0 N0 U X c z d g sz m mn lw hi k nb fm tm fr Q ss nd (ws.set i (a', b')) pl' ct w' ∧ UK U w w' := by
  have hn : i < ws.length := (List.getElem?_eq_some_iff.mp hx).1
  obtain ⟨ga, _, _, _⟩ := h.cells hx
  obtain ⟨ma, mb', hab⟩ := h.mem hx
  obtain ⟨r, hT, _⟩ := h.tray ma
  have hc0 := tcount_ok hT
  rw [ha] at hc0
  have HC := hide hc0
  have HSW := hide (h.swapped hN hx)
  have hx2 : (ws.set i (b, a))[i]? = some (b, a) := by rw [List.getElem?_set_self hn]
  have hss : ∀ x y, (ws.set i (b, a)).set i (x, y) = ws.set i (x, y) := fun x y => by rw [List.set_set]
  have HSS := hide hss
  have HX2 := hide hx2
  have HA := hide ha
  unfold ptr at ga
  clear hT h hc0 hss hx2 ha ma
  generalize hw2 : ws.set i (b, a) = ws2 at *
  have HW2 := hide hw2
  clear hw2
  simp only [List.length_nil] at HC
  go_enter Tryz.func99, Tryz.ntmps99
  go_wp2_with fail
  refine (unhide HC).mono ?_
  rintro ev w1 ⟨rfl, rfl⟩
  go_wp2_with fail
  refine (unhide HSW).mono ?_
  rintro ev w2 ⟨rfl, h2, uk2⟩
  obtain ⟨ga2, _, gf2, gl2⟩ := h2.cells (unhide HX2)
  obtain ⟨mb2, _, _⟩ := h2.mem (unhide HX2)
  obtain ⟨r2, hT2, hl2⟩ := h2.tray mb2
  obtain ⟨p, cp, e2, o2, dl, df⟩ := h2.pile
  have hmx := own_max o2
  have HC2 := hide (tcount_ok hT2)
  have H2 := hide h2
  have HU2 := hide uk2
  have HO2 := hide o2
  unfold ptr at ga2
  clear h2 uk2 o2 hT2 HC HSW ga
  have RES : Hid (∀ pl', LdR ct a b pl b a pl' → pl' = pl → ∃ a' b' pl', LdR ct a b pl a' b' pl' ∧ DQ w0 N0 U X c z d g sz m mn lw hi k nb fm tm fr Q ss nd (ws.set i (a', b')) pl' ct w2 ∧ UK U w1 w2) := fun pl' hl e => by
    subst e
    refine ⟨b, a, pl', hl, ?_, unhide HU2⟩
    rw [unhide HW2]
    exact unhide H2
  by_cases hp : pl.length = 0
  · have hpl : pl = [] := List.length_eq_zero_iff.1 hp
    have HL : Hid (LdR ct a b pl b a pl) := by
      subst hpl
      by_cases hb : ct b = []
      · exact LdR.none (unhide HA) hb
      · exact LdR.swap [] (unhide HA) hb
    clear HC2 hpl
    rw [hp] at e2
    go_wp2_with fail
    refine wp_loop_rounds 1 ?_
    rw [rounds_succ]
    go_wp2
    go_end0
    exact ⟨rfl, (unhide RES) pl (unhide HL) rfl⟩
  · obtain ⟨K, hK⟩ : ∃ K, pl.length = K + 1 := ⟨pl.length - 1, by omega⟩
    have HK := hide hK
    rw [hK] at e2 hmx
    have hKm : K ≤ 9223372036854775806 := by omega
    have hk2 : ((K + 1 : Nat) : Int) - 1 = (K : Int) := by omega
    have hk0 : (0 : Int) ≤ (K : Int) := by omega
    have hk1 : decide ((K : Int) ≥ 0) = true := by simp
    have hk3 : decide ((0 : Int) ≤ (K : Int)) = true := by simp
    clear hK hp
    by_cases hb : ct b = []
    · obtain ⟨pl0, t, rfl⟩ : ∃ pl0 t, pl = pl0 ++ [t] := by
        refine ⟨pl.dropLast, pl.getLast (fun e => by have := unhide HK; rw [e] at this; simp at this), ?_⟩
        exact (List.dropLast_concat_getLast _).symm
      have hl0 : pl0.length = K := by have := unhide HK; simp at this; omega
      have ho := unhide HO2
      rw [unhide HK] at ho
      obtain ⟨pg, cap, hpv, _⟩ := ho.form (by omega)
      simp only [Value.slice.injEq, true_and] at hpv
      obtain ⟨rfl, rfl⟩ := hpv
      have hpt : w2.cell? ⟨pg, K, none⟩ = some (.pointer (some ⟨t, 0, none⟩)) := by
        have h1 : (pl0 ++ [t])[K]? = some t := by rw [← hl0]; simp
        exact (ho.cellAt K (by omega)).trans (ptrl_at h1)
      have hc0 := unhide HC2
      rw [hb] at hc0
      simp only [List.length_nil] at hc0
      have HC3 := hide hc0
      have ho2 := (unhide H2).db.d1
      obtain ⟨gcp, ge1, go1⟩ := ho2
      obtain ⟨go3, gch⟩ := pair_set1 go1 (x := t) (unhide HX2)
      have hdg : d ≠ g := by
        intro e
        have h1 := (unhide H2).db.tg
        rcases go1.2 with ⟨e', _⟩ | ⟨g', cap', cur', e', _, hh, _⟩
        · cases e'
        · simp only [Value.slice.injEq, Option.some.injEq, Addr.mk.injEq] at e'
          obtain ⟨⟨rfl, _⟩, _⟩ := e'
          exact h1.ne (t' := 177) ⟨cur', _, hh⟩ (by decide) e
      have hd3 := (unhide H2).db.pair (by rw [List.length_set]) gch ge1 go3
      have oP := own_chg ho gch (by decide)
      have HDEL := hide (tdel_own N0 (some ⟨pg, 0, none⟩) (K + 1) cp K _ (w2.setCell ⟨g, i * 2, none⟩ (ptr t)) oP (by omega) (fun v hv => by
        simp only [ptrl, List.mem_map] at hv
        obtain ⟨x, _, rfl⟩ := hv
        rfl))
      have e23 : (w2.setCell ⟨g, i * 2, none⟩ (ptr t)).cell? ⟨d, 2, none⟩ = some (.slice (some ⟨pg, 0, none⟩) (K + 1) cp) := (cso (fun e => hdg (Addr.mk.inj e).1.symm)).trans e2
      have gf0 := gf2 (i * 2)
      have HGC := hide gch
      have HOP := hide oP
      have HD3 := hide hd3
      have hdm : d < w2.heap.size := dl
      clear RES HC2 HO2 hc0 ho go1 go3 gch hd3 oP
      unfold ptr at HDEL HGC HOP HD3 e23
      go_wp2_with fail
      refine wp_loop_rounds 2 ?_
      rw [rounds_succ]
      go_wp2_with fail
      refine (unhide HC3).mono ?_
      rintro ev w3 ⟨rfl, rfl⟩
      go_wp2_with fail
      refine (unhide HDEL).mono ?_
      rintro ev w4 ⟨rfl, o4, q4⟩
      have hC4 := Chg.grown q4 (unhide HOP)
      have hs4 : Sb.Same [182, 177] (w3.setCell ⟨g, i * 2, none⟩ (.pointer (some ⟨t, 0, none⟩))) w4 := hC4.toSame (by decide)
      have hD3 := unhide HD3
      have e24 := (cell_same hs4 (by simp) hD3.tg 2).trans e23
      have df4 : w4.frozen? ⟨d, 2, none⟩ = false := (World.frozen?_of_block (a := ⟨d, 2, none⟩) (hs4 d 182 (by simp) hD3.tg)).trans (hD3.fz 2)
      have hpe : (ptrl (pl0 ++ [t])).eraseIdx K = ptrl pl0 := by
        unfold ptrl
        rw [List.map_append, ← hl0]
        rw [List.eraseIdx_append_of_length_le (by simp)]
        simp
      rw [hpe, show K + 1 - 1 = pl0.length by omega] at o4
      obtain ⟨hD5, hC5⟩ := hD3.piled hC4 o4
      rw [hl0] at hD5 hC5
      have hCC : Chg [some 182, some 175, some 177] N0 w3 (w4.setCell ⟨d, 2, none⟩ (.slice (some ⟨pg, 0, none⟩) K cp)) := ((unhide HGC).mono (by decide) (Nat.le_refl _)).trans hC5
      have hn2 : i < ws2.length := (List.getElem?_eq_some_iff.mp (unhide HX2)).1
      have hp1 := (trs_app ws2 pl0 t).trans (List.Perm.cons t (trs_perm pl0 (unhide HX2)))
      have hp2 := trs_set hn2 t a pl0
      obtain ⟨ly, bs, q, f, rb, _, hTS, _⟩ := (unhide H2).ex
      have hnd := hp1.nodup_iff.1 hTS.nd
      have hnd2 : (t :: a :: trs (ws2.eraseIdx i) pl0).Nodup := by
        simp only [List.nodup_cons, List.mem_cons, not_or] at hnd ⊢
        exact ⟨⟨hnd.1.2.1, hnd.1.2.2⟩, hnd.2.2.1, hnd.2.2.2⟩
      obtain ⟨D5, UK5⟩ := (unhide H2).own hN hCC hD5 (hp2.nodup_iff.2 hnd2) (fun x hx' => hp1.mem_iff.2 (by
        have := hp2.mem_iff.1 hx'
        simp only [List.mem_cons] at this ⊢
        rcases this with h' | h' | h'
        · exact Or.inl h'
        · exact Or.inr (Or.inr (Or.inl h'))
        · exact Or.inr (Or.inr (Or.inr h')))) (fun x hx' hno => by
        have h1 := hp1.mem_iff.1 hx'
        have h2 : x ∉ t :: a :: trs (ws2.eraseIdx i) pl0 := fun h' => hno (hp2.mem_iff.2 h')
        simp only [List.mem_cons, not_or] at h1 h2
        rcases h1 with h' | h' | h' | h'
        · exact absurd h' h2.1
        · rw [h']; exact hb
        · exact absurd h' h2.2.1
        · exact absurd h' h2.2.2) (fun x hx' => by simp [hx']) (by simp)
      rw [unhide HSS] at D5
      have hx5 : (ws.set i (t, a))[i]? = some (t, a) := by rw [List.getElem?_set_self hn]
      obtain ⟨ga5, _, _, _⟩ := D5.cells hx5
      obtain ⟨mt5, _, _⟩ := D5.mem hx5
      obtain ⟨r5, hT5, _⟩ := D5.tray mt5
      have ht4 : (ct t).length = 4 := (unhide H2).pf t (by simp)
      have hc5 := tcount_ok hT5
      rw [ht4] at hc5
      have HC5 := hide hc5
      have HD5 := hide D5
      have HU5 := hide ((unhide HU2).trans UK5)
      have HL : Hid (LdR ct a b (pl0 ++ [t]) t a pl0) := LdR.pile pl0 t (unhide HA) hb
      unfold ptr at ga5
      clear hC4 hs4 hD3 hpe o4 q4 hD5 hC5 hCC hp1 hp2 hTS hnd hnd2 D5 UK5 hx5 mt5 hT5 ht4 hc5 HDEL HGC HOP HD3 e23 hb hpt ga2
      have hz : (((4 : Nat) : Int) == 0) = false := rfl
      go_wp2_with fail
      generalize w4.setCell ⟨d, 2, none⟩ (.slice (some ⟨pg, 0, none⟩) K cp) = w5 at *
      rw [rounds_succ]
      clear hk1 hk2 hk3 hk0 hmx e24 df4 e2 df ge1 hdg gf0 gf2
      have HL0 := hl0
      clear hl0
      by_cases hK0 : K = 0
      · have hj : ((K : Int) - 1) = -1 := by omega
        rw [hj]
        clear hj
        go_wp2
        go_end0
        exact ⟨rfl, t, a, pl0, unhide HL, unhide HD5, unhide HU5⟩
      · have hj : ∃ J : Nat, ((K : Int) - 1) = J := ⟨K - 1, by omega⟩
        obtain ⟨J, hj⟩ := hj
        rw [hj]
        have hJ1 : decide ((J : Int) ≥ 0) = true := by simp
        have hJ3 : decide ((0 : Int) ≤ (J : Int)) = true := by simp
        clear hj hK0 hKm
        go_wp2_with fail
        refine (unhide HC5).mono ?_
        rintro ev w6 ⟨rfl, rfl⟩
        go_wp2
        go_end0
        exact ⟨rfl, t, a, pl0, unhide HL, unhide HD5, unhide HU5⟩
    · have HL : Hid (LdR ct a b pl b a pl) := LdR.swap pl (unhide HA) hb
      have hpos : 0 < (ct b).length := List.length_pos_iff.2 hb
      have hz : (((ct b).length : Int) == 0) = false := by simp; omega
      clear hb
      generalize (ct b).length = n at *
      go_wp2_with fail
      refine wp_loop_rounds 1 ?_
      rw [rounds_succ]
      go_wp2_with fail
      refine (unhide HC2).mono ?_
      rintro ev w3 ⟨rfl, rfl⟩
      go_wp2
      go_end0
      exact ⟨rfl, (unhide RES) pl (unhide HL) rfl⟩
end
end Mg
end Go.Proofs.YtcbmfakjfoggaaaGreatDoor
