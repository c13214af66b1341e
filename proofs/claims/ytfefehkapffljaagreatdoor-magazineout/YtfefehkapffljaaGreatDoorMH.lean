/- A loaded tray goes on the pile, a new one in its place · A depot's Give, by contract. -/
import Derived.Test.YtfefehkapffljaaGreatDoorMG
import Derived.Deep.RegionHeldLaw
namespace Go.Proofs.YtfefehkapffljaaGreatDoor
open Go.RowKit Go.Maps
namespace Mg
open Fr Bd Zn Dz Sb
section
variable {w0 : World} {N0 : Nat} {U : Nat → Prop} {c z d g : Nat} {sz : Int} {m : Nat} {mn lw hi : Int} {k : Nat} {nb fm tm : Nat → Nat} {fr : Nat → List Nat} {Q : Nat} {ss ss' : List Sl} {nd nd' : Nat → Nd} {ws : List (Nat × Nat)} {pl L : List Nat} {ct : Nat → List Bl} {w w' : World}
theorem DB.cells (h : DB N0 w c d g ws pl) {i a b : Nat} (hx : ws[i]? = some (a, b)) : w.cell? ⟨g, i * 2, none⟩ = some (ptr a) ∧ (∀ j, w.frozen? ⟨g, j, none⟩ = false) ∧ g < w.heap.size ∧ Tag w g 168 := by
  obtain ⟨cp, e1, o1⟩ := h.d1
  obtain ⟨f0, f1⟩ := flatP_get ws i (a, b) hx
  have hn : i < ws.length := (List.getElem?_eq_some_iff.mp hx).1
  refine ⟨(o1.cellAt (i * 2) (by omega)).trans f0, o1.frozenAt, (o1.lt g rfl).2, ?_⟩
  rcases o1.2 with ⟨e, _⟩ | ⟨g', cap, cur, e, _, hh, _⟩
  · cases e
  · simp only [Value.slice.injEq, Option.some.injEq, Addr.mk.injEq] at e
    obtain ⟨⟨rfl, _⟩, _⟩ := e
    exact ⟨cur, _, hh⟩
set_option maxRecDepth 100000 in
set_option maxHeartbeats 8000000 in
theorem DX.pileup (h : DX w0 N0 U c z d g sz m mn lw hi k nb fm tm fr Q ss nd ws pl L ct w) (hN : w0.heap.size ≤ N0) (hNw : N0 ≤ w.heap.size) (hpl : pl.length ≤ 1000000) {i a b tn b2 b3 b4 : Nat} (hx : ws[i]? = some (a, b)) (x2 : w.cell? ⟨b2, 0, none⟩ = some (.pointer (some ⟨d, 0, none⟩))) (x3 : w.cell? ⟨b3, 0, none⟩ = some (.pointer (some ⟨g, i * 2, none⟩))) (x4 : w.cell? ⟨b4, 0, none⟩ = some (.pointer (some ⟨tn, 0, none⟩))) (t2 : Tag w b2 83) (t3 : Tag w b3 169) (t4 : Tag w b4 165) (h4 : ∀ p cp, w.cell? ⟨d, 2, none⟩ = some (.slice p pl.length cp) → some b4 ≠ (Value.slice p pl.length cp).ownBlock) :
    Calls Tryz.prog 150 #[.pointer (some ⟨b2, 0, none⟩), .pointer (some ⟨b3, 0, none⟩), .pointer (some ⟨b4, 0, none⟩)] w fun ev w' => ev = .returned (.tuple #[]) ∧ DX w0 N0 U c z d g sz m mn lw hi k nb fm tm fr Q ss nd (ws.set i (tn, b)) (pl ++ [a]) L ct w' ∧ UK U w w' := by
  obtain ⟨i0, hi0, hz0, hz1, hz2⟩ := info165
  have HI := hide hi0
  have HZ := hide hz0
  have HZ1 := hide hz1
  have HZ2 := hide hz2
  clear hi0 hz0 hz1 hz2
  obtain ⟨ga, gf, gl, gt⟩ := h.db.cells hx
  obtain ⟨p, cp, e2, o2⟩ := h.db.d2
  have dl := h.db.tg.lt
  have df := h.db.fz 2
  have h4' := h4 p cp e2
  have HH := hide h
  have BA : Below w.heap.size w (w.alloc (.cells #[.pointer (some ⟨a, 0, none⟩)] 165)).drew := (ballo (Below.refl _ _) _).drew
  have oA := own_b o2 BA
  have e2A := (BA.cell (p := ⟨d, 2, none⟩) dl).trans e2
  have dfA := (BA.frozen (p := ⟨d, 2, none⟩) dl).trans df
  have hNb : N0 ≤ (w.alloc (.cells #[.pointer (some ⟨a, 0, none⟩)] 165)).drew.heap.size := Nat.le_trans hNw BA.size
  have tdA := h.db.tg.b BA
  have HT2 := hide t2
  have HT3 := hide t3
  have HT4 := hide t4
  unfold ptr at ga
  have BB : Below w.heap.size w (w.alloc (.cells #[.pointer (some ⟨a, 0, none⟩)] 165)) := ballo (Below.refl _ _) _
  have x2B := (BB.cell (p := ⟨b2, 0, none⟩) t2.lt).trans x2
  have x3B := (BB.cell (p := ⟨b3, 0, none⟩) t3.lt).trans x3
  have e2B := (BB.cell (p := ⟨d, 2, none⟩) dl).trans e2
  have gaB := (BB.cell (p := ⟨g, i * 2, none⟩) gl).trans ga
  generalize hn : pl.length = n at *
  have HNL := hide hn
  clear h hn t2 t3 t4
  go_enter Tryz.func150, Tryz.ntmps150
  have nb2 : b2 ≠ d := (unhide HT2).ne (unhide HH).db.tg (by decide)
  have nb3 : b3 ≠ d := (unhide HT3).ne (unhide HH).db.tg (by decide)
  have nbg : g ≠ d := gt.ne (unhide HH).db.tg (by decide)
  have HKD : Hid (∀ (W : World) v, (W.cell? ⟨b2, 0, none⟩ = some (.pointer (some ⟨d, 0, none⟩)) ∧ W.cell? ⟨b3, 0, none⟩ = some (.pointer (some ⟨g, i * 2, none⟩)) ∧ W.cell? ⟨g, i * 2, none⟩ = some (.pointer (some ⟨a, 0, none⟩))) → ((W.setCell ⟨d, 2, none⟩ v).cell? ⟨b2, 0, none⟩ = some (.pointer (some ⟨d, 0, none⟩)) ∧ (W.setCell ⟨d, 2, none⟩ v).cell? ⟨b3, 0, none⟩ = some (.pointer (some ⟨g, i * 2, none⟩)) ∧ (W.setCell ⟨d, 2, none⟩ v).cell? ⟨g, i * 2, none⟩ = some (.pointer (some ⟨a, 0, none⟩)))) := fun W v h => ⟨(cso (fun e => nb2 (Addr.mk.inj e).1.symm)).trans h.1, (cso (fun e => nb3 (Addr.mk.inj e).1.symm)).trans h.2.1, (cso (fun e => nbg (Addr.mk.inj e).1.symm)).trans h.2.2⟩
  have HK0 : Hid (w.drew.cell? ⟨b2, 0, none⟩ = some (.pointer (some ⟨d, 0, none⟩)) ∧ w.drew.cell? ⟨b3, 0, none⟩ = some (.pointer (some ⟨g, i * 2, none⟩)) ∧ w.drew.cell? ⟨g, i * 2, none⟩ = some (.pointer (some ⟨a, 0, none⟩))) := ⟨x2, x3, ga⟩
  have HK1 : Hid ((w.alloc (.cells #[.pointer (some ⟨a, 0, none⟩)] 165)).drew.cell? ⟨b2, 0, none⟩ = some (.pointer (some ⟨d, 0, none⟩)) ∧ (w.alloc (.cells #[.pointer (some ⟨a, 0, none⟩)] 165)).drew.cell? ⟨b3, 0, none⟩ = some (.pointer (some ⟨g, i * 2, none⟩)) ∧ (w.alloc (.cells #[.pointer (some ⟨a, 0, none⟩)] 165)).drew.cell? ⟨g, i * 2, none⟩ = some (.pointer (some ⟨a, 0, none⟩))) := ⟨x2B, x3B, gaB⟩
  have T2A := (unhide HT2).b BA
  have T3A := (unhide HT3).b BA
  have gtA := gt.b BA
  go_wp2_with fail
  refine wp_region_held_drew (S := fun W => W.cell? ⟨b2, 0, none⟩ = some (.pointer (some ⟨d, 0, none⟩)) ∧ W.cell? ⟨b3, 0, none⟩ = some (.pointer (some ⟨g, i * 2, none⟩)) ∧ W.cell? ⟨g, i * 2, none⟩ = some (.pointer (some ⟨a, 0, none⟩))) (by kernel_rfl) (unhide HK0) (fun hHeld => ?_)
  refine wpAnyH_take (i := 0) (v := (.pointer (some ⟨d, 0, none⟩))) rfl (by kernel_rfl) (by kernel_rfl) (by kernel_rfl) (fun _ _ _ h => h) (Or.inl ⟨by rfl, ?_⟩) hHeld ?_
  · intro w hSw
    go_simp
  simp only [Act.put, List.setIfInBounds_toArray]
  refine wpAnyH_take (i := 1) (v := (.pointer (some ⟨d, 0, none⟩))) rfl (by kernel_rfl) (by kernel_rfl) (by kernel_rfl) (fun _ _ _ h => h) (Or.inl ⟨by rfl, ?_⟩) hHeld ?_
  · intro w hSw
    go_simp
  simp only [Act.put]
  refine wpAnyH_take (i := 2) (v := (.pointer (some ⟨d, 0, none⟩))) rfl (by kernel_rfl) (by kernel_rfl) (by kernel_rfl) (fun _ _ _ h => h) (Or.inl ⟨by rfl, ?_⟩) hHeld ?_
  · intro w hSw
    go_simp
  simp only [Act.put]
  refine wpAnyH_take (i := 3) (v := (.pointer (some ⟨d, 2, none⟩))) rfl (by kernel_rfl) (by kernel_rfl) (by kernel_rfl) (fun _ _ _ h => h) (Or.inl ⟨by rfl, ?_⟩) hHeld ?_
  · intro w hSw
    go_simp
  simp only [Act.put]
  refine wpAnyH_take (i := 5) (v := (.pointer (some ⟨g, i * 2, none⟩))) rfl (by kernel_rfl) (by kernel_rfl) (by kernel_rfl) (fun _ _ _ h => h) (Or.inl ⟨by rfl, ?_⟩) hHeld ?_
  · intro w hSw
    go_simp
  simp only [Act.put]
  refine wpAnyH_take (i := 6) (v := (.pointer (some ⟨g, i * 2, none⟩))) rfl (by kernel_rfl) (by kernel_rfl) (by kernel_rfl) (fun _ _ _ h => h) (Or.inl ⟨by rfl, ?_⟩) hHeld ?_
  · intro w hSw
    go_simp
  simp only [Act.put]
  refine wpAnyH_take (i := 7) (v := (.pointer (some ⟨g, i * 2, none⟩))) rfl (by kernel_rfl) (by kernel_rfl) (by kernel_rfl) (fun _ _ _ h => h) (Or.inl ⟨by rfl, ?_⟩) hHeld ?_
  · intro w hSw
    go_simp
  simp only [Act.put]
  refine wpAnyH_take (i := 8) (v := (.pointer (some ⟨a, 0, none⟩))) rfl (by kernel_rfl) (by kernel_rfl) (by kernel_rfl) (fun _ _ _ h => h) (Or.inl ⟨by rfl, ?_⟩) hHeld ?_
  · intro w hSw
    go_simp
  simp only [Act.put]
  refine wpAnyH_ready (rs := [4, 9]) (by kernel_rfl) (by simp) ?_
  refine AllReadyH.cons rfl (fun K hK => ?_) (AllReadyH.cons rfl (fun K hK => ?_) AllReadyH.nil)
  · go_simp
    refine hK.out _ _ (unhide HK0) (fun hHeld => ?_)
    clear hK K
    refine wpAnyH_ready (rs := [9]) (by kernel_rfl) (by simp) ?_
    refine AllReadyH.cons rfl (fun K hK => ?_) AllReadyH.nil
    go_simp
    refine hK.out _ _ (unhide HK1) (fun hHeld => ?_)
    clear hK K
    refine wpAnyH_ready (rs := [10]) (by kernel_rfl) (by simp) ?_
    refine AllReadyH.cons rfl (fun K hK => ?_) AllReadyH.nil
    (refine step_append_lies _ rfl (.tmp 7) (.tmp 12) 162 rfl N0 165 i0 (.pointer none) 1 8 Tryz.underlying162 (unhide HI) (unhide HZ) (unhide HZ1) (unhide HZ2) rfl (by decide) (.slice p n cp) n (ptrl pl) (by simp [Act.eval]) oA ⟨w.heap.size, 0, none⟩ 1 1 [.pointer (some ⟨a, 0, none⟩)] (by simp [Act.eval]) rfl (by intro j u hj; match j, hj with | 0, hj => (simp at hj; subst hj; simp [Addr.add])) (by intro u hu; simp at hu; subst hu; rfl) (by omega) (by unfold maxLen; omega) (by omega) hNb _ rfl ?_; intro g4 c4 w4 o4 q4 hg4 hg5; have e4 := q4.block d tdA.lt (own_nb oA tdA (by decide)); have zc4 : w4.cell? ⟨d, 2, none⟩ = some (.slice p n cp) := (World.cell?_of_block (a := ⟨d, 2, none⟩) e4).trans e2A; have zf4 : w4.frozen? ⟨d, 2, none⟩ = false := (World.frozen?_of_block (a := ⟨d, 2, none⟩) e4).trans dfA; have s4 : w4.cell? ⟨b2, 0, none⟩ = some (.pointer (some ⟨d, 0, none⟩)) ∧ w4.cell? ⟨b3, 0, none⟩ = some (.pointer (some ⟨g, i * 2, none⟩)) ∧ w4.cell? ⟨g, i * 2, none⟩ = some (.pointer (some ⟨a, 0, none⟩)) := ⟨(World.cell?_of_block (a := ⟨b2, 0, none⟩) (q4.block b2 T2A.lt (own_nb oA T2A (by decide)))).trans (unhide HK1).1, (World.cell?_of_block (a := ⟨b3, 0, none⟩) (q4.block b3 T3A.lt (own_nb oA T3A (by decide)))).trans (unhide HK1).2.1, (World.cell?_of_block (a := ⟨g, i * 2, none⟩) (q4.block g gtA.lt (own_nb oA gtA (by decide)))).trans (unhide HK1).2.2⟩)
    refine hK.out _ _ s4 (fun hHeld => ?_)
    clear hK K
    simp only [Act.put, List.setIfInBounds_toArray]
    refine wpAnyH_take (i := 11) (v := (.pointer (some ⟨d, 0, none⟩))) rfl (by kernel_rfl) (by kernel_rfl) (by kernel_rfl) (fun _ _ _ h => h) (Or.inl ⟨by rfl, ?_⟩) hHeld ?_
    · intro w hSw
      go_simp
    simp only [Act.put]
    refine wpAnyH_take (i := 12) (v := (.pointer (some ⟨d, 2, none⟩))) rfl (by kernel_rfl) (by kernel_rfl) (by kernel_rfl) (fun _ _ _ h => h) (Or.inl ⟨by rfl, ?_⟩) hHeld ?_
    · intro w hSw
      go_simp
    simp only [Act.put]
    refine wpAnyH_ready (rs := [13]) (by kernel_rfl) (by simp) ?_
    refine AllReadyH.cons rfl (fun K hK => ?_) AllReadyH.nil
    go_simp
    refine hK.out _ _ ((unhide HKD) _ _ s4) (fun hHeld => ?_)
    clear hK K
    refine wpAnyH_done (by kernel_rfl) ?_ _
    have hC4 : Chg [some 165] N0 w w4 := (Chg.below BA).trans (Chg.grown q4 oA)
    have hln : (pl ++ [a]).length = n + 1 := by simp [unhide HNL]
    have hpt : ptrl (pl ++ [a]) = ptrl pl ++ [.pointer (some ⟨a, 0, none⟩)] := by unfold ptrl ptr; simp
    have o4' : w4.ownsRow N0 165 1 (.slice (some ⟨g4, 0, none⟩) (pl ++ [a]).length c4) (pl ++ [a]).length (ptrl (pl ++ [a])) := by rw [hln, hpt]; exact o4
    obtain ⟨hD5, hC5⟩ := (unhide HH).db.piled hC4 o4'
    rw [hln] at hD5 hC5
    obtain ⟨gcp, ge5, go5⟩ := hD5.d1
    obtain ⟨go6, gc6⟩ := pair_set1 go5 (x := tn) hx
    have hD6 := hD5.pair (by rw [List.length_set]) gc6 ge5 go6
    obtain ⟨ga5, gf5, _, _⟩ := hD5.cells hx
    have gf6 := gf5 (i * 2)
    have T4A := (unhide HT4).b BA
    have y4 : (w4.setCell ⟨d, 2, none⟩ (.slice (some ⟨g4, 0, none⟩) (n + 1) c4)).cell? ⟨b4, 0, none⟩ = some (.pointer (some ⟨tn, 0, none⟩)) := (cso (fun e => (unhide HT4).ne (unhide HH).db.tg (by decide) (Addr.mk.inj e).1.symm)).trans ((World.cell?_of_block (a := ⟨b4, 0, none⟩) (q4.block b4 T4A.lt h4')).trans ((BA.cell (p := ⟨b4, 0, none⟩) (unhide HT4).lt).trans x4))
    have y3 : (w4.setCell ⟨d, 2, none⟩ (.slice (some ⟨g4, 0, none⟩) (n + 1) c4)).cell? ⟨b3, 0, none⟩ = some (.pointer (some ⟨g, i * 2, none⟩)) := ((unhide HKD) _ _ s4).2.1
    have RES := hide ((unhide HH).own hN (hC5.trans (gc6.mono (by decide) (Nat.le_refl _))) hD6)
    unfold ptr at ga5 RES
    clear hC4 hln hpt o4' hD5 hC5 go5 go6 gc6 hD6 o4 q4 s4 zc4 zf4 e4 hg4 hg5 oA e2A e2 e2B dfA df ga gaB gf5 ge5 hHeld T4A x2 x3 x4 x2B x3B HK0 HK1 HKD BA BB tdA o2
    generalize w4.setCell ⟨d, 2, none⟩ (.slice (some ⟨g4, 0, none⟩) (n + 1) c4) = w5 at *
    go_wp2
    go_end0
    exact ⟨rfl, unhide RES⟩
  · go_simp
    refine hK.out _ _ (unhide HK1) (fun hHeld => ?_)
    clear hK K
    refine wpAnyH_ready (rs := [4]) (by kernel_rfl) (by simp) ?_
    refine AllReadyH.cons rfl (fun K hK => ?_) AllReadyH.nil
    go_simp
    refine hK.out _ _ (unhide HK1) (fun hHeld => ?_)
    clear hK K
    refine wpAnyH_ready (rs := [10]) (by kernel_rfl) (by simp) ?_
    refine AllReadyH.cons rfl (fun K hK => ?_) AllReadyH.nil
    (refine step_append_lies _ rfl (.tmp 7) (.tmp 12) 162 rfl N0 165 i0 (.pointer none) 1 8 Tryz.underlying162 (unhide HI) (unhide HZ) (unhide HZ1) (unhide HZ2) rfl (by decide) (.slice p n cp) n (ptrl pl) (by simp [Act.eval]) oA ⟨w.heap.size, 0, none⟩ 1 1 [.pointer (some ⟨a, 0, none⟩)] (by simp [Act.eval]) rfl (by intro j u hj; match j, hj with | 0, hj => (simp at hj; subst hj; simp [Addr.add])) (by intro u hu; simp at hu; subst hu; rfl) (by omega) (by unfold maxLen; omega) (by omega) hNb _ rfl ?_; intro g4 c4 w4 o4 q4 hg4 hg5; have e4 := q4.block d tdA.lt (own_nb oA tdA (by decide)); have zc4 : w4.cell? ⟨d, 2, none⟩ = some (.slice p n cp) := (World.cell?_of_block (a := ⟨d, 2, none⟩) e4).trans e2A; have zf4 : w4.frozen? ⟨d, 2, none⟩ = false := (World.frozen?_of_block (a := ⟨d, 2, none⟩) e4).trans dfA; have s4 : w4.cell? ⟨b2, 0, none⟩ = some (.pointer (some ⟨d, 0, none⟩)) ∧ w4.cell? ⟨b3, 0, none⟩ = some (.pointer (some ⟨g, i * 2, none⟩)) ∧ w4.cell? ⟨g, i * 2, none⟩ = some (.pointer (some ⟨a, 0, none⟩)) := ⟨(World.cell?_of_block (a := ⟨b2, 0, none⟩) (q4.block b2 T2A.lt (own_nb oA T2A (by decide)))).trans (unhide HK1).1, (World.cell?_of_block (a := ⟨b3, 0, none⟩) (q4.block b3 T3A.lt (own_nb oA T3A (by decide)))).trans (unhide HK1).2.1, (World.cell?_of_block (a := ⟨g, i * 2, none⟩) (q4.block g gtA.lt (own_nb oA gtA (by decide)))).trans (unhide HK1).2.2⟩)
    refine hK.out _ _ s4 (fun hHeld => ?_)
    clear hK K
    simp only [Act.put, List.setIfInBounds_toArray]
    refine wpAnyH_take (i := 11) (v := (.pointer (some ⟨d, 0, none⟩))) rfl (by kernel_rfl) (by kernel_rfl) (by kernel_rfl) (fun _ _ _ h => h) (Or.inl ⟨by rfl, ?_⟩) hHeld ?_
    · intro w hSw
      go_simp
    simp only [Act.put]
    refine wpAnyH_take (i := 12) (v := (.pointer (some ⟨d, 2, none⟩))) rfl (by kernel_rfl) (by kernel_rfl) (by kernel_rfl) (fun _ _ _ h => h) (Or.inl ⟨by rfl, ?_⟩) hHeld ?_
    · intro w hSw
      go_simp
    simp only [Act.put]
    refine wpAnyH_ready (rs := [13]) (by kernel_rfl) (by simp) ?_
    refine AllReadyH.cons rfl (fun K hK => ?_) AllReadyH.nil
    go_simp
    refine hK.out _ _ ((unhide HKD) _ _ s4) (fun hHeld => ?_)
    clear hK K
    refine wpAnyH_done (by kernel_rfl) ?_ _
    have hC4 : Chg [some 165] N0 w w4 := (Chg.below BA).trans (Chg.grown q4 oA)
    have hln : (pl ++ [a]).length = n + 1 := by simp [unhide HNL]
    have hpt : ptrl (pl ++ [a]) = ptrl pl ++ [.pointer (some ⟨a, 0, none⟩)] := by unfold ptrl ptr; simp
    have o4' : w4.ownsRow N0 165 1 (.slice (some ⟨g4, 0, none⟩) (pl ++ [a]).length c4) (pl ++ [a]).length (ptrl (pl ++ [a])) := by rw [hln, hpt]; exact o4
    obtain ⟨hD5, hC5⟩ := (unhide HH).db.piled hC4 o4'
    rw [hln] at hD5 hC5
    obtain ⟨gcp, ge5, go5⟩ := hD5.d1
    obtain ⟨go6, gc6⟩ := pair_set1 go5 (x := tn) hx
    have hD6 := hD5.pair (by rw [List.length_set]) gc6 ge5 go6
    obtain ⟨ga5, gf5, _, _⟩ := hD5.cells hx
    have gf6 := gf5 (i * 2)
    have T4A := (unhide HT4).b BA
    have y4 : (w4.setCell ⟨d, 2, none⟩ (.slice (some ⟨g4, 0, none⟩) (n + 1) c4)).cell? ⟨b4, 0, none⟩ = some (.pointer (some ⟨tn, 0, none⟩)) := (cso (fun e => (unhide HT4).ne (unhide HH).db.tg (by decide) (Addr.mk.inj e).1.symm)).trans ((World.cell?_of_block (a := ⟨b4, 0, none⟩) (q4.block b4 T4A.lt h4')).trans ((BA.cell (p := ⟨b4, 0, none⟩) (unhide HT4).lt).trans x4))
    have y3 : (w4.setCell ⟨d, 2, none⟩ (.slice (some ⟨g4, 0, none⟩) (n + 1) c4)).cell? ⟨b3, 0, none⟩ = some (.pointer (some ⟨g, i * 2, none⟩)) := ((unhide HKD) _ _ s4).2.1
    have RES := hide ((unhide HH).own hN (hC5.trans (gc6.mono (by decide) (Nat.le_refl _))) hD6)
    unfold ptr at ga5 RES
    clear hC4 hln hpt o4' hD5 hC5 go5 go6 gc6 hD6 o4 q4 s4 zc4 zf4 e4 hg4 hg5 oA e2A e2 e2B dfA df ga gaB gf5 ge5 hHeld T4A x2 x3 x4 x2B x3B HK0 HK1 HKD BA BB tdA o2
    generalize w4.setCell ⟨d, 2, none⟩ (.slice (some ⟨g4, 0, none⟩) (n + 1) c4) = w5 at *
    go_wp2
    go_end0
    exact ⟨rfl, unhide RES⟩
end
end Mg
end Go.Proofs.YtfefehkapffljaaGreatDoor
namespace Go.Proofs.YtfefehkapffljaaGreatDoor
open Go.RowKit Go.Maps
namespace Mg
open Fr Bd Zn Dz Sb
theorem room148 (w : World) : Calls Tryz.prog 148 #[] w fun ev w' => ev = .returned (.tuple #[]) ∧ w' = w := by
  go_enter Tryz.func148, Tryz.ntmps148
  go_wp2
  go_end0
  exact ⟨rfl, rfl⟩
/-- Where an object goes that is given. -/
inductive GvR (ct : Nat → List Bl) (a b i : Nat) (o : Bl) (ws : List (Nat × Nat)) (pl : List Nat) : List (Nat × Nat) → List Nat → (Nat → List Bl) → Prop
  | room (h : (ct a).length < 4) : GvR ct a b i o ws pl ws pl (upN ct a (ct a ++ [o]))
  | swap (h : (ct a).length = 4) (h2 : ct b = []) : GvR ct a b i o ws pl (ws.set i (b, a)) pl (upN ct b [o])
  | pile (tn : Nat) (h : (ct a).length = 4) (h2 : ct b ≠ []) (h3 : tn ∉ trs ws pl) : GvR ct a b i o ws pl (ws.set i (tn, b)) (pl ++ [a]) (upN ct tn [o])
section
variable {w0 : World} {N0 : Nat} {U : Nat → Prop} {c z d g : Nat} {sz : Int} {m : Nat} {mn lw hi : Int} {k : Nat} {nb fm tm : Nat → Nat} {fr : Nat → List Nat} {Q : Nat} {ss ss' : List Sl} {nd nd' : Nat → Nd} {ws : List (Nat × Nat)} {pl L : List Nat} {ct : Nat → List Bl} {w w' : World}
/-- What a depot's Give does. -/
inductive GvD (w0 : World) (N0 : Nat) (U : Nat → Prop) (c z d g : Nat) (sz : Int) (m : Nat) (mn lw hi : Int) (k : Nat) (nb fm tm : Nat → Nat) (fr : Nat → List Nat) (Q : Nat) (ss : List Sl) (nd : Nat → Nd) (ws : List (Nat × Nat)) (pl : List Nat) (ct : Nat → List Bl) (x : Int) (oN oA : Int) (e : Nat → Addr) (w : World) : Ending → World → Prop
  | bad (w' : World) (hx : x < 0 ∨ (ws.length : Int) ≤ x) (h : DQ w0 N0 U c z d g sz m mn lw hi k nb fm tm fr Q ss nd ws pl ct w') (hu : UK U w w') : GvD w0 N0 U c z d g sz m mn lw hi k nb fm tm fr Q ss nd ws pl ct x oN oA e w (.returned (errV (e 1))) w'
  | stale (i : Nat) (w' : World) (hx : x = i) (hil : i < ws.length) (hn : ¬ (Tkn m sz ss oN oA ∧ ∀ u ∈ trs ws pl, (oN, oA) ∉ ct u)) (h : DQ w0 N0 U c z d g sz m mn lw hi k nb fm tm fr Q ss nd ws pl ct w') (hu : UK U w w') : GvD w0 N0 U c z d g sz m mn lw hi k nb fm tm fr Q ss nd ws pl ct x oN oA e w (.returned (errV (e 8))) w'
  | yes (i a b : Nat) (ws' : List (Nat × Nat)) (pl' : List Nat) (ct' : Nat → List Bl) (w' : World) (hx : x = i) (hws : ws[i]? = some (a, b)) (ht : Tkn m sz ss oN oA) (hn : ∀ u ∈ trs ws pl, (oN, oA) ∉ ct u) (hg : GvR ct a b i (oN, oA) ws pl ws' pl' ct') (h : DQ w0 N0 U c z d g sz m mn lw hi k nb fm tm fr (Q + 1) ss nd ws' pl' ct' w') (hu : UK U w w') : GvD w0 N0 U c z d g sz m mn lw hi k nb fm tm fr Q ss nd ws pl ct x oN oA e w (.returned .nilIface) w'
theorem DQ.nodup (h : DQ w0 N0 U c z d g sz m mn lw hi k nb fm tm fr Q ss nd ws pl ct w) : (trs ws pl).Nodup := by
  obtain ⟨ly, bs, q, f, rb, h1, h2, h3⟩ := h.ex
  exact h2.nd
theorem DQ.low (h : DQ w0 N0 U c z d g sz m mn lw hi k nb fm tm fr Q ss nd ws pl ct w) : N0 ≤ w.heap.size := Nat.le_of_lt (Nat.lt_of_le_of_lt h.db.ge h.db.tg.lt)
set_option maxRecDepth 100000 in
set_option maxHeartbeats 8000000 in
theorem DQ.dgive (h : DQ w0 N0 U c z d g sz m mn lw hi k nb fm tm fr Q ss nd ws pl ct w) (hN : w0.heap.size ≤ N0) (hQ : Q ≤ 900000) (e : Nat → Addr) (he : ErrsM w0 e) (x oN oA : Int) :
    Calls Tryz.prog 35 #[.pointer (some ⟨d, 0, none⟩), .int .i64 x, .agg #[.int .i64 oN, .int .i64 oA]] w fun ev w' => GvD w0 N0 U c z d g sz m mn lw hi k nb fm tm fr Q ss nd ws pl ct x oN oA e w ev w' := by
  have F1 := ballo (Below.refl w.heap.size w) (.cells #[.int .i64 oN, .int .i64 oA] 42)
  have q' := World.cell?_alloc_new w #[.int .i64 oN, .int .i64 oA] 42
  have q0 := q' 0
  have q1 := q' 1
  simp only [List.getElem?_toArray, List.getElem?_cons_zero, List.getElem?_cons_succ] at q0 q1
  have hs1 : w.heap.size < (w.alloc (.cells #[.int .i64 oN, .int .i64 oA] 42)).heap.size := by simp
  have H1 := h.b F1
  obtain ⟨gcp, e1, _⟩ := H1.db.d1
  have HU1 := hide (h.ukb F1)
  have RB : Hid (∀ w', (x < 0 ∨ (ws.length : Int) ≤ x) → DQ w0 N0 U c z d g sz m mn lw hi k nb fm tm fr Q ss nd ws pl ct w' → UK U w w' → GvD w0 N0 U c z d g sz m mn lw hi k nb fm tm fr Q ss nd ws pl ct x oN oA e w (.returned (errV (e 1))) w') := fun w' h1 h2 h3 => .bad w' h1 h2 h3
  have RS : Hid (∀ (i : Nat) w', x = i → i < ws.length → ¬ (Tkn m sz ss oN oA ∧ ∀ u ∈ trs ws pl, (oN, oA) ∉ ct u) → DQ w0 N0 U c z d g sz m mn lw hi k nb fm tm fr Q ss nd ws pl ct w' → UK U w w' → GvD w0 N0 U c z d g sz m mn lw hi k nb fm tm fr Q ss nd ws pl ct x oN oA e w (.returned (errV (e 8))) w') := fun i w' h1 h2 h3 h4 h5 => .stale i w' h1 h2 h3 h4 h5
  have RY : Hid (∀ (i a b : Nat) (ws' : List (Nat × Nat)) (pl' : List Nat) (ct' : Nat → List Bl) w', x = i → ws[i]? = some (a, b) → Tkn m sz ss oN oA → (∀ u ∈ trs ws pl, (oN, oA) ∉ ct u) → GvR ct a b i (oN, oA) ws pl ws' pl' ct' → DQ w0 N0 U c z d g sz m mn lw hi k nb fm tm fr (Q + 1) ss nd ws' pl' ct' w' → UK U w w' → GvD w0 N0 U c z d g sz m mn lw hi k nb fm tm fr Q ss nd ws pl ct x oN oA e w (.returned .nilIface) w') := fun i a b ws' pl' ct' w' h1 h2 h3 h4 h5 h6 h7 => .yes i a b ws' pl' ct' w' h1 h2 h3 h4 h5 h6 h7
  have HH1 := hide H1
  have HE := hide he
  clear h F1 H1 he q'
  generalize hTR : GvD w0 N0 U c z d g sz m mn lw hi k nb fm tm fr Q ss nd ws pl ct x oN oA e w = TR at *
  clear hTR
  unfold errV at *
  go_enter Tryz.func35, Tryz.ntmps35
  go_upto_region 1 with (fail)
  generalize w.alloc (.cells #[.int .i64 oN, .int .i64 oA] 42) = W at *
  by_cases hx : x < 0 ∨ (ws.length : Int) ≤ x
  · have HWK := hide (worker_no e1 hx e ((unhide HE).below (unhide HH1).b0))
    have HX := hide hx
    clear RS RY e1 hx
    unfold errV at HWK
    go_wp2_with fail
    refine (unhide HWK).mono ?_
    rintro ev w1 ⟨rfl, b1⟩
    have H2 := hide ((unhide HH1).b b1)
    have HU2 := hide ((unhide HU1).trans ((unhide HH1).ukb b1))
    clear HWK HH1 HU1 b1
    go_wp2
    exact (unhide RB) _ (unhide HX) (unhide H2) (unhide HU2)
  · obtain ⟨i, rfl⟩ : ∃ i : Nat, x = i := ⟨x.toNat, by omega⟩
    have hil : i < ws.length := by omega
    obtain ⟨⟨a, b⟩, hws⟩ : ∃ ab, ws[i]? = some ab := ⟨_, List.getElem?_eq_getElem hil⟩
    have HWK := hide (worker_yes e1 hil)
    have HWS := hide hws
    clear RB e1 hx hws
    go_wp2_with fail
    refine (unhide HWK).mono ?_
    rintro ev w1 ⟨rfl, b1⟩
    have HH2 := hide ((unhide HH1).b b1)
    have HU2 := hide ((unhide HU1).trans ((unhide HH1).ukb b1))
    have y0 := (b1.cell (p := ⟨w.heap.size, 0, none⟩) hs1).trans q0
    have y1 := (b1.cell (p := ⟨w.heap.size, 1, none⟩) hs1).trans q1
    have hs2 : w.heap.size < w1.heap.size := Nat.lt_of_lt_of_le hs1 b1.size
    clear HWK HH1 HU1 b1 q0 q1 hs1
    obtain ⟨ga, gb, _, _⟩ := (unhide HH2).cells (unhide HWS)
    obtain ⟨ma, mb, hab⟩ := (unhide HH2).mem (unhide HWS)
    obtain ⟨hpa, hpb⟩ := (unhide HH2).notpile (unhide HWS)
    obtain ⟨ra, hTa, hla⟩ := (unhide HH2).tray ma
    obtain ⟨r2, hTb, hlb⟩ := (unhide HH2).tray mb
    unfold ptr at ga gb
    by_cases hl : (ct a).length < 4
    · have HRM := hide (room1 (c := c) (d := d) ga hTa hl)
      have HPA := hide hpa
      have HMA := hide ma
      have HL := hide hl
      clear ga gb hTa hTb mb hpb hpa ma hab hlb hla hl
      go_wp2_with fail
      refine (unhide HRM).mono ?_
      rintro ev w2 ⟨rfl, b2⟩
      have z0 := (b2.cell (p := ⟨w.heap.size, 0, none⟩) hs2).trans y0
      have z1 := (b2.cell (p := ⟨w.heap.size, 1, none⟩) hs2).trans y1
      have HH3 := hide ((unhide HH2).b b2)
      have HU3 := hide ((unhide HU2).trans ((unhide HH2).ukb b2))
      have HLY := hide ((unhide HH3).x.lay hN (by omega) e (unhide HE) (unhide HMA) (unhide HL) oN oA)
      clear HRM HH2 HU2 b2 y0 y1 hs2
      go_wp2_with fail
      refine (unhide HLY).mono ?_
      intro ev w3 hR
      cases hR with
      | no _ hb hn =>
        have H4 := hide ((unhide HH3).b hb)
        have HU4 := hide ((unhide HU3).trans ((unhide HH3).ukb hb))
        have HNN := hide hn
        clear HLY hb hn
        unfold errV
        go_wp2
        exact (unhide RS) i _ rfl hil (unhide HNN) (unhide H4) (unhide HU4)
      | yes _ ht hn hX hu _ =>
        have H4 := hide (hX.q (unhide HH3).nodup (fun t ht => ht) (fun t ht hno => absurd ht hno) (fun t ht => by
          rw [upN_ne (fun (e : t = a) => (unhide HPA) (by rw [← e]; exact ht))]
          exact (unhide HH3).pf t ht) (Nat.le_succ_of_le (unhide HH3).pq))
        have HU4 := hide ((unhide HU3).trans hu)
        have HNN := hide hn
        have HTT := hide ht
        have HGR : Hid (GvR ct a b i (oN, oA) ws pl ws pl (upN ct a (ct a ++ [(oN, oA)]))) := GvR.room (unhide HL)
        clear HLY ht hn hX hu
        go_wp2_with fail
        refine (room148 w3).mono ?_
        rintro ev w4 ⟨rfl, rfl⟩
        go_wp2
        exact (unhide RY) i a b _ _ _ _ rfl (unhide HWS) (unhide HTT) (unhide HNN) (unhide HGR) (unhide H4) (unhide HU4)
    · have hl4 : (ct a).length = 4 := by omega
      have HL4 := hide hl4
      have HPA := hide hpa
      have HPB := hide hpb
      have HMB := hide mb
      by_cases hb : ct b = []
      · have HRM := hide (room2 (c := c) (d := d) ga gb hTa hTb hl hb)
        have HB := hide hb
        have hlb0 : (ct b).length < 4 := by rw [hb]; simp
        have HLB := hide hlb0
        clear ga gb hTa hTb mb hpb hpa ma hab hlb hla hl hl4 hb hlb0
        go_wp2_with fail
        refine (unhide HRM).mono ?_
        rintro ev w2 ⟨rfl, b2⟩
        have z0 := (b2.cell (p := ⟨w.heap.size, 0, none⟩) hs2).trans y0
        have z1 := (b2.cell (p := ⟨w.heap.size, 1, none⟩) hs2).trans y1
        have HH3 := hide ((unhide HH2).b b2)
        have HU3 := hide ((unhide HU2).trans ((unhide HH2).ukb b2))
        have HLY := hide ((unhide HH3).x.lay hN (by omega) e (unhide HE) (unhide HMB) (unhide HLB) oN oA)
        clear HRM HH2 HU2 b2 y0 y1 hs2
        go_wp2_with fail
        refine (unhide HLY).mono ?_
        intro ev w3 hR
        cases hR with
        | no _ hb hn =>
          have H4 := hide ((unhide HH3).b hb)
          have HU4 := hide ((unhide HU3).trans ((unhide HH3).ukb hb))
          have HNN := hide hn
          clear HLY hb hn
          unfold errV
          go_wp2
          exact (unhide RS) i _ rfl hil (unhide HNN) (unhide H4) (unhide HU4)
        | yes _ ht hn hX hu _ =>
          have H4 := hX.q (unhide HH3).nodup (fun t ht => ht) (fun t ht hno => absurd ht hno) (fun t ht => by
            rw [upN_ne (fun (e : t = b) => (unhide HPB) (by rw [← e]; exact ht))]
            exact (unhide HH3).pf t ht) (Nat.le_succ_of_le (unhide HH3).pq)
          rw [unhide HB, List.nil_append] at H4
          have HSW := hide (H4.swapped hN (unhide HWS))
          have HU4 := hide ((unhide HU3).trans hu)
          have HNN := hide hn
          have HTT := hide ht
          have HGR : Hid (GvR ct a b i (oN, oA) ws pl (ws.set i (b, a)) pl (upN ct b [(oN, oA)])) := GvR.swap (unhide HL4) (unhide HB)
          clear HLY ht hn hX hu H4
          go_wp2_with fail
          refine (unhide HSW).mono ?_
          rintro ev w4 ⟨rfl, H5, uk5⟩
          have HH5 := hide H5
          have HU5 := hide ((unhide HU4).trans uk5)
          clear H5 uk5
          go_wp2
          exact (unhide RY) i a b _ _ _ _ rfl (unhide HWS) (unhide HTT) (unhide HNN) (unhide HGR) (unhide HH5) (unhide HU5)
      · have dc0 := (unhide HH2).db.d0
        unfold ptr at dc0
        have HRM := hide (room3 (c := c) (d := d) (unhide HH2).low dc0 ga gb hTa hTb hl hb)
        have HB := hide hb
        clear ga gb hTa hTb mb hpb hpa ma hab hlb hla hl hl4 hb dc0
        go_wp2_with fail
        refine (unhide HRM).mono ?_
        rintro ev w2 ⟨tn, b2', b3, b4, rfl, b2, htn, hT, hb4, ⟨x2, x3, x4⟩, t2, t3, t4⟩
        have z0 := (b2.cell (p := ⟨w.heap.size, 0, none⟩) hs2).trans y0
        have z1 := (b2.cell (p := ⟨w.heap.size, 1, none⟩) hs2).trans y1
        have hH3 := (unhide HH2).b b2
        have hX3 := (unhide HH2).x.add b2 htn hT
        have hno : tn ∉ trs ws pl := fun hm => by
          obtain ⟨r5, hT5, _⟩ := (unhide HH2).tray hm
          have := hT5.tg.lt
          omega
        have HNO := hide hno
        have HH3 := hide hH3
        have HX3 := hide hX3
        have HU3 := hide ((unhide HU2).trans ((unhide HH2).ukb b2))
        have HLY := hide (hX3.lay hN (by omega) e (unhide HE) (t := tn) (by simp) (by rw [upN_at]; simp) oN oA)
        have HT2 := hide t2
        have HT3 := hide t3
        have HT4 := hide t4
        have hb4w : Hid (∀ p cp, w2.cell? ⟨d, 2, none⟩ = some (.slice p pl.length cp) → some b4 ≠ (Value.slice p pl.length cp).ownBlock) := fun p cp hpc e => by
          obtain ⟨p', cp', e2, o2⟩ := (unhide HH2).db.d2
          have e3 := (b2.cell (p := ⟨d, 2, none⟩) (unhide HH2).db.tg.lt).trans e2
          rw [e3] at hpc
          simp only [Option.some.injEq, Value.slice.injEq, true_and] at hpc
          obtain ⟨rfl, rfl⟩ := hpc
          have := (o2.lt b4 e.symm).2
          omega
        have HTL := hide ((unhide HH2).db.tg.b b2)
        have hpb := (unhide HH2).pq
        clear HRM HU2 b2 y0 y1 hs2 hH3 hX3 hT t2 t3 t4 hno
        go_wp2_with fail
        refine (unhide HLY).mono ?_
        intro ev w3 hR
        cases hR with
        | no _ hb hn =>
          have H4 := hide ((unhide HH3).b hb)
          have HU4 := hide ((unhide HU3).trans ((unhide HH3).ukb hb))
          have HNN : Hid (¬ (Tkn m sz ss oN oA ∧ ∀ u ∈ trs ws pl, (oN, oA) ∉ ct u)) := fun ⟨h1, h2⟩ => hn ⟨h1, fun u hu hm => by
            rcases List.mem_cons.1 hu with e | hu
            · rw [e, upN_at] at hm; cases hm
            · rw [upN_ne (fun (e : u = tn) => (unhide HNO) (by rw [← e]; exact hu))] at hm
              exact h2 u hu hm⟩
          clear HLY hb hn
          unfold errV
          go_wp2
          exact (unhide RS) i _ rfl hil (unhide HNN) (unhide H4) (unhide HU4)
        | yes _ ht hn hX hu hkk =>
          have e2 := (World.cell?_of_block (w := w2) (a := ⟨b2', 0, none⟩) (hkk b2' 83 (unhide HT2) (by decide) (by decide))).trans x2
          have e3 := (World.cell?_of_block (w := w2) (a := ⟨b3, 0, none⟩) (hkk b3 169 (unhide HT3) (by decide) (by decide))).trans x3
          have e4 := (World.cell?_of_block (w := w2) (a := ⟨b4, 0, none⟩) (hkk b4 165 (unhide HT4) (by decide) (by decide))).trans x4
          have ed := World.cell?_of_block (w := w2) (a := ⟨d, 2, none⟩) (hkk d 164 (unhide HTL) (by decide) (by decide))
          have hlow : N0 ≤ w3.heap.size := Nat.le_of_lt (Nat.lt_of_le_of_lt hX.db.ge hX.db.tg.lt)
          have HPU := hide (hX.pileup hN hlow (by omega) (unhide HWS) e2 e3 e4 ((unhide HT2).blk (hkk b2' 83 (unhide HT2) (by decide) (by decide))) ((unhide HT3).blk (hkk b3 169 (unhide HT3) (by decide) (by decide))) ((unhide HT4).blk (hkk b4 165 (unhide HT4) (by decide) (by decide))) (fun p cp hpc => (unhide hb4w) p cp (ed.symm.trans hpc)))
          have HU4 := hide ((unhide HU3).trans hu)
          have HNN : Hid (∀ u ∈ trs ws pl, (oN, oA) ∉ ct u) := fun u hu hm => by
            have := hn u (List.mem_cons_of_mem _ hu)
            rw [upN_ne (fun (e : u = tn) => (unhide HNO) (by rw [← e]; exact hu))] at this
            exact this hm
          have HTT := hide ht
          have HGR : Hid (GvR ct a b i (oN, oA) ws pl (ws.set i (tn, b)) (pl ++ [a]) (upN ct tn [(oN, oA)])) := GvR.pile tn (unhide HL4) (unhide HB) (unhide HNO)
          clear HLY ht hn hX hu hkk e2 e3 e4 ed x2 x3 x4
          go_wp2_with fail
          refine (unhide HPU).mono ?_
          rintro ev w4 ⟨rfl, X5, uk5⟩
          have hp1 := trs_perm pl (unhide HWS)
          have hp2 := (trs_app (ws.set i (tn, b)) pl a).trans (List.Perm.cons a (trs_set hil tn b pl))
          have hpp : (trs (ws.set i (tn, b)) (pl ++ [a])).Perm (tn :: trs ws pl) := (hp2.trans (List.Perm.swap tn a _)).trans (List.Perm.cons tn hp1.symm)
          have hct : upN (upN ct tn []) tn (upN ct tn [] tn ++ [(oN, oA)]) = upN ct tn [(oN, oA)] := by
            funext u
            by_cases e : u = tn
            · rw [e, upN_at, upN_at, upN_at]; rfl
            · rw [upN_ne e, upN_ne e, upN_ne e]
          rw [hct] at X5
          have HH5 := hide (X5.q (hpp.nodup_iff.2 (List.nodup_cons.2 ⟨unhide HNO, (unhide HH3).nodup⟩)) (fun t ht => hpp.mem_iff.1 ht) (fun t ht hno => absurd (hpp.mem_iff.2 ht) hno) (fun t ht => by
            have hm : t ∈ trs ws pl := by
              rcases List.mem_append.1 ht with h1 | h1
              · unfold trs; exact List.mem_append_right _ h1
              · simp only [List.mem_singleton] at h1
                rw [h1]
                exact ((unhide HH3).mem (unhide HWS)).1
            rw [upN_ne (fun (e : t = tn) => (unhide HNO) (by rw [← e]; exact hm))]
            rcases List.mem_append.1 ht with h1 | h1
            · exact (unhide HH3).pf t h1
            · simp only [List.mem_singleton] at h1
              rw [h1]
              exact unhide HL4) (by simp; omega))
          have HU5 := hide ((unhide HU4).trans uk5)
          clear X5 uk5 hp1 hp2 hpp hct
          go_wp2
          exact (unhide RY) i a b _ _ _ _ rfl (unhide HWS) (unhide HTT) (unhide HNN) (unhide HGR) (unhide HH5) (unhide HU5)
end
end Mg
end Go.Proofs.YtfefehkapffljaaGreatDoor
