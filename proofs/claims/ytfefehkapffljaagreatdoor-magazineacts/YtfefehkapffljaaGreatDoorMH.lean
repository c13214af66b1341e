/- M19 · M20 · M21 · M22. -/
import Derived.Test.YtfefehkapffljaaGreatDoorMG
import Derived.Deep.RegionHeldLaw
import Derived.Test.YtfefehkapffljaaGreatDoorKI
namespace Go.Proofs.YtfefehkapffljaaGreatDoor
open Go.RowKit Go.Maps
namespace Mg
open Fr Bd Zn Dz Sb
section
variable {w0 : World} {N0 : Nat} {U : Nat → Prop} {c z d g : Nat} {sz : Int} {m : Nat} {mn lw hi : Int} {k : Nat} {nb fm tm : Nat → Nat} {fr : Nat → List Nat} {Q : Nat} {ss ss' : List Sl} {nd nd' : Nat → Nd} {ws : List (Nat × Nat)} {pl L : List Nat} {ct : Nat → List Bl} {w w' : World}
theorem DB.cells (h : DB N0 w c d g ws pl) {i a b : Nat} (hx : ws[i]? = some (a, b)) : w.cell? ⟨g, i * 2, none⟩ = some (ptr a) ∧ (∀ j, w.frozen? ⟨g, j, none⟩ = false) ∧ g < w.heap.size ∧ Tag w g 168 := by
 obtain ⟨cp, e1, o1⟩ := h.d1
 obtain ⟨f0, f1⟩ := flatP_get ws i (a, b) hx
 have hn : i < ws.length := (List.getElem?_eq_some_iff.mp hx).1
 refine ⟨(o1.cellAt (i * 2) (by omega)).trans f0, o1.frozenAt, (o1.lt g rfl).2, ?_⟩
 rcases o1.2 with ⟨e, _⟩ | ⟨g', cap, cur, e, _, hh, _⟩
 · cases e
 · simp only [Value.slice.injEq, Option.some.injEq, Addr.mk.injEq] at e
   obtain ⟨⟨rfl, _⟩, _⟩ := e
   exact ⟨cur, _, hh⟩
set_option maxRecDepth 100000 in
set_option maxHeartbeats 8000000 in
theorem DX.pileup (h : DX w0 N0 U c z d g sz m mn lw hi k nb fm tm fr Q ss nd ws pl L ct w) (hN : w0.heap.size ≤ N0) (hNw : N0 ≤ w.heap.size) (hpl : pl.length ≤ 1000000) {i a b tn b2 b3 b4 : Nat} (hx : ws[i]? = some (a, b)) (x2 : w.cell? ⟨b2, 0, none⟩ = some (.pointer (some ⟨d, 0, none⟩))) (x3 : w.cell? ⟨b3, 0, none⟩ = some (.pointer (some ⟨g, i * 2, none⟩))) (x4 : w.cell? ⟨b4, 0, none⟩ = some (.pointer (some ⟨tn, 0, none⟩))) (t2 : Tag w b2 83) (t3 : Tag w b3 169) (t4 : Tag w b4 165) (h4 : ∀ p cp, w.cell? ⟨d, 2, none⟩ = some (.slice p pl.length cp) → some b4 ≠ (Value.slice p pl.length cp).ownBlock) :
   Calls Tryz.prog 150 #[.pointer (some ⟨b2, 0, none⟩), .pointer (some ⟨b3, 0, none⟩), .pointer (some ⟨b4, 0, none⟩)] w fun ev w' => ev = .returned (.tuple #[]) ∧ DX w0 N0 U c z d g sz m mn lw hi k nb fm tm fr Q ss nd (ws.set i (tn, b)) (pl ++ [a]) L ct w' ∧ UK U w w' := by
 obtain ⟨i0, hi0, hz0, hz1, hz2⟩ := info165
 have HI := hide hi0
 have HZ := hide hz0
 have HZ1 := hide hz1
 have HZ2 := hide hz2
 clear hi0 hz0 hz1 hz2
 obtain ⟨ga, gf, gl, gt⟩ := h.db.cells hx
 obtain ⟨p, cp, e2, o2⟩ := h.db.d2
 have dl := h.db.tg.lt
 have df := h.db.fz 2
 have h4' := h4 p cp e2
 have HH := hide h
 have BA : Below w.heap.size w (w.alloc (.cells #[.pointer (some ⟨a, 0, none⟩)] 165)).drew := (ballo (Below.refl _ _) _).drew
 have oA := own_b o2 BA
 have e2A := (BA.cell (p := ⟨d, 2, none⟩) dl).trans e2
 have dfA := (BA.frozen (p := ⟨d, 2, none⟩) dl).trans df
 have hNb : N0 ≤ (w.alloc (.cells #[.pointer (some ⟨a, 0, none⟩)] 165)).drew.heap.size := Nat.le_trans hNw BA.size
 have tdA := h.db.tg.b BA
 have HT2 := hide t2
 have HT3 := hide t3
 have HT4 := hide t4
 unfold ptr at ga
 have BB : Below w.heap.size w (w.alloc (.cells #[.pointer (some ⟨a, 0, none⟩)] 165)) := ballo (Below.refl _ _) _
 have x2B := (BB.cell (p := ⟨b2, 0, none⟩) t2.lt).trans x2
 have x3B := (BB.cell (p := ⟨b3, 0, none⟩) t3.lt).trans x3
 have e2B := (BB.cell (p := ⟨d, 2, none⟩) dl).trans e2
 have gaB := (BB.cell (p := ⟨g, i * 2, none⟩) gl).trans ga
 generalize hn : pl.length = n at *
 have HNL := hide hn
 clear h hn t2 t3 t4
 go_enter Tryz.func150, Tryz.ntmps150
 have nb2 : b2 ≠ d := (unhide HT2).ne (unhide HH).db.tg (by decide)
 have nb3 : b3 ≠ d := (unhide HT3).ne (unhide HH).db.tg (by decide)
 have nbg : g ≠ d := gt.ne (unhide HH).db.tg (by decide)
 have HKD : Hid (∀ (W : World) v, (W.cell? ⟨b2, 0, none⟩ = some (.pointer (some ⟨d, 0, none⟩)) ∧ W.cell? ⟨b3, 0, none⟩ = some (.pointer (some ⟨g, i * 2, none⟩)) ∧ W.cell? ⟨g, i * 2, none⟩ = some (.pointer (some ⟨a, 0, none⟩))) → ((W.setCell ⟨d, 2, none⟩ v).cell? ⟨b2, 0, none⟩ = some (.pointer (some ⟨d, 0, none⟩)) ∧ (W.setCell ⟨d, 2, none⟩ v).cell? ⟨b3, 0, none⟩ = some (.pointer (some ⟨g, i * 2, none⟩)) ∧ (W.setCell ⟨d, 2, none⟩ v).cell? ⟨g, i * 2, none⟩ = some (.pointer (some ⟨a, 0, none⟩)))) := fun W v h => ⟨(cso (fun e => nb2 (Addr.mk.inj e).1.symm)).trans h.1, (cso (fun e => nb3 (Addr.mk.inj e).1.symm)).trans h.2.1, (cso (fun e => nbg (Addr.mk.inj e).1.symm)).trans h.2.2⟩
 have HK0 : Hid (w.drew.cell? ⟨b2, 0, none⟩ = some (.pointer (some ⟨d, 0, none⟩)) ∧ w.drew.cell? ⟨b3, 0, none⟩ = some (.pointer (some ⟨g, i * 2, none⟩)) ∧ w.drew.cell? ⟨g, i * 2, none⟩ = some (.pointer (some ⟨a, 0, none⟩))) := ⟨x2, x3, ga⟩
 have HK1 : Hid ((w.alloc (.cells #[.pointer (some ⟨a, 0, none⟩)] 165)).drew.cell? ⟨b2, 0, none⟩ = some (.pointer (some ⟨d, 0, none⟩)) ∧ (w.alloc (.cells #[.pointer (some ⟨a, 0, none⟩)] 165)).drew.cell? ⟨b3, 0, none⟩ = some (.pointer (some ⟨g, i * 2, none⟩)) ∧ (w.alloc (.cells #[.pointer (some ⟨a, 0, none⟩)] 165)).drew.cell? ⟨g, i * 2, none⟩ = some (.pointer (some ⟨a, 0, none⟩))) := ⟨x2B, x3B, gaB⟩
 have T2A := (unhide HT2).b BA
 have T3A := (unhide HT3).b BA
 have gtA := gt.b BA
 go_wp2_with fail
 refine wp_region_held_drew (S := fun W => W.cell? ⟨b2, 0, none⟩ = some (.pointer (some ⟨d, 0, none⟩)) ∧ W.cell? ⟨b3, 0, none⟩ = some (.pointer (some ⟨g, i * 2, none⟩)) ∧ W.cell? ⟨g, i * 2, none⟩ = some (.pointer (some ⟨a, 0, none⟩))) (by kernel_rfl) (unhide HK0) (fun hHeld => ?_)
 refine wpAnyH_take (i := 0) (v := (.pointer (some ⟨d, 0, none⟩))) rfl (by kernel_rfl) (by kernel_rfl) (by kernel_rfl) (fun _ _ _ h => h) (Or.inl ⟨by rfl, ?_⟩) hHeld ?_
 · intro w hSw
   go_simp
 simp only [Act.put, List.setIfInBounds_toArray]
 refine wpAnyH_take (i := 1) (v := (.pointer (some ⟨d, 0, none⟩))) rfl (by kernel_rfl) (by kernel_rfl) (by kernel_rfl) (fun _ _ _ h => h) (Or.inl ⟨by rfl, ?_⟩) hHeld ?_
 · intro w hSw
   go_simp
 simp only [Act.put]
 refine wpAnyH_take (i := 2) (v := (.pointer (some ⟨d, 0, none⟩))) rfl (by kernel_rfl) (by kernel_rfl) (by kernel_rfl) (fun _ _ _ h => h) (Or.inl ⟨by rfl, ?_⟩) hHeld ?_
 · intro w hSw
   go_simp
 simp only [Act.put]
 refine wpAnyH_take (i := 3) (v := (.pointer (some ⟨d, 2, none⟩))) rfl (by kernel_rfl) (by kernel_rfl) (by kernel_rfl) (fun _ _ _ h => h) (Or.inl ⟨by rfl, ?_⟩) hHeld ?_
 · intro w hSw
   go_simp
 simp only [Act.put]
 refine wpAnyH_take (i := 5) (v := (.pointer (some ⟨g, i * 2, none⟩))) rfl (by kernel_rfl) (by kernel_rfl) (by kernel_rfl) (fun _ _ _ h => h) (Or.inl ⟨by rfl, ?_⟩) hHeld ?_
 · intro w hSw
   go_simp
 simp only [Act.put]
 refine wpAnyH_take (i := 6) (v := (.pointer (some ⟨g, i * 2, none⟩))) rfl (by kernel_rfl) (by kernel_rfl) (by kernel_rfl) (fun _ _ _ h => h) (Or.inl ⟨by rfl, ?_⟩) hHeld ?_
 · intro w hSw
   go_simp
 simp only [Act.put]
 refine wpAnyH_take (i := 7) (v := (.pointer (some ⟨g, i * 2, none⟩))) rfl (by kernel_rfl) (by kernel_rfl) (by kernel_rfl) (fun _ _ _ h => h) (Or.inl ⟨by rfl, ?_⟩) hHeld ?_
 · intro w hSw
   go_simp
 simp only [Act.put]
 refine wpAnyH_take (i := 8) (v := (.pointer (some ⟨a, 0, none⟩))) rfl (by kernel_rfl) (by kernel_rfl) (by kernel_rfl) (fun _ _ _ h => h) (Or.inl ⟨by rfl, ?_⟩) hHeld ?_
 · intro w hSw
   go_simp
 simp only [Act.put]
 refine wpAnyH_ready (rs := [4, 9]) (by kernel_rfl) (by simp) ?_
 refine AllReadyH.cons rfl (fun K hK => ?_) (AllReadyH.cons rfl (fun K hK => ?_) AllReadyH.nil)
 · go_simp
   refine hK.out _ _ (unhide HK0) (fun hHeld => ?_)
   clear hK K
   refine wpAnyH_ready (rs := [9]) (by kernel_rfl) (by simp) ?_
   refine AllReadyH.cons rfl (fun K hK => ?_) AllReadyH.nil
   go_simp
   refine hK.out _ _ (unhide HK1) (fun hHeld => ?_)
   clear hK K
   refine wpAnyH_ready (rs := [10]) (by kernel_rfl) (by simp) ?_
   refine AllReadyH.cons rfl (fun K hK => ?_) AllReadyH.nil
   (refine step_append_lies _ rfl (.tmp 7) (.tmp 12) 162 rfl N0 165 i0 (.pointer none) 1 8 Tryz.underlying162 (unhide HI) (unhide HZ) (unhide HZ1) (unhide HZ2) rfl (by decide) (.slice p n cp) n (ptrl pl) (by simp [Act.eval]) oA ⟨w.heap.size, 0, none⟩ 1 1 [.pointer (some ⟨a, 0, none⟩)] (by simp [Act.eval]) rfl (by intro j u hj; match j, hj with | 0, hj => (simp at hj; subst hj; simp [Addr.add])) (by intro u hu; simp at hu; subst hu; rfl) (by omega) (by unfold maxLen; omega) (by omega) hNb _ rfl ?_; intro g4 c4 w4 o4 q4 hg4 hg5; have e4 := q4.block d tdA.lt (own_nb oA tdA (by decide)); have zc4 : w4.cell? ⟨d, 2, none⟩ = some (.slice p n cp) := (World.cell?_of_block (a := ⟨d, 2, none⟩) e4).trans e2A; have zf4 : w4.frozen? ⟨d, 2, none⟩ = false := (World.frozen?_of_block (a := ⟨d, 2, none⟩) e4).trans dfA; have s4 : w4.cell? ⟨b2, 0, none⟩ = some (.pointer (some ⟨d, 0, none⟩)) ∧ w4.cell? ⟨b3, 0, none⟩ = some (.pointer (some ⟨g, i * 2, none⟩)) ∧ w4.cell? ⟨g, i * 2, none⟩ = some (.pointer (some ⟨a, 0, none⟩)) := ⟨(World.cell?_of_block (a := ⟨b2, 0, none⟩) (q4.block b2 T2A.lt (own_nb oA T2A (by decide)))).trans (unhide HK1).1, (World.cell?_of_block (a := ⟨b3, 0, none⟩) (q4.block b3 T3A.lt (own_nb oA T3A (by decide)))).trans (unhide HK1).2.1, (World.cell?_of_block (a := ⟨g, i * 2, none⟩) (q4.block g gtA.lt (own_nb oA gtA (by decide)))).trans (unhide HK1).2.2⟩)
   refine hK.out _ _ s4 (fun hHeld => ?_)
   clear hK K
   simp only [Act.put, List.setIfInBounds_toArray]
   refine wpAnyH_take (i := 11) (v := (.pointer (some ⟨d, 0, none⟩))) rfl (by kernel_rfl) (by kernel_rfl) (by kernel_rfl) (fun _ _ _ h => h) (Or.inl ⟨by rfl, ?_⟩) hHeld ?_
   · intro w hSw
     go_simp
   simp only [Act.put]
   refine wpAnyH_take (i := 12) (v := (.pointer (some ⟨d, 2, none⟩))) rfl (by kernel_rfl) (by kernel_rfl) (by kernel_rfl) (fun _ _ _ h => h) (Or.inl ⟨by rfl, ?_⟩) hHeld ?_
   · intro w hSw
     go_simp
   simp only [Act.put]
   refine wpAnyH_ready (rs := [13]) (by kernel_rfl) (by simp) ?_
   refine AllReadyH.cons rfl (fun K hK => ?_) AllReadyH.nil
   go_simp
   refine hK.out _ _ ((unhide HKD) _ _ s4) (fun hHeld => ?_)
   clear hK K
   refine wpAnyH_done (by kernel_rfl) ?_ _
   have hC4 : Chg [some 165] N0 w w4 := (Chg.below BA).trans (Chg.grown q4 oA)
   have hln : (pl ++ [a]).length = n + 1 := by simp [unhide HNL]
   have hpt : ptrl (pl ++ [a]) = ptrl pl ++ [.pointer (some ⟨a, 0, none⟩)] := by unfold ptrl ptr; simp
   have o4' : w4.ownsRow N0 165 1 (.slice (some ⟨g4, 0, none⟩) (pl ++ [a]).length c4) (pl ++ [a]).length (ptrl (pl ++ [a])) := by rw [hln, hpt]; exact o4
   obtain ⟨hD5, hC5⟩ := (unhide HH).db.piled hC4 o4'
   rw [hln] at hD5 hC5
   obtain ⟨gcp, ge5, go5⟩ := hD5.d1
   obtain ⟨go6, gc6⟩ := pair_set1 go5 (x := tn) hx
   have hD6 := hD5.pair (by rw [List.length_set]) gc6 ge5 go6
   obtain ⟨ga5, gf5, _, _⟩ := hD5.cells hx
   have gf6 := gf5 (i * 2)
   have T4A := (unhide HT4).b BA
   have y4 : (w4.setCell ⟨d, 2, none⟩ (.slice (some ⟨g4, 0, none⟩) (n + 1) c4)).cell? ⟨b4, 0, none⟩ = some (.pointer (some ⟨tn, 0, none⟩)) := (cso (fun e => (unhide HT4).ne (unhide HH).db.tg (by decide) (Addr.mk.inj e).1.symm)).trans ((World.cell?_of_block (a := ⟨b4, 0, none⟩) (q4.block b4 T4A.lt h4')).trans ((BA.cell (p := ⟨b4, 0, none⟩) (unhide HT4).lt).trans x4))
   have y3 : (w4.setCell ⟨d, 2, none⟩ (.slice (some ⟨g4, 0, none⟩) (n + 1) c4)).cell? ⟨b3, 0, none⟩ = some (.pointer (some ⟨g, i * 2, none⟩)) := ((unhide HKD) _ _ s4).2.1
   have RES := hide ((unhide HH).own hN (hC5.trans (gc6.mono (by decide) (Nat.le_refl _))) hD6)
   unfold ptr at ga5 RES
   clear hC4 hln hpt o4' hD5 hC5 go5 go6 gc6 hD6 o4 q4 s4 zc4 zf4 e4 hg4 hg5 oA e2A e2 e2B dfA df ga gaB gf5 ge5 hHeld T4A x2 x3 x4 x2B x3B HK0 HK1 HKD BA BB tdA o2
   generalize w4.setCell ⟨d, 2, none⟩ (.slice (some ⟨g4, 0, none⟩) (n + 1) c4) = w5 at *
   go_wp2
   go_end0
   exact ⟨rfl, unhide RES⟩
 · go_simp
   refine hK.out _ _ (unhide HK1) (fun hHeld => ?_)
   clear hK K
   refine wpAnyH_ready (rs := [4]) (by kernel_rfl) (by simp) ?_
   refine AllReadyH.cons rfl (fun K hK => ?_) AllReadyH.nil
   go_simp
   refine hK.out _ _ (unhide HK1) (fun hHeld => ?_)
   clear hK K
   refine wpAnyH_ready (rs := [10]) (by kernel_rfl) (by simp) ?_
   refine AllReadyH.cons rfl (fun K hK => ?_) AllReadyH.nil
   (refine step_append_lies _ rfl (.tmp 7) (.tmp 12) 162 rfl N0 165 i0 (.pointer none) 1 8 Tryz.underlying162 (unhide HI) (unhide HZ) (unhide HZ1) (unhide HZ2) rfl (by decide) (.slice p n cp) n (ptrl pl) (by simp [Act.eval]) oA ⟨w.heap.size, 0, none⟩ 1 1 [.pointer (some ⟨a, 0, none⟩)] (by simp [Act.eval]) rfl (by intro j u hj; match j, hj with | 0, hj => (simp at hj; subst hj; simp [Addr.add])) (by intro u hu; simp at hu; subst hu; rfl) (by omega) (by unfold maxLen; omega) (by omega) hNb _ rfl ?_; intro g4 c4 w4 o4 q4 hg4 hg5; have e4 := q4.block d tdA.lt (own_nb oA tdA (by decide)); have zc4 : w4.cell? ⟨d, 2, none⟩ = some (.slice p n cp) := (World.cell?_of_block (a := ⟨d, 2, none⟩) e4).trans e2A; have zf4 : w4.frozen? ⟨d, 2, none⟩ = false := (World.frozen?_of_block (a := ⟨d, 2, none⟩) e4).trans dfA; have s4 : w4.cell? ⟨b2, 0, none⟩ = some (.pointer (some ⟨d, 0, none⟩)) ∧ w4.cell? ⟨b3, 0, none⟩ = some (.pointer (some ⟨g, i * 2, none⟩)) ∧ w4.cell? ⟨g, i * 2, none⟩ = some (.pointer (some ⟨a, 0, none⟩)) := ⟨(World.cell?_of_block (a := ⟨b2, 0, none⟩) (q4.block b2 T2A.lt (own_nb oA T2A (by decide)))).trans (unhide HK1).1, (World.cell?_of_block (a := ⟨b3, 0, none⟩) (q4.block b3 T3A.lt (own_nb oA T3A (by decide)))).trans (unhide HK1).2.1, (World.cell?_of_block (a := ⟨g, i * 2, none⟩) (q4.block g gtA.lt (own_nb oA gtA (by decide)))).trans (unhide HK1).2.2⟩)
   refine hK.out _ _ s4 (fun hHeld => ?_)
   clear hK K
   simp only [Act.put, List.setIfInBounds_toArray]
   refine wpAnyH_take (i := 11) (v := (.pointer (some ⟨d, 0, none⟩))) rfl (by kernel_rfl) (by kernel_rfl) (by kernel_rfl) (fun _ _ _ h => h) (Or.inl ⟨by rfl, ?_⟩) hHeld ?_
   · intro w hSw
     go_simp
   simp only [Act.put]
   refine wpAnyH_take (i := 12) (v := (.pointer (some ⟨d, 2, none⟩))) rfl (by kernel_rfl) (by kernel_rfl) (by kernel_rfl) (fun _ _ _ h => h) (Or.inl ⟨by rfl, ?_⟩) hHeld ?_
   · intro w hSw
     go_simp
   simp only [Act.put]
   refine wpAnyH_ready (rs := [13]) (by kernel_rfl) (by simp) ?_
   refine AllReadyH.cons rfl (fun K hK => ?_) AllReadyH.nil
   go_simp
   refine hK.out _ _ ((unhide HKD) _ _ s4) (fun hHeld => ?_)
   clear hK K
   refine wpAnyH_done (by kernel_rfl) ?_ _
   have hC4 : Chg [some 165] N0 w w4 := (Chg.below BA).trans (Chg.grown q4 oA)
   have hln : (pl ++ [a]).length = n + 1 := by simp [unhide HNL]
   have hpt : ptrl (pl ++ [a]) = ptrl pl ++ [.pointer (some ⟨a, 0, none⟩)] := by unfold ptrl ptr; simp
   have o4' : w4.ownsRow N0 165 1 (.slice (some ⟨g4, 0, none⟩) (pl ++ [a]).length c4) (pl ++ [a]).length (ptrl (pl ++ [a])) := by rw [hln, hpt]; exact o4
   obtain ⟨hD5, hC5⟩ := (unhide HH).db.piled hC4 o4'
   rw [hln] at hD5 hC5
   obtain ⟨gcp, ge5, go5⟩ := hD5.d1
   obtain ⟨go6, gc6⟩ := pair_set1 go5 (x := tn) hx
   have hD6 := hD5.pair (by rw [List.length_set]) gc6 ge5 go6
   obtain ⟨ga5, gf5, _, _⟩ := hD5.cells hx
   have gf6 := gf5 (i * 2)
   have T4A := (unhide HT4).b BA
   have y4 : (w4.setCell ⟨d, 2, none⟩ (.slice (some ⟨g4, 0, none⟩) (n + 1) c4)).cell? ⟨b4, 0, none⟩ = some (.pointer (some ⟨tn, 0, none⟩)) := (cso (fun e => (unhide HT4).ne (unhide HH).db.tg (by decide) (Addr.mk.inj e).1.symm)).trans ((World.cell?_of_block (a := ⟨b4, 0, none⟩) (q4.block b4 T4A.lt h4')).trans ((BA.cell (p := ⟨b4, 0, none⟩) (unhide HT4).lt).trans x4))
   have y3 : (w4.setCell ⟨d, 2, none⟩ (.slice (some ⟨g4, 0, none⟩) (n + 1) c4)).cell? ⟨b3, 0, none⟩ = some (.pointer (some ⟨g, i * 2, none⟩)) := ((unhide HKD) _ _ s4).2.1
   have RES := hide ((unhide HH).own hN (hC5.trans (gc6.mono (by decide) (Nat.le_refl _))) hD6)
   unfold ptr at ga5 RES
   clear hC4 hln hpt o4' hD5 hC5 go5 go6 gc6 hD6 o4 q4 s4 zc4 zf4 e4 hg4 hg5 oA e2A e2 e2B dfA df ga gaB gf5 ge5 hHeld T4A x2 x3 x4 x2B x3B HK0 HK1 HKD BA BB tdA o2
   generalize w4.setCell ⟨d, 2, none⟩ (.slice (some ⟨g4, 0, none⟩) (n + 1) c4) = w5 at *
   go_wp2
   go_end0
   exact ⟨rfl, unhide RES⟩
end
end Mg
end Go.Proofs.YtfefehkapffljaaGreatDoor
namespace Go.Proofs.YtfefehkapffljaaGreatDoor
open Go.RowKit Go.Maps
namespace Mg
open Fr Bd Zn Dz Sb
theorem room148 (w : World) : Calls Tryz.prog 148 #[] w fun ev w' => ev = .returned (.tuple #[]) ∧ w' = w := by
 go_enter Tryz.func148, Tryz.ntmps148
 go_wp2
 go_end0
 exact ⟨rfl, rfl⟩
inductive GvR (ct : Nat → List Bl) (a b i : Nat) (o : Bl) (ws : List (Nat × Nat)) (pl : List Nat) : List (Nat × Nat) → List Nat → (Nat → List Bl) → Prop
 | room (h : (ct a).length < 4) : GvR ct a b i o ws pl ws pl (upN ct a (ct a ++ [o]))
 | swap (h : (ct a).length = 4) (h2 : ct b = []) : GvR ct a b i o ws pl (ws.set i (b, a)) pl (upN ct b [o])
 | pile (tn : Nat) (h : (ct a).length = 4) (h2 : ct b ≠ []) (h3 : tn ∉ trs ws pl) : GvR ct a b i o ws pl (ws.set i (tn, b)) (pl ++ [a]) (upN ct tn [o])
section
variable {w0 : World} {N0 : Nat} {U : Nat → Prop} {c z d g : Nat} {sz : Int} {m : Nat} {mn lw hi : Int} {k : Nat} {nb fm tm : Nat → Nat} {fr : Nat → List Nat} {Q : Nat} {ss ss' : List Sl} {nd nd' : Nat → Nd} {ws : List (Nat × Nat)} {pl L : List Nat} {ct : Nat → List Bl} {w w' : World}
inductive GvD (w0 : World) (N0 : Nat) (U : Nat → Prop) (c z d g : Nat) (sz : Int) (m : Nat) (mn lw hi : Int) (k : Nat) (nb fm tm : Nat → Nat) (fr : Nat → List Nat) (Q : Nat) (ss : List Sl) (nd : Nat → Nd) (ws : List (Nat × Nat)) (pl : List Nat) (ct : Nat → List Bl) (x : Int) (oN oA : Int) (e : Nat → Addr) (w : World) : Ending → World → Prop
 | bad (w' : World) (hx : x < 0 ∨ (ws.length : Int) ≤ x) (h : DQ w0 N0 U c z d g sz m mn lw hi k nb fm tm fr Q ss nd ws pl ct w') (hu : UK U w w') : GvD w0 N0 U c z d g sz m mn lw hi k nb fm tm fr Q ss nd ws pl ct x oN oA e w (.returned (errV (e 1))) w'
 | stale (i : Nat) (w' : World) (hx : x = i) (hil : i < ws.length) (hn : ¬ (Tkn m sz ss oN oA ∧ ∀ u ∈ trs ws pl, (oN, oA) ∉ ct u)) (h : DQ w0 N0 U c z d g sz m mn lw hi k nb fm tm fr Q ss nd ws pl ct w') (hu : UK U w w') : GvD w0 N0 U c z d g sz m mn lw hi k nb fm tm fr Q ss nd ws pl ct x oN oA e w (.returned (errV (e 8))) w'
 | yes (i a b : Nat) (ws' : List (Nat × Nat)) (pl' : List Nat) (ct' : Nat → List Bl) (w' : World) (hx : x = i) (hws : ws[i]? = some (a, b)) (ht : Tkn m sz ss oN oA) (hn : ∀ u ∈ trs ws pl, (oN, oA) ∉ ct u) (hg : GvR ct a b i (oN, oA) ws pl ws' pl' ct') (h : DQ w0 N0 U c z d g sz m mn lw hi k nb fm tm fr (Q + 1) ss nd ws' pl' ct' w') (hu : UK U w w') : GvD w0 N0 U c z d g sz m mn lw hi k nb fm tm fr Q ss nd ws pl ct x oN oA e w (.returned .nilIface) w'
theorem DQ.nodup (h : DQ w0 N0 U c z d g sz m mn lw hi k nb fm tm fr Q ss nd ws pl ct w) : (trs ws pl).Nodup := by
 obtain ⟨ly, bs, q, f, rb, h1, h2, h3⟩ := h.ex
 exact h2.nd
theorem DQ.low (h : DQ w0 N0 U c z d g sz m mn lw hi k nb fm tm fr Q ss nd ws pl ct w) : N0 ≤ w.heap.size := Nat.le_of_lt (Nat.lt_of_le_of_lt h.db.ge h.db.tg.lt)
set_option maxRecDepth 100000 in
set_option maxHeartbeats 8000000 in
theorem DQ.dgive (h : DQ w0 N0 U c z d g sz m mn lw hi k nb fm tm fr Q ss nd ws pl ct w) (hN : w0.heap.size ≤ N0) (hQ : Q ≤ 900000) (e : Nat → Addr) (he : ErrsM w0 e) (x oN oA : Int) :
   Calls Tryz.prog 35 #[.pointer (some ⟨d, 0, none⟩), .int .i64 x, .agg #[.int .i64 oN, .int .i64 oA]] w fun ev w' => GvD w0 N0 U c z d g sz m mn lw hi k nb fm tm fr Q ss nd ws pl ct x oN oA e w ev w' := by
 have F1 := ballo (Below.refl w.heap.size w) (.cells #[.int .i64 oN, .int .i64 oA] 42)
 have q' := World.cell?_alloc_new w #[.int .i64 oN, .int .i64 oA] 42
 have q0 := q' 0
 have q1 := q' 1
 simp only [List.getElem?_toArray, List.getElem?_cons_zero, List.getElem?_cons_succ] at q0 q1
 have hs1 : w.heap.size < (w.alloc (.cells #[.int .i64 oN, .int .i64 oA] 42)).heap.size := by simp
 have H1 := h.b F1
 obtain ⟨gcp, e1, _⟩ := H1.db.d1
 have HU1 := hide (h.ukb F1)
 have RB : Hid (∀ w', (x < 0 ∨ (ws.length : Int) ≤ x) → DQ w0 N0 U c z d g sz m mn lw hi k nb fm tm fr Q ss nd ws pl ct w' → UK U w w' → GvD w0 N0 U c z d g sz m mn lw hi k nb fm tm fr Q ss nd ws pl ct x oN oA e w (.returned (errV (e 1))) w') := fun w' h1 h2 h3 => .bad w' h1 h2 h3
 have RS : Hid (∀ (i : Nat) w', x = i → i < ws.length → ¬ (Tkn m sz ss oN oA ∧ ∀ u ∈ trs ws pl, (oN, oA) ∉ ct u) → DQ w0 N0 U c z d g sz m mn lw hi k nb fm tm fr Q ss nd ws pl ct w' → UK U w w' → GvD w0 N0 U c z d g sz m mn lw hi k nb fm tm fr Q ss nd ws pl ct x oN oA e w (.returned (errV (e 8))) w') := fun i w' h1 h2 h3 h4 h5 => .stale i w' h1 h2 h3 h4 h5
 have RY : Hid (∀ (i a b : Nat) (ws' : List (Nat × Nat)) (pl' : List Nat) (ct' : Nat → List Bl) w', x = i → ws[i]? = some (a, b) → Tkn m sz ss oN oA → (∀ u ∈ trs ws pl, (oN, oA) ∉ ct u) → GvR ct a b i (oN, oA) ws pl ws' pl' ct' → DQ w0 N0 U c z d g sz m mn lw hi k nb fm tm fr (Q + 1) ss nd ws' pl' ct' w' → UK U w w' → GvD w0 N0 U c z d g sz m mn lw hi k nb fm tm fr Q ss nd ws pl ct x oN oA e w (.returned .nilIface) w') := fun i a b ws' pl' ct' w' h1 h2 h3 h4 h5 h6 h7 => .yes i a b ws' pl' ct' w' h1 h2 h3 h4 h5 h6 h7
 have HH1 := hide H1
 have HE := hide he
 clear h F1 H1 he q'
 generalize hTR : GvD w0 N0 U c z d g sz m mn lw hi k nb fm tm fr Q ss nd ws pl ct x oN oA e w = TR at *
 clear hTR
 unfold errV at *
 go_enter Tryz.func35, Tryz.ntmps35
 go_upto_region 1 with (fail)
 generalize w.alloc (.cells #[.int .i64 oN, .int .i64 oA] 42) = W at *
 by_cases hx : x < 0 ∨ (ws.length : Int) ≤ x
 · have HWK := hide (worker_no e1 hx e ((unhide HE).below (unhide HH1).b0))
   have HX := hide hx
   clear RS RY e1 hx
   unfold errV at HWK
   go_wp2_with fail
   refine (unhide HWK).mono ?_
   rintro ev w1 ⟨rfl, b1⟩
   have H2 := hide ((unhide HH1).b b1)
   have HU2 := hide ((unhide HU1).trans ((unhide HH1).ukb b1))
   clear HWK HH1 HU1 b1
   go_wp2
   exact (unhide RB) _ (unhide HX) (unhide H2) (unhide HU2)
 · obtain ⟨i, rfl⟩ : ∃ i : Nat, x = i := ⟨x.toNat, by omega⟩
   have hil : i < ws.length := by omega
   obtain ⟨⟨a, b⟩, hws⟩ : ∃ ab, ws[i]? = some ab := ⟨_, List.getElem?_eq_getElem hil⟩
   have HWK := hide (worker_yes e1 hil)
   have HWS := hide hws
   clear RB e1 hx hws
   go_wp2_with fail
   refine (unhide HWK).mono ?_
   rintro ev w1 ⟨rfl, b1⟩
   have HH2 := hide ((unhide HH1).b b1)
   have HU2 := hide ((unhide HU1).trans ((unhide HH1).ukb b1))
   have y0 := (b1.cell (p := ⟨w.heap.size, 0, none⟩) hs1).trans q0
   have y1 := (b1.cell (p := ⟨w.heap.size, 1, none⟩) hs1).trans q1
   have hs2 : w.heap.size < w1.heap.size := Nat.lt_of_lt_of_le hs1 b1.size
   clear HWK HH1 HU1 b1 q0 q1 hs1
   obtain ⟨ga, gb, _, _⟩ := (unhide HH2).cells (unhide HWS)
   obtain ⟨ma, mb, hab⟩ := (unhide HH2).mem (unhide HWS)
   obtain ⟨hpa, hpb⟩ := (unhide HH2).notpile (unhide HWS)
   obtain ⟨ra, hTa, hla⟩ := (unhide HH2).tray ma
   obtain ⟨r2, hTb, hlb⟩ := (unhide HH2).tray mb
   unfold ptr at ga gb
   by_cases hl : (ct a).length < 4
   · have HRM := hide (room1 (c := c) (d := d) ga hTa hl)
     have HPA := hide hpa
     have HMA := hide ma
     have HL := hide hl
     clear ga gb hTa hTb mb hpb hpa ma hab hlb hla hl
     go_wp2_with fail
     refine (unhide HRM).mono ?_
     rintro ev w2 ⟨rfl, b2⟩
     have z0 := (b2.cell (p := ⟨w.heap.size, 0, none⟩) hs2).trans y0
     have z1 := (b2.cell (p := ⟨w.heap.size, 1, none⟩) hs2).trans y1
     have HH3 := hide ((unhide HH2).b b2)
     have HU3 := hide ((unhide HU2).trans ((unhide HH2).ukb b2))
     have HLY := hide ((unhide HH3).x.lay hN (by omega) e (unhide HE) (unhide HMA) (unhide HL) oN oA)
     clear HRM HH2 HU2 b2 y0 y1 hs2
     go_wp2_with fail
     refine (unhide HLY).mono ?_
     intro ev w3 hR
     cases hR with
     | no _ hb hn =>
       have H4 := hide ((unhide HH3).b hb)
       have HU4 := hide ((unhide HU3).trans ((unhide HH3).ukb hb))
       have HNN := hide hn
       clear HLY hb hn
       unfold errV
       go_wp2
       exact (unhide RS) i _ rfl hil (unhide HNN) (unhide H4) (unhide HU4)
     | yes _ ht hn hX hu _ =>
       have H4 := hide (hX.q (unhide HH3).nodup (fun t ht => ht) (fun t ht hno => absurd ht hno) (fun t ht => by
         rw [upN_ne (fun (e : t = a) => (unhide HPA) (by rw [← e]; exact ht))]
         exact (unhide HH3).pf t ht) (Nat.le_succ_of_le (unhide HH3).pq))
       have HU4 := hide ((unhide HU3).trans hu)
       have HNN := hide hn
       have HTT := hide ht
       have HGR : Hid (GvR ct a b i (oN, oA) ws pl ws pl (upN ct a (ct a ++ [(oN, oA)]))) := GvR.room (unhide HL)
       clear HLY ht hn hX hu
       go_wp2_with fail
       refine (room148 w3).mono ?_
       rintro ev w4 ⟨rfl, rfl⟩
       go_wp2
       exact (unhide RY) i a b _ _ _ _ rfl (unhide HWS) (unhide HTT) (unhide HNN) (unhide HGR) (unhide H4) (unhide HU4)
   · have hl4 : (ct a).length = 4 := by omega
     have HL4 := hide hl4
     have HPA := hide hpa
     have HPB := hide hpb
     have HMB := hide mb
     by_cases hb : ct b = []
     · have HRM := hide (room2 (c := c) (d := d) ga gb hTa hTb hl hb)
       have HB := hide hb
       have hlb0 : (ct b).length < 4 := by rw [hb]; simp
       have HLB := hide hlb0
       clear ga gb hTa hTb mb hpb hpa ma hab hlb hla hl hl4 hb hlb0
       go_wp2_with fail
       refine (unhide HRM).mono ?_
       rintro ev w2 ⟨rfl, b2⟩
       have z0 := (b2.cell (p := ⟨w.heap.size, 0, none⟩) hs2).trans y0
       have z1 := (b2.cell (p := ⟨w.heap.size, 1, none⟩) hs2).trans y1
       have HH3 := hide ((unhide HH2).b b2)
       have HU3 := hide ((unhide HU2).trans ((unhide HH2).ukb b2))
       have HLY := hide ((unhide HH3).x.lay hN (by omega) e (unhide HE) (unhide HMB) (unhide HLB) oN oA)
       clear HRM HH2 HU2 b2 y0 y1 hs2
       go_wp2_with fail
       refine (unhide HLY).mono ?_
       intro ev w3 hR
       cases hR with
       | no _ hb hn =>
         have H4 := hide ((unhide HH3).b hb)
         have HU4 := hide ((unhide HU3).trans ((unhide HH3).ukb hb))
         have HNN := hide hn
         clear HLY hb hn
         unfold errV
         go_wp2
         exact (unhide RS) i _ rfl hil (unhide HNN) (unhide H4) (unhide HU4)
       | yes _ ht hn hX hu _ =>
         have H4 := hX.q (unhide HH3).nodup (fun t ht => ht) (fun t ht hno => absurd ht hno) (fun t ht => by
           rw [upN_ne (fun (e : t = b) => (unhide HPB) (by rw [← e]; exact ht))]
           exact (unhide HH3).pf t ht) (Nat.le_succ_of_le (unhide HH3).pq)
         rw [unhide HB, List.nil_append] at H4
         have HSW := hide (H4.swapped hN (unhide HWS))
         have HU4 := hide ((unhide HU3).trans hu)
         have HNN := hide hn
         have HTT := hide ht
         have HGR : Hid (GvR ct a b i (oN, oA) ws pl (ws.set i (b, a)) pl (upN ct b [(oN, oA)])) := GvR.swap (unhide HL4) (unhide HB)
         clear HLY ht hn hX hu H4
         go_wp2_with fail
         refine (unhide HSW).mono ?_
         rintro ev w4 ⟨rfl, H5, uk5⟩
         have HH5 := hide H5
         have HU5 := hide ((unhide HU4).trans uk5)
         clear H5 uk5
         go_wp2
         exact (unhide RY) i a b _ _ _ _ rfl (unhide HWS) (unhide HTT) (unhide HNN) (unhide HGR) (unhide HH5) (unhide HU5)
     · have dc0 := (unhide HH2).db.d0
       unfold ptr at dc0
       have HRM := hide (room3 (c := c) (d := d) (unhide HH2).low dc0 ga gb hTa hTb hl hb)
       have HB := hide hb
       clear ga gb hTa hTb mb hpb hpa ma hab hlb hla hl hl4 hb dc0
       go_wp2_with fail
       refine (unhide HRM).mono ?_
       rintro ev w2 ⟨tn, b2', b3, b4, rfl, b2, htn, hT, hb4, ⟨x2, x3, x4⟩, t2, t3, t4⟩
       have z0 := (b2.cell (p := ⟨w.heap.size, 0, none⟩) hs2).trans y0
       have z1 := (b2.cell (p := ⟨w.heap.size, 1, none⟩) hs2).trans y1
       have hH3 := (unhide HH2).b b2
       have hX3 := (unhide HH2).x.add b2 htn hT
       have hno : tn ∉ trs ws pl := fun hm => by
         obtain ⟨r5, hT5, _⟩ := (unhide HH2).tray hm
         have := hT5.tg.lt
         omega
       have HNO := hide hno
       have HH3 := hide hH3
       have HX3 := hide hX3
       have HU3 := hide ((unhide HU2).trans ((unhide HH2).ukb b2))
       have HLY := hide (hX3.lay hN (by omega) e (unhide HE) (t := tn) (by simp) (by rw [upN_at]; simp) oN oA)
       have HT2 := hide t2
       have HT3 := hide t3
       have HT4 := hide t4
       have hb4w : Hid (∀ p cp, w2.cell? ⟨d, 2, none⟩ = some (.slice p pl.length cp) → some b4 ≠ (Value.slice p pl.length cp).ownBlock) := fun p cp hpc e => by
         obtain ⟨p', cp', e2, o2⟩ := (unhide HH2).db.d2
         have e3 := (b2.cell (p := ⟨d, 2, none⟩) (unhide HH2).db.tg.lt).trans e2
         rw [e3] at hpc
         simp only [Option.some.injEq, Value.slice.injEq, true_and] at hpc
         obtain ⟨rfl, rfl⟩ := hpc
         have := (o2.lt b4 e.symm).2
         omega
       have HTL := hide ((unhide HH2).db.tg.b b2)
       have hpb := (unhide HH2).pq
       clear HRM HU2 b2 y0 y1 hs2 hH3 hX3 hT t2 t3 t4 hno
       go_wp2_with fail
       refine (unhide HLY).mono ?_
       intro ev w3 hR
       cases hR with
       | no _ hb hn =>
         have H4 := hide ((unhide HH3).b hb)
         have HU4 := hide ((unhide HU3).trans ((unhide HH3).ukb hb))
         have HNN : Hid (¬ (Tkn m sz ss oN oA ∧ ∀ u ∈ trs ws pl, (oN, oA) ∉ ct u)) := fun ⟨h1, h2⟩ => hn ⟨h1, fun u hu hm => by
           rcases List.mem_cons.1 hu with e | hu
           · rw [e, upN_at] at hm; cases hm
           · rw [upN_ne (fun (e : u = tn) => (unhide HNO) (by rw [← e]; exact hu))] at hm
             exact h2 u hu hm⟩
         clear HLY hb hn
         unfold errV
         go_wp2
         exact (unhide RS) i _ rfl hil (unhide HNN) (unhide H4) (unhide HU4)
       | yes _ ht hn hX hu hkk =>
         have e2 := (World.cell?_of_block (w := w2) (a := ⟨b2', 0, none⟩) (hkk b2' 83 (unhide HT2) (by decide) (by decide))).trans x2
         have e3 := (World.cell?_of_block (w := w2) (a := ⟨b3, 0, none⟩) (hkk b3 169 (unhide HT3) (by decide) (by decide))).trans x3
         have e4 := (World.cell?_of_block (w := w2) (a := ⟨b4, 0, none⟩) (hkk b4 165 (unhide HT4) (by decide) (by decide))).trans x4
         have ed := World.cell?_of_block (w := w2) (a := ⟨d, 2, none⟩) (hkk d 164 (unhide HTL) (by decide) (by decide))
         have hlow : N0 ≤ w3.heap.size := Nat.le_of_lt (Nat.lt_of_le_of_lt hX.db.ge hX.db.tg.lt)
         have HPU := hide (hX.pileup hN hlow (by omega) (unhide HWS) e2 e3 e4 ((unhide HT2).blk (hkk b2' 83 (unhide HT2) (by decide) (by decide))) ((unhide HT3).blk (hkk b3 169 (unhide HT3) (by decide) (by decide))) ((unhide HT4).blk (hkk b4 165 (unhide HT4) (by decide) (by decide))) (fun p cp hpc => (unhide hb4w) p cp (ed.symm.trans hpc)))
         have HU4 := hide ((unhide HU3).trans hu)
         have HNN : Hid (∀ u ∈ trs ws pl, (oN, oA) ∉ ct u) := fun u hu hm => by
           have := hn u (List.mem_cons_of_mem _ hu)
           rw [upN_ne (fun (e : u = tn) => (unhide HNO) (by rw [← e]; exact hu))] at this
           exact this hm
         have HTT := hide ht
         have HGR : Hid (GvR ct a b i (oN, oA) ws pl (ws.set i (tn, b)) (pl ++ [a]) (upN ct tn [(oN, oA)])) := GvR.pile tn (unhide HL4) (unhide HB) (unhide HNO)
         clear HLY ht hn hX hu hkk e2 e3 e4 ed x2 x3 x4
         go_wp2_with fail
         refine (unhide HPU).mono ?_
         rintro ev w4 ⟨rfl, X5, uk5⟩
         have hp1 := trs_perm pl (unhide HWS)
         have hp2 := (trs_app (ws.set i (tn, b)) pl a).trans (List.Perm.cons a (trs_set hil tn b pl))
         have hpp : (trs (ws.set i (tn, b)) (pl ++ [a])).Perm (tn :: trs ws pl) := (hp2.trans (List.Perm.swap tn a _)).trans (List.Perm.cons tn hp1.symm)
         have hct : upN (upN ct tn []) tn (upN ct tn [] tn ++ [(oN, oA)]) = upN ct tn [(oN, oA)] := by
           funext u
           by_cases e : u = tn
           · rw [e, upN_at, upN_at, upN_at]; rfl
           · rw [upN_ne e, upN_ne e, upN_ne e]
         rw [hct] at X5
         have HH5 := hide (X5.q (hpp.nodup_iff.2 (List.nodup_cons.2 ⟨unhide HNO, (unhide HH3).nodup⟩)) (fun t ht => hpp.mem_iff.1 ht) (fun t ht hno => absurd (hpp.mem_iff.2 ht) hno) (fun t ht => by
           have hm : t ∈ trs ws pl := by
             rcases List.mem_append.1 ht with h1 | h1
             · unfold trs; exact List.mem_append_right _ h1
             · simp only [List.mem_singleton] at h1
               rw [h1]
               exact ((unhide HH3).mem (unhide HWS)).1
           rw [upN_ne (fun (e : t = tn) => (unhide HNO) (by rw [← e]; exact hm))]
           rcases List.mem_append.1 ht with h1 | h1
           · exact (unhide HH3).pf t h1
           · simp only [List.mem_singleton] at h1
             rw [h1]
             exact unhide HL4) (by simp; omega))
         have HU5 := hide ((unhide HU4).trans uk5)
         clear X5 uk5 hp1 hp2 hpp hct
         go_wp2
         exact (unhide RY) i a b _ _ _ _ rfl (unhide HWS) (unhide HTT) (unhide HNN) (unhide HGR) (unhide HH5) (unhide HU5)
end
end Mg
end Go.Proofs.YtfefehkapffljaaGreatDoor
namespace Go.Proofs.YtfefehkapffljaaGreatDoor
open Go.RowKit Go.Maps
namespace Mg
open Fr Bd Zn Dz Sb
theorem info168 : (Tryz.prog.info? 168).map (fun i => (i.zero, i.size, i.bytes)) = some (some (.agg #[.pointer none, .pointer none]), 2, 16) := by kernel_rfl
theorem dnew_nil (x : Int) (w : World) (e : Nat → Addr) (he : ErrsM w e) : Calls Tryz.prog 34 #[.pointer none, .int .i64 x] w fun ev w' => ev = .returned (.tuple #[.pointer none, errV (e 2)]) ∧ Below w.heap.size w w' := by
 have E2 := he.v2
 clear he
 unfold errV at *
 go_enter Tryz.func34, Tryz.ntmps34
 go_wp2
 go_quiet (fail)
 go_wp2
 go_ret2
 exact ⟨rfl, bdN (Below.refl _ _) _⟩
theorem dnew_bad (c : Nat) (x : Int) (w : World) (e : Nat → Addr) (he : ErrsM w e) (hx : x < 1 ∨ 4 < x) : Calls Tryz.prog 34 #[.pointer (some ⟨c, 0, none⟩), .int .i64 x] w fun ev w' => ev = .returned (.tuple #[.pointer none, errV (e 1)]) ∧ Below w.heap.size w w' := by
 have E1 := he.v1
 clear he
 unfold errV at *
 by_cases h1 : x < 1
 · have d1 : decide (x < 1) = true := by simpa using h1
   go_enter Tryz.func34, Tryz.ntmps34
   go_wp2
   go_quiet (fail)
   go_wp2
   go_ret2
   exact ⟨rfl, bdN (Below.refl _ _) _⟩
 · have d1 : decide (x < 1) = false := by simpa using h1
   have d2 : decide (x > 4) = true := by simp; omega
   go_enter Tryz.func34, Tryz.ntmps34
   go_wp2
   go_quiet (fail)
   go_wp2
   go_ret2
   exact ⟨rfl, bdN (Below.refl _ _) _⟩
structure DN (N0 : Nat) (w : World) (c : Nat) (ws : List (Nat × Nat)) (W : World) : Prop where
 b : Below w.heap.size w W
 d0 : W.cell? ⟨w.heap.size, 0, none⟩ = some (ptr c)
 d1 : ∃ v, W.cell? ⟨w.heap.size, 1, none⟩ = some v ∧ W.ownsRow w.heap.size 168 2 v ws.length (flatP ws)
 d2 : W.cell? ⟨w.heap.size, 2, none⟩ = some (.slice none 0 0)
 tg : Tag W w.heap.size 164
 fz : ∀ o, W.frozen? ⟨w.heap.size, o, none⟩ = false
 nd : (trs ws []).Nodup
 tr : ∀ t ∈ trs ws [], TRy N0 W c t t [] ∧ w.heap.size < t
theorem trs_end (ws : List (Nat × Nat)) (a b : Nat) : trs (ws ++ [(a, b)]) [] = trs ws [] ++ [a, b] := by unfold trs; simp
theorem flatP_end (ws : List (Nat × Nat)) (a b : Nat) : flatP (ws ++ [(a, b)]) = flatP ws ++ [ptr a, ptr b] := by unfold flatP; simp
theorem DN.step {N0 : Nat} {w wr w4 : World} {c : Nat} {ws : List (Nat × Nat)} (h : DN N0 w c ws wr) (hN : N0 ≤ w.heap.size) {A B : Nat} (hAB : (A = wr.heap.size ∧ B = wr.heap.size + 1) ∨ (A = wr.heap.size + 1 ∧ B = wr.heap.size)) {p : Option Addr} {n cp g4 c4 : Nat} {S : Array Value} (hl : ws.length = n) (e1 : wr.cell? ⟨w.heap.size, 1, none⟩ = some (.slice p n cp)) (o1 : wr.ownsRow w.heap.size 168 2 (.slice p n cp) n (flatP ws)) (o4 : w4.ownsRow w.heap.size 168 2 (.slice (some ⟨g4, 0, none⟩) (n + 1) c4) (n + 1) (flatP ws ++ [.pointer (some ⟨A, 0, none⟩), .pointer (some ⟨B, 0, none⟩)])) (q4 : (((wr.alloc (.cells #[.pointer (some ⟨c, 0, none⟩), .slice none 0 0] 194)).alloc (.cells #[.pointer (some ⟨c, 0, none⟩), .slice none 0 0] 194)).alloc (.cells S 168)).drew.grownBy w4 (Value.slice p n cp).ownBlock) :
   DN N0 w c (ws ++ [(A, B)]) (w4.setCell ⟨w.heap.size, 1, none⟩ (.slice (some ⟨g4, 0, none⟩) (n + 1) c4)) := by
 have hNr : N0 ≤ wr.heap.size := Nat.le_trans hN h.b.size
 have hs1 : (wr.alloc (.cells #[.pointer (some ⟨c, 0, none⟩), .slice none 0 0] 194)).heap.size = wr.heap.size + 1 := by simp
 have T1 := tray_new N0 c wr hNr
 have T2 := tray_new N0 c (wr.alloc (.cells #[.pointer (some ⟨c, 0, none⟩), .slice none 0 0] 194)) (by rw [hs1]; omega)
 rw [hs1] at T2
 have B12 := ballo (Below.refl (wr.alloc (.cells #[.pointer (some ⟨c, 0, none⟩), .slice none 0 0] 194)).heap.size (wr.alloc (.cells #[.pointer (some ⟨c, 0, none⟩), .slice none 0 0] 194))) (.cells #[.pointer (some ⟨c, 0, none⟩), .slice none 0 0] 194)
 have B23 := (ballo (Below.refl ((wr.alloc (.cells #[.pointer (some ⟨c, 0, none⟩), .slice none 0 0] 194)).alloc (.cells #[.pointer (some ⟨c, 0, none⟩), .slice none 0 0] 194)).heap.size ((wr.alloc (.cells #[.pointer (some ⟨c, 0, none⟩), .slice none 0 0] 194)).alloc (.cells #[.pointer (some ⟨c, 0, none⟩), .slice none 0 0] 194))) (.cells S 168)).drew
 have B03 : Below wr.heap.size wr (((wr.alloc (.cells #[.pointer (some ⟨c, 0, none⟩), .slice none 0 0] 194)).alloc (.cells #[.pointer (some ⟨c, 0, none⟩), .slice none 0 0] 194)).alloc (.cells S 168)).drew := (ballo (ballo (ballo (Below.refl _ _) _) _) _).drew
 have T1' := (T1.b B12).b B23
 have T2' := T2.b B23
 have oA := own_b o1 B03
 have td := h.tg.b B03
 have tgb : ∀ t t', Tag (((wr.alloc (.cells #[.pointer (some ⟨c, 0, none⟩), .slice none 0 0] 194)).alloc (.cells #[.pointer (some ⟨c, 0, none⟩), .slice none 0 0] 194)).alloc (.cells S 168)).drew t t' → t' ≠ 168 → t ≠ w.heap.size → (w4.setCell ⟨w.heap.size, 1, none⟩ (.slice (some ⟨g4, 0, none⟩) (n + 1) c4)).heap[t]? = (((wr.alloc (.cells #[.pointer (some ⟨c, 0, none⟩), .slice none 0 0] 194)).alloc (.cells #[.pointer (some ⟨c, 0, none⟩), .slice none 0 0] 194)).alloc (.cells S 168)).drew.heap[t]? := fun t t' ht hn hd => (Below.heap_setCell _ _ _ _ (by simpa using hd)).trans (q4.block t ht.lt (own_nb oA ht hn))
 have e4 := q4.block w.heap.size td.lt (own_nb oA td (by decide))
 have hw := h.b.size
 have hwl := h.tg.lt
 have c4' : ∀ j, w4.cell? ⟨w.heap.size, j, none⟩ = wr.cell? ⟨w.heap.size, j, none⟩ := fun j => (World.cell?_of_block (a := ⟨w.heap.size, j, none⟩) e4).trans (B03.cell (p := ⟨w.heap.size, j, none⟩) hwl)
 have G4 : Tag w4 g4 168 := by
   rcases o4.2 with ⟨e3, _⟩ | ⟨g', cap', cur, e3, _, hh, _⟩
   · cases e3
   · simp only [Value.slice.injEq, Option.some.injEq, Addr.mk.injEq] at e3
     obtain ⟨⟨rfl, _⟩, _⟩ := e3
     exact ⟨cur, _, hh⟩
 have hgd : g4 ≠ w.heap.size := G4.ne (td.blk e4) (by decide)
 have hT : ∀ t, (t = wr.heap.size ∨ t = wr.heap.size + 1) → TRy N0 (w4.setCell ⟨w.heap.size, 1, none⟩ (.slice (some ⟨g4, 0, none⟩) (n + 1) c4)) c t t [] ∧ w.heap.size < t := fun t ht => by
   rcases ht with rfl | rfl
   · have := tgb _ _ T1'.tg (by decide) (by omega)
     exact ⟨T1'.same this this, by omega⟩
   · have := tgb _ _ T2'.tg (by decide) (by omega)
     exact ⟨T2'.same this this, by omega⟩
 refine ⟨?_, (cso (by simp)).trans ((c4' 0).trans h.d0), ⟨_, css ((c4' 1).trans e1), ?_⟩, (cso (by simp)).trans ((c4' 2).trans h.d2), (td.blk e4).set _ _, fun o => ?_, ?_, fun t ht => ?_⟩
 · have hK : Below w.heap.size w w4 := by
     refine ⟨q4.os.trans (B03.os.trans h.b.os), q4.tape.trans (B03.tape.trans h.b.tape), q4.output.trans (B03.output.trans h.b.output), Nat.le_trans h.b.size (Nat.le_trans B03.size q4.size), fun k hk => ?_⟩
     refine (q4.block k (Nat.lt_of_lt_of_le (Nat.lt_of_lt_of_le hk hw) B03.size) (fun e => ?_)).trans ((B03.block k (Nat.lt_of_lt_of_le hk hw)).trans (h.b.block k hk))
     have := (o1.lt k e.symm).1
     omega
   exact hK.setCell (by simp) _
 · rw [flatP_end, List.length_append, hl]
   exact own_keepF o4 (fun g hg => by
     simp only [Value.ownBlock, Option.some.injEq] at hg
     subst hg
     exact Below.heap_setCell _ _ _ _ hgd)
 · rw [World.frozen?_setCell]
   exact (World.frozen?_of_block (a := ⟨w.heap.size, o, none⟩) e4).trans ((B03.frozen (p := ⟨w.heap.size, o, none⟩) hwl).trans (h.fz o))
 · rw [trs_end]
   have hlt : ∀ t ∈ trs ws [], t < wr.heap.size := fun t ht => (h.tr t ht).1.tg.lt
   refine List.nodup_append.2 ⟨h.nd, ?_, fun x hx y hy e => ?_⟩
   · rcases hAB with ⟨rfl, rfl⟩ | ⟨rfl, rfl⟩ <;> simp
   · subst e
     have := hlt x hx
     simp only [List.mem_cons, List.not_mem_nil, or_false] at hy
     rcases hAB with ⟨rfl, rfl⟩ | ⟨rfl, rfl⟩ <;> omega
 · rw [trs_end] at ht
   rcases List.mem_append.1 ht with h1 | h1
   · have hh := h.tr t h1
     have hb := (hh.1.b B03)
     have := tgb t 194 hb.tg (by decide) (by omega)
     exact ⟨hb.same this this, hh.2⟩
   · simp only [List.mem_cons, List.not_mem_nil, or_false] at h1
     exact hT t (by omega)
set_option maxRecDepth 100000 in
set_option maxHeartbeats 8000000 in
theorem dnew_ok (N0 : Nat) (c : Nat) (x : Nat) (w : World) (hN : N0 ≤ w.heap.size) (hx : 1 ≤ x ∧ x ≤ 4) : Calls Tryz.prog 34 #[.pointer (some ⟨c, 0, none⟩), .int .i64 (x : Int)] w fun ev w' => ev = .returned (.tuple #[.pointer (some ⟨w.heap.size, 0, none⟩), .nilIface]) ∧ ∃ ws, ws.length = x ∧ DN N0 w c ws w' := by
 obtain ⟨i0, hi0, hz0, hz1, hz2⟩ := info_parts info168
 have HI := hide hi0
 have HZ := hide hz0
 have HZ1 := hide hz1
 have HZ2 := hide hz2
 clear hi0 hz0 hz1 hz2
 have F1 := ballo (Below.refl w.heap.size w) (.cells #[.pointer (some ⟨c, 0, none⟩), .slice none 0 0, .slice none 0 0] 164)
 have q' := World.cell?_alloc_new w #[.pointer (some ⟨c, 0, none⟩), .slice none 0 0, .slice none 0 0] 164
 have D0 : Hid (DN N0 w c [] (w.alloc (.cells #[.pointer (some ⟨c, 0, none⟩), .slice none 0 0, .slice none 0 0] 164))) := ⟨F1, q' 0, ⟨_, q' 1, World.ownsRow_nil _ _ _ _⟩, q' 2, tag_new _ _ _, fun o => World.frozen?_alloc_at _ _ w.heap.size o rfl, List.nodup_nil, fun t ht => by cases ht⟩
 clear F1 q'
 have d1 : decide ((x : Int) < 1) = false := by simp; omega
 have d2 : decide ((x : Int) > 4) = false := by simp; omega
 go_enter Tryz.func34, Tryz.ntmps34
 go_upto_region 6 with (fail)
 generalize w.alloc (.cells #[.pointer (some ⟨c, 0, none⟩), .slice none 0 0, .slice none 0 0] 164) = W at *
 go_wp2_with fail
 go_loopw [21] (fun s wr => ∃ (j : Nat) (ws : List (Nat × Nat)), s = .int .i64 j ∧ j ≤ x ∧ ws.length = j ∧ Hid (DN N0 w c ws wr)) (fun s _ => x - (RowKit.intOf s).toNat)
 case atStart => exact ⟨0, [], rfl, Nat.zero_le _, rfl, D0⟩
 case round =>
   clear D0
   obtain ⟨j, ws, rfl, hj, hl, hD⟩ := hrel
   by_cases hjx : j < x
   · have hjl : (j : Int) < (x : Int) := by omega
     have hD' := unhide hD
     obtain ⟨v, e1, o1⟩ := hD'.d1
     rw [hl] at o1
     obtain ⟨p, cp, rfl⟩ := own_sl o1
     have dl := hD'.tg.lt
     have hNr : N0 ≤ wr.heap.size := Nat.le_trans hN hD'.b.size
     have hdf := hD'.fz 1
     have tgd := hD'.tg
     have B1 : Below wr.heap.size wr (wr.alloc (.cells #[.pointer (some ⟨c, 0, none⟩), .slice none 0 0] 194)) := ballo (Below.refl _ _) _
     have B2 : Below wr.heap.size wr ((wr.alloc (.cells #[.pointer (some ⟨c, 0, none⟩), .slice none 0 0] 194)).alloc (.cells #[.pointer (some ⟨c, 0, none⟩), .slice none 0 0] 194)) := ballo (ballo (Below.refl _ _) _) _
     have BX : Below wr.heap.size wr (((wr.alloc (.cells #[.pointer (some ⟨c, 0, none⟩), .slice none 0 0] 194)).alloc (.cells #[.pointer (some ⟨c, 0, none⟩), .slice none 0 0] 194)).alloc (.cells #[.pointer (some ⟨wr.heap.size, 0, none⟩), .pointer (some ⟨(wr.heap.size + 1), 0, none⟩)] 168)).drew := (ballo (ballo (ballo (Below.refl _ _) _) _) _).drew
     have e1a := (B1.cell (p := ⟨w.heap.size, 1, none⟩) dl).trans e1
     have e1b := (B2.cell (p := ⟨w.heap.size, 1, none⟩) dl).trans e1
     have e1x : (((wr.alloc (.cells #[.pointer (some ⟨c, 0, none⟩), .slice none 0 0] 194)).alloc (.cells #[.pointer (some ⟨c, 0, none⟩), .slice none 0 0] 194)).alloc (.cells #[.pointer (some ⟨wr.heap.size, 0, none⟩), .pointer (some ⟨(wr.heap.size + 1), 0, none⟩)] 168)).cell? ⟨w.heap.size, 1, none⟩ = some (.slice p j cp) := (BX.cell (p := ⟨w.heap.size, 1, none⟩) dl).trans e1
     have oAx := own_b o1 BX
     have tAx := tgd.b BX
     have zAx := (⟨(BX.cell (p := ⟨w.heap.size, 1, none⟩) dl).trans e1, (BX.frozen (p := ⟨w.heap.size, 1, none⟩) dl).trans hdf⟩ : (((wr.alloc (.cells #[.pointer (some ⟨c, 0, none⟩), .slice none 0 0] 194)).alloc (.cells #[.pointer (some ⟨c, 0, none⟩), .slice none 0 0] 194)).alloc (.cells #[.pointer (some ⟨wr.heap.size, 0, none⟩), .pointer (some ⟨(wr.heap.size + 1), 0, none⟩)] 168)).drew.cell? ⟨w.heap.size, 1, none⟩ = some (.slice p j cp) ∧ (((wr.alloc (.cells #[.pointer (some ⟨c, 0, none⟩), .slice none 0 0] 194)).alloc (.cells #[.pointer (some ⟨c, 0, none⟩), .slice none 0 0] 194)).alloc (.cells #[.pointer (some ⟨wr.heap.size, 0, none⟩), .pointer (some ⟨(wr.heap.size + 1), 0, none⟩)] 168)).drew.frozen? ⟨w.heap.size, 1, none⟩ = false)
     have hwn : w.heap.size ≤ (((wr.alloc (.cells #[.pointer (some ⟨c, 0, none⟩), .slice none 0 0] 194)).alloc (.cells #[.pointer (some ⟨c, 0, none⟩), .slice none 0 0] 194)).alloc (.cells #[.pointer (some ⟨wr.heap.size, 0, none⟩), .pointer (some ⟨(wr.heap.size + 1), 0, none⟩)] 168)).drew.heap.size := Nat.le_trans hD'.b.size BX.size
     have hs2 : ((wr.alloc (.cells #[.pointer (some ⟨c, 0, none⟩), .slice none 0 0] 194)).alloc (.cells #[.pointer (some ⟨c, 0, none⟩), .slice none 0 0] 194)).heap.size = wr.heap.size + 1 + 1 := by simp
     have nx := World.cell?_alloc_new ((wr.alloc (.cells #[.pointer (some ⟨c, 0, none⟩), .slice none 0 0] 194)).alloc (.cells #[.pointer (some ⟨c, 0, none⟩), .slice none 0 0] 194)) #[.pointer (some ⟨wr.heap.size, 0, none⟩), .pointer (some ⟨wr.heap.size + 1, 0, none⟩)] 168
     rw [hs2] at nx
     have n0x := nx 0
     have n1x := nx 1
     simp only [List.getElem?_toArray, List.getElem?_cons_zero, List.getElem?_cons_succ] at n0x n1x
     clear nx hs2
     clear hD' B1 B2 BX
     go_wp2_with fail
     go_region_law (first
       | (refine step_append_lies _ rfl (.tmp 27) (.tmp 33) 161 rfl w.heap.size 168 i0 (.agg #[.pointer none, .pointer none]) 2 16 Tryz.underlying161 (unhide HI) (unhide HZ) (unhide HZ1) (unhide HZ2) rfl (by decide) (.slice p j cp) j (flatP ws) (by simp [Act.eval]) oAx ⟨wr.heap.size + 1 + 1, 0, none⟩ 1 1 [.pointer (some ⟨wr.heap.size, 0, none⟩), .pointer (some ⟨(wr.heap.size + 1), 0, none⟩)] (by simp [Act.eval]) rfl (by intro j' u hj; match j', hj with | 0, hj => (simp at hj; subst hj; simp [Addr.add, n0x]) | 1, hj => (simp at hj; subst hj; simp [Addr.add, n1x])) (by intro u hu; simp at hu; rcases hu with rfl | rfl <;> rfl) (by omega) (by unfold maxLen; omega) (by omega) hwn _ rfl ?_; intro g4 c4 w4 o4 q4 hg4 hg5; have e4 := q4.block w.heap.size tAx.lt (own_nb oAx tAx (by decide)); have zc4 : w4.cell? ⟨w.heap.size, 1, none⟩ = some (.slice p j cp) := (World.cell?_of_block (a := ⟨w.heap.size, 1, none⟩) e4).trans zAx.1; have zf4 : w4.frozen? ⟨w.heap.size, 1, none⟩ = false := (World.frozen?_of_block (a := ⟨w.heap.size, 1, none⟩) e4).trans zAx.2; have HDS := hide ((unhide hD).step hN (A := wr.heap.size) (B := (wr.heap.size + 1)) (Or.inl ⟨rfl, rfl⟩) hl e1 o1 o4 q4))
       | (go_simp; go_at_call 96; refine (tray_ok N0 c _ (by first | exact hNr | (simp; omega))).mono ?_; rintro ev w' ⟨rfl, rfl⟩))
     all_goals
       have hln : (ws ++ [(wr.heap.size, wr.heap.size + 1)]).length = j + 1 := by simp [hl]
       clear zc4 zf4 e4 o4 q4 hg4 hg5 e1 e1a e1b e1x oAx tAx zAx n0x n1x o1
       generalize w4.setCell ⟨w.heap.size, 1, none⟩ (.slice (some ⟨g4, 0, none⟩) (j + 1) c4) = w5 at *
       go_wp2_with fail
       go_roundw
       case rel => exact ⟨j + 1, _, by go_num, by omega, hln, HDS⟩
       case measure => simp [RowKit.intOf]; omega
   · obtain rfl : j = x := by omega
     have hnl : ¬ (j : Int) < j := by omega
     go_wp2_with fail
     go_ret2
     exact ⟨rfl, ws, hl, unhide hD⟩
end Mg
end Go.Proofs.YtfefehkapffljaaGreatDoor
namespace Go.Proofs.YtfefehkapffljaaGreatDoor
open Go.RowKit Go.Maps
namespace Mg
open Fr Bd Zn Dz Sb
def sumT (ct : Nat → List Bl) (L : List Nat) : Nat → Nat
 | 0 => 0
 | i + 1 => sumT ct L i + (match L[i]? with | some t => (ct t).length | none => 0)
theorem sumT_at {ct : Nat → List Bl} {L : List Nat} {i t : Nat} (h : L[i]? = some t) : sumT ct L (i + 1) = sumT ct L i + (ct t).length := by rw [sumT, h]
theorem sumT_le {ct : Nat → List Bl} {L : List Nat} (h : ∀ t ∈ L, (ct t).length ≤ 4) : ∀ i, sumT ct L i ≤ i * 4
 | 0 => by simp [sumT]
 | i + 1 => by
   have h1 := sumT_le h i
   rw [sumT]
   cases hL : L[i]? with
   | none => simp only; omega
   | some t =>
     have := h t (List.mem_of_getElem? hL)
     simp only
     omega
set_option maxRecDepth 100000 in
set_option maxHeartbeats 4000000 in
theorem count_ok {N0 c : Nat} {ct : Nat → List Bl} {w : World} {g cp : Nat} {L : List Nat} (hL : ∀ i t, L[i]? = some t → w.cell? ⟨g, i, none⟩ = some (.pointer (some ⟨t, 0, none⟩))) (hT : ∀ t ∈ L, ∃ r, TRy N0 w c t r (ct t)) (h4 : ∀ t ∈ L, (ct t).length ≤ 4) (hl : L.length ≤ 1000000) :
   Calls Tryz.prog 146 #[.slice (some ⟨g, 0, none⟩) L.length cp] w fun ev w' => ev = .returned (.int .i64 (sumT ct L L.length)) ∧ w' = w := by
 have HL := hide hL
 have HT := hide hT
 have HS := hide (sumT_le h4)
 generalize hn : L.length = n at *
 have HN := hide hn
 clear hL hT h4 hn
 go_enter Tryz.func146, Tryz.ntmps146
 go_wp2
 go_loopw [3, 8] (fun s3 s8 wr => ∃ i : Nat, s3 = .int .i64 (sumT ct L i) ∧ s8 = .int .i64 i ∧ i ≤ n ∧ Hid (w = wr)) (fun _ s8 _ => n - (RowKit.intOf s8).toNat)
 case atStart => exact ⟨0, rfl, rfl, Nat.zero_le _, (rfl : w = w)⟩
 case round =>
   obtain ⟨i, rfl, rfl, hi, hw⟩ := hrel
   have hw' := unhide hw
   clear hw
   subst hw'
   have hi0 : (0 : Int) ≤ i := by omega
   by_cases hin : i < n
   · have hil : (i : Int) < n := by omega
     obtain ⟨t, ht⟩ : ∃ t, L[i]? = some t := ⟨_, List.getElem?_eq_getElem (by rw [unhide HN]; exact hin)⟩
     have hc := (unhide HL) i t ht
     obtain ⟨r, hTr⟩ := (unhide HT) t (List.mem_of_getElem? ht)
     have HC := hide (tcount_ok hTr)
     have hs := sumT_at (ct := ct) ht
     have hb1 := (unhide HS) i
     have hb2 := (unhide HS) (i + 1)
     have HE := hide hs
     have hb3 : sumT ct L i + (ct t).length ≤ 4000004 := by omega
     clear hTr ht hs hb2
     generalize sumT ct L i = s at *
     generalize (ct t).length = k at *
     go_wp2_with fail
     refine (unhide HC).mono ?_
     rintro ev w2 ⟨rfl, rfl⟩
     go_wp2_with fail
     go_roundw
     case rel => exact ⟨i + 1, by rw [unhide HE]; go_num, by go_num, by omega, (show Hid True from trivial)⟩
     case measure => simp [RowKit.intOf]; omega
   · obtain rfl : i = n := by omega
     have hnl : ¬ (i : Int) < i := by omega
     go_wp2
     go_ret
     exact ⟨rfl, rfl⟩
set_option maxRecDepth 100000 in
theorem count_nil {w : World} {p : Option Addr} {cp : Nat} : Calls Tryz.prog 146 #[.slice p 0 cp] w fun ev w' => ev = .returned (.int .i64 0) ∧ w' = w := by
 go_enter Tryz.func146, Tryz.ntmps146
 go_wp2
 refine wp_loop_rounds 1 ?_
 rw [rounds_succ]
 go_wp2
 go_ret
 exact ⟨rfl, rfl⟩
section
variable {w0 : World} {N0 : Nat} {U : Nat → Prop} {c z d g : Nat} {sz : Int} {m : Nat} {mn lw hi : Int} {k : Nat} {nb fm tm : Nat → Nat} {fr : Nat → List Nat} {Q : Nat} {ss ss' : List Sl} {nd nd' : Nat → Nd} {ws : List (Nat × Nat)} {pl L : List Nat} {ct : Nat → List Bl} {w w' : World}
theorem DQ.fresh {ly : Ly} {bs : List Nat} (h : PS N0 w c z ly sz m bs ss mn lw hi k nb fm tm nd fr) (hb : Below w0.heap.size w0 w) (hN : N0 ≤ w.heap.size) (hly : ly.2 = .map #[] 0) {ws : List (Nat × Nat)} (hw : 1 ≤ ws.length) (hD : DN N0 w c ws w') : ∃ g, DQ w0 N0 (fun _ => False) c z w.heap.size g sz m mn lw hi k nb fm tm fr 0 ss nd ws [] (fun _ => []) w' := by
 have h' := h.b hD.b
 obtain ⟨v, e1, o1⟩ := hD.d1
 obtain ⟨g, cap, rfl, hg, hl⟩ := o1.form (by omega)
 have hm : Ml w' ly.1 0 (fun _ _ => none) := Ml.empty (by rw [h'.c.ym.lm, hly])
 refine ⟨g, btr hb hD.b, ⟨ly, bs, 0, _, fun t => t, h', ⟨hD.nd, fun t ht => (hD.tr t ht).1, fun t _ u _ hne => hne, fun _ _ => id, hm, h'.c.ym.lg, fun a b t => ⟨fun e => (by cases e), fun ⟨_, e⟩ => (by cases e)⟩, fun t _ => ⟨List.nodup_nil, by simp, fun o ho => by cases ho⟩⟩, Nat.le_refl _⟩, ⟨hD.d0, ⟨cap, e1, own_less o1 hN⟩, ⟨none, 0, hD.d2, World.ownsRow_nil _ _ _ _⟩, hD.tg, hN, hD.fz⟩, (fun t ht => by cases ht), (fun t _ o ho => by cases ho), (fun _ h => False.elim h), (fun _ h => False.elim h), Nat.zero_le _⟩
theorem ct_fill {e : Nat → Addr} {ev : Ending} {pg t : Nat} (hT : CtR w0 N0 U c z d g sz m mn lw hi 1 nb fm tm fr Q ss nd ws pl ct 0 true e w ev w') (hfr : fr 0 = [0]) (hF : Fill pg m (nd 0) ss t) (hm : 1 ≤ m ∧ m ≤ 64) (hmm : 1 ≤ sz ∧ sz ≤ 64 ∧ (m : Int) = 64 / sz) (hb : ∀ s ∈ ss, s.bm < 2 ^ m) (hso : Sorted ss) (ht : t < pg * m) (how : Ow 1 nd ss) (hok : (nd 0).ok) :
   ∃ a ss' nd', ev = .returned (.tuple #[objV 0 a, .nilIface]) ∧ DQ w0 N0 U c z d g sz m mn lw hi 1 nb fm tm fr Q ss' nd' ws pl ct w' ∧ Fill pg m (nd' 0) ss' (t + 1) ∧ UK U w w' ∧ Tkn m sz ss' 0 a ∧ ¬ Tkn m sz ss 0 a ∧ ∀ p q, Tkn m sz ss p q → Tkn m sz ss' p q := by
 cases hT with
 | no a _ ha hd hu hr =>
   exfalso
   rcases hr with ⟨_, h⟩ | ⟨x', h1, h2, h3, h4, _⟩
   · omega
   · obtain rfl : x' = 0 := by omega
     rw [hfr] at h4
     have h5 : tkC 0 mn true (nd 0) ≠ 2 := by
       intro h
       simp [h] at h4
     have h6 := fit0_nil hF.ok (tkC_true h5)
     have h7 := totL_full m ss (bst_all h3 hF.nd)
     have h8 := hF.pg
     rw [h6] at h8
     simp only [pgs] at h8
     have h9 : ss.length = pg := by omega
     rw [h9, hF.tt] at h7
     omega
 | old x' j s _ h1 h2 h3 h4 hd hu =>
   obtain rfl : x' = 0 := by omega
   obtain ⟨hj, hnd, hpop⟩ := bst_some h3
   rw [getD_at h4] at hnd hpop
   have hsm := hb s (List.mem_of_getElem? h4)
   obtain ⟨f1, f2, f3⟩ := ff_spec hsm hm.2 hpop
   have e1 := totL_set m ss j s { s with bm := s.bm ||| 2 ^ ff s.bm } h4
   simp only [pop_setbit hsm hm.2 hpop] at e1
   refine ⟨_, _, _, by rw [hnd]; rfl, hd, ⟨hF.ok, by rw [List.length_set]; exact hF.pg, by have := hF.tt; omega, fun s' hs' => ?_⟩, hu, ?_, ?_, fun p q h => h.or h4 _⟩
   · rcases List.mem_or_eq_of_mem_set hs' with q | rfl
     · exact hF.nd s' q
     · exact hnd
   · exact ⟨j, ff s.bm, _, List.getElem?_set_self hj, f1, by simp [Nat.testBit_or], by simp [hnd], rfl⟩
   · rintro ⟨j', i', s', es, hi, hbt, hn, ha⟩
     have hm1 := mul_in hmm.1 hmm.2.2 hi
     have hm2 := mul_in hmm.1 hmm.2.2 f1
     simp only at hn ha
     have e2 : s.at_ = s'.at_ := by omega
     have e3 : j = j' := sorted_uniq hso h4 es (by omega) e2
     subst e3
     rw [h4] at es
     cases es
     have e4 : (ff s.bm : Int) * sz = i' * sz := by omega
     have e5 : (ff s.bm : Int) = i' := Int.eq_of_mul_eq_mul_right (by omega) e4
     have e6 : ff s.bm = i' := by omega
     rw [← e6, f2] at hbt
     cases hbt
 | new x' i q a _ h1 h2 h3 h4 h5 h6 h7 hd hu =>
   obtain rfl : i = 0 := by omega
   obtain rfl : x' = 0 := by omega
   have htk : tkC 0 mn true (nd 0) = 2 := by
     have := List.find?_some h4
     simpa using this
   refine ⟨_, _, _, rfl, hd, ⟨by rw [up_at]; exact tkN_ok (by omega) hok, ?_, ?_, fun s hs => ?_⟩, hu, ?_, ?_, fun p q' h => h.ins h7.1 _⟩
   · rw [up_at, ins_length]
     have := hF.pg
     cases hf : fit 0 (nd 0).F with
     | none => simp [tkC, hf] at htk
     | some y =>
       obtain ⟨hy, hy2⟩ := fit_some hf
       have e1 : (tkN 0 (nd 0)).F = takeF 0 y (nd 0).F := by simp [tkN, hf]
       have e2 := pgs_takeF (by omega) hok.2.2 hy hy2
       have e3 : pw 0 = 1 := rfl
       rw [e1]; push_cast; omega
   · rw [totL_ins, hF.tt]
     have e1 : pop 1 m = 1 := by
       have h0 := pop_setbit (x := 0) (m := m) (Nat.two_pow_pos _) hm.2 (by rw [pop_of_zero]; omega)
       rw [ff_zero, pop_of_zero] at h0
       exact h0
     simp only [e1]
   · rcases ins_mem.mp hs with rfl | q
     · rfl
     · exact hF.nd s q
   · exact ⟨q, 0, ⟨0, a, 1⟩, by rw [ins_get _ h7.1, if_neg (by omega), if_pos rfl], by omega, (show (1 : Nat).testBit 0 = true by decide), rfl, by simp⟩
   · rintro ⟨j', i', s', es, hi, hbt, hn, ha⟩
     have hm1 := mul_in hmm.1 hmm.2.2 hi
     simp only at hn ha
     have hs' := List.mem_of_getElem? es
     have := how.fresh hok htk s' hs' (hF.nd s' hs')
     omega
end
end Mg
end Go.Proofs.YtfefehkapffljaaGreatDoor
