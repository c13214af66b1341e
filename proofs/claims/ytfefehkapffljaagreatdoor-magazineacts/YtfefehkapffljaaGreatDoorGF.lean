/- Join · Give · Take · Take2 · New · Pages. -/
import Derived.Test.YtfefehkapffljaaGreatDoorGD
import Derived.Test.YtfefehkapffljaaGreatDoorGC
import Derived.Maps.RangeWalk
namespace Go.Proofs.YtfefehkapffljaaGreatDoor
open Go.RowKit Go.Maps
namespace Bd
open Fr
theorem Mp.d {w : World} {m : Nat} {L : List Bl} (h : Mp w m L) : Mp w.drew m L := h.blk rfl
theorem cell_kept {A B : Nat} {w w' : World} {p : Addr} {v : Value} {LA LB : List Bl} (h : w.cell? p = some v) (hA : Mp w A LA) (hB : Mp w B LB) (hk : Kept A B w w') : w'.cell? p = some v := by
 have hlt := World.block_lt_of_cell? w p h
 have ne : ∀ C LC, Mp w C LC → p.block ≠ C := fun C LC hC e => by
   obtain ⟨⟨es, clock, h1, _⟩, _, _⟩ := hC
   rw [← e] at h1
   simp [World.cell?, h1] at h
 exact (hk.cell hlt (ne A LA hA) (ne B LB hB)).trans h
theorem ne_map {w : World} {A : Nat} {p : Addr} {v : Value} {LA : List Bl} (h : w.cell? p = some v) (hA : Mp w A LA) : p.block ≠ A := fun e => by
 obtain ⟨⟨es, clock, h1, _⟩, _, _⟩ := hA
 rw [← e] at h1
 simp [World.cell?, h1] at h
theorem Bx.k {A B : Nat} {w w' : World} {c : Nat} {x : Bl} {LA LB : List Bl} (h : Bx w c x) (hA : Mp w A LA) (hB : Mp w B LB) (hk : Kept A B w w') : Bx w' c x := by
 have e := hk.block c h.lt (ne_map h.c0 hA) (ne_map h.c0 hB)
 exact ⟨(World.cell?_of_block (w := w) e).trans h.c0, (World.cell?_of_block (w := w) e).trans h.c1, (World.frozen?_of_block (w := w) e).trans h.f0, (World.frozen?_of_block (w := w) e).trans h.f1, Nat.lt_of_lt_of_le h.lt hk.size⟩
theorem Bud.blk {w w' : World} {b fm tm : Nat} {N : Int} {F T : List Bl} (h : Bud w b fm tm N F T) (hs : w.heap.size ≤ w'.heap.size) (e1 : w'.heap[b]? = w.heap[b]?) (e2 : w'.heap[fm]? = w.heap[fm]?) (e3 : w'.heap[tm]? = w.heap[tm]?) : Bud w' b fm tm N F T :=
 ⟨(World.cell?_of_block (w := w) e1).trans h.c0, (World.cell?_of_block (w := w) e1).trans h.c1, (World.cell?_of_block (w := w) e1).trans h.c2, h.f.blk e2, h.t.blk e3, h.n1, h.n2, h.n3, Nat.lt_of_lt_of_le h.lt hs⟩
theorem Bud.set {w : World} {b fm tm : Nat} {N : Int} {F T : List Bl} (h : Bud w b fm tm N F T) {c : Nat} (n1 : b ≠ c) (n2 : fm ≠ c) (n3 : tm ≠ c) (o : Nat) (v : Value) : Bud (w.setCell ⟨c, o, none⟩ v) b fm tm N F T :=
 h.blk (by simp [World.setCell]) (Below.heap_setCell _ _ _ _ n1) (Below.heap_setCell _ _ _ _ n2) (Below.heap_setCell _ _ _ _ n3)
theorem Kept.setNew {A B : Nat} {w w' : World} (h : Kept A B w w') {c : Nat} (hc : w.heap.size ≤ c) (o : Nat) (v : Value) : Kept A B w (w'.setCell ⟨c, o, none⟩ v) :=
 ⟨h.os, h.tape, h.output, by simpa [World.setCell] using h.size, fun k hk h1 h2 => (Below.heap_setCell _ _ _ _ (by simp only; omega)).trans (h.block k hk h1 h2)⟩
theorem bd {w w' : World} (h : Below w.heap.size w.drew w') : Below w.heap.size w w' := ⟨h.os, h.tape, h.output, h.size, h.block⟩
theorem kd {A B : Nat} {w w' : World} (h : Kept A B w.drew w') : Kept A B w w' := ⟨h.os, h.tape, h.output, h.size, h.block⟩
theorem del_run (m : Nat) (L : List Bl) (a : Int) (w : World) (h : Mp w m L) (h0 : 0 ≤ a) (h1 : a < 256) (ty : TypeId) :
   ∃ w', (Builtin.delete_ #[186, 3] ty #[.map (some m), .int .i64 a]).run Tryz.prog w = .ok (.tuple #[]) w' ∧ Mp w' m (del a L) ∧ Kept m m w w' := by
 obtain ⟨w', e1, e2, e3⟩ := h.own.drop law Tryz.underlying186 (keyOf_int_mk Tryz.underlying3 (wf_small h0 h1)) ty
 exact ⟨w', e1, h.del e2, kept_turned e3 (Or.inl rfl)⟩
end Bd
end Go.Proofs.YtfefehkapffljaaGreatDoor
namespace Go.Proofs.YtfefehkapffljaaGreatDoor
open Go.RowKit Go.Maps
namespace Bd
open Fr
theorem Kept.wd {A A' B' : Nat} {w w' : World} (h : Kept A A w w') (hA : A = A' ∨ A = B') : Kept A' B' w w' :=
 ⟨h.os, h.tape, h.output, h.size, fun k hk h1 h2 => by
   have : k ≠ A := by rcases hA with rfl | rfl <;> assumption
   exact h.block k hk this this⟩
theorem Inv.small {N : Int} {F T : List Bl} (h : Inv N F T) (hN : N ≤ 256) {x : Bl} (hx : x ∈ T) : 0 ≤ x.1 ∧ x.1 < 256 ∧ 0 ≤ x.2 ∧ x.2 ≤ 6 := by
 have h1 := h.inT hx
 have h2 := h.oT x hx
 have h3 := pw_pos x.2
 unfold Okb at h2
 omega
theorem HInv.smallX {N : Int} {F T : List Bl} {x : Bl} (h : HInv N F T x) (hN : N ≤ 256) : 0 ≤ x.1 ∧ x.1 < 256 ∧ 0 ≤ x.2 ∧ x.2 ≤ 6 := by
 have h1 := h.inX
 have h2 := h.ox
 have h3 := pw_pos x.2
 unfold Okb at h2
 omega
end Bd
end Go.Proofs.YtfefehkapffljaaGreatDoor
namespace Go.Proofs.YtfefehkapffljaaGreatDoor
open Go.RowKit Go.Maps
namespace Bd
open Fr
theorem pk_mem (L : List Bl) : ∀ j, j < L.length → pk L j ∈ L
 | 0, h => by unfold pk; rw [getD_lt h]; exact List.getElem_mem h
 | j + 1, h => by
   unfold pk
   split
   · rw [getD_lt h]; exact List.getElem_mem h
   · exact pk_mem L j (by omega)
theorem fit_some {o : Int} {F : List Bl} {x : Bl} (h : fit o F = some x) : x ∈ F ∧ o ≤ x.2 := by
 unfold fit at h
 split at h
 · cases h
 · next hne =>
   have := pk_mem (F.filter (fun x => decide (o ≤ x.2))) ((F.filter (fun x => decide (o ≤ x.2))).length - 1) (by have := List.length_pos_iff.2 hne; omega)
   rw [Option.some.inj h] at this
   simpa using this
theorem fit_none {o : Int} {F : List Bl} : fit o F = none ↔ ∀ x ∈ F, x.2 < o := by
 unfold fit
 by_cases h : F.filter (fun x => decide (o ≤ x.2)) = []
 · rw [if_pos h]
   rw [List.filter_eq_nil_iff] at h
   simp at h ⊢
   exact h
 · rw [if_neg h]
   simp
   rw [List.filter_eq_nil_iff] at h
   simpa using h
def halveF : Nat → Int → Int → List Bl → List Bl
 | 0, _, _, G => G
 | n + 1, a, j, G => halveF n a (j - 1) (ins (a + pw (j - 1), j - 1) G)
def takeF (k : Int) (x : Bl) (F : List Bl) : List Bl := halveF (x.2 - k).toNat x.1 x.2 (del x.1 F)
theorem halve_inv {N : Int} {T : List Bl} {a k : Int} (k0 : 0 ≤ k) : ∀ (n : Nat) (j : Int) (G : List Bl), n = (j - k).toNat → k ≤ j → HInv N G T (a, j) → HInv N (halveF n a j G) T (a, k)
 | 0, j, G, hn, hj, h => by
   have : j = k := by omega
   subst this; exact h
 | n + 1, j, G, hn, hj, h => by
   unfold halveF
   exact halve_inv k0 n (j - 1) _ (by omega) (by omega) (h.halve (by omega))
theorem take_inv {N : Int} {F T : List Bl} {k : Int} {x : Bl} (k0 : 0 ≤ k) (h : Inv N F T) (hx : x ∈ F) (hk : k ≤ x.2) : Inv N (takeF k x F) (ins (x.1, k) T) :=
 (halve_inv k0 _ x.2 _ rfl hk (h.outF hx)).inTaken
end Bd
end Go.Proofs.YtfefehkapffljaaGreatDoor
namespace Go.Proofs.YtfefehkapffljaaGreatDoor
open Go.RowKit Go.Maps
namespace Bd
open Fr
set_option maxHeartbeats 8000000 in
theorem take_ok (b fm tm : Nat) (N : Int) (F T : List Bl) (k : Int) (x : Bl) (w : World) (h : Bud w b fm tm N F T) (hi : Inv N F T) (hN : N ≤ 256) (h0 : 0 ≤ k) (h6 : k ≤ 6) (hf : fit k F = some x) :
   Calls Tryz.prog 132 #[ptr b, .int .i64 k] w fun ev w' => ev = .returned (.tuple #[blkV x.1 k, .nilIface]) ∧ Bud w' b fm tm N (takeF k x F) (ins (x.1, k) T) ∧ Kept fm tm w w' := by
 obtain ⟨hxF, hkx⟩ := fit_some hf
 have HF := fit_ok k b fm tm N F T (w.alloc (blkO 0 0)) (h.a _)
 have hfv : fitV k F = .tuple #[blkV x.1 x.2, .bool true] := by unfold fitV; rw [hf]
 rw [hfv] at HF
 have HF := hide HF
 have hbl := h.lt
 have hfl := h.f.lt
 have htl := h.t.lt
 have B1 := h.a (blkO 0 0)
 have X1 := bx_new w (0, 0)
 have F1 : Kept fm tm w (w.alloc (blkO 0 0)) := kept_alloc _ _ _ _
 have s1 : (w.alloc (blkO 0 0)).heap.size = w.heap.size + 1 := by simp
 have HI0 := hide (hi.outF hxF)
 have hsm := (hi.outF hxF).smallX hN
 have HR : Hid (takeF k x F = halveF (x.2 - k).toNat x.1 x.2 (del x.1 F)) := rfl
 obtain ⟨R, hR⟩ : ∃ R, R = takeF k x F := ⟨_, rfl⟩
 rw [← hR] at HR ⊢
 clear h hi hfv hf hR hxF
 unfold ptr at *
 obtain ⟨a, j0⟩ := x
 simp only at *
 have d1 : decide (k < 0) = false := by simp; omega
 have d2 : decide (6 < k) = false := by simp; omega
 go_enter Tryz.func132, Tryz.ntmps132
 go_wp2_with fail
 refine (unhide HF).mono ?_
 rintro ev w2 ⟨rfl, b2⟩
 have B2 := (B1.b b2).a (blkO a j0)
 have X2 := (X1.b b2).a (blkO a j0)
 have XB := bx_new w2 (a, j0)
 have F2 := F1.trans (kept_of (ballo b2 (blkO a j0)))
 have s2 := b2.size
 clear B1 X1 F1 HF d1 d2
 go_wp2_with fail
 generalize hW : w2.alloc (blkO a j0) = W at *
 generalize hxb : w2.heap.size = xb at *
 clear hW b2
 have c1 := B2.c1
 have x0 := XB.c0
 obtain ⟨w4, hrun, hM4, hK4⟩ := del_run fm F a W.drew B2.f.d hsm.1 hsm.2.1 0
 have KC := hide (fun w1 (hb : Kept fm fm W.drew w1) => (⟨cell_kept B2.c1 B2.f B2.f (kd hb), cell_kept XB.c0 B2.f B2.f (kd hb)⟩ : w1.cell? ⟨b, 1, none⟩ = some (.map (some fm)) ∧ w1.cell? ⟨xb, 0, none⟩ = some (.int .i64 a)))
 have KC4 := (unhide KC) w4 hK4
 have KC3 := (unhide KC) W.drew (Kept.refl _ _ _)
 simp only at x0
 go_region_held3 (fun w' => w'.cell? ⟨b, 1, none⟩ = some (.map (some fm)) ∧ w'.cell? ⟨xb, 0, none⟩ = some (.int .i64 a)) ((first | (exact KC4) | (exact KC3) | (go_keep; done))) (fail)
 have hK5 := kd hK4
 have B4 := hide (B2.setF hK5 hM4)
 have X4 := hide (X2.k B2.f B2.f hK5)
 have XB4 := hide (XB.k B2.f B2.f hK5)
 have F4 := F2.trans (hK5.wd (Or.inl rfl))
 clear KC KC3 KC4 hK4 hrun c1 x0 X2 XB B2 F2 hM4 hK5
 go_wp2
 go_loopw [8, 9, 10] (fun _ _ _ wr => ∃ (j : Int) (G : List Bl), k ≤ j ∧ j ≤ 6 ∧ Hid (HInv N G T (a, j)) ∧ Hid (R = halveF (j - k).toNat a j G) ∧ Hid (Bx wr w.heap.size (0, 0)) ∧ Hid (Bx wr xb (a, j)) ∧ Hid (Bud wr b fm tm N G T) ∧ Kept fm tm w wr) (fun _ _ _ wr => (RowKit.intOf ((wr.cell? ⟨xb, 1, none⟩).getD undef)).toNat)
 case atStart => exact ⟨j0, del a F, hkx, hsm.2.2.2, HI0, HR, X4, XB4, B4, F4⟩
 case round =>
   clear B4 X4 XB4 F4 HI0 HR
   obtain ⟨j, G, hkj, hj6, hI, hR, h4, h5, hB, hk⟩ := hrel
   have y0 := (unhide h5).c0
   have y1 := (unhide h5).c1
   simp only at y0 y1
   have HY1 := hide y1
   have hxl := (unhide h5).lt
   by_cases hkj2 : k < j
   · have dk : decide (k < j) = true := by simpa using hkj2
     have hsj := (unhide hI).smallX hN
     have hin := (unhide hI).inX
     have hox := (unhide hI).ox
     unfold Okb at hox
     simp only at hsj hin hox
     have hhd := half_dvd (by omega : 1 ≤ j) hox.2.2
     have hpp := pw_pos (j - 1)
     have HH := hide (fun w => halves_ok a j w hsj.1 hsj.2.1 (by omega) hj6 ((al_dvd _ _).2 hox.2.2))
     have HI2 := hide ((unhide hI).halve (by omega))
     have hR2 : Hid (R = halveF (j - 1 - k).toNat a (j - 1) (ins (a + pw (j - 1), j - 1) G)) := by
       have := unhide hR
       rw [show (j - k).toNat = (j - 1 - k).toNat + 1 by omega] at this
       exact this
     have hl1 : 0 ≤ a + pw (j - 1) ∧ a + pw (j - 1) < 256 ∧ 0 ≤ j - 1 ∧ j - 1 ≤ 6 := by omega
     obtain ⟨a2, j2, HA2, HJ2⟩ : ∃ a2 j2, Hid (a2 = a + pw (j - 1)) ∧ Hid (j2 = j - 1) := ⟨_, _, rfl, rfl⟩
     rw [← unhide HA2, ← unhide HJ2] at HH hl1 HI2 hR2
     clear hin hox hhd hI hR hpp
     go_wp2_with fail
     refine (unhide HH _).mono ?_
     rintro ev w5 ⟨rfl, b5⟩
     have B5 := (((unhide hB).b b5).a (blkO a j2)).a (blkO a2 j2)
     have F5 := hk.trans (kept_of (ballo (ballo b5 (blkO a j2)) (blkO a2 j2)))
     have XL := (bx_new w5 (a, j2)).a (blkO a2 j2)
     have XH := bx_new (w5.alloc (blkO a j2)) (a2, j2)
     rw [show (w5.alloc (blkO a j2)).heap.size = w5.heap.size + 1 by simp] at XH
     have X0 := (((unhide h4).b b5).a (blkO a j2)).a (blkO a2 j2)
     have XX := (((unhide h5).b b5).a (blkO a j2)).a (blkO a2 j2)
     have s5 := b5.size
     have hks := hk.size
     clear y0 y1 hB h4 h5 b5
     go_wp2_with fail
     generalize (w5.alloc (blkO a j2)).alloc (blkO a2 j2) = W5 at *
     generalize hcc : w5.heap.size = c at *
     have c1 := B5.c1
     have x0 := XH.c0
     have x1 := XH.c1
     simp only at x0 x1
     have HP := hide (put_ok (a2, j2) fm G W5.drew B5.f.d hl1)
     have KC := hide (fun w1 (hb : Kept fm fm W5.drew w1) => (⟨cell_kept B5.c1 B5.f B5.f (kd hb), cell_kept XH.c0 B5.f B5.f (kd hb), cell_kept XH.c1 B5.f B5.f (kd hb)⟩ : w1.cell? ⟨b, 1, none⟩ = some (.map (some fm)) ∧ w1.cell? ⟨c + 1, 0, none⟩ = some (.int .i64 a2) ∧ w1.cell? ⟨c + 1, 1, none⟩ = some (.int .i64 j2)))
     go_region_held3 (fun w' => w'.cell? ⟨b, 1, none⟩ = some (.map (some fm)) ∧ w'.cell? ⟨c + 1, 0, none⟩ = some (.int .i64 a2) ∧ w'.cell? ⟨c + 1, 1, none⟩ = some (.int .i64 j2)) ((first | (go_keep; done) | (exact (unhide KC) _ (by assumption)))) ((go_at_call 110; refine (unhide HP).mono ?_; rintro ev w6 ⟨rfl, M6, k6⟩))
     have k7 := kd k6
     have B6 := B5.setF k7 M6
     have F6 := F5.trans (k7.wd (Or.inl rfl))
     have XL6 := XL.k B5.f B5.f k7
     have X06 := X0.k B5.f B5.f k7
     have XX6 := XX.k B5.f B5.f k7
     clear x0 x1 c1 KC HP B5 F5 XL XH X0 XX k6 k7 M6
     have l0 := XL6.c0
     have l1 := XL6.c1
     have p0 := XX6.c0
     have p1 := XX6.c1
     have p2 := XX6.f0
     have p3 := XX6.f1
     simp only at l0 l1 p0 p1
     go_wp2
     go_roundw
     case rel =>
       have hj2 : j2 = j - 1 := unhide HJ2
       exact ⟨j2, _, by omega, by omega, unhide HI2, unhide hR2, (X06.off (by omega) _ _).off (by omega) _ _, XX6.set (a, j2), (B6.set (by omega) (by omega) (by omega) _ _).set (by omega) (by omega) (by omega) _ _, (F6.setNew (by omega) _ _).setNew (by omega) _ _⟩
     case measure =>
       have m1 : ((w6.setCell ⟨xb, 0, none⟩ (.int .i64 a)).setCell ⟨xb, 1, none⟩ (.int .i64 j2)).cell? ⟨xb, 1, none⟩ = some (.int .i64 j2) := css (u := .int .i64 j) (by rw [cso (by simp)]; exact p1)
       have hj2 : j2 = j - 1 := unhide HJ2
       rw [m1, unhide HY1]; simp [RowKit.intOf]; omega
   · have hjk : j = k := by omega
     subst hjk
     have dk : decide (j < j) = false := by simp
     have HIE := hide (unhide hI).inTaken
     have hsj := (unhide hI).smallX hN
     have hRe : R = G := by have := unhide hR; rw [show (j - j).toNat = 0 by omega] at this; exact this
     have B5 := unhide hB
     have XX := unhide h5
     have X0 := unhide h4
     clear hB h5 h4 hR hI
     have c2 := B5.c2
     have HP := hide (put_ok (a, j) tm T wr.drew B5.t.d hsj)
     have KC := hide (fun w1 (hb : Kept tm tm wr.drew w1) => (⟨cell_kept B5.c2 B5.t B5.t (kd hb), cell_kept XX.c0 B5.t B5.t (kd hb), cell_kept XX.c1 B5.t B5.t (kd hb)⟩ : w1.cell? ⟨b, 2, none⟩ = some (.map (some tm)) ∧ w1.cell? ⟨xb, 0, none⟩ = some (.int .i64 a) ∧ w1.cell? ⟨xb, 1, none⟩ = some (.int .i64 j)))
     have HRE := hide hRe
     clear hRe
     go_wp2
     go_region_held3 (fun w' => w'.cell? ⟨b, 2, none⟩ = some (.map (some tm)) ∧ w'.cell? ⟨xb, 0, none⟩ = some (.int .i64 a) ∧ w'.cell? ⟨xb, 1, none⟩ = some (.int .i64 j)) ((first | (go_keep; done) | (exact (unhide KC) _ (by assumption)))) ((go_at_call 110; refine (unhide HP).mono ?_; rintro ev w6 ⟨rfl, M6, k6⟩))
     have k7 := kd k6
     have B6 := B5.setT k7 M6
     have F6 := hk.trans (k7.wd (Or.inr rfl))
     have X06 := X0.k B5.t B5.t k7
     have XX6 := XX.k B5.t B5.t k7
     clear c2 KC HP B5 X0 XX k6 k7 M6 y0 y1
     have l0 := XX6.c0
     have l1 := XX6.c1
     have p0 := X06.c0
     have p1 := X06.c1
     have p2 := X06.f0
     have p3 := X06.f1
     simp only at l0 l1 p0 p1
     go_wp2
     refine bodyPost_ret (v := .tuple #[blkV a j, .nilIface]) (by simp [results, Tryz.results132, go_sem, p0, p1]) rfl ⟨rfl, ?_, (F6.setNew (by omega) _ _).setNew (by omega) _ _⟩
     rw [unhide HRE]
     exact (B6.set (by omega) (by omega) (by omega) _ _).set (by omega) (by omega) (by omega) _ _
end Bd
end Go.Proofs.YtfefehkapffljaaGreatDoor
namespace Go.Proofs.YtfefehkapffljaaGreatDoor
open Go.RowKit Go.Maps
namespace Bd
open Fr
theorem cv_pos {N : Int} (h : 1 ≤ N) : cv 0 N ≠ [] := by rw [cv_cons 0 N h]; simp
end Bd
end Go.Proofs.YtfefehkapffljaaGreatDoor
namespace Go.Proofs.YtfefehkapffljaaGreatDoor
open Go.RowKit Go.Maps
namespace Bd
open Fr
theorem pgs_del {x : Bl} {l : List Bl} (hs : Srt l) (h : x ∈ l) : pgs (del x.1 l) + pw x.2 = pgs l := by
 induction l with
 | nil => cases h
 | cons y l ih =>
   rw [srt_cons] at hs
   rcases List.mem_cons.1 h with h1 | h
   · subst h1
     have e : del x.1 (x :: l) = l := by
       show List.filter _ (x :: l) = l
       rw [List.filter_cons]
       simp only [bne_self_eq_false, Bool.false_eq_true, if_false]
       exact del_none (a := x.1) (fun y hy => by have := hs.1 y hy; omega)
     rw [e]; simp [pgs]; omega
   · have := hs.1 x h
     have e : del x.1 (y :: l) = y :: del x.1 l := by
       show List.filter _ (y :: l) = y :: List.filter _ l
       rw [List.filter_cons, if_pos (by simp only [bne_iff_ne, ne_eq]; omega)]
     rw [e]; have := ih hs.2 h; simp [pgs]; omega
theorem pgs_bd : ∀ {l : List Bl}, (∀ x ∈ l, 0 ≤ x.2 ∧ x.2 ≤ 6) → 0 ≤ pgs l ∧ pgs l ≤ 64 * l.length
 | [], _ => by simp [pgs]
 | x :: l, h => by
   have h1 := h x (List.mem_cons_self ..)
   have h2 := pgs_bd (l := l) (fun y hy => h y (List.mem_cons_of_mem _ hy))
   have h3 := pw_pos x.2
   have h4 := pw_le6 x.2 h1.1 h1.2
   simp [pgs]; omega
def lft (left : Lit → Bool) (F : List Bl) : List Bl := F.filter (fun x => left (.int .i64 x.1))
theorem lft_all (F : List Bl) : lft (Maps.has (dOf F)) F = F := List.filter_eq_self.2 (fun x hx => by rw [dOf_has]; simp; exact ⟨x.2, hx⟩)
theorem lft_none {left : Lit → Bool} (F : List Bl) (h : ∀ kl, left kl = false) : lft left F = [] := by unfold lft; rw [List.filter_eq_nil_iff]; intro x _; simp [h]
theorem lft_step (left : Lit → Bool) (F : List Bl) (a : Int) : lft (fun z => left z && !z.sameKey (.int .i64 a)) F = del a (lft left F) := by
 unfold lft del
 rw [List.filter_filter]
 apply List.filter_congr
 intro x _
 show (left _ && !(Lit.int .i64 x.1).sameKey (.int .i64 a)) = _
 rw [same_int, Bool.and_comm]
 rfl
set_option maxRecDepth 100000 in
set_option maxHeartbeats 4000000 in
theorem pages_free (b fm tm : Nat) (N : Int) (F T : List Bl) (w : World) (h : Bud w b fm tm N F T) :
   Calls Tryz.prog 125 #[ptr b] w fun ev w' => ev = .returned (.tuple #[.int .i64 (pgs F), .int .i64 N]) ∧ Below w.heap.size w w' := by
 have c1 := h.c1
 have hown := h.f.own
 have hbl := h.lt
 have hfl := h.f.lt
 have HB := hide h
 have hbd := pgs_bd (fun x hx => ⟨(h.f.rng x hx).2.2.1, (h.f.rng x hx).2.2.2⟩)
 have hlen := h.f.len
 have HS := hide h.f.srt
 have HRG := hide h.f.rng
 clear h
 unfold ptr
 go_enter Tryz.func125, Tryz.ntmps125
 go_wp2_with (first
   | (at_range; refine wpList_range_own _ rfl _ 186 rfl 3 3 law Tryz.underlying186 _ fm F.length _ rfl hown ?_; intro w0 hrg0 hg0 hs0)
   | go_in)
 go_frame
 go_loopw [2] (fun s wr => ∃ (left : Lit → Bool) (cnt : Nat) (q : Int), s = .int .i64 q ∧ 0 ≤ q ∧ wr.ranges Tryz.prog 3 (plainElem Tryz.prog 3) fm w.heap.size F.length (dOf F) left cnt ∧ Hid (q + pgs (lft left F) = pgs F) ∧ Below w.heap.size w wr)
   (fun _ wr => wr.rangeLeft fm w.heap.size)
 case atStart =>
   exact ⟨_, _, 0, rfl, by omega, hrg0, by show (0 : Int) + _ = _; rw [lft_all]; omega, (Below.refl _ _).grown hg0 (Nat.le_refl _) (fun j hj => by cases hj)⟩
 case round =>
   obtain ⟨left, cnt, q, rfl, hqq, hrg, hq, hnx⟩ := hrel
   go_wp2_with (first
     | (at_next; refine wpList_next_ranges_ii _ rfl _ rfl 3 3 .i64 .i64 law Tryz.underlying3 Tryz.underlying3 fm w.heap.size F.length _ _ _ rfl hrg ?_ ?_)
     | go_in)
   · intro hc0 hl0
     have hq2 := unhide hq
     rw [lft_none F hl0] at hq2
     have e : q = pgs F := by simpa [pgs] using hq2
     have HE := hide e
     clear e hq2 hq
     have k0 := (hnx.cell (p := ⟨b, 0, none⟩) hbl).trans (unhide HB).c0
     go_wp2_with fail
     go_quiet (fail)
     go_wp2
     go_ret2
     exact ⟨by rw [← unhide HE]; rfl, bdrN hnx _⟩
   · intro x c w1 cnt1 hwx hwc hlx hat hrg1 hlt hg1 hs1 hen
     have hmem : (x, c) ∈ F := by
       have h1 := Maps.has_true_of_atKey hat
       rw [dOf_has] at h1
       simp at h1
       obtain ⟨y, hy⟩ := h1
       have := dOf_at (unhide HS) hy (.nil)
       rw [hat] at this
       have e : c = y := by simpa using this
       rw [e]; exact hy
     have hr := (unhide HRG) _ hmem
     simp only at hr
     have hmem2 : (x, c) ∈ lft left F := List.mem_filter.2 ⟨hmem, hlx⟩
     have hd := pgs_del (l := lft left F) ((unhide HS).filter _) hmem2
     simp only at hd
     have hpos := (pgs_bd (l := del x (lft left F)) (fun y hy => by
       have := (unhide HRG) y (List.mem_filter.1 (mem_del.1 hy).1).1
       omega)).1
     have hp := pw_pos c
     have hp2 := pw_le6 c hr.2.2.1 hr.2.2.2
     have hq2 := unhide hq
     have hst := hide (lft_step left F x)
     obtain ⟨c0, c6⟩ := hr.2.2
     have hpk : (2 : Int) ^ c.toNat = pw c := rfl
     have HQ := hide (show q + pw c + pgs (del x (lft left F)) = pgs F by omega)
     generalize pw c = d at *
     clear hat hmem hmem2 hd hr
     have hq3 : q + d ≤ 16384 := by have := unhide HQ; omega
     go_wp2
     go_roundw
     case rel => exact ⟨_, cnt1, q + d, by go_num, by omega, hrg1, by show _ = _; rw [unhide hst]; exact unhide HQ, hnx.grown hg1 hnx.size (fun j hj => by cases hj; exact Nat.le_refl _)⟩
     case measure => rw [hrg1.left_eq, hrg.left_eq]; exact hlt
end Bd
end Go.Proofs.YtfefehkapffljaaGreatDoor
