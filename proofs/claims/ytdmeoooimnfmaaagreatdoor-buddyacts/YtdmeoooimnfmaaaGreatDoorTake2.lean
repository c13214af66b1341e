/- The contract of package buddy's Take, where a block is had. -/
import Derived.Test.YtdmeoooimnfmaaaGreatDoorTake
namespace Go.Proofs.YtdmeoooimnfmaaaGreatDoor
open Go.RowKit Go.Maps
namespace Bd
open Fr
set_option maxHeartbeats 8000000 in
theorem take_ok (b fm tm : Nat) (N : Int) (F T : List Bl) (k : Int) (x : Bl) (w : World) (h : Bud w b fm tm N F T) (hi : Inv N F T) (hN : N ≤ 256) (h0 : 0 ≤ k) (h6 : k ≤ 6) (hf : fit k F = some x) :
    Calls Tryz.prog 8 #[ptr b, .int .i64 k] w fun ev w' => ev = .returned (.tuple #[blkV x.1 k, .nilIface]) ∧ Bud w' b fm tm N (takeF k x F) (ins (x.1, k) T) ∧ Kept fm tm w w' := by
  obtain ⟨hxF, hkx⟩ := fit_some hf
  have HF := fit_ok k b fm tm N F T (w.alloc (blkO 0 0)) (h.a _)
  have hfv : fitV k F = .tuple #[blkV x.1 x.2, .bool true] := by unfold fitV; rw [hf]
  rw [hfv] at HF
  have HF := hide HF
  have hbl := h.lt
  have hfl := h.f.lt
  have htl := h.t.lt
  have B1 := h.a (blkO 0 0)
  have X1 := bx_new w (0, 0)
  have F1 : Kept fm tm w (w.alloc (blkO 0 0)) := kept_alloc _ _ _ _
  have s1 : (w.alloc (blkO 0 0)).heap.size = w.heap.size + 1 := by simp
  have HI0 := hide (hi.outF hxF)
  have hsm := (hi.outF hxF).smallX hN
  have HR : Hid (takeF k x F = halveF (x.2 - k).toNat x.1 x.2 (del x.1 F)) := rfl
  obtain ⟨R, hR⟩ : ∃ R, R = takeF k x F := ⟨_, rfl⟩
  rw [← hR] at HR ⊢
  clear h hi hfv hf hR hxF
  unfold ptr at *
  obtain ⟨a, j0⟩ := x
  simp only at *
  have d1 : decide (k < 0) = false := by simp; omega
  have d2 : decide (6 < k) = false := by simp; omega
  go_enter Tryz.func8, Tryz.ntmps8
  go_wp2_with fail
  refine (unhide HF).mono ?_
  rintro ev w2 ⟨rfl, b2⟩
  have B2 := (B1.b b2).a (blkO a j0)
  have X2 := (X1.b b2).a (blkO a j0)
  have XB := bx_new w2 (a, j0)
  have F2 := F1.trans (kept_of (ballo b2 (blkO a j0)))
  have s2 := b2.size
  clear B1 X1 F1 HF d1 d2
  go_wp2_with fail
  generalize hW : w2.alloc (blkO a j0) = W at *
  generalize hxb : w2.heap.size = xb at *
  clear hW b2
  have c1 := B2.c1
  have x0 := XB.c0
  obtain ⟨w4, hrun, hM4, hK4⟩ := del_run fm F a W.drew B2.f.d hsm.1 hsm.2.1 0
  have KC := hide (fun w1 (hb : Kept fm fm W.drew w1) => (⟨cell_kept B2.c1 B2.f B2.f (kd hb), cell_kept XB.c0 B2.f B2.f (kd hb)⟩ : w1.cell? ⟨b, 1, none⟩ = some (.map (some fm)) ∧ w1.cell? ⟨xb, 0, none⟩ = some (.int .i64 a)))
  have KC4 := (unhide KC) w4 hK4
  have KC3 := (unhide KC) W.drew (Kept.refl _ _ _)
  simp only at x0
  go_region_held3 (fun w' => w'.cell? ⟨b, 1, none⟩ = some (.map (some fm)) ∧ w'.cell? ⟨xb, 0, none⟩ = some (.int .i64 a)) ((first | (exact KC4) | (exact KC3) | (go_keep; done))) (fail)
  have hK5 := kd hK4
  have B4 := hide (B2.setF hK5 hM4)
  have X4 := hide (X2.k B2.f B2.f hK5)
  have XB4 := hide (XB.k B2.f B2.f hK5)
  have F4 := F2.trans (hK5.wd (Or.inl rfl))
  clear KC KC3 KC4 hK4 hrun c1 x0 X2 XB B2 F2 hM4 hK5
  go_wp2
  go_loopw [8, 9, 10] (fun _ _ _ wr => ∃ (j : Int) (G : List Bl), k ≤ j ∧ j ≤ 6 ∧ Hid (HInv N G T (a, j)) ∧ Hid (R = halveF (j - k).toNat a j G) ∧ Hid (Bx wr w.heap.size (0, 0)) ∧ Hid (Bx wr xb (a, j)) ∧ Hid (Bud wr b fm tm N G T) ∧ Kept fm tm w wr) (fun _ _ _ wr => (RowKit.intOf ((wr.cell? ⟨xb, 1, none⟩).getD undef)).toNat)
  case atStart => exact ⟨j0, del a F, hkx, hsm.2.2.2, HI0, HR, X4, XB4, B4, F4⟩
  case round =>
    clear B4 X4 XB4 F4 HI0 HR
    obtain ⟨j, G, hkj, hj6, hI, hR, h4, h5, hB, hk⟩ := hrel
    have y0 := (unhide h5).c0
    have y1 := (unhide h5).c1
    simp only at y0 y1
    have HY1 := hide y1
    have hxl := (unhide h5).lt
    by_cases hkj2 : k < j
    · have dk : decide (k < j) = true := by simpa using hkj2
      have hsj := (unhide hI).smallX hN
      have hin := (unhide hI).inX
      have hox := (unhide hI).ox
      unfold Okb at hox
      simp only at hsj hin hox
      have hhd := half_dvd (by omega : 1 ≤ j) hox.2.2
      have hpp := pw_pos (j - 1)
      have HH := hide (fun w => halves_ok a j w hsj.1 hsj.2.1 (by omega) hj6 ((al_dvd _ _).2 hox.2.2))
      have HI2 := hide ((unhide hI).halve (by omega))
      have hR2 : Hid (R = halveF (j - 1 - k).toNat a (j - 1) (ins (a + pw (j - 1), j - 1) G)) := by
        have := unhide hR
        rw [show (j - k).toNat = (j - 1 - k).toNat + 1 by omega] at this
        exact this
      have hl1 : 0 ≤ a + pw (j - 1) ∧ a + pw (j - 1) < 256 ∧ 0 ≤ j - 1 ∧ j - 1 ≤ 6 := by omega
      obtain ⟨a2, j2, HA2, HJ2⟩ : ∃ a2 j2, Hid (a2 = a + pw (j - 1)) ∧ Hid (j2 = j - 1) := ⟨_, _, rfl, rfl⟩
      rw [← unhide HA2, ← unhide HJ2] at HH hl1 HI2 hR2
      clear hin hox hhd hI hR hpp
      go_wp2_with fail
      refine (unhide HH _).mono ?_
      rintro ev w5 ⟨rfl, b5⟩
      have B5 := (((unhide hB).b b5).a (blkO a j2)).a (blkO a2 j2)
      have F5 := hk.trans (kept_of (ballo (ballo b5 (blkO a j2)) (blkO a2 j2)))
      have XL := (bx_new w5 (a, j2)).a (blkO a2 j2)
      have XH := bx_new (w5.alloc (blkO a j2)) (a2, j2)
      rw [show (w5.alloc (blkO a j2)).heap.size = w5.heap.size + 1 by simp] at XH
      have X0 := (((unhide h4).b b5).a (blkO a j2)).a (blkO a2 j2)
      have XX := (((unhide h5).b b5).a (blkO a j2)).a (blkO a2 j2)
      have s5 := b5.size
      have hks := hk.size
      clear y0 y1 hB h4 h5 b5
      go_wp2_with fail
      generalize (w5.alloc (blkO a j2)).alloc (blkO a2 j2) = W5 at *
      generalize hcc : w5.heap.size = c at *
      have c1 := B5.c1
      have x0 := XH.c0
      have x1 := XH.c1
      simp only at x0 x1
      have HP := hide (put_ok (a2, j2) fm G W5.drew B5.f.d hl1)
      have KC := hide (fun w1 (hb : Kept fm fm W5.drew w1) => (⟨cell_kept B5.c1 B5.f B5.f (kd hb), cell_kept XH.c0 B5.f B5.f (kd hb), cell_kept XH.c1 B5.f B5.f (kd hb)⟩ : w1.cell? ⟨b, 1, none⟩ = some (.map (some fm)) ∧ w1.cell? ⟨c + 1, 0, none⟩ = some (.int .i64 a2) ∧ w1.cell? ⟨c + 1, 1, none⟩ = some (.int .i64 j2)))
      go_region_held3 (fun w' => w'.cell? ⟨b, 1, none⟩ = some (.map (some fm)) ∧ w'.cell? ⟨c + 1, 0, none⟩ = some (.int .i64 a2) ∧ w'.cell? ⟨c + 1, 1, none⟩ = some (.int .i64 j2)) ((first | (go_keep; done) | (exact (unhide KC) _ (by assumption)))) ((go_at_call 20; refine (unhide HP).mono ?_; rintro ev w6 ⟨rfl, M6, k6⟩))
      have k7 := kd k6
      have B6 := B5.setF k7 M6
      have F6 := F5.trans (k7.wd (Or.inl rfl))
      have XL6 := XL.k B5.f B5.f k7
      have X06 := X0.k B5.f B5.f k7
      have XX6 := XX.k B5.f B5.f k7
      clear x0 x1 c1 KC HP B5 F5 XL XH X0 XX k6 k7 M6
      have l0 := XL6.c0
      have l1 := XL6.c1
      have p0 := XX6.c0
      have p1 := XX6.c1
      have p2 := XX6.f0
      have p3 := XX6.f1
      simp only at l0 l1 p0 p1
      go_wp2
      go_roundw
      case rel =>
        have hj2 : j2 = j - 1 := unhide HJ2
        exact ⟨j2, _, by omega, by omega, unhide HI2, unhide hR2, (X06.off (by omega) _ _).off (by omega) _ _, XX6.set (a, j2), (B6.set (by omega) (by omega) (by omega) _ _).set (by omega) (by omega) (by omega) _ _, (F6.setNew (by omega) _ _).setNew (by omega) _ _⟩
      case measure =>
        have m1 : ((w6.setCell ⟨xb, 0, none⟩ (.int .i64 a)).setCell ⟨xb, 1, none⟩ (.int .i64 j2)).cell? ⟨xb, 1, none⟩ = some (.int .i64 j2) := css (u := .int .i64 j) (by rw [cso (by simp)]; exact p1)
        have hj2 : j2 = j - 1 := unhide HJ2
        rw [m1, unhide HY1]; simp [RowKit.intOf]; omega
    · have hjk : j = k := by omega
      subst hjk
      have dk : decide (j < j) = false := by simp
      have HIE := hide (unhide hI).inTaken
      have hsj := (unhide hI).smallX hN
      have hRe : R = G := by have := unhide hR; rw [show (j - j).toNat = 0 by omega] at this; exact this
      have B5 := unhide hB
      have XX := unhide h5
      have X0 := unhide h4
      clear hB h5 h4 hR hI
      have c2 := B5.c2
      have HP := hide (put_ok (a, j) tm T wr.drew B5.t.d hsj)
      have KC := hide (fun w1 (hb : Kept tm tm wr.drew w1) => (⟨cell_kept B5.c2 B5.t B5.t (kd hb), cell_kept XX.c0 B5.t B5.t (kd hb), cell_kept XX.c1 B5.t B5.t (kd hb)⟩ : w1.cell? ⟨b, 2, none⟩ = some (.map (some tm)) ∧ w1.cell? ⟨xb, 0, none⟩ = some (.int .i64 a) ∧ w1.cell? ⟨xb, 1, none⟩ = some (.int .i64 j)))
      have HRE := hide hRe
      clear hRe
      go_wp2
      go_region_held3 (fun w' => w'.cell? ⟨b, 2, none⟩ = some (.map (some tm)) ∧ w'.cell? ⟨xb, 0, none⟩ = some (.int .i64 a) ∧ w'.cell? ⟨xb, 1, none⟩ = some (.int .i64 j)) ((first | (go_keep; done) | (exact (unhide KC) _ (by assumption)))) ((go_at_call 20; refine (unhide HP).mono ?_; rintro ev w6 ⟨rfl, M6, k6⟩))
      have k7 := kd k6
      have B6 := B5.setT k7 M6
      have F6 := hk.trans (k7.wd (Or.inr rfl))
      have X06 := X0.k B5.t B5.t k7
      have XX6 := XX.k B5.t B5.t k7
      clear c2 KC HP B5 X0 XX k6 k7 M6 y0 y1
      have l0 := XX6.c0
      have l1 := XX6.c1
      have p0 := X06.c0
      have p1 := X06.c1
      have p2 := X06.f0
      have p3 := X06.f1
      simp only at l0 l1 p0 p1
      go_wp2
      refine bodyPost_ret (v := .tuple #[blkV a j, .nilIface]) (by simp [results, Tryz.results8, go_sem, p0, p1]) rfl ⟨rfl, ?_, (F6.setNew (by omega) _ _).setNew (by omega) _ _⟩
      rw [unhide HRE]
      exact (B6.set (by omega) (by omega) (by omega) _ _).set (by omega) (by omega) (by omega) _ _
end Bd
end Go.Proofs.YtdmeoooimnfmaaaGreatDoor
