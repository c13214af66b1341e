/- The contracts of package buddy's Give and Split. -/
import Derived.Test.YtdmeoooimnfmaaaGreatDoorJoin
namespace Go.Proofs.YtdmeoooimnfmaaaGreatDoor
open Go.RowKit Go.Maps
namespace Bd
open Fr
theorem Kept.wd {A A' B' : Nat} {w w' : World} (h : Kept A A w w') (hA : A = A' ∨ A = B') : Kept A' B' w w' :=
  ⟨h.os, h.tape, h.output, h.size, fun k hk h1 h2 => by
    have : k ≠ A := by rcases hA with rfl | rfl <;> assumption
    exact h.block k hk this this⟩
theorem Inv.small {N : Int} {F T : List Bl} (h : Inv N F T) (hN : N ≤ 256) {x : Bl} (hx : x ∈ T) : 0 ≤ x.1 ∧ x.1 < 256 ∧ 0 ≤ x.2 ∧ x.2 ≤ 6 := by
  have h1 := h.inT hx
  have h2 := h.oT x hx
  have h3 := pw_pos x.2
  unfold Okb at h2
  omega
theorem HInv.smallX {N : Int} {F T : List Bl} {x : Bl} (h : HInv N F T x) (hN : N ≤ 256) : 0 ≤ x.1 ∧ x.1 < 256 ∧ 0 ≤ x.2 ∧ x.2 ≤ 6 := by
  have h1 := h.inX
  have h2 := h.ox
  have h3 := pw_pos x.2
  unfold Okb at h2
  omega

set_option maxHeartbeats 2000000 in
theorem give_err (b fm tm : Nat) (N : Int) (F T : List Bl) (x : Bl) (w : World) (e : Nat → Addr) (he : Errs3 w e) (h : Bud w b fm tm N F T) (hw : (Lit.int .i64 x.1).wf = true) (hx : x ∉ T) :
    Calls Tryz.prog 11 #[ptr b, blkV x.1 x.2] w fun ev w' => ev = .returned (errV (e 3)) ∧ Below w.heap.size w w' := by
  have B2 := h.a (blkO x.1 x.2)
  have E2 := he.alloc (blkO x.1 x.2)
  have X2 := bx_new w x
  have F2 := ballo (Below.refl w.heap.size w) (blkO x.1 x.2)
  have s2 : (w.alloc (blkO x.1 x.2)).heap.size = w.heap.size + 1 := by simp
  clear h he
  obtain ⟨a, k⟩ := x
  simp only at *
  unfold ptr
  go_enter Tryz.func11, Tryz.ntmps11
  go_wp2_with fail
  generalize w.alloc (blkO a k) = W at *
  have c2 := B2.c2
  have x0 := X2.c0
  have x1 := X2.c1
  simp only at x0 x1
  have HAS := hide (has_ok (a, k) tm T W.drew B2.t.d hw)
  rw [show decide ((a, k) ∈ T) = false by simpa using hx] at HAS
  have KC := hide (fun w1 (hb : Below W.heap.size W.drew w1) => (⟨((bd hb).cell (p := ⟨b, 2, none⟩) B2.lt).trans B2.c2, ((bd hb).cell (p := ⟨w.heap.size, 0, none⟩) X2.lt).trans X2.c0, ((bd hb).cell (p := ⟨w.heap.size, 1, none⟩) X2.lt).trans X2.c1⟩ : w1.cell? ⟨b, 2, none⟩ = some (.map (some tm)) ∧ w1.cell? ⟨w.heap.size, 0, none⟩ = some (.int .i64 a) ∧ w1.cell? ⟨w.heap.size, 1, none⟩ = some (.int .i64 k)))
  go_region_held3 (fun w' => w'.cell? ⟨b, 2, none⟩ = some (.map (some tm)) ∧ w'.cell? ⟨w.heap.size, 0, none⟩ = some (.int .i64 a) ∧ w'.cell? ⟨w.heap.size, 1, none⟩ = some (.int .i64 k)) ((first | (go_keep; done) | (exact (unhide KC) _ (by assumption)))) ((go_at_call 28; refine (unhide HAS).mono ?_; rintro ev w3 ⟨rfl, b3⟩))
  have F3 := F2.trans ((bd b3).mono (by omega))
  have hn := (E2.below (bd b3)).none
  clear KC HAS c2 x0 x1 E2
  go_wp2
  go_ret
  exact ⟨rfl, F3⟩

set_option maxHeartbeats 4000000 in
theorem give_ok (b fm tm : Nat) (N : Int) (F T : List Bl) (x : Bl) (w : World) (e : Nat → Addr) (he : Errs3 w e) (h : Bud w b fm tm N F T) (hi : Inv N F T) (hN : N ≤ 256) (hx : x ∈ T) :
    Calls Tryz.prog 11 #[ptr b, blkV x.1 x.2] w fun ev w' => ev = .returned .nilIface ∧ Bud w' b fm tm N (giveF x F) (del x.1 T) ∧ Kept fm tm w w' := by
  have B2 := h.a (blkO x.1 x.2)
  have HE := hide he
  have HF0 := hide h.f
  have HT0 := hide h.t
  have hbl := h.lt
  have hfl := h.f.lt
  have htl := h.t.lt
  have X2 := bx_new w x
  have F2 : Kept fm tm w (w.alloc (blkO x.1 x.2)) := kept_alloc _ _ _ _
  have s2 : (w.alloc (blkO x.1 x.2)).heap.size = w.heap.size + 1 := by simp
  have hsm := hi.small hN hx
  have hout := hi.outT hx
  have hjn := join_inv _ x F rfl hout
  have HJ := hide (fun w he hB => join_ok b fm tm N F (del x.1 T) x w e he hB hout hN)
  have hgf : Hid (giveF x F = ins (joinL (6 - x.2).toNat x F).1 (joinL (6 - x.2).toNat x F).2) := rfl
  have hys := hjn.1.smallX hN
  generalize joinL (6 - x.2).toNat x F = J at *
  obtain ⟨⟨ya, yk⟩, G⟩ := J
  clear h he hi hout hjn
  obtain ⟨a, k⟩ := x
  simp only at *
  unfold ptr at *
  go_enter Tryz.func11, Tryz.ntmps11
  go_wp2_with fail
  generalize w.alloc (blkO a k) = W at *
  have c2 := B2.c2
  have x0 := X2.c0
  have x1 := X2.c1
  simp only at x0 x1
  have HAS := hide (has_ok (a, k) tm T W.drew B2.t.d (wf_small hsm.1 hsm.2.1))
  rw [show decide ((a, k) ∈ T) = true by simpa using hx] at HAS
  have KC := hide (fun w1 (hb : Below W.heap.size W.drew w1) => (⟨((bd hb).cell (p := ⟨b, 2, none⟩) B2.lt).trans B2.c2, ((bd hb).cell (p := ⟨w.heap.size, 0, none⟩) X2.lt).trans X2.c0, ((bd hb).cell (p := ⟨w.heap.size, 1, none⟩) X2.lt).trans X2.c1⟩ : w1.cell? ⟨b, 2, none⟩ = some (.map (some tm)) ∧ w1.cell? ⟨w.heap.size, 0, none⟩ = some (.int .i64 a) ∧ w1.cell? ⟨w.heap.size, 1, none⟩ = some (.int .i64 k)))
  go_region_held3 (fun w' => w'.cell? ⟨b, 2, none⟩ = some (.map (some tm)) ∧ w'.cell? ⟨w.heap.size, 0, none⟩ = some (.int .i64 a) ∧ w'.cell? ⟨w.heap.size, 1, none⟩ = some (.int .i64 k)) ((first | (go_keep; done) | (exact (unhide KC) _ (by assumption)))) ((go_at_call 28; refine (unhide HAS).mono ?_; rintro ev w3 ⟨rfl, b3⟩))
  have B3 := B2.b (bd b3)
  have X3 := X2.b (bd b3)
  have F3 := F2.trans (kept_of (bd b3))
  have s3 := b3.size
  clear x0 x1 c2 HAS KC B2 X2 F2 b3
  have c2 := B3.c2
  have x0 := X3.c0
  obtain ⟨w4, hrun, hM4, hK4⟩ := del_run tm T a w3.drew B3.t.d hsm.1 hsm.2.1 0
  have KC := hide (fun w1 (hb : Kept tm tm w3.drew w1) => (⟨cell_kept B3.c2 B3.t B3.t (kd hb), cell_kept X3.c0 B3.t B3.t (kd hb)⟩ : w1.cell? ⟨b, 2, none⟩ = some (.map (some tm)) ∧ w1.cell? ⟨w.heap.size, 0, none⟩ = some (.int .i64 a)))
  have KC4 := (unhide KC) w4 hK4
  have KC3 := (unhide KC) w3.drew (Kept.refl _ _ _)
  simp only at x0
  go_wp2
  go_region_held3 (fun w' => w'.cell? ⟨b, 2, none⟩ = some (.map (some tm)) ∧ w'.cell? ⟨w.heap.size, 0, none⟩ = some (.int .i64 a)) ((first | (exact KC4) | (exact KC3) | (go_keep; done))) (fail)
  have hK5 := kd hK4
  have X4 := X3.k B3.t B3.t hK5
  have B4 := B3.setT hK5 hM4
  have F4 := F3.trans (hK5.wd (Or.inr rfl))
  clear KC KC3 KC4 hK4 hrun c2 x0 X3 B3 F3
  have c1 := B4.c1
  have x0 := X4.c0
  have x1 := X4.c1
  simp only at x0 x1
  have E4 := errs3_kept (unhide HE) (unhide HF0) (unhide HT0) F4
  have HJ4 := hide ((unhide HJ) w4.drew (E4.below ⟨rfl, rfl, rfl, Nat.le_refl _, fun _ _ => rfl⟩) B4.d)
  have KC := hide (fun w1 (hb : Kept fm fm w4.drew w1) => (⟨cell_kept B4.c1 B4.f B4.f (kd hb), cell_kept X4.c0 B4.f B4.f (kd hb), cell_kept X4.c1 B4.f B4.f (kd hb)⟩ : w1.cell? ⟨b, 1, none⟩ = some (.map (some fm)) ∧ w1.cell? ⟨w.heap.size, 0, none⟩ = some (.int .i64 a) ∧ w1.cell? ⟨w.heap.size, 1, none⟩ = some (.int .i64 k)))
  have HP := hide (fun w1 (hm : Bud w1 b fm tm N G (del a T)) => put_ok (ya, yk) fm G w1 hm.f hys)
  go_wp2
  go_region_held3 (fun w' => w'.cell? ⟨b, 1, none⟩ = some (.map (some fm)) ∧ w'.cell? ⟨w.heap.size, 0, none⟩ = some (.int .i64 a) ∧ w'.cell? ⟨w.heap.size, 1, none⟩ = some (.int .i64 k)) ((first | (go_keep; done) | (exact (unhide KC) _ (by assumption)))) ((first | (go_at_call 29; refine (unhide HJ4).mono ?_; rintro ev w5 ⟨rfl, B5, k5⟩) | (go_at_call 20; refine ((unhide HP) _ (by assumption)).mono ?_; rintro ev w6 ⟨rfl, M6, k6⟩; have k7 := (by assumption : Kept fm fm w4.drew w5).trans k6)))
  go_wp2
  go_ret
  rw [unhide hgf]
  exact ⟨rfl, B5.setF k6 M6, F4.trans (((kd k5).trans k6).wd (Or.inl rfl))⟩

set_option maxHeartbeats 2000000 in
theorem split_none (b fm tm : Nat) (N : Int) (F T : List Bl) (x : Bl) (w : World) (e : Nat → Addr) (he : Errs3 w e) (h : Bud w b fm tm N F T) (hw : (Lit.int .i64 x.1).wf = true) (hx : x ∉ T) :
    Calls Tryz.prog 13 #[ptr b, blkV x.1 x.2] w fun ev w' => ev = .returned (errV (e 3)) ∧ Below w.heap.size w w' := by
  have B2 := h.a (blkO x.1 x.2)
  have E2 := he.alloc (blkO x.1 x.2)
  have X2 := bx_new w x
  have F2 := ballo (Below.refl w.heap.size w) (blkO x.1 x.2)
  have s2 : (w.alloc (blkO x.1 x.2)).heap.size = w.heap.size + 1 := by simp
  clear h he
  obtain ⟨a, k⟩ := x
  simp only at *
  unfold ptr
  go_enter Tryz.func13, Tryz.ntmps13
  go_wp2_with fail
  generalize w.alloc (blkO a k) = W at *
  have c2 := B2.c2
  have x0 := X2.c0
  have x1 := X2.c1
  simp only at x0 x1
  have HAS := hide (has_ok (a, k) tm T W.drew B2.t.d hw)
  rw [show decide ((a, k) ∈ T) = false by simpa using hx] at HAS
  have KC := hide (fun w1 (hb : Below W.heap.size W.drew w1) => (⟨((bd hb).cell (p := ⟨b, 2, none⟩) B2.lt).trans B2.c2, ((bd hb).cell (p := ⟨w.heap.size, 0, none⟩) X2.lt).trans X2.c0, ((bd hb).cell (p := ⟨w.heap.size, 1, none⟩) X2.lt).trans X2.c1⟩ : w1.cell? ⟨b, 2, none⟩ = some (.map (some tm)) ∧ w1.cell? ⟨w.heap.size, 0, none⟩ = some (.int .i64 a) ∧ w1.cell? ⟨w.heap.size, 1, none⟩ = some (.int .i64 k)))
  go_region_held3 (fun w' => w'.cell? ⟨b, 2, none⟩ = some (.map (some tm)) ∧ w'.cell? ⟨w.heap.size, 0, none⟩ = some (.int .i64 a) ∧ w'.cell? ⟨w.heap.size, 1, none⟩ = some (.int .i64 k)) ((first | (go_keep; done) | (exact (unhide KC) _ (by assumption)))) ((go_at_call 28; refine (unhide HAS).mono ?_; rintro ev w3 ⟨rfl, b3⟩))
  have F3 := F2.trans ((bd b3).mono (by omega))
  have hn := (E2.below (bd b3)).none
  clear KC HAS c2 x0 x1 E2
  go_wp2
  go_ret
  exact ⟨rfl, F3⟩

set_option maxHeartbeats 2000000 in
theorem split_one (b fm tm : Nat) (N : Int) (F T : List Bl) (a : Int) (w : World) (e : Nat → Addr) (he : Errs3 w e) (h : Bud w b fm tm N F T) (h0 : 0 ≤ a) (h1 : a < 256) (hx : (a, 0) ∈ T) :
    Calls Tryz.prog 13 #[ptr b, blkV a 0] w fun ev w' => ev = .returned (errV (e 2)) ∧ Below w.heap.size w w' := by
  have B2 := h.a (blkO a 0)
  have E2 := he.alloc (blkO a 0)
  have X2 := bx_new w (a, 0)
  have F2 := ballo (Below.refl w.heap.size w) (blkO a 0)
  have s2 : (w.alloc (blkO a 0)).heap.size = w.heap.size + 1 := by simp
  have hue : upperE a 0 = 3 := by unfold upperE; rw [if_neg (by omega), if_pos (al_zero a), if_pos rfl]
  have HU := hide (fun w he => halves_err a 0 w e he (by rw [hue]; decide))
  rw [hue] at HU
  clear h he hue
  unfold ptr
  go_enter Tryz.func13, Tryz.ntmps13
  go_wp2_with fail
  generalize w.alloc (blkO a 0) = W at *
  have c2 := B2.c2
  have x0 := X2.c0
  have x1 := X2.c1
  simp only at x0 x1
  have HAS := hide (has_ok (a, 0) tm T W.drew B2.t.d (wf_small h0 h1))
  rw [show decide ((a, 0) ∈ T) = true by simpa using hx] at HAS
  have KC := hide (fun w1 (hb : Below W.heap.size W.drew w1) => (⟨((bd hb).cell (p := ⟨b, 2, none⟩) B2.lt).trans B2.c2, ((bd hb).cell (p := ⟨w.heap.size, 0, none⟩) X2.lt).trans X2.c0, ((bd hb).cell (p := ⟨w.heap.size, 1, none⟩) X2.lt).trans X2.c1⟩ : w1.cell? ⟨b, 2, none⟩ = some (.map (some tm)) ∧ w1.cell? ⟨w.heap.size, 0, none⟩ = some (.int .i64 a) ∧ w1.cell? ⟨w.heap.size, 1, none⟩ = some (.int .i64 0)))
  go_region_held3 (fun w' => w'.cell? ⟨b, 2, none⟩ = some (.map (some tm)) ∧ w'.cell? ⟨w.heap.size, 0, none⟩ = some (.int .i64 a) ∧ w'.cell? ⟨w.heap.size, 1, none⟩ = some (.int .i64 0)) ((first | (go_keep; done) | (exact (unhide KC) _ (by assumption)))) ((go_at_call 28; refine (unhide HAS).mono ?_; rintro ev w3 ⟨rfl, b3⟩))
  have F3 := F2.trans ((bd b3).mono (by omega))
  have E3 := E2.below (bd b3)
  have X3 := X2.b (bd b3)
  clear KC HAS c2 x0 x1 E2 X2
  have x0 := X3.c0
  have x1 := X3.c1
  simp only at x0 x1
  go_wp2_with fail
  refine ((unhide HU) _ E3).mono ?_
  rintro ev w4 ⟨rfl, b4⟩
  have E4 := fun o o' => (((E3.below b4).alloc o).alloc o').shape
  have F4 := ballo (ballo (btr F3 b4) (blkO 0 0)) (blkO 0 0)
  go_wp2
  go_ret
  exact ⟨rfl, F4⟩

set_option maxHeartbeats 4000000 in
theorem split_ok (b fm tm : Nat) (N : Int) (F T : List Bl) (a k : Int) (w : World) (h : Bud w b fm tm N F T) (hi : Inv N F T) (hN : N ≤ 256) (hx : (a, k) ∈ T) (k1 : 1 ≤ k) :
    Calls Tryz.prog 13 #[ptr b, blkV a k] w fun ev w' => ev = .returned .nilIface ∧ Bud w' b fm tm N F (ins (a + pw (k - 1), k - 1) (ins (a, k - 1) T)) ∧ Kept tm tm w w' := by
  have B2 := h.a (blkO a k)
  have X2 := bx_new w (a, k)
  have F2 : Kept tm tm w (w.alloc (blkO a k)) := kept_alloc _ _ _ _
  have s2 : (w.alloc (blkO a k)).heap.size = w.heap.size + 1 := by simp
  have hsm := hi.small hN hx
  have hin := hi.inT hx
  have hok := hi.oT _ hx
  unfold Okb at hok
  simp only at hsm hin hok
  have hhd := half_dvd k1 hok.2.2
  have hpp := pw_pos (k - 1)
  have HH := hide (fun w => halves_ok a k w hsm.1 hsm.2.1 k1 hsm.2.2.2 ((al_dvd _ _).2 hok.2.2))
  clear h hi
  unfold ptr
  go_enter Tryz.func13, Tryz.ntmps13
  go_wp2_with fail
  generalize w.alloc (blkO a k) = W at *
  have c2 := B2.c2
  have x0 := X2.c0
  have x1 := X2.c1
  simp only at x0 x1
  have HAS := hide (has_ok (a, k) tm T W.drew B2.t.d (wf_small hsm.1 hsm.2.1))
  rw [show decide ((a, k) ∈ T) = true by simpa using hx] at HAS
  have KC := hide (fun w1 (hb : Below W.heap.size W.drew w1) => (⟨((bd hb).cell (p := ⟨b, 2, none⟩) B2.lt).trans B2.c2, ((bd hb).cell (p := ⟨w.heap.size, 0, none⟩) X2.lt).trans X2.c0, ((bd hb).cell (p := ⟨w.heap.size, 1, none⟩) X2.lt).trans X2.c1⟩ : w1.cell? ⟨b, 2, none⟩ = some (.map (some tm)) ∧ w1.cell? ⟨w.heap.size, 0, none⟩ = some (.int .i64 a) ∧ w1.cell? ⟨w.heap.size, 1, none⟩ = some (.int .i64 k)))
  go_region_held3 (fun w' => w'.cell? ⟨b, 2, none⟩ = some (.map (some tm)) ∧ w'.cell? ⟨w.heap.size, 0, none⟩ = some (.int .i64 a) ∧ w'.cell? ⟨w.heap.size, 1, none⟩ = some (.int .i64 k)) ((first | (go_keep; done) | (exact (unhide KC) _ (by assumption)))) ((go_at_call 28; refine (unhide HAS).mono ?_; rintro ev w3 ⟨rfl, b3⟩))
  have B3 := B2.b (bd b3)
  have F3 := F2.trans (kept_of (bd b3))
  have X3 := X2.b (bd b3)
  clear KC HAS c2 x0 x1 X2 B2 F2
  have x0 := X3.c0
  have x1 := X3.c1
  simp only at x0 x1
  have hl1 : 0 ≤ a + pw (k - 1) ∧ a + pw (k - 1) < 256 ∧ 0 ≤ k - 1 ∧ k - 1 ≤ 6 := by omega
  have hl2 : 0 ≤ a ∧ a < 256 ∧ 0 ≤ k - 1 ∧ k - 1 ≤ 6 := by omega
  have HFIN : ∃ a2 k2, Hid (a2 = a + pw (k - 1)) ∧ Hid (k2 = k - 1) := ⟨_, _, rfl, rfl⟩
  obtain ⟨a2, k2, HA2, HK2⟩ := HFIN
  rw [← unhide HA2, ← unhide HK2] at HH hl1
  rw [← unhide HK2] at hl2
  go_wp2_with fail
  refine (unhide HH _).mono ?_
  rintro ev w4 ⟨rfl, b4⟩
  have B5 := ((B3.b b4).a (blkO a k2)).a (blkO a2 k2)
  have F5 := F3.trans (kept_of (ballo (ballo b4 (blkO a k2)) (blkO a2 k2)))
  have XL := (bx_new w4 (a, k2)).a (blkO a2 k2)
  have XH := bx_new (w4.alloc (blkO a k2)) (a2, k2)
  rw [show (w4.alloc (blkO a k2)).heap.size = w4.heap.size + 1 by simp] at XH
  clear x0 x1 X3 B3 F3 b3 b4
  go_wp2_with fail
  generalize (w4.alloc (blkO a k2)).alloc (blkO a2 k2) = W4 at *
  generalize hcc : w4.heap.size = c at *
  have c2 := B5.c2
  have x0 := XL.c0
  have x1 := XL.c1
  simp only at x0 x1
  have HP := hide (put_ok (a, k2) tm T W4.drew B5.t.d hl2)
  have KC := hide (fun w1 (hb : Kept tm tm W4.drew w1) => (⟨cell_kept B5.c2 B5.t B5.t (kd hb), cell_kept XL.c0 B5.t B5.t (kd hb), cell_kept XL.c1 B5.t B5.t (kd hb)⟩ : w1.cell? ⟨b, 2, none⟩ = some (.map (some tm)) ∧ w1.cell? ⟨c, 0, none⟩ = some (.int .i64 a) ∧ w1.cell? ⟨c, 1, none⟩ = some (.int .i64 k2)))
  go_region_held3 (fun w' => w'.cell? ⟨b, 2, none⟩ = some (.map (some tm)) ∧ w'.cell? ⟨c, 0, none⟩ = some (.int .i64 a) ∧ w'.cell? ⟨c, 1, none⟩ = some (.int .i64 k2)) ((first | (go_keep; done) | (exact (unhide KC) _ (by assumption)))) ((go_at_call 20; refine (unhide HP).mono ?_; rintro ev w6 ⟨rfl, M6, k6⟩))
  have k7 := kd k6
  have B6 := B5.setT k7 M6
  have F6 := F5.trans k7
  have XH6 := XH.k B5.t B5.t k7
  clear x0 x1 c2 KC HP B5 F5 XL XH k6 k7 M6
  have c2 := B6.c2
  have x0 := XH6.c0
  have x1 := XH6.c1
  simp only at x0 x1
  have HP := hide (put_ok (a2, k2) tm (ins (a, k2) T) w6.drew B6.t.d hl1)
  have KC := hide (fun w1 (hb : Kept tm tm w6.drew w1) => (⟨cell_kept B6.c2 B6.t B6.t (kd hb), cell_kept XH6.c0 B6.t B6.t (kd hb), cell_kept XH6.c1 B6.t B6.t (kd hb)⟩ : w1.cell? ⟨b, 2, none⟩ = some (.map (some tm)) ∧ w1.cell? ⟨c + 1, 0, none⟩ = some (.int .i64 a2) ∧ w1.cell? ⟨c + 1, 1, none⟩ = some (.int .i64 k2)))
  go_wp2
  go_region_held3 (fun w' => w'.cell? ⟨b, 2, none⟩ = some (.map (some tm)) ∧ w'.cell? ⟨c + 1, 0, none⟩ = some (.int .i64 a2) ∧ w'.cell? ⟨c + 1, 1, none⟩ = some (.int .i64 k2)) ((first | (go_keep; done) | (exact (unhide KC) _ (by assumption)))) ((go_at_call 20; refine (unhide HP).mono ?_; rintro ev w7 ⟨rfl, M7, k8⟩))
  go_wp2
  go_ret
  rw [← unhide HA2, ← unhide HK2]
  exact ⟨rfl, B6.setT (kd k8) M7, F6.trans (kd k8)⟩
end Bd
end Go.Proofs.YtdmeoooimnfmaaaGreatDoor
