/- The contract of package buddy's join: a block and its buddies, as long as they are free, are one. -/
import Derived.Test.YtdmeoooimnfmaaaGreatDoorFit2
namespace Go.Proofs.YtdmeoooimnfmaaaGreatDoor
open Go.RowKit Go.Maps
namespace Bd
open Fr
def joinL : Nat → Bl → List Bl → Bl × List Bl
  | 0, x, F => (x, F)
  | n + 1, x, F => if (bud x.1 x.2, x.2) ∈ F then joinL n (par x.1 x.2, x.2 + 1) (del (bud x.1 x.2) F) else (x, F)
theorem join_inv {N : Int} {T : List Bl} : ∀ (n : Nat) (x : Bl) (F : List Bl), n = (6 - x.2).toNat → HInv N F T x → HInv N (joinL n x F).2 T (joinL n x F).1 ∧ ((joinL n x F).1.2 = 6 ∨ (bud (joinL n x F).1.1 (joinL n x F).1.2, (joinL n x F).1.2) ∉ (joinL n x F).2)
  | 0, x, F, hn, h => ⟨h, Or.inl (by have := h.ox.2.1; simp only [joinL]; omega)⟩
  | n + 1, x, F, hn, h => by
    have ho := h.ox
    unfold Okb at ho
    unfold joinL
    by_cases hb : (bud x.1 x.2, x.2) ∈ F
    · rw [if_pos hb]
      exact join_inv n _ _ (by simp only; omega) (h.join (a := x.1) (k := x.2) (by omega) hb)
    · rw [if_neg hb]
      exact ⟨h, Or.inr hb⟩
/-- Give a block back: what is free then. -/
def giveF (x : Bl) (F : List Bl) : List Bl := ins (joinL (6 - x.2).toNat x F).1 (joinL (6 - x.2).toNat x F).2
theorem give_inv {N : Int} {F T : List Bl} {x : Bl} (h : Inv N F T) (hx : x ∈ T) : Inv N (giveF x F) (del x.1 T) := by
  obtain ⟨h1, h2⟩ := join_inv _ x F rfl (h.outT hx)
  exact h1.inFree h2

theorem bud_range {a k : Int} (h0 : 0 ≤ a) (h1 : a < 256) (k0 : 0 ≤ k) (k5 : k ≤ 5) (ha : al a k = true) : 0 ≤ bud a k ∧ bud a k < 256 := by
  have hp := pw_pos k
  obtain ⟨x, q1, q2, q3, q4, q5, q6 | q6, q7, q8, q9, q10⟩ := two_ways a k h0 h1 k0 k5 ha
  · rw [q6, q7]; omega
  · rw [q6, q8]; omega
theorem kept_drew (A B : Nat) (w : World) : Kept A B w w.drew := ⟨rfl, rfl, rfl, Nat.le_refl _, fun _ _ _ _ => rfl⟩
theorem Mp.d {w : World} {m : Nat} {L : List Bl} (h : Mp w m L) : Mp w.drew m L := h.blk rfl

/-- What a cell holds stays, while maps turn. -/
theorem cell_kept {A B : Nat} {w w' : World} {p : Addr} {v : Value} {LA LB : List Bl} (h : w.cell? p = some v) (hA : Mp w A LA) (hB : Mp w B LB) (hk : Kept A B w w') : w'.cell? p = some v := by
  have hlt := World.block_lt_of_cell? w p h
  have ne : ∀ C LC, Mp w C LC → p.block ≠ C := fun C LC hC e => by
    obtain ⟨⟨es, clock, h1, _⟩, _, _⟩ := hC
    rw [← e] at h1
    simp [World.cell?, h1] at h
  exact (hk.cell hlt (ne A LA hA) (ne B LB hB)).trans h
theorem errs3_kept {A B : Nat} {w w' : World} {LA LB : List Bl} {e : Nat → Addr} (h : Errs3 w e) (hA : Mp w A LA) (hB : Mp w B LB) (hk : Kept A B w w') : Errs3 w' e :=
  ⟨cell_kept h.bound hA hB hk, cell_kept h.shape hA hB hk, cell_kept h.none hA hB hk⟩

theorem ne_map {w : World} {A : Nat} {p : Addr} {v : Value} {LA : List Bl} (h : w.cell? p = some v) (hA : Mp w A LA) : p.block ≠ A := fun e => by
  obtain ⟨⟨es, clock, h1, _⟩, _, _⟩ := hA
  rw [← e] at h1
  simp [World.cell?, h1] at h
theorem Bx.k {A B : Nat} {w w' : World} {c : Nat} {x : Bl} {LA LB : List Bl} (h : Bx w c x) (hA : Mp w A LA) (hB : Mp w B LB) (hk : Kept A B w w') : Bx w' c x := by
  have e := hk.block c h.lt (ne_map h.c0 hA) (ne_map h.c0 hB)
  exact ⟨(World.cell?_of_block (w := w) e).trans h.c0, (World.cell?_of_block (w := w) e).trans h.c1, (World.frozen?_of_block (w := w) e).trans h.f0, (World.frozen?_of_block (w := w) e).trans h.f1, Nat.lt_of_lt_of_le h.lt hk.size⟩
theorem Bud.blk {w w' : World} {b fm tm : Nat} {N : Int} {F T : List Bl} (h : Bud w b fm tm N F T) (hs : w.heap.size ≤ w'.heap.size) (e1 : w'.heap[b]? = w.heap[b]?) (e2 : w'.heap[fm]? = w.heap[fm]?) (e3 : w'.heap[tm]? = w.heap[tm]?) : Bud w' b fm tm N F T :=
  ⟨(World.cell?_of_block (w := w) e1).trans h.c0, (World.cell?_of_block (w := w) e1).trans h.c1, (World.cell?_of_block (w := w) e1).trans h.c2, h.f.blk e2, h.t.blk e3, h.n1, h.n2, h.n3, Nat.lt_of_lt_of_le h.lt hs⟩
theorem Bud.set {w : World} {b fm tm : Nat} {N : Int} {F T : List Bl} (h : Bud w b fm tm N F T) {c : Nat} (n1 : b ≠ c) (n2 : fm ≠ c) (n3 : tm ≠ c) (o : Nat) (v : Value) : Bud (w.setCell ⟨c, o, none⟩ v) b fm tm N F T :=
  h.blk (by simp [World.setCell]) (Below.heap_setCell _ _ _ _ n1) (Below.heap_setCell _ _ _ _ n2) (Below.heap_setCell _ _ _ _ n3)
theorem Bud.dN {w : World} {b fm tm : Nat} {N : Int} {F T : List Bl} (h : Bud w b fm tm N F T) (n : Nat) : Bud (w.drewN n) b fm tm N F T := h.blk (Nat.le_refl _) rfl rfl rfl
theorem Bud.d {w : World} {b fm tm : Nat} {N : Int} {F T : List Bl} (h : Bud w b fm tm N F T) : Bud w.drew b fm tm N F T := h.blk (Nat.le_refl _) rfl rfl rfl
theorem Kept.setNew {A B : Nat} {w w' : World} (h : Kept A B w w') {c : Nat} (hc : w.heap.size ≤ c) (o : Nat) (v : Value) : Kept A B w (w'.setCell ⟨c, o, none⟩ v) :=
  ⟨h.os, h.tape, h.output, by simpa [World.setCell] using h.size, fun k hk h1 h2 => (Below.heap_setCell _ _ _ _ (by simp only; omega)).trans (h.block k hk h1 h2)⟩
theorem Kept.dN {A B : Nat} {w w' : World} (h : Kept A B w w') (n : Nat) : Kept A B w (w'.drewN n) := ⟨h.os, h.tape, h.output, h.size, h.block⟩
theorem Kept.d {A B : Nat} {w w' : World} (h : Kept A B w w') : Kept A B w w'.drew := ⟨h.os, h.tape, h.output, h.size, h.block⟩
theorem bd {w w' : World} (h : Below w.heap.size w.drew w') : Below w.heap.size w w' := ⟨h.os, h.tape, h.output, h.size, h.block⟩
theorem kd {A B : Nat} {w w' : World} (h : Kept A B w.drew w') : Kept A B w w' := ⟨h.os, h.tape, h.output, h.size, h.block⟩
theorem kdN {A B : Nat} {w w' : World} {n : Nat} (h : Kept A B (w.drewN n) w') : Kept A B w w' := ⟨h.os, h.tape, h.output, h.size, h.block⟩
/-- A key is taken out of a map. -/
theorem del_run (m : Nat) (L : List Bl) (a : Int) (w : World) (h : Mp w m L) (h0 : 0 ≤ a) (h1 : a < 256) (ty : TypeId) :
    ∃ w', (Builtin.delete_ #[52, 3] ty #[.map (some m), .int .i64 a]).run Tryz.prog w = .ok (.tuple #[]) w' ∧ Mp w' m (del a L) ∧ Kept m m w w' := by
  obtain ⟨w', e1, e2, e3⟩ := h.own.drop law Tryz.underlying52 (keyOf_int_mk Tryz.underlying3 (wf_small h0 h1)) ty
  exact ⟨w', e1, h.del e2, kept_turned e3 (Or.inl rfl)⟩

set_option maxHeartbeats 4000000 in
theorem join_ok (b fm tm : Nat) (N : Int) (F T : List Bl) (x : Bl) (w : World) (e : Nat → Addr) (he : Errs3 w e) (h : Bud w b fm tm N F T) (hi : HInv N F T x) (hN : N ≤ 256) :
    Calls Tryz.prog 29 #[ptr b, blkV x.1 x.2] w fun ev w' => ev = .returned (blkV (joinL (6 - x.2).toNat x F).1.1 (joinL (6 - x.2).toNat x F).1.2) ∧ Bud w' b fm tm N (joinL (6 - x.2).toNat x F).2 T ∧ Kept fm fm w w' := by
  have HB := hide ((h.a (blkO x.1 x.2)).a (blkO 0 0))
  have hfl := h.f.lt
  have htl := h.t.lt
  have hbl := h.lt
  have X0 := hide ((bx_new w x).a (blkO 0 0))
  have X1 : Hid (Bx ((w.alloc (blkO x.1 x.2)).alloc (blkO 0 0)) (w.heap.size + 1) (0, 0)) := by have := bx_new (w.alloc (blkO x.1 x.2)) (0, 0); rw [show (w.alloc (blkO x.1 x.2)).heap.size = w.heap.size + 1 by simp] at this; exact this
  have HI := hide hi
  have HE := hide he
  have HF0 := hide h.f
  clear h hi he
  obtain ⟨J, hJ⟩ : ∃ J, J = joinL (6 - x.2).toNat x F := ⟨_, rfl⟩
  rw [← hJ]
  have HJ := hide hJ
  clear hJ
  obtain ⟨a0, k0⟩ := x
  simp only at *
  unfold ptr
  go_enter Tryz.func29, Tryz.ntmps29
  go_wp2
  go_loopw [5, 6] (fun _ _ wr => ∃ (y : Bl) (G : List Bl), Hid (HInv N G T y) ∧ Hid (J = joinL (6 - y.2).toNat y G) ∧ Hid (Bx wr w.heap.size y) ∧ Hid (Bx wr (w.heap.size + 1) (0, 0)) ∧ Hid (Bud wr b fm tm N G T) ∧ Kept fm fm w wr) (fun _ _ wr => (6 - RowKit.intOf ((wr.cell? ⟨w.heap.size, 1, none⟩).getD undef)).toNat)
  case atStart => exact ⟨(a0, k0), F, HI, HJ, X0, X1, HB, kept_of (ballo (ballo (Below.refl _ _) _) _)⟩
  case round =>
    obtain ⟨y, G, hI, hJ, h3, h4, hB, hk⟩ := hrel
    have hE := hide (errs3_kept (unhide HE) (unhide HF0) (unhide HF0) hk)
    have hin := (unhide hI).inX
    have hox := (unhide hI).ox
    unfold Okb at hox
    have hp := pw_pos y.2
    have y0 := (unhide h3).c0
    have y1 := (unhide h3).c1
    have c1 := (unhide hB).c1
    have hsz := hk.size
    have yl := (unhide h3).lt
    obtain ⟨a, k⟩ := y
    simp only at hin hox hp y0 y1
    have HY1 := hide y1
    by_cases hk6 : k = 6
    · subst hk6
      have HB3 := hide (buddy_err a 6 wr e (unhide hE) (by unfold lowerE; rw [if_neg (by omega), if_pos ((al_dvd _ _).2 hox.2.2), if_pos rfl]; decide))
      have hl3 : lowerE a 6 = 3 := by unfold lowerE; rw [if_neg (by omega), if_pos ((al_dvd _ _).2 hox.2.2), if_pos rfl]
      rw [hl3] at HB3
      go_wp2_with fail
      refine (unhide HB3).mono ?_
      rintro ev w2 ⟨rfl, b2⟩
      have q0 := ((unhide h3).b b2).c0
      have q1 := ((unhide h3).b b2).c1
      have X4 := (unhide h4).b b2
      have F2 := hk.trans (kept_of (ballo b2 (blkO 0 0)))
      have B2 := ((unhide hB).b b2).a (blkO 0 0)
      have z0 := (X4.a (blkO 0 0)).c0
      have z1 := (X4.a (blkO 0 0)).c1
      have z2 := (X4.a (blkO 0 0)).f0
      have z3 := (X4.a (blkO 0 0)).f1
      have q2 := (((unhide h3).b b2).a (blkO 0 0)).c0
      have q3 := (((unhide h3).b b2).a (blkO 0 0)).c1
      clear q0 q1 X4
      go_wp2_with fail
      generalize w2.alloc (blkO 0 0) = W at *
      go_quiet (fail)
      go_wp2
      have hJ6 : J = ((a, 6), G) := (unhide hJ)
      refine bodyPost_ret (v := blkV a 6) (by simp [results, Tryz.results29, go_sem, z0, z1]) rfl ⟨by rw [hJ6], ?_, ((F2.dN _).setNew (by omega) _ _).setNew (by omega) _ _⟩
      rw [hJ6]
      have := (B2.dN nq)
      have l1 := h3
      exact (this.set (by omega) (by omega) (by omega) _ _).set (by omega) (by omega) (by omega) _ _
    · have hal := (al_dvd a k).2 hox.2.2
      have HB3 := hide (buddy_ok a k wr (by omega) (by omega) (by omega) (by omega) hal)
      have hbr := bud_range (by omega) (by omega) (by omega) (by omega : k ≤ 5) hal
      have hJ2 : Hid (J = if (bud a k, k) ∈ G then joinL (6 - (k + 1)).toNat (par a k, k + 1) (del (bud a k) G) else ((a, k), G)) := by
        have := unhide hJ
        simp only at this
        rw [show (6 - k).toNat = (6 - (k + 1)).toNat + 1 by omega] at this
        exact this
      have HMN := hide (min_par hox.1 hox.2.2)
      have HIJ := hide (fun hm => HInv.join (unhide hI) (by omega) hm)
      generalize bud a k = β at *
      go_wp2_with fail
      refine (unhide HB3).mono ?_
      rintro ev w2 ⟨rfl, b2⟩
      have X3 := ((unhide h3).b b2).a (blkO β k)
      have X4 := ((unhide h4).b b2).a (blkO β k)
      have X5 := bx_new w2 (β, k)
      have F2 := hk.trans (kept_of (ballo b2 (blkO β k)))
      have B2 := ((unhide hB).b b2).a (blkO β k)
      have s2 := b2.size
      have l2 : w2.heap.size < (w2.alloc (blkO β k)).heap.size := by simp
      clear h3 h4 hB hE c1 y0 y1
      go_wp2_with fail
      generalize w2.alloc (blkO β k) = W at *
      generalize w2.heap.size = c at *
      have x0 := X3.c0
      have x1 := X3.c1
      have v0 := X5.c0
      have v1 := X5.c1
      have c1 := B2.c1
      have HAS := hide (has_ok (β, k) fm G W.drew B2.f.d (wf_small hbr.1 hbr.2))
      have KC := hide (fun w1 (hb : Below W.heap.size W.drew w1) => (⟨((bd hb).cell (p := ⟨b, 1, none⟩) B2.lt).trans B2.c1, ((bd hb).cell (p := ⟨c, 0, none⟩) X5.lt).trans X5.c0, ((bd hb).cell (p := ⟨c, 1, none⟩) X5.lt).trans X5.c1⟩ : w1.cell? ⟨b, 1, none⟩ = some (.map (some fm)) ∧ w1.cell? ⟨c, 0, none⟩ = some (.int .i64 β) ∧ w1.cell? ⟨c, 1, none⟩ = some (.int .i64 k)))
      by_cases hm : (β, k) ∈ G
      · rw [show decide ((β, k) ∈ G) = true by simpa using hm] at HAS
        rw [if_pos hm] at hJ2
        have HI2 := hide ((unhide HIJ) hm)
        clear HIJ hI
        go_region_held3 (fun w' => w'.cell? ⟨b, 1, none⟩ = some (.map (some fm)) ∧ w'.cell? ⟨c, 0, none⟩ = some (.int .i64 β) ∧ w'.cell? ⟨c, 1, none⟩ = some (.int .i64 k)) ((first | (go_keep; done) | (exact (unhide KC) _ (by assumption)))) ((go_at_call 28; refine (unhide HAS).mono ?_; rintro ev w3 ⟨rfl, b3⟩))
        have B3 := B2.b (bd b3)
        have X3' := X3.b (bd b3)
        have X4' := X4.b (bd b3)
        have X5' := X5.b (bd b3)
        have F3 := F2.trans (kept_of (bd b3))
        have s3 := b3.size
        clear x0 x1 v0 v1 c1 HAS KC B2 X3 X4 X5 F2 b3
        obtain ⟨w4, hrun, hM4, hK4⟩ := del_run fm G β w3.drew B3.f.d hbr.1 hbr.2 0
        have KC := hide (fun w1 (hb : Kept fm fm w3.drew w1) => (⟨cell_kept B3.c1 B3.f B3.f (kd hb), cell_kept X5'.c0 B3.f B3.f (kd hb)⟩ : w1.cell? ⟨b, 1, none⟩ = some (.map (some fm)) ∧ w1.cell? ⟨c, 0, none⟩ = some (.int .i64 β)))
        have KC4 := (unhide KC) w4 hK4
        have KC3 := (unhide KC) w3.drew (Kept.refl _ _ _)
        go_wp2
        go_region_held3 (fun w' => w'.cell? ⟨b, 1, none⟩ = some (.map (some fm)) ∧ w'.cell? ⟨c, 0, none⟩ = some (.int .i64 β)) ((first | (exact KC4) | (exact KC3) | (go_keep; done))) (fail)
        have hK5 := kd hK4
        have Y0 := X3'.k B3.f B3.f hK5
        have Y1 := X4'.k B3.f B3.f hK5
        have Y5 := X5'.k B3.f B3.f hK5
        have B5 := B3.setF hK5 hM4
        have F5 := F3.trans hK5
        clear KC KC3 KC4 hK4 hrun
        have y0 := Y0.c0
        have y1 := Y0.c1
        have y2 := Y0.f0
        have y3 := Y0.f1
        have y4 := Y5.c0
        simp only at y0 y1 y4
        go_wp2
        go_roundw
        case rel =>
          refine ⟨(par a k, k + 1), del β G, unhide HI2, unhide hJ2, ?_, (Y1.off (by omega) _ _).off (by omega) _ _, (B5.set (by omega) (by omega) (by omega) _ _).set (by omega) (by omega) (by omega) _ _, (F5.setNew (Nat.le_refl _) _ _).setNew (Nat.le_refl _) _ _⟩
          have e1 : min a β = par a k := by rw [unhide HMN]; split <;> omega
          have := Y0.set (par a k, k + 1)
          rw [e1]; exact this
        case measure =>
          have m1 : ((w4.setCell ⟨w.heap.size, 0, none⟩ (.int .i64 (min a β))).setCell ⟨w.heap.size, 1, none⟩ (.int .i64 (k + 1))).cell? ⟨w.heap.size, 1, none⟩ = some (.int .i64 (k + 1)) := css (u := .int .i64 k) (by rw [cso (by simp)]; exact y1)
          rw [m1, unhide HY1]; simp [RowKit.intOf]; omega
      · rw [show decide ((β, k) ∈ G) = false by simpa using hm] at HAS
        rw [if_neg hm] at hJ2
        clear HIJ hI
        go_region_held3 (fun w' => w'.cell? ⟨b, 1, none⟩ = some (.map (some fm)) ∧ w'.cell? ⟨c, 0, none⟩ = some (.int .i64 β) ∧ w'.cell? ⟨c, 1, none⟩ = some (.int .i64 k)) ((first | (go_keep; done) | (exact (unhide KC) _ (by assumption)))) ((go_at_call 28; refine (unhide HAS).mono ?_; rintro ev w3 ⟨rfl, b3⟩))
        have B3 := B2.b (bd b3)
        have Y0 := X3.b (bd b3)
        have Y1 := X4.b (bd b3)
        have F3 := F2.trans (kept_of (bd b3))
        have s3 := b3.size
        clear x0 x1 v0 v1 c1 HAS KC B2 X3 X4 X5 F2 b3
        have y0 := Y0.c0
        have y1 := Y0.c1
        have z0 := Y1.c0
        have z1 := Y1.c1
        have z2 := Y1.f0
        have z3 := Y1.f1
        simp only at y0 y1 z0 z1
        go_wp2
        have hJ6 := unhide hJ2
        refine bodyPost_ret (v := blkV a k) (by simp [results, Tryz.results29, go_sem, z0, z1]) rfl ⟨by rw [hJ6], ?_, (F3.setNew (by omega) _ _).setNew (by omega) _ _⟩
        rw [hJ6]
        exact (B3.set (by omega) (by omega) (by omega) _ _).set (by omega) (by omega) (by omega) _ _
end Bd
end Go.Proofs.YtdmeoooimnfmaaaGreatDoor
