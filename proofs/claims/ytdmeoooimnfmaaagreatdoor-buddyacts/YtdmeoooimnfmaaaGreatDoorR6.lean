/- The document's answer's own Give. -/
import Derived.Test.YtdmeoooimnfmaaaGreatDoorR5b
namespace Go.Proofs.YtdmeoooimnfmaaaGreatDoor
open Go.RowKit
namespace Bd
open Fr
theorem drw (w : World) : Below w.heap.size w w.drew := ⟨rfl, rfl, rfl, Nat.le_refl _, fun _ _ => rfl⟩

set_option maxRecDepth 100000 in
set_option maxHeartbeats 4000000 in
theorem rgive_none (b : Nat) (N : Int) (F T : List Bl) (x : Bl) (w : World) (h : RB w b N F T) (hl : T.length ≤ 256) (hx : x ∉ T) :
    Calls Tryz.prog 12 #[ptr b, blkV x.1 x.2] w fun ev w' => ev = .returned (.int .i64 4) ∧ Below w.heap.size w w' := by
  obtain ⟨a, k⟩ := x
  simp only
  have B2 := h.a (blkO a k)
  have X2 := bx_new w (a, k)
  have F2 := ballo (Below.refl w.heap.size w) (blkO a k)
  have s2 : (w.alloc (blkO a k)).heap.size = w.heap.size + 1 := by simp
  clear h
  unfold ptr
  go_enter Tryz.func12, Tryz.ntmps12
  go_wp2_with fail
  generalize w.alloc (blkO a k) = W at *
  obtain ⟨v2, e2, l2⟩ := B2.c2
  have x0 := X2.c0
  have x1 := X2.c1
  simp only at x0 x1
  have HF := hide (find_any b v2 T (a, k) W.drew (l2.b ⟨rfl, rfl, rfl, Nat.le_refl _, fun _ _ => rfl⟩) hl)
  have KC := hide (fun w1 (hb : Below W.heap.size W.drew w1) => (⟨((bd hb).cell (p := ⟨b, 2, none⟩) B2.lt).trans e2, ((bd hb).cell (p := ⟨w.heap.size, 0, none⟩) X2.lt).trans X2.c0, ((bd hb).cell (p := ⟨w.heap.size, 1, none⟩) X2.lt).trans X2.c1⟩ : w1.cell? ⟨b, 2, none⟩ = some v2 ∧ w1.cell? ⟨w.heap.size, 0, none⟩ = some (.int .i64 a) ∧ w1.cell? ⟨w.heap.size, 1, none⟩ = some (.int .i64 k)))
  have HF := hide ((unhide HF).mono (R' := fun ev w' => Below W.heap.size W.drew w' ∧ ev = .returned (.int .i64 (-1))) (fun ev w' h => ⟨h.1, by
    rcases h.2 with h2 | ⟨q, hq, _, h3⟩
    · exact h2.1
    · exact absurd (by rw [← h3]; exact List.getElem_mem hq) hx⟩))
  go_region_held3 (fun w' => w'.cell? ⟨b, 2, none⟩ = some v2 ∧ w'.cell? ⟨w.heap.size, 0, none⟩ = some (.int .i64 a) ∧ w'.cell? ⟨w.heap.size, 1, none⟩ = some (.int .i64 k)) ((first | (go_keep; done) | (exact (unhide KC) _ (by assumption)))) ((go_at_call 30; refine (unhide HF).mono ?_; rintro ev w3 ⟨b3, rfl⟩))
  have B3 := B2.b (bd b3)
  have X3 := X2.b (bd b3)
  have F3 := F2.trans ((bd b3).mono (by omega))
  clear KC HF e2 l2 x0 x1 B2 X2 F2 b3
  have x0 := X3.c0
  have x1 := X3.c1
  simp only at x0 x1
  go_wp2
  go_ret
  exact ⟨rfl, F3⟩

set_option maxRecDepth 100000 in
set_option maxHeartbeats 8000000 in
theorem rgive_ok (b : Nat) (N : Int) (F T : List Bl) (x : Bl) (w : World) (h : RB w b N F T) (hi : Inv N F T) (hN : N ≤ 256) (hx : x ∈ T) :
    Calls Tryz.prog 12 #[ptr b, blkV x.1 x.2] w fun ev w' => ev = .returned (.int .i64 0) ∧ RB w' b N (giveF x F) (del x.1 T) ∧ Kept b b w w' := by
  have hl : T.length ≤ 256 := by
    have := srt_len hi.sT (a := 0) (b := 256) (fun z hz => by have := hi.small hN hz; omega)
    omega
  have HS := hide hi.sT
  have HBW := hide h.lt
  have HI0 := hide (hi.outT hx)
  obtain ⟨J, hJ⟩ : ∃ J, Hid (J = joinL (6 - x.2).toNat x F) := ⟨_, rfl⟩
  have hgf : giveF x F = ins J.1 J.2 := by unfold giveF; rw [unhide hJ]
  rw [hgf]
  clear hi hgf
  obtain ⟨a, k⟩ := x
  simp only at *
  have B2 := h.a (blkO a k)
  have X2 := bx_new w (a, k)
  have O2 := h.offNew (blkO a k)
  have F2 := ballo (Below.refl w.heap.size w) (blkO a k)
  have s2 : (w.alloc (blkO a k)).heap.size = w.heap.size + 1 := by simp
  clear h
  unfold ptr
  go_enter Tryz.func12, Tryz.ntmps12
  go_wp2_with fail
  generalize w.alloc (blkO a k) = W at *
  obtain ⟨v2, e2, l2⟩ := B2.c2
  have x0 := X2.c0
  have x1 := X2.c1
  simp only at x0 x1
  have HF := hide (find_any b v2 T (a, k) W.drew (l2.b ⟨rfl, rfl, rfl, Nat.le_refl _, fun _ _ => rfl⟩) hl)
  have KC := hide (fun w1 (hb : Below W.heap.size W.drew w1) => (⟨((bd hb).cell (p := ⟨b, 2, none⟩) B2.lt).trans e2, ((bd hb).cell (p := ⟨w.heap.size, 0, none⟩) X2.lt).trans X2.c0, ((bd hb).cell (p := ⟨w.heap.size, 1, none⟩) X2.lt).trans X2.c1⟩ : w1.cell? ⟨b, 2, none⟩ = some v2 ∧ w1.cell? ⟨w.heap.size, 0, none⟩ = some (.int .i64 a) ∧ w1.cell? ⟨w.heap.size, 1, none⟩ = some (.int .i64 k)))
  have HF := hide ((unhide HF).mono (R' := fun ev w' => Below W.heap.size W.drew w' ∧ ∃ q : Nat, ∃ hq : q < T.length, ev = .returned (.int .i64 q) ∧ T[q] = (a, k)) (fun ev w' h => ⟨h.1, by
    rcases h.2 with h2 | h2
    · exact absurd hx h2.2
    · exact h2⟩))
  go_region_held3 (fun w' => w'.cell? ⟨b, 2, none⟩ = some v2 ∧ w'.cell? ⟨w.heap.size, 0, none⟩ = some (.int .i64 a) ∧ w'.cell? ⟨w.heap.size, 1, none⟩ = some (.int .i64 k)) ((first | (go_keep; done) | (exact (unhide KC) _ (by assumption)))) ((go_at_call 30; refine (unhide HF).mono ?_; rintro ev w3 ⟨b3, q, hq, rfl, hTq⟩))
  have hqn : decide ((q : Int) < 0) = false := by simp
  have B3 := B2.b (bd b3)
  have X3 := X2.b (bd b3)
  have O3 := hide (O2.b B2.lt (bd b3))
  have F3 := F2.trans ((bd b3).mono (by omega))
  have e3 := ((unhide KC) w3 b3).1
  have l3 := l2.b (bd b3)
  clear KC HF e2 l2 x0 x1 B2 X2 O2 F2 b3
  have x0 := X3.c0
  have x1 := X3.c1
  simp only at x0 x1
  have ff := B3.f2
  have hbl3 := B3.lt
  have hcl3 := X3.lt
  have H25 := hide (without_all b v2 T q w3 l3 (unhide HS) hl hq)
  rw [show T[q].1 = a by rw [hTq]] at H25
  have B3H := hide B3
  have X3H := hide X3
  clear l3 B3 X3 hTq HS
  go_wp2_with fail
  refine (unhide H25).mono ?_
  rintro ev w4 ⟨p4, m4, c4, rfl, l4, b4⟩
  have y4 := (b4.cell (p := ⟨b, 2, none⟩) hbl3).trans e3
  have z4 := (b4.frozen (p := ⟨b, 2, none⟩) hbl3).trans ff
  have B4 := hide (((unhide B3H).b b4).putT (l4 b hbl3))
  have O4 := hide (((unhide B3H).b b4).offT ((unhide O3).b hbl3 b4) (l4 b hbl3) (l4 _ hcl3))
  have hbw : b < w.heap.size := unhide HBW
  have hxne : w.heap.size ≠ b := by omega
  have X4 := hide (((unhide X3H).b b4).off hxne 2 (.slice p4 m4 c4))
  have F4 := hide (((kept_of (F3.trans (b4.mono (by have := F3.size; omega))) : Kept b b w w4)).trans (kept_set w4 2 (.slice p4 m4 c4)))
  clear B3H X3H O3 F3 b4 e3 ff x0 x1 hbl3 hcl3 H25 l4
  go_wp2_with fail
  go_loopw [5] (fun _ wr => ∃ (y : Bl) (G : List Bl), Hid (HInv N G (del a T) y) ∧ Hid (J = joinL (6 - y.2).toNat y G) ∧ Hid (Bx wr w.heap.size y) ∧ Hid (RB wr b N G (del a T)) ∧ Hid (Off wr b w.heap.size) ∧ Kept b b w wr) (fun _ wr => (6 - RowKit.intOf ((wr.cell? ⟨w.heap.size, 1, none⟩).getD undef)).toNat)
  case atStart => exact ⟨(a, k), F, HI0, hJ, X4, B4, O4, unhide F4⟩
  case round =>
    clear B4 X4 O4 F4 HI0 hJ
    obtain ⟨⟨y1, y2⟩, G, hI, hJ, h3, hB, hO, hk⟩ := hrel
    have hIs := unhide hI
    have x0 := (unhide h3).c0
    have x1 := (unhide h3).c1
    simp only at x0 x1
    have hox := hIs.ox
    have hsmx := hIs.smallX hN
    unfold Okb at hox
    simp only at hox hsmx
    have HX1 := hide x1
    by_cases h6 : y2 = 6
    · have hJ6 : Hid (ins J.1 J.2 = ins (y1, y2) G) := by show _ = _; rw [unhide hJ, show (6 - y2).toNat = 0 by omega]; rfl
      have hd6 : decide (y2 < 6) = false := by simp; omega
      clear hI h3 hox hsmx h6 hJ
      have hlg : G.length ≤ 256 := by
        have := srt_len hIs.sF (a := 0) (b := 256) (fun z hz => by have h1 := hIs.inF hz; have h2 := pw_pos z.2; omega)
        omega
      have hoff : ∀ z ∈ G, z.1 ≠ y1 := fun z hz => by have h1 := hIs.offF hz; have h2 := pw_pos y2; simp only at h1; omega
      obtain ⟨v1, e1, l1⟩ := (unhide hB).c1
      have ff := (unhide hB).f1
      have hbl := (unhide hB).lt
      have HW := hide (fun w1 (hb : Below wr.heap.size wr w1) => with_any b v1 G (y1, y2) w1 (l1.b hb) hlg hoff (Nat.lt_of_lt_of_le hbl hb.size))
      have KE := hide (fun w1 (hb : Below wr.heap.size wr w1) => (⟨(hb.cell (p := ⟨b, 1, none⟩) hbl).trans e1, (hb.frozen (p := ⟨b, 1, none⟩) hbl).trans ff⟩ : w1.cell? ⟨b, 1, none⟩ = some v1 ∧ w1.frozen? ⟨b, 1, none⟩ = false))
      have BH := hide (unhide hB)
      have HLI := hide hIs
      clear l1 hB hoff hlg hIs
      go_wp2_with fail
      go_region_with ((go_at_call 26; refine ((unhide HW) _ (drw wr)).mono ?_; rintro ev w7 ⟨p7, m7, c7, rfl, l7, b7⟩; have f7 : Below wr.heap.size wr w7 := bd b7; have y8 := ((unhide KE) w7 f7).1; have z8 := ((unhide KE) w7 f7).2))
      all_goals
        have B7 := ((unhide BH).b f7).putF l7
        have F7 := hk.trans ((kept_of f7).trans (kept_set w7 1 (.slice p7 m7 c7)))
        clear HW KE BH y8 z8
        go_wp2
        go_ret
        exact ⟨rfl, by rw [unhide hJ6]; exact B7, F7⟩
    · have hy5 : y2 ≤ 5 := by omega
      have hal := (al_dvd y1 y2).2 hox.2.2
      have hd6 : decide (y2 < 6) = true := by simp; omega
      have HBU := hide (fun w => rbuddy_ok y1 y2 w hsmx.1 hsmx.2.1 hsmx.2.2.1 hy5 hal)
      have HPA := hide (fun w => rparent_ok y1 y2 w hsmx.1 hsmx.2.1 hsmx.2.2.1 hy5)
      have hJ2 : Hid (J = if (bud y1 y2, y2) ∈ G then joinL (6 - (y2 + 1)).toNat (par y1 y2, y2 + 1) (del (bud y1 y2) G) else ((y1, y2), G)) := by
        have := unhide hJ
        simp only at this
        rw [show (6 - y2).toNat = (6 - (y2 + 1)).toNat + 1 by omega] at this
        exact this
      have HIJ := hide (fun hm => HInv.join hIs (by omega) hm)
      have hlg : G.length ≤ 256 := by
        have := srt_len hIs.sF (a := 0) (b := 256) (fun z hz => by have h1 := hIs.inF hz; have h2 := pw_pos z.2; omega)
        omega
      have HSG := hide hIs.sF
      generalize bud y1 y2 = β at *
      generalize par y1 y2 = π at *
      obtain ⟨v1, e1, l1⟩ := (unhide hB).c1
      have hbl := (unhide hB).lt
      have hf1 := (unhide hB).f1
      have L1 := hide l1
      have XH := hide (unhide h3)
      have BH := hide (unhide hB)
      have HF := hide (fun w1 (hb : Below wr.heap.size wr w1) => find_any b v1 G (β, y2) w1 (l1.b hb) hlg)
      have KC := hide (fun w1 (hb : Below wr.heap.size wr w1) => (⟨(hb.cell (p := ⟨b, 1, none⟩) hbl).trans e1, (hb.cell (p := ⟨w.heap.size, 0, none⟩) (unhide XH).lt).trans (unhide XH).c0, (hb.cell (p := ⟨w.heap.size, 1, none⟩) (unhide XH).lt).trans (unhide XH).c1⟩ : w1.cell? ⟨b, 1, none⟩ = some v1 ∧ w1.cell? ⟨w.heap.size, 0, none⟩ = some (.int .i64 y1) ∧ w1.cell? ⟨w.heap.size, 1, none⟩ = some (.int .i64 y2)))
      clear l1 h3 hB hI hJ hox hal
      by_cases hm : (β, y2) ∈ G
      · rw [if_pos hm] at hJ2
        have HI2 := hide ((unhide HIJ) hm)
        have HF := hide (fun w1 hb => ((unhide HF) w1 hb).mono (R' := fun ev w' => Below w1.heap.size w1 w' ∧ ∃ q : Nat, ∃ hq : q < G.length, ev = .returned (.int .i64 q) ∧ G[q] = (β, y2)) (fun ev w' h => ⟨h.1, by
          rcases h.2 with h2 | h2
          · exact absurd hm h2.2
          · exact h2⟩))
        clear HIJ hIs
        go_wp2_with fail
        go_region_held3 (fun w' => w'.cell? ⟨b, 1, none⟩ = some v1 ∧ w'.cell? ⟨w.heap.size, 0, none⟩ = some (.int .i64 y1) ∧ w'.cell? ⟨w.heap.size, 1, none⟩ = some (.int .i64 y2)) ((first | (go_keep; done) | (exact (unhide KC) _ (by assumption)))) ((first
          | (go_at_call 27; refine ((unhide HBU) _).mono ?_; rintro ev w5 ⟨rfl, b5⟩; have f5 : Below wr.heap.size wr w5 := bd b5)
          | (go_at_call 30; refine ((unhide HF) w5 f5).mono ?_; rintro ev w6 ⟨b6, q, hq, rfl, hGq⟩; have f6 : Below wr.heap.size wr w6 := fwd f5 f5.size b6)))
        have hqn : decide ((q : Int) < 0) = false := by simp
        have e6 := ((unhide KC) w6 f6).1
        have hbl6 : b < w6.heap.size := Nat.lt_of_lt_of_le hbl f6.size
        have ff6 := (f6.frozen (p := ⟨b, 1, none⟩) hbl).trans hf1
        have H25 := without_all b v1 G q w6 ((unhide L1).b f6) (unhide HSG) hlg hq
        rw [show G[q].1 = β by rw [hGq]] at H25
        have H25 := hide H25
        have X6 := hide ((unhide XH).b f6)
        have O6 := hide ((unhide hO).b hbl f6)
        have B6 := hide ((unhide BH).b f6)
        have F6 := hide (hk.trans (kept_of f6))
        clear KC HF HBU L1 XH BH f5 b5 b6 hGq e1 hf1 x0 x1
        go_wp2_with fail
        refine (unhide H25).mono ?_
        rintro ev w7 ⟨p7, m7, c7, rfl, l7, b7⟩
        have y7 := (b7.cell (p := ⟨b, 1, none⟩) hbl6).trans e6
        have z7 := (b7.frozen (p := ⟨b, 1, none⟩) hbl6).trans ff6
        have B7 := hide (((unhide B6).b b7).putF (l7 b hbl6))
        have O7 := hide (((unhide B6).b b7).offF ((unhide O6).b hbl6 b7) (l7 b hbl6) (l7 _ (unhide X6).lt))
        have X7 := hide (((unhide X6).b b7).off hxne 1 (.slice p7 m7 c7))
        have F7 := hide ((unhide F6).trans ((kept_of b7).trans (kept_set w7 1 (.slice p7 m7 c7))))
        clear H25 B6 X6 F6 O6 e6 ff6 b7 l7
        have x0 := (unhide X7).c0
        have x1 := (unhide X7).c1
        simp only at x0 x1
        go_wp2_with fail
        refine ((unhide HPA) _).mono ?_
        rintro ev w8 ⟨rfl, b8⟩
        have O8 := (unhide O7).b (unhide B7).lt b8
        have B8 := (unhide B7).b b8
        have X8 := (unhide X7).b b8
        have F8 := (unhide F7).trans (kept_of b8)
        have hxl : w.heap.size ≤ w8.heap.size := F8.size
        clear B7 X7 F7 O7 x0 x1 y7 z7
        have x0 := X8.c0
        have x1 := X8.c1
        have x2 := X8.f0
        have x3 := X8.f1
        simp only at x0 x1
        go_wp2
        go_roundw
        case rel =>
          have bb := B8.box O8 hxne 0 (.int .i64 π)
          have bb2 := bb.1.box bb.2 hxne 1 (.int .i64 (y2 + 1))
          exact ⟨(π, y2 + 1), del β G, HI2, hJ2, hide (X8.set (π, y2 + 1)), hide bb2.1, hide bb2.2, (F8.setNew (Nat.le_refl _) _ _).setNew (Nat.le_refl _) _ _⟩
        case measure =>
          have m1 : ((w8.setCell ⟨w.heap.size, 0, none⟩ (.int .i64 π)).setCell ⟨w.heap.size, 1, none⟩ (.int .i64 (y2 + 1))).cell? ⟨w.heap.size, 1, none⟩ = some (.int .i64 (y2 + 1)) := css (u := .int .i64 y2) (by rw [cso (by simp)]; exact x1)
          rw [m1, unhide HX1]; simp [RowKit.intOf]; omega
      · rw [if_neg hm] at hJ2
        have hJ6 : Hid (ins J.1 J.2 = ins (y1, y2) G) := by show _ = _; rw [unhide hJ2]
        have HF := hide (fun w1 hb => ((unhide HF) w1 hb).mono (R' := fun ev w' => Below w1.heap.size w1 w' ∧ ev = .returned (.int .i64 (-1))) (fun ev w' h => ⟨h.1, by
          rcases h.2 with h2 | ⟨q, hq, _, h3⟩
          · exact h2.1
          · exact absurd (by rw [← h3]; exact List.getElem_mem hq) hm⟩))
        have hoff := hide (fun (z : Bl) (hz : z ∈ G) => (by have h1 := hIs.offF hz; have h2 := pw_pos y2; simp only at h1; omega : z.1 ≠ y1))
        clear HIJ hIs hJ2
        go_wp2_with fail
        go_region_held3 (fun w' => w'.cell? ⟨b, 1, none⟩ = some v1 ∧ w'.cell? ⟨w.heap.size, 0, none⟩ = some (.int .i64 y1) ∧ w'.cell? ⟨w.heap.size, 1, none⟩ = some (.int .i64 y2)) ((first | (go_keep; done) | (exact (unhide KC) _ (by assumption)))) ((first
          | (go_at_call 27; refine ((unhide HBU) _).mono ?_; rintro ev w5 ⟨rfl, b5⟩; have f5 : Below wr.heap.size wr w5 := bd b5)
          | (go_at_call 30; refine ((unhide HF) w5 f5).mono ?_; rintro ev w6 ⟨b6, rfl⟩; have f6 : Below wr.heap.size wr w6 := fwd f5 f5.size b6)))
        have e1 := ((unhide KC) w6 f6).1
        have hbl6 : b < w6.heap.size := Nat.lt_of_lt_of_le hbl f6.size
        have ff := (f6.frozen (p := ⟨b, 1, none⟩) hbl).trans hf1
        have l1 := (unhide L1).b f6
        have X6 := (unhide XH).b f6
        have BH6 := hide ((unhide BH).b f6)
        have hk6 := hk.trans (kept_of f6)
        clear KC HF HBU L1 XH BH f5 b5 b6 hf1 x0 x1
        have x0 := X6.c0
        have x1 := X6.c1
        simp only at x0 x1
        have HW := hide (fun w1 (hb : Below w6.heap.size w6 w1) => with_any b v1 G (y1, y2) w1 (l1.b hb) hlg (unhide hoff) (Nat.lt_of_lt_of_le hbl6 hb.size))
        have KE := hide (fun w1 (hb : Below w6.heap.size w6 w1) => (⟨(hb.cell (p := ⟨b, 1, none⟩) hbl6).trans e1, (hb.frozen (p := ⟨b, 1, none⟩) hbl6).trans ff⟩ : w1.cell? ⟨b, 1, none⟩ = some v1 ∧ w1.frozen? ⟨b, 1, none⟩ = false))
        clear l1 hoff X6
        go_wp2_with fail
        go_region_with ((go_at_call 26; refine ((unhide HW) _ (drw w6)).mono ?_; rintro ev w7 ⟨p7, m7, c7, rfl, l7, b7⟩; have f7 : Below w6.heap.size w6 w7 := bd b7; have y8 := ((unhide KE) w7 f7).1; have z8 := ((unhide KE) w7 f7).2))
        all_goals
          have B7 := ((unhide BH6).b f7).putF l7
          have F7 := hk6.trans ((kept_of f7).trans (kept_set w7 1 (.slice p7 m7 c7)))
          clear HW KE BH6 y8 z8
          go_wp2
          go_ret
          exact ⟨rfl, by rw [unhide hJ6]; exact B7, F7⟩
end Bd
end Go.Proofs.YtdmeoooimnfmaaaGreatDoor
