/- SlabFull: its walk, over the contracts. -/
import Derived.Test.YtjkdnoafgcmheaaGreatDoorKI
namespace Go.Proofs.YtjkdnoafgcmheaaGreatDoor
open Go.RowKit Go.Maps
namespace Sb
open Fr Bd Zn Dz
/-- A cache on one node, so full. -/
def FullI (N0 c z : Nat) (ly : Ly) (sz : Int) (pg m : Nat) (mn lw hi : Int) (nb fm tm : Nat → Nat) (fr : Nat → List Nat) (t : Nat) (W : World) : Prop := ∃ bs ss nd, PS N0 W c z ly sz m bs ss mn lw hi 1 nb fm tm nd fr ∧ Fill pg m (nd 0) ss t
theorem full_end {N0 c z : Nat} {ly : Ly} {sz : Int} {pg m : Nat} {mn lw hi : Int} {nb fm tm : Nat → Nat} {nd : Nat → Nd} {fr : Nat → List Nat} {W : World} {bs : List Nat} {ss : List Sl} (h : PS N0 W c z ly sz m bs ss mn lw hi 1 nb fm tm nd fr) (hF : Fill pg m (nd 0) ss (pg * m)) : tot m ss ss.length = pg * m ∧ ss.length * m = pg * m ∧ pgs (nd 0).F = 0 := by
  have h1 := totL_le m ss
  have h2 := (pgs_pos (l := (nd 0).F)).1
  have h3 := hF.pg
  have h4 := hF.tt
  have hm := h.c.mle.1
  have h5 := tot_is m ss ss.length (Nat.le_refl _)
  rw [List.take_length, h4] at h5
  have h6 : pg ≤ ss.length := Nat.le_of_mul_le_mul_right (by omega : pg * m ≤ ss.length * m) hm
  have h7 : ss.length = pg := by omega
  exact ⟨h5, by rw [h7], by omega⟩
set_option maxRecDepth 100000 in
set_option maxHeartbeats 16000000 in
theorem sfull_ok (n0 n1 : Int) (w : World) (e : Nat → Addr) (he : Errs w e) :
    Calls Tryz.prog 4 #[.int .i64 n0, .int .i64 n1] w fun ev w' => ev = .returned (.bool true) ∧ Below w.heap.size w w' := by
  have HC0 := hide (cached_ok w e he)
  have HE := hide he
  clear he
  by_cases hin : 1 ≤ n0 ∧ n0 ≤ 20 ∧ 1 ≤ n1 ∧ n1 ≤ 64
  · have d1 : decide (n0 < 1) = false := by simp; omega
    have d2 : decide (n0 > 20) = false := by simp; omega
    have d3 : decide (n1 < 1) = false := by simp; omega
    have d4 : decide (n1 > 64) = false := by simp; omega
    obtain ⟨pg, rfl⟩ := Int.eq_ofNat_of_zero_le (show 0 ≤ n0 by omega)
    go_enter Tryz.func4, Tryz.ntmps4
    go_wp2_with fail
    refine (unhide HC0).mono ?_
    rintro ev w0 ⟨rfl, b0⟩
    have HO := hide (one_ok pg w0)
    clear HC0
    go_wp2_with fail
    refine (unhide HO).mono ?_
    rintro ev w1 ⟨p, pc, q, qc, rfl, A1, b1⟩
    have F1 := btr b0 b1
    have HN := hide (znew_ok (oneC pg) p q pc qc w1 e ((unhide HE).below F1).three A1 (oneC_is pg (by omega) (by omega)).2 (oneC_is pg (by omega) (by omega)).1)
    clear A1 HO
    unfold cfV at *
    go_wp2_with fail
    refine (unhide HN).mono ?_
    rintro ev w2 ⟨z, nb, fm, tm, rfl, D2, fr2, b2⟩
    have F2 := btr F1 b2
    have hpg : pgs (nd0 (oneC pg).P 0).F = pg := pgs_nd0 (P := (oneC pg).P) (i := 0) (by show (1 : Int) ≤ pg; omega) (by show (pg : Int) ≤ 256; omega)
    have hok0 := nd0_ok (P := (oneC pg).P) (i := 0) (by show (1 : Int) ≤ pg; omega) (by show (pg : Int) ≤ 256; omega)
    have hfr : (fun i => nfr ((oneC pg).D i) (oneC pg).n 1001) 0 = [0] := one_fr
    have hn1 : (oneC pg).n = 1 := rfl
    have HNW := hide (snew_ok w.heap.size z n1 w2 (by omega) (by omega) F2.size)
    generalize nd0 (oneC pg).P = nd at *
    generalize (fun i => nfr ((oneC pg).D i) (oneC pg).n 1001) = fr at *
    generalize (oneC pg).mn = mn at *
    generalize (oneC pg).lw = lw at *
    generalize (oneC pg).hi = hi at *
    rw [hn1] at D2
    have HF2 := hide F2
    have HD2 := hide D2
    have HFR : Hid (∀ i, i < 1 → w.heap.size ≤ fm i ∧ w.heap.size ≤ tm i) := fun i hi => by have := fr2 i (by rw [hn1]; exact hi); have := b0.size; have := b1.size; omega
    have HPG := hide hpg
    have HOK := hide hok0
    have HFF := hide hfr
    clear HN F2 D2 fr2 b2 b1 b0 F1 hpg hok0 hfr hn1
    unfold ptr at *
    go_wp2_with fail
    refine (unhide HNW).mono ?_
    rintro ev w3 ⟨c, m, ly, rfl, hC, hl, _, b3⟩
    have hmm := hC.mm.2.2
    have hml := hC.mle
    have P3 := ps_new (nb := nb) (fm := fm) (tm := tm) (unhide HD2) b3 hl hC (unhide HFR) (by omega)
    have HI3 : Hid (FullI w.heap.size c z ly n1 pg m mn lw hi nb fm tm fr 0 w3) := ⟨[], [], nd, P3, ⟨unhide HOK, by rw [unhide HPG]; simp, rfl, fun s hs => by cases hs⟩⟩
    have HF3 := hide (btr (unhide HF2) b3)
    obtain ⟨Q, hQ⟩ : ∃ Q, Q = pg * m := ⟨_, rfl⟩
    have hQ2 : Q ≤ 1280 := by
      have : pg * m ≤ 20 * 64 := Nat.mul_le_mul (by omega) hml.2
      omega
    have hmany : IntKind.i64.wrap ((pg : Int) * (m : Int)) = (Q : Int) := by
      rw [hQ]
      rw [show ((pg : Int) * (m : Int)) = ((pg * m : Nat) : Int) by push_cast; rfl]
      exact IntWalk.i64_in _ (by omega)
    have hq : (64 : Int) / n1 = (m : Int) := hmm.symm
    clear HNW hC b3 P3 HF2 HD2 HFR HPG HOK hmm
    unfold ptr at *
    have HQ := hide hQ
    clear hQ
    go_wp2_with fail
    clear hq hmany
    go_loopw [10] (fun s wr => ∃ t : Nat, s = .int .i64 t ∧ t ≤ Q ∧ Hid (FullI w.heap.size c z ly n1 pg m mn lw hi nb fm tm fr t wr) ∧ Hid (Below w.heap.size w wr)) (fun s _ => Q - (RowKit.intOf s).toNat)
    case atStart => exact ⟨0, rfl, Nat.zero_le _, HI3, HF3⟩
    case round =>
      clear HI3 HF3
      obtain ⟨t, rfl, ht, hI, hB⟩ := hrel
      obtain ⟨bs, ss, nd, hP, hF⟩ := unhide hI
      have HT := hide (stake_ok w.heap.size c z ly n1 m bs ss mn lw hi 1 nb fm tm nd fr 0 true e w wr (unhide HE) (unhide hB) (Nat.le_refl _) hP)
      by_cases htq : t < Q
      · have ht1 : (t : Int) < Q := by omega
        have HP := hide hP
        have HF := hide hF
        clear hI hP hF
        unfold ptr at *
        go_wp2_with fail
        refine (unhide HT).mono ?_
        rintro ev w4 hT
        obtain ⟨a, bs', ss', nd', rfl, P4, F4, C4⟩ := fill_lt hT (unhide HFF) (unhide HF) hml (fun s hs => ((unhide HP).c.ok s hs).2.2.1) (by rw [← unhide HQ]; exact htq)
        have B4 := (unhide hB).trans (C4.toBelow (unhide hB).size)
        have G5 := ballo (Below.refl w4.heap.size w4) (.cells #[.int .i64 0, .int .i64 a] 42)
        have HI5 : Hid (FullI w.heap.size c z ly n1 pg m mn lw hi nb fm tm fr (t + 1) (w4.alloc (.cells #[.int .i64 0, .int .i64 a] 42))) := ⟨bs', ss', nd', P4.b G5, F4⟩
        have HB5 := hide (B4.trans (G5.mono B4.size))
        have q0 := World.cell?_alloc_new w4 #[.int .i64 0, .int .i64 a] 42 0
        simp only [List.getElem?_toArray, List.getElem?_cons_zero] at q0
        clear HT hT P4 F4 C4 B4 G5 hB HP HF
        unfold objV at *
        go_upto_region 15 with (fail)
        generalize w4.alloc (.cells #[.int .i64 0, .int .i64 a] 42) = W5 at *
        go_wp2_with fail
        go_roundw
        case rel =>
          exact ⟨t + 1, by go_num, by omega, HI5, HB5⟩
        case measure => simp [RowKit.intOf]; omega
      · obtain rfl : t = Q := by omega
        have hend := full_end (by exact hP) (by rw [← unhide HQ]; exact hF)
        rw [← unhide HQ] at hend
        have HF := hide (show Fill pg m (nd 0) ss (pg * m) by rw [← unhide HQ]; exact hF)
        have hnlt : ¬ ((t : Int) < (t : Int)) := by omega
        clear hI hP hF
        unfold ptr at *
        go_wp2_with fail
        refine (unhide HT).mono ?_
        rintro ev w4 hT
        obtain ⟨rfl, P4, C4⟩ := fill_eq hT (unhide HFF) (unhide HF) hml.1
        have B4 := (unhide hB).trans (C4.toBelow (unhide hB).size)
        have HCT := hide (count_ok w.heap.size c z ly n1 m bs ss w4 P4.c (sl_len P4))
        rw [hend.1, hend.2.1] at HCT
        have HFR := hide (fun w5 (hb : Below w4.heap.size w4 w5) => zfree_ok z mn lw hi 1 nb fm tm nd fr 0 w5 (P4.d.b hb) (by omega))
        rw [hend.2.2] at HFR
        have HB4 := hide B4
        clear HT hT P4 C4 B4 hB HF hend
        unfold objV errV ptr at *
        go_wp2_with fail
        refine (unhide HCT).mono ?_
        rintro ev w5 ⟨rfl, b5⟩
        have HF5 := hide ((unhide HFR) w5 b5)
        have HB5 := hide ((unhide HB4).trans (b5.mono (unhide HB4).size))
        clear HCT HFR HB4 b5
        go_wp2_with fail
        refine (unhide HF5).mono ?_
        rintro ev w6 ⟨rfl, b6⟩
        have HB6 := hide ((unhide HB5).trans (b6.mono (unhide HB5).size))
        have HCD := hide (coded_sent 4 (by omega) 5 (by omega) w6 e ((unhide HE).below (unhide HB6)))
        clear HF5 HB5 b6
        go_wp2_with fail
        refine (unhide HCD).mono ?_
        rintro ev w7 ⟨rfl, b7⟩
        have HB7 := hide ((unhide HB6).trans (b7.mono (unhide HB6).size))
        clear HCD HB6 b7
        go_wp2
        go_ret
        exact ⟨rfl, unhide HB7⟩
  · by_cases c1 : n0 < 1
    · have d1 : decide (n0 < 1) = true := by simpa using c1
      clear hin c1
      go_enter Tryz.func4, Tryz.ntmps4
      go_wp2_with fail
      refine (unhide HC0).mono ?_
      rintro ev w0 ⟨rfl, b0⟩
      go_wp2
      go_ret
      exact ⟨rfl, b0⟩
    · have d1 : decide (n0 < 1) = false := by simpa using c1
      by_cases c2 : n0 > 20
      · have d2 : decide (n0 > 20) = true := by simpa using c2
        clear hin c1 c2
        go_enter Tryz.func4, Tryz.ntmps4
        go_wp2_with fail
        refine (unhide HC0).mono ?_
        rintro ev w0 ⟨rfl, b0⟩
        go_wp2
        go_ret
        exact ⟨rfl, b0⟩
      · have d2 : decide (n0 > 20) = false := by simpa using c2
        by_cases c3 : n1 < 1
        · have d3 : decide (n1 < 1) = true := by simpa using c3
          clear hin c1 c2 c3
          go_enter Tryz.func4, Tryz.ntmps4
          go_wp2_with fail
          refine (unhide HC0).mono ?_
          rintro ev w0 ⟨rfl, b0⟩
          go_wp2
          go_ret
          exact ⟨rfl, b0⟩
        · have d3 : decide (n1 < 1) = false := by simpa using c3
          have d4 : decide (n1 > 64) = true := by simp; omega
          clear hin c1 c2 c3
          go_enter Tryz.func4, Tryz.ntmps4
          go_wp2_with fail
          refine (unhide HC0).mono ?_
          rintro ev w0 ⟨rfl, b0⟩
          go_wp2
          go_ret
          exact ⟨rfl, b0⟩
end Sb
end Go.Proofs.YtjkdnoafgcmheaaGreatDoor
