/- ZoneActs: its walk over a config that is one, over the contracts. -/
import Derived.Test.YtealnnppoffmnaaGreatDoorHD
import Derived.Test.YtealnnppoffmnaaGreatDoorHE
import Derived.Test.YtealnnppoffmnaaGreatDoorHF
import Derived.Test.YtealnnppoffmnaaGreatDoorHB
import Derived.Test.YtealnnppoffmnaaGreatDoorHG
import Derived.BigQuiet
import Derived.Deep.RegionHeld3
namespace Go.Proofs.YtealnnppoffmnaaGreatDoor
open Go.RowKit Go.Maps
namespace Dz
open Fr Bd Zn
set_option maxRecDepth 100000 in
set_option maxHeartbeats 16000000 in
theorem zacts_ok (c : Cf) (p q : Option Addr) (pc qc : Nat) (x : Int) (lp : Option Addr) (ln lc : Nat) (A : Nat → ZA) (w : World) (e : Nat → Addr) (he : Errs w e) (h : At w c p q) (hpc : p = none → pc = 0) (hz : ZActs w lp ln A) (hwf : ∀ i, i < ln → (Lit.int .i64 (A i).pa).wf = true) (hhi : c.hi ≤ 9223372036854775807) (hi : c.is 0) :
    Calls Tryz.prog 6 #[cfV c p pc q qc, .int .i64 x, .slice lp ln lc] w fun ev w' => ev = .returned (.bool true) ∧ Below w.heap.size w w' := by
  have F1 := ballo (Below.refl w.heap.size w) (.cells #[.slice p c.n pc, .slice q c.m qc, .int .i64 c.mn, .int .i64 c.lw, .int .i64 c.hi] 51)
  have BX := box_new w c p q pc qc 51
  have HZO := hide (zoned_ok _ e (he.below F1))
  have HWD := hide (fun w1 (hb : Below w.heap.size w w1) => wide_ok c p q pc qc w1 (h.b hb))
  have HE := hide he
  have HA := hide h
  have HAC := hide hz
  have HWF := hide hwf
  obtain ⟨hn1, hn4, hP, hm, hM, hD, hmn, hml, hlh⟩ := Cf.zero hi
  have HC0 := hide (show (∀ i, i < c.n → 1 ≤ c.P i ∧ c.P i ≤ 256) ∧ (∀ i, i < c.m → c.M i = c.n) ∧ (∀ i, i < c.n → ∀ k, k < c.n → 0 ≤ c.D i k ∧ c.D i k ≤ 1000) from ⟨hP, hM, hD⟩)
  have HM := hide hm
  have HIS := hide hi
  clear he h hi hz hwf hP hM hD hm
  unfold cfV
  go_enter Tryz.func6, Tryz.ntmps6
  go_upto_region 1 with (fail)
  generalize w.alloc (.cells #[.slice p c.n pc, .slice q c.m qc, .int .i64 c.mn, .int .i64 c.lw, .int .i64 c.hi] 51) = W at *
  go_wp2_with fail
  refine (unhide HZO).mono ?_
  rintro ev w1 ⟨rfl, b1⟩
  have G1 := btr F1 b1
  have BX1 := hide (BX.b b1)
  obtain ⟨x0, x1, x2, x3, x4, _⟩ := unhide BX1
  have HW := hide ((unhide HWD) w1 G1)
  unfold cfV at *
  clear HZO HWD
  go_wp2_with fail
  refine (unhide HW).mono ?_
  rintro ev w2 ⟨d, rfl, hd, b2⟩
  have G2 := btr G1 b2
  rcases hd with ⟨rfl, _⟩ | ⟨rfl, hnw⟩
  · go_wp2
    go_ret
    exact ⟨rfl, G2⟩
  by_cases hl : 60 < ln
  · have d1 : decide ((60 : Int) < ln) = true := by simp; omega
    go_wp2
    go_ret
    exact ⟨rfl, G2⟩
  have d1 : decide ((60 : Int) < ln) = false := by simp; omega
  have BX2 := hide ((BX.b b1).b b2)
  obtain ⟨y0, y1, y2, y3, y4, _⟩ := unhide BX2
  have HCE := hide ((cerr_ok c p q pc qc w2 ((unhide HA).b G2) hnw).mono (fun ev w' hh => show ev = Ending.returned (.int .i64 0) ∧ Below w2.heap.size w2 w' from by obtain ⟨j, h1, h2, h3⟩ := hh; exact ⟨by rw [h1, Cf.is_one h2 (unhide HIS)], h3⟩))
  unfold cfV at *
  clear HW x0 x1 x2 x3 x4
  go_wp2_with fail
  refine (unhide HCE).mono ?_
  rintro ev w3 ⟨rfl, b3⟩
  have G3 := btr G2 b3
  have BX3 := hide ((unhide BX2).b b3)
  have HCO := hide (conf_ok c p q pc qc w3 ((unhide HA).b G3) hnw hpc)
  obtain ⟨z0, z1, z2, z3, z4, _⟩ := unhide BX3
  unfold cfV at *
  clear HCE y0 y1 y2 y3 y4 BX BX2 b1 b2 b3
  go_wp2_with fail
  refine (unhide HCO).mono ?_
  rintro ev w4 ⟨p', q', pc', qc', rfl, A4, b4⟩
  have G4 := btr G3 b4
  have BX4 := hide ((unhide BX3).b b4)
  have A4 := hide A4
  have hxx : (¬ (0 ≤ x ∧ x < c.n)) ∨ ∃ x' : Nat, x = x' ∧ x' < c.n := by
    by_cases hx : 0 ≤ x ∧ x < c.n
    · obtain ⟨x', rfl⟩ := Int.eq_ofNat_of_zero_le hx.1
      exact Or.inr ⟨x', rfl, by omega⟩
    · exact Or.inl hx
  clear HCO z0 z1 z2 z3 z4 BX3 b4
  rcases hxx with hxo | ⟨x', rfl, hx'⟩
  focus
    have HO := hide (order_bad c p' q' pc' qc' x w4 e ((unhide HE).below G4).three (unhide A4) hnw (unhide HIS) hxo)
    have HXO := hide hxo
    unfold cfV at *
    clear A4 hxo
    go_wp2_with fail
    refine (unhide HO).mono ?_
    rintro ev w5 ⟨rfl, b5⟩
    have HOWN : Hid True := trivial
    clear HO
  rotate_left
  focus
    have HO := hide (order_ok c p' q' pc' qc' x' w4 e ((unhide HE).below G4).three (unhide A4) hnw (unhide HIS) hx')
    unfold cfV at *
    clear A4
    go_wp2_with fail
    refine (unhide HO).mono ?_
    rintro ev w5 ⟨g, cap, rfl, hO, b5⟩
    have HOWN := hide hO
    clear HO hO
  rotate_left
  all_goals
    have G5 := btr G4 b5
    have BX5 := hide ((unhide BX4).b b5)
    have HCO := hide (conf_ok c p q pc qc w5 ((unhide HA).b G5) hnw hpc)
    obtain ⟨z0, z1, z2, z3, z4, _⟩ := unhide BX5
    unfold cfV at *
    clear BX4 b5
    go_wp2_with fail
    refine (unhide HCO).mono ?_
    rintro ev w6 ⟨p2, q2, pc2, qc2, rfl, A6, b6⟩
    have G6 := btr G5 b6
    have BX6 := hide ((unhide BX5).b b6)
    have HN := hide (znew_ok c p2 q2 pc2 qc2 w6 e ((unhide HE).below G6).three A6 hnw (unhide HIS))
    unfold cfV at *
    clear HCO z0 z1 z2 z3 z4 BX5 A6
    go_wp2_with fail
    refine (unhide HN).mono ?_
    rintro ev w7 ⟨z, nb, fm, tm, rfl, D7, fr7, b7⟩
    have G7 := btr G6 b7
    have BX7 := hide ((unhide BX6).b b7)
    have hs6 := G6.size
    have HFR : Hid (∀ i, i < c.n → w.heap.size ≤ fm i ∧ w.heap.size ≤ tm i) := fun i hi => by have := fr7 i hi; omega
    have D7 := hide D7
    have B57 := hide (btr b6 b7)
    have HCO := hide (conf_ok c p q pc qc w7 ((unhide HA).b G7) hnw hpc)
    obtain ⟨z0, z1, z2, z3, z4, _⟩ := unhide BX7
    unfold cfV ptr at *
    clear HN BX6 fr7 b6 b7 hs6
    go_wp2_with fail
    refine (unhide HCO).mono ?_
    rintro ev w8 ⟨p3, q3, pc3, qc3, rfl, A8, b8⟩
    have G8 := btr G7 b8
    have HK := hide ((check_ok c p3 q3 pc3 qc3 w8 e ((unhide HE).below G8).three A8 hnw).mono (fun ev w' hh => show ev = Ending.returned .nilIface ∧ Below w8.heap.size w8 w' from by obtain ⟨j, h1, h2, h3⟩ := hh; exact ⟨by rw [h2, Cf.is_one h1 (unhide HIS)]; rfl, h3⟩))
    unfold cfV at *
    clear HCO z0 z1 z2 z3 z4 A8
    go_wp2_with fail
    refine (unhide HK).mono ?_
    rintro ev w9 ⟨rfl, b9⟩
    have G9 := btr G8 b9
    have B59 := hide (btr (btr (unhide B57) b8) b9)
    have B79 := btr b8 b9
    have BX9 := hide ((unhide BX7).b B79)
    have D9 := hide ((unhide D7).b B79)
    clear HK BX7 D7 B57 b8 b9 B79
    go_wp2_with fail
    refine (coded_nil w9).mono ?_
    rintro ev w10 ⟨rfl, b10⟩
    have G10 := btr G9 b10
    have BX10 := hide ((unhide BX9).b b10)
    have D10 := hide ((unhide D9).b b10)
    have B10 := hide (btr (unhide B59) b10)
    clear BX9 D9 B59 b10
    go_upto_region 11 with (fail)
  focus
    obtain ⟨z0, z1, z2, z3, z4, _⟩ := unhide BX10
    have hx2 : x < 0 ∨ (0 ≤ x ∧ (c.n : Int) ≤ x) := by have := unhide HXO; omega
    rcases hx2 with hx2 | ⟨hx0, hx2⟩
    focus
      have d1 : decide (x < 0) = true := by simpa using hx2
    rotate_left
    focus
      have d1 : decide (x < 0) = false := decide_eq_false (by omega)
      have d2 : decide ((c.n : Int) ≤ x) = true := by simpa using hx2
    all_goals
      go_wp2_with fail
      refine (coded_sent 1 (by omega) 2 (by omega) w10 e ((unhide HE).below G10)).mono ?_
      rintro ev w11 ⟨rfl, b11⟩
      have G11 := btr G10 b11
      have D11 := hide ((unhide D10).b b11)
      have BX11 := hide ((unhide BX10).b b11)
      clear z0 z1 z2 z3 z4 D10 BX10 B10 b11
      go_upto_region 16 with (fail)
  rotate_left 2
  focus
    obtain ⟨z0, z1, z2, z3, z4, _⟩ := unhide BX10
    have hx0 : (0 : Int) ≤ (x' : Int) := by omega
    have d1 : decide ((x' : Int) < 0) = false := decide_eq_false (by omega)
    have d2 : decide ((c.n : Int) ≤ (x' : Int)) = false := decide_eq_false (by omega)
    have d3 : decide (c.n ≤ x') = false := decide_eq_false (by omega)
    have HCC := unhide HC0
    have hgd := nfr_good (HCC.2.2 x' hx')
    have HF := hide ((from_ok c p q pc qc x' w10 ((unhide HA).b G10) (by have := unhide HM; omega) (by omega) (by rw [HCC.2.1 x' (by have := unhide HM; omega)]; exact Nat.le_refl _)).mono (fun ev w' hh => show ∃ g2 c2, ev = Ending.returned (.slice (some ⟨g2, 0, none⟩) c.n c2) ∧ Nums w' (some ⟨g2, 0, none⟩) c.n (fun i => (((nfr (c.D x') c.n 1001).getD i 0 : Nat) : Int)) ∧ Below w10.heap.size w10 w' from by
      obtain ⟨v, h1, h2, _, h3⟩ := hh
      obtain ⟨g2, c2, hv⟩ := own_some h2 (by omega)
      rw [hgd.1] at hv h2
      subst hv
      exact ⟨g2, c2, h1, nums_of h2 hgd.1, h3⟩))
    have NX := hide (nums_of (own_b (unhide HOWN) (unhide B10)) hgd.1)
    unfold cfV at *
    clear HCC hgd HOWN B10
    go_wp2_with fail
    refine (unhide HF).mono ?_
    rintro ev wa ⟨g2, c2, rfl, n2, ba⟩
    have HSI := hide (same_ints (some ⟨g, 0, none⟩) (some ⟨g2, 0, none⟩) c.n cap c2 _ wa (by omega) ((unhide NX).b ba) n2)
    clear HF n2 NX
    go_wp2_with fail
    refine (unhide HSI).mono ?_
    rintro ev w11 ⟨rfl, bb⟩
    have b11 := btr ba bb
    have G11 := btr G10 b11
    have D11 := hide ((unhide D10).b b11)
    have BX11 := hide ((unhide BX10).b b11)
    clear z0 z1 z2 z3 z4 D10 BX10 b11 ba bb HSI
    go_upto_region 16 with (fail)
  all_goals
    obtain ⟨z0, z1, z2, z3, z4, _⟩ := unhide BX11
    have HCC := unhide HC0
    have HMM := unhide HM
    have HNZ := hide (rznew_at c p q pc qc w11 ((unhide HA).b G11) hn1 hn4 HMM HCC.2.1 HCC.1 (fun i hi => List.length_pos_iff.1 (by have := (nfr_good (HCC.2.2 i hi)).1; omega)))
    have HG0 := hide (fun i (hi : i < c.n) => nfr_good (HCC.2.2 i hi))
    unfold cfV at *
    clear HCC HMM
    go_wp2_with fail
    refine (unhide HNZ).mono ?_
    rintro ev w12 ⟨m, nb2, rfl, R12, b12, ⟨gN, cN, e5, hgN⟩, hm2, hnb2⟩
    have G12 := btr G11 b12
    have hs11 := G11.size
    have Z12 := hide (show ZZ w w12 z m c.mn c.lw c.hi c.n nb fm tm (nd0 c.P) (nd0 c.P) (fun i => nfr (c.D i) c.n 1001) from ⟨(unhide D11).b b12, ⟨nb2, R12, fun i hi => Nat.le_trans hs11 (hnb2 i hi)⟩, fun g' cp' hc' => by
      rw [e5] at hc'
      simp only [Option.some.injEq, Value.slice.injEq, Addr.mk.injEq] at hc'
      obtain ⟨⟨rfl, _⟩, _⟩ := hc'
      omega, unhide HFR, G12⟩)
    have HX3 := hide (show c.n ≤ 20 ∧ 0 ≤ c.hi from ⟨by omega, by omega⟩)
    unfold ptr at *
    clear HNZ z0 z1 z2 z3 z4 D11 BX11 R12 b12 e5 hgN hm2 hnb2 hs11 G12 HIS HA hpc hn1 hn4 hmn hml hlh hnw
    go_wp2_with fail
    go_loopw [14] (fun a wr => ∃ (j : Nat) (nd : Nat → Nd), a = .int .i64 j ∧ j ≤ ln ∧ Hid (ZZ w wr z m c.mn c.lw c.hi c.n nb fm tm nd nd (fun i => nfr (c.D i) c.n 1001))) (fun a _ => ln - (RowKit.intOf a).toNat)
    case atStart => exact ⟨0, _, rfl, Nat.zero_le _, Z12⟩
    case round =>
      clear Z12
      obtain ⟨j, nd, rfl, hj, hZ⟩ := hrel
      have hge : (0 : Int) ≤ j := by omega
      by_cases hjl : j < ln
      · have hlt : (j : Int) < ln := by omega
        have hwfj := (unhide HWF) j hjl
        obtain ⟨blk, off, rfl, hbl, c0, c1, c2, c3, c4, c5, c6⟩ := (unhide HAC) j hjl
        generalize A j = a at *
        obtain ⟨s, x1, o, u, px, pa, po⟩ := a
        simp only at c0 c1 c2 c3 c4 c5 c6 hwfj
        have hB := (unhide hZ).b
        have k0 := (hB.cell (p := ⟨blk, _, none⟩) hbl).trans c0
        have k1 := (hB.cell (p := ⟨blk, _, none⟩) hbl).trans c1
        have k2 := (hB.cell (p := ⟨blk, _, none⟩) hbl).trans c2
        have k3 := (hB.cell (p := ⟨blk, _, none⟩) hbl).trans c3
        have k4 := (hB.cell (p := ⟨blk, _, none⟩) hbl).trans c4
        have k5 := (hB.cell (p := ⟨blk, _, none⟩) hbl).trans c5
        have k6 := (hB.cell (p := ⟨blk, _, none⟩) hbl).trans c6
        clear c0 c1 c2 c3 c4 c5 c6
        have f5 := ballo (Below.refl wr.heap.size wr) (.cells #[.string s, .int .i64 x1, .int .i64 o, .bool u, .int .i64 px, .int .i64 pa, .int .i64 po] 62)
        have m5 := World.cell?_alloc_new wr #[.string s, .int .i64 x1, .int .i64 o, .bool u, .int .i64 px, .int .i64 pa, .int .i64 po] 62
        have T5 := tag_new wr #[.string s, .int .i64 x1, .int .i64 o, .bool u, .int .i64 px, .int .i64 pa, .int .i64 po] 62
        have Z5 := hide ((unhide hZ).bl f5)
        have a0 := m5 0
        have a1 := m5 1
        have a2 := m5 2
        have a3 := m5 3
        have a4 := m5 4
        have a5 := m5 5
        have a6 := m5 6
        simp only [List.getElem?_toArray, List.getElem?_cons_zero, List.getElem?_cons_succ] at a0 a1 a2 a3 a4 a5 a6
        clear hZ hB f5 m5
        go_upto_region 23 with (fail)
        generalize wr.alloc (.cells #[.string s, .int .i64 x1, .int .i64 o, .bool u, .int .i64 px, .int .i64 pa, .int .i64 po] 62) = W5 at *
        generalize wr.heap.size = bb at *
        clear k0 k1 k2 k3 k4 k5 k6
        cases hG : (s.toList == [103, 105, 118, 101])
        · obtain ⟨vx, va, vo, d, r, nd', ht1, ht2, ht3⟩ := take_pair w e (unhide HE) z m c.mn c.lw c.hi c.n nb fm tm nd _ (unhide HX3).1 (unhide HG0) x1 o u
          have HT1 := hide (ht1 _ (unhide Z5))
          have HT2 := hide ht2
          have HT3 := hide ht3
          have HT5 := hide T5
          clear ht1 ht2 ht3 Z5 T5 hwfj
          go_wp2_with fail
          refine (unhide HT1).mono ?_
          rintro ev w6 ⟨rfl, hz6, ck6⟩
          obtain ⟨T6, q6⟩ := ck6 bb (unhide HT5)
          have fA := ballo (Below.refl w6.heap.size w6) (.cells #[.int .i64 vx, .int .i64 va, .int .i64 vo] 60)
          have mA := World.cell?_alloc_new w6 #[.int .i64 vx, .int .i64 va, .int .i64 vo] 60
          have TP := hide (tag_new w6 #[.int .i64 vx, .int .i64 va, .int .i64 vo] 60)
          have Z6 := hide (hz6.bl fA)
          have e1 := (fA.cell (p := ⟨bb, 1, none⟩) T6.lt).trans (q6 1 _ a1)
          have e2 := (fA.cell (p := ⟨bb, 2, none⟩) T6.lt).trans (q6 2 _ a2)
          have e3 := (fA.cell (p := ⟨bb, 3, none⟩) T6.lt).trans (q6 3 _ a3)
          have p0 := mA 0
          have p1 := mA 1
          have p2 := mA 2
          simp only [List.getElem?_toArray, List.getElem?_cons_zero, List.getElem?_cons_succ] at p0 p1 p2
          clear HT1 HT5 ck6 q6 T6 fA mA hz6 a0 a1 a2 a3 a4 a5 a6
          go_upto_region 27 with (fail)
          generalize w6.alloc (.cells #[.int .i64 vx, .int .i64 va, .int .i64 vo] 60) = W6 at *
          generalize w6.heap.size = pb at *
          have HT2' := hide ((unhide HT2) W6 (unhide Z6))
          clear HT2 Z6
          go_wp2_with fail
          refine (unhide HT2').mono ?_
          rintro ev w7 ⟨rfl, hz7, ck7⟩
          obtain ⟨T7, q7⟩ := ck7 pb (unhide TP)
          have fB := ballo (Below.refl w7.heap.size w7) (.cells #[.int .i64 vx, .int .i64 va, .int .i64 vo] 60)
          have mB := World.cell?_alloc_new w7 #[.int .i64 vx, .int .i64 va, .int .i64 vo] 60
          have TQ := hide (tag_new w7 #[.int .i64 vx, .int .i64 va, .int .i64 vo] 60)
          have TP7 := hide (T7.b fB)
          have Z7 := hide (hz7.bl fB)
          have r0 := (fB.cell (p := ⟨pb, 0, none⟩) T7.lt).trans (q7 0 _ p0)
          have r1 := (fB.cell (p := ⟨pb, 1, none⟩) T7.lt).trans (q7 1 _ p1)
          have r2 := (fB.cell (p := ⟨pb, 2, none⟩) T7.lt).trans (q7 2 _ p2)
          have s0 := mB 0
          have s1 := mB 1
          have s2 := mB 2
          simp only [List.getElem?_toArray, List.getElem?_cons_zero, List.getElem?_cons_succ] at s0 s1 s2
          clear HT2' TP ck7 q7 T7 fB mB hz7 p0 p1 p2 e1 e2 e3
          go_upto_region 28 with (fail)
          generalize w7.alloc (.cells #[.int .i64 vx, .int .i64 va, .int .i64 vo] 60) = W7 at *
          generalize w7.heap.size = qb at *
          have HC9 := hide ((unhide HT3) W7 ((unhide HE).below (unhide Z7).b))
          go_wp2_with fail
          refine (unhide HC9).mono ?_
          rintro ev w8 ⟨rfl, b8⟩
          have t0 := (b8.cell (p := ⟨pb, 0, none⟩) (unhide TP7).lt).trans r0
          have t1 := (b8.cell (p := ⟨pb, 1, none⟩) (unhide TP7).lt).trans r1
          have t2 := (b8.cell (p := ⟨pb, 2, none⟩) (unhide TP7).lt).trans r2
          have u0 := (b8.cell (p := ⟨qb, 0, none⟩) (unhide TQ).lt).trans s0
          have u1 := (b8.cell (p := ⟨qb, 1, none⟩) (unhide TQ).lt).trans s1
          have u2 := (b8.cell (p := ⟨qb, 2, none⟩) (unhide TQ).lt).trans s2
          have Z8 := hide ((unhide Z7).bl b8)
          clear HC9 HT3 TP7 TQ Z7 b8 r0 r1 r2 s0 s1 s2
          go_wp2_with fail
          go_roundw
          case rel => exact ⟨j + 1, nd', by go_num, by omega, Z8⟩
          case measure => simp [RowKit.intOf]; omega
        · obtain ⟨d, r, nd', hg1, hg2, hg3⟩ := give_pair w e (unhide HE) z m c.mn c.lw c.hi c.n nb fm tm nd _ px pa po hwfj
          have HG1 := hide (hg1 _ ((unhide Z5).bl (drw W5)))
          have HG2 := hide hg2
          have HG3 := hide hg3
          have HTD := hide (T5.b (drw W5))
          have HY := hide (show W5.drew.cell? ⟨bb, 4, none⟩ = some (.int .i64 px) ∧ W5.drew.cell? ⟨bb, 5, none⟩ = some (.int .i64 pa) ∧ W5.drew.cell? ⟨bb, 6, none⟩ = some (.int .i64 po) from ⟨((drw W5).cell (p := ⟨bb, 4, none⟩) T5.lt).trans a4, ((drw W5).cell (p := ⟨bb, 5, none⟩) T5.lt).trans a5, ((drw W5).cell (p := ⟨bb, 6, none⟩) T5.lt).trans a6⟩)
          clear hg1 hg2 hg3 Z5 T5 hwfj
          unfold plV ptr at *
          go_wp2_with fail
          go_region_held3 (fun w' => w'.cell? ⟨bb, 4, none⟩ = some (.int .i64 px) ∧ w'.cell? ⟨bb, 5, none⟩ = some (.int .i64 pa) ∧ w'.cell? ⟨bb, 6, none⟩ = some (.int .i64 po)) ((first | (go_keep; done) | assumption)) ((first
            | (go_at_call 32; refine (unhide HG1).mono ?_; rintro ev w6 ⟨rfl, hz6, ck6⟩; have Z6 := hide hz6; have q6 := ck6 bb (unhide HTD); have T6 := hide q6.1; have s6 : w6.cell? ⟨bb, 4, none⟩ = some (.int .i64 px) ∧ w6.cell? ⟨bb, 5, none⟩ = some (.int .i64 pa) ∧ w6.cell? ⟨bb, 6, none⟩ = some (.int .i64 po) := ⟨q6.2 4 _ (unhide HY).1, q6.2 5 _ (unhide HY).2.1, q6.2 6 _ (unhide HY).2.2⟩; clear hz6 ck6 q6)
            | (go_at_call 33; refine ((unhide HG2) w6 (unhide Z6)).mono ?_; rintro ev w7 ⟨rfl, hz7, ck7⟩; have Z7 := hide hz7; have q7 := ck7 bb (unhide T6); have T7 := hide q7.1; have s7 : w7.cell? ⟨bb, 4, none⟩ = some (.int .i64 px) ∧ w7.cell? ⟨bb, 5, none⟩ = some (.int .i64 pa) ∧ w7.cell? ⟨bb, 6, none⟩ = some (.int .i64 po) := ⟨q7.2 4 _ s6.1, q7.2 5 _ s6.2.1, q7.2 6 _ s6.2.2⟩; clear hz7 ck7 q7)
            | (go_at_call 9; refine ((unhide HG3) w7 ((unhide HE).below (unhide Z7).b)).mono ?_; rintro ev w8 ⟨rfl, b8⟩; have s8 : w8.cell? ⟨bb, 4, none⟩ = some (.int .i64 px) ∧ w8.cell? ⟨bb, 5, none⟩ = some (.int .i64 pa) ∧ w8.cell? ⟨bb, 6, none⟩ = some (.int .i64 po) := ⟨(b8.cell (p := ⟨bb, 4, none⟩) (unhide T7).lt).trans s7.1, (b8.cell (p := ⟨bb, 5, none⟩) (unhide T7).lt).trans s7.2.1, (b8.cell (p := ⟨bb, 6, none⟩) (unhide T7).lt).trans s7.2.2⟩)))
          have Z8 := hide ((unhide Z7).bl b8)
          clear Z6 T6 s6 Z7 T7 s7 b8 s8 HG1 HG2 HG3 HTD HY
          go_wp2_with fail
          go_roundw
          case rel => exact ⟨j + 1, nd', by go_num, by omega, Z8⟩
          case measure => simp [RowKit.intOf]; omega
      · have hjn : j = ln := by omega
        subst hjn
        have hnl : ¬ (j : Int) < j := by omega
        obtain ⟨nbr, hr, _⟩ := (unhide hZ).r
        have HAZ := hide (as_zone z m c.mn c.lw c.hi c.n nb fm tm nbr nd _ wr e ((unhide HE).below (unhide hZ).b) (unhide hZ).d hr (unhide HX3).2 hhi (unhide HX3).1)
        unfold ptr at *
        go_wp2_with fail
        refine (unhide HAZ).mono ?_
        rintro ev w8 ⟨rfl, b8⟩
        go_wp2_with fail
        go_ret
        exact ⟨rfl, btr (unhide hZ).b b8⟩
end Dz
end Go.Proofs.YtealnnppoffmnaaGreatDoor
