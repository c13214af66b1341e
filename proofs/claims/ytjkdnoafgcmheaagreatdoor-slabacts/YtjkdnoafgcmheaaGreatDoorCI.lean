/- SlabActs: its walk, the beginning. -/
import Derived.Test.YtjkdnoafgcmheaaGreatDoorCH
import Derived.Test.YtjkdnoafgcmheaaGreatDoorCC
import Derived.Test.YtjkdnoafgcmheaaGreatDoorKO
import Derived.Test.YtjkdnoafgcmheaaGreatDoorCG
namespace Go.Proofs.YtjkdnoafgcmheaaGreatDoor
open Go.RowKit Go.Maps
namespace Sb
open Fr Bd Zn Dz
theorem SQ.set {w0 : World} {N0 c z rc rz : Nat} {ly : Ly} {sz : Int} {m : Nat} {mn lw hi : Int} {k : Nat} {nb fm tm : Nat → Nat} {fr : Nat → List Nat} {s1 s2 : List Sl} {n1 n2 : Nat → Nd} {w : World} (h : SQ w0 N0 c z rc rz ly sz m mn lw hi k nb fm tm fr s1 n1 s2 n2 w) (hN : w0.heap.size ≤ N0) {b : Nat} (ht : Tag w b 73) (hb : N0 ≤ b) (o : Nat) (v : Value) : SQ w0 N0 c z rc rz ly sz m mn lw hi k nb fm tm fr s1 n1 s2 n2 (w.setCell ⟨b, o, none⟩ v) := by
  have hc := Chg.set ht hb o v
  obtain ⟨h0, ⟨bs, h1⟩, rb, rt, nb2, h2⟩ := h
  exact ⟨h0.trans ((hc.mono (fun _ h => h) hN).toBelow h0.size), ⟨bs, h1.chg hc (by decide) (by decide) (by decide)⟩, rb, rt, nb2, h2.chg hc (by decide)⟩
theorem keep3 {w : World} {b r0 b1 : Nat} {u v : Value} (h : w.cell? ⟨r0, 0, none⟩ = some u ∧ w.cell? ⟨b1, 1, none⟩ = some v) (n1 : r0 ≠ b) (n2 : b1 ≠ b) (x y z : Value) : (((w.setCell ⟨b, 0, none⟩ x).setCell ⟨b, 1, none⟩ y).setCell ⟨b, 2, none⟩ z).cell? ⟨r0, 0, none⟩ = some u ∧ (((w.setCell ⟨b, 0, none⟩ x).setCell ⟨b, 1, none⟩ y).setCell ⟨b, 2, none⟩ z).cell? ⟨b1, 1, none⟩ = some v := by
  refine ⟨?_, ?_⟩
  · rw [cso (fun e => n1 (Addr.mk.inj e).1.symm), cso (fun e => n1 (Addr.mk.inj e).1.symm), cso (fun e => n1 (Addr.mk.inj e).1.symm)]; exact h.1
  · rw [cso (fun e => n2 (Addr.mk.inj e).1.symm), cso (fun e => n2 (Addr.mk.inj e).1.symm), cso (fun e => n2 (Addr.mk.inj e).1.symm)]; exact h.2
/-- A shrink that is refused. -/
theorem cshrink_bad (w0 : World) (e : Nat → Addr) (he : Errs w0 e) (N0 c z rc rz : Nat) (ly : Ly) (sz : Int) (m : Nat) (mn lw hi : Int) (k : Nat) (nb fm tm : Nat → Nat) (fr : Nat → List Nat) (ss : List Sl) (nd : Nat → Nd) (hN : w0.heap.size ≤ N0) (x q : Int) (hx : ¬ ((0 ≤ x ∧ x < k) ∧ 0 ≤ q)) (w1 : World) (h : SQ w0 N0 c z rc rz ly sz m mn lw hi k nb fm tm fr ss nd ss nd w1) :
    Calls Tryz.prog 17 #[ptr c, .int .i64 x, .int .i64 q] w1 fun ev w' => ev = .returned (.tuple #[.int .i64 0, errV (e 1)]) ∧ SQ w0 N0 c z rc rz ly sz m mn lw hi k nb fm tm fr ss nd ss nd w' ∧ Chg K4 N0 w1 w' := by
  obtain ⟨h1, ⟨bs, hp⟩, _⟩ := id h
  refine (shrink_ok N0 c z ly sz m bs ss mn lw hi k nb fm tm nd fr x q e w0 w1 he h1 hN hp).mono ?_
  rintro ev w' hT
  cases hT with
  | no _ hp hc hr => exact ⟨rfl, h.pk hN hc hp, hc⟩
  | yes x2 g2 bs2 ss2 nd2 _ hx2 hxk hq hsh hp hc => exact absurd ⟨by omega, hq⟩ hx
set_option maxRecDepth 100000 in
set_option maxHeartbeats 16000000 in
theorem sacts_ok (c : Cf) (p q : Option Addr) (pc qc : Nat) (sz : Int) (lp : Option Addr) (ln lc : Nat) (A : Nat → SA) (w : World) (e : Nat → Addr) (he : Errs w e) (h : At w c p q) (hpc : p = none → pc = 0) (hz : SActs w lp ln A) (hwf : ∀ i, i < ln → (Lit.int .i64 (A i).x).wf = true ∧ (Lit.int .i64 (A i).n).wf = true) (hhi : c.hi ≤ 9223372036854775807) :
    Calls Tryz.prog 5 #[cfV c p pc q qc, .int .i64 sz, .slice lp ln lc] w fun ev w' => ev = .returned (.bool true) ∧ Below w.heap.size w w' := by
  have F1 := ballo (Below.refl w.heap.size w) (.cells #[.slice p c.n pc, .slice q c.m qc, .int .i64 c.mn, .int .i64 c.lw, .int .i64 c.hi] 27)
  have BX := box_new w c p q pc qc 27
  have HC0 := hide (cached_ok _ e (he.below F1))
  have HWD := hide (fun w1 (hb : Below w.heap.size w w1) => wide_ok c p q pc qc w1 (h.b hb))
  have HE := hide he
  have HA := hide h
  have HAC := hide hz
  have HWF := hide hwf
  clear he h hz hwf
  unfold cfV
  go_enter Tryz.func5, Tryz.ntmps5
  go_upto_region 1 with (fail)
  generalize w.alloc (.cells #[.slice p c.n pc, .slice q c.m qc, .int .i64 c.mn, .int .i64 c.lw, .int .i64 c.hi] 27) = W at *
  have hbx := BX.lt
  go_wp2_with fail
  refine (unhide HC0).mono ?_
  rintro ev w1 ⟨rfl, b1⟩
  have G1 := btr F1 b1
  obtain ⟨x0, x1, x2, x3, x4, _⟩ := BX.b b1
  have HW := hide ((unhide HWD) w1 G1)
  unfold cfV at *
  clear HC0 HWD
  go_wp2_with fail
  refine (unhide HW).mono ?_
  rintro ev w2 ⟨d, rfl, hd, b2⟩
  have G2 := btr G1 b2
  rcases hd with ⟨rfl, _⟩ | ⟨rfl, hnw⟩
  · go_wp2
    go_ret
    exact ⟨rfl, G2⟩
  by_cases hl : 80 < ln
  · have d1 : decide ((80 : Int) < ln) = true := by simp; omega
    go_wp2
    go_ret
    exact ⟨rfl, G2⟩
  have d1 : decide ((80 : Int) < ln) = false := by simp; omega
  have BX2 := hide ((BX.b b1).b b2)
  obtain ⟨y0, y1, y2, y3, y4, _⟩ := unhide BX2
  obtain ⟨i, hi⟩ := Cf.is_ex c
  have HIS := hide hi
  have HCE := hide ((cerr_ok c p q pc qc w2 ((unhide HA).b G2) hnw).mono (fun ev w' hh => show ev = Ending.returned (.int .i64 i) ∧ Below w2.heap.size w2 w' from by obtain ⟨j, h1, h2, h3⟩ := hh; exact ⟨by rw [h1, Cf.is_one h2 (unhide HIS)], h3⟩))
  unfold cfV at *
  clear HW x0 x1 x2 x3 x4
  by_cases hi0 : i = 0
  · subst hi0
    go_wp2_with fail
    refine (unhide HCE).mono ?_
    rintro ev w3 ⟨rfl, b3⟩
    have G3 := btr G2 b3
    have BX3 := hide ((unhide BX2).b b3)
    have HCO := hide (conf_ok c p q pc qc w3 ((unhide HA).b G3) hnw hpc)
    obtain ⟨z0, z1, z2, z3, z4, _⟩ := unhide BX3
    obtain ⟨hn1, hn4, hP, hm, hM, hD, hmn, hml, hlh⟩ := Cf.zero hi
    have HC0 := hide (show (∀ i, i < c.n → 1 ≤ c.P i ∧ c.P i ≤ 256) ∧ (∀ i, i < c.m → c.M i = c.n) ∧ (∀ i, i < c.n → ∀ k, k < c.n → 0 ≤ c.D i k ∧ c.D i k ≤ 1000) from ⟨hP, hM, hD⟩)
    have HM := hide hm
    unfold cfV at *
    clear HCE y0 y1 y2 y3 y4 BX BX2 b1 b2 b3 hP hM hD hm hi
    go_wp2_with fail
    refine (unhide HCO).mono ?_
    rintro ev w4 ⟨p', q', pc', qc', rfl, A4, b4⟩
    have G4 := btr G3 b4
    have BX4 := hide ((unhide BX3).b b4)
    have HN := hide (znew_ok c p' q' pc' qc' w4 e ((unhide HE).below G4).three A4 hnw (unhide HIS))
    unfold cfV at *
    clear HCO z0 z1 z2 z3 z4 BX3 A4
    go_wp2_with fail
    refine (unhide HN).mono ?_
    rintro ev w5 ⟨z, nb, fm, tm, rfl, D5, fr5, b5⟩
    have G5 := hide (btr G4 b5)
    have BX5 := hide ((unhide BX4).b b5)
    have HFR : Hid (∀ i, i < c.n → w.heap.size + 1 ≤ fm i ∧ w.heap.size + 1 ≤ tm i) := fun i hi => by have := fr5 i hi; have := (unhide BX4).lt; omega
    have HWB : w.heap.size < w5.heap.size := (unhide BX5).lt
    have HD5 := hide D5
    clear HN BX4 fr5 b4 D5 b5 G1 G2 G3 G4 F1
    by_cases hsz : 1 ≤ sz ∧ sz ≤ 64
    · have HNW := hide (snew_ok (w.heap.size + 1) z sz w5 hsz.1 hsz.2 HWB)
      unfold ptr at *
      go_wp2_with fail
      refine (unhide HNW).mono ?_
      rintro ev w6 ⟨x, m, ly, rfl, hC, hl6, hly, b6⟩
      have P6 := hide (ps_new (nb := nb) (fm := fm) (tm := tm) (unhide HD5) b6 hl6 hC (unhide HFR) (by omega))
      have G6 := hide (btr (unhide G5) b6)
      have BX6 := hide ((unhide BX5).b b6)
      have HLY := hide hly
      have HSN := hide (snew_nil sz w6 e ((unhide HE).below (unhide G6)))
      clear HNW hC hl6 hly b6 HD5 G5 BX5
      unfold errV at *
      go_wp2_with fail
      refine (unhide HSN).mono ?_
      rintro ev w7 ⟨rfl, b7⟩
      have G7 := hide (btr (unhide G6) b7)
      have BX7 := hide ((unhide BX6).b b7)
      have P7 := hide ((unhide P6).b b7)
      clear HSN G6 BX6 P6 b7
      go_wp2_with fail
      refine (coded_sent 2 (by omega) 3 rfl w7 e ((unhide HE).below (unhide G7))).mono ?_
      rintro ev w8 ⟨rfl, b8⟩
      have G8 := hide (btr (unhide G7) b8)
      have BX8 := hide ((unhide BX7).b b8)
      have P8 := hide ((unhide P7).b b8)
      have ds1 : decide (sz < 1) = false := by simp; omega
      have ds2 : decide (sz > 64) = false := by simp; omega
      clear G7 BX7 P7 b8
      obtain ⟨z0, z1, z2, z3, z4, _⟩ := unhide BX8
      have HCC := unhide HC0
      have HMM := unhide HM
      have HNZ := hide (rznew_at c p q pc qc w8 ((unhide HA).b (unhide G8)) hn1 hn4 HMM HCC.2.1 HCC.1 (fun i hi => List.length_pos_iff.1 (by have := (nfr_good (HCC.2.2 i hi)).1; omega)))
      have HG0 := hide (fun i (hi : i < c.n) => nfr_good (HCC.2.2 i hi))
      unfold cfV at *
      clear HCC HMM
      go_wp2_with fail
      refine (unhide HNZ).mono ?_
      rintro ev w9 ⟨rz, nb2, rfl, R9, b9, ⟨gN, cN, e5, hgN⟩, hrz, hnb2⟩
      have hw8 := (unhide BX8).lt
      have F10 := ballo (Below.refl w9.heap.size w9) (.cells #[.pointer (some ⟨rz, 0, none⟩), .int .i64 sz, .slice none 0 0] 66)
      have n10 := World.cell?_alloc_new w9 #[.pointer (some ⟨rz, 0, none⟩), .int .i64 sz, .slice none 0 0] 66
      have hs9 : w8.heap.size ≤ w9.heap.size := b9.size
      have RC10 : RC (w.heap.size + 1) (w9.alloc (.cells #[.pointer (some ⟨rz, 0, none⟩), .int .i64 sz, .slice none 0 0] 66)) w9.heap.size rz sz m [] [] [] := ⟨n10 0, n10 1, ⟨none, 0, n10 2, World.ownsRow_nil _ _ _ _⟩, tag_new _ _ _, by omega, rfl, rfl, List.nodup_nil, (fun t ht => by cases ht), (fun i b t s h => by simp at h), fun o => World.frozen?_alloc_at _ _ w9.heap.size o rfl⟩
      have S10 : Hid (SQ w (w.heap.size + 1) x z w9.heap.size rz ly sz m c.mn c.lw c.hi c.n nb fm tm (fun i => nfr (c.D i) c.n 1001) [] (nd0 c.P) [] (nd0 c.P) (w9.alloc (.cells #[.pointer (some ⟨rz, 0, none⟩), .int .i64 sz, .slice none 0 0] 66))) := by
        refine ⟨btr (btr (unhide G8) b9) F10, ⟨[], ((unhide P8).b b9).b F10⟩, [], [], nb2, R9.b F10, RC10, fun i hi => by have := hnb2 i hi; omega, fun g cp hc => ?_⟩
        have h1 : (w9.alloc (.cells #[.pointer (some ⟨rz, 0, none⟩), .int .i64 sz, .slice none 0 0] 66)).cell? ⟨rz, 5, none⟩ = w9.cell? ⟨rz, 5, none⟩ := F10.cell (p := ⟨rz, 5, none⟩) R9.tg.lt
        rw [h1, e5] at hc
        simp only [Option.some.injEq, Value.slice.injEq, Addr.mk.injEq] at hc
        obtain ⟨⟨rfl, _⟩, _⟩ := hc
        omega
      have HRC0 : (w9.alloc (.cells #[.pointer (some ⟨rz, 0, none⟩), .int .i64 sz, .slice none 0 0] 66)).heap.size = w9.heap.size + 1 := by simp
      have HN0 : Hid (w.heap.size + 1 ≤ w9.heap.size) := by show _ ≤ _; omega
      clear HNZ z0 z1 z2 z3 z4 G8 BX8 P8 R9 b9 e5 hgN hrz hnb2 F10 n10 RC10 HRC0 hs9 hw8 ds1 ds2
      unfold ptr at *
      go_upto_region 16 with (fail)
      generalize hrcb : w9.heap.size = rc at *
      generalize w9.alloc (.cells #[.pointer (some ⟨rz, 0, none⟩), .int .i64 sz, .slice none 0 0] 66) = W10 at *
      clear hrcb
      go_wp2_with fail
      go_loopw [14] (fun s wr => ∃ (j : Nat) (ss : List Sl) (nd : Nat → Nd), s = .int .i64 j ∧ j ≤ ln ∧ Hid (SQ w (w.heap.size + 1) x z rc rz ly sz m c.mn c.lw c.hi c.n nb fm tm (fun i => nfr (c.D i) c.n 1001) ss nd ss nd wr)) (fun s _ => ln - (RowKit.intOf s).toNat)
      case atStart => exact ⟨0, _, _, rfl, Nat.zero_le _, S10⟩
      case round =>
        clear S10
        obtain ⟨j, ss, nd, rfl, hj, hS⟩ := hrel
        have hge : (0 : Int) ≤ j := by omega
        by_cases hjl : j < ln
        · have hlt : (j : Int) < ln := by omega
          have hwfj := (unhide HWF) j hjl
          obtain ⟨blk, off, rfl, hbl, c0, c1, c2, c3, c4, c5⟩ := (unhide HAC) j hjl
          generalize A j = a at *
          obtain ⟨s, ax, an, u, ox, oa⟩ := a
          simp only at c0 c1 c2 c3 c4 c5 hwfj
          have hB := (unhide hS).1
          have k0 := (hB.cell (p := ⟨blk, _, none⟩) hbl).trans c0
          have k1 := (hB.cell (p := ⟨blk, _, none⟩) hbl).trans c1
          have k2 := (hB.cell (p := ⟨blk, _, none⟩) hbl).trans c2
          have k3 := (hB.cell (p := ⟨blk, _, none⟩) hbl).trans c3
          have k4 := (hB.cell (p := ⟨blk, _, none⟩) hbl).trans c4
          have k5 := (hB.cell (p := ⟨blk, _, none⟩) hbl).trans c5
          clear c0 c1 c2 c3 c4 c5 hB
          have f5 := ballo (Below.refl wr.heap.size wr) (.cells #[.string s, .int .i64 ax, .int .i64 an, .bool u, .int .i64 ox, .int .i64 oa] 44)
          have m5 := World.cell?_alloc_new wr #[.string s, .int .i64 ax, .int .i64 an, .bool u, .int .i64 ox, .int .i64 oa] 44
          have T5 := tag_new wr #[.string s, .int .i64 ax, .int .i64 an, .bool u, .int .i64 ox, .int .i64 oa] 44
          have S5 := hide ((unhide hS).b f5)
          have a0 := m5 0
          have a1 := m5 1
          have a2 := m5 2
          have a3 := m5 3
          have a4 := m5 4
          have a5 := m5 5
          simp only [List.getElem?_toArray, List.getElem?_cons_zero, List.getElem?_cons_succ] at a0 a1 a2 a3 a4 a5
          clear hS f5 m5
          go_upto_region 20 with (fail)
          generalize wr.alloc (.cells #[.string s, .int .i64 ax, .int .i64 an, .bool u, .int .i64 ox, .int .i64 oa] 44) = W5 at *
          generalize hbb : wr.heap.size = bb at *
          clear k0 k1 k2 k3 k4 k5 hbb
          have HA5 : Hid (∀ W' : World, W'.heap[bb]? = W5.heap[bb]? → W'.cell? ⟨bb, 1, none⟩ = some (.int .i64 ax) ∧ W'.cell? ⟨bb, 2, none⟩ = some (.int .i64 an) ∧ W'.cell? ⟨bb, 3, none⟩ = some (.bool u) ∧ W'.cell? ⟨bb, 4, none⟩ = some (.int .i64 ox) ∧ W'.cell? ⟨bb, 5, none⟩ = some (.int .i64 oa)) := fun W' hb => ⟨(World.cell?_of_block (w := W5) (a := ⟨bb, 1, none⟩) hb).trans a1, (World.cell?_of_block (w := W5) (a := ⟨bb, 2, none⟩) hb).trans a2, (World.cell?_of_block (w := W5) (a := ⟨bb, 3, none⟩) hb).trans a3, (World.cell?_of_block (w := W5) (a := ⟨bb, 4, none⟩) hb).trans a4, (World.cell?_of_block (w := W5) (a := ⟨bb, 5, none⟩) hb).trans a5⟩
          have HT5 := hide T5
          clear T5
          cases hG1 : (s.toList == [116, 97, 107, 101]) with
          | true =>
            obtain ⟨oN, oA, d, r, ss', nd', h1, h2, h3⟩ := ctake_pair w e (unhide HE) (w.heap.size + 1) x z rc rz ly sz m c.mn c.lw c.hi c.n nb fm tm (fun i => nfr (c.D i) c.n 1001) ss nd (Nat.le_succ _) (unhide HG0) ax u W5 (unhide S5)
            have H1 := hide (h1 W5 (unhide S5))
            have H2 := hide h2
            have H3 := hide h3
            clear h1 h2 h3
            unfold ptr objV at *
            go_wp2_with fail
            refine (unhide H1).mono ?_
            rintro ev w6 ⟨rfl, s6, c6⟩
            obtain ⟨b1, b2, b3, b4, b5⟩ := (unhide HA5) w6 (c6.same (unhide HT5) (by decide))
            have t6 := c6.tag (unhide HT5) (by decide)
            have F7 := ballo (Below.refl w6.heap.size w6) (.cells #[.int .i64 oN, .int .i64 oA] 42)
            have q7 := World.cell?_alloc_new w6 #[.int .i64 oN, .int .i64 oA] 42
            have T7 := tag_new w6 #[.int .i64 oN, .int .i64 oA] 42
            have q70 := q7 0
            have q71 := q7 1
            simp only [List.getElem?_toArray, List.getElem?_cons_zero, List.getElem?_cons_succ] at q70 q71
            have S7 := hide (s6.b F7)
            have hs7 : w.heap.size + 1 ≤ (w6.alloc (.cells #[.int .i64 oN, .int .i64 oA] 42)).heap.size := by have := F7.size; have := s6.1.size; simp; omega
            have H2' := hide ((unhide H2) _ (unhide S7) hs7)
            have d1 := (F7.cell (p := ⟨bb, 1, none⟩) t6.lt).trans b1
            have d3 := (F7.cell (p := ⟨bb, 3, none⟩) t6.lt).trans b3
            clear H1 H2 S5 a0 a1 a2 a3 a4 a5 c6 q7 s6 HA5 HT5 F7 b1 b2 b3 b4 b5 t6
            go_upto_region 30 with (fail)
            generalize w6.alloc (.cells #[.int .i64 oN, .int .i64 oA] 42) = W7 at *
            generalize hb7 : w6.heap.size = b7 at *
            clear hb7
            go_wp2_with fail
            refine (unhide H2').mono ?_
            rintro ev w8 ⟨rfl, s8, c8⟩
            have e7 := c8.same T7 (by decide)
            have r70 := (World.cell?_of_block (a := ⟨b7, 0, none⟩) e7).trans q70
            have r71 := (World.cell?_of_block (a := ⟨b7, 1, none⟩) e7).trans q71
            have l7 : b7 < w8.heap.size := Nat.lt_of_lt_of_le T7.lt c8.size
            have F9 := ballo (Below.refl w8.heap.size w8) (.cells #[.int .i64 oN, .int .i64 oA] 42)
            have q9 := World.cell?_alloc_new w8 #[.int .i64 oN, .int .i64 oA] 42
            have q90 := q9 0
            have q91 := q9 1
            simp only [List.getElem?_toArray, List.getElem?_cons_zero, List.getElem?_cons_succ] at q90 q91
            have S9 := hide (s8.b F9)
            have p70 := (F9.cell (p := ⟨b7, 0, none⟩) l7).trans r70
            have p71 := (F9.cell (p := ⟨b7, 1, none⟩) l7).trans r71
            have hs9 : b7 < (w8.alloc (.cells #[.int .i64 oN, .int .i64 oA] 42)).heap.size ∧ w8.heap.size < (w8.alloc (.cells #[.int .i64 oN, .int .i64 oA] 42)).heap.size := by simp; omega
            clear H2' S7 c8 s8 e7 r70 r71 l7 F9 q9 q70 q71 T7 d1 d3 hs7
            go_upto_region 31 with (fail)
            generalize w8.alloc (.cells #[.int .i64 oN, .int .i64 oA] 42) = W9 at *
            generalize w8.heap.size = b9 at *
            have H3' := hide ((unhide H3) W9 ((unhide HE).below (unhide S9).1))
            clear H3
            go_wp2_with fail
            refine (unhide H3').mono ?_
            rintro ev w10 ⟨rfl, b10⟩
            have S10 := hide ((unhide S9).b b10)
            have u0 := (b10.cell (p := ⟨b7, 0, none⟩) hs9.1).trans p70
            have u1 := (b10.cell (p := ⟨b7, 1, none⟩) hs9.1).trans p71
            have v0 := (b10.cell (p := ⟨b9, 0, none⟩) hs9.2).trans q90
            have v1 := (b10.cell (p := ⟨b9, 1, none⟩) hs9.2).trans q91
            clear H3' S9 b10 p70 p71 q90 q91 hs9
            go_wp2_with fail
            go_roundw
            case rel => exact ⟨j + 1, ss', nd', by go_num, by omega, S10⟩
            case measure => simp [RowKit.intOf]; omega
          | false =>
            cases hG2 : (s.toList == [103, 105, 118, 101]) with
            | true =>
              obtain ⟨d, r, ss', h1, h2, h3⟩ := cgive_pair w e (unhide HE) (w.heap.size + 1) x z rc rz ly (unhide HLY) sz m c.mn c.lw c.hi c.n nb fm tm (fun i => nfr (c.D i) c.n 1001) ss nd (Nat.le_succ _) ox oa W5 (unhide S5)
              have HG1 := hide (h1 W5.drew ((unhide S5).b (drw W5)))
              have HG2 := hide h2
              have HG3 := hide h3
              have HTD := hide ((unhide HT5).b (drw W5))
              have HY := hide (show W5.drew.cell? ⟨bb, 4, none⟩ = some (.int .i64 ox) ∧ W5.drew.cell? ⟨bb, 5, none⟩ = some (.int .i64 oa) from ⟨((drw W5).cell (p := ⟨bb, 4, none⟩) (unhide HT5).lt).trans a4, ((drw W5).cell (p := ⟨bb, 5, none⟩) (unhide HT5).lt).trans a5⟩)
              clear h1 h2 h3 S5 HT5 HA5
              unfold ptr objV at *
              go_wp2_with fail
              go_region_held3 (fun w' => w'.cell? ⟨bb, 4, none⟩ = some (.int .i64 ox) ∧ w'.cell? ⟨bb, 5, none⟩ = some (.int .i64 oa)) ((first | (go_keep; done) | assumption)) ((first
                | (go_at_call 15; refine (unhide HG1).mono ?_; rintro ev w6 ⟨rfl, hz6, ck6⟩; have Z6 := hide hz6; have T6 := hide (ck6.tag (unhide HTD) (by decide)); have e6 := ck6.same (unhide HTD) (by decide); have s6 : w6.cell? ⟨bb, 4, none⟩ = some (.int .i64 ox) ∧ w6.cell? ⟨bb, 5, none⟩ = some (.int .i64 oa) := ⟨(World.cell?_of_block (a := ⟨bb, 4, none⟩) e6).trans (unhide HY).1, (World.cell?_of_block (a := ⟨bb, 5, none⟩) e6).trans (unhide HY).2⟩; clear hz6 ck6 e6)
                | (go_at_call 26; refine ((unhide HG2) w6 (unhide Z6)).mono ?_; rintro ev w7 ⟨rfl, hz7, ck7⟩; have Z7 := hide hz7; have T7 := hide (ck7.tag (unhide T6) (by decide)); have e7 := ck7.same (unhide T6) (by decide); have s7 : w7.cell? ⟨bb, 4, none⟩ = some (.int .i64 ox) ∧ w7.cell? ⟨bb, 5, none⟩ = some (.int .i64 oa) := ⟨(World.cell?_of_block (a := ⟨bb, 4, none⟩) e7).trans s6.1, (World.cell?_of_block (a := ⟨bb, 5, none⟩) e7).trans s6.2⟩; clear hz7 ck7 e7)
                | (go_at_call 22; refine ((unhide HG3) w7 ((unhide HE).below (unhide Z7).1)).mono ?_; rintro ev w8 ⟨rfl, b8⟩; have s8 : w8.cell? ⟨bb, 4, none⟩ = some (.int .i64 ox) ∧ w8.cell? ⟨bb, 5, none⟩ = some (.int .i64 oa) := ⟨(b8.cell (p := ⟨bb, 4, none⟩) (unhide T7).lt).trans s7.1, (b8.cell (p := ⟨bb, 5, none⟩) (unhide T7).lt).trans s7.2⟩)))
              have Z8 := hide ((unhide Z7).b b8)
              clear Z6 T6 s6 Z7 T7 s7 b8 s8 HG1 HG2 HG3 HTD HY
              go_wp2_with fail
              go_roundw
              case rel => exact ⟨j + 1, ss', nd, by go_num, by omega, Z8⟩
              case measure => simp [RowKit.intOf]; omega
            | false =>
              cases hG3 : (s.toList == [112, 97, 103, 101]) with
              | true =>
                obtain ⟨vx, va, vo, d, r, nd', h1, h2, h3⟩ := cpage_pair w e (unhide HE) (w.heap.size + 1) x z rc rz ly sz m c.mn c.lw c.hi c.n nb fm tm (fun i => nfr (c.D i) c.n 1001) ss nd (Nat.le_succ _) (unhide HG0) ax true W5 (unhide S5)
                have H1 := hide (h1 W5 (unhide S5))
                have H2 := hide h2
                have H3 := hide h3
                clear h1 h2 h3
                unfold ptr at *
                go_wp2_with fail
                refine (unhide H1).mono ?_
                rintro ev w6 ⟨rfl, s6, c6⟩
                obtain ⟨b1, b2, b3, b4, b5⟩ := (unhide HA5) w6 (c6.same (unhide HT5) (by decide))
                have t6 := c6.tag (unhide HT5) (by decide)
                have F7 := ballo (Below.refl w6.heap.size w6) (.cells #[.int .i64 vx, .int .i64 va, .int .i64 vo] 73)
                have q7 := World.cell?_alloc_new w6 #[.int .i64 vx, .int .i64 va, .int .i64 vo] 73
                have T7 := tag_new w6 #[.int .i64 vx, .int .i64 va, .int .i64 vo] 73
                have q70 := q7 0
                have q71 := q7 1
                have q72 := q7 2
                simp only [List.getElem?_toArray, List.getElem?_cons_zero, List.getElem?_cons_succ] at q70 q71 q72
                have S7 := hide (s6.b F7)
                have hs7 : w.heap.size + 1 ≤ (w6.alloc (.cells #[.int .i64 vx, .int .i64 va, .int .i64 vo] 73)).heap.size := by have := F7.size; have := s6.1.size; simp; omega
                have d1 := (F7.cell (p := ⟨bb, 1, none⟩) t6.lt).trans b1
                have TB7 := t6.b F7
                obtain ⟨_, _, rbx, rtx, nbx, hRx⟩ := unhide S7
                have rc0 := hRx.hc.c0
                have rcl := hRx.hc.tg.lt
                clear H1 S5 a0 a1 a2 a3 a4 a5 c6 q7 s6 HA5 HT5 F7 b1 b2 b3 b4 b5 t6 hRx
                unfold ptr at rc0
                go_upto_region 38 with (fail)
                generalize w6.alloc (.cells #[.int .i64 vx, .int .i64 va, .int .i64 vo] 73) = W7 at *
                generalize hb7 : w6.heap.size = b7 at *
                clear hb7
                have HK7 := hide (fun (W' : World) (hb : Below W7.heap.size W7 W') => show W'.cell? ⟨rc, 0, none⟩ = some (.pointer (some ⟨rz, 0, none⟩)) ∧ W'.cell? ⟨bb, 1, none⟩ = some (.int .i64 ax) from ⟨(hb.cell (p := ⟨rc, 0, none⟩) rcl).trans rc0, (hb.cell (p := ⟨bb, 1, none⟩) TB7.lt).trans d1⟩)
                have FA : Below W7.heap.size W7 (W7.alloc (.cells #[.int .i64 0, .int .i64 0, .int .i64 0] 73)).drew := (ballo (Below.refl W7.heap.size W7) (.cells #[.int .i64 0, .int .i64 0, .int .i64 0] 73)).drew
                have HTB := hide (TB7.b FA)
                have HT7 := hide (T7.b FA)
                have HT9 : Hid (Tag (W7.alloc (.cells #[.int .i64 0, .int .i64 0, .int .i64 0] 73)).drew W7.heap.size 73) := hide ((tag_new W7 #[.int .i64 0, .int .i64 0, .int .i64 0] 73).b (drw _))
                have HS7 := hide ((unhide S7).b FA)
                have HQ7 := hide (show (W7.alloc (.cells #[.int .i64 0, .int .i64 0, .int .i64 0] 73)).drew.cell? ⟨b7, 0, none⟩ = some (.int .i64 vx) ∧ (W7.alloc (.cells #[.int .i64 0, .int .i64 0, .int .i64 0] 73)).drew.cell? ⟨b7, 1, none⟩ = some (.int .i64 va) ∧ (W7.alloc (.cells #[.int .i64 0, .int .i64 0, .int .i64 0] 73)).drew.cell? ⟨b7, 2, none⟩ = some (.int .i64 vo) from ⟨(FA.cell (p := ⟨b7, 0, none⟩) T7.lt).trans q70, (FA.cell (p := ⟨b7, 1, none⟩) T7.lt).trans q71, (FA.cell (p := ⟨b7, 2, none⟩) T7.lt).trans q72⟩)
                have hs7' : w.heap.size + 1 ≤ (W7.alloc (.cells #[.int .i64 0, .int .i64 0, .int .i64 0] 73)).drew.heap.size := Nat.le_trans hs7 FA.size
                have H2' := hide ((unhide H2) (W7.alloc (.cells #[.int .i64 0, .int .i64 0, .int .i64 0] 73)).drew (unhide HS7) hs7')
                have HFA := hide FA
                have z9 := World.cell?_alloc_new W7 #[.int .i64 0, .int .i64 0, .int .i64 0] 73
                have HQ9 := hide (show (W7.alloc (.cells #[.int .i64 0, .int .i64 0, .int .i64 0] 73)).drew.cell? ⟨W7.heap.size, 0, none⟩ = some (.int .i64 0) ∧ (W7.alloc (.cells #[.int .i64 0, .int .i64 0, .int .i64 0] 73)).drew.cell? ⟨W7.heap.size, 1, none⟩ = some (.int .i64 0) ∧ (W7.alloc (.cells #[.int .i64 0, .int .i64 0, .int .i64 0] 73)).drew.cell? ⟨W7.heap.size, 2, none⟩ = some (.int .i64 0) from ⟨z9 0, z9 1, z9 2⟩)
                clear z9
                have HZ9 := hide (show (W7.alloc (.cells #[.int .i64 0, .int .i64 0, .int .i64 0] 73)).drew.frozen? ⟨W7.heap.size, 0, none⟩ = false ∧ (W7.alloc (.cells #[.int .i64 0, .int .i64 0, .int .i64 0] 73)).drew.frozen? ⟨W7.heap.size, 1, none⟩ = false ∧ (W7.alloc (.cells #[.int .i64 0, .int .i64 0, .int .i64 0] 73)).drew.frozen? ⟨W7.heap.size, 2, none⟩ = false from ⟨World.frozen?_alloc_at _ _ W7.heap.size 0 rfl, World.frozen?_alloc_at _ _ W7.heap.size 1 rfl, World.frozen?_alloc_at _ _ W7.heap.size 2 rfl⟩)
                have HN9 : Hid (w.heap.size + 1 ≤ W7.heap.size ∧ b7 < W7.heap.size ∧ bb < W7.heap.size ∧ rc < W7.heap.size) := ⟨hs7, T7.lt, TB7.lt, rcl⟩
                have nrc : rc ≠ W7.heap.size := Nat.ne_of_lt rcl
                have nbb : bb ≠ W7.heap.size := Nat.ne_of_lt TB7.lt
                have HTBd := hide (TB7.b (drw W7))
                have HT7d := hide (T7.b (drw W7))
                have HQ7d := hide (show W7.drew.cell? ⟨b7, 0, none⟩ = some (.int .i64 vx) ∧ W7.drew.cell? ⟨b7, 1, none⟩ = some (.int .i64 va) ∧ W7.drew.cell? ⟨b7, 2, none⟩ = some (.int .i64 vo) from ⟨((drw W7).cell (p := ⟨b7, 0, none⟩) T7.lt).trans q70, ((drw W7).cell (p := ⟨b7, 1, none⟩) T7.lt).trans q71, ((drw W7).cell (p := ⟨b7, 2, none⟩) T7.lt).trans q72⟩)
                have H2d := hide ((unhide H2) W7.drew ((unhide S7).b (drw W7)) hs7)
                clear H2 S7 TB7 T7 q70 q71 q72 rcl FA
                go_region_held3 (fun w' => w'.cell? ⟨rc, 0, none⟩ = some (.pointer (some ⟨rz, 0, none⟩)) ∧ w'.cell? ⟨bb, 1, none⟩ = some (.int .i64 ax)) ((first | exact keep3 (by assumption) (by assumption) (by assumption) _ _ _ | (go_keep; done) | assumption | exact (unhide HK7) _ (drw _) | exact (unhide HK7) _ (ballo (Below.refl _ _) _) | exact (unhide HK7) _ (ballo (drw _) _) | exact (unhide HK7) _ (unhide HFA))) ((first
                  | (go_at_call 28; refine (unhide H2').mono ?_; rintro ev w8 ⟨rfl, s8, c8⟩; have S8 := hide s8; have HT8 := hide (c8.tag (unhide HT9) (by decide)); have e9 := c8.same (unhide HT9) (by decide); have m0 := (World.cell?_of_block (a := ⟨W7.heap.size, 0, none⟩) e9).trans (unhide HQ9).1; have m1 := (World.cell?_of_block (a := ⟨W7.heap.size, 1, none⟩) e9).trans (unhide HQ9).2.1; have m2 := (World.cell?_of_block (a := ⟨W7.heap.size, 2, none⟩) e9).trans (unhide HQ9).2.2; have k0 := (World.frozen?_of_block (a := ⟨W7.heap.size, 0, none⟩) e9).trans (unhide HZ9).1; have k1 := (World.frozen?_of_block (a := ⟨W7.heap.size, 1, none⟩) e9).trans (unhide HZ9).2.1; have k2 := (World.frozen?_of_block (a := ⟨W7.heap.size, 2, none⟩) e9).trans (unhide HZ9).2.2; clear e9; have e8 := c8.same (unhide HT7) (by decide); have HQ8 := hide (show w8.cell? ⟨b7, 0, none⟩ = some (.int .i64 vx) ∧ w8.cell? ⟨b7, 1, none⟩ = some (.int .i64 va) ∧ w8.cell? ⟨b7, 2, none⟩ = some (.int .i64 vo) from ⟨(World.cell?_of_block (a := ⟨b7, 0, none⟩) e8).trans (unhide HQ7).1, (World.cell?_of_block (a := ⟨b7, 1, none⟩) e8).trans (unhide HQ7).2.1, (World.cell?_of_block (a := ⟨b7, 2, none⟩) e8).trans (unhide HQ7).2.2⟩); have f8 := c8.same (unhide HTB) (by decide); have s8 : w8.cell? ⟨rc, 0, none⟩ = some (.pointer (some ⟨rz, 0, none⟩)) ∧ w8.cell? ⟨bb, 1, none⟩ = some (.int .i64 ax) := (by obtain ⟨_, _, rby, rty, nby, hRy⟩ := unhide S8; exact ⟨hRy.hc.c0, (World.cell?_of_block (a := ⟨bb, 1, none⟩) f8).trans ((unhide HK7) _ (unhide HFA)).2⟩); clear e8 f8 c8)
                  | (go_at_call 28; refine (unhide H2d).mono ?_; rintro ev w8 ⟨rfl, s8, c8⟩; have S8 := hide s8; have HT8 := hide c8.size; have n81 : rc ≠ w8.heap.size := (by have := c8.size; have h9 := (unhide HN9).2.2.2; have : W7.drew.heap.size = W7.heap.size := rfl; omega); have n82 : bb ≠ w8.heap.size := (by have := c8.size; have h9 := (unhide HN9).2.2.1; have : W7.drew.heap.size = W7.heap.size := rfl; omega); have e8 := c8.same (unhide HT7d) (by decide); have HQ8 := hide (show w8.cell? ⟨b7, 0, none⟩ = some (.int .i64 vx) ∧ w8.cell? ⟨b7, 1, none⟩ = some (.int .i64 va) ∧ w8.cell? ⟨b7, 2, none⟩ = some (.int .i64 vo) from ⟨(World.cell?_of_block (a := ⟨b7, 0, none⟩) e8).trans (unhide HQ7d).1, (World.cell?_of_block (a := ⟨b7, 1, none⟩) e8).trans (unhide HQ7d).2.1, (World.cell?_of_block (a := ⟨b7, 2, none⟩) e8).trans (unhide HQ7d).2.2⟩); have f8 := c8.same (unhide HTBd) (by decide); have s8 : w8.cell? ⟨rc, 0, none⟩ = some (.pointer (some ⟨rz, 0, none⟩)) ∧ w8.cell? ⟨bb, 1, none⟩ = some (.int .i64 ax) := (by obtain ⟨_, _, rby, rty, nby, hRy⟩ := unhide S8; exact ⟨hRy.hc.c0, (World.cell?_of_block (a := ⟨bb, 1, none⟩) f8).trans ((unhide HK7) _ (drw _)).2⟩); clear e8 f8 c8)))
                · obtain ⟨g0, g1, g2⟩ := unhide HQ8
                  have T9 : Tag (w8.alloc (.cells #[.int .i64 vx, .int .i64 va, .int .i64 vo] 73)) w8.heap.size 73 := tag_new _ _ _
                  have F9 := ballo (Below.refl w8.heap.size w8) (.cells #[.int .i64 vx, .int .i64 va, .int .i64 vo] 73)
                  have h7 : b7 < w8.heap.size := by have h9 := (unhide HN9).2.1; have h8 := unhide HT8; have : W7.drew.heap.size = W7.heap.size := rfl; omega
                  have q9 := World.cell?_alloc_new w8 #[.int .i64 vx, .int .i64 va, .int .i64 vo] 73
                  have q90 := q9 0
                  have q91 := q9 1
                  have q92 := q9 2
                  simp only [List.getElem?_toArray, List.getElem?_cons_zero, List.getElem?_cons_succ] at q90 q91 q92
                  have p70 := (F9.cell (p := ⟨b7, 0, none⟩) h7).trans g0
                  have p71 := (F9.cell (p := ⟨b7, 1, none⟩) h7).trans g1
                  have p72 := (F9.cell (p := ⟨b7, 2, none⟩) h7).trans g2
                  have S9 := hide ((unhide S8).b F9)
                  have l7 : b7 < (w8.alloc (.cells #[.int .i64 vx, .int .i64 va, .int .i64 vo] 73)).heap.size := Nat.lt_of_lt_of_le h7 F9.size
                  have l9 := T9.lt
                  clear q9 F9 T9 h7 g0 g1 g2 H2' H2d HQ8 HQ7 HQ7d HQ9 HZ9 HS7 HK7 HFA HTB HT7 HT9 HTBd HT7d HT8 hs7' hs7 n81 n82 nrc nbb s8 rc0 d1
                  generalize w8.alloc (.cells #[.int .i64 vx, .int .i64 va, .int .i64 vo] 73) = W9 at *
                  generalize w8.heap.size = b9 at *
                  have H3' := hide ((unhide H3) W9 ((unhide HE).below (unhide S9).1))
                  clear H3
                  go_wp2_with fail
                  refine (unhide H3').mono ?_
                  rintro ev w10 ⟨rfl, b10⟩
                  have S10 := hide ((unhide S9).b b10)
                  have u0 := (b10.cell (p := ⟨b7, 0, none⟩) l7).trans p70
                  have u1 := (b10.cell (p := ⟨b7, 1, none⟩) l7).trans p71
                  have u2 := (b10.cell (p := ⟨b7, 2, none⟩) l7).trans p72
                  have v0 := (b10.cell (p := ⟨b9, 0, none⟩) l9).trans q90
                  have v1 := (b10.cell (p := ⟨b9, 1, none⟩) l9).trans q91
                  have v2 := (b10.cell (p := ⟨b9, 2, none⟩) l9).trans q92
                  clear H3' S9 b10 p70 p71 p72 q90 q91 q92 l7 l9
                  go_wp2_with fail
                  go_roundw
                  case rel => exact ⟨j + 1, ss, nd', by go_num, by omega, S10⟩
                  case measure => simp [RowKit.intOf]; omega
                · obtain ⟨g0, g1, g2⟩ := unhide HQ8
                  have T8 := unhide HT8
                  have h7 : b7 < W7.heap.size := (unhide HN9).2.1
                  have h7' : b7 < w8.heap.size := Nat.lt_trans h7 T8.lt
                  have n7 : ∀ o o' : Nat, (⟨W7.heap.size, o, none⟩ : Addr) ≠ ⟨b7, o', none⟩ := fun o o' e => by have := (Addr.mk.inj e).1; omega
                  have q90 : (((w8.setCell ⟨W7.heap.size, 0, none⟩ (.int .i64 vx)).setCell ⟨W7.heap.size, 1, none⟩ (.int .i64 va)).setCell ⟨W7.heap.size, 2, none⟩ (.int .i64 vo)).cell? ⟨W7.heap.size, 0, none⟩ = some (.int .i64 vx) := by rw [cso (by simp), cso (by simp)]; exact css m0
                  have q91 : (((w8.setCell ⟨W7.heap.size, 0, none⟩ (.int .i64 vx)).setCell ⟨W7.heap.size, 1, none⟩ (.int .i64 va)).setCell ⟨W7.heap.size, 2, none⟩ (.int .i64 vo)).cell? ⟨W7.heap.size, 1, none⟩ = some (.int .i64 va) := by rw [cso (by simp)]; exact css ((cso (by simp)).trans m1)
                  have q92 : (((w8.setCell ⟨W7.heap.size, 0, none⟩ (.int .i64 vx)).setCell ⟨W7.heap.size, 1, none⟩ (.int .i64 va)).setCell ⟨W7.heap.size, 2, none⟩ (.int .i64 vo)).cell? ⟨W7.heap.size, 2, none⟩ = some (.int .i64 vo) := css ((cso (by simp)).trans ((cso (by simp)).trans m2))
                  have p70 : (((w8.setCell ⟨W7.heap.size, 0, none⟩ (.int .i64 vx)).setCell ⟨W7.heap.size, 1, none⟩ (.int .i64 va)).setCell ⟨W7.heap.size, 2, none⟩ (.int .i64 vo)).cell? ⟨b7, 0, none⟩ = some (.int .i64 vx) := by rw [cso (n7 _ _), cso (n7 _ _), cso (n7 _ _)]; exact g0
                  have p71 : (((w8.setCell ⟨W7.heap.size, 0, none⟩ (.int .i64 vx)).setCell ⟨W7.heap.size, 1, none⟩ (.int .i64 va)).setCell ⟨W7.heap.size, 2, none⟩ (.int .i64 vo)).cell? ⟨b7, 1, none⟩ = some (.int .i64 va) := by rw [cso (n7 _ _), cso (n7 _ _), cso (n7 _ _)]; exact g1
                  have p72 : (((w8.setCell ⟨W7.heap.size, 0, none⟩ (.int .i64 vx)).setCell ⟨W7.heap.size, 1, none⟩ (.int .i64 va)).setCell ⟨W7.heap.size, 2, none⟩ (.int .i64 vo)).cell? ⟨b7, 2, none⟩ = some (.int .i64 vo) := by rw [cso (n7 _ _), cso (n7 _ _), cso (n7 _ _)]; exact g2
                  have S9 := hide ((((unhide S8).set (Nat.le_succ _) T8 (unhide HN9).1 0 (.int .i64 vx)).set (Nat.le_succ _) (T8.set _ _) (unhide HN9).1 1 (.int .i64 va)).set (Nat.le_succ _) ((T8.set _ _).set _ _) (unhide HN9).1 2 (.int .i64 vo))
                  have l9 := (((T8.set ⟨W7.heap.size, 0, none⟩ (.int .i64 vx)).set ⟨W7.heap.size, 1, none⟩ (.int .i64 va)).set ⟨W7.heap.size, 2, none⟩ (.int .i64 vo)).lt
                  have l7 := Nat.lt_trans h7 l9
                  clear T8 h7 h7' n7 g0 g1 g2 H2' H2d HQ8 HQ7 HQ7d HQ9 HZ9 HS7 HK7 HFA HTB HT7 HT9 HTBd HT7d HT8 hs7' hs7 nrc nbb s8 rc0 d1 m0 m1 m2 k0 k1 k2
                  generalize ((w8.setCell ⟨W7.heap.size, 0, none⟩ (.int .i64 vx)).setCell ⟨W7.heap.size, 1, none⟩ (.int .i64 va)).setCell ⟨W7.heap.size, 2, none⟩ (.int .i64 vo) = W9 at *
                  generalize W7.heap.size = b9 at *
                  have H3' := hide ((unhide H3) W9 ((unhide HE).below (unhide S9).1))
                  clear H3
                  go_wp2_with fail
                  refine (unhide H3').mono ?_
                  rintro ev w10 ⟨rfl, b10⟩
                  have S10 := hide ((unhide S9).b b10)
                  have u0 := (b10.cell (p := ⟨b7, 0, none⟩) l7).trans p70
                  have u1 := (b10.cell (p := ⟨b7, 1, none⟩) l7).trans p71
                  have u2 := (b10.cell (p := ⟨b7, 2, none⟩) l7).trans p72
                  have v0 := (b10.cell (p := ⟨b9, 0, none⟩) l9).trans q90
                  have v1 := (b10.cell (p := ⟨b9, 1, none⟩) l9).trans q91
                  have v2 := (b10.cell (p := ⟨b9, 2, none⟩) l9).trans q92
                  clear H3' S9 b10 p70 p71 p72 q90 q91 q92 l7 l9
                  go_wp2_with fail
                  go_roundw
                  case rel => exact ⟨j + 1, ss, nd', by go_num, by omega, S10⟩
                  case measure => simp [RowKit.intOf]; omega
              | false =>
                by_cases hbad : (0 ≤ ax ∧ ax < c.n) ∧ 0 ≤ an
                · obtain ⟨⟨hx0, hx1⟩, hq0⟩ := hbad
                  obtain ⟨x', rfl⟩ := Int.eq_ofNat_of_zero_le hx0
                  have hxk : x' < c.n := by omega
                  obtain ⟨g, ss', nd', h1, h2⟩ := cshrink_pair w e (unhide HE) (w.heap.size + 1) x z rc rz ly sz m c.mn c.lw c.hi c.n nb fm tm (fun i => nfr (c.D i) c.n 1001) ss nd (Nat.le_succ _) x' hxk an hq0 W5 (unhide S5)
                  have H1 := hide (h1 W5 (unhide S5))
                  have H2 := hide h2
                  clear h1 h2
                  unfold ptr at *
                  go_wp2_with fail
                  refine (unhide H1).mono ?_
                  rintro ev w6 ⟨rfl, s6, c6⟩
                  obtain ⟨b1, b2, b3, b4, b5⟩ := (unhide HA5) w6 (c6.same (unhide HT5) (by decide))
                  have t6 := c6.tag (unhide HT5) (by decide)
                  obtain ⟨_, _, rbx, rtx, nbx, hRx⟩ := id s6
                  have rc0 := hRx.hc.c0
                  have rcl := hRx.hc.tg.lt
                  have HIN := hide (isnode_ok rz c.mn c.lw c.hi c.n nbx nd _ (x' : Int) w6.drew (hRx.b (drw w6)).hz)
                  rw [show decide (0 ≤ (x' : Int) ∧ (x' : Int) < c.n) = true by simp; omega] at HIN
                  have dq : decide (an < 0) = false := by simp; omega
                  have S6 := hide s6
                  unfold ptr at rc0 HIN
                  have HK6 := hide (fun (W' : World) (hb : Below w6.drew.heap.size w6.drew W') => show W'.cell? ⟨rc, 0, none⟩ = some (.pointer (some ⟨rz, 0, none⟩)) ∧ W'.cell? ⟨bb, 1, none⟩ = some (.int .i64 (x' : Int)) ∧ W'.cell? ⟨bb, 2, none⟩ = some (.int .i64 an) from ⟨(hb.cell (p := ⟨rc, 0, none⟩) rcl).trans rc0, (hb.cell (p := ⟨bb, 1, none⟩) t6.lt).trans b1, (hb.cell (p := ⟨bb, 2, none⟩) t6.lt).trans b2⟩)
                  clear H1 S5 a0 a1 a2 a3 a4 a5 c6 s6 HA5 HT5 b3 b4 b5 t6 hRx rcl
                  go_wp2_with fail
                  go_region_held3 (fun w' => w'.cell? ⟨rc, 0, none⟩ = some (.pointer (some ⟨rz, 0, none⟩)) ∧ w'.cell? ⟨bb, 1, none⟩ = some (.int .i64 (x' : Int))) ((first | (go_keep; done) | assumption)) ((first
                    | (go_at_call 29; refine (unhide HIN).mono ?_; rintro ev w7 ⟨rfl, b7⟩; obtain ⟨k0, k1, k2⟩ := (unhide HK6) w7 b7; have s7 : w7.cell? ⟨rc, 0, none⟩ = some (.pointer (some ⟨rz, 0, none⟩)) ∧ w7.cell? ⟨bb, 1, none⟩ = some (.int .i64 (x' : Int)) := ⟨k0, k1⟩)))
                  have B7 : Below w6.heap.size w6 w7 := bd (w := w6) b7
                  have S7 := hide ((unhide S6).b B7)
                  have hs7 : w.heap.size + 1 ≤ w7.heap.size := by have h1 := B7.size; have h2 := (unhide S6).1.size; have h3 := (unhide HN0); obtain ⟨_, _, _, _, _, hRy⟩ := unhide S6; have := hRy.hc.tg.lt; omega
                  have H2' := hide ((unhide H2) w7 (unhide S7) hs7)
                  clear HIN HK6 B7 b7 S6 H2 rc0 b1 b2 s7
                  go_wp2_with fail
                  refine (unhide H2').mono ?_
                  rintro ev w8 ⟨rfl, s8, c8⟩
                  have S8 := hide s8
                  clear H2' S7 s8 c8 k0 k1 k2
                  go_wp2_with fail
                  go_roundw
                  case rel => exact ⟨j + 1, ss', nd', by go_num, by omega, S8⟩
                  case measure => simp [RowKit.intOf]; omega
                · have H1 := hide (cshrink_bad w e (unhide HE) (w.heap.size + 1) x z rc rz ly sz m c.mn c.lw c.hi c.n nb fm tm (fun i => nfr (c.D i) c.n 1001) ss nd (Nat.le_succ _) ax an hbad W5 (unhide S5))
                  unfold ptr errV at *
                  go_wp2_with fail
                  refine (unhide H1).mono ?_
                  rintro ev w6 ⟨rfl, s6, c6⟩
                  obtain ⟨b1, b2, b3, b4, b5⟩ := (unhide HA5) w6 (c6.same (unhide HT5) (by decide))
                  have t6 := c6.tag (unhide HT5) (by decide)
                  obtain ⟨_, _, rbx, rtx, nbx, hRx⟩ := id s6
                  have rc0 := hRx.hc.c0
                  have rcl := hRx.hc.tg.lt
                  have HIN := hide (isnode_ok rz c.mn c.lw c.hi c.n nbx nd _ ax w6.drew (hRx.b (drw w6)).hz)
                  have S6 := hide s6
                  unfold ptr at rc0 HIN
                  have HK6 := hide (fun (W' : World) (hb : Below w6.drew.heap.size w6.drew W') => show W'.cell? ⟨rc, 0, none⟩ = some (.pointer (some ⟨rz, 0, none⟩)) ∧ W'.cell? ⟨bb, 1, none⟩ = some (.int .i64 ax) ∧ W'.cell? ⟨bb, 2, none⟩ = some (.int .i64 an) from ⟨(hb.cell (p := ⟨rc, 0, none⟩) rcl).trans rc0, (hb.cell (p := ⟨bb, 1, none⟩) t6.lt).trans b1, (hb.cell (p := ⟨bb, 2, none⟩) t6.lt).trans b2⟩)
                  clear H1 S5 a0 a1 a2 a3 a4 a5 c6 s6 HA5 HT5 b3 b4 b5 t6 hRx rcl
                  obtain ⟨bd0, hbd⟩ : ∃ bd0 : Bool, bd0 = decide (0 ≤ ax ∧ ax < c.n) := ⟨_, rfl⟩
                  rw [← hbd] at HIN
                  cases bd0 with
                  | false =>
                    clear hbd hbad
                    go_wp2_with fail
                    go_region_held3 (fun w' => w'.cell? ⟨rc, 0, none⟩ = some (.pointer (some ⟨rz, 0, none⟩)) ∧ w'.cell? ⟨bb, 1, none⟩ = some (.int .i64 ax)) ((first | (go_keep; done) | assumption)) ((first
                      | (go_at_call 29; refine (unhide HIN).mono ?_; rintro ev w7 ⟨rfl, b7⟩; obtain ⟨k0, k1, k2⟩ := (unhide HK6) w7 b7; have s7 : w7.cell? ⟨rc, 0, none⟩ = some (.pointer (some ⟨rz, 0, none⟩)) ∧ w7.cell? ⟨bb, 1, none⟩ = some (.int .i64 ax) := ⟨k0, k1⟩)))
                    have B7 : Below w6.heap.size w6 w7 := bd (w := w6) b7
                    have S7 := hide ((unhide S6).b B7)
                    have H3 := hide (coded_sent 1 (by omega) 2 rfl w7 e ((unhide HE).below (unhide S7).1))
                    clear HIN HK6 B7 b7 S6 rc0 b1 b2 s7
                    go_wp2_with fail
                    refine (unhide H3).mono ?_
                    rintro ev w8 ⟨rfl, b8⟩
                    have S8 := hide ((unhide S7).b b8)
                    clear H3 S7 b8 k0 k1 k2
                    go_wp2_with fail
                    go_roundw
                    case rel => exact ⟨j + 1, ss, nd, by go_num, by omega, S8⟩
                    case measure => simp [RowKit.intOf]; omega
                  | true =>
                    have hb2 : 0 ≤ ax ∧ ax < c.n := of_decide_eq_true hbd.symm
                    have dq : decide (an < 0) = true := by simp; have := fun h => hbad ⟨hb2, h⟩; omega
                    clear hbd hbad hb2
                    go_wp2_with fail
                    go_region_held3 (fun w' => w'.cell? ⟨rc, 0, none⟩ = some (.pointer (some ⟨rz, 0, none⟩)) ∧ w'.cell? ⟨bb, 1, none⟩ = some (.int .i64 ax)) ((first | (go_keep; done) | assumption)) ((first
                      | (go_at_call 29; refine (unhide HIN).mono ?_; rintro ev w7 ⟨rfl, b7⟩; obtain ⟨k0, k1, k2⟩ := (unhide HK6) w7 b7; have s7 : w7.cell? ⟨rc, 0, none⟩ = some (.pointer (some ⟨rz, 0, none⟩)) ∧ w7.cell? ⟨bb, 1, none⟩ = some (.int .i64 ax) := ⟨k0, k1⟩)))
                    have B7 : Below w6.heap.size w6 w7 := bd (w := w6) b7
                    have S7 := hide ((unhide S6).b B7)
                    have H3 := hide (coded_sent 1 (by omega) 2 rfl w7 e ((unhide HE).below (unhide S7).1))
                    clear HIN HK6 B7 b7 S6 rc0 b1 b2 s7
                    go_wp2_with fail
                    refine (unhide H3).mono ?_
                    rintro ev w8 ⟨rfl, b8⟩
                    have S8 := hide ((unhide S7).b b8)
                    clear H3 S7 b8 k0 k1 k2
                    go_wp2_with fail
                    go_roundw
                    case rel => exact ⟨j + 1, ss, nd, by go_num, by omega, S8⟩
                    case measure => simp [RowKit.intOf]; omega
        · have hjn : j = ln := by omega
          subst hjn
          have hnl : ¬ (j : Int) < j := by omega
          obtain ⟨hB, ⟨bs, hP⟩, rb, rt, nbr, hR⟩ := unhide hS
          have HB := hide hB
          have HC2 := hide (as_cache _ x z ly sz m bs ss wr hP.c _ rc rz rb rt hR.hc (sl_len hP))
          have HP := hide hP
          have HR := hide hR
          have hk4 := hP.k4
          have rc0 := hR.hc.c0
          have rlt := hR.hc.tg.lt
          clear hB hP hR hS
          unfold ptr at *
          go_wp2_with fail
          refine (unhide HC2).mono ?_
          rintro ev w8 ⟨rfl, b8⟩
          have HB8 := hide (btr (unhide HB) b8)
          have rc0 := (b8.cell (p := ⟨rc, 0, none⟩) rlt).trans rc0
          have HAZ := hide (as_zone z rz c.mn c.lw c.hi c.n nb fm tm nbr nd _ w8 e ((unhide HE).below (unhide HB8)) ((unhide HP).b b8).d ((unhide HR).b b8).hz (by omega) hhi hk4)
          clear HC2 b8 HB HP HR
          unfold ptr at *
          go_wp2_with fail
          refine (unhide HAZ).mono ?_
          rintro ev w9 ⟨rfl, b9⟩
          go_wp2_with fail
          go_ret
          exact ⟨rfl, btr (unhide HB8) b9⟩
    · have HNW := hide (snew_bad z sz w5 e ((unhide HE).below (unhide G5)) (by omega))
      unfold ptr errV at *
      go_wp2_with fail
      refine (unhide HNW).mono ?_
      rintro ev w6 ⟨rfl, b6⟩
      have G6 := hide (btr (unhide G5) b6)
      have HSN := hide (snew_nil sz w6 e ((unhide HE).below (unhide G6)))
      clear HNW b6 G5 HD5 BX5
      unfold errV at *
      go_wp2_with fail
      refine (unhide HSN).mono ?_
      rintro ev w7 ⟨rfl, b7⟩
      have G7 := hide (btr (unhide G6) b7)
      clear HSN G6 b7
      go_wp2_with fail
      refine (coded_sent 2 (by omega) 3 rfl w7 e ((unhide HE).below (unhide G7))).mono ?_
      rintro ev w8 ⟨rfl, b8⟩
      have G8 := hide (btr (unhide G7) b8)
      clear G7 b8
      have hsz2 : sz < 1 ∨ (¬ sz < 1 ∧ 64 < sz) := by omega
      rcases hsz2 with h1 | ⟨h1, h2⟩
      · have ds1 : decide (sz < 1) = true := by simpa using h1
        go_wp2_with fail
        refine (coded_sent 1 (by omega) 2 rfl w8 e ((unhide HE).below (unhide G8))).mono ?_
        rintro ev w9 ⟨rfl, b9⟩
        go_wp2
        go_ret
        exact ⟨rfl, btr (unhide G8) b9⟩
      · have ds1 : decide (sz < 1) = false := by simpa using h1
        have ds2 : decide (sz > 64) = true := by simpa using h2
        go_wp2_with fail
        refine (coded_sent 1 (by omega) 2 rfl w8 e ((unhide HE).below (unhide G8))).mono ?_
        rintro ev w9 ⟨rfl, b9⟩
        go_wp2
        go_ret
        exact ⟨rfl, btr (unhide G8) b9⟩
  · obtain ⟨a, _, ha, _⟩ := Cf.is_err hi hi0 e
    have d2 : decide (i > 0) = true := by simp; omega
    have d3 : decide ((0 : Int) < i) = true := by simp; omega
    clear hi
    go_wp2_with fail
    refine (unhide HCE).mono ?_
    rintro ev w3 ⟨rfl, b3⟩
    go_wp2
    go_ret
    exact ⟨rfl, btr G2 b3⟩
end Sb
end Go.Proofs.YtjkdnoafgcmheaaGreatDoor
