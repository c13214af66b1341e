/- E20 · MagazineActsCard. -/
import Derived.Test.YtfefehkapffljaaGreatDoorEF
import Derived.Test.YtfefehkapffljaaGreatDoorCG
import Derived.Test.YtfefehkapffljaaGreatDoorMO
import Derived.Test.YtfefehkapffljaaGreatDoorCards
import Derived.Test.YtfefehkapffljaaGreatDoorTie
import Derived.Test.YtfefehkapffljaaGreatDoorGB
import Derived.Test.YtfefehkapffljaaGreatDoorCJ
import Derived.Test.YtfefehkapffljaaGreatDoorKZ
import Derived.SevenTiedAt
import Derived.Carry
import Derived.Lib.SmallJoins
namespace Go.Proofs.YtfefehkapffljaaGreatDoor
open Go.RowKit Go.Maps
namespace Rd
open Fr Bd Zn Dz Sb Mg
set_option maxRecDepth 100000 in
set_option maxHeartbeats 16000000 in
theorem macts_ok (c : Cf) (p q : Option Addr) (pc qc : Nat) (sz nw : Int) (lp : Option Addr) (ln lc : Nat) (A : Nat → DA) (w : World) (e : Nat → Addr) (he : Errs w e) (h : At w c p q) (hpc : p = none → pc = 0) (hz : DActs w lp ln A) (hhi : c.hi ≤ 9223372036854775807) :
   Calls Tryz.prog 8 #[cfV c p pc q qc, .int .i64 sz, .int .i64 nw, .slice lp ln lc] w fun ev w' => ev = .returned (.bool true) ∧ Below w.heap.size w w' := by
 have F1 := ballo (Below.refl w.heap.size w) (.cells #[.slice p c.n pc, .slice q c.m qc, .int .i64 c.mn, .int .i64 c.lw, .int .i64 c.hi] 27)
 have BX := box_new w c p q pc qc 27
 have HC0 := hide (loaded_ok _ e (he.toM.below F1))
 have HWD := hide (fun w1 (hb : Below w.heap.size w w1) => wide_ok c p q pc qc w1 (h.b hb))
 have HE := hide he
 have HEM := hide he.toM
 have HA := hide h
 have HAC := hide hz
 obtain ⟨i0, hi0, hz0, hz1, hz2⟩ := info_parts info42o
 have HI := hide hi0
 have HZ := hide hz0
 have HZ1 := hide hz1
 have HZ2 := hide hz2
 clear he h hz hi0 hz0 hz1 hz2
 unfold cfV
 go_enter Tryz.func8, Tryz.ntmps8
 go_upto_region 1 with (fail)
 generalize w.alloc (.cells #[.slice p c.n pc, .slice q c.m qc, .int .i64 c.mn, .int .i64 c.lw, .int .i64 c.hi] 27) = W at *
 have hbx := BX.lt
 go_wp2_with fail
 refine (unhide HC0).mono ?_
 rintro ev w1 ⟨rfl, b1⟩
 have G1 := btr F1 b1
 obtain ⟨x0, x1, x2, x3, x4, _⟩ := BX.b b1
 have HW := hide ((unhide HWD) w1 G1)
 unfold cfV at *
 clear HC0 HWD
 go_wp2_with fail
 refine (unhide HW).mono ?_
 rintro ev w2 ⟨d, rfl, hd, b2⟩
 have G2 := btr G1 b2
 rcases hd with ⟨rfl, _⟩ | ⟨rfl, hnw⟩
 · go_wp2
   go_ret
   exact ⟨rfl, G2⟩
 by_cases hl : 100 < ln
 · have d1 : decide ((100 : Int) < ln) = true := by simp; omega
   go_wp2
   go_ret
   exact ⟨rfl, G2⟩
 have d1 : decide ((100 : Int) < ln) = false := by simp; omega
 have BX2 := hide ((BX.b b1).b b2)
 obtain ⟨y0, y1, y2, y3, y4, _⟩ := unhide BX2
 obtain ⟨i, hi⟩ := Dz.Cf.is_ex c
 have HIS := hide hi
 have HCE := hide ((cerr_ok c p q pc qc w2 ((unhide HA).b G2) hnw).mono (fun ev w' hh => show ev = Ending.returned (.int .i64 i) ∧ Below w2.heap.size w2 w' from by obtain ⟨j, h1, h2, h3⟩ := hh; exact ⟨by rw [h1, Cf.is_one h2 (unhide HIS)], h3⟩))
 unfold cfV at *
 clear HW x0 x1 x2 x3 x4
 by_cases hi0 : i = 0
 case neg =>
   obtain ⟨a, _, ha, _⟩ := Dz.Cf.is_err hi hi0 e
   have d2 : decide (i > 0) = true := by simp; omega
   have d3 : decide ((0 : Int) < i) = true := by simp; omega
   clear hi
   go_wp2_with fail
   refine (unhide HCE).mono ?_
   rintro ev w3 ⟨rfl, b3⟩
   go_wp2
   go_ret
   exact ⟨rfl, btr G2 b3⟩
 subst hi0
 by_cases hsz : 1 ≤ sz ∧ sz ≤ 64
 case neg =>
   have hsz2 : sz < 1 ∨ (¬ sz < 1 ∧ 64 < sz) := by omega
   go_wp2_with fail
   refine (unhide HCE).mono ?_
   rintro ev w3 ⟨rfl, b3⟩
   rcases hsz2 with h1 | ⟨h1, h2⟩
   · have ds1 : decide (sz < 1) = true := by simpa using h1
     go_wp2
     go_ret
     exact ⟨rfl, btr G2 b3⟩
   · have ds1 : decide (sz < 1) = false := by simpa using h1
     have ds2 : decide (sz > 64) = true := by simpa using h2
     go_wp2
     go_ret
     exact ⟨rfl, btr G2 b3⟩
 have ds1 : decide (sz < 1) = false := by simp; omega
 have ds2 : decide (sz > 64) = false := by simp; omega
 have ds3 : ¬ sz < 1 := by omega
 have ds4 : ¬ 64 < sz := by omega
 go_wp2_with fail
 refine (unhide HCE).mono ?_
 rintro ev w3 ⟨rfl, b3⟩
 have G3 := btr G2 b3
 have BX3 := hide ((unhide BX2).b b3)
 have HCO := hide (conf_ok c p q pc qc w3 ((unhide HA).b G3) hnw hpc)
 obtain ⟨z0, z1, z2, z3, z4, _⟩ := unhide BX3
 obtain ⟨hn1, hn4, hP, hm, hM, hD, hmn, hml, hlh⟩ := Cf.zero hi
 have HC0 := hide (show (∀ i, i < c.n → 1 ≤ c.P i ∧ c.P i ≤ 256) ∧ (∀ i, i < c.m → c.M i = c.n) ∧ (∀ i, i < c.n → ∀ k, k < c.n → 0 ≤ c.D i k ∧ c.D i k ≤ 1000) from ⟨hP, hM, hD⟩)
 have HM := hide hm
 unfold cfV at *
 clear HCE y0 y1 y2 y3 y4 BX BX2 b1 b2 b3 hP hM hD hm hi
 go_wp2_with fail
 refine (unhide HCO).mono ?_
 rintro ev w4 ⟨p', q', pc', qc', rfl, A4, b4⟩
 have G4 := btr G3 b4
 have BX4 := hide ((unhide BX3).b b4)
 have HN := hide (znew_ok c p' q' pc' qc' w4 e ((unhide HE).below G4).three A4 hnw (unhide HIS))
 unfold cfV at *
 clear HCO z0 z1 z2 z3 z4 BX3 A4
 go_wp2_with fail
 refine (unhide HN).mono ?_
 rintro ev w5 ⟨z, nb, fm, tm, rfl, D5, fr5, b5⟩
 have G5 := hide (btr G4 b5)
 have BX5 := hide ((unhide BX4).b b5)
 have HFR : Hid (∀ i, i < c.n → w.heap.size + 1 ≤ fm i ∧ w.heap.size + 1 ≤ tm i) := fun i hi => by have := fr5 i hi; have := (unhide BX4).lt; omega
 have HWB : w.heap.size < w5.heap.size := (unhide BX5).lt
 have HD5 := hide D5
 clear HN BX4 fr5 b4 D5 b5 G1 G2 G3 G4 F1
 have HNW := hide (snew_ok (w.heap.size + 1) z sz w5 hsz.1 hsz.2 HWB)
 unfold ptr at *
 go_wp2_with fail
 refine (unhide HNW).mono ?_
 rintro ev w6 ⟨x, m, ly, rfl, hC, hl6, hly, b6⟩
 have P6 := hide (ps_new (nb := nb) (fm := fm) (tm := tm) (unhide HD5) b6 hl6 hC (unhide HFR) (by omega))
 have G6 := hide (btr (unhide G5) b6)
 have BX6 := hide ((unhide BX5).b b6)
 have HLY := hide hly
 have h6N : w.heap.size + 1 ≤ w6.heap.size := by have := (unhide BX6).lt; omega
 clear HNW hC hl6 hly b6 HD5 G5 BX5
 by_cases hnw4 : 1 ≤ nw ∧ nw ≤ 4
 case neg =>
   have HDB := hide (dnew_bad x nw w6 e ((unhide HEM).below (unhide G6)) (by omega))
   unfold errV at *
   go_wp2_with fail
   refine (unhide HDB).mono ?_
   rintro ev w7 ⟨rfl, b7⟩
   have G7 := hide (btr (unhide G6) b7)
   have HDN := hide (dnew_nil nw w7 e ((unhide HEM).below (unhide G7)))
   unfold errV at *
   clear HDB b7
   go_wp2_with fail
   refine (unhide HDN).mono ?_
   rintro ev w8 ⟨rfl, b8⟩
   have G8 := hide (btr (unhide G7) b8)
   clear HDN b8
   go_wp2_with fail
   refine (coded_sent 2 (by omega) 3 rfl w8 e ((unhide HE).below (unhide G8))).mono ?_
   rintro ev w9 ⟨rfl, b9⟩
   have G9 := hide (btr (unhide G8) b9)
   clear b9
   have hnw2 : nw < 1 ∨ (¬ nw < 1 ∧ 4 < nw) := by omega
   rcases hnw2 with h1 | ⟨h1, h2⟩
   · have dn1 : decide (nw < 1) = true := by simpa using h1
     go_wp2_with fail
     refine (coded_sent 1 (by omega) 2 rfl w9 e ((unhide HE).below (unhide G9))).mono ?_
     rintro ev w10 ⟨rfl, b10⟩
     go_wp2
     go_ret
     exact ⟨rfl, btr (unhide G9) b10⟩
   · have dn1 : decide (nw < 1) = false := by simpa using h1
     have dn2 : decide (nw > 4) = true := by simpa using h2
     go_wp2_with fail
     refine (coded_sent 1 (by omega) 2 rfl w9 e ((unhide HE).below (unhide G9))).mono ?_
     rintro ev w10 ⟨rfl, b10⟩
     go_wp2
     go_ret
     exact ⟨rfl, btr (unhide G9) b10⟩
 obtain ⟨nn, rfl⟩ := Int.eq_ofNat_of_zero_le (show 0 ≤ nw by omega)
 have hnn : 1 ≤ nn ∧ nn ≤ 4 := by omega
 have dn1 : decide ((nn : Int) < 1) = false := by simp; omega
 have dn2 : decide ((nn : Int) > 4) = false := by simp; omega
 have dn3 : ¬ (nn : Int) < 1 := by omega
 have dn4 : ¬ (4 : Int) < nn := by omega
 have HDW := hide (dnew_ok (w.heap.size + 1) x nn w6 h6N hnn)
 go_wp2_with fail
 refine (unhide HDW).mono ?_
 rintro ev w7 ⟨rfl, ws, hws, D7⟩
 have HD7 := hide D7
 have G7 := hide (btr (unhide G6) D7.b)
 have BX7 := hide ((unhide BX6).b D7.b)
 have HDN := hide (dnew_nil (nn : Int) w7 e ((unhide HEM).below (unhide G7)))
 unfold errV at *
 clear HDW D7
 go_wp2_with fail
 refine (unhide HDN).mono ?_
 rintro ev w8 ⟨rfl, b8⟩
 have HB8 := hide b8
 have G8 := hide (btr (unhide G7) b8)
 have BX8 := hide ((unhide BX7).b b8)
 clear HDN b8
 go_wp2_with fail
 refine (coded_sent 2 (by omega) 3 rfl w8 e ((unhide HE).below (unhide G8))).mono ?_
 rintro ev w9 ⟨rfl, b9⟩
 have HB9 := hide (btr (unhide HB8) b9)
 have G9 := hide (btr (unhide G8) b9)
 have BX9 := hide ((unhide BX8).b b9)
 clear b9 G8 BX8 HB8
 obtain ⟨z0, z1, z2, z3, z4, _⟩ := unhide BX9
 have HCC := unhide HC0
 have HMM := unhide HM
 have HNZ := hide (rznew_at c p q pc qc w9 ((unhide HA).b (unhide G9)) hn1 hn4 HMM HCC.2.1 HCC.1 (fun i hi => List.length_pos_iff.1 (by have := (nfr_good (HCC.2.2 i hi)).1; omega)))
 have HG0 : Hid (∀ x, x < c.n → ((fun i => nfr (c.D i) c.n 1001) x).length = c.n ∧ ∀ i ∈ (fun i => nfr (c.D i) c.n 1001) x, i < c.n) := fun i (hi : i < c.n) => nfr_good (HCC.2.2 i hi)
 unfold cfV at *
 clear HCC HMM
 go_wp2_with fail
 refine (unhide HNZ).mono ?_
 rintro ev w10 ⟨rz, nb2, rfl, R10, b10, ⟨gN, cN, e5, hgN⟩, hrz, hnb2⟩
 have F11 := ballo (Below.refl w10.heap.size w10) (.cells #[.pointer (some ⟨rz, 0, none⟩), .int .i64 sz, .slice none 0 0] 66)
 have n11 := World.cell?_alloc_new w10 #[.pointer (some ⟨rz, 0, none⟩), .int .i64 sz, .slice none 0 0] 66
 have hs10 : w9.heap.size ≤ w10.heap.size := b10.size
 have hw9 := (unhide BX9).lt
 have RC11 : RC (w.heap.size + 1) (w10.alloc (.cells #[.pointer (some ⟨rz, 0, none⟩), .int .i64 sz, .slice none 0 0] 66)) w10.heap.size rz sz m [] [] [] := ⟨n11 0, n11 1, ⟨none, 0, n11 2, World.ownsRow_nil _ _ _ _⟩, tag_new _ _ _, by omega, rfl, rfl, List.nodup_nil, (fun t ht => by cases ht), (fun i b t s h => by simp at h), fun o => World.frozen?_alloc_at _ _ w10.heap.size o rfl⟩
 have RR11 : Hid (RR (w.heap.size + 1) (w10.alloc (.cells #[.pointer (some ⟨rz, 0, none⟩), .int .i64 sz, .slice none 0 0] 66)) w10.heap.size rz sz m [] [] [] c.mn c.lw c.hi c.n nb2 (nd0 c.P) (fun i => nfr (c.D i) c.n 1001)) := by
   refine ⟨R10.b F11, RC11, fun i hi => by have := hnb2 i hi; omega, fun g cp hc => ?_⟩
   have h1 : (w10.alloc (.cells #[.pointer (some ⟨rz, 0, none⟩), .int .i64 sz, .slice none 0 0] 66)).cell? ⟨rz, 5, none⟩ = w10.cell? ⟨rz, 5, none⟩ := F11.cell (p := ⟨rz, 5, none⟩) R10.tg.lt
   rw [h1, e5] at hc
   simp only [Option.some.injEq, Value.slice.injEq, Addr.mk.injEq] at hc
   obtain ⟨⟨rfl, _⟩, _⟩ := hc
   omega
 have HB11 := hide (btr (unhide HB9) (btr b10 F11))
 have HRN := hide (rdnew_ok (w.heap.size + 1) w10.heap.size nn hnn (w10.alloc (.cells #[.pointer (some ⟨rz, 0, none⟩), .int .i64 sz, .slice none 0 0] 66)) (by have := F11.size; omega) (fun _ => False))
 clear HNZ z0 z1 z2 z3 z4 BX9 R10 b10 e5 hgN hrz hnb2 F11 n11 RC11 hs10 hw9 HB9 G9
 unfold ptr at *
 go_wp2_with fail
 generalize w10.alloc (.cells #[.pointer (some ⟨rz, 0, none⟩), .int .i64 sz, .slice none 0 0] 66) = W11 at *
 generalize w10.heap.size = rc at *
 refine (unhide HRN).mono ?_
 rintro ev w12 ⟨rd, hb, rfl, D12, b12⟩
 obtain ⟨g, Q12⟩ := QD.new (unhide P6) (unhide G6) h6N (unhide HLY) (by omega) (unhide HD7) (unhide HB11) (unhide RR11) b12 (by rw [hws]; exact D12)
 generalize w6.heap.size = d at *
 have HQ12 := hide Q12
 clear HRN D12 b12 Q12 P6 G6 HLY HD7 HB11 RR11 h6N G7 BX6 BX7 hnw4 ds1 ds2 ds3 ds4 dn1 dn2 dn3 dn4 HM HC0 HFR HWB
 have hrem : ∀ (a b : Int), 0 ≤ a → 0 < b → Int.tmod a b = a % b := fun a b ha _ => Int.tmod_eq_emod_of_nonneg ha
 go_wp2_with fail
 go_loopw [17, 18] (fun s17 s18 wr => ∃ (j kk Q : Nat) (lo : List Bl) (po : Option Addr) (cp : Nat) (U : Nat → Prop) (ss : List Sl) (nd : Nat → Nd) (ws : List (Nat × Nat)) (pl : List Nat) (ct : Nat → List Bl), s17 = .slice po kk cp ∧ s18 = .int .i64 j ∧ j ≤ ln ∧ kk ≤ j ∧ Q ≤ j ∧ lo.length = kk ∧ ws.length = nn ∧ Hid (wr.ownsRow (w.heap.size + 1) 42 2 (.slice po kk cp) kk (flat lo)) ∧ Hid (∀ i, OB (.slice po kk cp) i → ¬ U i) ∧ Hid (QD w (w.heap.size + 1) x z d g rc rz rd hb sz m c.mn c.lw c.hi c.n nb fm tm (fun i => nfr (c.D i) c.n 1001) U (OB (.slice po kk cp)) Q ss nd ws pl ct ss nd (HH ct ws) (PP ct pl) wr)) (fun _ s _ => ln - (RowKit.intOf s).toNat)
 case atStart => exact ⟨0, 0, 0, [], none, 0, fun _ => False, [], _, ws, [], fun _ => [], rfl, rfl, Nat.zero_le _, Nat.le_refl _, Nat.le_refl _, rfl, hws, World.ownsRow_nil _ _ _ _, fun _ _ h => h, HQ12⟩
 case round =>
   clear HQ12 hws
   obtain ⟨j, kk, Q, lo, po, cp, U, ss, nd, ws, pl, ct, rfl, rfl, hj, hkj, hQj, hlo, hws, HR, HDJ, HQ⟩ := hrel
   have hge : (0 : Int) ≤ j := by omega
   have hQ : Q ≤ 1000 := by omega
   by_cases hjl : j < ln
   · have hlt : (j : Int) < ln := by omega
     obtain ⟨blk, off, rfl, hbl, c0, c1, c2, c3, c4, c5, c6⟩ := (unhide HAC) j hjl
     generalize A j = a at *
     obtain ⟨s, ak, ax, an, u, ox, oa⟩ := a
     simp only at c0 c1 c2 c3 c4 c5 c6
     have hB := (unhide HQ).q.b0
     have k0 := (hB.cell (p := ⟨blk, _, none⟩) hbl).trans c0
     have k1 := (hB.cell (p := ⟨blk, _, none⟩) hbl).trans c1
     have k2 := (hB.cell (p := ⟨blk, _, none⟩) hbl).trans c2
     have k3 := (hB.cell (p := ⟨blk, _, none⟩) hbl).trans c3
     have k4 := (hB.cell (p := ⟨blk, _, none⟩) hbl).trans c4
     have k5 := (hB.cell (p := ⟨blk, _, none⟩) hbl).trans c5
     have k6 := (hB.cell (p := ⟨blk, _, none⟩) hbl).trans c6
     clear c0 c1 c2 c3 c4 c5 c6 hB
     have f5 := ballo (Below.refl wr.heap.size wr) (.cells #[.string s, .int .i64 ak, .int .i64 ax, .int .i64 an, .bool u, .int .i64 ox, .int .i64 oa] 87)
     have m5 := World.cell?_alloc_new wr #[.string s, .int .i64 ak, .int .i64 ax, .int .i64 an, .bool u, .int .i64 ox, .int .i64 oa] 87
     have T5 := hide (tag_new wr #[.string s, .int .i64 ak, .int .i64 ax, .int .i64 an, .bool u, .int .i64 ox, .int .i64 oa] 87)
     have Q5 := hide ((unhide HQ).b f5)
     have R5 := hide (own_b (unhide HR) f5)
     have a0 := m5 0
     have a1 := m5 1
     have a2 := m5 2
     have a3 := m5 3
     have a4 := m5 4
     have a5 := m5 5
     have a6 := m5 6
     simp only [List.getElem?_toArray, List.getElem?_cons_zero, List.getElem?_cons_succ] at a0 a1 a2 a3 a4 a5 a6
     have HLN := hide hlo
     clear HQ HR f5 m5 hlo
     go_upto_region 24 with (fail)
     generalize wr.alloc (.cells #[.string s, .int .i64 ak, .int .i64 ax, .int .i64 an, .bool u, .int .i64 ox, .int .i64 oa] 87) = W5 at *
     generalize wr.heap.size = bb at *
     clear k0 k1 k2 k3 k4 k5 k6
     have HA5 : Hid (∀ W' : World, W'.heap[bb]? = W5.heap[bb]? → W'.cell? ⟨bb, 1, none⟩ = some (.int .i64 ak) ∧ W'.cell? ⟨bb, 2, none⟩ = some (.int .i64 ax) ∧ W'.cell? ⟨bb, 4, none⟩ = some (.bool u)) := fun W' hb => ⟨(World.cell?_of_block (w := W5) (a := ⟨bb, 1, none⟩) hb).trans a1, (World.cell?_of_block (w := W5) (a := ⟨bb, 2, none⟩) hb).trans a2, (World.cell?_of_block (w := W5) (a := ⟨bb, 4, none⟩) hb).trans a4⟩
     cases hG1 : (s.toList == [116, 97, 107, 101]) with
     | true =>
       have HTK := hide ((unhide Q5).take (Nat.le_succ _) hQ e (unhide HE) (unhide HG0) ak ax u)
       clear a3 a5 a6
       go_wp2_with fail
       refine (unhide HTK).mono ?_
       rintro ev w6 ⟨oN, oA, er, r, ss', nd', ws', pl', ct', rfl, Q6, hws', uk6, hR6, hcd, her⟩
       have F7 := ballo (Below.refl w6.heap.size w6) (.cells #[.int .i64 oN, .int .i64 oA] 42)
       have Q7 := Q6.boxB F7 (Nat.le_refl _) (tag_new _ _ _)
       have HB7 := hide (Mg.Bx.new w6 oN oA)
       have HR7 := hide (own_b (own_keepF (unhide R5) (fun g hg => uk6.u g (Or.inr hg))) F7)
       have hb6 := uk6.s bb 87 (by decide) (unhide T5)
       have hb7 := F7.block bb (Nat.lt_of_lt_of_le (unhide T5).lt uk6.z)
       have HT7 := hide (((unhide T5).blk hb6).blk hb7)
       have HA7 := hide ((unhide HA5) _ (hb7.trans hb6))
       have HTB7 := hide (tag_new w6 #[.int .i64 oN, .int .i64 oA] 42)
       have HRT := hide (hR6 _ _ _ Q7)
       have HTG7 := hide (fun g (hg : OB (.slice po kk cp) g) => Q7.q.uk g (Or.inr hg))
       have HDJ7 : Hid (∀ i, OB (.slice po kk cp) i → i < w6.heap.size ∧ ¬ (U i ∨ i = w6.heap.size)) := fun i hi => by
         have h1 := (Q6.q.uk i (Or.inr hi)).lt
         refine ⟨h1, fun hu => ?_⟩
         rcases hu with hu | hu
         · exact (unhide HDJ) i hi hu
         · omega
       have HCD := hide hcd
       have hs7 : (w6.alloc (.cells #[.int .i64 oN, .int .i64 oA] 42)).heap.size = w6.heap.size + 1 := by simp
       clear HTK F7 Q7 Q6 uk6 hR6 hcd hb6 hb7 R5 Q5 T5 HA5 HDJ a1 a2 a4
       go_upto_region 29 with (fail)
       generalize w6.alloc (.cells #[.int .i64 oN, .int .i64 oA] 42) = W7 at *
       generalize w6.heap.size = p7 at *
       obtain ⟨a1, a2, a4⟩ := unhide HA7
       go_wp2_with fail
       refine (unhide HRT).mono ?_
       rintro ev w8 ⟨rfl, v8, Q8, C8, hf8⟩
       have F9 := ballo (Below.refl w8.heap.size w8) (.cells #[.int .i64 oN, .int .i64 oA] 42)
       have B8 := (unhide HB7).blk (C8.same (unhide HTB7) (by decide))
       have HB9 := hide (B8.b F9)
       have HX9 := hide (Mg.Bx.new w8 oN oA)
       have HR9 := hide (own_b (row_stands (unhide HR7) (unhide HTG7) C8 (by decide)) F9)
       have HQ9 := hide (Q8.b F9)
       have HDJ9 : Hid (∀ i, OB (.slice po kk cp) i → ¬ ((U i ∨ i = p7) ∨ OB v8 i)) := fun i hi hu => by
         obtain ⟨h1, h2⟩ := (unhide HDJ7) i hi
         rcases hu with hu | hu
         · exact h2 hu
         · have := hf8 i hu
           omega
       have HCD9 := hide ((unhide HCD) _ ((unhide HE).below (Q8.b F9).q.b0))
       clear HRT Q8 C8 hf8 F9 B8 HB7 HR7 HTG7 HDJ7 HCD HTB7 HA7 HT7 hs7 a1 a2 a4
       go_upto_region 30 with (fail)
       generalize w8.alloc (.cells #[.int .i64 oN, .int .i64 oA] 42) = W9 at *
       generalize w8.heap.size = p9 at *
       go_wp2_with fail
       refine (unhide HCD9).mono ?_
       rintro ev w10 ⟨rfl, b10⟩
       obtain ⟨y0, y1⟩ := (unhide HB9).b b10
       obtain ⟨z0, z1⟩ := (unhide HX9).b b10
       simp only at y0 y1 z0 z1
       have HR10 := hide (own_b (unhide HR9) b10)
       have HQ10 := hide ((unhide HQ9).b b10)
       clear HCD9 b10 HB9 HX9 HR9 HQ9
       rcases her with ⟨rfl, rfl⟩ | hr0
       · have hb11 := ballo (Below.refl w10.heap.size w10) (.cells #[.int .i64 oN, .int .i64 oA] 42)
         have R11 := hide (own_b (unhide HR10) hb11)
         have Q11 := hide ((unhide HQ10).b hb11)
         have HBB := hide (Nat.le_trans (unhide HQ10).q.low hb11.size)
         have hkk : kk ≤ 100 := by omega
         clear hb11 HR10 HQ10
         go_wp2_with (at_builtin; refine wpList_append_lies _ rfl (.tmp 174) (.tmp 176) 45 rfl (w.heap.size + 1) 42 i0 (.agg #[.int .i64 0, .int .i64 0]) 2 16 Tryz.underlying45 (unhide HI) (unhide HZ) (unhide HZ1) (unhide HZ2) rfl (by decide) (.slice po kk cp) kk (flat lo) (by simp [Act.eval]) (unhide R11) ⟨w10.heap.size, 0, none⟩ 1 1 [.int .i64 oN, .int .i64 oA] (by simp [Act.eval]) rfl (by intro j u hj; match j, hj with | 0, hj => (simp at hj; subst hj; simp [Addr.add]) | 1, hj => (simp at hj; subst hj; simp [Addr.add])) (by intro u hu; simp at hu; rcases hu with rfl | rfl <;> rfl) (by omega) (by unfold maxLen; omega) (by omega) (unhide HBB) _ rfl ?_; intro g4 c4 w12 o4 q4 hg4 hg5; have Q12 := hide ((unhide Q11).grown q4 o4 hg4 (unhide HDJ9)); have R12 := hide o4; clear o4 q4 hg4 hg5 R11 Q11)
         clear y0 y1 z0 z1 HBB
         go_roundw
         case rel => exact ⟨j + 1, kk + 1, Q, lo ++ [(oN, oA)], some ⟨g4, 0, none⟩, c4, _, ss', nd', ws', pl', ct', rfl, by go_num, by omega, by omega, by omega, by simp [unhide HLN], by omega, by rw [flat_snoc]; exact R12, (unhide Q12).2, (unhide Q12).1⟩
         case measure => simp [RowKit.intOf]; omega
       · have hr1 : (r == 0) = false := by simpa using hr0
         have hr2 : decide (r = 0) = false := by simpa using hr0
         go_wp2_with fail
         go_roundw
         case rel => exact ⟨j + 1, kk, Q, lo, po, cp, _, ss', nd', ws', pl', ct', rfl, by go_num, by omega, by omega, by omega, unhide HLN, by omega, HR10, HDJ9, HQ10⟩
         case measure => simp [RowKit.intOf]; omega
     | false =>
       cases hG2 : (s.toList == [103, 105, 118, 101]) with
       | true =>
         have F6 := ballo (Below.refl W5.heap.size W5) (.cells #[.int .i64 ox, .int .i64 oa] 42)
         have R6 := rx_val W5 ox oa
         have HP6' : W5.heap.size ≤ W5.heap.size := Nat.le_refl _
         clear a1 a2 a4
         by_cases hgv : 0 ≤ an ∧ 0 < kk
         · obtain ⟨han, hk0⟩ := hgv
           have d2 : decide ((kk : Int) > 0) = true := by simp; omega
           have d3 : decide (an ≥ 0) = true := by simp; omega
           obtain ⟨t, ht⟩ := Int.eq_ofNat_of_zero_le (Int.emod_nonneg an (show (kk : Int) ≠ 0 by omega))
           have htk : t < kk := by have := Int.emod_lt_of_pos an (show (0 : Int) < kk by omega); omega
           have hq1 : Int.tmod an (kk : Int) = t := (hrem an kk han (by omega)).trans ht
           obtain ⟨⟨gx, gy⟩, ho⟩ : ∃ o, lo[t]? = some o := ⟨_, List.getElem?_eq_getElem (by rw [unhide HLN]; exact htk)⟩
           have hR6 := own_b (unhide R5) F6
           obtain ⟨g4, rfl, g0, g1⟩ := out_at hR6 (unhide HLN) ho
           have ht0 : (0 : Int) ≤ t := by omega
           have ht1 : (t : Int) < kk := by omega
           have hkz : ((kk : Int) == 0) = false := by simp; omega
           have a3' := (F6.cell (p := ⟨bb, 3, none⟩) (unhide T5).lt).trans a3
           obtain ⟨r0, r1, rfz, _⟩ := id R6
           have f0 := rfz 0
           have f1 := rfz 1
           have HB7 := hide ((F6.setCell (p := ⟨W5.heap.size, 0, none⟩) (Nat.le_refl _) (.int .i64 gx)).setCell (p := ⟨W5.heap.size, 1, none⟩) (Nat.le_refl _) (.int .i64 gy))
           have R7 := rx_two R6 gx gy
           have HBX := hide (show Mg.Bx _ W5.heap.size (gx, gy) from ⟨R7.c0, R7.c1⟩)
           have HT7 := hide R7.tg
           have HP6 := hide HP6'
           clear hR6 ho rfz R6 R7 F6 HP6'
           go_upto_region 36 with (fail)
           generalize W5.alloc (.cells #[.int .i64 ox, .int .i64 oa] 42) = W6 at *
           generalize hp6 : W5.heap.size = p6 at *
           go_upto_region 38 with (fail)
           generalize (W6.setCell ⟨p6, 0, none⟩ (.int .i64 gx)).setCell ⟨p6, 1, none⟩ (.int .i64 gy) = W7 at *
           clear a0 a3 a5 a6 a3' r0 r1 f0 f1 g0 g1 hq1 ht
           have T7 := hide (show Tag W7 p6 42 from unhide HT7)
           have HB7 := hide (show Below W5.heap.size W5 W7 from by rw [hp6]; exact unhide HB7)
           have HP6 := hide (show W5.heap.size ≤ p6 from by rw [hp6]; exact Nat.le_refl _)
           clear hp6
           have Q7 := (unhide Q5).boxB (unhide HB7) (unhide HP6) (unhide T7)
           have HR7 := hide (own_b (unhide R5) (unhide HB7))
           have HT87 := hide ((unhide T5).b (unhide HB7))
           have s7 : W7.cell? ⟨bb, 1, none⟩ = some (.int .i64 ak) ∧ W7.cell? ⟨p6, 0, none⟩ = some (.int .i64 gx) ∧ W7.cell? ⟨p6, 1, none⟩ = some (.int .i64 gy) := ⟨((unhide HA5) W7 ((unhide HB7).block bb (unhide T5).lt)).1, (unhide HBX).b0, (unhide HBX).b1⟩
           have s7d : W7.drew.cell? ⟨bb, 1, none⟩ = some (.int .i64 ak) ∧ W7.drew.cell? ⟨p6, 0, none⟩ = some (.int .i64 gx) ∧ W7.drew.cell? ⟨p6, 1, none⟩ = some (.int .i64 gy) := s7
           have HGV := hide ((Q7.b (drw W7)).give (Nat.le_succ _) hQ (by omega) e (unhide HE) ak gx gy)
           have HRD := hide (own_b (unhide HR7) (drw W7))
           have HTD := hide ((unhide HT87).b (drw W7))
           have HTP := hide ((unhide T7).b (drw W7))
           have HDJ7 : Hid (∀ i, OB (.slice (some ⟨g4, 0, none⟩) kk cp) i → i < W7.heap.size ∧ ¬ (U i ∨ i = p6)) := fun i hi => by
             have h1 := ((unhide Q5).q.uk i (Or.inr hi)).lt
             refine ⟨Nat.lt_of_lt_of_le h1 (unhide HB7).size, fun hu => ?_⟩
             rcases hu with hu | hu
             · exact (unhide HDJ) i hi hu
             · have := unhide HP6
               omega
           obtain ⟨a1, b0', b1'⟩ := s7
           clear Q7 HDJ Q5 R5 T5 HA5 HB7 HBX HR7 HT87 T7 HT7
           go_wp2_with fail
           go_region_held3 (fun w' => w'.cell? ⟨bb, 1, none⟩ = some (.int .i64 ak) ∧ w'.cell? ⟨p6, 0, none⟩ = some (.int .i64 gx) ∧ w'.cell? ⟨p6, 1, none⟩ = some (.int .i64 gy)) ((first | (go_keep; done) | assumption)) ((first
             | (go_at_call 35; refine (unhide HGV).mono ?_; rintro ev w8 ⟨er, r, ws', pl', ct', rfl, Q8, hws8, uk8, hR8, hcd⟩; have e87 := uk8.s bb 87 (by decide) (unhide HTD); have e42 := uk8.u p6 (Or.inl (Or.inr rfl)); have s8 : w8.cell? ⟨bb, 1, none⟩ = some (.int .i64 ak) ∧ w8.cell? ⟨p6, 0, none⟩ = some (.int .i64 gx) ∧ w8.cell? ⟨p6, 1, none⟩ = some (.int .i64 gy) := ⟨(World.cell?_of_block (a := ⟨bb, 1, none⟩) e87).trans s7d.1, (World.cell?_of_block (a := ⟨p6, 0, none⟩) e42).trans s7d.2.1, (World.cell?_of_block (a := ⟨p6, 1, none⟩) e42).trans s7d.2.2⟩; have HT8 := hide ((unhide HTD).blk e87); have HT8b := hide ((unhide HTP).blk e42); have HRT := hide (hR8 _ _ w8 Q8); have HCD := hide hcd; have HW8 := hide hws8; have HR8 := hide (own_keepF (unhide HRD) (fun g hg => uk8.u g (Or.inr hg))); have HTG8 := hide (fun g (hg : OB (.slice (some ⟨g4, 0, none⟩) kk cp) g) => Q8.q.uk g (Or.inr hg)); have HSZ := hide uk8.z; clear Q8 hws8 uk8 hR8 hcd e87 e42)
             | (go_at_call 41; refine (unhide HRT).mono ?_; rintro ev w9 ⟨rfl, v8, Q9, C9, hf9⟩; have e87 := C9.same (unhide HT8) (by decide); have e42 := C9.same (unhide HT8b) (by decide); have s9 : w9.cell? ⟨bb, 1, none⟩ = some (.int .i64 ak) ∧ w9.cell? ⟨p6, 0, none⟩ = some (.int .i64 gx) ∧ w9.cell? ⟨p6, 1, none⟩ = some (.int .i64 gy) := ⟨(World.cell?_of_block (a := ⟨bb, 1, none⟩) e87).trans s8.1, (World.cell?_of_block (a := ⟨p6, 0, none⟩) e42).trans s8.2.1, (World.cell?_of_block (a := ⟨p6, 1, none⟩) e42).trans s8.2.2⟩; have HT9 := hide ((unhide HT8).blk e87); have HT9b := hide ((unhide HT8b).blk e42); have HQ9 := hide Q9; have HR9 := hide (row_stands (unhide HR8) (unhide HTG8) C9 (by decide)); have HF9 := hide hf9; clear Q9 C9 hf9 e87 e42)
             | (go_at_call 22; refine ((unhide HCD) w9 ((unhide HE).below (unhide HQ9).q.b0)).mono ?_; rintro ev w10 ⟨rfl, b10⟩; have s10 : w10.cell? ⟨bb, 1, none⟩ = some (.int .i64 ak) ∧ w10.cell? ⟨p6, 0, none⟩ = some (.int .i64 gx) ∧ w10.cell? ⟨p6, 1, none⟩ = some (.int .i64 gy) := ⟨(b10.cell (p := ⟨bb, 1, none⟩) (unhide HT9).lt).trans s9.1, (b10.cell (p := ⟨p6, 0, none⟩) (unhide HT9b).lt).trans s9.2.1, (b10.cell (p := ⟨p6, 1, none⟩) (unhide HT9b).lt).trans s9.2.2⟩)))
           have HQ10 := hide ((unhide HQ9).b b10)
           have HR10 := hide (own_b (unhide HR9) b10)
           have HDJ10 : Hid (∀ i, OB (.slice (some ⟨g4, 0, none⟩) kk cp) i → ¬ ((U i ∨ i = p6) ∨ OB v8 i)) := fun i hi hu => by
             obtain ⟨h1, h2⟩ := (unhide HDJ7) i hi
             rcases hu with hu | hu
             · exact h2 hu
             · have h3 := (unhide HF9) i hu
               have h4 := unhide HSZ
               have h5 := (drw W7).size
               omega
           have hws10 := unhide HW8
           clear HGV HRD HTD HTP HT8 HT8b HRT HCD HW8 HR8 HTG8 HSZ HT9 HT9b HQ9 HR9 HF9 s7d s8 s9 s10 b10 a1 b0' b1' HDJ7
           go_wp2_with fail
           go_roundw
           case rel => exact ⟨j + 1, kk, Q + 1, lo, some ⟨g4, 0, none⟩, cp, _, ss, nd, ws', pl', ct', rfl, by go_num, by omega, by omega, by omega, unhide HLN, by omega, HR10, HDJ10, HQ10⟩
           case measure => simp [RowKit.intOf]; omega
         · have hgv2 : an < 0 ∨ (0 ≤ an ∧ kk = 0) := by omega
           have HB7 := hide F6
           have HBX := hide (show Mg.Bx _ W5.heap.size (ox, oa) from ⟨R6.c0, R6.c1⟩)
           have HT7 := hide R6.tg
           have HP6 := hide HP6'
           have a3' := (F6.cell (p := ⟨bb, 3, none⟩) (unhide T5).lt).trans a3
           clear F6 R6 HP6' hgv
           go_upto_region 36 with (fail)
           generalize W5.alloc (.cells #[.int .i64 ox, .int .i64 oa] 42) = W7 at *
           generalize hp6 : W5.heap.size = p6 at *
           rcases hgv2 with han | ⟨han, hkz⟩
           · have d3 : decide (an ≥ 0) = false := by simp; omega
             go_upto_region 38 with (fail)
             clear a0 a3 a5 a6 a3'
             have T7 := hide (show Tag W7 p6 42 from unhide HT7)
             have HB7 := hide (show Below W5.heap.size W5 W7 from by rw [hp6]; exact unhide HB7)
             have HP6 := hide (show W5.heap.size ≤ p6 from by rw [hp6]; exact Nat.le_refl _)
             clear hp6
             have Q7 := (unhide Q5).boxB (unhide HB7) (unhide HP6) (unhide T7)
             have HR7 := hide (own_b (unhide R5) (unhide HB7))
             have HT87 := hide ((unhide T5).b (unhide HB7))
             have s7 : W7.cell? ⟨bb, 1, none⟩ = some (.int .i64 ak) ∧ W7.cell? ⟨p6, 0, none⟩ = some (.int .i64 ox) ∧ W7.cell? ⟨p6, 1, none⟩ = some (.int .i64 oa) := ⟨((unhide HA5) W7 ((unhide HB7).block bb (unhide T5).lt)).1, (unhide HBX).b0, (unhide HBX).b1⟩
             have s7d : W7.drew.cell? ⟨bb, 1, none⟩ = some (.int .i64 ak) ∧ W7.drew.cell? ⟨p6, 0, none⟩ = some (.int .i64 ox) ∧ W7.drew.cell? ⟨p6, 1, none⟩ = some (.int .i64 oa) := s7
             have HGV := hide ((Q7.b (drw W7)).give (Nat.le_succ _) hQ (by omega) e (unhide HE) ak ox oa)
             have HRD := hide (own_b (unhide HR7) (drw W7))
             have HTD := hide ((unhide HT87).b (drw W7))
             have HTP := hide ((unhide T7).b (drw W7))
             have HDJ7 : Hid (∀ i, OB (.slice po kk cp) i → i < W7.heap.size ∧ ¬ (U i ∨ i = p6)) := fun i hi => by
               have h1 := ((unhide Q5).q.uk i (Or.inr hi)).lt
               refine ⟨Nat.lt_of_lt_of_le h1 (unhide HB7).size, fun hu => ?_⟩
               rcases hu with hu | hu
               · exact (unhide HDJ) i hi hu
               · have := unhide HP6
                 omega
             obtain ⟨a1, b0', b1'⟩ := s7
             clear Q7 HDJ Q5 R5 T5 HA5 HB7 HBX HR7 HT87 T7 HT7
             go_wp2_with fail
             go_region_held3 (fun w' => w'.cell? ⟨bb, 1, none⟩ = some (.int .i64 ak) ∧ w'.cell? ⟨p6, 0, none⟩ = some (.int .i64 ox) ∧ w'.cell? ⟨p6, 1, none⟩ = some (.int .i64 oa)) ((first | (go_keep; done) | assumption)) ((first
               | (go_at_call 35; refine (unhide HGV).mono ?_; rintro ev w8 ⟨er, r, ws', pl', ct', rfl, Q8, hws8, uk8, hR8, hcd⟩; have e87 := uk8.s bb 87 (by decide) (unhide HTD); have e42 := uk8.u p6 (Or.inl (Or.inr rfl)); have s8 : w8.cell? ⟨bb, 1, none⟩ = some (.int .i64 ak) ∧ w8.cell? ⟨p6, 0, none⟩ = some (.int .i64 ox) ∧ w8.cell? ⟨p6, 1, none⟩ = some (.int .i64 oa) := ⟨(World.cell?_of_block (a := ⟨bb, 1, none⟩) e87).trans s7d.1, (World.cell?_of_block (a := ⟨p6, 0, none⟩) e42).trans s7d.2.1, (World.cell?_of_block (a := ⟨p6, 1, none⟩) e42).trans s7d.2.2⟩; have HT8 := hide ((unhide HTD).blk e87); have HT8b := hide ((unhide HTP).blk e42); have HRT := hide (hR8 _ _ w8 Q8); have HCD := hide hcd; have HW8 := hide hws8; have HR8 := hide (own_keepF (unhide HRD) (fun g hg => uk8.u g (Or.inr hg))); have HTG8 := hide (fun g (hg : OB (.slice po kk cp) g) => Q8.q.uk g (Or.inr hg)); have HSZ := hide uk8.z; clear Q8 hws8 uk8 hR8 hcd e87 e42)
               | (go_at_call 41; refine (unhide HRT).mono ?_; rintro ev w9 ⟨rfl, v8, Q9, C9, hf9⟩; have e87 := C9.same (unhide HT8) (by decide); have e42 := C9.same (unhide HT8b) (by decide); have s9 : w9.cell? ⟨bb, 1, none⟩ = some (.int .i64 ak) ∧ w9.cell? ⟨p6, 0, none⟩ = some (.int .i64 ox) ∧ w9.cell? ⟨p6, 1, none⟩ = some (.int .i64 oa) := ⟨(World.cell?_of_block (a := ⟨bb, 1, none⟩) e87).trans s8.1, (World.cell?_of_block (a := ⟨p6, 0, none⟩) e42).trans s8.2.1, (World.cell?_of_block (a := ⟨p6, 1, none⟩) e42).trans s8.2.2⟩; have HT9 := hide ((unhide HT8).blk e87); have HT9b := hide ((unhide HT8b).blk e42); have HQ9 := hide Q9; have HR9 := hide (row_stands (unhide HR8) (unhide HTG8) C9 (by decide)); have HF9 := hide hf9; clear Q9 C9 hf9 e87 e42)
               | (go_at_call 22; refine ((unhide HCD) w9 ((unhide HE).below (unhide HQ9).q.b0)).mono ?_; rintro ev w10 ⟨rfl, b10⟩; have s10 : w10.cell? ⟨bb, 1, none⟩ = some (.int .i64 ak) ∧ w10.cell? ⟨p6, 0, none⟩ = some (.int .i64 ox) ∧ w10.cell? ⟨p6, 1, none⟩ = some (.int .i64 oa) := ⟨(b10.cell (p := ⟨bb, 1, none⟩) (unhide HT9).lt).trans s9.1, (b10.cell (p := ⟨p6, 0, none⟩) (unhide HT9b).lt).trans s9.2.1, (b10.cell (p := ⟨p6, 1, none⟩) (unhide HT9b).lt).trans s9.2.2⟩)))
             have HQ10 := hide ((unhide HQ9).b b10)
             have HR10 := hide (own_b (unhide HR9) b10)
             have HDJ10 : Hid (∀ i, OB (.slice po kk cp) i → ¬ ((U i ∨ i = p6) ∨ OB v8 i)) := fun i hi hu => by
               obtain ⟨h1, h2⟩ := (unhide HDJ7) i hi
               rcases hu with hu | hu
               · exact h2 hu
               · have h3 := (unhide HF9) i hu
                 have h4 := unhide HSZ
                 have h5 := (drw W7).size
                 omega
             have hws10 := unhide HW8
             clear HGV HRD HTD HTP HT8 HT8b HRT HCD HW8 HR8 HTG8 HSZ HT9 HT9b HQ9 HR9 HF9 s7d s8 s9 s10 b10 a1 b0' b1' HDJ7
             go_wp2_with fail
             go_roundw
             case rel => exact ⟨j + 1, kk, Q + 1, lo, po, cp, _, ss, nd, ws', pl', ct', by first | rfl | (congr 1; omega), by go_num, by omega, by omega, by omega, unhide HLN, by omega, HR10, HDJ10, HQ10⟩
             case measure => simp [RowKit.intOf]; omega
           · have d3 : decide (an ≥ 0) = true := by simp; omega
             have d2 : decide ((kk : Int) > 0) = false := by simp; omega
             go_upto_region 38 with (fail)
             clear a0 a3 a5 a6 a3'
             have T7 := hide (show Tag W7 p6 42 from unhide HT7)
             have HB7 := hide (show Below W5.heap.size W5 W7 from by rw [hp6]; exact unhide HB7)
             have HP6 := hide (show W5.heap.size ≤ p6 from by rw [hp6]; exact Nat.le_refl _)
             clear hp6
             have Q7 := (unhide Q5).boxB (unhide HB7) (unhide HP6) (unhide T7)
             have HR7 := hide (own_b (unhide R5) (unhide HB7))
             have HT87 := hide ((unhide T5).b (unhide HB7))
             have s7 : W7.cell? ⟨bb, 1, none⟩ = some (.int .i64 ak) ∧ W7.cell? ⟨p6, 0, none⟩ = some (.int .i64 ox) ∧ W7.cell? ⟨p6, 1, none⟩ = some (.int .i64 oa) := ⟨((unhide HA5) W7 ((unhide HB7).block bb (unhide T5).lt)).1, (unhide HBX).b0, (unhide HBX).b1⟩
             have s7d : W7.drew.cell? ⟨bb, 1, none⟩ = some (.int .i64 ak) ∧ W7.drew.cell? ⟨p6, 0, none⟩ = some (.int .i64 ox) ∧ W7.drew.cell? ⟨p6, 1, none⟩ = some (.int .i64 oa) := s7
             have HGV := hide ((Q7.b (drw W7)).give (Nat.le_succ _) hQ (by omega) e (unhide HE) ak ox oa)
             have HRD := hide (own_b (unhide HR7) (drw W7))
             have HTD := hide ((unhide HT87).b (drw W7))
             have HTP := hide ((unhide T7).b (drw W7))
             have HDJ7 : Hid (∀ i, OB (.slice po kk cp) i → i < W7.heap.size ∧ ¬ (U i ∨ i = p6)) := fun i hi => by
               have h1 := ((unhide Q5).q.uk i (Or.inr hi)).lt
               refine ⟨Nat.lt_of_lt_of_le h1 (unhide HB7).size, fun hu => ?_⟩
               rcases hu with hu | hu
               · exact (unhide HDJ) i hi hu
               · have := unhide HP6
                 omega
             obtain ⟨a1, b0', b1'⟩ := s7
             clear Q7 HDJ Q5 R5 T5 HA5 HB7 HBX HR7 HT87 T7 HT7
             go_wp2_with fail
             go_region_held3 (fun w' => w'.cell? ⟨bb, 1, none⟩ = some (.int .i64 ak) ∧ w'.cell? ⟨p6, 0, none⟩ = some (.int .i64 ox) ∧ w'.cell? ⟨p6, 1, none⟩ = some (.int .i64 oa)) ((first | (go_keep; done) | assumption)) ((first
               | (go_at_call 35; refine (unhide HGV).mono ?_; rintro ev w8 ⟨er, r, ws', pl', ct', rfl, Q8, hws8, uk8, hR8, hcd⟩; have e87 := uk8.s bb 87 (by decide) (unhide HTD); have e42 := uk8.u p6 (Or.inl (Or.inr rfl)); have s8 : w8.cell? ⟨bb, 1, none⟩ = some (.int .i64 ak) ∧ w8.cell? ⟨p6, 0, none⟩ = some (.int .i64 ox) ∧ w8.cell? ⟨p6, 1, none⟩ = some (.int .i64 oa) := ⟨(World.cell?_of_block (a := ⟨bb, 1, none⟩) e87).trans s7d.1, (World.cell?_of_block (a := ⟨p6, 0, none⟩) e42).trans s7d.2.1, (World.cell?_of_block (a := ⟨p6, 1, none⟩) e42).trans s7d.2.2⟩; have HT8 := hide ((unhide HTD).blk e87); have HT8b := hide ((unhide HTP).blk e42); have HRT := hide (hR8 _ _ w8 Q8); have HCD := hide hcd; have HW8 := hide hws8; have HR8 := hide (own_keepF (unhide HRD) (fun g hg => uk8.u g (Or.inr hg))); have HTG8 := hide (fun g (hg : OB (.slice po kk cp) g) => Q8.q.uk g (Or.inr hg)); have HSZ := hide uk8.z; clear Q8 hws8 uk8 hR8 hcd e87 e42)
               | (go_at_call 41; refine (unhide HRT).mono ?_; rintro ev w9 ⟨rfl, v8, Q9, C9, hf9⟩; have e87 := C9.same (unhide HT8) (by decide); have e42 := C9.same (unhide HT8b) (by decide); have s9 : w9.cell? ⟨bb, 1, none⟩ = some (.int .i64 ak) ∧ w9.cell? ⟨p6, 0, none⟩ = some (.int .i64 ox) ∧ w9.cell? ⟨p6, 1, none⟩ = some (.int .i64 oa) := ⟨(World.cell?_of_block (a := ⟨bb, 1, none⟩) e87).trans s8.1, (World.cell?_of_block (a := ⟨p6, 0, none⟩) e42).trans s8.2.1, (World.cell?_of_block (a := ⟨p6, 1, none⟩) e42).trans s8.2.2⟩; have HT9 := hide ((unhide HT8).blk e87); have HT9b := hide ((unhide HT8b).blk e42); have HQ9 := hide Q9; have HR9 := hide (row_stands (unhide HR8) (unhide HTG8) C9 (by decide)); have HF9 := hide hf9; clear Q9 C9 hf9 e87 e42)
               | (go_at_call 22; refine ((unhide HCD) w9 ((unhide HE).below (unhide HQ9).q.b0)).mono ?_; rintro ev w10 ⟨rfl, b10⟩; have s10 : w10.cell? ⟨bb, 1, none⟩ = some (.int .i64 ak) ∧ w10.cell? ⟨p6, 0, none⟩ = some (.int .i64 ox) ∧ w10.cell? ⟨p6, 1, none⟩ = some (.int .i64 oa) := ⟨(b10.cell (p := ⟨bb, 1, none⟩) (unhide HT9).lt).trans s9.1, (b10.cell (p := ⟨p6, 0, none⟩) (unhide HT9b).lt).trans s9.2.1, (b10.cell (p := ⟨p6, 1, none⟩) (unhide HT9b).lt).trans s9.2.2⟩)))
             have HQ10 := hide ((unhide HQ9).b b10)
             have HR10 := hide (own_b (unhide HR9) b10)
             have HDJ10 : Hid (∀ i, OB (.slice po kk cp) i → ¬ ((U i ∨ i = p6) ∨ OB v8 i)) := fun i hi hu => by
               obtain ⟨h1, h2⟩ := (unhide HDJ7) i hi
               rcases hu with hu | hu
               · exact h2 hu
               · have h3 := (unhide HF9) i hu
                 have h4 := unhide HSZ
                 have h5 := (drw W7).size
                 omega
             have hws10 := unhide HW8
             clear HGV HRD HTD HTP HT8 HT8b HRT HCD HW8 HR8 HTG8 HSZ HT9 HT9b HQ9 HR9 HF9 s7d s8 s9 s10 b10 a1 b0' b1' HDJ7
             go_wp2_with fail
             go_roundw
             case rel => exact ⟨j + 1, kk, Q + 1, lo, po, cp, _, ss, nd, ws', pl', ct', by first | rfl | (congr 1; omega), by go_num, by omega, by omega, by omega, unhide HLN, by omega, HR10, HDJ10, HQ10⟩
             case measure => simp [RowKit.intOf]; omega
       | false =>
         cases hG3 : (s.toList == [100, 114, 97, 105, 110]) with
         | true =>
           clear a2 a3 a4 a5 a6
           by_cases hx : ak < 0 ∨ (nn : Int) ≤ ak
           · have HDB := hide (drain_bad (unhide Q5).q e (unhide HEM) (x := ak) (by omega))
             have HIS5 := hide (fun W (hW : Below W5.heap.size W5 W) => isw_no ((unhide Q5).b hW).d (x := ak) (by rw [HH_len]; omega))
             unfold errV at *
             go_wp2_with fail
             refine (unhide HDB).mono ?_
             rintro ev w6 ⟨rfl, b6⟩
             obtain ⟨a1', _, _⟩ := (unhide HA5) w6 (b6.block bb (unhide T5).lt)
             have HB6 := hide b6
             clear HDB b6
             go_wp2_with fail
             refine ((unhide HIS5) w6 (unhide HB6)).mono ?_
             rintro ev w7 ⟨rfl, rfl⟩
             have HQ6 := hide ((unhide Q5).b (unhide HB6))
             have HR6 := hide (own_b (unhide R5) (unhide HB6))
             clear HIS5 HB6 Q5 R5 HA5 T5 a1 a1'
             go_wp2_with fail
             refine (coded_sent 1 (by omega) 2 rfl w7 e ((unhide HE).below (unhide HQ6).q.b0)).mono ?_
             rintro ev w8 ⟨rfl, b8⟩
             have HQ8 := hide ((unhide HQ6).b b8)
             have HR8 := hide (own_b (unhide HR6) b8)
             clear b8 HQ6 HR6
             go_wp2_with fail
             go_roundw
             case rel => exact ⟨j + 1, kk, Q, lo, po, cp, U, ss, nd, ws, pl, ct, rfl, by go_num, by omega, by omega, by omega, unhide HLN, hws, HR8, HDJ, HQ8⟩
             case measure => simp [RowKit.intOf]; omega
           · obtain ⟨wk, rfl⟩ := Int.eq_ofNat_of_zero_le (show 0 ≤ ak by omega)
             have hwk : wk < ws.length := by omega
             obtain ⟨⟨ta, tb⟩, hxw⟩ : ∃ ab, ws[wk]? = some ab := ⟨_, List.getElem?_eq_getElem hwk⟩
             have HDR := hide ((unhide Q5).drain (Nat.le_succ _) e (unhide HE) hxw)
             clear hxw
             go_wp2_with fail
             refine (unhide HDR).mono ?_
             rintro ev w6 ⟨n6, ss', ct', rfl, Q6, uk6, hR6⟩
             obtain ⟨a1', _, _⟩ := (unhide HA5) w6 (uk6.s bb 87 (by decide) (unhide T5))
             have HIS6 := hide (isw_yes Q6.d (i := wk) (by rw [HH_len]; exact hwk))
             have HR6 := hide (own_keepF (unhide R5) (fun g hg => uk6.u g (Or.inr hg)))
             have HRT := hide (hR6 U _ w6 Q6)
             have HT6 := hide (fun g (hg : OB (.slice po kk cp) g) => Q6.q.uk g (Or.inr hg))
             have hlt6 : Hid (∀ g, OB (.slice po kk cp) g → g < w6.heap.size) := fun g hg => (Q6.q.uk g (Or.inr hg)).lt
             clear HDR Q6 uk6 hR6 R5 Q5 a1 HA5 T5
             go_wp2_with fail
             refine (unhide HIS6).mono ?_
             rintro ev w7 ⟨rfl, rfl⟩
             clear HIS6
             go_wp2_with fail
             refine (unhide HRT).mono ?_
             rintro ev w8 ⟨rfl, v8, Q8, C8, hf8⟩
             have HR8 := hide (row_stands (unhide HR6) (unhide HT6) C8 (by decide))
             have HDJ8 : Hid (∀ i, OB (.slice po kk cp) i → ¬ (U i ∨ OB v8 i)) := fun i hi hu => by
               rcases hu with hu | hu
               · exact (unhide HDJ) i hi hu
               · have h1 := hf8 i hu
                 have h2 := (unhide hlt6) i hi
                 omega
             have HQ8 := hide Q8
             clear HRT Q8 C8 hf8 HR6 HT6 hlt6 HDJ a1'
             go_wp2_with fail
             go_roundw
             case rel => exact ⟨j + 1, kk, Q, lo, po, cp, _, ss', nd, ws, pl, ct', rfl, by go_num, by omega, by omega, by omega, unhide HLN, hws, HR8, HDJ8, HQ8⟩
             case measure => simp [RowKit.intOf]; omega
         | false =>
           have HEM' := hide ((unhide Q5).empty (Nat.le_succ _) hQ e (unhide HE))
           clear a1 a2 a3 a4 a5 a6 HA5 T5
           go_wp2_with fail
           refine (unhide HEM').mono ?_
           rintro ev w6 ⟨n6, ss', ct', rfl, Q6, uk6, hR6⟩
           have HR6 := hide (own_keepF (unhide R5) (fun g hg => uk6.u g (Or.inr hg)))
           have HRT := hide (hR6 U _ w6 Q6)
           have HT6 := hide (fun g (hg : OB (.slice po kk cp) g) => Q6.q.uk g (Or.inr hg))
           have hlt6 : Hid (∀ g, OB (.slice po kk cp) g → g < w6.heap.size) := fun g hg => (Q6.q.uk g (Or.inr hg)).lt
           clear HEM' Q6 uk6 hR6 R5 Q5 a0
           go_wp2_with fail
           refine (unhide HRT).mono ?_
           rintro ev w7 ⟨rfl, v8, Q7, C7, hf7⟩
           have HR7 := hide (row_stands (unhide HR6) (unhide HT6) C7 (by decide))
           have HDJ7 : Hid (∀ i, OB (.slice po kk cp) i → ¬ (U i ∨ OB v8 i)) := fun i hi hu => by
             rcases hu with hu | hu
             · exact (unhide HDJ) i hi hu
             · have h1 := hf7 i hu
               have h2 := (unhide hlt6) i hi
               omega
           have HQ7 := hide Q7
           clear HRT Q7 C7 hf7 HR6 HT6 hlt6 HDJ
           go_wp2_with fail
           go_roundw
           case rel => exact ⟨j + 1, kk, Q, lo, po, cp, _, ss', nd, ws, [], ct', rfl, by go_num, by omega, by omega, by omega, unhide HLN, hws, HR7, HDJ7, HQ7⟩
           case measure => simp [RowKit.intOf]; omega
   · have hjn : j = ln := by omega
     subst hjn
     have hnl : ¬ (j : Int) < j := by omega
     have HAD := hide (asdepot_ok (unhide HQ) hQ (by omega))
     have HB0 := hide (unhide HQ).q.b0
     have HQQ := hide (fun W (hW : Below wr.heap.size wr W) => (unhide HQ).b hW)
     clear HQ HR HDJ
     go_wp2_with fail
     refine (unhide HAD).mono ?_
     rintro ev w6 ⟨rfl, b6⟩
     have Q6 := (unhide HQQ) w6 b6
     have HB6 := hide (btr (unhide HB0) b6)
     obtain ⟨ly6, bs6, q6, f6, rb6, p6, _, _⟩ := Q6.q.ex
     obtain ⟨rb, rt, nbr, hR⟩ := Q6.r
     have rd0 := Q6.d.c0
     have rc0 := hR.hc.c0
     have hk4 := p6.k4
     have HAZ := hide (as_zone z rz c.mn c.lw c.hi c.n nb fm tm nbr nd _ w6 e ((unhide HE).below (unhide HB6)) p6.d hR.hz (by omega) hhi hk4)
     clear HAD b6 Q6 HQQ HB0 p6 hR
     unfold ptr at *
     go_wp2_with fail
     refine (unhide HAZ).mono ?_
     rintro ev w7 ⟨rfl, b7⟩
     go_wp2_with fail
     go_ret
     exact ⟨rfl, btr (unhide HB6) b7⟩
end Rd
end Go.Proofs.YtfefehkapffljaaGreatDoor
namespace Go.Proofs.YtfefehkapffljaaGreatDoor
open Go.ChangeShapes Go.WideShapes Go.ChangeAt Go.RowKit Go.Joins
namespace MagazineActs
theorem door (os : Os) (args : Array Value) : laidMetH Tryz.prog Rows.magazineActsRow.laid ((World.doorLaid Tryz.prog 206 os).forCall (fun _ _ => 0) ⟨#[], args, []⟩).memory := door10 os args
set_option maxRecDepth 100000 in
theorem lifted (os : Os) (started : os.Started) (H : Type) (enc : TypeId × Value → H) :
   ReturnsInHanded {} Tryz.checked os 8 .any (fun w args => (Rows.magazineActsSpec.pre enc Tryz.prog Tryz.f8 [] false w args ∧ laidMetH Tryz.prog Rows.magazineActsRow.laid w) ∧ sizedMet enc Tryz.prog Tryz.f8 (OpenSpec.ofChange Rows.magazineActsSpec) false w args)
     (Rows.magazineActsSpec.post enc Tryz.prog Tryz.f8 false true false false) := by
 refine returnsInHanded_of_change_and (C := Tryz.checked) (X := fun w _ => laidMetH Tryz.prog Rows.magazineActsRow.laid w) (fun _ _ _ hh h => h.of_heap hh) own started (by kernel_rfl) Tryz.func8
   (ChangeSpec.witness_shaped (enc := enc) (C := Tryz.checked) (os := os) (X := fun w _ => laidMetH Tryz.prog Rows.magazineActsRow.laid w) false (World.doorLaid Tryz.prog 206 os) #[.agg #[.slice none 0 0, .slice none 0 0, .int .i64 0, .int .i64 0, .int .i64 0], .int .i64 0, .int .i64 0, .slice none 0 0] 8 rfl (World.shaped_of_RefB (by kernel_rfl) (by kernel_rfl)) (by kernel_rfl) (by kernel_rfl) (by kernel_rfl) (door os _)) ?_
 intro W base args ds gs before hval0 hW _ _ hL _
 have hval : ∀ (j : Nat) t v, Tryz.f8.params[j]? = some t → args[j]? = some v → Value.okWide Tryz.prog W .any base t v := hval0
 have hW' := hW
 obtain ⟨p, q, hA0, hV, rfl, hfz, hnd⟩ := hW
 have hA : DataW.TrodAll enc Tryz.prog W 0 (fun _ => true) true Tryz.f8.params.toList args.toList ds p := hA0
 rw [Tryz.params8] at hA hval
 obtain ⟨v0, vn, vm, v1, d0, dn, dm, d1, p0, pn, pm, p1, rfl, rfl, rfl, h0, hn, hnm, h1⟩ := trodAll_four hA
 obtain ⟨rfl, rfl⟩ := trodVars_none hV
 obtain ⟨n0, rfl, rfl, rfl, wn0⟩ := open_int Tryz.underlying3 (hval 1 3 vn rfl rfl) hn
 obtain ⟨n1, rfl, rfl, rfl, wn1⟩ := open_int Tryz.underlying3 (hval 2 3 vm rfl rfl) hnm
 have h0k := h0
 have h1k := h1
 obtain ⟨fuel0, hf0⟩ := h0
 obtain ⟨fuel, hf⟩ := h1
 clear hA0 hval0
 simp only [List.append_nil] at hW'
 have hlt0 : ∀ x ∈ p0, x.block < W.heap.size := fun x hx => by simpa using hW'.lt x (by simp [hx])
 have hlt1 : ∀ x ∈ p1, x.block < W.heap.size := fun x hx => by simpa using hW'.lt x (by simp [hx])
 obtain ⟨e, he⟩ := errs_of hL
 obtain ⟨cs, rfl, _⟩ := okWide_struct Tryz.underlying27 (hval 0 27 v0 rfl rfl)
 obtain ⟨a1, len, cap, rfl⟩ := okWide_slice Tryz.underlying82 (hval 3 82 v1 rfl rfl)
 obtain ⟨c, pp, qq, pc, qc, hcs, hAt, hpc, hhi⟩ := Sb.open_conf2 hf0
 obtain ⟨a, len', cap', A, hcs1, hz, _⟩ := Mg.open_dacts hf
 simp [Value.cells] at hcs1
 obtain ⟨rfl, rfl, rfl⟩ := hcs1
 obtain ⟨l⟩ := cs
 simp only [Value.cells] at hcs
 subst hcs
 have hcall := Rd.macts_ok c pp qq pc qc n0 n1 a1 len cap A W e he hAt hpc hz hhi
 refine hcall.mono fun ev W' ⟨hev, hb⟩ => ?_
 subst hev
 have e1 : Rows.magazineActsSpec.fn H ([d0, .lit (.int .i64 n0), .lit (.int .i64 n1), d1] ++ []) = { results := [.lit (.bool true)], args := [d0, .lit (.int .i64 n0), .lit (.int .i64 n1), d1] } := by simp [Rows.magazineActsSpec]
 refine ⟨_, rfl, _, _, _, [], p0 ++ ([] ++ ([] ++ p1)), [], hW', ?_, ?_, ?_, hb.frame _, fun h => by cases h⟩
 · rw [e1]; exact trodAll_mk1 (shut_bool Tryz.underlying4 true)
 · rw [e1]; exact trodAll_mk4 (Below.trod Sb.laidOut (by kernel_rfl) (of_decide_eq_true (by kernel_rfl)) h0k hb hlt0) (shut_int Tryz.underlying3 wn0) (shut_int Tryz.underlying3 wn1) (Below.trod Sb.laidOut (by kernel_rfl) (of_decide_eq_true (by kernel_rfl)) h1k hb hlt1)
 · rw [e1]; rfl
theorem said : Rows.MagazineActsSaid :=
 OpenClaim.holds_of_wide 8 Tryz.f8 rfl rfl rfl rfl rfl rfl rfl ⟨rfl, rfl, rfl, rfl, rfl⟩ rfl rfl rfl rfl rfl (by kernel_rfl) Tryz.func8 (by kernel_rfl)
   (of_decide_eq_true (by kernel_rfl)) (by unfold Func.isWrapper; rw [if_neg (of_decide_eq_false (by kernel_rfl))]; exact ⟨rfl, rfl⟩)
   (fun os started H enc _ => lifted os started H enc)
theorem plain (f : FuncId) (fn : Func) (hf : Tryz.pinned.checked.prog.funcNamed "slabyard/slabyardlaw1.MagazineActs" = some f) (hfn : Tryz.pinned.checked.prog.funcs[f]? = some fn) :
   true = Tryz.pinned.checked.prog.looks [] ∧ ∀ (j : Nat) t, fn.params[j]? = some t → Tryz.pinned.checked.prog.wantsStandIn t = false := by
 obtain rfl : f = 8 := Option.some.inj ((show Tryz.prog.funcNamed "slabyard/slabyardlaw1.MagazineActs" = some 8 by kernel_rfl).symm.trans hf) |>.symm
 obtain rfl : fn = Tryz.f8 := (Option.some.inj (Tryz.func8.symm.trans hfn)).symm
 refine ⟨by kernel_rfl, fun j t ht => ?_⟩
 rw [Tryz.params8] at ht
 have hm : t = 27 ∨ t = 3 ∨ t = 82 := by simpa using Array.mem_of_getElem? ht
 rcases hm with rfl | rfl | rfl
 · exact (show Tryz.prog.wantsStandIn 27 = false by kernel_rfl)
 · exact (show Tryz.prog.wantsStandIn 3 = false by kernel_rfl)
 · exact (show Tryz.prog.wantsStandIn 82 = false by kernel_rfl)
theorem card : Rows.MagazineActsCardSaid :=
 Claim7.holds_tied_plain_at .later [] _ _ _ _ said (fun _ h => by cases h) (by kernel_rfl) (fun _ h => by cases h) magazineActs_row_tie rfl ⟨rfl, rfl⟩ (by kernel_rfl) rfl plain (by kernel_rfl)
end MagazineActs
theorem magazineActs_card : Rows.MagazineActsCardSaid := MagazineActs.card
#print axioms magazineActs_card
end Go.Proofs.YtfefehkapffljaaGreatDoor
