/- MagazineOut: its walk. -/
import Derived.Test.YtfefehkapffljaaGreatDoorMO
namespace Go.Proofs.YtfefehkapffljaaGreatDoor
open Go.RowKit Go.Maps
namespace Mg
open Fr Bd Zn Dz Sb
set_option maxRecDepth 100000 in
set_option maxHeartbeats 16000000 in
theorem mout_ok (n0 n1 : Int) (a1 : Option Addr) (ln cap : Nat) (A : Nat → DA) (w : World) (e : Nat → Addr) (he : Errs w e) (hz : DActs w a1 ln A) :
    Calls Tryz.prog 6 #[.int .i64 n0, .int .i64 n1, .slice a1 ln cap] w fun ev w' => ev = .returned (.bool true) ∧ Below w.heap.size w w' := by
  have HC0 := hide (loaded_ok w e he.toM)
  have HE := hide he
  have HEM := hide he.toM
  have HAC := hide hz
  clear he hz
  obtain ⟨i0, hi0, hz0, hz1, hz2⟩ := info_parts info42o
  have HI := hide hi0
  have HZ := hide hz0
  have HZ1 := hide hz1
  have HZ2 := hide hz2
  clear hi0 hz0 hz1 hz2
  go_enter Tryz.func6, Tryz.ntmps6
  go_wp2_with fail
  refine (unhide HC0).mono ?_
  rintro ev w0 ⟨rfl, b0⟩
  clear HC0
  by_cases hl : 100 < ln
  · have d1 : decide ((100 : Int) < ln) = true := by simp; omega
    go_wp2
    go_ret
    exact ⟨rfl, b0⟩
  have d1 : decide ((100 : Int) < ln) = false := by simp; omega
  have HO := hide (one_ok 8 w0)
  go_wp2_with fail
  refine (unhide HO).mono ?_
  rintro ev w1 ⟨p, pc, q, qc, rfl, A1, b1⟩
  have F1 := btr b0 b1
  have HN := hide (znew_ok (oneC 8) p q pc qc w1 e ((unhide HEM).below F1).three A1 (oneC_is 8 (by omega) (by omega)).2 (oneC_is 8 (by omega) (by omega)).1)
  clear A1 HO
  unfold cfV at *
  go_wp2_with fail
  refine (unhide HN).mono ?_
  rintro ev w2 ⟨z, nb, fm, tm, rfl, D2, fr2, b2⟩
  have F2 := btr F1 b2
  have hn1 : (oneC 8).n = 1 := rfl
  have HFR : Hid (∀ i, i < 1 → w.heap.size ≤ fm i ∧ w.heap.size ≤ tm i) := fun i hi => by have := fr2 i (by rw [hn1]; exact hi); have := b1.size; have := b0.size; omega
  generalize nd0 (oneC 8).P = nd at *
  generalize (fun i => nfr ((oneC 8).D i) (oneC 8).n 1001) = fr at *
  generalize (oneC 8).mn = mn at *
  generalize (oneC 8).lw = lw at *
  generalize (oneC 8).hi = hh at *
  rw [hn1] at D2
  have HF2 := hide F2
  have HD2 := hide D2
  by_cases hsz : 1 ≤ n0 ∧ n0 ≤ 64
  case neg =>
    have HNW := hide (snew_bad z n0 w2 e ((unhide HE).below F2) (by omega))
    clear HN D2 fr2 b2 b1 b0 F1 F2 hn1 HFR HD2
    unfold ptr errV at *
    go_wp2_with fail
    refine (unhide HNW).mono ?_
    rintro ev w3 ⟨rfl, b3⟩
    go_wp2
    go_ret
    exact ⟨rfl, btr (unhide HF2) b3⟩
  have HNW := hide (snew_ok w.heap.size z n0 w2 hsz.1 hsz.2 F2.size)
  clear HN F2 D2 fr2 b2 b1 b0 F1 hn1
  unfold ptr at *
  go_wp2_with fail
  refine (unhide HNW).mono ?_
  rintro ev w3 ⟨c, m, ly, rfl, hC, hl3, hly, b3⟩
  have P3 := ps_new (nb := nb) (fm := fm) (tm := tm) (unhide HD2) b3 hl3 hC (unhide HFR) (by omega)
  have F3 := btr (unhide HF2) b3
  have HP3 := hide P3
  have HF3 := hide F3
  have HLY := hide hly
  by_cases hnw : 1 ≤ n1 ∧ n1 ≤ 4
  case neg =>
    have HNW2 := hide (dnew_bad c n1 w3 e ((unhide HEM).below F3) (by omega))
    clear HNW hC hl3 hly b3 P3 F3 HF2 HD2 HFR HP3 HLY
    unfold errV at *
    go_wp2_with fail
    refine (unhide HNW2).mono ?_
    rintro ev w4 ⟨rfl, b4⟩
    go_wp2
    go_ret
    exact ⟨rfl, btr (unhide HF3) b4⟩
  obtain ⟨nn, rfl⟩ := Int.eq_ofNat_of_zero_le (show 0 ≤ n1 by omega)
  have hnn : 1 ≤ nn ∧ nn ≤ 4 := by omega
  have HNW2 := hide (dnew_ok w.heap.size c nn w3 F3.size hnn)
  clear HNW hC hl3 hly b3 P3 F3 HF2 HD2 HFR
  go_wp2_with fail
  refine (unhide HNW2).mono ?_
  rintro ev w4 ⟨rfl, ws, hws, D4⟩
  obtain ⟨g, L4⟩ := MO.fresh (unhide HP3) (unhide HF3) (unhide HF3).size (unhide HLY) hws hnn.1 D4
  generalize w3.heap.size = d at *
  have L4' := hide L4
  clear HNW2 D4 L4 hws HP3 HF3 HLY hnw
  have hrem : ∀ (a b : Int), 0 ≤ a → 0 < b → Int.tmod a b = a % b := fun a b ha _ => Int.tmod_eq_emod_of_nonneg ha
  go_wp2_with fail
  go_loopw [12, 13] (fun s12 s13 wr => ∃ (i k Q : Nat) (lo : List Bl) (p : Option Addr) (cp : Nat), s12 = .slice p k cp ∧ s13 = .int .i64 i ∧ i ≤ ln ∧ k ≤ i ∧ Q ≤ i ∧ lo.length = k ∧ Hid (wr.ownsRow w.heap.size 42 2 (.slice p k cp) k (flat lo)) ∧ Hid (MO w w.heap.size (OB (.slice p k cp)) c z d g n0 m mn lw hh nb fm tm fr nn Q [] lo wr)) (fun _ s _ => ln - (RowKit.intOf s).toNat)
  case atStart => exact ⟨0, 0, 0, [], none, 0, rfl, rfl, Nat.zero_le _, Nat.le_refl _, Nat.le_refl _, rfl, World.ownsRow_nil _ _ _ _, L4'⟩
  case round =>
    clear L4'
    obtain ⟨i, k, Q, lo, p, cp, rfl, rfl, hi, hki, hQi, hlo, HR, HM⟩ := hrel
    have hge : (0 : Int) ≤ i := by omega
    by_cases hjl : i < ln
    · have hlt : (i : Int) < ln := by omega
      obtain ⟨blk, off, rfl, hbl, c0, c1, c2, c3, c4, c5, c6⟩ := (unhide HAC) i hjl
      generalize A i = a at *
      obtain ⟨s, ak, ax, an, u, ox, oa⟩ := a
      simp only at c0 c1 c2 c3 c4 c5 c6
      have hB := (unhide HM).b0
      have k0 := (hB.cell (p := ⟨blk, _, none⟩) hbl).trans c0
      have k1 := (hB.cell (p := ⟨blk, _, none⟩) hbl).trans c1
      have k2 := (hB.cell (p := ⟨blk, _, none⟩) hbl).trans c2
      have k3 := (hB.cell (p := ⟨blk, _, none⟩) hbl).trans c3
      have k4 := (hB.cell (p := ⟨blk, _, none⟩) hbl).trans c4
      have k5 := (hB.cell (p := ⟨blk, _, none⟩) hbl).trans c5
      have k6 := (hB.cell (p := ⟨blk, _, none⟩) hbl).trans c6
      clear c0 c1 c2 c3 c4 c5 c6 hB
      have f5 := ballo (Below.refl wr.heap.size wr) (.cells #[.string s, .int .i64 ak, .int .i64 ax, .int .i64 an, .bool u, .int .i64 ox, .int .i64 oa] 87)
      have m5 := World.cell?_alloc_new wr #[.string s, .int .i64 ak, .int .i64 ax, .int .i64 an, .bool u, .int .i64 ox, .int .i64 oa] 87
      have M5 := hide ((unhide HM).b f5)
      have R5 := hide (own_b (unhide HR) f5)
      have a0 := m5 0
      have a1 := m5 1
      have a3 := m5 3
      have a4 := m5 4
      simp only [List.getElem?_toArray, List.getElem?_cons_zero, List.getElem?_cons_succ] at a0 a1 a3 a4
      have HLN := hide hlo
      clear HM HR f5 m5 hlo
      go_upto_region 18 with (fail)
      generalize wr.alloc (.cells #[.string s, .int .i64 ak, .int .i64 ax, .int .i64 an, .bool u, .int .i64 ox, .int .i64 oa] 87) = W5 at *
      generalize wr.heap.size = bb at *
      clear k0 k1 k2 k3 k4 k5 k6
      by_cases hgv : (s.toList == [103, 105, 118, 101]) = true ∧ 0 < k ∧ 0 ≤ an
      · obtain ⟨hG, hk0, han⟩ := hgv
        have d2 : decide ((k : Int) > 0) = true := by simp; omega
        have d3 : decide (an ≥ 0) = true := by simp; omega
        obtain ⟨t, ht⟩ := Int.eq_ofNat_of_zero_le (Int.emod_nonneg an (show (k : Int) ≠ 0 by omega))
        have htk : t < k := by have := Int.emod_lt_of_pos an (show (0 : Int) < k by omega); omega
        have hq1 : Int.tmod an (k : Int) = t := (hrem an k han (by omega)).trans ht
        obtain ⟨⟨oN, oA⟩, ho⟩ : ∃ o, lo[t]? = some o := ⟨_, List.getElem?_eq_getElem (by rw [unhide HLN]; exact htk)⟩
        obtain ⟨g4, rfl, g0, g1⟩ := out_at (unhide R5) (unhide HLN) ho
        have ht0 : (0 : Int) ≤ t := by omega
        have ht1 : (t : Int) < k := by omega
        have hkz : ((k : Int) == 0) = false := by simp; omega
        have f6 := ballo (Below.refl W5.heap.size W5) (.cells #[.int .i64 oN, .int .i64 oA] 42)
        obtain ⟨M6, _⟩ := (unhide M5).box oN oA
        have HM6 := hide M6
        have HB6 := hide (Bx.new W5 oN oA)
        have HR6 := hide (own_b (unhide R5) f6)
        have HGV := hide (M6.give (Nat.le_refl _) (by omega) hnn.1 e (unhide HEM) ho)
        have HO := hide ho
        clear M6 M5 R5 f6 ho a4 a1
        simp only at HGV
        go_upto_region 21 with (fail)
        generalize W5.alloc (.cells #[.int .i64 oN, .int .i64 oA] 42) = W6 at *
        generalize W5.heap.size = bo at *
        obtain ⟨x0, x1⟩ := unhide HB6
        simp only at x0 x1
        clear g0 g1 a0 a3
        go_wp2_with fail
        refine (unhide HGV).mono ?_
        rintro ev w7 ⟨rfl, M7, U7⟩
        have HM7 := hide M7
        have HB7 := hide ((unhide HB6).uk U7 (Or.inr rfl))
        have HR7 := hide (row_uk (unhide HR6) (U7.mono fun j hj => Or.inl hj))
        have HGV2 := hide (M7.stale (Nat.le_refl _) (by omega) hnn.1 e (unhide HEM) (o := (oN, oA)) (by simp))
        clear HGV HM6 HB6 HR6 M7 U7 x0 x1
        obtain ⟨x0, x1⟩ := unhide HB7
        simp only at x0 x1 HGV2
        unfold errV at *
        go_wp2_with fail
        refine (unhide HGV2).mono ?_
        rintro ev w8 ⟨rfl, M8, U8⟩
        have HCD := hide (coded_sent 8 (by omega) 9 rfl w8 e ((unhide HE).below M8.b0))
        have HM8 := hide (M8.forget.less (V := OB (.slice (some ⟨g4, 0, none⟩) k cp)) fun j hj => Or.inl hj)
        have HR8 := hide (row_uk (unhide HR7) (U8.mono fun j hj => Or.inl hj))
        clear HGV2 HM7 HB7 HR7 M8 U8 x0 x1
        go_wp2_with fail
        refine (unhide HCD).mono ?_
        rintro ev w9 ⟨rfl, b9⟩
        have HM9 := hide ((unhide HM8).b b9)
        have HR9 := hide (own_b (unhide HR8) b9)
        clear HCD HM8 HR8 b9
        obtain ⟨hrow, hcap, hcap2⟩ := row42 (unhide HR9) (unhide HLN)
        have HRW := hide hrow
        have htl : (flat (lo.take t)).length = t * 2 := by rw [flat_length, List.length_take, unhide HLN, Nat.min_eq_left (by omega)]
        have hdl : (flat (lo.drop (t + 1))).length = (k - (t + 1)) * 2 := by rw [flat_length, List.length_drop, unhide HLN]
        have hfl : (lo.take t ++ lo.drop (t + 1)).length = k - 1 ∧ flat (lo.take t ++ lo.drop (t + 1)) = flat (lo.take t) ++ flat (lo.drop (t + 1)) := ⟨by rw [List.length_append, List.length_take, List.length_drop, unhide HLN]; omega, flat_append _ _⟩
        have HT := hide htl
        have HD := hide hdl
        have HFL := hide hfl
        have HN1 := hide (fun w1 (h : Row w1 g4 lo) => news_take h t)
        have HN2 := hide (fun w1 (h : Row w1 g4 lo) => news_drop h (t + 1) (by rw [unhide HLN]; omega))
        have HBS := hide (unhide HM9).b0.size
        clear hrow htl hdl hfl HR9
        unfold maxLen at hcap2
        have tok1 : True := trivial
        have hk8 : k ≤ 100 := by omega
        by_cases hc : t + 1 = cp
        · subst hc
          have hke : k = t + 1 := by omega
          have hzd : Hid (flat (lo.drop (t + 1)) = []) := by show _ = _; rw [List.drop_of_length_le (by rw [unhide HLN]; omega)]; rfl
          go_wp2_with (first
            | (at_builtin; have _t := tok1; refine wpList_append_own _ rfl (.tmp 109) (.tmp 112) 45 rfl w9.heap.size 42 i0 (.agg #[.int .i64 0, .int .i64 0]) 2 16 Tryz.underlying45 (unhide HI) (unhide HZ) (unhide HZ1) (unhide HZ2) rfl (by decide) _ 0 [] rfl (World.ownsRow_nil _ _ _ _) _ _ _ (flat (lo.take t)) rfl (unhide HT) ((unhide HN1) _ (unhide HRW)) (flat_one _) (by unfold maxLen; omega) (by omega) (Nat.le_refl _) ?_; intro v1 w10 o1 q1 n1; have b10 : Below w9.heap.size w9 w10 := (Below.refl _ _).grown q1 (Nat.le_refl _) (fun k hk => by cases hk); have RW1 := hide ((unhide HRW).b b10); have B1 := hide b10; have O1 := hide o1; clear o1 q1 n1 b10 tok1)
            | (at_builtin; refine wpList_append_own _ rfl (.tmp 114) (.tmp 118) 45 rfl w9.heap.size 42 i0 (.agg #[.int .i64 0, .int .i64 0]) 2 16 Tryz.underlying45 (unhide HI) (unhide HZ) (unhide HZ1) (unhide HZ2) rfl (by decide) _ _ _ rfl (unhide O1) _ 0 _ [] rfl rfl (by intro j u h; simp at h) (by intro u h; simp at h) (by unfold maxLen; omega) (by omega) (unhide B1).size ?_; intro v2 w11 o2 q2 n2; have b11 : Below w9.heap.size w9 w11 := (unhide B1).grown q2 (unhide B1).size (own_row (unhide O1)); rw [show 0 + t + 0 = k - 1 by omega] at o2; obtain ⟨p6, d6, rfl⟩ := own_sl o2; have O2 := hide o2; have B2 := hide b11; clear o2 q2 n2 b11))
          have HM11 := hide ((unhide HM9).anew (unhide B2) (ob_new (unhide O2)))
          have HR11 : Hid (w11.ownsRow w.heap.size 42 2 (.slice p6 (k - 1) d6) (k - 1) (flat (lo.take t ++ lo.drop (t + 1)))) := by
            show World.ownsRow _ _ _ _ _ _ _
            rw [(unhide HFL).2, unhide hzd]
            have := own_less (unhide O2) (unhide HBS)
            simpa using this
          clear HM9 O1 O2 B1 B2 HRW RW1 HN1 HN2
          go_wp2_with fail
          go_roundw
          case rel => exact ⟨i + 1, k - 1, Q + 1, _, p6, d6, by first | rfl | (congr 1; omega), by go_num, by omega, by omega, by omega, (unhide HFL).1, HR11, HM11⟩
          case measure => simp [RowKit.intOf]; omega
        · have hlt2 : (t : Int) + 1 < cp := by omega
          go_wp2_with (first
            | (at_builtin; have _t := tok1; refine wpList_append_own _ rfl (.tmp 109) (.tmp 112) 45 rfl w9.heap.size 42 i0 (.agg #[.int .i64 0, .int .i64 0]) 2 16 Tryz.underlying45 (unhide HI) (unhide HZ) (unhide HZ1) (unhide HZ2) rfl (by decide) _ 0 [] rfl (World.ownsRow_nil _ _ _ _) _ _ _ (flat (lo.take t)) rfl (unhide HT) ((unhide HN1) _ (unhide HRW)) (flat_one _) (by unfold maxLen; omega) (by omega) (Nat.le_refl _) ?_; intro v1 w10 o1 q1 n1; have b10 : Below w9.heap.size w9 w10 := (Below.refl _ _).grown q1 (Nat.le_refl _) (fun k hk => by cases hk); have RW1 := hide ((unhide HRW).b b10); have B1 := hide b10; have O1 := hide o1; clear o1 q1 n1 b10 tok1)
            | (at_builtin; refine wpList_append_own _ rfl (.tmp 114) (.tmp 118) 45 rfl w9.heap.size 42 i0 (.agg #[.int .i64 0, .int .i64 0]) 2 16 Tryz.underlying45 (unhide HI) (unhide HZ) (unhide HZ1) (unhide HZ2) rfl (by decide) _ _ _ rfl (unhide O1) _ _ _ (flat (lo.drop (t + 1))) rfl (unhide HD) ((unhide HN2) _ (unhide RW1)) (flat_one _) (by unfold maxLen; omega) (by omega) (unhide B1).size ?_; intro v2 w11 o2 q2 n2; have b11 : Below w9.heap.size w9 w11 := (unhide B1).grown q2 (unhide B1).size (own_row (unhide O1)); rw [show 0 + t + (k - (t + 1)) = k - 1 by omega] at o2; obtain ⟨p6, d6, rfl⟩ := own_sl o2; have O2 := hide o2; have B2 := hide b11; clear o2 q2 n2 b11))
          have HM11 := hide ((unhide HM9).anew (unhide B2) (ob_new (unhide O2)))
          have HR11 : Hid (w11.ownsRow w.heap.size 42 2 (.slice p6 (k - 1) d6) (k - 1) (flat (lo.take t ++ lo.drop (t + 1)))) := by
            show World.ownsRow _ _ _ _ _ _ _
            rw [(unhide HFL).2]
            have := own_less (unhide O2) (unhide HBS)
            simpa using this
          clear HM9 O1 O2 B1 B2 HRW RW1 HN1 HN2
          go_wp2_with fail
          go_roundw
          case rel => exact ⟨i + 1, k - 1, Q + 1, _, p6, d6, by first | rfl | (congr 1; omega), by go_num, by omega, by omega, by omega, (unhide HFL).1, HR11, HM11⟩
          case measure => simp [RowKit.intOf]; omega
      · have hgv3 : (s.toList == [103, 105, 118, 101]) = false ∨ ((s.toList == [103, 105, 118, 101]) = true ∧ k = 0 ∧ decide ((k : Int) > 0) = false) ∨ ((s.toList == [103, 105, 118, 101]) = true ∧ 0 < k ∧ decide ((k : Int) > 0) = true ∧ an < 0 ∧ decide (an ≥ 0) = false) := by
          cases hG : (s.toList == [103, 105, 118, 101]) with
          | false => exact Or.inl rfl
          | true =>
            by_cases hk0 : 0 < k
            · have han : an < 0 := Int.lt_of_not_ge fun h => hgv ⟨hG, hk0, h⟩
              exact Or.inr (Or.inr ⟨rfl, hk0, by simp; omega, han, by simp; omega⟩)
            · exact Or.inr (Or.inl ⟨rfl, by omega, by simp; omega⟩)
        have HTK := hide ((unhide M5).take (Nat.le_refl _) e (unhide HEM) ak 0 u)
        have hk8 : k ≤ 100 := by omega
        clear hgv M5
        rcases hgv3 with hG | ⟨hG, hkz, d2⟩ | ⟨hG, hk0, d2, han, d3⟩
        all_goals (
          go_wp2_with fail
          refine (unhide HTK).mono ?_
          intro ev w6 hT
          cases hT with
          | no a' M6 U6 =>
            have f := ballo (Below.refl w6.heap.size w6) (.cells #[.int .i64 0, .int .i64 0] 42)
            have HM7 := hide (M6.b f)
            have HR7 := hide (own_b (row_uk (unhide R5) U6) f)
            clear HTK M6 U6 f R5 a0 a1 a3 a4
            unfold objV errV
            go_wp2_with fail
            go_roundw
            case rel => exact ⟨i + 1, k, Q, lo, p, cp, by first | rfl | (congr 1; omega), by go_num, by omega, by omega, by omega, unhide HLN, HR7, HM7⟩
            case measure => simp [RowKit.intOf] <;> omega
          | yes pN pA M6 U6 hn =>
            have f := ballo (Below.refl w6.heap.size w6) (.cells #[.int .i64 pN, .int .i64 pA] 42)
            have HM7 := hide (M6.b f)
            have HR7 := hide (own_b (row_uk (unhide R5) U6) f)
            have HB7 := hide (Bx.new w6 pN pA)
            have HNN := hide hn
            clear HTK M6 U6 f R5 a0 a1 a3 a4 hn
            unfold objV
            go_upto_region 27 with (fail)
            generalize w6.alloc (.cells #[.int .i64 pN, .int .i64 pA] 42) = W7 at *
            generalize w6.heap.size = p7 at *
            go_wp2_with fail
            go_loopw [20] (fun s20 wr => ∃ t : Nat, s20 = .int .i64 t ∧ t ≤ k ∧ Hid (Below W7.heap.size W7 wr)) (fun s _ => k - (RowKit.intOf s).toNat)
            case atStart => exact ⟨0, rfl, Nat.zero_le _, Below.refl _ _⟩
            case round =>
              obtain ⟨t, rfl, ht, HB⟩ := hrel
              obtain ⟨y0, y1⟩ := (unhide HB7).b (unhide HB)
              simp only at y0 y1
              by_cases htj : t < k
              · first
                | (exfalso; omega)
                | (
                  have htl : (t : Int) < k := by omega
                  have ht0 : (0 : Int) ≤ t := by omega
                  obtain ⟨x, y, hxy⟩ : ∃ x y, lo[t]? = some (x, y) := ⟨_, _, List.getElem?_eq_getElem (by rw [unhide HLN]; exact htj)⟩
                  obtain ⟨gr, rfl, x0, x1⟩ := out_at (own_b (unhide HR7) (unhide HB)) (unhide HLN) hxy
                  have hne : (x, y) ≠ (pN, pA) := fun e => unhide HNN (e ▸ List.mem_of_getElem? hxy)
                  clear hxy
                  by_cases hx : x = pN
                  · subst hx
                    have hya : ¬ y = pA := fun e => hne (by rw [e])
                    have hd : decide (y = pA) = false := by simpa using hya
                    clear hne
                    go_wp2_with fail
                    go_quiet (fail)
                    go_wp2_with fail
                    go_roundw
                    case rel => exact ⟨t + 1, by go_num, by omega, bdN (unhide HB) _⟩
                    case measure => simp [RowKit.intOf] <;> omega
                  · have hd : decide (x = pN) = false := by simpa using hx
                    clear hne
                    go_wp2_with fail
                    go_quiet (fail)
                    go_wp2_with fail
                    go_roundw
                    case rel => exact ⟨t + 1, by go_num, by omega, bdN (unhide HB) _⟩
                    case measure => simp [RowKit.intOf] <;> omega)
              · obtain rfl : t = k := by omega
                have hnl : ¬ (t : Int) < t := by omega
                have hb6 := btr (unhide HB) (ballo (Below.refl wr.heap.size wr) (.cells #[.int .i64 pN, .int .i64 pA] 42))
                have R8 := hide (own_b (unhide HR7) hb6)
                have M8 := hide ((unhide HM7).b hb6)
                have HBB := hide (unhide M8).b0.size
                clear hb6 HM7 HR7 HB7 HB HNN
                go_wp2_with (at_builtin; refine wpList_append_lies _ rfl (.tmp 143) (.tmp 145) 45 rfl w.heap.size 42 i0 (.agg #[.int .i64 0, .int .i64 0]) 2 16 Tryz.underlying45 (unhide HI) (unhide HZ) (unhide HZ1) (unhide HZ2) rfl (by decide) (.slice p t cp) t (flat lo) (by simp [Act.eval] <;> omega) (unhide R8) ⟨wr.heap.size, 0, none⟩ 1 1 [.int .i64 pN, .int .i64 pA] (by simp [Act.eval]) rfl (by intro j u hj; match j, hj with | 0, hj => (simp at hj; subst hj; simp [Addr.add]) | 1, hj => (simp at hj; subst hj; simp [Addr.add])) (by intro u hu; simp at hu; rcases hu with rfl | rfl <;> rfl) (by omega) (by unfold maxLen; omega) (by omega) (unhide HBB) _ rfl ?_; intro g4 c4 w8 o4 q4 hg4 hg5; have M9 := hide ((unhide M8).grown q4 o4 hg4); have R9 := hide o4; clear o4 q4 hg4 hg5 R8 M8)
                clear y0 y1 HBB
                go_roundw
                case rel => exact ⟨i + 1, t + 1, Q, lo ++ [(pN, pA)], some ⟨g4, 0, none⟩, c4, by first | rfl | (congr 1; omega), by go_num, by omega, by omega, by omega, by simp [unhide HLN], by rw [flat_snoc]; exact R9, M9⟩
                case measure => simp [RowKit.intOf] <;> omega)
    · have hin : i = ln := by omega
      subst hin
      have hnl : ¬ (i : Int) < i := by omega
      have HLN := hide hlo
      have HEM' := hide ((unhide HM).empty (Nat.le_refl _) (by omega) e (unhide HEM))
      clear HM hlo
      go_wp2_with fail
      refine (unhide HEM').mono ?_
      rintro ev w5 ⟨⟨v5, rfl⟩, ME5, _⟩
      rw [unhide HLN] at ME5
      have HME := hide ME5
      clear HEM' ME5 HR HLN
      have hQ : Q ≤ 900000 := by omega
      have hk : k ≤ 1000 := by omega
      go_wp2_with fail
      go_loopw [21] (fun s21 wr => ∃ j : Nat, s21 = .int .i64 j ∧ j ≤ nn ∧ Hid (ME w w.heap.size (OB (.slice p k cp)) c z d g n0 m mn lw hh nb fm tm fr nn Q j k wr)) (fun s _ => nn - (RowKit.intOf s).toNat)
      case atStart => exact ⟨0, rfl, Nat.zero_le _, HME⟩
      case round =>
        clear HME
        obtain ⟨j, rfl, hj, HM⟩ := hrel
        by_cases hjn : j < nn
        · have hjl : (j : Int) < nn := by omega
          have HDR := hide ((unhide HM).drain (Nat.le_refl _) e (unhide HEM) hjn)
          clear HM
          go_wp2_with fail
          refine (unhide HDR).mono ?_
          rintro ev w6 ⟨⟨v6, rfl⟩, M6, _⟩
          have HM6 := hide M6
          clear HDR M6
          go_wp2_with fail
          go_roundw
          case rel => exact ⟨j + 1, by go_num, by omega, HM6⟩
          case measure => simp [RowKit.intOf] <;> omega
        · obtain rfl : j = nn := by omega
          have hnl2 : ¬ (j : Int) < j := by omega
          have HCT := hide (unhide HM).done
          have HB := hide (unhide HM).b0
          clear HM
          go_wp2_with fail
          refine (unhide HCT).mono ?_
          rintro ev w6 ⟨⟨r6, rfl⟩, b6⟩
          go_wp2_with fail
          go_ret
          exact ⟨rfl, btr (unhide HB) b6⟩
end Mg
end Go.Proofs.YtfefehkapffljaaGreatDoor
