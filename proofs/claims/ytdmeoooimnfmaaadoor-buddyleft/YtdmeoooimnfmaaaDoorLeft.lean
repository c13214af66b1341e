/- BuddyLeft: its walk, over the contracts. -/
import Derived.Test.YtdmeoooimnfmaaaDoorWhole
namespace Go.Proofs.YtdmeoooimnfmaaaDoor
open Go.RowKit Go.Maps
namespace Bd
open Fr
theorem errs4 {w : World} {e : Nat → Addr} (h : Errs w e) : Errs4 w e := ⟨h.three, h.v4⟩
theorem any_take {L : List Bl} (f : Bl → Bool) {j : Nat} (h : j < L.length) : (L.take (j + 1)).any f = ((L.take j).any f || f L[j]) := by
  rw [List.take_succ_eq_append_getElem h, List.any_append]; simp

set_option maxRecDepth 100000 in
set_option maxHeartbeats 16000000 in
theorem left_ok (N : Int) (p : Option Addr) (n cap : Nat) (z : Nat → Int) (o : Int) (w : World) (e : Nat → Addr) (he : Errs w e) (h1 : 1 ≤ N) (h2 : N ≤ 256) (hn : n ≤ 60) (o0 : 0 ≤ o) (o6 : o ≤ 6) (hz : Ints w p n z) :
    Calls Tryd.prog 9 #[.int .i64 N, .slice p n cap, .int .i64 o] w fun ev w' => ev = .returned (.bool true) ∧ Below w.heap.size w w' := by
  have HE := hide he
  have HZ := hide hz
  clear he hz
  have d1 : decide ((60 : Int) < n) = false := by simp; omega
  have d2 : decide (N < 1) = false := by simp; omega
  have d3 : decide (256 < N) = false := by simp; omega
  have d4 : decide (o < 0) = false := by simp; omega
  have d5 : decide (6 < o) = false := by simp; omega
  go_enter Tryd.func9, Tryd.ntmps9
  go_wp2_with fail
  refine (paired_ok w e (unhide HE).three).mono ?_
  rintro ev w1 ⟨rfl, b1⟩
  go_wp2_with fail
  refine (new_ok N w1 h1 h2).mono ?_
  rintro ev w2 ⟨b, fm, tm, rfl, B2, hfm, htm, b2⟩
  have F2 := hide (btr b1 b2)
  have hfm2 : w.heap.size ≤ fm := Nat.le_trans b1.size hfm
  have htm2 : w.heap.size ≤ tm := Nat.le_trans b1.size htm
  have B2 := hide B2
  have I0 := hide (cv_inv N (by omega))
  clear d1 d2 d3 d4 d5 b1 b2 hfm htm
  unfold ptr at *
  go_wp2_with fail
  go_loopw [10] (fun a wr => ∃ (i : Nat) (F T : List Bl), a = .int .i64 i ∧ i ≤ n ∧ Hid (Inv N F T) ∧ Hid (Bud wr b fm tm N F T) ∧ Hid (Below w.heap.size w wr)) (fun a _ => n - (RowKit.intOf a).toNat)
  case atStart => exact ⟨0, _, _, rfl, Nat.zero_le _, I0, B2, F2⟩
  case round =>
    clear I0 B2 F2
    obtain ⟨i, F, T, rfl, hi, hI, hB, hF⟩ := hrel
    by_cases hin : i < n
    · obtain ⟨blk, off, rfl, hbl, hzc, z0, z1⟩ := (unhide HZ) i hin
      have hlt : (i : Int) < n := by omega
      have hge : (0 : Int) ≤ i := by omega
      go_wp2_with fail
      refine (taken_ok b fm tm N F T wr (unhide hB)).mono ?_
      rintro ev w4 ⟨vt, rfl, r4, n4, b4⟩
      obtain ⟨pt, ct, rfl, mt, kt, s4⟩ := sl_of r4 n4
      have S4 := hide s4
      have B4 := hide ((unhide hB).b b4)
      have F4 := hide (btr (unhide hF) b4)
      have cz := ((unhide F4).cell (p := ⟨blk, off + i, none⟩) hbl).trans hzc
      have hTl := (unhide hB).t.len
      clear r4 n4 s4 hB hF b4 hzc
      unfold maxLen at mt
      generalize z i = q at *
      generalize hnT : T.length = nT at *
      by_cases hgv : q < 0 ∧ 0 < nT
      · obtain ⟨hneg, hpos⟩ := hgv
        have e2 : decide (q < 0) = true := by simp; omega
        have e3 : decide ((0 : Int) < nT) = true := by simp; omega
        obtain ⟨m, hm, hrem⟩ := rem_neg hneg hpos
        have hmT : m < T.length := by omega
        obtain ⟨g, rfl, hgl, c1, c2⟩ := (unhide S4).at hmT
        have hmem := List.getElem_mem hmT
        have HI2 := hide (give_inv (unhide hI) hmem)
        have E4 := ((unhide HE).below (unhide F4)).three
        have HG := hide (give_ok b fm tm N F T T[m] w4 e E4 (unhide B4) (unhide hI) h2 hmem)
        generalize T[m] = x at *
        obtain ⟨x1, x2⟩ := x
        have hm1 : (m : Int) < nT := by omega
        have hm0 : (0 : Int) ≤ m := by omega
        have hnz : ((nT : Int) == 0) = false := by simp; omega
        clear hI E4 hpos
        unfold ptr at *
        simp only at c1 c2 HG
        go_wp2_with fail
        refine (unhide HG).mono ?_
        rintro ev w5 ⟨rfl, B5, k5⟩
        have F5 := hide ((unhide F4).trans (k5.below hfm2 htm2 (unhide F4).size))
        clear B4 F4 S4 HG c1 c2
        go_wp2_with fail
        go_roundw
        case rel => exact ⟨i + 1, _, _, by go_num, by omega, HI2, hide B5, F5⟩
        case measure => simp [RowKit.intOf]; omega
      · have htake : Hid (∃ F' T', Inv N F' T' ∧ Calls Tryd.prog 34 #[ptr b, .int .i64 q] w4 fun ev w' => (∃ v1 v2, ev = .returned (.tuple #[v1, v2])) ∧ Bud w' b fm tm N F' T' ∧ Kept fm tm w4 w') := by
          show ∃ F' T', _
          by_cases hq : q < 0 ∨ 6 < q
          · refine ⟨F, T, unhide hI, ?_⟩
            refine (take_bound b q w4 e ((unhide HE).below (unhide F4)).three hq).mono ?_
            rintro ev w' ⟨rfl, hb⟩
            exact ⟨⟨_, _, rfl⟩, (unhide B4).b hb, kept_of hb⟩
          · cases hfit : fit q F with
            | none =>
              refine ⟨F, T, unhide hI, ?_⟩
              refine (take_full b fm tm N F T q w4 e (errs4 ((unhide HE).below (unhide F4))) (unhide B4) (by omega) (by omega) hfit).mono ?_
              rintro ev w' ⟨rfl, hb⟩
              exact ⟨⟨_, _, rfl⟩, (unhide B4).b hb, kept_of hb⟩
            | some x =>
              refine ⟨_, _, take_inv (by omega) (unhide hI) (fit_some hfit).1 (fit_some hfit).2, ?_⟩
              refine (take_ok b fm tm N F T q x w4 (unhide B4) (unhide hI) h2 (by omega) (by omega) hfit).mono ?_
              rintro ev w' ⟨rfl, hb, hk⟩
              exact ⟨⟨_, _, rfl⟩, hb, hk⟩
        obtain ⟨F', T', HI2, HG⟩ := unhide htake
        have HI2 := hide HI2
        have HG := hide HG
        clear htake hI
        unfold ptr at *
        by_cases hneg : q < 0
        · have e2 : decide (q < 0) = true := by simp; omega
          have e3 : decide ((0 : Int) < nT) = false := by simp; omega
          go_wp2_with fail
          refine (unhide HG).mono ?_
          rintro ev w5 ⟨⟨v1, v2, rfl⟩, B5, k5⟩
          have F5 := hide ((unhide F4).trans (k5.below hfm2 htm2 (unhide F4).size))
          clear B4 F4 S4 HG
          go_wp2_with fail
          go_roundw
          case rel => exact ⟨i + 1, _, _, by go_num, by omega, HI2, hide B5, F5⟩
          case measure => simp [RowKit.intOf]; omega
        · have e2 : decide (q < 0) = false := by simp; omega
          go_wp2_with fail
          refine (unhide HG).mono ?_
          rintro ev w5 ⟨⟨v1, v2, rfl⟩, B5, k5⟩
          have F5 := hide ((unhide F4).trans (k5.below hfm2 htm2 (unhide F4).size))
          clear B4 F4 S4 HG
          go_wp2_with fail
          go_roundw
          case rel => exact ⟨i + 1, _, _, by go_num, by omega, HI2, hide B5, F5⟩
          case measure => simp [RowKit.intOf]; omega
    · have hin2 : ¬ (i : Int) < n := by omega
      clear hin
      go_wp2_with fail
      refine (free_ok b fm tm N F T wr (unhide hB)).mono ?_
      rintro ev w4 ⟨vt, rfl, r4, n4, b4⟩
      have L4 := lies_of r4 n4
      obtain ⟨pt, ct, rfl, mt, kt, s4⟩ := sl_of r4 n4
      have S4 := hide s4
      have L4 := hide L4
      have B4 := hide ((unhide hB).b b4)
      have F4 := hide (btr (unhide hF) b4)
      have hFl := (unhide hB).f.len
      clear r4 n4 s4 hB hF b4
      unfold maxLen at mt
      obtain ⟨nF, hnF⟩ : ∃ nF, Hid (F.length = nF) := ⟨_, rfl⟩
      rw [unhide hnF] at hFl kt ⊢
      have L4 : Hid (Lies w4 (.slice pt nF ct) F) := by have := unhide L4; rw [unhide hnF] at this; exact this
      have M0 := Below.refl w4.heap.size w4
      go_wp2_with fail
      go_loopw [13, 14, 15] (fun a _ _ wr => ∃ j : Nat, a = .int .i64 j ∧ 1 ≤ j ∧ (j ≤ nF ∨ j = 1) ∧ Hid (Below w4.heap.size w4 wr)) (fun a _ _ _ => nF - (RowKit.intOf a).toNat)
      case atStart => exact ⟨1, rfl, by omega, Or.inr rfl, M0⟩
      case round =>
        clear M0
        obtain ⟨j, rfl, hj1, _, hM⟩ := hrel
        by_cases hjn : j < nF
        · have hjF : j < F.length := by have := unhide hnF; omega
          obtain ⟨j1, hj1e⟩ : ∃ j1 : Nat, (j : Int) - 1 = j1 := ⟨j - 1, by omega⟩
          have hj1F : j1 < F.length := by omega
          have hmem := List.getElem_mem hjF
          have hmem1 := List.getElem_mem hj1F
          have hin := (unhide hI).inF hmem
          have hok := (unhide hI).oF _ hmem
          have hnb := (unhide hI).nob _ hmem
          unfold Okb at hok
          obtain ⟨g, rfl, hgl, c1, c2⟩ := ((unhide S4).b (unhide hM)).at hjF
          obtain ⟨g', hg', _, y1, y2⟩ := ((unhide S4).b (unhide hM)).at hj1F
          simp only [Option.some.injEq, Addr.mk.injEq, and_true] at hg'
          subst hg'
          have hpp := pw_pos F[j].2
          have hne : F[j].2 < 6 → F[j1] ≠ (bud F[j].1 F[j].2, F[j].2) := fun h6 e => hnb h6 (by rw [← e]; exact hmem1)
          generalize F[j] = x at *
          generalize F[j1] = y at *
          obtain ⟨a, k⟩ := x
          obtain ⟨ya, yk⟩ := y
          simp only at c1 c2 y1 y2 hin hok hne hpp
          have hjlt : (j : Int) < nF := by omega
          have hj0 : (0 : Int) ≤ j := by omega
          have hj1lt : (j1 : Int) < nF := by omega
          have hj10 : (0 : Int) ≤ j1 := by omega
          have hj1n : j1 < nF := by omega
          clear hmem hmem1 hnb
          by_cases hk6 : k = 6
          · subst hk6
            have HB3 := buddy_err a 6 wr e (((unhide HE).below (unhide F4)).below (unhide hM)).three (by unfold lowerE; rw [if_neg (by omega), if_pos ((al_dvd _ _).2 hok.2.2), if_pos rfl]; decide)
            have hl3 : lowerE a 6 = 3 := by unfold lowerE; rw [if_neg (by omega), if_pos ((al_dvd _ _).2 hok.2.2), if_pos rfl]
            rw [hl3] at HB3
            have HB3 := hide HB3
            clear hl3 hne hok hin
            go_wp2_with fail
            refine (unhide HB3).mono ?_
            rintro ev w5 ⟨rfl, b5⟩
            have M5 := hide (ballo (btr (unhide hM) b5) (blkO 0 0))
            clear hM HB3 c1 c2 y1 y2
            go_wp2_with fail
            generalize w5.alloc (blkO 0 0) = W at *
            go_quiet (fail)
            go_wp2
            go_roundw
            case rel => exact ⟨j + 1, by go_num, by omega, by omega, bdrN (unhide M5) _⟩
            case measure => simp [RowKit.intOf]; omega
          · have HB3 := hide (buddy_ok a k wr (by omega) (by omega) (by omega) (by omega) ((al_dvd _ _).2 hok.2.2))
            have hne2 := hne (by omega)
            generalize bud a k = β at *
            have hcs : (β == ya) = false ∨ ((β == ya) = true ∧ (k == yk) = false) := by
              by_cases c : β = ya
              · right
                refine ⟨by simpa using c, ?_⟩
                have : ¬ k = yk := fun c2 => hne2 (by rw [c, c2])
                simpa using this
              · left; simpa using c
            clear hne hne2 hok hin
            go_wp2_with fail
            refine (unhide HB3).mono ?_
            rintro ev w5 ⟨rfl, b5⟩
            have M5 := hide (ballo (btr (unhide hM) b5) (blkO β k))
            have x5 := bx_new w5 (β, k)
            have bb := ballo b5 (blkO β k)
            have y1' := (bb.cell (p := ⟨g, j1 * 2, none⟩) hgl).trans y1
            have y2' := (bb.cell (p := ⟨g, j1 * 2 + 1, none⟩) hgl).trans y2
            have p0 := x5.c0
            have p1 := x5.c1
            simp only at p0 p1
            clear hM HB3 c1 c2 y1 y2 bb b5 x5
            go_wp2_with fail
            generalize w5.alloc (blkO β k) = W at *
            generalize w5.heap.size = c at *
            rcases hcs with h3 | ⟨h3, h4⟩
            · go_quiet (fail)
              go_wp2
              go_roundw
              case rel => exact ⟨j + 1, by go_num, by omega, by omega, bdrN (unhide M5) _⟩
              case measure => simp [RowKit.intOf]; omega
            · go_quiet (fail)
              go_wp2
              go_roundw
              case rel => exact ⟨j + 1, by go_num, by omega, by omega, bdrN (unhide M5) _⟩
              case measure => simp [RowKit.intOf]; omega
        · have hjn2 : ¬ (j : Int) < nF := by omega
          clear hjn
          go_wp2_with fail
          go_loopw [16, 17] (fun gv a wr => ∃ m : Nat, a = .int .i64 m ∧ m ≤ nF ∧ gv = .bool ((F.take m).any fun x => decide (o ≤ x.2)) ∧ Hid (Below w4.heap.size w4 wr)) (fun _ a _ => nF - (RowKit.intOf a).toNat)
          case atStart => exact ⟨0, rfl, Nat.zero_le _, rfl, hM⟩
          case round =>
            clear hM
            obtain ⟨m, rfl, hm, rfl, hM⟩ := hrel
            by_cases hmn : m < nF
            · have hmF : m < F.length := by have := unhide hnF; omega
              obtain ⟨g, rfl, hgl, c1, c2⟩ := ((unhide S4).b (unhide hM)).at hmF
              have hat := hide (any_take (fun x : Bl => decide (o ≤ x.2)) hmF)
              have hmlt : (m : Int) < nF := by omega
              have hm0 : (0 : Int) ≤ m := by omega
              generalize F[m] = x at *
              obtain ⟨xa, xk⟩ := x
              simp only at c1 c2
              by_cases hge : o ≤ xk
              · have hd : decide (o ≤ xk) = true := by simpa using hge
                go_wp2
                go_roundw
                case rel => exact ⟨m + 1, by go_num, by omega, by rw [unhide hat]; simp [hge], hM⟩
                case measure => simp [RowKit.intOf]; omega
              · have hd : decide (o ≤ xk) = false := by simpa using hge
                go_wp2
                go_roundw
                case rel => exact ⟨m + 1, by go_num, by omega, by rw [unhide hat]; simp [hge], hM⟩
                case measure => simp [RowKit.intOf]; omega
            · have hmn2 : ¬ (m : Int) < nF := by omega
              have hall : F.take m = F := List.take_of_length_le (by have := unhide hnF; omega)
              rw [hall]
              have B6 := (unhide B4).b (unhide hM)
              have F6 := hide ((unhide F4).trans ((unhide hM).mono (unhide F4).size))
              have L6 := hide ((unhide L4).b (unhide hM))
              have E6 := hide ((unhide HE).below (unhide F6))
              clear hmn hall hM B4 L4 S4 F4
              cases hfit : fit o F with
              | none =>
                have hgr : (F.any fun x => decide (o ≤ x.2)) = false := by
                  rw [List.any_eq_false]
                  intro x hx
                  have := fit_none.1 hfit x hx
                  simp; omega
                rw [hgr]
                have HT := hide (take_full b fm tm N F T o _ e (errs4 (unhide E6)) B6 o0 o6 hfit)
                unfold ptr at *
                have B6 := hide B6
                clear hgr hfit
                go_wp2_with fail
                refine (unhide HT).mono ?_
                rintro ev w7 ⟨rfl, b7⟩
                have B7 := hide (((unhide B6).b b7).a (blkO 0 0))
                have F7 := hide (ballo (btr (unhide F6) b7) (blkO 0 0))
                have L7 := hide ((unhide L6).b (ballo b7 (blkO 0 0)))
                have X7 := bx_new w7 (0, 0)
                have E7 := hide (((unhide E6).below b7).alloc (blkO 0 0))
                clear HT B6 F6 L6 E6 b7
                go_wp2_with fail
                refine (coded_sent 4 (by omega) 5 (by omega) _ e (unhide E7)).mono ?_
                rintro ev w8 ⟨rfl, b8⟩
                have B8 := (unhide B7).b b8
                have F8 := btr (unhide F7) b8
                have L8 := (unhide L7).b b8
                have X8 := X7.b b8
                have p0 := X8.c0
                have p1 := X8.c1
                simp only at p0 p1
                clear B7 F7 L7 X7 E7 b8 X8
                go_wp2_with fail
                refine (free_ok b fm tm N F T w8 B8).mono ?_
                rintro ev w9 ⟨v9, rfl, r9, n9, b9⟩
                have L9 := lies_of r9 n9
                have L0 := L8.b b9
                have F9 := btr F8 b9
                have hFl2 : F.length ≤ 256 := by have := unhide hnF; omega
                clear r9 n9 B8 L8 F8 b9 p0 p1
                go_wp2_with fail
                refine (same_blocks v9 _ F _ hFl2 L9 L0).mono ?_
                rintro ev w10 ⟨rfl, b10⟩
                have F10 := btr F9 b10
                clear L9 L0 F9 b10
                go_wp2_with fail
                go_ret
                exact ⟨rfl, F10⟩
              | some x =>
                have hgr : (F.any fun x => decide (o ≤ x.2)) = true := by
                  rw [List.any_eq_true]
                  exact ⟨x, (fit_some hfit).1, by simpa using (fit_some hfit).2⟩
                rw [hgr]
                have HT := hide (take_ok b fm tm N F T o x _ B6 (unhide hI) h2 o0 o6 hfit)
                have oo : (o == o) = true := by simp
                unfold ptr at *
                clear hgr hfit B6 L6 E6
                obtain ⟨xa, xk⟩ := x
                simp only at HT
                go_wp2_with fail
                refine (unhide HT).mono ?_
                rintro ev w7 ⟨rfl, B7, k7⟩
                have F7 := ballo ((unhide F6).trans (k7.below hfm2 htm2 (unhide F6).size)) (blkO xa o)
                clear HT B7 k7 F6
                go_wp2_with fail
                go_ret
                exact ⟨rfl, F7⟩
end Bd
end Go.Proofs.YtdmeoooimnfmaaaDoor
