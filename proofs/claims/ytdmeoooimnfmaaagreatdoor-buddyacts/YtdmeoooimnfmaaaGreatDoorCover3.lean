/- The contract of the document's answer's own CoverOf: the blocks that cover the pages. -/
import Derived.Test.YtdmeoooimnfmaaaGreatDoorCover2
import Derived.Test.YtdmeoooimnfmaaaGreatDoorBlocks2
namespace Go.Proofs.YtdmeoooimnfmaaaGreatDoor
open Go.RowKit
namespace Fr
theorem al_rem_eq (a k : Int) : (a % pw k == 0) = al a k := by
  have h := al_rem a k
  cases hc : al a k
  · rw [hc] at h; simpa using h
  · rw [hc] at h; simpa using h

theorem news2 (w : World) (x k : Int) : ∀ j u, ([.int .i64 x, .int .i64 k] : List Value)[j]? = some u → (w.alloc (blkO x k)).cell? ((⟨w.heap.size, 0, none⟩ : Addr).add j) = some u := by
  intro j u hj
  match j, hj with
  | 0, hj => simp at hj; subst hj; simp [Addr.add]
  | 1, hj => simp at hj; subst hj; simp [Addr.add]
theorem one2 (x k : Int) : ∀ u ∈ ([.int .i64 x, .int .i64 k] : List Value), u.oneCell' = true := by
  intro u hu
  simp at hu
  rcases hu with rfl | rfl <;> rfl

set_option maxRecDepth 100000 in
set_option maxHeartbeats 8000000 in
theorem rcover_ok (a n : Int) (w : World) (h0 : 0 ≤ a) (hn : 0 ≤ n) (h2 : a + n ≤ 256) :
    Calls Tryz.prog 22 #[.int .i64 a, .int .i64 n] w fun ev w' => ∃ v, ev = .returned (.tuple #[v, .bool true]) ∧ w'.ownsRow w.heap.size 33 2 v (cv a n).length (flat (cv a n)) ∧ Below w.heap.size w w' ∧ (cv a n = [] → v = .slice none 0 0) := by
  obtain ⟨i0, hi, hz0, hz1, hz2⟩ := info_parts info36
  have d1 : decide (a < 0) = false := by simp; omega
  have d2 : decide (256 < a) = false := by simp; omega
  have d3 : decide (n < 0) = false := by simp; omega
  have d4 : decide (256 < n) = false := by simp; omega
  have d5 : decide (256 < a + n) = false := by simp; omega
  have hlen : (cv a n).length ≤ 256 := by have := cv_length a n; omega
  have hL : [] ++ cv a (a + n - a) = cv a n := by rw [show a + n - a = n from by omega]; rfl
  generalize cv a n = L at *
  have HL := hide hL
  have HI := hide hi
  have HZ := hide hz0
  have HZ1 := hide hz1
  have HZ2 := hide hz2
  clear hL hi hz0 hz1 hz2
  have hat : a ≤ a + n := by omega
  go_enter Tryz.func22, Tryz.ntmps22
  go_wp2_with fail
  clear d1 d2 d3 d4 d5
  obtain ⟨t, ht⟩ : ∃ t, t = a + n := ⟨_, rfl⟩
  have hnt : n = t - a := by omega
  rw [← ht] at HL h2 hat
  subst hnt
  clear ht
  go_loopw [0, 1, 6] (fun p q b wr => ∃ (x : Int) (D : List (Int × Int)), p = .int .i64 x ∧ q = .int .i64 (t - x) ∧ 0 ≤ x ∧ x ≤ t ∧ Hid (D ++ cv x (t - x) = L) ∧ wr.ownsRow w.heap.size 33 2 b D.length (flat D) ∧ Below w.heap.size w wr ∧ Hid (D = [] → b = .slice none 0 0)) (fun _ q _ _ => (intOf q).toNat)
  case atStart => exact ⟨a, [], rfl, rfl, h0, by omega, HL, World.ownsRow_nil _ _ _ _, Below.refl _ _, fun _ => rfl⟩
  case round =>
    obtain ⟨x, D, rfl, rfl, x0, xt, hD, hown, hb, hnil⟩ := hrel
    by_cases hlt : x < t
    · have hdl : D.length ≤ 256 := by
        have := congrArg List.length (unhide hD); simp at this; omega
      go_wp2_with fail
      go_loop [7] (fun k => ∃ j : Int, 0 ≤ j ∧ j ≤ 6 ∧ Hid (upto x (t - x) j) ∧ k = .int .i64 j) (fun k => 6 - (intOf k).toNat)
      case atStart => exact ⟨0, by omega, by omega, upto_zero _ _, rfl⟩
      case round =>
        obtain ⟨j, j0, j6, hu, rfl⟩ := hrel
        by_cases hc : j ≤ 5 ∧ cond x (t - x) (j + 1) = true
        · obtain ⟨j5, hc⟩ := hc
          have HC := hide hc
          simp only [cond, Bool.and_eq_true, decide_eq_true_eq] at hc
          obtain ⟨ha, hs⟩ := hc
          have hr := al_rem_eq x (j + 1)
          rw [ha] at hr
          have hp := pw_pos (j + 1)
          have HP := fun w => hide (pages_ok (j + 1) w (by omega) (by omega))
          clear ha
          generalize pw (j + 1) = d at *
          go_wp2_with fail
          refine (unhide (HP _)).mono ?_
          rintro ev w3 ⟨rfl, rfl⟩
          go_wp2_with fail
          refine (unhide (HP _)).mono ?_
          rintro ev w4 ⟨rfl, rfl⟩
          go_wp2_with fail
          go_round
          case rel => exact ⟨j + 1, by omega, by omega, upto_succ (unhide hu) (unhide HC), rfl⟩
          case measure => simp [intOf]; omega
        · have HW := hide (wid_of (unhide hu) j0 j6 (by
            by_cases h6 : j = 6
            · exact Or.inl h6
            · right
              have := fun h => hc ⟨by omega, h⟩
              simpa using this))
          by_cases h6 : j = 6
          · have c6 : decide (j < 6) = false := by simp; omega
            clear hc h6
            have hw := wid_facts x (t - x) (by omega)
            have hp := pw_pos (wid x (t - x))
            have hp2 := pw_le6 (wid x (t - x)) hw.1 hw.2.1
            have HP := fun w => hide (pages_ok (wid x (t - x)) w hw.1 hw.2.1)
            have HS := fun v' w1 o h1 h2 h3 => hide (cov_step (L := L) (v' := v') (w1 := w1) (o := o) hlt (unhide hD) hown hb h1 h2 h3)
            have HWJ := unhide HW
            rw [HWJ] at hw hp hp2 HP HS
            clear HWJ
            obtain ⟨k0, k6, _, kr⟩ := hw
            generalize pw j = d at *
            have sz := hb.size
            go_wp2_with (at_builtin; refine wpList_append_own _ rfl (.tmp 49) (.tmp 53) 46 rfl w.heap.size 33 i0 (.agg #[.int .i64 0, .int .i64 0]) 2 16 Tryz.underlying46 (unhide HI) (unhide HZ) (unhide HZ1) (unhide HZ2) rfl (by decide) _ _ _ rfl (hown.alloc _) ⟨wr.heap.size, 0, none⟩ 1 1 [.int .i64 x, .int .i64 j] rfl rfl (news2 _ x j) (one2 x j) (by unfold maxLen; omega) (by omega) (by simp; omega) ?_)
            intro v' w1 hown' hgrow hnil'
            have R := hide ((unhide (HS v' w1 _ hown' hgrow (by simpa using hnil'))))
            clear hown' hgrow hnil' hown hb sz
            go_wp2_with fail
            refine (unhide (HP _)).mono ?_
            rintro ev w3 ⟨rfl, rfl⟩
            go_wp2_with fail
            refine (unhide (HP _)).mono ?_
            rintro ev w4 ⟨rfl, rfl⟩
            go_wp2_with fail
            go_roundw
            case rel =>
              have R := unhide R
              exact ⟨x + d, D ++ [(x, j)], rfl, by go_num, by omega, by omega, R.1, R.2.1, R.2.2.1, R.2.2.2⟩
            case measure => simp [intOf]; omega
          · have hc2 : cond x (t - x) (j + 1) = false := by
              have := fun h => hc ⟨by omega, h⟩
              simpa using this
            clear hc
            have hr := al_rem_eq x (j + 1)
            have hpp := pw_pos (j + 1)
            have HPP := fun w => hide (pages_ok (j + 1) w (by omega) (by omega))
            by_cases ha : al x (j + 1) = true
            · rw [ha] at hr
              have hs : ¬ pw (j + 1) ≤ t - x := by simpa [cond, ha] using hc2
              clear hc2 ha
              generalize pw (j + 1) = dd at *
              go_wp2_with fail
              refine (unhide (HPP _)).mono ?_
              rintro ev w3 ⟨rfl, rfl⟩
              go_wp2_with fail
              refine (unhide (HPP _)).mono ?_
              rintro ev w4 ⟨rfl, rfl⟩
              clear HPP
              have hw := wid_facts x (t - x) (by omega)
              have hp := pw_pos (wid x (t - x))
              have hp2 := pw_le6 (wid x (t - x)) hw.1 hw.2.1
              have HP := fun w => hide (pages_ok (wid x (t - x)) w hw.1 hw.2.1)
              have HS := fun v' w1 o h1 h2 h3 => hide (cov_step (L := L) (v' := v') (w1 := w1) (o := o) hlt (unhide hD) hown hb h1 h2 h3)
              have HWJ := unhide HW
              rw [HWJ] at hw hp hp2 HP HS
              clear HWJ
              obtain ⟨k0, k6, _, kr⟩ := hw
              generalize pw j = d at *
              have sz := hb.size
              go_wp2_with (at_builtin; refine wpList_append_own _ rfl (.tmp 49) (.tmp 53) 46 rfl w.heap.size 33 i0 (.agg #[.int .i64 0, .int .i64 0]) 2 16 Tryz.underlying46 (unhide HI) (unhide HZ) (unhide HZ1) (unhide HZ2) rfl (by decide) _ _ _ rfl (hown.alloc _) ⟨w4.heap.size, 0, none⟩ 1 1 [.int .i64 x, .int .i64 j] rfl rfl (news2 _ x j) (one2 x j) (by unfold maxLen; omega) (by omega) (by simp; omega) ?_)
              intro v' w1 hown' hgrow hnil'
              have R := hide ((unhide (HS v' w1 _ hown' hgrow (by simpa using hnil'))))
              clear hown' hgrow hnil' hown hb sz
              go_wp2_with fail
              refine (unhide (HP _)).mono ?_
              rintro ev w3 ⟨rfl, rfl⟩
              go_wp2_with fail
              refine (unhide (HP _)).mono ?_
              rintro ev w4 ⟨rfl, rfl⟩
              go_wp2_with fail
              go_roundw
              case rel =>
                have R := unhide R
                exact ⟨x + d, D ++ [(x, j)], rfl, by go_num, by omega, by omega, R.1, R.2.1, R.2.2.1, R.2.2.2⟩
              case measure => simp [intOf]; omega
            · rw [show al x (j + 1) = false by simpa using ha] at hr
              clear hc2 ha
              generalize pw (j + 1) = dd at *
              go_wp2_with fail
              refine (unhide (HPP _)).mono ?_
              rintro ev w3 ⟨rfl, rfl⟩
              clear HPP
              have hw := wid_facts x (t - x) (by omega)
              have hp := pw_pos (wid x (t - x))
              have hp2 := pw_le6 (wid x (t - x)) hw.1 hw.2.1
              have HP := fun w => hide (pages_ok (wid x (t - x)) w hw.1 hw.2.1)
              have HS := fun v' w1 o h1 h2 h3 => hide (cov_step (L := L) (v' := v') (w1 := w1) (o := o) hlt (unhide hD) hown hb h1 h2 h3)
              have HWJ := unhide HW
              rw [HWJ] at hw hp hp2 HP HS
              clear HWJ
              obtain ⟨k0, k6, _, kr⟩ := hw
              generalize pw j = d at *
              have sz := hb.size
              go_wp2_with (at_builtin; refine wpList_append_own _ rfl (.tmp 49) (.tmp 53) 46 rfl w.heap.size 33 i0 (.agg #[.int .i64 0, .int .i64 0]) 2 16 Tryz.underlying46 (unhide HI) (unhide HZ) (unhide HZ1) (unhide HZ2) rfl (by decide) _ _ _ rfl (hown.alloc _) ⟨w3.heap.size, 0, none⟩ 1 1 [.int .i64 x, .int .i64 j] rfl rfl (news2 _ x j) (one2 x j) (by unfold maxLen; omega) (by omega) (by simp; omega) ?_)
              intro v' w1 hown' hgrow hnil'
              have R := hide ((unhide (HS v' w1 _ hown' hgrow (by simpa using hnil'))))
              clear hown' hgrow hnil' hown hb sz
              go_wp2_with fail
              refine (unhide (HP _)).mono ?_
              rintro ev w3 ⟨rfl, rfl⟩
              go_wp2_with fail
              refine (unhide (HP _)).mono ?_
              rintro ev w4 ⟨rfl, rfl⟩
              go_wp2_with fail
              go_roundw
              case rel =>
                have R := unhide R
                exact ⟨x + d, D ++ [(x, j)], rfl, by go_num, by omega, by omega, R.1, R.2.1, R.2.2.1, R.2.2.2⟩
              case measure => simp [intOf]; omega
    · have hxt : x = t := by omega
      have hDL : D = L := by
        have := unhide hD
        rw [cv_nil _ _ (by omega)] at this
        simpa using this
      have hfin : wr.ownsRow w.heap.size 33 2 u6 L.length (flat L) ∧ (L = [] → u6 = .slice none 0 0) := by rw [← hDL]; exact ⟨hown, unhide hnil⟩
      have HF := hide hfin
      have hle : decide (0 < t - x) = false := by simp; omega
      clear hfin hDL hown hnil hD hxt
      go_wp2_with fail
      go_ret2
      exact ⟨_, rfl, (unhide HF).1, hb, (unhide HF).2⟩
end Fr
end Go.Proofs.YtdmeoooimnfmaaaGreatDoor
