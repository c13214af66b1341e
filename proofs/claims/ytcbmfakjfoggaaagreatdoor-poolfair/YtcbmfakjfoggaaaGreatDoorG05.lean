/- The contract of the document's answer's own CoverOf: the blocks that cover the pages · The contract of package buddy's rising: a map's blocks, by where they begin · The contracts of package buddy's Free, Taken and fit. -/
import Derived.Test.YtcbmfakjfoggaaaGreatDoorG04
import Derived.Maps.OwnOps
import Derived.Test.YtcbmfakjfoggaaaGreatDoorG03
namespace Go.Proofs.YtcbmfakjfoggaaaGreatDoor
open Go.RowKit
namespace Fr
theorem al_rem_eq (a k : Int) : (a % pw k == 0) = al a k := by
  have h := al_rem a k
  cases hc : al a k
  · rw [hc] at h; simpa using h
  · rw [hc] at h; simpa using h

theorem news2 (w : World) (x k : Int) : ∀ j u, ([.int .i64 x, .int .i64 k] : List Value)[j]? = some u → (w.alloc (blkO x k)).cell? ((⟨w.heap.size, 0, none⟩ : Addr).add j) = some u := by
  intro j u hj
  match j, hj with
  | 0, hj => simp at hj; subst hj; simp [Addr.add]
  | 1, hj => simp at hj; subst hj; simp [Addr.add]
theorem one2 (x k : Int) : ∀ u ∈ ([.int .i64 x, .int .i64 k] : List Value), u.oneCell' = true := by
  intro u hu
  simp at hu
  rcases hu with rfl | rfl <;> rfl

set_option maxRecDepth 100000 in
set_option maxHeartbeats 8000000 in
theorem rcover_ok (a n : Int) (w : World) (h0 : 0 ≤ a) (hn : 0 ≤ n) (h2 : a + n ≤ 256) :
    Calls Tryz.prog 200 #[.int .i64 a, .int .i64 n] w fun ev w' => ∃ v, ev = .returned (.tuple #[v, .bool true]) ∧ w'.ownsRow w.heap.size 291 2 v (cv a n).length (flat (cv a n)) ∧ Below w.heap.size w w' ∧ (cv a n = [] → v = .slice none 0 0) := by
  obtain ⟨i0, hi, hz0, hz1, hz2⟩ := info_parts info36
  have d1 : decide (a < 0) = false := by simp; omega
  have d2 : decide (256 < a) = false := by simp; omega
  have d3 : decide (n < 0) = false := by simp; omega
  have d4 : decide (256 < n) = false := by simp; omega
  have d5 : decide (256 < a + n) = false := by simp; omega
  have hlen : (cv a n).length ≤ 256 := by have := cv_length a n; omega
  have hL : [] ++ cv a (a + n - a) = cv a n := by rw [show a + n - a = n from by omega]; rfl
  generalize cv a n = L at *
  have HL := hide hL
  have HI := hide hi
  have HZ := hide hz0
  have HZ1 := hide hz1
  have HZ2 := hide hz2
  clear hL hi hz0 hz1 hz2
  have hat : a ≤ a + n := by omega
  go_enter Tryz.func200, Tryz.ntmps200
  go_wp2_with fail
  clear d1 d2 d3 d4 d5
  obtain ⟨t, ht⟩ : ∃ t, t = a + n := ⟨_, rfl⟩
  have hnt : n = t - a := by omega
  rw [← ht] at HL h2 hat
  subst hnt
  clear ht
  go_loopw [0, 1, 6] (fun p q b wr => ∃ (x : Int) (D : List (Int × Int)), p = .int .i64 x ∧ q = .int .i64 (t - x) ∧ 0 ≤ x ∧ x ≤ t ∧ Hid (D ++ cv x (t - x) = L) ∧ wr.ownsRow w.heap.size 291 2 b D.length (flat D) ∧ Below w.heap.size w wr ∧ Hid (D = [] → b = .slice none 0 0)) (fun _ q _ _ => (intOf q).toNat)
  case atStart => exact ⟨a, [], rfl, rfl, h0, by omega, HL, World.ownsRow_nil _ _ _ _, Below.refl _ _, fun _ => rfl⟩
  case round =>
    obtain ⟨x, D, rfl, rfl, x0, xt, hD, hown, hb, hnil⟩ := hrel
    by_cases hlt : x < t
    · have hdl : D.length ≤ 256 := by
        have := congrArg List.length (unhide hD); simp at this; omega
      go_wp2_with fail
      go_loop [7] (fun k => ∃ j : Int, 0 ≤ j ∧ j ≤ 6 ∧ Hid (upto x (t - x) j) ∧ k = .int .i64 j) (fun k => 6 - (intOf k).toNat)
      case atStart => exact ⟨0, by omega, by omega, upto_zero _ _, rfl⟩
      case round =>
        obtain ⟨j, j0, j6, hu, rfl⟩ := hrel
        by_cases hc : j ≤ 5 ∧ cond x (t - x) (j + 1) = true
        · obtain ⟨j5, hc⟩ := hc
          have HC := hide hc
          simp only [cond, Bool.and_eq_true, decide_eq_true_eq] at hc
          obtain ⟨ha, hs⟩ := hc
          have hr := al_rem_eq x (j + 1)
          rw [ha] at hr
          have hp := pw_pos (j + 1)
          have HP := fun w => hide (pages_ok (j + 1) w (by omega) (by omega))
          clear ha
          generalize pw (j + 1) = d at *
          go_wp2_with fail
          refine (unhide (HP _)).mono ?_
          rintro ev w3 ⟨rfl, rfl⟩
          go_wp2_with fail
          refine (unhide (HP _)).mono ?_
          rintro ev w4 ⟨rfl, rfl⟩
          go_wp2_with fail
          go_round
          case rel => exact ⟨j + 1, by omega, by omega, upto_succ (unhide hu) (unhide HC), rfl⟩
          case measure => simp [intOf]; omega
        · have HW := hide (wid_of (unhide hu) j0 j6 (by
            by_cases h6 : j = 6
            · exact Or.inl h6
            · right
              have := fun h => hc ⟨by omega, h⟩
              simpa using this))
          by_cases h6 : j = 6
          · have c6 : decide (j < 6) = false := by simp; omega
            clear hc h6
            have hw := wid_facts x (t - x) (by omega)
            have hp := pw_pos (wid x (t - x))
            have hp2 := pw_le6 (wid x (t - x)) hw.1 hw.2.1
            have HP := fun w => hide (pages_ok (wid x (t - x)) w hw.1 hw.2.1)
            have HS := fun v' w1 o h1 h2 h3 => hide (cov_step (L := L) (v' := v') (w1 := w1) (o := o) hlt (unhide hD) hown hb h1 h2 h3)
            have HWJ := unhide HW
            rw [HWJ] at hw hp hp2 HP HS
            clear HWJ
            obtain ⟨k0, k6, _, kr⟩ := hw
            generalize pw j = d at *
            have sz := hb.size
            go_wp2_with (at_builtin; refine wpList_append_own _ rfl (.tmp 49) (.tmp 53) 322 rfl w.heap.size 291 i0 (.agg #[.int .i64 0, .int .i64 0]) 2 16 Tryz.underlying322 (unhide HI) (unhide HZ) (unhide HZ1) (unhide HZ2) rfl (by decide) _ _ _ rfl (hown.alloc _) ⟨wr.heap.size, 0, none⟩ 1 1 [.int .i64 x, .int .i64 j] rfl rfl (news2 _ x j) (one2 x j) (by unfold maxLen; omega) (by omega) (by simp; omega) ?_)
            intro v' w1 hown' hgrow hnil'
            have R := hide ((unhide (HS v' w1 _ hown' hgrow (by simpa using hnil'))))
            clear hown' hgrow hnil' hown hb sz
            go_wp2_with fail
            refine (unhide (HP _)).mono ?_
            rintro ev w3 ⟨rfl, rfl⟩
            go_wp2_with fail
            refine (unhide (HP _)).mono ?_
            rintro ev w4 ⟨rfl, rfl⟩
            go_wp2_with fail
            go_roundw
            case rel =>
              have R := unhide R
              exact ⟨x + d, D ++ [(x, j)], rfl, by go_num, by omega, by omega, R.1, R.2.1, R.2.2.1, R.2.2.2⟩
            case measure => simp [intOf]; omega
          · have hc2 : cond x (t - x) (j + 1) = false := by
              have := fun h => hc ⟨by omega, h⟩
              simpa using this
            clear hc
            have hr := al_rem_eq x (j + 1)
            have hpp := pw_pos (j + 1)
            have HPP := fun w => hide (pages_ok (j + 1) w (by omega) (by omega))
            by_cases ha : al x (j + 1) = true
            · rw [ha] at hr
              have hs : ¬ pw (j + 1) ≤ t - x := by simpa [cond, ha] using hc2
              clear hc2 ha
              generalize pw (j + 1) = dd at *
              go_wp2_with fail
              refine (unhide (HPP _)).mono ?_
              rintro ev w3 ⟨rfl, rfl⟩
              go_wp2_with fail
              refine (unhide (HPP _)).mono ?_
              rintro ev w4 ⟨rfl, rfl⟩
              clear HPP
              have hw := wid_facts x (t - x) (by omega)
              have hp := pw_pos (wid x (t - x))
              have hp2 := pw_le6 (wid x (t - x)) hw.1 hw.2.1
              have HP := fun w => hide (pages_ok (wid x (t - x)) w hw.1 hw.2.1)
              have HS := fun v' w1 o h1 h2 h3 => hide (cov_step (L := L) (v' := v') (w1 := w1) (o := o) hlt (unhide hD) hown hb h1 h2 h3)
              have HWJ := unhide HW
              rw [HWJ] at hw hp hp2 HP HS
              clear HWJ
              obtain ⟨k0, k6, _, kr⟩ := hw
              generalize pw j = d at *
              have sz := hb.size
              go_wp2_with (at_builtin; refine wpList_append_own _ rfl (.tmp 49) (.tmp 53) 322 rfl w.heap.size 291 i0 (.agg #[.int .i64 0, .int .i64 0]) 2 16 Tryz.underlying322 (unhide HI) (unhide HZ) (unhide HZ1) (unhide HZ2) rfl (by decide) _ _ _ rfl (hown.alloc _) ⟨w4.heap.size, 0, none⟩ 1 1 [.int .i64 x, .int .i64 j] rfl rfl (news2 _ x j) (one2 x j) (by unfold maxLen; omega) (by omega) (by simp; omega) ?_)
              intro v' w1 hown' hgrow hnil'
              have R := hide ((unhide (HS v' w1 _ hown' hgrow (by simpa using hnil'))))
              clear hown' hgrow hnil' hown hb sz
              go_wp2_with fail
              refine (unhide (HP _)).mono ?_
              rintro ev w3 ⟨rfl, rfl⟩
              go_wp2_with fail
              refine (unhide (HP _)).mono ?_
              rintro ev w4 ⟨rfl, rfl⟩
              go_wp2_with fail
              go_roundw
              case rel =>
                have R := unhide R
                exact ⟨x + d, D ++ [(x, j)], rfl, by go_num, by omega, by omega, R.1, R.2.1, R.2.2.1, R.2.2.2⟩
              case measure => simp [intOf]; omega
            · rw [show al x (j + 1) = false by simpa using ha] at hr
              clear hc2 ha
              generalize pw (j + 1) = dd at *
              go_wp2_with fail
              refine (unhide (HPP _)).mono ?_
              rintro ev w3 ⟨rfl, rfl⟩
              clear HPP
              have hw := wid_facts x (t - x) (by omega)
              have hp := pw_pos (wid x (t - x))
              have hp2 := pw_le6 (wid x (t - x)) hw.1 hw.2.1
              have HP := fun w => hide (pages_ok (wid x (t - x)) w hw.1 hw.2.1)
              have HS := fun v' w1 o h1 h2 h3 => hide (cov_step (L := L) (v' := v') (w1 := w1) (o := o) hlt (unhide hD) hown hb h1 h2 h3)
              have HWJ := unhide HW
              rw [HWJ] at hw hp hp2 HP HS
              clear HWJ
              obtain ⟨k0, k6, _, kr⟩ := hw
              generalize pw j = d at *
              have sz := hb.size
              go_wp2_with (at_builtin; refine wpList_append_own _ rfl (.tmp 49) (.tmp 53) 322 rfl w.heap.size 291 i0 (.agg #[.int .i64 0, .int .i64 0]) 2 16 Tryz.underlying322 (unhide HI) (unhide HZ) (unhide HZ1) (unhide HZ2) rfl (by decide) _ _ _ rfl (hown.alloc _) ⟨w3.heap.size, 0, none⟩ 1 1 [.int .i64 x, .int .i64 j] rfl rfl (news2 _ x j) (one2 x j) (by unfold maxLen; omega) (by omega) (by simp; omega) ?_)
              intro v' w1 hown' hgrow hnil'
              have R := hide ((unhide (HS v' w1 _ hown' hgrow (by simpa using hnil'))))
              clear hown' hgrow hnil' hown hb sz
              go_wp2_with fail
              refine (unhide (HP _)).mono ?_
              rintro ev w3 ⟨rfl, rfl⟩
              go_wp2_with fail
              refine (unhide (HP _)).mono ?_
              rintro ev w4 ⟨rfl, rfl⟩
              go_wp2_with fail
              go_roundw
              case rel =>
                have R := unhide R
                exact ⟨x + d, D ++ [(x, j)], rfl, by go_num, by omega, by omega, R.1, R.2.1, R.2.2.1, R.2.2.2⟩
              case measure => simp [intOf]; omega
    · have hxt : x = t := by omega
      have hDL : D = L := by
        have := unhide hD
        rw [cv_nil _ _ (by omega)] at this
        simpa using this
      have hfin : wr.ownsRow w.heap.size 291 2 u6 L.length (flat L) ∧ (L = [] → u6 = .slice none 0 0) := by rw [← hDL]; exact ⟨hown, unhide hnil⟩
      have HF := hide hfin
      have hle : decide (0 < t - x) = false := by simp; omega
      clear hfin hDL hown hnil hD hxt
      go_wp2_with fail
      go_ret2
      exact ⟨_, rfl, (unhide HF).1, hb, (unhide HF).2⟩
end Fr
end Go.Proofs.YtcbmfakjfoggaaaGreatDoor
namespace Go.Proofs.YtcbmfakjfoggaaaGreatDoor
open Go.RowKit Go.Maps Go.Sort Go.Shelf
namespace Bd
open Fr

theorem sortsA (m : Nat) : AnyZI.SortsIn Tryz.prog sortedA_ren Fence.wide m :=
  ⟨fun blk off cap ss W hH hblk hsz => callsIn_wide.2 (AnyM.slices_Sort_int sortA blk off cap ss W hH hblk hsz),
   fun p cap W => callsIn_wide.2 (AnyM.slices_Sort_int_none sortA p cap W)⟩

theorem keys_ok (mb : Option Nat) (W : World) : Calls Tryz.prog 281 #[.map mb] W fun e w' => e = .returned (.func (.func 292) #[] #[.pointer (some ⟨W.heap.size, 0, none⟩)]) ∧ w' = W.alloc (.cells #[.map mb] 325) :=
  (callsIn_wide (n := 5)).1 (AnyZI.keys_in keysA Fence.wide 5 trivial rfl mb W)

theorem sort_keys {ss : List Int} {L : List Bl} (h : ss.Perm (intKeys (dOf L))) (hs : Srt L) : ss.mergeSort (fun x y => decide (x ≤ y)) = L.map (·.1) := by
  rw [dOf_keys] at h
  rw [show ss.mergeSort (fun x y => decide (x ≤ y)) = (L.map (·.1)).mergeSort (fun x y => decide (x ≤ y)) from mergeSort_of_perm_i h]
  exact List.mergeSort_of_pairwise (by
    rw [List.pairwise_map]
    exact hs.imp (fun h => by simp; omega))

theorem sorted_ok (m : Nat) (L : List Bl) (w : World) (h : Mp w m L) :
    Calls Tryz.prog 105 #[.func (.func 292) #[] #[.pointer (some ⟨w.heap.size, 0, none⟩)]] (w.alloc (.cells #[.map (some m)] 325)) fun e w' => ∃ v, e = .returned v ∧ w'.ownsRow w.heap.size 3 1 v L.length (L.map fun x => .int .i64 x.1) ∧ (L = [] → v = .slice none 0 0) ∧ Below w.heap.size w w' := by
  have hown := h.own
  have hl := h.len
  have hbl := hown.lt
  have hmax : Maps.size (dOf L) ≤ maxLen := by rw [dOf_size]; unfold maxLen; omega
  have hbytes : Maps.size (dOf L) * 8 ≤ 140737488355328 := by rw [dOf_size]; omega
  have hseq : SeqGives Fence.wide 2 Tryz.prog 292 #[.pointer (some ⟨w.heap.size, 0, none⟩)] encZ (fun ss => ss.Perm (intKeys (dOf L))) (Maps.size (dOf L)) (w.alloc (.cells #[.map (some m)] 325)) :=
    AnyZI.keys_gives (ρ := keysA_ren) { keysA with } Fence.wide _ trivial rfl (by omega) w.heap.size m L.length (dOf L) _ (by simp) (by simp) (by
      obtain ⟨es, clock, hb, Ft, hs, hD⟩ := hown
      exact ⟨es, clock, (Below.heap_alloc _ _ m hbl).trans hb, Ft, hs, hD⟩)
  have cS := AnyZI.sorted_in sortedA Fence.wide 5 trivial trivial trivial trivial rfl (by omega) (sortsA _) (enters_of Tryz.func178 (by kernel_rfl) rfl) 292 #[.pointer (some ⟨w.heap.size, 0, none⟩)] trivial (enters_of Tryz.func292 (by kernel_rfl) rfl) _ _ hmax hbytes _ hseq
  change CallsIn _ _ Tryz.prog 105 _ _ _ at cS
  refine ((callsIn_wide (n := 5)).1 cS).mono ?_
  rintro e w' ⟨v, ss, rfl, hS, hrow, hnil, hb⟩
  have e1 := sort_keys hS h.srt
  have e2 : ss.length = L.length := by have := hS.length_eq; rw [dOf_keys] at this; simpa using this
  rw [e1, e2] at hrow
  refine ⟨v, rfl, ?_, fun hL => hnil.2 (by rw [hL] at e2; exact List.length_eq_zero_iff.1 e2), ((Below.refl _ w).alloc (Nat.le_refl _) _).trans (hb.mono (by simp))⟩
  have := ownsRow_base_a hrow (show w.heap.size ≤ _ by simp)
  rw [List.map_map] at this
  exact this

theorem take_flat (L : List Bl) (j : Nat) (h : j < L.length) : flat (L.take (j + 1)) = flat (L.take j) ++ [.int .i64 (L[j]).1, .int .i64 (L[j]).2] := by
  rw [List.take_succ_eq_append_getElem h, flat_snoc]

set_option maxHeartbeats 4000000 in
theorem rising_ok (m : Nat) (L : List Bl) (w : World) (h : Mp w m L) :
    Calls Tryz.prog 258 #[.map (some m)] w fun ev w' => ∃ v, ev = .returned v ∧ w'.ownsRow w.heap.size 291 2 v L.length (flat L) ∧ (L = [] → v = .slice none 0 0) ∧ Below w.heap.size w w' := by
  have hl := h.len
  obtain ⟨i0, hi, hz0, hz1, hz2⟩ := info_parts info36
  have HI := hide hi
  have HZ := hide hz0
  have HZ1 := hide hz1
  have HZ2 := hide hz2
  have HK := hide (keys_ok (some m) w)
  have HS := hide (sorted_ok m L w h)
  clear hi hz0 hz1 hz2
  have HM := hide h
  clear h
  go_enter Tryz.func258, Tryz.ntmps258
  go_wp2_with fail
  refine (unhide HK).mono ?_
  rintro ev w9 ⟨rfl, rfl⟩
  go_wp2_with fail
  refine (unhide HS).mono ?_
  rintro ev w1 ⟨v, rfl, hrow, hnil, hb⟩
  have M1 := hide ((unhide HM).b hb)
  have hz := hb.size
  have HB := hide hb
  clear hb HM HS HK
  by_cases hL : L = []
  · obtain rfl := hnil hL
    subst hL
    go_wp2
    refine wp_loop_rounds 1 ?_
    rw [rounds_succ]
    go_wp2
    go_ret
    exact ⟨_, rfl, World.ownsRow_nil _ _ _ _, rfl, unhide HB⟩
  · rcases hrow.2 with ⟨_, h0⟩ | ⟨g, cap, cur, rfl, hg0, hg, hle, hcap, hcs, hx⟩
    · exact absurd (List.length_eq_zero_iff.1 h0) hL
    · have hlt : g < w1.heap.size := by
        rcases Nat.lt_or_ge g w1.heap.size with h' | h'
        · exact h'
        · rw [Array.getElem?_eq_none h'] at hg; cases hg
      have hc : Hid (∀ j, j < L.length → w1.cell? ⟨g, j, none⟩ = some (.int .i64 (L.getD j (0, 0)).1)) := fun j hj => by
        have := hrow.cellAt j (by simpa using hj)
        rw [this]; simp [List.getD_eq_getElem?_getD, hj]
      unfold maxLen at hcap
      have HL := hide hL
      clear hx hcs hg hrow hnil hL
      generalize hn : L.length = n at *
      go_wp2
      go_loopw [3, 10] (fun b i wr => ∃ j : Nat, j ≤ n ∧ i = .int .i64 j ∧ wr.ownsRow w1.heap.size 291 2 b j (flat (L.take j)) ∧ Below w1.heap.size w1 wr ∧ Hid (j = 0 → b = .slice none 0 0)) (fun _ i _ => n - (RowKit.intOf i).toNat)
      case atStart => exact ⟨0, Nat.zero_le _, rfl, World.ownsRow_nil _ _ _ _, Below.refl _ _, fun _ => rfl⟩
      case round =>
        obtain ⟨j, hj, rfl, hown, hbr, _⟩ := hrel
        by_cases hjn : j < n
        · have hjl : j < L.length := by omega
          have hcj := (hbr.cell (p := ⟨g, j, none⟩) hlt).trans (unhide hc j hjn)
          have hM := ((unhide M1).b hbr).own
          have hg1 : L.getD j (0, 0) = L[j] := by simp [List.getD_eq_getElem?_getD, hjl]
          have hr := (unhide M1).rng L[j] (List.getElem_mem hjl)
          have hat0 := hide (fun z => dOf_at (unhide M1).srt (List.getElem_mem hjl) z)
          have htf := hide (take_flat L j hjl)
          rw [hg1] at hcj
          clear hg1
          generalize L[j] = x at *
          obtain ⟨x1, x2⟩ := x
          simp only at hcj hr
          have wx := wf_small hr.1 hr.2.1
          have wx2 := hide (wf_small hr.2.2.1 (by omega : x2 < 256))
          have sz := hbr.size
          go_wp2_with (first
            | (at_lookup; refine wpList_lookup_own_int _ rfl _ _ 325 rfl 3 3 .i64 law Tryz.underlying325 Tryz.underlying3 (zero3 _) m L.length _ rfl hM _ _ rfl (keyOf_int_mk Tryz.underlying3 wx) ?_; intro c hat hwc)
            | (at_builtin; refine wpList_append_own _ rfl (.tmp 14) (.tmp 20) 322 rfl w1.heap.size 291 i0 (.agg #[.int .i64 0, .int .i64 0]) 2 16 Tryz.underlying322 (unhide HI) (unhide HZ) (unhide HZ1) (unhide HZ2) rfl (by decide) _ _ _ rfl (hown.alloc _) ⟨wr.heap.size, 0, none⟩ 1 1 [.int .i64 x1, .int .i64 c] rfl rfl (news2 _ x1 c) (one2 x1 c) (by unfold maxLen; omega) (by omega) (by simp; omega) ?_; intro v' w5 hown' hgrow hnil'))
          have hc2 : c = x2 := by
            have := (unhide hat0) (.lit (.int .i64 0))
            rw [this] at hat
            simpa using hat.symm
          subst hc2
          go_roundw
          case rel => exact ⟨j + 1, by omega, by go_num, by rw [unhide htf]; simpa using hown', (ballo hbr _).grown hgrow (by simp; omega) (own_row hown), fun h => by omega⟩
          case measure => simp [RowKit.intOf]; omega
        · have hjn2 : j = n := by omega
          subst hjn2
          have e1 : L.take j = L := by rw [← hn]; exact List.take_length
          rw [e1] at hown
          have HO := hide hown
          clear hown e1
          go_wp2
          go_ret
          refine ⟨_, rfl, ?_, fun h => ?_, (unhide HB).trans (hbr.mono hz)⟩
          · rw [hn]; exact ownsRow_base_a (unhide HO) hz
          · exact absurd h (unhide HL)
end Bd
end Go.Proofs.YtcbmfakjfoggaaaGreatDoor
namespace Go.Proofs.YtcbmfakjfoggaaaGreatDoor
open Go.RowKit
namespace Bd
open Fr
def ptr (b : Nat) : Value := .pointer (some ⟨b, 0, none⟩)
theorem free_ok (b fm tm : Nat) (N : Int) (F T : List Bl) (w : World) (h : Bud w b fm tm N F T) :
    Calls Tryz.prog 225 #[ptr b] w fun ev w' => ∃ v, ev = .returned v ∧ w'.ownsRow w.heap.size 291 2 v F.length (flat F) ∧ (F = [] → v = .slice none 0 0) ∧ Below w.heap.size w w' := by
  have c1 := h.c1
  have H := hide (rising_ok fm F w h.f)
  clear h
  unfold ptr
  go_enter Tryz.func225, Tryz.ntmps225
  go_wp2_with fail
  refine (unhide H).mono ?_
  rintro ev w1 ⟨v, rfl, h1, h2, h3⟩
  go_wp2_with fail
  go_ret
  exact ⟨_, rfl, h1, h2, h3⟩
theorem index_nil (fv : Value) (w : World) : Calls Tryz.prog 257 #[.slice none 0 0, fv] w fun ev w' => ev = .returned (.int .i64 (-1)) ∧ w' = w := by
  go_enter Tryz.func257, Tryz.ntmps257
  go_wp2
  refine wp_loop_rounds 1 ?_
  rw [rounds_succ]
  go_wp2
  go_ret
  exact ⟨rfl, rfl⟩
theorem delete_nil (fv : Value) (w : World) : Calls Tryz.prog 293 #[.slice none 0 0, fv] w fun ev w' => ev = .returned (.slice none 0 0) ∧ w' = w := by
  have H := fun w => hide (index_nil fv w)
  have hne1 : ((-1 : Int) == -1) = true := rfl
  go_enter Tryz.func293, Tryz.ntmps293
  go_wp2_with fail
  refine (unhide (H _)).mono ?_
  rintro ev w1 ⟨rfl, rfl⟩
  go_wp2
  go_ret
  exact ⟨rfl, rfl⟩
theorem delete_any (v : Value) (L : List Bl) (B cb : Nat) (o : Int) (w : World) (hrow : w.ownsRow B 291 2 v L.length (flat L)) (hnil : L = [] → v = .slice none 0 0) (hl : L.length ≤ 256) (hB : B ≤ w.heap.size) (hc : w.cell? ⟨cb, 0, none⟩ = some (.int .i64 o)) (hlt : cb < B) :
    Calls Tryz.prog 293 #[v, .func (.func 294) #[] #[.pointer (some ⟨cb, 0, none⟩)]] w fun ev w' => Below B w w' ∧
      ∃ p c, ev = .returned (.slice p (L.filter (fun x => decide (o ≤ x.2))).length c) ∧ (L.filter (fun x => decide (o ≤ x.2)) ≠ [] → ∃ g, p = some ⟨g, 0, none⟩ ∧ Row w' g (L.filter (fun x => decide (o ≤ x.2)))) := by
  by_cases hL : L = []
  · rw [hnil hL, hL]
    refine (delete_nil _ w).mono ?_
    rintro ev w' ⟨rfl, rfl⟩
    exact ⟨Below.refl _ _, none, 0, rfl, fun h => absurd rfl h⟩
  · obtain ⟨g, cap, rfl, hg, h1, _, hr⟩ := row_of hrow hL
    refine (delete_ok L g cap cb o w hr hl h1 hc (by omega) (by omega)).mono ?_
    rintro ev w' ⟨hk, M, rfl, rfl, hM⟩
    exact ⟨hk.below hg hg hB, _, _, rfl, fun _ => ⟨g, rfl, hM⟩⟩

/-- The free block that is taken. -/
def fit (o : Int) (F : List Bl) : Option Bl :=
  if F.filter (fun x => decide (o ≤ x.2)) = [] then none else some (pk (F.filter (fun x => decide (o ≤ x.2))) ((F.filter (fun x => decide (o ≤ x.2))).length - 1))
def fitV (o : Int) (F : List Bl) : Value := match fit o F with
  | none => .tuple #[blkV 0 0, .bool false]
  | some x => .tuple #[blkV x.1 x.2, .bool true]

set_option maxHeartbeats 1000000 in
theorem fit_ok (o : Int) (b fm tm : Nat) (N : Int) (F T : List Bl) (w : World) (h : Bud w b fm tm N F T) :
    Calls Tryz.prog 282 #[ptr b, .int .i64 o] w fun ev w' => ev = .returned (fitV o F) ∧ Below w.heap.size w w' := by
  have hlen := h.f.len
  have H1 := hide (free_ok b fm tm N F T _ ((h.a (.cells #[.int .i64 o] 3)).a (blkO 0 0)))
  have hfl : (F.filter (fun x => decide (o ≤ x.2))).length ≤ 256 := Nat.le_trans (List.length_filter_le _ _) hlen
  clear h
  have HF : Hid (fitV o F = if F.filter (fun x => decide (o ≤ x.2)) = [] then .tuple #[blkV 0 0, .bool false] else .tuple #[blkV (pk (F.filter (fun x => decide (o ≤ x.2))) ((F.filter (fun x => decide (o ≤ x.2))).length - 1)).1 (pk (F.filter (fun x => decide (o ≤ x.2))) ((F.filter (fun x => decide (o ≤ x.2))).length - 1)).2, .bool true]) := by
    show fitV o F = _
    unfold fitV fit
    by_cases c : F.filter (fun x => decide (o ≤ x.2)) = []
    · rw [if_pos c, if_pos c]
    · rw [if_neg c, if_neg c]
  rw [unhide HF]
  generalize hMF : F.filter (fun x => decide (o ≤ x.2)) = M at *
  have HMF := hide hMF
  clear HF hMF
  unfold ptr at *
  go_enter Tryz.func282, Tryz.ntmps282
  go_wp2_with fail
  refine (unhide H1).mono ?_
  rintro ev w1 ⟨v, rfl, h1, h2, h3⟩
  have sz := h3.size
  simp at sz
  have hco : w1.cell? ⟨w.heap.size, 0, none⟩ = some (.int .i64 o) := (h3.cell (p := ⟨w.heap.size, 0, none⟩) (by simp; omega)).trans (((ballo (Below.refl _ (w.alloc (.cells #[.int .i64 o] 3))) _).cell (p := ⟨w.heap.size, 0, none⟩) (by simp)).trans (by simp))
  have B1 : Below w.heap.size w w1 := (ballo (ballo (Below.refl _ _) _) _).trans (h3.mono (by simp; omega))
  have X1 : Bx w1 (w.heap.size + 1) (0, 0) := by have := (bx_new (w.alloc (.cells #[.int .i64 o] 3)) (0, 0)).b h3; simpa using this
  have H2 := hide (delete_any v F _ w.heap.size o w1 h1 h2 hlen h3.size hco (by simp; omega))
  clear h1 h2 h3 H1 hco
  go_wp2_with fail
  refine (unhide H2).mono ?_
  rintro ev w2 ⟨b2, p, c, rfl, hM⟩
  rw [show ((w.alloc (.cells #[.int .i64 o] 3)).alloc (blkO 0 0)).heap.size = w.heap.size + 2 by simp] at b2
  have X2 : Bx w2 (w.heap.size + 1) (0, 0) := ⟨(b2.cell (p := ⟨w.heap.size + 1, 0, none⟩) (by simp only; omega)).trans X1.c0, (b2.cell (p := ⟨w.heap.size + 1, 1, none⟩) (by simp only; omega)).trans X1.c1, (b2.frozen (p := ⟨w.heap.size + 1, 0, none⟩) (by simp only; omega)).trans X1.f0, (b2.frozen (p := ⟨w.heap.size + 1, 1, none⟩) (by simp only; omega)).trans X1.f1, Nat.lt_of_lt_of_le X1.lt b2.size⟩
  have B2 : Below w.heap.size w w2 := B1.trans (b2.mono (by omega))
  rw [unhide HMF] at hM ⊢
  clear H2 b2 B1 X1
  have p0 := X2.c0
  have p1 := X2.c1
  have g0 := X2.f0
  have g1 := X2.f1
  simp only at p0 p1
  by_cases hc : M = []
  · subst hc
    have hz : (((0 : Nat) : Int) == 0) = true := rfl
    simp only [List.length_nil] at *
    clear hM
    go_wp2
    exact bodyPost_ret (v := .tuple #[blkV 0 0, .bool false]) (by simp [results, Tryz.results282, go_sem, p0, p1]) rfl ⟨rfl, (B2.setCell (by simp) _).setCell (by simp) _⟩
  · obtain ⟨g, rfl, hr⟩ := hM hc
    have hpos : 0 < M.length := List.length_pos_iff.2 hc
    have hz : ((M.length : Int) == 0) = false := by simp; exact hc
    have H3 := min_ok M g c w2 hr hfl hpos
    obtain ⟨x, hx⟩ : ∃ x, x = pk M (M.length - 1) := ⟨_, rfl⟩
    rw [← hx] at H3
    have HX := hide hx
    have HC := hide hc
    have H3 := hide H3
    clear hx hM hc hr hpos
    obtain ⟨x1, x2⟩ := x
    go_wp2_with fail
    refine (unhide H3).mono ?_
    rintro ev w3 ⟨rfl, b3⟩
    have X3 := X2.b b3
    have s0 := X3.c0
    have s1 := X3.c1
    have t0 := X3.f0
    have t1 := X3.f1
    simp only at s0 s1
    clear p0 p1 g0 g1
    go_wp2_with fail
    exact bodyPost_ret (v := .tuple #[blkV x1 x2, .bool true]) (by simp [results, Tryz.results282, go_sem, s0, s1]) rfl ⟨by rw [← unhide HX], ((btr B2 b3).setCell (by simp) _).setCell (by simp) _⟩
end Bd
end Go.Proofs.YtcbmfakjfoggaaaGreatDoor
