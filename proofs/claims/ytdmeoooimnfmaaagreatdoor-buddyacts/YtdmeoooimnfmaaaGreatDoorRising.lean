/- The contract of package buddy's rising: a map's blocks, by where they begin. -/
import Derived.Test.YtdmeoooimnfmaaaGreatDoorLaying
import Derived.Test.YtdmeoooimnfmaaaGreatDoorPut
import Derived.Test.YtdmeoooimnfmaaaGreatDoorCover3
import Derived.Maps.OwnOps
namespace Go.Proofs.YtdmeoooimnfmaaaGreatDoor
open Go.RowKit Go.Maps Go.Sort Go.Shelf
namespace Bd
open Fr

theorem sortsA (m : Nat) : AnyZI.SortsIn Tryz.prog sortedA_ren Fence.wide m :=
  ⟨fun blk off cap ss W hH hblk hsz => callsIn_wide.2 (AnyM.slices_Sort_int sortA blk off cap ss W hH hblk hsz),
   fun p cap W => callsIn_wide.2 (AnyM.slices_Sort_int_none sortA p cap W)⟩

theorem keys_ok (mb : Option Nat) (W : World) : Calls Tryz.prog 50 #[.map mb] W fun e w' => e = .returned (.func (.func 64) #[] #[.pointer (some ⟨W.heap.size, 0, none⟩)]) ∧ w' = W.alloc (.cells #[.map mb] 52) :=
  (callsIn_wide (n := 5)).1 (AnyZI.keys_in keysA Fence.wide 5 trivial rfl mb W)

theorem sort_keys {ss : List Int} {L : List Bl} (h : ss.Perm (intKeys (dOf L))) (hs : Srt L) : ss.mergeSort (fun x y => decide (x ≤ y)) = L.map (·.1) := by
  rw [dOf_keys] at h
  rw [show ss.mergeSort (fun x y => decide (x ≤ y)) = (L.map (·.1)).mergeSort (fun x y => decide (x ≤ y)) from mergeSort_of_perm_i h]
  exact List.mergeSort_of_pairwise (by
    rw [List.pairwise_map]
    exact hs.imp (fun h => by simp; omega))

theorem sorted_ok (m : Nat) (L : List Bl) (w : World) (h : Mp w m L) :
    Calls Tryz.prog 49 #[.func (.func 64) #[] #[.pointer (some ⟨w.heap.size, 0, none⟩)]] (w.alloc (.cells #[.map (some m)] 52)) fun e w' => ∃ v, e = .returned v ∧ w'.ownsRow w.heap.size 3 1 v L.length (L.map fun x => .int .i64 x.1) ∧ (L = [] → v = .slice none 0 0) ∧ Below w.heap.size w w' := by
  have hown := h.own
  have hl := h.len
  have hbl := hown.lt
  have hmax : Maps.size (dOf L) ≤ maxLen := by rw [dOf_size]; unfold maxLen; omega
  have hbytes : Maps.size (dOf L) * 8 ≤ 140737488355328 := by rw [dOf_size]; omega
  have hseq : SeqGives Fence.wide 2 Tryz.prog 64 #[.pointer (some ⟨w.heap.size, 0, none⟩)] encZ (fun ss => ss.Perm (intKeys (dOf L))) (Maps.size (dOf L)) (w.alloc (.cells #[.map (some m)] 52)) :=
    AnyZI.keys_gives (ρ := keysA_ren) { keysA with } Fence.wide _ trivial rfl (by omega) w.heap.size m L.length (dOf L) _ (by simp) (by simp) (by
      obtain ⟨es, clock, hb, Ft, hs, hD⟩ := hown
      exact ⟨es, clock, (Below.heap_alloc _ _ m hbl).trans hb, Ft, hs, hD⟩)
  have cS := AnyZI.sorted_in sortedA Fence.wide 5 trivial trivial trivial trivial rfl (by omega) (sortsA _) (enters_of Tryz.func63 (by kernel_rfl) rfl) 64 #[.pointer (some ⟨w.heap.size, 0, none⟩)] trivial (enters_of Tryz.func64 (by kernel_rfl) rfl) _ _ hmax hbytes _ hseq
  change CallsIn _ _ Tryz.prog 49 _ _ _ at cS
  refine ((callsIn_wide (n := 5)).1 cS).mono ?_
  rintro e w' ⟨v, ss, rfl, hS, hrow, hnil, hb⟩
  have e1 := sort_keys hS h.srt
  have e2 : ss.length = L.length := by have := hS.length_eq; rw [dOf_keys] at this; simpa using this
  rw [e1, e2] at hrow
  refine ⟨v, rfl, ?_, fun hL => hnil.2 (by rw [hL] at e2; exact List.length_eq_zero_iff.1 e2), ((Below.refl _ w).alloc (Nat.le_refl _) _).trans (hb.mono (by simp))⟩
  have := ownsRow_base_a hrow (show w.heap.size ≤ _ by simp)
  rw [List.map_map] at this
  exact this

theorem take_flat (L : List Bl) (j : Nat) (h : j < L.length) : flat (L.take (j + 1)) = flat (L.take j) ++ [.int .i64 (L[j]).1, .int .i64 (L[j]).2] := by
  rw [List.take_succ_eq_append_getElem h, flat_snoc]

set_option maxHeartbeats 4000000 in
theorem rising_ok (m : Nat) (L : List Bl) (w : World) (h : Mp w m L) :
    Calls Tryz.prog 36 #[.map (some m)] w fun ev w' => ∃ v, ev = .returned v ∧ w'.ownsRow w.heap.size 33 2 v L.length (flat L) ∧ (L = [] → v = .slice none 0 0) ∧ Below w.heap.size w w' := by
  have hl := h.len
  obtain ⟨i0, hi, hz0, hz1, hz2⟩ := info_parts info36
  have HI := hide hi
  have HZ := hide hz0
  have HZ1 := hide hz1
  have HZ2 := hide hz2
  have HK := hide (keys_ok (some m) w)
  have HS := hide (sorted_ok m L w h)
  clear hi hz0 hz1 hz2
  have HM := hide h
  clear h
  go_enter Tryz.func36, Tryz.ntmps36
  go_wp2_with fail
  refine (unhide HK).mono ?_
  rintro ev w9 ⟨rfl, rfl⟩
  go_wp2_with fail
  refine (unhide HS).mono ?_
  rintro ev w1 ⟨v, rfl, hrow, hnil, hb⟩
  have M1 := hide ((unhide HM).b hb)
  have hz := hb.size
  have HB := hide hb
  clear hb HM HS HK
  by_cases hL : L = []
  · obtain rfl := hnil hL
    subst hL
    go_wp2
    refine wp_loop_rounds 1 ?_
    rw [rounds_succ]
    go_wp2
    go_ret
    exact ⟨_, rfl, World.ownsRow_nil _ _ _ _, rfl, unhide HB⟩
  · rcases hrow.2 with ⟨_, h0⟩ | ⟨g, cap, cur, rfl, hg0, hg, hle, hcap, hcs, hx⟩
    · exact absurd (List.length_eq_zero_iff.1 h0) hL
    · have hlt : g < w1.heap.size := by
        rcases Nat.lt_or_ge g w1.heap.size with h' | h'
        · exact h'
        · rw [Array.getElem?_eq_none h'] at hg; cases hg
      have hc : Hid (∀ j, j < L.length → w1.cell? ⟨g, j, none⟩ = some (.int .i64 (L.getD j (0, 0)).1)) := fun j hj => by
        have := hrow.cellAt j (by simpa using hj)
        rw [this]; simp [List.getD_eq_getElem?_getD, hj]
      unfold maxLen at hcap
      have HL := hide hL
      clear hx hcs hg hrow hnil hL
      generalize hn : L.length = n at *
      go_wp2
      go_loopw [3, 10] (fun b i wr => ∃ j : Nat, j ≤ n ∧ i = .int .i64 j ∧ wr.ownsRow w1.heap.size 33 2 b j (flat (L.take j)) ∧ Below w1.heap.size w1 wr ∧ Hid (j = 0 → b = .slice none 0 0)) (fun _ i _ => n - (RowKit.intOf i).toNat)
      case atStart => exact ⟨0, Nat.zero_le _, rfl, World.ownsRow_nil _ _ _ _, Below.refl _ _, fun _ => rfl⟩
      case round =>
        obtain ⟨j, hj, rfl, hown, hbr, _⟩ := hrel
        by_cases hjn : j < n
        · have hjl : j < L.length := by omega
          have hcj := (hbr.cell (p := ⟨g, j, none⟩) hlt).trans (unhide hc j hjn)
          have hM := ((unhide M1).b hbr).own
          have hg1 : L.getD j (0, 0) = L[j] := by simp [List.getD_eq_getElem?_getD, hjl]
          have hr := (unhide M1).rng L[j] (List.getElem_mem hjl)
          have hat0 := hide (fun z => dOf_at (unhide M1).srt (List.getElem_mem hjl) z)
          have htf := hide (take_flat L j hjl)
          rw [hg1] at hcj
          clear hg1
          generalize L[j] = x at *
          obtain ⟨x1, x2⟩ := x
          simp only at hcj hr
          have wx := wf_small hr.1 hr.2.1
          have wx2 := hide (wf_small hr.2.2.1 (by omega : x2 < 256))
          have sz := hbr.size
          go_wp2_with (first
            | (at_lookup; refine wpList_lookup_own_int _ rfl _ _ 52 rfl 3 3 .i64 law Tryz.underlying52 Tryz.underlying3 (zero3 _) m L.length _ rfl hM _ _ rfl (keyOf_int_mk Tryz.underlying3 wx) ?_; intro c hat hwc)
            | (at_builtin; refine wpList_append_own _ rfl (.tmp 14) (.tmp 20) 46 rfl w1.heap.size 33 i0 (.agg #[.int .i64 0, .int .i64 0]) 2 16 Tryz.underlying46 (unhide HI) (unhide HZ) (unhide HZ1) (unhide HZ2) rfl (by decide) _ _ _ rfl (hown.alloc _) ⟨wr.heap.size, 0, none⟩ 1 1 [.int .i64 x1, .int .i64 c] rfl rfl (news2 _ x1 c) (one2 x1 c) (by unfold maxLen; omega) (by omega) (by simp; omega) ?_; intro v' w5 hown' hgrow hnil'))
          have hc2 : c = x2 := by
            have := (unhide hat0) (.lit (.int .i64 0))
            rw [this] at hat
            simpa using hat.symm
          subst hc2
          go_roundw
          case rel => exact ⟨j + 1, by omega, by go_num, by rw [unhide htf]; simpa using hown', (ballo hbr _).grown hgrow (by simp; omega) (own_row hown), fun h => by omega⟩
          case measure => simp [RowKit.intOf]; omega
        · have hjn2 : j = n := by omega
          subst hjn2
          have e1 : L.take j = L := by rw [← hn]; exact List.take_length
          rw [e1] at hown
          have HO := hide hown
          clear hown e1
          go_wp2
          go_ret
          refine ⟨_, rfl, ?_, fun h => ?_, (unhide HB).trans (hbr.mono hz)⟩
          · rw [hn]; exact ownsRow_base_a (unhide HO) hz
          · exact absurd h (unhide HL)
end Bd
end Go.Proofs.YtdmeoooimnfmaaaGreatDoor
