/- MagazineLast: its walk · PoolFair. -/
import Derived.Test.YtcbmfakjfoggaaaGreatDoorG31
import Derived.Test.YtcbmfakjfoggaaaGreatDoorG43
namespace Go.Proofs.YtcbmfakjfoggaaaGreatDoor
open Go.RowKit Go.Maps
namespace Mg
open Fr Bd Zn Dz Sb
/-- What stands at a place of the row. -/
theorem row_at {w : World} {B k cp j : Nat} {p : Option Addr} {l : List Bl} {x y : Int} (h : w.ownsRow B 34 2 (.slice p k cp) k (flat l)) (hl : l.length = k) (hj : l[j]? = some (x, y)) : ∃ g, p = some ⟨g, 0, none⟩ ∧ w.cell? ⟨g, j * 2, none⟩ = some (.int .i64 x) ∧ w.cell? ⟨g, j * 2 + 1, none⟩ = some (.int .i64 y) := by
  obtain ⟨hjl, hjx⟩ := List.getElem?_eq_some_iff.1 hj
  obtain ⟨g, cap, e, _⟩ := h.form (by omega)
  simp only [Value.slice.injEq] at e
  obtain ⟨rfl, _, rfl⟩ := e
  obtain ⟨f0, f1⟩ := flat_get l j hjl
  rw [hjx, Nat.mul_comm] at f0 f1
  exact ⟨g, rfl, (h.cellAt (j * 2) (by omega)).trans f0, (h.cellAt (j * 2 + 1) (by omega)).trans f1⟩
end Mg
end Go.Proofs.YtcbmfakjfoggaaaGreatDoor
namespace Go.Proofs.YtcbmfakjfoggaaaGreatDoor
open Go.RowKit Go.Maps
namespace Pl
open Fr Bd Zn Dz Sb Mg
theorem rg_snoc (j : Nat) : List.range' 1 j ++ [j + 1] = List.range' 1 (j + 1) := by
  rw [List.range'_concat]; simp; omega
theorem rg_cons {k n : Nat} (h : k < n) : List.range' (k + 1) (n - k) = (k + 1) :: List.range' (k + 2) (n - (k + 1)) := by
  rw [show n - k = (n - (k + 1)) + 1 from by omega, List.range'_succ]
theorem wait_z {B : Nat} {C : Dc} {V : Nat → Prop} {pb tm ym pg tk q : Nat} {w : World} {T : List Bl} {Y : List (Nat × Bl)} {L : List Nat} {e : Nat → Addr} (h : PZ B C V pb tm ym pg T Y L tk q 0 w) (hN : C.w0.heap.size ≤ C.N0) (he : Errs C.w0 e) (h12 : 11 < B) (hT : T.length + Y.length = pg * C.m) (hl8 : L.length < 8) (hq : q < 1000000) (htk : tk < 1000000) :
    Calls Tryz.prog 15 #[.pointer (some ⟨pb, 0, none⟩), .int .i64 0, .int .i64 0] w fun ev w' => VF V w w' ∧ ev = .returned (.tuple #[objV 0 0, errV (e 7)]) ∧ PZ B C V pb tm ym pg T Y (L ++ [tk + 1]) (tk + 1) q 0 w' := by
  by_cases hL : L = []
  · subst hL
    refine (take_z h hN he h12 hq htk).mono ?_
    rintro ev w' ⟨h1, ⟨h2, _⟩ | ⟨_, h3, h4⟩⟩
    · omega
    · exact ⟨h1, h3, h4⟩
  · exact take_z2 h he h12 hL hl8 htk
set_option maxRecDepth 100000 in
set_option maxHeartbeats 32000000 in
theorem fair_ok (n0 n1 : Int) (w : World) (e : Nat → Addr) (he : Errs w e) (hw : 11 < w.heap.size) :
    Calls Tryz.prog 3 #[.int .i64 n0, .int .i64 n1] w fun ev w' => ev = .returned (.bool true) ∧ Below w.heap.size w w' := by
  have HPO := hide (pooled_ok w e he hw)
  have HE := hide he
  clear he
  by_cases hin : 1 ≤ n0 ∧ n0 ≤ 16 ∧ 0 ≤ n1 ∧ n1 ≤ 8
  · have d1 : decide (n0 < 1) = false := by simp; omega
    have d2 : decide (n0 > 16) = false := by simp; omega
    have d3 : decide (n1 < 0) = false := by simp; omega
    have d4 : decide (n1 > 8) = false := by simp; omega
    obtain ⟨nn, rfl⟩ := Int.eq_ofNat_of_zero_le hin.2.2.1
    obtain ⟨rr, rfl⟩ := Int.eq_ofNat_of_zero_le (show 0 ≤ n0 by omega)
    have hn8 : nn ≤ 8 := by omega
    have hrr : 1 ≤ rr ∧ rr ≤ 16 := by omega
    clear hin
    obtain ⟨i0, hi0, hz0, hz1, hz2⟩ := info_parts info42o
    have HI := hide hi0
    have HZ := hide hz0
    have HZ1 := hide hz1
    have HZ2 := hide hz2
    clear hi0 hz0 hz1 hz2
    go_enter Tryz.func3, Tryz.ntmps3
    go_wp2_with fail
    refine (unhide HPO).mono ?_
    rintro ev w0 ⟨rfl, b0⟩
    have HDP := hide (depot_ok 16 0 64 1 w0 e ((unhide HE).below b0) (by omega))
    have hg : dgood 16 0 64 1 := by unfold dgood; omega
    have hw0s := b0.size
    have HB0 := hide b0
    clear HPO b0
    go_wp2_with fail
    refine (unhide HDP).mono ?_
    rintro ev w1 h1
    rcases h1 with ⟨h1, _⟩ | ⟨_, C, M, S, rfl, hD, hQ⟩
    · exact absurd hg h1
    have hw0 := hD.hw
    have hDK : DK C (OB (.slice none 0 0)) (fun _ => none) S w1 := DQ.less hQ.q (fun j hj => absurd hj ob_nil)
    have hE : Errs w0 e := (unhide HE).below (unhide HB0)
    have hw2 : 11 < C.w0.heap.size := by rw [hw0]; omega
    rw [← hw0] at hE
    have HNW := hide (new_z (B := C.w0.heap.size) (n := rr) (pg := 16) hDK hD.hN hE (Nat.le_refl _) (DQ.b0 hDK).size hD.fs hD.hmn hD.hws hrr (by rw [hD.m1]; omega))
    have HN := hide hD.hN
    have HE2 := hide hE
    have HM1 := hide hD.m1
    have HW0 := hide hw0
    clear hQ hDK hE HDP hg HE hD hw0s hw0
    go_wp2_with fail
    refine (unhide HNW).mono ?_
    rintro ev w2 ⟨F2, rfl, Z2⟩
    have HZ2' := hide Z2
    generalize w1.heap.size + 1 + 1 = pb at *
    generalize w1.heap.size + 1 = ym at *
    generalize w1.heap.size = tm at *
    clear HNW F2 Z2
    go_wp2_with fail
    go_loopw [11, 12] (fun s11 s12 wr => ∃ (i n' : Nat) (l : List Bl) (p : Option Addr) (cp : Nat), s11 = .slice p i cp ∧ s12 = .int .i64 i ∧ i ≤ 16 ∧ l.length = i ∧ Hid (l.Nodup) ∧ Hid (wr.ownsRow C.w0.heap.size 34 2 (.slice p i cp) i (flat l)) ∧ Hid (PZ C.w0.heap.size C (OB (.slice p i cp)) pb tm ym 16 l [] [] 0 i n' wr)) (fun _ s _ => 16 - (RowKit.intOf s).toNat)
    case atStart => exact ⟨0, rr, [], none, 0, rfl, rfl, by omega, rfl, List.nodup_nil, World.ownsRow_nil _ _ _ _, HZ2'⟩
    case round =>
      clear HZ2'
      obtain ⟨i, n', l, p, cp, rfl, rfl, hi, hl, HND, HR, HL⟩ := hrel
      by_cases hil' : i < 16
      · have hil : (i : Int) < 16 := by omega
        have HT := hide (take_z (unhide HL) (unhide HN) (unhide HE2) hw2 (by omega) (by omega))
        simp only [unhide HM1, hl, List.length_nil] at HT
        have HLN := hide hl
        have hneq : i + 0 ≠ 16 * 1 := by omega
        clear HL hl
        go_wp2_with fail
        refine (unhide HT).mono ?_
        rintro ev w5 ⟨F5, ⟨_, ⟨oN, oA⟩, n5, rfl, ho, Z5⟩ | ⟨h5, _⟩⟩
        case inr => exact absurd h5 hneq
        have hb := ballo (Below.refl w5.heap.size w5) (.cells #[.int .i64 oN, .int .i64 oA] 34)
        have R6 := hide (own_b (row_vf (unhide HR) F5) hb)
        have Z6 := hide (Z5.b hb)
        have HNO := hide ho
        obtain ⟨q0, q1⟩ := Bx.new w5 oN oA
        simp only at q0 q1
        unfold objV at *
        clear HT HR Z5 F5 hb ho
        simp only at *
        go_upto_region 17 with (fail)
        generalize w5.alloc (.cells #[.int .i64 oN, .int .i64 oA] 34) = W6 at *
        generalize w5.heap.size = p7 at *
        have hb6 := ballo (Below.refl W6.heap.size W6) (.cells #[.int .i64 oN, .int .i64 oA] 34)
        have R7 := hide (own_b (unhide R6) hb6)
        have Z7 := hide ((unhide Z6).b hb6)
        have HB := hide (Nat.le_trans (unhide Z6).low.size hb6.size)
        clear hb6
        go_wp2_with (at_builtin; refine wpList_append_lies _ rfl (.tmp 73) (.tmp 75) 32 rfl C.w0.heap.size 34 i0 (.agg #[.int .i64 0, .int .i64 0]) 2 16 Tryz.underlying32 (unhide HI) (unhide HZ) (unhide HZ1) (unhide HZ2) rfl (by decide) (.slice p i cp) i (flat l) (by simp [Act.eval]) (unhide R7) ⟨W6.heap.size, 0, none⟩ 1 1 [.int .i64 oN, .int .i64 oA] (by simp [Act.eval]) rfl (by intro j u hj; match j, hj with | 0, hj => (simp at hj; subst hj; simp [Addr.add]) | 1, hj => (simp at hj; subst hj; simp [Addr.add])) (by intro u hu; simp at hu; rcases hu with rfl | rfl <;> rfl) (by omega) (by unfold maxLen; omega) (by omega) (unhide HB) _ rfl ?_; intro g4 c4 w8 o4 q4 hg4 hg5; have Z8 := hide ((unhide Z7).grown q4 o4 hg4); have R8 := hide o4; clear o4 q4 hg4 hg5 R7 Z7)
        clear R6 Z6 q0 q1 HB
        go_roundw
        case rel => exact ⟨i + 1, n5, l ++ [(oN, oA)], some ⟨g4, 0, none⟩, c4, rfl, by go_num, by omega, by simp [unhide HLN], List.nodup_append.2 ⟨unhide HND, by simp, fun a ha b hb e => by
          simp only [List.mem_cons, List.not_mem_nil, or_false] at hb
          exact (unhide HNO) (by rw [← hb, ← e]; exact ha)⟩, by rw [flat_snoc]; exact R8, Z8⟩
        case measure => simp [RowKit.intOf]; omega
      · have hi16 : i = 16 := by omega
        have hil2 : ¬ (i : Int) < 16 := by omega
        go_wp2_with fail
        have hn0 := (unhide HL).le
        rw [unhide HM1, hl] at hn0
        have HI16 : Hid (i ≤ 16 ∧ 16 ≤ i) := ⟨by omega, by omega⟩
        obtain rfl : n' = 0 := by omega
        have HLN := hide hl
        have HL0 : Hid (PZ C.w0.heap.size C (OB (.slice p i cp)) pb tm ym 16 l [] (List.range' 1 0) 0 i 0 wr) := HL
        clear HL hn0 hl hil' hi hi16 hil2
        go_loopw [15] (fun s15 wr => ∃ j : Nat, s15 = .int .i64 j ∧ j ≤ nn ∧ Hid (wr.ownsRow C.w0.heap.size 34 2 (.slice p i cp) i (flat l)) ∧ Hid (PZ C.w0.heap.size C (OB (.slice p i cp)) pb tm ym 16 l [] (List.range' 1 j) j i 0 wr)) (fun s _ => nn - (RowKit.intOf s).toNat)
        case atStart => exact ⟨0, rfl, Nat.zero_le _, HR, HL0⟩
        case round =>
          clear HL0 HR
          obtain ⟨j, rfl, hj, HR, HL⟩ := hrel
          by_cases hjn : j < nn
          · have hjl : (j : Int) < (nn : Int) := by omega
            have HT := hide (wait_z (unhide HL) (unhide HN) (unhide HE2) hw2 (by rw [unhide HM1, unhide HLN]; have := unhide HI16; simp only [List.length_nil]; omega) (by simp; omega) (by have := unhide HI16; omega) (by omega))
            rw [rg_snoc] at HT
            clear HL
            go_wp2_with fail
            refine (unhide HT).mono ?_
            rintro ev w5 ⟨F5, rfl, Z5⟩
            have hb := ballo (Below.refl w5.heap.size w5) (.cells #[.int .i64 0, .int .i64 0] 34)
            have R6 := hide (own_b (row_vf (unhide HR) F5) hb)
            have Z6 := hide (Z5.b hb)
            unfold objV errV at *
            clear HT HR Z5 F5 hb
            go_upto_region 22 with (fail)
            generalize w5.alloc (.cells #[.int .i64 0, .int .i64 0] 34) = W6 at *
            generalize w5.heap.size = p7 at *
            have HCD := hide (coded_sent 7 (by omega) 8 (by omega) W6 e ((unhide HE2).below (unhide Z6).low))
            go_wp2_with fail
            refine (unhide HCD).mono ?_
            rintro ev w8 ⟨rfl, b8⟩
            have R8 := hide (own_b (unhide R6) b8)
            have Z8 := hide ((unhide Z6).b b8)
            clear HCD R6 Z6 b8
            go_wp2_with fail
            go_roundw
            case rel => exact ⟨j + 1, by go_num, by omega, R8, Z8⟩
            case measure => simp [RowKit.intOf]; omega
          · obtain rfl : j = nn := by omega
            have hnl : ¬ (j : Int) < j := by omega
            go_wp2_with fail
            have HT0 : Hid (∀ o ∈ l, o ∈ l) := fun o h => h
            have HL0 : Hid (PZ C.w0.heap.size C (OB (.slice p i cp)) pb tm ym 16 l [] (List.range' (0 + 1) (j - 0)) j (i + 2 * 0) 0 wr) := by simpa using HL
            clear HL hnl hjn hj
            go_loopw [18] (fun s18 wr => ∃ (k : Nat) (T : List Bl), s18 = .int .i64 k ∧ k ≤ j ∧ Hid (∀ o ∈ l, o ∈ T) ∧ Hid (wr.ownsRow C.w0.heap.size 34 2 (.slice p i cp) i (flat l)) ∧ Hid (PZ C.w0.heap.size C (OB (.slice p i cp)) pb tm ym 16 T [] (List.range' (k + 1) (j - k)) j (i + 2 * k) 0 wr)) (fun s _ => j - (RowKit.intOf s).toNat)
            case atStart => exact ⟨0, l, rfl, Nat.zero_le _, HT0, HR, HL0⟩
            case round =>
              clear HL0 HR HT0
              obtain ⟨k, T, rfl, hk, HT, HR, HL⟩ := hrel
              by_cases hkj : k < j
              · have hkl : (k : Int) < (j : Int) := by omega
                have hk0 : (0 : Int) ≤ k := by omega
                have hki : (k : Int) < (i : Int) := by have := unhide HI16; omega
                obtain ⟨x, y, hxy⟩ : ∃ x y, l[k]? = some (x, y) := ⟨_, _, List.getElem?_eq_getElem (by rw [unhide HLN]; have := unhide HI16; omega)⟩
                have hxT := (unhide HT) (x, y) (List.mem_of_getElem? hxy)
                have hlen : (List.range' (k + 1) (j - k)).length = j - k := by simp
                have HWA := hide (waiting_z (unhide HL) (by rw [hlen]; omega))
                rw [hlen] at HWA
                have HXT := hide hxT
                have HXY := hide hxy
                have hjk : ((j - k : Nat) : Int) = (j : Int) - k := by omega
                have hwr : IntKind.i64.wrap ((j : Int) - k) = (j : Int) - k := IntWalk.i64_in _ (by omega)
                clear hxT hxy hlen
                go_wp2_with fail
                refine (unhide HWA).mono ?_
                rintro ev w5 ⟨v', rfl, o5, b5⟩
                have R5 := own_b (unhide HR) b5
                have Z5 := (unhide HL).b b5
                rw [rg_cons hkj] at o5
                obtain ⟨g5, c5, rfl, _⟩ := o5.form (by omega)
                have x5 := o5.cellAt 0 (by simp; omega)
                simp only [ivs, List.map_cons, List.getElem?_cons_zero] at x5
                rw [show ((k + 1 : Nat) : Int) = (k : Int) + 1 from by omega] at x5
                obtain ⟨gr, rfl, y0, y1⟩ := row_at R5 (unhide HLN) (unhide HXY)
                have HRS := hide (reserve_z Z5)
                rw [rg_cons hkj] at Z5
                have HGV := hide (give_z (o := (x, y)) (x := 0) Z5 (unhide HE2) (by omega) (by have := unhide HI16; omega) (unhide HXT))
                have HR5 := hide R5
                simp only at HGV
                have hm0 : (0 : Int) < ((j - k : Nat) : Int) := by omega
                have hwk : IntKind.i64.wrap ((k : Int) + 1) = (k : Int) + 1 := IntWalk.i64_in _ (by omega)
                have HXY2 := hide (unhide HXY)
                have HXT2 := hide (unhide HXT)
                clear HWA b5 o5 R5 Z5 HR HL HXY HXT
                generalize j - k = m at *
                go_wp2_with fail
                refine (unhide HRS).mono ?_
                rintro ev w6 ⟨rfl, rfl⟩
                clear HRS
                go_wp2_with fail
                refine (unhide HGV).mono ?_
                rintro ev w7 ⟨F7, rfl, Z7⟩
                have HRD := hide (ready_z (t := k + 1) Z7 (by omega) (by have := unhide HI16; omega))
                rw [show ((k + 1 : Nat) : Int) = (k : Int) + 1 from by omega] at HRD
                have HR7 := hide (row_vf (unhide HR5) F7)
                unfold objV at *
                simp only at HRD
                clear HGV F7 Z7 x5 y0 y1 HR5
                go_wp2_with fail
                refine (unhide HRD).mono ?_
                rintro ev w8 ⟨F8, rfl, Z8⟩
                have R8 := row_vf (unhide HR7) F8
                have hb := ballo (Below.refl w8.heap.size w8) (.cells #[.int .i64 x, .int .i64 y] 34)
                have R9 := own_b R8 hb
                have HZ9 := hide (Z8.b hb)
                obtain ⟨q0, q1⟩ := Bx.new w8 x y
                simp only at q0 q1
                obtain ⟨gr2, hgr2, y0, y1⟩ := row_at R9 (unhide HLN) (unhide HXY2)
                obtain rfl : gr = gr2 := by simpa using hgr2
                have HR9 := hide R9
                clear HRD HR7 F8 Z8 R8 R9 hb hgr2
                go_upto_region 31 with (fail)
                generalize w8.alloc (.cells #[.int .i64 x, .int .i64 y] 34) = W9 at *
                generalize w8.heap.size = p9 at *
                go_quiet (fail)
                have bq : Below W9.heap.size W9 (W9.drewN nq) := bdN (Below.refl _ _) nq
                have HR10 := hide (own_b (unhide HR9) bq)
                have HZ10 := hide ((unhide HZ9).b bq)
                have HTT : Hid (∀ o ∈ l, o ∈ T.erase (x, y) ++ [(x, y)]) := fun o ho => by
                  have h1 := (unhide HT) o ho
                  by_cases e : o = (x, y)
                  · simp [e]
                  · exact List.mem_append.2 (Or.inl ((List.mem_erase_of_ne e).2 h1))
                clear HR9 HZ9 bq q0 q1 y0 y1
                go_wp2_with fail
                go_roundw
                case rel => exact ⟨k + 1, T.erase (x, y) ++ [(x, y)], by go_num, by omega, HTT, HR10, HZ10⟩
                case measure => simp [RowKit.intOf]; omega
              · obtain rfl : k = j := by omega
                have hnl : ¬ (k : Int) < k := by omega
                have HWA := hide (waiting_z (unhide HL) (by simp))
                simp only [Nat.sub_self, List.range'_zero, List.length_nil] at HWA
                have HLL := hide (unhide HL)
                clear HL
                go_wp2_with fail
                refine (unhide HWA).mono ?_
                rintro ev w5 ⟨v', rfl, o5, b5⟩
                obtain ⟨p5, c5, rfl⟩ := own_sl o5
                have hlow := ((unhide HLL).b b5).low
                rw [unhide HW0] at hlow
                have HLOW := hide (btr (unhide HB0) hlow)
                clear HWA o5 b5 HLL hlow
                go_wp2
                go_ret
                exact ⟨rfl, unhide HLOW⟩
  · clear HE
    by_cases c1 : n0 < 1
    · have d1 : decide (n0 < 1) = true := by simpa using c1
      go_enter Tryz.func3, Tryz.ntmps3
      go_wp2_with fail
      refine (unhide HPO).mono ?_
      rintro ev w0 ⟨rfl, b0⟩
      have HB0 := hide b0
      clear HPO b0
      go_wp2
      go_ret
      exact ⟨rfl, unhide HB0⟩
    · have d1 : decide (n0 < 1) = false := by simpa using c1
      by_cases c2 : 16 < n0
      · have d2 : decide (n0 > 16) = true := by simpa using c2
        have d2' : decide (16 < n0) = true := by simpa using c2
        go_enter Tryz.func3, Tryz.ntmps3
        go_wp2_with fail
        refine (unhide HPO).mono ?_
        rintro ev w0 ⟨rfl, b0⟩
        have HB0 := hide b0
        clear HPO b0
        go_wp2
        go_ret
        exact ⟨rfl, unhide HB0⟩
      · have d2 : decide (n0 > 16) = false := by simpa using c2
        have d2' : decide (16 < n0) = false := by simpa using c2
        by_cases c3 : n1 < 0
        · have d3 : decide (n1 < 0) = true := by simpa using c3
          go_enter Tryz.func3, Tryz.ntmps3
          go_wp2_with fail
          refine (unhide HPO).mono ?_
          rintro ev w0 ⟨rfl, b0⟩
          have HB0 := hide b0
          clear HPO b0
          go_wp2
          go_ret
          exact ⟨rfl, unhide HB0⟩
        · have d3 : decide (n1 < 0) = false := by simpa using c3
          have d4 : decide (n1 > 8) = true := by simp; omega
          have d4' : decide (8 < n1) = true := by simp; omega
          go_enter Tryz.func3, Tryz.ntmps3
          go_wp2_with fail
          refine (unhide HPO).mono ?_
          rintro ev w0 ⟨rfl, b0⟩
          have HB0 := hide b0
          clear HPO b0
          go_wp2
          go_ret
          exact ⟨rfl, unhide HB0⟩
theorem fair_law (n0 n1 : Int) (w : World) (e : Nat → Addr) (he : Errs w e) :
    Calls Tryz.prog 3 #[.int .i64 n0, .int .i64 n1] w fun ev w' => ev = .returned (.bool true) ∧ Below w.heap.size w w' :=
  fair_ok n0 n1 w e he (by
    have h := he.tab 0 (by omega)
    unfold World.cell? at h
    cases hb : w.heap[11]? with
    | none => simp only [hb] at h; cases h
    | some o => exact (Array.getElem?_eq_some_iff.mp hb).1)
end Pl
end Go.Proofs.YtcbmfakjfoggaaaGreatDoor
