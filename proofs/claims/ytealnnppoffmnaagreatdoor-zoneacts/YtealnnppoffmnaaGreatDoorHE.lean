/- The laws' asZone: the package's zone answers as the document's answer's. -/
import Derived.Test.YtealnnppoffmnaaGreatDoorHC
import Derived.Test.YtealnnppoffmnaaGreatDoorGN
import Derived.Test.YtealnnppoffmnaaGreatDoorGB
namespace Go.Proofs.YtealnnppoffmnaaGreatDoor
open Go.RowKit Go.Maps
namespace Dz
open Fr Bd Zn
set_option maxRecDepth 100000 in
set_option maxHeartbeats 16000000 in
theorem as_zone (z m : Nat) (mn lw hi : Int) (k : Nat) (nb fm tm nb2 : Nat → Nat) (nd : Nat → Nd) (fr : Nat → List Nat) (w : World) (e : Nat → Addr) (he : Errs w e) (h : DZ w z mn lw hi k nb fm tm nd fr) (h2 : RZ w m mn lw hi k nb2 nd fr) (h0 : 0 ≤ hi) (h1 : hi ≤ 9223372036854775807) (hk : k ≤ 20) :
    Calls Tryz.prog 35 #[ptr z, ptr m] w fun ev w' => ev = .returned (.bool true) ∧ Below w.heap.size w w' := by
  have HD := hide h
  have HR := hide h2
  have HE := hide he
  clear h h2 he
  unfold ptr
  go_enter Tryz.func35, Tryz.ntmps35
  go_wp2_with fail
  go_loopw [5] (fun a wr => ∃ (i : Int), a = .int .i64 i ∧ -1 ≤ i ∧ i ≤ k + 1 ∧ Hid (Below w.heap.size w wr)) (fun a _ => (k + 1 - RowKit.intOf a).toNat)
  case atStart => exact ⟨-1, rfl, by omega, by omega, Below.refl _ _⟩
  case round =>
    obtain ⟨i, rfl, hi1, hi2, hB⟩ := hrel
    obtain ⟨g, c, e1, o1⟩ := ((unhide HR).b (unhide hB)).cn
    clear o1
    by_cases hle : i ≤ k
    · by_cases hin : 0 ≤ i ∧ i < k
      · obtain ⟨x, rfl⟩ := Int.eq_ofNat_of_zero_le hin.1
        have hx : x < k := by omega
        have hxk : (x : Int) < k := by omega
        have hx0 : (0 : Int) ≤ x := by omega
        have d2 : decide ((0 : Int) ≤ (x : Int) ∧ (x : Int) < k) = true := by simp; omega
        have HL := hide (zlow_ok z mn lw hi k nb fm tm nd fr x wr ((unhide HD).b (unhide hB)) hx)
        have HLA := hide (fun w1 (hb : Below w.heap.size w w1) => zlack_ok z mn lw hi k nb fm tm nd fr x w1 ((unhide HD).b hb) hx h0 h1)
        have HLF := hide (fun w1 (hb : Below w.heap.size w w1) => zfree_ok z mn lw hi k nb fm tm nd fr x w1 ((unhide HD).b hb) hx)
        have hnl := nd_len ((unhide HR).ok x hx)
        have HF2 := hide (fun w1 (hb : Below w.heap.size w w1) => rfree_ok (nb2 x) (nd x).N (nd x).F (nd x).T w1 (((unhide HR).b hb).rb x hx) hnl.1 hnl.2.2)
        have HL2' := hide (fun w1 (hb : Below w.heap.size w w1) => rlack_ok m mn lw hi k nb2 nd fr x w1 ((unhide HR).b hb) hx h0 h1)
        generalize hpf : pgs (nd x).F = pf at *
        generalize (if hi - pf < 0 then 0 else hi - pf) = lk at *
        clear hpf
        unfold ptr at *
        go_wp2_with fail
        refine (unhide HL).mono ?_
        rintro ev w1 ⟨rfl, b1⟩
        have B1 := hide (btr (unhide hB) b1)
        have HL1 := hide ((unhide HLA) w1 (unhide B1))
        clear HL HLA e1 b1 hB
        go_wp2_with fail
        refine (unhide HL1).mono ?_
        rintro ev w2 ⟨rfl, b2⟩
        have B2 := hide (btr (unhide B1) b2)
        have HL2 := hide ((unhide HLF) w2 (unhide B2))
        clear HL1 HLF b2 B1
        go_wp2_with fail
        refine (unhide HL2).mono ?_
        rintro ev w3 ⟨rfl, b3⟩
        have B3 := hide (btr (unhide B2) b3)
        have HL3 := hide (znode_ok z mn lw hi k nb fm tm nd fr x w3 ((unhide HD).b (unhide B3)) hx)
        clear HL2 b3 B2
        unfold ptr at *
        go_wp2_with fail
        refine (unhide HL3).mono ?_
        rintro ev w4 ⟨cb, fm', tm', rfl, hbud, b4⟩
        have HBU := hide hbud
        have B4 := hide (btr (unhide B3) b4)
        have HL4 := hide (isnode_ok m mn lw hi k nb2 nd fr x w4 ((unhide HR).b (unhide B4)))
        rw [d2] at HL4
        clear HL3 b4 B3 d2 hbud
        unfold ptr at *
        go_wp2_with fail
        refine (unhide HL4).mono ?_
        rintro ev w5 ⟨rfl, b5⟩
        have B5 := hide (btr (unhide B4) b5)
        have HBU5 := hide ((unhide HBU).b b5)
        have HL5 := hide ((unhide HF2) w5 (unhide B5))
        have R5 := (unhide HR).b (unhide B5)
        obtain ⟨g5, c5, e5, hg5, e6⟩ := R5.node hx
        clear HL4 b5 B4 HBU HF2 R5
        unfold ptr at *
        go_wp2_with fail
        refine (unhide HL5).mono ?_
        rintro ev w6 ⟨rfl, b6⟩
        have B6 := hide (btr (unhide B5) b6)
        have HBU6 := hide ((unhide HBU5).b b6)
        have HL6 := hide ((unhide HL2') w6 (unhide B6))
        have R6 := (unhide HR).b (unhide B6)
        have m3 := R6.m3
        clear HL5 b6 B5 HBU5 HL2' e5 e6 hg5 R6
        go_wp2_with fail
        refine (unhide HL6).mono ?_
        rintro ev w7 ⟨rfl, b7⟩
        have B7 := hide (btr (unhide B6) b7)
        have R7 := (unhide HR).b (unhide B7)
        obtain ⟨g7, c7, e7, hg7, e8⟩ := R7.node hx
        have HL7 := hide (as_buddy cb fm' tm' (nb2 x) (nd x).N (nd x).F (nd x).T w7 ((unhide HBU6).b b7) (R7.rb x hx) hnl.1 hnl.2.1 hnl.2.2)
        clear HL6 b7 B6 HBU6 m3 R7
        unfold ptr at *
        go_wp2_with fail
        refine (unhide HL7).mono ?_
        rintro ev w8 ⟨rfl, b8⟩
        have B8 := hide (btr (unhide B7) b8)
        clear HL7 b8 B7 e7 e8 hg7
        go_wp2_with fail
        go_roundw
        case rel => exact ⟨x + 1, by go_num, by omega, by omega, B8⟩
        case measure => simp [RowKit.intOf]; omega
      · have d2 : decide (0 ≤ i ∧ i < k) = false := by simpa using hin
        have HL := hide (zlow_bad z mn lw hi k nb fm tm nd fr i wr e ((unhide HE).below (unhide hB)).three ((unhide HD).b (unhide hB)) hin)
        unfold ptr errV at *
        go_wp2_with fail
        refine (unhide HL).mono ?_
        rintro ev w1 ⟨rfl, b1⟩
        have B1 := hide (btr (unhide hB) b1)
        have HL1 := hide (zlack_bad z mn lw hi k nb fm tm nd fr i w1 e ((unhide HE).below (unhide B1)).three ((unhide HD).b (unhide B1)) hin)
        clear HL e1 b1 hB
        unfold ptr errV at *
        go_wp2_with fail
        refine (unhide HL1).mono ?_
        rintro ev w2 ⟨rfl, b2⟩
        have B2 := hide (btr (unhide B1) b2)
        have HL2 := hide (zfree_bad z mn lw hi k nb fm tm nd fr i w2 e ((unhide HE).below (unhide B2)).three ((unhide HD).b (unhide B2)) hin)
        clear HL1 b2 B1
        unfold ptr errV at *
        go_wp2_with fail
        refine (unhide HL2).mono ?_
        rintro ev w3 ⟨rfl, b3⟩
        have B3 := hide (btr (unhide B2) b3)
        have HL3 := hide (znode_bad z mn lw hi k nb fm tm nd fr i w3 e ((unhide HE).below (unhide B3)).three ((unhide HD).b (unhide B3)) hin)
        clear HL2 b3 B2
        unfold ptr errV at *
        go_wp2_with fail
        refine (unhide HL3).mono ?_
        rintro ev w4 ⟨rfl, b4⟩
        have B4 := hide (btr (unhide B3) b4)
        have HL4 := hide (isnode_ok m mn lw hi k nb2 nd fr i w4 ((unhide HR).b (unhide B4)))
        rw [d2] at HL4
        clear HL3 b4 B3 d2
        unfold ptr at *
        go_wp2_with fail
        refine (unhide HL4).mono ?_
        rintro ev w5 ⟨rfl, b5⟩
        have B5 := hide (btr (unhide B4) b5)
        clear HL4 b5 B4
        go_wp2_with fail
        refine (coded_sent 1 (by omega) 2 (by omega) w5 e ((unhide HE).below (unhide B5))).mono ?_
        rintro ev w6 ⟨rfl, b6⟩
        have B6 := hide (btr (unhide B5) b6)
        clear b6 B5
        go_wp2_with fail
        refine (coded_sent 1 (by omega) 2 (by omega) w6 e ((unhide HE).below (unhide B6))).mono ?_
        rintro ev w7 ⟨rfl, b7⟩
        have B7 := hide (btr (unhide B6) b7)
        clear b7 B6
        go_wp2_with fail
        refine (coded_sent 1 (by omega) 2 (by omega) w7 e ((unhide HE).below (unhide B7))).mono ?_
        rintro ev w8 ⟨rfl, b8⟩
        have B8 := hide (btr (unhide B7) b8)
        clear b8 B7
        go_wp2_with fail
        refine (coded_sent 1 (by omega) 2 (by omega) w8 e ((unhide HE).below (unhide B8))).mono ?_
        rintro ev w9 ⟨rfl, b9⟩
        have B9 := hide (btr (unhide B8) b9)
        clear b9 B8
        go_wp2_with fail
        go_roundw
        case rel => exact ⟨i + 1, by go_num, by omega, by omega, B9⟩
        case measure => simp [RowKit.intOf]; omega
    · have hnl : ¬ i ≤ (k : Int) := hle
      go_wp2
      go_ret
      exact ⟨rfl, unhide hB⟩
end Dz
end Go.Proofs.YtealnnppoffmnaaGreatDoor
