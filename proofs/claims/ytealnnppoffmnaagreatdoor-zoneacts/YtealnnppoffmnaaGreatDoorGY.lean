/- The closed fact 'paired' of the laws of chapter 2 · BuddyActs: its walk, over the contracts · A list of acts that came in, as the walk takes it; BuddyActs, whatever it is called with. -/
import Derived.Test.YtealnnppoffmnaaGreatDoorGF
import Derived.Test.YtealnnppoffmnaaGreatDoorGE
import Derived.Test.YtealnnppoffmnaaGreatDoorGX
import Derived.Deep.Slices
import Derived.ChangeSame
namespace Go.Proofs.YtealnnppoffmnaaGreatDoor
open Go.RowKit Go.Maps
namespace Bd
open Fr
theorem pair1 : fit 0 (cv 0 2) = some (0, 1) := by decide +kernel
theorem pair2 : takeF 0 (0, 1) (cv 0 2) = [(1, 0)] := by decide +kernel
theorem pair3 : giveF (0, 0) [(1, 0)] = [(0, 1)] := by decide +kernel
theorem pair4 : del 0 (ins (0, 0) []) = [] := by decide +kernel
theorem pair5 : pgs [(0, 1)] = 2 := by decide +kernel

set_option maxRecDepth 100000 in
set_option maxHeartbeats 4000000 in
theorem paired_ok (w : World) (e : Nat → Addr) (he : Errs3 w e) :
    Calls Tryz.prog 7 #[] w fun ev w' => ev = .returned (.bool true) ∧ Below w.heap.size w w' := by
  have HE := hide he
  clear he
  go_enter Tryz.func7, Tryz.ntmps7
  go_wp2_with fail
  refine (new_ok 2 w (by omega) (by omega)).mono ?_
  rintro ev w1 ⟨b, fm, tm, rfl, B1, hfm, htm, b1⟩
  have I1 := cv_inv 2 (by omega)
  have HT := take_ok b fm tm 2 (cv 0 2) [] 0 (0, 1) w1 B1 I1 (by omega) (by omega) (by omega) pair1
  have I2 := take_inv (by omega) I1 (fit_some pair1).1 (fit_some pair1).2
  rw [pair2] at HT I2
  have HT := hide HT
  have hs1 := b1.size
  have F1 := b1
  clear B1 I1
  unfold ptr at *
  go_wp2_with fail
  refine (unhide HT).mono ?_
  rintro ev w2 ⟨rfl, B2, k2⟩
  have F2 := F1.trans (k2.below hfm htm hs1)
  have hs2 := k2.size
  have B3 := B2.a (blkO 0 0)
  have E3 := (unhide HE).below (ballo F2 (blkO 0 0))
  have X3 := bx_new w2 (0, 0)
  have HG := give_ok b fm tm 2 [(1, 0)] (ins (0, 0) []) (0, 0) (w2.alloc (blkO 0 0)) e E3 B3 I2 (by omega) (mem_ins_self _ _)
  rw [pair3, pair4] at HG
  have HG := hide HG
  clear HT I2 B2 E3 F1 B3
  go_wp2_with fail
  refine (unhide HG).mono ?_
  rintro ev w3 ⟨rfl, B4, k3⟩
  have F3 := (ballo F2 (blkO 0 0)).trans (k3.below hfm htm (by simp; omega))
  clear HG X3 F2
  go_wp2_with fail
  refine (free_ok b fm tm 2 [(0, 1)] [] w3 B4).mono ?_
  rintro ev w4 ⟨v, rfl, hrow, _, b4⟩
  obtain ⟨g, cap, rfl, hg, hcap, hcap2, hr⟩ := row_of hrow (by simp)
  have cc := hr.c 0 (by simp)
  have hgl := hr.lt
  have B5 := B4.b b4
  have F4 := btr F3 b4
  simp only [List.getD_cons_zero, Nat.zero_mul, Nat.zero_add, List.length_cons, List.length_nil] at cc hcap ⊢
  clear hrow hr B4 F3 b4
  obtain ⟨q0, q1⟩ := cc
  go_wp2_with fail
  refine (pages_free b fm tm 2 [(0, 1)] [] w4 B5).mono ?_
  rintro ev w5 ⟨rfl, b5⟩
  rw [pair5]
  have q2 := (b5.cell (p := ⟨g, 0, none⟩) hgl).trans q0
  have q3 := (b5.cell (p := ⟨g, 1, none⟩) hgl).trans q1
  unfold maxLen at hcap2
  have F5 := btr F4 b5
  clear q0 q1 B5 F4 b5
  go_wp2_with fail
  go_ret
  exact ⟨rfl, F5⟩
end Bd
end Go.Proofs.YtealnnppoffmnaaGreatDoor
namespace Go.Proofs.YtealnnppoffmnaaGreatDoor
open Go.RowKit Go.Maps
attribute [local go_sem ↓] Go.wp_at_zero Go.wp_at_succ
namespace Bd
open Fr
/-- The acts of an argument's slice. -/
def Acts (w : World) (p : Option Addr) (n : Nat) (s : Nat → ByteArray) (z a k : Nat → Int) : Prop := ∀ i, i < n → ∃ blk off, p = some ⟨blk, off, none⟩ ∧ blk < w.heap.size ∧
  w.cell? ⟨blk, off + i * 4, none⟩ = some (.string (s i)) ∧ w.cell? ⟨blk, off + i * 4 + 1, none⟩ = some (.int .i64 (z i)) ∧ w.cell? ⟨blk, off + i * 4 + 2, none⟩ = some (.int .i64 (a i)) ∧ w.cell? ⟨blk, off + i * 4 + 3, none⟩ = some (.int .i64 (k i)) ∧
  (Lit.int .i64 (a i)).wf = true

theorem Bx.kc {w w' : World} {d c : Nat} {x : Bl} (h : Bx w d x) (hdc : d ≠ c) (hk : Kept c c w w') : Bx w' d x := by
  have e := hk.block d h.lt hdc hdc
  exact ⟨(World.cell?_of_block (w := w) e).trans h.c0, (World.cell?_of_block (w := w) e).trans h.c1, (World.frozen?_of_block (w := w) (a := ⟨d, 0, none⟩) e).trans h.f0, (World.frozen?_of_block (w := w) (a := ⟨d, 1, none⟩) e).trans h.f1, Nat.lt_of_lt_of_le h.lt hk.size⟩

set_option maxRecDepth 100000 in
set_option maxHeartbeats 8000000 in
theorem acts_ok (N : Int) (p : Option Addr) (n cap : Nat) (s : Nat → ByteArray) (z a k : Nat → Int) (w : World) (e : Nat → Addr) (he : Errs w e) (h1 : 1 ≤ N) (h2 : N ≤ 256) (hn : n ≤ 100) (hz : Acts w p n s z a k) :
    Calls Tryz.prog 3 #[.int .i64 N, .slice p n cap] w fun ev w' => ev = .returned (.bool true) ∧ Below w.heap.size w w' := by
  have HE := hide he
  have HZ := hide hz
  clear he hz
  have d1 : decide ((100 : Int) < n) = false := by simp; omega
  have d2 : decide (N < 1) = false := by simp; omega
  have d3 : decide (256 < N) = false := by simp; omega
  go_enter Tryz.func3, Tryz.ntmps3
  go_wp2_with fail
  refine (paired_ok w e (unhide HE).three).mono ?_
  rintro ev w1 ⟨rfl, b1⟩
  go_wp2_with fail
  refine (new_ok N w1 h1 h2).mono ?_
  rintro ev w2 ⟨b, fm, tm, rfl, B2, hfm, htm, b2⟩
  have F2 := btr b1 b2
  have hfm2 : w.heap.size ≤ fm := Nat.le_trans b1.size hfm
  have htm2 : w.heap.size ≤ tm := Nat.le_trans b1.size htm
  have B2 := hide B2
  clear d1 d2 d3 b1 b2 hfm htm
  unfold ptr at *
  go_wp2_with fail
  refine (rnew_ok N w2 h1 h2).mono ?_
  rintro ev w3 ⟨c, rfl, R3, hc, b3⟩
  have hbc : b ≠ c := by have := (unhide B2).lt; omega
  have hcw : w.heap.size ≤ c := Nat.le_trans F2.size hc
  have B3 := hide ((unhide B2).b b3)
  have R3 := hide R3
  have F3 := hide (btr F2 b3)
  have I0 := hide (cv_inv N (by omega))
  clear B2 F2 b3 hc
  unfold ptr at *
  go_wp2_with fail
  go_loopw [6, 9] (fun x t wr => ∃ (i b fm tm : Nat) (F T : List Bl), x = .pointer (some ⟨b, 0, none⟩) ∧ t = .int .i64 i ∧ i ≤ n ∧ Hid (Inv N F T) ∧ Hid (Bud wr b fm tm N F T) ∧ Hid (RB wr c N F T) ∧ b ≠ c ∧ w.heap.size ≤ fm ∧ w.heap.size ≤ tm ∧ Hid (Below w.heap.size w wr)) (fun _ t _ => n - (RowKit.intOf t).toNat)
  case atStart => exact ⟨0, b, fm, tm, _, _, rfl, rfl, Nat.zero_le _, I0, B3, R3, hbc, hfm2, htm2, F3⟩
  case round =>
    clear I0 B3 R3 F3 hbc hfm2 htm2
    obtain ⟨i, b, fm, tm, F, T, rfl, rfl, hi, hI, hB, hR, hbc, hfm, htm, hF⟩ := hrel
    by_cases hin : i < n
    · obtain ⟨blk, off, rfl, hbl, z0, z1, z2, z3, hwf⟩ := (unhide HZ) i hin
      have hlt : (i : Int) < n := by omega
      have hge : (0 : Int) ≤ i := by omega
      have y0 := ((unhide hF).cell (p := ⟨blk, off + i * 4, none⟩) hbl).trans z0
      have y1 := ((unhide hF).cell (p := ⟨blk, off + i * 4 + 1, none⟩) hbl).trans z1
      have y2 := ((unhide hF).cell (p := ⟨blk, off + i * 4 + 2, none⟩) hbl).trans z2
      have y3 := ((unhide hF).cell (p := ⟨blk, off + i * 4 + 3, none⟩) hbl).trans z3
      clear z0 z1 z2 z3
      generalize s i = si at *
      generalize z i = zi at *
      generalize a i = ai at *
      generalize k i = ki at *
      have BW := (unhide hB).a (.cells #[.string si, .int .i64 zi, .int .i64 ai, .int .i64 ki] 35)
      have RW := (unhide hR).a (.cells #[.string si, .int .i64 zi, .int .i64 ai, .int .i64 ki] 35)
      have FW := ballo (unhide hF) (.cells #[.string si, .int .i64 zi, .int .i64 ai, .int .i64 ki] 35)
      have x1 : (wr.alloc (.cells #[.string si, .int .i64 zi, .int .i64 ai, .int .i64 ki] 35)).cell? ⟨wr.heap.size, 1, none⟩ = some (.int .i64 zi) := World.cell?_alloc_new wr #[.string si, .int .i64 zi, .int .i64 ai, .int .i64 ki] 35 1
      have x2 : (wr.alloc (.cells #[.string si, .int .i64 zi, .int .i64 ai, .int .i64 ki] 35)).cell? ⟨wr.heap.size, 2, none⟩ = some (.int .i64 ai) := World.cell?_alloc_new wr #[.string si, .int .i64 zi, .int .i64 ai, .int .i64 ki] 35 2
      have x3 : (wr.alloc (.cells #[.string si, .int .i64 zi, .int .i64 ai, .int .i64 ki] 35)).cell? ⟨wr.heap.size, 3, none⟩ = some (.int .i64 ki) := World.cell?_alloc_new wr #[.string si, .int .i64 zi, .int .i64 ai, .int .i64 ki] 35 3
      have hab : wr.heap.size < (wr.alloc (.cells #[.string si, .int .i64 zi, .int .i64 ai, .int .i64 ki] 35)).heap.size := by simp
      have hac : wr.heap.size ≠ c := by have := (unhide hR).lt; omega
      have EW := hide ((unhide HE).below FW)
      have BW := hide BW
      have RW := hide RW
      have FW := hide FW
      have HX2 := hide x2
      have HX3 := hide x3
      clear hB hR hF x2 x3 hbl
      cases hT : (si.toList == [116, 97, 107, 101])
      · cases hG : (si.toList == [103, 105, 118, 101])
        · cases hS : (si.toList == [115, 112, 108, 105, 116])
          · -- another one goes its own way
            have HCP := hide (copy_ok b fm tm N F T _ (unhide BW))
            have hfl := (unhide BW).f.lt
            have htl := (unhide BW).t.lt
            have hcl := (unhide RW).lt
            unfold ptr at *
            go_wp2_with fail
            refine (unhide HCP).mono ?_
            rintro ev w3 ⟨b2, fm2, tm2, rfl, B2, q1, q2, q3, b3⟩
            have B2 := hide B2
            have BO := hide ((unhide BW).b b3)
            have RO := hide ((unhide RW).b b3)
            have FO := hide (btr (unhide FW) b3)
            have n1 : fm2 ≠ fm := by omega
            have n2 : fm2 ≠ tm := by omega
            have n3 : tm2 ≠ fm := by omega
            have n4 : tm2 ≠ tm := by omega
            have nc : b2 ≠ c := by omega
            have hfm2 : w.heap.size ≤ fm2 := Nat.le_trans (unhide FW).size q2
            have htm2 : w.heap.size ≤ tm2 := Nat.le_trans (unhide FW).size q3
            obtain ⟨F1, T1, v1, u1, I1, hA⟩ := take_any b fm tm N F T 0 e (unhide hI) h2 (by omega) (by omega)
            have HA := hide (hA w3 ((unhide HE).below (unhide FO)) (unhide BO))
            clear HCP hA BW RW FW EW HX2 HX3 x1 b3 q1 q2 q3 hfl htl hcl hab hac
            unfold ptr at *
            go_wp2_with fail
            refine (unhide HA).mono ?_
            rintro ev w4 ⟨rfl, B4, k4⟩
            have N4 := hide ((unhide B2).kk (unhide BO).f (unhide BO).t k4 n1 n2 n3 n4)
            have R4 := hide ((unhide RO).kk (unhide BO).f (unhide BO).t k4)
            have F4 := hide ((unhide FO).trans (k4.below hfm htm (unhide FO).size))
            obtain ⟨F2, T2, v2, u2, I2, hA⟩ := take_any b fm tm N F1 T1 3 e I1 h2 (by omega) (by omega)
            have HA := hide (hA w4 ((unhide HE).below (unhide F4)) B4)
            have B4 := hide B4
            clear hA B2 BO RO FO k4 I1 I2
            unfold ptr at *
            go_wp2_with fail
            refine (unhide HA).mono ?_
            rintro ev w5 ⟨rfl, B5, k5⟩
            have N5 := (unhide N4).kk (unhide B4).f (unhide B4).t k5 n1 n2 n3 n4
            have R5 := (unhide R4).kk (unhide B4).f (unhide B4).t k5
            have F5 := hide ((unhide F4).trans (k5.below hfm htm (unhide F4).size))
            have HAS := hide (as_buddy b2 fm2 tm2 c N F T w5 N5 R5 (inv_lenF (unhide hI) h2) (inv_lenT (unhide hI) h2) (inv_ordF (unhide hI)))
            have N5 := hide N5
            have R5 := hide R5
            clear HA B4 N4 R4 F4 B5 k5
            unfold ptr at *
            go_wp2_with fail
            refine (unhide HAS).mono ?_
            rintro ev w9 ⟨rfl, b9⟩
            go_wp2_with fail
            go_roundw
            case rel => exact ⟨i + 1, b2, fm2, tm2, F, T, rfl, by go_num, by omega, hI, hide ((unhide N5).b b9), hide ((unhide R5).b b9), nc, hfm2, htm2, hide (btr (unhide F5) b9)⟩
            case measure => simp [RowKit.intOf]; omega
          · have HP := hide (split_both b fm tm c N F T (ai, ki) e (unhide hI) h2 hwf)
            obtain ⟨F', T', d, r, I2, hg, hrg, hcd⟩ := unhide HP
            have W0 := hide (drw (wr.alloc (.cells #[.string si, .int .i64 zi, .int .i64 ai, .int .i64 ki] 35)))
            have HG := hide (hg _ ((unhide EW).below (unhide W0)) ((unhide BW).b (unhide W0)))
            have HRG := hide hrg
            have HCD := hide hcd
            have I2 := hide I2
            have x2 := unhide HX2
            have x3 := unhide HX3
            clear hg hrg hcd HP hI W0 x1
            unfold ptr at *
            simp only at HG HRG
            go_wp2_with fail
            generalize wr.alloc (.cells #[.string si, .int .i64 zi, .int .i64 ai, .int .i64 ki] 35) = W0 at *
            generalize wr.heap.size = ab at *
            have HK := hide (fun (w1 : World) (hk : Kept fm tm W0 w1) => (⟨cell_kept (unhide HX2) (unhide BW).f (unhide BW).t hk, cell_kept (unhide HX3) (unhide BW).f (unhide BW).t hk⟩ : w1.cell? ⟨ab, 2, none⟩ = some (.int .i64 ai) ∧ w1.cell? ⟨ab, 3, none⟩ = some (.int .i64 ki)))
            go_region_held3 (fun w' => w'.cell? ⟨ab, 2, none⟩ = some (.int .i64 ai) ∧ w'.cell? ⟨ab, 3, none⟩ = some (.int .i64 ki)) ((first | (go_keep; done) | assumption)) ((first
              | (go_at_call 16; refine (unhide HG).mono ?_; rintro ev w3 ⟨rfl, B3, k3⟩; have k3 : Kept fm tm W0 w3 := kd k3; have B3 := hide B3; have R3 := hide ((unhide RW).kk (unhide BW).f (unhide BW).t k3); have F3 := hide ((unhide FW).trans (k3.below hfm htm (unhide FW).size)); have s3 := (unhide HK) w3 k3; have hab3 : ab < w3.heap.size := Nat.lt_of_lt_of_le hab k3.size)
              | (go_at_call 17; refine ((unhide HRG) w3 (unhide R3)).mono ?_; rintro ev w4 ⟨rfl, R4, k4⟩; have B4 := hide ((unhide B3).kc (unhide R3) hbc k4); have R4 := hide R4; have F4 := hide ((unhide F3).trans (k4.below hcw hcw (unhide F3).size)); have s4 : w4.cell? ⟨ab, 2, none⟩ = some (.int .i64 ai) ∧ w4.cell? ⟨ab, 3, none⟩ = some (.int .i64 ki) := ⟨(k4.cell (p := ⟨ab, 2, none⟩) hab3 hac hac).trans s3.1, (k4.cell (p := ⟨ab, 3, none⟩) hab3 hac hac).trans s3.2⟩; have hab4 : ab < w4.heap.size := Nat.lt_of_lt_of_le hab3 k4.size)
              | (go_at_call 9; refine ((unhide HCD) w4 ((unhide HE).below (unhide F4))).mono ?_; rintro ev w5 ⟨rfl, b5⟩; have s5 : w5.cell? ⟨ab, 2, none⟩ = some (.int .i64 ai) ∧ w5.cell? ⟨ab, 3, none⟩ = some (.int .i64 ki) := ⟨(b5.cell (p := ⟨ab, 2, none⟩) hab4).trans s4.1, (b5.cell (p := ⟨ab, 3, none⟩) hab4).trans s4.2⟩)))
            have B5 := (unhide B4).b b5
            have R5 := (unhide R4).b b5
            have F5 := hide (btr (unhide F4) b5)
            have HAS := hide (as_buddy b fm tm c N F' T' w5 B5 R5 (inv_lenF (unhide I2) h2) (inv_lenT (unhide I2) h2) (inv_ordF (unhide I2)))
            have B5 := hide B5
            have R5 := hide R5
            clear B3 R3 F3 s3 hab3 k3 B4 R4 F4 s4 hab4 k4 b5 s5 HG HRG HCD HK x2 x3 HX2 HX3 BW RW FW EW hab hac
            unfold ptr at *
            go_wp2_with fail
            refine (unhide HAS).mono ?_
            rintro ev w9 ⟨rfl, b9⟩
            go_wp2_with fail
            go_roundw
            case rel => exact ⟨i + 1, b, fm, tm, F', T', rfl, by go_num, by omega, I2, hide ((unhide B5).b b9), hide ((unhide R5).b b9), hbc, hfm, htm, hide (btr (unhide F5) b9)⟩
            case measure => simp [RowKit.intOf]; omega
        · have HP := hide (give_both b fm tm c N F T (ai, ki) e (unhide hI) h2 hwf)
          obtain ⟨F', T', d, r, I2, hg, hrg, hcd⟩ := unhide HP
          have W0 := hide (drw (wr.alloc (.cells #[.string si, .int .i64 zi, .int .i64 ai, .int .i64 ki] 35)))
          have HG := hide (hg _ ((unhide EW).below (unhide W0)) ((unhide BW).b (unhide W0)))
          have HRG := hide hrg
          have HCD := hide hcd
          have I2 := hide I2
          have x2 := unhide HX2
          have x3 := unhide HX3
          clear hg hrg hcd HP hI W0 x1
          unfold ptr at *
          simp only at HG HRG
          go_wp2_with fail
          generalize wr.alloc (.cells #[.string si, .int .i64 zi, .int .i64 ai, .int .i64 ki] 35) = W0 at *
          generalize wr.heap.size = ab at *
          have HK := hide (fun (w1 : World) (hk : Kept fm tm W0 w1) => (⟨cell_kept (unhide HX2) (unhide BW).f (unhide BW).t hk, cell_kept (unhide HX3) (unhide BW).f (unhide BW).t hk⟩ : w1.cell? ⟨ab, 2, none⟩ = some (.int .i64 ai) ∧ w1.cell? ⟨ab, 3, none⟩ = some (.int .i64 ki)))
          go_region_held3 (fun w' => w'.cell? ⟨ab, 2, none⟩ = some (.int .i64 ai) ∧ w'.cell? ⟨ab, 3, none⟩ = some (.int .i64 ki)) ((first | (go_keep; done) | assumption)) ((first
            | (go_at_call 14; refine (unhide HG).mono ?_; rintro ev w3 ⟨rfl, B3, k3⟩; have k3 : Kept fm tm W0 w3 := kd k3; have B3 := hide B3; have R3 := hide ((unhide RW).kk (unhide BW).f (unhide BW).t k3); have F3 := hide ((unhide FW).trans (k3.below hfm htm (unhide FW).size)); have s3 := (unhide HK) w3 k3; have hab3 : ab < w3.heap.size := Nat.lt_of_lt_of_le hab k3.size)
            | (go_at_call 15; refine ((unhide HRG) w3 (unhide R3)).mono ?_; rintro ev w4 ⟨rfl, R4, k4⟩; have B4 := hide ((unhide B3).kc (unhide R3) hbc k4); have R4 := hide R4; have F4 := hide ((unhide F3).trans (k4.below hcw hcw (unhide F3).size)); have s4 : w4.cell? ⟨ab, 2, none⟩ = some (.int .i64 ai) ∧ w4.cell? ⟨ab, 3, none⟩ = some (.int .i64 ki) := ⟨(k4.cell (p := ⟨ab, 2, none⟩) hab3 hac hac).trans s3.1, (k4.cell (p := ⟨ab, 3, none⟩) hab3 hac hac).trans s3.2⟩; have hab4 : ab < w4.heap.size := Nat.lt_of_lt_of_le hab3 k4.size)
            | (go_at_call 9; refine ((unhide HCD) w4 ((unhide HE).below (unhide F4))).mono ?_; rintro ev w5 ⟨rfl, b5⟩; have s5 : w5.cell? ⟨ab, 2, none⟩ = some (.int .i64 ai) ∧ w5.cell? ⟨ab, 3, none⟩ = some (.int .i64 ki) := ⟨(b5.cell (p := ⟨ab, 2, none⟩) hab4).trans s4.1, (b5.cell (p := ⟨ab, 3, none⟩) hab4).trans s4.2⟩)))
          have B5 := (unhide B4).b b5
          have R5 := (unhide R4).b b5
          have F5 := hide (btr (unhide F4) b5)
          have HAS := hide (as_buddy b fm tm c N F' T' w5 B5 R5 (inv_lenF (unhide I2) h2) (inv_lenT (unhide I2) h2) (inv_ordF (unhide I2)))
          have B5 := hide B5
          have R5 := hide R5
          clear B3 R3 F3 s3 hab3 k3 B4 R4 F4 s4 hab4 k4 b5 s5 HG HRG HCD HK x2 x3 HX2 HX3 BW RW FW EW hab hac
          unfold ptr at *
          go_wp2_with fail
          refine (unhide HAS).mono ?_
          rintro ev w9 ⟨rfl, b9⟩
          go_wp2_with fail
          go_roundw
          case rel => exact ⟨i + 1, b, fm, tm, F', T', rfl, by go_num, by omega, I2, hide ((unhide B5).b b9), hide ((unhide R5).b b9), hbc, hfm, htm, hide (btr (unhide F5) b9)⟩
          case measure => simp [RowKit.intOf]; omega
      · clear HX2 HX3
        by_cases ho : zi < 0 ∨ 6 < zi
        · have HT := hide (take_bound b zi _ e (unhide EW).three ho)
          unfold ptr at *
          go_wp2_with fail
          refine (unhide HT).mono ?_
          rintro ev w3 ⟨rfl, b3⟩
          have x4 := (ballo b3 (blkO 0 0)).cell (p := ⟨wr.heap.size, 1, none⟩) hab |>.trans x1
          have X3 := hide (bx_new w3 (0, 0))
          have B3 := hide (((unhide BW).b b3).a (blkO 0 0))
          have R3 := hide (((unhide RW).b b3).a (blkO 0 0))
          have F3 := hide (ballo (btr (unhide FW) b3) (blkO 0 0))
          clear HT b3 BW RW FW EW x1 hab
          go_wp2_with fail
          generalize w3.alloc (blkO 0 0) = W3 at *
          generalize w3.heap.size = xb at *
          refine (rIsOrder_no zi _ ho).mono ?_
          rintro ev w4 ⟨rfl, hw⟩
          rw [hw]
          clear hw
          have HC := hide (coded_sent 1 (by omega) 2 rfl W3 e ((unhide HE).below (unhide F3)))
          go_wp2_with fail
          refine (unhide HC).mono ?_
          rintro ev w5 ⟨rfl, b5⟩
          have X5 := (unhide X3).b b5
          have p0 := X5.c0
          have p1 := X5.c1
          simp only at p0 p1
          have B5 := hide ((unhide B3).b b5)
          have R5 := hide ((unhide R3).b b5)
          have F5 := hide (btr (unhide F3) b5)
          clear HC b5 X5 X3 B3 R3 F3
          go_wp2_with fail
          go_roundw
          case rel => exact ⟨i + 1, b, fm, tm, F, T, rfl, by go_num, by omega, hI, B5, R5, hbc, hfm, htm, F5⟩
          case measure => simp [RowKit.intOf]; omega
        · have h0 : 0 ≤ zi := by omega
          have h6 : zi ≤ 6 := by omega
          cases hfit : fit zi F with
          | none =>
            have HT := hide (take_full b fm tm N F T zi _ e (errs_four (unhide EW)) (unhide BW) h0 h6 hfit)
            unfold ptr at *
            go_wp2_with fail
            refine (unhide HT).mono ?_
            rintro ev w3 ⟨rfl, b3⟩
            have x4 := (ballo b3 (blkO 0 0)).cell (p := ⟨wr.heap.size, 1, none⟩) hab |>.trans x1
            have X3 := hide (bx_new w3 (0, 0))
            have B3 := hide (((unhide BW).b b3).a (blkO 0 0))
            have R3 := hide (((unhide RW).b b3).a (blkO 0 0))
            have F3 := hide (ballo (btr (unhide FW) b3) (blkO 0 0))
            clear HT b3 BW RW FW EW x1 hab
            go_wp2_with fail
            generalize w3.alloc (blkO 0 0) = W3 at *
            generalize w3.heap.size = xb at *
            refine (rIsOrder_yes zi _ h0 h6).mono ?_
            rintro ev w4 ⟨rfl, hw⟩
            rw [hw]
            clear hw
            have HRT := hide (rtake_none c N F T zi W3 (unhide R3) (unhide hI) h2 hfit)
            unfold ptr at *
            go_wp2_with fail
            refine (unhide HRT).mono ?_
            rintro ev w5 ⟨rfl, b5⟩
            have X5 := hide (((unhide X3).b b5).a (blkO 0 0))
            have B5 := hide (((unhide B3).b b5).a (blkO 0 0))
            have R5 := hide (((unhide R3).b b5).a (blkO 0 0))
            have F5 := hide (ballo (btr (unhide F3) b5) (blkO 0 0))
            clear HRT b5 X3 B3 R3 F3 x4
            go_wp2_with fail
            generalize w5.alloc (blkO 0 0) = W5 at *
            have HC := hide (coded_sent 4 (by omega) 5 rfl W5 e ((unhide HE).below (unhide F5)))
            refine (unhide HC).mono ?_
            rintro ev w6 ⟨rfl, b6⟩
            have X6 := (unhide X5).b b6
            have p0 := X6.c0
            have p1 := X6.c1
            simp only at p0 p1
            have B6 := (unhide B5).b b6
            have R6 := (unhide R5).b b6
            have F6 := hide (btr (unhide F5) b6)
            have HAS := hide (as_buddy b fm tm c N F T w6 B6 R6 (inv_lenF (unhide hI) h2) (inv_lenT (unhide hI) h2) (inv_ordF (unhide hI)))
            have B6 := hide B6
            have R6 := hide R6
            clear HC b6 X6 X5 B5 R5 F5
            unfold ptr at *
            go_wp2_with fail
            refine (unhide HAS).mono ?_
            rintro ev w9 ⟨rfl, b9⟩
            go_wp2_with fail
            go_roundw
            case rel => exact ⟨i + 1, b, fm, tm, F, T, rfl, by go_num, by omega, hI, hide ((unhide B6).b b9), hide ((unhide R6).b b9), hbc, hfm, htm, hide (btr (unhide F6) b9)⟩
            case measure => simp [RowKit.intOf]; omega
          | some x =>
            have HT := hide (take_ok b fm tm N F T zi x _ (unhide BW) (unhide hI) h2 h0 h6 hfit)
            have I2 := hide (take_inv h0 (unhide hI) (fit_some hfit).1 (fit_some hfit).2)
            have HRX := hide (fun w1 hr => rtake_ok c N F T zi x w1 hr (unhide hI) h2 h0 hfit)
            obtain ⟨x1', x2'⟩ := x
            simp only at HT HRX I2
            generalize takeF zi (x1', x2') F = F' at *
            generalize ins (x1', zi) T = T' at *
            unfold ptr at *
            go_wp2_with fail
            refine (unhide HT).mono ?_
            rintro ev w3 ⟨rfl, B3, k3⟩
            have R3 := (unhide RW).kk (unhide BW).f (unhide BW).t k3
            have x4 := (ballo (Below.refl w3.heap.size w3) (blkO x1' zi)).cell (p := ⟨wr.heap.size, 1, none⟩) (Nat.lt_of_lt_of_le hab k3.size) |>.trans (cell_kept x1 (unhide BW).f (unhide BW).t k3)
            have X3 := hide (bx_new w3 (x1', zi))
            have hxc : w3.heap.size ≠ c := by have := R3.lt; omega
            have B3 := hide (B3.a (blkO x1' zi))
            have R3 := hide (R3.a (blkO x1' zi))
            have F3 := hide (ballo ((unhide FW).trans (k3.below hfm htm (unhide FW).size)) (blkO x1' zi))
            clear HT k3 BW RW FW EW x1 hab
            go_wp2_with fail
            generalize w3.alloc (blkO x1' zi) = W3 at *
            generalize w3.heap.size = xb at *
            refine (rIsOrder_yes zi _ h0 h6).mono ?_
            rintro ev w4 ⟨rfl, hw⟩
            rw [hw]
            clear hw
            have HRT := hide ((unhide HRX) W3 (unhide R3))
            unfold ptr at *
            go_wp2_with fail
            refine (unhide HRT).mono ?_
            rintro ev w5 ⟨rfl, R5, k5⟩
            have X5 := ((unhide X3).kc hxc k5).a (blkO x1' zi)
            have XW := bx_new w5 (x1', zi)
            have B5 := ((unhide B3).kc (unhide R3) hbc k5).a (blkO x1' zi)
            have R5 := R5.a (blkO x1' zi)
            have F5 := hide (ballo ((unhide F3).trans (k5.below hcw hcw (unhide F3).size)) (blkO x1' zi))
            have p0 := X5.c0
            have p1 := X5.c1
            have q0 := XW.c0
            have q1 := XW.c1
            simp only at p0 p1 q0 q1
            have HAS := hide (as_buddy b fm tm c N F' T' _ B5 R5 (inv_lenF (unhide I2) h2) (inv_lenT (unhide I2) h2) (inv_ordF (unhide I2)))
            have B5 := hide B5
            have R5 := hide R5
            clear HRT HRX k5 X3 X5 XW B3 R3 F3 x4 hI hfit
            unfold ptr at *
            go_wp2_with fail
            refine (unhide HAS).mono ?_
            rintro ev w9 ⟨rfl, b9⟩
            go_wp2_with fail
            go_roundw
            case rel => exact ⟨i + 1, b, fm, tm, F', T', rfl, by go_num, by omega, I2, hide ((unhide B5).b b9), hide ((unhide R5).b b9), hbc, hfm, htm, hide (btr (unhide F5) b9)⟩
            case measure => simp [RowKit.intOf]; omega
    · have hin2 : ¬ (i : Int) < n := by omega
      clear hin
      go_wp2
      go_ret
      exact ⟨rfl, unhide hF⟩
end Bd
end Go.Proofs.YtealnnppoffmnaaGreatDoor
namespace Go.Proofs.YtealnnppoffmnaaGreatDoor
open Go.RowKit Go.ChangeShapes
theorem cells35 : Tryz.prog.cellsOf 35 = 4 := by kernel_rfl
theorem cells33 : Tryz.prog.cellsOf 33 = 2 := by kernel_rfl
theorem cells3 : Tryz.prog.cellsOf 3 = 1 := by kernel_rfl
theorem cellsOf9 : Tryz.prog.cellsOf 9 = 1 := by kernel_rfl
theorem laidOut : laidOutB Tryz.prog = true := by kernel_rfl
namespace Bd
open Fr
structure Act4 where
  s : ByteArray
  z : Int
  a : Int
  k : Int
instance : Inhabited Act4 := ⟨⟨ByteArray.empty, 0, 0, 0⟩⟩
section
variable {H : Type} {enc : TypeId × Value → H} {w : World} {base : Nat} {spare : Nat → Bool} {held : Bool}
set_option maxRecDepth 10000 in
theorem open_act {n : Nat} {a : Addr} {cs : List Value} {x : DataW H × List MemPlace} (h1 : w.cells? base a 4 = some cs) (h2 : DataW.trod enc Tryz.prog w base spare held n 35 cs = some x) :
    ∃ q : Act4, w.cell? (a.add 0) = some (.string q.s) ∧ w.cell? (a.add 1) = some (.int .i64 q.z) ∧ w.cell? (a.add 2) = some (.int .i64 q.a) ∧ w.cell? (a.add 3) = some (.int .i64 q.k) ∧ (Lit.int .i64 q.a).wf = true := by
  obtain ⟨_, hlen, hcell⟩ := World.cells?_some h1
  obtain ⟨xs, k, hk, hxy, _, hxl, hf⟩ := DataW.trod_struct Tryz.underlying35 h2
  match xs, hxl, cs, hlen with
  | [y0, y1, y2], _, [v0, v1, v2, v3], _ =>
    have g0 := hf 0 _ rfl
    have g1 := hf 1 _ rfl
    have g2 := hf 2 _ rfl
    simp [cellsOf9, cells3, cells33] at g0 g1 g2
    have e0 := hcell 0 (by omega)
    have e1 := hcell 1 (by omega)
    have e2 := hcell 2 (by omega)
    have e3 := hcell 3 (by omega)
    obtain ⟨s, hs, _⟩ := DataW.trod_string Tryz.underlying9 g0
    obtain ⟨z, hz, _⟩ := DataW.trod_int Tryz.underlying3 g1
    obtain ⟨p0, p1, m, _, _, hp0, hp1⟩ := trod_struct2 Tryz.underlying33 g2
    simp [cells3] at hp0 hp1
    obtain ⟨q, hq, _, wq⟩ := DataW.trod_int Tryz.underlying3 hp0
    obtain ⟨r, hr, _⟩ := DataW.trod_int Tryz.underlying3 hp1
    simp at hs hz hq hr
    subst hs
    subst hz
    subst hq
    subst hr
    exact ⟨⟨s, z, q, r⟩, by simpa using e0, by simpa using e1, by simpa using e2, by simpa using e3, wq⟩
theorem open_acts {fuel : Nat} {cs : List Value} {x : DataW H × List MemPlace} (h : DataW.trod enc Tryz.prog w base spare held fuel 22 cs = some x) :
    cs = [.slice none 0 0] ∨ ∃ (p : Option Addr) (len cap : Nat) (s : Nat → ByteArray) (z a k : Nat → Int), cs = [.slice p len cap] ∧ Acts w p len s z a k := by
  rcases Go.Deep.open_slice Tryz.underlying22 h with h0 | ⟨a, len, cap, m, n, D, Pl, rfl, hb, hl, hm, hmm, rfl, hx⟩
  · exact Or.inl h0.1
  right
  have hlm : len ≤ m := by rw [hmm]; split <;> omega
  obtain ⟨q, hq⟩ := Go.Deep.choose_lt (α := Act4) (p := fun i q => w.cell? ((a.add (i * 4)).add 0) = some (.string q.s) ∧ w.cell? ((a.add (i * 4)).add 1) = some (.int .i64 q.z) ∧ w.cell? ((a.add (i * 4)).add 2) = some (.int .i64 q.a) ∧ w.cell? ((a.add (i * 4)).add 3) = some (.int .i64 q.k) ∧ (Lit.int .i64 q.a).wf = true) (fun i hi => by
    obtain ⟨cs', h1, h2⟩ := hx i hi
    rw [cells35] at h1
    exact open_act h1 h2)
  refine ⟨some a, len, cap, fun i => (q i).s, fun i => (q i).z, fun i => (q i).a, fun i => (q i).k, rfl, fun i hi => ?_⟩
  obtain ⟨c0, c1, c2, c3, wf⟩ := hq i (by omega)
  have hbl := World.block_lt_of_cell? w _ c0
  obtain ⟨blk, off, spot⟩ := a
  cases spot with
  | none =>
    simp only [add_at] at c0 c1 c2 c3 hbl
    exact ⟨blk, off, rfl, hbl, by simpa using c0, c1, c2, c3, wf⟩
  | some s =>
    exfalso
    have h0 := (hq 0 (by omega)).1
    simp only [Addr.add, World.cell?, Nat.zero_mul, if_true] at h0
    split at h0 <;> simp_all
end

theorem acts_no (N : Int) (p : Option Addr) (n cap : Nat) (w : World) (e : Nat → Addr) (he : Errs w e) (h : 100 < n ∨ N < 1 ∨ 256 < N) :
    Calls Tryz.prog 3 #[.int .i64 N, .slice p n cap] w fun ev w' => ev = .returned (.bool true) ∧ Below w.heap.size w w' := by
  have HE := hide he
  clear he
  by_cases c1 : 100 < n
  · have d1 : decide ((100 : Int) < n) = true := by simp; omega
    go_enter Tryz.func3, Tryz.ntmps3
    go_wp2_with fail
    refine (paired_ok w e (unhide HE).three).mono ?_
    rintro ev w1 ⟨rfl, b1⟩
    go_wp2_with fail
    go_ret
    exact ⟨rfl, b1⟩
  · have d1 : decide ((100 : Int) < n) = false := by simp; omega
    have HN := hide (fun w1 he => new_bad N w1 e he (by omega))
    have hc : (decide (N < 1) = true) ∨ (decide (N < 1) = false ∧ decide (256 < N) = true) := by
      by_cases c2 : N < 1
      · exact Or.inl (by simpa using c2)
      · exact Or.inr ⟨by simpa using c2, by simp; omega⟩
    rcases hc with d2 | ⟨d2, d3⟩
    all_goals
      go_enter Tryz.func3, Tryz.ntmps3
      go_wp2_with fail
      refine (paired_ok w e (unhide HE).three).mono ?_
      rintro ev w1 ⟨rfl, b1⟩
      go_wp2_with fail
      refine ((unhide HN) w1 ((unhide HE).below b1)).mono ?_
      rintro ev w2 ⟨rfl, b2⟩
      have F2 := btr b1 b2
      have HC := hide (coded_sent 1 (by omega) 2 rfl w2 e ((unhide HE).below F2))
      clear b1 b2
      go_wp2_with fail
      refine (unhide HC).mono ?_
      rintro ev w3 ⟨rfl, b3⟩
      go_wp2_with fail
      go_ret
      exact ⟨rfl, btr F2 b3⟩
theorem acts_any (N : Int) (p : Option Addr) (n cap : Nat) (s : Nat → ByteArray) (z a k : Nat → Int) (w : World) (e : Nat → Addr) (he : Errs w e) (hz : Acts w p n s z a k) :
    Calls Tryz.prog 3 #[.int .i64 N, .slice p n cap] w fun ev w' => ev = .returned (.bool true) ∧ Below w.heap.size w w' := by
  by_cases h : 100 < n ∨ N < 1 ∨ 256 < N
  · exact acts_no N p n cap w e he h
  · exact acts_ok N p n cap s z a k w e he (by omega) (by omega) (by omega) hz
end Bd
end Go.Proofs.YtealnnppoffmnaaGreatDoor
