/- The contract of package buddy's New. -/
import Derived.Test.YtdmeoooimnfmaaaGreatDoorTake2
import Derived.Test.YtdmeoooimnfmaaaGreatDoorBud3
namespace Go.Proofs.YtdmeoooimnfmaaaGreatDoor
open Go.RowKit Go.Maps
namespace Bd
open Fr
theorem cv_pos {N : Int} (h : 1 ≤ N) : cv 0 N ≠ [] := by rw [cv_cons 0 N h]; simp
set_option maxHeartbeats 4000000 in
theorem new_ok (N : Int) (w : World) (h1 : 1 ≤ N) (h2 : N ≤ 256) :
    Calls Tryz.prog 5 #[.int .i64 N] w fun ev w' => ∃ b fm tm, ev = .returned (.tuple #[ptr b, .nilIface]) ∧ Bud w' b fm tm N (cv 0 N) [] ∧ w.heap.size ≤ fm ∧ w.heap.size ≤ tm ∧ Below w.heap.size w w' := by
  have HC := hide (fun w => cover_ok 0 N w (by omega) (by omega) (by omega))
  have HI := hide (cv_inv N (by omega))
  have hne := hide (cv_pos h1)
  have hlen : (cv 0 N).length ≤ 256 := by have := cv_length 0 N; omega
  have HM := hide (fun x (hx : x ∈ cv 0 N) => show 0 ≤ x.1 ∧ x.1 < 256 ∧ 0 ≤ x.2 ∧ x.2 ≤ 6 by
    have a1 := (unhide HI).inF hx
    have a2 := (unhide HI).oF x hx
    have a3 := pw_pos x.2
    unfold Okb at a2
    omega)
  have HS := hide (unhide HI).sF
  have d1 : decide (N < 1) = false := by simp; omega
  obtain ⟨L, hL⟩ : ∃ L, L = cv 0 N := ⟨_, rfl⟩
  rw [← hL] at HC hne hlen HM HS ⊢
  clear hL HI h1 h2
  have hmm := @run_makeMap Tryz.prog
  unfold ptr
  go_enter Tryz.func5, Tryz.ntmps5
  go_wp2_with fail
  refine (unhide HC _).mono ?_
  rintro ev w2 ⟨v, rfl, hrow, b2, _⟩
  obtain ⟨g, cap, rfl, hg, hcap, hcap2, hr⟩ := row_of hrow (unhide hne)
  have hgl := hr.lt
  have HR := hide hr
  have s2 := b2.size
  clear hr hrow HC
  unfold maxLen at hcap2
  go_wp2_with fail
  have M1 := ((mp_new w2).a (.map #[] 0)).a (.cells #[.int .i64 N, .map (some w2.heap.size), .map (some (w2.heap.size + 1))] 54)
  have M2 := (mp_new (w2.alloc (.map #[] 0))).a (.cells #[.int .i64 N, .map (some w2.heap.size), .map (some (w2.heap.size + 1))] 54)
  rw [show (w2.alloc (.map #[] 0)).heap.size = w2.heap.size + 1 by simp] at M2
  have e3 : ((w2.alloc (.map #[] 0)).alloc (.map #[] 0)).heap.size = w2.heap.size + 2 := by simp
  have BN : Hid (Bud (((w2.alloc (.map #[] 0)).alloc (.map #[] 0)).alloc (.cells #[.int .i64 N, .map (some w2.heap.size), .map (some (w2.heap.size + 1))] 54)) (w2.heap.size + 2) w2.heap.size (w2.heap.size + 1) N [] []) := by
    refine ⟨?_, ?_, ?_, M1, M2, by omega, by omega, by omega, by simp⟩
    · have q := World.cell?_alloc_new ((w2.alloc (.map #[] 0)).alloc (.map #[] 0)) #[.int .i64 N, .map (some w2.heap.size), .map (some (w2.heap.size + 1))] 54 0
      rw [e3] at q; exact q
    · have q := World.cell?_alloc_new ((w2.alloc (.map #[] 0)).alloc (.map #[] 0)) #[.int .i64 N, .map (some w2.heap.size), .map (some (w2.heap.size + 1))] 54 1
      rw [e3] at q; exact q
    · have q := World.cell?_alloc_new ((w2.alloc (.map #[] 0)).alloc (.map #[] 0)) #[.int .i64 N, .map (some w2.heap.size), .map (some (w2.heap.size + 1))] 54 2
      rw [e3] at q; exact q
  have F3 : Below w.heap.size w (((w2.alloc (.map #[] 0)).alloc (.map #[] 0)).alloc (.cells #[.int .i64 N, .map (some w2.heap.size), .map (some (w2.heap.size + 1))] 54)) := ballo (ballo (ballo b2 _) _) _
  have HR3 := hide ((((unhide HR).b (ballo (Below.refl _ _) (.map #[] 0))).b (ballo (Below.refl _ _) (.map #[] 0))).b (ballo (Below.refl _ _) (.cells #[.int .i64 N, .map (some w2.heap.size), .map (some (w2.heap.size + 1))] 54)))
  have s3 : (((w2.alloc (.map #[] 0)).alloc (.map #[] 0)).alloc (.cells #[.int .i64 N, .map (some w2.heap.size), .map (some (w2.heap.size + 1))] 54)).heap.size = w2.heap.size + 3 := by simp
  rw [show w2.heap.size + 1 + 1 = w2.heap.size + 2 by omega]
  clear HR M1 M2 e3 d1
  generalize ((w2.alloc (.map #[] 0)).alloc (.map #[] 0)).alloc (.cells #[.int .i64 N, .map (some w2.heap.size), .map (some (w2.heap.size + 1))] 54) = W3 at *
  have hfm : w.heap.size ≤ w2.heap.size := s2
  clear b2 s2
  generalize w2.heap.size = fm at *
  generalize hn : L.length = n at *
  go_loopw [8, 27] (fun _ s wr => ∃ j : Nat, s = .int .i64 j ∧ j ≤ n ∧ Hid (Bud wr (fm + 2) fm (fm + 1) N (L.take j) []) ∧ Hid (Kept fm fm W3 wr)) (fun _ s _ => n - (RowKit.intOf s).toNat)
  case atStart => exact ⟨0, rfl, Nat.zero_le _, BN, Kept.refl _ _ _⟩
  case round =>
    obtain ⟨j, rfl, hj, hB, hk⟩ := hrel
    by_cases hjn : j < n
    · have hjl : j < L.length := by omega
      have cc := (unhide HR3).c j hjl
      have k0 := cell_kept cc.1 (unhide BN).f (unhide BN).f (unhide hk)
      have k1 := cell_kept cc.2 (unhide BN).f (unhide BN).f (unhide hk)
      rw [getD_lt hjl] at k0 k1
      have hit := hide (ins_take (unhide HS) hjl)
      have hsm := (unhide HM) L[j] (List.getElem_mem hjl)
      generalize L[j] = x at *
      obtain ⟨x1, x2⟩ := x
      simp only at k0 k1 hsm
      have B2 := (unhide hB).a (blkO x1 x2)
      have F2 := (unhide hk).trans (kept_alloc _ _ _ (blkO x1 x2))
      have X2 := bx_new wr (x1, x2)
      clear cc hB hk
      go_wp2_with fail
      generalize wr.alloc (blkO x1 x2) = W4 at *
      generalize wr.heap.size = c at *
      have c1 := B2.c1
      have x0 := X2.c0
      have x3 := X2.c1
      simp only at x0 x3
      have HP := hide (put_ok (x1, x2) fm (L.take j) W4.drew B2.f.d hsm)
      have KC := hide (fun w1 (hb : Kept fm fm W4.drew w1) => (⟨cell_kept B2.c1 B2.f B2.f (kd hb), cell_kept X2.c0 B2.f B2.f (kd hb), cell_kept X2.c1 B2.f B2.f (kd hb)⟩ : w1.cell? ⟨fm + 2, 1, none⟩ = some (.map (some fm)) ∧ w1.cell? ⟨c, 0, none⟩ = some (.int .i64 x1) ∧ w1.cell? ⟨c, 1, none⟩ = some (.int .i64 x2)))
      go_region_held3 (fun w' => w'.cell? ⟨fm + 2, 1, none⟩ = some (.map (some fm)) ∧ w'.cell? ⟨c, 0, none⟩ = some (.int .i64 x1) ∧ w'.cell? ⟨c, 1, none⟩ = some (.int .i64 x2)) ((first | (go_keep; done) | (exact (unhide KC) _ (by assumption)))) ((go_at_call 20; refine (unhide HP).mono ?_; rintro ev w6 ⟨rfl, M6, k6⟩))
      rw [unhide hit] at M6
      have B6 := hide (B2.setF (kd k6) M6)
      have F6 := hide (F2.trans (kd k6))
      clear B2 F2 X2 c1 x0 x3 HP KC k6 M6 k0 k1
      go_wp2
      go_roundw
      case rel => exact ⟨j + 1, by go_num, by omega, B6, F6⟩
      case measure => simp [RowKit.intOf]; omega
    · have hjn2 : j = n := by omega
      subst hjn2
      have B6 := unhide hB
      rw [← hn, List.take_length] at B6
      have B6 := hide B6
      go_wp2
      go_ret2
      exact ⟨_, _, _, rfl, unhide B6, hfm, by omega, F3.trans ((unhide hk).below hfm hfm (by omega))⟩
end Bd
end Go.Proofs.YtdmeoooimnfmaaaGreatDoor
