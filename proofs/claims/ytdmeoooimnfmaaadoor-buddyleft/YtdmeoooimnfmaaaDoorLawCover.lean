/- FramesCover: its walk, over the contracts. -/
import Derived.Test.YtdmeoooimnfmaaaDoorCover3
import Derived.Test.YtdmeoooimnfmaaaDoorLies
import Derived.Test.YtdmeoooimnfmaaaDoorCode
namespace Go.Proofs.YtdmeoooimnfmaaaDoor
open Go.RowKit
namespace Fr

theorem rcover_no (a n : Int) (w : World) (ha : -9223372036854775808 ≤ a) (ha2 : a ≤ 9223372036854775807) (hn : -9223372036854775808 ≤ n) (hn2 : n ≤ 9223372036854775807) (h : a < 0 ∨ 256 < a ∨ n < 0 ∨ 256 < n ∨ 256 < a + n) :
    Calls Tryd.prog 28 #[.int .i64 a, .int .i64 n] w fun ev w' => ev = .returned (.tuple #[.slice none 0 0, .bool false]) ∧ w' = w := by
  by_cases c1 : a < 0
  · clear h
    go_enter Tryd.func28, Tryd.ntmps28
    go_wp2_with fail
    go_ret2
    exact ⟨rfl, rfl⟩
  have d1 : decide (a < 0) = false := by simpa using c1
  by_cases c2 : 256 < a
  · clear h c1
    go_enter Tryd.func28, Tryd.ntmps28
    go_wp2_with fail
    go_ret2
    exact ⟨rfl, rfl⟩
  have d2 : decide (256 < a) = false := by simpa using c2
  by_cases c3 : n < 0
  · clear h c1 c2
    go_enter Tryd.func28, Tryd.ntmps28
    go_wp2_with fail
    go_ret2
    exact ⟨rfl, rfl⟩
  have d3 : decide (n < 0) = false := by simpa using c3
  by_cases c4 : 256 < n
  · clear h c1 c2 c3
    go_enter Tryd.func28, Tryd.ntmps28
    go_wp2_with fail
    go_ret2
    exact ⟨rfl, rfl⟩
  have d4 : decide (256 < n) = false := by simpa using c4
  have c5 : 256 < a + n := by omega
  clear h
  go_enter Tryd.func28, Tryd.ntmps28
  go_wp2_with fail
  go_ret2
  exact ⟨rfl, rfl⟩

set_option maxHeartbeats 1000000 in
theorem same_blocks (v1 v2 : Value) (L : List (Int × Int)) (w : World) (hl : L.length ≤ 256) (h1 : Lies w v1 L) (h2 : Lies w v2 L) :
    Calls Tryd.prog 29 #[v1, v2] w fun ev w' => ev = .returned (.bool true) ∧ Below w.heap.size w w' := by
  rcases h1 with ⟨hL, rfl⟩ | ⟨g1, c1, rfl, hg1, hL, q1, q2, hc1⟩
  · rcases h2 with ⟨_, rfl⟩ | ⟨g2, c2, rfl, hg2, hL2, _⟩
    · go_enter Tryd.func29, Tryd.ntmps29
      go_wp2
      refine wp_loop_rounds 1 ?_
      rw [rounds_succ]
      go_wp2
      go_ret
      exact ⟨rfl, Below.refl _ _⟩
    · exact absurd hL hL2
  · rcases h2 with ⟨hL2, _⟩ | ⟨g2, c2, rfl, hg2, hL2, q3, q4, hc2⟩
    · exact absurd hL2 hL
    · have H1 := hide hc1
      have H2 := hide hc2
      clear hc1 hc2 hL hL2
      unfold maxLen at q2 q4
      generalize hn : L.length = n at *
      clear hn
      go_enter Tryd.func29, Tryd.ntmps29
      go_wp2
      go_loopw [5] (fun i wr => ∃ j : Nat, j ≤ n ∧ i = .int .i64 j ∧ Hid (wr.heap = w.heap ∧ wr.os = w.os ∧ wr.tape = w.tape ∧ wr.output = w.output)) (fun i _ => n - (intOf i).toNat)
      case atStart => exact ⟨0, Nat.zero_le _, rfl, rfl, rfl, rfl, rfl⟩
      case round =>
        obtain ⟨j, hj, rfl, hQ⟩ := hrel
        by_cases hlt : j < n
        · have e1 := (unhide H1) j hlt
          have e2 := (unhide H2) j hlt
          generalize L.getD j (0, 0) = x at *
          have c1 : wr.cell? ⟨g1, j * 2, none⟩ = some (.int .i64 x.1) := by rw [← e1.1]; simp [World.cell?, (unhide hQ).1]
          have c2 : wr.cell? ⟨g1, j * 2 + 1, none⟩ = some (.int .i64 x.2) := by rw [← e1.2]; simp [World.cell?, (unhide hQ).1]
          have c3 : wr.cell? ⟨g2, j * 2, none⟩ = some (.int .i64 x.1) := by rw [← e2.1]; simp [World.cell?, (unhide hQ).1]
          have c4 : wr.cell? ⟨g2, j * 2 + 1, none⟩ = some (.int .i64 x.2) := by rw [← e2.2]; simp [World.cell?, (unhide hQ).1]
          clear e1 e2
          go_wp2
          go_region
          go_wp2
          go_roundw
          case rel => exact ⟨j + 1, by omega, by go_num, unhide hQ⟩
          case measure => simp [intOf]; omega
        · go_wp2
          go_ret
          have hQ := unhide hQ
          exact ⟨rfl, ⟨hQ.2.1, hQ.2.2.1, hQ.2.2.2, by rw [hQ.1]; exact Nat.le_refl _, fun k _ => by rw [hQ.1]⟩⟩

theorem law_no (a n : Int) (w : World) (e : Nat → Addr) (he : Errs w e) (ha : -9223372036854775808 ≤ a) (ha2 : a ≤ 9223372036854775807) (hn : -9223372036854775808 ≤ n) (hn2 : n ≤ 9223372036854775807) (h : a < 0 ∨ 256 < a ∨ n < 0 ∨ 256 - a < n) :
    Calls Tryd.prog 7 #[.int .i64 a, .int .i64 n] w fun ev w' => ev = .returned (.bool true) ∧ Below w.heap.size w w' := by
  have HC := fun w he => hide (cover_err a n w e he h)
  have HR := fun w => hide (rcover_no a n w ha ha2 hn hn2 (by omega))
  have HE := hide he
  clear he h ha ha2 hn hn2
  go_enter Tryd.func7, Tryd.ntmps7
  go_wp2_with fail
  refine (halved_true _).mono ?_
  rintro ev w1 ⟨rfl, b1⟩
  go_wp2_with fail
  refine (unhide (HC _ ((unhide HE).below b1).three)).mono ?_
  rintro ev w2 ⟨rfl, b2⟩
  go_wp2_with fail
  refine (unhide (HR _)).mono ?_
  rintro ev w3 ⟨rfl, rfl⟩
  go_wp2_with fail
  refine (coded_sent 1 (by omega) _ (by omega) _ e (((unhide HE).below b1).below b2)).mono ?_
  rintro ev w4 ⟨rfl, b4⟩
  go_wp2_with fail
  go_ret
  exact ⟨rfl, btr (btr b1 b2) b4⟩

set_option maxRecDepth 100000 in
set_option maxHeartbeats 4000000 in
theorem law_ok (a n : Int) (w : World) (e : Nat → Addr) (he : Errs w e) (h0 : 0 ≤ a) (hn : 0 ≤ n) (h2 : a + n ≤ 256) :
    Calls Tryd.prog 7 #[.int .i64 a, .int .i64 n] w fun ev w' => ev = .returned (.bool true) ∧ Below w.heap.size w w' := by
  have HE := hide he
  have hlen : (cv a n).length ≤ 256 := by have := cv_length a n; omega
  have HC := fun w => hide (cover_ok a n w h0 hn h2)
  have HR := fun w => hide (rcover_ok a n w h0 hn h2)
  have HL : Hid ((cv a n).drop 0 = cv a (a + n - a)) := by rw [show a + n - a = n from by omega]; rfl
  generalize cv a n = L at *
  clear he
  go_enter Tryd.func7, Tryd.ntmps7
  go_wp2_with fail
  refine (halved_true _).mono ?_
  rintro ev w1 ⟨rfl, b1⟩
  go_wp2_with fail
  refine (unhide (HC _)).mono ?_
  rintro ev w2 ⟨v1, rfl, o1, b2, n1⟩
  have l1 := lies_of o1 n1
  clear o1 n1
  go_wp2_with fail
  refine (unhide (HR _)).mono ?_
  rintro ev w3 ⟨v2, rfl, o2, b3, n2⟩
  have l2 := lies_of o2 n2
  replace l1 := l1.b b3
  clear o2 n2
  go_wp2_with fail
  refine (same_blocks v1 v2 L _ hlen l1 l2).mono ?_
  rintro ev w4 ⟨rfl, b4⟩
  replace l1 := l1.b b4
  have E4 := ((((unhide HE).below b1).below b2).below b3).below b4
  have F4 := btr (btr (btr b1 b2) b3) b4
  clear b1 b2 b3 b4 l2 HC HR HE
  have hsl : ∃ cap, ∃ p : Option Addr, v1 = .slice p L.length cap ∧ cap ≤ maxLen := by
    rcases l1 with ⟨hL, rfl⟩ | ⟨g, c, rfl, _, _, _, h, _⟩
    · exact ⟨0, none, by rw [hL]; rfl, by decide⟩
    · exact ⟨c, _, rfl, h⟩
  obtain ⟨cap, p, rfl, hcap⟩ := hsl
  go_wp2_with fail
  have ht0 : a ≤ a + n := by omega
  obtain ⟨t, ht⟩ : ∃ t, t = a + n := ⟨_, rfl⟩
  have hnt : n = t - a := by omega
  rw [← ht] at HL h2 ht0
  subst hnt
  clear ht
  go_loopw [0, 1, 10] (fun q r i wr => ∃ (j : Nat) (x : Int), i = .int .i64 j ∧ q = .int .i64 x ∧ r = .int .i64 (t - x) ∧ 0 ≤ x ∧ x ≤ t ∧ Hid (L.drop j = cv x (t - x)) ∧ Errs wr e ∧ Lies wr (.slice p L.length cap) L ∧ Below w.heap.size w wr) (fun _ r _ _ => (intOf r).toNat)
  case atStart => exact ⟨0, a, rfl, rfl, rfl, h0, by omega, HL, E4, l1, F4⟩
  case round =>
    obtain ⟨j, x, rfl, rfl, rfl, x0, xt, hD, Er, lr, Fr1⟩ := hrel
    by_cases hlt : x < t
    · have hw := wid_facts x (t - x) (by omega)
      have hp := pw_pos (wid x (t - x))
      have hp2 := pw_le6 (wid x (t - x)) hw.1 hw.2.1
      have hd := unhide hD
      rw [cv_cons x (t - x) (by omega)] at hd
      obtain ⟨hj, hgd, hdr⟩ := drop_cons hd
      rcases lr with ⟨hL, _⟩ | ⟨g, c, hv, hg, hL, q1, q2, hc⟩
      · exact absurd hj (by rw [hL]; simp)
      · have hcj := hc j hj
        rw [hgd] at hcj
        simp only [Value.slice.injEq] at hv
        obtain ⟨rfl, _, rfl⟩ := hv
        have LR : Lies wr (.slice (some ⟨g, 0, none⟩) L.length cap) L := Or.inr ⟨g, cap, rfl, hg, hL, q1, q2, hc⟩
        have HD2 := hide hdr
        have HCK := fun w => hide (check_ok x (wid x (t - x)) 256 w (by omega) (by omega) hw.1 hw.2.1 x0 (by omega) hw.2.2.1)
        have HSZ := fun w => hide (size_ok (wid x (t - x)) w hw.1 hw.2.1)
        clear hd hc hgd hdr hD hL
        obtain ⟨k0, k6, _, kr⟩ := hw
        rw [show t - x - pw (wid x (t - x)) = t - (x + pw (wid x (t - x))) from by omega] at HD2
        generalize wid x (t - x) = k at *
        generalize pw k = d at *
        unfold maxLen at hcap
        have c1 := hcj.1
        have c2 := hcj.2
        go_wp2_with fail
        refine (unhide (HCK _)).mono ?_
        rintro ev w5 ⟨rfl, b5⟩
        replace c1 : w5.cell? ⟨g, j * 2, none⟩ = some (.int .i64 x) := (b5.cell (p := ⟨g, j * 2, none⟩) hg).trans c1
        replace c2 : w5.cell? ⟨g, j * 2 + 1, none⟩ = some (.int .i64 k) := (b5.cell (p := ⟨g, j * 2 + 1, none⟩) hg).trans c2
        clear hcj
        go_wp2_with fail
        refine (unhide (HSZ _)).mono ?_
        rintro ev w6 ⟨rfl, rfl⟩
        go_wp2_with fail
        go_roundw
        case rel => exact ⟨j + 1, x + d, by go_num, rfl, by go_num, by omega, by omega, HD2, Er.below b5, LR.b b5, btr Fr1 b5⟩
        case measure => simp [intOf]; omega
    · have hxt : x = t := by omega
      have hj : L.length ≤ j := by
        have := unhide hD
        rw [cv_nil _ _ (by omega)] at this
        simpa using this
      have hz : (t - x == 0) = true := by simp; omega
      clear hD hxt
      unfold maxLen at hcap
      go_wp2_with fail
      go_ret
      exact ⟨rfl, Fr1⟩

theorem bd_i64 {n : Int} (h : (Lit.int .i64 n).wf = true) : -9223372036854775808 ≤ n ∧ n ≤ 9223372036854775807 := by
  simp [Lit.wf, IntKind.min, IntKind.max, IntKind.signed, IntKind.bits] at h
  omega
theorem cover_any (a n : Int) (w : World) (e : Nat → Addr) (he : Errs w e) (ha : -9223372036854775808 ≤ a) (ha2 : a ≤ 9223372036854775807) (hn : -9223372036854775808 ≤ n) (hn2 : n ≤ 9223372036854775807) :
    Calls Tryd.prog 7 #[.int .i64 a, .int .i64 n] w fun ev w' => ev = .returned (.bool true) ∧ Below w.heap.size w w' := by
  by_cases h : a < 0 ∨ 256 < a ∨ n < 0 ∨ 256 - a < n
  · exact law_no a n w e he ha ha2 hn hn2 h
  · exact law_ok a n w e he (by omega) (by omega) (by omega)
end Fr
end Go.Proofs.YtdmeoooimnfmaaaDoor
