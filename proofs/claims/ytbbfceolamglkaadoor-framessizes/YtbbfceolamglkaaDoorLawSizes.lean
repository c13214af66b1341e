/- FramesSizes: its walk, over the contracts. -/
import Derived.Test.YtbbfceolamglkaaDoorSizes
import Derived.Test.YtbbfceolamglkaaDoorCode
namespace Go.Proofs.YtbbfceolamglkaaDoor
open Go.RowKit
namespace Fr

set_option maxHeartbeats 1000000 in
theorem sizes_nn (n : Int) (w : World) (e : Nat → Addr) (he : Errs w e) (h : n < 0 ∨ 64 < n) :
    Calls Tryd.prog 5 #[.int .i64 n] w fun ev w' => ev = .returned (.bool true) ∧ Below w.heap.size w w' := by
  have g1 : n < 0 ∨ 6 < n := by omega
  have g2 : n < 1 ∨ 64 < n := by omega
  have H6 := hide pw6
  have G1 := hide g1
  have G2 := hide g2
  have HE := hide he
  clear g1 g2 he
  have c3 : decide (n < 1) = true ∨ (decide (n < 1) = false ∧ pw 6 < n) := by
    rw [pw6]; by_cases hh : n < 1
    · left; simpa using hh
    · right; exact ⟨by simpa using hh, by omega⟩
  clear h
  go_enter Tryd.func5, Tryd.ntmps5
  go_wp2_with fail
  refine (halved_true _).mono ?_
  rintro ev w1 ⟨rfl, b1⟩
  go_wp2_with fail
  refine (size_err n _ e ((unhide HE).below b1).three (unhide G1)).mono ?_
  rintro ev w2 ⟨rfl, b2⟩
  go_wp2_with fail
  refine (rIsOrder_no n _ (unhide G1)).mono ?_
  rintro ev w3 ⟨rfl, rfl⟩
  go_wp2_with fail
  refine (coded_sent 1 (by omega) _ (by omega) _ e (((unhide HE).below b1).below b2)).mono ?_
  rintro ev w3 ⟨rfl, b3⟩
  go_wp2_with fail
  refine (order_err n _ e ((((unhide HE).below b1).below b2).below b3).three (unhide G2)).mono ?_
  rintro ev w4 ⟨rfl, b4⟩
  rcases c3 with c3 | ⟨c3, c4⟩
  · go_wp2_with fail
    refine (coded_sent 1 (by omega) _ (by omega) _ e (((((unhide HE).below b1).below b2).below b3).below b4)).mono ?_
    rintro ev w5 ⟨rfl, b5⟩
    go_wp2_with fail
    go_ret
    exact ⟨rfl, btr (btr (btr (btr b1 b2) b3) b4) b5⟩
  · go_wp2_with fail
    refine (pages_ok 6 _ (by omega) (by omega)).mono ?_
    rintro ev w5 ⟨rfl, rfl⟩
    go_wp2_with fail
    refine (coded_sent 1 (by omega) _ (by omega) _ e (((((unhide HE).below b1).below b2).below b3).below b4)).mono ?_
    rintro ev w5 ⟨rfl, b5⟩
    go_wp2_with fail
    go_ret
    exact ⟨rfl, btr (btr (btr (btr b1 b2) b3) b4) b5⟩

set_option maxHeartbeats 1000000 in
theorem sizes_mid (n : Int) (w : World) (e : Nat → Addr) (he : Errs w e) (h0 : 6 < n) (h1 : n ≤ 64) :
    Calls Tryd.prog 5 #[.int .i64 n] w fun ev w' => ev = .returned (.bool true) ∧ Below w.heap.size w w' := by
  have G1 := hide (show n < 0 ∨ 6 < n from Or.inr h0)
  have HE := hide he
  have c3 : decide (n < 1) = false := by simp; omega
  have c4 : decide (pw 6 < n) = false := by rw [pw6]; simp; omega
  clear he
  go_enter Tryd.func5, Tryd.ntmps5
  go_wp2_with fail
  refine (halved_true _).mono ?_
  rintro ev w1 ⟨rfl, b1⟩
  go_wp2_with fail
  refine (size_err n _ e ((unhide HE).below b1).three (unhide G1)).mono ?_
  rintro ev w2 ⟨rfl, b2⟩
  go_wp2_with fail
  refine (rIsOrder_no n _ (unhide G1)).mono ?_
  rintro ev w3 ⟨rfl, rfl⟩
  go_wp2_with fail
  refine (coded_sent 1 (by omega) _ (by omega) _ e (((unhide HE).below b1).below b2)).mono ?_
  rintro ev w3 ⟨rfl, b3⟩
  go_wp2_with fail
  refine (order_ok n _ (by omega) h1).mono ?_
  rintro ev w4 ⟨k, rfl, k0, k6, q1, q2, rfl⟩
  go_wp2_with fail
  refine (pages_ok 6 _ (by omega) (by omega)).mono ?_
  rintro ev w5 ⟨rfl, rfl⟩
  by_cases hk : k = 0
  · subst hk
    clear q2
    go_wp2_with fail
    refine (rIsOrder_yes 0 _ k0 k6).mono ?_
    rintro ev w5 ⟨rfl, rfl⟩
    go_wp2_with fail
    refine (pages_ok 0 _ k0 k6).mono ?_
    rintro ev w5 ⟨rfl, rfl⟩
    go_wp2_with fail
    go_ret
    exact ⟨rfl, btr (btr b1 b2) b3⟩
  · have hk2 : (k == 0) = false := by simpa using hk
    have q3 : pw (k - 1) < n := by omega
    clear q2
    go_wp2_with fail
    refine (rIsOrder_yes k _ k0 k6).mono ?_
    rintro ev w5 ⟨rfl, rfl⟩
    go_wp2_with fail
    refine (pages_ok k _ k0 k6).mono ?_
    rintro ev w5 ⟨rfl, rfl⟩
    go_wp2_with fail
    refine (pages_ok (k - 1) _ (by omega) (by omega)).mono ?_
    rintro ev w5 ⟨rfl, rfl⟩
    go_wp2_with fail
    go_ret
    exact ⟨rfl, btr (btr b1 b2) b3⟩

set_option maxHeartbeats 1000000 in
theorem sizes_zero (w : World) (e : Nat → Addr) (he : Errs w e) :
    Calls Tryd.prog 5 #[.int .i64 0] w fun ev w' => ev = .returned (.bool true) ∧ Below w.heap.size w w' := by
  have HE := hide he
  clear he
  go_enter Tryd.func5, Tryd.ntmps5
  go_wp2_with fail
  refine (halved_true _).mono ?_
  rintro ev w1 ⟨rfl, b1⟩
  go_wp2_with fail
  refine (size_ok 0 _ (by omega) (by omega)).mono ?_
  rintro ev w2 ⟨rfl, rfl⟩
  go_wp2_with fail
  refine (rIsOrder_yes 0 _ (by omega) (by omega)).mono ?_
  rintro ev w3 ⟨rfl, rfl⟩
  go_wp2_with fail
  refine (pages_ok 0 _ (by omega) (by omega)).mono ?_
  rintro ev w3 ⟨rfl, rfl⟩
  go_wp2_with fail
  refine (order_err 0 _ e ((unhide HE).below b1).three (by omega)).mono ?_
  rintro ev w4 ⟨rfl, b4⟩
  go_wp2_with fail
  refine (coded_sent 1 (by omega) _ (by omega) _ e (((unhide HE).below b1).below b4)).mono ?_
  rintro ev w5 ⟨rfl, b5⟩
  go_wp2_with fail
  go_ret
  exact ⟨rfl, btr (btr b1 b4) b5⟩

set_option maxHeartbeats 1000000 in
theorem sizes_low (n : Int) (w : World) (h0 : 1 ≤ n) (h1 : n ≤ 6) :
    Calls Tryd.prog 5 #[.int .i64 n] w fun ev w' => ev = .returned (.bool true) ∧ Below w.heap.size w w' := by
  have c3 : decide (n < 1) = false := by simp; omega
  have c4 : decide (pw 6 < n) = false := by rw [pw6]; simp; omega
  go_enter Tryd.func5, Tryd.ntmps5
  go_wp2_with fail
  refine (halved_true _).mono ?_
  rintro ev w1 ⟨rfl, b1⟩
  go_wp2_with fail
  refine (size_ok n _ (by omega) h1).mono ?_
  rintro ev w2 ⟨rfl, rfl⟩
  go_wp2_with fail
  refine (rIsOrder_yes n _ (by omega) h1).mono ?_
  rintro ev w3 ⟨rfl, rfl⟩
  go_wp2_with fail
  refine (pages_ok n _ (by omega) h1).mono ?_
  rintro ev w3 ⟨rfl, rfl⟩
  go_wp2_with fail
  refine (order_ok n _ h0 (by omega)).mono ?_
  rintro ev w4 ⟨k, rfl, k0, k6, q1, q2, rfl⟩
  go_wp2_with fail
  refine (pages_ok 6 _ (by omega) (by omega)).mono ?_
  rintro ev w5 ⟨rfl, rfl⟩
  by_cases hk : k = 0
  · subst hk
    clear q2
    go_wp2_with fail
    refine (rIsOrder_yes 0 _ k0 k6).mono ?_
    rintro ev w5 ⟨rfl, rfl⟩
    go_wp2_with fail
    refine (pages_ok 0 _ k0 k6).mono ?_
    rintro ev w5 ⟨rfl, rfl⟩
    go_wp2_with fail
    go_ret
    exact ⟨rfl, b1⟩
  · have hk2 : (k == 0) = false := by simpa using hk
    have q3 : pw (k - 1) < n := by omega
    clear q2
    go_wp2_with fail
    refine (rIsOrder_yes k _ k0 k6).mono ?_
    rintro ev w5 ⟨rfl, rfl⟩
    go_wp2_with fail
    refine (pages_ok k _ k0 k6).mono ?_
    rintro ev w5 ⟨rfl, rfl⟩
    go_wp2_with fail
    refine (pages_ok (k - 1) _ (by omega) (by omega)).mono ?_
    rintro ev w5 ⟨rfl, rfl⟩
    go_wp2_with fail
    go_ret
    exact ⟨rfl, b1⟩

theorem sizes_any (n : Int) (w : World) (e : Nat → Addr) (he : Errs w e) :
    Calls Tryd.prog 5 #[.int .i64 n] w fun ev w' => ev = .returned (.bool true) ∧ Below w.heap.size w w' := by
  by_cases c : n < 0 ∨ 64 < n
  · exact sizes_nn n w e he c
  by_cases c2 : 6 < n
  · exact sizes_mid n w e he c2 (by omega)
  by_cases c3 : n = 0
  · subst c3; exact sizes_zero w e he
  · exact sizes_low n w (by omega) (by omega)
end Fr
end Go.Proofs.YtbbfceolamglkaaDoor
