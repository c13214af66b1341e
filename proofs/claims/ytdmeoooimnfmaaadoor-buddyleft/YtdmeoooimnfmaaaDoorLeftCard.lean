/- For every two ints and every list of ints that BuddyLeft is called with, it answers true: where a block is not had, no free one is as great, and no two free blocks below the greatest order are each other's buddies; the errors' variables hold what the program's own text lays in them (tied by the card). -/
import Derived.Test.YtdmeoooimnfmaaaDoorCards
import Derived.Test.YtdmeoooimnfmaaaDoorTie
import Derived.Test.YtdmeoooimnfmaaaDoorLaid
import Derived.Test.YtdmeoooimnfmaaaDoorLeft
import Derived.Test.YtdmeoooimnfmaaaDoorArgs
import Derived.SevenTiedAt
import Derived.Lib.SmallJoins
namespace Go.Proofs.YtdmeoooimnfmaaaDoor
open Go.ChangeShapes Go.WideShapes Go.ChangeAt Go.RowKit Go.Joins
namespace Bd
open Fr
set_option maxRecDepth 100000 in
theorem left_no (N : Int) (p : Option Addr) (n cap : Nat) (o : Int) (w : World) (e : Nat → Addr) (he : Errs3 w e) (h : 60 < n ∨ N < 1 ∨ 256 < N ∨ o < 0 ∨ 6 < o) :
    Calls Tryd.prog 9 #[.int .i64 N, .slice p n cap, .int .i64 o] w fun ev w' => ev = .returned (.bool true) ∧ Below w.heap.size w w' := by
  have HE := hide he
  clear he
  by_cases c0 : 60 < n
  · have e0 : decide ((60 : Int) < n) = true := by simp; omega
    go_enter Tryd.func9, Tryd.ntmps9
    go_wp2_with fail
    refine (paired_ok w e (unhide HE)).mono ?_
    rintro ev w1 ⟨rfl, b1⟩
    go_wp2_with fail
    go_ret
    exact ⟨rfl, b1⟩
  · have e0 : decide ((60 : Int) < n) = false := by simp; omega
    by_cases c1 : N < 1
    · have e1 : decide (N < 1) = true := by simp; omega
      go_enter Tryd.func9, Tryd.ntmps9
      go_wp2_with fail
      refine (paired_ok w e (unhide HE)).mono ?_
      rintro ev w1 ⟨rfl, b1⟩
      go_wp2_with fail
      go_ret
      exact ⟨rfl, b1⟩
    · have e1 : decide (N < 1) = false := by simp; omega
      by_cases c2 : 256 < N
      · have e2 : decide (256 < N) = true := by simp; omega
        go_enter Tryd.func9, Tryd.ntmps9
        go_wp2_with fail
        refine (paired_ok w e (unhide HE)).mono ?_
        rintro ev w1 ⟨rfl, b1⟩
        go_wp2_with fail
        go_ret
        exact ⟨rfl, b1⟩
      · have e2 : decide (256 < N) = false := by simp; omega
        by_cases c3 : o < 0
        · have e3 : decide (o < 0) = true := by simp; omega
          go_enter Tryd.func9, Tryd.ntmps9
          go_wp2_with fail
          refine (paired_ok w e (unhide HE)).mono ?_
          rintro ev w1 ⟨rfl, b1⟩
          go_wp2_with fail
          go_ret
          exact ⟨rfl, b1⟩
        · have e3 : decide (o < 0) = false := by simp; omega
          have e4 : decide (6 < o) = true := by simp; omega
          go_enter Tryd.func9, Tryd.ntmps9
          go_wp2_with fail
          refine (paired_ok w e (unhide HE)).mono ?_
          rintro ev w1 ⟨rfl, b1⟩
          go_wp2_with fail
          go_ret
          exact ⟨rfl, b1⟩
theorem left_any (N : Int) (p : Option Addr) (n cap : Nat) (z : Nat → Int) (o : Int) (w : World) (e : Nat → Addr) (he : Errs w e) (hz : Ints w p n z) :
    Calls Tryd.prog 9 #[.int .i64 N, .slice p n cap, .int .i64 o] w fun ev w' => ev = .returned (.bool true) ∧ Below w.heap.size w w' := by
  by_cases h : 60 < n ∨ N < 1 ∨ 256 < N ∨ o < 0 ∨ 6 < o
  · exact left_no N p n cap o w e he.three h
  · exact left_ok N p n cap z o w e he (by omega) (by omega) (by omega) (by omega) (by omega) hz
end Bd
namespace BuddyLeft
theorem door (os : Os) (args : Array Value) : laidMetH Tryd.prog Rows.buddyLeftRow.laid ((World.doorLaid Tryd.prog 206 os).forCall (fun _ _ => 0) ⟨#[], args, []⟩).memory :=
  laidMetH_of_parts3 (fuel := 8) (laidMet_of_run' 8 (by kernel_rfl) (by kernel_rfl)) (by kernel_rfl) (by kernel_rfl)

set_option maxRecDepth 100000 in
theorem lifted (os : Os) (started : os.Started) (H : Type) (enc : TypeId × Value → H) :
    ReturnsInHanded {} Tryd.checked os 9 .any (fun w args => (Rows.buddyLeftSpec.pre enc Tryd.prog Tryd.f9 [] false w args ∧ laidMetH Tryd.prog Rows.buddyLeftRow.laid w) ∧ sizedMet enc Tryd.prog Tryd.f9 (OpenSpec.ofChange Rows.buddyLeftSpec) false w args)
      (Rows.buddyLeftSpec.post enc Tryd.prog Tryd.f9 false true false false) := by
  refine returnsInHanded_of_change_and (C := Tryd.checked) (X := fun w _ => laidMetH Tryd.prog Rows.buddyLeftRow.laid w) (fun _ _ _ hh h => h.of_heap hh) own started (by kernel_rfl) Tryd.func9
    (ChangeSpec.witness_shaped (enc := enc) (C := Tryd.checked) (os := os) (X := fun w _ => laidMetH Tryd.prog Rows.buddyLeftRow.laid w) false (World.doorLaid Tryd.prog 206 os) #[.int .i64 0, .slice none 0 0, .int .i64 0] 8 rfl (World.shaped_of_RefB (by kernel_rfl) (by kernel_rfl)) (by kernel_rfl) (by kernel_rfl) (by kernel_rfl) (door os _)) ?_
  intro W base args ds gs before hval0 hW _ _ hL _
  have hval : ∀ (j : Nat) t v, Tryd.f9.params[j]? = some t → args[j]? = some v → Value.okWide Tryd.prog W .any base t v := hval0
  have hW' := hW
  obtain ⟨p, q, hA0, hV, rfl, hfz, hnd⟩ := hW
  have hA : DataW.TrodAll enc Tryd.prog W 0 (fun _ => true) true Tryd.f9.params.toList args.toList ds p := hA0
  rw [Tryd.params9] at hA hval
  obtain ⟨v0, v1, v2, d0, d1, d2, p0, p1, p2, rfl, rfl, rfl, h0, h1, h2⟩ := trodAll_three hA
  obtain ⟨rfl, rfl⟩ := trodVars_none hV
  obtain ⟨n0, rfl, rfl, rfl, wn0⟩ := open_int Tryd.underlying3 (hval 0 3 v0 rfl rfl) h0
  obtain ⟨n2, rfl, rfl, rfl, wn2⟩ := open_int Tryd.underlying3 (hval 2 3 v2 rfl rfl) h2
  have h1k := h1
  obtain ⟨fuel, hf⟩ := h1
  clear hA0 hval0
  simp only [List.append_nil] at hW'
  have hlt : ∀ x ∈ p1, x.block < W.heap.size := fun x hx => by simpa using hW'.lt x (by simpa using hx)
  obtain ⟨e, he⟩ := errs_of hL
  obtain ⟨a0, len, cap, rfl⟩ := okWide_slice Tryd.underlying22 (hval 1 22 v1 rfl rfl)
  have hcall : Calls Tryd.prog 9 #[.int .i64 n0, .slice a0 len cap, .int .i64 n2] W fun ev w' => ev = .returned (.bool true) ∧ Below W.heap.size W w' := by
    rcases open_ints Tryd.underlying22 Tryd.underlying3 cells3 hf with ⟨hcs, _⟩ | ⟨a, len', cap', zs, hcs, _, hl, hm, hz, _, hcell, hwz⟩
    · simp [Value.cells] at hcs
      obtain ⟨rfl, rfl, rfl⟩ := hcs
      exact Bd.left_any n0 none 0 0 _ n2 W e he (Bd.ints_nil W none)
    · simp [Value.cells] at hcs
      obtain ⟨rfl, rfl, rfl⟩ := hcs
      simp only [if_true] at hz
      exact Bd.left_any n0 (some a) len cap _ n2 W e he (Bd.ints_of (by omega) hcell hwz)
  refine hcall.mono fun ev W' ⟨hev, hb⟩ => ?_
  subst hev
  have e1 : Rows.buddyLeftSpec.fn H ([.lit (.int .i64 n0), d1, .lit (.int .i64 n2)] ++ []) = { results := [.lit (.bool true)], args := [.lit (.int .i64 n0), d1, .lit (.int .i64 n2)] } := by simp [Rows.buddyLeftSpec]
  refine ⟨_, rfl, _, _, _, [], [] ++ (p1 ++ []), [], hW', ?_, ?_, ?_, hb.frame _, fun h => by cases h⟩
  · rw [e1]; exact trodAll_mk1 (shut_bool Tryd.underlying4 true)
  · rw [e1]; exact trodAll_mk3 (shut_int Tryd.underlying3 wn0) (Below.trod laidOut (by kernel_rfl) (of_decide_eq_true (by kernel_rfl)) h1k hb hlt) (shut_int Tryd.underlying3 wn2)
  · rw [e1]; rfl

theorem said : Rows.BuddyLeftSaid :=
  OpenClaim.holds_of_wide 9 Tryd.f9 rfl rfl rfl rfl rfl rfl rfl ⟨rfl, rfl, rfl, rfl, rfl⟩ rfl rfl rfl rfl rfl (by kernel_rfl) Tryd.func9 (by kernel_rfl)
    (of_decide_eq_true (by kernel_rfl)) (by unfold Func.isWrapper; rw [if_neg (of_decide_eq_false (by kernel_rfl))]; exact ⟨rfl, rfl⟩)
    (fun os started H enc _ => lifted os started H enc)

set_option maxRecDepth 100000 in
theorem plain (f : FuncId) (fn : Func) (hf : Tryd.pinned.checked.prog.funcNamed "slabyard/slabyardlaw1.BuddyLeft" = some f) (hfn : Tryd.pinned.checked.prog.funcs[f]? = some fn) :
    true = Tryd.pinned.checked.prog.looks [] ∧ ∀ (j : Nat) t, fn.params[j]? = some t → Tryd.pinned.checked.prog.wantsStandIn t = false := by
  obtain rfl : f = 9 := Option.some.inj ((show Tryd.prog.funcNamed "slabyard/slabyardlaw1.BuddyLeft" = some 9 by kernel_rfl).symm.trans hf) |>.symm
  obtain rfl : fn = Tryd.f9 := (Option.some.inj (Tryd.func9.symm.trans hfn)).symm
  refine ⟨by kernel_rfl, fun j t ht => ?_⟩
  rw [Tryd.params9] at ht
  have hm : t = 3 ∨ t = 22 ∨ t = 3 := by simpa using Array.mem_of_getElem? ht
  rcases hm with rfl | rfl | rfl
  · exact (show Tryd.prog.wantsStandIn 3 = false by kernel_rfl)
  · exact (show Tryd.prog.wantsStandIn 22 = false by kernel_rfl)
  · exact (show Tryd.prog.wantsStandIn 3 = false by kernel_rfl)

/-- The card. -/
theorem card : Rows.BuddyLeftCardSaid :=
  Claim7.holds_tied_plain_at .later [] _ _ _ _ said (fun _ h => by cases h) (by kernel_rfl) (fun _ h => by cases h) buddyLeft_row_tie rfl ⟨rfl, rfl⟩ (by kernel_rfl) rfl plain (by kernel_rfl)
end BuddyLeft
theorem buddyLeft_card : Rows.BuddyLeftCardSaid := BuddyLeft.card
#print axioms buddyLeft_card
end Go.Proofs.YtdmeoooimnfmaaaDoor
