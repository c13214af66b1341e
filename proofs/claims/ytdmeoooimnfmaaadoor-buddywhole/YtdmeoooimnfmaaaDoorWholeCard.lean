/- For every int and every list of ints that BuddyWhole is called with, it answers true: whatever is taken, split and given back, each page is in one block, and when all is given back it is as at the beginning; the four errors' variables hold what the program's own text lays in them (tied by the card). -/
import Derived.Test.YtdmeoooimnfmaaaDoorCards
import Derived.Test.YtdmeoooimnfmaaaDoorTie
import Derived.Test.YtdmeoooimnfmaaaDoorLaid
import Derived.Test.YtdmeoooimnfmaaaDoorWhole
import Derived.Test.YtdmeoooimnfmaaaDoorArgs
import Derived.SevenTiedAt
import Derived.Lib.SmallJoins
namespace Go.Proofs.YtdmeoooimnfmaaaDoor
open Go.ChangeShapes Go.WideShapes Go.ChangeAt Go.RowKit Go.Joins
namespace Bd
open Fr
theorem whole_no (N : Int) (p : Option Addr) (n cap : Nat) (w : World) (e : Nat → Addr) (he : Errs3 w e) (h : 100 < n ∨ N < 1 ∨ 256 < N) :
    Calls Tryd.prog 8 #[.int .i64 N, .slice p n cap] w fun ev w' => ev = .returned (.bool true) ∧ Below w.heap.size w w' := by
  have HE := hide he
  clear he
  by_cases c1 : 100 < n
  · have d1 : decide ((100 : Int) < n) = true := by simp; omega
    go_enter Tryd.func8, Tryd.ntmps8
    go_wp2_with fail
    refine (paired_ok w e (unhide HE)).mono ?_
    rintro ev w1 ⟨rfl, b1⟩
    go_wp2_with fail
    go_ret
    exact ⟨rfl, b1⟩
  · have d1 : decide ((100 : Int) < n) = false := by simp; omega
    by_cases c2 : N < 1
    · have d2 : decide (N < 1) = true := by simpa using c2
      go_enter Tryd.func8, Tryd.ntmps8
      go_wp2_with fail
      refine (paired_ok w e (unhide HE)).mono ?_
      rintro ev w1 ⟨rfl, b1⟩
      go_wp2_with fail
      go_ret
      exact ⟨rfl, b1⟩
    · have d2 : decide (N < 1) = false := by simpa using c2
      have d3 : decide (256 < N) = true := by simp; omega
      go_enter Tryd.func8, Tryd.ntmps8
      go_wp2_with fail
      refine (paired_ok w e (unhide HE)).mono ?_
      rintro ev w1 ⟨rfl, b1⟩
      go_wp2_with fail
      go_ret
      exact ⟨rfl, b1⟩
theorem whole_any (N : Int) (p : Option Addr) (n cap : Nat) (z : Nat → Int) (w : World) (e : Nat → Addr) (he : Errs4 w e) (hz : Ints w p n z) :
    Calls Tryd.prog 8 #[.int .i64 N, .slice p n cap] w fun ev w' => ev = .returned (.bool true) ∧ Below w.heap.size w w' := by
  by_cases h : 100 < n ∨ N < 1 ∨ 256 < N
  · exact whole_no N p n cap w e he.three h
  · exact whole_ok N p n cap z w e he (by omega) (by omega) (by omega) hz
end Bd

def texts4 : List (String × List UInt8) := [("slabyard/api.ErrBound", [115, 108, 97, 98, 121, 97, 114, 100, 58, 32, 98, 111, 117, 110, 100]), ("slabyard/api.ErrShape", [115, 108, 97, 98, 121, 97, 114, 100, 58, 32, 115, 104, 97, 112, 101]), ("slabyard/api.ErrNone", [115, 108, 97, 98, 121, 97, 114, 100, 58, 32, 110, 111, 110, 101]), ("slabyard/api.ErrFull", [115, 108, 97, 98, 121, 97, 114, 100, 58, 32, 102, 117, 108, 108])]
theorem errs4_of {W : World} (h : laidMetH Tryd.prog Rows.buddyWholeRow.laid W) : ∃ e, Bd.Errs4 W e := by
  have h' : laidMet Tryd.prog (texts4.map senti) W := h
  obtain ⟨ps, hl, hn, hr⟩ := h'
  obtain ⟨az, hf⟩ := found_of texts4 ps hl (by
    intro x hx
    simp only [texts4, List.mem_cons, List.mem_nil_iff, or_false] at hx
    rcases hx with rfl | rfl | rfl | rfl
    · exact ⟨_, g1, gt1⟩
    · exact ⟨_, g2, gt2⟩
    · exact ⟨_, g3, gt3⟩
    · exact ⟨_, g4, gt4⟩) hr
  match az, hf with
  | [a1, a2, a3, a4], ⟨x1, q1, e1, c1, ⟨x2, q2, e2, c2, ⟨x3, q3, e3, c3, ⟨x4, q4, e4, c4, _, _⟩, _⟩, _⟩, _⟩ =>
    obtain rfl := Option.some.inj (g1.symm.trans e1)
    obtain rfl := Option.some.inj (g2.symm.trans e2)
    obtain rfl := Option.some.inj (g3.symm.trans e3)
    obtain rfl := Option.some.inj (g4.symm.trans e4)
    exact ⟨fun i => if i = 1 then a1 else if i = 2 then a2 else if i = 3 then a3 else a4, ⟨c1, c2, c3⟩, c4⟩
namespace BuddyWhole
theorem door (os : Os) (args : Array Value) : laidMetH Tryd.prog Rows.buddyWholeRow.laid ((World.doorLaid Tryd.prog 206 os).forCall (fun _ _ => 0) ⟨#[], args, []⟩).memory :=
  laidMetH_of_parts3 (fuel := 8) (laidMet_of_run' 8 (by kernel_rfl) (by kernel_rfl)) (by kernel_rfl) (by kernel_rfl)

set_option maxRecDepth 100000 in
theorem lifted (os : Os) (started : os.Started) (H : Type) (enc : TypeId × Value → H) :
    ReturnsInHanded {} Tryd.checked os 8 .any (fun w args => (Rows.buddyWholeSpec.pre enc Tryd.prog Tryd.f8 [] false w args ∧ laidMetH Tryd.prog Rows.buddyWholeRow.laid w) ∧ sizedMet enc Tryd.prog Tryd.f8 (OpenSpec.ofChange Rows.buddyWholeSpec) false w args)
      (Rows.buddyWholeSpec.post enc Tryd.prog Tryd.f8 false true false false) := by
  refine returnsInHanded_of_change_and (C := Tryd.checked) (X := fun w _ => laidMetH Tryd.prog Rows.buddyWholeRow.laid w) (fun _ _ _ hh h => h.of_heap hh) own started (by kernel_rfl) Tryd.func8
    (ChangeSpec.witness_shaped (enc := enc) (C := Tryd.checked) (os := os) (X := fun w _ => laidMetH Tryd.prog Rows.buddyWholeRow.laid w) false (World.doorLaid Tryd.prog 206 os) #[.int .i64 0, .slice none 0 0] 8 rfl (World.shaped_of_RefB (by kernel_rfl) (by kernel_rfl)) (by kernel_rfl) (by kernel_rfl) (by kernel_rfl) (door os _)) ?_
  intro W base args ds gs before hval0 hW _ _ hL _
  have hval : ∀ (j : Nat) t v, Tryd.f8.params[j]? = some t → args[j]? = some v → Value.okWide Tryd.prog W .any base t v := hval0
  have hW' := hW
  obtain ⟨p, q, hA0, hV, rfl, hfz, hnd⟩ := hW
  have hA : DataW.TrodAll enc Tryd.prog W 0 (fun _ => true) true Tryd.f8.params.toList args.toList ds p := hA0
  rw [Tryd.params8] at hA hval
  obtain ⟨v0, v1, d0, d1, p0, p1, rfl, rfl, rfl, h0, h1⟩ := trodAll_two hA
  obtain ⟨rfl, rfl⟩ := trodVars_none hV
  obtain ⟨n0, rfl, rfl, rfl, wn0⟩ := open_int Tryd.underlying3 (hval 0 3 v0 rfl rfl) h0
  have h1k := h1
  obtain ⟨fuel, hf⟩ := h1
  clear hA0 hval0
  simp only [List.append_nil] at hW'
  have hlt : ∀ x ∈ p1, x.block < W.heap.size := fun x hx => by simpa using hW'.lt x (by simpa using hx)
  obtain ⟨e, he⟩ := errs4_of hL
  obtain ⟨a0, len, cap, rfl⟩ := okWide_slice Tryd.underlying22 (hval 1 22 v1 rfl rfl)
  have hcall : Calls Tryd.prog 8 #[.int .i64 n0, .slice a0 len cap] W fun ev w' => ev = .returned (.bool true) ∧ Below W.heap.size W w' := by
    rcases open_ints Tryd.underlying22 Tryd.underlying3 cells3 hf with ⟨hcs, _⟩ | ⟨a, len', cap', zs, hcs, _, hl, hm, hz, _, hcell, hwz⟩
    · simp [Value.cells] at hcs
      obtain ⟨rfl, rfl, rfl⟩ := hcs
      exact Bd.whole_any n0 none 0 0 _ W e he (Bd.ints_nil W none)
    · simp [Value.cells] at hcs
      obtain ⟨rfl, rfl, rfl⟩ := hcs
      simp only [if_true] at hz
      exact Bd.whole_any n0 (some a) len cap _ W e he (Bd.ints_of (by omega) hcell hwz)
  refine hcall.mono fun ev W' ⟨hev, hb⟩ => ?_
  subst hev
  have e1 : Rows.buddyWholeSpec.fn H ([.lit (.int .i64 n0), d1] ++ []) = { results := [.lit (.bool true)], args := [.lit (.int .i64 n0), d1] } := by simp [Rows.buddyWholeSpec]
  refine ⟨_, rfl, _, _, _, [], [] ++ p1, [], hW', ?_, ?_, ?_, hb.frame _, fun h => by cases h⟩
  · rw [e1]; exact trodAll_mk1 (shut_bool Tryd.underlying4 true)
  · rw [e1]; exact trodAll_mk2 (shut_int Tryd.underlying3 wn0) (Below.trod laidOut (by kernel_rfl) (of_decide_eq_true (by kernel_rfl)) h1k hb hlt)
  · rw [e1]; rfl

theorem said : Rows.BuddyWholeSaid :=
  OpenClaim.holds_of_wide 8 Tryd.f8 rfl rfl rfl rfl rfl rfl rfl ⟨rfl, rfl, rfl, rfl, rfl⟩ rfl rfl rfl rfl rfl (by kernel_rfl) Tryd.func8 (by kernel_rfl)
    (of_decide_eq_true (by kernel_rfl)) (by unfold Func.isWrapper; rw [if_neg (of_decide_eq_false (by kernel_rfl))]; exact ⟨rfl, rfl⟩)
    (fun os started H enc _ => lifted os started H enc)

theorem plain (f : FuncId) (fn : Func) (hf : Tryd.pinned.checked.prog.funcNamed "slabyard/slabyardlaw1.BuddyWhole" = some f) (hfn : Tryd.pinned.checked.prog.funcs[f]? = some fn) :
    true = Tryd.pinned.checked.prog.looks [] ∧ ∀ (j : Nat) t, fn.params[j]? = some t → Tryd.pinned.checked.prog.wantsStandIn t = false := by
  obtain rfl : f = 8 := Option.some.inj ((show Tryd.prog.funcNamed "slabyard/slabyardlaw1.BuddyWhole" = some 8 by kernel_rfl).symm.trans hf) |>.symm
  obtain rfl : fn = Tryd.f8 := (Option.some.inj (Tryd.func8.symm.trans hfn)).symm
  refine ⟨by kernel_rfl, fun j t ht => ?_⟩
  rw [Tryd.params8] at ht
  have hm : t = 3 ∨ t = 22 := by simpa using Array.mem_of_getElem? ht
  rcases hm with rfl | rfl
  · exact (show Tryd.prog.wantsStandIn 3 = false by kernel_rfl)
  · exact (show Tryd.prog.wantsStandIn 22 = false by kernel_rfl)

/-- The card. -/
theorem card : Rows.BuddyWholeCardSaid :=
  Claim7.holds_tied_plain_at .later [] _ _ _ _ said (fun _ h => by cases h) (by kernel_rfl) (fun _ h => by cases h) buddyWhole_row_tie rfl ⟨rfl, rfl⟩ (by kernel_rfl) rfl plain (by kernel_rfl)
end BuddyWhole
theorem buddyWhole_card : Rows.BuddyWholeCardSaid := BuddyWhole.card
#print axioms buddyWhole_card
end Go.Proofs.YtdmeoooimnfmaaaDoor
