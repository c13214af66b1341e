/- MagazineActsCard. -/
import Derived.Test.YtfefehkapffljaaGreatDoorCards
import Derived.Test.YtfefehkapffljaaGreatDoorTie
import Derived.Test.YtfefehkapffljaaGreatDoorGB
import Derived.Test.YtfefehkapffljaaGreatDoorEI
import Derived.Test.YtfefehkapffljaaGreatDoorCJ
import Derived.Test.YtfefehkapffljaaGreatDoorKZ
import Derived.SevenTiedAt
import Derived.Carry
import Derived.Lib.SmallJoins
namespace Go.Proofs.YtfefehkapffljaaGreatDoor
open Go.ChangeShapes Go.WideShapes Go.ChangeAt Go.RowKit Go.Joins
namespace MagazineActs
theorem door (os : Os) (args : Array Value) : laidMetH Tryz.prog Rows.magazineActsRow.laid ((World.doorLaid Tryz.prog 206 os).forCall (fun _ _ => 0) ⟨#[], args, []⟩).memory := door10 os args
set_option maxRecDepth 100000 in
theorem lifted (os : Os) (started : os.Started) (H : Type) (enc : TypeId × Value → H) :
   ReturnsInHanded {} Tryz.checked os 8 .any (fun w args => (Rows.magazineActsSpec.pre enc Tryz.prog Tryz.f8 [] false w args ∧ laidMetH Tryz.prog Rows.magazineActsRow.laid w) ∧ sizedMet enc Tryz.prog Tryz.f8 (OpenSpec.ofChange Rows.magazineActsSpec) false w args)
     (Rows.magazineActsSpec.post enc Tryz.prog Tryz.f8 false true false false) := by
 refine returnsInHanded_of_change_and (C := Tryz.checked) (X := fun w _ => laidMetH Tryz.prog Rows.magazineActsRow.laid w) (fun _ _ _ hh h => h.of_heap hh) own started (by kernel_rfl) Tryz.func8
   (ChangeSpec.witness_shaped (enc := enc) (C := Tryz.checked) (os := os) (X := fun w _ => laidMetH Tryz.prog Rows.magazineActsRow.laid w) false (World.doorLaid Tryz.prog 206 os) #[.agg #[.slice none 0 0, .slice none 0 0, .int .i64 0, .int .i64 0, .int .i64 0], .int .i64 0, .int .i64 0, .slice none 0 0] 8 rfl (World.shaped_of_RefB (by kernel_rfl) (by kernel_rfl)) (by kernel_rfl) (by kernel_rfl) (by kernel_rfl) (door os _)) ?_
 intro W base args ds gs before hval0 hW _ _ hL _
 have hval : ∀ (j : Nat) t v, Tryz.f8.params[j]? = some t → args[j]? = some v → Value.okWide Tryz.prog W .any base t v := hval0
 have hW' := hW
 obtain ⟨p, q, hA0, hV, rfl, hfz, hnd⟩ := hW
 have hA : DataW.TrodAll enc Tryz.prog W 0 (fun _ => true) true Tryz.f8.params.toList args.toList ds p := hA0
 rw [Tryz.params8] at hA hval
 obtain ⟨v0, vn, vm, v1, d0, dn, dm, d1, p0, pn, pm, p1, rfl, rfl, rfl, h0, hn, hnm, h1⟩ := trodAll_four hA
 obtain ⟨rfl, rfl⟩ := trodVars_none hV
 obtain ⟨n0, rfl, rfl, rfl, wn0⟩ := open_int Tryz.underlying3 (hval 1 3 vn rfl rfl) hn
 obtain ⟨n1, rfl, rfl, rfl, wn1⟩ := open_int Tryz.underlying3 (hval 2 3 vm rfl rfl) hnm
 have h0k := h0
 have h1k := h1
 obtain ⟨fuel0, hf0⟩ := h0
 obtain ⟨fuel, hf⟩ := h1
 clear hA0 hval0
 simp only [List.append_nil] at hW'
 have hlt0 : ∀ x ∈ p0, x.block < W.heap.size := fun x hx => by simpa using hW'.lt x (by simp [hx])
 have hlt1 : ∀ x ∈ p1, x.block < W.heap.size := fun x hx => by simpa using hW'.lt x (by simp [hx])
 obtain ⟨e, he⟩ := errs_of hL
 obtain ⟨cs, rfl, _⟩ := okWide_struct Tryz.underlying27 (hval 0 27 v0 rfl rfl)
 obtain ⟨a1, len, cap, rfl⟩ := okWide_slice Tryz.underlying82 (hval 3 82 v1 rfl rfl)
 obtain ⟨c, pp, qq, pc, qc, hcs, hAt, hpc, hhi⟩ := Sb.open_conf2 hf0
 obtain ⟨a, len', cap', A, hcs1, hz, _⟩ := Mg.open_dacts hf
 simp [Value.cells] at hcs1
 obtain ⟨rfl, rfl, rfl⟩ := hcs1
 obtain ⟨l⟩ := cs
 simp only [Value.cells] at hcs
 subst hcs
 have hcall := Rd.macts_ok c pp qq pc qc n0 n1 a1 len cap A W e he hAt hpc hz hhi
 refine hcall.mono fun ev W' ⟨hev, hb⟩ => ?_
 subst hev
 have e1 : Rows.magazineActsSpec.fn H ([d0, .lit (.int .i64 n0), .lit (.int .i64 n1), d1] ++ []) = { results := [.lit (.bool true)], args := [d0, .lit (.int .i64 n0), .lit (.int .i64 n1), d1] } := by simp [Rows.magazineActsSpec]
 refine ⟨_, rfl, _, _, _, [], p0 ++ ([] ++ ([] ++ p1)), [], hW', ?_, ?_, ?_, hb.frame _, fun h => by cases h⟩
 · rw [e1]; exact trodAll_mk1 (shut_bool Tryz.underlying4 true)
 · rw [e1]; exact trodAll_mk4 (Below.trod Sb.laidOut (by kernel_rfl) (of_decide_eq_true (by kernel_rfl)) h0k hb hlt0) (shut_int Tryz.underlying3 wn0) (shut_int Tryz.underlying3 wn1) (Below.trod Sb.laidOut (by kernel_rfl) (of_decide_eq_true (by kernel_rfl)) h1k hb hlt1)
 · rw [e1]; rfl
theorem said : Rows.MagazineActsSaid :=
 OpenClaim.holds_of_wide 8 Tryz.f8 rfl rfl rfl rfl rfl rfl rfl ⟨rfl, rfl, rfl, rfl, rfl⟩ rfl rfl rfl rfl rfl (by kernel_rfl) Tryz.func8 (by kernel_rfl)
   (of_decide_eq_true (by kernel_rfl)) (by unfold Func.isWrapper; rw [if_neg (of_decide_eq_false (by kernel_rfl))]; exact ⟨rfl, rfl⟩)
   (fun os started H enc _ => lifted os started H enc)
theorem plain (f : FuncId) (fn : Func) (hf : Tryz.pinned.checked.prog.funcNamed "slabyard/slabyardlaw1.MagazineActs" = some f) (hfn : Tryz.pinned.checked.prog.funcs[f]? = some fn) :
   true = Tryz.pinned.checked.prog.looks [] ∧ ∀ (j : Nat) t, fn.params[j]? = some t → Tryz.pinned.checked.prog.wantsStandIn t = false := by
 obtain rfl : f = 8 := Option.some.inj ((show Tryz.prog.funcNamed "slabyard/slabyardlaw1.MagazineActs" = some 8 by kernel_rfl).symm.trans hf) |>.symm
 obtain rfl : fn = Tryz.f8 := (Option.some.inj (Tryz.func8.symm.trans hfn)).symm
 refine ⟨by kernel_rfl, fun j t ht => ?_⟩
 rw [Tryz.params8] at ht
 have hm : t = 27 ∨ t = 3 ∨ t = 82 := by simpa using Array.mem_of_getElem? ht
 rcases hm with rfl | rfl | rfl
 · exact (show Tryz.prog.wantsStandIn 27 = false by kernel_rfl)
 · exact (show Tryz.prog.wantsStandIn 3 = false by kernel_rfl)
 · exact (show Tryz.prog.wantsStandIn 82 = false by kernel_rfl)
theorem card : Rows.MagazineActsCardSaid :=
 Claim7.holds_tied_plain_at .later [] _ _ _ _ said (fun _ h => by cases h) (by kernel_rfl) (fun _ h => by cases h) magazineActs_row_tie rfl ⟨rfl, rfl⟩ (by kernel_rfl) rfl plain (by kernel_rfl)
end MagazineActs
theorem magazineActs_card : Rows.MagazineActsCardSaid := MagazineActs.card
#print axioms magazineActs_card
end Go.Proofs.YtfefehkapffljaaGreatDoor
