/- The library's maps.Keys, slices.Sorted, slices.Sort and maps.Clone stand in this program as the library's contracts ask: the tables of numbers, each compared by the kernel · The contracts of package buddy's put and has · The contracts of frames.Cover and of the document's answer's own CoverOf: the same blocks · The contract of frames.Cover: the blocks that cover the pages · The contracts of frames.Check, and of the document's answer's own BlockError, AloneError, ParentOf, BuddyOf · The contracts of the document's answer's own BlockError, AloneError, ParentOf, BuddyOf. -/
import Derived.Shelf.SlIterI.Nil
import Derived.Shelf.SortM.Plain
import Derived.Shelf.SortM.SortNone
import Derived.Shelf.SlMaps.Clone
import Derived.Ground.GgzProg
import Derived.Ground.SlgmProg
import Derived.Ground.SlmcProg
import Derived.Test.YtcbmfakjfoggaaaGreatDoorProg
import Derived.Test.YtcbmfakjfoggaaaGreatDoorG02
import Derived.Test.YtcbmfakjfoggaaaGreatDoorG01
import Derived.OwnWalk
import Derived.Test.YtcbmfakjfoggaaaGreatDoorG00
import Derived.Deep.QuietTactic
import Derived.BigQuiet
import Derived.Deep.RegionHeld3
namespace Go.Proofs.YtcbmfakjfoggaaaGreatDoor
open Go.Shelf
def keysA_ren : Go.Shelf.Ren := ⟨fun | 7 => 281 | 10 => 292 | n => n, fun | 23 => 325 | 26 => 3 | 3 => 3 | 28 => 195 | 0 => 0 | 27 => 194 | 33 => 146 | 4 => 4 | n => n, fun | n => n⟩
set_option maxRecDepth 100000 in
theorem keysA : Go.Proofs.SlLaysZI.n7 Tryz.prog keysA_ren := {
  mixed := by kernel_rfl
  f7 := ⟨Tryz.f281.name, by decide, Tryz.func281.trans (congrArg some (by kernel_rfl))⟩
  f10 := ⟨Tryz.f292.name, by decide, Tryz.func292.trans (congrArg some (by kernel_rfl))⟩
  t0 := Tryz.underlying0
  a0 := Tryz.isAgg0
  z0 := Tryz.sizeOf0
  v0 := Tryz.zeroValue0
  t4 := Tryz.underlying4
  a4 := Tryz.isAgg4
  z4 := Tryz.sizeOf4
  v4 := Tryz.zeroValue4
  t23 := Tryz.underlying325
  a23 := Tryz.isAgg325
  z23 := Tryz.sizeOf325
  v23 := Tryz.zeroValue325
  t26 := Tryz.underlying3
  a26 := Tryz.isAgg3
  z26 := Tryz.sizeOf3
  v26 := Tryz.zeroValue3
  t27 := Tryz.underlying194
  a27 := Tryz.isAgg194
  z27 := Tryz.sizeOf194
  v27 := Tryz.zeroValue194
  t28 := Tryz.underlying195
  a28 := Tryz.isAgg195
  z28 := Tryz.sizeOf195
  v28 := Tryz.zeroValue195
  t33 := Tryz.underlying146
  a33 := Tryz.isAgg146
  z33 := Tryz.sizeOf146
  v33 := Tryz.zeroValue146 }
def sortedA_ren : Go.Shelf.Ren := ⟨fun | 6 => 105 | 8 => 177 | 9 => 178 | 11 => 239 | 13 => 241 | 12 => 240 | 23 => 274 | 24 => 275 | 14 => 265 | 15 => 266 | 16 => 267 | 17 => 268 | 18 => 269 | 19 => 270 | 20 => 271 | 21 => 272 | 22 => 273 | 25 => 286 | 26 => 287 | 27 => 288 | 28 => 289 | 29 => 290 | 30 => 248 | 31 => 299 | n => n, fun | 26 => 3 | 28 => 195 | 24 => 38 | 0 => 0 | 3 => 3 | 37 => 369 | 48 => 404 | 50 => 298 | 4 => 4 | 40 => 398 | 39 => 397 | 45 => 363 | 5 => 5 | 9 => 9 | 51 => 411 | 55 => 415 | 57 => 422 | 58 => 152 | 33 => 146 | n => n, fun | n => n⟩
set_option maxRecDepth 100000 in
theorem sortedA : Go.Proofs.SlLaysZI.n6 Tryz.prog sortedA_ren := {
  mixed := by kernel_rfl
  f6 := ⟨Tryz.f105.name, by decide, Tryz.func105.trans (congrArg some (by kernel_rfl))⟩
  f8 := ⟨Tryz.f177.name, by decide, Tryz.func177.trans (congrArg some (by kernel_rfl))⟩
  f11 := ⟨Tryz.f239.name, by decide, Tryz.func239.trans (congrArg some (by kernel_rfl))⟩
  t0 := Tryz.underlying0
  a0 := Tryz.isAgg0
  z0 := Tryz.sizeOf0
  v0 := Tryz.zeroValue0
  t24 := Tryz.underlying38
  a24 := Tryz.isAgg38
  z24 := Tryz.sizeOf38
  v24 := Tryz.zeroValue38
  t26 := Tryz.underlying3
  a26 := Tryz.isAgg3
  z26 := Tryz.sizeOf3
  v26 := Tryz.zeroValue3
  t28 := Tryz.underlying195
  a28 := Tryz.isAgg195
  z28 := Tryz.sizeOf195
  v28 := Tryz.zeroValue195
  i26 := by kernel_rfl }
def sortA_ren : Go.Shelf.Ren := ⟨fun | 5 => 178 | 8 => 241 | 7 => 240 | 19 => 274 | 20 => 275 | 10 => 265 | 11 => 266 | 12 => 267 | 13 => 268 | 14 => 269 | 15 => 270 | 16 => 271 | 17 => 272 | 18 => 273 | 30 => 286 | 31 => 287 | 32 => 288 | 33 => 289 | 34 => 290 | 35 => 248 | 40 => 299 | n => n, fun | 23 => 38 | 25 => 3 | 3 => 3 | 32 => 369 | 22 => 38 | 0 => 0 | 44 => 404 | 46 => 298 | 4 => 4 | 36 => 398 | 35 => 397 | 41 => 363 | 5 => 5 | 9 => 9 | 53 => 411 | 57 => 415 | 63 => 422 | 64 => 152 | n => n, fun | n => n⟩
set_option maxRecDepth 100000 in
theorem sortA : Go.Proofs.SlLaysM.n5 Tryz.prog sortA_ren := {
  mixed := by kernel_rfl
  f5 := ⟨Tryz.f178.name, by decide, Tryz.func178.trans (congrArg some (by kernel_rfl))⟩
  f7 := ⟨Tryz.f240.name, by decide, Tryz.func240.trans (congrArg some (by kernel_rfl))⟩
  f8 := Tryz.func241.trans (congrArg some (by kernel_rfl))
  f10 := ⟨Tryz.f265.name, by decide, Tryz.func265.trans (congrArg some (by kernel_rfl))⟩
  f11 := ⟨Tryz.f266.name, by decide, Tryz.func266.trans (congrArg some (by kernel_rfl))⟩
  f12 := ⟨Tryz.f267.name, by decide, Tryz.func267.trans (congrArg some (by kernel_rfl))⟩
  f13 := ⟨Tryz.f268.name, by decide, Tryz.func268.trans (congrArg some (by kernel_rfl))⟩
  f14 := ⟨Tryz.f269.name, by decide, Tryz.func269.trans (congrArg some (by kernel_rfl))⟩
  f15 := ⟨Tryz.f270.name, by decide, Tryz.func270.trans (congrArg some (by kernel_rfl))⟩
  f16 := ⟨Tryz.f271.name, by decide, Tryz.func271.trans (congrArg some (by kernel_rfl))⟩
  f17 := ⟨Tryz.f272.name, by decide, Tryz.func272.trans (congrArg some (by kernel_rfl))⟩
  f18 := ⟨Tryz.f273.name, by decide, Tryz.func273.trans (congrArg some (by kernel_rfl))⟩
  f19 := Tryz.func274.trans (congrArg some (by kernel_rfl))
  f20 := Tryz.func275.trans (congrArg some (by kernel_rfl))
  f30 := ⟨Tryz.f286.name, by decide, Tryz.func286.trans (congrArg some (by kernel_rfl))⟩
  f31 := Tryz.func287.trans (congrArg some (by kernel_rfl))
  f32 := Tryz.func288.trans (congrArg some (by kernel_rfl))
  f33 := ⟨Tryz.f289.name, by decide, Tryz.func289.trans (congrArg some (by kernel_rfl))⟩
  f34 := ⟨Tryz.f290.name, by decide, Tryz.func290.trans (congrArg some (by kernel_rfl))⟩
  f35 := ⟨Tryz.f248.name, by decide, Tryz.func248.trans (congrArg some (by kernel_rfl))⟩
  f40 := ⟨Tryz.f299.name, by decide, Tryz.func299.trans (congrArg some (by kernel_rfl))⟩
  t0 := Tryz.underlying0
  a0 := Tryz.isAgg0
  z0 := Tryz.sizeOf0
  v0 := Tryz.zeroValue0
  t3 := Tryz.underlying3
  a3 := Tryz.isAgg3
  z3 := Tryz.sizeOf3
  v3 := Tryz.zeroValue3
  t4 := Tryz.underlying4
  a4 := Tryz.isAgg4
  z4 := Tryz.sizeOf4
  v4 := Tryz.zeroValue4
  t5 := Tryz.underlying5
  a5 := Tryz.isAgg5
  z5 := Tryz.sizeOf5
  v5 := Tryz.zeroValue5
  t9 := Tryz.underlying9
  a9 := Tryz.isAgg9
  z9 := Tryz.sizeOf9
  v9 := Tryz.zeroValue9
  t22 := Tryz.underlying38
  a22 := Tryz.isAgg38
  z22 := Tryz.sizeOf38
  v22 := Tryz.zeroValue38
  t23 := Tryz.underlying38
  a23 := Tryz.isAgg38
  z23 := Tryz.sizeOf38
  v23 := Tryz.zeroValue38
  t25 := Tryz.underlying3
  a25 := Tryz.isAgg3
  z25 := Tryz.sizeOf3
  v25 := Tryz.zeroValue3
  t32 := Tryz.underlying369
  a32 := Tryz.isAgg369
  z32 := Tryz.sizeOf369
  v32 := Tryz.zeroValue369
  t35 := Tryz.underlying397
  a35 := Tryz.isAgg397
  z35 := Tryz.sizeOf397
  v35 := Tryz.zeroValue397
  t36 := Tryz.underlying398
  a36 := Tryz.isAgg398
  z36 := Tryz.sizeOf398
  v36 := Tryz.zeroValue398
  t41 := Tryz.underlying363
  a41 := Tryz.isAgg363
  z41 := Tryz.sizeOf363
  v41 := Tryz.zeroValue363
  t44 := Tryz.underlying404
  a44 := Tryz.isAgg404
  z44 := Tryz.sizeOf404
  v44 := Tryz.zeroValue404
  t46 := Tryz.underlying298
  a46 := Tryz.isAgg298
  z46 := Tryz.sizeOf298
  v46 := Tryz.zeroValue298
  t53 := Tryz.underlying411
  a53 := Tryz.isAgg411
  z53 := Tryz.sizeOf411
  v53 := Tryz.zeroValue411
  t57 := Tryz.underlying415
  a57 := Tryz.isAgg415
  z57 := Tryz.sizeOf415
  v57 := Tryz.zeroValue415
  t63 := Tryz.underlying422
  a63 := Tryz.isAgg422
  z63 := Tryz.sizeOf422
  v63 := Tryz.zeroValue422
  t64 := Tryz.underlying152
  a64 := Tryz.isAgg152
  z64 := Tryz.sizeOf152
  v64 := Tryz.zeroValue152 }
end Go.Proofs.YtcbmfakjfoggaaaGreatDoor
namespace Go.Proofs.YtcbmfakjfoggaaaGreatDoor
open Go.RowKit Go.Maps
namespace Bd
open Fr
theorem law : Keyed Tryz.prog 3 := int_keyed Tryz.underlying3
theorem zero3 (w : World) : (zeroValue 3).run Tryz.prog w = .ok (.int .i64 0) w := by kernel_rfl

theorem put_ok (x : Bl) (m : Nat) (L : List Bl) (w : World) (h : Mp w m L) (hx : 0 ≤ x.1 ∧ x.1 < 256 ∧ 0 ≤ x.2 ∧ x.2 ≤ 6) :
    Calls Tryz.prog 196 #[.map (some m), blkV x.1 x.2] w fun ev w' => ev = .returned (.tuple #[]) ∧ Mp w' m (ins x L) ∧ Kept m m w w' := by
  have hl := h.len
  have hown := (h.a (blkO x.1 x.2)).own
  have HM := hide h
  have HX := hide hx
  have w1 := wf_small hx.1 hx.2.1
  have w2 := wf_small hx.2.2.1 (by omega)
  clear h hx
  obtain ⟨a, k⟩ := x
  simp only at *
  go_enter Tryz.func196, Tryz.ntmps196
  go_wp2_with (at_mapUpdate; refine wpList_mapUpdate_in _ rfl _ _ _ 325 rfl 3 3 law Tryz.underlying325 _ m L.length _ rfl hown (by unfold maxLen; omega) _ _ _ rfl rfl (keyOf_int_mk Tryz.underlying3 w1) _ [] (plainElem_int Tryz.underlying3 w2) ?_; intro w9 hown9 hturn9)
  go_end0
  exact ⟨rfl, (unhide HM).put (x := (a, k)) (unhide HX) hown9, (kept_alloc _ _ _ _).trans (kept_turned hturn9 (Or.inl rfl))⟩

end Bd
end Go.Proofs.YtcbmfakjfoggaaaGreatDoor
namespace Go.Proofs.YtcbmfakjfoggaaaGreatDoor
open Go.RowKit
namespace Fr

theorem shr_cond (a r j : Int) (j0 : 0 ≤ j) (j5 : j ≤ 5) (hr : 1 ≤ r) (hr2 : r ≤ 256) : cond a r (j + 1) = (al a (j + 1) && decide (0 < r / pw (j + 1))) := by
  unfold cond
  congr 1
  rcases orders j j0 (by omega) with rfl | rfl | rfl | rfl | rfl | rfl | rfl
  all_goals first | omega | skip
  all_goals
    simp only [Int.reduceAdd, pw1, pw2, pw3, pw4, pw5, pw6]
    rw [decide_eq_decide]
    omega

set_option maxHeartbeats 4000000 in
theorem widest_ok (a t : Int) (w : World) (h0 : 0 ≤ a) (h1 : a < t) (h2 : t ≤ 256) : Calls Tryz.prog 246 #[.int .i64 a, .int .i64 t] w fun ev w' => ev = .returned (.int .i64 (wid a (t - a))) ∧ w' = w := by
  go_enter Tryz.func246, Tryz.ntmps246
  go_wp2
  go_loop [5] (fun k => ∃ j : Int, 0 ≤ j ∧ j ≤ 6 ∧ Hid (upto a (t - a) j) ∧ k = .int .i64 j) (fun k => 6 - (intOf k).toNat)
  case atStart => exact ⟨0, by omega, by omega, upto_zero _ _, rfl⟩
  case round =>
    obtain ⟨j, j0, j6, hu, rfl⟩ := hrel
    by_cases hc : j ≤ 5 ∧ cond a (t - a) (j + 1) = true
    · obtain ⟨j5, hc⟩ := hc
      have HC := hide hc
      rw [shr_cond a (t - a) j j0 j5 (by omega) (by omega)] at hc
      simp only [Bool.and_eq_true, decide_eq_true_eq] at hc
      obtain ⟨ha, hs⟩ := hc
      unfold al at ha
      rcases orders j j0 (by omega) with rfl | rfl | rfl | rfl | rfl | rfl | rfl
      all_goals first | omega | skip
      all_goals
        simp only [Int.reduceAdd, pw1, pw2, pw3, pw4, pw5, pw6] at ha hs
        clear j0 j6 j5
        go_wp2
        go_round
        case rel => exact ⟨_, by omega, by omega, upto_succ (unhide hu) (unhide HC), rfl⟩
        case measure => simp [intOf]
    · have hw : wid a (t - a) = j := wid_of (unhide hu) j0 j6 (by
        by_cases h6 : j = 6
        · exact Or.inl h6
        · right
          have := fun h => hc ⟨by omega, h⟩
          simpa using this)
      have HW := hide hw
      clear hw
      by_cases h6 : j = 6
      · subst h6
        clear hc
        go_wp2
        go_ret
        exact ⟨by rw [unhide HW]; rfl, rfl⟩
      · have hc2 : cond a (t - a) (j + 1) = false := by
          have := fun h => hc ⟨by omega, h⟩
          simpa using this
        rw [shr_cond a (t - a) j j0 (by omega) (by omega) (by omega)] at hc2
        clear hc
        by_cases ha : al a (j + 1) = true
        · rw [ha] at hc2
          simp only [Bool.true_and] at hc2
          unfold al at ha
          rcases orders j j0 (by omega) with rfl | rfl | rfl | rfl | rfl | rfl | rfl
          all_goals first | omega | skip
          all_goals
            simp only [Int.reduceAdd, pw1, pw2, pw3, pw4, pw5, pw6] at ha hc2
            clear j0 j6 h6
            go_wp2
            go_ret
            exact ⟨by rw [unhide HW]; rfl, rfl⟩
        · have ha2 : al a (j + 1) = false := by simpa using ha
          clear hc2 ha
          unfold al at ha2
          rcases orders j j0 (by omega) with rfl | rfl | rfl | rfl | rfl | rfl | rfl
          all_goals first | omega | skip
          all_goals
            simp only [Int.reduceAdd, pw1, pw2, pw3, pw4, pw5, pw6] at ha2
            clear j0 j6 h6
            go_wp2
            go_ret
            exact ⟨by rw [unhide HW]; rfl, rfl⟩
end Fr
end Go.Proofs.YtcbmfakjfoggaaaGreatDoor
namespace Go.Proofs.YtcbmfakjfoggaaaGreatDoor
open Go.RowKit
namespace Fr
theorem info36 : (Tryz.prog.info? 291).map (fun i => (i.zero, i.size, i.bytes)) = some (some (.agg #[.int .i64 0, .int .i64 0]), 2, 16) := by kernel_rfl
theorem own_row {w : World} {base e size : Nat} {v : Value} {n : Nat} {xs : List Value} (h : w.ownsRow base e size v n xs) : ∀ k, v.ownBlock = some k → base ≤ k := fun k hk => by
  rcases h.2 with ⟨rfl, _⟩ | ⟨g, cap, cur, rfl, hb, _⟩
  · simp [Value.ownBlock] at hk
  · simp [Value.ownBlock] at hk; omega

/-- What one more block does to what has been gathered. -/
theorem cov_step {w wr w1 : World} {b v' : Value} {D L : List (Int × Int)} {x t : Int} (hx : x < t) (hL : D ++ cv x (t - x) = L) (hown : wr.ownsRow w.heap.size 291 2 b D.length (flat D)) (hb : Below w.heap.size w wr)
    (hown' : w1.ownsRow w.heap.size 291 2 v' (D.length + 1) (flat D ++ [.int .i64 x, .int .i64 (wid x (t - x))])) {o : Obj} (hg : (wr.alloc o).grownBy w1 b.ownBlock) (_hn : v' = .slice none 0 0 ↔ b = .slice none 0 0 ∧ 1 = 0) :
    ((D ++ [(x, wid x (t - x))]) ++ cv (x + pw (wid x (t - x))) (t - (x + pw (wid x (t - x)))) = L) ∧ w1.ownsRow w.heap.size 291 2 v' (D ++ [(x, wid x (t - x))]).length (flat (D ++ [(x, wid x (t - x))])) ∧ Below w.heap.size w w1 ∧ (D ++ [(x, wid x (t - x))] = [] → v' = .slice none 0 0) := by
  refine ⟨?_, ?_, ?_, fun h => by simp at h⟩
  · rw [cv_cons x (t - x) (by omega)] at hL
    rw [show t - (x + pw (wid x (t - x))) = t - x - pw (wid x (t - x)) from by omega]
    simpa using hL
  · rw [flat_snoc]; simpa using hown'
  · exact (ballo hb o).grown hg (by have := hb.size; simp; omega) (own_row hown)

set_option maxHeartbeats 4000000 in
theorem cover_ok (a n : Int) (w : World) (h0 : 0 ≤ a) (hn : 0 ≤ n) (h2 : a + n ≤ 256) :
    Calls Tryz.prog 195 #[.int .i64 a, .int .i64 n] w fun ev w' => ∃ v, ev = .returned (.tuple #[v, .nilIface]) ∧ w'.ownsRow w.heap.size 291 2 v (cv a n).length (flat (cv a n)) ∧ Below w.heap.size w w' ∧ (cv a n = [] → v = .slice none 0 0) := by
  obtain ⟨i0, hi, hz0, hz1, hz2⟩ := info_parts info36
  have d1 : decide (a < 0) = false := by simp; omega
  have d2 : decide (256 < a) = false := by simp; omega
  have d3 : decide (n < 0) = false := by simp; omega
  have d4 : decide (256 - a < n) = false := by simp; omega
  have hlen : (cv a n).length ≤ 256 := by have := cv_length a n; omega
  have hat : a ≤ a + n := by omega
  have hL : [] ++ cv a (a + n - a) = cv a n := by rw [show a + n - a = n from by omega]; rfl
  generalize cv a n = L at *
  have HL := hide hL
  have HI := hide hi
  have HZ := hide hz0
  have HZ1 := hide hz1
  have HZ2 := hide hz2
  clear hL hi hz0 hz1 hz2
  go_enter Tryz.func195, Tryz.ntmps195
  go_wp2_with fail
  clear d1 d2 d3 d4
  generalize ht : a + n = t at *
  clear ht
  go_loopw [0, 6] (fun p b wr => ∃ (x : Int) (D : List (Int × Int)), p = .int .i64 x ∧ 0 ≤ x ∧ x ≤ t ∧ Hid (D ++ cv x (t - x) = L) ∧ wr.ownsRow w.heap.size 291 2 b D.length (flat D) ∧ Below w.heap.size w wr ∧ Hid (D = [] → b = .slice none 0 0)) (fun p _ _ => (t - intOf p).toNat)
  case atStart => exact ⟨a, [], rfl, h0, by omega, HL, World.ownsRow_nil _ _ _ _, Below.refl _ _, fun _ => rfl⟩
  case round =>
    obtain ⟨x, D, rfl, x0, xt, hD, hown, hb, hnil⟩ := hrel
    by_cases hlt : x < t
    · have hdl : D.length ≤ 256 := by
        have := congrArg List.length (unhide hD); simp at this; omega
      have hw := wid_facts x (t - x) (by omega)
      have hp := pw_pos (wid x (t - x))
      have hp2 := pw_le6 (wid x (t - x)) hw.1 hw.2.1
      have HW := hide (widest_ok x t)
      have HS := fun v' w1 o h1 h2 h3 => hide (cov_step (L := L) (v' := v') (w1 := w1) (o := o) hlt (unhide hD) hown hb h1 h2 h3)
      generalize wid x (t - x) = k at *
      have hpk : (2 : Int) ^ k.toNat = pw k := rfl
      obtain ⟨k0, k6, _, kr⟩ := hw
      generalize pw k = d at *
      go_wp2_with fail
      refine ((unhide HW) _ x0 hlt h2).mono ?_
      rintro ev w2 ⟨rfl, rfl⟩
      go_wp2_with (at_builtin; refine wpList_append_own _ rfl (.tmp 35) (.tmp 39) 322 rfl w.heap.size 291 i0 (.agg #[.int .i64 0, .int .i64 0]) 2 16 Tryz.underlying322 (unhide HI) (unhide HZ) (unhide HZ1) (unhide HZ2) rfl (by decide) _ _ _ rfl (hown.alloc _) ⟨w2.heap.size, 0, none⟩ 1 1 [.int .i64 x, .int .i64 k] rfl rfl ?c1 ?c2 ?c3 ?c4 ?c5 ?_)
      case c1 =>
        intro j u hj
        match j, hj with
        | 0, hj => simp at hj; subst hj; simp [Addr.add]
        | 1, hj => simp at hj; subst hj; simp [Addr.add]
      case c2 =>
        intro u hu
        simp at hu
        rcases hu with rfl | rfl <;> rfl
      case c3 => unfold maxLen; omega
      case c4 => omega
      case c5 => have := hb.size; simp; omega
      intro v' w1 hown' hgrow hnil'
      have R := hide ((unhide (HS v' w1 _ hown' hgrow (by simpa using hnil'))))
      clear hown' hgrow hnil' hown hb
      go_wp2_with fail
      go_roundw
      case rel =>
        have R := unhide R
        exact ⟨x + d, D ++ [(x, k)], rfl, by omega, by omega, R.1, R.2.1, R.2.2.1, R.2.2.2⟩
      case measure => simp [intOf]; omega
    · have hxt : x = t := by omega
      have hDL : D = L := by
        have := unhide hD
        rw [cv_nil _ _ (by omega)] at this
        simpa using this
      have hfin : wr.ownsRow w.heap.size 291 2 u6 L.length (flat L) ∧ (L = [] → u6 = .slice none 0 0) := by rw [← hDL]; exact ⟨hown, unhide hnil⟩
      have HF := hide hfin
      clear hfin hDL hown hnil hD
      go_wp2_with fail
      go_ret2
      exact ⟨_, rfl, (unhide HF).1, hb, (unhide HF).2⟩

end Fr
end Go.Proofs.YtcbmfakjfoggaaaGreatDoor
namespace Go.Proofs.YtcbmfakjfoggaaaGreatDoor
open Go.RowKit
namespace Fr

theorem bdrN {w w' : World} (h : Below w.heap.size w w') (n : Nat) : Below w.heap.size w (w'.drewN n) := h.trans ⟨rfl, rfl, rfl, Nat.le_refl _, fun _ _ => rfl⟩
end Fr
end Go.Proofs.YtcbmfakjfoggaaaGreatDoor
namespace Go.Proofs.YtcbmfakjfoggaaaGreatDoor
open Go.RowKit
namespace Fr

theorem al_rem (a k : Int) : (a % pw k != 0) = !al a k := by
  have h := pw_pos k
  unfold al
  generalize pw k = d at *
  have := Int.mul_ediv_add_emod a d
  have e : a / d * d = d * (a / d) := Int.mul_comm _ _
  rw [e]
  by_cases h0 : a % d = 0
  · rw [show d * (a / d) = a from by omega]; simp [h0]
  · have h1 : ¬ d * (a / d) = a := by omega
    have e1 : (a % d != 0) = true := by simpa using h0
    have e2 : (d * (a / d) == a) = false := by simpa using h1
    rw [e1, e2]; rfl

end Fr
end Go.Proofs.YtcbmfakjfoggaaaGreatDoor
