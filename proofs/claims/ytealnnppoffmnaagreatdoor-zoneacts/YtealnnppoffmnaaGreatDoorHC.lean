/- Package zone's Give, Low, Lack, Node, Order by contract · Package zone's Low, Lack, Node by contract. -/
import Derived.Test.YtealnnppoffmnaaGreatDoorGT
import Derived.Test.YtealnnppoffmnaaGreatDoorGR
import Derived.Test.YtealnnppoffmnaaGreatDoorGX
import Derived.BigQuiet
import Derived.Deep.RegionHeld3
import Derived.Test.YtealnnppoffmnaaGreatDoorGS
namespace Go.Proofs.YtealnnppoffmnaaGreatDoor
open Go.RowKit Go.Maps
namespace Dz
open Fr Bd Zn
set_option maxHeartbeats 2000000 in
theorem zgive_bad (z : Nat) (mn lw hi : Int) (k : Nat) (nb fm tm : Nat → Nat) (nd : Nat → Nd) (fr : Nat → List Nat) (x a o : Int) (w : World) (e : Nat → Addr) (he : Errs3 w e) (h : DZ w z mn lw hi k nb fm tm nd fr) (hx : ¬ (0 ≤ x ∧ x < k)) :
    Calls Tryz.prog 32 #[ptr z, plV x a o] w fun ev w' => ev = .returned (errV (e 1)) ∧ Below w.heap.size w w' := by
  have F1 := ballo (Below.refl w.heap.size w) (plO x a o)
  have H := has_ok z mn lw hi k nb fm tm nd fr x _ (h.b F1)
  rw [show decide (0 ≤ x ∧ x < k) = false by simpa using hx] at H
  have H := hide H
  have hE := (he.alloc (plO x a o)).bound
  clear h he hx
  unfold ptr errV plV plO at *
  go_enter Tryz.func32, Tryz.ntmps32
  go_wp2_with fail
  refine (unhide H).mono ?_
  rintro ev w' ⟨rfl, rfl⟩
  go_wp2_with fail
  go_ret
  exact ⟨rfl, F1⟩
theorem dgive_any (b fm tm : Nat) (d : Nd) (x : Bl) (w : World) (e : Nat → Addr) (he : Errs3 w e) (h : Bud w b fm tm d.N d.F d.T) (hok : d.ok) (hw : (Lit.int .i64 x.1).wf = true) :
    Calls Tryz.prog 14 #[ptr b, blkV x.1 x.2] w fun ev w' => ev = .returned (errC e (gaveE x d)) ∧ Bud w' b fm tm (gaveD x d).N (gaveD x d).F (gaveD x d).T ∧ Kept fm tm w w' := by
  unfold gaveD gaveE errC
  by_cases hx : x ∈ d.T
  · rw [if_pos hx, if_pos hx, if_pos rfl]
    exact give_ok b fm tm d.N d.F d.T x w e he h hok.2.2 hok.2.1 hx
  · rw [if_neg hx, if_neg hx, if_neg (by decide)]
    refine (give_err b fm tm d.N d.F d.T x w e he h hw hx).mono ?_
    rintro ev w' ⟨rfl, hb⟩
    exact ⟨rfl, h.b hb, kept_of hb⟩
set_option maxHeartbeats 4000000 in
theorem zgive_ok (z : Nat) (mn lw hi : Int) (k : Nat) (nb fm tm : Nat → Nat) (nd : Nat → Nd) (fr : Nat → List Nat) (x : Nat) (a o : Int) (w : World) (e : Nat → Addr) (he : Errs3 w e) (h : DZ w z mn lw hi k nb fm tm nd fr) (hx : x < k) (hw : (Lit.int .i64 a).wf = true) :
    Calls Tryz.prog 32 #[ptr z, plV x a o] w fun ev w' => ev = .returned (errC e (gaveE (a, o) (nd x))) ∧ DZ w' z mn lw hi k nb fm tm (up nd x (gaveD (a, o) (nd x))) fr ∧ Kept (fm x) (tm x) w w' := by
  have F1 := ballo (Below.refl w.heap.size w) (plO x a o)
  have D1 := h.b F1
  have H1 := has_ok z mn lw hi k nb fm tm nd fr x _ D1
  rw [show decide ((0 : Int) ≤ (x : Int) ∧ (x : Int) < k) = true by simp; omega] at H1
  have H1 := hide H1
  obtain ⟨g, c, e1, hg, e2⟩ := D1.node hx
  have hzl := D1.lt
  have q0 := World.cell?_alloc_new w #[.int .i64 (x : Int), .int .i64 a, .int .i64 o] 60 0
  have q1 := World.cell?_alloc_new w #[.int .i64 (x : Int), .int .i64 a, .int .i64 o] 60 1
  have q2 := World.cell?_alloc_new w #[.int .i64 (x : Int), .int .i64 a, .int .i64 o] 60 2
  simp only [List.getElem?_toArray, List.getElem?_cons_zero, List.getElem?_cons_succ] at q0 q1 q2
  have HG := hide (fun w1 (hb : Below (w.alloc (plO x a o)).heap.size (w.alloc (plO x a o)) w1) => dgive_any (nb x) (fm x) (tm x) (nd x) (a, o) w1 e ((he.alloc (plO x a o)).below hb) ((D1.bd x hx).b hb) (h.ok x hx) hw)
  have HT := hide (fun w1 (hb : Below (w.alloc (plO x a o)).heap.size (w.alloc (plO x a o)) w1) w' hk hd => (D1.b hb).turn hx (w' := w') hk (d := gaveD (a, o) (nd x)) hd (gave_ok (h.ok x hx)))
  have hK : Kept (fm x) (tm x) w (w.alloc (plO x a o)) := kept_of F1
  clear h he D1 F1
  have hlt : (x : Int) < k := by omega
  have hge : (0 : Int) ≤ x := by omega
  generalize gaveD (a, o) (nd x) = d' at *
  generalize errC e (gaveE (a, o) (nd x)) = e' at *
  generalize nb x = y at *
  unfold ptr plV plO blkV at *
  go_enter Tryz.func32, Tryz.ntmps32
  go_wp2_with fail
  refine (unhide H1).mono ?_
  rintro ev w3 ⟨rfl, rfl⟩
  generalize w.alloc (.cells #[.int .i64 (x : Int), .int .i64 a, .int .i64 o] 60) = W at *
  clear H1
  go_wp2_with fail
  go_region_with ((go_at_call 14; refine ((unhide HG) _ (drw W)).mono ?_; rintro ev w4 ⟨rfl, hd, k4⟩))
  all_goals
    have R4 := (unhide HT) _ (drw W) w4 k4 hd
    have C4 := (hK.trans (kept_of (drw W))).trans k4
    clear HG HT hK hd k4
    go_wp2
    go_ret
    exact ⟨rfl, R4, C4⟩
end Dz
end Go.Proofs.YtealnnppoffmnaaGreatDoor
namespace Go.Proofs.YtealnnppoffmnaaGreatDoor
open Go.RowKit Go.Maps
namespace Dz
open Fr Bd Zn
theorem free1' (b fm tm : Nat) (N : Int) (F T : List Bl) (w : World) (h : Bud w b fm tm N F T) :
    Calls Tryz.prog 63 #[.pointer (some ⟨b, 0, none⟩)] w fun ev w' => ev = .returned (.int .i64 (pgs F)) ∧ Below w.heap.size w w' := by
  have H := free1_ok b fm tm N F T w h
  simp only [Array.append_empty] at H
  exact H
set_option maxHeartbeats 2000000 in
theorem low1_ok (b fm tm bx z : Nat) (lw N : Int) (F T : List Bl) (w : World) (h : Bud w b fm tm N F T) (c0 : w.cell? ⟨bx, 0, none⟩ = some (ptr z)) (c1 : w.cell? ⟨z, 1, none⟩ = some (.int .i64 lw)) :
    Calls Tryz.prog 98 (#[ptr b] ++ #[ptr bx]) w fun ev w' => ev = .returned (.bool (decide (pgs F < lw))) ∧ Below w.heap.size w w' := by
  have HF := hide (fun w1 (hb : Below w.heap.size w w1) => free1' b fm tm N F T w1 (h.b hb))
  have l0 := World.block_lt_of_cell? w _ c0
  have l1 := World.block_lt_of_cell? w _ c1
  have HK := hide (fun w1 (hb : Below w.heap.size w w1) => (⟨(hb.cell (p := ⟨bx, 0, none⟩) l0).trans c0, (hb.cell (p := ⟨z, 1, none⟩) l1).trans c1⟩ : w1.cell? ⟨bx, 0, none⟩ = some (ptr z) ∧ w1.cell? ⟨z, 1, none⟩ = some (.int .i64 lw)))
  clear h
  generalize pgs F = q at *
  unfold ptr at *
  rw [show (#[Value.pointer (some ⟨b, 0, none⟩)] ++ #[Value.pointer (some ⟨bx, 0, none⟩)] : Array Value) = #[.pointer (some ⟨b, 0, none⟩), .pointer (some ⟨bx, 0, none⟩)] from rfl]
  go_enter Tryz.func98, Tryz.ntmps98
  go_wp2_with fail
  go_region_held3 (fun w' => w'.cell? ⟨bx, 0, none⟩ = some (.pointer (some ⟨z, 0, none⟩)) ∧ w'.cell? ⟨z, 1, none⟩ = some (.int .i64 lw)) ((first | (go_keep; done) | (exact (unhide HK) _ (by assumption)))) ((go_at_call 63; refine ((unhide HF) _ (drw w)).mono ?_; rintro ev w3 ⟨rfl, b3⟩; have f3 : Below w.heap.size w w3 := bd b3))
  go_wp2
  go_ret
  exact ⟨rfl, f3⟩
set_option maxHeartbeats 2000000 in
theorem lack1_ok (b fm tm bx z : Nat) (hi N : Int) (F T : List Bl) (w : World) (h : Bud w b fm tm N F T) (hq : 0 ≤ pgs F ∧ pgs F ≤ 16384) (h0 : 0 ≤ hi) (h1 : hi ≤ 9223372036854775807) (c0 : w.cell? ⟨bx, 0, none⟩ = some (ptr z)) (c1 : w.cell? ⟨z, 2, none⟩ = some (.int .i64 hi)) :
    Calls Tryz.prog 99 (#[ptr b] ++ #[ptr bx]) w fun ev w' => ev = .returned (.int .i64 (if hi - pgs F < 0 then 0 else hi - pgs F)) ∧ Below w.heap.size w w' := by
  have HF := hide (fun w1 (hb : Below w.heap.size w w1) => free1' b fm tm N F T w1 (h.b hb))
  have l0 := World.block_lt_of_cell? w _ c0
  have l1 := World.block_lt_of_cell? w _ c1
  have HK := hide (fun w1 (hb : Below w.heap.size w w1) => (⟨(hb.cell (p := ⟨bx, 0, none⟩) l0).trans c0, (hb.cell (p := ⟨z, 2, none⟩) l1).trans c1⟩ : w1.cell? ⟨bx, 0, none⟩ = some (ptr z) ∧ w1.cell? ⟨z, 2, none⟩ = some (.int .i64 hi)))
  clear h
  generalize pgs F = q at *
  have hwr : IntKind.i64.wrap (hi - q) = hi - q := IntWalk.i64_in _ (by omega)
  have hmx : max (0 : Int) (hi - q) = if hi - q < 0 then 0 else hi - q := by split <;> omega
  generalize (if hi - q < 0 then 0 else hi - q) = r at *
  unfold ptr at *
  rw [show (#[Value.pointer (some ⟨b, 0, none⟩)] ++ #[Value.pointer (some ⟨bx, 0, none⟩)] : Array Value) = #[.pointer (some ⟨b, 0, none⟩), .pointer (some ⟨bx, 0, none⟩)] from rfl]
  go_enter Tryz.func99, Tryz.ntmps99
  go_wp2_with fail
  go_region_held3 (fun w' => w'.cell? ⟨bx, 0, none⟩ = some (.pointer (some ⟨z, 0, none⟩)) ∧ w'.cell? ⟨z, 2, none⟩ = some (.int .i64 hi)) ((first | (go_keep; done) | (exact (unhide HK) _ (by assumption)))) ((go_at_call 63; refine ((unhide HF) _ (drw w)).mono ?_; rintro ev w3 ⟨rfl, b3⟩; have f3 : Below w.heap.size w w3 := bd b3))
  go_wp2
  go_ret
  exact ⟨rfl, f3⟩
theorem ptr_box (w : World) (z t : Nat) : (w.alloc (.cells #[ptr z] t)).cell? ⟨w.heap.size, 0, none⟩ = some (ptr z) := World.cell?_alloc_new w #[ptr z] t 0
set_option maxHeartbeats 2000000 in
theorem zlow_bad (z : Nat) (mn lw hi : Int) (k : Nat) (nb fm tm : Nat → Nat) (nd : Nat → Nd) (fr : Nat → List Nat) (x : Int) (w : World) (e : Nat → Addr) (he : Errs3 w e) (h : DZ w z mn lw hi k nb fm tm nd fr) (hx : ¬ (0 ≤ x ∧ x < k)) :
    Calls Tryz.prog 73 #[ptr z, .int .i64 x] w fun ev w' => ev = .returned (.tuple #[.bool false, errV (e 1)]) ∧ Below w.heap.size w w' := by
  have F1 := ballo (Below.refl w.heap.size w) (.cells #[ptr z] 54)
  have H := hide (ask_bad_bool z mn lw hi k nb fm tm nd fr x (.func (.func 98) #[] #[ptr w.heap.size]) _ e (he.below F1) (h.b F1) hx)
  have q := ptr_box w z 54
  clear h he hx
  unfold ptr errV at *
  go_enter Tryz.func73, Tryz.ntmps73
  go_wp2_with fail
  refine (unhide H).mono ?_
  rintro ev w' ⟨rfl, hb⟩
  have F2 := btr F1 hb
  go_wp2_with fail
  go_ret2
  exact ⟨rfl, F2⟩
set_option maxHeartbeats 2000000 in
theorem zlow_ok (z : Nat) (mn lw hi : Int) (k : Nat) (nb fm tm : Nat → Nat) (nd : Nat → Nd) (fr : Nat → List Nat) (x : Nat) (w : World) (h : DZ w z mn lw hi k nb fm tm nd fr) (hx : x < k) :
    Calls Tryz.prog 73 #[ptr z, .int .i64 x] w fun ev w' => ev = .returned (.tuple #[.bool (decide (pgs (nd x).F < lw)), .nilIface]) ∧ Below w.heap.size w w' := by
  have F1 := ballo (Below.refl w.heap.size w) (.cells #[ptr z] 54)
  have D1 := h.b F1
  have q := ptr_box w z 54
  have H := hide (ask_bool z mn lw hi k nb fm tm nd fr x 98 #[ptr w.heap.size] eg98 (fun r _ => r = .bool (decide (pgs (nd x).F < lw))) _ D1 hx ((low1_ok _ _ _ _ z lw _ _ _ _ (D1.bd x hx) q D1.m1).mono fun ev w' hh => ⟨_, hh.1, rfl, hh.2⟩))
  clear h hx D1
  generalize decide (pgs (nd x).F < lw) = v at *
  unfold ptr at *
  go_enter Tryz.func73, Tryz.ntmps73
  go_wp2_with fail
  refine (unhide H).mono ?_
  rintro ev w' ⟨r, rfl, rfl, hb⟩
  have F2 := btr F1 hb
  go_wp2_with fail
  go_ret2
  exact ⟨rfl, F2⟩
set_option maxHeartbeats 2000000 in
theorem zlack_bad (z : Nat) (mn lw hi : Int) (k : Nat) (nb fm tm : Nat → Nat) (nd : Nat → Nd) (fr : Nat → List Nat) (x : Int) (w : World) (e : Nat → Addr) (he : Errs3 w e) (h : DZ w z mn lw hi k nb fm tm nd fr) (hx : ¬ (0 ≤ x ∧ x < k)) :
    Calls Tryz.prog 74 #[ptr z, .int .i64 x] w fun ev w' => ev = .returned (.tuple #[.int .i64 0, errV (e 1)]) ∧ Below w.heap.size w w' := by
  have F1 := ballo (Below.refl w.heap.size w) (.cells #[ptr z] 54)
  have H := hide (ask_bad_int z mn lw hi k nb fm tm nd fr x (.func (.func 99) #[] #[ptr w.heap.size]) _ e (he.below F1) (h.b F1) hx)
  have q := ptr_box w z 54
  clear h he hx
  unfold ptr errV at *
  go_enter Tryz.func74, Tryz.ntmps74
  go_wp2_with fail
  refine (unhide H).mono ?_
  rintro ev w' ⟨rfl, hb⟩
  have F2 := btr F1 hb
  go_wp2_with fail
  go_ret2
  exact ⟨rfl, F2⟩
set_option maxHeartbeats 2000000 in
theorem zlack_ok (z : Nat) (mn lw hi : Int) (k : Nat) (nb fm tm : Nat → Nat) (nd : Nat → Nd) (fr : Nat → List Nat) (x : Nat) (w : World) (h : DZ w z mn lw hi k nb fm tm nd fr) (hx : x < k) (h0 : 0 ≤ hi) (h1 : hi ≤ 9223372036854775807) :
    Calls Tryz.prog 74 #[ptr z, .int .i64 x] w fun ev w' => ev = .returned (.tuple #[.int .i64 (if hi - pgs (nd x).F < 0 then 0 else hi - pgs (nd x).F), .nilIface]) ∧ Below w.heap.size w w' := by
  have F1 := ballo (Below.refl w.heap.size w) (.cells #[ptr z] 54)
  have D1 := h.b F1
  have q := ptr_box w z 54
  have hl := nd_len (h.ok x hx)
  have hp := pgs_bd hl.2.2
  have hb2 : 0 ≤ pgs (nd x).F ∧ pgs (nd x).F ≤ 16384 := by omega
  have H := hide (ask_int z mn lw hi k nb fm tm nd fr x 99 #[ptr w.heap.size] eg99 (fun r _ => r = .int .i64 (if hi - pgs (nd x).F < 0 then 0 else hi - pgs (nd x).F)) _ D1 hx ((lack1_ok _ _ _ _ z hi _ _ _ _ (D1.bd x hx) hb2 h0 h1 q D1.m2).mono fun ev w' hh => ⟨_, hh.1, rfl, hh.2⟩))
  clear h hx D1 hb2 hp hl
  generalize (if hi - pgs (nd x).F < 0 then 0 else hi - pgs (nd x).F) = v at *
  unfold ptr at *
  go_enter Tryz.func74, Tryz.ntmps74
  go_wp2_with fail
  refine (unhide H).mono ?_
  rintro ev w' ⟨r, rfl, rfl, hb⟩
  have F2 := btr F1 hb
  go_wp2_with fail
  go_ret2
  exact ⟨rfl, F2⟩
set_option maxHeartbeats 2000000 in
theorem node1_ok (b fm tm : Nat) (N : Int) (F T : List Bl) (w : World) (h : Bud w b fm tm N F T) :
    Calls Tryz.prog 101 (#[ptr b] ++ #[]) w fun ev w' => ∃ c fm' tm', ev = .returned (ptr c) ∧ Bud w' c fm' tm' N F T ∧ Below w.heap.size w w' := by
  have H := hide ((copy_ok b fm tm N F T w h).mono (fun ev w' hh => show ∃ c, ev = .returned (ptr c) ∧ (∃ fm' tm', Bud w' c fm' tm' N F T) ∧ Below w.heap.size w w' from by obtain ⟨c, f', t', h1, h2, _, _, _, h3⟩ := hh; exact ⟨c, h1, ⟨f', t', h2⟩, h3⟩))
  clear h
  unfold ptr at *
  rw [Array.append_empty]
  go_enter Tryz.func101, Tryz.ntmps101
  go_wp2_with fail
  refine (unhide H).mono ?_
  rintro ev w' ⟨c, rfl, hbb, hb⟩
  go_wp2_with fail
  go_ret
  obtain ⟨f', t', hbb⟩ := hbb
  exact ⟨c, f', t', rfl, hbb, hb⟩
set_option maxHeartbeats 2000000 in
theorem znode_bad (z : Nat) (mn lw hi : Int) (k : Nat) (nb fm tm : Nat → Nat) (nd : Nat → Nd) (fr : Nat → List Nat) (x : Int) (w : World) (e : Nat → Addr) (he : Errs3 w e) (h : DZ w z mn lw hi k nb fm tm nd fr) (hx : ¬ (0 ≤ x ∧ x < k)) :
    Calls Tryz.prog 75 #[ptr z, .int .i64 x] w fun ev w' => ev = .returned (.tuple #[.pointer none, errV (e 1)]) ∧ Below w.heap.size w w' := by
  have H := hide (ask_bad_ptr z mn lw hi k nb fm tm nd fr x (.func (.func 101) #[] #[]) _ e he h hx)
  clear h he hx
  unfold ptr errV at *
  go_enter Tryz.func75, Tryz.ntmps75
  go_wp2_with fail
  refine (unhide H).mono ?_
  rintro ev w' ⟨rfl, hb⟩
  go_wp2_with fail
  go_ret2
  exact ⟨rfl, hb⟩
set_option maxHeartbeats 2000000 in
theorem znode_ok (z : Nat) (mn lw hi : Int) (k : Nat) (nb fm tm : Nat → Nat) (nd : Nat → Nd) (fr : Nat → List Nat) (x : Nat) (w : World) (h : DZ w z mn lw hi k nb fm tm nd fr) (hx : x < k) :
    Calls Tryz.prog 75 #[ptr z, .int .i64 x] w fun ev w' => ∃ c fm' tm', ev = .returned (.tuple #[ptr c, .nilIface]) ∧ Bud w' c fm' tm' (nd x).N (nd x).F (nd x).T ∧ Below w.heap.size w w' := by
  have H := hide ((ask_ptr z mn lw hi k nb fm tm nd fr x 101 #[] eg101 (fun r w' => ∃ c fm' tm', r = ptr c ∧ Bud w' c fm' tm' (nd x).N (nd x).F (nd x).T) w h hx ((node1_ok _ _ _ _ _ _ w (h.bd x hx)).mono fun ev w' hh => by obtain ⟨c, f', t', h1, h2, h3⟩ := hh; exact ⟨_, h1, ⟨c, f', t', rfl, h2⟩, h3⟩)).mono (fun ev w' hh => show ∃ c, ev = .returned (.tuple #[ptr c, .nilIface]) ∧ (∃ fm' tm', Bud w' c fm' tm' (nd x).N (nd x).F (nd x).T) ∧ Below w.heap.size w w' from by obtain ⟨r, h1, ⟨c, f', t', rfl, h2⟩, h3⟩ := hh; exact ⟨c, h1, ⟨f', t', h2⟩, h3⟩))
  clear h hx
  unfold ptr at *
  go_enter Tryz.func75, Tryz.ntmps75
  go_wp2_with fail
  refine (unhide H).mono ?_
  rintro ev w' ⟨c, rfl, hbb, hb⟩
  go_wp2_with fail
  go_ret2
  obtain ⟨f', t', hbb⟩ := hbb
  exact ⟨c, f', t', rfl, hbb, hb⟩
end Dz
end Go.Proofs.YtealnnppoffmnaaGreatDoor
