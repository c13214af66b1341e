/- R9 · V5. -/
import Derived.Test.YtfefehkapffljaaGreatDoorGJ
import Derived.Test.YtfefehkapffljaaGreatDoorGD
import Derived.Test.YtfefehkapffljaaGreatDoorGM
import Derived.Test.YtfefehkapffljaaGreatDoorGR
import Derived.Test.YtfefehkapffljaaGreatDoorGF
import Derived.Laws.EntriesVeiled
import Derived.BigQuiet
import Derived.Deep.RegionHeld3
namespace Go.Proofs.YtfefehkapffljaaGreatDoor
open Go.RowKit Go.Maps
attribute [local go_sem ↓] Go.wp_at_zero Go.wp_at_succ
namespace Bd
open Fr
theorem clone_ok (m : Nat) (L : List Bl) (w : World) (h : Mp w m L) :
   Calls Tryz.prog 178 #[.map (some m)] w fun ev w' => ev = .returned (.map (some w.heap.size)) ∧ Mp w' w.heap.size L ∧ w.heap.size < w'.heap.size ∧ Below w.heap.size w w' := by
 refine (AnyW.maps_Clone_owns cloneA 3 (plainElem Tryz.prog 3) m L.length (dOf L) w h.own).mono ?_
 rintro ev w' ⟨rfl, h1, _, hb⟩
 exact ⟨rfl, ⟨h1, h.srt, h.rng⟩, h1.lt, hb⟩
set_option maxRecDepth 100000 in
set_option maxHeartbeats 8000000 in
theorem copy_ok (b fm tm : Nat) (N : Int) (F T : List Bl) (w : World) (h : Bud w b fm tm N F T) :
   Calls Tryz.prog 143 #[ptr b] w fun ev w' => ∃ c fm' tm', ev = .returned (ptr c) ∧ Bud w' c fm' tm' N F T ∧ w.heap.size ≤ c ∧ w.heap.size ≤ fm' ∧ w.heap.size ≤ tm' ∧ Below w.heap.size w w' := by
 have hq : ∀ x : Nat, ptr x = .pointer (some ⟨x, 0, none⟩) := fun _ => rfl
 have e0 := h.c0
 have e1 := h.c1
 have e2 := h.c2
 have hbl := h.lt
 have KC := hide (fun w1 (hb : Below w.heap.size w w1) => (⟨(hb.cell (p := ⟨b, 0, none⟩) hbl).trans e0, (hb.cell (p := ⟨b, 1, none⟩) hbl).trans e1, (hb.cell (p := ⟨b, 2, none⟩) hbl).trans e2⟩ : w1.cell? ⟨b, 0, none⟩ = some (.int .i64 N) ∧ w1.cell? ⟨b, 1, none⟩ = some (.map (some fm)) ∧ w1.cell? ⟨b, 2, none⟩ = some (.map (some tm))))
 have HF := hide (fun w1 (hb : Below w.heap.size w w1) => clone_ok fm F w1 (h.f.b hb))
 have HT := hide (fun w1 (hb : Below w.heap.size w w1) => clone_ok tm T w1 (h.t.b hb))
 have hne : fm ≠ tm := h.n3
 clear h e0 e1 e2
 have K0 := (unhide KC) w.drew (drw w)
 rw [hq b]
 go_enter Tryz.func143, Tryz.ntmps143
 go_wp2_with fail
 have tk1 : True := trivial
 go_region_held3 (fun w' => w'.cell? ⟨b, 0, none⟩ = some (.int .i64 N) ∧ w'.cell? ⟨b, 1, none⟩ = some (.map (some fm)) ∧ w'.cell? ⟨b, 2, none⟩ = some (.map (some tm))) ((first | (go_keep; done) | (exact (unhide KC) _ (by assumption)) | (exact (unhide KC) _ (ballo f4 _)))) ((first
   | (go_at_call 178; have _t := tk1; refine ((unhide HF) _ (drw w)).mono ?_; rintro ev w3 ⟨rfl, m3, l3, b3⟩; have f3 : Below w.heap.size w w3 := bd b3; clear tk1)
   | (go_at_call 178; refine ((unhide HT) w3 f3).mono ?_; rintro ev w4 ⟨rfl, m4, l4, b4⟩; have f4 : Below w.heap.size w w4 := fwd f3 f3.size b4)))
 have F5 := ballo f4 (.cells #[.int .i64 N, .map (some w.heap.size), .map (some w3.heap.size)] 188)
 have q0 := World.cell?_alloc_new w4 #[.int .i64 N, .map (some w.heap.size), .map (some w3.heap.size)] 188 0
 have q1 := World.cell?_alloc_new w4 #[.int .i64 N, .map (some w.heap.size), .map (some w3.heap.size)] 188 1
 have q2 := World.cell?_alloc_new w4 #[.int .i64 N, .map (some w.heap.size), .map (some w3.heap.size)] 188 2
 have s3 := f3.size
 have s4 := f4.size
 have l3' : w.heap.size < w3.heap.size := l3
 have l4' : w3.heap.size < w4.heap.size := l4
 have M3 : Mp w4 w.heap.size F := Mp.b m3 b4
 have M4 : Mp w4 w3.heap.size T := m4
 have BD : Bud (w4.alloc (.cells #[.int .i64 N, .map (some w.heap.size), .map (some w3.heap.size)] 188)) w4.heap.size w.heap.size w3.heap.size N F T := ⟨q0, q1, q2, M3.a _, M4.a _, by omega, by omega, by omega, by simp⟩
 go_wp2
 go_ret
 exact ⟨w4.heap.size, w.heap.size, w3.heap.size, rfl, BD, by omega, Nat.le_refl _, by omega, F5⟩
end Bd
end Go.Proofs.YtfefehkapffljaaGreatDoor
namespace Go.Proofs.YtfefehkapffljaaGreatDoor
open Go.RowKit Go.Maps
namespace Dz
open Fr Bd Zn
theorem own_turn {w w' : World} {A B b e size n : Nat} {v : Value} {xs : List Value} {LA LB : List Bl} (h : w.ownsRow b e size v n xs) (hA : Mp w A LA) (hB : Mp w B LB) (hk : Kept A B w w') : w'.ownsRow b e size v n xs := by
 have hl := h.lt
 refine ⟨h.1, ?_⟩
 rcases h.2 with h2 | ⟨g, cap, cur, rfl, h2, h3, h4⟩
 · exact Or.inl h2
 · have ne : ∀ C LC, Mp w C LC → g ≠ C := fun C LC hC e => by
     obtain ⟨⟨es, clock, h1, _⟩, _, _⟩ := hC
     rw [← e, h3] at h1
     cases h1
   exact Or.inr ⟨g, cap, cur, rfl, h2, (hk.block g (hl g rfl).2 (ne A LA hA) (ne B LB hB)).trans h3, h4⟩
structure DZ (w : World) (z : Nat) (mn lw hi : Int) (k : Nat) (nb fm tm : Nat → Nat) (nd : Nat → Nd) (fr : Nat → List Nat) : Prop where
 m0 : w.cell? ⟨z, 0, none⟩ = some (.int .i64 mn)
 m1 : w.cell? ⟨z, 1, none⟩ = some (.int .i64 lw)
 m2 : w.cell? ⟨z, 2, none⟩ = some (.int .i64 hi)
 cn : ∃ g c, w.cell? ⟨z, 3, none⟩ = some (.slice (some ⟨g, 0, none⟩) k c) ∧ w.ownsRow 0 107 1 (.slice (some ⟨g, 0, none⟩) k c) k (ptrs k nb)
 cf : ∃ g c rows, w.cell? ⟨z, 4, none⟩ = some (.slice (some ⟨g, 0, none⟩) k c) ∧ w.ownsRow 0 22 1 (.slice (some ⟨g, 0, none⟩) k c) k rows ∧ ∀ i, i < k → ∃ h d, rows[i]? = some (.slice (some ⟨h, 0, none⟩) k d) ∧ w.ownsRow 0 3 1 (.slice (some ⟨h, 0, none⟩) k d) k (ivs (fr i))
 lt : z < w.heap.size
 bd : ∀ i, i < k → Bud w (nb i) (fm i) (tm i) (nd i).N (nd i).F (nd i).T
 ok : ∀ i, i < k → (nd i).ok
 ne : ∀ i j, i < k → j < k → i ≠ j → fm i ≠ fm j ∧ tm i ≠ tm j ∧ fm i ≠ tm j
 fl : ∀ i, i < k → (fr i).length = k ∧ ∀ j ∈ fr i, j < k
 tz : Tag w z 106
 tb : ∀ i, i < k → Tag w (nb i) 188
theorem DZ.b {w w' : World} {z : Nat} {mn lw hi : Int} {k : Nat} {nb fm tm : Nat → Nat} {nd : Nat → Nd} {fr : Nat → List Nat} (h : DZ w z mn lw hi k nb fm tm nd fr) (hb : Below w.heap.size w w') : DZ w' z mn lw hi k nb fm tm nd fr := by
 have hl := h.lt
 obtain ⟨g, c, e1, o1⟩ := h.cn
 obtain ⟨g2, c2, rows, e2, o2, r2⟩ := h.cf
 refine ⟨(hb.cell (p := ⟨z, 0, none⟩) hl).trans h.m0, (hb.cell (p := ⟨z, 1, none⟩) hl).trans h.m1, (hb.cell (p := ⟨z, 2, none⟩) hl).trans h.m2, ⟨g, c, (hb.cell (p := ⟨z, 3, none⟩) hl).trans e1, own_b o1 hb⟩, ⟨g2, c2, rows, (hb.cell (p := ⟨z, 4, none⟩) hl).trans e2, own_b o2 hb, fun i hi => ?_⟩, Nat.lt_of_lt_of_le hl hb.size, fun i hi => (h.bd i hi).b hb, h.ok, h.ne, h.fl, h.tz.b hb, fun i hi => (h.tb i hi).b hb⟩
 obtain ⟨h', d, e3, o3⟩ := r2 i hi
 exact ⟨h', d, e3, own_b o3 hb⟩
theorem DZ.turn {w w' : World} {z : Nat} {mn lw hi : Int} {k : Nat} {nb fm tm : Nat → Nat} {nd : Nat → Nd} {fr : Nat → List Nat} (h : DZ w z mn lw hi k nb fm tm nd fr) {x : Nat} (hx : x < k) (hk : Kept (fm x) (tm x) w w') {d : Nd} (hd : Bud w' (nb x) (fm x) (tm x) d.N d.F d.T) (hok : d.ok) : DZ w' z mn lw hi k nb fm tm (up nd x d) fr := by
 have hF := (h.bd x hx).f
 have hT := (h.bd x hx).t
 obtain ⟨g, c, e1, o1⟩ := h.cn
 obtain ⟨g2, c2, rows, e2, o2, r2⟩ := h.cf
 refine ⟨cell_kept h.m0 hF hT hk, cell_kept h.m1 hF hT hk, cell_kept h.m2 hF hT hk, ⟨g, c, cell_kept e1 hF hT hk, own_turn o1 hF hT hk⟩, ⟨g2, c2, rows, cell_kept e2 hF hT hk, own_turn o2 hF hT hk, fun i hi => ?_⟩, Nat.lt_of_lt_of_le h.lt hk.size, fun i hi => ?_, fun i hi => ?_, h.ne, h.fl, h.tz.blk (hk.block z h.lt (ne_map h.m0 hF) (ne_map h.m0 hT)), fun i hi => (h.tb i hi).blk (hk.block _ (h.bd i hi).lt (ne_map (h.bd i hi).c0 hF) (ne_map (h.bd i hi).c0 hT))⟩
 · obtain ⟨h', d', e3, o3⟩ := r2 i hi
   exact ⟨h', d', e3, own_turn o3 hF hT hk⟩
 · by_cases e : i = x
   · subst e; rw [up_at]; exact hd
   · rw [up_ne _ _ e]
     have hbi := h.bd i hi
     have n1 := h.ne i x hi hx e
     have n2 := h.ne x i hx hi (Ne.symm e)
     exact hbi.blk hk.size (hk.block _ hbi.lt (ne_map hbi.c0 hF) (ne_map hbi.c0 hT)) (hk.block _ hbi.f.lt n1.1 n1.2.2) (hk.block _ hbi.t.lt (Ne.symm n2.2.2) n1.2.1)
 · by_cases e : i = x
   · subst e; rw [up_at]; exact hok
   · rw [up_ne _ _ e]; exact h.ok i hi
theorem DZ.node {w : World} {z : Nat} {mn lw hi : Int} {k : Nat} {nb fm tm : Nat → Nat} {nd : Nat → Nd} {fr : Nat → List Nat} (h : DZ w z mn lw hi k nb fm tm nd fr) {x : Nat} (hx : x < k) : ∃ g c, w.cell? ⟨z, 3, none⟩ = some (.slice (some ⟨g, 0, none⟩) k c) ∧ g < w.heap.size ∧ w.cell? ⟨g, x, none⟩ = some (ptr (nb x)) := by
 obtain ⟨g, c, e1, o1⟩ := h.cn
 exact ⟨g, c, e1, (o1.lt g rfl).2, (o1.cellAt x (by omega)).trans (ptrs_at hx)⟩
theorem DZ.from {w : World} {z : Nat} {mn lw hi : Int} {k : Nat} {nb fm tm : Nat → Nat} {nd : Nat → Nd} {fr : Nat → List Nat} (h : DZ w z mn lw hi k nb fm tm nd fr) {x : Nat} (hx : x < k) : ∃ g c h' d, w.cell? ⟨z, 4, none⟩ = some (.slice (some ⟨g, 0, none⟩) k c) ∧ w.cell? ⟨g, x, none⟩ = some (.slice (some ⟨h', 0, none⟩) k d) ∧ h' < w.heap.size ∧ ∀ j, j < k → w.cell? ⟨h', j, none⟩ = some (.int .i64 (((fr x).getD j 0 : Nat) : Int)) := by
 obtain ⟨g2, c2, rows, e2, o2, r2⟩ := h.cf
 obtain ⟨h', d, e3, o3⟩ := r2 x hx
 refine ⟨g2, c2, h', d, e2, (o2.cellAt x (by omega)).trans e3, (o3.lt h' rfl).2, fun j hj => ?_⟩
 rw [o3.cellAt j (by omega)]
 have hl := (h.fl x hx).1
 simp [ivs, List.getElem?_eq_getElem (show j < (fr x).length by omega), List.getD_eq_getElem?_getD]
set_option maxHeartbeats 2000000 in
theorem has_ok (z : Nat) (mn lw hi : Int) (k : Nat) (nb fm tm : Nat → Nat) (nd : Nat → Nd) (fr : Nat → List Nat) (x : Int) (w : World) (h : DZ w z mn lw hi k nb fm tm nd fr) :
   Calls Tryz.prog 70 #[ptr z, .int .i64 x] w fun ev w' => ev = .returned (.bool (decide (0 ≤ x ∧ x < k))) ∧ w' = w := by
 obtain ⟨g, c, e1, o1⟩ := h.cn
 clear h o1
 unfold ptr
 by_cases h0 : 0 ≤ x
 · have d0 : decide (0 ≤ x) = true := by simpa using h0
   have dd : decide (0 ≤ x ∧ x < k) = decide (x < k) := by simp [h0]
   rw [dd]
   go_enter Tryz.func70, Tryz.ntmps70
   go_wp2
   go_ret
   exact ⟨rfl, rfl⟩
 · have d0 : decide (0 ≤ x) = false := by simpa using h0
   have dd : decide (0 ≤ x ∧ x < k) = false := by simp [h0]
   rw [dd]
   go_enter Tryz.func70, Tryz.ntmps70
   go_wp2
   go_ret
   exact ⟨rfl, rfl⟩
theorem free1_ok (b fm tm : Nat) (N : Int) (F T : List Bl) (w : World) (h : Bud w b fm tm N F T) :
   Calls Tryz.prog 63 (#[ptr b] ++ #[]) w fun ev w' => ev = .returned (.int .i64 (pgs F)) ∧ Below w.heap.size w w' := by
 have H := hide (pages_free b fm tm N F T w h)
 clear h
 unfold ptr at *
 simp only [Array.append_empty]
 go_enter Tryz.func63, Tryz.ntmps63
 go_wp2_with fail
 refine (unhide H).mono ?_
 rintro ev w' ⟨rfl, hb⟩
 go_wp2_with fail
 go_ret
 exact ⟨rfl, hb⟩
theorem eg63 : ∀ args w, (callFunc 63 args).run Tryz.prog w = .ok (.enter 63 args) w := enters_of Tryz.func63 (by kernel_rfl) rfl
theorem eg98 : ∀ args w, (callFunc 139 args).run Tryz.prog w = .ok (.enter 139 args) w := enters_of Tryz.func139 (by kernel_rfl) rfl
theorem eg99 : ∀ args w, (callFunc 140 args).run Tryz.prog w = .ok (.enter 140 args) w := enters_of Tryz.func140 (by kernel_rfl) rfl
theorem eg101 : ∀ args w, (callFunc 142 args).run Tryz.prog w = .ok (.enter 142 args) w := enters_of Tryz.func142 (by kernel_rfl) rfl
set_option maxHeartbeats 2000000 in
theorem ask_bad_int (z : Nat) (mn lw hi : Int) (k : Nat) (nb fm tm : Nat → Nat) (nd : Nat → Nd) (fr : Nat → List Nat) (x : Int) (fv : Value) (w : World) (e : Nat → Addr) (he : Errs3 w e) (h : DZ w z mn lw hi k nb fm tm nd fr) (hx : ¬ (0 ≤ x ∧ x < k)) :
   Calls Tryz.prog 62 #[ptr z, .int .i64 x, fv] w fun ev w' => ev = .returned (.tuple #[.int .i64 0, errV (e 1)]) ∧ Below w.heap.size w w' := by
 have H := has_ok z mn lw hi k nb fm tm nd fr x w h
 rw [show decide (0 ≤ x ∧ x < k) = false by simpa using hx] at H
 have H := hide H
 have hE := he.bound
 clear h he hx
 unfold ptr errV at *
 go_enter Tryz.func62, Tryz.ntmps62
 go_wp2_with fail
 refine (unhide H).mono ?_
 rintro ev w' ⟨rfl, rfl⟩
 go_wp2_with fail
 go_quiet (fail)
 go_wp2
 go_ret2
 exact ⟨rfl, bdN (Below.refl _ _) _⟩
set_option maxHeartbeats 2000000 in
theorem ask_int (z : Nat) (mn lw hi : Int) (k : Nat) (nb fm tm : Nat → Nat) (nd : Nat → Nd) (fr : Nat → List Nat) (x : Nat) (f : Nat) (lb : Array Value) (ef : ∀ args w, (callFunc f args).run Tryz.prog w = .ok (.enter f args) w) (R : Value → World → Prop) (w : World) (h : DZ w z mn lw hi k nb fm tm nd fr) (hx : x < k)
   (hp : Calls Tryz.prog f (#[ptr (nb x)] ++ lb) w fun ev w' => ∃ r, ev = .returned r ∧ R r w' ∧ Below w.heap.size w w') :
   Calls Tryz.prog 62 #[ptr z, .int .i64 x, .func (.func f) #[] lb] w fun ev w' => ∃ r, ev = .returned (.tuple #[r, .nilIface]) ∧ R r w' ∧ Below w.heap.size w w' := by
 have H := has_ok z mn lw hi k nb fm tm nd fr x w h
 rw [show decide ((0 : Int) ≤ (x : Int) ∧ (x : Int) < k) = true by simp; omega] at H
 have H := hide H
 obtain ⟨g, c, c1, _, c2⟩ := h.node hx
 have hxk : (x : Int) < k := by omega
 have hx0 : (0 : Int) ≤ x := by omega
 have HP := hide hp
 clear h hp
 unfold ptr at *
 go_enter Tryz.func62, Tryz.ntmps62
 go_wp2_with fail
 refine (unhide H).mono ?_
 rintro ev w' ⟨rfl, rfl⟩
 go_wp2_with (go_at_fn f; refine (unhide HP).mono ?_; rintro ev w2 ⟨r, rfl, hR, hb⟩)
 go_ret2
 exact ⟨_, rfl, hR, hb⟩
set_option maxHeartbeats 2000000 in
theorem ask_bad_bool (z : Nat) (mn lw hi : Int) (k : Nat) (nb fm tm : Nat → Nat) (nd : Nat → Nd) (fr : Nat → List Nat) (x : Int) (fv : Value) (w : World) (e : Nat → Addr) (he : Errs3 w e) (h : DZ w z mn lw hi k nb fm tm nd fr) (hx : ¬ (0 ≤ x ∧ x < k)) :
   Calls Tryz.prog 138 #[ptr z, .int .i64 x, fv] w fun ev w' => ev = .returned (.tuple #[.bool false, errV (e 1)]) ∧ Below w.heap.size w w' := by
 have H := has_ok z mn lw hi k nb fm tm nd fr x w h
 rw [show decide (0 ≤ x ∧ x < k) = false by simpa using hx] at H
 have H := hide H
 have hE := he.bound
 clear h he hx
 unfold ptr errV at *
 go_enter Tryz.func138, Tryz.ntmps138
 go_wp2_with fail
 refine (unhide H).mono ?_
 rintro ev w' ⟨rfl, rfl⟩
 go_wp2_with fail
 go_quiet (fail)
 go_wp2
 go_ret2
 exact ⟨rfl, bdN (Below.refl _ _) _⟩
set_option maxHeartbeats 2000000 in
theorem ask_bool (z : Nat) (mn lw hi : Int) (k : Nat) (nb fm tm : Nat → Nat) (nd : Nat → Nd) (fr : Nat → List Nat) (x : Nat) (f : Nat) (lb : Array Value) (ef : ∀ args w, (callFunc f args).run Tryz.prog w = .ok (.enter f args) w) (R : Value → World → Prop) (w : World) (h : DZ w z mn lw hi k nb fm tm nd fr) (hx : x < k)
   (hp : Calls Tryz.prog f (#[ptr (nb x)] ++ lb) w fun ev w' => ∃ r, ev = .returned r ∧ R r w' ∧ Below w.heap.size w w') :
   Calls Tryz.prog 138 #[ptr z, .int .i64 x, .func (.func f) #[] lb] w fun ev w' => ∃ r, ev = .returned (.tuple #[r, .nilIface]) ∧ R r w' ∧ Below w.heap.size w w' := by
 have H := has_ok z mn lw hi k nb fm tm nd fr x w h
 rw [show decide ((0 : Int) ≤ (x : Int) ∧ (x : Int) < k) = true by simp; omega] at H
 have H := hide H
 obtain ⟨g, c, c1, _, c2⟩ := h.node hx
 have hxk : (x : Int) < k := by omega
 have hx0 : (0 : Int) ≤ x := by omega
 have HP := hide hp
 clear h hp
 unfold ptr at *
 go_enter Tryz.func138, Tryz.ntmps138
 go_wp2_with fail
 refine (unhide H).mono ?_
 rintro ev w' ⟨rfl, rfl⟩
 go_wp2_with (go_at_fn f; refine (unhide HP).mono ?_; rintro ev w2 ⟨r, rfl, hR, hb⟩)
 go_ret2
 exact ⟨_, rfl, hR, hb⟩
set_option maxHeartbeats 2000000 in
theorem ask_bad_ptr (z : Nat) (mn lw hi : Int) (k : Nat) (nb fm tm : Nat → Nat) (nd : Nat → Nd) (fr : Nat → List Nat) (x : Int) (fv : Value) (w : World) (e : Nat → Addr) (he : Errs3 w e) (h : DZ w z mn lw hi k nb fm tm nd fr) (hx : ¬ (0 ≤ x ∧ x < k)) :
   Calls Tryz.prog 141 #[ptr z, .int .i64 x, fv] w fun ev w' => ev = .returned (.tuple #[.pointer none, errV (e 1)]) ∧ Below w.heap.size w w' := by
 have H := has_ok z mn lw hi k nb fm tm nd fr x w h
 rw [show decide (0 ≤ x ∧ x < k) = false by simpa using hx] at H
 have H := hide H
 have hE := he.bound
 clear h he hx
 unfold ptr errV at *
 go_enter Tryz.func141, Tryz.ntmps141
 go_wp2_with fail
 refine (unhide H).mono ?_
 rintro ev w' ⟨rfl, rfl⟩
 go_wp2_with fail
 go_quiet (fail)
 go_wp2
 go_ret2
 exact ⟨rfl, bdN (Below.refl _ _) _⟩
set_option maxHeartbeats 2000000 in
theorem ask_ptr (z : Nat) (mn lw hi : Int) (k : Nat) (nb fm tm : Nat → Nat) (nd : Nat → Nd) (fr : Nat → List Nat) (x : Nat) (f : Nat) (lb : Array Value) (ef : ∀ args w, (callFunc f args).run Tryz.prog w = .ok (.enter f args) w) (R : Value → World → Prop) (w : World) (h : DZ w z mn lw hi k nb fm tm nd fr) (hx : x < k)
   (hp : Calls Tryz.prog f (#[ptr (nb x)] ++ lb) w fun ev w' => ∃ r, ev = .returned r ∧ R r w' ∧ Below w.heap.size w w') :
   Calls Tryz.prog 141 #[ptr z, .int .i64 x, .func (.func f) #[] lb] w fun ev w' => ∃ r, ev = .returned (.tuple #[r, .nilIface]) ∧ R r w' ∧ Below w.heap.size w w' := by
 have H := has_ok z mn lw hi k nb fm tm nd fr x w h
 rw [show decide ((0 : Int) ≤ (x : Int) ∧ (x : Int) < k) = true by simp; omega] at H
 have H := hide H
 obtain ⟨g, c, c1, _, c2⟩ := h.node hx
 have hxk : (x : Int) < k := by omega
 have hx0 : (0 : Int) ≤ x := by omega
 have HP := hide hp
 clear h hp
 unfold ptr at *
 go_enter Tryz.func141, Tryz.ntmps141
 go_wp2_with fail
 refine (unhide H).mono ?_
 rintro ev w' ⟨rfl, rfl⟩
 go_wp2_with (go_at_fn f; refine (unhide HP).mono ?_; rintro ev w2 ⟨r, rfl, hR, hb⟩)
 go_ret2
 exact ⟨_, rfl, hR, hb⟩
theorem zfree_bad (z : Nat) (mn lw hi : Int) (k : Nat) (nb fm tm : Nat → Nat) (nd : Nat → Nd) (fr : Nat → List Nat) (x : Int) (w : World) (e : Nat → Addr) (he : Errs3 w e) (h : DZ w z mn lw hi k nb fm tm nd fr) (hx : ¬ (0 ≤ x ∧ x < k)) :
   Calls Tryz.prog 18 #[ptr z, .int .i64 x] w fun ev w' => ev = .returned (.tuple #[.int .i64 0, errV (e 1)]) ∧ Below w.heap.size w w' := by
 have H := hide (ask_bad_int z mn lw hi k nb fm tm nd fr x (.func (.func 63) #[] #[]) w e he h hx)
 clear h he hx
 unfold ptr errV at *
 go_enter Tryz.func18, Tryz.ntmps18
 go_wp2_with fail
 refine (unhide H).mono ?_
 rintro ev w' ⟨rfl, hb⟩
 go_wp2_with fail
 go_ret2
 exact ⟨rfl, hb⟩
theorem zfree_ok (z : Nat) (mn lw hi : Int) (k : Nat) (nb fm tm : Nat → Nat) (nd : Nat → Nd) (fr : Nat → List Nat) (x : Nat) (w : World) (h : DZ w z mn lw hi k nb fm tm nd fr) (hx : x < k) :
   Calls Tryz.prog 18 #[ptr z, .int .i64 x] w fun ev w' => ev = .returned (.tuple #[.int .i64 (pgs (nd x).F), .nilIface]) ∧ Below w.heap.size w w' := by
 have H := hide (ask_int z mn lw hi k nb fm tm nd fr x 63 #[] eg63 (fun r _ => r = .int .i64 (pgs (nd x).F)) w h hx ((free1_ok _ _ _ _ _ _ w (h.bd x hx)).mono fun ev w' hh => ⟨_, hh.1, rfl, hh.2⟩))
 clear h hx
 generalize pgs (nd x).F = v at *
 unfold ptr at *
 go_enter Tryz.func18, Tryz.ntmps18
 go_wp2_with fail
 refine (unhide H).mono ?_
 rintro ev w' ⟨r, rfl, rfl, hb⟩
 go_wp2_with fail
 go_ret2
 exact ⟨rfl, hb⟩
end Dz
end Go.Proofs.YtfefehkapffljaaGreatDoor
