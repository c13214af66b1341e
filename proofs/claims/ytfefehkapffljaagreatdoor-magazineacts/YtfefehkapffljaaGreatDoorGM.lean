/- Z6. -/
import Derived.Test.YtfefehkapffljaaGreatDoorGL
namespace Go.Proofs.YtfefehkapffljaaGreatDoor
open Go.RowKit
namespace Bd
open Fr
structure Nd where
 N : Int
 F : List Bl
 T : List Bl
def Nd.ok (d : Nd) : Prop := 1 ≤ d.N ∧ d.N ≤ 256 ∧ Inv d.N d.F d.T
def up {α : Type} (f : Nat → α) (i : Nat) (v : α) : Nat → α := fun j => if j = i then v else f j
theorem up_at {α : Type} (f : Nat → α) (i : Nat) (v : α) : up f i v i = v := by simp [up]
theorem up_ne {α : Type} (f : Nat → α) {i j : Nat} (v : α) (h : j ≠ i) : up f i v j = f j := by simp [up, h]
def ptrs (k : Nat) (nb : Nat → Nat) : List Value := (List.range k).map fun i => ptr (nb i)
theorem ptrs_at {k : Nat} {nb : Nat → Nat} {i : Nat} (h : i < k) : (ptrs k nb)[i]? = some (ptr (nb i)) := by simp [ptrs, h]
theorem ptrs_set {k : Nat} {nb : Nat → Nat} {i c : Nat} : (ptrs k nb).set i (ptr c) = ptrs k (up nb i c) := by
 apply List.ext_getElem?
 intro j
 rw [List.getElem?_set]
 by_cases hj : j < k
 · by_cases h : i = j
   · subst h; simp [ptrs, hj, up]
   · rw [if_neg h]
     simp [ptrs, hj, up, Ne.symm h]
 · by_cases h : i = j
   · subst h; simp [ptrs, hj]
   · rw [if_neg h]
     simp [ptrs, hj]
end Bd
namespace Zn
open Fr Bd
structure RZ (w : World) (z : Nat) (mn lw hi : Int) (k : Nat) (nb : Nat → Nat) (nd : Nat → Nd) (fr : Nat → List Nat) : Prop where
 m2 : w.cell? ⟨z, 2, none⟩ = some (.int .i64 mn)
 m3 : w.cell? ⟨z, 3, none⟩ = some (.int .i64 lw)
 m4 : w.cell? ⟨z, 4, none⟩ = some (.int .i64 hi)
 cn : ∃ g c, w.cell? ⟨z, 5, none⟩ = some (.slice (some ⟨g, 0, none⟩) k c) ∧ w.ownsRow 0 137 1 (.slice (some ⟨g, 0, none⟩) k c) k (ptrs k nb)
 cf : ∃ g c rows, w.cell? ⟨z, 6, none⟩ = some (.slice (some ⟨g, 0, none⟩) k c) ∧ w.ownsRow 0 22 1 (.slice (some ⟨g, 0, none⟩) k c) k rows ∧ ∀ i, i < k → ∃ h d, rows[i]? = some (.slice (some ⟨h, 0, none⟩) (fr i).length d) ∧ w.ownsRow 0 3 1 (.slice (some ⟨h, 0, none⟩) (fr i).length d) (fr i).length (ivs (fr i))
 tg : Tag w z 136
 rb : ∀ i, i < k → RB w (nb i) (nd i).N (nd i).F (nd i).T
 ok : ∀ i, i < k → (nd i).ok
 ne : ∀ i j, i < k → j < k → i ≠ j → nb i ≠ nb j
theorem RZ.b {w w' : World} {z : Nat} {mn lw hi : Int} {k : Nat} {nb : Nat → Nat} {nd : Nat → Nd} {fr : Nat → List Nat} (h : RZ w z mn lw hi k nb nd fr) (hb : Below w.heap.size w w') : RZ w' z mn lw hi k nb nd fr := by
 have hl := h.tg.lt
 obtain ⟨g, c, e1, o1⟩ := h.cn
 obtain ⟨g2, c2, rows, e2, o2, r2⟩ := h.cf
 refine ⟨(hb.cell (p := ⟨z, 2, none⟩) hl).trans h.m2, (hb.cell (p := ⟨z, 3, none⟩) hl).trans h.m3, (hb.cell (p := ⟨z, 4, none⟩) hl).trans h.m4, ⟨g, c, (hb.cell (p := ⟨z, 5, none⟩) hl).trans e1, own_b o1 hb⟩, ⟨g2, c2, rows, (hb.cell (p := ⟨z, 6, none⟩) hl).trans e2, own_b o2 hb, fun i hi => ?_⟩, h.tg.b hb, fun i hi => (h.rb i hi).b hb, h.ok, h.ne⟩
 obtain ⟨h', d, e3, o3⟩ := r2 i hi
 exact ⟨h', d, e3, own_b o3 hb⟩
theorem RZ.keep {w w' : World} {z A : Nat} {mn lw hi : Int} {k : Nat} {nb : Nat → Nat} {nd : Nat → Nd} {fr : Nat → List Nat} (h : RZ w z mn lw hi k nb nd fr) (hk : Kept A A w w') {t : TypeId} (ht : Tag w A t) (n1 : t ≠ 136) (n2 : t ≠ 137) (n3 : t ≠ 22) (n4 : t ≠ 3) (n5 : t ≠ 71) (n6 : t ≠ 213) : RZ w' z mn lw hi k nb nd fr := by
 have hl := h.tg.lt
 have hz := h.tg.ne ht n1.symm
 obtain ⟨g, c, e1, o1⟩ := h.cn
 obtain ⟨g2, c2, rows, e2, o2, r2⟩ := h.cf
 refine ⟨(hk.cell (p := ⟨z, 2, none⟩) hl hz hz).trans h.m2, (hk.cell (p := ⟨z, 3, none⟩) hl hz hz).trans h.m3, (hk.cell (p := ⟨z, 4, none⟩) hl hz hz).trans h.m4, ⟨g, c, (hk.cell (p := ⟨z, 5, none⟩) hl hz hz).trans e1, own_keep o1 hk ht n2⟩, ⟨g2, c2, rows, (hk.cell (p := ⟨z, 6, none⟩) hl hz hz).trans e2, own_keep o2 hk ht n3, fun i hi => ?_⟩, h.tg.keep hk hz, fun i hi => (h.rb i hi).keep hk ((h.rb i hi).tg.ne ht n6.symm) ht n5, h.ok, h.ne⟩
 obtain ⟨h', d, e3, o3⟩ := r2 i hi
 exact ⟨h', d, e3, own_keep o3 hk ht n4⟩
set_option maxHeartbeats 2000000 in
theorem isnode_ok (z : Nat) (mn lw hi : Int) (k : Nat) (nb : Nat → Nat) (nd : Nat → Nd) (fr : Nat → List Nat) (x : Int) (w : World) (h : RZ w z mn lw hi k nb nd fr) :
   Calls Tryz.prog 29 #[ptr z, .int .i64 x] w fun ev w' => ev = .returned (.bool (decide (0 ≤ x ∧ x < k))) ∧ Below w.heap.size w w' := by
 obtain ⟨g, c, e1, o1⟩ := h.cn
 clear h o1
 unfold ptr
 by_cases h0 : 0 ≤ x
 · have d0 : decide (0 ≤ x) = true := by simpa using h0
   have dd : decide (0 ≤ x ∧ x < k) = decide (x < k) := by simp [h0]
   rw [dd]
   go_enter Tryz.func29, Tryz.ntmps29
   go_wp2
   go_ret
   exact ⟨rfl, Below.refl _ _⟩
 · have d0 : decide (0 ≤ x) = false := by simpa using h0
   have dd : decide (0 ≤ x ∧ x < k) = false := by simp [h0]
   rw [dd]
   go_enter Tryz.func29, Tryz.ntmps29
   go_wp2
   go_ret
   exact ⟨rfl, Below.refl _ _⟩
theorem RZ.node {w : World} {z : Nat} {mn lw hi : Int} {k : Nat} {nb : Nat → Nat} {nd : Nat → Nd} {fr : Nat → List Nat} (h : RZ w z mn lw hi k nb nd fr) {x : Nat} (hx : x < k) : ∃ g c, w.cell? ⟨z, 5, none⟩ = some (.slice (some ⟨g, 0, none⟩) k c) ∧ g < w.heap.size ∧ w.cell? ⟨g, x, none⟩ = some (ptr (nb x)) := by
 obtain ⟨g, c, e1, o1⟩ := h.cn
 exact ⟨g, c, e1, (o1.lt g rfl).2, (o1.cellAt x (by omega)).trans (ptrs_at hx)⟩
theorem nd_len {d : Nd} (h : d.ok) : d.F.length ≤ 256 ∧ d.T.length ≤ 256 ∧ ∀ y ∈ d.F, 0 ≤ y.2 ∧ y.2 ≤ 6 := by
 obtain ⟨_, h2, hi⟩ := h
 refine ⟨?_, ?_, ?_⟩
 · have := srt_len hi.sF (a := 0) (b := 256) (fun z hz => by have h1 := hi.inF hz; have h2 := pw_pos z.2; omega)
   omega
 · have := srt_len hi.sT (a := 0) (b := 256) (fun z hz => by have h1 := hi.inT hz; have h2 := pw_pos z.2; omega)
   omega
 · intro y hy
   have := hi.oF y hy
   unfold Okb at this
   omega
set_option maxHeartbeats 2000000 in
theorem rlack_ok (z : Nat) (mn lw hi : Int) (k : Nat) (nb : Nat → Nat) (nd : Nat → Nd) (fr : Nat → List Nat) (x : Nat) (w : World) (h : RZ w z mn lw hi k nb nd fr) (hx : x < k) (h0 : 0 ≤ hi) (h1 : hi ≤ 9223372036854775807) :
   Calls Tryz.prog 93 #[ptr z, .int .i64 x] w fun ev w' => ev = .returned (.int .i64 (if hi - pgs (nd x).F < 0 then 0 else hi - pgs (nd x).F)) ∧ Below w.heap.size w w' := by
 obtain ⟨g, c, e1, hg, e2⟩ := h.node hx
 have e4 := h.m4
 have hl := nd_len (h.ok x hx)
 have hp := pgs_bd hl.2.2
 have HF := hide (fun w1 (hb : Below w.heap.size w w1) => rfree_ok (nb x) (nd x).N (nd x).F (nd x).T w1 ((h.rb x hx).b hb) hl.1 hl.2.2)
 have hzl := h.tg.lt
 have HK := hide (fun w1 (hb : Below w.heap.size w w1) => (⟨(hb.cell (p := ⟨z, 4, none⟩) hzl).trans e4, (hb.cell (p := ⟨z, 5, none⟩) hzl).trans e1, (hb.cell (p := ⟨g, x, none⟩) hg).trans e2⟩ : w1.cell? ⟨z, 4, none⟩ = some (.int .i64 hi) ∧ w1.cell? ⟨z, 5, none⟩ = some (.slice (some ⟨g, 0, none⟩) k c) ∧ w1.cell? ⟨g, x, none⟩ = some (ptr (nb x))))
 have hb2 : 0 ≤ pgs (nd x).F ∧ pgs (nd x).F ≤ 16384 := by omega
 clear h hp hl
 have hlt : (x : Int) < k := by omega
 have hge : (0 : Int) ≤ x := by omega
 generalize pgs (nd x).F = q at *
 generalize nb x = y at *
 unfold ptr at *
 go_enter Tryz.func93, Tryz.ntmps93
 go_wp2_with fail
 go_region_held3 (fun w' => w'.cell? ⟨z, 4, none⟩ = some (.int .i64 hi) ∧ w'.cell? ⟨z, 5, none⟩ = some (.slice (some ⟨g, 0, none⟩) k c) ∧ w'.cell? ⟨g, x, none⟩ = some (.pointer (some ⟨y, 0, none⟩))) ((first | (go_keep; done) | (exact (unhide HK) _ (by assumption)))) ((go_at_call 83; refine ((unhide HF) _ (drw w)).mono ?_; rintro ev w3 ⟨rfl, b3⟩; have f3 : Below w.heap.size w w3 := bd b3))
 have hwr : IntKind.i64.wrap (hi - q) = hi - q := IntWalk.i64_in _ (by omega)
 rw [hwr]
 by_cases hq : hi - q < 0
 · have d1 : decide (hi - q < 0) = true := by simpa using hq
   go_wp2
   go_ret
   exact ⟨rfl, f3⟩
 · have d1 : decide (hi - q < 0) = false := by simpa using hq
   go_wp2
   go_ret
   exact ⟨rfl, f3⟩
def plV (x a o : Int) : Value := .agg #[.int .i64 x, .int .i64 a, .int .i64 o]
def plO (x a o : Int) : Obj := .cells #[.int .i64 x, .int .i64 a, .int .i64 o] 73
end Zn
end Go.Proofs.YtfefehkapffljaaGreatDoor
