/- V11. -/
import Derived.Test.YtfefehkapffljaaGreatDoorGU
import Derived.Test.YtfefehkapffljaaGreatDoorGV
import Derived.Test.YtfefehkapffljaaGreatDoorGB
namespace Go.Proofs.YtfefehkapffljaaGreatDoor
open Go.RowKit Go.Maps
namespace Dz
open Fr Bd Zn
def TkAny (z : Nat) (mn lw hi : Int) (k : Nat) (nb fm tm : Nat → Nat) (nd : Nat → Nd) (fr : Nat → List Nat) (x o : Int) (u : Bool) (e : Nat → Addr) (w : World) (ev : Ending) (w' : World) : Prop :=
 (∃ a : Nat, a < 10 ∧ ev = .returned (.tuple #[.agg #[.int .i64 0, .int .i64 0, .int .i64 0], .iface 304 (.pointer (some (e a)))]) ∧ Below w.heap.size w w' ∧ ((a = 1 ∧ (¬ (0 ≤ x ∧ x < k) ∨ o < 0 ∨ 6 < o)) ∨ ∃ x' : Nat, x = x' ∧ x' < k ∧ 0 ≤ o ∧ o ≤ 6 ∧ (fr x').find? (fun i => tkC o mn u (nd i) == 2) = none ∧ a = if (fr x').any (fun i => tkC o mn u (nd i) == 1) then 6 else 4)) ∨
 ∃ (x' i : Nat) (at' : Int), x = x' ∧ x' < k ∧ 0 ≤ o ∧ o ≤ 6 ∧ (fr x').find? (fun i => tkC o mn u (nd i) == 2) = some i ∧ i < k ∧ at' = tkA o (nd i) ∧ ev = .returned (.tuple #[.agg #[.int .i64 (i : Int), .int .i64 at', .int .i64 o], .nilIface]) ∧ DZ w' z mn lw hi k nb fm tm (up nd i (tkN o (nd i))) fr ∧ Kept (fm i) (tm i) w w'
def oneC (N : Int) : Cf := ⟨1, fun _ => N, 1, fun _ => 1, fun _ _ => 0, 0, 0, 0⟩
theorem one_mem (w : World) (A B C D : Obj) (cA cB cC cD : Array Value) (tA tB tC tD : TypeId) (hA : A = .cells cA tA) (hB : B = .cells cB tB) (hC : C = .cells cC tC) (hD : D = .cells cD tD) :
   (∀ j, ((((w.alloc A).alloc B).alloc C).alloc D).cell? ⟨w.heap.size, j, none⟩ = cA[j]?) ∧ (∀ j, ((((w.alloc A).alloc B).alloc C).alloc D).cell? ⟨w.heap.size + 1, j, none⟩ = cB[j]?) ∧ (∀ j, ((((w.alloc A).alloc B).alloc C).alloc D).cell? ⟨w.heap.size + 2, j, none⟩ = cC[j]?) ∧ (∀ j, ((((w.alloc A).alloc B).alloc C).alloc D).cell? ⟨w.heap.size + 3, j, none⟩ = cD[j]?) ∧ ((((w.alloc A).alloc B).alloc C).alloc D).heap.size = w.heap.size + 4 ∧ Below w.heap.size w ((((w.alloc A).alloc B).alloc C).alloc D) := by
 subst hA hB hC hD
 have s1 : (w.alloc (.cells cA tA)).heap.size = w.heap.size + 1 := by simp
 have s2 : ((w.alloc (.cells cA tA)).alloc (.cells cB tB)).heap.size = w.heap.size + 2 := by simp
 have s3 : (((w.alloc (.cells cA tA)).alloc (.cells cB tB)).alloc (.cells cC tC)).heap.size = w.heap.size + 3 := by simp
 refine ⟨fun j => ?_, fun j => ?_, fun j => ?_, fun j => ?_, by simp, ballo (ballo (ballo (ballo (Below.refl _ _) _) _) _) _⟩
 · exact ((ballo (ballo (ballo (Below.refl _ _) _) _) _).cell (p := ⟨w.heap.size, j, none⟩) (by rw [s1]; simp)).trans (World.cell?_alloc_new w cA tA j)
 · have q := World.cell?_alloc_new (w.alloc (.cells cA tA)) cB tB j
   rw [s1] at q
   exact ((ballo (ballo (Below.refl _ _) _) _).cell (p := ⟨w.heap.size + 1, j, none⟩) (by rw [s2]; simp)).trans q
 · have q := World.cell?_alloc_new ((w.alloc (.cells cA tA)).alloc (.cells cB tB)) cC tC j
   rw [s2] at q
   exact ((ballo (Below.refl _ _) _).cell (p := ⟨w.heap.size + 2, j, none⟩) (by rw [s3]; simp)).trans q
 · have q := World.cell?_alloc_new (((w.alloc (.cells cA tA)).alloc (.cells cB tB)).alloc (.cells cC tC)) cD tD j
   rw [s3] at q
   exact q
set_option maxHeartbeats 2000000 in
theorem one_ok (N : Int) (w : World) :
   Calls Tryz.prog 20 #[.int .i64 N] w fun ev w' => ∃ p pc q qc, ev = .returned (cfV (oneC N) p pc q qc) ∧ At w' (oneC N) p q ∧ Below w.heap.size w w' := by
 go_enter Tryz.func20, Tryz.ntmps20
 go_wp2_with fail
 simp only [Nat.add_assoc, Nat.reduceAdd]
 obtain ⟨m0, m1, m2, m3, m4, m5⟩ := one_mem w _ _ _ _ #[.slice (some ⟨w.heap.size + 1, 0, none⟩) 1 1, .slice (some ⟨w.heap.size + 3, 0, none⟩) 1 1, .int .i64 0, .int .i64 0, .int .i64 0] #[.int .i64 N] #[.int .i64 0] #[.slice (some ⟨w.heap.size + 2, 0, none⟩) 1 1] 36 3 3 22 rfl rfl rfl rfl
 generalize (((w.alloc (.cells #[.slice (some ⟨w.heap.size + 1, 0, none⟩) 1 1, .slice (some ⟨w.heap.size + 3, 0, none⟩) 1 1, .int .i64 0, .int .i64 0, .int .i64 0] 36)).alloc (.cells #[.int .i64 N] 3)).alloc (.cells #[.int .i64 0] 3)).alloc (.cells #[.slice (some ⟨w.heap.size + 2, 0, none⟩) 1 1] 22) = W at *
 have t0 := m0 0
 have t1 := m0 1
 have t2 := m0 2
 have t3 := m0 3
 have t4 := m0 4
 simp only [List.getElem?_toArray, List.getElem?_cons_zero, List.getElem?_cons_succ] at t0 t1 t2 t3 t4
 refine bodyPost_ret (v := .agg #[.slice (some ⟨w.heap.size + 1, 0, none⟩) 1 1, .slice (some ⟨w.heap.size + 3, 0, none⟩) 1 1, .int .i64 0, .int .i64 0, .int .i64 0]) (by simp [results, Tryz.results20, go_sem, t0, t1, t2, t3, t4]; try rfl) rfl ?_
 refine ⟨_, _, _, _, rfl, ⟨fun i hi => ?_, fun i hi => ?_⟩, m5⟩
 · obtain rfl : i = 0 := by have : i < 1 := hi; omega
   exact ⟨_, 0, rfl, by omega, m1 0⟩
 · obtain rfl : i = 0 := by have : i < 1 := hi; omega
   refine ⟨_, 0, some ⟨w.heap.size + 2, 0, none⟩, 1, rfl, by omega, m3 0, fun j hj => ?_, fun h => by cases h⟩
   obtain rfl : j = 0 := by have : j < 1 := hj; omega
   exact ⟨_, 0, rfl, by omega, m2 0⟩
theorem oneC_is (N : Int) (h1 : 1 ≤ N) (h2 : N ≤ 256) : (oneC N).is 0 ∧ ¬ (oneC N).wide := by
 have hs : (oneC N).shp := ⟨rfl, fun i _ => rfl⟩
 refine ⟨Or.inr (Or.inr ⟨rfl, ?_, hs, ?_⟩), ?_⟩
 · unfold Cf.bad2 oneC
   simp only
   rintro (h | h | ⟨i, hi, h⟩ | ⟨i, hi, k, hk, h⟩ | h | h | h) <;> omega
 · unfold Cf.bad3 oneC
   simp only
   rintro ⟨i, hi, k, hk, hne, h⟩
   omega
 · unfold Cf.wide oneC
   simp only
   rintro (h | h | ⟨i, hi, h⟩) <;> omega
theorem one_fr : nfr (fun _ => (0 : Int)) 1 1001 = [0] := (nfr_is (by omega) (by simp) (by simp)).symm
end Dz
end Go.Proofs.YtfefehkapffljaaGreatDoor
