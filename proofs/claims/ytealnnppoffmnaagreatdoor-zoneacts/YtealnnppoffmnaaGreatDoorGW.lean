/- Package zone's Take, whatever it is called with; the closed fact 'zoned' of the laws of chapter 3 · ZoneMin: its walk, over the contracts. -/
import Derived.Test.YtealnnppoffmnaaGreatDoorGU
import Derived.Test.YtealnnppoffmnaaGreatDoorGV
import Derived.Test.YtealnnppoffmnaaGreatDoorGB
import Derived.Test.YtealnnppoffmnaaGreatDoorGL
namespace Go.Proofs.YtealnnppoffmnaaGreatDoor
open Go.RowKit Go.Maps
theorem coded_other (i : Nat) (hi : i < 10) (c : Int) (hc : c ≠ i + 1) (w : World) (e : Nat → Addr) (he : Errs w e) :
    Calls Tryz.prog 9 #[.iface 212 (.pointer (some (e i))), .int .i64 c] w fun ev w' => ev = .returned (.bool false) ∧ Below w.heap.size w w' := by
  have hne : (((i : Int) + 1) == c) = false := by simp; omega
  go_enter Tryz.func9, Tryz.ntmps9
  go_wp2_with (go_at_call 40; refine (code_sent i hi _ e he).mono ?_; rintro ev w' ⟨rfl, hb⟩)
  go_ret
  exact ⟨rfl, by assumption⟩
namespace Dz
open Fr Bd Zn
/-- What Take answers, whatever it is called with. -/
def TkAny (z : Nat) (mn lw hi : Int) (k : Nat) (nb fm tm : Nat → Nat) (nd : Nat → Nd) (fr : Nat → List Nat) (x o : Int) (u : Bool) (e : Nat → Addr) (w : World) (ev : Ending) (w' : World) : Prop :=
  (∃ a : Nat, a < 10 ∧ ev = .returned (.tuple #[.agg #[.int .i64 0, .int .i64 0, .int .i64 0], .iface 212 (.pointer (some (e a)))]) ∧ Below w.heap.size w w' ∧ ((a = 1 ∧ (¬ (0 ≤ x ∧ x < k) ∨ o < 0 ∨ 6 < o)) ∨ ∃ x' : Nat, x = x' ∧ x' < k ∧ 0 ≤ o ∧ o ≤ 6 ∧ (fr x').find? (fun i => tkC o mn u (nd i) == 2) = none ∧ a = if (fr x').any (fun i => tkC o mn u (nd i) == 1) then 6 else 4)) ∨
  ∃ (x' i : Nat) (at' : Int), x = x' ∧ x' < k ∧ 0 ≤ o ∧ o ≤ 6 ∧ (fr x').find? (fun i => tkC o mn u (nd i) == 2) = some i ∧ i < k ∧ at' = tkA o (nd i) ∧ ev = .returned (.tuple #[.agg #[.int .i64 (i : Int), .int .i64 at', .int .i64 o], .nilIface]) ∧ DZ w' z mn lw hi k nb fm tm (up nd i (tkN o (nd i))) fr ∧ Kept (fm i) (tm i) w w'
theorem ztake_any (z : Nat) (mn lw hi : Int) (k : Nat) (nb fm tm : Nat → Nat) (nd : Nat → Nd) (fr : Nat → List Nat) (x o : Int) (u : Bool) (w : World) (e : Nat → Addr) (he : Errs w e) (h : DZ w z mn lw hi k nb fm tm nd fr) (hk4 : k ≤ 20) :
    Calls Tryz.prog 24 #[.pointer (some ⟨z, 0, none⟩), .int .i64 x, .int .i64 o, .bool u] w fun ev w' => TkAny z mn lw hi k nb fm tm nd fr x o u e w ev w' := by
  by_cases ho : o < 0 ∨ 6 < o
  · exact (ztake_order z x o u w e he ho).mono fun ev w' hh => Or.inl ⟨1, by omega, hh.1, hh.2, Or.inl ⟨rfl, Or.inr ho⟩⟩
  · by_cases hx : 0 ≤ x ∧ x < k
    · obtain ⟨x', rfl⟩ := Int.eq_ofNat_of_zero_le hx.1
      refine (ztake_ok z mn lw hi k nb fm tm nd fr x' o u w e he h (by omega) (by omega) (by omega) hk4).mono fun ev w' hh => ?_
      rcases hh with ⟨h1, h2, h3⟩ | ⟨i, h1, h2, h3, h4, h5⟩
      · refine Or.inl ⟨_, ?_, h2, h3, Or.inr ⟨x', rfl, by omega, by omega, by omega, h1, rfl⟩⟩
        split <;> omega
      · exact Or.inr ⟨x', i, _, rfl, by omega, by omega, by omega, h1, h2, rfl, h3, h4, h5⟩
    · exact (ztake_node z mn lw hi k nb fm tm nd fr x o u w e he h (by omega) (by omega) hx).mono fun ev w' hh => Or.inl ⟨1, by omega, hh.1, hh.2, Or.inl ⟨rfl, Or.inl hx⟩⟩
/-- A config of one node. -/
def oneC (N : Int) : Cf := ⟨1, fun _ => N, 1, fun _ => 1, fun _ _ => 0, 0, 0, 0⟩
theorem one_mem (w : World) (A B C D : Obj) (cA cB cC cD : Array Value) (tA tB tC tD : TypeId) (hA : A = .cells cA tA) (hB : B = .cells cB tB) (hC : C = .cells cC tC) (hD : D = .cells cD tD) :
    (∀ j, ((((w.alloc A).alloc B).alloc C).alloc D).cell? ⟨w.heap.size, j, none⟩ = cA[j]?) ∧ (∀ j, ((((w.alloc A).alloc B).alloc C).alloc D).cell? ⟨w.heap.size + 1, j, none⟩ = cB[j]?) ∧ (∀ j, ((((w.alloc A).alloc B).alloc C).alloc D).cell? ⟨w.heap.size + 2, j, none⟩ = cC[j]?) ∧ (∀ j, ((((w.alloc A).alloc B).alloc C).alloc D).cell? ⟨w.heap.size + 3, j, none⟩ = cD[j]?) ∧ ((((w.alloc A).alloc B).alloc C).alloc D).heap.size = w.heap.size + 4 ∧ Below w.heap.size w ((((w.alloc A).alloc B).alloc C).alloc D) := by
  subst hA hB hC hD
  have s1 : (w.alloc (.cells cA tA)).heap.size = w.heap.size + 1 := by simp
  have s2 : ((w.alloc (.cells cA tA)).alloc (.cells cB tB)).heap.size = w.heap.size + 2 := by simp
  have s3 : (((w.alloc (.cells cA tA)).alloc (.cells cB tB)).alloc (.cells cC tC)).heap.size = w.heap.size + 3 := by simp
  refine ⟨fun j => ?_, fun j => ?_, fun j => ?_, fun j => ?_, by simp, ballo (ballo (ballo (ballo (Below.refl _ _) _) _) _) _⟩
  · exact ((ballo (ballo (ballo (Below.refl _ _) _) _) _).cell (p := ⟨w.heap.size, j, none⟩) (by rw [s1]; simp)).trans (World.cell?_alloc_new w cA tA j)
  · have q := World.cell?_alloc_new (w.alloc (.cells cA tA)) cB tB j
    rw [s1] at q
    exact ((ballo (ballo (Below.refl _ _) _) _).cell (p := ⟨w.heap.size + 1, j, none⟩) (by rw [s2]; simp)).trans q
  · have q := World.cell?_alloc_new ((w.alloc (.cells cA tA)).alloc (.cells cB tB)) cC tC j
    rw [s2] at q
    exact ((ballo (Below.refl _ _) _).cell (p := ⟨w.heap.size + 2, j, none⟩) (by rw [s3]; simp)).trans q
  · have q := World.cell?_alloc_new (((w.alloc (.cells cA tA)).alloc (.cells cB tB)).alloc (.cells cC tC)) cD tD j
    rw [s3] at q
    exact q
set_option maxHeartbeats 2000000 in
theorem one_ok (N : Int) (w : World) :
    Calls Tryz.prog 55 #[.int .i64 N] w fun ev w' => ∃ p pc q qc, ev = .returned (cfV (oneC N) p pc q qc) ∧ At w' (oneC N) p q ∧ Below w.heap.size w w' := by
  go_enter Tryz.func55, Tryz.ntmps55
  go_wp2_with fail
  simp only [Nat.add_assoc, Nat.reduceAdd]
  obtain ⟨m0, m1, m2, m3, m4, m5⟩ := one_mem w _ _ _ _ #[.slice (some ⟨w.heap.size + 1, 0, none⟩) 1 1, .slice (some ⟨w.heap.size + 3, 0, none⟩) 1 1, .int .i64 0, .int .i64 0, .int .i64 0] #[.int .i64 N] #[.int .i64 0] #[.slice (some ⟨w.heap.size + 2, 0, none⟩) 1 1] 57 3 3 46 rfl rfl rfl rfl
  generalize (((w.alloc (.cells #[.slice (some ⟨w.heap.size + 1, 0, none⟩) 1 1, .slice (some ⟨w.heap.size + 3, 0, none⟩) 1 1, .int .i64 0, .int .i64 0, .int .i64 0] 57)).alloc (.cells #[.int .i64 N] 3)).alloc (.cells #[.int .i64 0] 3)).alloc (.cells #[.slice (some ⟨w.heap.size + 2, 0, none⟩) 1 1] 46) = W at *
  have t0 := m0 0
  have t1 := m0 1
  have t2 := m0 2
  have t3 := m0 3
  have t4 := m0 4
  simp only [List.getElem?_toArray, List.getElem?_cons_zero, List.getElem?_cons_succ] at t0 t1 t2 t3 t4
  refine bodyPost_ret (v := .agg #[.slice (some ⟨w.heap.size + 1, 0, none⟩) 1 1, .slice (some ⟨w.heap.size + 3, 0, none⟩) 1 1, .int .i64 0, .int .i64 0, .int .i64 0]) (by simp [results, Tryz.results55, go_sem, t0, t1, t2, t3, t4]; try rfl) rfl ?_
  refine ⟨_, _, _, _, rfl, ⟨fun i hi => ?_, fun i hi => ?_⟩, m5⟩
  · obtain rfl : i = 0 := by have : i < 1 := hi; omega
    exact ⟨_, 0, rfl, by omega, m1 0⟩
  · obtain rfl : i = 0 := by have : i < 1 := hi; omega
    refine ⟨_, 0, some ⟨w.heap.size + 2, 0, none⟩, 1, rfl, by omega, m3 0, fun j hj => ?_, fun h => by cases h⟩
    obtain rfl : j = 0 := by have : j < 1 := hj; omega
    exact ⟨_, 0, rfl, by omega, m2 0⟩
theorem oneC_is (N : Int) (h1 : 1 ≤ N) (h2 : N ≤ 256) : (oneC N).is 0 ∧ ¬ (oneC N).wide := by
  have hs : (oneC N).shp := ⟨rfl, fun i _ => rfl⟩
  refine ⟨Or.inr (Or.inr ⟨rfl, ?_, hs, ?_⟩), ?_⟩
  · unfold Cf.bad2 oneC
    simp only
    rintro (h | h | ⟨i, hi, h⟩ | ⟨i, hi, k, hk, h⟩ | h | h | h) <;> omega
  · unfold Cf.bad3 oneC
    simp only
    rintro ⟨i, hi, k, hk, hne, h⟩
    omega
  · unfold Cf.wide oneC
    simp only
    rintro (h | h | ⟨i, hi, h⟩) <;> omega
theorem one_fr : nfr (fun _ => (0 : Int)) 1 1001 = [0] := (nfr_is (by omega) (by simp) (by simp)).symm
theorem one1 : fit 0 (cv 0 3) = some (2, 0) := by decide +kernel
theorem one2 : takeF 0 (2, 0) (cv 0 3) = [(0, 1)] := by decide +kernel
theorem one3 : pgs [(0, 1)] = 2 := by decide +kernel
set_option maxRecDepth 100000 in
set_option maxHeartbeats 8000000 in
theorem zoned_ok (w : World) (e : Nat → Addr) (he : Errs w e) :
    Calls Tryz.prog 20 #[] w fun ev w' => ev = .returned (.bool true) ∧ Below w.heap.size w w' := by
  have HE := hide he
  clear he
  go_enter Tryz.func20, Tryz.ntmps20
  go_wp2_with fail
  refine (one_ok 3 w).mono ?_
  rintro ev w1 ⟨p, pc, q, qc, rfl, A1, b1⟩
  have HN := hide (znew_ok (oneC 3) p q pc qc w1 e ((unhide HE).below b1).three A1 (oneC_is 3 (by omega) (by omega)).2 (oneC_is 3 (by omega) (by omega)).1)
  clear A1
  unfold cfV at *
  go_wp2_with fail
  refine (unhide HN).mono ?_
  rintro ev w2 ⟨z, nb, fm, tm, rfl, D2, fr2, b2⟩
  have F2 := btr b1 b2
  have hnd : nd0 (oneC 3).P 0 = ⟨3, cv 0 3, []⟩ := rfl
  have hfr : (fun i => nfr ((oneC 3).D i) (oneC 3).n 1001) 0 = [0] := one_fr
  have hn1 : (oneC 3).n = 1 := rfl
  have hm0 : (oneC 3).mn = 0 := rfl
  have HT := hide (ztake_any z _ _ _ _ nb fm tm _ _ 0 0 false w2 e ((unhide HE).below F2) D2 (by rw [hn1]; omega))
  clear HN
  unfold ptr at *
  go_wp2_with fail
  refine (unhide HT).mono ?_
  rintro ev w3 hT
  have htk : tkC 0 0 false (nd0 (oneC 3).P 0) = 2 := by
    rw [hnd]
    simp only [tkC, one1, one2, one3]
    decide
  have hfd : ((fun i => nfr ((oneC 3).D i) (oneC 3).n 1001) 0).find? (fun i => tkC 0 (oneC 3).mn false (nd0 (oneC 3).P i) == 2) = some 0 := by
    simp only [hfr, hm0]
    simp [htk]
  rcases hT with ⟨a, _, rfl, _, hh⟩ | ⟨x', i, at', hx, hx', _, _, hf, hi, hat, rfl, D3, K3⟩
  · exfalso
    rcases hh with ⟨_, hh | hh | hh⟩ | ⟨x', hx, _, _, _, hf, _⟩
    · exact hh (by rw [hn1]; omega)
    · omega
    · omega
    · obtain rfl : x' = 0 := by omega
      rw [hfd] at hf
      cases hf
  · obtain rfl : x' = 0 := by omega
    rw [hfd] at hf
    obtain rfl : 0 = i := Option.some.inj hf
    have hat2 : at' = 2 := by rw [hat, hnd]; simp [tkA, one1]
    subst hat2
    have hp : pgs ((up (nd0 (oneC 3).P) 0 (tkN 0 (nd0 (oneC 3).P 0))) 0).F = 2 := by
      rw [up_at, hnd]; simp only [tkN, one1, one2, one3]
    have F3 := F2.trans (K3.below (N := w.heap.size) (by have := fr2 0 hi; have := b1.size; omega) (by have := fr2 0 hi; have := b1.size; omega) F2.size)
    have HF := zfree_ok z _ _ _ _ nb fm tm _ _ 0 _ (D3.b (ballo (Below.refl _ _) (.cells #[.int .i64 0, .int .i64 2, .int .i64 0] 60))) hi
    rw [hp] at HF
    have HF := hide (show Calls Tryz.prog 25 #[ptr z, .int .i64 0] _ _ from HF)
    have q := World.cell?_alloc_new w3 #[.int .i64 0, .int .i64 2, .int .i64 0] 60
    have q0 := q 0
    have q1 := q 1
    have q2 := q 2
    have F4 := ballo F3 (.cells #[.int .i64 0, .int .i64 2, .int .i64 0] 60)
    have hsz : (w3.alloc (.cells #[.int .i64 0, .int .i64 2, .int .i64 0] 60)).heap.size = w3.heap.size + 1 := by simp
    clear HT hat D3 K3 D2 fr2 hfd htk hf hfr hnd hn1 hm0 q hp hx
    unfold ptr at *
    go_wp2_with fail
    refine (unhide HF).mono ?_
    rintro ev w4 ⟨rfl, b4⟩
    have F5 := btr F4 b4
    have t0 := (b4.cell (p := ⟨w3.heap.size, 0, none⟩) (by rw [hsz]; simp)).trans q0
    have t1 := (b4.cell (p := ⟨w3.heap.size, 1, none⟩) (by rw [hsz]; simp)).trans q1
    have t2 := (b4.cell (p := ⟨w3.heap.size, 2, none⟩) (by rw [hsz]; simp)).trans q2
    simp only [List.getElem?_toArray, List.getElem?_cons_zero, List.getElem?_cons_succ] at t0 t1 t2
    clear HF q0 q1 q2
    go_wp2
    go_ret
    exact ⟨rfl, F5⟩
end Dz
end Go.Proofs.YtealnnppoffmnaaGreatDoor
namespace Go.Proofs.YtealnnppoffmnaaGreatDoor
open Go.RowKit Go.Maps
namespace Dz
open Fr Bd Zn
theorem Cf.is_ex (c : Cf) : ∃ i : Int, c.is i := by
  by_cases h1 : c.bad2
  · exact ⟨2, Or.inl ⟨rfl, h1⟩⟩
  · by_cases h2 : c.shp
    · by_cases h3 : c.bad3
      · exact ⟨3, Or.inr (Or.inl ⟨rfl, h1, Or.inr h3⟩)⟩
      · exact ⟨0, Or.inr (Or.inr ⟨rfl, h1, h2, h3⟩)⟩
    · exact ⟨3, Or.inr (Or.inl ⟨rfl, h1, Or.inl h2⟩)⟩
theorem Cf.is_err {c : Cf} {i : Int} (h : c.is i) (h0 : i ≠ 0) (e : Nat → Addr) : ∃ a : Nat, a < 10 ∧ i = (a : Int) + 1 ∧ errC e i = .iface 212 (.pointer (some (e a))) := by
  rcases h with ⟨rfl, _⟩ | ⟨rfl, _⟩ | ⟨h, _⟩
  · exact ⟨1, by omega, rfl, rfl⟩
  · exact ⟨2, by omega, rfl, rfl⟩
  · exact absurd h h0
/-- The acts of an argument's slice. -/
structure ZA where
  s : ByteArray
  x : Int
  o : Int
  u : Bool
  px : Int
  pa : Int
  po : Int
def ZActs (w : World) (p : Option Addr) (n : Nat) (A : Nat → ZA) : Prop := ∀ i, i < n → ∃ blk off, p = some ⟨blk, off, none⟩ ∧ blk < w.heap.size ∧ w.cell? ⟨blk, off + i * 7, none⟩ = some (.string (A i).s) ∧ w.cell? ⟨blk, off + i * 7 + 1, none⟩ = some (.int .i64 (A i).x) ∧ w.cell? ⟨blk, off + i * 7 + 2, none⟩ = some (.int .i64 (A i).o) ∧ w.cell? ⟨blk, off + i * 7 + 3, none⟩ = some (.bool (A i).u) ∧ w.cell? ⟨blk, off + i * 7 + 4, none⟩ = some (.int .i64 (A i).px) ∧ w.cell? ⟨blk, off + i * 7 + 5, none⟩ = some (.int .i64 (A i).pa) ∧ w.cell? ⟨blk, off + i * 7 + 6, none⟩ = some (.int .i64 (A i).po)
theorem ZActs.b {w w' : World} {p : Option Addr} {n : Nat} {A : Nat → ZA} (h : ZActs w p n A) (hb : Below w.heap.size w w') : ZActs w' p n A := fun i hi => by
  obtain ⟨blk, off, hp, hl, c0, c1, c2, c3, c4, c5, c6⟩ := h i hi
  exact ⟨blk, off, hp, Nat.lt_of_lt_of_le hl hb.size, (hb.cell (p := ⟨blk, _, none⟩) hl).trans c0, (hb.cell (p := ⟨blk, _, none⟩) hl).trans c1, (hb.cell (p := ⟨blk, _, none⟩) hl).trans c2, (hb.cell (p := ⟨blk, _, none⟩) hl).trans c3, (hb.cell (p := ⟨blk, _, none⟩) hl).trans c4, (hb.cell (p := ⟨blk, _, none⟩) hl).trans c5, (hb.cell (p := ⟨blk, _, none⟩) hl).trans c6⟩
theorem box_turn {w w' : World} {b A B : Nat} {c : Cf} {p q : Option Addr} {pc qc : Nat} {LA LB : List Bl} (h : Box w b c p pc q qc) (hA : Mp w A LA) (hB : Mp w B LB) (hk : Kept A B w w') : Box w' b c p pc q qc :=
  ⟨cell_kept h.c0 hA hB hk, cell_kept h.c1 hA hB hk, cell_kept h.c2 hA hB hk, cell_kept h.c3 hA hB hk, cell_kept h.c4 hA hB hk, Nat.lt_of_lt_of_le h.lt hk.size⟩
theorem low_any {o mn : Int} {nd : Nat → Nd} {L : List Nat} (h1 : L.any (fun i => tkC o mn false (nd i) == 1) = true) (h2 : L.find? (fun i => tkC o mn true (nd i) == 2) = none) : False := by
  rw [List.any_eq_true] at h1
  obtain ⟨i, hi, h⟩ := h1
  rw [List.find?_eq_none] at h2
  have h3 := h2 i hi
  cases hf : fit o (nd i).F with
  | none => simp [tkC, hf] at h
  | some x => simp [tkC, hf] at h3
theorem tk_min {o mn : Int} {d : Nd} (h : tkC o mn false d = 2) : mn ≤ pgs (tkN o d).F := by
  cases hf : fit o d.F with
  | none => simp [tkC, hf] at h
  | some x =>
    simp only [tkC, hf, tkN] at h ⊢
    split at h
    · cases h
    · rename_i hh
      simp at hh; exact hh
set_option maxRecDepth 100000 in
set_option maxHeartbeats 16000000 in
theorem zmin_ok (c : Cf) (p q : Option Addr) (pc qc : Nat) (lp : Option Addr) (ln lc : Nat) (A : Nat → ZA) (w : World) (e : Nat → Addr) (he : Errs w e) (h : At w c p q) (hpc : p = none → pc = 0) (hz : ZActs w lp ln A) :
    Calls Tryz.prog 4 #[cfV c p pc q qc, .slice lp ln lc] w fun ev w' => ev = .returned (.bool true) ∧ Below w.heap.size w w' := by
  have F1 := ballo (Below.refl w.heap.size w) (.cells #[.slice p c.n pc, .slice q c.m qc, .int .i64 c.mn, .int .i64 c.lw, .int .i64 c.hi] 51)
  have BX := box_new w c p q pc qc 51
  have HZO := hide (zoned_ok _ e (he.below F1))
  have HWD := hide (fun w1 (hb : Below w.heap.size w w1) => wide_ok c p q pc qc w1 (h.b hb))
  have HE := hide he
  have HA := hide h
  have HAC := hide hz
  clear he h hz
  unfold cfV
  go_enter Tryz.func4, Tryz.ntmps4
  go_upto_region 1 with (fail)
  generalize w.alloc (.cells #[.slice p c.n pc, .slice q c.m qc, .int .i64 c.mn, .int .i64 c.lw, .int .i64 c.hi] 51) = W at *
  have hbx := BX.lt
  go_wp2_with fail
  refine (unhide HZO).mono ?_
  rintro ev w1 ⟨rfl, b1⟩
  have G1 := btr F1 b1
  obtain ⟨x0, x1, x2, x3, x4, _⟩ := BX.b b1
  have HW := hide ((unhide HWD) w1 G1)
  unfold cfV at *
  clear HZO HWD
  go_wp2_with fail
  refine (unhide HW).mono ?_
  rintro ev w2 ⟨d, rfl, hd, b2⟩
  have G2 := btr G1 b2
  rcases hd with ⟨rfl, _⟩ | ⟨rfl, hnw⟩
  · go_wp2
    go_ret
    exact ⟨rfl, G2⟩
  by_cases hl : 60 < ln
  · have d1 : decide ((60 : Int) < ln) = true := by simp; omega
    go_wp2
    go_ret
    exact ⟨rfl, G2⟩
  have d1 : decide ((60 : Int) < ln) = false := by simp; omega
  obtain ⟨y0, y1, y2, y3, y4, _⟩ := (BX.b b1).b b2
  have HCO := hide (conf_ok c p q pc qc w2 ((unhide HA).b G2) hnw hpc)
  unfold cfV at *
  clear HW x0 x1 x2 x3 x4
  go_wp2_with fail
  refine (unhide HCO).mono ?_
  rintro ev w3 ⟨p', q', pc', qc', rfl, A3, b3⟩
  have G3 := btr G2 b3
  have BX3 := hide (((BX.b b1).b b2).b b3)
  clear HCO BX y0 y1 y2 y3 y4
  obtain ⟨i, hi⟩ := Cf.is_ex c
  by_cases hi0 : i = 0
  · subst hi0
    have HN := hide (znew_ok c p' q' pc' qc' w3 e ((unhide HE).below G3).three A3 hnw hi)
    have hk4 : c.n ≤ 20 := Nat.le_of_not_lt fun h => hnw (Or.inl h)
    unfold cfV at *
    clear A3
    go_wp2_with fail
    refine (unhide HN).mono ?_
    rintro ev w4 ⟨z, nb, fm, tm, rfl, D4, fr4, b4⟩
    have G4 := btr G3 b4
    have BX4 := hide ((unhide BX3).b b4)
    have hs3 := G3.size
    have HFR : Hid (∀ i, i < c.n → w.heap.size ≤ fm i ∧ w.heap.size ≤ tm i) := fun i hi => by have := fr4 i hi; omega
    have HWB : w.heap.size < w4.heap.size := by have := b1.size; have := b2.size; have := b3.size; have := b4.size; omega
    clear HN BX3 fr4
    unfold ptr at *
    go_wp2_with fail
    have D4 := hide D4
    have G4 := hide G4
    go_loopw [8] (fun a wr => ∃ (j : Nat) (nd : Nat → Nd), a = .int .i64 j ∧ j ≤ ln ∧ Hid (DZ wr z c.mn c.lw c.hi c.n nb fm tm nd (fun i => nfr (c.D i) c.n 1001)) ∧ Hid (Below w.heap.size w wr) ∧ Hid (Box wr w.heap.size c p pc q qc)) (fun a _ => ln - (RowKit.intOf a).toNat)
    case atStart => exact ⟨0, _, rfl, Nat.zero_le _, D4, G4, BX4⟩
    case round =>
      clear D4 G4 BX4 HWB
      obtain ⟨j, nd, rfl, hj, hD, hB, hX⟩ := hrel
      have hge : (0 : Int) ≤ j := by omega
      by_cases hjl : j < ln
      · have hlt : (j : Int) < ln := by omega
        obtain ⟨blk, off, rfl, hbl, c0, c1, c2, c3, c4, c5, c6⟩ := (unhide HAC) j hjl
        generalize A j = a at *
        obtain ⟨s, x, o, u, px, pa, po⟩ := a
        simp only at c0 c1 c2 c3 c4 c5 c6
        have k0 := ((unhide hB).cell (p := ⟨blk, _, none⟩) hbl).trans c0
        have k1 := ((unhide hB).cell (p := ⟨blk, _, none⟩) hbl).trans c1
        have k2 := ((unhide hB).cell (p := ⟨blk, _, none⟩) hbl).trans c2
        have k3 := ((unhide hB).cell (p := ⟨blk, _, none⟩) hbl).trans c3
        have k4 := ((unhide hB).cell (p := ⟨blk, _, none⟩) hbl).trans c4
        have k5 := ((unhide hB).cell (p := ⟨blk, _, none⟩) hbl).trans c5
        have k6 := ((unhide hB).cell (p := ⟨blk, _, none⟩) hbl).trans c6
        clear c0 c1 c2 c3 c4 c5 c6
        have f5 := ballo (Below.refl wr.heap.size wr) (.cells #[.string s, .int .i64 x, .int .i64 o, .bool u, .int .i64 px, .int .i64 pa, .int .i64 po] 62)
        have m5 := World.cell?_alloc_new wr #[.string s, .int .i64 x, .int .i64 o, .bool u, .int .i64 px, .int .i64 pa, .int .i64 po] 62
        have hs5 : (wr.alloc (.cells #[.string s, .int .i64 x, .int .i64 o, .bool u, .int .i64 px, .int .i64 pa, .int .i64 po] 62)).heap.size = wr.heap.size + 1 := by simp
        have D5 := hide ((unhide hD).b f5)
        have B5 := hide ((unhide hB).trans (f5.mono (unhide hB).size))
        have X5 := hide ((unhide hX).b f5)
        have HT := hide (ztake_any z c.mn c.lw c.hi c.n nb fm tm nd _ x o false _ e ((unhide HE).below (unhide B5)) (unhide D5) hk4)
        have a1 := m5 1
        have a2 := m5 2
        simp only [List.getElem?_toArray, List.getElem?_cons_zero, List.getElem?_cons_succ] at a1 a2
        clear hD hB hX f5 m5
        go_upto_region 11 with (fail)
        generalize wr.alloc (.cells #[.string s, .int .i64 x, .int .i64 o, .bool u, .int .i64 px, .int .i64 pa, .int .i64 po] 62) = W5 at *
        generalize hbb : wr.heap.size = bb at *
        clear k0 k1 k2 k3 k4 k5 k6 hbb
        go_wp2_with fail
        refine (unhide HT).mono ?_
        rintro ev w6 hT
        rcases hT with ⟨a, ha10, rfl, b6, hr⟩ | ⟨x', i, at', hx, hx', ho0, ho6, hf, hin, hat, rfl, D6, K6⟩
        · have B6 := hide (ballo (btr (unhide B5) b6) (.cells #[.int .i64 0, .int .i64 0, .int .i64 0] 60))
          have D6 := hide (((unhide D5).b b6).b (ballo (Below.refl _ _) (.cells #[.int .i64 0, .int .i64 0, .int .i64 0] 60)))
          have X6 := hide (((unhide X5).b b6).b (ballo (Below.refl _ _) (.cells #[.int .i64 0, .int .i64 0, .int .i64 0] 60)))
          have HRR := hide hr
          clear HT hr
          have hlt6 : bb < w6.heap.size := by have := b6.size; omega
          have a1' := ((ballo (Below.refl _ w6) (.cells #[.int .i64 0, .int .i64 0, .int .i64 0] 60)).cell (p := ⟨bb, 1, none⟩) hlt6).trans ((b6.cell (p := ⟨bb, 1, none⟩) (by rw [hs5]; simp)).trans a1)
          have a2' := ((ballo (Below.refl _ w6) (.cells #[.int .i64 0, .int .i64 0, .int .i64 0] 60)).cell (p := ⟨bb, 2, none⟩) hlt6).trans ((b6.cell (p := ⟨bb, 2, none⟩) (by rw [hs5]; simp)).trans a2)
          clear D5 X5 B5 b6 a1 a2
          go_upto_region 16 with (fail)
          generalize hW6 : w6.alloc (.cells #[.int .i64 0, .int .i64 0, .int .i64 0] 60) = W6 at *
          have hs7 : w6.heap.size < W6.heap.size := by rw [← hW6]; simp
          clear hW6
          by_cases ha6 : a = 6
          · subst ha6
            go_wp2_with fail
            refine (coded_sent 6 (by omega) 7 (by omega) W6 e ((unhide HE).below (unhide B6))).mono ?_
            rintro ev w8 ⟨rfl, b8⟩
            have B8 := hide (btr (unhide B6) b8)
            have D8 := hide ((unhide D6).b b8)
            have HT2 := hide (ztake_any z c.mn c.lw c.hi c.n nb fm tm nd _ x o true w8 e ((unhide HE).below (unhide B8)) (unhide D8) hk4)
            have a18 := (b8.cell (p := ⟨bb, 1, none⟩) (by simp only; omega)).trans a1'
            have a28 := (b8.cell (p := ⟨bb, 2, none⟩) (by simp only; omega)).trans a2'
            clear D6 B6 X6 a1' a2' b8
            go_wp2_with fail
            refine (unhide HT2).mono ?_
            rintro ev w9 hT2
            clear HT2
            have HR := unhide HRR
            rcases HR with ⟨hh, _⟩ | ⟨x1, hx1, hx1k, _, _, hfd, haa⟩
            · exact absurd hh (by decide)
            have hany : (nfr (c.D x1) c.n 1001).any (fun i => tkC o c.mn false (nd i) == 1) = true := by
              cases hb' : (nfr (c.D x1) c.n 1001).any (fun i => tkC o c.mn false (nd i) == 1) with
              | true => rfl
              | false => simp only [hb'] at haa; exact absurd haa (by decide)
            rcases hT2 with ⟨a', ha10', rfl, b9, hr2⟩ | ⟨x', i, at', hx, hx', ho0, ho6, hf, hin, hat, rfl, D9, K9⟩
            · exfalso
              rcases hr2 with ⟨_, hh⟩ | ⟨x2, hx2, _, _, _, hfd2, _⟩
              · rcases hh with hh | hh | hh
                · exact hh (by omega)
                · omega
                · omega
              · obtain rfl : x1 = x2 := by omega
                exact low_any hany hfd2
            · have hi' := (unhide HFR) i hin
              have B9 := (unhide B8).trans (K9.below (N := w.heap.size) hi'.1 hi'.2 (unhide B8).size)
              clear haa hany hfd hf hat D9 K9 B8 D8 hi' hx hx1 hx' hx1k ho0 ho6 hin
              go_wp2
              go_ret
              exact ⟨rfl, B9⟩
          · go_wp2_with fail
            refine (coded_other a ha10 7 (by omega) W6 e ((unhide HE).below (unhide B6))).mono ?_
            rintro ev w8 ⟨rfl, b8⟩
            have B8 := hide (btr (unhide B6) b8)
            have D8 := hide ((unhide D6).b b8)
            have X8 := hide ((unhide X6).b b8)
            clear D6 B6 X6 a1' a2' b8
            go_wp2_with fail
            go_roundw
            case rel => exact ⟨j + 1, nd, by go_num, by omega, D8, B8, X8⟩
            case measure => simp [RowKit.intOf]; omega
        · have hi' := (unhide HFR) i hin
          have hFm := ((unhide D5).bd i hin).f
          have hTm := ((unhide D5).bd i hin).t
          have B6' := (unhide B5).trans (K6.below (N := w.heap.size) hi'.1 hi'.2 (unhide B5).size)
          have X6' := box_turn (unhide X5) hFm hTm K6
          have B6 := hide (ballo B6' (.cells #[.int .i64 (i : Int), .int .i64 at', .int .i64 o] 60))
          have D6' := D6.b (ballo (Below.refl _ _) (.cells #[.int .i64 (i : Int), .int .i64 at', .int .i64 o] 60))
          have X6 := hide (X6'.b (ballo (Below.refl _ _) (.cells #[.int .i64 (i : Int), .int .i64 at', .int .i64 o] 60)))
          have HF := hide (zfree_ok z c.mn c.lw c.hi c.n nb fm tm _ _ i _ D6' hin)
          have htk : tkC o c.mn false (nd i) = 2 := by
            have := List.find?_some hf
            simpa using this
          have hmin : c.mn ≤ pgs ((up nd i (tkN o (nd i))) i).F := by rw [up_at]; exact tk_min htk
          have D6 := hide D6'
          clear hf hat K6 htk HT D5 X5 B5 B6' X6' D6' a1 a2 hFm hTm
          generalize up nd i (tkN o (nd i)) = nd2 at *
          generalize pgs (nd2 i).F = pf at *
          unfold ptr at *
          go_wp2_with fail
          refine (unhide HF).mono ?_
          rintro ev w8 ⟨rfl, b8⟩
          have B8 := hide (btr (unhide B6) b8)
          have D8 := hide ((unhide D6).b b8)
          have X8 := (unhide X6).b b8
          have y2 := X8.c2
          have X8 := hide X8
          have d8 : decide (pf < c.mn) = false := by simp; omega
          clear D6 B6 X6 b8 HF
          go_wp2_with fail
          go_roundw
          case rel => exact ⟨j + 1, nd2, by go_num, by omega, D8, B8, X8⟩
          case measure => simp [RowKit.intOf]; omega
      · have hjn : j = ln := by omega
        subst hjn
        have hnl : ¬ (j : Int) < j := by omega
        go_wp2
        go_ret
        exact ⟨rfl, unhide hB⟩
  · obtain ⟨a, _, _, ha⟩ := Cf.is_err hi hi0 e
    have HN := znew_bad c p' q' pc' qc' w3 e ((unhide HE).below G3).three A3 hnw i hi hi0
    rw [ha] at HN
    have HN := hide HN
    unfold cfV at *
    clear A3
    go_wp2_with fail
    refine (unhide HN).mono ?_
    rintro ev w4 ⟨rfl, b4⟩
    go_wp2
    go_ret
    exact ⟨rfl, btr G3 b4⟩
end Dz
end Go.Proofs.YtealnnppoffmnaaGreatDoor
