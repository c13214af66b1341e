/- The library's SortStableFunc at few ints, package zone's nearest, by contract: the nodes by how far they are, of as far ones by number · Package zone's nearest, by contract. -/
import Derived.Test.YtcbmfakjfoggaaaGreatDoorG12
import Derived.Shelf.SlSortCmp.Insertion1
import Derived.Ground.SlsfProg
import Derived.Test.YtcbmfakjfoggaaaGreatDoorG10
import Derived.Laws.EntriesVeiled
import Derived.BigQuiet
namespace Go.Proofs.YtcbmfakjfoggaaaGreatDoor
open Go.RowKit Go.Sort Go.Shelf Go.Lib
namespace Dz
open Fr Bd Zn
def insA_ren : Go.Shelf.Ren := ⟨fun | 20 => 279 | n => n, fun | 0 => 0 | 3 => 3 | 4 => 4 | 22 => 38 | 24 => 3 | 25 => 198 | 44 => 406 | n => n, fun | n => n⟩
set_option maxRecDepth 100000 in
theorem insA : Go.Proofs.SlLaysF.n20 Tryz.prog insA_ren := {
  mixed := by kernel_rfl
  f20 := ⟨Tryz.f279.name, by decide, Tryz.func279.trans (congrArg some (by kernel_rfl))⟩
  t0 := Tryz.underlying0
  a0 := Tryz.isAgg0
  z0 := Tryz.sizeOf0
  v0 := Tryz.zeroValue0
  t3 := Tryz.underlying3
  a3 := Tryz.isAgg3
  z3 := Tryz.sizeOf3
  v3 := Tryz.zeroValue3
  t4 := Tryz.underlying4
  a4 := Tryz.isAgg4
  z4 := Tryz.sizeOf4
  v4 := Tryz.zeroValue4
  t22 := Tryz.underlying38
  a22 := Tryz.isAgg38
  z22 := Tryz.sizeOf38
  v22 := Tryz.zeroValue38
  a24 := Tryz.isAgg3
  z24 := Tryz.sizeOf3
  t25 := Tryz.underlying198
  a25 := Tryz.isAgg198
  z25 := Tryz.sizeOf198
  v25 := Tryz.zeroValue198 }
/-- Nearer, or as near and of a lower number. -/
def Lx (D : Nat → Int) (i j : Nat) : Prop := D i < D j ∨ (D i = D j ∧ i < j)
theorem lx_uniq {D : Nat → Int} : ∀ {l m : List Nat}, l.Pairwise (Lx D) → m.Pairwise (Lx D) → (∀ x, x ∈ l ↔ x ∈ m) → l = m
  | [], [], _, _, _ => rfl
  | [], y :: m, _, _, h => absurd ((h y).2 (List.mem_cons_self ..)) (by simp)
  | x :: l, [], _, _, h => absurd ((h x).1 (List.mem_cons_self ..)) (by simp)
  | x :: l, y :: m, hl, hm, h => by
    rw [List.pairwise_cons] at hl hm
    have e : x = y := by
      rcases List.mem_cons.1 ((h x).1 (List.mem_cons_self ..)) with e | hx
      · exact e
      · rcases List.mem_cons.1 ((h y).2 (List.mem_cons_self ..)) with e | hy
        · exact e.symm
        · have h1 := hl.1 y hy
          have h2 := hm.1 x hx
          unfold Lx at h1 h2
          omega
    subst e
    have irr : ∀ z, ¬ Lx D z z := fun z hz => by unfold Lx at hz; omega
    rw [lx_uniq hl.2 hm.2 (fun z => ?_)]
    constructor
    · intro hz
      rcases List.mem_cons.1 ((h z).1 (List.mem_cons_of_mem _ hz)) with e | h'
      · subst e; exact absurd (hl.1 z hz) (irr z)
      · exact h'
    · intro hz
      rcases List.mem_cons.1 ((h z).2 (List.mem_cons_of_mem _ hz)) with e | h'
      · subst e; exact absurd (hm.1 z hz) (irr z)
      · exact h'
section
variable {α : Type} [Inhabited α]
def Good (D : Nat → Int) (v : α → Nat) (n : Nat) (d : Array α) : Prop := (d.toList.map v).Pairwise (Lx D) ∧ ∀ i, i ∈ d.toList.map v ↔ i < n
theorem sort1 (D : Nat → Int) (v : α → Nat) (a : α) (ha : v a = 0) : Good D v 1 (insertionSort (fun x y => decide (D (v x) < D (v y))) #[a] 0 1) := by
  unfold insertionSort Good
  rw [insOuter, if_neg (by omega)]
  simp [ha]
theorem sort2 (D : Nat → Int) (v : α → Nat) (a b : α) (ha : v a = 0) (hb : v b = 1) : Good D v 2 (insertionSort (fun x y => decide (D (v x) < D (v y))) #[a, b] 0 2) := by
  unfold insertionSort Good
  rw [insOuter, if_pos (by omega), insOuter, if_neg (by omega)]
  by_cases h : D 1 < D 0 <;> (simp [insInner, swp, h, ha, hb, Lx]; first | omega | exact ⟨by omega, fun i => by omega⟩ | (intro i; omega))
theorem sort3 (D : Nat → Int) (v : α → Nat) (a b c : α) (ha : v a = 0) (hb : v b = 1) (hc : v c = 2) : Good D v 3 (insertionSort (fun x y => decide (D (v x) < D (v y))) #[a, b, c] 0 3) := by
  unfold insertionSort Good
  rw [insOuter, if_pos (by omega), insOuter, if_pos (by omega), insOuter, if_neg (by omega)]
  by_cases h : D 1 < D 0 <;> by_cases h2 : D 2 < D 0 <;> by_cases h3 : D 2 < D 1 <;> (simp [insInner, swp, h, h2, h3, ha, hb, hc, Lx]; first | omega | exact ⟨by omega, fun i => by omega⟩ | (intro i; omega))
theorem sort4 (D : Nat → Int) (v : α → Nat) (a b c e : α) (ha : v a = 0) (hb : v b = 1) (hc : v c = 2) (he : v e = 3) : Good D v 4 (insertionSort (fun x y => decide (D (v x) < D (v y))) #[a, b, c, e] 0 4) := by
  unfold insertionSort Good
  rw [insOuter, if_pos (by omega), insOuter, if_pos (by omega), insOuter, if_pos (by omega), insOuter, if_neg (by omega)]
  by_cases h : D 1 < D 0 <;> by_cases h2 : D 2 < D 0 <;> by_cases h3 : D 2 < D 1 <;> by_cases h4 : D 3 < D 0 <;> by_cases h5 : D 3 < D 1 <;> by_cases h6 : D 3 < D 2 <;> (simp [insInner, swp, h, h2, h3, h4, h5, h6, ha, hb, hc, he, Lx]; first | omega | exact ⟨by omega, fun i => by omega⟩ | (intro i; omega))
end
theorem nfr_mem (r : Nat → Int) (n : Nat) : ∀ f x, x ∈ nfr r n f ↔ x < n ∧ 0 ≤ r x ∧ r x < f
  | 0, x => by simp [nfr]
  | f + 1, x => by
    have h := nfr_mem r n f x
    simp only [nfr, List.mem_append, List.mem_filter, List.mem_range, decide_eq_true_eq, h]
    omega
theorem nfr_lx (r : Nat → Int) (n : Nat) : ∀ f, (nfr r n f).Pairwise (Lx r)
  | 0 => List.Pairwise.nil
  | f + 1 => by
    unfold nfr
    rw [List.pairwise_append]
    refine ⟨nfr_lx r n f, ?_, fun x hx y hy => ?_⟩
    · have h : (List.range n).Pairwise (· < ·) := List.pairwise_lt_range
      refine (h.filter _).imp_of_mem (fun {x y} hx hy hxy => ?_)
      simp at hx hy
      unfold Lx; omega
    · rw [nfr_mem] at hx
      simp at hy
      unfold Lx; omega
theorem nfr_is {r : Nat → Int} {n : Nat} {l : List Nat} (hb : ∀ i, i < n → 0 ≤ r i ∧ r i ≤ 1000) (h1 : l.Pairwise (Lx r)) (h2 : ∀ i, i ∈ l ↔ i < n) : l = nfr r n 1001 :=
  lx_uniq h1 (nfr_lx r n 1001) (fun x => by rw [h2, nfr_mem]; constructor; (intro h; have := hb x h; omega); (intro h; exact h.1))
theorem nfr_good {D : Nat → Int} {n : Nat} (hb : ∀ i, i < n → 0 ≤ D i ∧ D i ≤ 1000) : (nfr D n 1001).length = n ∧ ∀ i ∈ nfr D n 1001, i < n := by
  have h1 : (nfr D n 1001).Perm (List.range n) := by
    rw [List.perm_ext_iff_of_nodup]
    · intro x
      rw [nfr_mem, List.mem_range]
      constructor
      · intro h; exact h.1
      · intro h; have := hb x h; omega
    · exact (nfr_lx D n 1001).imp (fun {x y} h e => by subst e; unfold Lx at h; omega)
    · exact List.nodup_range
  exact ⟨by rw [h1.length_eq, List.length_range], fun i hi => ((nfr_mem D n 1001 i).1 hi).1⟩
/-- A node's number as a value. -/
def encN {k : Nat} (x : Fin (k + 1)) : Value := .int .i64 ((x.val : Nat) : Int)
theorem near_lt {k : Nat} (D : Nat → Int) : ltOf (fun (x y : Fin (k + 1)) => cmpv (D x.val) (D y.val)) = fun x y => decide (D x.val < D y.val) := by
  funext x y
  unfold ltOf cmpv
  by_cases h1 : D x.val < D y.val
  · simp [h1]
  · by_cases h2 : D y.val < D x.val <;> simp [h1, h2]
theorem near_sorted (D : Nat → Int) : ∀ (k : Nat), k ≤ 3 → Good D (fun x : Fin (k + 1) => x.val) (k + 1) (insertionSort (ltOf (fun (x y : Fin (k + 1)) => cmpv (D x.val) (D y.val))) (Array.ofFn (fun x : Fin (k + 1) => x)) 0 (k + 1))
  | 0, _ => by rw [near_lt]; exact sort1 D _ _ rfl
  | 1, _ => by rw [near_lt]; exact sort2 D _ _ _ rfl rfl
  | 2, _ => by rw [near_lt]; exact sort3 D _ _ _ _ rfl rfl rfl
  | 3, _ => by rw [near_lt]; exact sort4 D _ _ _ _ _ rfl rfl rfl rfl
theorem sw_heap {α : Type} [Inhabited α] {enc : α → Value} {w : World} {g m : Nat} {os : Array Obj} {cur : Array Value} {e : TypeId} {fr : Nat × Nat} (d : Array α) (hb : w.heap[g]? = some (.cells cur e fr)) :
    (sortWorld enc w g 0 m d os).heap[g]? = some (.cells (putCells enc 0 d cur) e fr) := by
  have hg : g < w.heap.size := (Array.getElem?_eq_some_iff.1 hb).1
  unfold sortWorld
  rw [heap_grow_old _ _ (by simpa using hg)]
  simp [putRow, mapBlock, Sort.ahead, Array.getElem?_modify, hb, onCells]
theorem sw_kept {α : Type} [Inhabited α] {enc : α → Value} {w : World} {g m : Nat} {os : Array Obj} (d : Array α) : Kept g g w (sortWorld enc w g 0 m d os) := by
  unfold sortWorld
  refine ⟨rfl, rfl, rfl, by simp, fun k hk hne _ => ?_⟩
  rw [heap_grow_old _ _ (by simpa using hk)]
  simp [putRow, mapBlock, Sort.ahead, Array.getElem?_modify, Ne.symm hne]
theorem put_take {α : Type} [Inhabited α] (enc : α → Value) (cur : Array Value) (d : Array α) (h : d.size ≤ cur.size) : (putCells enc 0 d cur).toList.take d.size = d.toList.map enc := by
  apply List.ext_getElem?
  intro j
  by_cases hj : j < d.size
  · rw [List.getElem?_take_of_lt hj, Array.getElem?_toList]
    simp [putCells, hj, show j < cur.size by omega]
  · rw [List.getElem?_take_eq_none (by omega), List.getElem?_eq_none (by simp; omega)]
theorem sw_own {α : Type} [Inhabited α] {enc : α → Value} {w w' : World} {B g cap n : Nat} {xs : List Value} {d : Array α} (h : SW enc w g 0 d w') (hrow : w.ownsRow B 3 1 (.slice (some ⟨g, 0, none⟩) n cap) n xs) (hd : d.size = n) :
    w'.ownsRow B 3 1 (.slice (some ⟨g, 0, none⟩) n cap) n (d.toList.map enc) ∧ Kept g g w w' := by
  obtain ⟨m, os, rfl⟩ := h
  refine ⟨?_, sw_kept d⟩
  rcases hrow.2 with ⟨h0, _⟩ | ⟨g', cap', cur, hv, hb, hg, hle, hcap, hcs, _⟩
  · cases h0
  simp only [Value.slice.injEq, Option.some.injEq, Addr.mk.injEq, and_true, true_and] at hv
  obtain ⟨rfl, rfl⟩ := hv
  subst hd
  refine ⟨by simp, Or.inr ⟨g, cap, _, rfl, hb, sw_heap d hg, hle, hcap, by simp [putCells, hcs], ?_⟩⟩
  rw [Nat.mul_one]
  exact put_take enc cur d (by omega)
end Dz
end Go.Proofs.YtcbmfakjfoggaaaGreatDoor
namespace Go.Proofs.YtcbmfakjfoggaaaGreatDoor
open Go.RowKit Go.Sort Go.Shelf Go.Lib
namespace Dz
open Fr Bd Zn
/-- Numbers that lie in a slice whose block is below a bound. -/
def NumsB (w : World) (B : Nat) (p : Option Addr) (n : Nat) (z : Nat → Int) : Prop := ∀ i, i < n → ∃ blk off, p = some ⟨blk, off, none⟩ ∧ blk < B ∧ w.cell? ⟨blk, off + i, none⟩ = some (.int .i64 (z i))
theorem eg91 : ∀ args w, (callFunc 198 args).run Tryz.prog w = .ok (.enter 198 args) w := enters_of Tryz.func198 (by kernel_rfl) rfl
set_option maxHeartbeats 1000000 in
theorem near1_ok (D : Nat → Int) (n c fb : Nat) (p : Option Addr) (i j : Nat) (w : World) (hi : i < n) (hj : j < n) (hf : w.cell? ⟨fb, 0, none⟩ = some (.slice p n c)) (hN : ∃ blk off, p = some ⟨blk, off, none⟩ ∧ w.cell? ⟨blk, off + i, none⟩ = some (.int .i64 (D i)) ∧ w.cell? ⟨blk, off + j, none⟩ = some (.int .i64 (D j))) :
    Calls Tryz.prog 198 (#[.int .i64 i, .int .i64 j] ++ #[.pointer (some ⟨fb, 0, none⟩)]) w fun ev w' => ev = .returned (.int .i64 (cmpv (D i) (D j))) ∧ ∃ q, w' = w.drewN q := by
  obtain ⟨blk, off, rfl, c1, c2⟩ := hN
  simp only [List.append_toArray, List.cons_append, List.nil_append]
  generalize D i = x at *
  generalize D j = y at *
  have h1 : (i : Int) < n := by omega
  have h2 : (j : Int) < n := by omega
  have h3 : (0 : Int) ≤ i := by omega
  have h4 : (0 : Int) ≤ j := by omega
  have H := fun w => hide (compare_ok x y w)
  generalize cmpv x y = r at *
  go_enter Tryz.func198, Tryz.ntmps198
  go_wp2_with fail
  go_quiet ((go_at_call 199; exact Calls.quiet_of_same (unhide (H _))))
  go_wp2
  go_ret
  exact ⟨rfl, _, rfl⟩
theorem cell_sw {α : Type} [Inhabited α] {enc : α → Value} {w : World} {g m : Nat} {os : Array Obj} {d : Array α} {a : Addr} {v : Value} (h : w.cell? a = some v) (hne : a.block ≠ g) : (sortWorld enc w g 0 m d os).cell? a = some v := by
  have hl := World.block_lt_of_cell? w a h
  exact ((sw_kept d).cell hl hne hne).trans h
set_option maxHeartbeats 1000000 in
theorem stable_ok (D : Nat → Int) (k g cap fb c B : Nat) (p : Option Addr) (w : World) (hk : k ≤ 3) (hf : w.cell? ⟨fb, 0, none⟩ = some (.slice p (k + 1) c)) (hfl : fb < B) (hN : NumsB w B p (k + 1) D)
    (hrow : w.ownsRow B 3 1 (.slice (some ⟨g, 0, none⟩) (k + 1) cap) (k + 1) (ivs (List.range (k + 1)))) (hb : ∀ i, i < k + 1 → 0 ≤ D i ∧ D i ≤ 1000) :
    Calls Tryz.prog 247 #[.slice (some ⟨g, 0, none⟩) (k + 1) cap, .int .i64 ((k + 1 : Nat) : Int), .func (.func 198) #[] #[.pointer (some ⟨fb, 0, none⟩)]] w fun ev w' => ev = .returned (.tuple #[]) ∧ w'.ownsRow B 3 1 (.slice (some ⟨g, 0, none⟩) (k + 1) cap) (k + 1) (ivs (nfr D (k + 1) 1001)) ∧ Kept g g w w' := by
  have hgB := hrow.lt g rfl
  have hH : Holds (encN (k := k)) w g 0 (Array.ofFn (fun x : Fin (k + 1) => x)) := fun j hj => by
    have hj' : j < k + 1 := by simpa using hj
    refine ⟨?_, hrow.frozenAt _⟩
    rw [Nat.zero_add, hrow.cellAt j (by omega)]
    simp [ivs, hj', encN]
  have hcmp : CmpLays1 Tryz.prog 198 #[.pointer (some ⟨fb, 0, none⟩)] (encN (k := k)) (fun x y => cmpv (D x.val) (D y.val)) g 0 (Array.ofFn (fun x : Fin (k + 1) => x)).size w := fun m os dk _ x y => by
    obtain ⟨blk, off, e1, h1, c1⟩ := hN x.val x.isLt
    obtain ⟨blk2, off2, e2, h2, c2⟩ := hN y.val y.isLt
    rw [e1] at e2
    simp only [Option.some.injEq, Addr.mk.injEq, and_true] at e2
    obtain ⟨rfl, rfl⟩ := e2
    refine (near1_ok D (k + 1) c fb p x.val y.val _ x.isLt y.isLt (cell_sw hf (by simp only; omega)) ⟨blk, off, e1, cell_sw c1 (by simp only; omega), cell_sw c2 (by simp only; omega)⟩).mono ?_
    rintro ev w' ⟨rfl, q, rfl⟩
    exact ⟨rfl, q, #[], by rw [grow_empty]⟩
  have hR : Row1 (encN (k := k)) w g 0 (Array.ofFn (fun x : Fin (k + 1) => x)) := ⟨fun _ => rfl, hH, hgB.2⟩
  have hcon := Any.insertionSortCmpFunc_s insA (encN (k := k)) (fun x y => cmpv (D x.val) (D y.val)) 198 #[.pointer (some ⟨fb, 0, none⟩)] g 0 cap 0 (k + 1) (Array.ofFn (fun x : Fin (k + 1) => x)) (Array.ofFn (fun x : Fin (k + 1) => x)) w w eg91 hcmp hR rfl (SW.start hH) (Nat.zero_le _) (by simp) (by simp; omega)
  have hsz : (Array.ofFn (fun x : Fin (k + 1) => x)).size = k + 1 := by simp
  rw [hsz, show ((0 : Nat) : Int) = 0 from rfl] at hcon
  change Calls Tryz.prog 279 _ _ _ at hcon
  have hgood := near_sorted D k hk
  generalize hins : Sort.insertionSort (ltOf fun x y => cmpv (D x.val) (D y.val)) (Array.ofFn (fun x : Fin (k + 1) => x)) 0 (k + 1) = d at *
  have hl := nfr_is hb hgood.1 hgood.2
  have hdn : d.size = k + 1 := by
    have := congrArg List.length hl
    rw [(nfr_good hb).1] at this
    simpa using this
  have hiv : ivs (nfr D (k + 1) 1001) = d.toList.map (encN (k := k)) := by
    rw [← hl]; simp [ivs, encN, Function.comp_def]
  have HC := hide (hcon.mono (fun ev w' h => show ev = .returned (.tuple #[]) ∧ w'.ownsRow B 3 1 (.slice (some ⟨g, 0, none⟩) (k + 1) cap) (k + 1) (ivs (nfr D (k + 1) 1001)) ∧ Kept g g w w' from ⟨h.1, by rw [hiv]; exact (sw_own h.2 hrow hdn).1, (sw_own h.2 hrow hdn).2⟩))
  clear hcon hcmp hR hH hl hdn hiv hgood hins hrow hN hf
  have d1 : decide ((20 : Int) ≤ ((k + 1 : Nat) : Int)) = false := by simp; omega
  have d2 : decide ((20 : Int) < ((k + 1 : Nat) : Int)) = false := by simp; omega
  generalize ivs (nfr D (k + 1) 1001) = xs at *
  generalize k + 1 = n at *
  go_enter Tryz.func247, Tryz.ntmps247
  go_wp2_with fail
  refine wp_loop_rounds 1 ?_
  rw [rounds_succ]
  go_wp2_with fail
  refine (unhide HC).mono ?_
  rintro ev w' ⟨rfl, h1, h2⟩
  go_wp2_with fail
  refine wp_loop_rounds 1 ?_
  rw [rounds_succ]
  go_wp2
  go_end0
  exact ⟨rfl, h1, h2⟩
theorem sortst_ok (D : Nat → Int) (k g cap fb c B : Nat) (p : Option Addr) (w : World) (hk : k ≤ 3) (hf : w.cell? ⟨fb, 0, none⟩ = some (.slice p (k + 1) c)) (hfl : fb < B) (hN : NumsB w B p (k + 1) D)
    (hrow : w.ownsRow B 3 1 (.slice (some ⟨g, 0, none⟩) (k + 1) cap) (k + 1) (ivs (List.range (k + 1)))) (hb : ∀ i, i < k + 1 → 0 ≤ D i ∧ D i ≤ 1000) :
    Calls Tryz.prog 197 #[.slice (some ⟨g, 0, none⟩) (k + 1) cap, .func (.func 198) #[] #[.pointer (some ⟨fb, 0, none⟩)]] w fun ev w' => ev = .returned (.tuple #[]) ∧ w'.ownsRow B 3 1 (.slice (some ⟨g, 0, none⟩) (k + 1) cap) (k + 1) (ivs (nfr D (k + 1) 1001)) ∧ Kept g g w w' := by
  have H := hide (stable_ok D k g cap fb c B p w hk hf hfl hN hrow hb)
  clear hf hN hrow hb
  generalize ivs (nfr D (k + 1) 1001) = xs at *
  generalize k + 1 = n at *
  go_enter Tryz.func197, Tryz.ntmps197
  go_wp2_with fail
  refine (unhide H).mono ?_
  rintro ev w' ⟨rfl, h1, h2⟩
  go_wp2_with fail
  go_end0
  exact ⟨rfl, h1, h2⟩
set_option maxHeartbeats 4000000 in
theorem nearest_ok (D : Nat → Int) (n c : Nat) (p : Option Addr) (w : World) (h1 : 1 ≤ n) (h4 : n ≤ 4) (hN : Nums w p n D) (hb : ∀ i, i < n → 0 ≤ D i ∧ D i ≤ 1000) :
    Calls Tryz.prog 144 #[.slice p n c] w fun ev w' => ∃ g cap, ev = .returned (.slice (some ⟨g, 0, none⟩) n cap) ∧ w'.ownsRow w.heap.size 3 1 (.slice (some ⟨g, 0, none⟩) n cap) n (ivs (nfr D n 1001)) ∧ Below w.heap.size w w' := by
  have HS := hide (fun W fb g cap B (h : W.cell? ⟨fb, 0, none⟩ = some (.slice p n c)) (h2 : fb < B) (h3 : NumsB W B p n D) (h5 : W.ownsRow B 3 1 (.slice (some ⟨g, 0, none⟩) n cap) n (ivs (List.range n))) => show Calls Tryz.prog 197 #[.slice (some ⟨g, 0, none⟩) n cap, .func (.func 198) #[] #[.pointer (some ⟨fb, 0, none⟩)]] W fun ev w' => ev = .returned (.tuple #[]) ∧ w'.ownsRow B 3 1 (.slice (some ⟨g, 0, none⟩) n cap) n (ivs (nfr D n 1001)) ∧ Kept g g W w' by
    obtain ⟨k, rfl⟩ : ∃ k, n = k + 1 := ⟨n - 1, by omega⟩
    exact sortst_ok D k g cap fb c B p W (by omega) h h2 h3 h5 hb)
  have hfb := World.cell?_alloc_new w #[.slice p n c] 38 0
  have F1 := ballo (Below.refl w.heap.size w) (.cells #[.slice p n c] 38)
  have HN : Hid (Nums w p n D) := hN
  obtain ⟨i0, hi0, hz0, hz1, hz2⟩ := info_parts info3
  have HI := hide hi0
  have HZ := hide hz0
  have HZ1 := hide hz1
  have HZ2 := hide hz2
  have hsz1 : (w.alloc (.cells #[.slice p n c] 38)).heap.size = w.heap.size + 1 := by simp
  clear hb hN hi0 hz0 hz1 hz2
  go_enter Tryz.func144, Tryz.ntmps144
  go_wp2_with (at_make; refine wpList_make_full _ rfl _ _ 38 rfl (w.heap.size + 1) 3 i0 (.int .i64 0) 1 Tryz.underlying38 (unhide HI) (unhide HZ) (unhide HZ1) .i64 .i64 _ _ n rfl rfl rfl rfl (by rw [unhide HZ2]; omega) (by unfold maxLen; omega) (by simp) ?_; rw [hsz1]; intro w1 own1 gr1)
  have F2 : Below w.heap.size w w1 := F1.grown gr1 (by simp) (by simp)
  have hfb1 : w1.cell? ⟨w.heap.size, 0, none⟩ = some (.slice p n c) := ((Below.refl _ _ |>.grown gr1 (Nat.le_refl _) (fun _ h => by cases h)).cell (p := ⟨w.heap.size, 0, none⟩) (by simp)).trans hfb
  clear hfb F1 gr1 hsz1
  have hlen := own1.1
  generalize (madeCells (Value.int IntKind.i64 0).cells (n * 1)).toList = xs0 at *
  go_loopw [10] (fun a wr => ∃ (i : Nat) (xs : List Value), a = .int .i64 i ∧ i ≤ n ∧ Hid (xs.length = n) ∧ Hid (wr.ownsRow (w.heap.size + 1) 3 1 (.slice (some ⟨w.heap.size + 1, 0, none⟩) n n) n xs) ∧ Hid (∀ j : Nat, j < i → xs[j]? = some (.int .i64 (j : Int))) ∧ Hid (Below w.heap.size w wr) ∧ Hid (wr.cell? ⟨w.heap.size, 0, none⟩ = some (.slice p n c))) (fun a _ => n - (RowKit.intOf a).toNat)
  case atStart => exact ⟨0, xs0, rfl, Nat.zero_le _, hide (by simpa using hlen), own1, fun j hj => by omega, F2, hfb1⟩
  case round =>
    clear own1 F2 hfb1 hlen
    obtain ⟨i, xs, rfl, hi, hx, ho, hv, hB, hc⟩ := hrel
    have hge : (0 : Int) ≤ i := by omega
    by_cases hin : i < n
    · have hlt : (i : Int) < n := by omega
      have hcell : ∃ u, wr.cell? ⟨w.heap.size + 1, i, none⟩ = some u := by
        rw [(unhide ho).cellAt i (by omega)]
        exact ⟨_, List.getElem?_eq_getElem (by rw [unhide hx]; exact hin)⟩
      obtain ⟨u, hu⟩ := hcell
      have hf := (unhide ho).frozenAt i
      have ho2 := hide ((unhide ho).stored i (.int .i64 (i : Int))).1
      have hx2 : Hid ((xs.set i (.int .i64 (i : Int))).length = n) := by show _ = _; rw [List.length_set]; exact unhide hx
      have hv2 : Hid (∀ j : Nat, j < i + 1 → (xs.set i (.int .i64 (i : Int)))[j]? = some (.int .i64 (j : Int))) := fun j hj => by
        have hx' := unhide hx
        rw [List.getElem?_set]
        by_cases e : i = j
        · subst e; simp; omega
        · rw [if_neg e]; exact (unhide hv) j (by omega)
      have hB2 := hide ((unhide hB).setCell (p := ⟨w.heap.size + 1, i, none⟩) (by simp) (.int .i64 (i : Int)))
      have hc2 : Hid ((wr.setCell ⟨w.heap.size + 1, i, none⟩ (.int .i64 (i : Int))).cell? ⟨w.heap.size, 0, none⟩ = some (.slice p n c)) := (cso (by simp)).trans (unhide hc)
      clear ho hx hv hB hc
      go_wp2_with fail
      go_roundw
      case rel => exact ⟨i + 1, _, by go_num, by omega, hx2, ho2, hv2, hB2, hc2⟩
      case measure => simp [RowKit.intOf]; omega
    · have hin2 : i = n := by omega
      subst hin2
      have hnl : ¬ (i : Int) < i := by omega
      have hxs : xs = ivs (List.range i) := by
        apply List.ext_getElem?
        intro j
        by_cases hj : j < i
        · rw [(unhide hv) j hj]; simp [ivs, hj]
        · rw [List.getElem?_eq_none (by rw [unhide hx]; omega), List.getElem?_eq_none (by simp [ivs]; omega)]
      subst hxs
      have HX := hide ((unhide HS) wr w.heap.size (w.heap.size + 1) i (w.heap.size + 1) (unhide hc) (Nat.lt_succ_self _) (fun j hj => by
        obtain ⟨blk, off, e, hl, hcc⟩ := (unhide HN) j hj
        exact ⟨blk, off, e, by omega, ((unhide hB).cell (p := ⟨blk, off + j, none⟩) hl).trans hcc⟩) (unhide ho))
      clear HS HN hv hx ho hc
      go_wp2_with fail
      refine (unhide HX).mono ?_
      rintro ev w3 ⟨rfl, o3, k3⟩
      have hs := (unhide hB).size
      have hl3 := (o3.lt _ rfl)
      go_wp2_with fail
      go_ret
      exact ⟨_, _, rfl, own_less o3 (by omega), (unhide hB).trans (k3.below (by omega) (by omega) hs)⟩
end Dz
end Go.Proofs.YtcbmfakjfoggaaaGreatDoor
