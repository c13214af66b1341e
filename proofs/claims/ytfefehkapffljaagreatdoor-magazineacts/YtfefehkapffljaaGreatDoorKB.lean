/- K5 · K6 · K7 · K8. -/
import Derived.Test.YtfefehkapffljaaGreatDoorKA
import Derived.Test.YtfefehkapffljaaGreatDoorGA
import Derived.Shelf.Spec.SlicesInsert
import Derived.Lib.AppendZerosOnto
import Derived.Laws.NewBlocks
import Derived.Laws.AppendOwn
import Derived.Shelf.Spec.SlicesInsertGrow
import Derived.Test.YtfefehkapffljaaGreatDoorGD
import Derived.Shelf.RegionOpenPlain
import Derived.Deep.RegionLaw
import Derived.Lib.SliceRun
namespace Go.Proofs.YtfefehkapffljaaGreatDoor
open Go.RowKit Go.Lib
namespace Sb
theorem ovl_apart (w : World) (g vb k lb cb _n _c m vc : Nat) (hvb : vb ≠ g) (tA tB : TypeId) (kA kB : Nat) (hsa : w.shape? vb = some (tA, kA)) (hsb : w.shape? g = some (tB, kB)) (hkB : kB ≠ 0) (hfa : w.frozen? ⟨vb, 0, none⟩ = false) (hfe : w.frozen? ⟨vb, kA, none⟩ = false) :
   (callFunc 162 #[.slice (some ⟨vb, 0, none⟩) m vc, .slice (some ⟨g, k, none⟩) lb cb]).run Tryz.prog w = .ok (.value (.bool false)) w := by
 rw [run_callFunc_extern Tryz.func162 (by kernel_rfl) (by kernel_rfl) (by kernel_rfl) (e := Extern.SlicesOverlaps.overlaps #[112, 112] #[4]) (by kernel_rfl),
   Lib.run_overlaps_apart w 112 4 116 Tryz.underlying112 1 (by intro w; exact Tryz.sizeOf116 w) ⟨vb, 0, none⟩ ⟨g, k, none⟩ m vc lb cb hvb tA tB kA kB hsa hsb hkB hfa hfe]
 rfl
set_option maxHeartbeats 4000000 in
set_option maxRecDepth 100000 in
theorem insert_shift (g n c k vb : Nat) (cs : List Value) (x : Value) (w : World) (hk : k < n) (hroom : n + 1 ≤ c) (hc63 : c ≤ 9223372036854775807) (hvb : vb ≠ g) (hcl : cs.length = n)
   (hcs : ∀ j v, cs[j]? = some v → w.cell? ⟨g, j, none⟩ = some v) (hsp : ∀ j, j < n + 1 → (w.cell? ⟨g, j, none⟩).isSome = true) (hfz : ∀ j, w.frozen? ⟨g, j, none⟩ = false)
   (hv : w.cell? ⟨vb, 0, none⟩ = some x) (h1c : ∀ v ∈ cs, v.oneCell' = true) (h1v : x.oneCell' = true)
   (tA tB : TypeId) (kA kB : Nat) (hsa : w.shape? vb = some (tA, kA)) (hsb : w.shape? g = some (tB, kB)) (hkB : kB ≠ 0) (hfa : w.frozen? ⟨vb, 0, none⟩ = false) (hfe : w.frozen? ⟨vb, kA, none⟩ = false) :
   Calls Tryz.prog 123 #[.slice (some ⟨g, 0, none⟩) n c, .int .i64 k, .slice (some ⟨vb, 0, none⟩) 1 1] w fun e w' =>
     e = .returned (.slice (some ⟨g, 0, none⟩) (n + 1) c) ∧ w' = (w.drew.setCells g (k + 1) (cs.drop k)).setCells g k [x] := by
 have hsz : (Tryz.prog.info? 116).map (·.size) = some 1 := by kernel_rfl
 have hov : ∀ lb cb, (callFunc 162 #[.slice (some ⟨vb, 0, none⟩) 1 1, .slice (some ⟨g, k + 1, none⟩) lb cb]).run Tryz.prog w = .ok (.value (.bool false)) w := fun lb cb => ovl_apart w g vb (k + 1) lb cb n c 1 1 hvb tA tB kA kB hsa hsb hkB hfa hfe
 have hdl : (cs.drop k).length = n - k := by rw [List.length_drop, hcl]
 have hw1 : IntKind.i64.wrap ((k : Int) + 1) = (k : Int) + 1 := by rw [IntKind.wrap_i64]; omega
 have hb1 : (0 : Int) ≤ (k : Int) + 1 := by omega
 have hin : k ≤ n := by omega
 have htn : ((k : Int) + 1).toNat = k + 1 := by omega
 have hb2 : ¬ (c = k + 1) := by omega
 have hb3 : (k : Int) ≤ (n : Int) + 1 := by omega
 have hb4 : ¬ (c = k) := by omega
 have hcp1 : ∀ ty dc sc, (Builtin.copy_ #[112, 112] ty #[.slice (some ⟨g, k + 1, none⟩) (n - k) dc, .slice (some ⟨g, k, none⟩) (n + 1 - k) sc]).run Tryz.prog w.drew = .ok (goInt (cs.drop k).length) (w.drew.setCells g (k + 1) (cs.drop k)) := fun ty dc sc =>
   run_copy_cells w.drew _ _ ty 116 g (k + 1) (n - k) dc ⟨g, k, none⟩ (n + 1 - k) sc (cs.drop k) Tryz.underlying112 hsz (by rw [hdl]; simp only [Nat.min_def]; split <;> omega)
     (fun j v hj => by rw [Addr.add_lit]; exact hcs (k + j) v (by rwa [List.getElem?_drop] at hj))
     (fun j hj => hsp _ (by rw [hdl] at hj; omega)) (fun j hj => hfz _) (fun v hv => h1c v (List.mem_of_mem_drop hv))
 obtain ⟨W1, hW1⟩ : ∃ W1, W1 = w.drew.setCells g (k + 1) (cs.drop k) := ⟨_, rfl⟩
 have hsp1 : ∀ j, j < n + 1 → (W1.cell? ⟨g, j, none⟩).isSome = true := fun j hj => by
   rw [hW1]
   exact isSome_setCells g _ _ w.drew (fun t ht => hsp (k + 1 + t) (by rw [hdl] at ht; omega)) _ (hsp j hj)
 have hcp2 : ∀ (W : World), (∀ x, W.cell? x = W1.cell? x) → (∀ x, W.frozen? x = W1.frozen? x) → ∀ ty dc, (Builtin.copy_ #[112, 112] ty #[.slice (some ⟨g, k, none⟩) (n + 1 - k) dc, .slice (some ⟨vb, 0, none⟩) 1 1]).run Tryz.prog W = .ok (goInt 1) (W.setCells g k [x]) := fun W hWc hWf ty dc =>
   run_copy_cells W _ _ ty 116 g k (n + 1 - k) dc ⟨vb, 0, none⟩ 1 1 [x] Tryz.underlying112 hsz (by simp only [List.length_singleton, Nat.min_def]; split <;> omega)
     (fun j v hj => by
       obtain rfl : j = 0 := by rcases j with _ | j <;> simp at hj ⊢
       rw [Addr.add_lit, hWc, hW1, World.cell?_setCells_out g _ _ _ _ (fun h _ => absurd h hvb)]
       simp at hj; subst hj
       exact hv)
     (fun j hj => by rw [hWc]; exact hsp1 _ (by simp at hj; omega)) (fun j hj => by rw [hWf, hW1, World.frozen?_setCells]; exact hfz _) (fun v hv => by simp at hv; subst hv; exact h1v)
 rw [← hW1] at hcp1
 have mixed : Tryz.prog.follows .mixedOrders = true := by kernel_rfl
 go_enter Tryz.func123, Tryz.ntmps123
 go_wp2_with (simp only [hov])
 go_region_law_o (refine step_copy_runI rfl _ _ 112 112 rfl _ _ (by simp [Act.eval, Act.put]) (by simp [Act.eval, Act.put]) (hcp1 _ _ _) ?_)
 go_wp2_with (at_builtin; refine wpList_copy_runI _ rfl _ _ 112 112 rfl _ _ rfl rfl (hcp2 _ (fun _ => rfl) (fun _ => rfl) _ _) ?_)
 go_ret
 first | exact ⟨rfl, rfl⟩ | exact ⟨rfl, by rw [hW1]⟩
end Sb
end Go.Proofs.YtfefehkapffljaaGreatDoor
namespace Go.Proofs.YtfefehkapffljaaGreatDoor
open Go.RowKit Go.Lib
namespace Sb
theorem info94' : (Tryz.prog.info? 116).map (fun i => (i.zero, i.size, i.bytes)) = some (some (.pointer none), 1, 8) := by kernel_rfl
theorem info94 : ∃ i0, Tryz.prog.info? 116 = some i0 ∧ i0.zero = some (.pointer none) ∧ i0.size = 1 ∧ i0.bytes = 8 := by
 have h := info94'
 cases hi : Tryz.prog.info? 116 with
 | none => rw [hi] at h; cases h
 | some i0 =>
   rw [hi] at h
   simp only [Option.map_some, Option.some.injEq, Prod.mk.injEq] at h
   exact ⟨i0, rfl, h.1, h.2.1, h.2.2⟩
set_option maxHeartbeats 4000000 in
set_option maxRecDepth 100000 in
theorem insert_grow (g n c k vb : Nat) (cs : List Value) (x : Value) (w : World) (hk : k < n) (hnc : n ≤ c) (hroom : c < n + 1) (hbig : n ≤ 100000) (hcl : cs.length = n)
   (hcs : ∀ j v, cs[j]? = some v → w.cell? ⟨g, j, none⟩ = some v) (hv : w.cell? ⟨vb, 0, none⟩ = some x) (h1c : ∀ v ∈ cs, v.oneCell' = true) (h1v : x.oneCell' = true) :
   Calls Tryz.prog 123 #[.slice (some ⟨g, 0, none⟩) n c, .int .i64 k, .slice (some ⟨vb, 0, none⟩) 1 1] w fun e w' =>
     e = .returned (.slice (some ⟨w.heap.size, 0, none⟩) (n + 1) (grownCap w (n + 1) c 116)) ∧
     w' = (((w.alloc (.cells ((cs.take k).toArray ++ Builtin.zeroCells (Value.pointer none).cells (n + 1 - k) ++ Builtin.zeroCells (Value.pointer none).cells (grownCap w (n + 1) c 116 - (n + 1))) 116)).drew.setCells w.heap.size k [x]).drew).setCells w.heap.size (k + 1) (cs.drop k) := by
 have mixed : Tryz.prog.follows .mixedOrders = true := by kernel_rfl
 obtain ⟨i0, hi0, hz0, hzs, hzb⟩ := info94
 have hz2 : ¬ ((k : Int) = (n : Int)) := by omega
 have hz3 : (c : Int) < (n : Int) + 1 := by omega
 have hsz : (Tryz.prog.info? 116).map (·.size) = some 1 := by rw [hi0]; simp [hzs]
 have hbw : g < w.heap.size := block_lt_of_cell (hcs 0 _ (List.getElem?_eq_getElem (by omega)))
 have hvw : vb < w.heap.size := block_lt_of_cell hv
 have hkk : (n : Int) + 1 - (k : Int) = ((n + 1 - k : Nat) : Int) := by omega
 have hik : k + (n + 1 - k) = n + 1 := by omega
 have hold : (Builtin.firstCells i0.size k (.slice (some ⟨g, 0, none⟩) k c)).run Tryz.prog w.drew = .ok (cs.take k).toArray w.drew := by
   rw [hzs]
   exact run_firstCells_some w.drew 1 k ⟨g, 0, none⟩ k c (cs.take k) (by rw [List.length_take]; omega) (fun j v hj => by
     rw [Addr.add_lit]
     rw [List.getElem?_take] at hj
     split at hj
     · simpa using hcs j v hj
     · cases hj)
 have hrz : ∀ ty, (Builtin.append_ #[112, 3] ty #[.slice (some ⟨g, 0, none⟩) k c, .int .i64 ((n : Int) + 1 - (k : Int))]).run Tryz.prog w =
     .ok (.slice (some ⟨w.heap.size, 0, none⟩) (n + 1) (grownCap w (n + 1) c 116)) (w.drew.alloc (.cells ((cs.take k).toArray ++ Builtin.zeroCells (Value.pointer none).cells (n + 1 - k) ++ Builtin.zeroCells (Value.pointer none).cells (grownCap w (n + 1) c 116 - (n + 1))) 116)) := fun ty => by
   have h := Lib.run_append_grow_zeros w 112 3 ty 116 i0 _ .i64 .i64 Tryz.underlying112 Tryz.underlying3 hi0 hz0 (some ⟨g, 0, none⟩) k c (cs.take k) hold (n + 1 - k) (by omega) (by omega) (by omega) (by omega) (by rw [hzb]; omega) (by rw [hzb, hik]; exact growslice_fits hroom (by omega))
   rw [hik] at h
   rw [hkk]
   exact h
 obtain ⟨G, hG⟩ : ∃ G, G = grownCap w (n + 1) c 116 := ⟨_, rfl⟩
 obtain ⟨ROW, hROW⟩ : ∃ ROW : Array Value, ROW = (cs.take k).toArray ++ Builtin.zeroCells (Value.pointer none).cells (n + 1 - k) ++ Builtin.zeroCells (Value.pointer none).cells (G - (n + 1)) := ⟨_, rfl⟩
 rw [← hG] at hrz ⊢
 rw [← hROW] at hrz ⊢
 have hRl : n + 1 ≤ ROW.size := by
   rw [hROW]
   simp [Builtin.zeroCells, Value.cells]
   omega
 obtain ⟨W1, hW1⟩ : ∃ W1, W1 = w.drew.alloc (.cells ROW 116) := ⟨_, rfl⟩
 rw [← hW1] at hrz
 have hN : ∀ j, j < n + 1 → (W1.cell? ⟨w.heap.size, j, none⟩).isSome = true := fun j hj => by
   rw [hW1, World.cell?_alloc_at (w := w.drew) ROW _ w.heap.size j rfl, Array.getElem?_eq_getElem (by omega)]; rfl
 have hNf : ∀ j, W1.frozen? ⟨w.heap.size, j, none⟩ = false := fun j => by rw [hW1]; exact World.frozen?_alloc_at (w := w.drew) ROW _ w.heap.size j rfl
 have hOb : ∀ j v, w.cell? ⟨g, j, none⟩ = some v → W1.cell? ⟨g, j, none⟩ = some v := fun j v h => by rw [hW1, World.cell?_alloc_past (w := w.drew) _ g j hbw]; exact h
 have hOv : ∀ j v, w.cell? ⟨vb, j, none⟩ = some v → W1.cell? ⟨vb, j, none⟩ = some v := fun j v h => by rw [hW1, World.cell?_alloc_past (w := w.drew) _ vb j hvw]; exact h
 have hcpA : ∀ (W : World), (∀ x, W.cell? x = W1.cell? x) → (∀ x, W.frozen? x = W1.frozen? x) → ∀ ty dc, (Builtin.copy_ #[112, 112] ty #[.slice (some ⟨w.heap.size, k, none⟩) (n + 1 - k) dc, .slice (some ⟨vb, 0, none⟩) 1 1]).run Tryz.prog W = .ok (goInt 1) (W.setCells w.heap.size k [x]) := fun W hWc hWf ty dc =>
   run_copy_cells W _ _ ty 116 w.heap.size k (n + 1 - k) dc ⟨vb, 0, none⟩ 1 1 [x] Tryz.underlying112 hsz (by simp only [List.length_singleton, Nat.min_def]; split <;> omega)
     (fun j v hj => by
       obtain rfl : j = 0 := by rcases j with _ | j <;> simp at hj ⊢
       rw [Addr.add_lit, hWc]
       simp at hj; subst hj
       exact hOv _ _ hv)
     (fun j hj => by rw [hWc]; exact hN _ (by simp at hj; omega)) (fun j hj => by rw [hWf]; exact hNf _) (fun v hv => by simp at hv; subst hv; exact h1v)
 have hGn : n + 1 ≤ G := by rw [hG]; exact grownCap_ge w _ _ _
 have hG63 : G ≤ 9223372036854775807 := by
   have := grownCap_le_maxLen w (n + 1) c 116 (by unfold maxLen; omega)
   rw [← hG] at this
   unfold maxLen at this
   omega
 have hGi : ¬ (G = k) := by omega
 have hGim : ¬ (G = k + 1) := by omega
 have hci : ¬ (c = k) := by omega
 have hbN : g ≠ w.heap.size := by omega
 have hdl : (cs.drop k).length = n - k := by rw [List.length_drop, hcl]
 have hcpB : ∀ (W : World), (∀ y, W.cell? y = (W1.setCells w.heap.size k [x]).cell? y) → (∀ y, W.frozen? y = (W1.setCells w.heap.size k [x]).frozen? y) → ∀ ty dc sc, (Builtin.copy_ #[112, 112] ty #[.slice (some ⟨w.heap.size, k + 1, none⟩) (n - k) dc, .slice (some ⟨g, k, none⟩) (n - k) sc]).run Tryz.prog W = .ok (goInt (cs.drop k).length) (W.setCells w.heap.size (k + 1) (cs.drop k)) := fun W hWc hWf ty dc sc =>
   run_copy_cells W _ _ ty 116 w.heap.size (k + 1) (n - k) dc ⟨g, k, none⟩ (n - k) sc (cs.drop k) Tryz.underlying112 hsz (by rw [hdl]; simp only [Nat.min_def]; split <;> omega)
     (fun j v hj => by
       rw [Addr.add_lit, hWc, World.cell?_setCells_out _ _ _ _ _ (fun h _ => absurd h hbN)]
       exact hOb _ v (hcs (k + j) v (by rwa [List.getElem?_drop] at hj)))
     (fun j hj => by rw [hWc]; rw [hdl] at hj; exact isSome_setCells _ _ _ _ (fun t ht => hN _ (by simp at ht; omega)) _ (hN _ (by omega)))
     (fun j hj => by rw [hWf, World.frozen?_setCells]; exact hNf _) (fun v hv => h1c v (List.mem_of_mem_drop hv))
 subst hW1
 have hE1 : ∀ x, ((w.alloc (.cells ROW 116)).drew).cell? x = (w.drew.alloc (.cells ROW 116)).cell? x := fun x => rfl
 have hE2 : ∀ x, ((w.alloc (.cells ROW 116)).drew).frozen? x = (w.drew.alloc (.cells ROW 116)).frozen? x := fun x => rfl
 have hF1 : ∀ y, (((w.alloc (.cells ROW 116)).drew.setCells w.heap.size k [x]).drew).cell? y = ((w.drew.alloc (.cells ROW 116)).setCells w.heap.size k [x]).cell? y := fun y => rfl
 have hF2 : ∀ y, (((w.alloc (.cells ROW 116)).drew.setCells w.heap.size k [x]).drew).frozen? y = ((w.drew.alloc (.cells ROW 116)).setCells w.heap.size k [x]).frozen? y := fun y => rfl
 have hw1 : IntKind.i64.wrap ((k : Int) + 1) = (k : Int) + 1 := by rw [IntKind.wrap_i64]; omega
 have hb1 : (0 : Int) ≤ (k : Int) + 1 := by omega
 have hin : k ≤ n := by omega
 have htn : ((k : Int) + 1).toNat = k + 1 := by omega
 have hb3 : (k : Int) ≤ (n : Int) := by omega
 clear hkk hik hold hROW hG hRl
 go_enter Tryz.func123, Tryz.ntmps123
 go_wp2_with (first
   | (at_builtin; refine Lib.wpList_append_run _ rfl _ _ _ _ rfl _ _ rfl rfl _ _ (hrz _) ?_)
   | (at_builtin; refine wpList_copy_runI _ rfl _ _ 112 112 rfl _ _ rfl rfl (hcpA _ hE1 hE2 _ _) ?_))
 go_region_law_o (refine step_copy_runI rfl _ _ 112 112 rfl (.slice (some ⟨w.heap.size, k + 1, none⟩) (n - k) (G - (k + 1))) (.slice (some ⟨g, k, none⟩) (n - k) (c - k)) (by simp [Act.eval, Act.put]) (by simp [Act.eval, Act.put]) (hcpB _ hF1 hF2 3 (G - (k + 1)) (c - k)) ?_)
 go_wp2
 go_ret
 exact ⟨rfl, rfl⟩
end Sb
end Go.Proofs.YtfefehkapffljaaGreatDoor
namespace Go.Proofs.YtfefehkapffljaaGreatDoor
open Go.RowKit Go.Lib
namespace Sb
theorem blk_setCell {w : World} {g : Nat} {cur : Array Value} {e : TypeId} {fz : Nat × Nat} (h : w.heap[g]? = some (.cells cur e fz)) (o : Nat) (v : Value) : (w.setCell ⟨g, o, none⟩ v).heap[g]? = some (.cells (cur.setIfInBounds o v) e fz) := by
 simp only [World.setCell, Array.getElem?_modify, h]
 simp
theorem blk_setCells (g : Nat) (e : TypeId) (fz : Nat × Nat) : ∀ (vs : List Value) (o : Nat) (w : World) (cur : Array Value), w.heap[g]? = some (.cells cur e fz) →
   ∃ cur', (w.setCells g o vs).heap[g]? = some (.cells cur' e fz) ∧ cur'.size = cur.size ∧ ∀ j, cur'[j]? = if o ≤ j ∧ j < o + vs.length ∧ j < cur.size then vs[j - o]? else cur[j]?
 | [], o, w, cur, h => ⟨cur, h, rfl, fun j => by rw [if_neg (by simp; omega)]⟩
 | v :: r, o, w, cur, h => by
   obtain ⟨cur', h1, h2, h3⟩ := blk_setCells g e fz r (o + 1) (w.setCell ⟨g, o, none⟩ v) _ (blk_setCell h o v)
   refine ⟨cur', h1, by rw [h2]; simp, fun j => ?_⟩
   rw [h3 j]
   simp only [Array.size_setIfInBounds, List.length_cons, Array.getElem?_setIfInBounds]
   by_cases hj : j = o
   · subst hj
     rw [if_neg (by omega)]
     by_cases hs : j < cur.size
     · rw [if_pos rfl, if_pos hs, if_pos (by omega)]; simp
     · rw [if_pos rfl, if_neg hs, if_neg (by omega), Array.getElem?_eq_none (by omega)]
   · rw [if_neg (Ne.symm hj)]
     by_cases hc : o + 1 ≤ j ∧ j < o + 1 + r.length ∧ j < cur.size
     · rw [if_pos hc, if_pos (by omega)]
       obtain ⟨d, rfl⟩ : ∃ d, j = o + 1 + d := ⟨j - o - 1, by omega⟩
       rw [show o + 1 + d - (o + 1) = d by omega, show o + 1 + d - o = d + 1 by omega, List.getElem?_cons_succ]
     · rw [if_neg hc, if_neg (by omega)]
theorem grown_setCells (g : Nat) : ∀ (vs : List Value) (o : Nat) (w : World), w.grownBy (w.setCells g o vs) (some g)
 | [], _, w => ⟨rfl, rfl, rfl, Nat.le_refl _, fun _ _ _ => rfl⟩
 | v :: r, o, w => by
   have h := grown_setCells g r (o + 1) (w.setCell ⟨g, o, none⟩ v)
   have hsz : (w.setCell ⟨g, o, none⟩ v).heap.size = w.heap.size := by simp [World.setCell]
   exact ⟨h.os, h.tape, h.output, Nat.le_trans (Nat.le_of_eq (hsz.symm)) h.size, fun k hk hne => (h.block k (by rw [hsz]; exact hk) hne).trans (Below.heap_setCell _ _ _ _ (fun e => hne (by rw [e])))⟩
theorem grown_drew (w : World) (row : Option Nat) : w.grownBy w.drew row := ⟨rfl, rfl, rfl, Nat.le_refl _, fun _ _ _ => rfl⟩
theorem grown_trans {w w' w2 : World} {row : Option Nat} (h : w.grownBy w' row) (h2 : w'.grownBy w2 row) : w.grownBy w2 row :=
 ⟨h2.os.trans h.os, h2.tape.trans h.tape, h2.output.trans h.output, Nat.le_trans h.size h2.size, fun k hk hne => (h2.block k (Nat.lt_of_lt_of_le hk h.size) hne).trans (h.block k hk hne)⟩
theorem own_of {w : World} {N0 g n d : Nat} {e : TypeId} {cur : Array Value} {xs : List Value} (hg : w.heap[g]? = some (.cells cur e (0, 0))) (hN : N0 ≤ g) (hd : n ≤ d) (hm : d ≤ maxLen) (hs : cur.size = d) (hl : xs.length = n) (hc : ∀ j, j < n → cur[j]? = xs[j]?) :
   w.ownsRow N0 e 1 (.slice (some ⟨g, 0, none⟩) n d) n xs := by
 refine ⟨by omega, Or.inr ⟨g, d, cur, rfl, hN, hg, hd, hm, by omega, ?_⟩⟩
 apply List.ext_getElem?
 intro j
 rw [Nat.mul_one, List.getElem?_take]
 split
 · rename_i hj
   rw [← hc j hj]; simp
 · rw [List.getElem?_eq_none (by omega)]
set_option maxRecDepth 100000 in
set_option maxHeartbeats 2000000 in
theorem insert_own (N0 : Nat) (p : Option Addr) (n d k vb : Nat) (cs : List Value) (x : Value) (w : World) (h : w.ownsRow N0 116 1 (.slice p n d) n cs) (hk : k ≤ n) (hn : n ≤ 100000) (hN : N0 ≤ w.heap.size)
   (hx : w.heap[vb]? = some (.cells #[x] 116 (0, 0))) (hvb : ∀ g o, p = some ⟨g, o, none⟩ → vb ≠ g) (h1c : ∀ v ∈ cs, v.oneCell' = true) (h1v : x.oneCell' = true) :
   Calls Tryz.prog 123 #[.slice p n d, .int .i64 k, .slice (some ⟨vb, 0, none⟩) 1 1] w fun ev w' => ∃ p' d', ev = .returned (.slice p' (n + 1) d') ∧ w'.ownsRow N0 116 1 (.slice p' (n + 1) d') (n + 1) (ins cs k x) ∧ w.grownBy w' (Value.slice p n d).ownBlock := by
 have hcl : cs.length = n := by have := h.1; omega
 have hv : w.cell? ⟨vb, 0, none⟩ = some x := by rw [cell_of_row w vb 0 _ _ _ hx]; rfl
 by_cases hkn : k = n
 · subst hkn
   have e1 : ins cs k x = cs ++ [x] := by unfold ins; rw [← hcl, List.take_length, List.drop_length]
   rw [e1]
   obtain ⟨i0, hi0, hz0, hzs, hzb⟩ := info94
   have H : Hid (∀ v' w', w'.ownsRow N0 116 1 v' (k + 1) (cs ++ [x]) → w.grownBy w' (Value.slice p k d).ownBlock → ∃ p' d', Ending.returned v' = .returned (.slice p' (k + 1) d') ∧ w'.ownsRow N0 116 1 (.slice p' (k + 1) d') (k + 1) (cs ++ [x]) ∧ w.grownBy w' (Value.slice p k d).ownBlock) := fun v' w' h1 h2 => by
     have h1' := h1
     rcases h1.2 with ⟨_, h3⟩ | ⟨g, cap, cur, rfl, _⟩
     · omega
     · exact ⟨_, _, rfl, h1', h2⟩
   have hnews : ∀ j u, [x][j]? = some u → w.cell? ((⟨vb, 0, none⟩ : Addr).add j) = some u := fun j u hj => by
     obtain rfl : j = 0 := by rcases j with _ | j <;> simp at hj ⊢
     rw [Addr.add_lit]
     simp at hj; subst hj
     exact hv
   have HI := hide hi0
   have HZ := hide hz0
   have HZ1 := hide hzs
   have HZ2 := hide hzb
   have HO := hide h
   obtain ⟨ob, hob⟩ : ∃ ob, (Value.slice p k d).ownBlock = ob := ⟨_, rfl⟩
   have HG := hide (fun w' (g1 : w.grownBy w' (Value.slice p k d).ownBlock) => (by rw [hob] at g1; exact g1 : w.grownBy w' ob))
   rw [hob] at H ⊢
   have HNW := hide hnews
   clear hi0 hz0 hzs hzb h hnews hob
   by_cases hd : d = k
   · subst hd
     go_enter Tryz.func123, Tryz.ntmps123
     go_wp2_with (at_builtin; refine wpList_append_own _ rfl _ _ 112 rfl N0 116 i0 (.pointer none) 1 8 Tryz.underlying112 (unhide HI) (unhide HZ) (unhide HZ1) (unhide HZ2) rfl (by decide) _ _ cs rfl (unhide HO) ⟨vb, 0, none⟩ 1 1 [x] rfl rfl (unhide HNW) (fun u hu => by simp at hu; subst hu; exact h1v) (by unfold maxLen; omega) (by omega) hN ?_; intro v' w' o1 g1 _)
     go_ret
     exact (unhide H) _ _ o1 ((unhide HG) _ g1)
   · go_enter Tryz.func123, Tryz.ntmps123
     go_wp2_with (at_builtin; refine wpList_append_own _ rfl _ _ 112 rfl N0 116 i0 (.pointer none) 1 8 Tryz.underlying112 (unhide HI) (unhide HZ) (unhide HZ1) (unhide HZ2) rfl (by decide) _ k cs rfl (unhide HO) ⟨vb, 0, none⟩ 1 1 [x] rfl rfl (unhide HNW) (fun u hu => by simp at hu; subst hu; exact h1v) (by unfold maxLen; omega) (by omega) hN ?_; intro v' w' o1 g1 _)
     go_ret
     exact (unhide H) _ _ o1 ((unhide HG) _ g1)
 · have hkn' : k < n := by omega
   obtain ⟨hl, hh⟩ := h
   rcases hh with ⟨_, h0⟩ | ⟨g, cap, cur, hv', hNg, hg, hcap, hmax, hsz, htk⟩
   · omega
   · simp only [Value.slice.injEq, true_and] at hv'
     obtain ⟨rfl, rfl⟩ := hv'
     have hcur : ∀ j, j < n → cur[j]? = cs[j]? := fun j hj => by
       rw [← htk, Nat.mul_one, List.getElem?_take, if_pos hj]; simp
     have hcell : ∀ j, w.cell? ⟨g, j, none⟩ = cur[j]? := fun j => cell_of_row w g j cur 116 (0, 0) hg
     have hcs : ∀ j v, cs[j]? = some v → w.cell? ⟨g, j, none⟩ = some v := fun j v hj => by
       rw [hcell, hcur j (by have := (List.getElem?_eq_some_iff.mp hj).1; omega)]; exact hj
     have hvg := hvb g 0 rfl
     have hlx : (ins cs k x).length = n + 1 := by rw [ins_length, hcl]
     by_cases hroom : n + 1 ≤ d
     · refine (insert_shift g n d k vb cs x w hkn' hroom (by unfold maxLen at hmax; omega) hvg hcl hcs (fun j hj => ?_) (fun j => ?_) hv h1c h1v 116 116 1 d ?_ ?_ (by omega) ?_ ?_).mono ?_
       · rw [hcell, Array.getElem?_eq_getElem (by omega)]; rfl
       · simp [World.frozen?, hg]
       · simp [World.shape?, hx]
       · simp [World.shape?, hg]; omega
       · simp [World.frozen?, hx]
       · simp [World.frozen?, hx]
       · rintro ev w' ⟨rfl, rfl⟩
         obtain ⟨c1, a1, a2, a3⟩ := blk_setCells g 116 (0, 0) (cs.drop k) (k + 1) w.drew cur hg
         obtain ⟨c2, b1, b2, b3⟩ := blk_setCells g 116 (0, 0) [x] k _ c1 a1
         refine ⟨_, _, rfl, own_of b1 hNg hroom hmax (by omega) hlx (fun j hj => ?_), ?_⟩
         · rw [b3 j, a3 j, ins_get x (by omega) j]
           simp only [List.length_singleton, List.length_drop, hcl]
           by_cases h1 : j < k
           · rw [if_neg (by omega), if_neg (by omega), if_pos h1, hcur j (by omega)]
           · by_cases h2 : j = k
             · subst h2
               rw [if_pos (by omega), if_neg h1, if_pos rfl]; simp
             · rw [if_neg (by omega), if_pos (by omega), if_neg h1, if_neg h2, List.getElem?_drop]
               congr 1; omega
         · exact grown_trans (grown_trans (grown_drew w _) (grown_setCells g _ _ _)) (grown_setCells g _ _ _)
     · refine (insert_grow g n d k vb cs x w hkn' hcap (by omega) hn hcl hcs hv h1c h1v).mono ?_
       rintro ev w' ⟨rfl, rfl⟩
       have hge := grownCap_ge w (n + 1) d 116
       have hle := grownCap_le_maxLen w (n + 1) d 116 (by unfold maxLen; omega)
       generalize grownCap w (n + 1) d 116 = G at *
       obtain ⟨ROW, hROW⟩ : ∃ ROW : Array Value, ROW = (cs.take k).toArray ++ Builtin.zeroCells (Value.pointer none).cells (n + 1 - k) ++ Builtin.zeroCells (Value.pointer none).cells (G - (n + 1)) := ⟨_, rfl⟩
       rw [← hROW]
       have hRs : ROW.size = G := by
         rw [hROW]
         simp [Builtin.zeroCells, Value.cells]
         omega
       have hRc : ∀ j, j < k → ROW[j]? = cs[j]? := fun j hj => by
         have hlt : (cs.take k).length = k := by simp; omega
         rw [hROW, Array.append_assoc, Array.getElem?_append_left (by simp; omega)]
         simp [hj]
       have hnew : (w.alloc (.cells ROW 116)).heap[w.heap.size]? = some (.cells ROW 116 (0, 0)) := heap_alloc_new w _
       obtain ⟨c1, a1, a2, a3⟩ := blk_setCells w.heap.size 116 (0, 0) [x] k (w.alloc (.cells ROW 116)).drew ROW hnew
       obtain ⟨c2, b1, b2, b3⟩ := blk_setCells w.heap.size 116 (0, 0) (cs.drop k) (k + 1) ((w.alloc (.cells ROW 116)).drew.setCells w.heap.size k [x]).drew c1 a1
       refine ⟨_, _, rfl, own_of b1 hN hge hle (by omega) hlx (fun j hj => ?_), ?_⟩
       · rw [b3 j, a3 j, ins_get x (by omega) j]
         simp only [List.length_singleton, List.length_drop, hcl]
         by_cases h1 : j < k
         · rw [if_neg (by omega), if_neg (by omega), if_pos h1, hRc j h1]
         · by_cases h2 : j = k
           · subst h2
             rw [if_neg (by omega), if_pos (by omega), if_neg h1, if_pos rfl]; simp
           · rw [if_pos (by omega), if_neg h1, if_neg h2, List.getElem?_drop]
             congr 1; omega
       · have q1 := World.grownBy_alloc w (.cells ROW 116) (Value.slice (some ⟨g, 0, none⟩) n d).ownBlock
         have q2 := grown_setCells w.heap.size [x] k (w.alloc (.cells ROW 116)).drew
         have q3 := grown_setCells w.heap.size (cs.drop k) (k + 1) ((w.alloc (.cells ROW 116)).drew.setCells w.heap.size k [x]).drew
         refine ⟨q3.os.trans (q2.os.trans q1.os), q3.tape.trans (q2.tape.trans q1.tape), q3.output.trans (q2.output.trans q1.output), Nat.le_trans q1.size (Nat.le_trans q2.size q3.size), fun j hj hne => ?_⟩
         have hjs : some j ≠ some w.heap.size := by simp; omega
         have s1 := q1.size
         have s2 := q2.size
         exact (q3.block j (Nat.lt_of_lt_of_le hj (Nat.le_trans s1 s2)) hjs).trans ((q2.block j (Nat.lt_of_lt_of_le hj s1) hjs).trans (q1.block j hj hne))
end Sb
end Go.Proofs.YtfefehkapffljaaGreatDoor
namespace Go.Proofs.YtfefehkapffljaaGreatDoor
open Go.RowKit Go.Lib
namespace Sb
end Sb
end Go.Proofs.YtfefehkapffljaaGreatDoor
