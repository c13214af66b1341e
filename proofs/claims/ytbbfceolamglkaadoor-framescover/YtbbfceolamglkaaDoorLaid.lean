/- What the listed variables give: each error's variable holds a pointer of its own; the type handle of package errors. The witness' world: what the door's own run leaves. -/
import Derived.Test.YtbbfceolamglkaaDoorRows
import Derived.Test.YtbbfceolamglkaaDoorFrames
import Derived.ChangeSame
import Derived.ChangeVars
import Derived.JoinedOf
import Derived.RowKit
import Derived.RowKitTokens
import Derived.LaidLaws
import Derived.LaidHandle
import Derived.LaidMore
import Derived.Stop.Joined
import Derived.Stop.LaidErr
namespace Go.Proofs.YtbbfceolamglkaaDoor
open Go.ChangeShapes Go.WideShapes Go.RowKit

theorem own : ownKnob Tryd.prog.godebug = none := by kernel_rfl
theorem cells63 : Tryd.prog.cellsOf 63 = 1 := by kernel_rfl
theorem cells9 : Tryd.prog.cellsOf 9 = 1 := by kernel_rfl
theorem starName : "*" ++ "errors.errorString" = "*errors.errorString" := by decide
theorem row61 (u : TypeId) (h : Tryd.prog.typeName? 3 u = some "*errors.errorString") : u = 61 :=
  typeName_ptr_named (nm := "errors.errorString") (by rw [starName]; kernel_rfl) (by kernel_rfl) (by decide) u (by rw [starName]; exact h)

/-- The pointers that a list of sentinels holds, and the places that were read. -/
def Found (W : World) : List (String × List UInt8) → List Addr → List MemPlace → Prop
  | [], [], ps => ps = []
  | x :: l, a :: az, ps => ∃ g q, Tryd.prog.globalNamed x.1 = some g ∧ W.cell? ⟨g, 0, none⟩ = some (.iface 61 (.pointer (some a))) ∧ Found W l az q ∧ ps = .cell g 0 :: .cell a.block a.off :: q
  | _, _, _ => False

def senti (x : String × List UInt8) : String × DataW Unit := (x.1, .iface "*errors.errorString" (.ptr (.agg [.lit (.string x.2)])))

set_option maxRecDepth 100000 in
theorem found_of {W : World} : ∀ (l : List (String × List UInt8)) (ps : List MemPlace), DataW.LaidVars Tryd.prog W (l.map senti) ps → (∀ x ∈ l, ∃ g, Tryd.prog.globalNamed x.1 = some g ∧ (Tryd.prog.globals[g]?).map (·.type) = some 25) →
    (∀ b off, MemPlace.cell b off ∈ ps → (∃ c t, W.heap[b]? = some (.cells c t (0, 0))) ∧ ∀ u v, W.cell? ⟨b, off, none⟩ = some (.iface u v) → Value.okWide Tryd.prog W .any 0 u v) → ∃ az, Found W l az ps
  | [], ps, h, _, _ => ⟨[], h⟩
  | x :: l, ps, h, hg, hrows => by
    obtain ⟨g0, t0, cs0, f0, p0, q0, hg0, ht0, hv0, hd0, hq, e0⟩ := h
    obtain ⟨g, hga, hgt⟩ := hg x (List.mem_cons_self ..)
    obtain rfl := Option.some.inj (hga.symm.trans hg0)
    obtain rfl := Option.some.inj (hgt.symm.trans ht0)
    subst e0
    obtain ⟨l0⟩ := cs0
    have ok0 : ∀ u v, l0 = [.iface u v] → Value.okWide Tryd.prog W .any 0 u v := fun u v e => by
      subst e
      exact (hrows g 0 (by simp [MemPlace.row])).2 u v (by simpa using World.var?_cell hg0 hv0 0)
    obtain ⟨a0, s0, rfl, hc0, hs0, hz0, rfl⟩ := errorString_of_trod Tryd.underlying25 row61 Tryd.underlying61 Tryd.underlying63 rfl rfl Tryd.underlying9 cells63 cells9 hd0 ok0
    obtain ⟨az, has⟩ := found_of l q0 hq (fun y hy => hg y (List.mem_cons_of_mem _ hy)) (fun b off hm => hrows b off (by simp [hm]))
    exact ⟨a0 :: az, g, q0, hg0, by simpa using World.var?_cell hg0 hv0 0, has, by simp [MemPlace.row]⟩

theorem Found.mem {W : World} : ∀ {l : List (String × List UInt8)} {az : List Addr} {ps : List MemPlace}, Found W l az ps → ∀ a ∈ az, MemPlace.cell a.block a.off ∈ ps
  | [], [], _, _, _, ha => by cases ha
  | _ :: _, _ :: _, _, ⟨_, _, _, _, hf, rfl⟩, a, ha => by
    rcases List.mem_cons.1 ha with rfl | ha
    · simp
    · exact List.mem_cons_of_mem _ (List.mem_cons_of_mem _ (hf.mem a ha))
theorem Found.nodup {W : World} : ∀ {l : List (String × List UInt8)} {az : List Addr} {ps : List MemPlace}, Found W l az ps → ps.Nodup → az.Nodup
  | [], [], _, _, _ => List.nodup_nil
  | _ :: _, _ :: _, _, ⟨_, _, _, _, hf, rfl⟩, hn => by
    rw [List.nodup_cons] at hn
    have hn2 := hn.2
    rw [List.nodup_cons] at hn2
    rw [List.nodup_cons]
    exact ⟨fun h => hn2.1 (hf.mem _ h), hf.nodup hn2.2⟩

def texts10 : List (String × List UInt8) := [("slabyard/api.ErrText", [115, 108, 97, 98, 121, 97, 114, 100, 58, 32, 116, 101, 120, 116]), ("slabyard/api.ErrBound", [115, 108, 97, 98, 121, 97, 114, 100, 58, 32, 98, 111, 117, 110, 100]), ("slabyard/api.ErrShape", [115, 108, 97, 98, 121, 97, 114, 100, 58, 32, 115, 104, 97, 112, 101]), ("slabyard/api.ErrNone", [115, 108, 97, 98, 121, 97, 114, 100, 58, 32, 110, 111, 110, 101]), ("slabyard/api.ErrFull", [115, 108, 97, 98, 121, 97, 114, 100, 58, 32, 102, 117, 108, 108]), ("slabyard/api.ErrHeld", [115, 108, 97, 98, 121, 97, 114, 100, 58, 32, 104, 101, 108, 100]), ("slabyard/api.ErrLow", [115, 108, 97, 98, 121, 97, 114, 100, 58, 32, 108, 111, 119]), ("slabyard/api.ErrWait", [115, 108, 97, 98, 121, 97, 114, 100, 58, 32, 119, 97, 105, 116]), ("slabyard/api.ErrStale", [115, 108, 97, 98, 121, 97, 114, 100, 58, 32, 115, 116, 97, 108, 101]), ("slabyard/api.ErrMany", [115, 108, 97, 98, 121, 97, 114, 100, 58, 32, 109, 97, 110, 121])]
def texts3 : List (String × List UInt8) := [("slabyard/api.ErrBound", [115, 108, 97, 98, 121, 97, 114, 100, 58, 32, 98, 111, 117, 110, 100]), ("slabyard/api.ErrShape", [115, 108, 97, 98, 121, 97, 114, 100, 58, 32, 115, 104, 97, 112, 101]), ("slabyard/api.ErrNone", [115, 108, 97, 98, 121, 97, 114, 100, 58, 32, 110, 111, 110, 101])]

theorem g0 : Tryd.prog.globalNamed "slabyard/api.ErrText" = some 0 := by kernel_rfl
theorem g1 : Tryd.prog.globalNamed "slabyard/api.ErrBound" = some 1 := by kernel_rfl
theorem g2 : Tryd.prog.globalNamed "slabyard/api.ErrShape" = some 2 := by kernel_rfl
theorem g3 : Tryd.prog.globalNamed "slabyard/api.ErrNone" = some 3 := by kernel_rfl
theorem g4 : Tryd.prog.globalNamed "slabyard/api.ErrFull" = some 4 := by kernel_rfl
theorem g5 : Tryd.prog.globalNamed "slabyard/api.ErrHeld" = some 5 := by kernel_rfl
theorem g6 : Tryd.prog.globalNamed "slabyard/api.ErrLow" = some 6 := by kernel_rfl
theorem g7 : Tryd.prog.globalNamed "slabyard/api.ErrWait" = some 7 := by kernel_rfl
theorem g8 : Tryd.prog.globalNamed "slabyard/api.ErrStale" = some 8 := by kernel_rfl
theorem g9 : Tryd.prog.globalNamed "slabyard/api.ErrMany" = some 9 := by kernel_rfl
theorem gTypes : ∀ g, g < 10 → (Tryd.prog.globals[g]?).map (·.type) = some 25
  | 0, _ => by kernel_rfl | 1, _ => by kernel_rfl | 2, _ => by kernel_rfl | 3, _ => by kernel_rfl | 4, _ => by kernel_rfl
  | 5, _ => by kernel_rfl | 6, _ => by kernel_rfl | 7, _ => by kernel_rfl | 8, _ => by kernel_rfl | 9, _ => by kernel_rfl
  | n + 10, h => by omega

theorem cell_size {w : World} {n : Nat} {v : Value} (h : w.cell? ⟨n, 0, none⟩ = some v) : n < w.heap.size := by
  rcases Nat.lt_or_ge n w.heap.size with h' | h'
  · exact h'
  · simp [World.cell?, Array.getElem?_eq_none h'] at h

/-- The three errors of the pages. -/
theorem errs3_of {W : World} (h : laidMetH Tryd.prog Rows.framesTwiceRow.laid W) : ∃ e, Errs3 W e := by
  have h' : laidMet Tryd.prog (texts3.map senti) W := h
  obtain ⟨ps, hl, hn, hr⟩ := h'
  obtain ⟨az, hf⟩ := found_of texts3 ps hl (by
    intro x hx
    simp only [texts3, List.mem_cons, List.mem_nil_iff, or_false] at hx
    rcases hx with rfl | rfl | rfl
    · exact ⟨1, g1, gTypes 1 (by omega)⟩
    · exact ⟨2, g2, gTypes 2 (by omega)⟩
    · exact ⟨3, g3, gTypes 3 (by omega)⟩) hr
  match az, hf with
  | [a1, a2, a3], ⟨x1, q1, e1, c1, ⟨x2, q2, e2, c2, ⟨x3, q3, e3, c3, _, _⟩, _⟩, _⟩ =>
    obtain rfl := Option.some.inj (g1.symm.trans e1)
    obtain rfl := Option.some.inj (g2.symm.trans e2)
    obtain rfl := Option.some.inj (g3.symm.trans e3)
    exact ⟨fun i => if i = 1 then a1 else if i = 2 then a2 else a3, c1, c2, c3, cell_size c3⟩

/-- All ten errors, each a pointer of its own; and package errors' type handle. -/
structure Errs (w : World) (e : Nat → Addr) : Prop where
  var : ∀ i, i < 10 → w.cell? ⟨i, 0, none⟩ = some (.iface 61 (.pointer (some (e i))))
  blk : ∀ i, i < 10 → ∃ c t, w.heap[(e i).block]? = some (.cells c t (0, 0))
  inj : ∀ i j, i < 10 → j < 10 → e i = e j → i = j
  typ : w.cell? ⟨10, 0, none⟩ = some (.iface 81 (.agg #[.pointer (some ⟨11, 25, none⟩)]))
  size : 11 ≤ w.heap.size

theorem Errs.three {w : World} {e : Nat → Addr} (h : Errs w e) : Errs3 w e := ⟨h.var 1 (by omega), h.var 2 (by omega), h.var 3 (by omega), by have := h.size; omega⟩
theorem Errs.below {w w' : World} {e : Nat → Addr} (h : Errs w e) (hb : Below w.heap.size w w') : Errs w' e := by
  have hs := h.size
  refine ⟨fun i hi => ?_, fun i hi => ?_, h.inj, ?_, Nat.le_trans hs hb.size⟩
  · rw [hb.cell (p := ⟨i, 0, none⟩) (by simp; omega)]; exact h.var i hi
  · obtain ⟨c, t, hc⟩ := h.blk i hi
    have : (e i).block < w.heap.size := by
      rcases Nat.lt_or_ge (e i).block w.heap.size with h' | h'
      · exact h'
      · rw [Array.getElem?_eq_none h'] at hc; cases hc
    exact ⟨c, t, by rw [hb.block _ this]; exact hc⟩
  · rw [hb.cell (p := ⟨10, 0, none⟩) (by simp; omega)]; exact h.typ
theorem Errs.alloc {w : World} {e : Nat → Addr} (h : Errs w e) (o : Obj) : Errs (w.alloc o) e := h.below ((Below.refl _ _).alloc (Nat.le_refl _) o)

theorem hEt : Tryd.prog.globalNamed "errors.errorType" = some 10 := by kernel_rfl
theorem hRt : (Tryd.prog.cutTypes.find? (·.1 == "internal/reflectlite.rtype")).map (·.2) = some 81 := by kernel_rfl
theorem hOneRow : ((List.range 125).filter fun t => Tryd.prog.rowNamed t [101, 114, 114, 111, 114]) = [25] := by kernel_rfl
theorem hSize : Tryd.prog.types.size = 125 := by kernel_rfl

theorem getD_is (l : List Addr) (i : Nat) (d : Addr) (h : i < l.length) : l.getD i d = l[i] := by
  rw [List.getD_eq_getElem?_getD, List.getElem?_eq_getElem h, Option.getD_some]
theorem errs_of {W : World} (h : laidMetH Tryd.prog Rows.namesRow.laid W) : ∃ e, Errs W e := by
  have h' : laidMet Tryd.prog (texts10.map senti) W ∧ handlesMet Tryd.prog [("errors.errorType", Rows.laid_errors_errorType)] W := h
  obtain ⟨⟨ps, hl, hn, hr⟩, hh⟩ := h'
  obtain ⟨name, u, ty, e1, e2, e3, e4, e5⟩ := hh _ (List.mem_singleton.2 rfl)
  have en : name = [101, 114, 114, 111, 114] := (Option.some.inj e1).symm
  subst en
  obtain rfl := Option.some.inj (hRt.symm.trans e2)
  have hm : ty ∈ (List.range 125).filter fun t => Tryd.prog.rowNamed t [101, 114, 114, 111, 114] := List.mem_filter.2 ⟨List.mem_range.2 (by rw [← hSize]; exact e3), e4⟩
  rw [hOneRow] at hm
  obtain rfl := List.mem_singleton.1 hm
  have hth : typeHandle Tryd.prog 25 = .pointer (some ⟨11, 25, none⟩) := by kernel_rfl
  rw [hth] at e5
  have hty : W.cell? ⟨10, 0, none⟩ = some (.iface 81 (.agg #[.pointer (some ⟨11, 25, none⟩)])) := by simpa using World.var?_cell hEt e5 0
  obtain ⟨az, hf⟩ := found_of texts10 ps hl (by
    intro x hx
    simp only [texts10, List.mem_cons, List.mem_nil_iff, or_false] at hx
    rcases hx with rfl | rfl | rfl | rfl | rfl | rfl | rfl | rfl | rfl | rfl
    · exact ⟨0, g0, gTypes 0 (by omega)⟩
    · exact ⟨1, g1, gTypes 1 (by omega)⟩
    · exact ⟨2, g2, gTypes 2 (by omega)⟩
    · exact ⟨3, g3, gTypes 3 (by omega)⟩
    · exact ⟨4, g4, gTypes 4 (by omega)⟩
    · exact ⟨5, g5, gTypes 5 (by omega)⟩
    · exact ⟨6, g6, gTypes 6 (by omega)⟩
    · exact ⟨7, g7, gTypes 7 (by omega)⟩
    · exact ⟨8, g8, gTypes 8 (by omega)⟩
    · exact ⟨9, g9, gTypes 9 (by omega)⟩) hr
  have hnd := hf.nodup hn
  have hmem := hf.mem
  match az, hf, hnd, hmem with
  | [a0, a1, a2, a3, a4, a5, a6, a7, a8, a9], ⟨x0, _, k0, c0, ⟨x1, _, k1, c1, ⟨x2, _, k2, c2, ⟨x3, _, k3, c3, ⟨x4, _, k4, c4, ⟨x5, _, k5, c5, ⟨x6, _, k6, c6, ⟨x7, _, k7, c7, ⟨x8, _, k8, c8, ⟨x9, _, k9, c9, _, _⟩, _⟩, _⟩, _⟩, _⟩, _⟩, _⟩, _⟩, _⟩, _⟩, hnd, hmem =>
    obtain rfl := Option.some.inj (g0.symm.trans k0)
    obtain rfl := Option.some.inj (g1.symm.trans k1)
    obtain rfl := Option.some.inj (g2.symm.trans k2)
    obtain rfl := Option.some.inj (g3.symm.trans k3)
    obtain rfl := Option.some.inj (g4.symm.trans k4)
    obtain rfl := Option.some.inj (g5.symm.trans k5)
    obtain rfl := Option.some.inj (g6.symm.trans k6)
    obtain rfl := Option.some.inj (g7.symm.trans k7)
    obtain rfl := Option.some.inj (g8.symm.trans k8)
    obtain rfl := Option.some.inj (g9.symm.trans k9)
    refine ⟨fun i => [a0, a1, a2, a3, a4, a5, a6, a7, a8, a9].getD i a0, fun i hi => ?_, fun i hi => ?_, fun i j hi hj he => ?_, hty, cell_size hty⟩
    · match i, hi with
      | 0, _ => exact c0
      | 1, _ => exact c1
      | 2, _ => exact c2
      | 3, _ => exact c3
      | 4, _ => exact c4
      | 5, _ => exact c5
      | 6, _ => exact c6
      | 7, _ => exact c7
      | 8, _ => exact c8
      | 9, _ => exact c9
      | n + 10, h => omega
    · rw [getD_is _ _ _ (by simpa using hi)]
      exact (hr _ _ (hmem _ (List.getElem_mem _))).1
    · rw [getD_is _ _ _ (by simpa using hi), getD_is _ _ _ (by simpa using hj)] at he
      have hp := List.pairwise_iff_getElem.1 hnd
      rcases Nat.lt_trichotomy i j with hlt | heq | hgt
      · exact absurd he (hp i j (by simpa using hi) (by simpa using hj) hlt)
      · exact heq
      · exact absurd he.symm (hp j i (by simpa using hj) (by simpa using hi) hgt)

theorem door3 (os : Os) (args : Array Value) : laidMetH Tryd.prog Rows.framesTwiceRow.laid ((World.doorLaid Tryd.prog 206 os).forCall (fun _ _ => 0) ⟨#[], args, []⟩).memory :=
  laidMetH_of_parts3 (fuel := 8) (laidMet_of_run' 8 (by kernel_rfl) (by kernel_rfl)) (by kernel_rfl) (by kernel_rfl)
theorem door10 (os : Os) (args : Array Value) : laidMetH Tryd.prog Rows.namesRow.laid ((World.doorLaid Tryd.prog 206 os).forCall (fun _ _ => 0) ⟨#[], args, []⟩).memory :=
  laidMetH_of_parts3 (fuel := 8) (laidMet_of_run' 8 (by kernel_rfl) (by kernel_rfl)) (by kernel_rfl) (by kernel_rfl)
end Go.Proofs.YtbbfceolamglkaaDoor
