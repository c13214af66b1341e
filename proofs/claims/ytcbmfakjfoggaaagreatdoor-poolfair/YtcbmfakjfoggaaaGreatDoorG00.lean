/- The plain arithmetic of blocks of pages: powers of two at the orders 0 to 6, what is aligned, the buddy, the parent. Nothing of a program stands here · The contracts of package frames' small functions: checkAnywhere, checkBelow, Buddy, Parent, Halves · What the listed variables give: each error's variable holds a pointer of its own; the type handle of package errors. The witness' world: what the door's own run leaves · The contracts of package frames' small functions: checkBelow, Buddy, Parent, Halves · The contracts of package frames' Halves · FramesTwice: its walk, over the contracts · The contracts of the sizes of orders: frames.Size, frames.Order, and the document's answer's own IsOrder and Pages. -/
import Derived.Laws.BitsAllLaws
import Derived.Below
import Derived.Test.YtcbmfakjfoggaaaGreatDoorChecked
import Derived.WalkKit
import Derived.WalkLawsBesides
import Derived.Outline
import Derived.RegionTactic
import Derived.Test.YtcbmfakjfoggaaaGreatDoorRows
import Derived.ChangeSame
import Derived.ChangeVars
import Derived.JoinedOf
import Derived.RowKit
import Derived.RowKitTokens
import Derived.LaidLaws
import Derived.LaidHandle
import Derived.LaidMore
import Derived.Stop.Joined
import Derived.Stop.LaidErr
import Derived.Lib.LaidTab
import Derived.Lib.TrailingZeros
import Derived.BigQuiet
import Derived.Deep.QuietTactic
namespace Go.Proofs.YtcbmfakjfoggaaaGreatDoor
open Go.RowKit

namespace Fr
def pw (k : Int) : Int := 2 ^ k.toNat
def al (a k : Int) : Bool := a / pw k * pw k == a
def bud (a k : Int) : Int := if a / pw k % 2 = 0 then a + pw k else a - pw k
def par (a k : Int) : Int := a / pw (k + 1) * pw (k + 1)

theorem orders (k : Int) (h0 : 0 ≤ k) (h6 : k ≤ 6) : k = 0 ∨ k = 1 ∨ k = 2 ∨ k = 3 ∨ k = 4 ∨ k = 5 ∨ k = 6 := by omega
theorem pw0 : pw 0 = 1 := by decide
theorem pw1 : pw 1 = 2 := by decide
theorem pw2 : pw 2 = 4 := by decide
theorem pw3 : pw 3 = 8 := by decide
theorem pw4 : pw 4 = 16 := by decide
theorem pw5 : pw 5 = 32 := by decide
theorem pw6 : pw 6 = 64 := by decide

theorem al_iff (a k : Int) : al a k = true ↔ a / pw k * pw k = a := by simp [al]

theorem or_all : ∀ n : Fin 256, ∀ k : Fin 7, bits .or .i64 ((n.val : Nat) : Int) ((2 ^ k.val : Nat) : Int) = if ((n.val / 2 ^ k.val) % 2 = 0) then ((n.val + 2 ^ k.val : Nat) : Int) else ((n.val : Nat) : Int) := by decide +kernel

theorem or_up (a k : Int) (h0 : 0 ≤ a) (h1 : a < 256) (k0 : 0 ≤ k) (k6 : k ≤ 5) (ha : al a (k + 1) = true) : bits .or .i64 a (pw k) = a + pw k := by
  rw [al_iff] at ha
  obtain ⟨n, rfl⟩ := Int.eq_ofNat_of_zero_le h0
  have h := or_all ⟨n, by omega⟩ ⟨k.toNat, by omega⟩
  simp only at h
  have e : ((2 ^ k.toNat : Nat) : Int) = pw k := by simp [pw]
  rw [e] at h
  rw [h]
  have hz : n / 2 ^ k.toNat % 2 = 0 := by
    rcases orders k k0 (by omega) with rfl | rfl | rfl | rfl | rfl | rfl | rfl <;> simp [pw] at ha ⊢ <;> omega
  rw [if_pos hz, ← e]; omega
end Fr
end Go.Proofs.YtcbmfakjfoggaaaGreatDoor
namespace Go.Proofs.YtcbmfakjfoggaaaGreatDoor
open Go.RowKit

theorem cell_lt {w : World} {a : Addr} {v : Value} (h : w.cell? a = some v) : a.block < w.heap.size := by
  rcases Nat.lt_or_ge a.block w.heap.size with h' | h'
  · exact h'
  · simp [World.cell?, Array.getElem?_eq_none h'] at h
/-- A cell that is there stays as it is. -/
theorem keep {w w' : World} {a : Addr} {v : Value} (h : w.cell? a = some v) (hb : Below w.heap.size w w') : w'.cell? a = some v := by
  rw [hb.cell (cell_lt h)]; exact h

/-- What the three errors' variables hold. -/
structure Errs3 (w : World) (e : Nat → Addr) : Prop where
  bound : w.cell? ⟨1, 0, none⟩ = some (.iface 424 (.pointer (some (e 1))))
  shape : w.cell? ⟨0, 0, none⟩ = some (.iface 424 (.pointer (some (e 2))))
  none : w.cell? ⟨3, 0, none⟩ = some (.iface 424 (.pointer (some (e 3))))

theorem Errs3.below {w w' : World} {e : Nat → Addr} (h : Errs3 w e) (hb : Below w.heap.size w w') : Errs3 w' e := ⟨keep h.bound hb, keep h.shape hb, keep h.none hb⟩
theorem Errs3.alloc {w : World} {e : Nat → Addr} (h : Errs3 w e) (o : Obj) : Errs3 (w.alloc o) e := h.below ((Below.refl _ _).alloc (Nat.le_refl _) o)

namespace Fr
theorem anywhere_ok (a k : Int) (w : World) (h0 : 0 ≤ a) (h1 : a < 256) (k0 : 0 ≤ k) (k6 : k ≤ 6) (ha : al a k = true) :
    Calls Tryz.prog 297 #[.agg #[.int .i64 a, .int .i64 k]] w fun e w' => e = .returned .nilIface ∧ w' = w.alloc (.cells #[.int .i64 a, .int .i64 k] 291) := by
  unfold al at ha
  rcases orders k k0 k6 with rfl | rfl | rfl | rfl | rfl | rfl | rfl
  all_goals
    simp only [pw0, pw1, pw2, pw3, pw4, pw5, pw6] at ha
    go_enter Tryz.func297, Tryz.ntmps297
    go_wp2
    go_ret
    exact ⟨rfl, rfl⟩

end Fr
end Go.Proofs.YtcbmfakjfoggaaaGreatDoor
namespace Go.Proofs.YtcbmfakjfoggaaaGreatDoor
open Go.ChangeShapes Go.WideShapes Go.RowKit

theorem own : ownKnob Tryz.prog.godebug = none := by kernel_rfl
theorem cells63 : Tryz.prog.cellsOf 442 = 1 := by kernel_rfl
theorem cells9 : Tryz.prog.cellsOf 9 = 1 := by kernel_rfl
theorem starName : "*" ++ "errors.errorString" = "*errors.errorString" := by decide
theorem row61 (u : TypeId) (h : Tryz.prog.typeName? 3 u = some "*errors.errorString") : u = 424 :=
  typeName_ptr_named (nm := "errors.errorString") (by rw [starName]; kernel_rfl) (by kernel_rfl) (by decide) u (by rw [starName]; exact h)

/-- The pointers that a list of sentinels holds, and the places that were read. -/
def Found (W : World) : List (String × List UInt8) → List Addr → List MemPlace → Prop
  | [], [], ps => ps = []
  | x :: l, a :: az, ps => ∃ g q, Tryz.prog.globalNamed x.1 = some g ∧ W.cell? ⟨g, 0, none⟩ = some (.iface 424 (.pointer (some a))) ∧ Found W l az q ∧ ps = .cell g 0 :: .cell a.block a.off :: q
  | _, _, _ => False

def senti (x : String × List UInt8) : String × DataW Unit := (x.1, .iface "*errors.errorString" (.ptr (.agg [.lit (.string x.2)])))

set_option maxRecDepth 100000 in
theorem found_of {W : World} : ∀ (l : List (String × List UInt8)) (ps : List MemPlace), DataW.LaidVars Tryz.prog W (l.map senti) ps → (∀ x ∈ l, ∃ g, Tryz.prog.globalNamed x.1 = some g ∧ (Tryz.prog.globals[g]?).map (·.type) = some 29) →
    (∀ b off, MemPlace.cell b off ∈ ps → (∃ c t, W.heap[b]? = some (.cells c t (0, 0))) ∧ ∀ u v, W.cell? ⟨b, off, none⟩ = some (.iface u v) → Value.okWide Tryz.prog W .any 0 u v) → ∃ az, Found W l az ps
  | [], ps, h, _, _ => ⟨[], h⟩
  | x :: l, ps, h, hg, hrows => by
    obtain ⟨g0, t0, cs0, f0, p0, q0, hg0, ht0, hv0, hd0, hq, e0⟩ := h
    obtain ⟨g, hga, hgt⟩ := hg x (List.mem_cons_self ..)
    obtain rfl := Option.some.inj (hga.symm.trans hg0)
    obtain rfl := Option.some.inj (hgt.symm.trans ht0)
    subst e0
    obtain ⟨l0⟩ := cs0
    have ok0 : ∀ u v, l0 = [.iface u v] → Value.okWide Tryz.prog W .any 0 u v := fun u v e => by
      subst e
      exact (hrows g 0 (by simp [MemPlace.row])).2 u v (by simpa using World.var?_cell hg0 hv0 0)
    obtain ⟨a0, s0, rfl, hc0, hs0, hz0, rfl⟩ := errorString_of_trod Tryz.underlying29 row61 Tryz.underlying424 Tryz.underlying442 rfl rfl Tryz.underlying9 cells63 cells9 hd0 ok0
    obtain ⟨az, has⟩ := found_of l q0 hq (fun y hy => hg y (List.mem_cons_of_mem _ hy)) (fun b off hm => hrows b off (by simp [hm]))
    exact ⟨a0 :: az, g, q0, hg0, by simpa using World.var?_cell hg0 hv0 0, has, by simp [MemPlace.row]⟩

theorem Found.mem {W : World} : ∀ {l : List (String × List UInt8)} {az : List Addr} {ps : List MemPlace}, Found W l az ps → ∀ a ∈ az, MemPlace.cell a.block a.off ∈ ps
  | [], [], _, _, _, ha => by cases ha
  | _ :: _, _ :: _, _, ⟨_, _, _, _, hf, rfl⟩, a, ha => by
    rcases List.mem_cons.1 ha with rfl | ha
    · simp
    · exact List.mem_cons_of_mem _ (List.mem_cons_of_mem _ (hf.mem a ha))
theorem Found.nodup {W : World} : ∀ {l : List (String × List UInt8)} {az : List Addr} {ps : List MemPlace}, Found W l az ps → ps.Nodup → az.Nodup
  | [], [], _, _, _ => List.nodup_nil
  | _ :: _, _ :: _, _, ⟨_, _, _, _, hf, rfl⟩, hn => by
    rw [List.nodup_cons] at hn
    have hn2 := hn.2
    rw [List.nodup_cons] at hn2
    rw [List.nodup_cons]
    exact ⟨fun h => hn2.1 (hf.mem _ h), hf.nodup hn2.2⟩

def texts10 : List (String × List UInt8) := [("slabyard/api.ErrText", [115, 108, 97, 98, 121, 97, 114, 100, 58, 32, 116, 101, 120, 116]), ("slabyard/api.ErrBound", [115, 108, 97, 98, 121, 97, 114, 100, 58, 32, 98, 111, 117, 110, 100]), ("slabyard/api.ErrShape", [115, 108, 97, 98, 121, 97, 114, 100, 58, 32, 115, 104, 97, 112, 101]), ("slabyard/api.ErrNone", [115, 108, 97, 98, 121, 97, 114, 100, 58, 32, 110, 111, 110, 101]), ("slabyard/api.ErrFull", [115, 108, 97, 98, 121, 97, 114, 100, 58, 32, 102, 117, 108, 108]), ("slabyard/api.ErrHeld", [115, 108, 97, 98, 121, 97, 114, 100, 58, 32, 104, 101, 108, 100]), ("slabyard/api.ErrLow", [115, 108, 97, 98, 121, 97, 114, 100, 58, 32, 108, 111, 119]), ("slabyard/api.ErrWait", [115, 108, 97, 98, 121, 97, 114, 100, 58, 32, 119, 97, 105, 116]), ("slabyard/api.ErrStale", [115, 108, 97, 98, 121, 97, 114, 100, 58, 32, 115, 116, 97, 108, 101]), ("slabyard/api.ErrMany", [115, 108, 97, 98, 121, 97, 114, 100, 58, 32, 109, 97, 110, 121])]
theorem g0 : Tryz.prog.globalNamed "slabyard/api.ErrText" = some 10 := by kernel_rfl
theorem g1 : Tryz.prog.globalNamed "slabyard/api.ErrBound" = some 1 := by kernel_rfl
theorem g2 : Tryz.prog.globalNamed "slabyard/api.ErrShape" = some 0 := by kernel_rfl
theorem g3 : Tryz.prog.globalNamed "slabyard/api.ErrNone" = some 3 := by kernel_rfl
theorem g4 : Tryz.prog.globalNamed "slabyard/api.ErrFull" = some 6 := by kernel_rfl
theorem g5 : Tryz.prog.globalNamed "slabyard/api.ErrHeld" = some 4 := by kernel_rfl
theorem g6 : Tryz.prog.globalNamed "slabyard/api.ErrLow" = some 8 := by kernel_rfl
theorem g7 : Tryz.prog.globalNamed "slabyard/api.ErrWait" = some 7 := by kernel_rfl
theorem g8 : Tryz.prog.globalNamed "slabyard/api.ErrStale" = some 2 := by kernel_rfl
theorem g9 : Tryz.prog.globalNamed "slabyard/api.ErrMany" = some 5 := by kernel_rfl
theorem gt0 : (Tryz.prog.globals[10]?).map (·.type) = some 29 := by kernel_rfl
theorem gt1 : (Tryz.prog.globals[1]?).map (·.type) = some 29 := by kernel_rfl
theorem gt2 : (Tryz.prog.globals[0]?).map (·.type) = some 29 := by kernel_rfl
theorem gt3 : (Tryz.prog.globals[3]?).map (·.type) = some 29 := by kernel_rfl
theorem gt4 : (Tryz.prog.globals[6]?).map (·.type) = some 29 := by kernel_rfl
theorem gt5 : (Tryz.prog.globals[4]?).map (·.type) = some 29 := by kernel_rfl
theorem gt6 : (Tryz.prog.globals[8]?).map (·.type) = some 29 := by kernel_rfl
theorem gt7 : (Tryz.prog.globals[7]?).map (·.type) = some 29 := by kernel_rfl
theorem gt8 : (Tryz.prog.globals[2]?).map (·.type) = some 29 := by kernel_rfl
theorem gt9 : (Tryz.prog.globals[5]?).map (·.type) = some 29 := by kernel_rfl

/-- All ten errors, each a pointer of its own; and package errors' type handle. -/
structure Errs (w : World) (e : Nat → Addr) : Prop where
  v0 : w.cell? ⟨10, 0, none⟩ = some (.iface 424 (.pointer (some (e 0))))
  v1 : w.cell? ⟨1, 0, none⟩ = some (.iface 424 (.pointer (some (e 1))))
  v2 : w.cell? ⟨0, 0, none⟩ = some (.iface 424 (.pointer (some (e 2))))
  v3 : w.cell? ⟨3, 0, none⟩ = some (.iface 424 (.pointer (some (e 3))))
  v4 : w.cell? ⟨6, 0, none⟩ = some (.iface 424 (.pointer (some (e 4))))
  v5 : w.cell? ⟨4, 0, none⟩ = some (.iface 424 (.pointer (some (e 5))))
  v6 : w.cell? ⟨8, 0, none⟩ = some (.iface 424 (.pointer (some (e 6))))
  v7 : w.cell? ⟨7, 0, none⟩ = some (.iface 424 (.pointer (some (e 7))))
  v8 : w.cell? ⟨2, 0, none⟩ = some (.iface 424 (.pointer (some (e 8))))
  v9 : w.cell? ⟨5, 0, none⟩ = some (.iface 424 (.pointer (some (e 9))))
  blk : ∀ i, i < 10 → ∃ c t, w.heap[(e i).block]? = some (.cells c t (0, 0))
  inj : ∀ i j, i < 10 → j < 10 → e i = e j → i = j
  typ : w.cell? ⟨9, 0, none⟩ = some (.iface 342 (.agg #[.pointer (some ⟨12, 29, none⟩)]))
  tab : ∀ j, j < 64 → w.cell? ⟨11, j, none⟩ = some (.int .u8 ((Lib.deBruijn64tab.getD j 0 : Nat) : Int))

theorem Errs.three {w : World} {e : Nat → Addr} (h : Errs w e) : Errs3 w e := ⟨h.v1, h.v2, h.v3⟩
theorem Errs.below {w w' : World} {e : Nat → Addr} (h : Errs w e) (hb : Below w.heap.size w w') : Errs w' e := by
  refine ⟨keep h.v0 hb, keep h.v1 hb, keep h.v2 hb, keep h.v3 hb, keep h.v4 hb, keep h.v5 hb, keep h.v6 hb, keep h.v7 hb, keep h.v8 hb, keep h.v9 hb, fun i hi => ?_, h.inj, keep h.typ hb, fun j hj => keep (h.tab j hj) hb⟩
  obtain ⟨c, t, hc⟩ := h.blk i hi
  have : (e i).block < w.heap.size := by
    rcases Nat.lt_or_ge (e i).block w.heap.size with h' | h'
    · exact h'
    · rw [Array.getElem?_eq_none h'] at hc; cases hc
  exact ⟨c, t, by rw [hb.block _ this]; exact hc⟩
theorem Errs.alloc {w : World} {e : Nat → Addr} (h : Errs w e) (o : Obj) : Errs (w.alloc o) e := h.below ((Below.refl _ _).alloc (Nat.le_refl _) o)

theorem hEt : Tryz.prog.globalNamed "errors.errorType" = some 9 := by kernel_rfl
theorem hRt : (Tryz.prog.cutTypes.find? (·.1 == "internal/reflectlite.rtype")).map (·.2) = some 342 := by kernel_rfl
theorem hOneRow : ((List.range 454).filter fun t => Tryz.prog.rowNamed t [101, 114, 114, 111, 114]) = [29] := by kernel_rfl
theorem hSize : Tryz.prog.types.size = 454 := by kernel_rfl

theorem getD_is (l : List Addr) (i : Nat) (d : Addr) (h : i < l.length) : l.getD i d = l[i] := by
  rw [List.getD_eq_getElem?_getD, List.getElem?_eq_getElem h, Option.getD_some]
theorem laid_tail {x : String × DataW Unit} {l : List (String × DataW Unit)} {W : World} (h : laidMet Tryz.prog (x :: l) W) : laidMet Tryz.prog l W := by
  obtain ⟨ps, ⟨g, t, cs, fuel, p, q, _, _, _, _, h5, rfl⟩, hn, hr⟩ := h
  exact ⟨q, h5, (List.nodup_append.1 hn).2.1, fun b off hm => hr b off (List.mem_append_right _ hm)⟩
theorem gTab : Tryz.prog.globalNamed "math/bits.deBruijn64tab" = some 11 := by kernel_rfl
theorem gtTab : (Tryz.prog.globals[11]?).map (·.type) = some 368 := by kernel_rfl
theorem cells152 : Tryz.prog.cellsOf 368 = 64 := by kernel_rfl
theorem cells5 : Tryz.prog.cellsOf 5 = 1 := by kernel_rfl
theorem tabData_is : (Rows.laid_math_bits_deBruijn64tab : DataW Unit) = Lib.tabData .u8 (Lib.deBruijn64tab.map Int.ofNat) := by rfl
theorem errs_of {W : World} (h : laidMetH Tryz.prog Rows.poolFairRow.laid W) : ∃ e, Errs W e := by
  have h' : laidMet Tryz.prog (("math/bits.deBruijn64tab", Rows.laid_math_bits_deBruijn64tab) :: texts10.map senti) W ∧ handlesMet Tryz.prog [("errors.errorType", Rows.laid_errors_errorType)] W := h
  obtain ⟨h1', hh⟩ := h'
  have hTab : ∀ j, j < 64 → W.cell? ⟨11, j, none⟩ = some (.int .u8 ((Lib.deBruijn64tab.getD j 0 : Nat) : Int)) := fun j hj => by
    rw [tabData_is] at h1'
    have ht := Lib.tabIs_of_head gTab gtTab Tryz.underlying368 Tryz.underlying5 cells5 cells152 h1'
    have := ht.cell gTab j (by simp [Lib.deBruijn64tab]; omega)
    rw [this]
    congr 2
    rw [List.getD_eq_getElem?_getD, List.getD_eq_getElem?_getD, List.getElem?_map]
    cases Lib.deBruijn64tab[j]? <;> rfl
  obtain ⟨ps, hl, hn, hr⟩ := laid_tail h1'
  obtain ⟨name, u, ty, e1, e2, e3, e4, e5⟩ := hh _ (List.mem_singleton.2 rfl)
  have en : name = [101, 114, 114, 111, 114] := (Option.some.inj e1).symm
  subst en
  obtain rfl := Option.some.inj (hRt.symm.trans e2)
  have hm : ty ∈ (List.range 454).filter fun t => Tryz.prog.rowNamed t [101, 114, 114, 111, 114] := List.mem_filter.2 ⟨List.mem_range.2 (by rw [← hSize]; exact e3), e4⟩
  rw [hOneRow] at hm
  obtain rfl := List.mem_singleton.1 hm
  have hth : typeHandle Tryz.prog 29 = .pointer (some ⟨12, 29, none⟩) := by kernel_rfl
  rw [hth] at e5
  have hty : W.cell? ⟨9, 0, none⟩ = some (.iface 342 (.agg #[.pointer (some ⟨12, 29, none⟩)])) := by simpa using World.var?_cell hEt e5 0
  obtain ⟨az, hf⟩ := found_of texts10 ps hl (by
    intro x hx
    simp only [texts10, List.mem_cons, List.mem_nil_iff, or_false] at hx
    rcases hx with rfl | rfl | rfl | rfl | rfl | rfl | rfl | rfl | rfl | rfl
    · exact ⟨_, g0, gt0⟩
    · exact ⟨_, g1, gt1⟩
    · exact ⟨_, g2, gt2⟩
    · exact ⟨_, g3, gt3⟩
    · exact ⟨_, g4, gt4⟩
    · exact ⟨_, g5, gt5⟩
    · exact ⟨_, g6, gt6⟩
    · exact ⟨_, g7, gt7⟩
    · exact ⟨_, g8, gt8⟩
    · exact ⟨_, g9, gt9⟩) hr
  have hnd := hf.nodup hn
  have hmem := hf.mem
  match az, hf, hnd, hmem with
  | [a0, a1, a2, a3, a4, a5, a6, a7, a8, a9], ⟨x0, _, k0, c0, ⟨x1, _, k1, c1, ⟨x2, _, k2, c2, ⟨x3, _, k3, c3, ⟨x4, _, k4, c4, ⟨x5, _, k5, c5, ⟨x6, _, k6, c6, ⟨x7, _, k7, c7, ⟨x8, _, k8, c8, ⟨x9, _, k9, c9, _, _⟩, _⟩, _⟩, _⟩, _⟩, _⟩, _⟩, _⟩, _⟩, _⟩, hnd, hmem =>
    obtain rfl := Option.some.inj (g0.symm.trans k0)
    obtain rfl := Option.some.inj (g1.symm.trans k1)
    obtain rfl := Option.some.inj (g2.symm.trans k2)
    obtain rfl := Option.some.inj (g3.symm.trans k3)
    obtain rfl := Option.some.inj (g4.symm.trans k4)
    obtain rfl := Option.some.inj (g5.symm.trans k5)
    obtain rfl := Option.some.inj (g6.symm.trans k6)
    obtain rfl := Option.some.inj (g7.symm.trans k7)
    obtain rfl := Option.some.inj (g8.symm.trans k8)
    obtain rfl := Option.some.inj (g9.symm.trans k9)
    refine ⟨fun i => [a0, a1, a2, a3, a4, a5, a6, a7, a8, a9].getD i a0, c0, c1, c2, c3, c4, c5, c6, c7, c8, c9, fun i hi => ?_, fun i j hi hj he => ?_, hty, hTab⟩
    · rw [getD_is _ _ _ (by simpa using hi)]
      exact (hr _ _ (hmem _ (List.getElem_mem _))).1
    · rw [getD_is _ _ _ (by simpa using hi), getD_is _ _ _ (by simpa using hj)] at he
      have hp := List.pairwise_iff_getElem.1 hnd
      rcases Nat.lt_trichotomy i j with hlt | heq | hgt
      · exact absurd he (hp i j (by simpa using hi) (by simpa using hj) hlt)
      · exact heq
      · exact absurd he.symm (hp j i (by simpa using hj) (by simpa using hi) hgt)

theorem door10 (os : Os) (args : Array Value) : laidMetH Tryz.prog Rows.poolFairRow.laid ((World.doorLaid Tryz.prog 206 os).forCall (fun _ _ => 0) ⟨#[], args, []⟩).memory :=
  laidMetH_of_parts3 (fuel := 8) (laidMet_of_run' 8 (by kernel_rfl) (by kernel_rfl)) (by kernel_rfl) (by kernel_rfl)
end Go.Proofs.YtcbmfakjfoggaaaGreatDoor
namespace Go.Proofs.YtcbmfakjfoggaaaGreatDoor
open Go.RowKit
theorem hide {p : Prop} (h : p) : Hid p := h
theorem unhide {p : Prop} (h : Hid p) : p := h
namespace Fr

abbrev blkO (a k : Int) : Obj := .cells #[.int .i64 a, .int .i64 k] 291
abbrev blkV (a k : Int) : Value := .agg #[.int .i64 a, .int .i64 k]
abbrev errV (p : Addr) : Value := .iface 424 (.pointer (some p))

end Fr
end Go.Proofs.YtcbmfakjfoggaaaGreatDoor
namespace Go.Proofs.YtcbmfakjfoggaaaGreatDoor
open Go.RowKit
namespace Fr
set_option maxHeartbeats 2000000 in
theorem halves_ok (a k : Int) (w : World) (h0 : 0 ≤ a) (h1 : a < 256) (k0 : 1 ≤ k) (k6 : k ≤ 6) (ha : al a k = true) :
    Calls Tryz.prog 283 #[.agg #[.int .i64 a, .int .i64 k]] w fun e w' => e = .returned (.tuple #[blkV a (k - 1), blkV (a + pw (k - 1)) (k - 1), .nilIface]) ∧ Below w.heap.size w w' := by
  have hx := or_up a (k - 1) h0 h1 (by omega) (by omega) (by rw [show k - 1 + 1 = k from by omega]; exact ha)
  rcases orders k (by omega) (by omega) with rfl | rfl | rfl | rfl | rfl | rfl | rfl
  all_goals first | omega | skip
  all_goals
    have H := fun w => hide (anywhere_ok a _ w h0 h1 (by omega) k6 ha)
    simp only [Int.reduceSub, pw0, pw1, pw2, pw3, pw4, pw5] at hx ⊢
    clear ha k0 k6
    go_enter Tryz.func283, Tryz.ntmps283
    go_wp2_with (go_at_call 297; refine (unhide (H _)).mono ?_; rintro e w' ⟨rfl, rfl⟩)
    go_region
    go_wp2
    exact bodyPost_ret (v := .tuple #[blkV a _, blkV _ _, .nilIface]) (by simp [results, Tryz.results283, go_sem]) rfl ⟨rfl, by repeat (first | exact Below.refl _ _ | refine Below.drew ?_ | refine Below.setCell ?_ (by simp) _ | refine Below.alloc ?_ (by simp; try omega) _)⟩

end Fr
end Go.Proofs.YtcbmfakjfoggaaaGreatDoor
namespace Go.Proofs.YtcbmfakjfoggaaaGreatDoor
open Go.RowKit
namespace Fr
theorem ballo {w w' : World} (h : Below w.heap.size w w') (o : Obj) : Below w.heap.size w (w'.alloc o) := h.alloc h.size o
theorem btr {w w1 w2 : World} (h : Below w.heap.size w w1) (k : Below w1.heap.size w1 w2) : Below w.heap.size w w2 := h.trans (k.mono h.size)
/-- A block of pages lies in memory at the block number b. -/
structure Blk (w : World) (b : Nat) (a k : Int) : Prop where
  c0 : w.cell? ⟨b, 0, none⟩ = some (.int .i64 a)
  c1 : w.cell? ⟨b, 1, none⟩ = some (.int .i64 k)
  lt : b < w.heap.size
theorem Blk.b {w w' : World} {b : Nat} {a k : Int} (h : Blk w b a k) (hb : Below w.heap.size w w') : Blk w' b a k :=
  ⟨by rw [hb.cell (p := ⟨b, 0, none⟩) h.lt]; exact h.c0, by rw [hb.cell (p := ⟨b, 1, none⟩) h.lt]; exact h.c1, Nat.lt_of_lt_of_le h.lt hb.size⟩
theorem Blk.a {w : World} {b : Nat} {a k : Int} (h : Blk w b a k) (o : Obj) : Blk (w.alloc o) b a k := h.b (ballo (Below.refl _ _) o)
theorem pw_pos (k : Int) : 0 < pw k := by unfold pw; exact Int.pow_pos (by omega)

end Fr
end Go.Proofs.YtcbmfakjfoggaaaGreatDoor
namespace Go.Proofs.YtcbmfakjfoggaaaGreatDoor
open Go.RowKit
namespace Fr

theorem pw_succ (k : Int) (h : 0 ≤ k) : pw (k + 1) = 2 * pw k := by
  unfold pw
  rw [show (k + 1).toNat = k.toNat + 1 from by omega, Int.pow_succ]; omega
theorem pw_le (k : Int) (h0 : 0 ≤ k) (h : k ≤ 5) : pw k ≤ 32 := by
  rcases orders k h0 (by omega) with rfl | rfl | rfl | rfl | rfl | rfl | rfl <;> first | omega | decide
theorem pw_le6 (k : Int) (h0 : 0 ≤ k) (h : k ≤ 6) : pw k ≤ 64 := by
  rcases orders k h0 (by omega) with rfl | rfl | rfl | rfl | rfl | rfl | rfl <;> decide

theorem pages_ok (k : Int) (w : World) (h0 : 0 ≤ k) (h1 : k ≤ 6) : Calls Tryz.prog 249 #[.int .i64 k] w fun ev w' => ev = .returned (.int .i64 (pw k)) ∧ w' = w := by
  obtain ⟨n, rfl⟩ := Int.eq_ofNat_of_zero_le h0
  go_enter Tryz.func249, Tryz.ntmps249
  go_wp2
  go_loop [3, 4] (fun p i => ∃ j : Nat, j ≤ n ∧ i = .int .i64 j ∧ p = .int .i64 (pw j)) (fun _ i => n - (intOf i).toNat)
  case atStart => exact ⟨0, Nat.zero_le _, rfl, rfl⟩
  case round =>
    obtain ⟨j, hj, rfl, rfl⟩ := hrel
    have hs := hide (pw_succ j (by omega))
    have hp := pw_pos j
    by_cases hlt : j < n
    · have hle := pw_le j (by omega) (by omega)
      go_wp2
      go_round
      case rel => exact ⟨j + 1, by omega, by go_num, by rw [show (((j + 1 : Nat) : Int)) = (j : Int) + 1 from by omega, unhide hs]⟩
      case measure => simp [intOf]; omega
    · obtain rfl : j = n := by omega
      go_wp2
      go_ret
      exact ⟨rfl, rfl⟩

end Fr
end Go.Proofs.YtcbmfakjfoggaaaGreatDoor
