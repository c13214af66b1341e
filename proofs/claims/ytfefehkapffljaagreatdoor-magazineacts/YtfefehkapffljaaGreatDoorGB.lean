/- Laid · As · Is · Code. -/
import Derived.Test.YtfefehkapffljaaGreatDoorRows
import Derived.Test.YtfefehkapffljaaGreatDoorGA
import Derived.ChangeSame
import Derived.ChangeVars
import Derived.JoinedOf
import Derived.RowKit
import Derived.RowKitTokens
import Derived.LaidLaws
import Derived.LaidHandle
import Derived.LaidMore
import Derived.Stop.Joined
import Derived.Stop.LaidErr
import Derived.Lib.LaidTab
import Derived.Lib.TrailingZeros
import Derived.LaidEql
import Derived.Stop.Asserts
namespace Go.Proofs.YtfefehkapffljaaGreatDoor
open Go.ChangeShapes Go.WideShapes Go.RowKit
theorem own : ownKnob Tryz.prog.godebug = none := by kernel_rfl
theorem cells63 : Tryz.prog.cellsOf 324 = 1 := by kernel_rfl
theorem cells9 : Tryz.prog.cellsOf 9 = 1 := by kernel_rfl
theorem starName : "*" ++ "errors.errorString" = "*errors.errorString" := by decide
theorem row61 (u : TypeId) (h : Tryz.prog.typeName? 3 u = some "*errors.errorString") : u = 304 :=
 typeName_ptr_named (nm := "errors.errorString") (by rw [starName]; kernel_rfl) (by kernel_rfl) (by decide) u (by rw [starName]; exact h)
def Found (W : World) : List (String × List UInt8) → List Addr → List MemPlace → Prop
 | [], [], ps => ps = []
 | x :: l, a :: az, ps => ∃ g q, Tryz.prog.globalNamed x.1 = some g ∧ W.cell? ⟨g, 0, none⟩ = some (.iface 304 (.pointer (some a))) ∧ Found W l az q ∧ ps = .cell g 0 :: .cell a.block a.off :: q
 | _, _, _ => False
def senti (x : String × List UInt8) : String × DataW Unit := (x.1, .iface "*errors.errorString" (.ptr (.agg [.lit (.string x.2)])))
set_option maxRecDepth 100000 in
theorem found_of {W : World} : ∀ (l : List (String × List UInt8)) (ps : List MemPlace), DataW.LaidVars Tryz.prog W (l.map senti) ps → (∀ x ∈ l, ∃ g, Tryz.prog.globalNamed x.1 = some g ∧ (Tryz.prog.globals[g]?).map (·.type) = some 33) →
   (∀ b off, MemPlace.cell b off ∈ ps → (∃ c t, W.heap[b]? = some (.cells c t (0, 0))) ∧ ∀ u v, W.cell? ⟨b, off, none⟩ = some (.iface u v) → Value.okWide Tryz.prog W .any 0 u v) → ∃ az, Found W l az ps
 | [], ps, h, _, _ => ⟨[], h⟩
 | x :: l, ps, h, hg, hrows => by
   obtain ⟨g0, t0, cs0, f0, p0, q0, hg0, ht0, hv0, hd0, hq, e0⟩ := h
   obtain ⟨g, hga, hgt⟩ := hg x (List.mem_cons_self ..)
   obtain rfl := Option.some.inj (hga.symm.trans hg0)
   obtain rfl := Option.some.inj (hgt.symm.trans ht0)
   subst e0
   obtain ⟨l0⟩ := cs0
   have ok0 : ∀ u v, l0 = [.iface u v] → Value.okWide Tryz.prog W .any 0 u v := fun u v e => by
     subst e
     exact (hrows g 0 (by simp [MemPlace.row])).2 u v (by simpa using World.var?_cell hg0 hv0 0)
   obtain ⟨a0, s0, rfl, hc0, hs0, hz0, rfl⟩ := errorString_of_trod Tryz.underlying33 row61 Tryz.underlying304 Tryz.underlying324 rfl rfl Tryz.underlying9 cells63 cells9 hd0 ok0
   obtain ⟨az, has⟩ := found_of l q0 hq (fun y hy => hg y (List.mem_cons_of_mem _ hy)) (fun b off hm => hrows b off (by simp [hm]))
   exact ⟨a0 :: az, g, q0, hg0, by simpa using World.var?_cell hg0 hv0 0, has, by simp [MemPlace.row]⟩
theorem Found.mem {W : World} : ∀ {l : List (String × List UInt8)} {az : List Addr} {ps : List MemPlace}, Found W l az ps → ∀ a ∈ az, MemPlace.cell a.block a.off ∈ ps
 | [], [], _, _, _, ha => by cases ha
 | _ :: _, _ :: _, _, ⟨_, _, _, _, hf, rfl⟩, a, ha => by
   rcases List.mem_cons.1 ha with rfl | ha
   · simp
   · exact List.mem_cons_of_mem _ (List.mem_cons_of_mem _ (hf.mem a ha))
theorem Found.nodup {W : World} : ∀ {l : List (String × List UInt8)} {az : List Addr} {ps : List MemPlace}, Found W l az ps → ps.Nodup → az.Nodup
 | [], [], _, _, _ => List.nodup_nil
 | _ :: _, _ :: _, _, ⟨_, _, _, _, hf, rfl⟩, hn => by
   rw [List.nodup_cons] at hn
   have hn2 := hn.2
   rw [List.nodup_cons] at hn2
   rw [List.nodup_cons]
   exact ⟨fun h => hn2.1 (hf.mem _ h), hf.nodup hn2.2⟩
def texts10 : List (String × List UInt8) := [("slabyard/api.ErrText", [115, 108, 97, 98, 121, 97, 114, 100, 58, 32, 116, 101, 120, 116]), ("slabyard/api.ErrBound", [115, 108, 97, 98, 121, 97, 114, 100, 58, 32, 98, 111, 117, 110, 100]), ("slabyard/api.ErrShape", [115, 108, 97, 98, 121, 97, 114, 100, 58, 32, 115, 104, 97, 112, 101]), ("slabyard/api.ErrNone", [115, 108, 97, 98, 121, 97, 114, 100, 58, 32, 110, 111, 110, 101]), ("slabyard/api.ErrFull", [115, 108, 97, 98, 121, 97, 114, 100, 58, 32, 102, 117, 108, 108]), ("slabyard/api.ErrHeld", [115, 108, 97, 98, 121, 97, 114, 100, 58, 32, 104, 101, 108, 100]), ("slabyard/api.ErrLow", [115, 108, 97, 98, 121, 97, 114, 100, 58, 32, 108, 111, 119]), ("slabyard/api.ErrWait", [115, 108, 97, 98, 121, 97, 114, 100, 58, 32, 119, 97, 105, 116]), ("slabyard/api.ErrStale", [115, 108, 97, 98, 121, 97, 114, 100, 58, 32, 115, 116, 97, 108, 101]), ("slabyard/api.ErrMany", [115, 108, 97, 98, 121, 97, 114, 100, 58, 32, 109, 97, 110, 121])]
theorem g0 : Tryz.prog.globalNamed "slabyard/api.ErrText" = some 6 := by kernel_rfl
theorem g1 : Tryz.prog.globalNamed "slabyard/api.ErrBound" = some 1 := by kernel_rfl
theorem g2 : Tryz.prog.globalNamed "slabyard/api.ErrShape" = some 0 := by kernel_rfl
theorem g3 : Tryz.prog.globalNamed "slabyard/api.ErrNone" = some 7 := by kernel_rfl
theorem g4 : Tryz.prog.globalNamed "slabyard/api.ErrFull" = some 4 := by kernel_rfl
theorem g5 : Tryz.prog.globalNamed "slabyard/api.ErrHeld" = some 8 := by kernel_rfl
theorem g6 : Tryz.prog.globalNamed "slabyard/api.ErrLow" = some 3 := by kernel_rfl
theorem g7 : Tryz.prog.globalNamed "slabyard/api.ErrWait" = some 9 := by kernel_rfl
theorem g8 : Tryz.prog.globalNamed "slabyard/api.ErrStale" = some 2 := by kernel_rfl
theorem g9 : Tryz.prog.globalNamed "slabyard/api.ErrMany" = some 10 := by kernel_rfl
theorem gt0 : (Tryz.prog.globals[6]?).map (·.type) = some 33 := by kernel_rfl
theorem gt1 : (Tryz.prog.globals[1]?).map (·.type) = some 33 := by kernel_rfl
theorem gt2 : (Tryz.prog.globals[0]?).map (·.type) = some 33 := by kernel_rfl
theorem gt3 : (Tryz.prog.globals[7]?).map (·.type) = some 33 := by kernel_rfl
theorem gt4 : (Tryz.prog.globals[4]?).map (·.type) = some 33 := by kernel_rfl
theorem gt5 : (Tryz.prog.globals[8]?).map (·.type) = some 33 := by kernel_rfl
theorem gt6 : (Tryz.prog.globals[3]?).map (·.type) = some 33 := by kernel_rfl
theorem gt7 : (Tryz.prog.globals[9]?).map (·.type) = some 33 := by kernel_rfl
theorem gt8 : (Tryz.prog.globals[2]?).map (·.type) = some 33 := by kernel_rfl
theorem gt9 : (Tryz.prog.globals[10]?).map (·.type) = some 33 := by kernel_rfl
structure Errs (w : World) (e : Nat → Addr) : Prop where
 v0 : w.cell? ⟨6, 0, none⟩ = some (.iface 304 (.pointer (some (e 0))))
 v1 : w.cell? ⟨1, 0, none⟩ = some (.iface 304 (.pointer (some (e 1))))
 v2 : w.cell? ⟨0, 0, none⟩ = some (.iface 304 (.pointer (some (e 2))))
 v3 : w.cell? ⟨7, 0, none⟩ = some (.iface 304 (.pointer (some (e 3))))
 v4 : w.cell? ⟨4, 0, none⟩ = some (.iface 304 (.pointer (some (e 4))))
 v5 : w.cell? ⟨8, 0, none⟩ = some (.iface 304 (.pointer (some (e 5))))
 v6 : w.cell? ⟨3, 0, none⟩ = some (.iface 304 (.pointer (some (e 6))))
 v7 : w.cell? ⟨9, 0, none⟩ = some (.iface 304 (.pointer (some (e 7))))
 v8 : w.cell? ⟨2, 0, none⟩ = some (.iface 304 (.pointer (some (e 8))))
 v9 : w.cell? ⟨10, 0, none⟩ = some (.iface 304 (.pointer (some (e 9))))
 blk : ∀ i, i < 10 → ∃ c t, w.heap[(e i).block]? = some (.cells c t (0, 0))
 inj : ∀ i j, i < 10 → j < 10 → e i = e j → i = j
 typ : w.cell? ⟨11, 0, none⟩ = some (.iface 264 (.agg #[.pointer (some ⟨12, 33, none⟩)]))
 tab : ∀ j, j < 64 → w.cell? ⟨5, j, none⟩ = some (.int .u8 ((Lib.deBruijn64tab.getD j 0 : Nat) : Int))
theorem Errs.three {w : World} {e : Nat → Addr} (h : Errs w e) : Errs3 w e := ⟨h.v1, h.v2, h.v3⟩
theorem Errs.below {w w' : World} {e : Nat → Addr} (h : Errs w e) (hb : Below w.heap.size w w') : Errs w' e := by
 refine ⟨keep h.v0 hb, keep h.v1 hb, keep h.v2 hb, keep h.v3 hb, keep h.v4 hb, keep h.v5 hb, keep h.v6 hb, keep h.v7 hb, keep h.v8 hb, keep h.v9 hb, fun i hi => ?_, h.inj, keep h.typ hb, fun j hj => keep (h.tab j hj) hb⟩
 obtain ⟨c, t, hc⟩ := h.blk i hi
 have : (e i).block < w.heap.size := by
   rcases Nat.lt_or_ge (e i).block w.heap.size with h' | h'
   · exact h'
   · rw [Array.getElem?_eq_none h'] at hc; cases hc
 exact ⟨c, t, by rw [hb.block _ this]; exact hc⟩
theorem Errs.alloc {w : World} {e : Nat → Addr} (h : Errs w e) (o : Obj) : Errs (w.alloc o) e := h.below ((Below.refl _ _).alloc (Nat.le_refl _) o)
theorem hEt : Tryz.prog.globalNamed "errors.errorType" = some 11 := by kernel_rfl
theorem hRt : (Tryz.prog.cutTypes.find? (·.1 == "internal/reflectlite.rtype")).map (·.2) = some 264 := by kernel_rfl
theorem hOneRow : ((List.range 336).filter fun t => Tryz.prog.rowNamed t [101, 114, 114, 111, 114]) = [33] := by kernel_rfl
theorem hSize : Tryz.prog.types.size = 336 := by kernel_rfl
theorem getD_is (l : List Addr) (i : Nat) (d : Addr) (h : i < l.length) : l.getD i d = l[i] := by
 rw [List.getD_eq_getElem?_getD, List.getElem?_eq_getElem h, Option.getD_some]
theorem laid_tail {x : String × DataW Unit} {l : List (String × DataW Unit)} {W : World} (h : laidMet Tryz.prog (x :: l) W) : laidMet Tryz.prog l W := by
 obtain ⟨ps, ⟨g, t, cs, fuel, p, q, _, _, _, _, h5, rfl⟩, hn, hr⟩ := h
 exact ⟨q, h5, (List.nodup_append.1 hn).2.1, fun b off hm => hr b off (List.mem_append_right _ hm)⟩
theorem gTab : Tryz.prog.globalNamed "math/bits.deBruijn64tab" = some 5 := by kernel_rfl
theorem gtTab : (Tryz.prog.globals[5]?).map (·.type) = some 200 := by kernel_rfl
theorem cells152 : Tryz.prog.cellsOf 200 = 64 := by kernel_rfl
theorem cells5 : Tryz.prog.cellsOf 5 = 1 := by kernel_rfl
theorem tabData_is : (Rows.laid_math_bits_deBruijn64tab : DataW Unit) = Lib.tabData .u8 (Lib.deBruijn64tab.map Int.ofNat) := by rfl
theorem errs_of {W : World} (h : laidMetH Tryz.prog Rows.slabFullRow.laid W) : ∃ e, Errs W e := by
 have h' : laidMet Tryz.prog (("math/bits.deBruijn64tab", Rows.laid_math_bits_deBruijn64tab) :: texts10.map senti) W ∧ handlesMet Tryz.prog [("errors.errorType", Rows.laid_errors_errorType)] W := h
 obtain ⟨h1', hh⟩ := h'
 have hTab : ∀ j, j < 64 → W.cell? ⟨5, j, none⟩ = some (.int .u8 ((Lib.deBruijn64tab.getD j 0 : Nat) : Int)) := fun j hj => by
   rw [tabData_is] at h1'
   have ht := Lib.tabIs_of_head gTab gtTab Tryz.underlying200 Tryz.underlying5 cells5 cells152 h1'
   have := ht.cell gTab j (by simp [Lib.deBruijn64tab]; omega)
   rw [this]
   congr 2
   rw [List.getD_eq_getElem?_getD, List.getD_eq_getElem?_getD, List.getElem?_map]
   cases Lib.deBruijn64tab[j]? <;> rfl
 obtain ⟨ps, hl, hn, hr⟩ := laid_tail h1'
 obtain ⟨name, u, ty, e1, e2, e3, e4, e5⟩ := hh _ (List.mem_singleton.2 rfl)
 have en : name = [101, 114, 114, 111, 114] := (Option.some.inj e1).symm
 subst en
 obtain rfl := Option.some.inj (hRt.symm.trans e2)
 have hm : ty ∈ (List.range 336).filter fun t => Tryz.prog.rowNamed t [101, 114, 114, 111, 114] := List.mem_filter.2 ⟨List.mem_range.2 (by rw [← hSize]; exact e3), e4⟩
 rw [hOneRow] at hm
 obtain rfl := List.mem_singleton.1 hm
 have hth : typeHandle Tryz.prog 33 = .pointer (some ⟨12, 33, none⟩) := by kernel_rfl
 rw [hth] at e5
 have hty : W.cell? ⟨11, 0, none⟩ = some (.iface 264 (.agg #[.pointer (some ⟨12, 33, none⟩)])) := by simpa using World.var?_cell hEt e5 0
 obtain ⟨az, hf⟩ := found_of texts10 ps hl (by
   intro x hx
   simp only [texts10, List.mem_cons, List.mem_nil_iff, or_false] at hx
   rcases hx with rfl | rfl | rfl | rfl | rfl | rfl | rfl | rfl | rfl | rfl
   · exact ⟨_, g0, gt0⟩
   · exact ⟨_, g1, gt1⟩
   · exact ⟨_, g2, gt2⟩
   · exact ⟨_, g3, gt3⟩
   · exact ⟨_, g4, gt4⟩
   · exact ⟨_, g5, gt5⟩
   · exact ⟨_, g6, gt6⟩
   · exact ⟨_, g7, gt7⟩
   · exact ⟨_, g8, gt8⟩
   · exact ⟨_, g9, gt9⟩) hr
 have hnd := hf.nodup hn
 have hmem := hf.mem
 match az, hf, hnd, hmem with
 | [a0, a1, a2, a3, a4, a5, a6, a7, a8, a9], ⟨x0, _, k0, c0, ⟨x1, _, k1, c1, ⟨x2, _, k2, c2, ⟨x3, _, k3, c3, ⟨x4, _, k4, c4, ⟨x5, _, k5, c5, ⟨x6, _, k6, c6, ⟨x7, _, k7, c7, ⟨x8, _, k8, c8, ⟨x9, _, k9, c9, _, _⟩, _⟩, _⟩, _⟩, _⟩, _⟩, _⟩, _⟩, _⟩, _⟩, hnd, hmem =>
   obtain rfl := Option.some.inj (g0.symm.trans k0)
   obtain rfl := Option.some.inj (g1.symm.trans k1)
   obtain rfl := Option.some.inj (g2.symm.trans k2)
   obtain rfl := Option.some.inj (g3.symm.trans k3)
   obtain rfl := Option.some.inj (g4.symm.trans k4)
   obtain rfl := Option.some.inj (g5.symm.trans k5)
   obtain rfl := Option.some.inj (g6.symm.trans k6)
   obtain rfl := Option.some.inj (g7.symm.trans k7)
   obtain rfl := Option.some.inj (g8.symm.trans k8)
   obtain rfl := Option.some.inj (g9.symm.trans k9)
   refine ⟨fun i => [a0, a1, a2, a3, a4, a5, a6, a7, a8, a9].getD i a0, c0, c1, c2, c3, c4, c5, c6, c7, c8, c9, fun i hi => ?_, fun i j hi hj he => ?_, hty, hTab⟩
   · rw [getD_is _ _ _ (by simpa using hi)]
     exact (hr _ _ (hmem _ (List.getElem_mem _))).1
   · rw [getD_is _ _ _ (by simpa using hi), getD_is _ _ _ (by simpa using hj)] at he
     have hp := List.pairwise_iff_getElem.1 hnd
     rcases Nat.lt_trichotomy i j with hlt | heq | hgt
     · exact absurd he (hp i j (by simpa using hi) (by simpa using hj) hlt)
     · exact heq
     · exact absurd he.symm (hp j i (by simpa using hj) (by simpa using hi) hgt)
theorem door10 (os : Os) (args : Array Value) : laidMetH Tryz.prog Rows.slabFullRow.laid ((World.doorLaid Tryz.prog 206 os).forCall (fun _ _ => 0) ⟨#[], args, []⟩).memory :=
 laidMetH_of_parts3 (fuel := 8) (laidMet_of_run' 8 (by kernel_rfl) (by kernel_rfl)) (by kernel_rfl) (by kernel_rfl)
end Go.Proofs.YtfefehkapffljaaGreatDoor
namespace Go.Proofs.YtfefehkapffljaaGreatDoor
open Go.RowKit Go.Extern.Stop Go.Stop Go.Extern
/-! Closed facts on the model's entries for internal/reflectlite, at this program's types: 29: *api.Fault, 59: **api.Fault, 61: *errors.errorString, 25: error, 81: reflectlite's rtype, 69: its Value. -/
theorem rl_valueOf59 (t : Addr) (w : World) : (ReflectliteValue.unpack (.iface 205 (.pointer (some t)))).run Tryz.prog w
   = .ok (.agg #[.pointer (some ⟨12, 205, none⟩), .pointer (some ⟨w.heap.size, 0, none⟩), .int .u64 150]) (w.alloc (.cells #[.pointer (some t)] 205)) := by kernel_rfl
theorem rl_type59 (a : Addr) (w : World) : (ReflectliteValue.methodAny (ReflectliteValue.valueError "reflectlite.Value.Type" 0) (fun t _ _ _ => ReflectliteType.toType t) #[.agg #[.pointer (some ⟨12, 205, none⟩), .pointer (some a), .int .u64 150]]).run Tryz.prog w
   = .ok (.iface 264 (.agg #[.pointer (some ⟨12, 205, none⟩)])) w := by kernel_rfl
theorem rl_methodKind (h : Value) (w : World) : (Go.method 436 264 (.agg #[h]) "Kind").run Tryz.prog w = .ok (235, h) w := by kernel_rfl
theorem rl_kind59 (w : World) : ((ReflectliteType.abiMethod fun t => (fun a : Nat => Value.int IntKind.u8 (a : Int)) <$> Rtype.kind t) #[.pointer (some ⟨12, 205, none⟩)]).run Tryz.prog w = .ok (.int .u8 22) w := by kernel_rfl
theorem rl_kind29 (w : World) : ((ReflectliteType.abiMethod fun t => (fun a : Nat => Value.int IntKind.u8 (a : Int)) <$> Rtype.kind t) #[.pointer (some ⟨12, 203, none⟩)]).run Tryz.prog w = .ok (.int .u8 22) w := by kernel_rfl
theorem rl_rlm (z : Sem Value) (f : TypeId → Addr → Nat → Nat → Sem Value) (v : Value) :
   ReflectliteValue.method z f #[v] = (do match ← ReflectliteValue.parts v with | none => z | some (t, a, fl) => f t a fl (fl % 32)) := rfl
theorem rl_parts59 (a : Addr) (w : World) : (ReflectliteValue.parts (.agg #[.pointer (some ⟨12, 205, none⟩), .pointer (some a), .int .u64 150])).run Tryz.prog w = .ok (some (205, a, 150)) w := by kernel_rfl
theorem rl_isNil59 (a p : Addr) (W : World) (ha : W.cell? a = some (.pointer (some p))) :
   (ReflectliteValue.method (ReflectliteValue.valueError "reflectlite.Value.IsNil" 0) ReflectliteValue.isNil #[.agg #[.pointer (some ⟨12, 205, none⟩), .pointer (some a), .int .u64 150]]).run Tryz.prog W = .ok (.bool false) W := by
 rw [rl_rlm]
 simp only [Sem.run_bind, rl_parts59, Result.andThen]
 simp [ReflectliteValue.isNil, loadVar, isAgg, underlying, Tryz.underlying205, ha, Result.andThen]
theorem rl_methodElem (h : Value) (w : World) : (Go.method 436 264 (.agg #[h]) "Elem").run Tryz.prog w = .ok (246, .agg #[h]) w := by kernel_rfl
theorem rl_methodImplements (h : Value) (w : World) : (Go.method 436 264 (.agg #[h]) "Implements").run Tryz.prog w = .ok (247, .agg #[h]) w := by kernel_rfl
theorem rl_methodAssignableTo (h : Value) (w : World) : (Go.method 436 264 (.agg #[h]) "AssignableTo").run Tryz.prog w = .ok (244, .agg #[h]) w := by kernel_rfl
theorem rl_elem59 (w : World) : (ReflectliteType.method ReflectliteType.elem #[.agg #[.pointer (some ⟨12, 205, none⟩)]]).run Tryz.prog w = .ok (.iface 264 (.agg #[.pointer (some ⟨12, 203, none⟩)])) w := by kernel_rfl
theorem rl_implements29 (w : World) : (ReflectliteType.relation "Implements" ReflectliteType.implements_ #[.agg #[.pointer (some ⟨12, 203, none⟩)], .iface 264 (.agg #[.pointer (some ⟨12, 33, none⟩)])]).run Tryz.prog w = .ok (.bool true) w := by kernel_rfl
theorem rl_typeOf29 (v : Value) (w : World) : (ReflectliteType.typeOf #[.iface 203 v]).run Tryz.prog w = .ok (.iface 264 (.agg #[.pointer (some ⟨12, 203, none⟩)])) w := by kernel_rfl
theorem rl_typeOf61 (v : Value) (w : World) : (ReflectliteType.typeOf #[.iface 304 v]).run Tryz.prog w = .ok (.iface 264 (.agg #[.pointer (some ⟨12, 304, none⟩)])) w := by kernel_rfl
theorem rl_assignable29 (w : World) : (ReflectliteType.relation "AssignableTo" ReflectliteType.assignableTo #[.agg #[.pointer (some ⟨12, 203, none⟩)], .iface 264 (.agg #[.pointer (some ⟨12, 203, none⟩)])]).run Tryz.prog w = .ok (.bool true) w := by kernel_rfl
theorem rl_assignable61 (w : World) : (ReflectliteType.relation "AssignableTo" ReflectliteType.assignableTo #[.agg #[.pointer (some ⟨12, 304, none⟩)], .iface 264 (.agg #[.pointer (some ⟨12, 203, none⟩)])]).run Tryz.prog w = .ok (.bool false) w := by kernel_rfl
theorem rl_valueOf29 (e : Addr) (w : World) : (ReflectliteValue.unpack (.iface 203 (.pointer (some e)))).run Tryz.prog w
   = .ok (.agg #[.pointer (some ⟨12, 203, none⟩), .pointer (some ⟨w.heap.size, 0, none⟩), .int .u64 150]) (w.alloc (.cells #[.pointer (some e)] 203)) := by kernel_rfl
theorem rl_elemOf59 (w : World) : (Rtype.elem? 205).run Tryz.prog w = .ok (some 203) w := by kernel_rfl
theorem rl_mk29 (p : Addr) (w : World) : (ReflectliteValue.mk 203 p ReflectliteValue.flagAddr).run Tryz.prog w = .ok (.agg #[.pointer (some ⟨12, 203, none⟩), .pointer (some p), .int .u64 406]) w := by kernel_rfl
theorem rl_elemV59 (a p : Addr) (W : World) (ha : W.cell? a = some (.pointer (some p))) :
   (ReflectliteValue.method (ReflectliteValue.valueError "reflectlite.Value.Elem" 0) ReflectliteValue.elem #[.agg #[.pointer (some ⟨12, 205, none⟩), .pointer (some a), .int .u64 150]]).run Tryz.prog W
     = .ok (.agg #[.pointer (some ⟨12, 203, none⟩), .pointer (some p), .int .u64 406]) W := by
 rw [rl_rlm]
 simp only [Sem.run_bind, rl_parts59, Result.andThen]
 simp [ReflectliteValue.elem, loadVar, isAgg, underlying, Tryz.underlying205, ha, Result.andThen, rl_elemOf59, rl_mk29]
theorem rl_rls (v x : Value) : ReflectliteValue.set #[v, x] = (do
   let (some (dst, a, fl), some (src, b, _)) := (← ReflectliteValue.parts v, ← ReflectliteValue.parts x)
     | unsupported (.noEntry "extern/(internal/reflectlite.Value).Set.zeroValue")
   if fl / ReflectliteValue.flagAddr % 2 == 0 then unsupported (.noEntry "extern/(internal/reflectlite.Value).Set.unaddressable")
   let val ← loadVar src b
   if ← Rtype.directlyAssignable dst src then storeVar dst a val
   else if ← Rtype.implements dst src then
     if (← Rtype.kind src) == 20 then
       match val with
       | .nilIface => unsupported (.noEntry "extern/reflectlite: a nil value of one interface type handed on as a value of another")
       | _ => storeVar dst a val
     else storeVar dst a (.iface src val)
   else panicString ("reflectlite.Set: value of type " ++ (← Rtype.spelt src) ++ " is not assignable to type " ++ (← Rtype.spelt dst))
   pure (.tuple #[])) := rfl
theorem rl_parts29a (a : Addr) (w : World) : (ReflectliteValue.parts (.agg #[.pointer (some ⟨12, 203, none⟩), .pointer (some a), .int .u64 406])).run Tryz.prog w = .ok (some (203, a, 406)) w := by kernel_rfl
theorem rl_parts29 (a : Addr) (w : World) : (ReflectliteValue.parts (.agg #[.pointer (some ⟨12, 203, none⟩), .pointer (some a), .int .u64 150])).run Tryz.prog w = .ok (some (203, a, 150)) w := by kernel_rfl
theorem rl_direct29 (w : World) : (Rtype.directlyAssignable 203 203).run Tryz.prog w = .ok true w := by kernel_rfl
theorem rl_set29 (ta b e : Addr) (old : Value) (W : World) (hb : W.cell? b = some (.pointer (some e))) (ht : W.cell? ta = some old) (hf : W.frozen? ta = false) :
   (ReflectliteValue.set #[.agg #[.pointer (some ⟨12, 203, none⟩), .pointer (some ta), .int .u64 406], .agg #[.pointer (some ⟨12, 203, none⟩), .pointer (some b), .int .u64 150]]).run Tryz.prog W
     = .ok (.tuple #[]) (W.setCell ta (.pointer (some e))) := by
 rw [rl_rls]
 simp only [Sem.run_bind, rl_parts29a, rl_parts29, Result.andThen]
 simp [ReflectliteValue.flagAddr, loadVar, isAgg, underlying, Tryz.underlying203, hb, Result.andThen, rl_direct29, storeVar, Value.cells, storeCells, Addr.add]
 rw [run_store Tryz.prog W ta _ _ (by rfl)]
 simp [ht, hf]
theorem rl_noAs (v : Value) (xT : TypeId) (w : World) : (Instr.typeAssert (.iface 304 v) xT 268 true).run Tryz.prog w = .ok (.tuple #[.nilIface, .bool false]) w := run_typeAssert_lacksB Tryz.underlying268 (by kernel_rfl) (by kernel_rfl) v xT w
theorem rl_noUnwrap (v : Value) (xT : TypeId) (w : World) : (Instr.typeAssert (.iface 304 v) xT 271 true).run Tryz.prog w = .ok (.tuple #[.nilIface, .bool false]) w := run_typeAssert_lacksB Tryz.underlying271 (by kernel_rfl) (by kernel_rfl) v xT w
theorem rl_noUnwraps (v : Value) (xT : TypeId) (w : World) : (Instr.typeAssert (.iface 304 v) xT 273 true).run Tryz.prog w = .ok (.tuple #[.nilIface, .bool false]) w := run_typeAssert_lacksB Tryz.underlying273 (by kernel_rfl) (by kernel_rfl) v xT w
set_option maxHeartbeats 4000000 in
theorem as_hit (e t : Addr) (old : Value) (w : World) (hg : w.cell? ⟨11, 0, none⟩ = some (.iface 264 (.agg #[.pointer (some ⟨12, 33, none⟩)]))) (ht0 : w.cell? t = some old) (hf0 : w.frozen? t = false) :
   Calls Tryz.prog 126 #[.iface 203 (.pointer (some e)), .iface 205 (.pointer (some t))] w fun ev w' => ev = .returned (.bool true) ∧ w' = ((((w.alloc (.cells #[.pointer (some t)] 205)).alloc (.cells #[.pointer (some ⟨12, 205, none⟩), .pointer (some ⟨w.heap.size, 0, none⟩), .int .u64 150] 240)).alloc (.cells #[.pointer (some ⟨12, 205, none⟩), .pointer (some ⟨w.heap.size, 0, none⟩), .int .u64 150] 240)).alloc (.cells #[.pointer (some e)] 203)).setCell t (.pointer (some e)) := by
 have h6 := @run_callFunc_extern Tryz.prog 166 _ (fun args => ReflectliteValue.unpack (args.getD 0 (.tuple #[]))) Tryz.func166 (by kernel_rfl) (by kernel_rfl) (by kernel_rfl) (by kernel_rfl)
 have h7 := @run_callFunc_extern Tryz.prog 167 _ (ReflectliteValue.methodAny (ReflectliteValue.valueError "reflectlite.Value.Type" 0) (fun t _ _ _ => ReflectliteType.toType t)) Tryz.func167 (by kernel_rfl) (by kernel_rfl) (by kernel_rfl) (by kernel_rfl)
 have h8 := @run_callFunc_extern Tryz.prog 168 _ (ReflectliteValue.method (ReflectliteValue.valueError "reflectlite.Value.IsNil" 0) ReflectliteValue.isNil) Tryz.func168 (by kernel_rfl) (by kernel_rfl) (by kernel_rfl) (by kernel_rfl)
 have h27 := @run_callFunc_extern Tryz.prog 235 _ (ReflectliteType.abiMethod fun t => do pure (.int .u8 (← Rtype.kind t))) Tryz.func235 (by kernel_rfl) (by kernel_rfl) (by kernel_rfl) (by kernel_rfl)
 have h37 := @run_callFunc_extern Tryz.prog 246 _ (ReflectliteType.method ReflectliteType.elem) Tryz.func246 (by kernel_rfl) (by kernel_rfl) (by kernel_rfl) (by kernel_rfl)
 have h38 := @run_callFunc_extern Tryz.prog 247 _ (ReflectliteType.relation "Implements" ReflectliteType.implements_) Tryz.func247 (by kernel_rfl) (by kernel_rfl) (by kernel_rfl) (by kernel_rfl)
 have h10 := @run_callFunc_extern Tryz.prog 170 _ ReflectliteType.typeOf Tryz.func170 (by kernel_rfl) (by kernel_rfl) (by kernel_rfl) (by kernel_rfl)
 have h35 := @run_callFunc_extern Tryz.prog 244 _ (ReflectliteType.relation "AssignableTo" ReflectliteType.assignableTo) Tryz.func244 (by kernel_rfl) (by kernel_rfl) (by kernel_rfl) (by kernel_rfl)
 have h11 := @run_callFunc_extern Tryz.prog 186 _ (ReflectliteValue.method (ReflectliteValue.valueError "reflectlite.Value.Elem" 0) ReflectliteValue.elem) Tryz.func186 (by kernel_rfl) (by kernel_rfl) (by kernel_rfl) (by kernel_rfl)
 have h12 := @run_callFunc_extern Tryz.prog 187 _ ReflectliteValue.set Tryz.func187 (by kernel_rfl) (by kernel_rfl) (by kernel_rfl) (by kernel_rfl)
 have tO := rl_typeOf29
 have mA := rl_methodAssignableTo
 have a25 := rl_assignable29
 have v25 := rl_valueOf29
 have f6 := rl_valueOf59
 have f7 := rl_type59
 have mK := rl_methodKind
 have mE := rl_methodElem
 have mI := rl_methodImplements
 have k27 := rl_kind59
 have k25 := rl_kind29
 have e27 := rl_elem59
 have i25 := rl_implements29
 have n8 := rl_isNil59 ⟨w.heap.size, 0, none⟩ t ((w.alloc (.cells #[.pointer (some t)] 205)).alloc (.cells #[.pointer (some ⟨12, 205, none⟩), .pointer (some ⟨w.heap.size, 0, none⟩), .int .u64 150] 240)) (by simp)
 have hlt := cell_lt hg
 simp only at hlt
 have hg2 : ((w.alloc (.cells #[.pointer (some t)] 205)).alloc (.cells #[.pointer (some ⟨12, 205, none⟩), .pointer (some ⟨w.heap.size, 0, none⟩), .int .u64 150] 240)).cell? ⟨11, 0, none⟩ = some (.iface 264 (.agg #[.pointer (some ⟨12, 33, none⟩)])) := by
   rw [World.cell?_alloc_lt _ _ ⟨11, 0, none⟩ (by simp; omega), World.cell?_alloc_lt _ _ ⟨11, 0, none⟩ hlt]; exact hg
 have htl : t.block < w.heap.size := by
   rcases Nat.lt_or_ge t.block w.heap.size with h | h
   · exact h
   · simp [World.cell?, Array.getElem?_eq_none h] at ht0
 have el := rl_elemV59 ⟨w.heap.size, 0, none⟩ t (((w.alloc (.cells #[.pointer (some t)] 205)).alloc (.cells #[.pointer (some ⟨12, 205, none⟩), .pointer (some ⟨w.heap.size, 0, none⟩), .int .u64 150] 240)).alloc (.cells #[.pointer (some ⟨12, 205, none⟩), .pointer (some ⟨w.heap.size, 0, none⟩), .int .u64 150] 240)) (by rw [World.cell?_alloc_lt _ _ ⟨w.heap.size, 0, none⟩ (by simp; omega)]; simp)
 have st := rl_set29 t ⟨w.heap.size + 1 + 1 + 1, 0, none⟩ e old ((((w.alloc (.cells #[.pointer (some t)] 205)).alloc (.cells #[.pointer (some ⟨12, 205, none⟩), .pointer (some ⟨w.heap.size, 0, none⟩), .int .u64 150] 240)).alloc (.cells #[.pointer (some ⟨12, 205, none⟩), .pointer (some ⟨w.heap.size, 0, none⟩), .int .u64 150] 240)).alloc (.cells #[.pointer (some e)] 203))
   (by rw [World.cell?_alloc_at _ _ _ _ (by simp)]; rfl)
   (by rw [World.cell?_alloc_lt _ _ t (by simp; omega), World.cell?_alloc_lt _ _ t (by simp; omega), World.cell?_alloc_lt _ _ t (by simp; omega), World.cell?_alloc_lt _ _ t htl]; exact ht0)
   (by rw [World.frozen?_alloc_old _ _ t (by simp; omega), World.frozen?_alloc_old _ _ t (by simp; omega), World.frozen?_alloc_old _ _ t (by simp; omega), World.frozen?_alloc_old _ _ t (Nat.ne_of_lt htl)]; exact hf0)
 go_enter Tryz.func126, Tryz.ntmps126
 go_wp2
 refine wp_loop_rounds 1 ?_
 rw [rounds_succ]
 go_wp2
 go_ret
 exact ⟨rfl, rfl⟩
set_option maxHeartbeats 4000000 in
theorem as_miss (e t : Addr) (w : World) (hg : w.cell? ⟨11, 0, none⟩ = some (.iface 264 (.agg #[.pointer (some ⟨12, 33, none⟩)]))) :
   Calls Tryz.prog 126 #[.iface 304 (.pointer (some e)), .iface 205 (.pointer (some t))] w fun ev w' => ev = .returned (.bool false) ∧ w' = ((w.alloc (.cells #[.pointer (some t)] 205)).alloc (.cells #[.pointer (some ⟨12, 205, none⟩), .pointer (some ⟨w.heap.size, 0, none⟩), .int .u64 150] 240)).alloc (.cells #[.pointer (some ⟨12, 205, none⟩), .pointer (some ⟨w.heap.size, 0, none⟩), .int .u64 150] 240) := by
 have h6 := @run_callFunc_extern Tryz.prog 166 _ (fun args => ReflectliteValue.unpack (args.getD 0 (.tuple #[]))) Tryz.func166 (by kernel_rfl) (by kernel_rfl) (by kernel_rfl) (by kernel_rfl)
 have h7 := @run_callFunc_extern Tryz.prog 167 _ (ReflectliteValue.methodAny (ReflectliteValue.valueError "reflectlite.Value.Type" 0) (fun t _ _ _ => ReflectliteType.toType t)) Tryz.func167 (by kernel_rfl) (by kernel_rfl) (by kernel_rfl) (by kernel_rfl)
 have h8 := @run_callFunc_extern Tryz.prog 168 _ (ReflectliteValue.method (ReflectliteValue.valueError "reflectlite.Value.IsNil" 0) ReflectliteValue.isNil) Tryz.func168 (by kernel_rfl) (by kernel_rfl) (by kernel_rfl) (by kernel_rfl)
 have h27 := @run_callFunc_extern Tryz.prog 235 _ (ReflectliteType.abiMethod fun t => do pure (.int .u8 (← Rtype.kind t))) Tryz.func235 (by kernel_rfl) (by kernel_rfl) (by kernel_rfl) (by kernel_rfl)
 have h37 := @run_callFunc_extern Tryz.prog 246 _ (ReflectliteType.method ReflectliteType.elem) Tryz.func246 (by kernel_rfl) (by kernel_rfl) (by kernel_rfl) (by kernel_rfl)
 have h38 := @run_callFunc_extern Tryz.prog 247 _ (ReflectliteType.relation "Implements" ReflectliteType.implements_) Tryz.func247 (by kernel_rfl) (by kernel_rfl) (by kernel_rfl) (by kernel_rfl)
 have h10 := @run_callFunc_extern Tryz.prog 170 _ ReflectliteType.typeOf Tryz.func170 (by kernel_rfl) (by kernel_rfl) (by kernel_rfl) (by kernel_rfl)
 have h35 := @run_callFunc_extern Tryz.prog 244 _ (ReflectliteType.relation "AssignableTo" ReflectliteType.assignableTo) Tryz.func244 (by kernel_rfl) (by kernel_rfl) (by kernel_rfl) (by kernel_rfl)
 have tO := rl_typeOf61
 have mA := rl_methodAssignableTo
 have a61 := rl_assignable61
 have f6 := rl_valueOf59
 have f7 := rl_type59
 have mK := rl_methodKind
 have mE := rl_methodElem
 have mI := rl_methodImplements
 have k27 := rl_kind59
 have k25 := rl_kind29
 have e27 := rl_elem59
 have i25 := rl_implements29
 have q1 := rl_noAs
 have q2 := rl_noUnwrap
 have q3 := rl_noUnwraps
 have n8 := rl_isNil59 ⟨w.heap.size, 0, none⟩ t ((w.alloc (.cells #[.pointer (some t)] 205)).alloc (.cells #[.pointer (some ⟨12, 205, none⟩), .pointer (some ⟨w.heap.size, 0, none⟩), .int .u64 150] 240)) (by simp)
 have hlt := cell_lt hg
 simp only at hlt
 have hg2 : ((w.alloc (.cells #[.pointer (some t)] 205)).alloc (.cells #[.pointer (some ⟨12, 205, none⟩), .pointer (some ⟨w.heap.size, 0, none⟩), .int .u64 150] 240)).cell? ⟨11, 0, none⟩ = some (.iface 264 (.agg #[.pointer (some ⟨12, 33, none⟩)])) := by
   rw [World.cell?_alloc_lt _ _ ⟨11, 0, none⟩ (by simp; omega), World.cell?_alloc_lt _ _ ⟨11, 0, none⟩ hlt]; exact hg
 go_enter Tryz.func126, Tryz.ntmps126
 go_wp2
 refine wp_loop_rounds 1 ?_
 rw [rounds_succ]
 go_wp2
 go_ret
 exact ⟨rfl, rfl⟩
end Go.Proofs.YtfefehkapffljaaGreatDoor
namespace Go.Proofs.YtfefehkapffljaaGreatDoor
open Go.RowKit Go.Extern.Stop Go.Stop Go.Extern
theorem is_typeOf (v : Value) (w : World) : (Extern.ReflectliteType.typeOf #[.iface 304 v]).run Tryz.prog w = .ok (.iface 264 (.agg #[.pointer (some ⟨12, 304, none⟩)])) w := by kernel_rfl
theorem cmp_entry : ∃ f : Array Value → Sem Value, Extern.find Tryz.f245 = some f ∧ ∀ w, (f #[.agg #[.pointer (some ⟨12, 304, none⟩)]]).run Tryz.prog w = .ok (.bool true) w :=
 ⟨(Extern.find Tryz.f245).getD (fun _ => pure .nilIface), by kernel_rfl, fun _ => by kernel_rfl⟩
theorem is_methodComparable (v : Value) (w : World) : (Go.method 436 264 v "Comparable").run Tryz.prog w = .ok (245, v) w := by kernel_rfl
theorem is_comp : (Tryz.prog.info? 304).map (·.comparable) = some true := by kernel_rfl
theorem is_size : (Tryz.prog.info? 324).map (·.size) = some 1 := by kernel_rfl
theorem is_noIsE (v : Value) (xT : TypeId) (w : World) : (Instr.typeAssert (.iface 304 v) xT 275 true).run Tryz.prog w = .ok (.tuple #[.nilIface, .bool false]) w := run_typeAssert_lacksB Tryz.underlying275 (by kernel_rfl) (by kernel_rfl) v xT w
theorem is_noUnwrapE (v : Value) (xT : TypeId) (w : World) : (Instr.typeAssert (.iface 304 v) xT 271 true).run Tryz.prog w = .ok (.tuple #[.nilIface, .bool false]) w := run_typeAssert_lacksB Tryz.underlying271 (by kernel_rfl) (by kernel_rfl) v xT w
theorem is_noUnwrapsE (v : Value) (xT : TypeId) (w : World) : (Instr.typeAssert (.iface 304 v) xT 273 true).run Tryz.prog w = .ok (.tuple #[.nilIface, .bool false]) w := run_typeAssert_lacksB Tryz.underlying273 (by kernel_rfl) (by kernel_rfl) v xT w
theorem is_same (a : Addr) (w : World) :
   Calls Tryz.prog 127 #[.iface 304 (.pointer (some a)), .iface 304 (.pointer (some a))] w fun e w' => e = .returned (.bool true) ∧ w' = w := by
 obtain ⟨i, hi, hcmp⟩ := Option.map_eq_some_iff.1 is_comp
 obtain ⟨j, hj, hjs⟩ := Option.map_eq_some_iff.1 is_size
 have h8 := @run_callFunc_extern Tryz.prog 170 _ Extern.ReflectliteType.typeOf Tryz.func170 (by kernel_rfl) (by kernel_rfl) (by kernel_rfl) (by kernel_rfl)
 obtain ⟨cmp, hcmpE, cT⟩ := cmp_entry
 have h32 := @run_callFunc_extern Tryz.prog 245 _ cmp Tryz.func245 (by kernel_rfl) (by kernel_rfl) (by kernel_rfl) hcmpE
 clear hcmpE
 have tT := is_typeOf
 have mR := is_methodComparable
 have heq := run_eql_iface_ptr_same (P := Tryz.prog) w a Tryz.underlying33 Tryz.underlying304 hi hcmp hj
 go_enter Tryz.func127, Tryz.ntmps127
 go_wp2
 refine wp_loop_rounds 1 ?_
 rw [rounds_succ]
 go_wp2
 go_ret
 exact ⟨rfl, rfl⟩
theorem is_other (a b : Addr) (ca cb : Array Value) (ta tb : TypeId) (w : World) (hne : a ≠ b) (ha : w.heap[a.block]? = some (.cells ca ta (0, 0))) (hb : w.heap[b.block]? = some (.cells cb tb (0, 0))) :
   Calls Tryz.prog 127 #[.iface 304 (.pointer (some a)), .iface 304 (.pointer (some b))] w fun e w' => e = .returned (.bool false) ∧ w' = w := by
 obtain ⟨i, hi, hcmp⟩ := Option.map_eq_some_iff.1 is_comp
 obtain ⟨j, hj, hjs⟩ := Option.map_eq_some_iff.1 is_size
 have h8 := @run_callFunc_extern Tryz.prog 170 _ Extern.ReflectliteType.typeOf Tryz.func170 (by kernel_rfl) (by kernel_rfl) (by kernel_rfl) (by kernel_rfl)
 obtain ⟨cmp, hcmpE, cT⟩ := cmp_entry
 have h32 := @run_callFunc_extern Tryz.prog 245 _ cmp Tryz.func245 (by kernel_rfl) (by kernel_rfl) (by kernel_rfl) hcmpE
 clear hcmpE
 have tT := is_typeOf
 have mR := is_methodComparable
 have nE := is_noIsE
 have uE := is_noUnwrapE
 have vE := is_noUnwrapsE
 have heq := run_eql_iface_ptr_other (P := Tryz.prog) w Tryz.underlying33 Tryz.underlying304 hi hcmp hj (by rw [hjs]; decide) hne ha hb
 go_enter Tryz.func127, Tryz.ntmps127
 go_wp2
 refine wp_loop_rounds 1 ?_
 rw [rounds_succ]
 go_wp2
 go_ret
 exact ⟨rfl, rfl⟩
end Go.Proofs.YtfefehkapffljaaGreatDoor
namespace Go.Proofs.YtfefehkapffljaaGreatDoor
open Go.RowKit
theorem code_nil (w : World) : Calls Tryz.prog 65 #[.nilIface] w fun ev w' => ev = .returned (.tuple #[.int .i64 0, .int .i64 (-1)]) ∧ Below w.heap.size w w' := by
 go_enter Tryz.func65, Tryz.ntmps65
 go_wp2_with fail
 go_ret2
 exact ⟨rfl, Below.refl _ _⟩
abbrev tenO (e : Nat → Addr) : Obj := .cells #[Fr.errV (e 0), Fr.errV (e 1), Fr.errV (e 2), Fr.errV (e 3), Fr.errV (e 4), Fr.errV (e 5), Fr.errV (e 6), Fr.errV (e 7), Fr.errV (e 8), Fr.errV (e 9)] 33
theorem ten_cell (w : World) (e : Nat → Addr) (n : Nat) (hn : n < 10) : (w.alloc (tenO e)).cell? ⟨w.heap.size, n, none⟩ = some (.iface 304 (.pointer (some (e n)))) := by
 match n, hn with
 | 0, _ => simp
 | 1, _ => simp
 | 2, _ => simp
 | 3, _ => simp
 | 4, _ => simp
 | 5, _ => simp
 | 6, _ => simp
 | 7, _ => simp
 | 8, _ => simp
 | 9, _ => simp
 | k + 10, h => omega
set_option maxHeartbeats 1000000 in
theorem code_sent (i : Nat) (hi : i < 10) (w : World) (e : Nat → Addr) (he : Errs w e) :
   Calls Tryz.prog 65 #[.iface 304 (.pointer (some (e i)))] w fun ev w' => ev = .returned (.tuple #[.int .i64 (i + 1), .int .i64 (-1)]) ∧ Below w.heap.size w w' := by
 go_enter Tryz.func65, Tryz.ntmps65
 go_wp2_with fail
 refine (as_miss _ _ _ (he.alloc _).typ).mono ?_
 rintro ev w1 ⟨rfl, hw1⟩
 have hb : Below w.heap.size w w1 := by rw [hw1]; exact Fr.ballo (Fr.ballo (Fr.ballo (Fr.ballo (Below.refl _ _) _) _) _) _
 clear hw1
 have h1 := he.below hb
 have v0 := h1.v0
 have v1 := h1.v1
 have v2 := h1.v2
 have v3 := h1.v3
 have v4 := h1.v4
 have v5 := h1.v5
 have v6 := h1.v6
 have v7 := h1.v7
 have v8 := h1.v8
 have v9 := h1.v9
 clear he
 go_wp2_with fail
 have hcell := ten_cell w1 e
 have h2 := h1.alloc (tenO e)
 have hb2 := Fr.ballo hb (tenO e)
 clear h1 hb v0 v1 v2 v3 v4 v5 v6 v7 v8 v9
 generalize w1.alloc (tenO e) = W2 at *
 generalize w1.heap.size = B at *
 have H2 := hide h2
 have HB := hide hb2
 clear h2 hb2
 have HC := hide hcell
 clear hcell
 go_loop [3, 28] (fun at_ k => ∃ n : Nat, n ≤ i ∧ k = .int .i64 n ∧ at_ = .int .i64 (-1)) (fun _ k => 10 - (intOf k).toNat)
 case atStart => exact ⟨0, Nat.zero_le _, rfl, rfl⟩
 case round =>
   obtain ⟨n, hn, rfl, rfl⟩ := hrel
   have hc := (unhide HC) n (by omega)
   by_cases hni : n = i
   · subst hni
     go_wp2_with (go_at_call 127; refine (is_same _ _).mono ?_; rintro ev w' ⟨rfl, rfl⟩)
     go_ret2
     exact ⟨rfl, unhide HB⟩
   · obtain ⟨ca, ta, hba⟩ := (unhide H2).blk i hi
     obtain ⟨cb, tb, hbb⟩ := (unhide H2).blk n (by omega)
     have HI := hide (is_other (e i) (e n) ca cb ta tb W2 (fun h => hni ((unhide H2).inj i n hi (by omega) h).symm) hba hbb)
     have hlt : n < i := by omega
     clear hba hbb hni
     go_wp2_with (go_at_call 127; refine (unhide HI).mono ?_; rintro ev w' ⟨rfl, rfl⟩)
     go_round
     case rel => exact ⟨n + 1, by omega, by go_num, rfl⟩
     case measure => simp [intOf]; omega
theorem coded_sent (i : Nat) (hi : i < 10) (c : Int) (hc : c = i + 1) (w : World) (e : Nat → Addr) (he : Errs w e) :
   Calls Tryz.prog 22 #[.iface 304 (.pointer (some (e i))), .int .i64 c] w fun ev w' => ev = .returned (.bool true) ∧ Below w.heap.size w w' := by
 subst hc
 go_enter Tryz.func22, Tryz.ntmps22
 go_wp2_with (go_at_call 65; refine (code_sent i hi _ e he).mono ?_; rintro ev w' ⟨rfl, hb⟩)
 go_ret
 exact ⟨rfl, by assumption⟩
theorem coded_nil (w : World) : Calls Tryz.prog 22 #[.nilIface, .int .i64 0] w fun ev w' => ev = .returned (.bool true) ∧ Below w.heap.size w w' := by
 go_enter Tryz.func22, Tryz.ntmps22
 go_wp2_with (go_at_call 65; refine (code_nil _).mono ?_; rintro ev w' ⟨rfl, hb⟩)
 go_ret
 exact ⟨rfl, by assumption⟩
end Go.Proofs.YtfefehkapffljaaGreatDoor
