/- The document's answer's own Take · The contract of package buddy's New · The contract of package buddy's Pages: how many are free, in whatever order the map is gone through · The contracts of errors.As at the target that package plain hands it (a pointer to a variable of type *api.Fault): at nil, at an error of errors.New's make, at an *api.Fault. -/
import Derived.Test.YtcbmfakjfoggaaaGreatDoorG06
import Derived.Deep.DrawnRows
import Derived.Test.YtcbmfakjfoggaaaGreatDoorG02
import Derived.Maps.RangeWalk
import Derived.Test.YtcbmfakjfoggaaaGreatDoorG00
import Derived.LaidEql
import Derived.Stop.Asserts
import Derived.RowKitTokens
namespace Go.Proofs.YtcbmfakjfoggaaaGreatDoor
open Go.RowKit
attribute [local go_sem ↓] Go.wp_at_zero Go.wp_at_succ
namespace Bd
open Fr
theorem Off.box2 {w : World} {b c d : Nat} (h : Off w b c) (h2 : Off w b d) (hd : d ≠ b) (o : Nat) (u : Value) : Off (w.setCell ⟨d, o, none⟩ u) b c := by
  obtain ⟨u1, L1, g1, r1⟩ := h.o1
  obtain ⟨u2, L2, g2, r2⟩ := h.o2
  obtain ⟨v1, M1, e1, l1⟩ := h2.o1
  obtain ⟨v2, M2, e2, l2⟩ := h2.o2
  have q1 : u1 = v1 := Option.some.inj (g1.symm.trans e1)
  have q2 : u2 = v2 := Option.some.inj (g2.symm.trans e2)
  subst q1
  subst q2
  exact ⟨⟨u1, L1, (cso (by simp <;> omega)).trans g1, r1.off2 l1 _ _⟩, ⟨u2, L2, (cso (by simp <;> omega)).trans g2, r2.off2 l2 _ _⟩⟩

end Bd
end Go.Proofs.YtcbmfakjfoggaaaGreatDoor
namespace Go.Proofs.YtcbmfakjfoggaaaGreatDoor
open Go.RowKit Go.Maps
namespace Bd
open Fr
theorem cv_pos {N : Int} (h : 1 ≤ N) : cv 0 N ≠ [] := by rw [cv_cons 0 N h]; simp
end Bd
end Go.Proofs.YtcbmfakjfoggaaaGreatDoor
namespace Go.Proofs.YtcbmfakjfoggaaaGreatDoor
open Go.RowKit Go.Maps
namespace Bd
open Fr
theorem pgs_del {x : Bl} {l : List Bl} (hs : Srt l) (h : x ∈ l) : pgs (del x.1 l) + pw x.2 = pgs l := by
  induction l with
  | nil => cases h
  | cons y l ih =>
    rw [srt_cons] at hs
    rcases List.mem_cons.1 h with h1 | h
    · subst h1
      have e : del x.1 (x :: l) = l := by
        show List.filter _ (x :: l) = l
        rw [List.filter_cons]
        simp only [bne_self_eq_false, Bool.false_eq_true, if_false]
        exact del_none (a := x.1) (fun y hy => by have := hs.1 y hy; omega)
      rw [e]; simp [pgs]; omega
    · have := hs.1 x h
      have e : del x.1 (y :: l) = y :: del x.1 l := by
        show List.filter _ (y :: l) = y :: List.filter _ l
        rw [List.filter_cons, if_pos (by simp only [bne_iff_ne, ne_eq]; omega)]
      rw [e]; have := ih hs.2 h; simp [pgs]; omega
theorem pgs_bd : ∀ {l : List Bl}, (∀ x ∈ l, 0 ≤ x.2 ∧ x.2 ≤ 6) → 0 ≤ pgs l ∧ pgs l ≤ 64 * l.length
  | [], _ => by simp [pgs]
  | x :: l, h => by
    have h1 := h x (List.mem_cons_self ..)
    have h2 := pgs_bd (l := l) (fun y hy => h y (List.mem_cons_of_mem _ hy))
    have h3 := pw_pos x.2
    have h4 := pw_le6 x.2 h1.1 h1.2
    simp [pgs]; omega
def lft (left : Lit → Bool) (F : List Bl) : List Bl := F.filter (fun x => left (.int .i64 x.1))
theorem lft_all (F : List Bl) : lft (Maps.has (dOf F)) F = F := List.filter_eq_self.2 (fun x hx => by rw [dOf_has]; simp; exact ⟨x.2, hx⟩)
theorem lft_none {left : Lit → Bool} (F : List Bl) (h : ∀ kl, left kl = false) : lft left F = [] := by unfold lft; rw [List.filter_eq_nil_iff]; intro x _; simp [h]
theorem lft_step (left : Lit → Bool) (F : List Bl) (a : Int) : lft (fun z => left z && !z.sameKey (.int .i64 a)) F = del a (lft left F) := by
  unfold lft del
  rw [List.filter_filter]
  apply List.filter_congr
  intro x _
  show (left _ && !(Lit.int .i64 x.1).sameKey (.int .i64 a)) = _
  rw [same_int, Bool.and_comm]
  rfl

set_option maxRecDepth 100000 in
set_option maxHeartbeats 4000000 in
theorem pages_free (b fm tm : Nat) (N : Int) (F T : List Bl) (w : World) (h : Bud w b fm tm N F T) :
    Calls Tryz.prog 252 #[ptr b] w fun ev w' => ev = .returned (.tuple #[.int .i64 (pgs F), .int .i64 N]) ∧ Below w.heap.size w w' := by
  have c1 := h.c1
  have hown := h.f.own
  have hbl := h.lt
  have hfl := h.f.lt
  have HB := hide h
  have hbd := pgs_bd (fun x hx => ⟨(h.f.rng x hx).2.2.1, (h.f.rng x hx).2.2.2⟩)
  have hlen := h.f.len
  have HS := hide h.f.srt
  have HRG := hide h.f.rng
  clear h
  unfold ptr
  go_enter Tryz.func252, Tryz.ntmps252
  go_wp2_with (first
    | (at_range; refine wpList_range_own _ rfl _ 325 rfl 3 3 law Tryz.underlying325 _ fm F.length _ rfl hown ?_; intro w0 hrg0 hg0 hs0)
    | go_in)
  go_frame
  go_loopw [2] (fun s wr => ∃ (left : Lit → Bool) (cnt : Nat) (q : Int), s = .int .i64 q ∧ 0 ≤ q ∧ wr.ranges Tryz.prog 3 (plainElem Tryz.prog 3) fm w.heap.size F.length (dOf F) left cnt ∧ Hid (q + pgs (lft left F) = pgs F) ∧ Below w.heap.size w wr)
    (fun _ wr => wr.rangeLeft fm w.heap.size)
  case atStart =>
    exact ⟨_, _, 0, rfl, by omega, hrg0, by show (0 : Int) + _ = _; rw [lft_all]; omega, (Below.refl _ _).grown hg0 (Nat.le_refl _) (fun j hj => by cases hj)⟩
  case round =>
    obtain ⟨left, cnt, q, rfl, hqq, hrg, hq, hnx⟩ := hrel
    go_wp2_with (first
      | (at_next; refine wpList_next_ranges_ii _ rfl _ rfl 3 3 .i64 .i64 law Tryz.underlying3 Tryz.underlying3 fm w.heap.size F.length _ _ _ rfl hrg ?_ ?_)
      | go_in)
    · intro hc0 hl0
      have hq2 := unhide hq
      rw [lft_none F hl0] at hq2
      have e : q = pgs F := by simpa [pgs] using hq2
      have HE := hide e
      clear e hq2 hq
      have k0 := (hnx.cell (p := ⟨b, 0, none⟩) hbl).trans (unhide HB).c0
      go_wp2_with fail
      go_quiet (fail)
      go_wp2
      go_ret2
      exact ⟨by rw [← unhide HE]; rfl, bdrN hnx _⟩
    · intro x c w1 cnt1 hwx hwc hlx hat hrg1 hlt hg1 hs1 hen
      have hmem : (x, c) ∈ F := by
        have h1 := Maps.has_true_of_atKey hat
        rw [dOf_has] at h1
        simp at h1
        obtain ⟨y, hy⟩ := h1
        have := dOf_at (unhide HS) hy (.nil)
        rw [hat] at this
        have e : c = y := by simpa using this
        rw [e]; exact hy
      have hr := (unhide HRG) _ hmem
      simp only at hr
      have hmem2 : (x, c) ∈ lft left F := List.mem_filter.2 ⟨hmem, hlx⟩
      have hd := pgs_del (l := lft left F) ((unhide HS).filter _) hmem2
      simp only at hd
      have hpos := (pgs_bd (l := del x (lft left F)) (fun y hy => by
        have := (unhide HRG) y (List.mem_filter.1 (mem_del.1 hy).1).1
        omega)).1
      have hp := pw_pos c
      have hp2 := pw_le6 c hr.2.2.1 hr.2.2.2
      have hq2 := unhide hq
      have hst := hide (lft_step left F x)
      obtain ⟨c0, c6⟩ := hr.2.2
      have hpk : (2 : Int) ^ c.toNat = pw c := rfl
      have HQ := hide (show q + pw c + pgs (del x (lft left F)) = pgs F by omega)
      generalize pw c = d at *
      clear hat hmem hmem2 hd hr
      have hq3 : q + d ≤ 16384 := by have := unhide HQ; omega
      go_wp2
      go_roundw
      case rel => exact ⟨_, cnt1, q + d, by go_num, by omega, hrg1, by show _ = _; rw [unhide hst]; exact unhide HQ, hnx.grown hg1 hnx.size (fun j hj => by cases hj; exact Nat.le_refl _)⟩
      case measure => rw [hrg1.left_eq, hrg.left_eq]; exact hlt
end Bd
end Go.Proofs.YtcbmfakjfoggaaaGreatDoor
namespace Go.Proofs.YtcbmfakjfoggaaaGreatDoor
open Go.RowKit Go.Extern.Stop Go.Stop Go.Extern

theorem as_nil (t : Value) (w : World) :
    Calls Tryz.prog 76 #[.nilIface, t] w fun e w' => e = .returned (.bool false) ∧ w' = w := by
  go_enter Tryz.func76, Tryz.ntmps76
  go_wp2
  go_ret
  exact ⟨rfl, rfl⟩

/-! Closed facts on the model's entries for internal/reflectlite, at this program's types: 29: *api.Fault, 59: **api.Fault, 61: *errors.errorString, 25: error, 81: reflectlite's rtype, 69: its Value. -/
theorem rl_valueOf59 (t : Addr) (w : World) : (ReflectliteValue.unpack (.iface 272 (.pointer (some t)))).run Tryz.prog w
    = .ok (.agg #[.pointer (some ⟨12, 272, none⟩), .pointer (some ⟨w.heap.size, 0, none⟩), .int .u64 150]) (w.alloc (.cells #[.pointer (some t)] 272)) := by kernel_rfl
theorem rl_type59 (a : Addr) (w : World) : (ReflectliteValue.methodAny (ReflectliteValue.valueError "reflectlite.Value.Type" 0) (fun t _ _ _ => ReflectliteType.toType t) #[.agg #[.pointer (some ⟨12, 272, none⟩), .pointer (some a), .int .u64 150]]).run Tryz.prog w
    = .ok (.iface 342 (.agg #[.pointer (some ⟨12, 272, none⟩)])) w := by kernel_rfl
theorem rl_methodKind (h : Value) (w : World) : (Go.method 554 342 (.agg #[h]) "Kind").run Tryz.prog w = .ok (315, h) w := by kernel_rfl
theorem rl_kind59 (w : World) : ((ReflectliteType.abiMethod fun t => (fun a : Nat => Value.int IntKind.u8 (a : Int)) <$> Rtype.kind t) #[.pointer (some ⟨12, 272, none⟩)]).run Tryz.prog w = .ok (.int .u8 22) w := by kernel_rfl
theorem rl_kind29 (w : World) : ((ReflectliteType.abiMethod fun t => (fun a : Nat => Value.int IntKind.u8 (a : Int)) <$> Rtype.kind t) #[.pointer (some ⟨12, 271, none⟩)]).run Tryz.prog w = .ok (.int .u8 22) w := by kernel_rfl
theorem rl_rlm (z : Sem Value) (f : TypeId → Addr → Nat → Nat → Sem Value) (v : Value) :
    ReflectliteValue.method z f #[v] = (do match ← ReflectliteValue.parts v with | none => z | some (t, a, fl) => f t a fl (fl % 32)) := rfl
theorem rl_parts59 (a : Addr) (w : World) : (ReflectliteValue.parts (.agg #[.pointer (some ⟨12, 272, none⟩), .pointer (some a), .int .u64 150])).run Tryz.prog w = .ok (some (272, a, 150)) w := by kernel_rfl
theorem rl_isNil59 (a p : Addr) (W : World) (ha : W.cell? a = some (.pointer (some p))) :
    (ReflectliteValue.method (ReflectliteValue.valueError "reflectlite.Value.IsNil" 0) ReflectliteValue.isNil #[.agg #[.pointer (some ⟨12, 272, none⟩), .pointer (some a), .int .u64 150]]).run Tryz.prog W = .ok (.bool false) W := by
  rw [rl_rlm]
  simp only [Sem.run_bind, rl_parts59, Result.andThen]
  simp [ReflectliteValue.isNil, loadVar, isAgg, underlying, Tryz.underlying272, ha, Result.andThen]
theorem rl_methodElem (h : Value) (w : World) : (Go.method 554 342 (.agg #[h]) "Elem").run Tryz.prog w = .ok (332, .agg #[h]) w := by kernel_rfl
theorem rl_methodImplements (h : Value) (w : World) : (Go.method 554 342 (.agg #[h]) "Implements").run Tryz.prog w = .ok (333, .agg #[h]) w := by kernel_rfl
theorem rl_methodAssignableTo (h : Value) (w : World) : (Go.method 554 342 (.agg #[h]) "AssignableTo").run Tryz.prog w = .ok (330, .agg #[h]) w := by kernel_rfl
theorem rl_elem59 (w : World) : (ReflectliteType.method ReflectliteType.elem #[.agg #[.pointer (some ⟨12, 272, none⟩)]]).run Tryz.prog w = .ok (.iface 342 (.agg #[.pointer (some ⟨12, 271, none⟩)])) w := by kernel_rfl
theorem rl_implements29 (w : World) : (ReflectliteType.relation "Implements" ReflectliteType.implements_ #[.agg #[.pointer (some ⟨12, 271, none⟩)], .iface 342 (.agg #[.pointer (some ⟨12, 29, none⟩)])]).run Tryz.prog w = .ok (.bool true) w := by kernel_rfl
theorem rl_typeOf29 (v : Value) (w : World) : (ReflectliteType.typeOf #[.iface 271 v]).run Tryz.prog w = .ok (.iface 342 (.agg #[.pointer (some ⟨12, 271, none⟩)])) w := by kernel_rfl
theorem rl_typeOf61 (v : Value) (w : World) : (ReflectliteType.typeOf #[.iface 424 v]).run Tryz.prog w = .ok (.iface 342 (.agg #[.pointer (some ⟨12, 424, none⟩)])) w := by kernel_rfl
theorem rl_assignable29 (w : World) : (ReflectliteType.relation "AssignableTo" ReflectliteType.assignableTo #[.agg #[.pointer (some ⟨12, 271, none⟩)], .iface 342 (.agg #[.pointer (some ⟨12, 271, none⟩)])]).run Tryz.prog w = .ok (.bool true) w := by kernel_rfl
theorem rl_assignable61 (w : World) : (ReflectliteType.relation "AssignableTo" ReflectliteType.assignableTo #[.agg #[.pointer (some ⟨12, 424, none⟩)], .iface 342 (.agg #[.pointer (some ⟨12, 271, none⟩)])]).run Tryz.prog w = .ok (.bool false) w := by kernel_rfl
theorem rl_valueOf29 (e : Addr) (w : World) : (ReflectliteValue.unpack (.iface 271 (.pointer (some e)))).run Tryz.prog w
    = .ok (.agg #[.pointer (some ⟨12, 271, none⟩), .pointer (some ⟨w.heap.size, 0, none⟩), .int .u64 150]) (w.alloc (.cells #[.pointer (some e)] 271)) := by kernel_rfl
theorem rl_elemOf59 (w : World) : (Rtype.elem? 272).run Tryz.prog w = .ok (some 271) w := by kernel_rfl
theorem rl_mk29 (p : Addr) (w : World) : (ReflectliteValue.mk 271 p ReflectliteValue.flagAddr).run Tryz.prog w = .ok (.agg #[.pointer (some ⟨12, 271, none⟩), .pointer (some p), .int .u64 406]) w := by kernel_rfl
theorem rl_elemV59 (a p : Addr) (W : World) (ha : W.cell? a = some (.pointer (some p))) :
    (ReflectliteValue.method (ReflectliteValue.valueError "reflectlite.Value.Elem" 0) ReflectliteValue.elem #[.agg #[.pointer (some ⟨12, 272, none⟩), .pointer (some a), .int .u64 150]]).run Tryz.prog W
      = .ok (.agg #[.pointer (some ⟨12, 271, none⟩), .pointer (some p), .int .u64 406]) W := by
  rw [rl_rlm]
  simp only [Sem.run_bind, rl_parts59, Result.andThen]
  simp [ReflectliteValue.elem, loadVar, isAgg, underlying, Tryz.underlying272, ha, Result.andThen, rl_elemOf59, rl_mk29]
theorem rl_rls (v x : Value) : ReflectliteValue.set #[v, x] = (do
    let (some (dst, a, fl), some (src, b, _)) := (← ReflectliteValue.parts v, ← ReflectliteValue.parts x)
      | unsupported (.noEntry "extern/(internal/reflectlite.Value).Set.zeroValue")
    if fl / ReflectliteValue.flagAddr % 2 == 0 then unsupported (.noEntry "extern/(internal/reflectlite.Value).Set.unaddressable")
    let val ← loadVar src b
    if ← Rtype.directlyAssignable dst src then storeVar dst a val
    else if ← Rtype.implements dst src then
      if (← Rtype.kind src) == 20 then
        match val with
        | .nilIface => unsupported (.noEntry "extern/reflectlite: a nil value of one interface type handed on as a value of another")
        | _ => storeVar dst a val
      else storeVar dst a (.iface src val)
    else panicString ("reflectlite.Set: value of type " ++ (← Rtype.spelt src) ++ " is not assignable to type " ++ (← Rtype.spelt dst))
    pure (.tuple #[])) := rfl
theorem rl_parts29a (a : Addr) (w : World) : (ReflectliteValue.parts (.agg #[.pointer (some ⟨12, 271, none⟩), .pointer (some a), .int .u64 406])).run Tryz.prog w = .ok (some (271, a, 406)) w := by kernel_rfl
theorem rl_parts29 (a : Addr) (w : World) : (ReflectliteValue.parts (.agg #[.pointer (some ⟨12, 271, none⟩), .pointer (some a), .int .u64 150])).run Tryz.prog w = .ok (some (271, a, 150)) w := by kernel_rfl
theorem rl_direct29 (w : World) : (Rtype.directlyAssignable 271 271).run Tryz.prog w = .ok true w := by kernel_rfl
theorem rl_set29 (ta b e : Addr) (old : Value) (W : World) (hb : W.cell? b = some (.pointer (some e))) (ht : W.cell? ta = some old) (hf : W.frozen? ta = false) :
    (ReflectliteValue.set #[.agg #[.pointer (some ⟨12, 271, none⟩), .pointer (some ta), .int .u64 406], .agg #[.pointer (some ⟨12, 271, none⟩), .pointer (some b), .int .u64 150]]).run Tryz.prog W
      = .ok (.tuple #[]) (W.setCell ta (.pointer (some e))) := by
  rw [rl_rls]
  simp only [Sem.run_bind, rl_parts29a, rl_parts29, Result.andThen]
  simp [ReflectliteValue.flagAddr, loadVar, isAgg, underlying, Tryz.underlying271, hb, Result.andThen, rl_direct29, storeVar, Value.cells, storeCells, Addr.add]
  rw [run_store Tryz.prog W ta _ _ (by rfl)]
  simp [ht, hf]
theorem rl_noAs (v : Value) (xT : TypeId) (w : World) : (Instr.typeAssert (.iface 424 v) xT 346 true).run Tryz.prog w = .ok (.tuple #[.nilIface, .bool false]) w := run_typeAssert_lacksB Tryz.underlying346 (by kernel_rfl) (by kernel_rfl) v xT w
theorem rl_noUnwrap (v : Value) (xT : TypeId) (w : World) : (Instr.typeAssert (.iface 424 v) xT 349 true).run Tryz.prog w = .ok (.tuple #[.nilIface, .bool false]) w := run_typeAssert_lacksB Tryz.underlying349 (by kernel_rfl) (by kernel_rfl) v xT w
theorem rl_noUnwraps (v : Value) (xT : TypeId) (w : World) : (Instr.typeAssert (.iface 424 v) xT 350 true).run Tryz.prog w = .ok (.tuple #[.nilIface, .bool false]) w := run_typeAssert_lacksB Tryz.underlying350 (by kernel_rfl) (by kernel_rfl) v xT w

set_option maxHeartbeats 4000000 in
theorem as_hit (e t : Addr) (old : Value) (w : World) (hg : w.cell? ⟨9, 0, none⟩ = some (.iface 342 (.agg #[.pointer (some ⟨12, 29, none⟩)]))) (ht0 : w.cell? t = some old) (hf0 : w.frozen? t = false) :
    Calls Tryz.prog 76 #[.iface 271 (.pointer (some e)), .iface 272 (.pointer (some t))] w fun ev w' => ev = .returned (.bool true) ∧ w' = ((((w.alloc (.cells #[.pointer (some t)] 272)).alloc (.cells #[.pointer (some ⟨12, 272, none⟩), .pointer (some ⟨w.heap.size, 0, none⟩), .int .u64 150] 262)).alloc (.cells #[.pointer (some ⟨12, 272, none⟩), .pointer (some ⟨w.heap.size, 0, none⟩), .int .u64 150] 262)).alloc (.cells #[.pointer (some e)] 271)).setCell t (.pointer (some e)) := by
  have h6 := @run_callFunc_extern Tryz.prog 151 _ (fun args => ReflectliteValue.unpack (args.getD 0 (.tuple #[]))) Tryz.func151 (by kernel_rfl) (by kernel_rfl) (by kernel_rfl) (by kernel_rfl)
  have h7 := @run_callFunc_extern Tryz.prog 152 _ (ReflectliteValue.methodAny (ReflectliteValue.valueError "reflectlite.Value.Type" 0) (fun t _ _ _ => ReflectliteType.toType t)) Tryz.func152 (by kernel_rfl) (by kernel_rfl) (by kernel_rfl) (by kernel_rfl)
  have h8 := @run_callFunc_extern Tryz.prog 153 _ (ReflectliteValue.method (ReflectliteValue.valueError "reflectlite.Value.IsNil" 0) ReflectliteValue.isNil) Tryz.func153 (by kernel_rfl) (by kernel_rfl) (by kernel_rfl) (by kernel_rfl)
  have h27 := @run_callFunc_extern Tryz.prog 315 _ (ReflectliteType.abiMethod fun t => do pure (.int .u8 (← Rtype.kind t))) Tryz.func315 (by kernel_rfl) (by kernel_rfl) (by kernel_rfl) (by kernel_rfl)
  have h37 := @run_callFunc_extern Tryz.prog 332 _ (ReflectliteType.method ReflectliteType.elem) Tryz.func332 (by kernel_rfl) (by kernel_rfl) (by kernel_rfl) (by kernel_rfl)
  have h38 := @run_callFunc_extern Tryz.prog 333 _ (ReflectliteType.relation "Implements" ReflectliteType.implements_) Tryz.func333 (by kernel_rfl) (by kernel_rfl) (by kernel_rfl) (by kernel_rfl)
  have h10 := @run_callFunc_extern Tryz.prog 205 _ ReflectliteType.typeOf Tryz.func205 (by kernel_rfl) (by kernel_rfl) (by kernel_rfl) (by kernel_rfl)
  have h35 := @run_callFunc_extern Tryz.prog 330 _ (ReflectliteType.relation "AssignableTo" ReflectliteType.assignableTo) Tryz.func330 (by kernel_rfl) (by kernel_rfl) (by kernel_rfl) (by kernel_rfl)
  have h11 := @run_callFunc_extern Tryz.prog 207 _ (ReflectliteValue.method (ReflectliteValue.valueError "reflectlite.Value.Elem" 0) ReflectliteValue.elem) Tryz.func207 (by kernel_rfl) (by kernel_rfl) (by kernel_rfl) (by kernel_rfl)
  have h12 := @run_callFunc_extern Tryz.prog 208 _ ReflectliteValue.set Tryz.func208 (by kernel_rfl) (by kernel_rfl) (by kernel_rfl) (by kernel_rfl)
  have tO := rl_typeOf29
  have mA := rl_methodAssignableTo
  have a25 := rl_assignable29
  have v25 := rl_valueOf29
  have f6 := rl_valueOf59
  have f7 := rl_type59
  have mK := rl_methodKind
  have mE := rl_methodElem
  have mI := rl_methodImplements
  have k27 := rl_kind59
  have k25 := rl_kind29
  have e27 := rl_elem59
  have i25 := rl_implements29
  have n8 := rl_isNil59 ⟨w.heap.size, 0, none⟩ t ((w.alloc (.cells #[.pointer (some t)] 272)).alloc (.cells #[.pointer (some ⟨12, 272, none⟩), .pointer (some ⟨w.heap.size, 0, none⟩), .int .u64 150] 262)) (by simp)
  have hlt := cell_lt hg
  simp only at hlt
  have hg2 : ((w.alloc (.cells #[.pointer (some t)] 272)).alloc (.cells #[.pointer (some ⟨12, 272, none⟩), .pointer (some ⟨w.heap.size, 0, none⟩), .int .u64 150] 262)).cell? ⟨9, 0, none⟩ = some (.iface 342 (.agg #[.pointer (some ⟨12, 29, none⟩)])) := by
    rw [World.cell?_alloc_lt _ _ ⟨9, 0, none⟩ (by simp; omega), World.cell?_alloc_lt _ _ ⟨9, 0, none⟩ hlt]; exact hg
  have htl : t.block < w.heap.size := by
    rcases Nat.lt_or_ge t.block w.heap.size with h | h
    · exact h
    · simp [World.cell?, Array.getElem?_eq_none h] at ht0
  have el := rl_elemV59 ⟨w.heap.size, 0, none⟩ t (((w.alloc (.cells #[.pointer (some t)] 272)).alloc (.cells #[.pointer (some ⟨12, 272, none⟩), .pointer (some ⟨w.heap.size, 0, none⟩), .int .u64 150] 262)).alloc (.cells #[.pointer (some ⟨12, 272, none⟩), .pointer (some ⟨w.heap.size, 0, none⟩), .int .u64 150] 262)) (by rw [World.cell?_alloc_lt _ _ ⟨w.heap.size, 0, none⟩ (by simp; omega)]; simp)
  have st := rl_set29 t ⟨w.heap.size + 1 + 1 + 1, 0, none⟩ e old ((((w.alloc (.cells #[.pointer (some t)] 272)).alloc (.cells #[.pointer (some ⟨12, 272, none⟩), .pointer (some ⟨w.heap.size, 0, none⟩), .int .u64 150] 262)).alloc (.cells #[.pointer (some ⟨12, 272, none⟩), .pointer (some ⟨w.heap.size, 0, none⟩), .int .u64 150] 262)).alloc (.cells #[.pointer (some e)] 271))
    (by rw [World.cell?_alloc_at _ _ _ _ (by simp)]; rfl)
    (by rw [World.cell?_alloc_lt _ _ t (by simp; omega), World.cell?_alloc_lt _ _ t (by simp; omega), World.cell?_alloc_lt _ _ t (by simp; omega), World.cell?_alloc_lt _ _ t htl]; exact ht0)
    (by rw [World.frozen?_alloc_old _ _ t (by simp; omega), World.frozen?_alloc_old _ _ t (by simp; omega), World.frozen?_alloc_old _ _ t (by simp; omega), World.frozen?_alloc_old _ _ t (Nat.ne_of_lt htl)]; exact hf0)
  go_enter Tryz.func76, Tryz.ntmps76
  go_wp2
  refine wp_loop_rounds 1 ?_
  rw [rounds_succ]
  go_wp2
  go_ret
  exact ⟨rfl, rfl⟩

set_option maxHeartbeats 4000000 in
theorem as_miss (e t : Addr) (w : World) (hg : w.cell? ⟨9, 0, none⟩ = some (.iface 342 (.agg #[.pointer (some ⟨12, 29, none⟩)]))) :
    Calls Tryz.prog 76 #[.iface 424 (.pointer (some e)), .iface 272 (.pointer (some t))] w fun ev w' => ev = .returned (.bool false) ∧ w' = ((w.alloc (.cells #[.pointer (some t)] 272)).alloc (.cells #[.pointer (some ⟨12, 272, none⟩), .pointer (some ⟨w.heap.size, 0, none⟩), .int .u64 150] 262)).alloc (.cells #[.pointer (some ⟨12, 272, none⟩), .pointer (some ⟨w.heap.size, 0, none⟩), .int .u64 150] 262) := by
  have h6 := @run_callFunc_extern Tryz.prog 151 _ (fun args => ReflectliteValue.unpack (args.getD 0 (.tuple #[]))) Tryz.func151 (by kernel_rfl) (by kernel_rfl) (by kernel_rfl) (by kernel_rfl)
  have h7 := @run_callFunc_extern Tryz.prog 152 _ (ReflectliteValue.methodAny (ReflectliteValue.valueError "reflectlite.Value.Type" 0) (fun t _ _ _ => ReflectliteType.toType t)) Tryz.func152 (by kernel_rfl) (by kernel_rfl) (by kernel_rfl) (by kernel_rfl)
  have h8 := @run_callFunc_extern Tryz.prog 153 _ (ReflectliteValue.method (ReflectliteValue.valueError "reflectlite.Value.IsNil" 0) ReflectliteValue.isNil) Tryz.func153 (by kernel_rfl) (by kernel_rfl) (by kernel_rfl) (by kernel_rfl)
  have h27 := @run_callFunc_extern Tryz.prog 315 _ (ReflectliteType.abiMethod fun t => do pure (.int .u8 (← Rtype.kind t))) Tryz.func315 (by kernel_rfl) (by kernel_rfl) (by kernel_rfl) (by kernel_rfl)
  have h37 := @run_callFunc_extern Tryz.prog 332 _ (ReflectliteType.method ReflectliteType.elem) Tryz.func332 (by kernel_rfl) (by kernel_rfl) (by kernel_rfl) (by kernel_rfl)
  have h38 := @run_callFunc_extern Tryz.prog 333 _ (ReflectliteType.relation "Implements" ReflectliteType.implements_) Tryz.func333 (by kernel_rfl) (by kernel_rfl) (by kernel_rfl) (by kernel_rfl)
  have h10 := @run_callFunc_extern Tryz.prog 205 _ ReflectliteType.typeOf Tryz.func205 (by kernel_rfl) (by kernel_rfl) (by kernel_rfl) (by kernel_rfl)
  have h35 := @run_callFunc_extern Tryz.prog 330 _ (ReflectliteType.relation "AssignableTo" ReflectliteType.assignableTo) Tryz.func330 (by kernel_rfl) (by kernel_rfl) (by kernel_rfl) (by kernel_rfl)
  have tO := rl_typeOf61
  have mA := rl_methodAssignableTo
  have a61 := rl_assignable61
  have f6 := rl_valueOf59
  have f7 := rl_type59
  have mK := rl_methodKind
  have mE := rl_methodElem
  have mI := rl_methodImplements
  have k27 := rl_kind59
  have k25 := rl_kind29
  have e27 := rl_elem59
  have i25 := rl_implements29
  have q1 := rl_noAs
  have q2 := rl_noUnwrap
  have q3 := rl_noUnwraps
  have n8 := rl_isNil59 ⟨w.heap.size, 0, none⟩ t ((w.alloc (.cells #[.pointer (some t)] 272)).alloc (.cells #[.pointer (some ⟨12, 272, none⟩), .pointer (some ⟨w.heap.size, 0, none⟩), .int .u64 150] 262)) (by simp)
  have hlt := cell_lt hg
  simp only at hlt
  have hg2 : ((w.alloc (.cells #[.pointer (some t)] 272)).alloc (.cells #[.pointer (some ⟨12, 272, none⟩), .pointer (some ⟨w.heap.size, 0, none⟩), .int .u64 150] 262)).cell? ⟨9, 0, none⟩ = some (.iface 342 (.agg #[.pointer (some ⟨12, 29, none⟩)])) := by
    rw [World.cell?_alloc_lt _ _ ⟨9, 0, none⟩ (by simp; omega), World.cell?_alloc_lt _ _ ⟨9, 0, none⟩ hlt]; exact hg
  go_enter Tryz.func76, Tryz.ntmps76
  go_wp2
  refine wp_loop_rounds 1 ?_
  rw [rounds_succ]
  go_wp2
  go_ret
  exact ⟨rfl, rfl⟩
end Go.Proofs.YtcbmfakjfoggaaaGreatDoor
