/- Short names for laws of the library -/
import Derived.Below
import Derived.BigQuiet
import Derived.BigRegion
import Derived.Carry
import Derived.ChangeSame
import Derived.ChangeVars
import Derived.Deep.AppendLies
import Derived.Deep.Cut
import Derived.Deep.DrawnRows
import Derived.Deep.LoopGhost
import Derived.Deep.QuietTactic
import Derived.Deep.RegionHeld
import Derived.Deep.RegionHeld3
import Derived.Deep.RegionHeldLaw
import Derived.Deep.RegionLaw
import Derived.Deep.Slices
import Derived.DeepKeys4
import Derived.Ground.GgzProg
import Derived.Ground.Names2Prog
import Derived.Ground.SlgmProg
import Derived.Ground.SlgnProg
import Derived.Ground.SlmcProg
import Derived.Ground.SlsfProg
import Derived.Handy
import Derived.IntWalk
import Derived.JoinedOf
import Derived.LaidEql
import Derived.LaidHandle
import Derived.LaidLaws
import Derived.LaidMore
import Derived.Laws.AppendOwn
import Derived.Laws.AppendOwnNone
import Derived.Laws.Bits64b
import Derived.Laws.BitsAllLaws
import Derived.Laws.Entries
import Derived.Laws.EntriesVeiled
import Derived.Laws.IdiomCopy
import Derived.Laws.NewBlocks
import Derived.Laws.OwnMore
import Derived.Laws.World
import Derived.Lib.AppendZerosOnto
import Derived.Lib.LaidTab
import Derived.Lib.SlKeysI
import Derived.Lib.SliceRun
import Derived.Lib.SmallJoins
import Derived.Lib.TrailingZeros
import Derived.LoopN
import Derived.Maps.Ext
import Derived.Maps.OwnOps
import Derived.Maps.OwnSet
import Derived.Maps.RangeWalk
import Derived.OpenShut
import Derived.OrdersHeld
import Derived.Outline
import Derived.OwnWalk
import Derived.RegionTactic
import Derived.RowKit
import Derived.RowKitTokens
import Derived.SevenTiedAt
import Derived.Shelf.Abstract
import Derived.Shelf.AbstractIn
import Derived.Shelf.RegionOpenPlain
import Derived.Shelf.SlIterI.Nil
import Derived.Shelf.SlMaps.Clone
import Derived.Shelf.SlSortCmp.Insertion
import Derived.Shelf.SlSortCmp.Insertion1
import Derived.Shelf.Slices.Cells
import Derived.Shelf.Slices.Clone
import Derived.Shelf.Slices.Delete
import Derived.Shelf.Slices.Empties
import Derived.Shelf.Slices.In.SortNone
import Derived.Shelf.Slices.SearchI
import Derived.Shelf.Slices.Turned
import Derived.Shelf.SlicesE.Clone
import Derived.Shelf.SlicesE.Delete
import Derived.Shelf.Small.Bits
import Derived.Shelf.Small.Wraps
import Derived.Shelf.Sort.Plain
import Derived.Shelf.SortM.Plain
import Derived.Shelf.SortM.SortNone
import Derived.Shelf.Spec.SlicesInsert
import Derived.Shelf.Spec.SlicesInsertGrow
import Derived.Shelf.Spec.TrailingZeros
import Derived.Shelf.Strconv.Itoa0
import Derived.Stop.Asserts
import Derived.Stop.Joined
import Derived.Stop.LaidErr
import Derived.Tactics
import Derived.Test.YtcbmfakjfoggaaaGreatDoorChecked
import Derived.Test.YtcbmfakjfoggaaaGreatDoorProg
import Derived.Test.YtcbmfakjfoggaaaGreatDoorRows
import Derived.WalkKit
import Derived.WalkLawsBesides
namespace Go.Proofs.YtcbmfakjfoggaaaGreatDoor
open Go.RowKit Go.Maps
theorem γ:type_of% @Below.refl:=@Below.refl
theorem δ:type_of% @Or.inr:=@Or.inr
theorem ε:type_of% @Or.inl:=@Or.inl
theorem ζ:type_of% @Nat.le_refl:=@Nat.le_refl
theorem η:type_of% @World.cell?_of_block:=@World.cell?_of_block
theorem θ:type_of% @World.cell?_alloc_new:=@World.cell?_alloc_new
theorem ι:type_of% @Nat.lt_of_lt_of_le:=@Nat.lt_of_lt_of_le
theorem μ:type_of% @Below.heap_setCell:=@Below.heap_setCell
theorem ν:type_of% @List.getElem?_eq_some_iff:=@List.getElem?_eq_some_iff
theorem ξ:type_of% @List.getElem?_eq_getElem:=@List.getElem?_eq_getElem
theorem π:type_of% @World.frozen?_of_block:=@World.frozen?_of_block
theorem σ:type_of% @Nat.le_trans:=@Nat.le_trans
theorem τ:type_of% @Option.some.injEq:=@Option.some.injEq
theorem υ:type_of% @List.getElem?_cons_zero:=@List.getElem?_cons_zero
theorem φ:type_of% @List.length_append:=@List.length_append
theorem ψ:type_of% @Value.slice.injEq:=@Value.slice.injEq
theorem ω:type_of% @List.getElem?_cons_succ:=@List.getElem?_cons_succ
theorem Γ:type_of% @Nat.zero_le:=@Nat.zero_le
theorem Δ:type_of% @List.getElem?_toArray:=@List.getElem?_toArray
theorem Θ:type_of% @bodyPost_ret:=@bodyPost_ret
theorem Ξ:type_of% @World.ownsRow_nil:=@World.ownsRow_nil
theorem Ψ:type_of% @World.frozen?_setCell:=@World.frozen?_setCell
theorem Ω:type_of% @wpList_append_own:=@wpList_append_own
theorem aa:type_of% @World.block_lt_of_cell?:=@World.block_lt_of_cell?
theorem ae:type_of% @List.mem_cons:=@List.mem_cons
theorem af:type_of% @if_pos:=@if_pos
theorem ai:type_of% @if_neg:=@if_neg
theorem ag:type_of% @List.length_singleton:=@List.length_singleton
theorem ah:type_of% @Option.some.inj:=@Option.some.inj
theorem aq:type_of% @List.getElem?_append_right:=@List.getElem?_append_right
theorem ar:type_of% @List.getElem?_append_left:=@List.getElem?_append_left
theorem au:type_of% @List.getD_eq_getElem?_getD:=@List.getD_eq_getElem?_getD
theorem av:type_of% @Addr.mk.injEq:=@Addr.mk.injEq
theorem aw:type_of% @List.mem_singleton:=@List.mem_singleton
theorem aA:type_of% @List.length_nil:=@List.length_nil
theorem aB:type_of% @IntWalk.i64_in:=@IntWalk.i64_in
theorem aC:type_of% @List.mem_append:=@List.mem_append
theorem aD:type_of% @List.mem_cons_of_mem:=@List.mem_cons_of_mem
theorem aF:type_of% @List.nodup_append:=@List.nodup_append
theorem aG:type_of% @World.frozen?_alloc_at:=@World.frozen?_alloc_at
theorem aH:type_of% @List.mem_of_getElem?:=@List.mem_of_getElem?
theorem aJ:type_of% @List.append_assoc:=@List.append_assoc
theorem aY:type_of% @info_parts:=@info_parts
theorem aL:type_of% @List.take_succ_eq_append_getElem:=@List.take_succ_eq_append_getElem
theorem aM:type_of% @decide_eq_true:=@decide_eq_true
theorem aO:type_of% @List.getElem_mem:=@List.getElem_mem
theorem aR:type_of% @List.not_mem_nil:=@List.not_mem_nil
theorem aP:type_of% @List.getElem?_set_self:=@List.getElem?_set_self
theorem aS:type_of% @List.setIfInBounds_toArray:=@List.setIfInBounds_toArray
theorem aU:type_of% @List.length_pos_iff:=@List.length_pos_iff
theorem bX:type_of% @step_append_lies:=@step_append_lies
theorem aT:type_of% @List.nil_append:=@List.nil_append
theorem aZ:type_of% @true_and:=@true_and
theorem aV:type_of% @World.cell?_alloc_lt:=@World.cell?_alloc_lt
theorem ba:type_of% @congrArg:=@congrArg
theorem a_:type_of% @List.nodup_cons:=@List.nodup_cons
theorem bj:type_of% @Nat.zero_add:=@Nat.zero_add
theorem bh:type_of% @List.mem_cons_self:=@List.mem_cons_self
theorem bf:type_of% @List.length_eq_zero_iff:=@List.length_eq_zero_iff
theorem bk:type_of% @List.length_cons:=@List.length_cons
theorem bw:type_of% @Int.eq_ofNat_of_zero_le:=@Int.eq_ofNat_of_zero_le
theorem bC:type_of% @Nat.lt_or_ge:=@Nat.lt_or_ge
theorem bE:type_of% @Nat.le_of_not_lt:=@Nat.le_of_not_lt
theorem bF:type_of% @List.set_cons_succ:=@List.set_cons_succ
theorem bI:type_of% @and_true:=@and_true
theorem bG:type_of% @List.take_of_length_le:=@List.take_of_length_le
theorem bJ:type_of% @wpAnyH_take:=@wpAnyH_take
theorem bO:type_of% @wp_loop_rounds:=@wp_loop_rounds
theorem bP:type_of% @List.set_cons_zero:=@List.set_cons_zero
theorem bS:type_of% @List.take_append_drop:=@List.take_append_drop
theorem bU:type_of% @List.getElem_of_mem:=@List.getElem_of_mem
theorem ck:type_of% @Nat.le_of_lt:=@Nat.le_of_lt
theorem bY:type_of% @Option.getD_some:=@Option.getD_some
theorem bZ:type_of% @List.filter_cons:=@List.filter_cons
theorem b_:type_of% @List.take_length:=@List.take_length
theorem bT:type_of% @World.frozen?_alloc_old:=@World.frozen?_alloc_old
theorem cx:type_of% @Array.getElem?_eq_none:=@Array.getElem?_eq_none
theorem cE:type_of% @List.filter_append:=@List.filter_append
theorem cI:type_of% @List.length_take:=@List.length_take
theorem cJ:type_of% @List.cons_append:=@List.cons_append
theorem cG:type_of% @List.filter_eq_self:=@List.filter_eq_self
theorem cV:type_of% @Ne.symm:=@Ne.symm
theorem cK:type_of% @List.take_add_one:=@List.take_add_one
theorem dg:type_of% @or_false:=@or_false
theorem cP:type_of% @List.getElem?_drop:=@List.getElem?_drop
theorem cL:type_of% @List.getElem?_set_ne:=@List.getElem?_set_ne
theorem cU:type_of% @List.map_append:=@List.map_append
theorem cW:type_of% @rounds_succ:=@rounds_succ
theorem cO:type_of% @List.pairwise_iff_getElem:=@List.pairwise_iff_getElem
theorem dh:type_of% @decide_eq_true_eq:=@decide_eq_true_eq
theorem cX:type_of% @List.mem_append_right:=@List.mem_append_right
theorem dm:type_of% @List.nodup_nil:=@List.nodup_nil
theorem dp:type_of% @List.length_set:=@List.length_set
theorem dn:type_of% @List.find?_eq_none:=@List.find?_eq_none
theorem dy:type_of% @List.getElem?_map:=@List.getElem?_map
theorem dr:type_of% @Option.map_eq_some_iff:=@Option.map_eq_some_iff
theorem dE:type_of% @decide_eq_false:=@decide_eq_false
theorem dx:type_of% @Classical.byContradiction:=@Classical.byContradiction
theorem dB:type_of% @List.Perm.append_left:=@List.Perm.append_left
theorem dL:type_of% @List.map_cons:=@List.map_cons
theorem dH:type_of% @List.mem_of_mem_drop:=@List.mem_of_mem_drop
theorem dI:type_of% @World.cell?_alloc_at:=@World.cell?_alloc_at
theorem dN:type_of% @List.ext_getElem?:=@List.ext_getElem?
theorem dF:type_of% @List.append_nil:=@List.append_nil
theorem dQ:type_of% @List.append_toArray:=@List.append_toArray
theorem dZ:type_of% @Nat.mul_comm:=@Nat.mul_comm
theorem dJ:type_of% @Nat.testBit_two_pow_mul_add:=@Nat.testBit_two_pow_mul_add
theorem dW:type_of% @List.length_drop:=@List.length_drop
theorem dO:type_of% @wpList_append_own_none:=@wpList_append_own_none
theorem eu:type_of% @Int.not_lt:=@Int.not_lt
theorem dT:type_of% @Int.le_ediv_of_mul_le:=@Int.le_ediv_of_mul_le
theorem dU:type_of% @List.perm_append_comm:=@List.perm_append_comm
theorem ea:type_of% @AllReadyH.cons:=@AllReadyH.cons
theorem dV:type_of% @run_typeAssert_lacksB:=@run_typeAssert_lacksB
theorem ee:type_of% @List.mem_append_left:=@List.mem_append_left
theorem eE:type_of% @List.mem_flatMap:=@List.mem_flatMap
theorem eF:type_of% @List.perm_middle:=@List.perm_middle
theorem eM:type_of% @Nat.lt_of_le_of_lt:=@Nat.lt_of_le_of_lt
theorem eN:type_of% @List.getElem?_take:=@List.getElem?_take
theorem eV:type_of% @List.mem_map:=@List.mem_map
theorem eT:type_of% @List.length_map:=@List.length_map
theorem eW:type_of% @Addr.mk.inj:=@Addr.mk.inj
theorem fF:type_of% @wpList_append_lies:=@wpList_append_lies
theorem eQ:type_of% @List.getElem?_eq_none:=@List.getElem?_eq_none
theorem eX:type_of% @Nat.lt_trichotomy:=@Nat.lt_trichotomy
theorem fc:type_of% @AllReadyH.nil:=@AllReadyH.nil
theorem fw:type_of% @List.mem_range:=@List.mem_range
theorem eG:type_of% @Bool.and_eq_true:=@Bool.and_eq_true
theorem fx:type_of% @Nat.zero_testBit:=@Nat.zero_testBit
theorem fq:type_of% @List.mem_map_of_mem:=@List.mem_map_of_mem
theorem fy:type_of% @enters_of:=@enters_of
theorem fR:type_of% @Prod.mk.injEq:=@Prod.mk.injEq
theorem fO:type_of% @List.mem_filter:=@List.mem_filter
theorem fG:type_of% @Option.toList_some:=@Option.toList_some
theorem fe:type_of% @World.cell?_setCells_out:=@World.cell?_setCells_out
theorem gq:type_of% @Nat.mul_one:=@Nat.mul_one
theorem gD:type_of% @Nat.add_zero:=@Nat.add_zero
theorem fH:type_of% @List.getElem_cons_zero:=@List.getElem_cons_zero
theorem gu:type_of% @Nat.mul_le_mul:=@Nat.mul_le_mul
theorem fI:type_of% @World.frozen?_setCells:=@World.frozen?_setCells
theorem fU:type_of% @Array.getElem?_modify:=@Array.getElem?_modify
theorem gF:type_of% @Addr.add_lit:=@Addr.add_lit
theorem gG:type_of% @List.any_eq_true:=@List.any_eq_true
theorem gH:type_of% @Nat.and_le_right:=@Nat.and_le_right
theorem gI:type_of% @Nat.testBit_succ:=@Nat.testBit_succ
theorem gw:type_of% @List.mem_of_mem_take:=@List.mem_of_mem_take
theorem gz:type_of% @Nat.pow_le_pow_right:=@Nat.pow_le_pow_right
theorem gA:type_of% @Nat.mul_le_mul_right:=@Nat.mul_le_mul_right
theorem fP:type_of% @List.dropLast_concat_getLast:=@List.dropLast_concat_getLast
theorem gU:type_of% @Bool.false_eq_true:=@Bool.false_eq_true
theorem gK:type_of% @List.mem_or_eq_of_mem_set:=@List.mem_or_eq_of_mem_set
theorem gQ:type_of% @List.getElem?_take_of_lt:=@List.getElem?_take_of_lt
theorem gX:type_of% @List.eraseIdx_cons_succ:=@List.eraseIdx_cons_succ
abbrev cB (a b:Int):Obj:=.cells #[.int .i64 a,.int .i64 b] 34
abbrev cD (c:Nat):Obj:=.cells #[.pointer (some ⟨c,0,none⟩),.slice none 0 0] 286
end Go.Proofs.YtcbmfakjfoggaaaGreatDoor
