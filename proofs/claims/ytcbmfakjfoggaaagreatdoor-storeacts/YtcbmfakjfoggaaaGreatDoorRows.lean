/-
  NARROWER THAN 'FOR EVERY INPUT', by the rows' own cells (each row's printed sentence says how): PoolFair: laid · PoolActs: laid · StoreShared: laid · StoreGone: laid · StoreActs: laid · BufferApart: laid · BufferRope: laid · BufferClones: laid · BufferActs: laid.
  DERIVED. THE GIVEN ROWS OF THIS SEAT. 9 by the template 'for every input the law returns true; each argument reads behind the call as it read before'; 0 by the template 'total and deterministic' (their statements: YtcbmfakjfoggaaaGreatDoorTotals.lean).
  GIVEN WITH THE SEED: the statements are not yours to turn. If you find one false, say at which input.
  Laid BY PROGRAM, IN A SANDBOX (cutbox-rows.mjs): the forced cells as the released guide's own fill.sh prints them over the translation e1b24265d1dfd7bc… (all of the seat's roots in one cut). By AI agents, Wed Nov 11 2026. No macro, syntax, notation, axiom, sorry.
-/
import Derived.Test.YtcbmfakjfoggaaaGreatDoorChecked
import GoSem.Claim
import GoSem.ClaimJoined
import GoSem.ClaimMapViews
import Derived.JoinedTies
import Derived.KernelRfl
namespace Go.Proofs.YtcbmfakjfoggaaaGreatDoor
/- THE CELL 'sum', in the pinned program and in every row, IS THE sha256 OF THE DUMP (.gsa) THAT YtcbmfakjfoggaaaGreatDoorProg.lean LOADS. Nothing in Lean hashes anything: it is a label: what it is worth is what the hold of that sum in a sandbox is worth. -/
noncomputable def Tryz.pinned : Pinned := { name := "ytcbmfakjfoggaaagreatdoor", sum := "e1b24265d1dfd7bc10ecf0e71f9fbd47bb7783fe29b98d09d0edea6d0a15fa12", checked := Tryz.checked }
namespace Rows
def none {H : Type} : Left H := { results := [], args := [] }

/- WHAT THE LISTED PACKAGE-LEVEL VARIABLES READ AS WHEN THE CALL BEGINS. Each datum BY PROGRAM (the guide's laid-datum.mjs) off the statement by which the dump's own 'gosem.cut.vars' lays the variable. In a bare row this is a premise. The card (YtcbmfakjfoggaaaGreatDoorCards.lean) ties it to the program's text. -/
def laid_math_bits_deBruijn64tab {H : Type} : DataW H := .agg [.lit (.int .u8 0), .lit (.int .u8 1), .lit (.int .u8 56), .lit (.int .u8 2), .lit (.int .u8 57), .lit (.int .u8 49), .lit (.int .u8 28), .lit (.int .u8 3), .lit (.int .u8 61), .lit (.int .u8 58), .lit (.int .u8 42), .lit (.int .u8 50), .lit (.int .u8 38), .lit (.int .u8 29), .lit (.int .u8 17), .lit (.int .u8 4), .lit (.int .u8 62), .lit (.int .u8 47), .lit (.int .u8 59), .lit (.int .u8 36), .lit (.int .u8 45), .lit (.int .u8 43), .lit (.int .u8 51), .lit (.int .u8 22), .lit (.int .u8 53), .lit (.int .u8 39), .lit (.int .u8 33), .lit (.int .u8 30), .lit (.int .u8 24), .lit (.int .u8 18), .lit (.int .u8 12), .lit (.int .u8 5), .lit (.int .u8 63), .lit (.int .u8 55), .lit (.int .u8 48), .lit (.int .u8 27), .lit (.int .u8 60), .lit (.int .u8 41), .lit (.int .u8 37), .lit (.int .u8 16), .lit (.int .u8 46), .lit (.int .u8 35), .lit (.int .u8 44), .lit (.int .u8 21), .lit (.int .u8 52), .lit (.int .u8 32), .lit (.int .u8 23), .lit (.int .u8 11), .lit (.int .u8 54), .lit (.int .u8 26), .lit (.int .u8 40), .lit (.int .u8 15), .lit (.int .u8 34), .lit (.int .u8 20), .lit (.int .u8 31), .lit (.int .u8 10), .lit (.int .u8 25), .lit (.int .u8 14), .lit (.int .u8 19), .lit (.int .u8 9), .lit (.int .u8 13), .lit (.int .u8 8), .lit (.int .u8 7), .lit (.int .u8 6)]
def laid_errors_errorType {H : Type} : DataW H := .iface "internal/reflectlite.rtype" (.agg [.ptr (.lit (.string [101, 114, 114, 111, 114]))])
def laid_slabyard_api_ErrText {H : Type} : DataW H := .iface "*errors.errorString" (.ptr (.agg [.lit (.string [115, 108, 97, 98, 121, 97, 114, 100, 58, 32, 116, 101, 120, 116])]))
def laid_slabyard_api_ErrBound {H : Type} : DataW H := .iface "*errors.errorString" (.ptr (.agg [.lit (.string [115, 108, 97, 98, 121, 97, 114, 100, 58, 32, 98, 111, 117, 110, 100])]))
def laid_slabyard_api_ErrShape {H : Type} : DataW H := .iface "*errors.errorString" (.ptr (.agg [.lit (.string [115, 108, 97, 98, 121, 97, 114, 100, 58, 32, 115, 104, 97, 112, 101])]))
def laid_slabyard_api_ErrNone {H : Type} : DataW H := .iface "*errors.errorString" (.ptr (.agg [.lit (.string [115, 108, 97, 98, 121, 97, 114, 100, 58, 32, 110, 111, 110, 101])]))
def laid_slabyard_api_ErrFull {H : Type} : DataW H := .iface "*errors.errorString" (.ptr (.agg [.lit (.string [115, 108, 97, 98, 121, 97, 114, 100, 58, 32, 102, 117, 108, 108])]))
def laid_slabyard_api_ErrHeld {H : Type} : DataW H := .iface "*errors.errorString" (.ptr (.agg [.lit (.string [115, 108, 97, 98, 121, 97, 114, 100, 58, 32, 104, 101, 108, 100])]))
def laid_slabyard_api_ErrLow {H : Type} : DataW H := .iface "*errors.errorString" (.ptr (.agg [.lit (.string [115, 108, 97, 98, 121, 97, 114, 100, 58, 32, 108, 111, 119])]))
def laid_slabyard_api_ErrWait {H : Type} : DataW H := .iface "*errors.errorString" (.ptr (.agg [.lit (.string [115, 108, 97, 98, 121, 97, 114, 100, 58, 32, 119, 97, 105, 116])]))
def laid_slabyard_api_ErrStale {H : Type} : DataW H := .iface "*errors.errorString" (.ptr (.agg [.lit (.string [115, 108, 97, 98, 121, 97, 114, 100, 58, 32, 115, 116, 97, 108, 101])]))
def laid_slabyard_api_ErrMany {H : Type} : DataW H := .iface "*errors.errorString" (.ptr (.agg [.lit (.string [115, 108, 97, 98, 121, 97, 114, 100, 58, 32, 109, 97, 110, 121])]))

/-- 'slabyardlaw2.PoolFair': WHATEVER THE INPUT: true; the input reads as it did. -/
def poolFairSpec : ChangeSpec := { name := "poolFair", fn := fun _ => fun
  | [d1, d2] => { results := [.lit (.bool true)], args := [d1, d2] }
  | _ => none }
def poolFairRow : OpenClaim := { program := "ytcbmfakjfoggaaagreatdoor", sum := "e1b24265d1dfd7bc10ecf0e71f9fbd47bb7783fe29b98d09d0edea6d0a15fa12", func := "slabyard/slabyardlaw2.PoolFair", spec := "poolFair", inPlace := ["slices.overlaps[*slabyard/slab.slab]", "internal/reflectlite.TypeOf", "internal/reflectlite.ValueOf", "(internal/reflectlite.Value).Type", "(internal/reflectlite.Value).IsNil", "(internal/reflectlite.Value).Elem", "(internal/reflectlite.Value).Set"], unfollowed := true, recurses := true, named := ["slabyard/api.ErrBound", "slabyard/api.ErrShape", "slabyard/api.ErrLow", "slabyard/api.ErrFull", "slabyard/api.ErrNone", "math/bits.deBruijn64tab", "slabyard/api.ErrStale", "slabyard/api.ErrMany", "slabyard/api.ErrWait", "errors.errorType", "slabyard/api.ErrText", "slabyard/api.ErrHeld"], plainKeys := false, apart := false, laid := [("math/bits.deBruijn64tab", laid_math_bits_deBruijn64tab), ("errors.errorType", laid_errors_errorType), ("slabyard/api.ErrText", laid_slabyard_api_ErrText), ("slabyard/api.ErrBound", laid_slabyard_api_ErrBound), ("slabyard/api.ErrShape", laid_slabyard_api_ErrShape), ("slabyard/api.ErrNone", laid_slabyard_api_ErrNone), ("slabyard/api.ErrFull", laid_slabyard_api_ErrFull), ("slabyard/api.ErrHeld", laid_slabyard_api_ErrHeld), ("slabyard/api.ErrLow", laid_slabyard_api_ErrLow), ("slabyard/api.ErrWait", laid_slabyard_api_ErrWait), ("slabyard/api.ErrStale", laid_slabyard_api_ErrStale), ("slabyard/api.ErrMany", laid_slabyard_api_ErrMany)] }
def PoolFairSaid : Prop := poolFairRow.holds Tryz.pinned (OpenSpec.ofChange poolFairSpec)

/-- ITS FALSE NEIGHBOUR: 'it returns false'. Refute it at one input. -/
def poolFairWrong : ChangeSpec := { name := "poolFair", fn := fun _ => fun
  | [d1, d2] => { results := [.lit (.bool false)], args := [d1, d2] }
  | _ => none }
def PoolFairWrongFalsely : Prop := poolFairRow.holds Tryz.pinned (OpenSpec.ofChange poolFairWrong)

/-- 'slabyardlaw2.PoolActs': WHATEVER THE INPUT: true; the input reads as it did. -/
def poolActsSpec : ChangeSpec := { name := "poolActs", fn := fun _ => fun
  | [d1, d2, d3, d4, d5] => { results := [.lit (.bool true)], args := [d1, d2, d3, d4, d5] }
  | _ => none }
def poolActsRow : OpenClaim := { program := "ytcbmfakjfoggaaagreatdoor", sum := "e1b24265d1dfd7bc10ecf0e71f9fbd47bb7783fe29b98d09d0edea6d0a15fa12", func := "slabyard/slabyardlaw2.PoolActs", spec := "poolActs", inPlace := ["slices.overlaps[*slabyard/slab.slab]", "internal/reflectlite.TypeOf", "internal/reflectlite.ValueOf", "(internal/reflectlite.Value).Type", "(internal/reflectlite.Value).IsNil", "(internal/reflectlite.Value).Elem", "(internal/reflectlite.Value).Set"], unfollowed := true, recurses := true, named := ["slabyard/api.ErrBound", "slabyard/api.ErrShape", "slabyard/api.ErrLow", "slabyard/api.ErrFull", "slabyard/api.ErrNone", "math/bits.deBruijn64tab", "slabyard/api.ErrStale", "slabyard/api.ErrMany", "slabyard/api.ErrWait", "errors.errorType", "slabyard/api.ErrText", "slabyard/api.ErrHeld"], plainKeys := false, apart := false, laid := [("math/bits.deBruijn64tab", laid_math_bits_deBruijn64tab), ("errors.errorType", laid_errors_errorType), ("slabyard/api.ErrText", laid_slabyard_api_ErrText), ("slabyard/api.ErrBound", laid_slabyard_api_ErrBound), ("slabyard/api.ErrShape", laid_slabyard_api_ErrShape), ("slabyard/api.ErrNone", laid_slabyard_api_ErrNone), ("slabyard/api.ErrFull", laid_slabyard_api_ErrFull), ("slabyard/api.ErrHeld", laid_slabyard_api_ErrHeld), ("slabyard/api.ErrLow", laid_slabyard_api_ErrLow), ("slabyard/api.ErrWait", laid_slabyard_api_ErrWait), ("slabyard/api.ErrStale", laid_slabyard_api_ErrStale), ("slabyard/api.ErrMany", laid_slabyard_api_ErrMany)] }
def PoolActsSaid : Prop := poolActsRow.holds Tryz.pinned (OpenSpec.ofChange poolActsSpec)

/-- ITS FALSE NEIGHBOUR: 'it returns false'. Refute it at one input. -/
def poolActsWrong : ChangeSpec := { name := "poolActs", fn := fun _ => fun
  | [d1, d2, d3, d4, d5] => { results := [.lit (.bool false)], args := [d1, d2, d3, d4, d5] }
  | _ => none }
def PoolActsWrongFalsely : Prop := poolActsRow.holds Tryz.pinned (OpenSpec.ofChange poolActsWrong)

/-- 'slabyardlaw2.StoreShared': WHATEVER THE INPUT: true; the input reads as it did. -/
def storeSharedSpec : ChangeSpec := { name := "storeShared", fn := fun _ => fun
  | [d1, d2, d3, d4] => { results := [.lit (.bool true)], args := [d1, d2, d3, d4] }
  | _ => none }
def storeSharedRow : OpenClaim := { program := "ytcbmfakjfoggaaagreatdoor", sum := "e1b24265d1dfd7bc10ecf0e71f9fbd47bb7783fe29b98d09d0edea6d0a15fa12", func := "slabyard/slabyardlaw2.StoreShared", spec := "storeShared", inPlace := ["slices.overlaps[*slabyard/slab.slab]", "internal/reflectlite.TypeOf", "internal/reflectlite.ValueOf", "(internal/reflectlite.Value).Type", "(internal/reflectlite.Value).IsNil", "(internal/reflectlite.Value).Elem", "(internal/reflectlite.Value).Set"], unfollowed := true, recurses := true, named := ["slabyard/api.ErrBound", "slabyard/api.ErrShape", "slabyard/api.ErrLow", "slabyard/api.ErrFull", "slabyard/api.ErrNone", "math/bits.deBruijn64tab", "slabyard/api.ErrStale", "slabyard/api.ErrWait", "slabyard/api.ErrMany", "errors.errorType", "slabyard/api.ErrHeld", "slabyard/api.ErrText"], plainKeys := false, apart := false, laid := [("math/bits.deBruijn64tab", laid_math_bits_deBruijn64tab), ("errors.errorType", laid_errors_errorType), ("slabyard/api.ErrText", laid_slabyard_api_ErrText), ("slabyard/api.ErrBound", laid_slabyard_api_ErrBound), ("slabyard/api.ErrShape", laid_slabyard_api_ErrShape), ("slabyard/api.ErrNone", laid_slabyard_api_ErrNone), ("slabyard/api.ErrFull", laid_slabyard_api_ErrFull), ("slabyard/api.ErrHeld", laid_slabyard_api_ErrHeld), ("slabyard/api.ErrLow", laid_slabyard_api_ErrLow), ("slabyard/api.ErrWait", laid_slabyard_api_ErrWait), ("slabyard/api.ErrStale", laid_slabyard_api_ErrStale), ("slabyard/api.ErrMany", laid_slabyard_api_ErrMany)] }
def StoreSharedSaid : Prop := storeSharedRow.holds Tryz.pinned (OpenSpec.ofChange storeSharedSpec)

/-- ITS FALSE NEIGHBOUR: 'it returns false'. Refute it at one input. -/
def storeSharedWrong : ChangeSpec := { name := "storeShared", fn := fun _ => fun
  | [d1, d2, d3, d4] => { results := [.lit (.bool false)], args := [d1, d2, d3, d4] }
  | _ => none }
def StoreSharedWrongFalsely : Prop := storeSharedRow.holds Tryz.pinned (OpenSpec.ofChange storeSharedWrong)

/-- 'slabyardlaw2.StoreGone': WHATEVER THE INPUT: true; the input reads as it did. -/
def storeGoneSpec : ChangeSpec := { name := "storeGone", fn := fun _ => fun
  | [d1, d2, d3] => { results := [.lit (.bool true)], args := [d1, d2, d3] }
  | _ => none }
def storeGoneRow : OpenClaim := { program := "ytcbmfakjfoggaaagreatdoor", sum := "e1b24265d1dfd7bc10ecf0e71f9fbd47bb7783fe29b98d09d0edea6d0a15fa12", func := "slabyard/slabyardlaw2.StoreGone", spec := "storeGone", inPlace := ["slices.overlaps[*slabyard/slab.slab]", "internal/reflectlite.TypeOf", "internal/reflectlite.ValueOf", "(internal/reflectlite.Value).Type", "(internal/reflectlite.Value).IsNil", "(internal/reflectlite.Value).Elem", "(internal/reflectlite.Value).Set"], unfollowed := true, recurses := true, named := ["slabyard/api.ErrBound", "slabyard/api.ErrShape", "slabyard/api.ErrLow", "slabyard/api.ErrFull", "slabyard/api.ErrNone", "math/bits.deBruijn64tab", "slabyard/api.ErrStale", "slabyard/api.ErrWait", "slabyard/api.ErrMany", "errors.errorType", "slabyard/api.ErrHeld", "slabyard/api.ErrText"], plainKeys := false, apart := false, laid := [("math/bits.deBruijn64tab", laid_math_bits_deBruijn64tab), ("errors.errorType", laid_errors_errorType), ("slabyard/api.ErrText", laid_slabyard_api_ErrText), ("slabyard/api.ErrBound", laid_slabyard_api_ErrBound), ("slabyard/api.ErrShape", laid_slabyard_api_ErrShape), ("slabyard/api.ErrNone", laid_slabyard_api_ErrNone), ("slabyard/api.ErrFull", laid_slabyard_api_ErrFull), ("slabyard/api.ErrHeld", laid_slabyard_api_ErrHeld), ("slabyard/api.ErrLow", laid_slabyard_api_ErrLow), ("slabyard/api.ErrWait", laid_slabyard_api_ErrWait), ("slabyard/api.ErrStale", laid_slabyard_api_ErrStale), ("slabyard/api.ErrMany", laid_slabyard_api_ErrMany)] }
def StoreGoneSaid : Prop := storeGoneRow.holds Tryz.pinned (OpenSpec.ofChange storeGoneSpec)

/-- ITS FALSE NEIGHBOUR: 'it returns false'. Refute it at one input. -/
def storeGoneWrong : ChangeSpec := { name := "storeGone", fn := fun _ => fun
  | [d1, d2, d3] => { results := [.lit (.bool false)], args := [d1, d2, d3] }
  | _ => none }
def StoreGoneWrongFalsely : Prop := storeGoneRow.holds Tryz.pinned (OpenSpec.ofChange storeGoneWrong)

/-- 'slabyardlaw2.StoreActs': WHATEVER THE INPUT: true; the input reads as it did. -/
def storeActsSpec : ChangeSpec := { name := "storeActs", fn := fun _ => fun
  | [d1, d2, d3] => { results := [.lit (.bool true)], args := [d1, d2, d3] }
  | _ => none }
def storeActsRow : OpenClaim := { program := "ytcbmfakjfoggaaagreatdoor", sum := "e1b24265d1dfd7bc10ecf0e71f9fbd47bb7783fe29b98d09d0edea6d0a15fa12", func := "slabyard/slabyardlaw2.StoreActs", spec := "storeActs", inPlace := ["slices.overlaps[*slabyard/slab.slab]", "internal/reflectlite.TypeOf", "internal/reflectlite.ValueOf", "(internal/reflectlite.Value).Type", "(internal/reflectlite.Value).IsNil", "(internal/reflectlite.Value).Elem", "(internal/reflectlite.Value).Set"], unfollowed := true, recurses := true, named := ["slabyard/api.ErrBound", "slabyard/api.ErrShape", "slabyard/api.ErrLow", "slabyard/api.ErrFull", "slabyard/api.ErrNone", "math/bits.deBruijn64tab", "slabyard/api.ErrStale", "slabyard/api.ErrWait", "slabyard/api.ErrMany", "errors.errorType", "slabyard/api.ErrHeld", "slabyard/api.ErrText"], plainKeys := false, apart := false, laid := [("math/bits.deBruijn64tab", laid_math_bits_deBruijn64tab), ("errors.errorType", laid_errors_errorType), ("slabyard/api.ErrText", laid_slabyard_api_ErrText), ("slabyard/api.ErrBound", laid_slabyard_api_ErrBound), ("slabyard/api.ErrShape", laid_slabyard_api_ErrShape), ("slabyard/api.ErrNone", laid_slabyard_api_ErrNone), ("slabyard/api.ErrFull", laid_slabyard_api_ErrFull), ("slabyard/api.ErrHeld", laid_slabyard_api_ErrHeld), ("slabyard/api.ErrLow", laid_slabyard_api_ErrLow), ("slabyard/api.ErrWait", laid_slabyard_api_ErrWait), ("slabyard/api.ErrStale", laid_slabyard_api_ErrStale), ("slabyard/api.ErrMany", laid_slabyard_api_ErrMany)] }
def StoreActsSaid : Prop := storeActsRow.holds Tryz.pinned (OpenSpec.ofChange storeActsSpec)

/-- ITS FALSE NEIGHBOUR: 'it returns false'. Refute it at one input. -/
def storeActsWrong : ChangeSpec := { name := "storeActs", fn := fun _ => fun
  | [d1, d2, d3] => { results := [.lit (.bool false)], args := [d1, d2, d3] }
  | _ => none }
def StoreActsWrongFalsely : Prop := storeActsRow.holds Tryz.pinned (OpenSpec.ofChange storeActsWrong)

/-- 'slabyardlaw2.BufferApart': WHATEVER THE INPUT: true; the input reads as it did. -/
def bufferApartSpec : ChangeSpec := { name := "bufferApart", fn := fun _ => fun
  | [d1, d2, d3, d4, d5, d6] => { results := [.lit (.bool true)], args := [d1, d2, d3, d4, d5, d6] }
  | _ => none }
def bufferApartRow : OpenClaim := { program := "ytcbmfakjfoggaaagreatdoor", sum := "e1b24265d1dfd7bc10ecf0e71f9fbd47bb7783fe29b98d09d0edea6d0a15fa12", func := "slabyard/slabyardlaw2.BufferApart", spec := "bufferApart", inPlace := ["slices.overlaps[*slabyard/slab.slab]", "internal/reflectlite.TypeOf", "internal/reflectlite.ValueOf", "(internal/reflectlite.Value).Type", "(internal/reflectlite.Value).IsNil", "(internal/reflectlite.Value).Elem", "(internal/reflectlite.Value).Set", "internal/abi.NoEscape"], unfollowed := true, recurses := true, named := ["slabyard/api.ErrBound", "slabyard/api.ErrShape", "slabyard/api.ErrLow", "slabyard/api.ErrFull", "slabyard/api.ErrNone", "math/bits.deBruijn64tab", "slabyard/api.ErrStale", "slabyard/api.ErrMany", "slabyard/api.ErrWait", "errors.errorType", "slabyard/api.ErrHeld"], plainKeys := false, apart := false, laid := [("math/bits.deBruijn64tab", laid_math_bits_deBruijn64tab), ("errors.errorType", laid_errors_errorType), ("slabyard/api.ErrBound", laid_slabyard_api_ErrBound), ("slabyard/api.ErrShape", laid_slabyard_api_ErrShape), ("slabyard/api.ErrNone", laid_slabyard_api_ErrNone), ("slabyard/api.ErrFull", laid_slabyard_api_ErrFull), ("slabyard/api.ErrHeld", laid_slabyard_api_ErrHeld), ("slabyard/api.ErrLow", laid_slabyard_api_ErrLow), ("slabyard/api.ErrWait", laid_slabyard_api_ErrWait), ("slabyard/api.ErrStale", laid_slabyard_api_ErrStale), ("slabyard/api.ErrMany", laid_slabyard_api_ErrMany)] }
def BufferApartSaid : Prop := bufferApartRow.holds Tryz.pinned (OpenSpec.ofChange bufferApartSpec)

/-- ITS FALSE NEIGHBOUR: 'it returns false'. Refute it at one input. -/
def bufferApartWrong : ChangeSpec := { name := "bufferApart", fn := fun _ => fun
  | [d1, d2, d3, d4, d5, d6] => { results := [.lit (.bool false)], args := [d1, d2, d3, d4, d5, d6] }
  | _ => none }
def BufferApartWrongFalsely : Prop := bufferApartRow.holds Tryz.pinned (OpenSpec.ofChange bufferApartWrong)

/-- 'slabyardlaw2.BufferRope': WHATEVER THE INPUT: true; the input reads as it did. -/
def bufferRopeSpec : ChangeSpec := { name := "bufferRope", fn := fun _ => fun
  | [d1, d2, d3] => { results := [.lit (.bool true)], args := [d1, d2, d3] }
  | _ => none }
def bufferRopeRow : OpenClaim := { program := "ytcbmfakjfoggaaagreatdoor", sum := "e1b24265d1dfd7bc10ecf0e71f9fbd47bb7783fe29b98d09d0edea6d0a15fa12", func := "slabyard/slabyardlaw2.BufferRope", spec := "bufferRope", inPlace := ["slices.overlaps[*slabyard/slab.slab]", "internal/reflectlite.TypeOf", "internal/reflectlite.ValueOf", "(internal/reflectlite.Value).Type", "(internal/reflectlite.Value).IsNil", "(internal/reflectlite.Value).Elem", "(internal/reflectlite.Value).Set", "internal/abi.NoEscape"], unfollowed := true, recurses := true, named := ["slabyard/api.ErrBound", "slabyard/api.ErrShape", "slabyard/api.ErrLow", "slabyard/api.ErrFull", "slabyard/api.ErrNone", "math/bits.deBruijn64tab", "slabyard/api.ErrStale", "slabyard/api.ErrMany", "slabyard/api.ErrWait", "errors.errorType", "slabyard/api.ErrHeld", "slabyard/api.ErrText"], plainKeys := false, apart := false, laid := [("math/bits.deBruijn64tab", laid_math_bits_deBruijn64tab), ("errors.errorType", laid_errors_errorType), ("slabyard/api.ErrText", laid_slabyard_api_ErrText), ("slabyard/api.ErrBound", laid_slabyard_api_ErrBound), ("slabyard/api.ErrShape", laid_slabyard_api_ErrShape), ("slabyard/api.ErrNone", laid_slabyard_api_ErrNone), ("slabyard/api.ErrFull", laid_slabyard_api_ErrFull), ("slabyard/api.ErrHeld", laid_slabyard_api_ErrHeld), ("slabyard/api.ErrLow", laid_slabyard_api_ErrLow), ("slabyard/api.ErrWait", laid_slabyard_api_ErrWait), ("slabyard/api.ErrStale", laid_slabyard_api_ErrStale), ("slabyard/api.ErrMany", laid_slabyard_api_ErrMany)] }
def BufferRopeSaid : Prop := bufferRopeRow.holds Tryz.pinned (OpenSpec.ofChange bufferRopeSpec)

/-- ITS FALSE NEIGHBOUR: 'it returns false'. Refute it at one input. -/
def bufferRopeWrong : ChangeSpec := { name := "bufferRope", fn := fun _ => fun
  | [d1, d2, d3] => { results := [.lit (.bool false)], args := [d1, d2, d3] }
  | _ => none }
def BufferRopeWrongFalsely : Prop := bufferRopeRow.holds Tryz.pinned (OpenSpec.ofChange bufferRopeWrong)

/-- 'slabyardlaw2.BufferClones': WHATEVER THE INPUT: true; the input reads as it did. -/
def bufferClonesSpec : ChangeSpec := { name := "bufferClones", fn := fun _ => fun
  | [d1, d2] => { results := [.lit (.bool true)], args := [d1, d2] }
  | _ => none }
def bufferClonesRow : OpenClaim := { program := "ytcbmfakjfoggaaagreatdoor", sum := "e1b24265d1dfd7bc10ecf0e71f9fbd47bb7783fe29b98d09d0edea6d0a15fa12", func := "slabyard/slabyardlaw2.BufferClones", spec := "bufferClones", inPlace := ["slices.overlaps[*slabyard/slab.slab]", "internal/reflectlite.TypeOf", "internal/reflectlite.ValueOf", "(internal/reflectlite.Value).Type", "(internal/reflectlite.Value).IsNil", "(internal/reflectlite.Value).Elem", "(internal/reflectlite.Value).Set", "internal/abi.NoEscape"], unfollowed := true, recurses := true, named := ["slabyard/api.ErrBound", "slabyard/api.ErrShape", "slabyard/api.ErrLow", "slabyard/api.ErrFull", "slabyard/api.ErrNone", "math/bits.deBruijn64tab", "slabyard/api.ErrStale", "slabyard/api.ErrMany", "slabyard/api.ErrWait", "errors.errorType", "slabyard/api.ErrHeld"], plainKeys := false, apart := false, laid := [("math/bits.deBruijn64tab", laid_math_bits_deBruijn64tab), ("errors.errorType", laid_errors_errorType), ("slabyard/api.ErrBound", laid_slabyard_api_ErrBound), ("slabyard/api.ErrShape", laid_slabyard_api_ErrShape), ("slabyard/api.ErrNone", laid_slabyard_api_ErrNone), ("slabyard/api.ErrFull", laid_slabyard_api_ErrFull), ("slabyard/api.ErrHeld", laid_slabyard_api_ErrHeld), ("slabyard/api.ErrLow", laid_slabyard_api_ErrLow), ("slabyard/api.ErrWait", laid_slabyard_api_ErrWait), ("slabyard/api.ErrStale", laid_slabyard_api_ErrStale), ("slabyard/api.ErrMany", laid_slabyard_api_ErrMany)] }
def BufferClonesSaid : Prop := bufferClonesRow.holds Tryz.pinned (OpenSpec.ofChange bufferClonesSpec)

/-- ITS FALSE NEIGHBOUR: 'it returns false'. Refute it at one input. -/
def bufferClonesWrong : ChangeSpec := { name := "bufferClones", fn := fun _ => fun
  | [d1, d2] => { results := [.lit (.bool false)], args := [d1, d2] }
  | _ => none }
def BufferClonesWrongFalsely : Prop := bufferClonesRow.holds Tryz.pinned (OpenSpec.ofChange bufferClonesWrong)

/-- 'slabyardlaw2.BufferActs': WHATEVER THE INPUT: true; the input reads as it did. -/
def bufferActsSpec : ChangeSpec := { name := "bufferActs", fn := fun _ => fun
  | [d1, d2, d3] => { results := [.lit (.bool true)], args := [d1, d2, d3] }
  | _ => none }
def bufferActsRow : OpenClaim := { program := "ytcbmfakjfoggaaagreatdoor", sum := "e1b24265d1dfd7bc10ecf0e71f9fbd47bb7783fe29b98d09d0edea6d0a15fa12", func := "slabyard/slabyardlaw2.BufferActs", spec := "bufferActs", inPlace := ["slices.overlaps[*slabyard/slab.slab]", "internal/reflectlite.TypeOf", "internal/reflectlite.ValueOf", "(internal/reflectlite.Value).Type", "(internal/reflectlite.Value).IsNil", "(internal/reflectlite.Value).Elem", "(internal/reflectlite.Value).Set", "internal/abi.NoEscape"], unfollowed := true, recurses := true, named := ["slabyard/api.ErrBound", "slabyard/api.ErrShape", "slabyard/api.ErrLow", "slabyard/api.ErrFull", "slabyard/api.ErrNone", "math/bits.deBruijn64tab", "slabyard/api.ErrStale", "slabyard/api.ErrMany", "slabyard/api.ErrWait", "errors.errorType", "slabyard/api.ErrHeld", "slabyard/api.ErrText"], plainKeys := false, apart := false, laid := [("math/bits.deBruijn64tab", laid_math_bits_deBruijn64tab), ("errors.errorType", laid_errors_errorType), ("slabyard/api.ErrText", laid_slabyard_api_ErrText), ("slabyard/api.ErrBound", laid_slabyard_api_ErrBound), ("slabyard/api.ErrShape", laid_slabyard_api_ErrShape), ("slabyard/api.ErrNone", laid_slabyard_api_ErrNone), ("slabyard/api.ErrFull", laid_slabyard_api_ErrFull), ("slabyard/api.ErrHeld", laid_slabyard_api_ErrHeld), ("slabyard/api.ErrLow", laid_slabyard_api_ErrLow), ("slabyard/api.ErrWait", laid_slabyard_api_ErrWait), ("slabyard/api.ErrStale", laid_slabyard_api_ErrStale), ("slabyard/api.ErrMany", laid_slabyard_api_ErrMany)] }
def BufferActsSaid : Prop := bufferActsRow.holds Tryz.pinned (OpenSpec.ofChange bufferActsSpec)

/-- ITS FALSE NEIGHBOUR: 'it returns false'. Refute it at one input. -/
def bufferActsWrong : ChangeSpec := { name := "bufferActs", fn := fun _ => fun
  | [d1, d2, d3] => { results := [.lit (.bool false)], args := [d1, d2, d3] }
  | _ => none }
def BufferActsWrongFalsely : Prop := bufferActsRow.holds Tryz.pinned (OpenSpec.ofChange bufferActsWrong)

/- THE SECOND FORM. 'bulk': how many values and letters a reading holds, each counted each time it is reached (what is shared counts as often as it is met; a slice's spare places count too). A statement '..UptoSaid' is the law's where the arguments, and the package variables that the reading takes, are together of bulk at most 1048576: NARROWER than '..Said'. Prove '..Said' where nothing that the law and all that it calls make is longer than what came in: it says more and counts as full. Else prove '..UptoSaid'. A law counts once. -/
mutual
def uptoBulk {H : Type} : DataW H → Nat
  | .lit (.string bytes) => bytes.length + 1
  | .lit _ => 1
  | .nil => 1
  | .ptr d => uptoBulk d + 1
  | .slice elems spare => uptoBulkAll elems + uptoBulkAll spare + 1
  | .agg parts => uptoBulkAll parts + 1
  | .iface _ d => uptoBulk d + 1
  | .map entries => uptoBulkEntries entries + 1
  | .held _ => 1
def uptoBulkAll {H : Type} : List (DataW H) → Nat
  | [] => 0
  | d :: r => uptoBulk d + uptoBulkAll r
def uptoBulkEntries {H : Type} : List (Lit × DataW H) → Nat
  | [] => 0
  | x :: r => uptoBulkEntry x + uptoBulkEntries r
def uptoBulkEntry {H : Type} : Lit × DataW H → Nat
  | (.string bytes, d) => bytes.length + uptoBulk d + 1
  | (_, d) => uptoBulk d + 1
 end
def uptoSmall : (H : Type) → List (DataW H) → Bool := fun _ ds => decide (uptoBulkAll ds ≤ 1048576)
def OpenSpec.upto (s : _root_.Go.ChangeSpec) : _root_.Go.OpenSpec := { _root_.Go.OpenSpec.ofChange s with cond := some uptoSmall }

/-- 'slabyardlaw2.PoolFair', WHERE WHAT IT READS IS OF BULK AT MOST 1048576: true; the input reads as it did. -/
def poolFairUptoRow : OpenClaim := { program := "ytcbmfakjfoggaaagreatdoor", sum := "e1b24265d1dfd7bc10ecf0e71f9fbd47bb7783fe29b98d09d0edea6d0a15fa12", func := "slabyard/slabyardlaw2.PoolFair", spec := "poolFair", inPlace := ["slices.overlaps[*slabyard/slab.slab]", "internal/reflectlite.TypeOf", "internal/reflectlite.ValueOf", "(internal/reflectlite.Value).Type", "(internal/reflectlite.Value).IsNil", "(internal/reflectlite.Value).Elem", "(internal/reflectlite.Value).Set"], unfollowed := true, recurses := true, named := ["slabyard/api.ErrBound", "slabyard/api.ErrShape", "slabyard/api.ErrLow", "slabyard/api.ErrFull", "slabyard/api.ErrNone", "math/bits.deBruijn64tab", "slabyard/api.ErrStale", "slabyard/api.ErrMany", "slabyard/api.ErrWait", "errors.errorType", "slabyard/api.ErrText", "slabyard/api.ErrHeld"], plainKeys := false, apart := false, laid := [("math/bits.deBruijn64tab", laid_math_bits_deBruijn64tab), ("errors.errorType", laid_errors_errorType), ("slabyard/api.ErrText", laid_slabyard_api_ErrText), ("slabyard/api.ErrBound", laid_slabyard_api_ErrBound), ("slabyard/api.ErrShape", laid_slabyard_api_ErrShape), ("slabyard/api.ErrNone", laid_slabyard_api_ErrNone), ("slabyard/api.ErrFull", laid_slabyard_api_ErrFull), ("slabyard/api.ErrHeld", laid_slabyard_api_ErrHeld), ("slabyard/api.ErrLow", laid_slabyard_api_ErrLow), ("slabyard/api.ErrWait", laid_slabyard_api_ErrWait), ("slabyard/api.ErrStale", laid_slabyard_api_ErrStale), ("slabyard/api.ErrMany", laid_slabyard_api_ErrMany)], narrowed := true }
def PoolFairUptoSaid : Prop := poolFairUptoRow.holds Tryz.pinned (OpenSpec.upto poolFairSpec)

/-- 'slabyardlaw2.PoolActs', WHERE WHAT IT READS IS OF BULK AT MOST 1048576: true; the input reads as it did. -/
def poolActsUptoRow : OpenClaim := { program := "ytcbmfakjfoggaaagreatdoor", sum := "e1b24265d1dfd7bc10ecf0e71f9fbd47bb7783fe29b98d09d0edea6d0a15fa12", func := "slabyard/slabyardlaw2.PoolActs", spec := "poolActs", inPlace := ["slices.overlaps[*slabyard/slab.slab]", "internal/reflectlite.TypeOf", "internal/reflectlite.ValueOf", "(internal/reflectlite.Value).Type", "(internal/reflectlite.Value).IsNil", "(internal/reflectlite.Value).Elem", "(internal/reflectlite.Value).Set"], unfollowed := true, recurses := true, named := ["slabyard/api.ErrBound", "slabyard/api.ErrShape", "slabyard/api.ErrLow", "slabyard/api.ErrFull", "slabyard/api.ErrNone", "math/bits.deBruijn64tab", "slabyard/api.ErrStale", "slabyard/api.ErrMany", "slabyard/api.ErrWait", "errors.errorType", "slabyard/api.ErrText", "slabyard/api.ErrHeld"], plainKeys := false, apart := false, laid := [("math/bits.deBruijn64tab", laid_math_bits_deBruijn64tab), ("errors.errorType", laid_errors_errorType), ("slabyard/api.ErrText", laid_slabyard_api_ErrText), ("slabyard/api.ErrBound", laid_slabyard_api_ErrBound), ("slabyard/api.ErrShape", laid_slabyard_api_ErrShape), ("slabyard/api.ErrNone", laid_slabyard_api_ErrNone), ("slabyard/api.ErrFull", laid_slabyard_api_ErrFull), ("slabyard/api.ErrHeld", laid_slabyard_api_ErrHeld), ("slabyard/api.ErrLow", laid_slabyard_api_ErrLow), ("slabyard/api.ErrWait", laid_slabyard_api_ErrWait), ("slabyard/api.ErrStale", laid_slabyard_api_ErrStale), ("slabyard/api.ErrMany", laid_slabyard_api_ErrMany)], narrowed := true }
def PoolActsUptoSaid : Prop := poolActsUptoRow.holds Tryz.pinned (OpenSpec.upto poolActsSpec)

/-- 'slabyardlaw2.StoreShared', WHERE WHAT IT READS IS OF BULK AT MOST 1048576: true; the input reads as it did. -/
def storeSharedUptoRow : OpenClaim := { program := "ytcbmfakjfoggaaagreatdoor", sum := "e1b24265d1dfd7bc10ecf0e71f9fbd47bb7783fe29b98d09d0edea6d0a15fa12", func := "slabyard/slabyardlaw2.StoreShared", spec := "storeShared", inPlace := ["slices.overlaps[*slabyard/slab.slab]", "internal/reflectlite.TypeOf", "internal/reflectlite.ValueOf", "(internal/reflectlite.Value).Type", "(internal/reflectlite.Value).IsNil", "(internal/reflectlite.Value).Elem", "(internal/reflectlite.Value).Set"], unfollowed := true, recurses := true, named := ["slabyard/api.ErrBound", "slabyard/api.ErrShape", "slabyard/api.ErrLow", "slabyard/api.ErrFull", "slabyard/api.ErrNone", "math/bits.deBruijn64tab", "slabyard/api.ErrStale", "slabyard/api.ErrWait", "slabyard/api.ErrMany", "errors.errorType", "slabyard/api.ErrHeld", "slabyard/api.ErrText"], plainKeys := false, apart := false, laid := [("math/bits.deBruijn64tab", laid_math_bits_deBruijn64tab), ("errors.errorType", laid_errors_errorType), ("slabyard/api.ErrText", laid_slabyard_api_ErrText), ("slabyard/api.ErrBound", laid_slabyard_api_ErrBound), ("slabyard/api.ErrShape", laid_slabyard_api_ErrShape), ("slabyard/api.ErrNone", laid_slabyard_api_ErrNone), ("slabyard/api.ErrFull", laid_slabyard_api_ErrFull), ("slabyard/api.ErrHeld", laid_slabyard_api_ErrHeld), ("slabyard/api.ErrLow", laid_slabyard_api_ErrLow), ("slabyard/api.ErrWait", laid_slabyard_api_ErrWait), ("slabyard/api.ErrStale", laid_slabyard_api_ErrStale), ("slabyard/api.ErrMany", laid_slabyard_api_ErrMany)], narrowed := true }
def StoreSharedUptoSaid : Prop := storeSharedUptoRow.holds Tryz.pinned (OpenSpec.upto storeSharedSpec)

/-- 'slabyardlaw2.StoreGone', WHERE WHAT IT READS IS OF BULK AT MOST 1048576: true; the input reads as it did. -/
def storeGoneUptoRow : OpenClaim := { program := "ytcbmfakjfoggaaagreatdoor", sum := "e1b24265d1dfd7bc10ecf0e71f9fbd47bb7783fe29b98d09d0edea6d0a15fa12", func := "slabyard/slabyardlaw2.StoreGone", spec := "storeGone", inPlace := ["slices.overlaps[*slabyard/slab.slab]", "internal/reflectlite.TypeOf", "internal/reflectlite.ValueOf", "(internal/reflectlite.Value).Type", "(internal/reflectlite.Value).IsNil", "(internal/reflectlite.Value).Elem", "(internal/reflectlite.Value).Set"], unfollowed := true, recurses := true, named := ["slabyard/api.ErrBound", "slabyard/api.ErrShape", "slabyard/api.ErrLow", "slabyard/api.ErrFull", "slabyard/api.ErrNone", "math/bits.deBruijn64tab", "slabyard/api.ErrStale", "slabyard/api.ErrWait", "slabyard/api.ErrMany", "errors.errorType", "slabyard/api.ErrHeld", "slabyard/api.ErrText"], plainKeys := false, apart := false, laid := [("math/bits.deBruijn64tab", laid_math_bits_deBruijn64tab), ("errors.errorType", laid_errors_errorType), ("slabyard/api.ErrText", laid_slabyard_api_ErrText), ("slabyard/api.ErrBound", laid_slabyard_api_ErrBound), ("slabyard/api.ErrShape", laid_slabyard_api_ErrShape), ("slabyard/api.ErrNone", laid_slabyard_api_ErrNone), ("slabyard/api.ErrFull", laid_slabyard_api_ErrFull), ("slabyard/api.ErrHeld", laid_slabyard_api_ErrHeld), ("slabyard/api.ErrLow", laid_slabyard_api_ErrLow), ("slabyard/api.ErrWait", laid_slabyard_api_ErrWait), ("slabyard/api.ErrStale", laid_slabyard_api_ErrStale), ("slabyard/api.ErrMany", laid_slabyard_api_ErrMany)], narrowed := true }
def StoreGoneUptoSaid : Prop := storeGoneUptoRow.holds Tryz.pinned (OpenSpec.upto storeGoneSpec)

/-- 'slabyardlaw2.StoreActs', WHERE WHAT IT READS IS OF BULK AT MOST 1048576: true; the input reads as it did. -/
def storeActsUptoRow : OpenClaim := { program := "ytcbmfakjfoggaaagreatdoor", sum := "e1b24265d1dfd7bc10ecf0e71f9fbd47bb7783fe29b98d09d0edea6d0a15fa12", func := "slabyard/slabyardlaw2.StoreActs", spec := "storeActs", inPlace := ["slices.overlaps[*slabyard/slab.slab]", "internal/reflectlite.TypeOf", "internal/reflectlite.ValueOf", "(internal/reflectlite.Value).Type", "(internal/reflectlite.Value).IsNil", "(internal/reflectlite.Value).Elem", "(internal/reflectlite.Value).Set"], unfollowed := true, recurses := true, named := ["slabyard/api.ErrBound", "slabyard/api.ErrShape", "slabyard/api.ErrLow", "slabyard/api.ErrFull", "slabyard/api.ErrNone", "math/bits.deBruijn64tab", "slabyard/api.ErrStale", "slabyard/api.ErrWait", "slabyard/api.ErrMany", "errors.errorType", "slabyard/api.ErrHeld", "slabyard/api.ErrText"], plainKeys := false, apart := false, laid := [("math/bits.deBruijn64tab", laid_math_bits_deBruijn64tab), ("errors.errorType", laid_errors_errorType), ("slabyard/api.ErrText", laid_slabyard_api_ErrText), ("slabyard/api.ErrBound", laid_slabyard_api_ErrBound), ("slabyard/api.ErrShape", laid_slabyard_api_ErrShape), ("slabyard/api.ErrNone", laid_slabyard_api_ErrNone), ("slabyard/api.ErrFull", laid_slabyard_api_ErrFull), ("slabyard/api.ErrHeld", laid_slabyard_api_ErrHeld), ("slabyard/api.ErrLow", laid_slabyard_api_ErrLow), ("slabyard/api.ErrWait", laid_slabyard_api_ErrWait), ("slabyard/api.ErrStale", laid_slabyard_api_ErrStale), ("slabyard/api.ErrMany", laid_slabyard_api_ErrMany)], narrowed := true }
def StoreActsUptoSaid : Prop := storeActsUptoRow.holds Tryz.pinned (OpenSpec.upto storeActsSpec)

/-- 'slabyardlaw2.BufferApart', WHERE WHAT IT READS IS OF BULK AT MOST 1048576: true; the input reads as it did. -/
def bufferApartUptoRow : OpenClaim := { program := "ytcbmfakjfoggaaagreatdoor", sum := "e1b24265d1dfd7bc10ecf0e71f9fbd47bb7783fe29b98d09d0edea6d0a15fa12", func := "slabyard/slabyardlaw2.BufferApart", spec := "bufferApart", inPlace := ["slices.overlaps[*slabyard/slab.slab]", "internal/reflectlite.TypeOf", "internal/reflectlite.ValueOf", "(internal/reflectlite.Value).Type", "(internal/reflectlite.Value).IsNil", "(internal/reflectlite.Value).Elem", "(internal/reflectlite.Value).Set", "internal/abi.NoEscape"], unfollowed := true, recurses := true, named := ["slabyard/api.ErrBound", "slabyard/api.ErrShape", "slabyard/api.ErrLow", "slabyard/api.ErrFull", "slabyard/api.ErrNone", "math/bits.deBruijn64tab", "slabyard/api.ErrStale", "slabyard/api.ErrMany", "slabyard/api.ErrWait", "errors.errorType", "slabyard/api.ErrHeld"], plainKeys := false, apart := false, laid := [("math/bits.deBruijn64tab", laid_math_bits_deBruijn64tab), ("errors.errorType", laid_errors_errorType), ("slabyard/api.ErrBound", laid_slabyard_api_ErrBound), ("slabyard/api.ErrShape", laid_slabyard_api_ErrShape), ("slabyard/api.ErrNone", laid_slabyard_api_ErrNone), ("slabyard/api.ErrFull", laid_slabyard_api_ErrFull), ("slabyard/api.ErrHeld", laid_slabyard_api_ErrHeld), ("slabyard/api.ErrLow", laid_slabyard_api_ErrLow), ("slabyard/api.ErrWait", laid_slabyard_api_ErrWait), ("slabyard/api.ErrStale", laid_slabyard_api_ErrStale), ("slabyard/api.ErrMany", laid_slabyard_api_ErrMany)], narrowed := true }
def BufferApartUptoSaid : Prop := bufferApartUptoRow.holds Tryz.pinned (OpenSpec.upto bufferApartSpec)

/-- 'slabyardlaw2.BufferRope', WHERE WHAT IT READS IS OF BULK AT MOST 1048576: true; the input reads as it did. -/
def bufferRopeUptoRow : OpenClaim := { program := "ytcbmfakjfoggaaagreatdoor", sum := "e1b24265d1dfd7bc10ecf0e71f9fbd47bb7783fe29b98d09d0edea6d0a15fa12", func := "slabyard/slabyardlaw2.BufferRope", spec := "bufferRope", inPlace := ["slices.overlaps[*slabyard/slab.slab]", "internal/reflectlite.TypeOf", "internal/reflectlite.ValueOf", "(internal/reflectlite.Value).Type", "(internal/reflectlite.Value).IsNil", "(internal/reflectlite.Value).Elem", "(internal/reflectlite.Value).Set", "internal/abi.NoEscape"], unfollowed := true, recurses := true, named := ["slabyard/api.ErrBound", "slabyard/api.ErrShape", "slabyard/api.ErrLow", "slabyard/api.ErrFull", "slabyard/api.ErrNone", "math/bits.deBruijn64tab", "slabyard/api.ErrStale", "slabyard/api.ErrMany", "slabyard/api.ErrWait", "errors.errorType", "slabyard/api.ErrHeld", "slabyard/api.ErrText"], plainKeys := false, apart := false, laid := [("math/bits.deBruijn64tab", laid_math_bits_deBruijn64tab), ("errors.errorType", laid_errors_errorType), ("slabyard/api.ErrText", laid_slabyard_api_ErrText), ("slabyard/api.ErrBound", laid_slabyard_api_ErrBound), ("slabyard/api.ErrShape", laid_slabyard_api_ErrShape), ("slabyard/api.ErrNone", laid_slabyard_api_ErrNone), ("slabyard/api.ErrFull", laid_slabyard_api_ErrFull), ("slabyard/api.ErrHeld", laid_slabyard_api_ErrHeld), ("slabyard/api.ErrLow", laid_slabyard_api_ErrLow), ("slabyard/api.ErrWait", laid_slabyard_api_ErrWait), ("slabyard/api.ErrStale", laid_slabyard_api_ErrStale), ("slabyard/api.ErrMany", laid_slabyard_api_ErrMany)], narrowed := true }
def BufferRopeUptoSaid : Prop := bufferRopeUptoRow.holds Tryz.pinned (OpenSpec.upto bufferRopeSpec)

/-- 'slabyardlaw2.BufferClones', WHERE WHAT IT READS IS OF BULK AT MOST 1048576: true; the input reads as it did. -/
def bufferClonesUptoRow : OpenClaim := { program := "ytcbmfakjfoggaaagreatdoor", sum := "e1b24265d1dfd7bc10ecf0e71f9fbd47bb7783fe29b98d09d0edea6d0a15fa12", func := "slabyard/slabyardlaw2.BufferClones", spec := "bufferClones", inPlace := ["slices.overlaps[*slabyard/slab.slab]", "internal/reflectlite.TypeOf", "internal/reflectlite.ValueOf", "(internal/reflectlite.Value).Type", "(internal/reflectlite.Value).IsNil", "(internal/reflectlite.Value).Elem", "(internal/reflectlite.Value).Set", "internal/abi.NoEscape"], unfollowed := true, recurses := true, named := ["slabyard/api.ErrBound", "slabyard/api.ErrShape", "slabyard/api.ErrLow", "slabyard/api.ErrFull", "slabyard/api.ErrNone", "math/bits.deBruijn64tab", "slabyard/api.ErrStale", "slabyard/api.ErrMany", "slabyard/api.ErrWait", "errors.errorType", "slabyard/api.ErrHeld"], plainKeys := false, apart := false, laid := [("math/bits.deBruijn64tab", laid_math_bits_deBruijn64tab), ("errors.errorType", laid_errors_errorType), ("slabyard/api.ErrBound", laid_slabyard_api_ErrBound), ("slabyard/api.ErrShape", laid_slabyard_api_ErrShape), ("slabyard/api.ErrNone", laid_slabyard_api_ErrNone), ("slabyard/api.ErrFull", laid_slabyard_api_ErrFull), ("slabyard/api.ErrHeld", laid_slabyard_api_ErrHeld), ("slabyard/api.ErrLow", laid_slabyard_api_ErrLow), ("slabyard/api.ErrWait", laid_slabyard_api_ErrWait), ("slabyard/api.ErrStale", laid_slabyard_api_ErrStale), ("slabyard/api.ErrMany", laid_slabyard_api_ErrMany)], narrowed := true }
def BufferClonesUptoSaid : Prop := bufferClonesUptoRow.holds Tryz.pinned (OpenSpec.upto bufferClonesSpec)

/-- 'slabyardlaw2.BufferActs', WHERE WHAT IT READS IS OF BULK AT MOST 1048576: true; the input reads as it did. -/
def bufferActsUptoRow : OpenClaim := { program := "ytcbmfakjfoggaaagreatdoor", sum := "e1b24265d1dfd7bc10ecf0e71f9fbd47bb7783fe29b98d09d0edea6d0a15fa12", func := "slabyard/slabyardlaw2.BufferActs", spec := "bufferActs", inPlace := ["slices.overlaps[*slabyard/slab.slab]", "internal/reflectlite.TypeOf", "internal/reflectlite.ValueOf", "(internal/reflectlite.Value).Type", "(internal/reflectlite.Value).IsNil", "(internal/reflectlite.Value).Elem", "(internal/reflectlite.Value).Set", "internal/abi.NoEscape"], unfollowed := true, recurses := true, named := ["slabyard/api.ErrBound", "slabyard/api.ErrShape", "slabyard/api.ErrLow", "slabyard/api.ErrFull", "slabyard/api.ErrNone", "math/bits.deBruijn64tab", "slabyard/api.ErrStale", "slabyard/api.ErrMany", "slabyard/api.ErrWait", "errors.errorType", "slabyard/api.ErrHeld", "slabyard/api.ErrText"], plainKeys := false, apart := false, laid := [("math/bits.deBruijn64tab", laid_math_bits_deBruijn64tab), ("errors.errorType", laid_errors_errorType), ("slabyard/api.ErrText", laid_slabyard_api_ErrText), ("slabyard/api.ErrBound", laid_slabyard_api_ErrBound), ("slabyard/api.ErrShape", laid_slabyard_api_ErrShape), ("slabyard/api.ErrNone", laid_slabyard_api_ErrNone), ("slabyard/api.ErrFull", laid_slabyard_api_ErrFull), ("slabyard/api.ErrHeld", laid_slabyard_api_ErrHeld), ("slabyard/api.ErrLow", laid_slabyard_api_ErrLow), ("slabyard/api.ErrWait", laid_slabyard_api_ErrWait), ("slabyard/api.ErrStale", laid_slabyard_api_ErrStale), ("slabyard/api.ErrMany", laid_slabyard_api_ErrMany)], narrowed := true }
def BufferActsUptoSaid : Prop := bufferActsUptoRow.holds Tryz.pinned (OpenSpec.upto bufferActsSpec)

end Rows
end Go.Proofs.YtcbmfakjfoggaaaGreatDoor
