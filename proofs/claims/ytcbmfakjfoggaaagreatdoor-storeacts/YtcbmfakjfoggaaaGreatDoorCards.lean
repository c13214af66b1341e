/-
  DERIVED. GIVEN WITH THE SEED: THE CARDS: each row of YtcbmfakjfoggaaaGreatDoorRows.lean that lists a variable, with what it lists TIED to the program's text (the seventh form; the later family's looks); each row that meets fmt, with fmt's text TOLD by the authors' own Lean function (tested against real Go, not proved from fmt's source: count such statements apart). THE CARD IS WHAT COUNTS. Prove the row's statement (the work); the ties are given (YtcbmfakjfoggaaaGreatDoorTie.lean); close each card by the builder's one call (the guide's Derived/Test/ToyasCard.lean, 'card_holds'). Laid BY PROGRAM, IN A SANDBOX (cutbox-door.mjs). By AI agents, Wed Nov 11 2026. No macro, syntax, notation, axiom, sorry.
-/
import Derived.Test.YtcbmfakjfoggaaaGreatDoorRows
import GoSem.ClaimSeven
namespace Go.Proofs.YtcbmfakjfoggaaaGreatDoor
namespace Rows

/-- THE TIED CARD OF 'slabyardlaw2.PoolFair'. -/
def poolFairCard : Claim7 := { stood := { row := poolFairRow, standIns := [], harness := (true, "8f2b71cd5b16913502e694f32feb9195b36c4ae076ffe5c0472d5ae8b9a66942"), looks := true }, kinds := [], alts := [], laidByText := true, laidKinds := [.data, .handle, .sentinel, .sentinel, .sentinel, .sentinel, .sentinel, .sentinel, .sentinel, .sentinel, .sentinel, .sentinel], laidTests := true, laidLooks := .later }
def PoolFairCardSaid : Prop := Claim7.holds Tryz.pinned (.plain (OpenSpec.ofChange poolFairSpec)) poolFairCard

/-- THE TIED CARD OF 'slabyardlaw2.PoolActs'. -/
def poolActsCard : Claim7 := { stood := { row := poolActsRow, standIns := [], harness := (true, "8f2b71cd5b16913502e694f32feb9195b36c4ae076ffe5c0472d5ae8b9a66942"), looks := true }, kinds := [], alts := [], laidByText := true, laidKinds := [.data, .handle, .sentinel, .sentinel, .sentinel, .sentinel, .sentinel, .sentinel, .sentinel, .sentinel, .sentinel, .sentinel], laidTests := true, laidLooks := .later }
def PoolActsCardSaid : Prop := Claim7.holds Tryz.pinned (.plain (OpenSpec.ofChange poolActsSpec)) poolActsCard

/-- THE TIED CARD OF 'slabyardlaw2.StoreShared'. -/
def storeSharedCard : Claim7 := { stood := { row := storeSharedRow, standIns := [], harness := (true, "8f2b71cd5b16913502e694f32feb9195b36c4ae076ffe5c0472d5ae8b9a66942"), looks := true }, kinds := [], alts := [], laidByText := true, laidKinds := [.data, .handle, .sentinel, .sentinel, .sentinel, .sentinel, .sentinel, .sentinel, .sentinel, .sentinel, .sentinel, .sentinel], laidTests := true, laidLooks := .later }
def StoreSharedCardSaid : Prop := Claim7.holds Tryz.pinned (.plain (OpenSpec.ofChange storeSharedSpec)) storeSharedCard

/-- THE TIED CARD OF 'slabyardlaw2.StoreGone'. -/
def storeGoneCard : Claim7 := { stood := { row := storeGoneRow, standIns := [], harness := (true, "8f2b71cd5b16913502e694f32feb9195b36c4ae076ffe5c0472d5ae8b9a66942"), looks := true }, kinds := [], alts := [], laidByText := true, laidKinds := [.data, .handle, .sentinel, .sentinel, .sentinel, .sentinel, .sentinel, .sentinel, .sentinel, .sentinel, .sentinel, .sentinel], laidTests := true, laidLooks := .later }
def StoreGoneCardSaid : Prop := Claim7.holds Tryz.pinned (.plain (OpenSpec.ofChange storeGoneSpec)) storeGoneCard

/-- THE TIED CARD OF 'slabyardlaw2.StoreActs'. -/
def storeActsCard : Claim7 := { stood := { row := storeActsRow, standIns := [], harness := (true, "8f2b71cd5b16913502e694f32feb9195b36c4ae076ffe5c0472d5ae8b9a66942"), looks := true }, kinds := [], alts := [], laidByText := true, laidKinds := [.data, .handle, .sentinel, .sentinel, .sentinel, .sentinel, .sentinel, .sentinel, .sentinel, .sentinel, .sentinel, .sentinel], laidTests := true, laidLooks := .later }
def StoreActsCardSaid : Prop := Claim7.holds Tryz.pinned (.plain (OpenSpec.ofChange storeActsSpec)) storeActsCard

/-- THE TIED CARD OF 'slabyardlaw2.BufferApart'. -/
def bufferApartCard : Claim7 := { stood := { row := bufferApartRow, standIns := [], harness := (true, "8f2b71cd5b16913502e694f32feb9195b36c4ae076ffe5c0472d5ae8b9a66942"), looks := true }, kinds := [], alts := [], laidByText := true, laidKinds := [.data, .handle, .sentinel, .sentinel, .sentinel, .sentinel, .sentinel, .sentinel, .sentinel, .sentinel, .sentinel], laidTests := true, laidLooks := .later }
def BufferApartCardSaid : Prop := Claim7.holds Tryz.pinned (.plain (OpenSpec.ofChange bufferApartSpec)) bufferApartCard

/-- THE TIED CARD OF 'slabyardlaw2.BufferRope'. -/
def bufferRopeCard : Claim7 := { stood := { row := bufferRopeRow, standIns := [], harness := (true, "8f2b71cd5b16913502e694f32feb9195b36c4ae076ffe5c0472d5ae8b9a66942"), looks := true }, kinds := [], alts := [], laidByText := true, laidKinds := [.data, .handle, .sentinel, .sentinel, .sentinel, .sentinel, .sentinel, .sentinel, .sentinel, .sentinel, .sentinel, .sentinel], laidTests := true, laidLooks := .later }
def BufferRopeCardSaid : Prop := Claim7.holds Tryz.pinned (.plain (OpenSpec.ofChange bufferRopeSpec)) bufferRopeCard

/-- THE TIED CARD OF 'slabyardlaw2.BufferClones'. -/
def bufferClonesCard : Claim7 := { stood := { row := bufferClonesRow, standIns := [], harness := (true, "8f2b71cd5b16913502e694f32feb9195b36c4ae076ffe5c0472d5ae8b9a66942"), looks := true }, kinds := [], alts := [], laidByText := true, laidKinds := [.data, .handle, .sentinel, .sentinel, .sentinel, .sentinel, .sentinel, .sentinel, .sentinel, .sentinel, .sentinel], laidTests := true, laidLooks := .later }
def BufferClonesCardSaid : Prop := Claim7.holds Tryz.pinned (.plain (OpenSpec.ofChange bufferClonesSpec)) bufferClonesCard

/-- THE TIED CARD OF 'slabyardlaw2.BufferActs'. -/
def bufferActsCard : Claim7 := { stood := { row := bufferActsRow, standIns := [], harness := (true, "8f2b71cd5b16913502e694f32feb9195b36c4ae076ffe5c0472d5ae8b9a66942"), looks := true }, kinds := [], alts := [], laidByText := true, laidKinds := [.data, .handle, .sentinel, .sentinel, .sentinel, .sentinel, .sentinel, .sentinel, .sentinel, .sentinel, .sentinel, .sentinel], laidTests := true, laidLooks := .later }
def BufferActsCardSaid : Prop := Claim7.holds Tryz.pinned (.plain (OpenSpec.ofChange bufferActsSpec)) bufferActsCard

/-- THE SECOND FORM's CARD OF 'slabyardlaw2.PoolFair'. -/
def poolFairUptoCard : Claim7 := { stood := { row := poolFairUptoRow, standIns := [], harness := (true, "8f2b71cd5b16913502e694f32feb9195b36c4ae076ffe5c0472d5ae8b9a66942"), looks := true }, kinds := [], alts := [], laidByText := true, laidKinds := [.data, .handle, .sentinel, .sentinel, .sentinel, .sentinel, .sentinel, .sentinel, .sentinel, .sentinel, .sentinel, .sentinel], laidTests := true, laidLooks := .later }
def PoolFairUptoCardSaid : Prop := Claim7.holds Tryz.pinned (.plain (OpenSpec.upto poolFairSpec)) poolFairUptoCard

/-- THE SECOND FORM's CARD OF 'slabyardlaw2.PoolActs'. -/
def poolActsUptoCard : Claim7 := { stood := { row := poolActsUptoRow, standIns := [], harness := (true, "8f2b71cd5b16913502e694f32feb9195b36c4ae076ffe5c0472d5ae8b9a66942"), looks := true }, kinds := [], alts := [], laidByText := true, laidKinds := [.data, .handle, .sentinel, .sentinel, .sentinel, .sentinel, .sentinel, .sentinel, .sentinel, .sentinel, .sentinel, .sentinel], laidTests := true, laidLooks := .later }
def PoolActsUptoCardSaid : Prop := Claim7.holds Tryz.pinned (.plain (OpenSpec.upto poolActsSpec)) poolActsUptoCard

/-- THE SECOND FORM's CARD OF 'slabyardlaw2.StoreShared'. -/
def storeSharedUptoCard : Claim7 := { stood := { row := storeSharedUptoRow, standIns := [], harness := (true, "8f2b71cd5b16913502e694f32feb9195b36c4ae076ffe5c0472d5ae8b9a66942"), looks := true }, kinds := [], alts := [], laidByText := true, laidKinds := [.data, .handle, .sentinel, .sentinel, .sentinel, .sentinel, .sentinel, .sentinel, .sentinel, .sentinel, .sentinel, .sentinel], laidTests := true, laidLooks := .later }
def StoreSharedUptoCardSaid : Prop := Claim7.holds Tryz.pinned (.plain (OpenSpec.upto storeSharedSpec)) storeSharedUptoCard

/-- THE SECOND FORM's CARD OF 'slabyardlaw2.StoreGone'. -/
def storeGoneUptoCard : Claim7 := { stood := { row := storeGoneUptoRow, standIns := [], harness := (true, "8f2b71cd5b16913502e694f32feb9195b36c4ae076ffe5c0472d5ae8b9a66942"), looks := true }, kinds := [], alts := [], laidByText := true, laidKinds := [.data, .handle, .sentinel, .sentinel, .sentinel, .sentinel, .sentinel, .sentinel, .sentinel, .sentinel, .sentinel, .sentinel], laidTests := true, laidLooks := .later }
def StoreGoneUptoCardSaid : Prop := Claim7.holds Tryz.pinned (.plain (OpenSpec.upto storeGoneSpec)) storeGoneUptoCard

/-- THE SECOND FORM's CARD OF 'slabyardlaw2.StoreActs'. -/
def storeActsUptoCard : Claim7 := { stood := { row := storeActsUptoRow, standIns := [], harness := (true, "8f2b71cd5b16913502e694f32feb9195b36c4ae076ffe5c0472d5ae8b9a66942"), looks := true }, kinds := [], alts := [], laidByText := true, laidKinds := [.data, .handle, .sentinel, .sentinel, .sentinel, .sentinel, .sentinel, .sentinel, .sentinel, .sentinel, .sentinel, .sentinel], laidTests := true, laidLooks := .later }
def StoreActsUptoCardSaid : Prop := Claim7.holds Tryz.pinned (.plain (OpenSpec.upto storeActsSpec)) storeActsUptoCard

/-- THE SECOND FORM's CARD OF 'slabyardlaw2.BufferApart'. -/
def bufferApartUptoCard : Claim7 := { stood := { row := bufferApartUptoRow, standIns := [], harness := (true, "8f2b71cd5b16913502e694f32feb9195b36c4ae076ffe5c0472d5ae8b9a66942"), looks := true }, kinds := [], alts := [], laidByText := true, laidKinds := [.data, .handle, .sentinel, .sentinel, .sentinel, .sentinel, .sentinel, .sentinel, .sentinel, .sentinel, .sentinel], laidTests := true, laidLooks := .later }
def BufferApartUptoCardSaid : Prop := Claim7.holds Tryz.pinned (.plain (OpenSpec.upto bufferApartSpec)) bufferApartUptoCard

/-- THE SECOND FORM's CARD OF 'slabyardlaw2.BufferRope'. -/
def bufferRopeUptoCard : Claim7 := { stood := { row := bufferRopeUptoRow, standIns := [], harness := (true, "8f2b71cd5b16913502e694f32feb9195b36c4ae076ffe5c0472d5ae8b9a66942"), looks := true }, kinds := [], alts := [], laidByText := true, laidKinds := [.data, .handle, .sentinel, .sentinel, .sentinel, .sentinel, .sentinel, .sentinel, .sentinel, .sentinel, .sentinel, .sentinel], laidTests := true, laidLooks := .later }
def BufferRopeUptoCardSaid : Prop := Claim7.holds Tryz.pinned (.plain (OpenSpec.upto bufferRopeSpec)) bufferRopeUptoCard

/-- THE SECOND FORM's CARD OF 'slabyardlaw2.BufferClones'. -/
def bufferClonesUptoCard : Claim7 := { stood := { row := bufferClonesUptoRow, standIns := [], harness := (true, "8f2b71cd5b16913502e694f32feb9195b36c4ae076ffe5c0472d5ae8b9a66942"), looks := true }, kinds := [], alts := [], laidByText := true, laidKinds := [.data, .handle, .sentinel, .sentinel, .sentinel, .sentinel, .sentinel, .sentinel, .sentinel, .sentinel, .sentinel], laidTests := true, laidLooks := .later }
def BufferClonesUptoCardSaid : Prop := Claim7.holds Tryz.pinned (.plain (OpenSpec.upto bufferClonesSpec)) bufferClonesUptoCard

/-- THE SECOND FORM's CARD OF 'slabyardlaw2.BufferActs'. -/
def bufferActsUptoCard : Claim7 := { stood := { row := bufferActsUptoRow, standIns := [], harness := (true, "8f2b71cd5b16913502e694f32feb9195b36c4ae076ffe5c0472d5ae8b9a66942"), looks := true }, kinds := [], alts := [], laidByText := true, laidKinds := [.data, .handle, .sentinel, .sentinel, .sentinel, .sentinel, .sentinel, .sentinel, .sentinel, .sentinel, .sentinel, .sentinel], laidTests := true, laidLooks := .later }
def BufferActsUptoCardSaid : Prop := Claim7.holds Tryz.pinned (.plain (OpenSpec.upto bufferActsSpec)) bufferActsUptoCard
end Rows
end Go.Proofs.YtcbmfakjfoggaaaGreatDoor
