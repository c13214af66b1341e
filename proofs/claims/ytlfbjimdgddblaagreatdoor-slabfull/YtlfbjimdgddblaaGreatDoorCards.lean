/-
  DERIVED. GIVEN WITH THE SEED: THE CARDS: each row of YtlfbjimdgddblaaGreatDoorRows.lean that lists a variable, with what it lists TIED to the program's text (the seventh form; the later family's looks); each row that meets fmt, with fmt's text TOLD by the authors' own Lean function (tested against real Go, not proved from fmt's source: count such statements apart). THE CARD IS WHAT COUNTS. Prove the row's statement (the work); the ties are given (YtlfbjimdgddblaaGreatDoorTie.lean); close each card by the builder's one call (the guide's Derived/Test/ToyasCard.lean, 'card_holds'). Laid BY PROGRAM, IN A SANDBOX (cutbox-door.mjs). By AI agents, Wed Nov 11 2026. No macro, syntax, notation, axiom, sorry.
-/
import Derived.Test.YtlfbjimdgddblaaGreatDoorRows
import GoSem.ClaimSeven
namespace Go.Proofs.YtlfbjimdgddblaaGreatDoor
namespace Rows

/-- THE TIED CARD OF 'slabyardlaw1.SlabApart'. -/
def slabApartCard : Claim7 := { stood := { row := slabApartRow, standIns := [], harness := (true, "e8194e667cbf22054f8eda5234239192ce6eb4fb28662befe0a4606fc6392f17"), looks := true }, kinds := [], alts := [], laidByText := true, laidKinds := [.data, .handle, .sentinel, .sentinel, .sentinel, .sentinel, .sentinel, .sentinel, .sentinel, .sentinel, .sentinel, .sentinel], laidTests := true, laidLooks := .later }
def SlabApartCardSaid : Prop := Claim7.holds Tryz.pinned (.plain (OpenSpec.ofChange slabApartSpec)) slabApartCard

/-- THE TIED CARD OF 'slabyardlaw1.SlabFull'. -/
def slabFullCard : Claim7 := { stood := { row := slabFullRow, standIns := [], harness := (true, "e8194e667cbf22054f8eda5234239192ce6eb4fb28662befe0a4606fc6392f17"), looks := true }, kinds := [], alts := [], laidByText := true, laidKinds := [.data, .handle, .sentinel, .sentinel, .sentinel, .sentinel, .sentinel, .sentinel, .sentinel, .sentinel, .sentinel, .sentinel], laidTests := true, laidLooks := .later }
def SlabFullCardSaid : Prop := Claim7.holds Tryz.pinned (.plain (OpenSpec.ofChange slabFullSpec)) slabFullCard

/-- THE TIED CARD OF 'slabyardlaw1.SlabActs'. -/
def slabActsCard : Claim7 := { stood := { row := slabActsRow, standIns := [], harness := (true, "e8194e667cbf22054f8eda5234239192ce6eb4fb28662befe0a4606fc6392f17"), looks := true }, kinds := [], alts := [], laidByText := true, laidKinds := [.data, .handle, .sentinel, .sentinel, .sentinel, .sentinel, .sentinel, .sentinel, .sentinel, .sentinel, .sentinel, .sentinel], laidTests := true, laidLooks := .later }
def SlabActsCardSaid : Prop := Claim7.holds Tryz.pinned (.plain (OpenSpec.ofChange slabActsSpec)) slabActsCard

/-- THE SECOND FORM's CARD OF 'slabyardlaw1.SlabApart'. -/
def slabApartUptoCard : Claim7 := { stood := { row := slabApartUptoRow, standIns := [], harness := (true, "e8194e667cbf22054f8eda5234239192ce6eb4fb28662befe0a4606fc6392f17"), looks := true }, kinds := [], alts := [], laidByText := true, laidKinds := [.data, .handle, .sentinel, .sentinel, .sentinel, .sentinel, .sentinel, .sentinel, .sentinel, .sentinel, .sentinel, .sentinel], laidTests := true, laidLooks := .later }
def SlabApartUptoCardSaid : Prop := Claim7.holds Tryz.pinned (.plain (OpenSpec.upto slabApartSpec)) slabApartUptoCard

/-- THE SECOND FORM's CARD OF 'slabyardlaw1.SlabFull'. -/
def slabFullUptoCard : Claim7 := { stood := { row := slabFullUptoRow, standIns := [], harness := (true, "e8194e667cbf22054f8eda5234239192ce6eb4fb28662befe0a4606fc6392f17"), looks := true }, kinds := [], alts := [], laidByText := true, laidKinds := [.data, .handle, .sentinel, .sentinel, .sentinel, .sentinel, .sentinel, .sentinel, .sentinel, .sentinel, .sentinel, .sentinel], laidTests := true, laidLooks := .later }
def SlabFullUptoCardSaid : Prop := Claim7.holds Tryz.pinned (.plain (OpenSpec.upto slabFullSpec)) slabFullUptoCard

/-- THE SECOND FORM's CARD OF 'slabyardlaw1.SlabActs'. -/
def slabActsUptoCard : Claim7 := { stood := { row := slabActsUptoRow, standIns := [], harness := (true, "e8194e667cbf22054f8eda5234239192ce6eb4fb28662befe0a4606fc6392f17"), looks := true }, kinds := [], alts := [], laidByText := true, laidKinds := [.data, .handle, .sentinel, .sentinel, .sentinel, .sentinel, .sentinel, .sentinel, .sentinel, .sentinel, .sentinel, .sentinel], laidTests := true, laidLooks := .later }
def SlabActsUptoCardSaid : Prop := Claim7.holds Tryz.pinned (.plain (OpenSpec.upto slabActsSpec)) slabActsUptoCard
end Rows
end Go.Proofs.YtlfbjimdgddblaaGreatDoor
