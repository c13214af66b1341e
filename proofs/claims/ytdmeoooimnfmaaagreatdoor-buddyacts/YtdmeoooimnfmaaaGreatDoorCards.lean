/-
  DERIVED. GIVEN WITH THE SEED: THE CARDS: each row of YtdmeoooimnfmaaaGreatDoorRows.lean that lists a variable, with what it lists TIED to the program's text (the seventh form; the later family's looks); each row that meets fmt, with fmt's text TOLD by the authors' own Lean function (tested against real Go, not proved from fmt's source: count such statements apart). THE CARD IS WHAT COUNTS. Prove the row's statement (the work); the ties are given (YtdmeoooimnfmaaaGreatDoorTie.lean); close each card by the builder's one call (the guide's Derived/Test/ToyasCard.lean, 'card_holds'). Laid BY PROGRAM, IN A SANDBOX (cutbox-door.mjs). By AI agents, Wed Nov 11 2026. No macro, syntax, notation, axiom, sorry.
-/
import Derived.Test.YtdmeoooimnfmaaaGreatDoorRows
import GoSem.ClaimSeven
namespace Go.Proofs.YtdmeoooimnfmaaaGreatDoor
namespace Rows

/-- THE TIED CARD OF 'slabyardlaw1.BuddyActs'. -/
def buddyActsCard : Claim7 := { stood := { row := buddyActsRow, standIns := [], harness := (true, "b81311dbb233c14baeb518e1ac1094214cb9f19f28249b1fff2f45922a2a91e1"), looks := true }, kinds := [], alts := [], laidByText := true, laidKinds := [.handle, .sentinel, .sentinel, .sentinel, .sentinel, .sentinel, .sentinel, .sentinel, .sentinel, .sentinel, .sentinel], laidTests := true, laidLooks := .later }
def BuddyActsCardSaid : Prop := Claim7.holds Tryz.pinned (.plain (OpenSpec.ofChange buddyActsSpec)) buddyActsCard

/-- THE SECOND FORM's CARD OF 'slabyardlaw1.BuddyActs'. -/
def buddyActsUptoCard : Claim7 := { stood := { row := buddyActsUptoRow, standIns := [], harness := (true, "b81311dbb233c14baeb518e1ac1094214cb9f19f28249b1fff2f45922a2a91e1"), looks := true }, kinds := [], alts := [], laidByText := true, laidKinds := [.handle, .sentinel, .sentinel, .sentinel, .sentinel, .sentinel, .sentinel, .sentinel, .sentinel, .sentinel, .sentinel], laidTests := true, laidLooks := .later }
def BuddyActsUptoCardSaid : Prop := Claim7.holds Tryz.pinned (.plain (OpenSpec.upto buddyActsSpec)) buddyActsUptoCard
end Rows
end Go.Proofs.YtdmeoooimnfmaaaGreatDoor
