/-
  DERIVED. GIVEN WITH THE SEED: THE CARDS: each row of YtealnnppoffmnaaGreatDoorRows.lean that lists a variable, with what it lists TIED to the program's text (the seventh form; the later family's looks); each row that meets fmt, with fmt's text TOLD by the authors' own Lean function (tested against real Go, not proved from fmt's source: count such statements apart). THE CARD IS WHAT COUNTS. Prove the row's statement (the work); the ties are given (YtealnnppoffmnaaGreatDoorTie.lean); close each card by the builder's one call (the guide's Derived/Test/ToyasCard.lean, 'card_holds'). Laid BY PROGRAM, IN A SANDBOX (cutbox-door.mjs). By AI agents, Wed Nov 11 2026. No macro, syntax, notation, axiom, sorry.
-/
import Derived.Test.YtealnnppoffmnaaGreatDoorRows
import GoSem.ClaimSeven
namespace Go.Proofs.YtealnnppoffmnaaGreatDoor
namespace Rows

/-- THE TIED CARD OF 'slabyardlaw1.BuddyActs'. -/
def buddyActsCard : Claim7 := { stood := { row := buddyActsRow, standIns := [], harness := (true, "d3549dcf5ce45338e925d3c22f566c7150cd94c1a8e599a47809791b426eca9a"), looks := true }, kinds := [], alts := [], laidByText := true, laidKinds := [.handle, .sentinel, .sentinel, .sentinel, .sentinel, .sentinel, .sentinel, .sentinel, .sentinel, .sentinel, .sentinel], laidTests := true, laidLooks := .later }
def BuddyActsCardSaid : Prop := Claim7.holds Tryz.pinned (.plain (OpenSpec.ofChange buddyActsSpec)) buddyActsCard

/-- THE TIED CARD OF 'slabyardlaw1.ZoneMin'. -/
def zoneMinCard : Claim7 := { stood := { row := zoneMinRow, standIns := [], harness := (true, "d3549dcf5ce45338e925d3c22f566c7150cd94c1a8e599a47809791b426eca9a"), looks := true }, kinds := [], alts := [], laidByText := true, laidKinds := [.handle, .sentinel, .sentinel, .sentinel, .sentinel, .sentinel, .sentinel, .sentinel, .sentinel, .sentinel, .sentinel], laidTests := true, laidLooks := .later }
def ZoneMinCardSaid : Prop := Claim7.holds Tryz.pinned (.plain (OpenSpec.ofChange zoneMinSpec)) zoneMinCard

/-- THE TIED CARD OF 'slabyardlaw1.ZoneNear'. -/
def zoneNearCard : Claim7 := { stood := { row := zoneNearRow, standIns := [], harness := (true, "d3549dcf5ce45338e925d3c22f566c7150cd94c1a8e599a47809791b426eca9a"), looks := true }, kinds := [], alts := [], laidByText := true, laidKinds := [.handle, .sentinel, .sentinel, .sentinel, .sentinel, .sentinel, .sentinel, .sentinel, .sentinel, .sentinel, .sentinel], laidTests := true, laidLooks := .later }
def ZoneNearCardSaid : Prop := Claim7.holds Tryz.pinned (.plain (OpenSpec.ofChange zoneNearSpec)) zoneNearCard

/-- THE TIED CARD OF 'slabyardlaw1.ZoneActs'. -/
def zoneActsCard : Claim7 := { stood := { row := zoneActsRow, standIns := [], harness := (true, "d3549dcf5ce45338e925d3c22f566c7150cd94c1a8e599a47809791b426eca9a"), looks := true }, kinds := [], alts := [], laidByText := true, laidKinds := [.handle, .sentinel, .sentinel, .sentinel, .sentinel, .sentinel, .sentinel, .sentinel, .sentinel, .sentinel, .sentinel], laidTests := true, laidLooks := .later }
def ZoneActsCardSaid : Prop := Claim7.holds Tryz.pinned (.plain (OpenSpec.ofChange zoneActsSpec)) zoneActsCard

/-- THE SECOND FORM's CARD OF 'slabyardlaw1.BuddyActs'. -/
def buddyActsUptoCard : Claim7 := { stood := { row := buddyActsUptoRow, standIns := [], harness := (true, "d3549dcf5ce45338e925d3c22f566c7150cd94c1a8e599a47809791b426eca9a"), looks := true }, kinds := [], alts := [], laidByText := true, laidKinds := [.handle, .sentinel, .sentinel, .sentinel, .sentinel, .sentinel, .sentinel, .sentinel, .sentinel, .sentinel, .sentinel], laidTests := true, laidLooks := .later }
def BuddyActsUptoCardSaid : Prop := Claim7.holds Tryz.pinned (.plain (OpenSpec.upto buddyActsSpec)) buddyActsUptoCard

/-- THE SECOND FORM's CARD OF 'slabyardlaw1.ZoneMin'. -/
def zoneMinUptoCard : Claim7 := { stood := { row := zoneMinUptoRow, standIns := [], harness := (true, "d3549dcf5ce45338e925d3c22f566c7150cd94c1a8e599a47809791b426eca9a"), looks := true }, kinds := [], alts := [], laidByText := true, laidKinds := [.handle, .sentinel, .sentinel, .sentinel, .sentinel, .sentinel, .sentinel, .sentinel, .sentinel, .sentinel, .sentinel], laidTests := true, laidLooks := .later }
def ZoneMinUptoCardSaid : Prop := Claim7.holds Tryz.pinned (.plain (OpenSpec.upto zoneMinSpec)) zoneMinUptoCard

/-- THE SECOND FORM's CARD OF 'slabyardlaw1.ZoneNear'. -/
def zoneNearUptoCard : Claim7 := { stood := { row := zoneNearUptoRow, standIns := [], harness := (true, "d3549dcf5ce45338e925d3c22f566c7150cd94c1a8e599a47809791b426eca9a"), looks := true }, kinds := [], alts := [], laidByText := true, laidKinds := [.handle, .sentinel, .sentinel, .sentinel, .sentinel, .sentinel, .sentinel, .sentinel, .sentinel, .sentinel, .sentinel], laidTests := true, laidLooks := .later }
def ZoneNearUptoCardSaid : Prop := Claim7.holds Tryz.pinned (.plain (OpenSpec.upto zoneNearSpec)) zoneNearUptoCard

/-- THE SECOND FORM's CARD OF 'slabyardlaw1.ZoneActs'. -/
def zoneActsUptoCard : Claim7 := { stood := { row := zoneActsUptoRow, standIns := [], harness := (true, "d3549dcf5ce45338e925d3c22f566c7150cd94c1a8e599a47809791b426eca9a"), looks := true }, kinds := [], alts := [], laidByText := true, laidKinds := [.handle, .sentinel, .sentinel, .sentinel, .sentinel, .sentinel, .sentinel, .sentinel, .sentinel, .sentinel, .sentinel], laidTests := true, laidLooks := .later }
def ZoneActsUptoCardSaid : Prop := Claim7.holds Tryz.pinned (.plain (OpenSpec.upto zoneActsSpec)) zoneActsUptoCard
end Rows
end Go.Proofs.YtealnnppoffmnaaGreatDoor
