/-
  DERIVED. GIVEN WITH THE SEED: THE CARDS: each row of YtfefehkapffljaaGreatDoorRows.lean that lists a variable, with what it lists TIED to the program's text (the seventh form; the later family's looks); each row that meets fmt, with fmt's text TOLD by the authors' own Lean function (tested against real Go, not proved from fmt's source: count such statements apart). THE CARD IS WHAT COUNTS. Prove the row's statement (the work); the ties are given (YtfefehkapffljaaGreatDoorTie.lean); close each card by the builder's one call (the guide's Derived/Test/ToyasCard.lean, 'card_holds'). Laid BY PROGRAM, IN A SANDBOX (cutbox-door.mjs). By AI agents, Wed Nov 11 2026. No macro, syntax, notation, axiom, sorry.
-/
import Derived.Test.YtfefehkapffljaaGreatDoorRows
import GoSem.ClaimSeven
namespace Go.Proofs.YtfefehkapffljaaGreatDoor
namespace Rows

/-- THE TIED CARD OF 'slabyardlaw1.SlabApart'. -/
def slabApartCard : Claim7 := { stood := { row := slabApartRow, standIns := [], harness := (true, "46a14cded544304caee8a71b6e9fc2a7a035528a776376d741b97622495c9eac"), looks := true }, kinds := [], alts := [], laidByText := true, laidKinds := [.data, .handle, .sentinel, .sentinel, .sentinel, .sentinel, .sentinel, .sentinel, .sentinel, .sentinel, .sentinel, .sentinel], laidTests := true, laidLooks := .later }
def SlabApartCardSaid : Prop := Claim7.holds Tryz.pinned (.plain (OpenSpec.ofChange slabApartSpec)) slabApartCard

/-- THE TIED CARD OF 'slabyardlaw1.SlabFull'. -/
def slabFullCard : Claim7 := { stood := { row := slabFullRow, standIns := [], harness := (true, "46a14cded544304caee8a71b6e9fc2a7a035528a776376d741b97622495c9eac"), looks := true }, kinds := [], alts := [], laidByText := true, laidKinds := [.data, .handle, .sentinel, .sentinel, .sentinel, .sentinel, .sentinel, .sentinel, .sentinel, .sentinel, .sentinel, .sentinel], laidTests := true, laidLooks := .later }
def SlabFullCardSaid : Prop := Claim7.holds Tryz.pinned (.plain (OpenSpec.ofChange slabFullSpec)) slabFullCard

/-- THE TIED CARD OF 'slabyardlaw1.SlabActs'. -/
def slabActsCard : Claim7 := { stood := { row := slabActsRow, standIns := [], harness := (true, "46a14cded544304caee8a71b6e9fc2a7a035528a776376d741b97622495c9eac"), looks := true }, kinds := [], alts := [], laidByText := true, laidKinds := [.data, .handle, .sentinel, .sentinel, .sentinel, .sentinel, .sentinel, .sentinel, .sentinel, .sentinel, .sentinel, .sentinel], laidTests := true, laidLooks := .later }
def SlabActsCardSaid : Prop := Claim7.holds Tryz.pinned (.plain (OpenSpec.ofChange slabActsSpec)) slabActsCard

/-- THE TIED CARD OF 'slabyardlaw1.MagazineOut'. -/
def magazineOutCard : Claim7 := { stood := { row := magazineOutRow, standIns := [], harness := (true, "46a14cded544304caee8a71b6e9fc2a7a035528a776376d741b97622495c9eac"), looks := true }, kinds := [], alts := [], laidByText := true, laidKinds := [.data, .handle, .sentinel, .sentinel, .sentinel, .sentinel, .sentinel, .sentinel, .sentinel, .sentinel, .sentinel, .sentinel], laidTests := true, laidLooks := .later }
def MagazineOutCardSaid : Prop := Claim7.holds Tryz.pinned (.plain (OpenSpec.ofChange magazineOutSpec)) magazineOutCard

/-- THE TIED CARD OF 'slabyardlaw1.MagazineLast'. -/
def magazineLastCard : Claim7 := { stood := { row := magazineLastRow, standIns := [], harness := (true, "46a14cded544304caee8a71b6e9fc2a7a035528a776376d741b97622495c9eac"), looks := true }, kinds := [], alts := [], laidByText := true, laidKinds := [.data, .sentinel, .sentinel, .sentinel, .sentinel, .sentinel, .sentinel], laidTests := true, laidLooks := .later }
def MagazineLastCardSaid : Prop := Claim7.holds Tryz.pinned (.plain (OpenSpec.ofChange magazineLastSpec)) magazineLastCard

/-- THE TIED CARD OF 'slabyardlaw1.MagazineActs'. -/
def magazineActsCard : Claim7 := { stood := { row := magazineActsRow, standIns := [], harness := (true, "46a14cded544304caee8a71b6e9fc2a7a035528a776376d741b97622495c9eac"), looks := true }, kinds := [], alts := [], laidByText := true, laidKinds := [.data, .handle, .sentinel, .sentinel, .sentinel, .sentinel, .sentinel, .sentinel, .sentinel, .sentinel, .sentinel, .sentinel], laidTests := true, laidLooks := .later }
def MagazineActsCardSaid : Prop := Claim7.holds Tryz.pinned (.plain (OpenSpec.ofChange magazineActsSpec)) magazineActsCard

/-- THE SECOND FORM's CARD OF 'slabyardlaw1.SlabApart'. -/
def slabApartUptoCard : Claim7 := { stood := { row := slabApartUptoRow, standIns := [], harness := (true, "46a14cded544304caee8a71b6e9fc2a7a035528a776376d741b97622495c9eac"), looks := true }, kinds := [], alts := [], laidByText := true, laidKinds := [.data, .handle, .sentinel, .sentinel, .sentinel, .sentinel, .sentinel, .sentinel, .sentinel, .sentinel, .sentinel, .sentinel], laidTests := true, laidLooks := .later }
def SlabApartUptoCardSaid : Prop := Claim7.holds Tryz.pinned (.plain (OpenSpec.upto slabApartSpec)) slabApartUptoCard

/-- THE SECOND FORM's CARD OF 'slabyardlaw1.SlabFull'. -/
def slabFullUptoCard : Claim7 := { stood := { row := slabFullUptoRow, standIns := [], harness := (true, "46a14cded544304caee8a71b6e9fc2a7a035528a776376d741b97622495c9eac"), looks := true }, kinds := [], alts := [], laidByText := true, laidKinds := [.data, .handle, .sentinel, .sentinel, .sentinel, .sentinel, .sentinel, .sentinel, .sentinel, .sentinel, .sentinel, .sentinel], laidTests := true, laidLooks := .later }
def SlabFullUptoCardSaid : Prop := Claim7.holds Tryz.pinned (.plain (OpenSpec.upto slabFullSpec)) slabFullUptoCard

/-- THE SECOND FORM's CARD OF 'slabyardlaw1.SlabActs'. -/
def slabActsUptoCard : Claim7 := { stood := { row := slabActsUptoRow, standIns := [], harness := (true, "46a14cded544304caee8a71b6e9fc2a7a035528a776376d741b97622495c9eac"), looks := true }, kinds := [], alts := [], laidByText := true, laidKinds := [.data, .handle, .sentinel, .sentinel, .sentinel, .sentinel, .sentinel, .sentinel, .sentinel, .sentinel, .sentinel, .sentinel], laidTests := true, laidLooks := .later }
def SlabActsUptoCardSaid : Prop := Claim7.holds Tryz.pinned (.plain (OpenSpec.upto slabActsSpec)) slabActsUptoCard

/-- THE SECOND FORM's CARD OF 'slabyardlaw1.MagazineOut'. -/
def magazineOutUptoCard : Claim7 := { stood := { row := magazineOutUptoRow, standIns := [], harness := (true, "46a14cded544304caee8a71b6e9fc2a7a035528a776376d741b97622495c9eac"), looks := true }, kinds := [], alts := [], laidByText := true, laidKinds := [.data, .handle, .sentinel, .sentinel, .sentinel, .sentinel, .sentinel, .sentinel, .sentinel, .sentinel, .sentinel, .sentinel], laidTests := true, laidLooks := .later }
def MagazineOutUptoCardSaid : Prop := Claim7.holds Tryz.pinned (.plain (OpenSpec.upto magazineOutSpec)) magazineOutUptoCard

/-- THE SECOND FORM's CARD OF 'slabyardlaw1.MagazineLast'. -/
def magazineLastUptoCard : Claim7 := { stood := { row := magazineLastUptoRow, standIns := [], harness := (true, "46a14cded544304caee8a71b6e9fc2a7a035528a776376d741b97622495c9eac"), looks := true }, kinds := [], alts := [], laidByText := true, laidKinds := [.data, .sentinel, .sentinel, .sentinel, .sentinel, .sentinel, .sentinel], laidTests := true, laidLooks := .later }
def MagazineLastUptoCardSaid : Prop := Claim7.holds Tryz.pinned (.plain (OpenSpec.upto magazineLastSpec)) magazineLastUptoCard

/-- THE SECOND FORM's CARD OF 'slabyardlaw1.MagazineActs'. -/
def magazineActsUptoCard : Claim7 := { stood := { row := magazineActsUptoRow, standIns := [], harness := (true, "46a14cded544304caee8a71b6e9fc2a7a035528a776376d741b97622495c9eac"), looks := true }, kinds := [], alts := [], laidByText := true, laidKinds := [.data, .handle, .sentinel, .sentinel, .sentinel, .sentinel, .sentinel, .sentinel, .sentinel, .sentinel, .sentinel, .sentinel], laidTests := true, laidLooks := .later }
def MagazineActsUptoCardSaid : Prop := Claim7.holds Tryz.pinned (.plain (OpenSpec.upto magazineActsSpec)) magazineActsUptoCard
end Rows
end Go.Proofs.YtfefehkapffljaaGreatDoor
