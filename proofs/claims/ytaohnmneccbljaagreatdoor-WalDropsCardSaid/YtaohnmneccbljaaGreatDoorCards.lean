/-
  DERIVED. GIVEN WITH THE SEED: THE CARDS: each row of YtaohnmneccbljaaGreatDoorRows.lean that lists a variable, with what it lists TIED to the program's text (the seventh form; the later family's looks); each row that meets fmt, with fmt's text TOLD by the authors' own Lean function (tested against real Go, not proved from fmt's source: count such statements apart). THE CARD IS WHAT COUNTS. Prove the row's statement (the work); the ties are given (YtaohnmneccbljaaGreatDoorTie.lean); close each card by the builder's one call (the guide's Derived/Test/ToyasCard.lean, 'card_holds'). Laid BY PROGRAM, IN A SANDBOX (cutbox-door.mjs). By AI agents, Wed Nov 11 2026. No macro, syntax, notation, axiom, sorry.
-/
import Derived.Test.YtaohnmneccbljaaGreatDoorRows
import GoSem.ClaimSeven
namespace Go.Proofs.YtaohnmneccbljaaGreatDoor
namespace Rows

/-- THE TIED CARD OF 'lecternlaw19.WalModel'. -/
def walModelCard : Claim7 := { stood := { row := walModelRow, standIns := [], harness := (true, "3f01a9cb077038520573d493c1858b2178fd76f06212037b0e3ec56634044546"), looks := true }, kinds := [], alts := [], laidByText := true, laidKinds := [.data, .data, .data, .data, .sentinel, .sentinel], laidTests := true, laidLooks := .later }
def WalModelCardSaid : Prop := Claim7.holds Tryz.pinned (.plain (OpenSpec.ofChange walModelSpec)) walModelCard

/-- THE TIED CARD OF 'lecternlaw19.WalDrops'. -/
def walDropsCard : Claim7 := { stood := { row := walDropsRow, standIns := [], harness := (true, "3f01a9cb077038520573d493c1858b2178fd76f06212037b0e3ec56634044546"), looks := true }, kinds := [], alts := [], laidByText := true, laidKinds := [.data, .data, .data, .data, .sentinel, .sentinel], laidTests := true, laidLooks := .later }
def WalDropsCardSaid : Prop := Claim7.holds Tryz.pinned (.plain (OpenSpec.ofChange walDropsSpec)) walDropsCard

/-- THE SECOND FORM's CARD OF 'lecternlaw19.WalModel'. -/
def walModelUptoCard : Claim7 := { stood := { row := walModelUptoRow, standIns := [], harness := (true, "3f01a9cb077038520573d493c1858b2178fd76f06212037b0e3ec56634044546"), looks := true }, kinds := [], alts := [], laidByText := true, laidKinds := [.data, .data, .data, .data, .sentinel, .sentinel], laidTests := true, laidLooks := .later }
def WalModelUptoCardSaid : Prop := Claim7.holds Tryz.pinned (.plain (OpenSpec.upto walModelSpec)) walModelUptoCard

/-- THE SECOND FORM's CARD OF 'lecternlaw19.WalDrops'. -/
def walDropsUptoCard : Claim7 := { stood := { row := walDropsUptoRow, standIns := [], harness := (true, "3f01a9cb077038520573d493c1858b2178fd76f06212037b0e3ec56634044546"), looks := true }, kinds := [], alts := [], laidByText := true, laidKinds := [.data, .data, .data, .data, .sentinel, .sentinel], laidTests := true, laidLooks := .later }
def WalDropsUptoCardSaid : Prop := Claim7.holds Tryz.pinned (.plain (OpenSpec.upto walDropsSpec)) walDropsUptoCard
end Rows
end Go.Proofs.YtaohnmneccbljaaGreatDoor
