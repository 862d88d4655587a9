/-
  DERIVED. GIVEN WITH THE SEED: THE CARDS: each row of YtmjppicoffbdcaaDoorRows.lean that lists a variable, with what it lists TIED to the program's text (the seventh form; the later family's looks); each row that meets fmt, with fmt's text TOLD by the authors' own Lean function (tested against real Go, not proved from fmt's source: count such statements apart). THE CARD IS WHAT COUNTS. Prove the row's statement (the work); the ties are given (YtmjppicoffbdcaaDoorTie.lean); close each card by the builder's one call (the guide's Derived/Test/ToyasCard.lean, 'card_holds'). Laid BY PROGRAM, IN A SANDBOX (cutbox-door.mjs). By AI agents, Wed Nov 11 2026. No macro, syntax, notation, axiom, sorry.
-/
import Derived.Test.YtmjppicoffbdcaaDoorRows
import GoSem.ClaimSeven
namespace Go.Proofs.YtmjppicoffbdcaaDoor
namespace Rows

/-- THE TIED CARD OF 'lecternlaw1.BitsSelects'. -/
def bitsSelectsCard : Claim7 := { stood := { row := bitsSelectsRow, standIns := [], harness := (true, "34a56002e5e52ac5db758c885e38e55640591f3836411509f86dbdf0ed1bffaf"), looks := false }, kinds := [], alts := [], laidByText := true, laidKinds := [.data], laidTests := true, laidLooks := .later }
def BitsSelectsCardSaid : Prop := Claim7.holds Tryd.pinned (.plain (OpenSpec.ofChange bitsSelectsSpec)) bitsSelectsCard

/-- THE TIED CARD OF 'lecternlaw1.BitsBack'. -/
def bitsBackCard : Claim7 := { stood := { row := bitsBackRow, standIns := [], harness := (true, "34a56002e5e52ac5db758c885e38e55640591f3836411509f86dbdf0ed1bffaf"), looks := false }, kinds := [], alts := [], laidByText := true, laidKinds := [.data], laidTests := true, laidLooks := .later }
def BitsBackCardSaid : Prop := Claim7.holds Tryd.pinned (.plain (OpenSpec.ofChange bitsBackSpec)) bitsBackCard

/-- THE TIED CARD OF 'lecternlaw1.BitsRuns'. -/
def bitsRunsCard : Claim7 := { stood := { row := bitsRunsRow, standIns := [], harness := (true, "34a56002e5e52ac5db758c885e38e55640591f3836411509f86dbdf0ed1bffaf"), looks := false }, kinds := [], alts := [], laidByText := true, laidKinds := [.data], laidTests := true, laidLooks := .later }
def BitsRunsCardSaid : Prop := Claim7.holds Tryd.pinned (.plain (OpenSpec.ofChange bitsRunsSpec)) bitsRunsCard

/-- THE SECOND FORM's CARD OF 'lecternlaw1.BitsSelects'. -/
def bitsSelectsUptoCard : Claim7 := { stood := { row := bitsSelectsUptoRow, standIns := [], harness := (true, "34a56002e5e52ac5db758c885e38e55640591f3836411509f86dbdf0ed1bffaf"), looks := false }, kinds := [], alts := [], laidByText := true, laidKinds := [.data], laidTests := true, laidLooks := .later }
def BitsSelectsUptoCardSaid : Prop := Claim7.holds Tryd.pinned (.plain (OpenSpec.upto bitsSelectsSpec)) bitsSelectsUptoCard

/-- THE SECOND FORM's CARD OF 'lecternlaw1.BitsBack'. -/
def bitsBackUptoCard : Claim7 := { stood := { row := bitsBackUptoRow, standIns := [], harness := (true, "34a56002e5e52ac5db758c885e38e55640591f3836411509f86dbdf0ed1bffaf"), looks := false }, kinds := [], alts := [], laidByText := true, laidKinds := [.data], laidTests := true, laidLooks := .later }
def BitsBackUptoCardSaid : Prop := Claim7.holds Tryd.pinned (.plain (OpenSpec.upto bitsBackSpec)) bitsBackUptoCard

/-- THE SECOND FORM's CARD OF 'lecternlaw1.BitsRuns'. -/
def bitsRunsUptoCard : Claim7 := { stood := { row := bitsRunsUptoRow, standIns := [], harness := (true, "34a56002e5e52ac5db758c885e38e55640591f3836411509f86dbdf0ed1bffaf"), looks := false }, kinds := [], alts := [], laidByText := true, laidKinds := [.data], laidTests := true, laidLooks := .later }
def BitsRunsUptoCardSaid : Prop := Claim7.holds Tryd.pinned (.plain (OpenSpec.upto bitsRunsSpec)) bitsRunsUptoCard
end Rows
end Go.Proofs.YtmjppicoffbdcaaDoor
