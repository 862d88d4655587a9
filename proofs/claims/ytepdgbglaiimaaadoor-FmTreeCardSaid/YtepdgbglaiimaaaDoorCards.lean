/-
  DERIVED. GIVEN WITH THE SEED: THE CARDS: each row of YtepdgbglaiimaaaDoorRows.lean that lists a variable, with what it lists TIED to the program's text (the seventh form; the later family's looks); each row that meets fmt, with fmt's text TOLD by the authors' own Lean function (tested against real Go, not proved from fmt's source: count such statements apart). THE CARD IS WHAT COUNTS. Prove the row's statement (the work); the ties are given (YtepdgbglaiimaaaDoorTie.lean); close each card by the builder's one call (the guide's Derived/Test/ToyasCard.lean, 'card_holds'). Laid BY PROGRAM, IN A SANDBOX (cutbox-door.mjs). By AI agents, Wed Nov 11 2026. No macro, syntax, notation, axiom, sorry.
-/
import Derived.Test.YtepdgbglaiimaaaDoorRows
import GoSem.ClaimSeven
namespace Go.Proofs.YtepdgbglaiimaaaDoor
namespace Rows

/-- THE TIED CARD OF 'lecternlaw6.FmTree'. -/
def fmTreeCard : Claim7 := { stood := { row := fmTreeRow, standIns := [], harness := (true, "d2684f750da69491de95555efc90095a860af46421d6007f148834bb6d1dca7e"), looks := false }, kinds := [], alts := [], laidByText := true, laidKinds := [.data], laidTests := true, laidLooks := .later }
def FmTreeCardSaid : Prop := Claim7.holds Tryd.pinned (.plain (OpenSpec.ofChange fmTreeSpec)) fmTreeCard

/-- THE SECOND FORM's CARD OF 'lecternlaw6.FmTree'. -/
def fmTreeUptoCard : Claim7 := { stood := { row := fmTreeUptoRow, standIns := [], harness := (true, "d2684f750da69491de95555efc90095a860af46421d6007f148834bb6d1dca7e"), looks := false }, kinds := [], alts := [], laidByText := true, laidKinds := [.data], laidTests := true, laidLooks := .later }
def FmTreeUptoCardSaid : Prop := Claim7.holds Tryd.pinned (.plain (OpenSpec.upto fmTreeSpec)) fmTreeUptoCard
end Rows
end Go.Proofs.YtepdgbglaiimaaaDoor
