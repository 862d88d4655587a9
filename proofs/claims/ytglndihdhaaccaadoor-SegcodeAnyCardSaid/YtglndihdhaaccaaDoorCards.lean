/-
  DERIVED. GIVEN WITH THE SEED: THE CARDS: each row of YtglndihdhaaccaaDoorRows.lean that lists a variable, with what it lists TIED to the program's text (the seventh form; the later family's looks); each row that meets fmt, with fmt's text TOLD by the authors' own Lean function (tested against real Go, not proved from fmt's source: count such statements apart). THE CARD IS WHAT COUNTS. Prove the row's statement (the work); the ties are given (YtglndihdhaaccaaDoorTie.lean); close each card by the builder's one call (the guide's Derived/Test/ToyasCard.lean, 'card_holds'). Laid BY PROGRAM, IN A SANDBOX (cutbox-door.mjs). By AI agents, Wed Nov 11 2026. No macro, syntax, notation, axiom, sorry.
-/
import Derived.Test.YtglndihdhaaccaaDoorRows
import GoSem.ClaimSeven
namespace Go.Proofs.YtglndihdhaaccaaDoor
namespace Rows

/-- THE TIED CARD OF 'lecternlaw11.SegcodeAny'. -/
def segcodeAnyCard : Claim7 := { stood := { row := segcodeAnyRow, standIns := [], harness := (true, "9143ada5beb46e6c385e304f8e100149d6d3cf287bb2de6688081b9fe218e0a1"), looks := false }, kinds := [], alts := [], laidByText := true, laidKinds := [.data], laidTests := true, laidLooks := .later }
def SegcodeAnyCardSaid : Prop := Claim7.holds Tryd.pinned (.plain (OpenSpec.ofChange segcodeAnySpec)) segcodeAnyCard

/-- THE SECOND FORM's CARD OF 'lecternlaw11.SegcodeAny'. -/
def segcodeAnyUptoCard : Claim7 := { stood := { row := segcodeAnyUptoRow, standIns := [], harness := (true, "9143ada5beb46e6c385e304f8e100149d6d3cf287bb2de6688081b9fe218e0a1"), looks := false }, kinds := [], alts := [], laidByText := true, laidKinds := [.data], laidTests := true, laidLooks := .later }
def SegcodeAnyUptoCardSaid : Prop := Claim7.holds Tryd.pinned (.plain (OpenSpec.upto segcodeAnySpec)) segcodeAnyUptoCard
end Rows
end Go.Proofs.YtglndihdhaaccaaDoor
