/-
  DERIVED. GIVEN WITH THE SEED: THE CARDS: each row of YtkhiookiibjklaaDoorRows.lean that lists a variable, with what it lists TIED to the program's text (the seventh form; the later family's looks); each row that meets fmt, with fmt's text TOLD by the authors' own Lean function (tested against real Go, not proved from fmt's source: count such statements apart). THE CARD IS WHAT COUNTS. Prove the row's statement (the work); the ties are given (YtkhiookiibjklaaDoorTie.lean); close each card by the builder's one call (the guide's Derived/Test/ToyasCard.lean, 'card_holds'). Laid BY PROGRAM, IN A SANDBOX (cutbox-door.mjs). By AI agents, Wed Nov 11 2026. No macro, syntax, notation, axiom, sorry.
-/
import Derived.Test.YtkhiookiibjklaaDoorRows
import GoSem.ClaimSeven
namespace Go.Proofs.YtkhiookiibjklaaDoor
namespace Rows

/-- THE TIED CARD OF 'lecternlaw9.SumExact'. -/
def sumExactCard : Claim7 := { stood := { row := sumExactRow, standIns := [], harness := (true, "5685755cc6a0eb03542d0d3ffaba2b2d41c4173b44a74bf4f77207af575a3a69"), looks := false }, kinds := [], alts := [], laidByText := true, laidKinds := [.data], laidTests := true, laidLooks := .later }
def SumExactCardSaid : Prop := Claim7.holds Tryd.pinned (.plain (OpenSpec.ofChange sumExactSpec)) sumExactCard

/-- THE TIED CARD OF 'lecternlaw9.SumParts'. -/
def sumPartsCard : Claim7 := { stood := { row := sumPartsRow, standIns := [], harness := (true, "5685755cc6a0eb03542d0d3ffaba2b2d41c4173b44a74bf4f77207af575a3a69"), looks := false }, kinds := [], alts := [], laidByText := true, laidKinds := [.data], laidTests := true, laidLooks := .later }
def SumPartsCardSaid : Prop := Claim7.holds Tryd.pinned (.plain (OpenSpec.ofChange sumPartsSpec)) sumPartsCard

/-- THE TIED CARD OF 'lecternlaw9.SumOnes'. -/
def sumOnesCard : Claim7 := { stood := { row := sumOnesRow, standIns := [], harness := (true, "5685755cc6a0eb03542d0d3ffaba2b2d41c4173b44a74bf4f77207af575a3a69"), looks := false }, kinds := [], alts := [], laidByText := true, laidKinds := [.data], laidTests := true, laidLooks := .later }
def SumOnesCardSaid : Prop := Claim7.holds Tryd.pinned (.plain (OpenSpec.ofChange sumOnesSpec)) sumOnesCard

/-- THE SECOND FORM's CARD OF 'lecternlaw9.SumExact'. -/
def sumExactUptoCard : Claim7 := { stood := { row := sumExactUptoRow, standIns := [], harness := (true, "5685755cc6a0eb03542d0d3ffaba2b2d41c4173b44a74bf4f77207af575a3a69"), looks := false }, kinds := [], alts := [], laidByText := true, laidKinds := [.data], laidTests := true, laidLooks := .later }
def SumExactUptoCardSaid : Prop := Claim7.holds Tryd.pinned (.plain (OpenSpec.upto sumExactSpec)) sumExactUptoCard

/-- THE SECOND FORM's CARD OF 'lecternlaw9.SumParts'. -/
def sumPartsUptoCard : Claim7 := { stood := { row := sumPartsUptoRow, standIns := [], harness := (true, "5685755cc6a0eb03542d0d3ffaba2b2d41c4173b44a74bf4f77207af575a3a69"), looks := false }, kinds := [], alts := [], laidByText := true, laidKinds := [.data], laidTests := true, laidLooks := .later }
def SumPartsUptoCardSaid : Prop := Claim7.holds Tryd.pinned (.plain (OpenSpec.upto sumPartsSpec)) sumPartsUptoCard

/-- THE SECOND FORM's CARD OF 'lecternlaw9.SumOnes'. -/
def sumOnesUptoCard : Claim7 := { stood := { row := sumOnesUptoRow, standIns := [], harness := (true, "5685755cc6a0eb03542d0d3ffaba2b2d41c4173b44a74bf4f77207af575a3a69"), looks := false }, kinds := [], alts := [], laidByText := true, laidKinds := [.data], laidTests := true, laidLooks := .later }
def SumOnesUptoCardSaid : Prop := Claim7.holds Tryd.pinned (.plain (OpenSpec.upto sumOnesSpec)) sumOnesUptoCard
end Rows
end Go.Proofs.YtkhiookiibjklaaDoor
