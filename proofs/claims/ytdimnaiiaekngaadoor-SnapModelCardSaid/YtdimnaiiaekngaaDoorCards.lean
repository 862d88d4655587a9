/-
  DERIVED. GIVEN WITH THE SEED: THE CARDS: each row of YtdimnaiiaekngaaDoorRows.lean that lists a variable, with what it lists TIED to the program's text (the seventh form; the later family's looks); each row that meets fmt, with fmt's text TOLD by the authors' own Lean function (tested against real Go, not proved from fmt's source: count such statements apart). THE CARD IS WHAT COUNTS. Prove the row's statement (the work); the ties are given (YtdimnaiiaekngaaDoorTie.lean); close each card by the builder's one call (the guide's Derived/Test/ToyasCard.lean, 'card_holds'). Laid BY PROGRAM, IN A SANDBOX (cutbox-door.mjs). By AI agents, Wed Nov 11 2026. No macro, syntax, notation, axiom, sorry.
-/
import Derived.Test.YtdimnaiiaekngaaDoorRows
import GoSem.ClaimSeven
namespace Go.Proofs.YtdimnaiiaekngaaDoor
namespace Rows

/-- THE TIED CARD OF 'lecternlaw20.SnapModel'. -/
def snapModelCard : Claim7 := { stood := { row := snapModelRow, standIns := [], harness := (true, "d5704138a20f9d52d040d8fadb1fb8e9ca046b7d8556e8ad6c961ec82b8285e6"), looks := false }, kinds := [], alts := [], laidByText := true, laidKinds := [.data], laidTests := true, laidLooks := .later }
def SnapModelCardSaid : Prop := Claim7.holds Tryd.pinned (.plain (OpenSpec.ofChange snapModelSpec)) snapModelCard

/-- THE TIED CARD OF 'lecternlaw20.SnapVotes'. -/
def snapVotesCard : Claim7 := { stood := { row := snapVotesRow, standIns := [], harness := (true, "d5704138a20f9d52d040d8fadb1fb8e9ca046b7d8556e8ad6c961ec82b8285e6"), looks := false }, kinds := [], alts := [], laidByText := true, laidKinds := [.data], laidTests := true, laidLooks := .later }
def SnapVotesCardSaid : Prop := Claim7.holds Tryd.pinned (.plain (OpenSpec.ofChange snapVotesSpec)) snapVotesCard

/-- THE SECOND FORM's CARD OF 'lecternlaw20.SnapModel'. -/
def snapModelUptoCard : Claim7 := { stood := { row := snapModelUptoRow, standIns := [], harness := (true, "d5704138a20f9d52d040d8fadb1fb8e9ca046b7d8556e8ad6c961ec82b8285e6"), looks := false }, kinds := [], alts := [], laidByText := true, laidKinds := [.data], laidTests := true, laidLooks := .later }
def SnapModelUptoCardSaid : Prop := Claim7.holds Tryd.pinned (.plain (OpenSpec.upto snapModelSpec)) snapModelUptoCard

/-- THE SECOND FORM's CARD OF 'lecternlaw20.SnapVotes'. -/
def snapVotesUptoCard : Claim7 := { stood := { row := snapVotesUptoRow, standIns := [], harness := (true, "d5704138a20f9d52d040d8fadb1fb8e9ca046b7d8556e8ad6c961ec82b8285e6"), looks := false }, kinds := [], alts := [], laidByText := true, laidKinds := [.data], laidTests := true, laidLooks := .later }
def SnapVotesUptoCardSaid : Prop := Claim7.holds Tryd.pinned (.plain (OpenSpec.upto snapVotesSpec)) snapVotesUptoCard
end Rows
end Go.Proofs.YtdimnaiiaekngaaDoor
