/-
  DERIVED. GIVEN WITH THE SEED: THE CARDS: each row of YtmiclfhpenjjfaaDoorRows.lean that lists a variable, with what it lists TIED to the program's text (the seventh form; the later family's looks); each row that meets fmt, with fmt's text TOLD by the authors' own Lean function (tested against real Go, not proved from fmt's source: count such statements apart). THE CARD IS WHAT COUNTS. Prove the row's statement (the work); the ties are given (YtmiclfhpenjjfaaDoorTie.lean); close each card by the builder's one call (the guide's Derived/Test/ToyasCard.lean, 'card_holds'). Laid BY PROGRAM, IN A SANDBOX (cutbox-door.mjs). By AI agents, Wed Nov 11 2026. No macro, syntax, notation, axiom, sorry.
-/
import Derived.Test.YtmiclfhpenjjfaaDoorRows
import GoSem.ClaimSeven
namespace Go.Proofs.YtmiclfhpenjjfaaDoor
namespace Rows

/-- THE TIED CARD OF 'lecternlaw3.WaveletSelects'. -/
def waveletSelectsCard : Claim7 := { stood := { row := waveletSelectsRow, standIns := [], harness := (true, "6cd19f86bbf6b3cb3c9720df1a834bbc16c848ff4a08d4c14406a8ab0adeac67"), looks := false }, kinds := [], alts := [], laidByText := true, laidKinds := [.data], laidTests := true, laidLooks := .later }
def WaveletSelectsCardSaid : Prop := Claim7.holds Tryd.pinned (.plain (OpenSpec.ofChange waveletSelectsSpec)) waveletSelectsCard

/-- THE TIED CARD OF 'lecternlaw3.WaveletBack'. -/
def waveletBackCard : Claim7 := { stood := { row := waveletBackRow, standIns := [], harness := (true, "6cd19f86bbf6b3cb3c9720df1a834bbc16c848ff4a08d4c14406a8ab0adeac67"), looks := false }, kinds := [], alts := [], laidByText := true, laidKinds := [.data], laidTests := true, laidLooks := .later }
def WaveletBackCardSaid : Prop := Claim7.holds Tryd.pinned (.plain (OpenSpec.ofChange waveletBackSpec)) waveletBackCard

/-- THE TIED CARD OF 'lecternlaw3.WaveletOne'. -/
def waveletOneCard : Claim7 := { stood := { row := waveletOneRow, standIns := [], harness := (true, "6cd19f86bbf6b3cb3c9720df1a834bbc16c848ff4a08d4c14406a8ab0adeac67"), looks := false }, kinds := [], alts := [], laidByText := true, laidKinds := [.data], laidTests := true, laidLooks := .later }
def WaveletOneCardSaid : Prop := Claim7.holds Tryd.pinned (.plain (OpenSpec.ofChange waveletOneSpec)) waveletOneCard

/-- THE SECOND FORM's CARD OF 'lecternlaw3.WaveletSelects'. -/
def waveletSelectsUptoCard : Claim7 := { stood := { row := waveletSelectsUptoRow, standIns := [], harness := (true, "6cd19f86bbf6b3cb3c9720df1a834bbc16c848ff4a08d4c14406a8ab0adeac67"), looks := false }, kinds := [], alts := [], laidByText := true, laidKinds := [.data], laidTests := true, laidLooks := .later }
def WaveletSelectsUptoCardSaid : Prop := Claim7.holds Tryd.pinned (.plain (OpenSpec.upto waveletSelectsSpec)) waveletSelectsUptoCard

/-- THE SECOND FORM's CARD OF 'lecternlaw3.WaveletBack'. -/
def waveletBackUptoCard : Claim7 := { stood := { row := waveletBackUptoRow, standIns := [], harness := (true, "6cd19f86bbf6b3cb3c9720df1a834bbc16c848ff4a08d4c14406a8ab0adeac67"), looks := false }, kinds := [], alts := [], laidByText := true, laidKinds := [.data], laidTests := true, laidLooks := .later }
def WaveletBackUptoCardSaid : Prop := Claim7.holds Tryd.pinned (.plain (OpenSpec.upto waveletBackSpec)) waveletBackUptoCard

/-- THE SECOND FORM's CARD OF 'lecternlaw3.WaveletOne'. -/
def waveletOneUptoCard : Claim7 := { stood := { row := waveletOneUptoRow, standIns := [], harness := (true, "6cd19f86bbf6b3cb3c9720df1a834bbc16c848ff4a08d4c14406a8ab0adeac67"), looks := false }, kinds := [], alts := [], laidByText := true, laidKinds := [.data], laidTests := true, laidLooks := .later }
def WaveletOneUptoCardSaid : Prop := Claim7.holds Tryd.pinned (.plain (OpenSpec.upto waveletOneSpec)) waveletOneUptoCard
end Rows
end Go.Proofs.YtmiclfhpenjjfaaDoor
