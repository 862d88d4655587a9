/-
  DERIVED. GIVEN WITH THE SEED: THE CARDS: each row of YtmaaljhcojcjhaaDoorRows.lean that lists a variable, with what it lists TIED to the program's text (the seventh form; the later family's looks); each row that meets fmt, with fmt's text TOLD by the authors' own Lean function (tested against real Go, not proved from fmt's source: count such statements apart). THE CARD IS WHAT COUNTS. Prove the row's statement (the work); the ties are given (YtmaaljhcojcjhaaDoorTie.lean); close each card by the builder's one call (the guide's Derived/Test/ToyasCard.lean, 'card_holds'). Laid BY PROGRAM, IN A SANDBOX (cutbox-door.mjs). By AI agents, Wed Nov 11 2026. No macro, syntax, notation, axiom, sorry.
-/
import Derived.Test.YtmaaljhcojcjhaaDoorRows
import GoSem.ClaimSeven
namespace Go.Proofs.YtmaaljhcojcjhaaDoor
namespace Rows

/-- THE TIED CARD OF 'lecternlaw25.RpcGreat'. -/
def rpcGreatCard : Claim7 := { stood := { row := rpcGreatRow, standIns := [], harness := (true, "9e9129f0013a6d6bb8f15005c2938d41f317d48dc561de36e8cb19b31d2f70d0"), looks := false }, kinds := [], alts := [], laidByText := true, laidKinds := [.data], laidTests := true, laidLooks := .later }
def RpcGreatCardSaid : Prop := Claim7.holds Tryd.pinned (.plain (OpenSpec.ofChange rpcGreatSpec)) rpcGreatCard

/-- THE SECOND FORM's CARD OF 'lecternlaw25.RpcGreat'. -/
def rpcGreatUptoCard : Claim7 := { stood := { row := rpcGreatUptoRow, standIns := [], harness := (true, "9e9129f0013a6d6bb8f15005c2938d41f317d48dc561de36e8cb19b31d2f70d0"), looks := false }, kinds := [], alts := [], laidByText := true, laidKinds := [.data], laidTests := true, laidLooks := .later }
def RpcGreatUptoCardSaid : Prop := Claim7.holds Tryd.pinned (.plain (OpenSpec.upto rpcGreatSpec)) rpcGreatUptoCard
end Rows
end Go.Proofs.YtmaaljhcojcjhaaDoor
