/-
  DERIVED. GIVEN WITH THE SEED: THE CARDS: each row of YtjliefglelcooaaDoorRows.lean that lists a variable, with what it lists TIED to the program's text (the seventh form; the later family's looks); each row that meets fmt, with fmt's text TOLD by the authors' own Lean function (tested against real Go, not proved from fmt's source: count such statements apart). THE CARD IS WHAT COUNTS. Prove the row's statement (the work); the ties are given (YtjliefglelcooaaDoorTie.lean); close each card by the builder's one call (the guide's Derived/Test/ToyasCard.lean, 'card_holds'). Laid BY PROGRAM, IN A SANDBOX (cutbox-door.mjs). By AI agents, Wed Nov 11 2026. No macro, syntax, notation, axiom, sorry.
-/
import Derived.Test.YtjliefglelcooaaDoorRows
import GoSem.ClaimSeven
namespace Go.Proofs.YtjliefglelcooaaDoor
namespace Rows

/-- THE TIED CARD OF 'lecternlaw25.RpcAny'. -/
def rpcAnyCard : Claim7 := { stood := { row := rpcAnyRow, standIns := [], harness := (true, "8128c8c692743f66dda468da91aa9e98c124a97fe1665d18f8ef61e2555e0bb9"), looks := false }, kinds := [], alts := [], laidByText := true, laidKinds := [.data], laidTests := true, laidLooks := .later }
def RpcAnyCardSaid : Prop := Claim7.holds Tryd.pinned (.plain (OpenSpec.ofChange rpcAnySpec)) rpcAnyCard

/-- THE TIED CARD OF 'lecternlaw25.RpcGreat'. -/
def rpcGreatCard : Claim7 := { stood := { row := rpcGreatRow, standIns := [], harness := (true, "8128c8c692743f66dda468da91aa9e98c124a97fe1665d18f8ef61e2555e0bb9"), looks := false }, kinds := [], alts := [], laidByText := true, laidKinds := [.data], laidTests := true, laidLooks := .later }
def RpcGreatCardSaid : Prop := Claim7.holds Tryd.pinned (.plain (OpenSpec.ofChange rpcGreatSpec)) rpcGreatCard

/-- THE SECOND FORM's CARD OF 'lecternlaw25.RpcAny'. -/
def rpcAnyUptoCard : Claim7 := { stood := { row := rpcAnyUptoRow, standIns := [], harness := (true, "8128c8c692743f66dda468da91aa9e98c124a97fe1665d18f8ef61e2555e0bb9"), looks := false }, kinds := [], alts := [], laidByText := true, laidKinds := [.data], laidTests := true, laidLooks := .later }
def RpcAnyUptoCardSaid : Prop := Claim7.holds Tryd.pinned (.plain (OpenSpec.upto rpcAnySpec)) rpcAnyUptoCard

/-- THE SECOND FORM's CARD OF 'lecternlaw25.RpcGreat'. -/
def rpcGreatUptoCard : Claim7 := { stood := { row := rpcGreatUptoRow, standIns := [], harness := (true, "8128c8c692743f66dda468da91aa9e98c124a97fe1665d18f8ef61e2555e0bb9"), looks := false }, kinds := [], alts := [], laidByText := true, laidKinds := [.data], laidTests := true, laidLooks := .later }
def RpcGreatUptoCardSaid : Prop := Claim7.holds Tryd.pinned (.plain (OpenSpec.upto rpcGreatSpec)) rpcGreatUptoCard
end Rows
end Go.Proofs.YtjliefglelcooaaDoor
