/-
  No cell of these rows narrows 'for every input' (looked for: loops, veiled, ifaces, maps, wideKeys, modest, calm, conditions, laid).
  DERIVED. THE GIVEN ROWS OF THIS SEAT. 4 by the template 'for every input the law returns true; each argument reads behind the call as it read before'; 0 by the template 'total and deterministic' (their statements: YtgnmmifolhoaeaaTotals.lean).
  GIVEN WITH THE SEED: the statements are not yours to turn. If you find one false, say at which input.
  Laid BY PROGRAM, IN A SANDBOX (cutbox-rows.mjs): the forced cells as the released guide's own fill.sh prints them over the translation 0a4491d8be8b641e… (all of the seat's roots in one cut). By AI agents, Wed Nov 11 2026. No macro, syntax, notation, axiom, sorry.
-/
import Derived.Test.YtgnmmifolhoaeaaChecked
import GoSem.Claim
import GoSem.ClaimJoined
import GoSem.ClaimMapViews
import Derived.JoinedTies
import Derived.KernelRfl
namespace Go.Proofs.Ytgnmmifolhoaeaa
/- THE CELL 'sum', in the pinned program and in every row, IS THE sha256 OF THE DUMP (.gsa) THAT YtgnmmifolhoaeaaProg.lean LOADS. Nothing in Lean hashes anything: it is a label: what it is worth is what the hold of that sum in a sandbox is worth. -/
noncomputable def Try.pinned : Pinned := { name := "ytgnmmifolhoaeaa", sum := "0a4491d8be8b641eec76eeb49f6e2b3c0daca348e16c0b07993317be946e7534", checked := Try.checked }
namespace Rows
def none {H : Type} : Left H := { results := [], args := [] }

/-- 'lecternlaw2.IntsNew': WHATEVER THE INPUT: true; the input reads as it did. -/
def intsNewSpec : ChangeSpec := { name := "intsNew", fn := fun _ => fun
  | [d] => { results := [.lit (.bool true)], args := [d] }
  | _ => none }
def intsNewRow : OpenClaim := { program := "ytgnmmifolhoaeaa", sum := "0a4491d8be8b641eec76eeb49f6e2b3c0daca348e16c0b07993317be946e7534", func := "lectern/lecternlaw2.IntsNew", spec := "intsNew", apart := false }
def IntsNewSaid : Prop := intsNewRow.holds Try.pinned (OpenSpec.ofChange intsNewSpec)

/-- ITS FALSE NEIGHBOUR: 'it returns false'. Refute it at one input. -/
def intsNewWrong : ChangeSpec := { name := "intsNew", fn := fun _ => fun
  | [d] => { results := [.lit (.bool false)], args := [d] }
  | _ => none }
def IntsNewWrongFalsely : Prop := intsNewRow.holds Try.pinned (OpenSpec.ofChange intsNewWrong)

/-- 'lecternlaw2.IntsParse': WHATEVER THE INPUT: true; the input reads as it did. -/
def intsParseSpec : ChangeSpec := { name := "intsParse", fn := fun _ => fun
  | [d] => { results := [.lit (.bool true)], args := [d] }
  | _ => none }
def intsParseRow : OpenClaim := { program := "ytgnmmifolhoaeaa", sum := "0a4491d8be8b641eec76eeb49f6e2b3c0daca348e16c0b07993317be946e7534", func := "lectern/lecternlaw2.IntsParse", spec := "intsParse", apart := false }
def IntsParseSaid : Prop := intsParseRow.holds Try.pinned (OpenSpec.ofChange intsParseSpec)

/-- ITS FALSE NEIGHBOUR: 'it returns false'. Refute it at one input. -/
def intsParseWrong : ChangeSpec := { name := "intsParse", fn := fun _ => fun
  | [d] => { results := [.lit (.bool false)], args := [d] }
  | _ => none }
def IntsParseWrongFalsely : Prop := intsParseRow.holds Try.pinned (OpenSpec.ofChange intsParseWrong)

/-- 'lecternlaw2.IntsBack': WHATEVER THE INPUT: true; the input reads as it did. -/
def intsBackSpec : ChangeSpec := { name := "intsBack", fn := fun _ => fun
  | [d] => { results := [.lit (.bool true)], args := [d] }
  | _ => none }
def intsBackRow : OpenClaim := { program := "ytgnmmifolhoaeaa", sum := "0a4491d8be8b641eec76eeb49f6e2b3c0daca348e16c0b07993317be946e7534", func := "lectern/lecternlaw2.IntsBack", spec := "intsBack", apart := false }
def IntsBackSaid : Prop := intsBackRow.holds Try.pinned (OpenSpec.ofChange intsBackSpec)

/-- ITS FALSE NEIGHBOUR: 'it returns false'. Refute it at one input. -/
def intsBackWrong : ChangeSpec := { name := "intsBack", fn := fun _ => fun
  | [d] => { results := [.lit (.bool false)], args := [d] }
  | _ => none }
def IntsBackWrongFalsely : Prop := intsBackRow.holds Try.pinned (OpenSpec.ofChange intsBackWrong)

/-- 'lecternlaw2.IntsWidths': WHATEVER THE INPUT: true; the input reads as it did. -/
def intsWidthsSpec : ChangeSpec := { name := "intsWidths", fn := fun _ => fun
  | [d] => { results := [.lit (.bool true)], args := [d] }
  | _ => none }
def intsWidthsRow : OpenClaim := { program := "ytgnmmifolhoaeaa", sum := "0a4491d8be8b641eec76eeb49f6e2b3c0daca348e16c0b07993317be946e7534", func := "lectern/lecternlaw2.IntsWidths", spec := "intsWidths", apart := false }
def IntsWidthsSaid : Prop := intsWidthsRow.holds Try.pinned (OpenSpec.ofChange intsWidthsSpec)

/-- ITS FALSE NEIGHBOUR: 'it returns false'. Refute it at one input. -/
def intsWidthsWrong : ChangeSpec := { name := "intsWidths", fn := fun _ => fun
  | [d] => { results := [.lit (.bool false)], args := [d] }
  | _ => none }
def IntsWidthsWrongFalsely : Prop := intsWidthsRow.holds Try.pinned (OpenSpec.ofChange intsWidthsWrong)

/- THE SECOND FORM. 'bulk': how many values and letters a reading holds, each counted each time it is reached (what is shared counts as often as it is met; a slice's spare places count too). A statement '..UptoSaid' is the law's where the arguments, and the package variables that the reading takes, are together of bulk at most 1048576: NARROWER than '..Said'. Prove '..Said' where nothing that the law and all that it calls make is longer than what came in: it says more and counts as full. Else prove '..UptoSaid'. A law counts once. -/
mutual
def uptoBulk {H : Type} : DataW H → Nat
  | .lit (.string bytes) => bytes.length + 1
  | .lit _ => 1
  | .nil => 1
  | .ptr d => uptoBulk d + 1
  | .slice elems spare => uptoBulkAll elems + uptoBulkAll spare + 1
  | .agg parts => uptoBulkAll parts + 1
  | .iface _ d => uptoBulk d + 1
  | .map entries => uptoBulkEntries entries + 1
  | .held _ => 1
def uptoBulkAll {H : Type} : List (DataW H) → Nat
  | [] => 0
  | d :: r => uptoBulk d + uptoBulkAll r
def uptoBulkEntries {H : Type} : List (Lit × DataW H) → Nat
  | [] => 0
  | x :: r => uptoBulkEntry x + uptoBulkEntries r
def uptoBulkEntry {H : Type} : Lit × DataW H → Nat
  | (.string bytes, d) => bytes.length + uptoBulk d + 1
  | (_, d) => uptoBulk d + 1
 end
def uptoSmall : (H : Type) → List (DataW H) → Bool := fun _ ds => decide (uptoBulkAll ds ≤ 1048576)
def OpenSpec.upto (s : _root_.Go.ChangeSpec) : _root_.Go.OpenSpec := { _root_.Go.OpenSpec.ofChange s with cond := some uptoSmall }

/-- 'lecternlaw2.IntsNew', WHERE WHAT IT READS IS OF BULK AT MOST 1048576: true; the input reads as it did. -/
def intsNewUptoRow : OpenClaim := { program := "ytgnmmifolhoaeaa", sum := "0a4491d8be8b641eec76eeb49f6e2b3c0daca348e16c0b07993317be946e7534", func := "lectern/lecternlaw2.IntsNew", spec := "intsNew", apart := false, narrowed := true }
def IntsNewUptoSaid : Prop := intsNewUptoRow.holds Try.pinned (OpenSpec.upto intsNewSpec)

/-- 'lecternlaw2.IntsParse', WHERE WHAT IT READS IS OF BULK AT MOST 1048576: true; the input reads as it did. -/
def intsParseUptoRow : OpenClaim := { program := "ytgnmmifolhoaeaa", sum := "0a4491d8be8b641eec76eeb49f6e2b3c0daca348e16c0b07993317be946e7534", func := "lectern/lecternlaw2.IntsParse", spec := "intsParse", apart := false, narrowed := true }
def IntsParseUptoSaid : Prop := intsParseUptoRow.holds Try.pinned (OpenSpec.upto intsParseSpec)

/-- 'lecternlaw2.IntsBack', WHERE WHAT IT READS IS OF BULK AT MOST 1048576: true; the input reads as it did. -/
def intsBackUptoRow : OpenClaim := { program := "ytgnmmifolhoaeaa", sum := "0a4491d8be8b641eec76eeb49f6e2b3c0daca348e16c0b07993317be946e7534", func := "lectern/lecternlaw2.IntsBack", spec := "intsBack", apart := false, narrowed := true }
def IntsBackUptoSaid : Prop := intsBackUptoRow.holds Try.pinned (OpenSpec.upto intsBackSpec)

/-- 'lecternlaw2.IntsWidths', WHERE WHAT IT READS IS OF BULK AT MOST 1048576: true; the input reads as it did. -/
def intsWidthsUptoRow : OpenClaim := { program := "ytgnmmifolhoaeaa", sum := "0a4491d8be8b641eec76eeb49f6e2b3c0daca348e16c0b07993317be946e7534", func := "lectern/lecternlaw2.IntsWidths", spec := "intsWidths", apart := false, narrowed := true }
def IntsWidthsUptoSaid : Prop := intsWidthsUptoRow.holds Try.pinned (OpenSpec.upto intsWidthsSpec)

end Rows
end Go.Proofs.Ytgnmmifolhoaeaa
