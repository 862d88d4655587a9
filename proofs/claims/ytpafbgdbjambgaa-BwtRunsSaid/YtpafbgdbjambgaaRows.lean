/-
  No cell of these rows narrows 'for every input' (looked for: loops, veiled, ifaces, maps, wideKeys, modest, calm, conditions, laid).
  DERIVED. THE GIVEN ROWS OF THIS SEAT. 4 by the template 'for every input the law returns true; each argument reads behind the call as it read before'; 0 by the template 'total and deterministic' (their statements: YtpafbgdbjambgaaTotals.lean).
  GIVEN WITH THE SEED: the statements are not yours to turn. If you find one false, say at which input.
  Laid BY PROGRAM, IN A SANDBOX (cutbox-rows.mjs): the forced cells as the released guide's own fill.sh prints them over the translation 5c84582aa2a07e19… (all of the seat's roots in one cut). By AI agents, Wed Nov 11 2026. No macro, syntax, notation, axiom, sorry.
-/
import Derived.Test.YtpafbgdbjambgaaChecked
import GoSem.Claim
import GoSem.ClaimJoined
import GoSem.ClaimMapViews
import Derived.JoinedTies
import Derived.KernelRfl
namespace Go.Proofs.Ytpafbgdbjambgaa
/- THE CELL 'sum', in the pinned program and in every row, IS THE sha256 OF THE DUMP (.gsa) THAT YtpafbgdbjambgaaProg.lean LOADS. Nothing in Lean hashes anything: it is a label: what it is worth is what the hold of that sum in a sandbox is worth. -/
noncomputable def Try.pinned : Pinned := { name := "ytpafbgdbjambgaa", sum := "5c84582aa2a07e19c77459b2d801af75f2b2eb396f72217278f770949e182c90", checked := Try.checked }
namespace Rows
def none {H : Type} : Left H := { results := [], args := [] }

/-- 'lecternlaw5.BwtMakes': WHATEVER THE INPUT: true; the input reads as it did. -/
def bwtMakesSpec : ChangeSpec := { name := "bwtMakes", fn := fun _ => fun
  | [d] => { results := [.lit (.bool true)], args := [d] }
  | _ => none }
def bwtMakesRow : OpenClaim := { program := "ytpafbgdbjambgaa", sum := "5c84582aa2a07e19c77459b2d801af75f2b2eb396f72217278f770949e182c90", func := "lectern/lecternlaw5.BwtMakes", spec := "bwtMakes", unfollowed := true, recurses := true, apart := false }
def BwtMakesSaid : Prop := bwtMakesRow.holds Try.pinned (OpenSpec.ofChange bwtMakesSpec)

/-- ITS FALSE NEIGHBOUR: 'it returns false'. Refute it at one input. -/
def bwtMakesWrong : ChangeSpec := { name := "bwtMakes", fn := fun _ => fun
  | [d] => { results := [.lit (.bool false)], args := [d] }
  | _ => none }
def BwtMakesWrongFalsely : Prop := bwtMakesRow.holds Try.pinned (OpenSpec.ofChange bwtMakesWrong)

/-- 'lecternlaw5.BwtBacks': WHATEVER THE INPUT: true; the input reads as it did. -/
def bwtBacksSpec : ChangeSpec := { name := "bwtBacks", fn := fun _ => fun
  | [d] => { results := [.lit (.bool true)], args := [d] }
  | _ => none }
def bwtBacksRow : OpenClaim := { program := "ytpafbgdbjambgaa", sum := "5c84582aa2a07e19c77459b2d801af75f2b2eb396f72217278f770949e182c90", func := "lectern/lecternlaw5.BwtBacks", spec := "bwtBacks", unfollowed := true, recurses := true, apart := false }
def BwtBacksSaid : Prop := bwtBacksRow.holds Try.pinned (OpenSpec.ofChange bwtBacksSpec)

/-- ITS FALSE NEIGHBOUR: 'it returns false'. Refute it at one input. -/
def bwtBacksWrong : ChangeSpec := { name := "bwtBacks", fn := fun _ => fun
  | [d] => { results := [.lit (.bool false)], args := [d] }
  | _ => none }
def BwtBacksWrongFalsely : Prop := bwtBacksRow.holds Try.pinned (OpenSpec.ofChange bwtBacksWrong)

/-- 'lecternlaw5.BwtUndo': WHATEVER THE INPUT: true; the input reads as it did. -/
def bwtUndoSpec : ChangeSpec := { name := "bwtUndo", fn := fun _ => fun
  | [d] => { results := [.lit (.bool true)], args := [d] }
  | _ => none }
def bwtUndoRow : OpenClaim := { program := "ytpafbgdbjambgaa", sum := "5c84582aa2a07e19c77459b2d801af75f2b2eb396f72217278f770949e182c90", func := "lectern/lecternlaw5.BwtUndo", spec := "bwtUndo", unfollowed := true, recurses := true, apart := false }
def BwtUndoSaid : Prop := bwtUndoRow.holds Try.pinned (OpenSpec.ofChange bwtUndoSpec)

/-- ITS FALSE NEIGHBOUR: 'it returns false'. Refute it at one input. -/
def bwtUndoWrong : ChangeSpec := { name := "bwtUndo", fn := fun _ => fun
  | [d] => { results := [.lit (.bool false)], args := [d] }
  | _ => none }
def BwtUndoWrongFalsely : Prop := bwtUndoRow.holds Try.pinned (OpenSpec.ofChange bwtUndoWrong)

/-- 'lecternlaw5.BwtRuns': WHATEVER THE INPUT: true; the input reads as it did. -/
def bwtRunsSpec : ChangeSpec := { name := "bwtRuns", fn := fun _ => fun
  | [d] => { results := [.lit (.bool true)], args := [d] }
  | _ => none }
def bwtRunsRow : OpenClaim := { program := "ytpafbgdbjambgaa", sum := "5c84582aa2a07e19c77459b2d801af75f2b2eb396f72217278f770949e182c90", func := "lectern/lecternlaw5.BwtRuns", spec := "bwtRuns", unfollowed := true, recurses := true, apart := false }
def BwtRunsSaid : Prop := bwtRunsRow.holds Try.pinned (OpenSpec.ofChange bwtRunsSpec)

/-- ITS FALSE NEIGHBOUR: 'it returns false'. Refute it at one input. -/
def bwtRunsWrong : ChangeSpec := { name := "bwtRuns", fn := fun _ => fun
  | [d] => { results := [.lit (.bool false)], args := [d] }
  | _ => none }
def BwtRunsWrongFalsely : Prop := bwtRunsRow.holds Try.pinned (OpenSpec.ofChange bwtRunsWrong)

/- THE SECOND FORM. 'bulk': how many values and letters a reading holds, each counted each time it is reached (what is shared counts as often as it is met; a slice's spare places count too). A statement '..UptoSaid' is the law's where the arguments, and the package variables that the reading takes, are together of bulk at most 1048576: NARROWER than '..Said'. Prove '..Said' where nothing that the law and all that it calls make is longer than what came in: it says more and counts as full. Else prove '..UptoSaid'. A law counts once. -/
mutual
def uptoBulk {H : Type} : DataW H → Nat
  | .lit (.string bytes) => bytes.length + 1
  | .lit _ => 1
  | .nil => 1
  | .ptr d => uptoBulk d + 1
  | .slice elems spare => uptoBulkAll elems + uptoBulkAll spare + 1
  | .agg parts => uptoBulkAll parts + 1
  | .iface _ d => uptoBulk d + 1
  | .map entries => uptoBulkEntries entries + 1
  | .held _ => 1
def uptoBulkAll {H : Type} : List (DataW H) → Nat
  | [] => 0
  | d :: r => uptoBulk d + uptoBulkAll r
def uptoBulkEntries {H : Type} : List (Lit × DataW H) → Nat
  | [] => 0
  | x :: r => uptoBulkEntry x + uptoBulkEntries r
def uptoBulkEntry {H : Type} : Lit × DataW H → Nat
  | (.string bytes, d) => bytes.length + uptoBulk d + 1
  | (_, d) => uptoBulk d + 1
 end
def uptoSmall : (H : Type) → List (DataW H) → Bool := fun _ ds => decide (uptoBulkAll ds ≤ 1048576)
def OpenSpec.upto (s : _root_.Go.ChangeSpec) : _root_.Go.OpenSpec := { _root_.Go.OpenSpec.ofChange s with cond := some uptoSmall }

/-- 'lecternlaw5.BwtMakes', WHERE WHAT IT READS IS OF BULK AT MOST 1048576: true; the input reads as it did. -/
def bwtMakesUptoRow : OpenClaim := { program := "ytpafbgdbjambgaa", sum := "5c84582aa2a07e19c77459b2d801af75f2b2eb396f72217278f770949e182c90", func := "lectern/lecternlaw5.BwtMakes", spec := "bwtMakes", unfollowed := true, recurses := true, apart := false, narrowed := true }
def BwtMakesUptoSaid : Prop := bwtMakesUptoRow.holds Try.pinned (OpenSpec.upto bwtMakesSpec)

/-- 'lecternlaw5.BwtBacks', WHERE WHAT IT READS IS OF BULK AT MOST 1048576: true; the input reads as it did. -/
def bwtBacksUptoRow : OpenClaim := { program := "ytpafbgdbjambgaa", sum := "5c84582aa2a07e19c77459b2d801af75f2b2eb396f72217278f770949e182c90", func := "lectern/lecternlaw5.BwtBacks", spec := "bwtBacks", unfollowed := true, recurses := true, apart := false, narrowed := true }
def BwtBacksUptoSaid : Prop := bwtBacksUptoRow.holds Try.pinned (OpenSpec.upto bwtBacksSpec)

/-- 'lecternlaw5.BwtUndo', WHERE WHAT IT READS IS OF BULK AT MOST 1048576: true; the input reads as it did. -/
def bwtUndoUptoRow : OpenClaim := { program := "ytpafbgdbjambgaa", sum := "5c84582aa2a07e19c77459b2d801af75f2b2eb396f72217278f770949e182c90", func := "lectern/lecternlaw5.BwtUndo", spec := "bwtUndo", unfollowed := true, recurses := true, apart := false, narrowed := true }
def BwtUndoUptoSaid : Prop := bwtUndoUptoRow.holds Try.pinned (OpenSpec.upto bwtUndoSpec)

/-- 'lecternlaw5.BwtRuns', WHERE WHAT IT READS IS OF BULK AT MOST 1048576: true; the input reads as it did. -/
def bwtRunsUptoRow : OpenClaim := { program := "ytpafbgdbjambgaa", sum := "5c84582aa2a07e19c77459b2d801af75f2b2eb396f72217278f770949e182c90", func := "lectern/lecternlaw5.BwtRuns", spec := "bwtRuns", unfollowed := true, recurses := true, apart := false, narrowed := true }
def BwtRunsUptoSaid : Prop := bwtRunsUptoRow.holds Try.pinned (OpenSpec.upto bwtRunsSpec)

end Rows
end Go.Proofs.Ytpafbgdbjambgaa
