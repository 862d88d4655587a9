/-
  No cell of these rows narrows 'for every input' (looked for: loops, veiled, ifaces, maps, wideKeys, modest, calm, conditions, laid).
  DERIVED. THE GIVEN ROWS OF THIS SEAT. 4 by the template 'for every input the law returns true; each argument reads behind the call as it read before'; 0 by the template 'total and deterministic' (their statements: YtpehfjjhdadejaaTotals.lean).
  GIVEN WITH THE SEED: the statements are not yours to turn. If you find one false, say at which input.
  Laid BY PROGRAM, IN A SANDBOX (cutbox-rows.mjs): the forced cells as the released guide's own fill.sh prints them over the translation c6a1d6e5901cf1fe… (all of the seat's roots in one cut). By AI agents, Wed Nov 11 2026. No macro, syntax, notation, axiom, sorry.
-/
import Derived.Test.YtpehfjjhdadejaaChecked
import GoSem.Claim
import GoSem.ClaimJoined
import GoSem.ClaimMapViews
import Derived.JoinedTies
import Derived.KernelRfl
namespace Go.Proofs.Ytpehfjjhdadejaa
/- THE CELL 'sum', in the pinned program and in every row, IS THE sha256 OF THE DUMP (.gsa) THAT YtpehfjjhdadejaaProg.lean LOADS. Nothing in Lean hashes anything: it is a label: what it is worth is what the hold of that sum in a sandbox is worth. -/
noncomputable def Try.pinned : Pinned := { name := "ytpehfjjhdadejaa", sum := "c6a1d6e5901cf1fe5f8a96d0de0dbddea8904d423b069f26a0228a6eaf54a9c6", checked := Try.checked }
namespace Rows
def none {H : Type} : Left H := { results := [], args := [] }

/-- 'lecternlaw12.TiersPlans': WHATEVER THE INPUT: true; the input reads as it did. -/
def tiersPlansSpec : ChangeSpec := { name := "tiersPlans", fn := fun _ => fun
  | [d] => { results := [.lit (.bool true)], args := [d] }
  | _ => none }
def tiersPlansRow : OpenClaim := { program := "ytpehfjjhdadejaa", sum := "c6a1d6e5901cf1fe5f8a96d0de0dbddea8904d423b069f26a0228a6eaf54a9c6", func := "lectern/lecternlaw12.TiersPlans", spec := "tiersPlans", apart := false }
def TiersPlansSaid : Prop := tiersPlansRow.holds Try.pinned (OpenSpec.ofChange tiersPlansSpec)

/-- ITS FALSE NEIGHBOUR: 'it returns false'. Refute it at one input. -/
def tiersPlansWrong : ChangeSpec := { name := "tiersPlans", fn := fun _ => fun
  | [d] => { results := [.lit (.bool false)], args := [d] }
  | _ => none }
def TiersPlansWrongFalsely : Prop := tiersPlansRow.holds Try.pinned (OpenSpec.ofChange tiersPlansWrong)

/-- 'lecternlaw12.TiersMerges': WHATEVER THE INPUT: true; the input reads as it did. -/
def tiersMergesSpec : ChangeSpec := { name := "tiersMerges", fn := fun _ => fun
  | [d] => { results := [.lit (.bool true)], args := [d] }
  | _ => none }
def tiersMergesRow : OpenClaim := { program := "ytpehfjjhdadejaa", sum := "c6a1d6e5901cf1fe5f8a96d0de0dbddea8904d423b069f26a0228a6eaf54a9c6", func := "lectern/lecternlaw12.TiersMerges", spec := "tiersMerges", inPlace := ["internal/bytealg.abigen_runtime_cmpstring"], unfollowed := true, recurses := true, apart := false }
def TiersMergesSaid : Prop := tiersMergesRow.holds Try.pinned (OpenSpec.ofChange tiersMergesSpec)

/-- ITS FALSE NEIGHBOUR: 'it returns false'. Refute it at one input. -/
def tiersMergesWrong : ChangeSpec := { name := "tiersMerges", fn := fun _ => fun
  | [d] => { results := [.lit (.bool false)], args := [d] }
  | _ => none }
def TiersMergesWrongFalsely : Prop := tiersMergesRow.holds Try.pinned (OpenSpec.ofChange tiersMergesWrong)

/-- 'lecternlaw12.TiersOrders': WHATEVER THE INPUT: true; the input reads as it did. -/
def tiersOrdersSpec : ChangeSpec := { name := "tiersOrders", fn := fun _ => fun
  | [d] => { results := [.lit (.bool true)], args := [d] }
  | _ => none }
def tiersOrdersRow : OpenClaim := { program := "ytpehfjjhdadejaa", sum := "c6a1d6e5901cf1fe5f8a96d0de0dbddea8904d423b069f26a0228a6eaf54a9c6", func := "lectern/lecternlaw12.TiersOrders", spec := "tiersOrders", inPlace := ["internal/bytealg.abigen_runtime_cmpstring"], unfollowed := true, recurses := true, apart := false }
def TiersOrdersSaid : Prop := tiersOrdersRow.holds Try.pinned (OpenSpec.ofChange tiersOrdersSpec)

/-- ITS FALSE NEIGHBOUR: 'it returns false'. Refute it at one input. -/
def tiersOrdersWrong : ChangeSpec := { name := "tiersOrders", fn := fun _ => fun
  | [d] => { results := [.lit (.bool false)], args := [d] }
  | _ => none }
def TiersOrdersWrongFalsely : Prop := tiersOrdersRow.holds Try.pinned (OpenSpec.ofChange tiersOrdersWrong)

/-- 'lecternlaw12.TiersClasses': WHATEVER THE INPUT: true; the input reads as it did. -/
def tiersClassesSpec : ChangeSpec := { name := "tiersClasses", fn := fun _ => fun
  | [d] => { results := [.lit (.bool true)], args := [d] }
  | _ => none }
def tiersClassesRow : OpenClaim := { program := "ytpehfjjhdadejaa", sum := "c6a1d6e5901cf1fe5f8a96d0de0dbddea8904d423b069f26a0228a6eaf54a9c6", func := "lectern/lecternlaw12.TiersClasses", spec := "tiersClasses", apart := false }
def TiersClassesSaid : Prop := tiersClassesRow.holds Try.pinned (OpenSpec.ofChange tiersClassesSpec)

/-- ITS FALSE NEIGHBOUR: 'it returns false'. Refute it at one input. -/
def tiersClassesWrong : ChangeSpec := { name := "tiersClasses", fn := fun _ => fun
  | [d] => { results := [.lit (.bool false)], args := [d] }
  | _ => none }
def TiersClassesWrongFalsely : Prop := tiersClassesRow.holds Try.pinned (OpenSpec.ofChange tiersClassesWrong)

/- THE SECOND FORM. 'bulk': how many values and letters a reading holds, each counted each time it is reached (what is shared counts as often as it is met; a slice's spare places count too). A statement '..UptoSaid' is the law's where the arguments, and the package variables that the reading takes, are together of bulk at most 1048576: NARROWER than '..Said'. Prove '..Said' where nothing that the law and all that it calls make is longer than what came in: it says more and counts as full. Else prove '..UptoSaid'. A law counts once. -/
mutual
def uptoBulk {H : Type} : DataW H → Nat
  | .lit (.string bytes) => bytes.length + 1
  | .lit _ => 1
  | .nil => 1
  | .ptr d => uptoBulk d + 1
  | .slice elems spare => uptoBulkAll elems + uptoBulkAll spare + 1
  | .agg parts => uptoBulkAll parts + 1
  | .iface _ d => uptoBulk d + 1
  | .map entries => uptoBulkEntries entries + 1
  | .held _ => 1
def uptoBulkAll {H : Type} : List (DataW H) → Nat
  | [] => 0
  | d :: r => uptoBulk d + uptoBulkAll r
def uptoBulkEntries {H : Type} : List (Lit × DataW H) → Nat
  | [] => 0
  | x :: r => uptoBulkEntry x + uptoBulkEntries r
def uptoBulkEntry {H : Type} : Lit × DataW H → Nat
  | (.string bytes, d) => bytes.length + uptoBulk d + 1
  | (_, d) => uptoBulk d + 1
 end
def uptoSmall : (H : Type) → List (DataW H) → Bool := fun _ ds => decide (uptoBulkAll ds ≤ 1048576)
def OpenSpec.upto (s : _root_.Go.ChangeSpec) : _root_.Go.OpenSpec := { _root_.Go.OpenSpec.ofChange s with cond := some uptoSmall }

/-- 'lecternlaw12.TiersPlans', WHERE WHAT IT READS IS OF BULK AT MOST 1048576: true; the input reads as it did. -/
def tiersPlansUptoRow : OpenClaim := { program := "ytpehfjjhdadejaa", sum := "c6a1d6e5901cf1fe5f8a96d0de0dbddea8904d423b069f26a0228a6eaf54a9c6", func := "lectern/lecternlaw12.TiersPlans", spec := "tiersPlans", apart := false, narrowed := true }
def TiersPlansUptoSaid : Prop := tiersPlansUptoRow.holds Try.pinned (OpenSpec.upto tiersPlansSpec)

/-- 'lecternlaw12.TiersMerges', WHERE WHAT IT READS IS OF BULK AT MOST 1048576: true; the input reads as it did. -/
def tiersMergesUptoRow : OpenClaim := { program := "ytpehfjjhdadejaa", sum := "c6a1d6e5901cf1fe5f8a96d0de0dbddea8904d423b069f26a0228a6eaf54a9c6", func := "lectern/lecternlaw12.TiersMerges", spec := "tiersMerges", inPlace := ["internal/bytealg.abigen_runtime_cmpstring"], unfollowed := true, recurses := true, apart := false, narrowed := true }
def TiersMergesUptoSaid : Prop := tiersMergesUptoRow.holds Try.pinned (OpenSpec.upto tiersMergesSpec)

/-- 'lecternlaw12.TiersOrders', WHERE WHAT IT READS IS OF BULK AT MOST 1048576: true; the input reads as it did. -/
def tiersOrdersUptoRow : OpenClaim := { program := "ytpehfjjhdadejaa", sum := "c6a1d6e5901cf1fe5f8a96d0de0dbddea8904d423b069f26a0228a6eaf54a9c6", func := "lectern/lecternlaw12.TiersOrders", spec := "tiersOrders", inPlace := ["internal/bytealg.abigen_runtime_cmpstring"], unfollowed := true, recurses := true, apart := false, narrowed := true }
def TiersOrdersUptoSaid : Prop := tiersOrdersUptoRow.holds Try.pinned (OpenSpec.upto tiersOrdersSpec)

/-- 'lecternlaw12.TiersClasses', WHERE WHAT IT READS IS OF BULK AT MOST 1048576: true; the input reads as it did. -/
def tiersClassesUptoRow : OpenClaim := { program := "ytpehfjjhdadejaa", sum := "c6a1d6e5901cf1fe5f8a96d0de0dbddea8904d423b069f26a0228a6eaf54a9c6", func := "lectern/lecternlaw12.TiersClasses", spec := "tiersClasses", apart := false, narrowed := true }
def TiersClassesUptoSaid : Prop := tiersClassesUptoRow.holds Try.pinned (OpenSpec.upto tiersClassesSpec)

end Rows
end Go.Proofs.Ytpehfjjhdadejaa
