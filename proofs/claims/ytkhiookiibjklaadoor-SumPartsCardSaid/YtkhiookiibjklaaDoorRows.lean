/-
  NARROWER THAN 'FOR EVERY INPUT', by the rows' own cells (each row's printed sentence says how): SumExact: laid · SumParts: laid · SumOnes: laid.
  DERIVED. THE GIVEN ROWS OF THIS SEAT. 3 by the template 'for every input the law returns true; each argument reads behind the call as it read before'; 0 by the template 'total and deterministic' (their statements: YtkhiookiibjklaaDoorTotals.lean).
  GIVEN WITH THE SEED: the statements are not yours to turn. If you find one false, say at which input.
  Laid BY PROGRAM, IN A SANDBOX (cutbox-rows.mjs): the forced cells as the released guide's own fill.sh prints them over the translation 346d1182b999f334… (all of the seat's roots in one cut). By AI agents, Wed Nov 11 2026. No macro, syntax, notation, axiom, sorry.
-/
import Derived.Test.YtkhiookiibjklaaDoorChecked
import GoSem.Claim
import GoSem.ClaimJoined
import GoSem.ClaimMapViews
import Derived.JoinedTies
import Derived.KernelRfl
namespace Go.Proofs.YtkhiookiibjklaaDoor
/- THE CELL 'sum', in the pinned program and in every row, IS THE sha256 OF THE DUMP (.gsa) THAT YtkhiookiibjklaaDoorProg.lean LOADS. Nothing in Lean hashes anything: it is a label: what it is worth is what the hold of that sum in a sandbox is worth. -/
noncomputable def Tryd.pinned : Pinned := { name := "ytkhiookiibjklaadoor", sum := "346d1182b999f3340d5fd7c0e2c328ccbf89a944930dd178429fb2ddcf5e48bd", checked := Tryd.checked }
namespace Rows
def none {H : Type} : Left H := { results := [], args := [] }

/- WHAT THE LISTED PACKAGE-LEVEL VARIABLES READ AS WHEN THE CALL BEGINS. Each datum BY PROGRAM (the guide's laid-datum.mjs) off the statement by which the dump's own 'gosem.cut.vars' lays the variable. In a bare row this is a premise. The card (YtkhiookiibjklaaDoorCards.lean) ties it to the program's text. -/
def laid_lectern_sum_remainders {H : Type} : DataW H := .agg [.lit (.int .u32 0), .lit (.int .u32 498536548), .lit (.int .u32 997073096), .lit (.int .u32 651767980), .lit (.int .u32 1994146192), .lit (.int .u32 1802195444), .lit (.int .u32 1303535960), .lit (.int .u32 1342533948), .lit (.int .u32 3988292384), .lit (.int .u32 4027552580), .lit (.int .u32 3604390888), .lit (.int .u32 3412177804), .lit (.int .u32 2607071920), .lit (.int .u32 2262029012), .lit (.int .u32 2685067896), .lit (.int .u32 3183342108)]

/-- 'lecternlaw9.SumExact': WHATEVER THE INPUT: true; the input reads as it did. -/
def sumExactSpec : ChangeSpec := { name := "sumExact", fn := fun _ => fun
  | [d] => { results := [.lit (.bool true)], args := [d] }
  | _ => none }
def sumExactRow : OpenClaim := { program := "ytkhiookiibjklaadoor", sum := "346d1182b999f3340d5fd7c0e2c328ccbf89a944930dd178429fb2ddcf5e48bd", func := "lectern/lecternlaw9.SumExact", spec := "sumExact", named := ["lectern/sum.remainders"], apart := false, laid := [("lectern/sum.remainders", laid_lectern_sum_remainders)] }
def SumExactSaid : Prop := sumExactRow.holds Tryd.pinned (OpenSpec.ofChange sumExactSpec)

/-- ITS FALSE NEIGHBOUR: 'it returns false'. Refute it at one input. -/
def sumExactWrong : ChangeSpec := { name := "sumExact", fn := fun _ => fun
  | [d] => { results := [.lit (.bool false)], args := [d] }
  | _ => none }
def SumExactWrongFalsely : Prop := sumExactRow.holds Tryd.pinned (OpenSpec.ofChange sumExactWrong)

/-- 'lecternlaw9.SumParts': WHATEVER THE INPUT: true; the input reads as it did. -/
def sumPartsSpec : ChangeSpec := { name := "sumParts", fn := fun _ => fun
  | [d] => { results := [.lit (.bool true)], args := [d] }
  | _ => none }
def sumPartsRow : OpenClaim := { program := "ytkhiookiibjklaadoor", sum := "346d1182b999f3340d5fd7c0e2c328ccbf89a944930dd178429fb2ddcf5e48bd", func := "lectern/lecternlaw9.SumParts", spec := "sumParts", named := ["lectern/sum.remainders"], apart := false, laid := [("lectern/sum.remainders", laid_lectern_sum_remainders)] }
def SumPartsSaid : Prop := sumPartsRow.holds Tryd.pinned (OpenSpec.ofChange sumPartsSpec)

/-- ITS FALSE NEIGHBOUR: 'it returns false'. Refute it at one input. -/
def sumPartsWrong : ChangeSpec := { name := "sumParts", fn := fun _ => fun
  | [d] => { results := [.lit (.bool false)], args := [d] }
  | _ => none }
def SumPartsWrongFalsely : Prop := sumPartsRow.holds Tryd.pinned (OpenSpec.ofChange sumPartsWrong)

/-- 'lecternlaw9.SumOnes': WHATEVER THE INPUT: true; the input reads as it did. -/
def sumOnesSpec : ChangeSpec := { name := "sumOnes", fn := fun _ => fun
  | [d] => { results := [.lit (.bool true)], args := [d] }
  | _ => none }
def sumOnesRow : OpenClaim := { program := "ytkhiookiibjklaadoor", sum := "346d1182b999f3340d5fd7c0e2c328ccbf89a944930dd178429fb2ddcf5e48bd", func := "lectern/lecternlaw9.SumOnes", spec := "sumOnes", named := ["lectern/sum.remainders"], apart := false, laid := [("lectern/sum.remainders", laid_lectern_sum_remainders)] }
def SumOnesSaid : Prop := sumOnesRow.holds Tryd.pinned (OpenSpec.ofChange sumOnesSpec)

/-- ITS FALSE NEIGHBOUR: 'it returns false'. Refute it at one input. -/
def sumOnesWrong : ChangeSpec := { name := "sumOnes", fn := fun _ => fun
  | [d] => { results := [.lit (.bool false)], args := [d] }
  | _ => none }
def SumOnesWrongFalsely : Prop := sumOnesRow.holds Tryd.pinned (OpenSpec.ofChange sumOnesWrong)

/- THE SECOND FORM. 'bulk': how many values and letters a reading holds, each counted each time it is reached (what is shared counts as often as it is met; a slice's spare places count too). A statement '..UptoSaid' is the law's where the arguments, and the package variables that the reading takes, are together of bulk at most 1048576: NARROWER than '..Said'. Prove '..Said' where nothing that the law and all that it calls make is longer than what came in: it says more and counts as full. Else prove '..UptoSaid'. A law counts once. -/
mutual
def uptoBulk {H : Type} : DataW H → Nat
  | .lit (.string bytes) => bytes.length + 1
  | .lit _ => 1
  | .nil => 1
  | .ptr d => uptoBulk d + 1
  | .slice elems spare => uptoBulkAll elems + uptoBulkAll spare + 1
  | .agg parts => uptoBulkAll parts + 1
  | .iface _ d => uptoBulk d + 1
  | .map entries => uptoBulkEntries entries + 1
  | .held _ => 1
def uptoBulkAll {H : Type} : List (DataW H) → Nat
  | [] => 0
  | d :: r => uptoBulk d + uptoBulkAll r
def uptoBulkEntries {H : Type} : List (Lit × DataW H) → Nat
  | [] => 0
  | x :: r => uptoBulkEntry x + uptoBulkEntries r
def uptoBulkEntry {H : Type} : Lit × DataW H → Nat
  | (.string bytes, d) => bytes.length + uptoBulk d + 1
  | (_, d) => uptoBulk d + 1
 end
def uptoSmall : (H : Type) → List (DataW H) → Bool := fun _ ds => decide (uptoBulkAll ds ≤ 1048576)
def OpenSpec.upto (s : _root_.Go.ChangeSpec) : _root_.Go.OpenSpec := { _root_.Go.OpenSpec.ofChange s with cond := some uptoSmall }

/-- 'lecternlaw9.SumExact', WHERE WHAT IT READS IS OF BULK AT MOST 1048576: true; the input reads as it did. -/
def sumExactUptoRow : OpenClaim := { program := "ytkhiookiibjklaadoor", sum := "346d1182b999f3340d5fd7c0e2c328ccbf89a944930dd178429fb2ddcf5e48bd", func := "lectern/lecternlaw9.SumExact", spec := "sumExact", named := ["lectern/sum.remainders"], apart := false, laid := [("lectern/sum.remainders", laid_lectern_sum_remainders)], narrowed := true }
def SumExactUptoSaid : Prop := sumExactUptoRow.holds Tryd.pinned (OpenSpec.upto sumExactSpec)

/-- 'lecternlaw9.SumParts', WHERE WHAT IT READS IS OF BULK AT MOST 1048576: true; the input reads as it did. -/
def sumPartsUptoRow : OpenClaim := { program := "ytkhiookiibjklaadoor", sum := "346d1182b999f3340d5fd7c0e2c328ccbf89a944930dd178429fb2ddcf5e48bd", func := "lectern/lecternlaw9.SumParts", spec := "sumParts", named := ["lectern/sum.remainders"], apart := false, laid := [("lectern/sum.remainders", laid_lectern_sum_remainders)], narrowed := true }
def SumPartsUptoSaid : Prop := sumPartsUptoRow.holds Tryd.pinned (OpenSpec.upto sumPartsSpec)

/-- 'lecternlaw9.SumOnes', WHERE WHAT IT READS IS OF BULK AT MOST 1048576: true; the input reads as it did. -/
def sumOnesUptoRow : OpenClaim := { program := "ytkhiookiibjklaadoor", sum := "346d1182b999f3340d5fd7c0e2c328ccbf89a944930dd178429fb2ddcf5e48bd", func := "lectern/lecternlaw9.SumOnes", spec := "sumOnes", named := ["lectern/sum.remainders"], apart := false, laid := [("lectern/sum.remainders", laid_lectern_sum_remainders)], narrowed := true }
def SumOnesUptoSaid : Prop := sumOnesUptoRow.holds Tryd.pinned (OpenSpec.upto sumOnesSpec)

end Rows
end Go.Proofs.YtkhiookiibjklaaDoor
