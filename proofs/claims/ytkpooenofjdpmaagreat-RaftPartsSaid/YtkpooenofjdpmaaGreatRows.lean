/-
  No cell of these rows narrows 'for every input' (looked for: loops, veiled, ifaces, maps, wideKeys, modest, calm, conditions, laid).
  DERIVED. THE GIVEN ROWS OF THIS SEAT. 11 by the template 'for every input the law returns true; each argument reads behind the call as it read before'; 0 by the template 'total and deterministic' (their statements: YtkpooenofjdpmaaGreatTotals.lean).
  GIVEN WITH THE SEED: the statements are not yours to turn. If you find one false, say at which input.
  Laid BY PROGRAM, IN A SANDBOX (cutbox-rows.mjs): the forced cells as the released guide's own fill.sh prints them over the translation 3399d16a1d5a29c8… (all of the seat's roots in one cut). By AI agents, Wed Nov 11 2026. No macro, syntax, notation, axiom, sorry.
-/
import Derived.Test.YtkpooenofjdpmaaGreatChecked
import GoSem.Claim
import GoSem.ClaimJoined
import GoSem.ClaimMapViews
import Derived.JoinedTies
import Derived.KernelRfl
namespace Go.Proofs.YtkpooenofjdpmaaGreat
/- THE CELL 'sum', in the pinned program and in every row, IS THE sha256 OF THE DUMP (.gsa) THAT YtkpooenofjdpmaaGreatProg.lean LOADS. Nothing in Lean hashes anything: it is a label: what it is worth is what the hold of that sum in a sandbox is worth. -/
noncomputable def Tryz.pinned : Pinned := { name := "ytkpooenofjdpmaagreat", sum := "3399d16a1d5a29c85e52a39bd7a90b2bbbd23f0b8ca4bb5ac9b5ef990c717737", checked := Tryz.checked }
namespace Rows
def none {H : Type} : Left H := { results := [], args := [] }

/-- 'lecternlaw26.RaftAskVotes': WHATEVER THE INPUT: true; the input reads as it did. -/
def raftAskVotesSpec : ChangeSpec := { name := "raftAskVotes", fn := fun _ => fun
  | [d] => { results := [.lit (.bool true)], args := [d] }
  | _ => none }
def raftAskVotesRow : OpenClaim := { program := "ytkpooenofjdpmaagreat", sum := "3399d16a1d5a29c85e52a39bd7a90b2bbbd23f0b8ca4bb5ac9b5ef990c717737", func := "lectern/lecternlaw26.RaftAskVotes", spec := "raftAskVotes", inPlace := ["slices.overlaps[int]"], unfollowed := true, recurses := true, apart := false }
def RaftAskVotesSaid : Prop := raftAskVotesRow.holds Tryz.pinned (OpenSpec.ofChange raftAskVotesSpec)

/-- ITS FALSE NEIGHBOUR: 'it returns false'. Refute it at one input. -/
def raftAskVotesWrong : ChangeSpec := { name := "raftAskVotes", fn := fun _ => fun
  | [d] => { results := [.lit (.bool false)], args := [d] }
  | _ => none }
def RaftAskVotesWrongFalsely : Prop := raftAskVotesRow.holds Tryz.pinned (OpenSpec.ofChange raftAskVotesWrong)

/-- 'lecternlaw26.RaftTellVotes': WHATEVER THE INPUT: true; the input reads as it did. -/
def raftTellVotesSpec : ChangeSpec := { name := "raftTellVotes", fn := fun _ => fun
  | [d] => { results := [.lit (.bool true)], args := [d] }
  | _ => none }
def raftTellVotesRow : OpenClaim := { program := "ytkpooenofjdpmaagreat", sum := "3399d16a1d5a29c85e52a39bd7a90b2bbbd23f0b8ca4bb5ac9b5ef990c717737", func := "lectern/lecternlaw26.RaftTellVotes", spec := "raftTellVotes", inPlace := ["slices.overlaps[int]"], unfollowed := true, recurses := true, apart := false }
def RaftTellVotesSaid : Prop := raftTellVotesRow.holds Tryz.pinned (OpenSpec.ofChange raftTellVotesSpec)

/-- ITS FALSE NEIGHBOUR: 'it returns false'. Refute it at one input. -/
def raftTellVotesWrong : ChangeSpec := { name := "raftTellVotes", fn := fun _ => fun
  | [d] => { results := [.lit (.bool false)], args := [d] }
  | _ => none }
def RaftTellVotesWrongFalsely : Prop := raftTellVotesRow.holds Tryz.pinned (OpenSpec.ofChange raftTellVotesWrong)

/-- 'lecternlaw26.RaftAskAppends': WHATEVER THE INPUT: true; the input reads as it did. -/
def raftAskAppendsSpec : ChangeSpec := { name := "raftAskAppends", fn := fun _ => fun
  | [d] => { results := [.lit (.bool true)], args := [d] }
  | _ => none }
def raftAskAppendsRow : OpenClaim := { program := "ytkpooenofjdpmaagreat", sum := "3399d16a1d5a29c85e52a39bd7a90b2bbbd23f0b8ca4bb5ac9b5ef990c717737", func := "lectern/lecternlaw26.RaftAskAppends", spec := "raftAskAppends", inPlace := ["slices.overlaps[int]"], unfollowed := true, recurses := true, apart := false }
def RaftAskAppendsSaid : Prop := raftAskAppendsRow.holds Tryz.pinned (OpenSpec.ofChange raftAskAppendsSpec)

/-- ITS FALSE NEIGHBOUR: 'it returns false'. Refute it at one input. -/
def raftAskAppendsWrong : ChangeSpec := { name := "raftAskAppends", fn := fun _ => fun
  | [d] => { results := [.lit (.bool false)], args := [d] }
  | _ => none }
def RaftAskAppendsWrongFalsely : Prop := raftAskAppendsRow.holds Tryz.pinned (OpenSpec.ofChange raftAskAppendsWrong)

/-- 'lecternlaw26.RaftTellAppends': WHATEVER THE INPUT: true; the input reads as it did. -/
def raftTellAppendsSpec : ChangeSpec := { name := "raftTellAppends", fn := fun _ => fun
  | [d] => { results := [.lit (.bool true)], args := [d] }
  | _ => none }
def raftTellAppendsRow : OpenClaim := { program := "ytkpooenofjdpmaagreat", sum := "3399d16a1d5a29c85e52a39bd7a90b2bbbd23f0b8ca4bb5ac9b5ef990c717737", func := "lectern/lecternlaw26.RaftTellAppends", spec := "raftTellAppends", inPlace := ["slices.overlaps[int]"], unfollowed := true, recurses := true, apart := false }
def RaftTellAppendsSaid : Prop := raftTellAppendsRow.holds Tryz.pinned (OpenSpec.ofChange raftTellAppendsSpec)

/-- ITS FALSE NEIGHBOUR: 'it returns false'. Refute it at one input. -/
def raftTellAppendsWrong : ChangeSpec := { name := "raftTellAppends", fn := fun _ => fun
  | [d] => { results := [.lit (.bool false)], args := [d] }
  | _ => none }
def RaftTellAppendsWrongFalsely : Prop := raftTellAppendsRow.holds Tryz.pinned (OpenSpec.ofChange raftTellAppendsWrong)

/-- 'lecternlaw26.RaftAskSnaps': WHATEVER THE INPUT: true; the input reads as it did. -/
def raftAskSnapsSpec : ChangeSpec := { name := "raftAskSnaps", fn := fun _ => fun
  | [d] => { results := [.lit (.bool true)], args := [d] }
  | _ => none }
def raftAskSnapsRow : OpenClaim := { program := "ytkpooenofjdpmaagreat", sum := "3399d16a1d5a29c85e52a39bd7a90b2bbbd23f0b8ca4bb5ac9b5ef990c717737", func := "lectern/lecternlaw26.RaftAskSnaps", spec := "raftAskSnaps", inPlace := ["slices.overlaps[int]"], unfollowed := true, recurses := true, apart := false }
def RaftAskSnapsSaid : Prop := raftAskSnapsRow.holds Tryz.pinned (OpenSpec.ofChange raftAskSnapsSpec)

/-- ITS FALSE NEIGHBOUR: 'it returns false'. Refute it at one input. -/
def raftAskSnapsWrong : ChangeSpec := { name := "raftAskSnaps", fn := fun _ => fun
  | [d] => { results := [.lit (.bool false)], args := [d] }
  | _ => none }
def RaftAskSnapsWrongFalsely : Prop := raftAskSnapsRow.holds Tryz.pinned (OpenSpec.ofChange raftAskSnapsWrong)

/-- 'lecternlaw26.RaftTellSnaps': WHATEVER THE INPUT: true; the input reads as it did. -/
def raftTellSnapsSpec : ChangeSpec := { name := "raftTellSnaps", fn := fun _ => fun
  | [d] => { results := [.lit (.bool true)], args := [d] }
  | _ => none }
def raftTellSnapsRow : OpenClaim := { program := "ytkpooenofjdpmaagreat", sum := "3399d16a1d5a29c85e52a39bd7a90b2bbbd23f0b8ca4bb5ac9b5ef990c717737", func := "lectern/lecternlaw26.RaftTellSnaps", spec := "raftTellSnaps", inPlace := ["slices.overlaps[int]"], unfollowed := true, recurses := true, apart := false }
def RaftTellSnapsSaid : Prop := raftTellSnapsRow.holds Tryz.pinned (OpenSpec.ofChange raftTellSnapsSpec)

/-- ITS FALSE NEIGHBOUR: 'it returns false'. Refute it at one input. -/
def raftTellSnapsWrong : ChangeSpec := { name := "raftTellSnaps", fn := fun _ => fun
  | [d] => { results := [.lit (.bool false)], args := [d] }
  | _ => none }
def RaftTellSnapsWrongFalsely : Prop := raftTellSnapsRow.holds Tryz.pinned (OpenSpec.ofChange raftTellSnapsWrong)

/-- 'lecternlaw26.RaftTicks': WHATEVER THE INPUT: true; the input reads as it did. -/
def raftTicksSpec : ChangeSpec := { name := "raftTicks", fn := fun _ => fun
  | [d] => { results := [.lit (.bool true)], args := [d] }
  | _ => none }
def raftTicksRow : OpenClaim := { program := "ytkpooenofjdpmaagreat", sum := "3399d16a1d5a29c85e52a39bd7a90b2bbbd23f0b8ca4bb5ac9b5ef990c717737", func := "lectern/lecternlaw26.RaftTicks", spec := "raftTicks", inPlace := ["slices.overlaps[int]"], unfollowed := true, recurses := true, apart := false }
def RaftTicksSaid : Prop := raftTicksRow.holds Tryz.pinned (OpenSpec.ofChange raftTicksSpec)

/-- ITS FALSE NEIGHBOUR: 'it returns false'. Refute it at one input. -/
def raftTicksWrong : ChangeSpec := { name := "raftTicks", fn := fun _ => fun
  | [d] => { results := [.lit (.bool false)], args := [d] }
  | _ => none }
def RaftTicksWrongFalsely : Prop := raftTicksRow.holds Tryz.pinned (OpenSpec.ofChange raftTicksWrong)

/-- 'lecternlaw26.RaftProposes': WHATEVER THE INPUT: true; the input reads as it did. -/
def raftProposesSpec : ChangeSpec := { name := "raftProposes", fn := fun _ => fun
  | [d] => { results := [.lit (.bool true)], args := [d] }
  | _ => none }
def raftProposesRow : OpenClaim := { program := "ytkpooenofjdpmaagreat", sum := "3399d16a1d5a29c85e52a39bd7a90b2bbbd23f0b8ca4bb5ac9b5ef990c717737", func := "lectern/lecternlaw26.RaftProposes", spec := "raftProposes", inPlace := ["slices.overlaps[int]"], unfollowed := true, recurses := true, apart := false }
def RaftProposesSaid : Prop := raftProposesRow.holds Tryz.pinned (OpenSpec.ofChange raftProposesSpec)

/-- ITS FALSE NEIGHBOUR: 'it returns false'. Refute it at one input. -/
def raftProposesWrong : ChangeSpec := { name := "raftProposes", fn := fun _ => fun
  | [d] => { results := [.lit (.bool false)], args := [d] }
  | _ => none }
def RaftProposesWrongFalsely : Prop := raftProposesRow.holds Tryz.pinned (OpenSpec.ofChange raftProposesWrong)

/-- 'lecternlaw26.RaftCompacts': WHATEVER THE INPUT: true; the input reads as it did. -/
def raftCompactsSpec : ChangeSpec := { name := "raftCompacts", fn := fun _ => fun
  | [d] => { results := [.lit (.bool true)], args := [d] }
  | _ => none }
def raftCompactsRow : OpenClaim := { program := "ytkpooenofjdpmaagreat", sum := "3399d16a1d5a29c85e52a39bd7a90b2bbbd23f0b8ca4bb5ac9b5ef990c717737", func := "lectern/lecternlaw26.RaftCompacts", spec := "raftCompacts", inPlace := ["slices.overlaps[int]"], unfollowed := true, recurses := true, apart := false }
def RaftCompactsSaid : Prop := raftCompactsRow.holds Tryz.pinned (OpenSpec.ofChange raftCompactsSpec)

/-- ITS FALSE NEIGHBOUR: 'it returns false'. Refute it at one input. -/
def raftCompactsWrong : ChangeSpec := { name := "raftCompacts", fn := fun _ => fun
  | [d] => { results := [.lit (.bool false)], args := [d] }
  | _ => none }
def RaftCompactsWrongFalsely : Prop := raftCompactsRow.holds Tryz.pinned (OpenSpec.ofChange raftCompactsWrong)

/-- 'lecternlaw26.RaftReadies': WHATEVER THE INPUT: true; the input reads as it did. -/
def raftReadiesSpec : ChangeSpec := { name := "raftReadies", fn := fun _ => fun
  | [d] => { results := [.lit (.bool true)], args := [d] }
  | _ => none }
def raftReadiesRow : OpenClaim := { program := "ytkpooenofjdpmaagreat", sum := "3399d16a1d5a29c85e52a39bd7a90b2bbbd23f0b8ca4bb5ac9b5ef990c717737", func := "lectern/lecternlaw26.RaftReadies", spec := "raftReadies", inPlace := ["slices.overlaps[int]"], unfollowed := true, recurses := true, apart := false }
def RaftReadiesSaid : Prop := raftReadiesRow.holds Tryz.pinned (OpenSpec.ofChange raftReadiesSpec)

/-- ITS FALSE NEIGHBOUR: 'it returns false'. Refute it at one input. -/
def raftReadiesWrong : ChangeSpec := { name := "raftReadies", fn := fun _ => fun
  | [d] => { results := [.lit (.bool false)], args := [d] }
  | _ => none }
def RaftReadiesWrongFalsely : Prop := raftReadiesRow.holds Tryz.pinned (OpenSpec.ofChange raftReadiesWrong)

/-- 'lecternlaw26.RaftParts': WHATEVER THE INPUT: true; the input reads as it did. -/
def raftPartsSpec : ChangeSpec := { name := "raftParts", fn := fun _ => fun
  | [d] => { results := [.lit (.bool true)], args := [d] }
  | _ => none }
def raftPartsRow : OpenClaim := { program := "ytkpooenofjdpmaagreat", sum := "3399d16a1d5a29c85e52a39bd7a90b2bbbd23f0b8ca4bb5ac9b5ef990c717737", func := "lectern/lecternlaw26.RaftParts", spec := "raftParts", inPlace := ["slices.overlaps[int]"], unfollowed := true, recurses := true, apart := false }
def RaftPartsSaid : Prop := raftPartsRow.holds Tryz.pinned (OpenSpec.ofChange raftPartsSpec)

/-- ITS FALSE NEIGHBOUR: 'it returns false'. Refute it at one input. -/
def raftPartsWrong : ChangeSpec := { name := "raftParts", fn := fun _ => fun
  | [d] => { results := [.lit (.bool false)], args := [d] }
  | _ => none }
def RaftPartsWrongFalsely : Prop := raftPartsRow.holds Tryz.pinned (OpenSpec.ofChange raftPartsWrong)

/- THE SECOND FORM. 'bulk': how many values and letters a reading holds, each counted each time it is reached (what is shared counts as often as it is met; a slice's spare places count too). A statement '..UptoSaid' is the law's where the arguments, and the package variables that the reading takes, are together of bulk at most 1048576: NARROWER than '..Said'. Prove '..Said' where nothing that the law and all that it calls make is longer than what came in: it says more and counts as full. Else prove '..UptoSaid'. A law counts once. -/
mutual
def uptoBulk {H : Type} : DataW H → Nat
  | .lit (.string bytes) => bytes.length + 1
  | .lit _ => 1
  | .nil => 1
  | .ptr d => uptoBulk d + 1
  | .slice elems spare => uptoBulkAll elems + uptoBulkAll spare + 1
  | .agg parts => uptoBulkAll parts + 1
  | .iface _ d => uptoBulk d + 1
  | .map entries => uptoBulkEntries entries + 1
  | .held _ => 1
def uptoBulkAll {H : Type} : List (DataW H) → Nat
  | [] => 0
  | d :: r => uptoBulk d + uptoBulkAll r
def uptoBulkEntries {H : Type} : List (Lit × DataW H) → Nat
  | [] => 0
  | x :: r => uptoBulkEntry x + uptoBulkEntries r
def uptoBulkEntry {H : Type} : Lit × DataW H → Nat
  | (.string bytes, d) => bytes.length + uptoBulk d + 1
  | (_, d) => uptoBulk d + 1
 end
def uptoSmall : (H : Type) → List (DataW H) → Bool := fun _ ds => decide (uptoBulkAll ds ≤ 1048576)
def OpenSpec.upto (s : _root_.Go.ChangeSpec) : _root_.Go.OpenSpec := { _root_.Go.OpenSpec.ofChange s with cond := some uptoSmall }

/-- 'lecternlaw26.RaftAskVotes', WHERE WHAT IT READS IS OF BULK AT MOST 1048576: true; the input reads as it did. -/
def raftAskVotesUptoRow : OpenClaim := { program := "ytkpooenofjdpmaagreat", sum := "3399d16a1d5a29c85e52a39bd7a90b2bbbd23f0b8ca4bb5ac9b5ef990c717737", func := "lectern/lecternlaw26.RaftAskVotes", spec := "raftAskVotes", inPlace := ["slices.overlaps[int]"], unfollowed := true, recurses := true, apart := false, narrowed := true }
def RaftAskVotesUptoSaid : Prop := raftAskVotesUptoRow.holds Tryz.pinned (OpenSpec.upto raftAskVotesSpec)

/-- 'lecternlaw26.RaftTellVotes', WHERE WHAT IT READS IS OF BULK AT MOST 1048576: true; the input reads as it did. -/
def raftTellVotesUptoRow : OpenClaim := { program := "ytkpooenofjdpmaagreat", sum := "3399d16a1d5a29c85e52a39bd7a90b2bbbd23f0b8ca4bb5ac9b5ef990c717737", func := "lectern/lecternlaw26.RaftTellVotes", spec := "raftTellVotes", inPlace := ["slices.overlaps[int]"], unfollowed := true, recurses := true, apart := false, narrowed := true }
def RaftTellVotesUptoSaid : Prop := raftTellVotesUptoRow.holds Tryz.pinned (OpenSpec.upto raftTellVotesSpec)

/-- 'lecternlaw26.RaftAskAppends', WHERE WHAT IT READS IS OF BULK AT MOST 1048576: true; the input reads as it did. -/
def raftAskAppendsUptoRow : OpenClaim := { program := "ytkpooenofjdpmaagreat", sum := "3399d16a1d5a29c85e52a39bd7a90b2bbbd23f0b8ca4bb5ac9b5ef990c717737", func := "lectern/lecternlaw26.RaftAskAppends", spec := "raftAskAppends", inPlace := ["slices.overlaps[int]"], unfollowed := true, recurses := true, apart := false, narrowed := true }
def RaftAskAppendsUptoSaid : Prop := raftAskAppendsUptoRow.holds Tryz.pinned (OpenSpec.upto raftAskAppendsSpec)

/-- 'lecternlaw26.RaftTellAppends', WHERE WHAT IT READS IS OF BULK AT MOST 1048576: true; the input reads as it did. -/
def raftTellAppendsUptoRow : OpenClaim := { program := "ytkpooenofjdpmaagreat", sum := "3399d16a1d5a29c85e52a39bd7a90b2bbbd23f0b8ca4bb5ac9b5ef990c717737", func := "lectern/lecternlaw26.RaftTellAppends", spec := "raftTellAppends", inPlace := ["slices.overlaps[int]"], unfollowed := true, recurses := true, apart := false, narrowed := true }
def RaftTellAppendsUptoSaid : Prop := raftTellAppendsUptoRow.holds Tryz.pinned (OpenSpec.upto raftTellAppendsSpec)

/-- 'lecternlaw26.RaftAskSnaps', WHERE WHAT IT READS IS OF BULK AT MOST 1048576: true; the input reads as it did. -/
def raftAskSnapsUptoRow : OpenClaim := { program := "ytkpooenofjdpmaagreat", sum := "3399d16a1d5a29c85e52a39bd7a90b2bbbd23f0b8ca4bb5ac9b5ef990c717737", func := "lectern/lecternlaw26.RaftAskSnaps", spec := "raftAskSnaps", inPlace := ["slices.overlaps[int]"], unfollowed := true, recurses := true, apart := false, narrowed := true }
def RaftAskSnapsUptoSaid : Prop := raftAskSnapsUptoRow.holds Tryz.pinned (OpenSpec.upto raftAskSnapsSpec)

/-- 'lecternlaw26.RaftTellSnaps', WHERE WHAT IT READS IS OF BULK AT MOST 1048576: true; the input reads as it did. -/
def raftTellSnapsUptoRow : OpenClaim := { program := "ytkpooenofjdpmaagreat", sum := "3399d16a1d5a29c85e52a39bd7a90b2bbbd23f0b8ca4bb5ac9b5ef990c717737", func := "lectern/lecternlaw26.RaftTellSnaps", spec := "raftTellSnaps", inPlace := ["slices.overlaps[int]"], unfollowed := true, recurses := true, apart := false, narrowed := true }
def RaftTellSnapsUptoSaid : Prop := raftTellSnapsUptoRow.holds Tryz.pinned (OpenSpec.upto raftTellSnapsSpec)

/-- 'lecternlaw26.RaftTicks', WHERE WHAT IT READS IS OF BULK AT MOST 1048576: true; the input reads as it did. -/
def raftTicksUptoRow : OpenClaim := { program := "ytkpooenofjdpmaagreat", sum := "3399d16a1d5a29c85e52a39bd7a90b2bbbd23f0b8ca4bb5ac9b5ef990c717737", func := "lectern/lecternlaw26.RaftTicks", spec := "raftTicks", inPlace := ["slices.overlaps[int]"], unfollowed := true, recurses := true, apart := false, narrowed := true }
def RaftTicksUptoSaid : Prop := raftTicksUptoRow.holds Tryz.pinned (OpenSpec.upto raftTicksSpec)

/-- 'lecternlaw26.RaftProposes', WHERE WHAT IT READS IS OF BULK AT MOST 1048576: true; the input reads as it did. -/
def raftProposesUptoRow : OpenClaim := { program := "ytkpooenofjdpmaagreat", sum := "3399d16a1d5a29c85e52a39bd7a90b2bbbd23f0b8ca4bb5ac9b5ef990c717737", func := "lectern/lecternlaw26.RaftProposes", spec := "raftProposes", inPlace := ["slices.overlaps[int]"], unfollowed := true, recurses := true, apart := false, narrowed := true }
def RaftProposesUptoSaid : Prop := raftProposesUptoRow.holds Tryz.pinned (OpenSpec.upto raftProposesSpec)

/-- 'lecternlaw26.RaftCompacts', WHERE WHAT IT READS IS OF BULK AT MOST 1048576: true; the input reads as it did. -/
def raftCompactsUptoRow : OpenClaim := { program := "ytkpooenofjdpmaagreat", sum := "3399d16a1d5a29c85e52a39bd7a90b2bbbd23f0b8ca4bb5ac9b5ef990c717737", func := "lectern/lecternlaw26.RaftCompacts", spec := "raftCompacts", inPlace := ["slices.overlaps[int]"], unfollowed := true, recurses := true, apart := false, narrowed := true }
def RaftCompactsUptoSaid : Prop := raftCompactsUptoRow.holds Tryz.pinned (OpenSpec.upto raftCompactsSpec)

/-- 'lecternlaw26.RaftReadies', WHERE WHAT IT READS IS OF BULK AT MOST 1048576: true; the input reads as it did. -/
def raftReadiesUptoRow : OpenClaim := { program := "ytkpooenofjdpmaagreat", sum := "3399d16a1d5a29c85e52a39bd7a90b2bbbd23f0b8ca4bb5ac9b5ef990c717737", func := "lectern/lecternlaw26.RaftReadies", spec := "raftReadies", inPlace := ["slices.overlaps[int]"], unfollowed := true, recurses := true, apart := false, narrowed := true }
def RaftReadiesUptoSaid : Prop := raftReadiesUptoRow.holds Tryz.pinned (OpenSpec.upto raftReadiesSpec)

/-- 'lecternlaw26.RaftParts', WHERE WHAT IT READS IS OF BULK AT MOST 1048576: true; the input reads as it did. -/
def raftPartsUptoRow : OpenClaim := { program := "ytkpooenofjdpmaagreat", sum := "3399d16a1d5a29c85e52a39bd7a90b2bbbd23f0b8ca4bb5ac9b5ef990c717737", func := "lectern/lecternlaw26.RaftParts", spec := "raftParts", inPlace := ["slices.overlaps[int]"], unfollowed := true, recurses := true, apart := false, narrowed := true }
def RaftPartsUptoSaid : Prop := raftPartsUptoRow.holds Tryz.pinned (OpenSpec.upto raftPartsSpec)

end Rows
end Go.Proofs.YtkpooenofjdpmaaGreat
