/-
  No cell of these rows narrows 'for every input' (looked for: loops, veiled, ifaces, maps, wideKeys, modest, calm, conditions, laid).
  DERIVED. THE GIVEN ROWS OF THIS SEAT. 3 by the template 'for every input the law returns true; each argument reads behind the call as it read before'; 0 by the template 'total and deterministic' (their statements: YtpgcelbodpmajaaTotals.lean).
  GIVEN WITH THE SEED: the statements are not yours to turn. If you find one false, say at which input.
  Laid BY PROGRAM, IN A SANDBOX (cutbox-rows.mjs): the forced cells as the released guide's own fill.sh prints them over the translation 6d7249c1a4d9ae75… (all of the seat's roots in one cut). By AI agents, Wed Nov 11 2026. No macro, syntax, notation, axiom, sorry.
-/
import Derived.Test.YtpgcelbodpmajaaChecked
import GoSem.Claim
import GoSem.ClaimJoined
import GoSem.ClaimMapViews
import Derived.JoinedTies
import Derived.KernelRfl
namespace Go.Proofs.Ytpgcelbodpmajaa
/- THE CELL 'sum', in the pinned program and in every row, IS THE sha256 OF THE DUMP (.gsa) THAT YtpgcelbodpmajaaProg.lean LOADS. Nothing in Lean hashes anything: it is a label: what it is worth is what the hold of that sum in a sandbox is worth. -/
noncomputable def Try.pinned : Pinned := { name := "ytpgcelbodpmajaa", sum := "6d7249c1a4d9ae755a399698f2c9e869c25a786aa4dfbd71343e9ade78749554", checked := Try.checked }
namespace Rows
def none {H : Type} : Left H := { results := [], args := [] }

/-- 'lecternlaw24.QuorumExact': WHATEVER THE INPUT: true; the input reads as it did. -/
def quorumExactSpec : ChangeSpec := { name := "quorumExact", fn := fun _ => fun
  | [d] => { results := [.lit (.bool true)], args := [d] }
  | _ => none }
def quorumExactRow : OpenClaim := { program := "ytpgcelbodpmajaa", sum := "6d7249c1a4d9ae755a399698f2c9e869c25a786aa4dfbd71343e9ade78749554", func := "lectern/lecternlaw24.QuorumExact", spec := "quorumExact", unfollowed := true, recurses := true, apart := false }
def QuorumExactSaid : Prop := quorumExactRow.holds Try.pinned (OpenSpec.ofChange quorumExactSpec)

/-- ITS FALSE NEIGHBOUR: 'it returns false'. Refute it at one input. -/
def quorumExactWrong : ChangeSpec := { name := "quorumExact", fn := fun _ => fun
  | [d] => { results := [.lit (.bool false)], args := [d] }
  | _ => none }
def QuorumExactWrongFalsely : Prop := quorumExactRow.holds Try.pinned (OpenSpec.ofChange quorumExactWrong)

/-- 'lecternlaw24.QuorumMeet': WHATEVER THE INPUT: true; the input reads as it did. -/
def quorumMeetSpec : ChangeSpec := { name := "quorumMeet", fn := fun _ => fun
  | [d] => { results := [.lit (.bool true)], args := [d] }
  | _ => none }
def quorumMeetRow : OpenClaim := { program := "ytpgcelbodpmajaa", sum := "6d7249c1a4d9ae755a399698f2c9e869c25a786aa4dfbd71343e9ade78749554", func := "lectern/lecternlaw24.QuorumMeet", spec := "quorumMeet", apart := false }
def QuorumMeetSaid : Prop := quorumMeetRow.holds Try.pinned (OpenSpec.ofChange quorumMeetSpec)

/-- ITS FALSE NEIGHBOUR: 'it returns false'. Refute it at one input. -/
def quorumMeetWrong : ChangeSpec := { name := "quorumMeet", fn := fun _ => fun
  | [d] => { results := [.lit (.bool false)], args := [d] }
  | _ => none }
def QuorumMeetWrongFalsely : Prop := quorumMeetRow.holds Try.pinned (OpenSpec.ofChange quorumMeetWrong)

/-- 'lecternlaw24.QuorumMatch': WHATEVER THE INPUT: true; the input reads as it did. -/
def quorumMatchSpec : ChangeSpec := { name := "quorumMatch", fn := fun _ => fun
  | [d] => { results := [.lit (.bool true)], args := [d] }
  | _ => none }
def quorumMatchRow : OpenClaim := { program := "ytpgcelbodpmajaa", sum := "6d7249c1a4d9ae755a399698f2c9e869c25a786aa4dfbd71343e9ade78749554", func := "lectern/lecternlaw24.QuorumMatch", spec := "quorumMatch", unfollowed := true, recurses := true, apart := false }
def QuorumMatchSaid : Prop := quorumMatchRow.holds Try.pinned (OpenSpec.ofChange quorumMatchSpec)

/-- ITS FALSE NEIGHBOUR: 'it returns false'. Refute it at one input. -/
def quorumMatchWrong : ChangeSpec := { name := "quorumMatch", fn := fun _ => fun
  | [d] => { results := [.lit (.bool false)], args := [d] }
  | _ => none }
def QuorumMatchWrongFalsely : Prop := quorumMatchRow.holds Try.pinned (OpenSpec.ofChange quorumMatchWrong)

/- THE SECOND FORM. 'bulk': how many values and letters a reading holds, each counted each time it is reached (what is shared counts as often as it is met; a slice's spare places count too). A statement '..UptoSaid' is the law's where the arguments, and the package variables that the reading takes, are together of bulk at most 1048576: NARROWER than '..Said'. Prove '..Said' where nothing that the law and all that it calls make is longer than what came in: it says more and counts as full. Else prove '..UptoSaid'. A law counts once. -/
mutual
def uptoBulk {H : Type} : DataW H → Nat
  | .lit (.string bytes) => bytes.length + 1
  | .lit _ => 1
  | .nil => 1
  | .ptr d => uptoBulk d + 1
  | .slice elems spare => uptoBulkAll elems + uptoBulkAll spare + 1
  | .agg parts => uptoBulkAll parts + 1
  | .iface _ d => uptoBulk d + 1
  | .map entries => uptoBulkEntries entries + 1
  | .held _ => 1
def uptoBulkAll {H : Type} : List (DataW H) → Nat
  | [] => 0
  | d :: r => uptoBulk d + uptoBulkAll r
def uptoBulkEntries {H : Type} : List (Lit × DataW H) → Nat
  | [] => 0
  | x :: r => uptoBulkEntry x + uptoBulkEntries r
def uptoBulkEntry {H : Type} : Lit × DataW H → Nat
  | (.string bytes, d) => bytes.length + uptoBulk d + 1
  | (_, d) => uptoBulk d + 1
 end
def uptoSmall : (H : Type) → List (DataW H) → Bool := fun _ ds => decide (uptoBulkAll ds ≤ 1048576)
def OpenSpec.upto (s : _root_.Go.ChangeSpec) : _root_.Go.OpenSpec := { _root_.Go.OpenSpec.ofChange s with cond := some uptoSmall }

/-- 'lecternlaw24.QuorumExact', WHERE WHAT IT READS IS OF BULK AT MOST 1048576: true; the input reads as it did. -/
def quorumExactUptoRow : OpenClaim := { program := "ytpgcelbodpmajaa", sum := "6d7249c1a4d9ae755a399698f2c9e869c25a786aa4dfbd71343e9ade78749554", func := "lectern/lecternlaw24.QuorumExact", spec := "quorumExact", unfollowed := true, recurses := true, apart := false, narrowed := true }
def QuorumExactUptoSaid : Prop := quorumExactUptoRow.holds Try.pinned (OpenSpec.upto quorumExactSpec)

/-- 'lecternlaw24.QuorumMeet', WHERE WHAT IT READS IS OF BULK AT MOST 1048576: true; the input reads as it did. -/
def quorumMeetUptoRow : OpenClaim := { program := "ytpgcelbodpmajaa", sum := "6d7249c1a4d9ae755a399698f2c9e869c25a786aa4dfbd71343e9ade78749554", func := "lectern/lecternlaw24.QuorumMeet", spec := "quorumMeet", apart := false, narrowed := true }
def QuorumMeetUptoSaid : Prop := quorumMeetUptoRow.holds Try.pinned (OpenSpec.upto quorumMeetSpec)

/-- 'lecternlaw24.QuorumMatch', WHERE WHAT IT READS IS OF BULK AT MOST 1048576: true; the input reads as it did. -/
def quorumMatchUptoRow : OpenClaim := { program := "ytpgcelbodpmajaa", sum := "6d7249c1a4d9ae755a399698f2c9e869c25a786aa4dfbd71343e9ade78749554", func := "lectern/lecternlaw24.QuorumMatch", spec := "quorumMatch", unfollowed := true, recurses := true, apart := false, narrowed := true }
def QuorumMatchUptoSaid : Prop := quorumMatchUptoRow.holds Try.pinned (OpenSpec.upto quorumMatchSpec)

end Rows
end Go.Proofs.Ytpgcelbodpmajaa
