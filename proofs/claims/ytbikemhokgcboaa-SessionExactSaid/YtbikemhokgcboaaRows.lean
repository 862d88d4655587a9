/-
  No cell of these rows narrows 'for every input' (looked for: loops, veiled, ifaces, maps, wideKeys, modest, calm, conditions, laid).
  DERIVED. THE GIVEN ROWS OF THIS SEAT. 6 by the template 'for every input the law returns true; each argument reads behind the call as it read before'; 0 by the template 'total and deterministic' (their statements: YtbikemhokgcboaaTotals.lean).
  GIVEN WITH THE SEED: the statements are not yours to turn. If you find one false, say at which input.
  Laid BY PROGRAM, IN A SANDBOX (cutbox-rows.mjs): the forced cells as the released guide's own fill.sh prints them over the translation 4fb955fd1a2983bf… (all of the seat's roots in one cut). By AI agents, Wed Nov 11 2026. No macro, syntax, notation, axiom, sorry.
-/
import Derived.Test.YtbikemhokgcboaaChecked
import GoSem.Claim
import GoSem.ClaimJoined
import GoSem.ClaimMapViews
import Derived.JoinedTies
import Derived.KernelRfl
namespace Go.Proofs.Ytbikemhokgcboaa
/- THE CELL 'sum', in the pinned program and in every row, IS THE sha256 OF THE DUMP (.gsa) THAT YtbikemhokgcboaaProg.lean LOADS. Nothing in Lean hashes anything: it is a label: what it is worth is what the hold of that sum in a sandbox is worth. -/
noncomputable def Try.pinned : Pinned := { name := "ytbikemhokgcboaa", sum := "4fb955fd1a2983bff483dd20a8ca6fc1fddcc3635de7f67ee9fccec169237c18", checked := Try.checked }
namespace Rows
def none {H : Type} : Left H := { results := [], args := [] }

/-- 'lecternlaw14.SessionExact': WHATEVER THE INPUT: true; the input reads as it did. -/
def sessionExactSpec : ChangeSpec := { name := "sessionExact", fn := fun _ => fun
  | [d] => { results := [.lit (.bool true)], args := [d] }
  | _ => none }
def sessionExactRow : OpenClaim := { program := "ytbikemhokgcboaa", sum := "4fb955fd1a2983bff483dd20a8ca6fc1fddcc3635de7f67ee9fccec169237c18", func := "lectern/lecternlaw14.SessionExact", spec := "sessionExact", inPlace := ["slices.overlaps[lectern/api.Session]"], unfollowed := true, recurses := true, apart := false }
def SessionExactSaid : Prop := sessionExactRow.holds Try.pinned (OpenSpec.ofChange sessionExactSpec)

/-- ITS FALSE NEIGHBOUR: 'it returns false'. Refute it at one input. -/
def sessionExactWrong : ChangeSpec := { name := "sessionExact", fn := fun _ => fun
  | [d] => { results := [.lit (.bool false)], args := [d] }
  | _ => none }
def SessionExactWrongFalsely : Prop := sessionExactRow.holds Try.pinned (OpenSpec.ofChange sessionExactWrong)

/-- 'lecternlaw14.SessionOnce': WHATEVER THE INPUT: true; the input reads as it did. -/
def sessionOnceSpec : ChangeSpec := { name := "sessionOnce", fn := fun _ => fun
  | [d] => { results := [.lit (.bool true)], args := [d] }
  | _ => none }
def sessionOnceRow : OpenClaim := { program := "ytbikemhokgcboaa", sum := "4fb955fd1a2983bff483dd20a8ca6fc1fddcc3635de7f67ee9fccec169237c18", func := "lectern/lecternlaw14.SessionOnce", spec := "sessionOnce", inPlace := ["slices.overlaps[lectern/api.Session]"], unfollowed := true, recurses := true, apart := false }
def SessionOnceSaid : Prop := sessionOnceRow.holds Try.pinned (OpenSpec.ofChange sessionOnceSpec)

/-- ITS FALSE NEIGHBOUR: 'it returns false'. Refute it at one input. -/
def sessionOnceWrong : ChangeSpec := { name := "sessionOnce", fn := fun _ => fun
  | [d] => { results := [.lit (.bool false)], args := [d] }
  | _ => none }
def SessionOnceWrongFalsely : Prop := sessionOnceRow.holds Try.pinned (OpenSpec.ofChange sessionOnceWrong)

/-- 'lecternlaw14.SessionOpens': WHATEVER THE INPUT: true; the input reads as it did. -/
def sessionOpensSpec : ChangeSpec := { name := "sessionOpens", fn := fun _ => fun
  | [d] => { results := [.lit (.bool true)], args := [d] }
  | _ => none }
def sessionOpensRow : OpenClaim := { program := "ytbikemhokgcboaa", sum := "4fb955fd1a2983bff483dd20a8ca6fc1fddcc3635de7f67ee9fccec169237c18", func := "lectern/lecternlaw14.SessionOpens", spec := "sessionOpens", inPlace := ["slices.overlaps[lectern/api.Session]"], unfollowed := true, recurses := true, apart := false }
def SessionOpensSaid : Prop := sessionOpensRow.holds Try.pinned (OpenSpec.ofChange sessionOpensSpec)

/-- ITS FALSE NEIGHBOUR: 'it returns false'. Refute it at one input. -/
def sessionOpensWrong : ChangeSpec := { name := "sessionOpens", fn := fun _ => fun
  | [d] => { results := [.lit (.bool false)], args := [d] }
  | _ => none }
def SessionOpensWrongFalsely : Prop := sessionOpensRow.holds Try.pinned (OpenSpec.ofChange sessionOpensWrong)

/-- 'lecternlaw14.SessionDones': WHATEVER THE INPUT: true; the input reads as it did. -/
def sessionDonesSpec : ChangeSpec := { name := "sessionDones", fn := fun _ => fun
  | [d] => { results := [.lit (.bool true)], args := [d] }
  | _ => none }
def sessionDonesRow : OpenClaim := { program := "ytbikemhokgcboaa", sum := "4fb955fd1a2983bff483dd20a8ca6fc1fddcc3635de7f67ee9fccec169237c18", func := "lectern/lecternlaw14.SessionDones", spec := "sessionDones", inPlace := ["slices.overlaps[lectern/api.Session]"], unfollowed := true, recurses := true, apart := false }
def SessionDonesSaid : Prop := sessionDonesRow.holds Try.pinned (OpenSpec.ofChange sessionDonesSpec)

/-- ITS FALSE NEIGHBOUR: 'it returns false'. Refute it at one input. -/
def sessionDonesWrong : ChangeSpec := { name := "sessionDones", fn := fun _ => fun
  | [d] => { results := [.lit (.bool false)], args := [d] }
  | _ => none }
def SessionDonesWrongFalsely : Prop := sessionDonesRow.holds Try.pinned (OpenSpec.ofChange sessionDonesWrong)

/-- 'lecternlaw14.SessionCloses': WHATEVER THE INPUT: true; the input reads as it did. -/
def sessionClosesSpec : ChangeSpec := { name := "sessionCloses", fn := fun _ => fun
  | [d] => { results := [.lit (.bool true)], args := [d] }
  | _ => none }
def sessionClosesRow : OpenClaim := { program := "ytbikemhokgcboaa", sum := "4fb955fd1a2983bff483dd20a8ca6fc1fddcc3635de7f67ee9fccec169237c18", func := "lectern/lecternlaw14.SessionCloses", spec := "sessionCloses", inPlace := ["slices.overlaps[lectern/api.Session]"], unfollowed := true, recurses := true, apart := false }
def SessionClosesSaid : Prop := sessionClosesRow.holds Try.pinned (OpenSpec.ofChange sessionClosesSpec)

/-- ITS FALSE NEIGHBOUR: 'it returns false'. Refute it at one input. -/
def sessionClosesWrong : ChangeSpec := { name := "sessionCloses", fn := fun _ => fun
  | [d] => { results := [.lit (.bool false)], args := [d] }
  | _ => none }
def SessionClosesWrongFalsely : Prop := sessionClosesRow.holds Try.pinned (OpenSpec.ofChange sessionClosesWrong)

/-- 'lecternlaw14.SessionBegins': WHATEVER THE INPUT: true; the input reads as it did. -/
def sessionBeginsSpec : ChangeSpec := { name := "sessionBegins", fn := fun _ => fun
  | [d] => { results := [.lit (.bool true)], args := [d] }
  | _ => none }
def sessionBeginsRow : OpenClaim := { program := "ytbikemhokgcboaa", sum := "4fb955fd1a2983bff483dd20a8ca6fc1fddcc3635de7f67ee9fccec169237c18", func := "lectern/lecternlaw14.SessionBegins", spec := "sessionBegins", inPlace := ["slices.overlaps[lectern/api.Session]"], unfollowed := true, recurses := true, apart := false }
def SessionBeginsSaid : Prop := sessionBeginsRow.holds Try.pinned (OpenSpec.ofChange sessionBeginsSpec)

/-- ITS FALSE NEIGHBOUR: 'it returns false'. Refute it at one input. -/
def sessionBeginsWrong : ChangeSpec := { name := "sessionBegins", fn := fun _ => fun
  | [d] => { results := [.lit (.bool false)], args := [d] }
  | _ => none }
def SessionBeginsWrongFalsely : Prop := sessionBeginsRow.holds Try.pinned (OpenSpec.ofChange sessionBeginsWrong)

/- THE SECOND FORM. 'bulk': how many values and letters a reading holds, each counted each time it is reached (what is shared counts as often as it is met; a slice's spare places count too). A statement '..UptoSaid' is the law's where the arguments, and the package variables that the reading takes, are together of bulk at most 1048576: NARROWER than '..Said'. Prove '..Said' where nothing that the law and all that it calls make is longer than what came in: it says more and counts as full. Else prove '..UptoSaid'. A law counts once. -/
mutual
def uptoBulk {H : Type} : DataW H → Nat
  | .lit (.string bytes) => bytes.length + 1
  | .lit _ => 1
  | .nil => 1
  | .ptr d => uptoBulk d + 1
  | .slice elems spare => uptoBulkAll elems + uptoBulkAll spare + 1
  | .agg parts => uptoBulkAll parts + 1
  | .iface _ d => uptoBulk d + 1
  | .map entries => uptoBulkEntries entries + 1
  | .held _ => 1
def uptoBulkAll {H : Type} : List (DataW H) → Nat
  | [] => 0
  | d :: r => uptoBulk d + uptoBulkAll r
def uptoBulkEntries {H : Type} : List (Lit × DataW H) → Nat
  | [] => 0
  | x :: r => uptoBulkEntry x + uptoBulkEntries r
def uptoBulkEntry {H : Type} : Lit × DataW H → Nat
  | (.string bytes, d) => bytes.length + uptoBulk d + 1
  | (_, d) => uptoBulk d + 1
 end
def uptoSmall : (H : Type) → List (DataW H) → Bool := fun _ ds => decide (uptoBulkAll ds ≤ 1048576)
def OpenSpec.upto (s : _root_.Go.ChangeSpec) : _root_.Go.OpenSpec := { _root_.Go.OpenSpec.ofChange s with cond := some uptoSmall }

/-- 'lecternlaw14.SessionExact', WHERE WHAT IT READS IS OF BULK AT MOST 1048576: true; the input reads as it did. -/
def sessionExactUptoRow : OpenClaim := { program := "ytbikemhokgcboaa", sum := "4fb955fd1a2983bff483dd20a8ca6fc1fddcc3635de7f67ee9fccec169237c18", func := "lectern/lecternlaw14.SessionExact", spec := "sessionExact", inPlace := ["slices.overlaps[lectern/api.Session]"], unfollowed := true, recurses := true, apart := false, narrowed := true }
def SessionExactUptoSaid : Prop := sessionExactUptoRow.holds Try.pinned (OpenSpec.upto sessionExactSpec)

/-- 'lecternlaw14.SessionOnce', WHERE WHAT IT READS IS OF BULK AT MOST 1048576: true; the input reads as it did. -/
def sessionOnceUptoRow : OpenClaim := { program := "ytbikemhokgcboaa", sum := "4fb955fd1a2983bff483dd20a8ca6fc1fddcc3635de7f67ee9fccec169237c18", func := "lectern/lecternlaw14.SessionOnce", spec := "sessionOnce", inPlace := ["slices.overlaps[lectern/api.Session]"], unfollowed := true, recurses := true, apart := false, narrowed := true }
def SessionOnceUptoSaid : Prop := sessionOnceUptoRow.holds Try.pinned (OpenSpec.upto sessionOnceSpec)

/-- 'lecternlaw14.SessionOpens', WHERE WHAT IT READS IS OF BULK AT MOST 1048576: true; the input reads as it did. -/
def sessionOpensUptoRow : OpenClaim := { program := "ytbikemhokgcboaa", sum := "4fb955fd1a2983bff483dd20a8ca6fc1fddcc3635de7f67ee9fccec169237c18", func := "lectern/lecternlaw14.SessionOpens", spec := "sessionOpens", inPlace := ["slices.overlaps[lectern/api.Session]"], unfollowed := true, recurses := true, apart := false, narrowed := true }
def SessionOpensUptoSaid : Prop := sessionOpensUptoRow.holds Try.pinned (OpenSpec.upto sessionOpensSpec)

/-- 'lecternlaw14.SessionDones', WHERE WHAT IT READS IS OF BULK AT MOST 1048576: true; the input reads as it did. -/
def sessionDonesUptoRow : OpenClaim := { program := "ytbikemhokgcboaa", sum := "4fb955fd1a2983bff483dd20a8ca6fc1fddcc3635de7f67ee9fccec169237c18", func := "lectern/lecternlaw14.SessionDones", spec := "sessionDones", inPlace := ["slices.overlaps[lectern/api.Session]"], unfollowed := true, recurses := true, apart := false, narrowed := true }
def SessionDonesUptoSaid : Prop := sessionDonesUptoRow.holds Try.pinned (OpenSpec.upto sessionDonesSpec)

/-- 'lecternlaw14.SessionCloses', WHERE WHAT IT READS IS OF BULK AT MOST 1048576: true; the input reads as it did. -/
def sessionClosesUptoRow : OpenClaim := { program := "ytbikemhokgcboaa", sum := "4fb955fd1a2983bff483dd20a8ca6fc1fddcc3635de7f67ee9fccec169237c18", func := "lectern/lecternlaw14.SessionCloses", spec := "sessionCloses", inPlace := ["slices.overlaps[lectern/api.Session]"], unfollowed := true, recurses := true, apart := false, narrowed := true }
def SessionClosesUptoSaid : Prop := sessionClosesUptoRow.holds Try.pinned (OpenSpec.upto sessionClosesSpec)

/-- 'lecternlaw14.SessionBegins', WHERE WHAT IT READS IS OF BULK AT MOST 1048576: true; the input reads as it did. -/
def sessionBeginsUptoRow : OpenClaim := { program := "ytbikemhokgcboaa", sum := "4fb955fd1a2983bff483dd20a8ca6fc1fddcc3635de7f67ee9fccec169237c18", func := "lectern/lecternlaw14.SessionBegins", spec := "sessionBegins", inPlace := ["slices.overlaps[lectern/api.Session]"], unfollowed := true, recurses := true, apart := false, narrowed := true }
def SessionBeginsUptoSaid : Prop := sessionBeginsUptoRow.holds Try.pinned (OpenSpec.upto sessionBeginsSpec)

end Rows
end Go.Proofs.Ytbikemhokgcboaa
