/-
  No cell of these rows narrows 'for every input' (looked for: loops, veiled, ifaces, maps, wideKeys, modest, calm, conditions, laid).
  DERIVED. THE GIVEN ROWS OF THIS SEAT. 4 by the template 'for every input the law returns true; each argument reads behind the call as it read before'; 0 by the template 'total and deterministic' (their statements: YtllmocjfllbbfaaTotals.lean).
  GIVEN WITH THE SEED: the statements are not yours to turn. If you find one false, say at which input.
  Laid BY PROGRAM, IN A SANDBOX (cutbox-rows.mjs): the forced cells as the released guide's own fill.sh prints them over the translation 6ea22bb191fe0601… (all of the seat's roots in one cut). By AI agents, Wed Nov 11 2026. No macro, syntax, notation, axiom, sorry.
-/
import Derived.Test.YtllmocjfllbbfaaChecked
import GoSem.Claim
import GoSem.ClaimJoined
import GoSem.ClaimMapViews
import Derived.JoinedTies
import Derived.KernelRfl
namespace Go.Proofs.Ytllmocjfllbbfaa
/- THE CELL 'sum', in the pinned program and in every row, IS THE sha256 OF THE DUMP (.gsa) THAT YtllmocjfllbbfaaProg.lean LOADS. Nothing in Lean hashes anything: it is a label: what it is worth is what the hold of that sum in a sandbox is worth. -/
noncomputable def Try.pinned : Pinned := { name := "ytllmocjfllbbfaa", sum := "6ea22bb191fe06014012157db28edd4b876d07c85b1e9566e8944c86560316b8", checked := Try.checked }
namespace Rows
def none {H : Type} : Left H := { results := [], args := [] }

/-- 'lecternlaw8.SegmentSearches': WHATEVER THE INPUT: true; the input reads as it did. -/
def segmentSearchesSpec : ChangeSpec := { name := "segmentSearches", fn := fun _ => fun
  | [d] => { results := [.lit (.bool true)], args := [d] }
  | _ => none }
def segmentSearchesRow : OpenClaim := { program := "ytllmocjfllbbfaa", sum := "6ea22bb191fe06014012157db28edd4b876d07c85b1e9566e8944c86560316b8", func := "lectern/lecternlaw8.SegmentSearches", spec := "segmentSearches", unfollowed := true, recurses := true, apart := false }
def SegmentSearchesSaid : Prop := segmentSearchesRow.holds Try.pinned (OpenSpec.ofChange segmentSearchesSpec)

/-- ITS FALSE NEIGHBOUR: 'it returns false'. Refute it at one input. -/
def segmentSearchesWrong : ChangeSpec := { name := "segmentSearches", fn := fun _ => fun
  | [d] => { results := [.lit (.bool false)], args := [d] }
  | _ => none }
def SegmentSearchesWrongFalsely : Prop := segmentSearchesRow.holds Try.pinned (OpenSpec.ofChange segmentSearchesWrong)

/-- 'lecternlaw8.SegmentIndex': WHATEVER THE INPUT: true; the input reads as it did. -/
def segmentIndexSpec : ChangeSpec := { name := "segmentIndex", fn := fun _ => fun
  | [d] => { results := [.lit (.bool true)], args := [d] }
  | _ => none }
def segmentIndexRow : OpenClaim := { program := "ytllmocjfllbbfaa", sum := "6ea22bb191fe06014012157db28edd4b876d07c85b1e9566e8944c86560316b8", func := "lectern/lecternlaw8.SegmentIndex", spec := "segmentIndex", unfollowed := true, recurses := true, apart := false }
def SegmentIndexSaid : Prop := segmentIndexRow.holds Try.pinned (OpenSpec.ofChange segmentIndexSpec)

/-- ITS FALSE NEIGHBOUR: 'it returns false'. Refute it at one input. -/
def segmentIndexWrong : ChangeSpec := { name := "segmentIndex", fn := fun _ => fun
  | [d] => { results := [.lit (.bool false)], args := [d] }
  | _ => none }
def SegmentIndexWrongFalsely : Prop := segmentIndexRow.holds Try.pinned (OpenSpec.ofChange segmentIndexWrong)

/-- 'lecternlaw8.SegmentHolds': WHATEVER THE INPUT: true; the input reads as it did. -/
def segmentHoldsSpec : ChangeSpec := { name := "segmentHolds", fn := fun _ => fun
  | [d] => { results := [.lit (.bool true)], args := [d] }
  | _ => none }
def segmentHoldsRow : OpenClaim := { program := "ytllmocjfllbbfaa", sum := "6ea22bb191fe06014012157db28edd4b876d07c85b1e9566e8944c86560316b8", func := "lectern/lecternlaw8.SegmentHolds", spec := "segmentHolds", inPlace := ["internal/bytealg.abigen_runtime_cmpstring"], unfollowed := true, recurses := true, apart := false }
def SegmentHoldsSaid : Prop := segmentHoldsRow.holds Try.pinned (OpenSpec.ofChange segmentHoldsSpec)

/-- ITS FALSE NEIGHBOUR: 'it returns false'. Refute it at one input. -/
def segmentHoldsWrong : ChangeSpec := { name := "segmentHolds", fn := fun _ => fun
  | [d] => { results := [.lit (.bool false)], args := [d] }
  | _ => none }
def SegmentHoldsWrongFalsely : Prop := segmentHoldsRow.holds Try.pinned (OpenSpec.ofChange segmentHoldsWrong)

/-- 'lecternlaw8.SegmentQuotas': WHATEVER THE INPUT: true; the input reads as it did. -/
def segmentQuotasSpec : ChangeSpec := { name := "segmentQuotas", fn := fun _ => fun
  | [d] => { results := [.lit (.bool true)], args := [d] }
  | _ => none }
def segmentQuotasRow : OpenClaim := { program := "ytllmocjfllbbfaa", sum := "6ea22bb191fe06014012157db28edd4b876d07c85b1e9566e8944c86560316b8", func := "lectern/lecternlaw8.SegmentQuotas", spec := "segmentQuotas", unfollowed := true, recurses := true, apart := false }
def SegmentQuotasSaid : Prop := segmentQuotasRow.holds Try.pinned (OpenSpec.ofChange segmentQuotasSpec)

/-- ITS FALSE NEIGHBOUR: 'it returns false'. Refute it at one input. -/
def segmentQuotasWrong : ChangeSpec := { name := "segmentQuotas", fn := fun _ => fun
  | [d] => { results := [.lit (.bool false)], args := [d] }
  | _ => none }
def SegmentQuotasWrongFalsely : Prop := segmentQuotasRow.holds Try.pinned (OpenSpec.ofChange segmentQuotasWrong)

/- THE SECOND FORM. 'bulk': how many values and letters a reading holds, each counted each time it is reached (what is shared counts as often as it is met; a slice's spare places count too). A statement '..UptoSaid' is the law's where the arguments, and the package variables that the reading takes, are together of bulk at most 1048576: NARROWER than '..Said'. Prove '..Said' where nothing that the law and all that it calls make is longer than what came in: it says more and counts as full. Else prove '..UptoSaid'. A law counts once. -/
mutual
def uptoBulk {H : Type} : DataW H → Nat
  | .lit (.string bytes) => bytes.length + 1
  | .lit _ => 1
  | .nil => 1
  | .ptr d => uptoBulk d + 1
  | .slice elems spare => uptoBulkAll elems + uptoBulkAll spare + 1
  | .agg parts => uptoBulkAll parts + 1
  | .iface _ d => uptoBulk d + 1
  | .map entries => uptoBulkEntries entries + 1
  | .held _ => 1
def uptoBulkAll {H : Type} : List (DataW H) → Nat
  | [] => 0
  | d :: r => uptoBulk d + uptoBulkAll r
def uptoBulkEntries {H : Type} : List (Lit × DataW H) → Nat
  | [] => 0
  | x :: r => uptoBulkEntry x + uptoBulkEntries r
def uptoBulkEntry {H : Type} : Lit × DataW H → Nat
  | (.string bytes, d) => bytes.length + uptoBulk d + 1
  | (_, d) => uptoBulk d + 1
 end
def uptoSmall : (H : Type) → List (DataW H) → Bool := fun _ ds => decide (uptoBulkAll ds ≤ 1048576)
def OpenSpec.upto (s : _root_.Go.ChangeSpec) : _root_.Go.OpenSpec := { _root_.Go.OpenSpec.ofChange s with cond := some uptoSmall }

/-- 'lecternlaw8.SegmentSearches', WHERE WHAT IT READS IS OF BULK AT MOST 1048576: true; the input reads as it did. -/
def segmentSearchesUptoRow : OpenClaim := { program := "ytllmocjfllbbfaa", sum := "6ea22bb191fe06014012157db28edd4b876d07c85b1e9566e8944c86560316b8", func := "lectern/lecternlaw8.SegmentSearches", spec := "segmentSearches", unfollowed := true, recurses := true, apart := false, narrowed := true }
def SegmentSearchesUptoSaid : Prop := segmentSearchesUptoRow.holds Try.pinned (OpenSpec.upto segmentSearchesSpec)

/-- 'lecternlaw8.SegmentIndex', WHERE WHAT IT READS IS OF BULK AT MOST 1048576: true; the input reads as it did. -/
def segmentIndexUptoRow : OpenClaim := { program := "ytllmocjfllbbfaa", sum := "6ea22bb191fe06014012157db28edd4b876d07c85b1e9566e8944c86560316b8", func := "lectern/lecternlaw8.SegmentIndex", spec := "segmentIndex", unfollowed := true, recurses := true, apart := false, narrowed := true }
def SegmentIndexUptoSaid : Prop := segmentIndexUptoRow.holds Try.pinned (OpenSpec.upto segmentIndexSpec)

/-- 'lecternlaw8.SegmentHolds', WHERE WHAT IT READS IS OF BULK AT MOST 1048576: true; the input reads as it did. -/
def segmentHoldsUptoRow : OpenClaim := { program := "ytllmocjfllbbfaa", sum := "6ea22bb191fe06014012157db28edd4b876d07c85b1e9566e8944c86560316b8", func := "lectern/lecternlaw8.SegmentHolds", spec := "segmentHolds", inPlace := ["internal/bytealg.abigen_runtime_cmpstring"], unfollowed := true, recurses := true, apart := false, narrowed := true }
def SegmentHoldsUptoSaid : Prop := segmentHoldsUptoRow.holds Try.pinned (OpenSpec.upto segmentHoldsSpec)

/-- 'lecternlaw8.SegmentQuotas', WHERE WHAT IT READS IS OF BULK AT MOST 1048576: true; the input reads as it did. -/
def segmentQuotasUptoRow : OpenClaim := { program := "ytllmocjfllbbfaa", sum := "6ea22bb191fe06014012157db28edd4b876d07c85b1e9566e8944c86560316b8", func := "lectern/lecternlaw8.SegmentQuotas", spec := "segmentQuotas", unfollowed := true, recurses := true, apart := false, narrowed := true }
def SegmentQuotasUptoSaid : Prop := segmentQuotasUptoRow.holds Try.pinned (OpenSpec.upto segmentQuotasSpec)

end Rows
end Go.Proofs.Ytllmocjfllbbfaa
