/-
  No cell of these rows narrows 'for every input' (looked for: loops, veiled, ifaces, maps, wideKeys, modest, calm, conditions, laid).
  DERIVED. THE GIVEN ROWS OF THIS SEAT. 4 by the template 'for every input the law returns true; each argument reads behind the call as it read before'; 0 by the template 'total and deterministic' (their statements: YtkmcdhllldlbgaaTotals.lean).
  GIVEN WITH THE SEED: the statements are not yours to turn. If you find one false, say at which input.
  Laid BY PROGRAM, IN A SANDBOX (cutbox-rows.mjs): the forced cells as the released guide's own fill.sh prints them over the translation 36f14248e664c687… (all of the seat's roots in one cut). By AI agents, Wed Nov 11 2026. No macro, syntax, notation, axiom, sorry.
-/
import Derived.Test.YtkmcdhllldlbgaaChecked
import GoSem.Claim
import GoSem.ClaimJoined
import GoSem.ClaimMapViews
import Derived.JoinedTies
import Derived.KernelRfl
namespace Go.Proofs.Ytkmcdhllldlbgaa
/- THE CELL 'sum', in the pinned program and in every row, IS THE sha256 OF THE DUMP (.gsa) THAT YtkmcdhllldlbgaaProg.lean LOADS. Nothing in Lean hashes anything: it is a label: what it is worth is what the hold of that sum in a sandbox is worth. -/
noncomputable def Try.pinned : Pinned := { name := "ytkmcdhllldlbgaa", sum := "36f14248e664c687735018c61fc8e1ddc03fd2299b08526f2b799bac08833977", checked := Try.checked }
namespace Rows
def none {H : Type} : Left H := { results := [], args := [] }

/-- 'lecternlaw7.BoundsTexts': WHATEVER THE INPUT: true; the input reads as it did. -/
def boundsTextsSpec : ChangeSpec := { name := "boundsTexts", fn := fun _ => fun
  | [d] => { results := [.lit (.bool true)], args := [d] }
  | _ => none }
def boundsTextsRow : OpenClaim := { program := "ytkmcdhllldlbgaa", sum := "36f14248e664c687735018c61fc8e1ddc03fd2299b08526f2b799bac08833977", func := "lectern/lecternlaw7.BoundsTexts", spec := "boundsTexts", unfollowed := true, recurses := true, apart := false }
def BoundsTextsSaid : Prop := boundsTextsRow.holds Try.pinned (OpenSpec.ofChange boundsTextsSpec)

/-- ITS FALSE NEIGHBOUR: 'it returns false'. Refute it at one input. -/
def boundsTextsWrong : ChangeSpec := { name := "boundsTexts", fn := fun _ => fun
  | [d] => { results := [.lit (.bool false)], args := [d] }
  | _ => none }
def BoundsTextsWrongFalsely : Prop := boundsTextsRow.holds Try.pinned (OpenSpec.ofChange boundsTextsWrong)

/-- 'lecternlaw7.BoundsWhere': WHATEVER THE INPUT: true; the input reads as it did. -/
def boundsWhereSpec : ChangeSpec := { name := "boundsWhere", fn := fun _ => fun
  | [d] => { results := [.lit (.bool true)], args := [d] }
  | _ => none }
def boundsWhereRow : OpenClaim := { program := "ytkmcdhllldlbgaa", sum := "36f14248e664c687735018c61fc8e1ddc03fd2299b08526f2b799bac08833977", func := "lectern/lecternlaw7.BoundsWhere", spec := "boundsWhere", unfollowed := true, recurses := true, apart := false }
def BoundsWhereSaid : Prop := boundsWhereRow.holds Try.pinned (OpenSpec.ofChange boundsWhereSpec)

/-- ITS FALSE NEIGHBOUR: 'it returns false'. Refute it at one input. -/
def boundsWhereWrong : ChangeSpec := { name := "boundsWhere", fn := fun _ => fun
  | [d] => { results := [.lit (.bool false)], args := [d] }
  | _ => none }
def BoundsWhereWrongFalsely : Prop := boundsWhereRow.holds Try.pinned (OpenSpec.ofChange boundsWhereWrong)

/-- 'lecternlaw7.BoundsBack': WHATEVER THE INPUT: true; the input reads as it did. -/
def boundsBackSpec : ChangeSpec := { name := "boundsBack", fn := fun _ => fun
  | [d] => { results := [.lit (.bool true)], args := [d] }
  | _ => none }
def boundsBackRow : OpenClaim := { program := "ytkmcdhllldlbgaa", sum := "36f14248e664c687735018c61fc8e1ddc03fd2299b08526f2b799bac08833977", func := "lectern/lecternlaw7.BoundsBack", spec := "boundsBack", unfollowed := true, recurses := true, apart := false }
def BoundsBackSaid : Prop := boundsBackRow.holds Try.pinned (OpenSpec.ofChange boundsBackSpec)

/-- ITS FALSE NEIGHBOUR: 'it returns false'. Refute it at one input. -/
def boundsBackWrong : ChangeSpec := { name := "boundsBack", fn := fun _ => fun
  | [d] => { results := [.lit (.bool false)], args := [d] }
  | _ => none }
def BoundsBackWrongFalsely : Prop := boundsBackRow.holds Try.pinned (OpenSpec.ofChange boundsBackWrong)

/-- 'lecternlaw7.BoundsQuotas': WHATEVER THE INPUT: true; the input reads as it did. -/
def boundsQuotasSpec : ChangeSpec := { name := "boundsQuotas", fn := fun _ => fun
  | [d] => { results := [.lit (.bool true)], args := [d] }
  | _ => none }
def boundsQuotasRow : OpenClaim := { program := "ytkmcdhllldlbgaa", sum := "36f14248e664c687735018c61fc8e1ddc03fd2299b08526f2b799bac08833977", func := "lectern/lecternlaw7.BoundsQuotas", spec := "boundsQuotas", unfollowed := true, recurses := true, apart := false }
def BoundsQuotasSaid : Prop := boundsQuotasRow.holds Try.pinned (OpenSpec.ofChange boundsQuotasSpec)

/-- ITS FALSE NEIGHBOUR: 'it returns false'. Refute it at one input. -/
def boundsQuotasWrong : ChangeSpec := { name := "boundsQuotas", fn := fun _ => fun
  | [d] => { results := [.lit (.bool false)], args := [d] }
  | _ => none }
def BoundsQuotasWrongFalsely : Prop := boundsQuotasRow.holds Try.pinned (OpenSpec.ofChange boundsQuotasWrong)

/- THE SECOND FORM. 'bulk': how many values and letters a reading holds, each counted each time it is reached (what is shared counts as often as it is met; a slice's spare places count too). A statement '..UptoSaid' is the law's where the arguments, and the package variables that the reading takes, are together of bulk at most 1048576: NARROWER than '..Said'. Prove '..Said' where nothing that the law and all that it calls make is longer than what came in: it says more and counts as full. Else prove '..UptoSaid'. A law counts once. -/
mutual
def uptoBulk {H : Type} : DataW H → Nat
  | .lit (.string bytes) => bytes.length + 1
  | .lit _ => 1
  | .nil => 1
  | .ptr d => uptoBulk d + 1
  | .slice elems spare => uptoBulkAll elems + uptoBulkAll spare + 1
  | .agg parts => uptoBulkAll parts + 1
  | .iface _ d => uptoBulk d + 1
  | .map entries => uptoBulkEntries entries + 1
  | .held _ => 1
def uptoBulkAll {H : Type} : List (DataW H) → Nat
  | [] => 0
  | d :: r => uptoBulk d + uptoBulkAll r
def uptoBulkEntries {H : Type} : List (Lit × DataW H) → Nat
  | [] => 0
  | x :: r => uptoBulkEntry x + uptoBulkEntries r
def uptoBulkEntry {H : Type} : Lit × DataW H → Nat
  | (.string bytes, d) => bytes.length + uptoBulk d + 1
  | (_, d) => uptoBulk d + 1
 end
def uptoSmall : (H : Type) → List (DataW H) → Bool := fun _ ds => decide (uptoBulkAll ds ≤ 1048576)
def OpenSpec.upto (s : _root_.Go.ChangeSpec) : _root_.Go.OpenSpec := { _root_.Go.OpenSpec.ofChange s with cond := some uptoSmall }

/-- 'lecternlaw7.BoundsTexts', WHERE WHAT IT READS IS OF BULK AT MOST 1048576: true; the input reads as it did. -/
def boundsTextsUptoRow : OpenClaim := { program := "ytkmcdhllldlbgaa", sum := "36f14248e664c687735018c61fc8e1ddc03fd2299b08526f2b799bac08833977", func := "lectern/lecternlaw7.BoundsTexts", spec := "boundsTexts", unfollowed := true, recurses := true, apart := false, narrowed := true }
def BoundsTextsUptoSaid : Prop := boundsTextsUptoRow.holds Try.pinned (OpenSpec.upto boundsTextsSpec)

/-- 'lecternlaw7.BoundsWhere', WHERE WHAT IT READS IS OF BULK AT MOST 1048576: true; the input reads as it did. -/
def boundsWhereUptoRow : OpenClaim := { program := "ytkmcdhllldlbgaa", sum := "36f14248e664c687735018c61fc8e1ddc03fd2299b08526f2b799bac08833977", func := "lectern/lecternlaw7.BoundsWhere", spec := "boundsWhere", unfollowed := true, recurses := true, apart := false, narrowed := true }
def BoundsWhereUptoSaid : Prop := boundsWhereUptoRow.holds Try.pinned (OpenSpec.upto boundsWhereSpec)

/-- 'lecternlaw7.BoundsBack', WHERE WHAT IT READS IS OF BULK AT MOST 1048576: true; the input reads as it did. -/
def boundsBackUptoRow : OpenClaim := { program := "ytkmcdhllldlbgaa", sum := "36f14248e664c687735018c61fc8e1ddc03fd2299b08526f2b799bac08833977", func := "lectern/lecternlaw7.BoundsBack", spec := "boundsBack", unfollowed := true, recurses := true, apart := false, narrowed := true }
def BoundsBackUptoSaid : Prop := boundsBackUptoRow.holds Try.pinned (OpenSpec.upto boundsBackSpec)

/-- 'lecternlaw7.BoundsQuotas', WHERE WHAT IT READS IS OF BULK AT MOST 1048576: true; the input reads as it did. -/
def boundsQuotasUptoRow : OpenClaim := { program := "ytkmcdhllldlbgaa", sum := "36f14248e664c687735018c61fc8e1ddc03fd2299b08526f2b799bac08833977", func := "lectern/lecternlaw7.BoundsQuotas", spec := "boundsQuotas", unfollowed := true, recurses := true, apart := false, narrowed := true }
def BoundsQuotasUptoSaid : Prop := boundsQuotasUptoRow.holds Try.pinned (OpenSpec.upto boundsQuotasSpec)

end Rows
end Go.Proofs.Ytkmcdhllldlbgaa
