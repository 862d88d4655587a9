/-
  No cell of these rows narrows 'for every input' (looked for: loops, veiled, ifaces, maps, wideKeys, modest, calm, conditions, laid).
  DERIVED. THE GIVEN ROWS OF THIS SEAT. 7 by the template 'for every input the law returns true; each argument reads behind the call as it read before'; 0 by the template 'total and deterministic' (their statements: YtcbakncjacnnjaaGreatTotals.lean).
  GIVEN WITH THE SEED: the statements are not yours to turn. If you find one false, say at which input.
  Laid BY PROGRAM, IN A SANDBOX (cutbox-rows.mjs): the forced cells as the released guide's own fill.sh prints them over the translation 7a0fca122711cfa6… (all of the seat's roots in one cut). By AI agents, Wed Nov 11 2026. No macro, syntax, notation, axiom, sorry.
-/
import Derived.Test.YtcbakncjacnnjaaGreatChecked
import GoSem.Claim
import GoSem.ClaimJoined
import GoSem.ClaimMapViews
import Derived.JoinedTies
import Derived.KernelRfl
namespace Go.Proofs.YtcbakncjacnnjaaGreat
/- THE CELL 'sum', in the pinned program and in every row, IS THE sha256 OF THE DUMP (.gsa) THAT YtcbakncjacnnjaaGreatProg.lean LOADS. Nothing in Lean hashes anything: it is a label: what it is worth is what the hold of that sum in a sandbox is worth. -/
noncomputable def Tryz.pinned : Pinned := { name := "ytcbakncjacnnjaagreat", sum := "7a0fca122711cfa648c1c688ca36dcdcf6d5223ce52e81a7c87023c38506b0ea", checked := Tryz.checked }
namespace Rows
def none {H : Type} : Left H := { results := [], args := [] }

/-- 'lecternlaw13.ShelfExact': WHATEVER THE INPUT: true; the input reads as it did. -/
def shelfExactSpec : ChangeSpec := { name := "shelfExact", fn := fun _ => fun
  | [d] => { results := [.lit (.bool true)], args := [d] }
  | _ => none }
def shelfExactRow : OpenClaim := { program := "ytcbakncjacnnjaagreat", sum := "7a0fca122711cfa648c1c688ca36dcdcf6d5223ce52e81a7c87023c38506b0ea", func := "lectern/lecternlaw13.ShelfExact", spec := "shelfExact", inPlace := ["internal/bytealg.abigen_runtime_cmpstring", "slices.overlaps[lectern/api.Doc]", "internal/bytealg.IndexByteString", "internal/bytealg.IndexString", "slices.overlaps[string]", "slices.overlaps[lectern/shelf.part]"], unfollowed := true, recurses := true, named := ["internal/bytealg.MaxLen"], apart := false }
def ShelfExactSaid : Prop := shelfExactRow.holds Tryz.pinned (OpenSpec.ofChange shelfExactSpec)

/-- ITS FALSE NEIGHBOUR: 'it returns false'. Refute it at one input. -/
def shelfExactWrong : ChangeSpec := { name := "shelfExact", fn := fun _ => fun
  | [d] => { results := [.lit (.bool false)], args := [d] }
  | _ => none }
def ShelfExactWrongFalsely : Prop := shelfExactRow.holds Tryz.pinned (OpenSpec.ofChange shelfExactWrong)

/-- 'lecternlaw13.ShelfSame': WHATEVER THE INPUT: true; the input reads as it did. -/
def shelfSameSpec : ChangeSpec := { name := "shelfSame", fn := fun _ => fun
  | [d] => { results := [.lit (.bool true)], args := [d] }
  | _ => none }
def shelfSameRow : OpenClaim := { program := "ytcbakncjacnnjaagreat", sum := "7a0fca122711cfa648c1c688ca36dcdcf6d5223ce52e81a7c87023c38506b0ea", func := "lectern/lecternlaw13.ShelfSame", spec := "shelfSame", inPlace := ["internal/bytealg.abigen_runtime_cmpstring", "slices.overlaps[lectern/api.Doc]", "internal/bytealg.IndexByteString", "internal/bytealg.IndexString", "slices.overlaps[string]", "slices.overlaps[lectern/shelf.part]"], unfollowed := true, recurses := true, named := ["internal/bytealg.MaxLen"], apart := false }
def ShelfSameSaid : Prop := shelfSameRow.holds Tryz.pinned (OpenSpec.ofChange shelfSameSpec)

/-- ITS FALSE NEIGHBOUR: 'it returns false'. Refute it at one input. -/
def shelfSameWrong : ChangeSpec := { name := "shelfSame", fn := fun _ => fun
  | [d] => { results := [.lit (.bool false)], args := [d] }
  | _ => none }
def ShelfSameWrongFalsely : Prop := shelfSameRow.holds Tryz.pinned (OpenSpec.ofChange shelfSameWrong)

/-- 'lecternlaw13.ShelfCounts': WHATEVER THE INPUT: true; the input reads as it did. -/
def shelfCountsSpec : ChangeSpec := { name := "shelfCounts", fn := fun _ => fun
  | [d] => { results := [.lit (.bool true)], args := [d] }
  | _ => none }
def shelfCountsRow : OpenClaim := { program := "ytcbakncjacnnjaagreat", sum := "7a0fca122711cfa648c1c688ca36dcdcf6d5223ce52e81a7c87023c38506b0ea", func := "lectern/lecternlaw13.ShelfCounts", spec := "shelfCounts", inPlace := ["internal/bytealg.abigen_runtime_cmpstring", "slices.overlaps[lectern/api.Doc]", "internal/bytealg.IndexByteString", "internal/bytealg.IndexString", "slices.overlaps[string]"], unfollowed := true, recurses := true, named := ["internal/bytealg.MaxLen"], apart := false }
def ShelfCountsSaid : Prop := shelfCountsRow.holds Tryz.pinned (OpenSpec.ofChange shelfCountsSpec)

/-- ITS FALSE NEIGHBOUR: 'it returns false'. Refute it at one input. -/
def shelfCountsWrong : ChangeSpec := { name := "shelfCounts", fn := fun _ => fun
  | [d] => { results := [.lit (.bool false)], args := [d] }
  | _ => none }
def ShelfCountsWrongFalsely : Prop := shelfCountsRow.holds Tryz.pinned (OpenSpec.ofChange shelfCountsWrong)

/-- 'lecternlaw13.ShelfAdds': WHATEVER THE INPUT: true; the input reads as it did. -/
def shelfAddsSpec : ChangeSpec := { name := "shelfAdds", fn := fun _ => fun
  | [d] => { results := [.lit (.bool true)], args := [d] }
  | _ => none }
def shelfAddsRow : OpenClaim := { program := "ytcbakncjacnnjaagreat", sum := "7a0fca122711cfa648c1c688ca36dcdcf6d5223ce52e81a7c87023c38506b0ea", func := "lectern/lecternlaw13.ShelfAdds", spec := "shelfAdds", inPlace := ["internal/bytealg.abigen_runtime_cmpstring", "slices.overlaps[lectern/api.Doc]", "internal/bytealg.IndexByteString", "internal/bytealg.IndexString"], unfollowed := true, recurses := true, named := ["internal/bytealg.MaxLen"], apart := false }
def ShelfAddsSaid : Prop := shelfAddsRow.holds Tryz.pinned (OpenSpec.ofChange shelfAddsSpec)

/-- ITS FALSE NEIGHBOUR: 'it returns false'. Refute it at one input. -/
def shelfAddsWrong : ChangeSpec := { name := "shelfAdds", fn := fun _ => fun
  | [d] => { results := [.lit (.bool false)], args := [d] }
  | _ => none }
def ShelfAddsWrongFalsely : Prop := shelfAddsRow.holds Tryz.pinned (OpenSpec.ofChange shelfAddsWrong)

/-- 'lecternlaw13.ShelfDeletes': WHATEVER THE INPUT: true; the input reads as it did. -/
def shelfDeletesSpec : ChangeSpec := { name := "shelfDeletes", fn := fun _ => fun
  | [d] => { results := [.lit (.bool true)], args := [d] }
  | _ => none }
def shelfDeletesRow : OpenClaim := { program := "ytcbakncjacnnjaagreat", sum := "7a0fca122711cfa648c1c688ca36dcdcf6d5223ce52e81a7c87023c38506b0ea", func := "lectern/lecternlaw13.ShelfDeletes", spec := "shelfDeletes", inPlace := ["internal/bytealg.abigen_runtime_cmpstring", "slices.overlaps[string]", "internal/bytealg.IndexByteString", "internal/bytealg.IndexString", "slices.overlaps[lectern/api.Doc]"], unfollowed := true, recurses := true, named := ["internal/bytealg.MaxLen"], apart := false }
def ShelfDeletesSaid : Prop := shelfDeletesRow.holds Tryz.pinned (OpenSpec.ofChange shelfDeletesSpec)

/-- ITS FALSE NEIGHBOUR: 'it returns false'. Refute it at one input. -/
def shelfDeletesWrong : ChangeSpec := { name := "shelfDeletes", fn := fun _ => fun
  | [d] => { results := [.lit (.bool false)], args := [d] }
  | _ => none }
def ShelfDeletesWrongFalsely : Prop := shelfDeletesRow.holds Tryz.pinned (OpenSpec.ofChange shelfDeletesWrong)

/-- 'lecternlaw13.ShelfSearches': WHATEVER THE INPUT: true; the input reads as it did. -/
def shelfSearchesSpec : ChangeSpec := { name := "shelfSearches", fn := fun _ => fun
  | [d] => { results := [.lit (.bool true)], args := [d] }
  | _ => none }
def shelfSearchesRow : OpenClaim := { program := "ytcbakncjacnnjaagreat", sum := "7a0fca122711cfa648c1c688ca36dcdcf6d5223ce52e81a7c87023c38506b0ea", func := "lectern/lecternlaw13.ShelfSearches", spec := "shelfSearches", inPlace := ["internal/bytealg.IndexByteString", "internal/bytealg.IndexString", "internal/bytealg.abigen_runtime_cmpstring", "slices.overlaps[lectern/shelf.part]", "slices.overlaps[lectern/api.Doc]"], unfollowed := true, recurses := true, named := ["internal/bytealg.MaxLen"], apart := false }
def ShelfSearchesSaid : Prop := shelfSearchesRow.holds Tryz.pinned (OpenSpec.ofChange shelfSearchesSpec)

/-- ITS FALSE NEIGHBOUR: 'it returns false'. Refute it at one input. -/
def shelfSearchesWrong : ChangeSpec := { name := "shelfSearches", fn := fun _ => fun
  | [d] => { results := [.lit (.bool false)], args := [d] }
  | _ => none }
def ShelfSearchesWrongFalsely : Prop := shelfSearchesRow.holds Tryz.pinned (OpenSpec.ofChange shelfSearchesWrong)

/-- 'lecternlaw13.ShelfTiers': WHATEVER THE INPUT: true; the input reads as it did. -/
def shelfTiersSpec : ChangeSpec := { name := "shelfTiers", fn := fun _ => fun
  | [d] => { results := [.lit (.bool true)], args := [d] }
  | _ => none }
def shelfTiersRow : OpenClaim := { program := "ytcbakncjacnnjaagreat", sum := "7a0fca122711cfa648c1c688ca36dcdcf6d5223ce52e81a7c87023c38506b0ea", func := "lectern/lecternlaw13.ShelfTiers", spec := "shelfTiers", inPlace := ["internal/bytealg.abigen_runtime_cmpstring", "slices.overlaps[lectern/api.Doc]", "slices.overlaps[lectern/shelf.part]", "internal/bytealg.IndexByteString", "internal/bytealg.IndexString", "slices.overlaps[string]"], unfollowed := true, recurses := true, named := ["internal/bytealg.MaxLen"], apart := false }
def ShelfTiersSaid : Prop := shelfTiersRow.holds Tryz.pinned (OpenSpec.ofChange shelfTiersSpec)

/-- ITS FALSE NEIGHBOUR: 'it returns false'. Refute it at one input. -/
def shelfTiersWrong : ChangeSpec := { name := "shelfTiers", fn := fun _ => fun
  | [d] => { results := [.lit (.bool false)], args := [d] }
  | _ => none }
def ShelfTiersWrongFalsely : Prop := shelfTiersRow.holds Tryz.pinned (OpenSpec.ofChange shelfTiersWrong)

/- THE SECOND FORM. 'bulk': how many values and letters a reading holds, each counted each time it is reached (what is shared counts as often as it is met; a slice's spare places count too). A statement '..UptoSaid' is the law's where the arguments, and the package variables that the reading takes, are together of bulk at most 1048576: NARROWER than '..Said'. Prove '..Said' where nothing that the law and all that it calls make is longer than what came in: it says more and counts as full. Else prove '..UptoSaid'. A law counts once. -/
mutual
def uptoBulk {H : Type} : DataW H → Nat
  | .lit (.string bytes) => bytes.length + 1
  | .lit _ => 1
  | .nil => 1
  | .ptr d => uptoBulk d + 1
  | .slice elems spare => uptoBulkAll elems + uptoBulkAll spare + 1
  | .agg parts => uptoBulkAll parts + 1
  | .iface _ d => uptoBulk d + 1
  | .map entries => uptoBulkEntries entries + 1
  | .held _ => 1
def uptoBulkAll {H : Type} : List (DataW H) → Nat
  | [] => 0
  | d :: r => uptoBulk d + uptoBulkAll r
def uptoBulkEntries {H : Type} : List (Lit × DataW H) → Nat
  | [] => 0
  | x :: r => uptoBulkEntry x + uptoBulkEntries r
def uptoBulkEntry {H : Type} : Lit × DataW H → Nat
  | (.string bytes, d) => bytes.length + uptoBulk d + 1
  | (_, d) => uptoBulk d + 1
 end
def uptoSmall : (H : Type) → List (DataW H) → Bool := fun _ ds => decide (uptoBulkAll ds ≤ 1048576)
def OpenSpec.upto (s : _root_.Go.ChangeSpec) : _root_.Go.OpenSpec := { _root_.Go.OpenSpec.ofChange s with cond := some uptoSmall }

/-- 'lecternlaw13.ShelfExact', WHERE WHAT IT READS IS OF BULK AT MOST 1048576: true; the input reads as it did. -/
def shelfExactUptoRow : OpenClaim := { program := "ytcbakncjacnnjaagreat", sum := "7a0fca122711cfa648c1c688ca36dcdcf6d5223ce52e81a7c87023c38506b0ea", func := "lectern/lecternlaw13.ShelfExact", spec := "shelfExact", inPlace := ["internal/bytealg.abigen_runtime_cmpstring", "slices.overlaps[lectern/api.Doc]", "internal/bytealg.IndexByteString", "internal/bytealg.IndexString", "slices.overlaps[string]", "slices.overlaps[lectern/shelf.part]"], unfollowed := true, recurses := true, named := ["internal/bytealg.MaxLen"], apart := false, narrowed := true }
def ShelfExactUptoSaid : Prop := shelfExactUptoRow.holds Tryz.pinned (OpenSpec.upto shelfExactSpec)

/-- 'lecternlaw13.ShelfSame', WHERE WHAT IT READS IS OF BULK AT MOST 1048576: true; the input reads as it did. -/
def shelfSameUptoRow : OpenClaim := { program := "ytcbakncjacnnjaagreat", sum := "7a0fca122711cfa648c1c688ca36dcdcf6d5223ce52e81a7c87023c38506b0ea", func := "lectern/lecternlaw13.ShelfSame", spec := "shelfSame", inPlace := ["internal/bytealg.abigen_runtime_cmpstring", "slices.overlaps[lectern/api.Doc]", "internal/bytealg.IndexByteString", "internal/bytealg.IndexString", "slices.overlaps[string]", "slices.overlaps[lectern/shelf.part]"], unfollowed := true, recurses := true, named := ["internal/bytealg.MaxLen"], apart := false, narrowed := true }
def ShelfSameUptoSaid : Prop := shelfSameUptoRow.holds Tryz.pinned (OpenSpec.upto shelfSameSpec)

/-- 'lecternlaw13.ShelfCounts', WHERE WHAT IT READS IS OF BULK AT MOST 1048576: true; the input reads as it did. -/
def shelfCountsUptoRow : OpenClaim := { program := "ytcbakncjacnnjaagreat", sum := "7a0fca122711cfa648c1c688ca36dcdcf6d5223ce52e81a7c87023c38506b0ea", func := "lectern/lecternlaw13.ShelfCounts", spec := "shelfCounts", inPlace := ["internal/bytealg.abigen_runtime_cmpstring", "slices.overlaps[lectern/api.Doc]", "internal/bytealg.IndexByteString", "internal/bytealg.IndexString", "slices.overlaps[string]"], unfollowed := true, recurses := true, named := ["internal/bytealg.MaxLen"], apart := false, narrowed := true }
def ShelfCountsUptoSaid : Prop := shelfCountsUptoRow.holds Tryz.pinned (OpenSpec.upto shelfCountsSpec)

/-- 'lecternlaw13.ShelfAdds', WHERE WHAT IT READS IS OF BULK AT MOST 1048576: true; the input reads as it did. -/
def shelfAddsUptoRow : OpenClaim := { program := "ytcbakncjacnnjaagreat", sum := "7a0fca122711cfa648c1c688ca36dcdcf6d5223ce52e81a7c87023c38506b0ea", func := "lectern/lecternlaw13.ShelfAdds", spec := "shelfAdds", inPlace := ["internal/bytealg.abigen_runtime_cmpstring", "slices.overlaps[lectern/api.Doc]", "internal/bytealg.IndexByteString", "internal/bytealg.IndexString"], unfollowed := true, recurses := true, named := ["internal/bytealg.MaxLen"], apart := false, narrowed := true }
def ShelfAddsUptoSaid : Prop := shelfAddsUptoRow.holds Tryz.pinned (OpenSpec.upto shelfAddsSpec)

/-- 'lecternlaw13.ShelfDeletes', WHERE WHAT IT READS IS OF BULK AT MOST 1048576: true; the input reads as it did. -/
def shelfDeletesUptoRow : OpenClaim := { program := "ytcbakncjacnnjaagreat", sum := "7a0fca122711cfa648c1c688ca36dcdcf6d5223ce52e81a7c87023c38506b0ea", func := "lectern/lecternlaw13.ShelfDeletes", spec := "shelfDeletes", inPlace := ["internal/bytealg.abigen_runtime_cmpstring", "slices.overlaps[string]", "internal/bytealg.IndexByteString", "internal/bytealg.IndexString", "slices.overlaps[lectern/api.Doc]"], unfollowed := true, recurses := true, named := ["internal/bytealg.MaxLen"], apart := false, narrowed := true }
def ShelfDeletesUptoSaid : Prop := shelfDeletesUptoRow.holds Tryz.pinned (OpenSpec.upto shelfDeletesSpec)

/-- 'lecternlaw13.ShelfSearches', WHERE WHAT IT READS IS OF BULK AT MOST 1048576: true; the input reads as it did. -/
def shelfSearchesUptoRow : OpenClaim := { program := "ytcbakncjacnnjaagreat", sum := "7a0fca122711cfa648c1c688ca36dcdcf6d5223ce52e81a7c87023c38506b0ea", func := "lectern/lecternlaw13.ShelfSearches", spec := "shelfSearches", inPlace := ["internal/bytealg.IndexByteString", "internal/bytealg.IndexString", "internal/bytealg.abigen_runtime_cmpstring", "slices.overlaps[lectern/shelf.part]", "slices.overlaps[lectern/api.Doc]"], unfollowed := true, recurses := true, named := ["internal/bytealg.MaxLen"], apart := false, narrowed := true }
def ShelfSearchesUptoSaid : Prop := shelfSearchesUptoRow.holds Tryz.pinned (OpenSpec.upto shelfSearchesSpec)

/-- 'lecternlaw13.ShelfTiers', WHERE WHAT IT READS IS OF BULK AT MOST 1048576: true; the input reads as it did. -/
def shelfTiersUptoRow : OpenClaim := { program := "ytcbakncjacnnjaagreat", sum := "7a0fca122711cfa648c1c688ca36dcdcf6d5223ce52e81a7c87023c38506b0ea", func := "lectern/lecternlaw13.ShelfTiers", spec := "shelfTiers", inPlace := ["internal/bytealg.abigen_runtime_cmpstring", "slices.overlaps[lectern/api.Doc]", "slices.overlaps[lectern/shelf.part]", "internal/bytealg.IndexByteString", "internal/bytealg.IndexString", "slices.overlaps[string]"], unfollowed := true, recurses := true, named := ["internal/bytealg.MaxLen"], apart := false, narrowed := true }
def ShelfTiersUptoSaid : Prop := shelfTiersUptoRow.holds Tryz.pinned (OpenSpec.upto shelfTiersSpec)

end Rows
end Go.Proofs.YtcbakncjacnnjaaGreat
