/-
  No cell of these rows narrows 'for every input' (looked for: loops, veiled, ifaces, maps, wideKeys, modest, calm, conditions, laid).
  DERIVED. THE GIVEN ROWS OF THIS SEAT. 5 by the template 'for every input the law returns true; each argument reads behind the call as it read before'; 0 by the template 'total and deterministic' (their statements: YtlmpkanlfhjijaaTotals.lean).
  GIVEN WITH THE SEED: the statements are not yours to turn. If you find one false, say at which input.
  Laid BY PROGRAM, IN A SANDBOX (cutbox-rows.mjs): the forced cells as the released guide's own fill.sh prints them over the translation ca2b87ef8fcc9408… (all of the seat's roots in one cut). By AI agents, Wed Nov 11 2026. No macro, syntax, notation, axiom, sorry.
-/
import Derived.Test.YtlmpkanlfhjijaaChecked
import GoSem.Claim
import GoSem.ClaimJoined
import GoSem.ClaimMapViews
import Derived.JoinedTies
import Derived.KernelRfl
namespace Go.Proofs.Ytlmpkanlfhjijaa
/- THE CELL 'sum', in the pinned program and in every row, IS THE sha256 OF THE DUMP (.gsa) THAT YtlmpkanlfhjijaaProg.lean LOADS. Nothing in Lean hashes anything: it is a label: what it is worth is what the hold of that sum in a sandbox is worth. -/
noncomputable def Try.pinned : Pinned := { name := "ytlmpkanlfhjijaa", sum := "ca2b87ef8fcc9408de0d6dff3c9619c3c2ae4b86392ecb7ca0a6cb7e328dd503", checked := Try.checked }
namespace Rows
def none {H : Type} : Left H := { results := [], args := [] }

/-- 'laws.FnPasteImage': WHATEVER THE INPUT: true; the input reads as it did. -/
def fnPasteImageSpec : ChangeSpec := { name := "fnPasteImage", fn := fun _ => fun
  | [d] => { results := [.lit (.bool true)], args := [d] }
  | _ => none }
def fnPasteImageRow : OpenClaim := { program := "ytlmpkanlfhjijaa", sum := "ca2b87ef8fcc9408de0d6dff3c9619c3c2ae4b86392ecb7ca0a6cb7e328dd503", func := "loop.example/pixelworks/laws.FnPasteImage", spec := "fnPasteImage", unfollowed := true, recurses := true, apart := false }
def FnPasteImageSaid : Prop := fnPasteImageRow.holds Try.pinned (OpenSpec.ofChange fnPasteImageSpec)

/-- ITS FALSE NEIGHBOUR: 'it returns false'. Refute it at one input. -/
def fnPasteImageWrong : ChangeSpec := { name := "fnPasteImage", fn := fun _ => fun
  | [d] => { results := [.lit (.bool false)], args := [d] }
  | _ => none }
def FnPasteImageWrongFalsely : Prop := fnPasteImageRow.holds Try.pinned (OpenSpec.ofChange fnPasteImageWrong)

/-- 'laws.FnTileBoxes': WHATEVER THE INPUT: true; the input reads as it did. -/
def fnTileBoxesSpec : ChangeSpec := { name := "fnTileBoxes", fn := fun _ => fun
  | [d] => { results := [.lit (.bool true)], args := [d] }
  | _ => none }
def fnTileBoxesRow : OpenClaim := { program := "ytlmpkanlfhjijaa", sum := "ca2b87ef8fcc9408de0d6dff3c9619c3c2ae4b86392ecb7ca0a6cb7e328dd503", func := "loop.example/pixelworks/laws.FnTileBoxes", spec := "fnTileBoxes", unfollowed := true, recurses := true, apart := false }
def FnTileBoxesSaid : Prop := fnTileBoxesRow.holds Try.pinned (OpenSpec.ofChange fnTileBoxesSpec)

/-- ITS FALSE NEIGHBOUR: 'it returns false'. Refute it at one input. -/
def fnTileBoxesWrong : ChangeSpec := { name := "fnTileBoxes", fn := fun _ => fun
  | [d] => { results := [.lit (.bool false)], args := [d] }
  | _ => none }
def FnTileBoxesWrongFalsely : Prop := fnTileBoxesRow.holds Try.pinned (OpenSpec.ofChange fnTileBoxesWrong)

/-- 'laws.FnChangedRegion': WHATEVER THE INPUT: true; the input reads as it did. -/
def fnChangedRegionSpec : ChangeSpec := { name := "fnChangedRegion", fn := fun _ => fun
  | [d] => { results := [.lit (.bool true)], args := [d] }
  | _ => none }
def fnChangedRegionRow : OpenClaim := { program := "ytlmpkanlfhjijaa", sum := "ca2b87ef8fcc9408de0d6dff3c9619c3c2ae4b86392ecb7ca0a6cb7e328dd503", func := "loop.example/pixelworks/laws.FnChangedRegion", spec := "fnChangedRegion", unfollowed := true, recurses := true, apart := false }
def FnChangedRegionSaid : Prop := fnChangedRegionRow.holds Try.pinned (OpenSpec.ofChange fnChangedRegionSpec)

/-- ITS FALSE NEIGHBOUR: 'it returns false'. Refute it at one input. -/
def fnChangedRegionWrong : ChangeSpec := { name := "fnChangedRegion", fn := fun _ => fun
  | [d] => { results := [.lit (.bool false)], args := [d] }
  | _ => none }
def FnChangedRegionWrongFalsely : Prop := fnChangedRegionRow.holds Try.pinned (OpenSpec.ofChange fnChangedRegionWrong)

/-- 'laws.FnFillRegion': WHATEVER THE INPUT: true; the input reads as it did. -/
def fnFillRegionSpec : ChangeSpec := { name := "fnFillRegion", fn := fun _ => fun
  | [d] => { results := [.lit (.bool true)], args := [d] }
  | _ => none }
def fnFillRegionRow : OpenClaim := { program := "ytlmpkanlfhjijaa", sum := "ca2b87ef8fcc9408de0d6dff3c9619c3c2ae4b86392ecb7ca0a6cb7e328dd503", func := "loop.example/pixelworks/laws.FnFillRegion", spec := "fnFillRegion", unfollowed := true, recurses := true, apart := false }
def FnFillRegionSaid : Prop := fnFillRegionRow.holds Try.pinned (OpenSpec.ofChange fnFillRegionSpec)

/-- ITS FALSE NEIGHBOUR: 'it returns false'. Refute it at one input. -/
def fnFillRegionWrong : ChangeSpec := { name := "fnFillRegion", fn := fun _ => fun
  | [d] => { results := [.lit (.bool false)], args := [d] }
  | _ => none }
def FnFillRegionWrongFalsely : Prop := fnFillRegionRow.holds Try.pinned (OpenSpec.ofChange fnFillRegionWrong)

/-- 'laws.FnMaskImageChanged': WHATEVER THE INPUT: true; the input reads as it did. -/
def fnMaskImageChangedSpec : ChangeSpec := { name := "fnMaskImageChanged", fn := fun _ => fun
  | [d] => { results := [.lit (.bool true)], args := [d] }
  | _ => none }
def fnMaskImageChangedRow : OpenClaim := { program := "ytlmpkanlfhjijaa", sum := "ca2b87ef8fcc9408de0d6dff3c9619c3c2ae4b86392ecb7ca0a6cb7e328dd503", func := "loop.example/pixelworks/laws.FnMaskImageChanged", spec := "fnMaskImageChanged", unfollowed := true, recurses := true, apart := false }
def FnMaskImageChangedSaid : Prop := fnMaskImageChangedRow.holds Try.pinned (OpenSpec.ofChange fnMaskImageChangedSpec)

/-- ITS FALSE NEIGHBOUR: 'it returns false'. Refute it at one input. -/
def fnMaskImageChangedWrong : ChangeSpec := { name := "fnMaskImageChanged", fn := fun _ => fun
  | [d] => { results := [.lit (.bool false)], args := [d] }
  | _ => none }
def FnMaskImageChangedWrongFalsely : Prop := fnMaskImageChangedRow.holds Try.pinned (OpenSpec.ofChange fnMaskImageChangedWrong)

/- THE SECOND FORM. 'bulk': how many values and letters a reading holds, each counted each time it is reached (what is shared counts as often as it is met; a slice's spare places count too). A statement '..UptoSaid' is the law's where the arguments, and the package variables that the reading takes, are together of bulk at most 1048576: NARROWER than '..Said'. Prove '..Said' where nothing that the law and all that it calls make is longer than what came in: it says more and counts as full. Else prove '..UptoSaid'. A law counts once. -/
mutual
def uptoBulk {H : Type} : DataW H → Nat
  | .lit (.string bytes) => bytes.length + 1
  | .lit _ => 1
  | .nil => 1
  | .ptr d => uptoBulk d + 1
  | .slice elems spare => uptoBulkAll elems + uptoBulkAll spare + 1
  | .agg parts => uptoBulkAll parts + 1
  | .iface _ d => uptoBulk d + 1
  | .map entries => uptoBulkEntries entries + 1
  | .held _ => 1
def uptoBulkAll {H : Type} : List (DataW H) → Nat
  | [] => 0
  | d :: r => uptoBulk d + uptoBulkAll r
def uptoBulkEntries {H : Type} : List (Lit × DataW H) → Nat
  | [] => 0
  | x :: r => uptoBulkEntry x + uptoBulkEntries r
def uptoBulkEntry {H : Type} : Lit × DataW H → Nat
  | (.string bytes, d) => bytes.length + uptoBulk d + 1
  | (_, d) => uptoBulk d + 1
 end
def uptoSmall : (H : Type) → List (DataW H) → Bool := fun _ ds => decide (uptoBulkAll ds ≤ 1048576)
def OpenSpec.upto (s : _root_.Go.ChangeSpec) : _root_.Go.OpenSpec := { _root_.Go.OpenSpec.ofChange s with cond := some uptoSmall }

/-- 'laws.FnPasteImage', WHERE WHAT IT READS IS OF BULK AT MOST 1048576: true; the input reads as it did. -/
def fnPasteImageUptoRow : OpenClaim := { program := "ytlmpkanlfhjijaa", sum := "ca2b87ef8fcc9408de0d6dff3c9619c3c2ae4b86392ecb7ca0a6cb7e328dd503", func := "loop.example/pixelworks/laws.FnPasteImage", spec := "fnPasteImage", unfollowed := true, recurses := true, apart := false, narrowed := true }
def FnPasteImageUptoSaid : Prop := fnPasteImageUptoRow.holds Try.pinned (OpenSpec.upto fnPasteImageSpec)

/-- 'laws.FnTileBoxes', WHERE WHAT IT READS IS OF BULK AT MOST 1048576: true; the input reads as it did. -/
def fnTileBoxesUptoRow : OpenClaim := { program := "ytlmpkanlfhjijaa", sum := "ca2b87ef8fcc9408de0d6dff3c9619c3c2ae4b86392ecb7ca0a6cb7e328dd503", func := "loop.example/pixelworks/laws.FnTileBoxes", spec := "fnTileBoxes", unfollowed := true, recurses := true, apart := false, narrowed := true }
def FnTileBoxesUptoSaid : Prop := fnTileBoxesUptoRow.holds Try.pinned (OpenSpec.upto fnTileBoxesSpec)

/-- 'laws.FnChangedRegion', WHERE WHAT IT READS IS OF BULK AT MOST 1048576: true; the input reads as it did. -/
def fnChangedRegionUptoRow : OpenClaim := { program := "ytlmpkanlfhjijaa", sum := "ca2b87ef8fcc9408de0d6dff3c9619c3c2ae4b86392ecb7ca0a6cb7e328dd503", func := "loop.example/pixelworks/laws.FnChangedRegion", spec := "fnChangedRegion", unfollowed := true, recurses := true, apart := false, narrowed := true }
def FnChangedRegionUptoSaid : Prop := fnChangedRegionUptoRow.holds Try.pinned (OpenSpec.upto fnChangedRegionSpec)

/-- 'laws.FnFillRegion', WHERE WHAT IT READS IS OF BULK AT MOST 1048576: true; the input reads as it did. -/
def fnFillRegionUptoRow : OpenClaim := { program := "ytlmpkanlfhjijaa", sum := "ca2b87ef8fcc9408de0d6dff3c9619c3c2ae4b86392ecb7ca0a6cb7e328dd503", func := "loop.example/pixelworks/laws.FnFillRegion", spec := "fnFillRegion", unfollowed := true, recurses := true, apart := false, narrowed := true }
def FnFillRegionUptoSaid : Prop := fnFillRegionUptoRow.holds Try.pinned (OpenSpec.upto fnFillRegionSpec)

/-- 'laws.FnMaskImageChanged', WHERE WHAT IT READS IS OF BULK AT MOST 1048576: true; the input reads as it did. -/
def fnMaskImageChangedUptoRow : OpenClaim := { program := "ytlmpkanlfhjijaa", sum := "ca2b87ef8fcc9408de0d6dff3c9619c3c2ae4b86392ecb7ca0a6cb7e328dd503", func := "loop.example/pixelworks/laws.FnMaskImageChanged", spec := "fnMaskImageChanged", unfollowed := true, recurses := true, apart := false, narrowed := true }
def FnMaskImageChangedUptoSaid : Prop := fnMaskImageChangedUptoRow.holds Try.pinned (OpenSpec.upto fnMaskImageChangedSpec)

end Rows
end Go.Proofs.Ytlmpkanlfhjijaa
