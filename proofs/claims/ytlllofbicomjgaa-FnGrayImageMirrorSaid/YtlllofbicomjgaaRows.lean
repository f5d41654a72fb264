/-
  No cell of these rows narrows 'for every input' (looked for: loops, veiled, ifaces, maps, wideKeys, modest, calm, conditions, laid).
  DERIVED. THE GIVEN ROWS OF THIS SEAT. 12 by the template 'for every input the law returns true; each argument reads behind the call as it read before'; 0 by the template 'total and deterministic' (their statements: YtlllofbicomjgaaTotals.lean).
  GIVEN WITH THE SEED: the statements are not yours to turn. If you find one false, say at which input.
  Laid BY PROGRAM, IN A SANDBOX (cutbox-rows.mjs): the forced cells as the released guide's own fill.sh prints them over the translation b188eb772cd5d0be… (all of the seat's roots in one cut). By AI agents, Wed Nov 11 2026. No macro, syntax, notation, axiom, sorry.
-/
import Derived.Test.YtlllofbicomjgaaChecked
import GoSem.Claim
import GoSem.ClaimJoined
import GoSem.ClaimMapViews
import Derived.JoinedTies
import Derived.KernelRfl
namespace Go.Proofs.Ytlllofbicomjgaa
/- THE CELL 'sum', in the pinned program and in every row, IS THE sha256 OF THE DUMP (.gsa) THAT YtlllofbicomjgaaProg.lean LOADS. Nothing in Lean hashes anything: it is a label: what it is worth is what the hold of that sum in a sandbox is worth. -/
noncomputable def Try.pinned : Pinned := { name := "ytlllofbicomjgaa", sum := "b188eb772cd5d0beb939493227fc6a572feb8239cb528c806e146365d168c922", checked := Try.checked }
namespace Rows
def none {H : Type} : Left H := { results := [], args := [] }

/-- 'laws.FnExactPasteImage': WHATEVER THE INPUT: true; the input reads as it did. -/
def fnExactPasteImageSpec : ChangeSpec := { name := "fnExactPasteImage", fn := fun _ => fun
  | [d1, d2, d3, d4] => { results := [.lit (.bool true)], args := [d1, d2, d3, d4] }
  | _ => none }
def fnExactPasteImageRow : OpenClaim := { program := "ytlllofbicomjgaa", sum := "b188eb772cd5d0beb939493227fc6a572feb8239cb528c806e146365d168c922", func := "loop.example/pixelworks/laws.FnExactPasteImage", spec := "fnExactPasteImage", unfollowed := true, recurses := true, apart := false }
def FnExactPasteImageSaid : Prop := fnExactPasteImageRow.holds Try.pinned (OpenSpec.ofChange fnExactPasteImageSpec)

/-- ITS FALSE NEIGHBOUR: 'it returns false'. Refute it at one input. -/
def fnExactPasteImageWrong : ChangeSpec := { name := "fnExactPasteImage", fn := fun _ => fun
  | [d1, d2, d3, d4] => { results := [.lit (.bool false)], args := [d1, d2, d3, d4] }
  | _ => none }
def FnExactPasteImageWrongFalsely : Prop := fnExactPasteImageRow.holds Try.pinned (OpenSpec.ofChange fnExactPasteImageWrong)

/-- 'laws.FnCropImage': WHATEVER THE INPUT: true; the input reads as it did. -/
def fnCropImageSpec : ChangeSpec := { name := "fnCropImage", fn := fun _ => fun
  | [d] => { results := [.lit (.bool true)], args := [d] }
  | _ => none }
def fnCropImageRow : OpenClaim := { program := "ytlllofbicomjgaa", sum := "b188eb772cd5d0beb939493227fc6a572feb8239cb528c806e146365d168c922", func := "loop.example/pixelworks/laws.FnCropImage", spec := "fnCropImage", unfollowed := true, recurses := true, apart := false }
def FnCropImageSaid : Prop := fnCropImageRow.holds Try.pinned (OpenSpec.ofChange fnCropImageSpec)

/-- ITS FALSE NEIGHBOUR: 'it returns false'. Refute it at one input. -/
def fnCropImageWrong : ChangeSpec := { name := "fnCropImage", fn := fun _ => fun
  | [d] => { results := [.lit (.bool false)], args := [d] }
  | _ => none }
def FnCropImageWrongFalsely : Prop := fnCropImageRow.holds Try.pinned (OpenSpec.ofChange fnCropImageWrong)

/-- 'laws.FnPasteImage': WHATEVER THE INPUT: true; the input reads as it did. -/
def fnPasteImageSpec : ChangeSpec := { name := "fnPasteImage", fn := fun _ => fun
  | [d] => { results := [.lit (.bool true)], args := [d] }
  | _ => none }
def fnPasteImageRow : OpenClaim := { program := "ytlllofbicomjgaa", sum := "b188eb772cd5d0beb939493227fc6a572feb8239cb528c806e146365d168c922", func := "loop.example/pixelworks/laws.FnPasteImage", spec := "fnPasteImage", unfollowed := true, recurses := true, apart := false }
def FnPasteImageSaid : Prop := fnPasteImageRow.holds Try.pinned (OpenSpec.ofChange fnPasteImageSpec)

/-- ITS FALSE NEIGHBOUR: 'it returns false'. Refute it at one input. -/
def fnPasteImageWrong : ChangeSpec := { name := "fnPasteImage", fn := fun _ => fun
  | [d] => { results := [.lit (.bool false)], args := [d] }
  | _ => none }
def FnPasteImageWrongFalsely : Prop := fnPasteImageRow.holds Try.pinned (OpenSpec.ofChange fnPasteImageWrong)

/-- 'laws.FnExactGapOf': WHATEVER THE INPUT: true; the input reads as it did. -/
def fnExactGapOfSpec : ChangeSpec := { name := "fnExactGapOf", fn := fun _ => fun
  | [d1, d2] => { results := [.lit (.bool true)], args := [d1, d2] }
  | _ => none }
def fnExactGapOfRow : OpenClaim := { program := "ytlllofbicomjgaa", sum := "b188eb772cd5d0beb939493227fc6a572feb8239cb528c806e146365d168c922", func := "loop.example/pixelworks/laws.FnExactGapOf", spec := "fnExactGapOf", unfollowed := true, recurses := true, apart := false }
def FnExactGapOfSaid : Prop := fnExactGapOfRow.holds Try.pinned (OpenSpec.ofChange fnExactGapOfSpec)

/-- ITS FALSE NEIGHBOUR: 'it returns false'. Refute it at one input. -/
def fnExactGapOfWrong : ChangeSpec := { name := "fnExactGapOf", fn := fun _ => fun
  | [d1, d2] => { results := [.lit (.bool false)], args := [d1, d2] }
  | _ => none }
def FnExactGapOfWrongFalsely : Prop := fnExactGapOfRow.holds Try.pinned (OpenSpec.ofChange fnExactGapOfWrong)

/-- 'laws.FnGapOf': WHATEVER THE INPUT: true; the input reads as it did. -/
def fnGapOfSpec : ChangeSpec := { name := "fnGapOf", fn := fun _ => fun
  | [d] => { results := [.lit (.bool true)], args := [d] }
  | _ => none }
def fnGapOfRow : OpenClaim := { program := "ytlllofbicomjgaa", sum := "b188eb772cd5d0beb939493227fc6a572feb8239cb528c806e146365d168c922", func := "loop.example/pixelworks/laws.FnGapOf", spec := "fnGapOf", unfollowed := true, recurses := true, apart := false }
def FnGapOfSaid : Prop := fnGapOfRow.holds Try.pinned (OpenSpec.ofChange fnGapOfSpec)

/-- ITS FALSE NEIGHBOUR: 'it returns false'. Refute it at one input. -/
def fnGapOfWrong : ChangeSpec := { name := "fnGapOf", fn := fun _ => fun
  | [d] => { results := [.lit (.bool false)], args := [d] }
  | _ => none }
def FnGapOfWrongFalsely : Prop := fnGapOfRow.holds Try.pinned (OpenSpec.ofChange fnGapOfWrong)

/-- 'laws.FnExactGrayImage': WHATEVER THE INPUT: true; the input reads as it did. -/
def fnExactGrayImageSpec : ChangeSpec := { name := "fnExactGrayImage", fn := fun _ => fun
  | [d] => { results := [.lit (.bool true)], args := [d] }
  | _ => none }
def fnExactGrayImageRow : OpenClaim := { program := "ytlllofbicomjgaa", sum := "b188eb772cd5d0beb939493227fc6a572feb8239cb528c806e146365d168c922", func := "loop.example/pixelworks/laws.FnExactGrayImage", spec := "fnExactGrayImage", unfollowed := true, recurses := true, apart := false }
def FnExactGrayImageSaid : Prop := fnExactGrayImageRow.holds Try.pinned (OpenSpec.ofChange fnExactGrayImageSpec)

/-- ITS FALSE NEIGHBOUR: 'it returns false'. Refute it at one input. -/
def fnExactGrayImageWrong : ChangeSpec := { name := "fnExactGrayImage", fn := fun _ => fun
  | [d] => { results := [.lit (.bool false)], args := [d] }
  | _ => none }
def FnExactGrayImageWrongFalsely : Prop := fnExactGrayImageRow.holds Try.pinned (OpenSpec.ofChange fnExactGrayImageWrong)

/-- 'laws.FnGrayImageMirror': WHATEVER THE INPUT: true; the input reads as it did. -/
def fnGrayImageMirrorSpec : ChangeSpec := { name := "fnGrayImageMirror", fn := fun _ => fun
  | [d] => { results := [.lit (.bool true)], args := [d] }
  | _ => none }
def fnGrayImageMirrorRow : OpenClaim := { program := "ytlllofbicomjgaa", sum := "b188eb772cd5d0beb939493227fc6a572feb8239cb528c806e146365d168c922", func := "loop.example/pixelworks/laws.FnGrayImageMirror", spec := "fnGrayImageMirror", unfollowed := true, recurses := true, apart := false }
def FnGrayImageMirrorSaid : Prop := fnGrayImageMirrorRow.holds Try.pinned (OpenSpec.ofChange fnGrayImageMirrorSpec)

/-- ITS FALSE NEIGHBOUR: 'it returns false'. Refute it at one input. -/
def fnGrayImageMirrorWrong : ChangeSpec := { name := "fnGrayImageMirror", fn := fun _ => fun
  | [d] => { results := [.lit (.bool false)], args := [d] }
  | _ => none }
def FnGrayImageMirrorWrongFalsely : Prop := fnGrayImageMirrorRow.holds Try.pinned (OpenSpec.ofChange fnGrayImageMirrorWrong)

/-- 'laws.FnExactSplitPlanes': WHATEVER THE INPUT: true; the input reads as it did. -/
def fnExactSplitPlanesSpec : ChangeSpec := { name := "fnExactSplitPlanes", fn := fun _ => fun
  | [d] => { results := [.lit (.bool true)], args := [d] }
  | _ => none }
def fnExactSplitPlanesRow : OpenClaim := { program := "ytlllofbicomjgaa", sum := "b188eb772cd5d0beb939493227fc6a572feb8239cb528c806e146365d168c922", func := "loop.example/pixelworks/laws.FnExactSplitPlanes", spec := "fnExactSplitPlanes", unfollowed := true, recurses := true, apart := false }
def FnExactSplitPlanesSaid : Prop := fnExactSplitPlanesRow.holds Try.pinned (OpenSpec.ofChange fnExactSplitPlanesSpec)

/-- ITS FALSE NEIGHBOUR: 'it returns false'. Refute it at one input. -/
def fnExactSplitPlanesWrong : ChangeSpec := { name := "fnExactSplitPlanes", fn := fun _ => fun
  | [d] => { results := [.lit (.bool false)], args := [d] }
  | _ => none }
def FnExactSplitPlanesWrongFalsely : Prop := fnExactSplitPlanesRow.holds Try.pinned (OpenSpec.ofChange fnExactSplitPlanesWrong)

/-- 'laws.FnExactScaleNearest': WHATEVER THE INPUT: true; the input reads as it did. -/
def fnExactScaleNearestSpec : ChangeSpec := { name := "fnExactScaleNearest", fn := fun _ => fun
  | [d1, d2, d3] => { results := [.lit (.bool true)], args := [d1, d2, d3] }
  | _ => none }
def fnExactScaleNearestRow : OpenClaim := { program := "ytlllofbicomjgaa", sum := "b188eb772cd5d0beb939493227fc6a572feb8239cb528c806e146365d168c922", func := "loop.example/pixelworks/laws.FnExactScaleNearest", spec := "fnExactScaleNearest", unfollowed := true, recurses := true, apart := false }
def FnExactScaleNearestSaid : Prop := fnExactScaleNearestRow.holds Try.pinned (OpenSpec.ofChange fnExactScaleNearestSpec)

/-- ITS FALSE NEIGHBOUR: 'it returns false'. Refute it at one input. -/
def fnExactScaleNearestWrong : ChangeSpec := { name := "fnExactScaleNearest", fn := fun _ => fun
  | [d1, d2, d3] => { results := [.lit (.bool false)], args := [d1, d2, d3] }
  | _ => none }
def FnExactScaleNearestWrongFalsely : Prop := fnExactScaleNearestRow.holds Try.pinned (OpenSpec.ofChange fnExactScaleNearestWrong)

/-- 'laws.FnExactDirtyTiles': WHATEVER THE INPUT: true; the input reads as it did. -/
def fnExactDirtyTilesSpec : ChangeSpec := { name := "fnExactDirtyTiles", fn := fun _ => fun
  | [d1, d2] => { results := [.lit (.bool true)], args := [d1, d2] }
  | _ => none }
def fnExactDirtyTilesRow : OpenClaim := { program := "ytlllofbicomjgaa", sum := "b188eb772cd5d0beb939493227fc6a572feb8239cb528c806e146365d168c922", func := "loop.example/pixelworks/laws.FnExactDirtyTiles", spec := "fnExactDirtyTiles", apart := false }
def FnExactDirtyTilesSaid : Prop := fnExactDirtyTilesRow.holds Try.pinned (OpenSpec.ofChange fnExactDirtyTilesSpec)

/-- ITS FALSE NEIGHBOUR: 'it returns false'. Refute it at one input. -/
def fnExactDirtyTilesWrong : ChangeSpec := { name := "fnExactDirtyTiles", fn := fun _ => fun
  | [d1, d2] => { results := [.lit (.bool false)], args := [d1, d2] }
  | _ => none }
def FnExactDirtyTilesWrongFalsely : Prop := fnExactDirtyTilesRow.holds Try.pinned (OpenSpec.ofChange fnExactDirtyTilesWrong)

/-- 'laws.FnExactPatchImage': WHATEVER THE INPUT: true; the input reads as it did. -/
def fnExactPatchImageSpec : ChangeSpec := { name := "fnExactPatchImage", fn := fun _ => fun
  | [d1, d2, d3] => { results := [.lit (.bool true)], args := [d1, d2, d3] }
  | _ => none }
def fnExactPatchImageRow : OpenClaim := { program := "ytlllofbicomjgaa", sum := "b188eb772cd5d0beb939493227fc6a572feb8239cb528c806e146365d168c922", func := "loop.example/pixelworks/laws.FnExactPatchImage", spec := "fnExactPatchImage", unfollowed := true, recurses := true, apart := false }
def FnExactPatchImageSaid : Prop := fnExactPatchImageRow.holds Try.pinned (OpenSpec.ofChange fnExactPatchImageSpec)

/-- ITS FALSE NEIGHBOUR: 'it returns false'. Refute it at one input. -/
def fnExactPatchImageWrong : ChangeSpec := { name := "fnExactPatchImage", fn := fun _ => fun
  | [d1, d2, d3] => { results := [.lit (.bool false)], args := [d1, d2, d3] }
  | _ => none }
def FnExactPatchImageWrongFalsely : Prop := fnExactPatchImageRow.holds Try.pinned (OpenSpec.ofChange fnExactPatchImageWrong)

/-- 'laws.FnExactChangedRegion': WHATEVER THE INPUT: true; the input reads as it did. -/
def fnExactChangedRegionSpec : ChangeSpec := { name := "fnExactChangedRegion", fn := fun _ => fun
  | [d1, d2] => { results := [.lit (.bool true)], args := [d1, d2] }
  | _ => none }
def fnExactChangedRegionRow : OpenClaim := { program := "ytlllofbicomjgaa", sum := "b188eb772cd5d0beb939493227fc6a572feb8239cb528c806e146365d168c922", func := "loop.example/pixelworks/laws.FnExactChangedRegion", spec := "fnExactChangedRegion", unfollowed := true, recurses := true, apart := false }
def FnExactChangedRegionSaid : Prop := fnExactChangedRegionRow.holds Try.pinned (OpenSpec.ofChange fnExactChangedRegionSpec)

/-- ITS FALSE NEIGHBOUR: 'it returns false'. Refute it at one input. -/
def fnExactChangedRegionWrong : ChangeSpec := { name := "fnExactChangedRegion", fn := fun _ => fun
  | [d1, d2] => { results := [.lit (.bool false)], args := [d1, d2] }
  | _ => none }
def FnExactChangedRegionWrongFalsely : Prop := fnExactChangedRegionRow.holds Try.pinned (OpenSpec.ofChange fnExactChangedRegionWrong)

/- THE SECOND FORM. 'bulk': how many values and letters a reading holds, each counted each time it is reached (what is shared counts as often as it is met; a slice's spare places count too). A statement '..UptoSaid' is the law's where the arguments, and the package variables that the reading takes, are together of bulk at most 1048576: NARROWER than '..Said'. Prove '..Said' where nothing that the law and all that it calls make is longer than what came in: it says more and counts as full. Else prove '..UptoSaid'. A law counts once. -/
mutual
def uptoBulk {H : Type} : DataW H → Nat
  | .lit (.string bytes) => bytes.length + 1
  | .lit _ => 1
  | .nil => 1
  | .ptr d => uptoBulk d + 1
  | .slice elems spare => uptoBulkAll elems + uptoBulkAll spare + 1
  | .agg parts => uptoBulkAll parts + 1
  | .iface _ d => uptoBulk d + 1
  | .map entries => uptoBulkEntries entries + 1
  | .held _ => 1
def uptoBulkAll {H : Type} : List (DataW H) → Nat
  | [] => 0
  | d :: r => uptoBulk d + uptoBulkAll r
def uptoBulkEntries {H : Type} : List (Lit × DataW H) → Nat
  | [] => 0
  | x :: r => uptoBulkEntry x + uptoBulkEntries r
def uptoBulkEntry {H : Type} : Lit × DataW H → Nat
  | (.string bytes, d) => bytes.length + uptoBulk d + 1
  | (_, d) => uptoBulk d + 1
 end
def uptoSmall : (H : Type) → List (DataW H) → Bool := fun _ ds => decide (uptoBulkAll ds ≤ 1048576)
def OpenSpec.upto (s : _root_.Go.ChangeSpec) : _root_.Go.OpenSpec := { _root_.Go.OpenSpec.ofChange s with cond := some uptoSmall }

/-- 'laws.FnExactPasteImage', WHERE WHAT IT READS IS OF BULK AT MOST 1048576: true; the input reads as it did. -/
def fnExactPasteImageUptoRow : OpenClaim := { program := "ytlllofbicomjgaa", sum := "b188eb772cd5d0beb939493227fc6a572feb8239cb528c806e146365d168c922", func := "loop.example/pixelworks/laws.FnExactPasteImage", spec := "fnExactPasteImage", unfollowed := true, recurses := true, apart := false, narrowed := true }
def FnExactPasteImageUptoSaid : Prop := fnExactPasteImageUptoRow.holds Try.pinned (OpenSpec.upto fnExactPasteImageSpec)

/-- 'laws.FnCropImage', WHERE WHAT IT READS IS OF BULK AT MOST 1048576: true; the input reads as it did. -/
def fnCropImageUptoRow : OpenClaim := { program := "ytlllofbicomjgaa", sum := "b188eb772cd5d0beb939493227fc6a572feb8239cb528c806e146365d168c922", func := "loop.example/pixelworks/laws.FnCropImage", spec := "fnCropImage", unfollowed := true, recurses := true, apart := false, narrowed := true }
def FnCropImageUptoSaid : Prop := fnCropImageUptoRow.holds Try.pinned (OpenSpec.upto fnCropImageSpec)

/-- 'laws.FnPasteImage', WHERE WHAT IT READS IS OF BULK AT MOST 1048576: true; the input reads as it did. -/
def fnPasteImageUptoRow : OpenClaim := { program := "ytlllofbicomjgaa", sum := "b188eb772cd5d0beb939493227fc6a572feb8239cb528c806e146365d168c922", func := "loop.example/pixelworks/laws.FnPasteImage", spec := "fnPasteImage", unfollowed := true, recurses := true, apart := false, narrowed := true }
def FnPasteImageUptoSaid : Prop := fnPasteImageUptoRow.holds Try.pinned (OpenSpec.upto fnPasteImageSpec)

/-- 'laws.FnExactGapOf', WHERE WHAT IT READS IS OF BULK AT MOST 1048576: true; the input reads as it did. -/
def fnExactGapOfUptoRow : OpenClaim := { program := "ytlllofbicomjgaa", sum := "b188eb772cd5d0beb939493227fc6a572feb8239cb528c806e146365d168c922", func := "loop.example/pixelworks/laws.FnExactGapOf", spec := "fnExactGapOf", unfollowed := true, recurses := true, apart := false, narrowed := true }
def FnExactGapOfUptoSaid : Prop := fnExactGapOfUptoRow.holds Try.pinned (OpenSpec.upto fnExactGapOfSpec)

/-- 'laws.FnGapOf', WHERE WHAT IT READS IS OF BULK AT MOST 1048576: true; the input reads as it did. -/
def fnGapOfUptoRow : OpenClaim := { program := "ytlllofbicomjgaa", sum := "b188eb772cd5d0beb939493227fc6a572feb8239cb528c806e146365d168c922", func := "loop.example/pixelworks/laws.FnGapOf", spec := "fnGapOf", unfollowed := true, recurses := true, apart := false, narrowed := true }
def FnGapOfUptoSaid : Prop := fnGapOfUptoRow.holds Try.pinned (OpenSpec.upto fnGapOfSpec)

/-- 'laws.FnExactGrayImage', WHERE WHAT IT READS IS OF BULK AT MOST 1048576: true; the input reads as it did. -/
def fnExactGrayImageUptoRow : OpenClaim := { program := "ytlllofbicomjgaa", sum := "b188eb772cd5d0beb939493227fc6a572feb8239cb528c806e146365d168c922", func := "loop.example/pixelworks/laws.FnExactGrayImage", spec := "fnExactGrayImage", unfollowed := true, recurses := true, apart := false, narrowed := true }
def FnExactGrayImageUptoSaid : Prop := fnExactGrayImageUptoRow.holds Try.pinned (OpenSpec.upto fnExactGrayImageSpec)

/-- 'laws.FnGrayImageMirror', WHERE WHAT IT READS IS OF BULK AT MOST 1048576: true; the input reads as it did. -/
def fnGrayImageMirrorUptoRow : OpenClaim := { program := "ytlllofbicomjgaa", sum := "b188eb772cd5d0beb939493227fc6a572feb8239cb528c806e146365d168c922", func := "loop.example/pixelworks/laws.FnGrayImageMirror", spec := "fnGrayImageMirror", unfollowed := true, recurses := true, apart := false, narrowed := true }
def FnGrayImageMirrorUptoSaid : Prop := fnGrayImageMirrorUptoRow.holds Try.pinned (OpenSpec.upto fnGrayImageMirrorSpec)

/-- 'laws.FnExactSplitPlanes', WHERE WHAT IT READS IS OF BULK AT MOST 1048576: true; the input reads as it did. -/
def fnExactSplitPlanesUptoRow : OpenClaim := { program := "ytlllofbicomjgaa", sum := "b188eb772cd5d0beb939493227fc6a572feb8239cb528c806e146365d168c922", func := "loop.example/pixelworks/laws.FnExactSplitPlanes", spec := "fnExactSplitPlanes", unfollowed := true, recurses := true, apart := false, narrowed := true }
def FnExactSplitPlanesUptoSaid : Prop := fnExactSplitPlanesUptoRow.holds Try.pinned (OpenSpec.upto fnExactSplitPlanesSpec)

/-- 'laws.FnExactScaleNearest', WHERE WHAT IT READS IS OF BULK AT MOST 1048576: true; the input reads as it did. -/
def fnExactScaleNearestUptoRow : OpenClaim := { program := "ytlllofbicomjgaa", sum := "b188eb772cd5d0beb939493227fc6a572feb8239cb528c806e146365d168c922", func := "loop.example/pixelworks/laws.FnExactScaleNearest", spec := "fnExactScaleNearest", unfollowed := true, recurses := true, apart := false, narrowed := true }
def FnExactScaleNearestUptoSaid : Prop := fnExactScaleNearestUptoRow.holds Try.pinned (OpenSpec.upto fnExactScaleNearestSpec)

/-- 'laws.FnExactDirtyTiles', WHERE WHAT IT READS IS OF BULK AT MOST 1048576: true; the input reads as it did. -/
def fnExactDirtyTilesUptoRow : OpenClaim := { program := "ytlllofbicomjgaa", sum := "b188eb772cd5d0beb939493227fc6a572feb8239cb528c806e146365d168c922", func := "loop.example/pixelworks/laws.FnExactDirtyTiles", spec := "fnExactDirtyTiles", apart := false, narrowed := true }
def FnExactDirtyTilesUptoSaid : Prop := fnExactDirtyTilesUptoRow.holds Try.pinned (OpenSpec.upto fnExactDirtyTilesSpec)

/-- 'laws.FnExactPatchImage', WHERE WHAT IT READS IS OF BULK AT MOST 1048576: true; the input reads as it did. -/
def fnExactPatchImageUptoRow : OpenClaim := { program := "ytlllofbicomjgaa", sum := "b188eb772cd5d0beb939493227fc6a572feb8239cb528c806e146365d168c922", func := "loop.example/pixelworks/laws.FnExactPatchImage", spec := "fnExactPatchImage", unfollowed := true, recurses := true, apart := false, narrowed := true }
def FnExactPatchImageUptoSaid : Prop := fnExactPatchImageUptoRow.holds Try.pinned (OpenSpec.upto fnExactPatchImageSpec)

/-- 'laws.FnExactChangedRegion', WHERE WHAT IT READS IS OF BULK AT MOST 1048576: true; the input reads as it did. -/
def fnExactChangedRegionUptoRow : OpenClaim := { program := "ytlllofbicomjgaa", sum := "b188eb772cd5d0beb939493227fc6a572feb8239cb528c806e146365d168c922", func := "loop.example/pixelworks/laws.FnExactChangedRegion", spec := "fnExactChangedRegion", unfollowed := true, recurses := true, apart := false, narrowed := true }
def FnExactChangedRegionUptoSaid : Prop := fnExactChangedRegionUptoRow.holds Try.pinned (OpenSpec.upto fnExactChangedRegionSpec)

end Rows
end Go.Proofs.Ytlllofbicomjgaa
