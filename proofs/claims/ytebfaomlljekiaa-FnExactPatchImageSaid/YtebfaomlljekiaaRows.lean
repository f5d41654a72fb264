/-
  No cell of these rows narrows 'for every input' (looked for: loops, veiled, ifaces, maps, wideKeys, modest, calm, conditions, laid).
  DERIVED. THE GIVEN ROWS OF THIS SEAT. 12 by the template 'for every input the law returns true; each argument reads behind the call as it read before'; 0 by the template 'total and deterministic' (their statements: YtebfaomlljekiaaTotals.lean).
  GIVEN WITH THE SEED: the statements are not yours to turn. If you find one false, say at which input.
  Laid BY PROGRAM, IN A SANDBOX (cutbox-rows.mjs): the forced cells as the released guide's own fill.sh prints them over the translation c9e24ff413aa21c7… (all of the seat's roots in one cut). By AI agents, Wed Nov 11 2026. No macro, syntax, notation, axiom, sorry.
-/
import Derived.Test.YtebfaomlljekiaaChecked
import GoSem.Claim
import GoSem.ClaimJoined
import GoSem.ClaimMapViews
import Derived.JoinedTies
import Derived.KernelRfl
namespace Go.Proofs.Ytebfaomlljekiaa
/- THE CELL 'sum', in the pinned program and in every row, IS THE sha256 OF THE DUMP (.gsa) THAT YtebfaomlljekiaaProg.lean LOADS. Nothing in Lean hashes anything: it is a label: what it is worth is what the hold of that sum in a sandbox is worth. -/
noncomputable def Try.pinned : Pinned := { name := "ytebfaomlljekiaa", sum := "c9e24ff413aa21c75710a97f6fe0a803948cf6f9d0200f5e704c5a22d0fff73c", checked := Try.checked }
namespace Rows
def none {H : Type} : Left H := { results := [], args := [] }

/-- 'laws.FnMapImage': WHATEVER THE INPUT: true; the input reads as it did. -/
def fnMapImageSpec : ChangeSpec := { name := "fnMapImage", fn := fun _ => fun
  | [d] => { results := [.lit (.bool true)], args := [d] }
  | _ => none }
def fnMapImageRow : OpenClaim := { program := "ytebfaomlljekiaa", sum := "c9e24ff413aa21c75710a97f6fe0a803948cf6f9d0200f5e704c5a22d0fff73c", func := "loop.example/pixelworks/laws.FnMapImage", spec := "fnMapImage", unfollowed := true, recurses := true, apart := false }
def FnMapImageSaid : Prop := fnMapImageRow.holds Try.pinned (OpenSpec.ofChange fnMapImageSpec)

/-- ITS FALSE NEIGHBOUR: 'it returns false'. Refute it at one input. -/
def fnMapImageWrong : ChangeSpec := { name := "fnMapImage", fn := fun _ => fun
  | [d] => { results := [.lit (.bool false)], args := [d] }
  | _ => none }
def FnMapImageWrongFalsely : Prop := fnMapImageRow.holds Try.pinned (OpenSpec.ofChange fnMapImageWrong)

/-- 'laws.FnMapImageInvert': WHATEVER THE INPUT: true; the input reads as it did. -/
def fnMapImageInvertSpec : ChangeSpec := { name := "fnMapImageInvert", fn := fun _ => fun
  | [d] => { results := [.lit (.bool true)], args := [d] }
  | _ => none }
def fnMapImageInvertRow : OpenClaim := { program := "ytebfaomlljekiaa", sum := "c9e24ff413aa21c75710a97f6fe0a803948cf6f9d0200f5e704c5a22d0fff73c", func := "loop.example/pixelworks/laws.FnMapImageInvert", spec := "fnMapImageInvert", unfollowed := true, recurses := true, apart := false }
def FnMapImageInvertSaid : Prop := fnMapImageInvertRow.holds Try.pinned (OpenSpec.ofChange fnMapImageInvertSpec)

/-- ITS FALSE NEIGHBOUR: 'it returns false'. Refute it at one input. -/
def fnMapImageInvertWrong : ChangeSpec := { name := "fnMapImageInvert", fn := fun _ => fun
  | [d] => { results := [.lit (.bool false)], args := [d] }
  | _ => none }
def FnMapImageInvertWrongFalsely : Prop := fnMapImageInvertRow.holds Try.pinned (OpenSpec.ofChange fnMapImageInvertWrong)

/-- 'laws.FnHistogramMap': WHATEVER THE INPUT: true; the input reads as it did. -/
def fnHistogramMapSpec : ChangeSpec := { name := "fnHistogramMap", fn := fun _ => fun
  | [d] => { results := [.lit (.bool true)], args := [d] }
  | _ => none }
def fnHistogramMapRow : OpenClaim := { program := "ytebfaomlljekiaa", sum := "c9e24ff413aa21c75710a97f6fe0a803948cf6f9d0200f5e704c5a22d0fff73c", func := "loop.example/pixelworks/laws.FnHistogramMap", spec := "fnHistogramMap", unfollowed := true, recurses := true, apart := false }
def FnHistogramMapSaid : Prop := fnHistogramMapRow.holds Try.pinned (OpenSpec.ofChange fnHistogramMapSpec)

/-- ITS FALSE NEIGHBOUR: 'it returns false'. Refute it at one input. -/
def fnHistogramMapWrong : ChangeSpec := { name := "fnHistogramMap", fn := fun _ => fun
  | [d] => { results := [.lit (.bool false)], args := [d] }
  | _ => none }
def FnHistogramMapWrongFalsely : Prop := fnHistogramMapRow.holds Try.pinned (OpenSpec.ofChange fnHistogramMapWrong)

/-- 'laws.FnEqualizeImage': WHATEVER THE INPUT: true; the input reads as it did. -/
def fnEqualizeImageSpec : ChangeSpec := { name := "fnEqualizeImage", fn := fun _ => fun
  | [d] => { results := [.lit (.bool true)], args := [d] }
  | _ => none }
def fnEqualizeImageRow : OpenClaim := { program := "ytebfaomlljekiaa", sum := "c9e24ff413aa21c75710a97f6fe0a803948cf6f9d0200f5e704c5a22d0fff73c", func := "loop.example/pixelworks/laws.FnEqualizeImage", spec := "fnEqualizeImage", unfollowed := true, recurses := true, apart := false }
def FnEqualizeImageSaid : Prop := fnEqualizeImageRow.holds Try.pinned (OpenSpec.ofChange fnEqualizeImageSpec)

/-- ITS FALSE NEIGHBOUR: 'it returns false'. Refute it at one input. -/
def fnEqualizeImageWrong : ChangeSpec := { name := "fnEqualizeImage", fn := fun _ => fun
  | [d] => { results := [.lit (.bool false)], args := [d] }
  | _ => none }
def FnEqualizeImageWrongFalsely : Prop := fnEqualizeImageRow.holds Try.pinned (OpenSpec.ofChange fnEqualizeImageWrong)

/-- 'laws.FnThresholdOf': WHATEVER THE INPUT: true; the input reads as it did. -/
def fnThresholdOfSpec : ChangeSpec := { name := "fnThresholdOf", fn := fun _ => fun
  | [d] => { results := [.lit (.bool true)], args := [d] }
  | _ => none }
def fnThresholdOfRow : OpenClaim := { program := "ytebfaomlljekiaa", sum := "c9e24ff413aa21c75710a97f6fe0a803948cf6f9d0200f5e704c5a22d0fff73c", func := "loop.example/pixelworks/laws.FnThresholdOf", spec := "fnThresholdOf", apart := false }
def FnThresholdOfSaid : Prop := fnThresholdOfRow.holds Try.pinned (OpenSpec.ofChange fnThresholdOfSpec)

/-- ITS FALSE NEIGHBOUR: 'it returns false'. Refute it at one input. -/
def fnThresholdOfWrong : ChangeSpec := { name := "fnThresholdOf", fn := fun _ => fun
  | [d] => { results := [.lit (.bool false)], args := [d] }
  | _ => none }
def FnThresholdOfWrongFalsely : Prop := fnThresholdOfRow.holds Try.pinned (OpenSpec.ofChange fnThresholdOfWrong)

/-- 'laws.FnExactSplitPlanes': WHATEVER THE INPUT: true; the input reads as it did. -/
def fnExactSplitPlanesSpec : ChangeSpec := { name := "fnExactSplitPlanes", fn := fun _ => fun
  | [d] => { results := [.lit (.bool true)], args := [d] }
  | _ => none }
def fnExactSplitPlanesRow : OpenClaim := { program := "ytebfaomlljekiaa", sum := "c9e24ff413aa21c75710a97f6fe0a803948cf6f9d0200f5e704c5a22d0fff73c", func := "loop.example/pixelworks/laws.FnExactSplitPlanes", spec := "fnExactSplitPlanes", unfollowed := true, recurses := true, apart := false }
def FnExactSplitPlanesSaid : Prop := fnExactSplitPlanesRow.holds Try.pinned (OpenSpec.ofChange fnExactSplitPlanesSpec)

/-- ITS FALSE NEIGHBOUR: 'it returns false'. Refute it at one input. -/
def fnExactSplitPlanesWrong : ChangeSpec := { name := "fnExactSplitPlanes", fn := fun _ => fun
  | [d] => { results := [.lit (.bool false)], args := [d] }
  | _ => none }
def FnExactSplitPlanesWrongFalsely : Prop := fnExactSplitPlanesRow.holds Try.pinned (OpenSpec.ofChange fnExactSplitPlanesWrong)

/-- 'laws.FnExactMergePlanes': WHATEVER THE INPUT: true; the input reads as it did. -/
def fnExactMergePlanesSpec : ChangeSpec := { name := "fnExactMergePlanes", fn := fun _ => fun
  | [d] => { results := [.lit (.bool true)], args := [d] }
  | _ => none }
def fnExactMergePlanesRow : OpenClaim := { program := "ytebfaomlljekiaa", sum := "c9e24ff413aa21c75710a97f6fe0a803948cf6f9d0200f5e704c5a22d0fff73c", func := "loop.example/pixelworks/laws.FnExactMergePlanes", spec := "fnExactMergePlanes", unfollowed := true, recurses := true, apart := false }
def FnExactMergePlanesSaid : Prop := fnExactMergePlanesRow.holds Try.pinned (OpenSpec.ofChange fnExactMergePlanesSpec)

/-- ITS FALSE NEIGHBOUR: 'it returns false'. Refute it at one input. -/
def fnExactMergePlanesWrong : ChangeSpec := { name := "fnExactMergePlanes", fn := fun _ => fun
  | [d] => { results := [.lit (.bool false)], args := [d] }
  | _ => none }
def FnExactMergePlanesWrongFalsely : Prop := fnExactMergePlanesRow.holds Try.pinned (OpenSpec.ofChange fnExactMergePlanesWrong)

/-- 'laws.FnExactFillRegion': WHATEVER THE INPUT: true; the input reads as it did. -/
def fnExactFillRegionSpec : ChangeSpec := { name := "fnExactFillRegion", fn := fun _ => fun
  | [d1, d2, d3] => { results := [.lit (.bool true)], args := [d1, d2, d3] }
  | _ => none }
def fnExactFillRegionRow : OpenClaim := { program := "ytebfaomlljekiaa", sum := "c9e24ff413aa21c75710a97f6fe0a803948cf6f9d0200f5e704c5a22d0fff73c", func := "loop.example/pixelworks/laws.FnExactFillRegion", spec := "fnExactFillRegion", unfollowed := true, recurses := true, apart := false }
def FnExactFillRegionSaid : Prop := fnExactFillRegionRow.holds Try.pinned (OpenSpec.ofChange fnExactFillRegionSpec)

/-- ITS FALSE NEIGHBOUR: 'it returns false'. Refute it at one input. -/
def fnExactFillRegionWrong : ChangeSpec := { name := "fnExactFillRegion", fn := fun _ => fun
  | [d1, d2, d3] => { results := [.lit (.bool false)], args := [d1, d2, d3] }
  | _ => none }
def FnExactFillRegionWrongFalsely : Prop := fnExactFillRegionRow.holds Try.pinned (OpenSpec.ofChange fnExactFillRegionWrong)

/-- 'laws.FnExactPatchImage': WHATEVER THE INPUT: true; the input reads as it did. -/
def fnExactPatchImageSpec : ChangeSpec := { name := "fnExactPatchImage", fn := fun _ => fun
  | [d1, d2, d3] => { results := [.lit (.bool true)], args := [d1, d2, d3] }
  | _ => none }
def fnExactPatchImageRow : OpenClaim := { program := "ytebfaomlljekiaa", sum := "c9e24ff413aa21c75710a97f6fe0a803948cf6f9d0200f5e704c5a22d0fff73c", func := "loop.example/pixelworks/laws.FnExactPatchImage", spec := "fnExactPatchImage", unfollowed := true, recurses := true, apart := false }
def FnExactPatchImageSaid : Prop := fnExactPatchImageRow.holds Try.pinned (OpenSpec.ofChange fnExactPatchImageSpec)

/-- ITS FALSE NEIGHBOUR: 'it returns false'. Refute it at one input. -/
def fnExactPatchImageWrong : ChangeSpec := { name := "fnExactPatchImage", fn := fun _ => fun
  | [d1, d2, d3] => { results := [.lit (.bool false)], args := [d1, d2, d3] }
  | _ => none }
def FnExactPatchImageWrongFalsely : Prop := fnExactPatchImageRow.holds Try.pinned (OpenSpec.ofChange fnExactPatchImageWrong)

/-- 'laws.FnExactDirtyTiles': WHATEVER THE INPUT: true; the input reads as it did. -/
def fnExactDirtyTilesSpec : ChangeSpec := { name := "fnExactDirtyTiles", fn := fun _ => fun
  | [d1, d2] => { results := [.lit (.bool true)], args := [d1, d2] }
  | _ => none }
def fnExactDirtyTilesRow : OpenClaim := { program := "ytebfaomlljekiaa", sum := "c9e24ff413aa21c75710a97f6fe0a803948cf6f9d0200f5e704c5a22d0fff73c", func := "loop.example/pixelworks/laws.FnExactDirtyTiles", spec := "fnExactDirtyTiles", apart := false }
def FnExactDirtyTilesSaid : Prop := fnExactDirtyTilesRow.holds Try.pinned (OpenSpec.ofChange fnExactDirtyTilesSpec)

/-- ITS FALSE NEIGHBOUR: 'it returns false'. Refute it at one input. -/
def fnExactDirtyTilesWrong : ChangeSpec := { name := "fnExactDirtyTiles", fn := fun _ => fun
  | [d1, d2] => { results := [.lit (.bool false)], args := [d1, d2] }
  | _ => none }
def FnExactDirtyTilesWrongFalsely : Prop := fnExactDirtyTilesRow.holds Try.pinned (OpenSpec.ofChange fnExactDirtyTilesWrong)

/-- 'laws.FnExactValidPacking': WHATEVER THE INPUT: true; the input reads as it did. -/
def fnExactValidPackingSpec : ChangeSpec := { name := "fnExactValidPacking", fn := fun _ => fun
  | [d1, d2, d3] => { results := [.lit (.bool true)], args := [d1, d2, d3] }
  | _ => none }
def fnExactValidPackingRow : OpenClaim := { program := "ytebfaomlljekiaa", sum := "c9e24ff413aa21c75710a97f6fe0a803948cf6f9d0200f5e704c5a22d0fff73c", func := "loop.example/pixelworks/laws.FnExactValidPacking", spec := "fnExactValidPacking", unfollowed := true, recurses := true, apart := false }
def FnExactValidPackingSaid : Prop := fnExactValidPackingRow.holds Try.pinned (OpenSpec.ofChange fnExactValidPackingSpec)

/-- ITS FALSE NEIGHBOUR: 'it returns false'. Refute it at one input. -/
def fnExactValidPackingWrong : ChangeSpec := { name := "fnExactValidPacking", fn := fun _ => fun
  | [d1, d2, d3] => { results := [.lit (.bool false)], args := [d1, d2, d3] }
  | _ => none }
def FnExactValidPackingWrongFalsely : Prop := fnExactValidPackingRow.holds Try.pinned (OpenSpec.ofChange fnExactValidPackingWrong)

/-- 'laws.FnExactCombineRegions': WHATEVER THE INPUT: true; the input reads as it did. -/
def fnExactCombineRegionsSpec : ChangeSpec := { name := "fnExactCombineRegions", fn := fun _ => fun
  | [d1, d2, d3] => { results := [.lit (.bool true)], args := [d1, d2, d3] }
  | _ => none }
def fnExactCombineRegionsRow : OpenClaim := { program := "ytebfaomlljekiaa", sum := "c9e24ff413aa21c75710a97f6fe0a803948cf6f9d0200f5e704c5a22d0fff73c", func := "loop.example/pixelworks/laws.FnExactCombineRegions", spec := "fnExactCombineRegions", unfollowed := true, recurses := true, apart := false }
def FnExactCombineRegionsSaid : Prop := fnExactCombineRegionsRow.holds Try.pinned (OpenSpec.ofChange fnExactCombineRegionsSpec)

/-- ITS FALSE NEIGHBOUR: 'it returns false'. Refute it at one input. -/
def fnExactCombineRegionsWrong : ChangeSpec := { name := "fnExactCombineRegions", fn := fun _ => fun
  | [d1, d2, d3] => { results := [.lit (.bool false)], args := [d1, d2, d3] }
  | _ => none }
def FnExactCombineRegionsWrongFalsely : Prop := fnExactCombineRegionsRow.holds Try.pinned (OpenSpec.ofChange fnExactCombineRegionsWrong)

/- THE SECOND FORM. 'bulk': how many values and letters a reading holds, each counted each time it is reached (what is shared counts as often as it is met; a slice's spare places count too). A statement '..UptoSaid' is the law's where the arguments, and the package variables that the reading takes, are together of bulk at most 1048576: NARROWER than '..Said'. Prove '..Said' where nothing that the law and all that it calls make is longer than what came in: it says more and counts as full. Else prove '..UptoSaid'. A law counts once. -/
mutual
def uptoBulk {H : Type} : DataW H → Nat
  | .lit (.string bytes) => bytes.length + 1
  | .lit _ => 1
  | .nil => 1
  | .ptr d => uptoBulk d + 1
  | .slice elems spare => uptoBulkAll elems + uptoBulkAll spare + 1
  | .agg parts => uptoBulkAll parts + 1
  | .iface _ d => uptoBulk d + 1
  | .map entries => uptoBulkEntries entries + 1
  | .held _ => 1
def uptoBulkAll {H : Type} : List (DataW H) → Nat
  | [] => 0
  | d :: r => uptoBulk d + uptoBulkAll r
def uptoBulkEntries {H : Type} : List (Lit × DataW H) → Nat
  | [] => 0
  | x :: r => uptoBulkEntry x + uptoBulkEntries r
def uptoBulkEntry {H : Type} : Lit × DataW H → Nat
  | (.string bytes, d) => bytes.length + uptoBulk d + 1
  | (_, d) => uptoBulk d + 1
 end
def uptoSmall : (H : Type) → List (DataW H) → Bool := fun _ ds => decide (uptoBulkAll ds ≤ 1048576)
def OpenSpec.upto (s : _root_.Go.ChangeSpec) : _root_.Go.OpenSpec := { _root_.Go.OpenSpec.ofChange s with cond := some uptoSmall }

/-- 'laws.FnMapImage', WHERE WHAT IT READS IS OF BULK AT MOST 1048576: true; the input reads as it did. -/
def fnMapImageUptoRow : OpenClaim := { program := "ytebfaomlljekiaa", sum := "c9e24ff413aa21c75710a97f6fe0a803948cf6f9d0200f5e704c5a22d0fff73c", func := "loop.example/pixelworks/laws.FnMapImage", spec := "fnMapImage", unfollowed := true, recurses := true, apart := false, narrowed := true }
def FnMapImageUptoSaid : Prop := fnMapImageUptoRow.holds Try.pinned (OpenSpec.upto fnMapImageSpec)

/-- 'laws.FnMapImageInvert', WHERE WHAT IT READS IS OF BULK AT MOST 1048576: true; the input reads as it did. -/
def fnMapImageInvertUptoRow : OpenClaim := { program := "ytebfaomlljekiaa", sum := "c9e24ff413aa21c75710a97f6fe0a803948cf6f9d0200f5e704c5a22d0fff73c", func := "loop.example/pixelworks/laws.FnMapImageInvert", spec := "fnMapImageInvert", unfollowed := true, recurses := true, apart := false, narrowed := true }
def FnMapImageInvertUptoSaid : Prop := fnMapImageInvertUptoRow.holds Try.pinned (OpenSpec.upto fnMapImageInvertSpec)

/-- 'laws.FnHistogramMap', WHERE WHAT IT READS IS OF BULK AT MOST 1048576: true; the input reads as it did. -/
def fnHistogramMapUptoRow : OpenClaim := { program := "ytebfaomlljekiaa", sum := "c9e24ff413aa21c75710a97f6fe0a803948cf6f9d0200f5e704c5a22d0fff73c", func := "loop.example/pixelworks/laws.FnHistogramMap", spec := "fnHistogramMap", unfollowed := true, recurses := true, apart := false, narrowed := true }
def FnHistogramMapUptoSaid : Prop := fnHistogramMapUptoRow.holds Try.pinned (OpenSpec.upto fnHistogramMapSpec)

/-- 'laws.FnEqualizeImage', WHERE WHAT IT READS IS OF BULK AT MOST 1048576: true; the input reads as it did. -/
def fnEqualizeImageUptoRow : OpenClaim := { program := "ytebfaomlljekiaa", sum := "c9e24ff413aa21c75710a97f6fe0a803948cf6f9d0200f5e704c5a22d0fff73c", func := "loop.example/pixelworks/laws.FnEqualizeImage", spec := "fnEqualizeImage", unfollowed := true, recurses := true, apart := false, narrowed := true }
def FnEqualizeImageUptoSaid : Prop := fnEqualizeImageUptoRow.holds Try.pinned (OpenSpec.upto fnEqualizeImageSpec)

/-- 'laws.FnThresholdOf', WHERE WHAT IT READS IS OF BULK AT MOST 1048576: true; the input reads as it did. -/
def fnThresholdOfUptoRow : OpenClaim := { program := "ytebfaomlljekiaa", sum := "c9e24ff413aa21c75710a97f6fe0a803948cf6f9d0200f5e704c5a22d0fff73c", func := "loop.example/pixelworks/laws.FnThresholdOf", spec := "fnThresholdOf", apart := false, narrowed := true }
def FnThresholdOfUptoSaid : Prop := fnThresholdOfUptoRow.holds Try.pinned (OpenSpec.upto fnThresholdOfSpec)

/-- 'laws.FnExactSplitPlanes', WHERE WHAT IT READS IS OF BULK AT MOST 1048576: true; the input reads as it did. -/
def fnExactSplitPlanesUptoRow : OpenClaim := { program := "ytebfaomlljekiaa", sum := "c9e24ff413aa21c75710a97f6fe0a803948cf6f9d0200f5e704c5a22d0fff73c", func := "loop.example/pixelworks/laws.FnExactSplitPlanes", spec := "fnExactSplitPlanes", unfollowed := true, recurses := true, apart := false, narrowed := true }
def FnExactSplitPlanesUptoSaid : Prop := fnExactSplitPlanesUptoRow.holds Try.pinned (OpenSpec.upto fnExactSplitPlanesSpec)

/-- 'laws.FnExactMergePlanes', WHERE WHAT IT READS IS OF BULK AT MOST 1048576: true; the input reads as it did. -/
def fnExactMergePlanesUptoRow : OpenClaim := { program := "ytebfaomlljekiaa", sum := "c9e24ff413aa21c75710a97f6fe0a803948cf6f9d0200f5e704c5a22d0fff73c", func := "loop.example/pixelworks/laws.FnExactMergePlanes", spec := "fnExactMergePlanes", unfollowed := true, recurses := true, apart := false, narrowed := true }
def FnExactMergePlanesUptoSaid : Prop := fnExactMergePlanesUptoRow.holds Try.pinned (OpenSpec.upto fnExactMergePlanesSpec)

/-- 'laws.FnExactFillRegion', WHERE WHAT IT READS IS OF BULK AT MOST 1048576: true; the input reads as it did. -/
def fnExactFillRegionUptoRow : OpenClaim := { program := "ytebfaomlljekiaa", sum := "c9e24ff413aa21c75710a97f6fe0a803948cf6f9d0200f5e704c5a22d0fff73c", func := "loop.example/pixelworks/laws.FnExactFillRegion", spec := "fnExactFillRegion", unfollowed := true, recurses := true, apart := false, narrowed := true }
def FnExactFillRegionUptoSaid : Prop := fnExactFillRegionUptoRow.holds Try.pinned (OpenSpec.upto fnExactFillRegionSpec)

/-- 'laws.FnExactPatchImage', WHERE WHAT IT READS IS OF BULK AT MOST 1048576: true; the input reads as it did. -/
def fnExactPatchImageUptoRow : OpenClaim := { program := "ytebfaomlljekiaa", sum := "c9e24ff413aa21c75710a97f6fe0a803948cf6f9d0200f5e704c5a22d0fff73c", func := "loop.example/pixelworks/laws.FnExactPatchImage", spec := "fnExactPatchImage", unfollowed := true, recurses := true, apart := false, narrowed := true }
def FnExactPatchImageUptoSaid : Prop := fnExactPatchImageUptoRow.holds Try.pinned (OpenSpec.upto fnExactPatchImageSpec)

/-- 'laws.FnExactDirtyTiles', WHERE WHAT IT READS IS OF BULK AT MOST 1048576: true; the input reads as it did. -/
def fnExactDirtyTilesUptoRow : OpenClaim := { program := "ytebfaomlljekiaa", sum := "c9e24ff413aa21c75710a97f6fe0a803948cf6f9d0200f5e704c5a22d0fff73c", func := "loop.example/pixelworks/laws.FnExactDirtyTiles", spec := "fnExactDirtyTiles", apart := false, narrowed := true }
def FnExactDirtyTilesUptoSaid : Prop := fnExactDirtyTilesUptoRow.holds Try.pinned (OpenSpec.upto fnExactDirtyTilesSpec)

/-- 'laws.FnExactValidPacking', WHERE WHAT IT READS IS OF BULK AT MOST 1048576: true; the input reads as it did. -/
def fnExactValidPackingUptoRow : OpenClaim := { program := "ytebfaomlljekiaa", sum := "c9e24ff413aa21c75710a97f6fe0a803948cf6f9d0200f5e704c5a22d0fff73c", func := "loop.example/pixelworks/laws.FnExactValidPacking", spec := "fnExactValidPacking", unfollowed := true, recurses := true, apart := false, narrowed := true }
def FnExactValidPackingUptoSaid : Prop := fnExactValidPackingUptoRow.holds Try.pinned (OpenSpec.upto fnExactValidPackingSpec)

/-- 'laws.FnExactCombineRegions', WHERE WHAT IT READS IS OF BULK AT MOST 1048576: true; the input reads as it did. -/
def fnExactCombineRegionsUptoRow : OpenClaim := { program := "ytebfaomlljekiaa", sum := "c9e24ff413aa21c75710a97f6fe0a803948cf6f9d0200f5e704c5a22d0fff73c", func := "loop.example/pixelworks/laws.FnExactCombineRegions", spec := "fnExactCombineRegions", unfollowed := true, recurses := true, apart := false, narrowed := true }
def FnExactCombineRegionsUptoSaid : Prop := fnExactCombineRegionsUptoRow.holds Try.pinned (OpenSpec.upto fnExactCombineRegionsSpec)

end Rows
end Go.Proofs.Ytebfaomlljekiaa
