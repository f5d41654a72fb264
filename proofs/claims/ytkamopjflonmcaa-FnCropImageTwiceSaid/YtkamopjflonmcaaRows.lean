/-
  No cell of these rows narrows 'for every input' (looked for: loops, veiled, ifaces, maps, wideKeys, modest, calm, conditions, laid).
  DERIVED. THE GIVEN ROWS OF THIS SEAT. 10 by the template 'for every input the law returns true; each argument reads behind the call as it read before'; 0 by the template 'total and deterministic' (their statements: YtkamopjflonmcaaTotals.lean).
  GIVEN WITH THE SEED: the statements are not yours to turn. If you find one false, say at which input.
  Laid BY PROGRAM, IN A SANDBOX (cutbox-rows.mjs): the forced cells as the released guide's own fill.sh prints them over the translation 45e52142824d6cda… (all of the seat's roots in one cut). By AI agents, Wed Nov 11 2026. No macro, syntax, notation, axiom, sorry.
-/
import Derived.Test.YtkamopjflonmcaaChecked
import GoSem.Claim
import GoSem.ClaimJoined
import GoSem.ClaimMapViews
import Derived.JoinedTies
import Derived.KernelRfl
namespace Go.Proofs.Ytkamopjflonmcaa
/- THE CELL 'sum', in the pinned program and in every row, IS THE sha256 OF THE DUMP (.gsa) THAT YtkamopjflonmcaaProg.lean LOADS. Nothing in Lean hashes anything: it is a label: what it is worth is what the hold of that sum in a sandbox is worth. -/
noncomputable def Try.pinned : Pinned := { name := "ytkamopjflonmcaa", sum := "45e52142824d6cda891066b19ba523115f0bf23bd9ea5d1bdac90d8773a1aec3", checked := Try.checked }
namespace Rows
def none {H : Type} : Left H := { results := [], args := [] }

/-- 'laws.FnCropImage': WHATEVER THE INPUT: true; the input reads as it did. -/
def fnCropImageSpec : ChangeSpec := { name := "fnCropImage", fn := fun _ => fun
  | [d] => { results := [.lit (.bool true)], args := [d] }
  | _ => none }
def fnCropImageRow : OpenClaim := { program := "ytkamopjflonmcaa", sum := "45e52142824d6cda891066b19ba523115f0bf23bd9ea5d1bdac90d8773a1aec3", func := "loop.example/pixelworks/laws.FnCropImage", spec := "fnCropImage", unfollowed := true, recurses := true, apart := false }
def FnCropImageSaid : Prop := fnCropImageRow.holds Try.pinned (OpenSpec.ofChange fnCropImageSpec)

/-- ITS FALSE NEIGHBOUR: 'it returns false'. Refute it at one input. -/
def fnCropImageWrong : ChangeSpec := { name := "fnCropImage", fn := fun _ => fun
  | [d] => { results := [.lit (.bool false)], args := [d] }
  | _ => none }
def FnCropImageWrongFalsely : Prop := fnCropImageRow.holds Try.pinned (OpenSpec.ofChange fnCropImageWrong)

/-- 'laws.FnCropImageTwice': WHATEVER THE INPUT: true; the input reads as it did. -/
def fnCropImageTwiceSpec : ChangeSpec := { name := "fnCropImageTwice", fn := fun _ => fun
  | [d] => { results := [.lit (.bool true)], args := [d] }
  | _ => none }
def fnCropImageTwiceRow : OpenClaim := { program := "ytkamopjflonmcaa", sum := "45e52142824d6cda891066b19ba523115f0bf23bd9ea5d1bdac90d8773a1aec3", func := "loop.example/pixelworks/laws.FnCropImageTwice", spec := "fnCropImageTwice", unfollowed := true, recurses := true, apart := false }
def FnCropImageTwiceSaid : Prop := fnCropImageTwiceRow.holds Try.pinned (OpenSpec.ofChange fnCropImageTwiceSpec)

/-- ITS FALSE NEIGHBOUR: 'it returns false'. Refute it at one input. -/
def fnCropImageTwiceWrong : ChangeSpec := { name := "fnCropImageTwice", fn := fun _ => fun
  | [d] => { results := [.lit (.bool false)], args := [d] }
  | _ => none }
def FnCropImageTwiceWrongFalsely : Prop := fnCropImageTwiceRow.holds Try.pinned (OpenSpec.ofChange fnCropImageTwiceWrong)

/-- 'laws.FnPasteImage': WHATEVER THE INPUT: true; the input reads as it did. -/
def fnPasteImageSpec : ChangeSpec := { name := "fnPasteImage", fn := fun _ => fun
  | [d] => { results := [.lit (.bool true)], args := [d] }
  | _ => none }
def fnPasteImageRow : OpenClaim := { program := "ytkamopjflonmcaa", sum := "45e52142824d6cda891066b19ba523115f0bf23bd9ea5d1bdac90d8773a1aec3", func := "loop.example/pixelworks/laws.FnPasteImage", spec := "fnPasteImage", unfollowed := true, recurses := true, apart := false }
def FnPasteImageSaid : Prop := fnPasteImageRow.holds Try.pinned (OpenSpec.ofChange fnPasteImageSpec)

/-- ITS FALSE NEIGHBOUR: 'it returns false'. Refute it at one input. -/
def fnPasteImageWrong : ChangeSpec := { name := "fnPasteImage", fn := fun _ => fun
  | [d] => { results := [.lit (.bool false)], args := [d] }
  | _ => none }
def FnPasteImageWrongFalsely : Prop := fnPasteImageRow.holds Try.pinned (OpenSpec.ofChange fnPasteImageWrong)

/-- 'laws.FnExactCropImage': WHATEVER THE INPUT: true; the input reads as it did. -/
def fnExactCropImageSpec : ChangeSpec := { name := "fnExactCropImage", fn := fun _ => fun
  | [d1, d2] => { results := [.lit (.bool true)], args := [d1, d2] }
  | _ => none }
def fnExactCropImageRow : OpenClaim := { program := "ytkamopjflonmcaa", sum := "45e52142824d6cda891066b19ba523115f0bf23bd9ea5d1bdac90d8773a1aec3", func := "loop.example/pixelworks/laws.FnExactCropImage", spec := "fnExactCropImage", unfollowed := true, recurses := true, apart := false }
def FnExactCropImageSaid : Prop := fnExactCropImageRow.holds Try.pinned (OpenSpec.ofChange fnExactCropImageSpec)

/-- ITS FALSE NEIGHBOUR: 'it returns false'. Refute it at one input. -/
def fnExactCropImageWrong : ChangeSpec := { name := "fnExactCropImage", fn := fun _ => fun
  | [d1, d2] => { results := [.lit (.bool false)], args := [d1, d2] }
  | _ => none }
def FnExactCropImageWrongFalsely : Prop := fnExactCropImageRow.holds Try.pinned (OpenSpec.ofChange fnExactCropImageWrong)

/-- 'laws.FnExactPasteImage': WHATEVER THE INPUT: true; the input reads as it did. -/
def fnExactPasteImageSpec : ChangeSpec := { name := "fnExactPasteImage", fn := fun _ => fun
  | [d1, d2, d3, d4] => { results := [.lit (.bool true)], args := [d1, d2, d3, d4] }
  | _ => none }
def fnExactPasteImageRow : OpenClaim := { program := "ytkamopjflonmcaa", sum := "45e52142824d6cda891066b19ba523115f0bf23bd9ea5d1bdac90d8773a1aec3", func := "loop.example/pixelworks/laws.FnExactPasteImage", spec := "fnExactPasteImage", unfollowed := true, recurses := true, apart := false }
def FnExactPasteImageSaid : Prop := fnExactPasteImageRow.holds Try.pinned (OpenSpec.ofChange fnExactPasteImageSpec)

/-- ITS FALSE NEIGHBOUR: 'it returns false'. Refute it at one input. -/
def fnExactPasteImageWrong : ChangeSpec := { name := "fnExactPasteImage", fn := fun _ => fun
  | [d1, d2, d3, d4] => { results := [.lit (.bool false)], args := [d1, d2, d3, d4] }
  | _ => none }
def FnExactPasteImageWrongFalsely : Prop := fnExactPasteImageRow.holds Try.pinned (OpenSpec.ofChange fnExactPasteImageWrong)

/-- 'laws.FnExactTileBoxes': WHATEVER THE INPUT: true; the input reads as it did. -/
def fnExactTileBoxesSpec : ChangeSpec := { name := "fnExactTileBoxes", fn := fun _ => fun
  | [d] => { results := [.lit (.bool true)], args := [d] }
  | _ => none }
def fnExactTileBoxesRow : OpenClaim := { program := "ytkamopjflonmcaa", sum := "45e52142824d6cda891066b19ba523115f0bf23bd9ea5d1bdac90d8773a1aec3", func := "loop.example/pixelworks/laws.FnExactTileBoxes", spec := "fnExactTileBoxes", apart := false }
def FnExactTileBoxesSaid : Prop := fnExactTileBoxesRow.holds Try.pinned (OpenSpec.ofChange fnExactTileBoxesSpec)

/-- ITS FALSE NEIGHBOUR: 'it returns false'. Refute it at one input. -/
def fnExactTileBoxesWrong : ChangeSpec := { name := "fnExactTileBoxes", fn := fun _ => fun
  | [d] => { results := [.lit (.bool false)], args := [d] }
  | _ => none }
def FnExactTileBoxesWrongFalsely : Prop := fnExactTileBoxesRow.holds Try.pinned (OpenSpec.ofChange fnExactTileBoxesWrong)

/-- 'laws.FnExactDirtyTiles': WHATEVER THE INPUT: true; the input reads as it did. -/
def fnExactDirtyTilesSpec : ChangeSpec := { name := "fnExactDirtyTiles", fn := fun _ => fun
  | [d1, d2] => { results := [.lit (.bool true)], args := [d1, d2] }
  | _ => none }
def fnExactDirtyTilesRow : OpenClaim := { program := "ytkamopjflonmcaa", sum := "45e52142824d6cda891066b19ba523115f0bf23bd9ea5d1bdac90d8773a1aec3", func := "loop.example/pixelworks/laws.FnExactDirtyTiles", spec := "fnExactDirtyTiles", apart := false }
def FnExactDirtyTilesSaid : Prop := fnExactDirtyTilesRow.holds Try.pinned (OpenSpec.ofChange fnExactDirtyTilesSpec)

/-- ITS FALSE NEIGHBOUR: 'it returns false'. Refute it at one input. -/
def fnExactDirtyTilesWrong : ChangeSpec := { name := "fnExactDirtyTiles", fn := fun _ => fun
  | [d1, d2] => { results := [.lit (.bool false)], args := [d1, d2] }
  | _ => none }
def FnExactDirtyTilesWrongFalsely : Prop := fnExactDirtyTilesRow.holds Try.pinned (OpenSpec.ofChange fnExactDirtyTilesWrong)

/-- 'laws.FnTileBoxes': WHATEVER THE INPUT: true; the input reads as it did. -/
def fnTileBoxesSpec : ChangeSpec := { name := "fnTileBoxes", fn := fun _ => fun
  | [d] => { results := [.lit (.bool true)], args := [d] }
  | _ => none }
def fnTileBoxesRow : OpenClaim := { program := "ytkamopjflonmcaa", sum := "45e52142824d6cda891066b19ba523115f0bf23bd9ea5d1bdac90d8773a1aec3", func := "loop.example/pixelworks/laws.FnTileBoxes", spec := "fnTileBoxes", unfollowed := true, recurses := true, apart := false }
def FnTileBoxesSaid : Prop := fnTileBoxesRow.holds Try.pinned (OpenSpec.ofChange fnTileBoxesSpec)

/-- ITS FALSE NEIGHBOUR: 'it returns false'. Refute it at one input. -/
def fnTileBoxesWrong : ChangeSpec := { name := "fnTileBoxes", fn := fun _ => fun
  | [d] => { results := [.lit (.bool false)], args := [d] }
  | _ => none }
def FnTileBoxesWrongFalsely : Prop := fnTileBoxesRow.holds Try.pinned (OpenSpec.ofChange fnTileBoxesWrong)

/-- 'laws.FnExactGrayImage': WHATEVER THE INPUT: true; the input reads as it did. -/
def fnExactGrayImageSpec : ChangeSpec := { name := "fnExactGrayImage", fn := fun _ => fun
  | [d] => { results := [.lit (.bool true)], args := [d] }
  | _ => none }
def fnExactGrayImageRow : OpenClaim := { program := "ytkamopjflonmcaa", sum := "45e52142824d6cda891066b19ba523115f0bf23bd9ea5d1bdac90d8773a1aec3", func := "loop.example/pixelworks/laws.FnExactGrayImage", spec := "fnExactGrayImage", unfollowed := true, recurses := true, apart := false }
def FnExactGrayImageSaid : Prop := fnExactGrayImageRow.holds Try.pinned (OpenSpec.ofChange fnExactGrayImageSpec)

/-- ITS FALSE NEIGHBOUR: 'it returns false'. Refute it at one input. -/
def fnExactGrayImageWrong : ChangeSpec := { name := "fnExactGrayImage", fn := fun _ => fun
  | [d] => { results := [.lit (.bool false)], args := [d] }
  | _ => none }
def FnExactGrayImageWrongFalsely : Prop := fnExactGrayImageRow.holds Try.pinned (OpenSpec.ofChange fnExactGrayImageWrong)

/-- 'laws.FnExactSplitPlanes': WHATEVER THE INPUT: true; the input reads as it did. -/
def fnExactSplitPlanesSpec : ChangeSpec := { name := "fnExactSplitPlanes", fn := fun _ => fun
  | [d] => { results := [.lit (.bool true)], args := [d] }
  | _ => none }
def fnExactSplitPlanesRow : OpenClaim := { program := "ytkamopjflonmcaa", sum := "45e52142824d6cda891066b19ba523115f0bf23bd9ea5d1bdac90d8773a1aec3", func := "loop.example/pixelworks/laws.FnExactSplitPlanes", spec := "fnExactSplitPlanes", unfollowed := true, recurses := true, apart := false }
def FnExactSplitPlanesSaid : Prop := fnExactSplitPlanesRow.holds Try.pinned (OpenSpec.ofChange fnExactSplitPlanesSpec)

/-- ITS FALSE NEIGHBOUR: 'it returns false'. Refute it at one input. -/
def fnExactSplitPlanesWrong : ChangeSpec := { name := "fnExactSplitPlanes", fn := fun _ => fun
  | [d] => { results := [.lit (.bool false)], args := [d] }
  | _ => none }
def FnExactSplitPlanesWrongFalsely : Prop := fnExactSplitPlanesRow.holds Try.pinned (OpenSpec.ofChange fnExactSplitPlanesWrong)

/- THE SECOND FORM. 'bulk': how many values and letters a reading holds, each counted each time it is reached (what is shared counts as often as it is met; a slice's spare places count too). A statement '..UptoSaid' is the law's where the arguments, and the package variables that the reading takes, are together of bulk at most 1048576: NARROWER than '..Said'. Prove '..Said' where nothing that the law and all that it calls make is longer than what came in: it says more and counts as full. Else prove '..UptoSaid'. A law counts once. -/
mutual
def uptoBulk {H : Type} : DataW H → Nat
  | .lit (.string bytes) => bytes.length + 1
  | .lit _ => 1
  | .nil => 1
  | .ptr d => uptoBulk d + 1
  | .slice elems spare => uptoBulkAll elems + uptoBulkAll spare + 1
  | .agg parts => uptoBulkAll parts + 1
  | .iface _ d => uptoBulk d + 1
  | .map entries => uptoBulkEntries entries + 1
  | .held _ => 1
def uptoBulkAll {H : Type} : List (DataW H) → Nat
  | [] => 0
  | d :: r => uptoBulk d + uptoBulkAll r
def uptoBulkEntries {H : Type} : List (Lit × DataW H) → Nat
  | [] => 0
  | x :: r => uptoBulkEntry x + uptoBulkEntries r
def uptoBulkEntry {H : Type} : Lit × DataW H → Nat
  | (.string bytes, d) => bytes.length + uptoBulk d + 1
  | (_, d) => uptoBulk d + 1
 end
def uptoSmall : (H : Type) → List (DataW H) → Bool := fun _ ds => decide (uptoBulkAll ds ≤ 1048576)
def OpenSpec.upto (s : _root_.Go.ChangeSpec) : _root_.Go.OpenSpec := { _root_.Go.OpenSpec.ofChange s with cond := some uptoSmall }

/-- 'laws.FnCropImage', WHERE WHAT IT READS IS OF BULK AT MOST 1048576: true; the input reads as it did. -/
def fnCropImageUptoRow : OpenClaim := { program := "ytkamopjflonmcaa", sum := "45e52142824d6cda891066b19ba523115f0bf23bd9ea5d1bdac90d8773a1aec3", func := "loop.example/pixelworks/laws.FnCropImage", spec := "fnCropImage", unfollowed := true, recurses := true, apart := false, narrowed := true }
def FnCropImageUptoSaid : Prop := fnCropImageUptoRow.holds Try.pinned (OpenSpec.upto fnCropImageSpec)

/-- 'laws.FnCropImageTwice', WHERE WHAT IT READS IS OF BULK AT MOST 1048576: true; the input reads as it did. -/
def fnCropImageTwiceUptoRow : OpenClaim := { program := "ytkamopjflonmcaa", sum := "45e52142824d6cda891066b19ba523115f0bf23bd9ea5d1bdac90d8773a1aec3", func := "loop.example/pixelworks/laws.FnCropImageTwice", spec := "fnCropImageTwice", unfollowed := true, recurses := true, apart := false, narrowed := true }
def FnCropImageTwiceUptoSaid : Prop := fnCropImageTwiceUptoRow.holds Try.pinned (OpenSpec.upto fnCropImageTwiceSpec)

/-- 'laws.FnPasteImage', WHERE WHAT IT READS IS OF BULK AT MOST 1048576: true; the input reads as it did. -/
def fnPasteImageUptoRow : OpenClaim := { program := "ytkamopjflonmcaa", sum := "45e52142824d6cda891066b19ba523115f0bf23bd9ea5d1bdac90d8773a1aec3", func := "loop.example/pixelworks/laws.FnPasteImage", spec := "fnPasteImage", unfollowed := true, recurses := true, apart := false, narrowed := true }
def FnPasteImageUptoSaid : Prop := fnPasteImageUptoRow.holds Try.pinned (OpenSpec.upto fnPasteImageSpec)

/-- 'laws.FnExactCropImage', WHERE WHAT IT READS IS OF BULK AT MOST 1048576: true; the input reads as it did. -/
def fnExactCropImageUptoRow : OpenClaim := { program := "ytkamopjflonmcaa", sum := "45e52142824d6cda891066b19ba523115f0bf23bd9ea5d1bdac90d8773a1aec3", func := "loop.example/pixelworks/laws.FnExactCropImage", spec := "fnExactCropImage", unfollowed := true, recurses := true, apart := false, narrowed := true }
def FnExactCropImageUptoSaid : Prop := fnExactCropImageUptoRow.holds Try.pinned (OpenSpec.upto fnExactCropImageSpec)

/-- 'laws.FnExactPasteImage', WHERE WHAT IT READS IS OF BULK AT MOST 1048576: true; the input reads as it did. -/
def fnExactPasteImageUptoRow : OpenClaim := { program := "ytkamopjflonmcaa", sum := "45e52142824d6cda891066b19ba523115f0bf23bd9ea5d1bdac90d8773a1aec3", func := "loop.example/pixelworks/laws.FnExactPasteImage", spec := "fnExactPasteImage", unfollowed := true, recurses := true, apart := false, narrowed := true }
def FnExactPasteImageUptoSaid : Prop := fnExactPasteImageUptoRow.holds Try.pinned (OpenSpec.upto fnExactPasteImageSpec)

/-- 'laws.FnExactTileBoxes', WHERE WHAT IT READS IS OF BULK AT MOST 1048576: true; the input reads as it did. -/
def fnExactTileBoxesUptoRow : OpenClaim := { program := "ytkamopjflonmcaa", sum := "45e52142824d6cda891066b19ba523115f0bf23bd9ea5d1bdac90d8773a1aec3", func := "loop.example/pixelworks/laws.FnExactTileBoxes", spec := "fnExactTileBoxes", apart := false, narrowed := true }
def FnExactTileBoxesUptoSaid : Prop := fnExactTileBoxesUptoRow.holds Try.pinned (OpenSpec.upto fnExactTileBoxesSpec)

/-- 'laws.FnExactDirtyTiles', WHERE WHAT IT READS IS OF BULK AT MOST 1048576: true; the input reads as it did. -/
def fnExactDirtyTilesUptoRow : OpenClaim := { program := "ytkamopjflonmcaa", sum := "45e52142824d6cda891066b19ba523115f0bf23bd9ea5d1bdac90d8773a1aec3", func := "loop.example/pixelworks/laws.FnExactDirtyTiles", spec := "fnExactDirtyTiles", apart := false, narrowed := true }
def FnExactDirtyTilesUptoSaid : Prop := fnExactDirtyTilesUptoRow.holds Try.pinned (OpenSpec.upto fnExactDirtyTilesSpec)

/-- 'laws.FnTileBoxes', WHERE WHAT IT READS IS OF BULK AT MOST 1048576: true; the input reads as it did. -/
def fnTileBoxesUptoRow : OpenClaim := { program := "ytkamopjflonmcaa", sum := "45e52142824d6cda891066b19ba523115f0bf23bd9ea5d1bdac90d8773a1aec3", func := "loop.example/pixelworks/laws.FnTileBoxes", spec := "fnTileBoxes", unfollowed := true, recurses := true, apart := false, narrowed := true }
def FnTileBoxesUptoSaid : Prop := fnTileBoxesUptoRow.holds Try.pinned (OpenSpec.upto fnTileBoxesSpec)

/-- 'laws.FnExactGrayImage', WHERE WHAT IT READS IS OF BULK AT MOST 1048576: true; the input reads as it did. -/
def fnExactGrayImageUptoRow : OpenClaim := { program := "ytkamopjflonmcaa", sum := "45e52142824d6cda891066b19ba523115f0bf23bd9ea5d1bdac90d8773a1aec3", func := "loop.example/pixelworks/laws.FnExactGrayImage", spec := "fnExactGrayImage", unfollowed := true, recurses := true, apart := false, narrowed := true }
def FnExactGrayImageUptoSaid : Prop := fnExactGrayImageUptoRow.holds Try.pinned (OpenSpec.upto fnExactGrayImageSpec)

/-- 'laws.FnExactSplitPlanes', WHERE WHAT IT READS IS OF BULK AT MOST 1048576: true; the input reads as it did. -/
def fnExactSplitPlanesUptoRow : OpenClaim := { program := "ytkamopjflonmcaa", sum := "45e52142824d6cda891066b19ba523115f0bf23bd9ea5d1bdac90d8773a1aec3", func := "loop.example/pixelworks/laws.FnExactSplitPlanes", spec := "fnExactSplitPlanes", unfollowed := true, recurses := true, apart := false, narrowed := true }
def FnExactSplitPlanesUptoSaid : Prop := fnExactSplitPlanesUptoRow.holds Try.pinned (OpenSpec.upto fnExactSplitPlanesSpec)

end Rows
end Go.Proofs.Ytkamopjflonmcaa
