/-
  No cell of these rows narrows 'for every input' (looked for: loops, veiled, ifaces, maps, wideKeys, modest, calm, conditions, laid).
  DERIVED. THE GIVEN ROWS OF THIS SEAT. 12 by the template 'for every input the law returns true; each argument reads behind the call as it read before'; 0 by the template 'total and deterministic' (their statements: YtegiccljmlghlaaTotals.lean).
  GIVEN WITH THE SEED: the statements are not yours to turn. If you find one false, say at which input.
  Laid BY PROGRAM, IN A SANDBOX (cutbox-rows.mjs): the forced cells as the released guide's own fill.sh prints them over the translation 9d426f1fe98e9405… (all of the seat's roots in one cut). By AI agents, Wed Nov 11 2026. No macro, syntax, notation, axiom, sorry.
-/
import Derived.Test.YtegiccljmlghlaaChecked
import GoSem.Claim
import GoSem.ClaimJoined
import GoSem.ClaimMapViews
import Derived.JoinedTies
import Derived.KernelRfl
namespace Go.Proofs.Ytegiccljmlghlaa
/- THE CELL 'sum', in the pinned program and in every row, IS THE sha256 OF THE DUMP (.gsa) THAT YtegiccljmlghlaaProg.lean LOADS. Nothing in Lean hashes anything: it is a label: what it is worth is what the hold of that sum in a sandbox is worth. -/
noncomputable def Try.pinned : Pinned := { name := "ytegiccljmlghlaa", sum := "9d426f1fe98e9405072a8f341c8194545f0a02faf822352e4c2870276bee01ec", checked := Try.checked }
namespace Rows
def none {H : Type} : Left H := { results := [], args := [] }

/-- 'laws.FnCropImage': WHATEVER THE INPUT: true; the input reads as it did. -/
def fnCropImageSpec : ChangeSpec := { name := "fnCropImage", fn := fun _ => fun
  | [d] => { results := [.lit (.bool true)], args := [d] }
  | _ => none }
def fnCropImageRow : OpenClaim := { program := "ytegiccljmlghlaa", sum := "9d426f1fe98e9405072a8f341c8194545f0a02faf822352e4c2870276bee01ec", func := "loop.example/pixelworks/laws.FnCropImage", spec := "fnCropImage", unfollowed := true, recurses := true, apart := false }
def FnCropImageSaid : Prop := fnCropImageRow.holds Try.pinned (OpenSpec.ofChange fnCropImageSpec)

/-- ITS FALSE NEIGHBOUR: 'it returns false'. Refute it at one input. -/
def fnCropImageWrong : ChangeSpec := { name := "fnCropImage", fn := fun _ => fun
  | [d] => { results := [.lit (.bool false)], args := [d] }
  | _ => none }
def FnCropImageWrongFalsely : Prop := fnCropImageRow.holds Try.pinned (OpenSpec.ofChange fnCropImageWrong)

/-- 'laws.FnCropImageTwice': WHATEVER THE INPUT: true; the input reads as it did. -/
def fnCropImageTwiceSpec : ChangeSpec := { name := "fnCropImageTwice", fn := fun _ => fun
  | [d] => { results := [.lit (.bool true)], args := [d] }
  | _ => none }
def fnCropImageTwiceRow : OpenClaim := { program := "ytegiccljmlghlaa", sum := "9d426f1fe98e9405072a8f341c8194545f0a02faf822352e4c2870276bee01ec", func := "loop.example/pixelworks/laws.FnCropImageTwice", spec := "fnCropImageTwice", unfollowed := true, recurses := true, apart := false }
def FnCropImageTwiceSaid : Prop := fnCropImageTwiceRow.holds Try.pinned (OpenSpec.ofChange fnCropImageTwiceSpec)

/-- ITS FALSE NEIGHBOUR: 'it returns false'. Refute it at one input. -/
def fnCropImageTwiceWrong : ChangeSpec := { name := "fnCropImageTwice", fn := fun _ => fun
  | [d] => { results := [.lit (.bool false)], args := [d] }
  | _ => none }
def FnCropImageTwiceWrongFalsely : Prop := fnCropImageTwiceRow.holds Try.pinned (OpenSpec.ofChange fnCropImageTwiceWrong)

/-- 'laws.FnPasteImage': WHATEVER THE INPUT: true; the input reads as it did. -/
def fnPasteImageSpec : ChangeSpec := { name := "fnPasteImage", fn := fun _ => fun
  | [d] => { results := [.lit (.bool true)], args := [d] }
  | _ => none }
def fnPasteImageRow : OpenClaim := { program := "ytegiccljmlghlaa", sum := "9d426f1fe98e9405072a8f341c8194545f0a02faf822352e4c2870276bee01ec", func := "loop.example/pixelworks/laws.FnPasteImage", spec := "fnPasteImage", unfollowed := true, recurses := true, apart := false }
def FnPasteImageSaid : Prop := fnPasteImageRow.holds Try.pinned (OpenSpec.ofChange fnPasteImageSpec)

/-- ITS FALSE NEIGHBOUR: 'it returns false'. Refute it at one input. -/
def fnPasteImageWrong : ChangeSpec := { name := "fnPasteImage", fn := fun _ => fun
  | [d] => { results := [.lit (.bool false)], args := [d] }
  | _ => none }
def FnPasteImageWrongFalsely : Prop := fnPasteImageRow.holds Try.pinned (OpenSpec.ofChange fnPasteImageWrong)

/-- 'laws.FnExactPasteImage': WHATEVER THE INPUT: true; the input reads as it did. -/
def fnExactPasteImageSpec : ChangeSpec := { name := "fnExactPasteImage", fn := fun _ => fun
  | [d1, d2, d3, d4] => { results := [.lit (.bool true)], args := [d1, d2, d3, d4] }
  | _ => none }
def fnExactPasteImageRow : OpenClaim := { program := "ytegiccljmlghlaa", sum := "9d426f1fe98e9405072a8f341c8194545f0a02faf822352e4c2870276bee01ec", func := "loop.example/pixelworks/laws.FnExactPasteImage", spec := "fnExactPasteImage", unfollowed := true, recurses := true, apart := false }
def FnExactPasteImageSaid : Prop := fnExactPasteImageRow.holds Try.pinned (OpenSpec.ofChange fnExactPasteImageSpec)

/-- ITS FALSE NEIGHBOUR: 'it returns false'. Refute it at one input. -/
def fnExactPasteImageWrong : ChangeSpec := { name := "fnExactPasteImage", fn := fun _ => fun
  | [d1, d2, d3, d4] => { results := [.lit (.bool false)], args := [d1, d2, d3, d4] }
  | _ => none }
def FnExactPasteImageWrongFalsely : Prop := fnExactPasteImageRow.holds Try.pinned (OpenSpec.ofChange fnExactPasteImageWrong)

/-- 'laws.FnExactCropImage': WHATEVER THE INPUT: true; the input reads as it did. -/
def fnExactCropImageSpec : ChangeSpec := { name := "fnExactCropImage", fn := fun _ => fun
  | [d1, d2] => { results := [.lit (.bool true)], args := [d1, d2] }
  | _ => none }
def fnExactCropImageRow : OpenClaim := { program := "ytegiccljmlghlaa", sum := "9d426f1fe98e9405072a8f341c8194545f0a02faf822352e4c2870276bee01ec", func := "loop.example/pixelworks/laws.FnExactCropImage", spec := "fnExactCropImage", unfollowed := true, recurses := true, apart := false }
def FnExactCropImageSaid : Prop := fnExactCropImageRow.holds Try.pinned (OpenSpec.ofChange fnExactCropImageSpec)

/-- ITS FALSE NEIGHBOUR: 'it returns false'. Refute it at one input. -/
def fnExactCropImageWrong : ChangeSpec := { name := "fnExactCropImage", fn := fun _ => fun
  | [d1, d2] => { results := [.lit (.bool false)], args := [d1, d2] }
  | _ => none }
def FnExactCropImageWrongFalsely : Prop := fnExactCropImageRow.holds Try.pinned (OpenSpec.ofChange fnExactCropImageWrong)

/-- 'laws.FnExactTokenCost': WHATEVER THE INPUT: true; the input reads as it did. -/
def fnExactTokenCostSpec : ChangeSpec := { name := "fnExactTokenCost", fn := fun _ => fun
  | [d] => { results := [.lit (.bool true)], args := [d] }
  | _ => none }
def fnExactTokenCostRow : OpenClaim := { program := "ytegiccljmlghlaa", sum := "9d426f1fe98e9405072a8f341c8194545f0a02faf822352e4c2870276bee01ec", func := "loop.example/pixelworks/laws.FnExactTokenCost", spec := "fnExactTokenCost", apart := false }
def FnExactTokenCostSaid : Prop := fnExactTokenCostRow.holds Try.pinned (OpenSpec.ofChange fnExactTokenCostSpec)

/-- ITS FALSE NEIGHBOUR: 'it returns false'. Refute it at one input. -/
def fnExactTokenCostWrong : ChangeSpec := { name := "fnExactTokenCost", fn := fun _ => fun
  | [d] => { results := [.lit (.bool false)], args := [d] }
  | _ => none }
def FnExactTokenCostWrongFalsely : Prop := fnExactTokenCostRow.holds Try.pinned (OpenSpec.ofChange fnExactTokenCostWrong)

/-- 'laws.FnTokenCost': WHATEVER THE INPUT: true; the input reads as it did. -/
def fnTokenCostSpec : ChangeSpec := { name := "fnTokenCost", fn := fun _ => fun
  | [d] => { results := [.lit (.bool true)], args := [d] }
  | _ => none }
def fnTokenCostRow : OpenClaim := { program := "ytegiccljmlghlaa", sum := "9d426f1fe98e9405072a8f341c8194545f0a02faf822352e4c2870276bee01ec", func := "loop.example/pixelworks/laws.FnTokenCost", spec := "fnTokenCost", apart := false }
def FnTokenCostSaid : Prop := fnTokenCostRow.holds Try.pinned (OpenSpec.ofChange fnTokenCostSpec)

/-- ITS FALSE NEIGHBOUR: 'it returns false'. Refute it at one input. -/
def fnTokenCostWrong : ChangeSpec := { name := "fnTokenCost", fn := fun _ => fun
  | [d] => { results := [.lit (.bool false)], args := [d] }
  | _ => none }
def FnTokenCostWrongFalsely : Prop := fnTokenCostRow.holds Try.pinned (OpenSpec.ofChange fnTokenCostWrong)

/-- 'laws.FnCheckOf': WHATEVER THE INPUT: true; the input reads as it did. -/
def fnCheckOfSpec : ChangeSpec := { name := "fnCheckOf", fn := fun _ => fun
  | [d] => { results := [.lit (.bool true)], args := [d] }
  | _ => none }
def fnCheckOfRow : OpenClaim := { program := "ytegiccljmlghlaa", sum := "9d426f1fe98e9405072a8f341c8194545f0a02faf822352e4c2870276bee01ec", func := "loop.example/pixelworks/laws.FnCheckOf", spec := "fnCheckOf", apart := false }
def FnCheckOfSaid : Prop := fnCheckOfRow.holds Try.pinned (OpenSpec.ofChange fnCheckOfSpec)

/-- ITS FALSE NEIGHBOUR: 'it returns false'. Refute it at one input. -/
def fnCheckOfWrong : ChangeSpec := { name := "fnCheckOf", fn := fun _ => fun
  | [d] => { results := [.lit (.bool false)], args := [d] }
  | _ => none }
def FnCheckOfWrongFalsely : Prop := fnCheckOfRow.holds Try.pinned (OpenSpec.ofChange fnCheckOfWrong)

/-- 'laws.FnBestFilter': WHATEVER THE INPUT: true; the input reads as it did. -/
def fnBestFilterSpec : ChangeSpec := { name := "fnBestFilter", fn := fun _ => fun
  | [d] => { results := [.lit (.bool true)], args := [d] }
  | _ => none }
def fnBestFilterRow : OpenClaim := { program := "ytegiccljmlghlaa", sum := "9d426f1fe98e9405072a8f341c8194545f0a02faf822352e4c2870276bee01ec", func := "loop.example/pixelworks/laws.FnBestFilter", spec := "fnBestFilter", unfollowed := true, recurses := true, apart := false }
def FnBestFilterSaid : Prop := fnBestFilterRow.holds Try.pinned (OpenSpec.ofChange fnBestFilterSpec)

/-- ITS FALSE NEIGHBOUR: 'it returns false'. Refute it at one input. -/
def fnBestFilterWrong : ChangeSpec := { name := "fnBestFilter", fn := fun _ => fun
  | [d] => { results := [.lit (.bool false)], args := [d] }
  | _ => none }
def FnBestFilterWrongFalsely : Prop := fnBestFilterRow.holds Try.pinned (OpenSpec.ofChange fnBestFilterWrong)

/-- 'laws.FnExactNearestColor': WHATEVER THE INPUT: true; the input reads as it did. -/
def fnExactNearestColorSpec : ChangeSpec := { name := "fnExactNearestColor", fn := fun _ => fun
  | [d1, d2] => { results := [.lit (.bool true)], args := [d1, d2] }
  | _ => none }
def fnExactNearestColorRow : OpenClaim := { program := "ytegiccljmlghlaa", sum := "9d426f1fe98e9405072a8f341c8194545f0a02faf822352e4c2870276bee01ec", func := "loop.example/pixelworks/laws.FnExactNearestColor", spec := "fnExactNearestColor", apart := false }
def FnExactNearestColorSaid : Prop := fnExactNearestColorRow.holds Try.pinned (OpenSpec.ofChange fnExactNearestColorSpec)

/-- ITS FALSE NEIGHBOUR: 'it returns false'. Refute it at one input. -/
def fnExactNearestColorWrong : ChangeSpec := { name := "fnExactNearestColor", fn := fun _ => fun
  | [d1, d2] => { results := [.lit (.bool false)], args := [d1, d2] }
  | _ => none }
def FnExactNearestColorWrongFalsely : Prop := fnExactNearestColorRow.holds Try.pinned (OpenSpec.ofChange fnExactNearestColorWrong)

/-- 'laws.FnNearestColor': WHATEVER THE INPUT: true; the input reads as it did. -/
def fnNearestColorSpec : ChangeSpec := { name := "fnNearestColor", fn := fun _ => fun
  | [d] => { results := [.lit (.bool true)], args := [d] }
  | _ => none }
def fnNearestColorRow : OpenClaim := { program := "ytegiccljmlghlaa", sum := "9d426f1fe98e9405072a8f341c8194545f0a02faf822352e4c2870276bee01ec", func := "loop.example/pixelworks/laws.FnNearestColor", spec := "fnNearestColor", apart := false }
def FnNearestColorSaid : Prop := fnNearestColorRow.holds Try.pinned (OpenSpec.ofChange fnNearestColorSpec)

/-- ITS FALSE NEIGHBOUR: 'it returns false'. Refute it at one input. -/
def fnNearestColorWrong : ChangeSpec := { name := "fnNearestColor", fn := fun _ => fun
  | [d] => { results := [.lit (.bool false)], args := [d] }
  | _ => none }
def FnNearestColorWrongFalsely : Prop := fnNearestColorRow.holds Try.pinned (OpenSpec.ofChange fnNearestColorWrong)

/-- 'laws.FnExactAreaOf': WHATEVER THE INPUT: true; the input reads as it did. -/
def fnExactAreaOfSpec : ChangeSpec := { name := "fnExactAreaOf", fn := fun _ => fun
  | [d] => { results := [.lit (.bool true)], args := [d] }
  | _ => none }
def fnExactAreaOfRow : OpenClaim := { program := "ytegiccljmlghlaa", sum := "9d426f1fe98e9405072a8f341c8194545f0a02faf822352e4c2870276bee01ec", func := "loop.example/pixelworks/laws.FnExactAreaOf", spec := "fnExactAreaOf", apart := false }
def FnExactAreaOfSaid : Prop := fnExactAreaOfRow.holds Try.pinned (OpenSpec.ofChange fnExactAreaOfSpec)

/-- ITS FALSE NEIGHBOUR: 'it returns false'. Refute it at one input. -/
def fnExactAreaOfWrong : ChangeSpec := { name := "fnExactAreaOf", fn := fun _ => fun
  | [d] => { results := [.lit (.bool false)], args := [d] }
  | _ => none }
def FnExactAreaOfWrongFalsely : Prop := fnExactAreaOfRow.holds Try.pinned (OpenSpec.ofChange fnExactAreaOfWrong)

/- THE SECOND FORM. 'bulk': how many values and letters a reading holds, each counted each time it is reached (what is shared counts as often as it is met; a slice's spare places count too). A statement '..UptoSaid' is the law's where the arguments, and the package variables that the reading takes, are together of bulk at most 1048576: NARROWER than '..Said'. Prove '..Said' where nothing that the law and all that it calls make is longer than what came in: it says more and counts as full. Else prove '..UptoSaid'. A law counts once. -/
mutual
def uptoBulk {H : Type} : DataW H → Nat
  | .lit (.string bytes) => bytes.length + 1
  | .lit _ => 1
  | .nil => 1
  | .ptr d => uptoBulk d + 1
  | .slice elems spare => uptoBulkAll elems + uptoBulkAll spare + 1
  | .agg parts => uptoBulkAll parts + 1
  | .iface _ d => uptoBulk d + 1
  | .map entries => uptoBulkEntries entries + 1
  | .held _ => 1
def uptoBulkAll {H : Type} : List (DataW H) → Nat
  | [] => 0
  | d :: r => uptoBulk d + uptoBulkAll r
def uptoBulkEntries {H : Type} : List (Lit × DataW H) → Nat
  | [] => 0
  | x :: r => uptoBulkEntry x + uptoBulkEntries r
def uptoBulkEntry {H : Type} : Lit × DataW H → Nat
  | (.string bytes, d) => bytes.length + uptoBulk d + 1
  | (_, d) => uptoBulk d + 1
 end
def uptoSmall : (H : Type) → List (DataW H) → Bool := fun _ ds => decide (uptoBulkAll ds ≤ 1048576)
def OpenSpec.upto (s : _root_.Go.ChangeSpec) : _root_.Go.OpenSpec := { _root_.Go.OpenSpec.ofChange s with cond := some uptoSmall }

/-- 'laws.FnCropImage', WHERE WHAT IT READS IS OF BULK AT MOST 1048576: true; the input reads as it did. -/
def fnCropImageUptoRow : OpenClaim := { program := "ytegiccljmlghlaa", sum := "9d426f1fe98e9405072a8f341c8194545f0a02faf822352e4c2870276bee01ec", func := "loop.example/pixelworks/laws.FnCropImage", spec := "fnCropImage", unfollowed := true, recurses := true, apart := false, narrowed := true }
def FnCropImageUptoSaid : Prop := fnCropImageUptoRow.holds Try.pinned (OpenSpec.upto fnCropImageSpec)

/-- 'laws.FnCropImageTwice', WHERE WHAT IT READS IS OF BULK AT MOST 1048576: true; the input reads as it did. -/
def fnCropImageTwiceUptoRow : OpenClaim := { program := "ytegiccljmlghlaa", sum := "9d426f1fe98e9405072a8f341c8194545f0a02faf822352e4c2870276bee01ec", func := "loop.example/pixelworks/laws.FnCropImageTwice", spec := "fnCropImageTwice", unfollowed := true, recurses := true, apart := false, narrowed := true }
def FnCropImageTwiceUptoSaid : Prop := fnCropImageTwiceUptoRow.holds Try.pinned (OpenSpec.upto fnCropImageTwiceSpec)

/-- 'laws.FnPasteImage', WHERE WHAT IT READS IS OF BULK AT MOST 1048576: true; the input reads as it did. -/
def fnPasteImageUptoRow : OpenClaim := { program := "ytegiccljmlghlaa", sum := "9d426f1fe98e9405072a8f341c8194545f0a02faf822352e4c2870276bee01ec", func := "loop.example/pixelworks/laws.FnPasteImage", spec := "fnPasteImage", unfollowed := true, recurses := true, apart := false, narrowed := true }
def FnPasteImageUptoSaid : Prop := fnPasteImageUptoRow.holds Try.pinned (OpenSpec.upto fnPasteImageSpec)

/-- 'laws.FnExactPasteImage', WHERE WHAT IT READS IS OF BULK AT MOST 1048576: true; the input reads as it did. -/
def fnExactPasteImageUptoRow : OpenClaim := { program := "ytegiccljmlghlaa", sum := "9d426f1fe98e9405072a8f341c8194545f0a02faf822352e4c2870276bee01ec", func := "loop.example/pixelworks/laws.FnExactPasteImage", spec := "fnExactPasteImage", unfollowed := true, recurses := true, apart := false, narrowed := true }
def FnExactPasteImageUptoSaid : Prop := fnExactPasteImageUptoRow.holds Try.pinned (OpenSpec.upto fnExactPasteImageSpec)

/-- 'laws.FnExactCropImage', WHERE WHAT IT READS IS OF BULK AT MOST 1048576: true; the input reads as it did. -/
def fnExactCropImageUptoRow : OpenClaim := { program := "ytegiccljmlghlaa", sum := "9d426f1fe98e9405072a8f341c8194545f0a02faf822352e4c2870276bee01ec", func := "loop.example/pixelworks/laws.FnExactCropImage", spec := "fnExactCropImage", unfollowed := true, recurses := true, apart := false, narrowed := true }
def FnExactCropImageUptoSaid : Prop := fnExactCropImageUptoRow.holds Try.pinned (OpenSpec.upto fnExactCropImageSpec)

/-- 'laws.FnExactTokenCost', WHERE WHAT IT READS IS OF BULK AT MOST 1048576: true; the input reads as it did. -/
def fnExactTokenCostUptoRow : OpenClaim := { program := "ytegiccljmlghlaa", sum := "9d426f1fe98e9405072a8f341c8194545f0a02faf822352e4c2870276bee01ec", func := "loop.example/pixelworks/laws.FnExactTokenCost", spec := "fnExactTokenCost", apart := false, narrowed := true }
def FnExactTokenCostUptoSaid : Prop := fnExactTokenCostUptoRow.holds Try.pinned (OpenSpec.upto fnExactTokenCostSpec)

/-- 'laws.FnTokenCost', WHERE WHAT IT READS IS OF BULK AT MOST 1048576: true; the input reads as it did. -/
def fnTokenCostUptoRow : OpenClaim := { program := "ytegiccljmlghlaa", sum := "9d426f1fe98e9405072a8f341c8194545f0a02faf822352e4c2870276bee01ec", func := "loop.example/pixelworks/laws.FnTokenCost", spec := "fnTokenCost", apart := false, narrowed := true }
def FnTokenCostUptoSaid : Prop := fnTokenCostUptoRow.holds Try.pinned (OpenSpec.upto fnTokenCostSpec)

/-- 'laws.FnCheckOf', WHERE WHAT IT READS IS OF BULK AT MOST 1048576: true; the input reads as it did. -/
def fnCheckOfUptoRow : OpenClaim := { program := "ytegiccljmlghlaa", sum := "9d426f1fe98e9405072a8f341c8194545f0a02faf822352e4c2870276bee01ec", func := "loop.example/pixelworks/laws.FnCheckOf", spec := "fnCheckOf", apart := false, narrowed := true }
def FnCheckOfUptoSaid : Prop := fnCheckOfUptoRow.holds Try.pinned (OpenSpec.upto fnCheckOfSpec)

/-- 'laws.FnBestFilter', WHERE WHAT IT READS IS OF BULK AT MOST 1048576: true; the input reads as it did. -/
def fnBestFilterUptoRow : OpenClaim := { program := "ytegiccljmlghlaa", sum := "9d426f1fe98e9405072a8f341c8194545f0a02faf822352e4c2870276bee01ec", func := "loop.example/pixelworks/laws.FnBestFilter", spec := "fnBestFilter", unfollowed := true, recurses := true, apart := false, narrowed := true }
def FnBestFilterUptoSaid : Prop := fnBestFilterUptoRow.holds Try.pinned (OpenSpec.upto fnBestFilterSpec)

/-- 'laws.FnExactNearestColor', WHERE WHAT IT READS IS OF BULK AT MOST 1048576: true; the input reads as it did. -/
def fnExactNearestColorUptoRow : OpenClaim := { program := "ytegiccljmlghlaa", sum := "9d426f1fe98e9405072a8f341c8194545f0a02faf822352e4c2870276bee01ec", func := "loop.example/pixelworks/laws.FnExactNearestColor", spec := "fnExactNearestColor", apart := false, narrowed := true }
def FnExactNearestColorUptoSaid : Prop := fnExactNearestColorUptoRow.holds Try.pinned (OpenSpec.upto fnExactNearestColorSpec)

/-- 'laws.FnNearestColor', WHERE WHAT IT READS IS OF BULK AT MOST 1048576: true; the input reads as it did. -/
def fnNearestColorUptoRow : OpenClaim := { program := "ytegiccljmlghlaa", sum := "9d426f1fe98e9405072a8f341c8194545f0a02faf822352e4c2870276bee01ec", func := "loop.example/pixelworks/laws.FnNearestColor", spec := "fnNearestColor", apart := false, narrowed := true }
def FnNearestColorUptoSaid : Prop := fnNearestColorUptoRow.holds Try.pinned (OpenSpec.upto fnNearestColorSpec)

/-- 'laws.FnExactAreaOf', WHERE WHAT IT READS IS OF BULK AT MOST 1048576: true; the input reads as it did. -/
def fnExactAreaOfUptoRow : OpenClaim := { program := "ytegiccljmlghlaa", sum := "9d426f1fe98e9405072a8f341c8194545f0a02faf822352e4c2870276bee01ec", func := "loop.example/pixelworks/laws.FnExactAreaOf", spec := "fnExactAreaOf", apart := false, narrowed := true }
def FnExactAreaOfUptoSaid : Prop := fnExactAreaOfUptoRow.holds Try.pinned (OpenSpec.upto fnExactAreaOfSpec)

end Rows
end Go.Proofs.Ytegiccljmlghlaa
