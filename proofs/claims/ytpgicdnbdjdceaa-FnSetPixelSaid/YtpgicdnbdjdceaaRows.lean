/-
  No cell of these rows narrows 'for every input' (looked for: loops, veiled, ifaces, maps, wideKeys, modest, calm, conditions, laid).
  DERIVED. THE GIVEN ROWS OF THIS SEAT. 12 by the template 'for every input the law returns true; each argument reads behind the call as it read before'; 0 by the template 'total and deterministic' (their statements: YtpgicdnbdjdceaaTotals.lean).
  GIVEN WITH THE SEED: the statements are not yours to turn. If you find one false, say at which input.
  Laid BY PROGRAM, IN A SANDBOX (cutbox-rows.mjs): the forced cells as the released guide's own fill.sh prints them over the translation 821fd53190cf0fb5… (all of the seat's roots in one cut). By AI agents, Wed Nov 11 2026. No macro, syntax, notation, axiom, sorry.
-/
import Derived.Test.YtpgicdnbdjdceaaChecked
import GoSem.Claim
import GoSem.ClaimJoined
import GoSem.ClaimMapViews
import Derived.JoinedTies
import Derived.KernelRfl
namespace Go.Proofs.Ytpgicdnbdjdceaa
/- THE CELL 'sum', in the pinned program and in every row, IS THE sha256 OF THE DUMP (.gsa) THAT YtpgicdnbdjdceaaProg.lean LOADS. Nothing in Lean hashes anything: it is a label: what it is worth is what the hold of that sum in a sandbox is worth. -/
noncomputable def Try.pinned : Pinned := { name := "ytpgicdnbdjdceaa", sum := "821fd53190cf0fb56f0ed09432d695f5c288d51136f5f488dbd7a2937a7fbb01", checked := Try.checked }
namespace Rows
def none {H : Type} : Left H := { results := [], args := [] }

/-- 'laws.FnMirrorImage': WHATEVER THE INPUT: true; the input reads as it did. -/
def fnMirrorImageSpec : ChangeSpec := { name := "fnMirrorImage", fn := fun _ => fun
  | [d] => { results := [.lit (.bool true)], args := [d] }
  | _ => none }
def fnMirrorImageRow : OpenClaim := { program := "ytpgicdnbdjdceaa", sum := "821fd53190cf0fb56f0ed09432d695f5c288d51136f5f488dbd7a2937a7fbb01", func := "loop.example/pixelworks/laws.FnMirrorImage", spec := "fnMirrorImage", unfollowed := true, recurses := true, apart := false }
def FnMirrorImageSaid : Prop := fnMirrorImageRow.holds Try.pinned (OpenSpec.ofChange fnMirrorImageSpec)

/-- ITS FALSE NEIGHBOUR: 'it returns false'. Refute it at one input. -/
def fnMirrorImageWrong : ChangeSpec := { name := "fnMirrorImage", fn := fun _ => fun
  | [d] => { results := [.lit (.bool false)], args := [d] }
  | _ => none }
def FnMirrorImageWrongFalsely : Prop := fnMirrorImageRow.holds Try.pinned (OpenSpec.ofChange fnMirrorImageWrong)

/-- 'laws.FnTurnImage': WHATEVER THE INPUT: true; the input reads as it did. -/
def fnTurnImageSpec : ChangeSpec := { name := "fnTurnImage", fn := fun _ => fun
  | [d] => { results := [.lit (.bool true)], args := [d] }
  | _ => none }
def fnTurnImageRow : OpenClaim := { program := "ytpgicdnbdjdceaa", sum := "821fd53190cf0fb56f0ed09432d695f5c288d51136f5f488dbd7a2937a7fbb01", func := "loop.example/pixelworks/laws.FnTurnImage", spec := "fnTurnImage", unfollowed := true, recurses := true, apart := false }
def FnTurnImageSaid : Prop := fnTurnImageRow.holds Try.pinned (OpenSpec.ofChange fnTurnImageSpec)

/-- ITS FALSE NEIGHBOUR: 'it returns false'. Refute it at one input. -/
def fnTurnImageWrong : ChangeSpec := { name := "fnTurnImage", fn := fun _ => fun
  | [d] => { results := [.lit (.bool false)], args := [d] }
  | _ => none }
def FnTurnImageWrongFalsely : Prop := fnTurnImageRow.holds Try.pinned (OpenSpec.ofChange fnTurnImageWrong)

/-- 'laws.FnTurnMirror': WHATEVER THE INPUT: true; the input reads as it did. -/
def fnTurnMirrorSpec : ChangeSpec := { name := "fnTurnMirror", fn := fun _ => fun
  | [d] => { results := [.lit (.bool true)], args := [d] }
  | _ => none }
def fnTurnMirrorRow : OpenClaim := { program := "ytpgicdnbdjdceaa", sum := "821fd53190cf0fb56f0ed09432d695f5c288d51136f5f488dbd7a2937a7fbb01", func := "loop.example/pixelworks/laws.FnTurnMirror", spec := "fnTurnMirror", unfollowed := true, recurses := true, apart := false }
def FnTurnMirrorSaid : Prop := fnTurnMirrorRow.holds Try.pinned (OpenSpec.ofChange fnTurnMirrorSpec)

/-- ITS FALSE NEIGHBOUR: 'it returns false'. Refute it at one input. -/
def fnTurnMirrorWrong : ChangeSpec := { name := "fnTurnMirror", fn := fun _ => fun
  | [d] => { results := [.lit (.bool false)], args := [d] }
  | _ => none }
def FnTurnMirrorWrongFalsely : Prop := fnTurnMirrorRow.holds Try.pinned (OpenSpec.ofChange fnTurnMirrorWrong)

/-- 'laws.FnTransposeImage': WHATEVER THE INPUT: true; the input reads as it did. -/
def fnTransposeImageSpec : ChangeSpec := { name := "fnTransposeImage", fn := fun _ => fun
  | [d] => { results := [.lit (.bool true)], args := [d] }
  | _ => none }
def fnTransposeImageRow : OpenClaim := { program := "ytpgicdnbdjdceaa", sum := "821fd53190cf0fb56f0ed09432d695f5c288d51136f5f488dbd7a2937a7fbb01", func := "loop.example/pixelworks/laws.FnTransposeImage", spec := "fnTransposeImage", unfollowed := true, recurses := true, apart := false }
def FnTransposeImageSaid : Prop := fnTransposeImageRow.holds Try.pinned (OpenSpec.ofChange fnTransposeImageSpec)

/-- ITS FALSE NEIGHBOUR: 'it returns false'. Refute it at one input. -/
def fnTransposeImageWrong : ChangeSpec := { name := "fnTransposeImage", fn := fun _ => fun
  | [d] => { results := [.lit (.bool false)], args := [d] }
  | _ => none }
def FnTransposeImageWrongFalsely : Prop := fnTransposeImageRow.holds Try.pinned (OpenSpec.ofChange fnTransposeImageWrong)

/-- 'laws.FnFillImageTurn': WHATEVER THE INPUT: true; the input reads as it did. -/
def fnFillImageTurnSpec : ChangeSpec := { name := "fnFillImageTurn", fn := fun _ => fun
  | [d] => { results := [.lit (.bool true)], args := [d] }
  | _ => none }
def fnFillImageTurnRow : OpenClaim := { program := "ytpgicdnbdjdceaa", sum := "821fd53190cf0fb56f0ed09432d695f5c288d51136f5f488dbd7a2937a7fbb01", func := "loop.example/pixelworks/laws.FnFillImageTurn", spec := "fnFillImageTurn", unfollowed := true, recurses := true, apart := false }
def FnFillImageTurnSaid : Prop := fnFillImageTurnRow.holds Try.pinned (OpenSpec.ofChange fnFillImageTurnSpec)

/-- ITS FALSE NEIGHBOUR: 'it returns false'. Refute it at one input. -/
def fnFillImageTurnWrong : ChangeSpec := { name := "fnFillImageTurn", fn := fun _ => fun
  | [d] => { results := [.lit (.bool false)], args := [d] }
  | _ => none }
def FnFillImageTurnWrongFalsely : Prop := fnFillImageTurnRow.holds Try.pinned (OpenSpec.ofChange fnFillImageTurnWrong)

/-- 'laws.FnMirrorPixels': WHATEVER THE INPUT: true; the input reads as it did. -/
def fnMirrorPixelsSpec : ChangeSpec := { name := "fnMirrorPixels", fn := fun _ => fun
  | [d] => { results := [.lit (.bool true)], args := [d] }
  | _ => none }
def fnMirrorPixelsRow : OpenClaim := { program := "ytpgicdnbdjdceaa", sum := "821fd53190cf0fb56f0ed09432d695f5c288d51136f5f488dbd7a2937a7fbb01", func := "loop.example/pixelworks/laws.FnMirrorPixels", spec := "fnMirrorPixels", unfollowed := true, recurses := true, apart := false }
def FnMirrorPixelsSaid : Prop := fnMirrorPixelsRow.holds Try.pinned (OpenSpec.ofChange fnMirrorPixelsSpec)

/-- ITS FALSE NEIGHBOUR: 'it returns false'. Refute it at one input. -/
def fnMirrorPixelsWrong : ChangeSpec := { name := "fnMirrorPixels", fn := fun _ => fun
  | [d] => { results := [.lit (.bool false)], args := [d] }
  | _ => none }
def FnMirrorPixelsWrongFalsely : Prop := fnMirrorPixelsRow.holds Try.pinned (OpenSpec.ofChange fnMirrorPixelsWrong)

/-- 'laws.FnSetPixel': WHATEVER THE INPUT: true; the input reads as it did. -/
def fnSetPixelSpec : ChangeSpec := { name := "fnSetPixel", fn := fun _ => fun
  | [d] => { results := [.lit (.bool true)], args := [d] }
  | _ => none }
def fnSetPixelRow : OpenClaim := { program := "ytpgicdnbdjdceaa", sum := "821fd53190cf0fb56f0ed09432d695f5c288d51136f5f488dbd7a2937a7fbb01", func := "loop.example/pixelworks/laws.FnSetPixel", spec := "fnSetPixel", unfollowed := true, recurses := true, apart := false }
def FnSetPixelSaid : Prop := fnSetPixelRow.holds Try.pinned (OpenSpec.ofChange fnSetPixelSpec)

/-- ITS FALSE NEIGHBOUR: 'it returns false'. Refute it at one input. -/
def fnSetPixelWrong : ChangeSpec := { name := "fnSetPixel", fn := fun _ => fun
  | [d] => { results := [.lit (.bool false)], args := [d] }
  | _ => none }
def FnSetPixelWrongFalsely : Prop := fnSetPixelRow.holds Try.pinned (OpenSpec.ofChange fnSetPixelWrong)

/-- 'laws.FnPixelAt': WHATEVER THE INPUT: true; the input reads as it did. -/
def fnPixelAtSpec : ChangeSpec := { name := "fnPixelAt", fn := fun _ => fun
  | [d] => { results := [.lit (.bool true)], args := [d] }
  | _ => none }
def fnPixelAtRow : OpenClaim := { program := "ytpgicdnbdjdceaa", sum := "821fd53190cf0fb56f0ed09432d695f5c288d51136f5f488dbd7a2937a7fbb01", func := "loop.example/pixelworks/laws.FnPixelAt", spec := "fnPixelAt", unfollowed := true, recurses := true, apart := false }
def FnPixelAtSaid : Prop := fnPixelAtRow.holds Try.pinned (OpenSpec.ofChange fnPixelAtSpec)

/-- ITS FALSE NEIGHBOUR: 'it returns false'. Refute it at one input. -/
def fnPixelAtWrong : ChangeSpec := { name := "fnPixelAt", fn := fun _ => fun
  | [d] => { results := [.lit (.bool false)], args := [d] }
  | _ => none }
def FnPixelAtWrongFalsely : Prop := fnPixelAtRow.holds Try.pinned (OpenSpec.ofChange fnPixelAtWrong)

/-- 'laws.FnExactTurnImage': WHATEVER THE INPUT: true; the input reads as it did. -/
def fnExactTurnImageSpec : ChangeSpec := { name := "fnExactTurnImage", fn := fun _ => fun
  | [d1, d2] => { results := [.lit (.bool true)], args := [d1, d2] }
  | _ => none }
def fnExactTurnImageRow : OpenClaim := { program := "ytpgicdnbdjdceaa", sum := "821fd53190cf0fb56f0ed09432d695f5c288d51136f5f488dbd7a2937a7fbb01", func := "loop.example/pixelworks/laws.FnExactTurnImage", spec := "fnExactTurnImage", unfollowed := true, recurses := true, apart := false }
def FnExactTurnImageSaid : Prop := fnExactTurnImageRow.holds Try.pinned (OpenSpec.ofChange fnExactTurnImageSpec)

/-- ITS FALSE NEIGHBOUR: 'it returns false'. Refute it at one input. -/
def fnExactTurnImageWrong : ChangeSpec := { name := "fnExactTurnImage", fn := fun _ => fun
  | [d1, d2] => { results := [.lit (.bool false)], args := [d1, d2] }
  | _ => none }
def FnExactTurnImageWrongFalsely : Prop := fnExactTurnImageRow.holds Try.pinned (OpenSpec.ofChange fnExactTurnImageWrong)

/-- 'laws.FnExactPixelAt': WHATEVER THE INPUT: true; the input reads as it did. -/
def fnExactPixelAtSpec : ChangeSpec := { name := "fnExactPixelAt", fn := fun _ => fun
  | [d1, d2, d3] => { results := [.lit (.bool true)], args := [d1, d2, d3] }
  | _ => none }
def fnExactPixelAtRow : OpenClaim := { program := "ytpgicdnbdjdceaa", sum := "821fd53190cf0fb56f0ed09432d695f5c288d51136f5f488dbd7a2937a7fbb01", func := "loop.example/pixelworks/laws.FnExactPixelAt", spec := "fnExactPixelAt", unfollowed := true, recurses := true, apart := false }
def FnExactPixelAtSaid : Prop := fnExactPixelAtRow.holds Try.pinned (OpenSpec.ofChange fnExactPixelAtSpec)

/-- ITS FALSE NEIGHBOUR: 'it returns false'. Refute it at one input. -/
def fnExactPixelAtWrong : ChangeSpec := { name := "fnExactPixelAt", fn := fun _ => fun
  | [d1, d2, d3] => { results := [.lit (.bool false)], args := [d1, d2, d3] }
  | _ => none }
def FnExactPixelAtWrongFalsely : Prop := fnExactPixelAtRow.holds Try.pinned (OpenSpec.ofChange fnExactPixelAtWrong)

/-- 'laws.FnExactSetPixel': WHATEVER THE INPUT: true; the input reads as it did. -/
def fnExactSetPixelSpec : ChangeSpec := { name := "fnExactSetPixel", fn := fun _ => fun
  | [d1, d2, d3, d4] => { results := [.lit (.bool true)], args := [d1, d2, d3, d4] }
  | _ => none }
def fnExactSetPixelRow : OpenClaim := { program := "ytpgicdnbdjdceaa", sum := "821fd53190cf0fb56f0ed09432d695f5c288d51136f5f488dbd7a2937a7fbb01", func := "loop.example/pixelworks/laws.FnExactSetPixel", spec := "fnExactSetPixel", unfollowed := true, recurses := true, apart := false }
def FnExactSetPixelSaid : Prop := fnExactSetPixelRow.holds Try.pinned (OpenSpec.ofChange fnExactSetPixelSpec)

/-- ITS FALSE NEIGHBOUR: 'it returns false'. Refute it at one input. -/
def fnExactSetPixelWrong : ChangeSpec := { name := "fnExactSetPixel", fn := fun _ => fun
  | [d1, d2, d3, d4] => { results := [.lit (.bool false)], args := [d1, d2, d3, d4] }
  | _ => none }
def FnExactSetPixelWrongFalsely : Prop := fnExactSetPixelRow.holds Try.pinned (OpenSpec.ofChange fnExactSetPixelWrong)

/-- 'laws.FnExactCropImage': WHATEVER THE INPUT: true; the input reads as it did. -/
def fnExactCropImageSpec : ChangeSpec := { name := "fnExactCropImage", fn := fun _ => fun
  | [d1, d2] => { results := [.lit (.bool true)], args := [d1, d2] }
  | _ => none }
def fnExactCropImageRow : OpenClaim := { program := "ytpgicdnbdjdceaa", sum := "821fd53190cf0fb56f0ed09432d695f5c288d51136f5f488dbd7a2937a7fbb01", func := "loop.example/pixelworks/laws.FnExactCropImage", spec := "fnExactCropImage", unfollowed := true, recurses := true, apart := false }
def FnExactCropImageSaid : Prop := fnExactCropImageRow.holds Try.pinned (OpenSpec.ofChange fnExactCropImageSpec)

/-- ITS FALSE NEIGHBOUR: 'it returns false'. Refute it at one input. -/
def fnExactCropImageWrong : ChangeSpec := { name := "fnExactCropImage", fn := fun _ => fun
  | [d1, d2] => { results := [.lit (.bool false)], args := [d1, d2] }
  | _ => none }
def FnExactCropImageWrongFalsely : Prop := fnExactCropImageRow.holds Try.pinned (OpenSpec.ofChange fnExactCropImageWrong)

/- THE SECOND FORM. 'bulk': how many values and letters a reading holds, each counted each time it is reached (what is shared counts as often as it is met; a slice's spare places count too). A statement '..UptoSaid' is the law's where the arguments, and the package variables that the reading takes, are together of bulk at most 1048576: NARROWER than '..Said'. Prove '..Said' where nothing that the law and all that it calls make is longer than what came in: it says more and counts as full. Else prove '..UptoSaid'. A law counts once. -/
mutual
def uptoBulk {H : Type} : DataW H → Nat
  | .lit (.string bytes) => bytes.length + 1
  | .lit _ => 1
  | .nil => 1
  | .ptr d => uptoBulk d + 1
  | .slice elems spare => uptoBulkAll elems + uptoBulkAll spare + 1
  | .agg parts => uptoBulkAll parts + 1
  | .iface _ d => uptoBulk d + 1
  | .map entries => uptoBulkEntries entries + 1
  | .held _ => 1
def uptoBulkAll {H : Type} : List (DataW H) → Nat
  | [] => 0
  | d :: r => uptoBulk d + uptoBulkAll r
def uptoBulkEntries {H : Type} : List (Lit × DataW H) → Nat
  | [] => 0
  | x :: r => uptoBulkEntry x + uptoBulkEntries r
def uptoBulkEntry {H : Type} : Lit × DataW H → Nat
  | (.string bytes, d) => bytes.length + uptoBulk d + 1
  | (_, d) => uptoBulk d + 1
 end
def uptoSmall : (H : Type) → List (DataW H) → Bool := fun _ ds => decide (uptoBulkAll ds ≤ 1048576)
def OpenSpec.upto (s : _root_.Go.ChangeSpec) : _root_.Go.OpenSpec := { _root_.Go.OpenSpec.ofChange s with cond := some uptoSmall }

/-- 'laws.FnMirrorImage', WHERE WHAT IT READS IS OF BULK AT MOST 1048576: true; the input reads as it did. -/
def fnMirrorImageUptoRow : OpenClaim := { program := "ytpgicdnbdjdceaa", sum := "821fd53190cf0fb56f0ed09432d695f5c288d51136f5f488dbd7a2937a7fbb01", func := "loop.example/pixelworks/laws.FnMirrorImage", spec := "fnMirrorImage", unfollowed := true, recurses := true, apart := false, narrowed := true }
def FnMirrorImageUptoSaid : Prop := fnMirrorImageUptoRow.holds Try.pinned (OpenSpec.upto fnMirrorImageSpec)

/-- 'laws.FnTurnImage', WHERE WHAT IT READS IS OF BULK AT MOST 1048576: true; the input reads as it did. -/
def fnTurnImageUptoRow : OpenClaim := { program := "ytpgicdnbdjdceaa", sum := "821fd53190cf0fb56f0ed09432d695f5c288d51136f5f488dbd7a2937a7fbb01", func := "loop.example/pixelworks/laws.FnTurnImage", spec := "fnTurnImage", unfollowed := true, recurses := true, apart := false, narrowed := true }
def FnTurnImageUptoSaid : Prop := fnTurnImageUptoRow.holds Try.pinned (OpenSpec.upto fnTurnImageSpec)

/-- 'laws.FnTurnMirror', WHERE WHAT IT READS IS OF BULK AT MOST 1048576: true; the input reads as it did. -/
def fnTurnMirrorUptoRow : OpenClaim := { program := "ytpgicdnbdjdceaa", sum := "821fd53190cf0fb56f0ed09432d695f5c288d51136f5f488dbd7a2937a7fbb01", func := "loop.example/pixelworks/laws.FnTurnMirror", spec := "fnTurnMirror", unfollowed := true, recurses := true, apart := false, narrowed := true }
def FnTurnMirrorUptoSaid : Prop := fnTurnMirrorUptoRow.holds Try.pinned (OpenSpec.upto fnTurnMirrorSpec)

/-- 'laws.FnTransposeImage', WHERE WHAT IT READS IS OF BULK AT MOST 1048576: true; the input reads as it did. -/
def fnTransposeImageUptoRow : OpenClaim := { program := "ytpgicdnbdjdceaa", sum := "821fd53190cf0fb56f0ed09432d695f5c288d51136f5f488dbd7a2937a7fbb01", func := "loop.example/pixelworks/laws.FnTransposeImage", spec := "fnTransposeImage", unfollowed := true, recurses := true, apart := false, narrowed := true }
def FnTransposeImageUptoSaid : Prop := fnTransposeImageUptoRow.holds Try.pinned (OpenSpec.upto fnTransposeImageSpec)

/-- 'laws.FnFillImageTurn', WHERE WHAT IT READS IS OF BULK AT MOST 1048576: true; the input reads as it did. -/
def fnFillImageTurnUptoRow : OpenClaim := { program := "ytpgicdnbdjdceaa", sum := "821fd53190cf0fb56f0ed09432d695f5c288d51136f5f488dbd7a2937a7fbb01", func := "loop.example/pixelworks/laws.FnFillImageTurn", spec := "fnFillImageTurn", unfollowed := true, recurses := true, apart := false, narrowed := true }
def FnFillImageTurnUptoSaid : Prop := fnFillImageTurnUptoRow.holds Try.pinned (OpenSpec.upto fnFillImageTurnSpec)

/-- 'laws.FnMirrorPixels', WHERE WHAT IT READS IS OF BULK AT MOST 1048576: true; the input reads as it did. -/
def fnMirrorPixelsUptoRow : OpenClaim := { program := "ytpgicdnbdjdceaa", sum := "821fd53190cf0fb56f0ed09432d695f5c288d51136f5f488dbd7a2937a7fbb01", func := "loop.example/pixelworks/laws.FnMirrorPixels", spec := "fnMirrorPixels", unfollowed := true, recurses := true, apart := false, narrowed := true }
def FnMirrorPixelsUptoSaid : Prop := fnMirrorPixelsUptoRow.holds Try.pinned (OpenSpec.upto fnMirrorPixelsSpec)

/-- 'laws.FnSetPixel', WHERE WHAT IT READS IS OF BULK AT MOST 1048576: true; the input reads as it did. -/
def fnSetPixelUptoRow : OpenClaim := { program := "ytpgicdnbdjdceaa", sum := "821fd53190cf0fb56f0ed09432d695f5c288d51136f5f488dbd7a2937a7fbb01", func := "loop.example/pixelworks/laws.FnSetPixel", spec := "fnSetPixel", unfollowed := true, recurses := true, apart := false, narrowed := true }
def FnSetPixelUptoSaid : Prop := fnSetPixelUptoRow.holds Try.pinned (OpenSpec.upto fnSetPixelSpec)

/-- 'laws.FnPixelAt', WHERE WHAT IT READS IS OF BULK AT MOST 1048576: true; the input reads as it did. -/
def fnPixelAtUptoRow : OpenClaim := { program := "ytpgicdnbdjdceaa", sum := "821fd53190cf0fb56f0ed09432d695f5c288d51136f5f488dbd7a2937a7fbb01", func := "loop.example/pixelworks/laws.FnPixelAt", spec := "fnPixelAt", unfollowed := true, recurses := true, apart := false, narrowed := true }
def FnPixelAtUptoSaid : Prop := fnPixelAtUptoRow.holds Try.pinned (OpenSpec.upto fnPixelAtSpec)

/-- 'laws.FnExactTurnImage', WHERE WHAT IT READS IS OF BULK AT MOST 1048576: true; the input reads as it did. -/
def fnExactTurnImageUptoRow : OpenClaim := { program := "ytpgicdnbdjdceaa", sum := "821fd53190cf0fb56f0ed09432d695f5c288d51136f5f488dbd7a2937a7fbb01", func := "loop.example/pixelworks/laws.FnExactTurnImage", spec := "fnExactTurnImage", unfollowed := true, recurses := true, apart := false, narrowed := true }
def FnExactTurnImageUptoSaid : Prop := fnExactTurnImageUptoRow.holds Try.pinned (OpenSpec.upto fnExactTurnImageSpec)

/-- 'laws.FnExactPixelAt', WHERE WHAT IT READS IS OF BULK AT MOST 1048576: true; the input reads as it did. -/
def fnExactPixelAtUptoRow : OpenClaim := { program := "ytpgicdnbdjdceaa", sum := "821fd53190cf0fb56f0ed09432d695f5c288d51136f5f488dbd7a2937a7fbb01", func := "loop.example/pixelworks/laws.FnExactPixelAt", spec := "fnExactPixelAt", unfollowed := true, recurses := true, apart := false, narrowed := true }
def FnExactPixelAtUptoSaid : Prop := fnExactPixelAtUptoRow.holds Try.pinned (OpenSpec.upto fnExactPixelAtSpec)

/-- 'laws.FnExactSetPixel', WHERE WHAT IT READS IS OF BULK AT MOST 1048576: true; the input reads as it did. -/
def fnExactSetPixelUptoRow : OpenClaim := { program := "ytpgicdnbdjdceaa", sum := "821fd53190cf0fb56f0ed09432d695f5c288d51136f5f488dbd7a2937a7fbb01", func := "loop.example/pixelworks/laws.FnExactSetPixel", spec := "fnExactSetPixel", unfollowed := true, recurses := true, apart := false, narrowed := true }
def FnExactSetPixelUptoSaid : Prop := fnExactSetPixelUptoRow.holds Try.pinned (OpenSpec.upto fnExactSetPixelSpec)

/-- 'laws.FnExactCropImage', WHERE WHAT IT READS IS OF BULK AT MOST 1048576: true; the input reads as it did. -/
def fnExactCropImageUptoRow : OpenClaim := { program := "ytpgicdnbdjdceaa", sum := "821fd53190cf0fb56f0ed09432d695f5c288d51136f5f488dbd7a2937a7fbb01", func := "loop.example/pixelworks/laws.FnExactCropImage", spec := "fnExactCropImage", unfollowed := true, recurses := true, apart := false, narrowed := true }
def FnExactCropImageUptoSaid : Prop := fnExactCropImageUptoRow.holds Try.pinned (OpenSpec.upto fnExactCropImageSpec)

end Rows
end Go.Proofs.Ytpgicdnbdjdceaa
