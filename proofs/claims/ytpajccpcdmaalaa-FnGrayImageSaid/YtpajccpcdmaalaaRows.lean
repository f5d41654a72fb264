/-
  No cell of these rows narrows 'for every input' (looked for: loops, veiled, ifaces, maps, wideKeys, modest, calm, conditions, laid).
  DERIVED. THE GIVEN ROWS OF THIS SEAT. 10 by the template 'for every input the law returns true; each argument reads behind the call as it read before'; 0 by the template 'total and deterministic' (their statements: YtpajccpcdmaalaaTotals.lean).
  GIVEN WITH THE SEED: the statements are not yours to turn. If you find one false, say at which input.
  Laid BY PROGRAM, IN A SANDBOX (cutbox-rows.mjs): the forced cells as the released guide's own fill.sh prints them over the translation 77ccc130d10a4880… (all of the seat's roots in one cut). By AI agents, Wed Nov 11 2026. No macro, syntax, notation, axiom, sorry.
-/
import Derived.Test.YtpajccpcdmaalaaChecked
import GoSem.Claim
import GoSem.ClaimJoined
import GoSem.ClaimMapViews
import Derived.JoinedTies
import Derived.KernelRfl
namespace Go.Proofs.Ytpajccpcdmaalaa
/- THE CELL 'sum', in the pinned program and in every row, IS THE sha256 OF THE DUMP (.gsa) THAT YtpajccpcdmaalaaProg.lean LOADS. Nothing in Lean hashes anything: it is a label: what it is worth is what the hold of that sum in a sandbox is worth. -/
noncomputable def Try.pinned : Pinned := { name := "ytpajccpcdmaalaa", sum := "77ccc130d10a4880272d47db545328a1168193bbf094363c29a12d662a123ef4", checked := Try.checked }
namespace Rows
def none {H : Type} : Left H := { results := [], args := [] }

/-- 'laws.FnExactMergePlanes': WHATEVER THE INPUT: true; the input reads as it did. -/
def fnExactMergePlanesSpec : ChangeSpec := { name := "fnExactMergePlanes", fn := fun _ => fun
  | [d] => { results := [.lit (.bool true)], args := [d] }
  | _ => none }
def fnExactMergePlanesRow : OpenClaim := { program := "ytpajccpcdmaalaa", sum := "77ccc130d10a4880272d47db545328a1168193bbf094363c29a12d662a123ef4", func := "loop.example/pixelworks/laws.FnExactMergePlanes", spec := "fnExactMergePlanes", unfollowed := true, recurses := true, apart := false }
def FnExactMergePlanesSaid : Prop := fnExactMergePlanesRow.holds Try.pinned (OpenSpec.ofChange fnExactMergePlanesSpec)

/-- ITS FALSE NEIGHBOUR: 'it returns false'. Refute it at one input. -/
def fnExactMergePlanesWrong : ChangeSpec := { name := "fnExactMergePlanes", fn := fun _ => fun
  | [d] => { results := [.lit (.bool false)], args := [d] }
  | _ => none }
def FnExactMergePlanesWrongFalsely : Prop := fnExactMergePlanesRow.holds Try.pinned (OpenSpec.ofChange fnExactMergePlanesWrong)

/-- 'laws.FnGrayImage': WHATEVER THE INPUT: true; the input reads as it did. -/
def fnGrayImageSpec : ChangeSpec := { name := "fnGrayImage", fn := fun _ => fun
  | [d] => { results := [.lit (.bool true)], args := [d] }
  | _ => none }
def fnGrayImageRow : OpenClaim := { program := "ytpajccpcdmaalaa", sum := "77ccc130d10a4880272d47db545328a1168193bbf094363c29a12d662a123ef4", func := "loop.example/pixelworks/laws.FnGrayImage", spec := "fnGrayImage", unfollowed := true, recurses := true, apart := false }
def FnGrayImageSaid : Prop := fnGrayImageRow.holds Try.pinned (OpenSpec.ofChange fnGrayImageSpec)

/-- ITS FALSE NEIGHBOUR: 'it returns false'. Refute it at one input. -/
def fnGrayImageWrong : ChangeSpec := { name := "fnGrayImage", fn := fun _ => fun
  | [d] => { results := [.lit (.bool false)], args := [d] }
  | _ => none }
def FnGrayImageWrongFalsely : Prop := fnGrayImageRow.holds Try.pinned (OpenSpec.ofChange fnGrayImageWrong)

/-- 'laws.FnSplitPlanes': WHATEVER THE INPUT: true; the input reads as it did. -/
def fnSplitPlanesSpec : ChangeSpec := { name := "fnSplitPlanes", fn := fun _ => fun
  | [d] => { results := [.lit (.bool true)], args := [d] }
  | _ => none }
def fnSplitPlanesRow : OpenClaim := { program := "ytpajccpcdmaalaa", sum := "77ccc130d10a4880272d47db545328a1168193bbf094363c29a12d662a123ef4", func := "loop.example/pixelworks/laws.FnSplitPlanes", spec := "fnSplitPlanes", unfollowed := true, recurses := true, apart := false }
def FnSplitPlanesSaid : Prop := fnSplitPlanesRow.holds Try.pinned (OpenSpec.ofChange fnSplitPlanesSpec)

/-- ITS FALSE NEIGHBOUR: 'it returns false'. Refute it at one input. -/
def fnSplitPlanesWrong : ChangeSpec := { name := "fnSplitPlanes", fn := fun _ => fun
  | [d] => { results := [.lit (.bool false)], args := [d] }
  | _ => none }
def FnSplitPlanesWrongFalsely : Prop := fnSplitPlanesRow.holds Try.pinned (OpenSpec.ofChange fnSplitPlanesWrong)

/-- 'laws.FnMergePlanes': WHATEVER THE INPUT: true; the input reads as it did. -/
def fnMergePlanesSpec : ChangeSpec := { name := "fnMergePlanes", fn := fun _ => fun
  | [d] => { results := [.lit (.bool true)], args := [d] }
  | _ => none }
def fnMergePlanesRow : OpenClaim := { program := "ytpajccpcdmaalaa", sum := "77ccc130d10a4880272d47db545328a1168193bbf094363c29a12d662a123ef4", func := "loop.example/pixelworks/laws.FnMergePlanes", spec := "fnMergePlanes", unfollowed := true, recurses := true, apart := false }
def FnMergePlanesSaid : Prop := fnMergePlanesRow.holds Try.pinned (OpenSpec.ofChange fnMergePlanesSpec)

/-- ITS FALSE NEIGHBOUR: 'it returns false'. Refute it at one input. -/
def fnMergePlanesWrong : ChangeSpec := { name := "fnMergePlanes", fn := fun _ => fun
  | [d] => { results := [.lit (.bool false)], args := [d] }
  | _ => none }
def FnMergePlanesWrongFalsely : Prop := fnMergePlanesRow.holds Try.pinned (OpenSpec.ofChange fnMergePlanesWrong)

/-- 'laws.FnScaleNearest': WHATEVER THE INPUT: true; the input reads as it did. -/
def fnScaleNearestSpec : ChangeSpec := { name := "fnScaleNearest", fn := fun _ => fun
  | [d] => { results := [.lit (.bool true)], args := [d] }
  | _ => none }
def fnScaleNearestRow : OpenClaim := { program := "ytpajccpcdmaalaa", sum := "77ccc130d10a4880272d47db545328a1168193bbf094363c29a12d662a123ef4", func := "loop.example/pixelworks/laws.FnScaleNearest", spec := "fnScaleNearest", unfollowed := true, recurses := true, apart := false }
def FnScaleNearestSaid : Prop := fnScaleNearestRow.holds Try.pinned (OpenSpec.ofChange fnScaleNearestSpec)

/-- ITS FALSE NEIGHBOUR: 'it returns false'. Refute it at one input. -/
def fnScaleNearestWrong : ChangeSpec := { name := "fnScaleNearest", fn := fun _ => fun
  | [d] => { results := [.lit (.bool false)], args := [d] }
  | _ => none }
def FnScaleNearestWrongFalsely : Prop := fnScaleNearestRow.holds Try.pinned (OpenSpec.ofChange fnScaleNearestWrong)

/-- 'laws.FnExactScaleArea': WHATEVER THE INPUT: true; the input reads as it did. -/
def fnExactScaleAreaSpec : ChangeSpec := { name := "fnExactScaleArea", fn := fun _ => fun
  | [d1, d2, d3] => { results := [.lit (.bool true)], args := [d1, d2, d3] }
  | _ => none }
def fnExactScaleAreaRow : OpenClaim := { program := "ytpajccpcdmaalaa", sum := "77ccc130d10a4880272d47db545328a1168193bbf094363c29a12d662a123ef4", func := "loop.example/pixelworks/laws.FnExactScaleArea", spec := "fnExactScaleArea", unfollowed := true, recurses := true, apart := false }
def FnExactScaleAreaSaid : Prop := fnExactScaleAreaRow.holds Try.pinned (OpenSpec.ofChange fnExactScaleAreaSpec)

/-- ITS FALSE NEIGHBOUR: 'it returns false'. Refute it at one input. -/
def fnExactScaleAreaWrong : ChangeSpec := { name := "fnExactScaleArea", fn := fun _ => fun
  | [d1, d2, d3] => { results := [.lit (.bool false)], args := [d1, d2, d3] }
  | _ => none }
def FnExactScaleAreaWrongFalsely : Prop := fnExactScaleAreaRow.holds Try.pinned (OpenSpec.ofChange fnExactScaleAreaWrong)

/-- 'laws.FnExactConvolveImage': WHATEVER THE INPUT: true; the input reads as it did. -/
def fnExactConvolveImageSpec : ChangeSpec := { name := "fnExactConvolveImage", fn := fun _ => fun
  | [d1, d2] => { results := [.lit (.bool true)], args := [d1, d2] }
  | _ => none }
def fnExactConvolveImageRow : OpenClaim := { program := "ytpajccpcdmaalaa", sum := "77ccc130d10a4880272d47db545328a1168193bbf094363c29a12d662a123ef4", func := "loop.example/pixelworks/laws.FnExactConvolveImage", spec := "fnExactConvolveImage", unfollowed := true, recurses := true, apart := false }
def FnExactConvolveImageSaid : Prop := fnExactConvolveImageRow.holds Try.pinned (OpenSpec.ofChange fnExactConvolveImageSpec)

/-- ITS FALSE NEIGHBOUR: 'it returns false'. Refute it at one input. -/
def fnExactConvolveImageWrong : ChangeSpec := { name := "fnExactConvolveImage", fn := fun _ => fun
  | [d1, d2] => { results := [.lit (.bool false)], args := [d1, d2] }
  | _ => none }
def FnExactConvolveImageWrongFalsely : Prop := fnExactConvolveImageRow.holds Try.pinned (OpenSpec.ofChange fnExactConvolveImageWrong)

/-- 'laws.FnExactScaleNearest': WHATEVER THE INPUT: true; the input reads as it did. -/
def fnExactScaleNearestSpec : ChangeSpec := { name := "fnExactScaleNearest", fn := fun _ => fun
  | [d1, d2, d3] => { results := [.lit (.bool true)], args := [d1, d2, d3] }
  | _ => none }
def fnExactScaleNearestRow : OpenClaim := { program := "ytpajccpcdmaalaa", sum := "77ccc130d10a4880272d47db545328a1168193bbf094363c29a12d662a123ef4", func := "loop.example/pixelworks/laws.FnExactScaleNearest", spec := "fnExactScaleNearest", unfollowed := true, recurses := true, apart := false }
def FnExactScaleNearestSaid : Prop := fnExactScaleNearestRow.holds Try.pinned (OpenSpec.ofChange fnExactScaleNearestSpec)

/-- ITS FALSE NEIGHBOUR: 'it returns false'. Refute it at one input. -/
def fnExactScaleNearestWrong : ChangeSpec := { name := "fnExactScaleNearest", fn := fun _ => fun
  | [d1, d2, d3] => { results := [.lit (.bool false)], args := [d1, d2, d3] }
  | _ => none }
def FnExactScaleNearestWrongFalsely : Prop := fnExactScaleNearestRow.holds Try.pinned (OpenSpec.ofChange fnExactScaleNearestWrong)

/-- 'laws.FnExactGrayImage': WHATEVER THE INPUT: true; the input reads as it did. -/
def fnExactGrayImageSpec : ChangeSpec := { name := "fnExactGrayImage", fn := fun _ => fun
  | [d] => { results := [.lit (.bool true)], args := [d] }
  | _ => none }
def fnExactGrayImageRow : OpenClaim := { program := "ytpajccpcdmaalaa", sum := "77ccc130d10a4880272d47db545328a1168193bbf094363c29a12d662a123ef4", func := "loop.example/pixelworks/laws.FnExactGrayImage", spec := "fnExactGrayImage", unfollowed := true, recurses := true, apart := false }
def FnExactGrayImageSaid : Prop := fnExactGrayImageRow.holds Try.pinned (OpenSpec.ofChange fnExactGrayImageSpec)

/-- ITS FALSE NEIGHBOUR: 'it returns false'. Refute it at one input. -/
def fnExactGrayImageWrong : ChangeSpec := { name := "fnExactGrayImage", fn := fun _ => fun
  | [d] => { results := [.lit (.bool false)], args := [d] }
  | _ => none }
def FnExactGrayImageWrongFalsely : Prop := fnExactGrayImageRow.holds Try.pinned (OpenSpec.ofChange fnExactGrayImageWrong)

/-- 'laws.FnExactSplitPlanes': WHATEVER THE INPUT: true; the input reads as it did. -/
def fnExactSplitPlanesSpec : ChangeSpec := { name := "fnExactSplitPlanes", fn := fun _ => fun
  | [d] => { results := [.lit (.bool true)], args := [d] }
  | _ => none }
def fnExactSplitPlanesRow : OpenClaim := { program := "ytpajccpcdmaalaa", sum := "77ccc130d10a4880272d47db545328a1168193bbf094363c29a12d662a123ef4", func := "loop.example/pixelworks/laws.FnExactSplitPlanes", spec := "fnExactSplitPlanes", unfollowed := true, recurses := true, apart := false }
def FnExactSplitPlanesSaid : Prop := fnExactSplitPlanesRow.holds Try.pinned (OpenSpec.ofChange fnExactSplitPlanesSpec)

/-- ITS FALSE NEIGHBOUR: 'it returns false'. Refute it at one input. -/
def fnExactSplitPlanesWrong : ChangeSpec := { name := "fnExactSplitPlanes", fn := fun _ => fun
  | [d] => { results := [.lit (.bool false)], args := [d] }
  | _ => none }
def FnExactSplitPlanesWrongFalsely : Prop := fnExactSplitPlanesRow.holds Try.pinned (OpenSpec.ofChange fnExactSplitPlanesWrong)

/- THE SECOND FORM. 'bulk': how many values and letters a reading holds, each counted each time it is reached (what is shared counts as often as it is met; a slice's spare places count too). A statement '..UptoSaid' is the law's where the arguments, and the package variables that the reading takes, are together of bulk at most 1048576: NARROWER than '..Said'. Prove '..Said' where nothing that the law and all that it calls make is longer than what came in: it says more and counts as full. Else prove '..UptoSaid'. A law counts once. -/
mutual
def uptoBulk {H : Type} : DataW H → Nat
  | .lit (.string bytes) => bytes.length + 1
  | .lit _ => 1
  | .nil => 1
  | .ptr d => uptoBulk d + 1
  | .slice elems spare => uptoBulkAll elems + uptoBulkAll spare + 1
  | .agg parts => uptoBulkAll parts + 1
  | .iface _ d => uptoBulk d + 1
  | .map entries => uptoBulkEntries entries + 1
  | .held _ => 1
def uptoBulkAll {H : Type} : List (DataW H) → Nat
  | [] => 0
  | d :: r => uptoBulk d + uptoBulkAll r
def uptoBulkEntries {H : Type} : List (Lit × DataW H) → Nat
  | [] => 0
  | x :: r => uptoBulkEntry x + uptoBulkEntries r
def uptoBulkEntry {H : Type} : Lit × DataW H → Nat
  | (.string bytes, d) => bytes.length + uptoBulk d + 1
  | (_, d) => uptoBulk d + 1
 end
def uptoSmall : (H : Type) → List (DataW H) → Bool := fun _ ds => decide (uptoBulkAll ds ≤ 1048576)
def OpenSpec.upto (s : _root_.Go.ChangeSpec) : _root_.Go.OpenSpec := { _root_.Go.OpenSpec.ofChange s with cond := some uptoSmall }

/-- 'laws.FnExactMergePlanes', WHERE WHAT IT READS IS OF BULK AT MOST 1048576: true; the input reads as it did. -/
def fnExactMergePlanesUptoRow : OpenClaim := { program := "ytpajccpcdmaalaa", sum := "77ccc130d10a4880272d47db545328a1168193bbf094363c29a12d662a123ef4", func := "loop.example/pixelworks/laws.FnExactMergePlanes", spec := "fnExactMergePlanes", unfollowed := true, recurses := true, apart := false, narrowed := true }
def FnExactMergePlanesUptoSaid : Prop := fnExactMergePlanesUptoRow.holds Try.pinned (OpenSpec.upto fnExactMergePlanesSpec)

/-- 'laws.FnGrayImage', WHERE WHAT IT READS IS OF BULK AT MOST 1048576: true; the input reads as it did. -/
def fnGrayImageUptoRow : OpenClaim := { program := "ytpajccpcdmaalaa", sum := "77ccc130d10a4880272d47db545328a1168193bbf094363c29a12d662a123ef4", func := "loop.example/pixelworks/laws.FnGrayImage", spec := "fnGrayImage", unfollowed := true, recurses := true, apart := false, narrowed := true }
def FnGrayImageUptoSaid : Prop := fnGrayImageUptoRow.holds Try.pinned (OpenSpec.upto fnGrayImageSpec)

/-- 'laws.FnSplitPlanes', WHERE WHAT IT READS IS OF BULK AT MOST 1048576: true; the input reads as it did. -/
def fnSplitPlanesUptoRow : OpenClaim := { program := "ytpajccpcdmaalaa", sum := "77ccc130d10a4880272d47db545328a1168193bbf094363c29a12d662a123ef4", func := "loop.example/pixelworks/laws.FnSplitPlanes", spec := "fnSplitPlanes", unfollowed := true, recurses := true, apart := false, narrowed := true }
def FnSplitPlanesUptoSaid : Prop := fnSplitPlanesUptoRow.holds Try.pinned (OpenSpec.upto fnSplitPlanesSpec)

/-- 'laws.FnMergePlanes', WHERE WHAT IT READS IS OF BULK AT MOST 1048576: true; the input reads as it did. -/
def fnMergePlanesUptoRow : OpenClaim := { program := "ytpajccpcdmaalaa", sum := "77ccc130d10a4880272d47db545328a1168193bbf094363c29a12d662a123ef4", func := "loop.example/pixelworks/laws.FnMergePlanes", spec := "fnMergePlanes", unfollowed := true, recurses := true, apart := false, narrowed := true }
def FnMergePlanesUptoSaid : Prop := fnMergePlanesUptoRow.holds Try.pinned (OpenSpec.upto fnMergePlanesSpec)

/-- 'laws.FnScaleNearest', WHERE WHAT IT READS IS OF BULK AT MOST 1048576: true; the input reads as it did. -/
def fnScaleNearestUptoRow : OpenClaim := { program := "ytpajccpcdmaalaa", sum := "77ccc130d10a4880272d47db545328a1168193bbf094363c29a12d662a123ef4", func := "loop.example/pixelworks/laws.FnScaleNearest", spec := "fnScaleNearest", unfollowed := true, recurses := true, apart := false, narrowed := true }
def FnScaleNearestUptoSaid : Prop := fnScaleNearestUptoRow.holds Try.pinned (OpenSpec.upto fnScaleNearestSpec)

/-- 'laws.FnExactScaleArea', WHERE WHAT IT READS IS OF BULK AT MOST 1048576: true; the input reads as it did. -/
def fnExactScaleAreaUptoRow : OpenClaim := { program := "ytpajccpcdmaalaa", sum := "77ccc130d10a4880272d47db545328a1168193bbf094363c29a12d662a123ef4", func := "loop.example/pixelworks/laws.FnExactScaleArea", spec := "fnExactScaleArea", unfollowed := true, recurses := true, apart := false, narrowed := true }
def FnExactScaleAreaUptoSaid : Prop := fnExactScaleAreaUptoRow.holds Try.pinned (OpenSpec.upto fnExactScaleAreaSpec)

/-- 'laws.FnExactConvolveImage', WHERE WHAT IT READS IS OF BULK AT MOST 1048576: true; the input reads as it did. -/
def fnExactConvolveImageUptoRow : OpenClaim := { program := "ytpajccpcdmaalaa", sum := "77ccc130d10a4880272d47db545328a1168193bbf094363c29a12d662a123ef4", func := "loop.example/pixelworks/laws.FnExactConvolveImage", spec := "fnExactConvolveImage", unfollowed := true, recurses := true, apart := false, narrowed := true }
def FnExactConvolveImageUptoSaid : Prop := fnExactConvolveImageUptoRow.holds Try.pinned (OpenSpec.upto fnExactConvolveImageSpec)

/-- 'laws.FnExactScaleNearest', WHERE WHAT IT READS IS OF BULK AT MOST 1048576: true; the input reads as it did. -/
def fnExactScaleNearestUptoRow : OpenClaim := { program := "ytpajccpcdmaalaa", sum := "77ccc130d10a4880272d47db545328a1168193bbf094363c29a12d662a123ef4", func := "loop.example/pixelworks/laws.FnExactScaleNearest", spec := "fnExactScaleNearest", unfollowed := true, recurses := true, apart := false, narrowed := true }
def FnExactScaleNearestUptoSaid : Prop := fnExactScaleNearestUptoRow.holds Try.pinned (OpenSpec.upto fnExactScaleNearestSpec)

/-- 'laws.FnExactGrayImage', WHERE WHAT IT READS IS OF BULK AT MOST 1048576: true; the input reads as it did. -/
def fnExactGrayImageUptoRow : OpenClaim := { program := "ytpajccpcdmaalaa", sum := "77ccc130d10a4880272d47db545328a1168193bbf094363c29a12d662a123ef4", func := "loop.example/pixelworks/laws.FnExactGrayImage", spec := "fnExactGrayImage", unfollowed := true, recurses := true, apart := false, narrowed := true }
def FnExactGrayImageUptoSaid : Prop := fnExactGrayImageUptoRow.holds Try.pinned (OpenSpec.upto fnExactGrayImageSpec)

/-- 'laws.FnExactSplitPlanes', WHERE WHAT IT READS IS OF BULK AT MOST 1048576: true; the input reads as it did. -/
def fnExactSplitPlanesUptoRow : OpenClaim := { program := "ytpajccpcdmaalaa", sum := "77ccc130d10a4880272d47db545328a1168193bbf094363c29a12d662a123ef4", func := "loop.example/pixelworks/laws.FnExactSplitPlanes", spec := "fnExactSplitPlanes", unfollowed := true, recurses := true, apart := false, narrowed := true }
def FnExactSplitPlanesUptoSaid : Prop := fnExactSplitPlanesUptoRow.holds Try.pinned (OpenSpec.upto fnExactSplitPlanesSpec)

end Rows
end Go.Proofs.Ytpajccpcdmaalaa
