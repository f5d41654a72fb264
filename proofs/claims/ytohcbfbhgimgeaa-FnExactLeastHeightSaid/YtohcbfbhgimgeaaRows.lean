/-
  No cell of these rows narrows 'for every input' (looked for: loops, veiled, ifaces, maps, wideKeys, modest, calm, conditions, laid).
  DERIVED. THE GIVEN ROWS OF THIS SEAT. 9 by the template 'for every input the law returns true; each argument reads behind the call as it read before'; 0 by the template 'total and deterministic' (their statements: YtohcbfbhgimgeaaTotals.lean).
  GIVEN WITH THE SEED: the statements are not yours to turn. If you find one false, say at which input.
  Laid BY PROGRAM, IN A SANDBOX (cutbox-rows.mjs): the forced cells as the released guide's own fill.sh prints them over the translation f1b2af3c80232a62… (all of the seat's roots in one cut). By AI agents, Wed Nov 11 2026. No macro, syntax, notation, axiom, sorry.
-/
import Derived.Test.YtohcbfbhgimgeaaChecked
import GoSem.Claim
import GoSem.ClaimJoined
import GoSem.ClaimMapViews
import Derived.JoinedTies
import Derived.KernelRfl
namespace Go.Proofs.Ytohcbfbhgimgeaa
/- THE CELL 'sum', in the pinned program and in every row, IS THE sha256 OF THE DUMP (.gsa) THAT YtohcbfbhgimgeaaProg.lean LOADS. Nothing in Lean hashes anything: it is a label: what it is worth is what the hold of that sum in a sandbox is worth. -/
noncomputable def Try.pinned : Pinned := { name := "ytohcbfbhgimgeaa", sum := "f1b2af3c80232a623c46240c614e8e19ae2764317edab28e363fdb1766b01829", checked := Try.checked }
namespace Rows
def none {H : Type} : Left H := { results := [], args := [] }

/-- 'laws.FnExactLeastHeight': WHATEVER THE INPUT: true; the input reads as it did. -/
def fnExactLeastHeightSpec : ChangeSpec := { name := "fnExactLeastHeight", fn := fun _ => fun
  | [d1, d2] => { results := [.lit (.bool true)], args := [d1, d2] }
  | _ => none }
def fnExactLeastHeightRow : OpenClaim := { program := "ytohcbfbhgimgeaa", sum := "f1b2af3c80232a623c46240c614e8e19ae2764317edab28e363fdb1766b01829", func := "loop.example/pixelworks/laws.FnExactLeastHeight", spec := "fnExactLeastHeight", apart := false }
def FnExactLeastHeightSaid : Prop := fnExactLeastHeightRow.holds Try.pinned (OpenSpec.ofChange fnExactLeastHeightSpec)

/-- ITS FALSE NEIGHBOUR: 'it returns false'. Refute it at one input. -/
def fnExactLeastHeightWrong : ChangeSpec := { name := "fnExactLeastHeight", fn := fun _ => fun
  | [d1, d2] => { results := [.lit (.bool false)], args := [d1, d2] }
  | _ => none }
def FnExactLeastHeightWrongFalsely : Prop := fnExactLeastHeightRow.holds Try.pinned (OpenSpec.ofChange fnExactLeastHeightWrong)

/-- 'laws.FnLeastHeight': WHATEVER THE INPUT: true; the input reads as it did. -/
def fnLeastHeightSpec : ChangeSpec := { name := "fnLeastHeight", fn := fun _ => fun
  | [d] => { results := [.lit (.bool true)], args := [d] }
  | _ => none }
def fnLeastHeightRow : OpenClaim := { program := "ytohcbfbhgimgeaa", sum := "f1b2af3c80232a623c46240c614e8e19ae2764317edab28e363fdb1766b01829", func := "loop.example/pixelworks/laws.FnLeastHeight", spec := "fnLeastHeight", apart := false }
def FnLeastHeightSaid : Prop := fnLeastHeightRow.holds Try.pinned (OpenSpec.ofChange fnLeastHeightSpec)

/-- ITS FALSE NEIGHBOUR: 'it returns false'. Refute it at one input. -/
def fnLeastHeightWrong : ChangeSpec := { name := "fnLeastHeight", fn := fun _ => fun
  | [d] => { results := [.lit (.bool false)], args := [d] }
  | _ => none }
def FnLeastHeightWrongFalsely : Prop := fnLeastHeightRow.holds Try.pinned (OpenSpec.ofChange fnLeastHeightWrong)

/-- 'laws.FnExactValidPacking': WHATEVER THE INPUT: true; the input reads as it did. -/
def fnExactValidPackingSpec : ChangeSpec := { name := "fnExactValidPacking", fn := fun _ => fun
  | [d1, d2, d3] => { results := [.lit (.bool true)], args := [d1, d2, d3] }
  | _ => none }
def fnExactValidPackingRow : OpenClaim := { program := "ytohcbfbhgimgeaa", sum := "f1b2af3c80232a623c46240c614e8e19ae2764317edab28e363fdb1766b01829", func := "loop.example/pixelworks/laws.FnExactValidPacking", spec := "fnExactValidPacking", unfollowed := true, recurses := true, apart := false }
def FnExactValidPackingSaid : Prop := fnExactValidPackingRow.holds Try.pinned (OpenSpec.ofChange fnExactValidPackingSpec)

/-- ITS FALSE NEIGHBOUR: 'it returns false'. Refute it at one input. -/
def fnExactValidPackingWrong : ChangeSpec := { name := "fnExactValidPacking", fn := fun _ => fun
  | [d1, d2, d3] => { results := [.lit (.bool false)], args := [d1, d2, d3] }
  | _ => none }
def FnExactValidPackingWrongFalsely : Prop := fnExactValidPackingRow.holds Try.pinned (OpenSpec.ofChange fnExactValidPackingWrong)

/-- 'laws.FnValidPacking': WHATEVER THE INPUT: true; the input reads as it did. -/
def fnValidPackingSpec : ChangeSpec := { name := "fnValidPacking", fn := fun _ => fun
  | [d] => { results := [.lit (.bool true)], args := [d] }
  | _ => none }
def fnValidPackingRow : OpenClaim := { program := "ytohcbfbhgimgeaa", sum := "f1b2af3c80232a623c46240c614e8e19ae2764317edab28e363fdb1766b01829", func := "loop.example/pixelworks/laws.FnValidPacking", spec := "fnValidPacking", unfollowed := true, recurses := true, apart := false }
def FnValidPackingSaid : Prop := fnValidPackingRow.holds Try.pinned (OpenSpec.ofChange fnValidPackingSpec)

/-- ITS FALSE NEIGHBOUR: 'it returns false'. Refute it at one input. -/
def fnValidPackingWrong : ChangeSpec := { name := "fnValidPacking", fn := fun _ => fun
  | [d] => { results := [.lit (.bool false)], args := [d] }
  | _ => none }
def FnValidPackingWrongFalsely : Prop := fnValidPackingRow.holds Try.pinned (OpenSpec.ofChange fnValidPackingWrong)

/-- 'laws.FnValidPackingTwice': WHATEVER THE INPUT: true; the input reads as it did. -/
def fnValidPackingTwiceSpec : ChangeSpec := { name := "fnValidPackingTwice", fn := fun _ => fun
  | [d] => { results := [.lit (.bool true)], args := [d] }
  | _ => none }
def fnValidPackingTwiceRow : OpenClaim := { program := "ytohcbfbhgimgeaa", sum := "f1b2af3c80232a623c46240c614e8e19ae2764317edab28e363fdb1766b01829", func := "loop.example/pixelworks/laws.FnValidPackingTwice", spec := "fnValidPackingTwice", unfollowed := true, recurses := true, apart := false }
def FnValidPackingTwiceSaid : Prop := fnValidPackingTwiceRow.holds Try.pinned (OpenSpec.ofChange fnValidPackingTwiceSpec)

/-- ITS FALSE NEIGHBOUR: 'it returns false'. Refute it at one input. -/
def fnValidPackingTwiceWrong : ChangeSpec := { name := "fnValidPackingTwice", fn := fun _ => fun
  | [d] => { results := [.lit (.bool false)], args := [d] }
  | _ => none }
def FnValidPackingTwiceWrongFalsely : Prop := fnValidPackingTwiceRow.holds Try.pinned (OpenSpec.ofChange fnValidPackingTwiceWrong)

/-- 'laws.FnPackSpritesOne': WHATEVER THE INPUT: true; the input reads as it did. -/
def fnPackSpritesOneSpec : ChangeSpec := { name := "fnPackSpritesOne", fn := fun _ => fun
  | [d] => { results := [.lit (.bool true)], args := [d] }
  | _ => none }
def fnPackSpritesOneRow : OpenClaim := { program := "ytohcbfbhgimgeaa", sum := "f1b2af3c80232a623c46240c614e8e19ae2764317edab28e363fdb1766b01829", func := "loop.example/pixelworks/laws.FnPackSpritesOne", spec := "fnPackSpritesOne", unfollowed := true, recurses := true, apart := false }
def FnPackSpritesOneSaid : Prop := fnPackSpritesOneRow.holds Try.pinned (OpenSpec.ofChange fnPackSpritesOneSpec)

/-- ITS FALSE NEIGHBOUR: 'it returns false'. Refute it at one input. -/
def fnPackSpritesOneWrong : ChangeSpec := { name := "fnPackSpritesOne", fn := fun _ => fun
  | [d] => { results := [.lit (.bool false)], args := [d] }
  | _ => none }
def FnPackSpritesOneWrongFalsely : Prop := fnPackSpritesOneRow.holds Try.pinned (OpenSpec.ofChange fnPackSpritesOneWrong)

/-- 'laws.FnExactSimplifySteps': WHATEVER THE INPUT: true; the input reads as it did. -/
def fnExactSimplifyStepsSpec : ChangeSpec := { name := "fnExactSimplifySteps", fn := fun _ => fun
  | [d] => { results := [.lit (.bool true)], args := [d] }
  | _ => none }
def fnExactSimplifyStepsRow : OpenClaim := { program := "ytohcbfbhgimgeaa", sum := "f1b2af3c80232a623c46240c614e8e19ae2764317edab28e363fdb1766b01829", func := "loop.example/pixelworks/laws.FnExactSimplifySteps", spec := "fnExactSimplifySteps", apart := false }
def FnExactSimplifyStepsSaid : Prop := fnExactSimplifyStepsRow.holds Try.pinned (OpenSpec.ofChange fnExactSimplifyStepsSpec)

/-- ITS FALSE NEIGHBOUR: 'it returns false'. Refute it at one input. -/
def fnExactSimplifyStepsWrong : ChangeSpec := { name := "fnExactSimplifySteps", fn := fun _ => fun
  | [d] => { results := [.lit (.bool false)], args := [d] }
  | _ => none }
def FnExactSimplifyStepsWrongFalsely : Prop := fnExactSimplifyStepsRow.holds Try.pinned (OpenSpec.ofChange fnExactSimplifyStepsWrong)

/-- 'laws.FnExactNearestColor': WHATEVER THE INPUT: true; the input reads as it did. -/
def fnExactNearestColorSpec : ChangeSpec := { name := "fnExactNearestColor", fn := fun _ => fun
  | [d1, d2] => { results := [.lit (.bool true)], args := [d1, d2] }
  | _ => none }
def fnExactNearestColorRow : OpenClaim := { program := "ytohcbfbhgimgeaa", sum := "f1b2af3c80232a623c46240c614e8e19ae2764317edab28e363fdb1766b01829", func := "loop.example/pixelworks/laws.FnExactNearestColor", spec := "fnExactNearestColor", apart := false }
def FnExactNearestColorSaid : Prop := fnExactNearestColorRow.holds Try.pinned (OpenSpec.ofChange fnExactNearestColorSpec)

/-- ITS FALSE NEIGHBOUR: 'it returns false'. Refute it at one input. -/
def fnExactNearestColorWrong : ChangeSpec := { name := "fnExactNearestColor", fn := fun _ => fun
  | [d1, d2] => { results := [.lit (.bool false)], args := [d1, d2] }
  | _ => none }
def FnExactNearestColorWrongFalsely : Prop := fnExactNearestColorRow.holds Try.pinned (OpenSpec.ofChange fnExactNearestColorWrong)

/-- 'laws.FnExactPackSprites': WHATEVER THE INPUT: true; the input reads as it did. -/
def fnExactPackSpritesSpec : ChangeSpec := { name := "fnExactPackSprites", fn := fun _ => fun
  | [d1, d2] => { results := [.lit (.bool true)], args := [d1, d2] }
  | _ => none }
def fnExactPackSpritesRow : OpenClaim := { program := "ytohcbfbhgimgeaa", sum := "f1b2af3c80232a623c46240c614e8e19ae2764317edab28e363fdb1766b01829", func := "loop.example/pixelworks/laws.FnExactPackSprites", spec := "fnExactPackSprites", unfollowed := true, recurses := true, apart := false }
def FnExactPackSpritesSaid : Prop := fnExactPackSpritesRow.holds Try.pinned (OpenSpec.ofChange fnExactPackSpritesSpec)

/-- ITS FALSE NEIGHBOUR: 'it returns false'. Refute it at one input. -/
def fnExactPackSpritesWrong : ChangeSpec := { name := "fnExactPackSprites", fn := fun _ => fun
  | [d1, d2] => { results := [.lit (.bool false)], args := [d1, d2] }
  | _ => none }
def FnExactPackSpritesWrongFalsely : Prop := fnExactPackSpritesRow.holds Try.pinned (OpenSpec.ofChange fnExactPackSpritesWrong)

/- THE SECOND FORM. 'bulk': how many values and letters a reading holds, each counted each time it is reached (what is shared counts as often as it is met; a slice's spare places count too). A statement '..UptoSaid' is the law's where the arguments, and the package variables that the reading takes, are together of bulk at most 1048576: NARROWER than '..Said'. Prove '..Said' where nothing that the law and all that it calls make is longer than what came in: it says more and counts as full. Else prove '..UptoSaid'. A law counts once. -/
mutual
def uptoBulk {H : Type} : DataW H → Nat
  | .lit (.string bytes) => bytes.length + 1
  | .lit _ => 1
  | .nil => 1
  | .ptr d => uptoBulk d + 1
  | .slice elems spare => uptoBulkAll elems + uptoBulkAll spare + 1
  | .agg parts => uptoBulkAll parts + 1
  | .iface _ d => uptoBulk d + 1
  | .map entries => uptoBulkEntries entries + 1
  | .held _ => 1
def uptoBulkAll {H : Type} : List (DataW H) → Nat
  | [] => 0
  | d :: r => uptoBulk d + uptoBulkAll r
def uptoBulkEntries {H : Type} : List (Lit × DataW H) → Nat
  | [] => 0
  | x :: r => uptoBulkEntry x + uptoBulkEntries r
def uptoBulkEntry {H : Type} : Lit × DataW H → Nat
  | (.string bytes, d) => bytes.length + uptoBulk d + 1
  | (_, d) => uptoBulk d + 1
 end
def uptoSmall : (H : Type) → List (DataW H) → Bool := fun _ ds => decide (uptoBulkAll ds ≤ 1048576)
def OpenSpec.upto (s : _root_.Go.ChangeSpec) : _root_.Go.OpenSpec := { _root_.Go.OpenSpec.ofChange s with cond := some uptoSmall }

/-- 'laws.FnExactLeastHeight', WHERE WHAT IT READS IS OF BULK AT MOST 1048576: true; the input reads as it did. -/
def fnExactLeastHeightUptoRow : OpenClaim := { program := "ytohcbfbhgimgeaa", sum := "f1b2af3c80232a623c46240c614e8e19ae2764317edab28e363fdb1766b01829", func := "loop.example/pixelworks/laws.FnExactLeastHeight", spec := "fnExactLeastHeight", apart := false, narrowed := true }
def FnExactLeastHeightUptoSaid : Prop := fnExactLeastHeightUptoRow.holds Try.pinned (OpenSpec.upto fnExactLeastHeightSpec)

/-- 'laws.FnLeastHeight', WHERE WHAT IT READS IS OF BULK AT MOST 1048576: true; the input reads as it did. -/
def fnLeastHeightUptoRow : OpenClaim := { program := "ytohcbfbhgimgeaa", sum := "f1b2af3c80232a623c46240c614e8e19ae2764317edab28e363fdb1766b01829", func := "loop.example/pixelworks/laws.FnLeastHeight", spec := "fnLeastHeight", apart := false, narrowed := true }
def FnLeastHeightUptoSaid : Prop := fnLeastHeightUptoRow.holds Try.pinned (OpenSpec.upto fnLeastHeightSpec)

/-- 'laws.FnExactValidPacking', WHERE WHAT IT READS IS OF BULK AT MOST 1048576: true; the input reads as it did. -/
def fnExactValidPackingUptoRow : OpenClaim := { program := "ytohcbfbhgimgeaa", sum := "f1b2af3c80232a623c46240c614e8e19ae2764317edab28e363fdb1766b01829", func := "loop.example/pixelworks/laws.FnExactValidPacking", spec := "fnExactValidPacking", unfollowed := true, recurses := true, apart := false, narrowed := true }
def FnExactValidPackingUptoSaid : Prop := fnExactValidPackingUptoRow.holds Try.pinned (OpenSpec.upto fnExactValidPackingSpec)

/-- 'laws.FnValidPacking', WHERE WHAT IT READS IS OF BULK AT MOST 1048576: true; the input reads as it did. -/
def fnValidPackingUptoRow : OpenClaim := { program := "ytohcbfbhgimgeaa", sum := "f1b2af3c80232a623c46240c614e8e19ae2764317edab28e363fdb1766b01829", func := "loop.example/pixelworks/laws.FnValidPacking", spec := "fnValidPacking", unfollowed := true, recurses := true, apart := false, narrowed := true }
def FnValidPackingUptoSaid : Prop := fnValidPackingUptoRow.holds Try.pinned (OpenSpec.upto fnValidPackingSpec)

/-- 'laws.FnValidPackingTwice', WHERE WHAT IT READS IS OF BULK AT MOST 1048576: true; the input reads as it did. -/
def fnValidPackingTwiceUptoRow : OpenClaim := { program := "ytohcbfbhgimgeaa", sum := "f1b2af3c80232a623c46240c614e8e19ae2764317edab28e363fdb1766b01829", func := "loop.example/pixelworks/laws.FnValidPackingTwice", spec := "fnValidPackingTwice", unfollowed := true, recurses := true, apart := false, narrowed := true }
def FnValidPackingTwiceUptoSaid : Prop := fnValidPackingTwiceUptoRow.holds Try.pinned (OpenSpec.upto fnValidPackingTwiceSpec)

/-- 'laws.FnPackSpritesOne', WHERE WHAT IT READS IS OF BULK AT MOST 1048576: true; the input reads as it did. -/
def fnPackSpritesOneUptoRow : OpenClaim := { program := "ytohcbfbhgimgeaa", sum := "f1b2af3c80232a623c46240c614e8e19ae2764317edab28e363fdb1766b01829", func := "loop.example/pixelworks/laws.FnPackSpritesOne", spec := "fnPackSpritesOne", unfollowed := true, recurses := true, apart := false, narrowed := true }
def FnPackSpritesOneUptoSaid : Prop := fnPackSpritesOneUptoRow.holds Try.pinned (OpenSpec.upto fnPackSpritesOneSpec)

/-- 'laws.FnExactSimplifySteps', WHERE WHAT IT READS IS OF BULK AT MOST 1048576: true; the input reads as it did. -/
def fnExactSimplifyStepsUptoRow : OpenClaim := { program := "ytohcbfbhgimgeaa", sum := "f1b2af3c80232a623c46240c614e8e19ae2764317edab28e363fdb1766b01829", func := "loop.example/pixelworks/laws.FnExactSimplifySteps", spec := "fnExactSimplifySteps", apart := false, narrowed := true }
def FnExactSimplifyStepsUptoSaid : Prop := fnExactSimplifyStepsUptoRow.holds Try.pinned (OpenSpec.upto fnExactSimplifyStepsSpec)

/-- 'laws.FnExactNearestColor', WHERE WHAT IT READS IS OF BULK AT MOST 1048576: true; the input reads as it did. -/
def fnExactNearestColorUptoRow : OpenClaim := { program := "ytohcbfbhgimgeaa", sum := "f1b2af3c80232a623c46240c614e8e19ae2764317edab28e363fdb1766b01829", func := "loop.example/pixelworks/laws.FnExactNearestColor", spec := "fnExactNearestColor", apart := false, narrowed := true }
def FnExactNearestColorUptoSaid : Prop := fnExactNearestColorUptoRow.holds Try.pinned (OpenSpec.upto fnExactNearestColorSpec)

/-- 'laws.FnExactPackSprites', WHERE WHAT IT READS IS OF BULK AT MOST 1048576: true; the input reads as it did. -/
def fnExactPackSpritesUptoRow : OpenClaim := { program := "ytohcbfbhgimgeaa", sum := "f1b2af3c80232a623c46240c614e8e19ae2764317edab28e363fdb1766b01829", func := "loop.example/pixelworks/laws.FnExactPackSprites", spec := "fnExactPackSprites", unfollowed := true, recurses := true, apart := false, narrowed := true }
def FnExactPackSpritesUptoSaid : Prop := fnExactPackSpritesUptoRow.holds Try.pinned (OpenSpec.upto fnExactPackSpritesSpec)

end Rows
end Go.Proofs.Ytohcbfbhgimgeaa
