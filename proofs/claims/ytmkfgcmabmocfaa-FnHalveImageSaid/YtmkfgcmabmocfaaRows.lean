/-
  No cell of these rows narrows 'for every input' (looked for: loops, veiled, ifaces, maps, wideKeys, modest, calm, conditions, laid).
  DERIVED. THE GIVEN ROWS OF THIS SEAT. 12 by the template 'for every input the law returns true; each argument reads behind the call as it read before'; 0 by the template 'total and deterministic' (their statements: YtmkfgcmabmocfaaTotals.lean).
  GIVEN WITH THE SEED: the statements are not yours to turn. If you find one false, say at which input.
  Laid BY PROGRAM, IN A SANDBOX (cutbox-rows.mjs): the forced cells as the released guide's own fill.sh prints them over the translation 5f54d7fe52a9cb26… (all of the seat's roots in one cut). By AI agents, Wed Nov 11 2026. No macro, syntax, notation, axiom, sorry.
-/
import Derived.Test.YtmkfgcmabmocfaaChecked
import GoSem.Claim
import GoSem.ClaimJoined
import GoSem.ClaimMapViews
import Derived.JoinedTies
import Derived.KernelRfl
namespace Go.Proofs.Ytmkfgcmabmocfaa
/- THE CELL 'sum', in the pinned program and in every row, IS THE sha256 OF THE DUMP (.gsa) THAT YtmkfgcmabmocfaaProg.lean LOADS. Nothing in Lean hashes anything: it is a label: what it is worth is what the hold of that sum in a sandbox is worth. -/
noncomputable def Try.pinned : Pinned := { name := "ytmkfgcmabmocfaa", sum := "5f54d7fe52a9cb26d3c9e859d19c8c49726b7540f9bce190da557198555af428", checked := Try.checked }
namespace Rows
def none {H : Type} : Left H := { results := [], args := [] }

/-- 'laws.FnForwardPairs': WHATEVER THE INPUT: true; the input reads as it did. -/
def fnForwardPairsSpec : ChangeSpec := { name := "fnForwardPairs", fn := fun _ => fun
  | [d] => { results := [.lit (.bool true)], args := [d] }
  | _ => none }
def fnForwardPairsRow : OpenClaim := { program := "ytmkfgcmabmocfaa", sum := "5f54d7fe52a9cb26d3c9e859d19c8c49726b7540f9bce190da557198555af428", func := "loop.example/pixelworks/laws.FnForwardPairs", spec := "fnForwardPairs", unfollowed := true, recurses := true, apart := false }
def FnForwardPairsSaid : Prop := fnForwardPairsRow.holds Try.pinned (OpenSpec.ofChange fnForwardPairsSpec)

/-- ITS FALSE NEIGHBOUR: 'it returns false'. Refute it at one input. -/
def fnForwardPairsWrong : ChangeSpec := { name := "fnForwardPairs", fn := fun _ => fun
  | [d] => { results := [.lit (.bool false)], args := [d] }
  | _ => none }
def FnForwardPairsWrongFalsely : Prop := fnForwardPairsRow.holds Try.pinned (OpenSpec.ofChange fnForwardPairsWrong)

/-- 'laws.FnBackPairs': WHATEVER THE INPUT: true; the input reads as it did. -/
def fnBackPairsSpec : ChangeSpec := { name := "fnBackPairs", fn := fun _ => fun
  | [d] => { results := [.lit (.bool true)], args := [d] }
  | _ => none }
def fnBackPairsRow : OpenClaim := { program := "ytmkfgcmabmocfaa", sum := "5f54d7fe52a9cb26d3c9e859d19c8c49726b7540f9bce190da557198555af428", func := "loop.example/pixelworks/laws.FnBackPairs", spec := "fnBackPairs", unfollowed := true, recurses := true, apart := false }
def FnBackPairsSaid : Prop := fnBackPairsRow.holds Try.pinned (OpenSpec.ofChange fnBackPairsSpec)

/-- ITS FALSE NEIGHBOUR: 'it returns false'. Refute it at one input. -/
def fnBackPairsWrong : ChangeSpec := { name := "fnBackPairs", fn := fun _ => fun
  | [d] => { results := [.lit (.bool false)], args := [d] }
  | _ => none }
def FnBackPairsWrongFalsely : Prop := fnBackPairsRow.holds Try.pinned (OpenSpec.ofChange fnBackPairsWrong)

/-- 'laws.FnForwardPairsFlat': WHATEVER THE INPUT: true; the input reads as it did. -/
def fnForwardPairsFlatSpec : ChangeSpec := { name := "fnForwardPairsFlat", fn := fun _ => fun
  | [d] => { results := [.lit (.bool true)], args := [d] }
  | _ => none }
def fnForwardPairsFlatRow : OpenClaim := { program := "ytmkfgcmabmocfaa", sum := "5f54d7fe52a9cb26d3c9e859d19c8c49726b7540f9bce190da557198555af428", func := "loop.example/pixelworks/laws.FnForwardPairsFlat", spec := "fnForwardPairsFlat", unfollowed := true, recurses := true, apart := false }
def FnForwardPairsFlatSaid : Prop := fnForwardPairsFlatRow.holds Try.pinned (OpenSpec.ofChange fnForwardPairsFlatSpec)

/-- ITS FALSE NEIGHBOUR: 'it returns false'. Refute it at one input. -/
def fnForwardPairsFlatWrong : ChangeSpec := { name := "fnForwardPairsFlat", fn := fun _ => fun
  | [d] => { results := [.lit (.bool false)], args := [d] }
  | _ => none }
def FnForwardPairsFlatWrongFalsely : Prop := fnForwardPairsFlatRow.holds Try.pinned (OpenSpec.ofChange fnForwardPairsFlatWrong)

/-- 'laws.FnExactForwardPairs': WHATEVER THE INPUT: true; the input reads as it did. -/
def fnExactForwardPairsSpec : ChangeSpec := { name := "fnExactForwardPairs", fn := fun _ => fun
  | [d] => { results := [.lit (.bool true)], args := [d] }
  | _ => none }
def fnExactForwardPairsRow : OpenClaim := { program := "ytmkfgcmabmocfaa", sum := "5f54d7fe52a9cb26d3c9e859d19c8c49726b7540f9bce190da557198555af428", func := "loop.example/pixelworks/laws.FnExactForwardPairs", spec := "fnExactForwardPairs", unfollowed := true, recurses := true, apart := false }
def FnExactForwardPairsSaid : Prop := fnExactForwardPairsRow.holds Try.pinned (OpenSpec.ofChange fnExactForwardPairsSpec)

/-- ITS FALSE NEIGHBOUR: 'it returns false'. Refute it at one input. -/
def fnExactForwardPairsWrong : ChangeSpec := { name := "fnExactForwardPairs", fn := fun _ => fun
  | [d] => { results := [.lit (.bool false)], args := [d] }
  | _ => none }
def FnExactForwardPairsWrongFalsely : Prop := fnExactForwardPairsRow.holds Try.pinned (OpenSpec.ofChange fnExactForwardPairsWrong)

/-- 'laws.FnExactBackPairs': WHATEVER THE INPUT: true; the input reads as it did. -/
def fnExactBackPairsSpec : ChangeSpec := { name := "fnExactBackPairs", fn := fun _ => fun
  | [d] => { results := [.lit (.bool true)], args := [d] }
  | _ => none }
def fnExactBackPairsRow : OpenClaim := { program := "ytmkfgcmabmocfaa", sum := "5f54d7fe52a9cb26d3c9e859d19c8c49726b7540f9bce190da557198555af428", func := "loop.example/pixelworks/laws.FnExactBackPairs", spec := "fnExactBackPairs", unfollowed := true, recurses := true, apart := false }
def FnExactBackPairsSaid : Prop := fnExactBackPairsRow.holds Try.pinned (OpenSpec.ofChange fnExactBackPairsSpec)

/-- ITS FALSE NEIGHBOUR: 'it returns false'. Refute it at one input. -/
def fnExactBackPairsWrong : ChangeSpec := { name := "fnExactBackPairs", fn := fun _ => fun
  | [d] => { results := [.lit (.bool false)], args := [d] }
  | _ => none }
def FnExactBackPairsWrongFalsely : Prop := fnExactBackPairsRow.holds Try.pinned (OpenSpec.ofChange fnExactBackPairsWrong)

/-- 'laws.FnExactRepeatImage': WHATEVER THE INPUT: true; the input reads as it did. -/
def fnExactRepeatImageSpec : ChangeSpec := { name := "fnExactRepeatImage", fn := fun _ => fun
  | [d1, d2, d3] => { results := [.lit (.bool true)], args := [d1, d2, d3] }
  | _ => none }
def fnExactRepeatImageRow : OpenClaim := { program := "ytmkfgcmabmocfaa", sum := "5f54d7fe52a9cb26d3c9e859d19c8c49726b7540f9bce190da557198555af428", func := "loop.example/pixelworks/laws.FnExactRepeatImage", spec := "fnExactRepeatImage", unfollowed := true, recurses := true, apart := false }
def FnExactRepeatImageSaid : Prop := fnExactRepeatImageRow.holds Try.pinned (OpenSpec.ofChange fnExactRepeatImageSpec)

/-- ITS FALSE NEIGHBOUR: 'it returns false'. Refute it at one input. -/
def fnExactRepeatImageWrong : ChangeSpec := { name := "fnExactRepeatImage", fn := fun _ => fun
  | [d1, d2, d3] => { results := [.lit (.bool false)], args := [d1, d2, d3] }
  | _ => none }
def FnExactRepeatImageWrongFalsely : Prop := fnExactRepeatImageRow.holds Try.pinned (OpenSpec.ofChange fnExactRepeatImageWrong)

/-- 'laws.FnRepeatImageOne': WHATEVER THE INPUT: true; the input reads as it did. -/
def fnRepeatImageOneSpec : ChangeSpec := { name := "fnRepeatImageOne", fn := fun _ => fun
  | [d] => { results := [.lit (.bool true)], args := [d] }
  | _ => none }
def fnRepeatImageOneRow : OpenClaim := { program := "ytmkfgcmabmocfaa", sum := "5f54d7fe52a9cb26d3c9e859d19c8c49726b7540f9bce190da557198555af428", func := "loop.example/pixelworks/laws.FnRepeatImageOne", spec := "fnRepeatImageOne", unfollowed := true, recurses := true, apart := false }
def FnRepeatImageOneSaid : Prop := fnRepeatImageOneRow.holds Try.pinned (OpenSpec.ofChange fnRepeatImageOneSpec)

/-- ITS FALSE NEIGHBOUR: 'it returns false'. Refute it at one input. -/
def fnRepeatImageOneWrong : ChangeSpec := { name := "fnRepeatImageOne", fn := fun _ => fun
  | [d] => { results := [.lit (.bool false)], args := [d] }
  | _ => none }
def FnRepeatImageOneWrongFalsely : Prop := fnRepeatImageOneRow.holds Try.pinned (OpenSpec.ofChange fnRepeatImageOneWrong)

/-- 'laws.FnExactScaleArea': WHATEVER THE INPUT: true; the input reads as it did. -/
def fnExactScaleAreaSpec : ChangeSpec := { name := "fnExactScaleArea", fn := fun _ => fun
  | [d1, d2, d3] => { results := [.lit (.bool true)], args := [d1, d2, d3] }
  | _ => none }
def fnExactScaleAreaRow : OpenClaim := { program := "ytmkfgcmabmocfaa", sum := "5f54d7fe52a9cb26d3c9e859d19c8c49726b7540f9bce190da557198555af428", func := "loop.example/pixelworks/laws.FnExactScaleArea", spec := "fnExactScaleArea", unfollowed := true, recurses := true, apart := false }
def FnExactScaleAreaSaid : Prop := fnExactScaleAreaRow.holds Try.pinned (OpenSpec.ofChange fnExactScaleAreaSpec)

/-- ITS FALSE NEIGHBOUR: 'it returns false'. Refute it at one input. -/
def fnExactScaleAreaWrong : ChangeSpec := { name := "fnExactScaleArea", fn := fun _ => fun
  | [d1, d2, d3] => { results := [.lit (.bool false)], args := [d1, d2, d3] }
  | _ => none }
def FnExactScaleAreaWrongFalsely : Prop := fnExactScaleAreaRow.holds Try.pinned (OpenSpec.ofChange fnExactScaleAreaWrong)

/-- 'laws.FnScaleArea': WHATEVER THE INPUT: true; the input reads as it did. -/
def fnScaleAreaSpec : ChangeSpec := { name := "fnScaleArea", fn := fun _ => fun
  | [d] => { results := [.lit (.bool true)], args := [d] }
  | _ => none }
def fnScaleAreaRow : OpenClaim := { program := "ytmkfgcmabmocfaa", sum := "5f54d7fe52a9cb26d3c9e859d19c8c49726b7540f9bce190da557198555af428", func := "loop.example/pixelworks/laws.FnScaleArea", spec := "fnScaleArea", unfollowed := true, recurses := true, apart := false }
def FnScaleAreaSaid : Prop := fnScaleAreaRow.holds Try.pinned (OpenSpec.ofChange fnScaleAreaSpec)

/-- ITS FALSE NEIGHBOUR: 'it returns false'. Refute it at one input. -/
def fnScaleAreaWrong : ChangeSpec := { name := "fnScaleArea", fn := fun _ => fun
  | [d] => { results := [.lit (.bool false)], args := [d] }
  | _ => none }
def FnScaleAreaWrongFalsely : Prop := fnScaleAreaRow.holds Try.pinned (OpenSpec.ofChange fnScaleAreaWrong)

/-- 'laws.FnScaleAreaTwice': WHATEVER THE INPUT: true; the input reads as it did. -/
def fnScaleAreaTwiceSpec : ChangeSpec := { name := "fnScaleAreaTwice", fn := fun _ => fun
  | [d] => { results := [.lit (.bool true)], args := [d] }
  | _ => none }
def fnScaleAreaTwiceRow : OpenClaim := { program := "ytmkfgcmabmocfaa", sum := "5f54d7fe52a9cb26d3c9e859d19c8c49726b7540f9bce190da557198555af428", func := "loop.example/pixelworks/laws.FnScaleAreaTwice", spec := "fnScaleAreaTwice", unfollowed := true, recurses := true, apart := false }
def FnScaleAreaTwiceSaid : Prop := fnScaleAreaTwiceRow.holds Try.pinned (OpenSpec.ofChange fnScaleAreaTwiceSpec)

/-- ITS FALSE NEIGHBOUR: 'it returns false'. Refute it at one input. -/
def fnScaleAreaTwiceWrong : ChangeSpec := { name := "fnScaleAreaTwice", fn := fun _ => fun
  | [d] => { results := [.lit (.bool false)], args := [d] }
  | _ => none }
def FnScaleAreaTwiceWrongFalsely : Prop := fnScaleAreaTwiceRow.holds Try.pinned (OpenSpec.ofChange fnScaleAreaTwiceWrong)

/-- 'laws.FnExactHalveImage': WHATEVER THE INPUT: true; the input reads as it did. -/
def fnExactHalveImageSpec : ChangeSpec := { name := "fnExactHalveImage", fn := fun _ => fun
  | [d] => { results := [.lit (.bool true)], args := [d] }
  | _ => none }
def fnExactHalveImageRow : OpenClaim := { program := "ytmkfgcmabmocfaa", sum := "5f54d7fe52a9cb26d3c9e859d19c8c49726b7540f9bce190da557198555af428", func := "loop.example/pixelworks/laws.FnExactHalveImage", spec := "fnExactHalveImage", unfollowed := true, recurses := true, apart := false }
def FnExactHalveImageSaid : Prop := fnExactHalveImageRow.holds Try.pinned (OpenSpec.ofChange fnExactHalveImageSpec)

/-- ITS FALSE NEIGHBOUR: 'it returns false'. Refute it at one input. -/
def fnExactHalveImageWrong : ChangeSpec := { name := "fnExactHalveImage", fn := fun _ => fun
  | [d] => { results := [.lit (.bool false)], args := [d] }
  | _ => none }
def FnExactHalveImageWrongFalsely : Prop := fnExactHalveImageRow.holds Try.pinned (OpenSpec.ofChange fnExactHalveImageWrong)

/-- 'laws.FnHalveImage': WHATEVER THE INPUT: true; the input reads as it did. -/
def fnHalveImageSpec : ChangeSpec := { name := "fnHalveImage", fn := fun _ => fun
  | [d] => { results := [.lit (.bool true)], args := [d] }
  | _ => none }
def fnHalveImageRow : OpenClaim := { program := "ytmkfgcmabmocfaa", sum := "5f54d7fe52a9cb26d3c9e859d19c8c49726b7540f9bce190da557198555af428", func := "loop.example/pixelworks/laws.FnHalveImage", spec := "fnHalveImage", unfollowed := true, recurses := true, apart := false }
def FnHalveImageSaid : Prop := fnHalveImageRow.holds Try.pinned (OpenSpec.ofChange fnHalveImageSpec)

/-- ITS FALSE NEIGHBOUR: 'it returns false'. Refute it at one input. -/
def fnHalveImageWrong : ChangeSpec := { name := "fnHalveImage", fn := fun _ => fun
  | [d] => { results := [.lit (.bool false)], args := [d] }
  | _ => none }
def FnHalveImageWrongFalsely : Prop := fnHalveImageRow.holds Try.pinned (OpenSpec.ofChange fnHalveImageWrong)

/- THE SECOND FORM. 'bulk': how many values and letters a reading holds, each counted each time it is reached (what is shared counts as often as it is met; a slice's spare places count too). A statement '..UptoSaid' is the law's where the arguments, and the package variables that the reading takes, are together of bulk at most 1048576: NARROWER than '..Said'. Prove '..Said' where nothing that the law and all that it calls make is longer than what came in: it says more and counts as full. Else prove '..UptoSaid'. A law counts once. -/
mutual
def uptoBulk {H : Type} : DataW H → Nat
  | .lit (.string bytes) => bytes.length + 1
  | .lit _ => 1
  | .nil => 1
  | .ptr d => uptoBulk d + 1
  | .slice elems spare => uptoBulkAll elems + uptoBulkAll spare + 1
  | .agg parts => uptoBulkAll parts + 1
  | .iface _ d => uptoBulk d + 1
  | .map entries => uptoBulkEntries entries + 1
  | .held _ => 1
def uptoBulkAll {H : Type} : List (DataW H) → Nat
  | [] => 0
  | d :: r => uptoBulk d + uptoBulkAll r
def uptoBulkEntries {H : Type} : List (Lit × DataW H) → Nat
  | [] => 0
  | x :: r => uptoBulkEntry x + uptoBulkEntries r
def uptoBulkEntry {H : Type} : Lit × DataW H → Nat
  | (.string bytes, d) => bytes.length + uptoBulk d + 1
  | (_, d) => uptoBulk d + 1
 end
def uptoSmall : (H : Type) → List (DataW H) → Bool := fun _ ds => decide (uptoBulkAll ds ≤ 1048576)
def OpenSpec.upto (s : _root_.Go.ChangeSpec) : _root_.Go.OpenSpec := { _root_.Go.OpenSpec.ofChange s with cond := some uptoSmall }

/-- 'laws.FnForwardPairs', WHERE WHAT IT READS IS OF BULK AT MOST 1048576: true; the input reads as it did. -/
def fnForwardPairsUptoRow : OpenClaim := { program := "ytmkfgcmabmocfaa", sum := "5f54d7fe52a9cb26d3c9e859d19c8c49726b7540f9bce190da557198555af428", func := "loop.example/pixelworks/laws.FnForwardPairs", spec := "fnForwardPairs", unfollowed := true, recurses := true, apart := false, narrowed := true }
def FnForwardPairsUptoSaid : Prop := fnForwardPairsUptoRow.holds Try.pinned (OpenSpec.upto fnForwardPairsSpec)

/-- 'laws.FnBackPairs', WHERE WHAT IT READS IS OF BULK AT MOST 1048576: true; the input reads as it did. -/
def fnBackPairsUptoRow : OpenClaim := { program := "ytmkfgcmabmocfaa", sum := "5f54d7fe52a9cb26d3c9e859d19c8c49726b7540f9bce190da557198555af428", func := "loop.example/pixelworks/laws.FnBackPairs", spec := "fnBackPairs", unfollowed := true, recurses := true, apart := false, narrowed := true }
def FnBackPairsUptoSaid : Prop := fnBackPairsUptoRow.holds Try.pinned (OpenSpec.upto fnBackPairsSpec)

/-- 'laws.FnForwardPairsFlat', WHERE WHAT IT READS IS OF BULK AT MOST 1048576: true; the input reads as it did. -/
def fnForwardPairsFlatUptoRow : OpenClaim := { program := "ytmkfgcmabmocfaa", sum := "5f54d7fe52a9cb26d3c9e859d19c8c49726b7540f9bce190da557198555af428", func := "loop.example/pixelworks/laws.FnForwardPairsFlat", spec := "fnForwardPairsFlat", unfollowed := true, recurses := true, apart := false, narrowed := true }
def FnForwardPairsFlatUptoSaid : Prop := fnForwardPairsFlatUptoRow.holds Try.pinned (OpenSpec.upto fnForwardPairsFlatSpec)

/-- 'laws.FnExactForwardPairs', WHERE WHAT IT READS IS OF BULK AT MOST 1048576: true; the input reads as it did. -/
def fnExactForwardPairsUptoRow : OpenClaim := { program := "ytmkfgcmabmocfaa", sum := "5f54d7fe52a9cb26d3c9e859d19c8c49726b7540f9bce190da557198555af428", func := "loop.example/pixelworks/laws.FnExactForwardPairs", spec := "fnExactForwardPairs", unfollowed := true, recurses := true, apart := false, narrowed := true }
def FnExactForwardPairsUptoSaid : Prop := fnExactForwardPairsUptoRow.holds Try.pinned (OpenSpec.upto fnExactForwardPairsSpec)

/-- 'laws.FnExactBackPairs', WHERE WHAT IT READS IS OF BULK AT MOST 1048576: true; the input reads as it did. -/
def fnExactBackPairsUptoRow : OpenClaim := { program := "ytmkfgcmabmocfaa", sum := "5f54d7fe52a9cb26d3c9e859d19c8c49726b7540f9bce190da557198555af428", func := "loop.example/pixelworks/laws.FnExactBackPairs", spec := "fnExactBackPairs", unfollowed := true, recurses := true, apart := false, narrowed := true }
def FnExactBackPairsUptoSaid : Prop := fnExactBackPairsUptoRow.holds Try.pinned (OpenSpec.upto fnExactBackPairsSpec)

/-- 'laws.FnExactRepeatImage', WHERE WHAT IT READS IS OF BULK AT MOST 1048576: true; the input reads as it did. -/
def fnExactRepeatImageUptoRow : OpenClaim := { program := "ytmkfgcmabmocfaa", sum := "5f54d7fe52a9cb26d3c9e859d19c8c49726b7540f9bce190da557198555af428", func := "loop.example/pixelworks/laws.FnExactRepeatImage", spec := "fnExactRepeatImage", unfollowed := true, recurses := true, apart := false, narrowed := true }
def FnExactRepeatImageUptoSaid : Prop := fnExactRepeatImageUptoRow.holds Try.pinned (OpenSpec.upto fnExactRepeatImageSpec)

/-- 'laws.FnRepeatImageOne', WHERE WHAT IT READS IS OF BULK AT MOST 1048576: true; the input reads as it did. -/
def fnRepeatImageOneUptoRow : OpenClaim := { program := "ytmkfgcmabmocfaa", sum := "5f54d7fe52a9cb26d3c9e859d19c8c49726b7540f9bce190da557198555af428", func := "loop.example/pixelworks/laws.FnRepeatImageOne", spec := "fnRepeatImageOne", unfollowed := true, recurses := true, apart := false, narrowed := true }
def FnRepeatImageOneUptoSaid : Prop := fnRepeatImageOneUptoRow.holds Try.pinned (OpenSpec.upto fnRepeatImageOneSpec)

/-- 'laws.FnExactScaleArea', WHERE WHAT IT READS IS OF BULK AT MOST 1048576: true; the input reads as it did. -/
def fnExactScaleAreaUptoRow : OpenClaim := { program := "ytmkfgcmabmocfaa", sum := "5f54d7fe52a9cb26d3c9e859d19c8c49726b7540f9bce190da557198555af428", func := "loop.example/pixelworks/laws.FnExactScaleArea", spec := "fnExactScaleArea", unfollowed := true, recurses := true, apart := false, narrowed := true }
def FnExactScaleAreaUptoSaid : Prop := fnExactScaleAreaUptoRow.holds Try.pinned (OpenSpec.upto fnExactScaleAreaSpec)

/-- 'laws.FnScaleArea', WHERE WHAT IT READS IS OF BULK AT MOST 1048576: true; the input reads as it did. -/
def fnScaleAreaUptoRow : OpenClaim := { program := "ytmkfgcmabmocfaa", sum := "5f54d7fe52a9cb26d3c9e859d19c8c49726b7540f9bce190da557198555af428", func := "loop.example/pixelworks/laws.FnScaleArea", spec := "fnScaleArea", unfollowed := true, recurses := true, apart := false, narrowed := true }
def FnScaleAreaUptoSaid : Prop := fnScaleAreaUptoRow.holds Try.pinned (OpenSpec.upto fnScaleAreaSpec)

/-- 'laws.FnScaleAreaTwice', WHERE WHAT IT READS IS OF BULK AT MOST 1048576: true; the input reads as it did. -/
def fnScaleAreaTwiceUptoRow : OpenClaim := { program := "ytmkfgcmabmocfaa", sum := "5f54d7fe52a9cb26d3c9e859d19c8c49726b7540f9bce190da557198555af428", func := "loop.example/pixelworks/laws.FnScaleAreaTwice", spec := "fnScaleAreaTwice", unfollowed := true, recurses := true, apart := false, narrowed := true }
def FnScaleAreaTwiceUptoSaid : Prop := fnScaleAreaTwiceUptoRow.holds Try.pinned (OpenSpec.upto fnScaleAreaTwiceSpec)

/-- 'laws.FnExactHalveImage', WHERE WHAT IT READS IS OF BULK AT MOST 1048576: true; the input reads as it did. -/
def fnExactHalveImageUptoRow : OpenClaim := { program := "ytmkfgcmabmocfaa", sum := "5f54d7fe52a9cb26d3c9e859d19c8c49726b7540f9bce190da557198555af428", func := "loop.example/pixelworks/laws.FnExactHalveImage", spec := "fnExactHalveImage", unfollowed := true, recurses := true, apart := false, narrowed := true }
def FnExactHalveImageUptoSaid : Prop := fnExactHalveImageUptoRow.holds Try.pinned (OpenSpec.upto fnExactHalveImageSpec)

/-- 'laws.FnHalveImage', WHERE WHAT IT READS IS OF BULK AT MOST 1048576: true; the input reads as it did. -/
def fnHalveImageUptoRow : OpenClaim := { program := "ytmkfgcmabmocfaa", sum := "5f54d7fe52a9cb26d3c9e859d19c8c49726b7540f9bce190da557198555af428", func := "loop.example/pixelworks/laws.FnHalveImage", spec := "fnHalveImage", unfollowed := true, recurses := true, apart := false, narrowed := true }
def FnHalveImageUptoSaid : Prop := fnHalveImageUptoRow.holds Try.pinned (OpenSpec.upto fnHalveImageSpec)

end Rows
end Go.Proofs.Ytmkfgcmabmocfaa
