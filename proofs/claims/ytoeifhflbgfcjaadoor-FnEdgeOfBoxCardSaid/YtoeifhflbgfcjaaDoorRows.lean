/-
  NARROWER THAN 'FOR EVERY INPUT', by the rows' own cells (each row's printed sentence says how): FnEdgeOf: laid · FnGrowRegion: laid · FnGrowRegionUnion: laid · FnShrinkRegion: laid · FnShrinkRegionSteps: laid · FnOpenRegion: laid · FnEdgeOfBox: laid · FnExactEdgeOf: laid · FnExactGrowRegion: laid · FnExactShrinkRegion: laid · FnExactOpenRegion: laid.
  DERIVED. THE GIVEN ROWS OF THIS SEAT. 11 by the template 'for every input the law returns true; each argument reads behind the call as it read before'; 0 by the template 'total and deterministic' (their statements: YtoeifhflbgfcjaaDoorTotals.lean).
  GIVEN WITH THE SEED: the statements are not yours to turn. If you find one false, say at which input.
  Laid BY PROGRAM, IN A SANDBOX (cutbox-rows.mjs): the forced cells as the released guide's own fill.sh prints them over the translation 978d52b1a475de93… (all of the seat's roots in one cut). By AI agents, Wed Nov 11 2026. No macro, syntax, notation, axiom, sorry.
-/
import Derived.Test.YtoeifhflbgfcjaaDoorChecked
import GoSem.Claim
import GoSem.ClaimJoined
import GoSem.ClaimMapViews
import Derived.JoinedTies
import Derived.KernelRfl
namespace Go.Proofs.YtoeifhflbgfcjaaDoor
/- THE CELL 'sum', in the pinned program and in every row, IS THE sha256 OF THE DUMP (.gsa) THAT YtoeifhflbgfcjaaDoorProg.lean LOADS. Nothing in Lean hashes anything: it is a label: what it is worth is what the hold of that sum in a sandbox is worth. -/
noncomputable def Tryd.pinned : Pinned := { name := "ytoeifhflbgfcjaadoor", sum := "978d52b1a475de9327e4fa5a0767cb8068d0076ffe75d66b9828a2e4b79a46a8", checked := Tryd.checked }
namespace Rows
def none {H : Type} : Left H := { results := [], args := [] }

/- WHAT THE LISTED PACKAGE-LEVEL VARIABLES READ AS WHEN THE CALL BEGINS. Each datum BY PROGRAM (the guide's laid-datum.mjs) off the statement by which the dump's own 'gosem.cut.vars' lays the variable. In a bare row this is a premise. The card (YtoeifhflbgfcjaaDoorCards.lean) ties it to the program's text. -/
def laid_math_bits_deBruijn32tab {H : Type} : DataW H := .agg [.lit (.int .u8 0), .lit (.int .u8 1), .lit (.int .u8 28), .lit (.int .u8 2), .lit (.int .u8 29), .lit (.int .u8 14), .lit (.int .u8 24), .lit (.int .u8 3), .lit (.int .u8 30), .lit (.int .u8 22), .lit (.int .u8 20), .lit (.int .u8 15), .lit (.int .u8 25), .lit (.int .u8 17), .lit (.int .u8 4), .lit (.int .u8 8), .lit (.int .u8 31), .lit (.int .u8 27), .lit (.int .u8 13), .lit (.int .u8 23), .lit (.int .u8 21), .lit (.int .u8 19), .lit (.int .u8 16), .lit (.int .u8 7), .lit (.int .u8 26), .lit (.int .u8 12), .lit (.int .u8 18), .lit (.int .u8 6), .lit (.int .u8 11), .lit (.int .u8 5), .lit (.int .u8 10), .lit (.int .u8 9)]

/-- 'laws.FnEdgeOf': WHATEVER THE INPUT: true; the input reads as it did. -/
def fnEdgeOfSpec : ChangeSpec := { name := "fnEdgeOf", fn := fun _ => fun
  | [d] => { results := [.lit (.bool true)], args := [d] }
  | _ => none }
def fnEdgeOfRow : OpenClaim := { program := "ytoeifhflbgfcjaadoor", sum := "978d52b1a475de9327e4fa5a0767cb8068d0076ffe75d66b9828a2e4b79a46a8", func := "loop.example/pixelworks/laws.FnEdgeOf", spec := "fnEdgeOf", unfollowed := true, recurses := true, named := ["math/bits.deBruijn32tab"], apart := false, laid := [("math/bits.deBruijn32tab", laid_math_bits_deBruijn32tab)] }
def FnEdgeOfSaid : Prop := fnEdgeOfRow.holds Tryd.pinned (OpenSpec.ofChange fnEdgeOfSpec)

/-- ITS FALSE NEIGHBOUR: 'it returns false'. Refute it at one input. -/
def fnEdgeOfWrong : ChangeSpec := { name := "fnEdgeOf", fn := fun _ => fun
  | [d] => { results := [.lit (.bool false)], args := [d] }
  | _ => none }
def FnEdgeOfWrongFalsely : Prop := fnEdgeOfRow.holds Tryd.pinned (OpenSpec.ofChange fnEdgeOfWrong)

/-- 'laws.FnGrowRegion': WHATEVER THE INPUT: true; the input reads as it did. -/
def fnGrowRegionSpec : ChangeSpec := { name := "fnGrowRegion", fn := fun _ => fun
  | [d] => { results := [.lit (.bool true)], args := [d] }
  | _ => none }
def fnGrowRegionRow : OpenClaim := { program := "ytoeifhflbgfcjaadoor", sum := "978d52b1a475de9327e4fa5a0767cb8068d0076ffe75d66b9828a2e4b79a46a8", func := "loop.example/pixelworks/laws.FnGrowRegion", spec := "fnGrowRegion", unfollowed := true, recurses := true, named := ["math/bits.deBruijn32tab"], apart := false, laid := [("math/bits.deBruijn32tab", laid_math_bits_deBruijn32tab)] }
def FnGrowRegionSaid : Prop := fnGrowRegionRow.holds Tryd.pinned (OpenSpec.ofChange fnGrowRegionSpec)

/-- ITS FALSE NEIGHBOUR: 'it returns false'. Refute it at one input. -/
def fnGrowRegionWrong : ChangeSpec := { name := "fnGrowRegion", fn := fun _ => fun
  | [d] => { results := [.lit (.bool false)], args := [d] }
  | _ => none }
def FnGrowRegionWrongFalsely : Prop := fnGrowRegionRow.holds Tryd.pinned (OpenSpec.ofChange fnGrowRegionWrong)

/-- 'laws.FnGrowRegionUnion': WHATEVER THE INPUT: true; the input reads as it did. -/
def fnGrowRegionUnionSpec : ChangeSpec := { name := "fnGrowRegionUnion", fn := fun _ => fun
  | [d] => { results := [.lit (.bool true)], args := [d] }
  | _ => none }
def fnGrowRegionUnionRow : OpenClaim := { program := "ytoeifhflbgfcjaadoor", sum := "978d52b1a475de9327e4fa5a0767cb8068d0076ffe75d66b9828a2e4b79a46a8", func := "loop.example/pixelworks/laws.FnGrowRegionUnion", spec := "fnGrowRegionUnion", unfollowed := true, recurses := true, named := ["math/bits.deBruijn32tab"], apart := false, laid := [("math/bits.deBruijn32tab", laid_math_bits_deBruijn32tab)] }
def FnGrowRegionUnionSaid : Prop := fnGrowRegionUnionRow.holds Tryd.pinned (OpenSpec.ofChange fnGrowRegionUnionSpec)

/-- ITS FALSE NEIGHBOUR: 'it returns false'. Refute it at one input. -/
def fnGrowRegionUnionWrong : ChangeSpec := { name := "fnGrowRegionUnion", fn := fun _ => fun
  | [d] => { results := [.lit (.bool false)], args := [d] }
  | _ => none }
def FnGrowRegionUnionWrongFalsely : Prop := fnGrowRegionUnionRow.holds Tryd.pinned (OpenSpec.ofChange fnGrowRegionUnionWrong)

/-- 'laws.FnShrinkRegion': WHATEVER THE INPUT: true; the input reads as it did. -/
def fnShrinkRegionSpec : ChangeSpec := { name := "fnShrinkRegion", fn := fun _ => fun
  | [d] => { results := [.lit (.bool true)], args := [d] }
  | _ => none }
def fnShrinkRegionRow : OpenClaim := { program := "ytoeifhflbgfcjaadoor", sum := "978d52b1a475de9327e4fa5a0767cb8068d0076ffe75d66b9828a2e4b79a46a8", func := "loop.example/pixelworks/laws.FnShrinkRegion", spec := "fnShrinkRegion", unfollowed := true, recurses := true, named := ["math/bits.deBruijn32tab"], apart := false, laid := [("math/bits.deBruijn32tab", laid_math_bits_deBruijn32tab)] }
def FnShrinkRegionSaid : Prop := fnShrinkRegionRow.holds Tryd.pinned (OpenSpec.ofChange fnShrinkRegionSpec)

/-- ITS FALSE NEIGHBOUR: 'it returns false'. Refute it at one input. -/
def fnShrinkRegionWrong : ChangeSpec := { name := "fnShrinkRegion", fn := fun _ => fun
  | [d] => { results := [.lit (.bool false)], args := [d] }
  | _ => none }
def FnShrinkRegionWrongFalsely : Prop := fnShrinkRegionRow.holds Tryd.pinned (OpenSpec.ofChange fnShrinkRegionWrong)

/-- 'laws.FnShrinkRegionSteps': WHATEVER THE INPUT: true; the input reads as it did. -/
def fnShrinkRegionStepsSpec : ChangeSpec := { name := "fnShrinkRegionSteps", fn := fun _ => fun
  | [d] => { results := [.lit (.bool true)], args := [d] }
  | _ => none }
def fnShrinkRegionStepsRow : OpenClaim := { program := "ytoeifhflbgfcjaadoor", sum := "978d52b1a475de9327e4fa5a0767cb8068d0076ffe75d66b9828a2e4b79a46a8", func := "loop.example/pixelworks/laws.FnShrinkRegionSteps", spec := "fnShrinkRegionSteps", unfollowed := true, recurses := true, named := ["math/bits.deBruijn32tab"], apart := false, laid := [("math/bits.deBruijn32tab", laid_math_bits_deBruijn32tab)] }
def FnShrinkRegionStepsSaid : Prop := fnShrinkRegionStepsRow.holds Tryd.pinned (OpenSpec.ofChange fnShrinkRegionStepsSpec)

/-- ITS FALSE NEIGHBOUR: 'it returns false'. Refute it at one input. -/
def fnShrinkRegionStepsWrong : ChangeSpec := { name := "fnShrinkRegionSteps", fn := fun _ => fun
  | [d] => { results := [.lit (.bool false)], args := [d] }
  | _ => none }
def FnShrinkRegionStepsWrongFalsely : Prop := fnShrinkRegionStepsRow.holds Tryd.pinned (OpenSpec.ofChange fnShrinkRegionStepsWrong)

/-- 'laws.FnOpenRegion': WHATEVER THE INPUT: true; the input reads as it did. -/
def fnOpenRegionSpec : ChangeSpec := { name := "fnOpenRegion", fn := fun _ => fun
  | [d] => { results := [.lit (.bool true)], args := [d] }
  | _ => none }
def fnOpenRegionRow : OpenClaim := { program := "ytoeifhflbgfcjaadoor", sum := "978d52b1a475de9327e4fa5a0767cb8068d0076ffe75d66b9828a2e4b79a46a8", func := "loop.example/pixelworks/laws.FnOpenRegion", spec := "fnOpenRegion", unfollowed := true, recurses := true, named := ["math/bits.deBruijn32tab"], apart := false, laid := [("math/bits.deBruijn32tab", laid_math_bits_deBruijn32tab)] }
def FnOpenRegionSaid : Prop := fnOpenRegionRow.holds Tryd.pinned (OpenSpec.ofChange fnOpenRegionSpec)

/-- ITS FALSE NEIGHBOUR: 'it returns false'. Refute it at one input. -/
def fnOpenRegionWrong : ChangeSpec := { name := "fnOpenRegion", fn := fun _ => fun
  | [d] => { results := [.lit (.bool false)], args := [d] }
  | _ => none }
def FnOpenRegionWrongFalsely : Prop := fnOpenRegionRow.holds Tryd.pinned (OpenSpec.ofChange fnOpenRegionWrong)

/-- 'laws.FnEdgeOfBox': WHATEVER THE INPUT: true; the input reads as it did. -/
def fnEdgeOfBoxSpec : ChangeSpec := { name := "fnEdgeOfBox", fn := fun _ => fun
  | [d] => { results := [.lit (.bool true)], args := [d] }
  | _ => none }
def fnEdgeOfBoxRow : OpenClaim := { program := "ytoeifhflbgfcjaadoor", sum := "978d52b1a475de9327e4fa5a0767cb8068d0076ffe75d66b9828a2e4b79a46a8", func := "loop.example/pixelworks/laws.FnEdgeOfBox", spec := "fnEdgeOfBox", unfollowed := true, recurses := true, named := ["math/bits.deBruijn32tab"], apart := false, laid := [("math/bits.deBruijn32tab", laid_math_bits_deBruijn32tab)] }
def FnEdgeOfBoxSaid : Prop := fnEdgeOfBoxRow.holds Tryd.pinned (OpenSpec.ofChange fnEdgeOfBoxSpec)

/-- ITS FALSE NEIGHBOUR: 'it returns false'. Refute it at one input. -/
def fnEdgeOfBoxWrong : ChangeSpec := { name := "fnEdgeOfBox", fn := fun _ => fun
  | [d] => { results := [.lit (.bool false)], args := [d] }
  | _ => none }
def FnEdgeOfBoxWrongFalsely : Prop := fnEdgeOfBoxRow.holds Tryd.pinned (OpenSpec.ofChange fnEdgeOfBoxWrong)

/-- 'laws.FnExactEdgeOf': WHATEVER THE INPUT: true; the input reads as it did. -/
def fnExactEdgeOfSpec : ChangeSpec := { name := "fnExactEdgeOf", fn := fun _ => fun
  | [d] => { results := [.lit (.bool true)], args := [d] }
  | _ => none }
def fnExactEdgeOfRow : OpenClaim := { program := "ytoeifhflbgfcjaadoor", sum := "978d52b1a475de9327e4fa5a0767cb8068d0076ffe75d66b9828a2e4b79a46a8", func := "loop.example/pixelworks/laws.FnExactEdgeOf", spec := "fnExactEdgeOf", unfollowed := true, recurses := true, named := ["math/bits.deBruijn32tab"], apart := false, laid := [("math/bits.deBruijn32tab", laid_math_bits_deBruijn32tab)] }
def FnExactEdgeOfSaid : Prop := fnExactEdgeOfRow.holds Tryd.pinned (OpenSpec.ofChange fnExactEdgeOfSpec)

/-- ITS FALSE NEIGHBOUR: 'it returns false'. Refute it at one input. -/
def fnExactEdgeOfWrong : ChangeSpec := { name := "fnExactEdgeOf", fn := fun _ => fun
  | [d] => { results := [.lit (.bool false)], args := [d] }
  | _ => none }
def FnExactEdgeOfWrongFalsely : Prop := fnExactEdgeOfRow.holds Tryd.pinned (OpenSpec.ofChange fnExactEdgeOfWrong)

/-- 'laws.FnExactGrowRegion': WHATEVER THE INPUT: true; the input reads as it did. -/
def fnExactGrowRegionSpec : ChangeSpec := { name := "fnExactGrowRegion", fn := fun _ => fun
  | [d1, d2] => { results := [.lit (.bool true)], args := [d1, d2] }
  | _ => none }
def fnExactGrowRegionRow : OpenClaim := { program := "ytoeifhflbgfcjaadoor", sum := "978d52b1a475de9327e4fa5a0767cb8068d0076ffe75d66b9828a2e4b79a46a8", func := "loop.example/pixelworks/laws.FnExactGrowRegion", spec := "fnExactGrowRegion", unfollowed := true, recurses := true, named := ["math/bits.deBruijn32tab"], apart := false, laid := [("math/bits.deBruijn32tab", laid_math_bits_deBruijn32tab)] }
def FnExactGrowRegionSaid : Prop := fnExactGrowRegionRow.holds Tryd.pinned (OpenSpec.ofChange fnExactGrowRegionSpec)

/-- ITS FALSE NEIGHBOUR: 'it returns false'. Refute it at one input. -/
def fnExactGrowRegionWrong : ChangeSpec := { name := "fnExactGrowRegion", fn := fun _ => fun
  | [d1, d2] => { results := [.lit (.bool false)], args := [d1, d2] }
  | _ => none }
def FnExactGrowRegionWrongFalsely : Prop := fnExactGrowRegionRow.holds Tryd.pinned (OpenSpec.ofChange fnExactGrowRegionWrong)

/-- 'laws.FnExactShrinkRegion': WHATEVER THE INPUT: true; the input reads as it did. -/
def fnExactShrinkRegionSpec : ChangeSpec := { name := "fnExactShrinkRegion", fn := fun _ => fun
  | [d1, d2] => { results := [.lit (.bool true)], args := [d1, d2] }
  | _ => none }
def fnExactShrinkRegionRow : OpenClaim := { program := "ytoeifhflbgfcjaadoor", sum := "978d52b1a475de9327e4fa5a0767cb8068d0076ffe75d66b9828a2e4b79a46a8", func := "loop.example/pixelworks/laws.FnExactShrinkRegion", spec := "fnExactShrinkRegion", unfollowed := true, recurses := true, named := ["math/bits.deBruijn32tab"], apart := false, laid := [("math/bits.deBruijn32tab", laid_math_bits_deBruijn32tab)] }
def FnExactShrinkRegionSaid : Prop := fnExactShrinkRegionRow.holds Tryd.pinned (OpenSpec.ofChange fnExactShrinkRegionSpec)

/-- ITS FALSE NEIGHBOUR: 'it returns false'. Refute it at one input. -/
def fnExactShrinkRegionWrong : ChangeSpec := { name := "fnExactShrinkRegion", fn := fun _ => fun
  | [d1, d2] => { results := [.lit (.bool false)], args := [d1, d2] }
  | _ => none }
def FnExactShrinkRegionWrongFalsely : Prop := fnExactShrinkRegionRow.holds Tryd.pinned (OpenSpec.ofChange fnExactShrinkRegionWrong)

/-- 'laws.FnExactOpenRegion': WHATEVER THE INPUT: true; the input reads as it did. -/
def fnExactOpenRegionSpec : ChangeSpec := { name := "fnExactOpenRegion", fn := fun _ => fun
  | [d1, d2] => { results := [.lit (.bool true)], args := [d1, d2] }
  | _ => none }
def fnExactOpenRegionRow : OpenClaim := { program := "ytoeifhflbgfcjaadoor", sum := "978d52b1a475de9327e4fa5a0767cb8068d0076ffe75d66b9828a2e4b79a46a8", func := "loop.example/pixelworks/laws.FnExactOpenRegion", spec := "fnExactOpenRegion", unfollowed := true, recurses := true, named := ["math/bits.deBruijn32tab"], apart := false, laid := [("math/bits.deBruijn32tab", laid_math_bits_deBruijn32tab)] }
def FnExactOpenRegionSaid : Prop := fnExactOpenRegionRow.holds Tryd.pinned (OpenSpec.ofChange fnExactOpenRegionSpec)

/-- ITS FALSE NEIGHBOUR: 'it returns false'. Refute it at one input. -/
def fnExactOpenRegionWrong : ChangeSpec := { name := "fnExactOpenRegion", fn := fun _ => fun
  | [d1, d2] => { results := [.lit (.bool false)], args := [d1, d2] }
  | _ => none }
def FnExactOpenRegionWrongFalsely : Prop := fnExactOpenRegionRow.holds Tryd.pinned (OpenSpec.ofChange fnExactOpenRegionWrong)

/- THE SECOND FORM. 'bulk': how many values and letters a reading holds, each counted each time it is reached (what is shared counts as often as it is met; a slice's spare places count too). A statement '..UptoSaid' is the law's where the arguments, and the package variables that the reading takes, are together of bulk at most 1048576: NARROWER than '..Said'. Prove '..Said' where nothing that the law and all that it calls make is longer than what came in: it says more and counts as full. Else prove '..UptoSaid'. A law counts once. -/
mutual
def uptoBulk {H : Type} : DataW H → Nat
  | .lit (.string bytes) => bytes.length + 1
  | .lit _ => 1
  | .nil => 1
  | .ptr d => uptoBulk d + 1
  | .slice elems spare => uptoBulkAll elems + uptoBulkAll spare + 1
  | .agg parts => uptoBulkAll parts + 1
  | .iface _ d => uptoBulk d + 1
  | .map entries => uptoBulkEntries entries + 1
  | .held _ => 1
def uptoBulkAll {H : Type} : List (DataW H) → Nat
  | [] => 0
  | d :: r => uptoBulk d + uptoBulkAll r
def uptoBulkEntries {H : Type} : List (Lit × DataW H) → Nat
  | [] => 0
  | x :: r => uptoBulkEntry x + uptoBulkEntries r
def uptoBulkEntry {H : Type} : Lit × DataW H → Nat
  | (.string bytes, d) => bytes.length + uptoBulk d + 1
  | (_, d) => uptoBulk d + 1
 end
def uptoSmall : (H : Type) → List (DataW H) → Bool := fun _ ds => decide (uptoBulkAll ds ≤ 1048576)
def OpenSpec.upto (s : _root_.Go.ChangeSpec) : _root_.Go.OpenSpec := { _root_.Go.OpenSpec.ofChange s with cond := some uptoSmall }

/-- 'laws.FnEdgeOf', WHERE WHAT IT READS IS OF BULK AT MOST 1048576: true; the input reads as it did. -/
def fnEdgeOfUptoRow : OpenClaim := { program := "ytoeifhflbgfcjaadoor", sum := "978d52b1a475de9327e4fa5a0767cb8068d0076ffe75d66b9828a2e4b79a46a8", func := "loop.example/pixelworks/laws.FnEdgeOf", spec := "fnEdgeOf", unfollowed := true, recurses := true, named := ["math/bits.deBruijn32tab"], apart := false, laid := [("math/bits.deBruijn32tab", laid_math_bits_deBruijn32tab)], narrowed := true }
def FnEdgeOfUptoSaid : Prop := fnEdgeOfUptoRow.holds Tryd.pinned (OpenSpec.upto fnEdgeOfSpec)

/-- 'laws.FnGrowRegion', WHERE WHAT IT READS IS OF BULK AT MOST 1048576: true; the input reads as it did. -/
def fnGrowRegionUptoRow : OpenClaim := { program := "ytoeifhflbgfcjaadoor", sum := "978d52b1a475de9327e4fa5a0767cb8068d0076ffe75d66b9828a2e4b79a46a8", func := "loop.example/pixelworks/laws.FnGrowRegion", spec := "fnGrowRegion", unfollowed := true, recurses := true, named := ["math/bits.deBruijn32tab"], apart := false, laid := [("math/bits.deBruijn32tab", laid_math_bits_deBruijn32tab)], narrowed := true }
def FnGrowRegionUptoSaid : Prop := fnGrowRegionUptoRow.holds Tryd.pinned (OpenSpec.upto fnGrowRegionSpec)

/-- 'laws.FnGrowRegionUnion', WHERE WHAT IT READS IS OF BULK AT MOST 1048576: true; the input reads as it did. -/
def fnGrowRegionUnionUptoRow : OpenClaim := { program := "ytoeifhflbgfcjaadoor", sum := "978d52b1a475de9327e4fa5a0767cb8068d0076ffe75d66b9828a2e4b79a46a8", func := "loop.example/pixelworks/laws.FnGrowRegionUnion", spec := "fnGrowRegionUnion", unfollowed := true, recurses := true, named := ["math/bits.deBruijn32tab"], apart := false, laid := [("math/bits.deBruijn32tab", laid_math_bits_deBruijn32tab)], narrowed := true }
def FnGrowRegionUnionUptoSaid : Prop := fnGrowRegionUnionUptoRow.holds Tryd.pinned (OpenSpec.upto fnGrowRegionUnionSpec)

/-- 'laws.FnShrinkRegion', WHERE WHAT IT READS IS OF BULK AT MOST 1048576: true; the input reads as it did. -/
def fnShrinkRegionUptoRow : OpenClaim := { program := "ytoeifhflbgfcjaadoor", sum := "978d52b1a475de9327e4fa5a0767cb8068d0076ffe75d66b9828a2e4b79a46a8", func := "loop.example/pixelworks/laws.FnShrinkRegion", spec := "fnShrinkRegion", unfollowed := true, recurses := true, named := ["math/bits.deBruijn32tab"], apart := false, laid := [("math/bits.deBruijn32tab", laid_math_bits_deBruijn32tab)], narrowed := true }
def FnShrinkRegionUptoSaid : Prop := fnShrinkRegionUptoRow.holds Tryd.pinned (OpenSpec.upto fnShrinkRegionSpec)

/-- 'laws.FnShrinkRegionSteps', WHERE WHAT IT READS IS OF BULK AT MOST 1048576: true; the input reads as it did. -/
def fnShrinkRegionStepsUptoRow : OpenClaim := { program := "ytoeifhflbgfcjaadoor", sum := "978d52b1a475de9327e4fa5a0767cb8068d0076ffe75d66b9828a2e4b79a46a8", func := "loop.example/pixelworks/laws.FnShrinkRegionSteps", spec := "fnShrinkRegionSteps", unfollowed := true, recurses := true, named := ["math/bits.deBruijn32tab"], apart := false, laid := [("math/bits.deBruijn32tab", laid_math_bits_deBruijn32tab)], narrowed := true }
def FnShrinkRegionStepsUptoSaid : Prop := fnShrinkRegionStepsUptoRow.holds Tryd.pinned (OpenSpec.upto fnShrinkRegionStepsSpec)

/-- 'laws.FnOpenRegion', WHERE WHAT IT READS IS OF BULK AT MOST 1048576: true; the input reads as it did. -/
def fnOpenRegionUptoRow : OpenClaim := { program := "ytoeifhflbgfcjaadoor", sum := "978d52b1a475de9327e4fa5a0767cb8068d0076ffe75d66b9828a2e4b79a46a8", func := "loop.example/pixelworks/laws.FnOpenRegion", spec := "fnOpenRegion", unfollowed := true, recurses := true, named := ["math/bits.deBruijn32tab"], apart := false, laid := [("math/bits.deBruijn32tab", laid_math_bits_deBruijn32tab)], narrowed := true }
def FnOpenRegionUptoSaid : Prop := fnOpenRegionUptoRow.holds Tryd.pinned (OpenSpec.upto fnOpenRegionSpec)

/-- 'laws.FnEdgeOfBox', WHERE WHAT IT READS IS OF BULK AT MOST 1048576: true; the input reads as it did. -/
def fnEdgeOfBoxUptoRow : OpenClaim := { program := "ytoeifhflbgfcjaadoor", sum := "978d52b1a475de9327e4fa5a0767cb8068d0076ffe75d66b9828a2e4b79a46a8", func := "loop.example/pixelworks/laws.FnEdgeOfBox", spec := "fnEdgeOfBox", unfollowed := true, recurses := true, named := ["math/bits.deBruijn32tab"], apart := false, laid := [("math/bits.deBruijn32tab", laid_math_bits_deBruijn32tab)], narrowed := true }
def FnEdgeOfBoxUptoSaid : Prop := fnEdgeOfBoxUptoRow.holds Tryd.pinned (OpenSpec.upto fnEdgeOfBoxSpec)

/-- 'laws.FnExactEdgeOf', WHERE WHAT IT READS IS OF BULK AT MOST 1048576: true; the input reads as it did. -/
def fnExactEdgeOfUptoRow : OpenClaim := { program := "ytoeifhflbgfcjaadoor", sum := "978d52b1a475de9327e4fa5a0767cb8068d0076ffe75d66b9828a2e4b79a46a8", func := "loop.example/pixelworks/laws.FnExactEdgeOf", spec := "fnExactEdgeOf", unfollowed := true, recurses := true, named := ["math/bits.deBruijn32tab"], apart := false, laid := [("math/bits.deBruijn32tab", laid_math_bits_deBruijn32tab)], narrowed := true }
def FnExactEdgeOfUptoSaid : Prop := fnExactEdgeOfUptoRow.holds Tryd.pinned (OpenSpec.upto fnExactEdgeOfSpec)

/-- 'laws.FnExactGrowRegion', WHERE WHAT IT READS IS OF BULK AT MOST 1048576: true; the input reads as it did. -/
def fnExactGrowRegionUptoRow : OpenClaim := { program := "ytoeifhflbgfcjaadoor", sum := "978d52b1a475de9327e4fa5a0767cb8068d0076ffe75d66b9828a2e4b79a46a8", func := "loop.example/pixelworks/laws.FnExactGrowRegion", spec := "fnExactGrowRegion", unfollowed := true, recurses := true, named := ["math/bits.deBruijn32tab"], apart := false, laid := [("math/bits.deBruijn32tab", laid_math_bits_deBruijn32tab)], narrowed := true }
def FnExactGrowRegionUptoSaid : Prop := fnExactGrowRegionUptoRow.holds Tryd.pinned (OpenSpec.upto fnExactGrowRegionSpec)

/-- 'laws.FnExactShrinkRegion', WHERE WHAT IT READS IS OF BULK AT MOST 1048576: true; the input reads as it did. -/
def fnExactShrinkRegionUptoRow : OpenClaim := { program := "ytoeifhflbgfcjaadoor", sum := "978d52b1a475de9327e4fa5a0767cb8068d0076ffe75d66b9828a2e4b79a46a8", func := "loop.example/pixelworks/laws.FnExactShrinkRegion", spec := "fnExactShrinkRegion", unfollowed := true, recurses := true, named := ["math/bits.deBruijn32tab"], apart := false, laid := [("math/bits.deBruijn32tab", laid_math_bits_deBruijn32tab)], narrowed := true }
def FnExactShrinkRegionUptoSaid : Prop := fnExactShrinkRegionUptoRow.holds Tryd.pinned (OpenSpec.upto fnExactShrinkRegionSpec)

/-- 'laws.FnExactOpenRegion', WHERE WHAT IT READS IS OF BULK AT MOST 1048576: true; the input reads as it did. -/
def fnExactOpenRegionUptoRow : OpenClaim := { program := "ytoeifhflbgfcjaadoor", sum := "978d52b1a475de9327e4fa5a0767cb8068d0076ffe75d66b9828a2e4b79a46a8", func := "loop.example/pixelworks/laws.FnExactOpenRegion", spec := "fnExactOpenRegion", unfollowed := true, recurses := true, named := ["math/bits.deBruijn32tab"], apart := false, laid := [("math/bits.deBruijn32tab", laid_math_bits_deBruijn32tab)], narrowed := true }
def FnExactOpenRegionUptoSaid : Prop := fnExactOpenRegionUptoRow.holds Tryd.pinned (OpenSpec.upto fnExactOpenRegionSpec)

end Rows
end Go.Proofs.YtoeifhflbgfcjaaDoor
