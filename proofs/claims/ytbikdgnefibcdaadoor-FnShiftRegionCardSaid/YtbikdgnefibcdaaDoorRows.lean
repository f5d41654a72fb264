/-
  NARROWER THAN 'FOR EVERY INPUT', by the rows' own cells (each row's printed sentence says how): FnPassSize: laid · FnShiftRegion: laid · FnCombineRegionsThree: laid · FnExactEdgeOf: laid · FnExactGrowRegion: laid · FnExactShrinkRegion: laid · FnExactOpenRegion: laid · FnExactShiftRegion: laid · FnExactPassSize: laid.
  DERIVED. THE GIVEN ROWS OF THIS SEAT. 9 by the template 'for every input the law returns true; each argument reads behind the call as it read before'; 0 by the template 'total and deterministic' (their statements: YtbikdgnefibcdaaDoorTotals.lean).
  GIVEN WITH THE SEED: the statements are not yours to turn. If you find one false, say at which input.
  Laid BY PROGRAM, IN A SANDBOX (cutbox-rows.mjs): the forced cells as the released guide's own fill.sh prints them over the translation 2b3ceb4574235cfa… (all of the seat's roots in one cut). By AI agents, Wed Nov 11 2026. No macro, syntax, notation, axiom, sorry.
-/
import Derived.Test.YtbikdgnefibcdaaDoorChecked
import GoSem.Claim
import GoSem.ClaimJoined
import GoSem.ClaimMapViews
import Derived.JoinedTies
import Derived.KernelRfl
namespace Go.Proofs.YtbikdgnefibcdaaDoor
/- THE CELL 'sum', in the pinned program and in every row, IS THE sha256 OF THE DUMP (.gsa) THAT YtbikdgnefibcdaaDoorProg.lean LOADS. Nothing in Lean hashes anything: it is a label: what it is worth is what the hold of that sum in a sandbox is worth. -/
noncomputable def Tryd.pinned : Pinned := { name := "ytbikdgnefibcdaadoor", sum := "2b3ceb4574235cfa9ea6e67070b1c2248d18bc1f776a79b326ca27dd41d566d3", checked := Tryd.checked }
namespace Rows
def none {H : Type} : Left H := { results := [], args := [] }

/- WHAT THE LISTED PACKAGE-LEVEL VARIABLES READ AS WHEN THE CALL BEGINS. Each datum BY PROGRAM (the guide's laid-datum.mjs) off the statement by which the dump's own 'gosem.cut.vars' lays the variable. In a bare row this is a premise. The card (YtbikdgnefibcdaaDoorCards.lean) ties it to the program's text. -/
def laid_loop_example_pixelworks_impl_patterns {H : Type} : DataW H := .agg [.agg [.agg [.lit (.int .i64 0), .lit (.int .i64 8)], .agg [.lit (.int .i64 0), .lit (.int .i64 8)]], .agg [.agg [.lit (.int .i64 4), .lit (.int .i64 8)], .agg [.lit (.int .i64 0), .lit (.int .i64 8)]], .agg [.agg [.lit (.int .i64 0), .lit (.int .i64 4)], .agg [.lit (.int .i64 4), .lit (.int .i64 8)]], .agg [.agg [.lit (.int .i64 2), .lit (.int .i64 4)], .agg [.lit (.int .i64 0), .lit (.int .i64 4)]], .agg [.agg [.lit (.int .i64 0), .lit (.int .i64 2)], .agg [.lit (.int .i64 2), .lit (.int .i64 4)]], .agg [.agg [.lit (.int .i64 1), .lit (.int .i64 2)], .agg [.lit (.int .i64 0), .lit (.int .i64 2)]], .agg [.agg [.lit (.int .i64 0), .lit (.int .i64 1)], .agg [.lit (.int .i64 1), .lit (.int .i64 2)]]]
def laid_math_bits_deBruijn32tab {H : Type} : DataW H := .agg [.lit (.int .u8 0), .lit (.int .u8 1), .lit (.int .u8 28), .lit (.int .u8 2), .lit (.int .u8 29), .lit (.int .u8 14), .lit (.int .u8 24), .lit (.int .u8 3), .lit (.int .u8 30), .lit (.int .u8 22), .lit (.int .u8 20), .lit (.int .u8 15), .lit (.int .u8 25), .lit (.int .u8 17), .lit (.int .u8 4), .lit (.int .u8 8), .lit (.int .u8 31), .lit (.int .u8 27), .lit (.int .u8 13), .lit (.int .u8 23), .lit (.int .u8 21), .lit (.int .u8 19), .lit (.int .u8 16), .lit (.int .u8 7), .lit (.int .u8 26), .lit (.int .u8 12), .lit (.int .u8 18), .lit (.int .u8 6), .lit (.int .u8 11), .lit (.int .u8 5), .lit (.int .u8 10), .lit (.int .u8 9)]

/-- 'laws.FnPassSize': WHATEVER THE INPUT: true; the input reads as it did. -/
def fnPassSizeSpec : ChangeSpec := { name := "fnPassSize", vars := ["loop.example/pixelworks/impl.patterns"], fn := fun _ => fun
  | [d, g1] => { results := [.lit (.bool true)], args := [d], vars := [g1] }
  | _ => none }
def fnPassSizeRow : OpenClaim := { program := "ytbikdgnefibcdaadoor", sum := "2b3ceb4574235cfa9ea6e67070b1c2248d18bc1f776a79b326ca27dd41d566d3", func := "loop.example/pixelworks/laws.FnPassSize", spec := "fnPassSize", named := ["loop.example/pixelworks/impl.patterns"], apart := false, laid := [("loop.example/pixelworks/impl.patterns", laid_loop_example_pixelworks_impl_patterns)] }
def FnPassSizeSaid : Prop := fnPassSizeRow.holds Tryd.pinned (OpenSpec.ofChange fnPassSizeSpec)

/-- ITS FALSE NEIGHBOUR: 'it returns false'. Refute it at one input. -/
def fnPassSizeWrong : ChangeSpec := { name := "fnPassSize", vars := ["loop.example/pixelworks/impl.patterns"], fn := fun _ => fun
  | [d, g1] => { results := [.lit (.bool false)], args := [d], vars := [g1] }
  | _ => none }
def FnPassSizeWrongFalsely : Prop := fnPassSizeRow.holds Tryd.pinned (OpenSpec.ofChange fnPassSizeWrong)

/-- 'laws.FnShiftRegion': WHATEVER THE INPUT: true; the input reads as it did. -/
def fnShiftRegionSpec : ChangeSpec := { name := "fnShiftRegion", fn := fun _ => fun
  | [d] => { results := [.lit (.bool true)], args := [d] }
  | _ => none }
def fnShiftRegionRow : OpenClaim := { program := "ytbikdgnefibcdaadoor", sum := "2b3ceb4574235cfa9ea6e67070b1c2248d18bc1f776a79b326ca27dd41d566d3", func := "loop.example/pixelworks/laws.FnShiftRegion", spec := "fnShiftRegion", unfollowed := true, recurses := true, named := ["math/bits.deBruijn32tab"], apart := false, laid := [("math/bits.deBruijn32tab", laid_math_bits_deBruijn32tab)] }
def FnShiftRegionSaid : Prop := fnShiftRegionRow.holds Tryd.pinned (OpenSpec.ofChange fnShiftRegionSpec)

/-- ITS FALSE NEIGHBOUR: 'it returns false'. Refute it at one input. -/
def fnShiftRegionWrong : ChangeSpec := { name := "fnShiftRegion", fn := fun _ => fun
  | [d] => { results := [.lit (.bool false)], args := [d] }
  | _ => none }
def FnShiftRegionWrongFalsely : Prop := fnShiftRegionRow.holds Tryd.pinned (OpenSpec.ofChange fnShiftRegionWrong)

/-- 'laws.FnCombineRegionsThree': WHATEVER THE INPUT: true; the input reads as it did. -/
def fnCombineRegionsThreeSpec : ChangeSpec := { name := "fnCombineRegionsThree", fn := fun _ => fun
  | [d] => { results := [.lit (.bool true)], args := [d] }
  | _ => none }
def fnCombineRegionsThreeRow : OpenClaim := { program := "ytbikdgnefibcdaadoor", sum := "2b3ceb4574235cfa9ea6e67070b1c2248d18bc1f776a79b326ca27dd41d566d3", func := "loop.example/pixelworks/laws.FnCombineRegionsThree", spec := "fnCombineRegionsThree", unfollowed := true, recurses := true, named := ["math/bits.deBruijn32tab"], apart := false, laid := [("math/bits.deBruijn32tab", laid_math_bits_deBruijn32tab)] }
def FnCombineRegionsThreeSaid : Prop := fnCombineRegionsThreeRow.holds Tryd.pinned (OpenSpec.ofChange fnCombineRegionsThreeSpec)

/-- ITS FALSE NEIGHBOUR: 'it returns false'. Refute it at one input. -/
def fnCombineRegionsThreeWrong : ChangeSpec := { name := "fnCombineRegionsThree", fn := fun _ => fun
  | [d] => { results := [.lit (.bool false)], args := [d] }
  | _ => none }
def FnCombineRegionsThreeWrongFalsely : Prop := fnCombineRegionsThreeRow.holds Tryd.pinned (OpenSpec.ofChange fnCombineRegionsThreeWrong)

/-- 'laws.FnExactEdgeOf': WHATEVER THE INPUT: true; the input reads as it did. -/
def fnExactEdgeOfSpec : ChangeSpec := { name := "fnExactEdgeOf", fn := fun _ => fun
  | [d] => { results := [.lit (.bool true)], args := [d] }
  | _ => none }
def fnExactEdgeOfRow : OpenClaim := { program := "ytbikdgnefibcdaadoor", sum := "2b3ceb4574235cfa9ea6e67070b1c2248d18bc1f776a79b326ca27dd41d566d3", func := "loop.example/pixelworks/laws.FnExactEdgeOf", spec := "fnExactEdgeOf", unfollowed := true, recurses := true, named := ["math/bits.deBruijn32tab"], apart := false, laid := [("math/bits.deBruijn32tab", laid_math_bits_deBruijn32tab)] }
def FnExactEdgeOfSaid : Prop := fnExactEdgeOfRow.holds Tryd.pinned (OpenSpec.ofChange fnExactEdgeOfSpec)

/-- ITS FALSE NEIGHBOUR: 'it returns false'. Refute it at one input. -/
def fnExactEdgeOfWrong : ChangeSpec := { name := "fnExactEdgeOf", fn := fun _ => fun
  | [d] => { results := [.lit (.bool false)], args := [d] }
  | _ => none }
def FnExactEdgeOfWrongFalsely : Prop := fnExactEdgeOfRow.holds Tryd.pinned (OpenSpec.ofChange fnExactEdgeOfWrong)

/-- 'laws.FnExactGrowRegion': WHATEVER THE INPUT: true; the input reads as it did. -/
def fnExactGrowRegionSpec : ChangeSpec := { name := "fnExactGrowRegion", fn := fun _ => fun
  | [d1, d2] => { results := [.lit (.bool true)], args := [d1, d2] }
  | _ => none }
def fnExactGrowRegionRow : OpenClaim := { program := "ytbikdgnefibcdaadoor", sum := "2b3ceb4574235cfa9ea6e67070b1c2248d18bc1f776a79b326ca27dd41d566d3", func := "loop.example/pixelworks/laws.FnExactGrowRegion", spec := "fnExactGrowRegion", unfollowed := true, recurses := true, named := ["math/bits.deBruijn32tab"], apart := false, laid := [("math/bits.deBruijn32tab", laid_math_bits_deBruijn32tab)] }
def FnExactGrowRegionSaid : Prop := fnExactGrowRegionRow.holds Tryd.pinned (OpenSpec.ofChange fnExactGrowRegionSpec)

/-- ITS FALSE NEIGHBOUR: 'it returns false'. Refute it at one input. -/
def fnExactGrowRegionWrong : ChangeSpec := { name := "fnExactGrowRegion", fn := fun _ => fun
  | [d1, d2] => { results := [.lit (.bool false)], args := [d1, d2] }
  | _ => none }
def FnExactGrowRegionWrongFalsely : Prop := fnExactGrowRegionRow.holds Tryd.pinned (OpenSpec.ofChange fnExactGrowRegionWrong)

/-- 'laws.FnExactShrinkRegion': WHATEVER THE INPUT: true; the input reads as it did. -/
def fnExactShrinkRegionSpec : ChangeSpec := { name := "fnExactShrinkRegion", fn := fun _ => fun
  | [d1, d2] => { results := [.lit (.bool true)], args := [d1, d2] }
  | _ => none }
def fnExactShrinkRegionRow : OpenClaim := { program := "ytbikdgnefibcdaadoor", sum := "2b3ceb4574235cfa9ea6e67070b1c2248d18bc1f776a79b326ca27dd41d566d3", func := "loop.example/pixelworks/laws.FnExactShrinkRegion", spec := "fnExactShrinkRegion", unfollowed := true, recurses := true, named := ["math/bits.deBruijn32tab"], apart := false, laid := [("math/bits.deBruijn32tab", laid_math_bits_deBruijn32tab)] }
def FnExactShrinkRegionSaid : Prop := fnExactShrinkRegionRow.holds Tryd.pinned (OpenSpec.ofChange fnExactShrinkRegionSpec)

/-- ITS FALSE NEIGHBOUR: 'it returns false'. Refute it at one input. -/
def fnExactShrinkRegionWrong : ChangeSpec := { name := "fnExactShrinkRegion", fn := fun _ => fun
  | [d1, d2] => { results := [.lit (.bool false)], args := [d1, d2] }
  | _ => none }
def FnExactShrinkRegionWrongFalsely : Prop := fnExactShrinkRegionRow.holds Tryd.pinned (OpenSpec.ofChange fnExactShrinkRegionWrong)

/-- 'laws.FnExactOpenRegion': WHATEVER THE INPUT: true; the input reads as it did. -/
def fnExactOpenRegionSpec : ChangeSpec := { name := "fnExactOpenRegion", fn := fun _ => fun
  | [d1, d2] => { results := [.lit (.bool true)], args := [d1, d2] }
  | _ => none }
def fnExactOpenRegionRow : OpenClaim := { program := "ytbikdgnefibcdaadoor", sum := "2b3ceb4574235cfa9ea6e67070b1c2248d18bc1f776a79b326ca27dd41d566d3", func := "loop.example/pixelworks/laws.FnExactOpenRegion", spec := "fnExactOpenRegion", unfollowed := true, recurses := true, named := ["math/bits.deBruijn32tab"], apart := false, laid := [("math/bits.deBruijn32tab", laid_math_bits_deBruijn32tab)] }
def FnExactOpenRegionSaid : Prop := fnExactOpenRegionRow.holds Tryd.pinned (OpenSpec.ofChange fnExactOpenRegionSpec)

/-- ITS FALSE NEIGHBOUR: 'it returns false'. Refute it at one input. -/
def fnExactOpenRegionWrong : ChangeSpec := { name := "fnExactOpenRegion", fn := fun _ => fun
  | [d1, d2] => { results := [.lit (.bool false)], args := [d1, d2] }
  | _ => none }
def FnExactOpenRegionWrongFalsely : Prop := fnExactOpenRegionRow.holds Tryd.pinned (OpenSpec.ofChange fnExactOpenRegionWrong)

/-- 'laws.FnExactShiftRegion': WHATEVER THE INPUT: true; the input reads as it did. -/
def fnExactShiftRegionSpec : ChangeSpec := { name := "fnExactShiftRegion", fn := fun _ => fun
  | [d1, d2, d3] => { results := [.lit (.bool true)], args := [d1, d2, d3] }
  | _ => none }
def fnExactShiftRegionRow : OpenClaim := { program := "ytbikdgnefibcdaadoor", sum := "2b3ceb4574235cfa9ea6e67070b1c2248d18bc1f776a79b326ca27dd41d566d3", func := "loop.example/pixelworks/laws.FnExactShiftRegion", spec := "fnExactShiftRegion", named := ["math/bits.deBruijn32tab"], apart := false, laid := [("math/bits.deBruijn32tab", laid_math_bits_deBruijn32tab)] }
def FnExactShiftRegionSaid : Prop := fnExactShiftRegionRow.holds Tryd.pinned (OpenSpec.ofChange fnExactShiftRegionSpec)

/-- ITS FALSE NEIGHBOUR: 'it returns false'. Refute it at one input. -/
def fnExactShiftRegionWrong : ChangeSpec := { name := "fnExactShiftRegion", fn := fun _ => fun
  | [d1, d2, d3] => { results := [.lit (.bool false)], args := [d1, d2, d3] }
  | _ => none }
def FnExactShiftRegionWrongFalsely : Prop := fnExactShiftRegionRow.holds Tryd.pinned (OpenSpec.ofChange fnExactShiftRegionWrong)

/-- 'laws.FnExactPassSize': WHATEVER THE INPUT: true; the input reads as it did. -/
def fnExactPassSizeSpec : ChangeSpec := { name := "fnExactPassSize", vars := ["loop.example/pixelworks/impl.patterns"], fn := fun _ => fun
  | [d1, d2, d3, g1] => { results := [.lit (.bool true)], args := [d1, d2, d3], vars := [g1] }
  | _ => none }
def fnExactPassSizeRow : OpenClaim := { program := "ytbikdgnefibcdaadoor", sum := "2b3ceb4574235cfa9ea6e67070b1c2248d18bc1f776a79b326ca27dd41d566d3", func := "loop.example/pixelworks/laws.FnExactPassSize", spec := "fnExactPassSize", named := ["loop.example/pixelworks/impl.patterns"], apart := false, laid := [("loop.example/pixelworks/impl.patterns", laid_loop_example_pixelworks_impl_patterns)] }
def FnExactPassSizeSaid : Prop := fnExactPassSizeRow.holds Tryd.pinned (OpenSpec.ofChange fnExactPassSizeSpec)

/-- ITS FALSE NEIGHBOUR: 'it returns false'. Refute it at one input. -/
def fnExactPassSizeWrong : ChangeSpec := { name := "fnExactPassSize", vars := ["loop.example/pixelworks/impl.patterns"], fn := fun _ => fun
  | [d1, d2, d3, g1] => { results := [.lit (.bool false)], args := [d1, d2, d3], vars := [g1] }
  | _ => none }
def FnExactPassSizeWrongFalsely : Prop := fnExactPassSizeRow.holds Tryd.pinned (OpenSpec.ofChange fnExactPassSizeWrong)

/- THE SECOND FORM. 'bulk': how many values and letters a reading holds, each counted each time it is reached (what is shared counts as often as it is met; a slice's spare places count too). A statement '..UptoSaid' is the law's where the arguments, and the package variables that the reading takes, are together of bulk at most 1048576: NARROWER than '..Said'. Prove '..Said' where nothing that the law and all that it calls make is longer than what came in: it says more and counts as full. Else prove '..UptoSaid'. A law counts once. -/
mutual
def uptoBulk {H : Type} : DataW H → Nat
  | .lit (.string bytes) => bytes.length + 1
  | .lit _ => 1
  | .nil => 1
  | .ptr d => uptoBulk d + 1
  | .slice elems spare => uptoBulkAll elems + uptoBulkAll spare + 1
  | .agg parts => uptoBulkAll parts + 1
  | .iface _ d => uptoBulk d + 1
  | .map entries => uptoBulkEntries entries + 1
  | .held _ => 1
def uptoBulkAll {H : Type} : List (DataW H) → Nat
  | [] => 0
  | d :: r => uptoBulk d + uptoBulkAll r
def uptoBulkEntries {H : Type} : List (Lit × DataW H) → Nat
  | [] => 0
  | x :: r => uptoBulkEntry x + uptoBulkEntries r
def uptoBulkEntry {H : Type} : Lit × DataW H → Nat
  | (.string bytes, d) => bytes.length + uptoBulk d + 1
  | (_, d) => uptoBulk d + 1
 end
def uptoSmall : (H : Type) → List (DataW H) → Bool := fun _ ds => decide (uptoBulkAll ds ≤ 1048576)
def OpenSpec.upto (s : _root_.Go.ChangeSpec) : _root_.Go.OpenSpec := { _root_.Go.OpenSpec.ofChange s with cond := some uptoSmall }

/-- 'laws.FnPassSize', WHERE WHAT IT READS IS OF BULK AT MOST 1048576: true; the input reads as it did. -/
def fnPassSizeUptoRow : OpenClaim := { program := "ytbikdgnefibcdaadoor", sum := "2b3ceb4574235cfa9ea6e67070b1c2248d18bc1f776a79b326ca27dd41d566d3", func := "loop.example/pixelworks/laws.FnPassSize", spec := "fnPassSize", named := ["loop.example/pixelworks/impl.patterns"], apart := false, laid := [("loop.example/pixelworks/impl.patterns", laid_loop_example_pixelworks_impl_patterns)], narrowed := true }
def FnPassSizeUptoSaid : Prop := fnPassSizeUptoRow.holds Tryd.pinned (OpenSpec.upto fnPassSizeSpec)

/-- 'laws.FnShiftRegion', WHERE WHAT IT READS IS OF BULK AT MOST 1048576: true; the input reads as it did. -/
def fnShiftRegionUptoRow : OpenClaim := { program := "ytbikdgnefibcdaadoor", sum := "2b3ceb4574235cfa9ea6e67070b1c2248d18bc1f776a79b326ca27dd41d566d3", func := "loop.example/pixelworks/laws.FnShiftRegion", spec := "fnShiftRegion", unfollowed := true, recurses := true, named := ["math/bits.deBruijn32tab"], apart := false, laid := [("math/bits.deBruijn32tab", laid_math_bits_deBruijn32tab)], narrowed := true }
def FnShiftRegionUptoSaid : Prop := fnShiftRegionUptoRow.holds Tryd.pinned (OpenSpec.upto fnShiftRegionSpec)

/-- 'laws.FnCombineRegionsThree', WHERE WHAT IT READS IS OF BULK AT MOST 1048576: true; the input reads as it did. -/
def fnCombineRegionsThreeUptoRow : OpenClaim := { program := "ytbikdgnefibcdaadoor", sum := "2b3ceb4574235cfa9ea6e67070b1c2248d18bc1f776a79b326ca27dd41d566d3", func := "loop.example/pixelworks/laws.FnCombineRegionsThree", spec := "fnCombineRegionsThree", unfollowed := true, recurses := true, named := ["math/bits.deBruijn32tab"], apart := false, laid := [("math/bits.deBruijn32tab", laid_math_bits_deBruijn32tab)], narrowed := true }
def FnCombineRegionsThreeUptoSaid : Prop := fnCombineRegionsThreeUptoRow.holds Tryd.pinned (OpenSpec.upto fnCombineRegionsThreeSpec)

/-- 'laws.FnExactEdgeOf', WHERE WHAT IT READS IS OF BULK AT MOST 1048576: true; the input reads as it did. -/
def fnExactEdgeOfUptoRow : OpenClaim := { program := "ytbikdgnefibcdaadoor", sum := "2b3ceb4574235cfa9ea6e67070b1c2248d18bc1f776a79b326ca27dd41d566d3", func := "loop.example/pixelworks/laws.FnExactEdgeOf", spec := "fnExactEdgeOf", unfollowed := true, recurses := true, named := ["math/bits.deBruijn32tab"], apart := false, laid := [("math/bits.deBruijn32tab", laid_math_bits_deBruijn32tab)], narrowed := true }
def FnExactEdgeOfUptoSaid : Prop := fnExactEdgeOfUptoRow.holds Tryd.pinned (OpenSpec.upto fnExactEdgeOfSpec)

/-- 'laws.FnExactGrowRegion', WHERE WHAT IT READS IS OF BULK AT MOST 1048576: true; the input reads as it did. -/
def fnExactGrowRegionUptoRow : OpenClaim := { program := "ytbikdgnefibcdaadoor", sum := "2b3ceb4574235cfa9ea6e67070b1c2248d18bc1f776a79b326ca27dd41d566d3", func := "loop.example/pixelworks/laws.FnExactGrowRegion", spec := "fnExactGrowRegion", unfollowed := true, recurses := true, named := ["math/bits.deBruijn32tab"], apart := false, laid := [("math/bits.deBruijn32tab", laid_math_bits_deBruijn32tab)], narrowed := true }
def FnExactGrowRegionUptoSaid : Prop := fnExactGrowRegionUptoRow.holds Tryd.pinned (OpenSpec.upto fnExactGrowRegionSpec)

/-- 'laws.FnExactShrinkRegion', WHERE WHAT IT READS IS OF BULK AT MOST 1048576: true; the input reads as it did. -/
def fnExactShrinkRegionUptoRow : OpenClaim := { program := "ytbikdgnefibcdaadoor", sum := "2b3ceb4574235cfa9ea6e67070b1c2248d18bc1f776a79b326ca27dd41d566d3", func := "loop.example/pixelworks/laws.FnExactShrinkRegion", spec := "fnExactShrinkRegion", unfollowed := true, recurses := true, named := ["math/bits.deBruijn32tab"], apart := false, laid := [("math/bits.deBruijn32tab", laid_math_bits_deBruijn32tab)], narrowed := true }
def FnExactShrinkRegionUptoSaid : Prop := fnExactShrinkRegionUptoRow.holds Tryd.pinned (OpenSpec.upto fnExactShrinkRegionSpec)

/-- 'laws.FnExactOpenRegion', WHERE WHAT IT READS IS OF BULK AT MOST 1048576: true; the input reads as it did. -/
def fnExactOpenRegionUptoRow : OpenClaim := { program := "ytbikdgnefibcdaadoor", sum := "2b3ceb4574235cfa9ea6e67070b1c2248d18bc1f776a79b326ca27dd41d566d3", func := "loop.example/pixelworks/laws.FnExactOpenRegion", spec := "fnExactOpenRegion", unfollowed := true, recurses := true, named := ["math/bits.deBruijn32tab"], apart := false, laid := [("math/bits.deBruijn32tab", laid_math_bits_deBruijn32tab)], narrowed := true }
def FnExactOpenRegionUptoSaid : Prop := fnExactOpenRegionUptoRow.holds Tryd.pinned (OpenSpec.upto fnExactOpenRegionSpec)

/-- 'laws.FnExactShiftRegion', WHERE WHAT IT READS IS OF BULK AT MOST 1048576: true; the input reads as it did. -/
def fnExactShiftRegionUptoRow : OpenClaim := { program := "ytbikdgnefibcdaadoor", sum := "2b3ceb4574235cfa9ea6e67070b1c2248d18bc1f776a79b326ca27dd41d566d3", func := "loop.example/pixelworks/laws.FnExactShiftRegion", spec := "fnExactShiftRegion", named := ["math/bits.deBruijn32tab"], apart := false, laid := [("math/bits.deBruijn32tab", laid_math_bits_deBruijn32tab)], narrowed := true }
def FnExactShiftRegionUptoSaid : Prop := fnExactShiftRegionUptoRow.holds Tryd.pinned (OpenSpec.upto fnExactShiftRegionSpec)

/-- 'laws.FnExactPassSize', WHERE WHAT IT READS IS OF BULK AT MOST 1048576: true; the input reads as it did. -/
def fnExactPassSizeUptoRow : OpenClaim := { program := "ytbikdgnefibcdaadoor", sum := "2b3ceb4574235cfa9ea6e67070b1c2248d18bc1f776a79b326ca27dd41d566d3", func := "loop.example/pixelworks/laws.FnExactPassSize", spec := "fnExactPassSize", named := ["loop.example/pixelworks/impl.patterns"], apart := false, laid := [("loop.example/pixelworks/impl.patterns", laid_loop_example_pixelworks_impl_patterns)], narrowed := true }
def FnExactPassSizeUptoSaid : Prop := fnExactPassSizeUptoRow.holds Tryd.pinned (OpenSpec.upto fnExactPassSizeSpec)

end Rows
end Go.Proofs.YtbikdgnefibcdaaDoor
