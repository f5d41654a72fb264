/-
  NARROWER THAN 'FOR EVERY INPUT', by the rows' own cells (each row's printed sentence says how): FnExactLineRegion: laid · FnLineRegion: laid · FnLineRegionSwap: laid · FnLineRegionBox: laid · FnShiftRegion: laid.
  DERIVED. THE GIVEN ROWS OF THIS SEAT. 5 by the template 'for every input the law returns true; each argument reads behind the call as it read before'; 0 by the template 'total and deterministic' (their statements: YtbjgjjhfnaiocaaDoorTotals.lean).
  GIVEN WITH THE SEED: the statements are not yours to turn. If you find one false, say at which input.
  Laid BY PROGRAM, IN A SANDBOX (cutbox-rows.mjs): the forced cells as the released guide's own fill.sh prints them over the translation 97d9338a4e7c1110… (all of the seat's roots in one cut). By AI agents, Wed Nov 11 2026. No macro, syntax, notation, axiom, sorry.
-/
import Derived.Test.YtbjgjjhfnaiocaaDoorChecked
import GoSem.Claim
import GoSem.ClaimJoined
import GoSem.ClaimMapViews
import Derived.JoinedTies
import Derived.KernelRfl
namespace Go.Proofs.YtbjgjjhfnaiocaaDoor
/- THE CELL 'sum', in the pinned program and in every row, IS THE sha256 OF THE DUMP (.gsa) THAT YtbjgjjhfnaiocaaDoorProg.lean LOADS. Nothing in Lean hashes anything: it is a label: what it is worth is what the hold of that sum in a sandbox is worth. -/
noncomputable def Tryd.pinned : Pinned := { name := "ytbjgjjhfnaiocaadoor", sum := "97d9338a4e7c1110de825e791143be8dbb7cf8f1f0a6f167b0bc1acc21859169", checked := Tryd.checked }
namespace Rows
def none {H : Type} : Left H := { results := [], args := [] }

/- WHAT THE LISTED PACKAGE-LEVEL VARIABLES READ AS WHEN THE CALL BEGINS. Each datum BY PROGRAM (the guide's laid-datum.mjs) off the statement by which the dump's own 'gosem.cut.vars' lays the variable. In a bare row this is a premise. The card (YtbjgjjhfnaiocaaDoorCards.lean) ties it to the program's text. -/
def laid_math_bits_deBruijn32tab {H : Type} : DataW H := .agg [.lit (.int .u8 0), .lit (.int .u8 1), .lit (.int .u8 28), .lit (.int .u8 2), .lit (.int .u8 29), .lit (.int .u8 14), .lit (.int .u8 24), .lit (.int .u8 3), .lit (.int .u8 30), .lit (.int .u8 22), .lit (.int .u8 20), .lit (.int .u8 15), .lit (.int .u8 25), .lit (.int .u8 17), .lit (.int .u8 4), .lit (.int .u8 8), .lit (.int .u8 31), .lit (.int .u8 27), .lit (.int .u8 13), .lit (.int .u8 23), .lit (.int .u8 21), .lit (.int .u8 19), .lit (.int .u8 16), .lit (.int .u8 7), .lit (.int .u8 26), .lit (.int .u8 12), .lit (.int .u8 18), .lit (.int .u8 6), .lit (.int .u8 11), .lit (.int .u8 5), .lit (.int .u8 10), .lit (.int .u8 9)]

/-- 'laws.FnExactLineRegion': WHATEVER THE INPUT: true; the input reads as it did. -/
def fnExactLineRegionSpec : ChangeSpec := { name := "fnExactLineRegion", fn := fun _ => fun
  | [d1, d2, d3, d4] => { results := [.lit (.bool true)], args := [d1, d2, d3, d4] }
  | _ => none }
def fnExactLineRegionRow : OpenClaim := { program := "ytbjgjjhfnaiocaadoor", sum := "97d9338a4e7c1110de825e791143be8dbb7cf8f1f0a6f167b0bc1acc21859169", func := "loop.example/pixelworks/laws.FnExactLineRegion", spec := "fnExactLineRegion", named := ["math/bits.deBruijn32tab"], apart := false, laid := [("math/bits.deBruijn32tab", laid_math_bits_deBruijn32tab)] }
def FnExactLineRegionSaid : Prop := fnExactLineRegionRow.holds Tryd.pinned (OpenSpec.ofChange fnExactLineRegionSpec)

/-- ITS FALSE NEIGHBOUR: 'it returns false'. Refute it at one input. -/
def fnExactLineRegionWrong : ChangeSpec := { name := "fnExactLineRegion", fn := fun _ => fun
  | [d1, d2, d3, d4] => { results := [.lit (.bool false)], args := [d1, d2, d3, d4] }
  | _ => none }
def FnExactLineRegionWrongFalsely : Prop := fnExactLineRegionRow.holds Tryd.pinned (OpenSpec.ofChange fnExactLineRegionWrong)

/-- 'laws.FnLineRegion': WHATEVER THE INPUT: true; the input reads as it did. -/
def fnLineRegionSpec : ChangeSpec := { name := "fnLineRegion", fn := fun _ => fun
  | [d] => { results := [.lit (.bool true)], args := [d] }
  | _ => none }
def fnLineRegionRow : OpenClaim := { program := "ytbjgjjhfnaiocaadoor", sum := "97d9338a4e7c1110de825e791143be8dbb7cf8f1f0a6f167b0bc1acc21859169", func := "loop.example/pixelworks/laws.FnLineRegion", spec := "fnLineRegion", unfollowed := true, recurses := true, named := ["math/bits.deBruijn32tab"], apart := false, laid := [("math/bits.deBruijn32tab", laid_math_bits_deBruijn32tab)] }
def FnLineRegionSaid : Prop := fnLineRegionRow.holds Tryd.pinned (OpenSpec.ofChange fnLineRegionSpec)

/-- ITS FALSE NEIGHBOUR: 'it returns false'. Refute it at one input. -/
def fnLineRegionWrong : ChangeSpec := { name := "fnLineRegion", fn := fun _ => fun
  | [d] => { results := [.lit (.bool false)], args := [d] }
  | _ => none }
def FnLineRegionWrongFalsely : Prop := fnLineRegionRow.holds Tryd.pinned (OpenSpec.ofChange fnLineRegionWrong)

/-- 'laws.FnLineRegionSwap': WHATEVER THE INPUT: true; the input reads as it did. -/
def fnLineRegionSwapSpec : ChangeSpec := { name := "fnLineRegionSwap", fn := fun _ => fun
  | [d] => { results := [.lit (.bool true)], args := [d] }
  | _ => none }
def fnLineRegionSwapRow : OpenClaim := { program := "ytbjgjjhfnaiocaadoor", sum := "97d9338a4e7c1110de825e791143be8dbb7cf8f1f0a6f167b0bc1acc21859169", func := "loop.example/pixelworks/laws.FnLineRegionSwap", spec := "fnLineRegionSwap", unfollowed := true, recurses := true, named := ["math/bits.deBruijn32tab"], apart := false, laid := [("math/bits.deBruijn32tab", laid_math_bits_deBruijn32tab)] }
def FnLineRegionSwapSaid : Prop := fnLineRegionSwapRow.holds Tryd.pinned (OpenSpec.ofChange fnLineRegionSwapSpec)

/-- ITS FALSE NEIGHBOUR: 'it returns false'. Refute it at one input. -/
def fnLineRegionSwapWrong : ChangeSpec := { name := "fnLineRegionSwap", fn := fun _ => fun
  | [d] => { results := [.lit (.bool false)], args := [d] }
  | _ => none }
def FnLineRegionSwapWrongFalsely : Prop := fnLineRegionSwapRow.holds Tryd.pinned (OpenSpec.ofChange fnLineRegionSwapWrong)

/-- 'laws.FnLineRegionBox': WHATEVER THE INPUT: true; the input reads as it did. -/
def fnLineRegionBoxSpec : ChangeSpec := { name := "fnLineRegionBox", fn := fun _ => fun
  | [d] => { results := [.lit (.bool true)], args := [d] }
  | _ => none }
def fnLineRegionBoxRow : OpenClaim := { program := "ytbjgjjhfnaiocaadoor", sum := "97d9338a4e7c1110de825e791143be8dbb7cf8f1f0a6f167b0bc1acc21859169", func := "loop.example/pixelworks/laws.FnLineRegionBox", spec := "fnLineRegionBox", named := ["math/bits.deBruijn32tab"], apart := false, laid := [("math/bits.deBruijn32tab", laid_math_bits_deBruijn32tab)] }
def FnLineRegionBoxSaid : Prop := fnLineRegionBoxRow.holds Tryd.pinned (OpenSpec.ofChange fnLineRegionBoxSpec)

/-- ITS FALSE NEIGHBOUR: 'it returns false'. Refute it at one input. -/
def fnLineRegionBoxWrong : ChangeSpec := { name := "fnLineRegionBox", fn := fun _ => fun
  | [d] => { results := [.lit (.bool false)], args := [d] }
  | _ => none }
def FnLineRegionBoxWrongFalsely : Prop := fnLineRegionBoxRow.holds Tryd.pinned (OpenSpec.ofChange fnLineRegionBoxWrong)

/-- 'laws.FnShiftRegion': WHATEVER THE INPUT: true; the input reads as it did. -/
def fnShiftRegionSpec : ChangeSpec := { name := "fnShiftRegion", fn := fun _ => fun
  | [d] => { results := [.lit (.bool true)], args := [d] }
  | _ => none }
def fnShiftRegionRow : OpenClaim := { program := "ytbjgjjhfnaiocaadoor", sum := "97d9338a4e7c1110de825e791143be8dbb7cf8f1f0a6f167b0bc1acc21859169", func := "loop.example/pixelworks/laws.FnShiftRegion", spec := "fnShiftRegion", unfollowed := true, recurses := true, named := ["math/bits.deBruijn32tab"], apart := false, laid := [("math/bits.deBruijn32tab", laid_math_bits_deBruijn32tab)] }
def FnShiftRegionSaid : Prop := fnShiftRegionRow.holds Tryd.pinned (OpenSpec.ofChange fnShiftRegionSpec)

/-- ITS FALSE NEIGHBOUR: 'it returns false'. Refute it at one input. -/
def fnShiftRegionWrong : ChangeSpec := { name := "fnShiftRegion", fn := fun _ => fun
  | [d] => { results := [.lit (.bool false)], args := [d] }
  | _ => none }
def FnShiftRegionWrongFalsely : Prop := fnShiftRegionRow.holds Tryd.pinned (OpenSpec.ofChange fnShiftRegionWrong)

/- THE SECOND FORM. 'bulk': how many values and letters a reading holds, each counted each time it is reached (what is shared counts as often as it is met; a slice's spare places count too). A statement '..UptoSaid' is the law's where the arguments, and the package variables that the reading takes, are together of bulk at most 1048576: NARROWER than '..Said'. Prove '..Said' where nothing that the law and all that it calls make is longer than what came in: it says more and counts as full. Else prove '..UptoSaid'. A law counts once. -/
mutual
def uptoBulk {H : Type} : DataW H → Nat
  | .lit (.string bytes) => bytes.length + 1
  | .lit _ => 1
  | .nil => 1
  | .ptr d => uptoBulk d + 1
  | .slice elems spare => uptoBulkAll elems + uptoBulkAll spare + 1
  | .agg parts => uptoBulkAll parts + 1
  | .iface _ d => uptoBulk d + 1
  | .map entries => uptoBulkEntries entries + 1
  | .held _ => 1
def uptoBulkAll {H : Type} : List (DataW H) → Nat
  | [] => 0
  | d :: r => uptoBulk d + uptoBulkAll r
def uptoBulkEntries {H : Type} : List (Lit × DataW H) → Nat
  | [] => 0
  | x :: r => uptoBulkEntry x + uptoBulkEntries r
def uptoBulkEntry {H : Type} : Lit × DataW H → Nat
  | (.string bytes, d) => bytes.length + uptoBulk d + 1
  | (_, d) => uptoBulk d + 1
 end
def uptoSmall : (H : Type) → List (DataW H) → Bool := fun _ ds => decide (uptoBulkAll ds ≤ 1048576)
def OpenSpec.upto (s : _root_.Go.ChangeSpec) : _root_.Go.OpenSpec := { _root_.Go.OpenSpec.ofChange s with cond := some uptoSmall }

/-- 'laws.FnExactLineRegion', WHERE WHAT IT READS IS OF BULK AT MOST 1048576: true; the input reads as it did. -/
def fnExactLineRegionUptoRow : OpenClaim := { program := "ytbjgjjhfnaiocaadoor", sum := "97d9338a4e7c1110de825e791143be8dbb7cf8f1f0a6f167b0bc1acc21859169", func := "loop.example/pixelworks/laws.FnExactLineRegion", spec := "fnExactLineRegion", named := ["math/bits.deBruijn32tab"], apart := false, laid := [("math/bits.deBruijn32tab", laid_math_bits_deBruijn32tab)], narrowed := true }
def FnExactLineRegionUptoSaid : Prop := fnExactLineRegionUptoRow.holds Tryd.pinned (OpenSpec.upto fnExactLineRegionSpec)

/-- 'laws.FnLineRegion', WHERE WHAT IT READS IS OF BULK AT MOST 1048576: true; the input reads as it did. -/
def fnLineRegionUptoRow : OpenClaim := { program := "ytbjgjjhfnaiocaadoor", sum := "97d9338a4e7c1110de825e791143be8dbb7cf8f1f0a6f167b0bc1acc21859169", func := "loop.example/pixelworks/laws.FnLineRegion", spec := "fnLineRegion", unfollowed := true, recurses := true, named := ["math/bits.deBruijn32tab"], apart := false, laid := [("math/bits.deBruijn32tab", laid_math_bits_deBruijn32tab)], narrowed := true }
def FnLineRegionUptoSaid : Prop := fnLineRegionUptoRow.holds Tryd.pinned (OpenSpec.upto fnLineRegionSpec)

/-- 'laws.FnLineRegionSwap', WHERE WHAT IT READS IS OF BULK AT MOST 1048576: true; the input reads as it did. -/
def fnLineRegionSwapUptoRow : OpenClaim := { program := "ytbjgjjhfnaiocaadoor", sum := "97d9338a4e7c1110de825e791143be8dbb7cf8f1f0a6f167b0bc1acc21859169", func := "loop.example/pixelworks/laws.FnLineRegionSwap", spec := "fnLineRegionSwap", unfollowed := true, recurses := true, named := ["math/bits.deBruijn32tab"], apart := false, laid := [("math/bits.deBruijn32tab", laid_math_bits_deBruijn32tab)], narrowed := true }
def FnLineRegionSwapUptoSaid : Prop := fnLineRegionSwapUptoRow.holds Tryd.pinned (OpenSpec.upto fnLineRegionSwapSpec)

/-- 'laws.FnLineRegionBox', WHERE WHAT IT READS IS OF BULK AT MOST 1048576: true; the input reads as it did. -/
def fnLineRegionBoxUptoRow : OpenClaim := { program := "ytbjgjjhfnaiocaadoor", sum := "97d9338a4e7c1110de825e791143be8dbb7cf8f1f0a6f167b0bc1acc21859169", func := "loop.example/pixelworks/laws.FnLineRegionBox", spec := "fnLineRegionBox", named := ["math/bits.deBruijn32tab"], apart := false, laid := [("math/bits.deBruijn32tab", laid_math_bits_deBruijn32tab)], narrowed := true }
def FnLineRegionBoxUptoSaid : Prop := fnLineRegionBoxUptoRow.holds Tryd.pinned (OpenSpec.upto fnLineRegionBoxSpec)

/-- 'laws.FnShiftRegion', WHERE WHAT IT READS IS OF BULK AT MOST 1048576: true; the input reads as it did. -/
def fnShiftRegionUptoRow : OpenClaim := { program := "ytbjgjjhfnaiocaadoor", sum := "97d9338a4e7c1110de825e791143be8dbb7cf8f1f0a6f167b0bc1acc21859169", func := "loop.example/pixelworks/laws.FnShiftRegion", spec := "fnShiftRegion", unfollowed := true, recurses := true, named := ["math/bits.deBruijn32tab"], apart := false, laid := [("math/bits.deBruijn32tab", laid_math_bits_deBruijn32tab)], narrowed := true }
def FnShiftRegionUptoSaid : Prop := fnShiftRegionUptoRow.holds Tryd.pinned (OpenSpec.upto fnShiftRegionSpec)

end Rows
end Go.Proofs.YtbjgjjhfnaiocaaDoor
