/-
  No cell of these rows narrows 'for every input' (looked for: loops, veiled, ifaces, maps, wideKeys, modest, calm, conditions, laid).
  DERIVED. THE GIVEN ROWS OF THIS SEAT. 4 by the template 'for every input the law returns true; each argument reads behind the call as it read before'; 0 by the template 'total and deterministic' (their statements: YtolifmgkkkclkaaTotals.lean).
  GIVEN WITH THE SEED: the statements are not yours to turn. If you find one false, say at which input.
  Laid BY PROGRAM, IN A SANDBOX (cutbox-rows.mjs): the forced cells as the released guide's own fill.sh prints them over the translation c4d212ccfafdb44f… (all of the seat's roots in one cut). By AI agents, Wed Nov 11 2026. No macro, syntax, notation, axiom, sorry.
-/
import Derived.Test.YtolifmgkkkclkaaChecked
import GoSem.Claim
import GoSem.ClaimJoined
import GoSem.ClaimMapViews
import Derived.JoinedTies
import Derived.KernelRfl
namespace Go.Proofs.Ytolifmgkkkclkaa
/- THE CELL 'sum', in the pinned program and in every row, IS THE sha256 OF THE DUMP (.gsa) THAT YtolifmgkkkclkaaProg.lean LOADS. Nothing in Lean hashes anything: it is a label: what it is worth is what the hold of that sum in a sandbox is worth. -/
noncomputable def Try.pinned : Pinned := { name := "ytolifmgkkkclkaa", sum := "c4d212ccfafdb44fd333d23cd2c1b58df53ef93844550ef379c69157206c7fe4", checked := Try.checked }
namespace Rows
def none {H : Type} : Left H := { results := [], args := [] }

/-- 'laws.FnFilterImage': WHATEVER THE INPUT: true; the input reads as it did. -/
def fnFilterImageSpec : ChangeSpec := { name := "fnFilterImage", fn := fun _ => fun
  | [d] => { results := [.lit (.bool true)], args := [d] }
  | _ => none }
def fnFilterImageRow : OpenClaim := { program := "ytolifmgkkkclkaa", sum := "c4d212ccfafdb44fd333d23cd2c1b58df53ef93844550ef379c69157206c7fe4", func := "loop.example/pixelworks/laws.FnFilterImage", spec := "fnFilterImage", unfollowed := true, recurses := true, apart := false }
def FnFilterImageSaid : Prop := fnFilterImageRow.holds Try.pinned (OpenSpec.ofChange fnFilterImageSpec)

/-- ITS FALSE NEIGHBOUR: 'it returns false'. Refute it at one input. -/
def fnFilterImageWrong : ChangeSpec := { name := "fnFilterImage", fn := fun _ => fun
  | [d] => { results := [.lit (.bool false)], args := [d] }
  | _ => none }
def FnFilterImageWrongFalsely : Prop := fnFilterImageRow.holds Try.pinned (OpenSpec.ofChange fnFilterImageWrong)

/-- 'laws.FnUnfilterImage': WHATEVER THE INPUT: true; the input reads as it did. -/
def fnUnfilterImageSpec : ChangeSpec := { name := "fnUnfilterImage", fn := fun _ => fun
  | [d] => { results := [.lit (.bool true)], args := [d] }
  | _ => none }
def fnUnfilterImageRow : OpenClaim := { program := "ytolifmgkkkclkaa", sum := "c4d212ccfafdb44fd333d23cd2c1b58df53ef93844550ef379c69157206c7fe4", func := "loop.example/pixelworks/laws.FnUnfilterImage", spec := "fnUnfilterImage", unfollowed := true, recurses := true, apart := false }
def FnUnfilterImageSaid : Prop := fnUnfilterImageRow.holds Try.pinned (OpenSpec.ofChange fnUnfilterImageSpec)

/-- ITS FALSE NEIGHBOUR: 'it returns false'. Refute it at one input. -/
def fnUnfilterImageWrong : ChangeSpec := { name := "fnUnfilterImage", fn := fun _ => fun
  | [d] => { results := [.lit (.bool false)], args := [d] }
  | _ => none }
def FnUnfilterImageWrongFalsely : Prop := fnUnfilterImageRow.holds Try.pinned (OpenSpec.ofChange fnUnfilterImageWrong)

/-- 'laws.FnExactFilterImage': WHATEVER THE INPUT: true; the input reads as it did. -/
def fnExactFilterImageSpec : ChangeSpec := { name := "fnExactFilterImage", fn := fun _ => fun
  | [d] => { results := [.lit (.bool true)], args := [d] }
  | _ => none }
def fnExactFilterImageRow : OpenClaim := { program := "ytolifmgkkkclkaa", sum := "c4d212ccfafdb44fd333d23cd2c1b58df53ef93844550ef379c69157206c7fe4", func := "loop.example/pixelworks/laws.FnExactFilterImage", spec := "fnExactFilterImage", unfollowed := true, recurses := true, apart := false }
def FnExactFilterImageSaid : Prop := fnExactFilterImageRow.holds Try.pinned (OpenSpec.ofChange fnExactFilterImageSpec)

/-- ITS FALSE NEIGHBOUR: 'it returns false'. Refute it at one input. -/
def fnExactFilterImageWrong : ChangeSpec := { name := "fnExactFilterImage", fn := fun _ => fun
  | [d] => { results := [.lit (.bool false)], args := [d] }
  | _ => none }
def FnExactFilterImageWrongFalsely : Prop := fnExactFilterImageRow.holds Try.pinned (OpenSpec.ofChange fnExactFilterImageWrong)

/-- 'laws.FnExactUnfilterImage': WHATEVER THE INPUT: true; the input reads as it did. -/
def fnExactUnfilterImageSpec : ChangeSpec := { name := "fnExactUnfilterImage", fn := fun _ => fun
  | [d1, d2, d3, d4] => { results := [.lit (.bool true)], args := [d1, d2, d3, d4] }
  | _ => none }
def fnExactUnfilterImageRow : OpenClaim := { program := "ytolifmgkkkclkaa", sum := "c4d212ccfafdb44fd333d23cd2c1b58df53ef93844550ef379c69157206c7fe4", func := "loop.example/pixelworks/laws.FnExactUnfilterImage", spec := "fnExactUnfilterImage", unfollowed := true, recurses := true, apart := false }
def FnExactUnfilterImageSaid : Prop := fnExactUnfilterImageRow.holds Try.pinned (OpenSpec.ofChange fnExactUnfilterImageSpec)

/-- ITS FALSE NEIGHBOUR: 'it returns false'. Refute it at one input. -/
def fnExactUnfilterImageWrong : ChangeSpec := { name := "fnExactUnfilterImage", fn := fun _ => fun
  | [d1, d2, d3, d4] => { results := [.lit (.bool false)], args := [d1, d2, d3, d4] }
  | _ => none }
def FnExactUnfilterImageWrongFalsely : Prop := fnExactUnfilterImageRow.holds Try.pinned (OpenSpec.ofChange fnExactUnfilterImageWrong)

/- THE SECOND FORM. 'bulk': how many values and letters a reading holds, each counted each time it is reached (what is shared counts as often as it is met; a slice's spare places count too). A statement '..UptoSaid' is the law's where the arguments, and the package variables that the reading takes, are together of bulk at most 1048576: NARROWER than '..Said'. Prove '..Said' where nothing that the law and all that it calls make is longer than what came in: it says more and counts as full. Else prove '..UptoSaid'. A law counts once. -/
mutual
def uptoBulk {H : Type} : DataW H → Nat
  | .lit (.string bytes) => bytes.length + 1
  | .lit _ => 1
  | .nil => 1
  | .ptr d => uptoBulk d + 1
  | .slice elems spare => uptoBulkAll elems + uptoBulkAll spare + 1
  | .agg parts => uptoBulkAll parts + 1
  | .iface _ d => uptoBulk d + 1
  | .map entries => uptoBulkEntries entries + 1
  | .held _ => 1
def uptoBulkAll {H : Type} : List (DataW H) → Nat
  | [] => 0
  | d :: r => uptoBulk d + uptoBulkAll r
def uptoBulkEntries {H : Type} : List (Lit × DataW H) → Nat
  | [] => 0
  | x :: r => uptoBulkEntry x + uptoBulkEntries r
def uptoBulkEntry {H : Type} : Lit × DataW H → Nat
  | (.string bytes, d) => bytes.length + uptoBulk d + 1
  | (_, d) => uptoBulk d + 1
 end
def uptoSmall : (H : Type) → List (DataW H) → Bool := fun _ ds => decide (uptoBulkAll ds ≤ 1048576)
def OpenSpec.upto (s : _root_.Go.ChangeSpec) : _root_.Go.OpenSpec := { _root_.Go.OpenSpec.ofChange s with cond := some uptoSmall }

/-- 'laws.FnFilterImage', WHERE WHAT IT READS IS OF BULK AT MOST 1048576: true; the input reads as it did. -/
def fnFilterImageUptoRow : OpenClaim := { program := "ytolifmgkkkclkaa", sum := "c4d212ccfafdb44fd333d23cd2c1b58df53ef93844550ef379c69157206c7fe4", func := "loop.example/pixelworks/laws.FnFilterImage", spec := "fnFilterImage", unfollowed := true, recurses := true, apart := false, narrowed := true }
def FnFilterImageUptoSaid : Prop := fnFilterImageUptoRow.holds Try.pinned (OpenSpec.upto fnFilterImageSpec)

/-- 'laws.FnUnfilterImage', WHERE WHAT IT READS IS OF BULK AT MOST 1048576: true; the input reads as it did. -/
def fnUnfilterImageUptoRow : OpenClaim := { program := "ytolifmgkkkclkaa", sum := "c4d212ccfafdb44fd333d23cd2c1b58df53ef93844550ef379c69157206c7fe4", func := "loop.example/pixelworks/laws.FnUnfilterImage", spec := "fnUnfilterImage", unfollowed := true, recurses := true, apart := false, narrowed := true }
def FnUnfilterImageUptoSaid : Prop := fnUnfilterImageUptoRow.holds Try.pinned (OpenSpec.upto fnUnfilterImageSpec)

/-- 'laws.FnExactFilterImage', WHERE WHAT IT READS IS OF BULK AT MOST 1048576: true; the input reads as it did. -/
def fnExactFilterImageUptoRow : OpenClaim := { program := "ytolifmgkkkclkaa", sum := "c4d212ccfafdb44fd333d23cd2c1b58df53ef93844550ef379c69157206c7fe4", func := "loop.example/pixelworks/laws.FnExactFilterImage", spec := "fnExactFilterImage", unfollowed := true, recurses := true, apart := false, narrowed := true }
def FnExactFilterImageUptoSaid : Prop := fnExactFilterImageUptoRow.holds Try.pinned (OpenSpec.upto fnExactFilterImageSpec)

/-- 'laws.FnExactUnfilterImage', WHERE WHAT IT READS IS OF BULK AT MOST 1048576: true; the input reads as it did. -/
def fnExactUnfilterImageUptoRow : OpenClaim := { program := "ytolifmgkkkclkaa", sum := "c4d212ccfafdb44fd333d23cd2c1b58df53ef93844550ef379c69157206c7fe4", func := "loop.example/pixelworks/laws.FnExactUnfilterImage", spec := "fnExactUnfilterImage", unfollowed := true, recurses := true, apart := false, narrowed := true }
def FnExactUnfilterImageUptoSaid : Prop := fnExactUnfilterImageUptoRow.holds Try.pinned (OpenSpec.upto fnExactUnfilterImageSpec)

end Rows
end Go.Proofs.Ytolifmgkkkclkaa
