/-
  No cell of these rows narrows 'for every input' (looked for: loops, veiled, ifaces, maps, wideKeys, modest, calm, conditions, laid).
  DERIVED. THE GIVEN ROWS OF THIS SEAT. 8 by the template 'for every input the law returns true; each argument reads behind the call as it read before'; 0 by the template 'total and deterministic' (their statements: YtkjebidkkopalaaTotals.lean).
  GIVEN WITH THE SEED: the statements are not yours to turn. If you find one false, say at which input.
  Laid BY PROGRAM, IN A SANDBOX (cutbox-rows.mjs): the forced cells as the released guide's own fill.sh prints them over the translation dcc8e2cdd860d828… (all of the seat's roots in one cut). By AI agents, Wed Nov 11 2026. No macro, syntax, notation, axiom, sorry.
-/
import Derived.Test.YtkjebidkkopalaaChecked
import GoSem.Claim
import GoSem.ClaimJoined
import GoSem.ClaimMapViews
import Derived.JoinedTies
import Derived.KernelRfl
namespace Go.Proofs.Ytkjebidkkopalaa
/- THE CELL 'sum', in the pinned program and in every row, IS THE sha256 OF THE DUMP (.gsa) THAT YtkjebidkkopalaaProg.lean LOADS. Nothing in Lean hashes anything: it is a label: what it is worth is what the hold of that sum in a sandbox is worth. -/
noncomputable def Try.pinned : Pinned := { name := "ytkjebidkkopalaa", sum := "dcc8e2cdd860d8287fdab13af2d36a73561cc234f36fff12cba73da9433fe28b", checked := Try.checked }
namespace Rows
def none {H : Type} : Left H := { results := [], args := [] }

/-- 'laws.FnPaletteOf': WHATEVER THE INPUT: true; the input reads as it did. -/
def fnPaletteOfSpec : ChangeSpec := { name := "fnPaletteOf", fn := fun _ => fun
  | [d] => { results := [.lit (.bool true)], args := [d] }
  | _ => none }
def fnPaletteOfRow : OpenClaim := { program := "ytkjebidkkopalaa", sum := "dcc8e2cdd860d8287fdab13af2d36a73561cc234f36fff12cba73da9433fe28b", func := "loop.example/pixelworks/laws.FnPaletteOf", spec := "fnPaletteOf", unfollowed := true, recurses := true, plainKeys := false, apart := false }
def FnPaletteOfSaid : Prop := fnPaletteOfRow.holds Try.pinned (OpenSpec.ofChange fnPaletteOfSpec)

/-- ITS FALSE NEIGHBOUR: 'it returns false'. Refute it at one input. -/
def fnPaletteOfWrong : ChangeSpec := { name := "fnPaletteOf", fn := fun _ => fun
  | [d] => { results := [.lit (.bool false)], args := [d] }
  | _ => none }
def FnPaletteOfWrongFalsely : Prop := fnPaletteOfRow.holds Try.pinned (OpenSpec.ofChange fnPaletteOfWrong)

/-- 'laws.FnNearestColor': WHATEVER THE INPUT: true; the input reads as it did. -/
def fnNearestColorSpec : ChangeSpec := { name := "fnNearestColor", fn := fun _ => fun
  | [d] => { results := [.lit (.bool true)], args := [d] }
  | _ => none }
def fnNearestColorRow : OpenClaim := { program := "ytkjebidkkopalaa", sum := "dcc8e2cdd860d8287fdab13af2d36a73561cc234f36fff12cba73da9433fe28b", func := "loop.example/pixelworks/laws.FnNearestColor", spec := "fnNearestColor", plainKeys := false, apart := false }
def FnNearestColorSaid : Prop := fnNearestColorRow.holds Try.pinned (OpenSpec.ofChange fnNearestColorSpec)

/-- ITS FALSE NEIGHBOUR: 'it returns false'. Refute it at one input. -/
def fnNearestColorWrong : ChangeSpec := { name := "fnNearestColor", fn := fun _ => fun
  | [d] => { results := [.lit (.bool false)], args := [d] }
  | _ => none }
def FnNearestColorWrongFalsely : Prop := fnNearestColorRow.holds Try.pinned (OpenSpec.ofChange fnNearestColorWrong)

/-- 'laws.FnIndexImage': WHATEVER THE INPUT: true; the input reads as it did. -/
def fnIndexImageSpec : ChangeSpec := { name := "fnIndexImage", fn := fun _ => fun
  | [d] => { results := [.lit (.bool true)], args := [d] }
  | _ => none }
def fnIndexImageRow : OpenClaim := { program := "ytkjebidkkopalaa", sum := "dcc8e2cdd860d8287fdab13af2d36a73561cc234f36fff12cba73da9433fe28b", func := "loop.example/pixelworks/laws.FnIndexImage", spec := "fnIndexImage", unfollowed := true, recurses := true, plainKeys := false, apart := false }
def FnIndexImageSaid : Prop := fnIndexImageRow.holds Try.pinned (OpenSpec.ofChange fnIndexImageSpec)

/-- ITS FALSE NEIGHBOUR: 'it returns false'. Refute it at one input. -/
def fnIndexImageWrong : ChangeSpec := { name := "fnIndexImage", fn := fun _ => fun
  | [d] => { results := [.lit (.bool false)], args := [d] }
  | _ => none }
def FnIndexImageWrongFalsely : Prop := fnIndexImageRow.holds Try.pinned (OpenSpec.ofChange fnIndexImageWrong)

/-- 'laws.FnColorImage': WHATEVER THE INPUT: true; the input reads as it did. -/
def fnColorImageSpec : ChangeSpec := { name := "fnColorImage", fn := fun _ => fun
  | [d] => { results := [.lit (.bool true)], args := [d] }
  | _ => none }
def fnColorImageRow : OpenClaim := { program := "ytkjebidkkopalaa", sum := "dcc8e2cdd860d8287fdab13af2d36a73561cc234f36fff12cba73da9433fe28b", func := "loop.example/pixelworks/laws.FnColorImage", spec := "fnColorImage", unfollowed := true, recurses := true, plainKeys := false, apart := false }
def FnColorImageSaid : Prop := fnColorImageRow.holds Try.pinned (OpenSpec.ofChange fnColorImageSpec)

/-- ITS FALSE NEIGHBOUR: 'it returns false'. Refute it at one input. -/
def fnColorImageWrong : ChangeSpec := { name := "fnColorImage", fn := fun _ => fun
  | [d] => { results := [.lit (.bool false)], args := [d] }
  | _ => none }
def FnColorImageWrongFalsely : Prop := fnColorImageRow.holds Try.pinned (OpenSpec.ofChange fnColorImageWrong)

/-- 'laws.FnExactPaletteOf': WHATEVER THE INPUT: true; the input reads as it did. -/
def fnExactPaletteOfSpec : ChangeSpec := { name := "fnExactPaletteOf", fn := fun _ => fun
  | [d] => { results := [.lit (.bool true)], args := [d] }
  | _ => none }
def fnExactPaletteOfRow : OpenClaim := { program := "ytkjebidkkopalaa", sum := "dcc8e2cdd860d8287fdab13af2d36a73561cc234f36fff12cba73da9433fe28b", func := "loop.example/pixelworks/laws.FnExactPaletteOf", spec := "fnExactPaletteOf", unfollowed := true, recurses := true, plainKeys := false, apart := false }
def FnExactPaletteOfSaid : Prop := fnExactPaletteOfRow.holds Try.pinned (OpenSpec.ofChange fnExactPaletteOfSpec)

/-- ITS FALSE NEIGHBOUR: 'it returns false'. Refute it at one input. -/
def fnExactPaletteOfWrong : ChangeSpec := { name := "fnExactPaletteOf", fn := fun _ => fun
  | [d] => { results := [.lit (.bool false)], args := [d] }
  | _ => none }
def FnExactPaletteOfWrongFalsely : Prop := fnExactPaletteOfRow.holds Try.pinned (OpenSpec.ofChange fnExactPaletteOfWrong)

/-- 'laws.FnExactNearestColor': WHATEVER THE INPUT: true; the input reads as it did. -/
def fnExactNearestColorSpec : ChangeSpec := { name := "fnExactNearestColor", fn := fun _ => fun
  | [d1, d2] => { results := [.lit (.bool true)], args := [d1, d2] }
  | _ => none }
def fnExactNearestColorRow : OpenClaim := { program := "ytkjebidkkopalaa", sum := "dcc8e2cdd860d8287fdab13af2d36a73561cc234f36fff12cba73da9433fe28b", func := "loop.example/pixelworks/laws.FnExactNearestColor", spec := "fnExactNearestColor", plainKeys := false, apart := false }
def FnExactNearestColorSaid : Prop := fnExactNearestColorRow.holds Try.pinned (OpenSpec.ofChange fnExactNearestColorSpec)

/-- ITS FALSE NEIGHBOUR: 'it returns false'. Refute it at one input. -/
def fnExactNearestColorWrong : ChangeSpec := { name := "fnExactNearestColor", fn := fun _ => fun
  | [d1, d2] => { results := [.lit (.bool false)], args := [d1, d2] }
  | _ => none }
def FnExactNearestColorWrongFalsely : Prop := fnExactNearestColorRow.holds Try.pinned (OpenSpec.ofChange fnExactNearestColorWrong)

/-- 'laws.FnExactIndexImage': WHATEVER THE INPUT: true; the input reads as it did. -/
def fnExactIndexImageSpec : ChangeSpec := { name := "fnExactIndexImage", fn := fun _ => fun
  | [d1, d2] => { results := [.lit (.bool true)], args := [d1, d2] }
  | _ => none }
def fnExactIndexImageRow : OpenClaim := { program := "ytkjebidkkopalaa", sum := "dcc8e2cdd860d8287fdab13af2d36a73561cc234f36fff12cba73da9433fe28b", func := "loop.example/pixelworks/laws.FnExactIndexImage", spec := "fnExactIndexImage", unfollowed := true, recurses := true, plainKeys := false, apart := false }
def FnExactIndexImageSaid : Prop := fnExactIndexImageRow.holds Try.pinned (OpenSpec.ofChange fnExactIndexImageSpec)

/-- ITS FALSE NEIGHBOUR: 'it returns false'. Refute it at one input. -/
def fnExactIndexImageWrong : ChangeSpec := { name := "fnExactIndexImage", fn := fun _ => fun
  | [d1, d2] => { results := [.lit (.bool false)], args := [d1, d2] }
  | _ => none }
def FnExactIndexImageWrongFalsely : Prop := fnExactIndexImageRow.holds Try.pinned (OpenSpec.ofChange fnExactIndexImageWrong)

/-- 'laws.FnExactColorImage': WHATEVER THE INPUT: true; the input reads as it did. -/
def fnExactColorImageSpec : ChangeSpec := { name := "fnExactColorImage", fn := fun _ => fun
  | [d1, d2, d3] => { results := [.lit (.bool true)], args := [d1, d2, d3] }
  | _ => none }
def fnExactColorImageRow : OpenClaim := { program := "ytkjebidkkopalaa", sum := "dcc8e2cdd860d8287fdab13af2d36a73561cc234f36fff12cba73da9433fe28b", func := "loop.example/pixelworks/laws.FnExactColorImage", spec := "fnExactColorImage", unfollowed := true, recurses := true, plainKeys := false, apart := false }
def FnExactColorImageSaid : Prop := fnExactColorImageRow.holds Try.pinned (OpenSpec.ofChange fnExactColorImageSpec)

/-- ITS FALSE NEIGHBOUR: 'it returns false'. Refute it at one input. -/
def fnExactColorImageWrong : ChangeSpec := { name := "fnExactColorImage", fn := fun _ => fun
  | [d1, d2, d3] => { results := [.lit (.bool false)], args := [d1, d2, d3] }
  | _ => none }
def FnExactColorImageWrongFalsely : Prop := fnExactColorImageRow.holds Try.pinned (OpenSpec.ofChange fnExactColorImageWrong)

/- THE SECOND FORM. 'bulk': how many values and letters a reading holds, each counted each time it is reached (what is shared counts as often as it is met; a slice's spare places count too). A statement '..UptoSaid' is the law's where the arguments, and the package variables that the reading takes, are together of bulk at most 1048576: NARROWER than '..Said'. Prove '..Said' where nothing that the law and all that it calls make is longer than what came in: it says more and counts as full. Else prove '..UptoSaid'. A law counts once. -/
mutual
def uptoBulk {H : Type} : DataW H → Nat
  | .lit (.string bytes) => bytes.length + 1
  | .lit _ => 1
  | .nil => 1
  | .ptr d => uptoBulk d + 1
  | .slice elems spare => uptoBulkAll elems + uptoBulkAll spare + 1
  | .agg parts => uptoBulkAll parts + 1
  | .iface _ d => uptoBulk d + 1
  | .map entries => uptoBulkEntries entries + 1
  | .held _ => 1
def uptoBulkAll {H : Type} : List (DataW H) → Nat
  | [] => 0
  | d :: r => uptoBulk d + uptoBulkAll r
def uptoBulkEntries {H : Type} : List (Lit × DataW H) → Nat
  | [] => 0
  | x :: r => uptoBulkEntry x + uptoBulkEntries r
def uptoBulkEntry {H : Type} : Lit × DataW H → Nat
  | (.string bytes, d) => bytes.length + uptoBulk d + 1
  | (_, d) => uptoBulk d + 1
 end
def uptoSmall : (H : Type) → List (DataW H) → Bool := fun _ ds => decide (uptoBulkAll ds ≤ 1048576)
def OpenSpec.upto (s : _root_.Go.ChangeSpec) : _root_.Go.OpenSpec := { _root_.Go.OpenSpec.ofChange s with cond := some uptoSmall }

/-- 'laws.FnPaletteOf', WHERE WHAT IT READS IS OF BULK AT MOST 1048576: true; the input reads as it did. -/
def fnPaletteOfUptoRow : OpenClaim := { program := "ytkjebidkkopalaa", sum := "dcc8e2cdd860d8287fdab13af2d36a73561cc234f36fff12cba73da9433fe28b", func := "loop.example/pixelworks/laws.FnPaletteOf", spec := "fnPaletteOf", unfollowed := true, recurses := true, plainKeys := false, apart := false, narrowed := true }
def FnPaletteOfUptoSaid : Prop := fnPaletteOfUptoRow.holds Try.pinned (OpenSpec.upto fnPaletteOfSpec)

/-- 'laws.FnNearestColor', WHERE WHAT IT READS IS OF BULK AT MOST 1048576: true; the input reads as it did. -/
def fnNearestColorUptoRow : OpenClaim := { program := "ytkjebidkkopalaa", sum := "dcc8e2cdd860d8287fdab13af2d36a73561cc234f36fff12cba73da9433fe28b", func := "loop.example/pixelworks/laws.FnNearestColor", spec := "fnNearestColor", plainKeys := false, apart := false, narrowed := true }
def FnNearestColorUptoSaid : Prop := fnNearestColorUptoRow.holds Try.pinned (OpenSpec.upto fnNearestColorSpec)

/-- 'laws.FnIndexImage', WHERE WHAT IT READS IS OF BULK AT MOST 1048576: true; the input reads as it did. -/
def fnIndexImageUptoRow : OpenClaim := { program := "ytkjebidkkopalaa", sum := "dcc8e2cdd860d8287fdab13af2d36a73561cc234f36fff12cba73da9433fe28b", func := "loop.example/pixelworks/laws.FnIndexImage", spec := "fnIndexImage", unfollowed := true, recurses := true, plainKeys := false, apart := false, narrowed := true }
def FnIndexImageUptoSaid : Prop := fnIndexImageUptoRow.holds Try.pinned (OpenSpec.upto fnIndexImageSpec)

/-- 'laws.FnColorImage', WHERE WHAT IT READS IS OF BULK AT MOST 1048576: true; the input reads as it did. -/
def fnColorImageUptoRow : OpenClaim := { program := "ytkjebidkkopalaa", sum := "dcc8e2cdd860d8287fdab13af2d36a73561cc234f36fff12cba73da9433fe28b", func := "loop.example/pixelworks/laws.FnColorImage", spec := "fnColorImage", unfollowed := true, recurses := true, plainKeys := false, apart := false, narrowed := true }
def FnColorImageUptoSaid : Prop := fnColorImageUptoRow.holds Try.pinned (OpenSpec.upto fnColorImageSpec)

/-- 'laws.FnExactPaletteOf', WHERE WHAT IT READS IS OF BULK AT MOST 1048576: true; the input reads as it did. -/
def fnExactPaletteOfUptoRow : OpenClaim := { program := "ytkjebidkkopalaa", sum := "dcc8e2cdd860d8287fdab13af2d36a73561cc234f36fff12cba73da9433fe28b", func := "loop.example/pixelworks/laws.FnExactPaletteOf", spec := "fnExactPaletteOf", unfollowed := true, recurses := true, plainKeys := false, apart := false, narrowed := true }
def FnExactPaletteOfUptoSaid : Prop := fnExactPaletteOfUptoRow.holds Try.pinned (OpenSpec.upto fnExactPaletteOfSpec)

/-- 'laws.FnExactNearestColor', WHERE WHAT IT READS IS OF BULK AT MOST 1048576: true; the input reads as it did. -/
def fnExactNearestColorUptoRow : OpenClaim := { program := "ytkjebidkkopalaa", sum := "dcc8e2cdd860d8287fdab13af2d36a73561cc234f36fff12cba73da9433fe28b", func := "loop.example/pixelworks/laws.FnExactNearestColor", spec := "fnExactNearestColor", plainKeys := false, apart := false, narrowed := true }
def FnExactNearestColorUptoSaid : Prop := fnExactNearestColorUptoRow.holds Try.pinned (OpenSpec.upto fnExactNearestColorSpec)

/-- 'laws.FnExactIndexImage', WHERE WHAT IT READS IS OF BULK AT MOST 1048576: true; the input reads as it did. -/
def fnExactIndexImageUptoRow : OpenClaim := { program := "ytkjebidkkopalaa", sum := "dcc8e2cdd860d8287fdab13af2d36a73561cc234f36fff12cba73da9433fe28b", func := "loop.example/pixelworks/laws.FnExactIndexImage", spec := "fnExactIndexImage", unfollowed := true, recurses := true, plainKeys := false, apart := false, narrowed := true }
def FnExactIndexImageUptoSaid : Prop := fnExactIndexImageUptoRow.holds Try.pinned (OpenSpec.upto fnExactIndexImageSpec)

/-- 'laws.FnExactColorImage', WHERE WHAT IT READS IS OF BULK AT MOST 1048576: true; the input reads as it did. -/
def fnExactColorImageUptoRow : OpenClaim := { program := "ytkjebidkkopalaa", sum := "dcc8e2cdd860d8287fdab13af2d36a73561cc234f36fff12cba73da9433fe28b", func := "loop.example/pixelworks/laws.FnExactColorImage", spec := "fnExactColorImage", unfollowed := true, recurses := true, plainKeys := false, apart := false, narrowed := true }
def FnExactColorImageUptoSaid : Prop := fnExactColorImageUptoRow.holds Try.pinned (OpenSpec.upto fnExactColorImageSpec)

end Rows
end Go.Proofs.Ytkjebidkkopalaa
