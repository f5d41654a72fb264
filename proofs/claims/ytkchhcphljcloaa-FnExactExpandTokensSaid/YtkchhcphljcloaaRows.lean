/-
  No cell of these rows narrows 'for every input' (looked for: loops, veiled, ifaces, maps, wideKeys, modest, calm, conditions, laid).
  DERIVED. THE GIVEN ROWS OF THIS SEAT. 10 by the template 'for every input the law returns true; each argument reads behind the call as it read before'; 0 by the template 'total and deterministic' (their statements: YtkchhcphljcloaaTotals.lean).
  GIVEN WITH THE SEED: the statements are not yours to turn. If you find one false, say at which input.
  Laid BY PROGRAM, IN A SANDBOX (cutbox-rows.mjs): the forced cells as the released guide's own fill.sh prints them over the translation b171f46a8852cb61… (all of the seat's roots in one cut). By AI agents, Wed Nov 11 2026. No macro, syntax, notation, axiom, sorry.
-/
import Derived.Test.YtkchhcphljcloaaChecked
import GoSem.Claim
import GoSem.ClaimJoined
import GoSem.ClaimMapViews
import Derived.JoinedTies
import Derived.KernelRfl
namespace Go.Proofs.Ytkchhcphljcloaa
/- THE CELL 'sum', in the pinned program and in every row, IS THE sha256 OF THE DUMP (.gsa) THAT YtkchhcphljcloaaProg.lean LOADS. Nothing in Lean hashes anything: it is a label: what it is worth is what the hold of that sum in a sandbox is worth. -/
noncomputable def Try.pinned : Pinned := { name := "ytkchhcphljcloaa", sum := "b171f46a8852cb6163e08eb98f9caecc61becef8eb1df40fbb179eddd921a658", checked := Try.checked }
namespace Rows
def none {H : Type} : Left H := { results := [], args := [] }

/-- 'laws.FnExactAreaOf': WHATEVER THE INPUT: true; the input reads as it did. -/
def fnExactAreaOfSpec : ChangeSpec := { name := "fnExactAreaOf", fn := fun _ => fun
  | [d] => { results := [.lit (.bool true)], args := [d] }
  | _ => none }
def fnExactAreaOfRow : OpenClaim := { program := "ytkchhcphljcloaa", sum := "b171f46a8852cb6163e08eb98f9caecc61becef8eb1df40fbb179eddd921a658", func := "loop.example/pixelworks/laws.FnExactAreaOf", spec := "fnExactAreaOf", apart := false }
def FnExactAreaOfSaid : Prop := fnExactAreaOfRow.holds Try.pinned (OpenSpec.ofChange fnExactAreaOfSpec)

/-- ITS FALSE NEIGHBOUR: 'it returns false'. Refute it at one input. -/
def fnExactAreaOfWrong : ChangeSpec := { name := "fnExactAreaOf", fn := fun _ => fun
  | [d] => { results := [.lit (.bool false)], args := [d] }
  | _ => none }
def FnExactAreaOfWrongFalsely : Prop := fnExactAreaOfRow.holds Try.pinned (OpenSpec.ofChange fnExactAreaOfWrong)

/-- 'laws.FnExactValidRegion': WHATEVER THE INPUT: true; the input reads as it did. -/
def fnExactValidRegionSpec : ChangeSpec := { name := "fnExactValidRegion", fn := fun _ => fun
  | [d] => { results := [.lit (.bool true)], args := [d] }
  | _ => none }
def fnExactValidRegionRow : OpenClaim := { program := "ytkchhcphljcloaa", sum := "b171f46a8852cb6163e08eb98f9caecc61becef8eb1df40fbb179eddd921a658", func := "loop.example/pixelworks/laws.FnExactValidRegion", spec := "fnExactValidRegion", apart := false }
def FnExactValidRegionSaid : Prop := fnExactValidRegionRow.holds Try.pinned (OpenSpec.ofChange fnExactValidRegionSpec)

/-- ITS FALSE NEIGHBOUR: 'it returns false'. Refute it at one input. -/
def fnExactValidRegionWrong : ChangeSpec := { name := "fnExactValidRegion", fn := fun _ => fun
  | [d] => { results := [.lit (.bool false)], args := [d] }
  | _ => none }
def FnExactValidRegionWrongFalsely : Prop := fnExactValidRegionRow.holds Try.pinned (OpenSpec.ofChange fnExactValidRegionWrong)

/-- 'laws.FnExactRegionHas': WHATEVER THE INPUT: true; the input reads as it did. -/
def fnExactRegionHasSpec : ChangeSpec := { name := "fnExactRegionHas", fn := fun _ => fun
  | [d1, d2, d3] => { results := [.lit (.bool true)], args := [d1, d2, d3] }
  | _ => none }
def fnExactRegionHasRow : OpenClaim := { program := "ytkchhcphljcloaa", sum := "b171f46a8852cb6163e08eb98f9caecc61becef8eb1df40fbb179eddd921a658", func := "loop.example/pixelworks/laws.FnExactRegionHas", spec := "fnExactRegionHas", unfollowed := true, recurses := true, apart := false }
def FnExactRegionHasSaid : Prop := fnExactRegionHasRow.holds Try.pinned (OpenSpec.ofChange fnExactRegionHasSpec)

/-- ITS FALSE NEIGHBOUR: 'it returns false'. Refute it at one input. -/
def fnExactRegionHasWrong : ChangeSpec := { name := "fnExactRegionHas", fn := fun _ => fun
  | [d1, d2, d3] => { results := [.lit (.bool false)], args := [d1, d2, d3] }
  | _ => none }
def FnExactRegionHasWrongFalsely : Prop := fnExactRegionHasRow.holds Try.pinned (OpenSpec.ofChange fnExactRegionHasWrong)

/-- 'laws.FnExactBoundsOf': WHATEVER THE INPUT: true; the input reads as it did. -/
def fnExactBoundsOfSpec : ChangeSpec := { name := "fnExactBoundsOf", fn := fun _ => fun
  | [d] => { results := [.lit (.bool true)], args := [d] }
  | _ => none }
def fnExactBoundsOfRow : OpenClaim := { program := "ytkchhcphljcloaa", sum := "b171f46a8852cb6163e08eb98f9caecc61becef8eb1df40fbb179eddd921a658", func := "loop.example/pixelworks/laws.FnExactBoundsOf", spec := "fnExactBoundsOf", apart := false }
def FnExactBoundsOfSaid : Prop := fnExactBoundsOfRow.holds Try.pinned (OpenSpec.ofChange fnExactBoundsOfSpec)

/-- ITS FALSE NEIGHBOUR: 'it returns false'. Refute it at one input. -/
def fnExactBoundsOfWrong : ChangeSpec := { name := "fnExactBoundsOf", fn := fun _ => fun
  | [d] => { results := [.lit (.bool false)], args := [d] }
  | _ => none }
def FnExactBoundsOfWrongFalsely : Prop := fnExactBoundsOfRow.holds Try.pinned (OpenSpec.ofChange fnExactBoundsOfWrong)

/-- 'laws.FnExactBoxRegion': WHATEVER THE INPUT: true; the input reads as it did. -/
def fnExactBoxRegionSpec : ChangeSpec := { name := "fnExactBoxRegion", fn := fun _ => fun
  | [d] => { results := [.lit (.bool true)], args := [d] }
  | _ => none }
def fnExactBoxRegionRow : OpenClaim := { program := "ytkchhcphljcloaa", sum := "b171f46a8852cb6163e08eb98f9caecc61becef8eb1df40fbb179eddd921a658", func := "loop.example/pixelworks/laws.FnExactBoxRegion", spec := "fnExactBoxRegion", apart := false }
def FnExactBoxRegionSaid : Prop := fnExactBoxRegionRow.holds Try.pinned (OpenSpec.ofChange fnExactBoxRegionSpec)

/-- ITS FALSE NEIGHBOUR: 'it returns false'. Refute it at one input. -/
def fnExactBoxRegionWrong : ChangeSpec := { name := "fnExactBoxRegion", fn := fun _ => fun
  | [d] => { results := [.lit (.bool false)], args := [d] }
  | _ => none }
def FnExactBoxRegionWrongFalsely : Prop := fnExactBoxRegionRow.holds Try.pinned (OpenSpec.ofChange fnExactBoxRegionWrong)

/-- 'laws.FnBoxRegion': WHATEVER THE INPUT: true; the input reads as it did. -/
def fnBoxRegionSpec : ChangeSpec := { name := "fnBoxRegion", fn := fun _ => fun
  | [d] => { results := [.lit (.bool true)], args := [d] }
  | _ => none }
def fnBoxRegionRow : OpenClaim := { program := "ytkchhcphljcloaa", sum := "b171f46a8852cb6163e08eb98f9caecc61becef8eb1df40fbb179eddd921a658", func := "loop.example/pixelworks/laws.FnBoxRegion", spec := "fnBoxRegion", apart := false }
def FnBoxRegionSaid : Prop := fnBoxRegionRow.holds Try.pinned (OpenSpec.ofChange fnBoxRegionSpec)

/-- ITS FALSE NEIGHBOUR: 'it returns false'. Refute it at one input. -/
def fnBoxRegionWrong : ChangeSpec := { name := "fnBoxRegion", fn := fun _ => fun
  | [d] => { results := [.lit (.bool false)], args := [d] }
  | _ => none }
def FnBoxRegionWrongFalsely : Prop := fnBoxRegionRow.holds Try.pinned (OpenSpec.ofChange fnBoxRegionWrong)

/-- 'laws.FnExactTokenCost': WHATEVER THE INPUT: true; the input reads as it did. -/
def fnExactTokenCostSpec : ChangeSpec := { name := "fnExactTokenCost", fn := fun _ => fun
  | [d] => { results := [.lit (.bool true)], args := [d] }
  | _ => none }
def fnExactTokenCostRow : OpenClaim := { program := "ytkchhcphljcloaa", sum := "b171f46a8852cb6163e08eb98f9caecc61becef8eb1df40fbb179eddd921a658", func := "loop.example/pixelworks/laws.FnExactTokenCost", spec := "fnExactTokenCost", apart := false }
def FnExactTokenCostSaid : Prop := fnExactTokenCostRow.holds Try.pinned (OpenSpec.ofChange fnExactTokenCostSpec)

/-- ITS FALSE NEIGHBOUR: 'it returns false'. Refute it at one input. -/
def fnExactTokenCostWrong : ChangeSpec := { name := "fnExactTokenCost", fn := fun _ => fun
  | [d] => { results := [.lit (.bool false)], args := [d] }
  | _ => none }
def FnExactTokenCostWrongFalsely : Prop := fnExactTokenCostRow.holds Try.pinned (OpenSpec.ofChange fnExactTokenCostWrong)

/-- 'laws.FnExactExpandTokens': WHATEVER THE INPUT: true; the input reads as it did. -/
def fnExactExpandTokensSpec : ChangeSpec := { name := "fnExactExpandTokens", fn := fun _ => fun
  | [d] => { results := [.lit (.bool true)], args := [d] }
  | _ => none }
def fnExactExpandTokensRow : OpenClaim := { program := "ytkchhcphljcloaa", sum := "b171f46a8852cb6163e08eb98f9caecc61becef8eb1df40fbb179eddd921a658", func := "loop.example/pixelworks/laws.FnExactExpandTokens", spec := "fnExactExpandTokens", apart := false }
def FnExactExpandTokensSaid : Prop := fnExactExpandTokensRow.holds Try.pinned (OpenSpec.ofChange fnExactExpandTokensSpec)

/-- ITS FALSE NEIGHBOUR: 'it returns false'. Refute it at one input. -/
def fnExactExpandTokensWrong : ChangeSpec := { name := "fnExactExpandTokens", fn := fun _ => fun
  | [d] => { results := [.lit (.bool false)], args := [d] }
  | _ => none }
def FnExactExpandTokensWrongFalsely : Prop := fnExactExpandTokensRow.holds Try.pinned (OpenSpec.ofChange fnExactExpandTokensWrong)

/-- 'laws.FnExactNearestColor': WHATEVER THE INPUT: true; the input reads as it did. -/
def fnExactNearestColorSpec : ChangeSpec := { name := "fnExactNearestColor", fn := fun _ => fun
  | [d1, d2] => { results := [.lit (.bool true)], args := [d1, d2] }
  | _ => none }
def fnExactNearestColorRow : OpenClaim := { program := "ytkchhcphljcloaa", sum := "b171f46a8852cb6163e08eb98f9caecc61becef8eb1df40fbb179eddd921a658", func := "loop.example/pixelworks/laws.FnExactNearestColor", spec := "fnExactNearestColor", apart := false }
def FnExactNearestColorSaid : Prop := fnExactNearestColorRow.holds Try.pinned (OpenSpec.ofChange fnExactNearestColorSpec)

/-- ITS FALSE NEIGHBOUR: 'it returns false'. Refute it at one input. -/
def fnExactNearestColorWrong : ChangeSpec := { name := "fnExactNearestColor", fn := fun _ => fun
  | [d1, d2] => { results := [.lit (.bool false)], args := [d1, d2] }
  | _ => none }
def FnExactNearestColorWrongFalsely : Prop := fnExactNearestColorRow.holds Try.pinned (OpenSpec.ofChange fnExactNearestColorWrong)

/-- 'laws.FnNearestColor': WHATEVER THE INPUT: true; the input reads as it did. -/
def fnNearestColorSpec : ChangeSpec := { name := "fnNearestColor", fn := fun _ => fun
  | [d] => { results := [.lit (.bool true)], args := [d] }
  | _ => none }
def fnNearestColorRow : OpenClaim := { program := "ytkchhcphljcloaa", sum := "b171f46a8852cb6163e08eb98f9caecc61becef8eb1df40fbb179eddd921a658", func := "loop.example/pixelworks/laws.FnNearestColor", spec := "fnNearestColor", apart := false }
def FnNearestColorSaid : Prop := fnNearestColorRow.holds Try.pinned (OpenSpec.ofChange fnNearestColorSpec)

/-- ITS FALSE NEIGHBOUR: 'it returns false'. Refute it at one input. -/
def fnNearestColorWrong : ChangeSpec := { name := "fnNearestColor", fn := fun _ => fun
  | [d] => { results := [.lit (.bool false)], args := [d] }
  | _ => none }
def FnNearestColorWrongFalsely : Prop := fnNearestColorRow.holds Try.pinned (OpenSpec.ofChange fnNearestColorWrong)

/- THE SECOND FORM. 'bulk': how many values and letters a reading holds, each counted each time it is reached (what is shared counts as often as it is met; a slice's spare places count too). A statement '..UptoSaid' is the law's where the arguments, and the package variables that the reading takes, are together of bulk at most 1048576: NARROWER than '..Said'. Prove '..Said' where nothing that the law and all that it calls make is longer than what came in: it says more and counts as full. Else prove '..UptoSaid'. A law counts once. -/
mutual
def uptoBulk {H : Type} : DataW H → Nat
  | .lit (.string bytes) => bytes.length + 1
  | .lit _ => 1
  | .nil => 1
  | .ptr d => uptoBulk d + 1
  | .slice elems spare => uptoBulkAll elems + uptoBulkAll spare + 1
  | .agg parts => uptoBulkAll parts + 1
  | .iface _ d => uptoBulk d + 1
  | .map entries => uptoBulkEntries entries + 1
  | .held _ => 1
def uptoBulkAll {H : Type} : List (DataW H) → Nat
  | [] => 0
  | d :: r => uptoBulk d + uptoBulkAll r
def uptoBulkEntries {H : Type} : List (Lit × DataW H) → Nat
  | [] => 0
  | x :: r => uptoBulkEntry x + uptoBulkEntries r
def uptoBulkEntry {H : Type} : Lit × DataW H → Nat
  | (.string bytes, d) => bytes.length + uptoBulk d + 1
  | (_, d) => uptoBulk d + 1
 end
def uptoSmall : (H : Type) → List (DataW H) → Bool := fun _ ds => decide (uptoBulkAll ds ≤ 1048576)
def OpenSpec.upto (s : _root_.Go.ChangeSpec) : _root_.Go.OpenSpec := { _root_.Go.OpenSpec.ofChange s with cond := some uptoSmall }

/-- 'laws.FnExactAreaOf', WHERE WHAT IT READS IS OF BULK AT MOST 1048576: true; the input reads as it did. -/
def fnExactAreaOfUptoRow : OpenClaim := { program := "ytkchhcphljcloaa", sum := "b171f46a8852cb6163e08eb98f9caecc61becef8eb1df40fbb179eddd921a658", func := "loop.example/pixelworks/laws.FnExactAreaOf", spec := "fnExactAreaOf", apart := false, narrowed := true }
def FnExactAreaOfUptoSaid : Prop := fnExactAreaOfUptoRow.holds Try.pinned (OpenSpec.upto fnExactAreaOfSpec)

/-- 'laws.FnExactValidRegion', WHERE WHAT IT READS IS OF BULK AT MOST 1048576: true; the input reads as it did. -/
def fnExactValidRegionUptoRow : OpenClaim := { program := "ytkchhcphljcloaa", sum := "b171f46a8852cb6163e08eb98f9caecc61becef8eb1df40fbb179eddd921a658", func := "loop.example/pixelworks/laws.FnExactValidRegion", spec := "fnExactValidRegion", apart := false, narrowed := true }
def FnExactValidRegionUptoSaid : Prop := fnExactValidRegionUptoRow.holds Try.pinned (OpenSpec.upto fnExactValidRegionSpec)

/-- 'laws.FnExactRegionHas', WHERE WHAT IT READS IS OF BULK AT MOST 1048576: true; the input reads as it did. -/
def fnExactRegionHasUptoRow : OpenClaim := { program := "ytkchhcphljcloaa", sum := "b171f46a8852cb6163e08eb98f9caecc61becef8eb1df40fbb179eddd921a658", func := "loop.example/pixelworks/laws.FnExactRegionHas", spec := "fnExactRegionHas", unfollowed := true, recurses := true, apart := false, narrowed := true }
def FnExactRegionHasUptoSaid : Prop := fnExactRegionHasUptoRow.holds Try.pinned (OpenSpec.upto fnExactRegionHasSpec)

/-- 'laws.FnExactBoundsOf', WHERE WHAT IT READS IS OF BULK AT MOST 1048576: true; the input reads as it did. -/
def fnExactBoundsOfUptoRow : OpenClaim := { program := "ytkchhcphljcloaa", sum := "b171f46a8852cb6163e08eb98f9caecc61becef8eb1df40fbb179eddd921a658", func := "loop.example/pixelworks/laws.FnExactBoundsOf", spec := "fnExactBoundsOf", apart := false, narrowed := true }
def FnExactBoundsOfUptoSaid : Prop := fnExactBoundsOfUptoRow.holds Try.pinned (OpenSpec.upto fnExactBoundsOfSpec)

/-- 'laws.FnExactBoxRegion', WHERE WHAT IT READS IS OF BULK AT MOST 1048576: true; the input reads as it did. -/
def fnExactBoxRegionUptoRow : OpenClaim := { program := "ytkchhcphljcloaa", sum := "b171f46a8852cb6163e08eb98f9caecc61becef8eb1df40fbb179eddd921a658", func := "loop.example/pixelworks/laws.FnExactBoxRegion", spec := "fnExactBoxRegion", apart := false, narrowed := true }
def FnExactBoxRegionUptoSaid : Prop := fnExactBoxRegionUptoRow.holds Try.pinned (OpenSpec.upto fnExactBoxRegionSpec)

/-- 'laws.FnBoxRegion', WHERE WHAT IT READS IS OF BULK AT MOST 1048576: true; the input reads as it did. -/
def fnBoxRegionUptoRow : OpenClaim := { program := "ytkchhcphljcloaa", sum := "b171f46a8852cb6163e08eb98f9caecc61becef8eb1df40fbb179eddd921a658", func := "loop.example/pixelworks/laws.FnBoxRegion", spec := "fnBoxRegion", apart := false, narrowed := true }
def FnBoxRegionUptoSaid : Prop := fnBoxRegionUptoRow.holds Try.pinned (OpenSpec.upto fnBoxRegionSpec)

/-- 'laws.FnExactTokenCost', WHERE WHAT IT READS IS OF BULK AT MOST 1048576: true; the input reads as it did. -/
def fnExactTokenCostUptoRow : OpenClaim := { program := "ytkchhcphljcloaa", sum := "b171f46a8852cb6163e08eb98f9caecc61becef8eb1df40fbb179eddd921a658", func := "loop.example/pixelworks/laws.FnExactTokenCost", spec := "fnExactTokenCost", apart := false, narrowed := true }
def FnExactTokenCostUptoSaid : Prop := fnExactTokenCostUptoRow.holds Try.pinned (OpenSpec.upto fnExactTokenCostSpec)

/-- 'laws.FnExactExpandTokens', WHERE WHAT IT READS IS OF BULK AT MOST 1048576: true; the input reads as it did. -/
def fnExactExpandTokensUptoRow : OpenClaim := { program := "ytkchhcphljcloaa", sum := "b171f46a8852cb6163e08eb98f9caecc61becef8eb1df40fbb179eddd921a658", func := "loop.example/pixelworks/laws.FnExactExpandTokens", spec := "fnExactExpandTokens", apart := false, narrowed := true }
def FnExactExpandTokensUptoSaid : Prop := fnExactExpandTokensUptoRow.holds Try.pinned (OpenSpec.upto fnExactExpandTokensSpec)

/-- 'laws.FnExactNearestColor', WHERE WHAT IT READS IS OF BULK AT MOST 1048576: true; the input reads as it did. -/
def fnExactNearestColorUptoRow : OpenClaim := { program := "ytkchhcphljcloaa", sum := "b171f46a8852cb6163e08eb98f9caecc61becef8eb1df40fbb179eddd921a658", func := "loop.example/pixelworks/laws.FnExactNearestColor", spec := "fnExactNearestColor", apart := false, narrowed := true }
def FnExactNearestColorUptoSaid : Prop := fnExactNearestColorUptoRow.holds Try.pinned (OpenSpec.upto fnExactNearestColorSpec)

/-- 'laws.FnNearestColor', WHERE WHAT IT READS IS OF BULK AT MOST 1048576: true; the input reads as it did. -/
def fnNearestColorUptoRow : OpenClaim := { program := "ytkchhcphljcloaa", sum := "b171f46a8852cb6163e08eb98f9caecc61becef8eb1df40fbb179eddd921a658", func := "loop.example/pixelworks/laws.FnNearestColor", spec := "fnNearestColor", apart := false, narrowed := true }
def FnNearestColorUptoSaid : Prop := fnNearestColorUptoRow.holds Try.pinned (OpenSpec.upto fnNearestColorSpec)

end Rows
end Go.Proofs.Ytkchhcphljcloaa
