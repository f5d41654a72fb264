/-
  No cell of these rows narrows 'for every input' (looked for: loops, veiled, ifaces, maps, wideKeys, modest, calm, conditions, laid).
  DERIVED. THE GIVEN ROWS OF THIS SEAT. 11 by the template 'for every input the law returns true; each argument reads behind the call as it read before'; 0 by the template 'total and deterministic' (their statements: YtjekhlhnjknbeaaTotals.lean).
  GIVEN WITH THE SEED: the statements are not yours to turn. If you find one false, say at which input.
  Laid BY PROGRAM, IN A SANDBOX (cutbox-rows.mjs): the forced cells as the released guide's own fill.sh prints them over the translation 05e4b0a6f4e037f9… (all of the seat's roots in one cut). By AI agents, Wed Nov 11 2026. No macro, syntax, notation, axiom, sorry.
-/
import Derived.Test.YtjekhlhnjknbeaaChecked
import GoSem.Claim
import GoSem.ClaimJoined
import GoSem.ClaimMapViews
import Derived.JoinedTies
import Derived.KernelRfl
namespace Go.Proofs.Ytjekhlhnjknbeaa
/- THE CELL 'sum', in the pinned program and in every row, IS THE sha256 OF THE DUMP (.gsa) THAT YtjekhlhnjknbeaaProg.lean LOADS. Nothing in Lean hashes anything: it is a label: what it is worth is what the hold of that sum in a sandbox is worth. -/
noncomputable def Try.pinned : Pinned := { name := "ytjekhlhnjknbeaa", sum := "05e4b0a6f4e037f9eacf1915aac40abfd7d605f428a027b5b7c03937b9bcfbde", checked := Try.checked }
namespace Rows
def none {H : Type} : Left H := { results := [], args := [] }

/-- 'laws.FnExactChangedRegion': WHATEVER THE INPUT: true; the input reads as it did. -/
def fnExactChangedRegionSpec : ChangeSpec := { name := "fnExactChangedRegion", fn := fun _ => fun
  | [d1, d2] => { results := [.lit (.bool true)], args := [d1, d2] }
  | _ => none }
def fnExactChangedRegionRow : OpenClaim := { program := "ytjekhlhnjknbeaa", sum := "05e4b0a6f4e037f9eacf1915aac40abfd7d605f428a027b5b7c03937b9bcfbde", func := "loop.example/pixelworks/laws.FnExactChangedRegion", spec := "fnExactChangedRegion", unfollowed := true, recurses := true, apart := false }
def FnExactChangedRegionSaid : Prop := fnExactChangedRegionRow.holds Try.pinned (OpenSpec.ofChange fnExactChangedRegionSpec)

/-- ITS FALSE NEIGHBOUR: 'it returns false'. Refute it at one input. -/
def fnExactChangedRegionWrong : ChangeSpec := { name := "fnExactChangedRegion", fn := fun _ => fun
  | [d1, d2] => { results := [.lit (.bool false)], args := [d1, d2] }
  | _ => none }
def FnExactChangedRegionWrongFalsely : Prop := fnExactChangedRegionRow.holds Try.pinned (OpenSpec.ofChange fnExactChangedRegionWrong)

/-- 'laws.FnExactDiscRegion': WHATEVER THE INPUT: true; the input reads as it did. -/
def fnExactDiscRegionSpec : ChangeSpec := { name := "fnExactDiscRegion", fn := fun _ => fun
  | [d1, d2, d3] => { results := [.lit (.bool true)], args := [d1, d2, d3] }
  | _ => none }
def fnExactDiscRegionRow : OpenClaim := { program := "ytjekhlhnjknbeaa", sum := "05e4b0a6f4e037f9eacf1915aac40abfd7d605f428a027b5b7c03937b9bcfbde", func := "loop.example/pixelworks/laws.FnExactDiscRegion", spec := "fnExactDiscRegion", unfollowed := true, recurses := true, apart := false }
def FnExactDiscRegionSaid : Prop := fnExactDiscRegionRow.holds Try.pinned (OpenSpec.ofChange fnExactDiscRegionSpec)

/-- ITS FALSE NEIGHBOUR: 'it returns false'. Refute it at one input. -/
def fnExactDiscRegionWrong : ChangeSpec := { name := "fnExactDiscRegion", fn := fun _ => fun
  | [d1, d2, d3] => { results := [.lit (.bool false)], args := [d1, d2, d3] }
  | _ => none }
def FnExactDiscRegionWrongFalsely : Prop := fnExactDiscRegionRow.holds Try.pinned (OpenSpec.ofChange fnExactDiscRegionWrong)

/-- 'laws.FnExactCombineRegions': WHATEVER THE INPUT: true; the input reads as it did. -/
def fnExactCombineRegionsSpec : ChangeSpec := { name := "fnExactCombineRegions", fn := fun _ => fun
  | [d1, d2, d3] => { results := [.lit (.bool true)], args := [d1, d2, d3] }
  | _ => none }
def fnExactCombineRegionsRow : OpenClaim := { program := "ytjekhlhnjknbeaa", sum := "05e4b0a6f4e037f9eacf1915aac40abfd7d605f428a027b5b7c03937b9bcfbde", func := "loop.example/pixelworks/laws.FnExactCombineRegions", spec := "fnExactCombineRegions", unfollowed := true, recurses := true, apart := false }
def FnExactCombineRegionsSaid : Prop := fnExactCombineRegionsRow.holds Try.pinned (OpenSpec.ofChange fnExactCombineRegionsSpec)

/-- ITS FALSE NEIGHBOUR: 'it returns false'. Refute it at one input. -/
def fnExactCombineRegionsWrong : ChangeSpec := { name := "fnExactCombineRegions", fn := fun _ => fun
  | [d1, d2, d3] => { results := [.lit (.bool false)], args := [d1, d2, d3] }
  | _ => none }
def FnExactCombineRegionsWrongFalsely : Prop := fnExactCombineRegionsRow.holds Try.pinned (OpenSpec.ofChange fnExactCombineRegionsWrong)

/-- 'laws.FnAreaOf': WHATEVER THE INPUT: true; the input reads as it did. -/
def fnAreaOfSpec : ChangeSpec := { name := "fnAreaOf", fn := fun _ => fun
  | [d] => { results := [.lit (.bool true)], args := [d] }
  | _ => none }
def fnAreaOfRow : OpenClaim := { program := "ytjekhlhnjknbeaa", sum := "05e4b0a6f4e037f9eacf1915aac40abfd7d605f428a027b5b7c03937b9bcfbde", func := "loop.example/pixelworks/laws.FnAreaOf", spec := "fnAreaOf", apart := false }
def FnAreaOfSaid : Prop := fnAreaOfRow.holds Try.pinned (OpenSpec.ofChange fnAreaOfSpec)

/-- ITS FALSE NEIGHBOUR: 'it returns false'. Refute it at one input. -/
def fnAreaOfWrong : ChangeSpec := { name := "fnAreaOf", fn := fun _ => fun
  | [d] => { results := [.lit (.bool false)], args := [d] }
  | _ => none }
def FnAreaOfWrongFalsely : Prop := fnAreaOfRow.holds Try.pinned (OpenSpec.ofChange fnAreaOfWrong)

/-- 'laws.FnRegionHas': WHATEVER THE INPUT: true; the input reads as it did. -/
def fnRegionHasSpec : ChangeSpec := { name := "fnRegionHas", fn := fun _ => fun
  | [d] => { results := [.lit (.bool true)], args := [d] }
  | _ => none }
def fnRegionHasRow : OpenClaim := { program := "ytjekhlhnjknbeaa", sum := "05e4b0a6f4e037f9eacf1915aac40abfd7d605f428a027b5b7c03937b9bcfbde", func := "loop.example/pixelworks/laws.FnRegionHas", spec := "fnRegionHas", unfollowed := true, recurses := true, apart := false }
def FnRegionHasSaid : Prop := fnRegionHasRow.holds Try.pinned (OpenSpec.ofChange fnRegionHasSpec)

/-- ITS FALSE NEIGHBOUR: 'it returns false'. Refute it at one input. -/
def fnRegionHasWrong : ChangeSpec := { name := "fnRegionHas", fn := fun _ => fun
  | [d] => { results := [.lit (.bool false)], args := [d] }
  | _ => none }
def FnRegionHasWrongFalsely : Prop := fnRegionHasRow.holds Try.pinned (OpenSpec.ofChange fnRegionHasWrong)

/-- 'laws.FnValidRegion': WHATEVER THE INPUT: true; the input reads as it did. -/
def fnValidRegionSpec : ChangeSpec := { name := "fnValidRegion", fn := fun _ => fun
  | [d] => { results := [.lit (.bool true)], args := [d] }
  | _ => none }
def fnValidRegionRow : OpenClaim := { program := "ytjekhlhnjknbeaa", sum := "05e4b0a6f4e037f9eacf1915aac40abfd7d605f428a027b5b7c03937b9bcfbde", func := "loop.example/pixelworks/laws.FnValidRegion", spec := "fnValidRegion", unfollowed := true, recurses := true, apart := false }
def FnValidRegionSaid : Prop := fnValidRegionRow.holds Try.pinned (OpenSpec.ofChange fnValidRegionSpec)

/-- ITS FALSE NEIGHBOUR: 'it returns false'. Refute it at one input. -/
def fnValidRegionWrong : ChangeSpec := { name := "fnValidRegion", fn := fun _ => fun
  | [d] => { results := [.lit (.bool false)], args := [d] }
  | _ => none }
def FnValidRegionWrongFalsely : Prop := fnValidRegionRow.holds Try.pinned (OpenSpec.ofChange fnValidRegionWrong)

/-- 'laws.FnCombineRegions': WHATEVER THE INPUT: true; the input reads as it did. -/
def fnCombineRegionsSpec : ChangeSpec := { name := "fnCombineRegions", fn := fun _ => fun
  | [d] => { results := [.lit (.bool true)], args := [d] }
  | _ => none }
def fnCombineRegionsRow : OpenClaim := { program := "ytjekhlhnjknbeaa", sum := "05e4b0a6f4e037f9eacf1915aac40abfd7d605f428a027b5b7c03937b9bcfbde", func := "loop.example/pixelworks/laws.FnCombineRegions", spec := "fnCombineRegions", unfollowed := true, recurses := true, apart := false }
def FnCombineRegionsSaid : Prop := fnCombineRegionsRow.holds Try.pinned (OpenSpec.ofChange fnCombineRegionsSpec)

/-- ITS FALSE NEIGHBOUR: 'it returns false'. Refute it at one input. -/
def fnCombineRegionsWrong : ChangeSpec := { name := "fnCombineRegions", fn := fun _ => fun
  | [d] => { results := [.lit (.bool false)], args := [d] }
  | _ => none }
def FnCombineRegionsWrongFalsely : Prop := fnCombineRegionsRow.holds Try.pinned (OpenSpec.ofChange fnCombineRegionsWrong)

/-- 'laws.FnCombineRegionsArea': WHATEVER THE INPUT: true; the input reads as it did. -/
def fnCombineRegionsAreaSpec : ChangeSpec := { name := "fnCombineRegionsArea", fn := fun _ => fun
  | [d] => { results := [.lit (.bool true)], args := [d] }
  | _ => none }
def fnCombineRegionsAreaRow : OpenClaim := { program := "ytjekhlhnjknbeaa", sum := "05e4b0a6f4e037f9eacf1915aac40abfd7d605f428a027b5b7c03937b9bcfbde", func := "loop.example/pixelworks/laws.FnCombineRegionsArea", spec := "fnCombineRegionsArea", unfollowed := true, recurses := true, apart := false }
def FnCombineRegionsAreaSaid : Prop := fnCombineRegionsAreaRow.holds Try.pinned (OpenSpec.ofChange fnCombineRegionsAreaSpec)

/-- ITS FALSE NEIGHBOUR: 'it returns false'. Refute it at one input. -/
def fnCombineRegionsAreaWrong : ChangeSpec := { name := "fnCombineRegionsArea", fn := fun _ => fun
  | [d] => { results := [.lit (.bool false)], args := [d] }
  | _ => none }
def FnCombineRegionsAreaWrongFalsely : Prop := fnCombineRegionsAreaRow.holds Try.pinned (OpenSpec.ofChange fnCombineRegionsAreaWrong)

/-- 'laws.FnCombineRegionsOrder': WHATEVER THE INPUT: true; the input reads as it did. -/
def fnCombineRegionsOrderSpec : ChangeSpec := { name := "fnCombineRegionsOrder", fn := fun _ => fun
  | [d] => { results := [.lit (.bool true)], args := [d] }
  | _ => none }
def fnCombineRegionsOrderRow : OpenClaim := { program := "ytjekhlhnjknbeaa", sum := "05e4b0a6f4e037f9eacf1915aac40abfd7d605f428a027b5b7c03937b9bcfbde", func := "loop.example/pixelworks/laws.FnCombineRegionsOrder", spec := "fnCombineRegionsOrder", unfollowed := true, recurses := true, apart := false }
def FnCombineRegionsOrderSaid : Prop := fnCombineRegionsOrderRow.holds Try.pinned (OpenSpec.ofChange fnCombineRegionsOrderSpec)

/-- ITS FALSE NEIGHBOUR: 'it returns false'. Refute it at one input. -/
def fnCombineRegionsOrderWrong : ChangeSpec := { name := "fnCombineRegionsOrder", fn := fun _ => fun
  | [d] => { results := [.lit (.bool false)], args := [d] }
  | _ => none }
def FnCombineRegionsOrderWrongFalsely : Prop := fnCombineRegionsOrderRow.holds Try.pinned (OpenSpec.ofChange fnCombineRegionsOrderWrong)

/-- 'laws.FnBoundsOf': WHATEVER THE INPUT: true; the input reads as it did. -/
def fnBoundsOfSpec : ChangeSpec := { name := "fnBoundsOf", fn := fun _ => fun
  | [d] => { results := [.lit (.bool true)], args := [d] }
  | _ => none }
def fnBoundsOfRow : OpenClaim := { program := "ytjekhlhnjknbeaa", sum := "05e4b0a6f4e037f9eacf1915aac40abfd7d605f428a027b5b7c03937b9bcfbde", func := "loop.example/pixelworks/laws.FnBoundsOf", spec := "fnBoundsOf", unfollowed := true, recurses := true, apart := false }
def FnBoundsOfSaid : Prop := fnBoundsOfRow.holds Try.pinned (OpenSpec.ofChange fnBoundsOfSpec)

/-- ITS FALSE NEIGHBOUR: 'it returns false'. Refute it at one input. -/
def fnBoundsOfWrong : ChangeSpec := { name := "fnBoundsOf", fn := fun _ => fun
  | [d] => { results := [.lit (.bool false)], args := [d] }
  | _ => none }
def FnBoundsOfWrongFalsely : Prop := fnBoundsOfRow.holds Try.pinned (OpenSpec.ofChange fnBoundsOfWrong)

/-- 'laws.FnDiscRegionGrow': WHATEVER THE INPUT: true; the input reads as it did. -/
def fnDiscRegionGrowSpec : ChangeSpec := { name := "fnDiscRegionGrow", fn := fun _ => fun
  | [d] => { results := [.lit (.bool true)], args := [d] }
  | _ => none }
def fnDiscRegionGrowRow : OpenClaim := { program := "ytjekhlhnjknbeaa", sum := "05e4b0a6f4e037f9eacf1915aac40abfd7d605f428a027b5b7c03937b9bcfbde", func := "loop.example/pixelworks/laws.FnDiscRegionGrow", spec := "fnDiscRegionGrow", unfollowed := true, recurses := true, apart := false }
def FnDiscRegionGrowSaid : Prop := fnDiscRegionGrowRow.holds Try.pinned (OpenSpec.ofChange fnDiscRegionGrowSpec)

/-- ITS FALSE NEIGHBOUR: 'it returns false'. Refute it at one input. -/
def fnDiscRegionGrowWrong : ChangeSpec := { name := "fnDiscRegionGrow", fn := fun _ => fun
  | [d] => { results := [.lit (.bool false)], args := [d] }
  | _ => none }
def FnDiscRegionGrowWrongFalsely : Prop := fnDiscRegionGrowRow.holds Try.pinned (OpenSpec.ofChange fnDiscRegionGrowWrong)

/- THE SECOND FORM. 'bulk': how many values and letters a reading holds, each counted each time it is reached (what is shared counts as often as it is met; a slice's spare places count too). A statement '..UptoSaid' is the law's where the arguments, and the package variables that the reading takes, are together of bulk at most 1048576: NARROWER than '..Said'. Prove '..Said' where nothing that the law and all that it calls make is longer than what came in: it says more and counts as full. Else prove '..UptoSaid'. A law counts once. -/
mutual
def uptoBulk {H : Type} : DataW H → Nat
  | .lit (.string bytes) => bytes.length + 1
  | .lit _ => 1
  | .nil => 1
  | .ptr d => uptoBulk d + 1
  | .slice elems spare => uptoBulkAll elems + uptoBulkAll spare + 1
  | .agg parts => uptoBulkAll parts + 1
  | .iface _ d => uptoBulk d + 1
  | .map entries => uptoBulkEntries entries + 1
  | .held _ => 1
def uptoBulkAll {H : Type} : List (DataW H) → Nat
  | [] => 0
  | d :: r => uptoBulk d + uptoBulkAll r
def uptoBulkEntries {H : Type} : List (Lit × DataW H) → Nat
  | [] => 0
  | x :: r => uptoBulkEntry x + uptoBulkEntries r
def uptoBulkEntry {H : Type} : Lit × DataW H → Nat
  | (.string bytes, d) => bytes.length + uptoBulk d + 1
  | (_, d) => uptoBulk d + 1
 end
def uptoSmall : (H : Type) → List (DataW H) → Bool := fun _ ds => decide (uptoBulkAll ds ≤ 1048576)
def OpenSpec.upto (s : _root_.Go.ChangeSpec) : _root_.Go.OpenSpec := { _root_.Go.OpenSpec.ofChange s with cond := some uptoSmall }

/-- 'laws.FnExactChangedRegion', WHERE WHAT IT READS IS OF BULK AT MOST 1048576: true; the input reads as it did. -/
def fnExactChangedRegionUptoRow : OpenClaim := { program := "ytjekhlhnjknbeaa", sum := "05e4b0a6f4e037f9eacf1915aac40abfd7d605f428a027b5b7c03937b9bcfbde", func := "loop.example/pixelworks/laws.FnExactChangedRegion", spec := "fnExactChangedRegion", unfollowed := true, recurses := true, apart := false, narrowed := true }
def FnExactChangedRegionUptoSaid : Prop := fnExactChangedRegionUptoRow.holds Try.pinned (OpenSpec.upto fnExactChangedRegionSpec)

/-- 'laws.FnExactDiscRegion', WHERE WHAT IT READS IS OF BULK AT MOST 1048576: true; the input reads as it did. -/
def fnExactDiscRegionUptoRow : OpenClaim := { program := "ytjekhlhnjknbeaa", sum := "05e4b0a6f4e037f9eacf1915aac40abfd7d605f428a027b5b7c03937b9bcfbde", func := "loop.example/pixelworks/laws.FnExactDiscRegion", spec := "fnExactDiscRegion", unfollowed := true, recurses := true, apart := false, narrowed := true }
def FnExactDiscRegionUptoSaid : Prop := fnExactDiscRegionUptoRow.holds Try.pinned (OpenSpec.upto fnExactDiscRegionSpec)

/-- 'laws.FnExactCombineRegions', WHERE WHAT IT READS IS OF BULK AT MOST 1048576: true; the input reads as it did. -/
def fnExactCombineRegionsUptoRow : OpenClaim := { program := "ytjekhlhnjknbeaa", sum := "05e4b0a6f4e037f9eacf1915aac40abfd7d605f428a027b5b7c03937b9bcfbde", func := "loop.example/pixelworks/laws.FnExactCombineRegions", spec := "fnExactCombineRegions", unfollowed := true, recurses := true, apart := false, narrowed := true }
def FnExactCombineRegionsUptoSaid : Prop := fnExactCombineRegionsUptoRow.holds Try.pinned (OpenSpec.upto fnExactCombineRegionsSpec)

/-- 'laws.FnAreaOf', WHERE WHAT IT READS IS OF BULK AT MOST 1048576: true; the input reads as it did. -/
def fnAreaOfUptoRow : OpenClaim := { program := "ytjekhlhnjknbeaa", sum := "05e4b0a6f4e037f9eacf1915aac40abfd7d605f428a027b5b7c03937b9bcfbde", func := "loop.example/pixelworks/laws.FnAreaOf", spec := "fnAreaOf", apart := false, narrowed := true }
def FnAreaOfUptoSaid : Prop := fnAreaOfUptoRow.holds Try.pinned (OpenSpec.upto fnAreaOfSpec)

/-- 'laws.FnRegionHas', WHERE WHAT IT READS IS OF BULK AT MOST 1048576: true; the input reads as it did. -/
def fnRegionHasUptoRow : OpenClaim := { program := "ytjekhlhnjknbeaa", sum := "05e4b0a6f4e037f9eacf1915aac40abfd7d605f428a027b5b7c03937b9bcfbde", func := "loop.example/pixelworks/laws.FnRegionHas", spec := "fnRegionHas", unfollowed := true, recurses := true, apart := false, narrowed := true }
def FnRegionHasUptoSaid : Prop := fnRegionHasUptoRow.holds Try.pinned (OpenSpec.upto fnRegionHasSpec)

/-- 'laws.FnValidRegion', WHERE WHAT IT READS IS OF BULK AT MOST 1048576: true; the input reads as it did. -/
def fnValidRegionUptoRow : OpenClaim := { program := "ytjekhlhnjknbeaa", sum := "05e4b0a6f4e037f9eacf1915aac40abfd7d605f428a027b5b7c03937b9bcfbde", func := "loop.example/pixelworks/laws.FnValidRegion", spec := "fnValidRegion", unfollowed := true, recurses := true, apart := false, narrowed := true }
def FnValidRegionUptoSaid : Prop := fnValidRegionUptoRow.holds Try.pinned (OpenSpec.upto fnValidRegionSpec)

/-- 'laws.FnCombineRegions', WHERE WHAT IT READS IS OF BULK AT MOST 1048576: true; the input reads as it did. -/
def fnCombineRegionsUptoRow : OpenClaim := { program := "ytjekhlhnjknbeaa", sum := "05e4b0a6f4e037f9eacf1915aac40abfd7d605f428a027b5b7c03937b9bcfbde", func := "loop.example/pixelworks/laws.FnCombineRegions", spec := "fnCombineRegions", unfollowed := true, recurses := true, apart := false, narrowed := true }
def FnCombineRegionsUptoSaid : Prop := fnCombineRegionsUptoRow.holds Try.pinned (OpenSpec.upto fnCombineRegionsSpec)

/-- 'laws.FnCombineRegionsArea', WHERE WHAT IT READS IS OF BULK AT MOST 1048576: true; the input reads as it did. -/
def fnCombineRegionsAreaUptoRow : OpenClaim := { program := "ytjekhlhnjknbeaa", sum := "05e4b0a6f4e037f9eacf1915aac40abfd7d605f428a027b5b7c03937b9bcfbde", func := "loop.example/pixelworks/laws.FnCombineRegionsArea", spec := "fnCombineRegionsArea", unfollowed := true, recurses := true, apart := false, narrowed := true }
def FnCombineRegionsAreaUptoSaid : Prop := fnCombineRegionsAreaUptoRow.holds Try.pinned (OpenSpec.upto fnCombineRegionsAreaSpec)

/-- 'laws.FnCombineRegionsOrder', WHERE WHAT IT READS IS OF BULK AT MOST 1048576: true; the input reads as it did. -/
def fnCombineRegionsOrderUptoRow : OpenClaim := { program := "ytjekhlhnjknbeaa", sum := "05e4b0a6f4e037f9eacf1915aac40abfd7d605f428a027b5b7c03937b9bcfbde", func := "loop.example/pixelworks/laws.FnCombineRegionsOrder", spec := "fnCombineRegionsOrder", unfollowed := true, recurses := true, apart := false, narrowed := true }
def FnCombineRegionsOrderUptoSaid : Prop := fnCombineRegionsOrderUptoRow.holds Try.pinned (OpenSpec.upto fnCombineRegionsOrderSpec)

/-- 'laws.FnBoundsOf', WHERE WHAT IT READS IS OF BULK AT MOST 1048576: true; the input reads as it did. -/
def fnBoundsOfUptoRow : OpenClaim := { program := "ytjekhlhnjknbeaa", sum := "05e4b0a6f4e037f9eacf1915aac40abfd7d605f428a027b5b7c03937b9bcfbde", func := "loop.example/pixelworks/laws.FnBoundsOf", spec := "fnBoundsOf", unfollowed := true, recurses := true, apart := false, narrowed := true }
def FnBoundsOfUptoSaid : Prop := fnBoundsOfUptoRow.holds Try.pinned (OpenSpec.upto fnBoundsOfSpec)

/-- 'laws.FnDiscRegionGrow', WHERE WHAT IT READS IS OF BULK AT MOST 1048576: true; the input reads as it did. -/
def fnDiscRegionGrowUptoRow : OpenClaim := { program := "ytjekhlhnjknbeaa", sum := "05e4b0a6f4e037f9eacf1915aac40abfd7d605f428a027b5b7c03937b9bcfbde", func := "loop.example/pixelworks/laws.FnDiscRegionGrow", spec := "fnDiscRegionGrow", unfollowed := true, recurses := true, apart := false, narrowed := true }
def FnDiscRegionGrowUptoSaid : Prop := fnDiscRegionGrowUptoRow.holds Try.pinned (OpenSpec.upto fnDiscRegionGrowSpec)

end Rows
end Go.Proofs.Ytjekhlhnjknbeaa
