/-
  No cell of these rows narrows 'for every input' (looked for: loops, veiled, ifaces, maps, wideKeys, modest, calm, conditions, laid).
  DERIVED. THE GIVEN ROWS OF THIS SEAT. 5 by the template 'for every input the law returns true; each argument reads behind the call as it read before'; 0 by the template 'total and deterministic' (their statements: YtklleaojhoklaaaTotals.lean).
  GIVEN WITH THE SEED: the statements are not yours to turn. If you find one false, say at which input.
  Laid BY PROGRAM, IN A SANDBOX (cutbox-rows.mjs): the forced cells as the released guide's own fill.sh prints them over the translation 56863e3895794d44… (all of the seat's roots in one cut). By AI agents, Wed Nov 11 2026. No macro, syntax, notation, axiom, sorry.
-/
import Derived.Test.YtklleaojhoklaaaChecked
import GoSem.Claim
import GoSem.ClaimJoined
import GoSem.ClaimMapViews
import Derived.JoinedTies
import Derived.KernelRfl
namespace Go.Proofs.Ytklleaojhoklaaa
/- THE CELL 'sum', in the pinned program and in every row, IS THE sha256 OF THE DUMP (.gsa) THAT YtklleaojhoklaaaProg.lean LOADS. Nothing in Lean hashes anything: it is a label: what it is worth is what the hold of that sum in a sandbox is worth. -/
noncomputable def Try.pinned : Pinned := { name := "ytklleaojhoklaaa", sum := "56863e3895794d44395e7766c4f074be34f99f4acb86cb27f9aeef7682174555", checked := Try.checked }
namespace Rows
def none {H : Type} : Left H := { results := [], args := [] }

/-- 'laws.FnGapOf': WHATEVER THE INPUT: true; the input reads as it did. -/
def fnGapOfSpec : ChangeSpec := { name := "fnGapOf", fn := fun _ => fun
  | [d] => { results := [.lit (.bool true)], args := [d] }
  | _ => none }
def fnGapOfRow : OpenClaim := { program := "ytklleaojhoklaaa", sum := "56863e3895794d44395e7766c4f074be34f99f4acb86cb27f9aeef7682174555", func := "loop.example/pixelworks/laws.FnGapOf", spec := "fnGapOf", unfollowed := true, recurses := true, apart := false }
def FnGapOfSaid : Prop := fnGapOfRow.holds Try.pinned (OpenSpec.ofChange fnGapOfSpec)

/-- ITS FALSE NEIGHBOUR: 'it returns false'. Refute it at one input. -/
def fnGapOfWrong : ChangeSpec := { name := "fnGapOf", fn := fun _ => fun
  | [d] => { results := [.lit (.bool false)], args := [d] }
  | _ => none }
def FnGapOfWrongFalsely : Prop := fnGapOfRow.holds Try.pinned (OpenSpec.ofChange fnGapOfWrong)

/-- 'laws.FnMaskImage': WHATEVER THE INPUT: true; the input reads as it did. -/
def fnMaskImageSpec : ChangeSpec := { name := "fnMaskImage", fn := fun _ => fun
  | [d] => { results := [.lit (.bool true)], args := [d] }
  | _ => none }
def fnMaskImageRow : OpenClaim := { program := "ytklleaojhoklaaa", sum := "56863e3895794d44395e7766c4f074be34f99f4acb86cb27f9aeef7682174555", func := "loop.example/pixelworks/laws.FnMaskImage", spec := "fnMaskImage", unfollowed := true, recurses := true, apart := false }
def FnMaskImageSaid : Prop := fnMaskImageRow.holds Try.pinned (OpenSpec.ofChange fnMaskImageSpec)

/-- ITS FALSE NEIGHBOUR: 'it returns false'. Refute it at one input. -/
def fnMaskImageWrong : ChangeSpec := { name := "fnMaskImage", fn := fun _ => fun
  | [d] => { results := [.lit (.bool false)], args := [d] }
  | _ => none }
def FnMaskImageWrongFalsely : Prop := fnMaskImageRow.holds Try.pinned (OpenSpec.ofChange fnMaskImageWrong)

/-- 'laws.FnMaskImageChanged': WHATEVER THE INPUT: true; the input reads as it did. -/
def fnMaskImageChangedSpec : ChangeSpec := { name := "fnMaskImageChanged", fn := fun _ => fun
  | [d] => { results := [.lit (.bool true)], args := [d] }
  | _ => none }
def fnMaskImageChangedRow : OpenClaim := { program := "ytklleaojhoklaaa", sum := "56863e3895794d44395e7766c4f074be34f99f4acb86cb27f9aeef7682174555", func := "loop.example/pixelworks/laws.FnMaskImageChanged", spec := "fnMaskImageChanged", unfollowed := true, recurses := true, apart := false }
def FnMaskImageChangedSaid : Prop := fnMaskImageChangedRow.holds Try.pinned (OpenSpec.ofChange fnMaskImageChangedSpec)

/-- ITS FALSE NEIGHBOUR: 'it returns false'. Refute it at one input. -/
def fnMaskImageChangedWrong : ChangeSpec := { name := "fnMaskImageChanged", fn := fun _ => fun
  | [d] => { results := [.lit (.bool false)], args := [d] }
  | _ => none }
def FnMaskImageChangedWrongFalsely : Prop := fnMaskImageChangedRow.holds Try.pinned (OpenSpec.ofChange fnMaskImageChangedWrong)

/-- 'laws.FnChangedRegion': WHATEVER THE INPUT: true; the input reads as it did. -/
def fnChangedRegionSpec : ChangeSpec := { name := "fnChangedRegion", fn := fun _ => fun
  | [d] => { results := [.lit (.bool true)], args := [d] }
  | _ => none }
def fnChangedRegionRow : OpenClaim := { program := "ytklleaojhoklaaa", sum := "56863e3895794d44395e7766c4f074be34f99f4acb86cb27f9aeef7682174555", func := "loop.example/pixelworks/laws.FnChangedRegion", spec := "fnChangedRegion", unfollowed := true, recurses := true, apart := false }
def FnChangedRegionSaid : Prop := fnChangedRegionRow.holds Try.pinned (OpenSpec.ofChange fnChangedRegionSpec)

/-- ITS FALSE NEIGHBOUR: 'it returns false'. Refute it at one input. -/
def fnChangedRegionWrong : ChangeSpec := { name := "fnChangedRegion", fn := fun _ => fun
  | [d] => { results := [.lit (.bool false)], args := [d] }
  | _ => none }
def FnChangedRegionWrongFalsely : Prop := fnChangedRegionRow.holds Try.pinned (OpenSpec.ofChange fnChangedRegionWrong)

/-- 'laws.FnFillRegion': WHATEVER THE INPUT: true; the input reads as it did. -/
def fnFillRegionSpec : ChangeSpec := { name := "fnFillRegion", fn := fun _ => fun
  | [d] => { results := [.lit (.bool true)], args := [d] }
  | _ => none }
def fnFillRegionRow : OpenClaim := { program := "ytklleaojhoklaaa", sum := "56863e3895794d44395e7766c4f074be34f99f4acb86cb27f9aeef7682174555", func := "loop.example/pixelworks/laws.FnFillRegion", spec := "fnFillRegion", unfollowed := true, recurses := true, apart := false }
def FnFillRegionSaid : Prop := fnFillRegionRow.holds Try.pinned (OpenSpec.ofChange fnFillRegionSpec)

/-- ITS FALSE NEIGHBOUR: 'it returns false'. Refute it at one input. -/
def fnFillRegionWrong : ChangeSpec := { name := "fnFillRegion", fn := fun _ => fun
  | [d] => { results := [.lit (.bool false)], args := [d] }
  | _ => none }
def FnFillRegionWrongFalsely : Prop := fnFillRegionRow.holds Try.pinned (OpenSpec.ofChange fnFillRegionWrong)

/- THE SECOND FORM. 'bulk': how many values and letters a reading holds, each counted each time it is reached (what is shared counts as often as it is met; a slice's spare places count too). A statement '..UptoSaid' is the law's where the arguments, and the package variables that the reading takes, are together of bulk at most 1048576: NARROWER than '..Said'. Prove '..Said' where nothing that the law and all that it calls make is longer than what came in: it says more and counts as full. Else prove '..UptoSaid'. A law counts once. -/
mutual
def uptoBulk {H : Type} : DataW H → Nat
  | .lit (.string bytes) => bytes.length + 1
  | .lit _ => 1
  | .nil => 1
  | .ptr d => uptoBulk d + 1
  | .slice elems spare => uptoBulkAll elems + uptoBulkAll spare + 1
  | .agg parts => uptoBulkAll parts + 1
  | .iface _ d => uptoBulk d + 1
  | .map entries => uptoBulkEntries entries + 1
  | .held _ => 1
def uptoBulkAll {H : Type} : List (DataW H) → Nat
  | [] => 0
  | d :: r => uptoBulk d + uptoBulkAll r
def uptoBulkEntries {H : Type} : List (Lit × DataW H) → Nat
  | [] => 0
  | x :: r => uptoBulkEntry x + uptoBulkEntries r
def uptoBulkEntry {H : Type} : Lit × DataW H → Nat
  | (.string bytes, d) => bytes.length + uptoBulk d + 1
  | (_, d) => uptoBulk d + 1
 end
def uptoSmall : (H : Type) → List (DataW H) → Bool := fun _ ds => decide (uptoBulkAll ds ≤ 1048576)
def OpenSpec.upto (s : _root_.Go.ChangeSpec) : _root_.Go.OpenSpec := { _root_.Go.OpenSpec.ofChange s with cond := some uptoSmall }

/-- 'laws.FnGapOf', WHERE WHAT IT READS IS OF BULK AT MOST 1048576: true; the input reads as it did. -/
def fnGapOfUptoRow : OpenClaim := { program := "ytklleaojhoklaaa", sum := "56863e3895794d44395e7766c4f074be34f99f4acb86cb27f9aeef7682174555", func := "loop.example/pixelworks/laws.FnGapOf", spec := "fnGapOf", unfollowed := true, recurses := true, apart := false, narrowed := true }
def FnGapOfUptoSaid : Prop := fnGapOfUptoRow.holds Try.pinned (OpenSpec.upto fnGapOfSpec)

/-- 'laws.FnMaskImage', WHERE WHAT IT READS IS OF BULK AT MOST 1048576: true; the input reads as it did. -/
def fnMaskImageUptoRow : OpenClaim := { program := "ytklleaojhoklaaa", sum := "56863e3895794d44395e7766c4f074be34f99f4acb86cb27f9aeef7682174555", func := "loop.example/pixelworks/laws.FnMaskImage", spec := "fnMaskImage", unfollowed := true, recurses := true, apart := false, narrowed := true }
def FnMaskImageUptoSaid : Prop := fnMaskImageUptoRow.holds Try.pinned (OpenSpec.upto fnMaskImageSpec)

/-- 'laws.FnMaskImageChanged', WHERE WHAT IT READS IS OF BULK AT MOST 1048576: true; the input reads as it did. -/
def fnMaskImageChangedUptoRow : OpenClaim := { program := "ytklleaojhoklaaa", sum := "56863e3895794d44395e7766c4f074be34f99f4acb86cb27f9aeef7682174555", func := "loop.example/pixelworks/laws.FnMaskImageChanged", spec := "fnMaskImageChanged", unfollowed := true, recurses := true, apart := false, narrowed := true }
def FnMaskImageChangedUptoSaid : Prop := fnMaskImageChangedUptoRow.holds Try.pinned (OpenSpec.upto fnMaskImageChangedSpec)

/-- 'laws.FnChangedRegion', WHERE WHAT IT READS IS OF BULK AT MOST 1048576: true; the input reads as it did. -/
def fnChangedRegionUptoRow : OpenClaim := { program := "ytklleaojhoklaaa", sum := "56863e3895794d44395e7766c4f074be34f99f4acb86cb27f9aeef7682174555", func := "loop.example/pixelworks/laws.FnChangedRegion", spec := "fnChangedRegion", unfollowed := true, recurses := true, apart := false, narrowed := true }
def FnChangedRegionUptoSaid : Prop := fnChangedRegionUptoRow.holds Try.pinned (OpenSpec.upto fnChangedRegionSpec)

/-- 'laws.FnFillRegion', WHERE WHAT IT READS IS OF BULK AT MOST 1048576: true; the input reads as it did. -/
def fnFillRegionUptoRow : OpenClaim := { program := "ytklleaojhoklaaa", sum := "56863e3895794d44395e7766c4f074be34f99f4acb86cb27f9aeef7682174555", func := "loop.example/pixelworks/laws.FnFillRegion", spec := "fnFillRegion", unfollowed := true, recurses := true, apart := false, narrowed := true }
def FnFillRegionUptoSaid : Prop := fnFillRegionUptoRow.holds Try.pinned (OpenSpec.upto fnFillRegionSpec)

end Rows
end Go.Proofs.Ytklleaojhoklaaa
