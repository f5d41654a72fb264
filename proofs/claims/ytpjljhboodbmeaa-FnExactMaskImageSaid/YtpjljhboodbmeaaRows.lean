/-
  No cell of these rows narrows 'for every input' (looked for: loops, veiled, ifaces, maps, wideKeys, modest, calm, conditions, laid).
  DERIVED. THE GIVEN ROWS OF THIS SEAT. 12 by the template 'for every input the law returns true; each argument reads behind the call as it read before'; 0 by the template 'total and deterministic' (their statements: YtpjljhboodbmeaaTotals.lean).
  GIVEN WITH THE SEED: the statements are not yours to turn. If you find one false, say at which input.
  Laid BY PROGRAM, IN A SANDBOX (cutbox-rows.mjs): the forced cells as the released guide's own fill.sh prints them over the translation 493b3d848256f6c2… (all of the seat's roots in one cut). By AI agents, Wed Nov 11 2026. No macro, syntax, notation, axiom, sorry.
-/
import Derived.Test.YtpjljhboodbmeaaChecked
import GoSem.Claim
import GoSem.ClaimJoined
import GoSem.ClaimMapViews
import Derived.JoinedTies
import Derived.KernelRfl
namespace Go.Proofs.Ytpjljhboodbmeaa
/- THE CELL 'sum', in the pinned program and in every row, IS THE sha256 OF THE DUMP (.gsa) THAT YtpjljhboodbmeaaProg.lean LOADS. Nothing in Lean hashes anything: it is a label: what it is worth is what the hold of that sum in a sandbox is worth. -/
noncomputable def Try.pinned : Pinned := { name := "ytpjljhboodbmeaa", sum := "493b3d848256f6c289ef522980ad742ac1857f090e5e46433f3c90f1e88e635d", checked := Try.checked }
namespace Rows
def none {H : Type} : Left H := { results := [], args := [] }

/-- 'laws.FnExactMapImage': WHATEVER THE INPUT: true; the input reads as it did. -/
def fnExactMapImageSpec : ChangeSpec := { name := "fnExactMapImage", fn := fun _ => fun
  | [d1, d2] => { results := [.lit (.bool true)], args := [d1, d2] }
  | _ => none }
def fnExactMapImageRow : OpenClaim := { program := "ytpjljhboodbmeaa", sum := "493b3d848256f6c289ef522980ad742ac1857f090e5e46433f3c90f1e88e635d", func := "loop.example/pixelworks/laws.FnExactMapImage", spec := "fnExactMapImage", unfollowed := true, recurses := true, apart := false }
def FnExactMapImageSaid : Prop := fnExactMapImageRow.holds Try.pinned (OpenSpec.ofChange fnExactMapImageSpec)

/-- ITS FALSE NEIGHBOUR: 'it returns false'. Refute it at one input. -/
def fnExactMapImageWrong : ChangeSpec := { name := "fnExactMapImage", fn := fun _ => fun
  | [d1, d2] => { results := [.lit (.bool false)], args := [d1, d2] }
  | _ => none }
def FnExactMapImageWrongFalsely : Prop := fnExactMapImageRow.holds Try.pinned (OpenSpec.ofChange fnExactMapImageWrong)

/-- 'laws.FnExactInvertImage': WHATEVER THE INPUT: true; the input reads as it did. -/
def fnExactInvertImageSpec : ChangeSpec := { name := "fnExactInvertImage", fn := fun _ => fun
  | [d] => { results := [.lit (.bool true)], args := [d] }
  | _ => none }
def fnExactInvertImageRow : OpenClaim := { program := "ytpjljhboodbmeaa", sum := "493b3d848256f6c289ef522980ad742ac1857f090e5e46433f3c90f1e88e635d", func := "loop.example/pixelworks/laws.FnExactInvertImage", spec := "fnExactInvertImage", unfollowed := true, recurses := true, apart := false }
def FnExactInvertImageSaid : Prop := fnExactInvertImageRow.holds Try.pinned (OpenSpec.ofChange fnExactInvertImageSpec)

/-- ITS FALSE NEIGHBOUR: 'it returns false'. Refute it at one input. -/
def fnExactInvertImageWrong : ChangeSpec := { name := "fnExactInvertImage", fn := fun _ => fun
  | [d] => { results := [.lit (.bool false)], args := [d] }
  | _ => none }
def FnExactInvertImageWrongFalsely : Prop := fnExactInvertImageRow.holds Try.pinned (OpenSpec.ofChange fnExactInvertImageWrong)

/-- 'laws.FnInvertImage': WHATEVER THE INPUT: true; the input reads as it did. -/
def fnInvertImageSpec : ChangeSpec := { name := "fnInvertImage", fn := fun _ => fun
  | [d] => { results := [.lit (.bool true)], args := [d] }
  | _ => none }
def fnInvertImageRow : OpenClaim := { program := "ytpjljhboodbmeaa", sum := "493b3d848256f6c289ef522980ad742ac1857f090e5e46433f3c90f1e88e635d", func := "loop.example/pixelworks/laws.FnInvertImage", spec := "fnInvertImage", unfollowed := true, recurses := true, apart := false }
def FnInvertImageSaid : Prop := fnInvertImageRow.holds Try.pinned (OpenSpec.ofChange fnInvertImageSpec)

/-- ITS FALSE NEIGHBOUR: 'it returns false'. Refute it at one input. -/
def fnInvertImageWrong : ChangeSpec := { name := "fnInvertImage", fn := fun _ => fun
  | [d] => { results := [.lit (.bool false)], args := [d] }
  | _ => none }
def FnInvertImageWrongFalsely : Prop := fnInvertImageRow.holds Try.pinned (OpenSpec.ofChange fnInvertImageWrong)

/-- 'laws.FnExactHistogramOf': WHATEVER THE INPUT: true; the input reads as it did. -/
def fnExactHistogramOfSpec : ChangeSpec := { name := "fnExactHistogramOf", fn := fun _ => fun
  | [d] => { results := [.lit (.bool true)], args := [d] }
  | _ => none }
def fnExactHistogramOfRow : OpenClaim := { program := "ytpjljhboodbmeaa", sum := "493b3d848256f6c289ef522980ad742ac1857f090e5e46433f3c90f1e88e635d", func := "loop.example/pixelworks/laws.FnExactHistogramOf", spec := "fnExactHistogramOf", apart := false }
def FnExactHistogramOfSaid : Prop := fnExactHistogramOfRow.holds Try.pinned (OpenSpec.ofChange fnExactHistogramOfSpec)

/-- ITS FALSE NEIGHBOUR: 'it returns false'. Refute it at one input. -/
def fnExactHistogramOfWrong : ChangeSpec := { name := "fnExactHistogramOf", fn := fun _ => fun
  | [d] => { results := [.lit (.bool false)], args := [d] }
  | _ => none }
def FnExactHistogramOfWrongFalsely : Prop := fnExactHistogramOfRow.holds Try.pinned (OpenSpec.ofChange fnExactHistogramOfWrong)

/-- 'laws.FnHistogramOf': WHATEVER THE INPUT: true; the input reads as it did. -/
def fnHistogramOfSpec : ChangeSpec := { name := "fnHistogramOf", fn := fun _ => fun
  | [d] => { results := [.lit (.bool true)], args := [d] }
  | _ => none }
def fnHistogramOfRow : OpenClaim := { program := "ytpjljhboodbmeaa", sum := "493b3d848256f6c289ef522980ad742ac1857f090e5e46433f3c90f1e88e635d", func := "loop.example/pixelworks/laws.FnHistogramOf", spec := "fnHistogramOf", unfollowed := true, recurses := true, apart := false }
def FnHistogramOfSaid : Prop := fnHistogramOfRow.holds Try.pinned (OpenSpec.ofChange fnHistogramOfSpec)

/-- ITS FALSE NEIGHBOUR: 'it returns false'. Refute it at one input. -/
def fnHistogramOfWrong : ChangeSpec := { name := "fnHistogramOf", fn := fun _ => fun
  | [d] => { results := [.lit (.bool false)], args := [d] }
  | _ => none }
def FnHistogramOfWrongFalsely : Prop := fnHistogramOfRow.holds Try.pinned (OpenSpec.ofChange fnHistogramOfWrong)

/-- 'laws.FnHistogramTurn': WHATEVER THE INPUT: true; the input reads as it did. -/
def fnHistogramTurnSpec : ChangeSpec := { name := "fnHistogramTurn", fn := fun _ => fun
  | [d] => { results := [.lit (.bool true)], args := [d] }
  | _ => none }
def fnHistogramTurnRow : OpenClaim := { program := "ytpjljhboodbmeaa", sum := "493b3d848256f6c289ef522980ad742ac1857f090e5e46433f3c90f1e88e635d", func := "loop.example/pixelworks/laws.FnHistogramTurn", spec := "fnHistogramTurn", unfollowed := true, recurses := true, apart := false }
def FnHistogramTurnSaid : Prop := fnHistogramTurnRow.holds Try.pinned (OpenSpec.ofChange fnHistogramTurnSpec)

/-- ITS FALSE NEIGHBOUR: 'it returns false'. Refute it at one input. -/
def fnHistogramTurnWrong : ChangeSpec := { name := "fnHistogramTurn", fn := fun _ => fun
  | [d] => { results := [.lit (.bool false)], args := [d] }
  | _ => none }
def FnHistogramTurnWrongFalsely : Prop := fnHistogramTurnRow.holds Try.pinned (OpenSpec.ofChange fnHistogramTurnWrong)

/-- 'laws.FnExactEqualizeImage': WHATEVER THE INPUT: true; the input reads as it did. -/
def fnExactEqualizeImageSpec : ChangeSpec := { name := "fnExactEqualizeImage", fn := fun _ => fun
  | [d] => { results := [.lit (.bool true)], args := [d] }
  | _ => none }
def fnExactEqualizeImageRow : OpenClaim := { program := "ytpjljhboodbmeaa", sum := "493b3d848256f6c289ef522980ad742ac1857f090e5e46433f3c90f1e88e635d", func := "loop.example/pixelworks/laws.FnExactEqualizeImage", spec := "fnExactEqualizeImage", unfollowed := true, recurses := true, apart := false }
def FnExactEqualizeImageSaid : Prop := fnExactEqualizeImageRow.holds Try.pinned (OpenSpec.ofChange fnExactEqualizeImageSpec)

/-- ITS FALSE NEIGHBOUR: 'it returns false'. Refute it at one input. -/
def fnExactEqualizeImageWrong : ChangeSpec := { name := "fnExactEqualizeImage", fn := fun _ => fun
  | [d] => { results := [.lit (.bool false)], args := [d] }
  | _ => none }
def FnExactEqualizeImageWrongFalsely : Prop := fnExactEqualizeImageRow.holds Try.pinned (OpenSpec.ofChange fnExactEqualizeImageWrong)

/-- 'laws.FnExactThresholdOf': WHATEVER THE INPUT: true; the input reads as it did. -/
def fnExactThresholdOfSpec : ChangeSpec := { name := "fnExactThresholdOf", fn := fun _ => fun
  | [d] => { results := [.lit (.bool true)], args := [d] }
  | _ => none }
def fnExactThresholdOfRow : OpenClaim := { program := "ytpjljhboodbmeaa", sum := "493b3d848256f6c289ef522980ad742ac1857f090e5e46433f3c90f1e88e635d", func := "loop.example/pixelworks/laws.FnExactThresholdOf", spec := "fnExactThresholdOf", apart := false }
def FnExactThresholdOfSaid : Prop := fnExactThresholdOfRow.holds Try.pinned (OpenSpec.ofChange fnExactThresholdOfSpec)

/-- ITS FALSE NEIGHBOUR: 'it returns false'. Refute it at one input. -/
def fnExactThresholdOfWrong : ChangeSpec := { name := "fnExactThresholdOf", fn := fun _ => fun
  | [d] => { results := [.lit (.bool false)], args := [d] }
  | _ => none }
def FnExactThresholdOfWrongFalsely : Prop := fnExactThresholdOfRow.holds Try.pinned (OpenSpec.ofChange fnExactThresholdOfWrong)

/-- 'laws.FnExactGapOf': WHATEVER THE INPUT: true; the input reads as it did. -/
def fnExactGapOfSpec : ChangeSpec := { name := "fnExactGapOf", fn := fun _ => fun
  | [d1, d2] => { results := [.lit (.bool true)], args := [d1, d2] }
  | _ => none }
def fnExactGapOfRow : OpenClaim := { program := "ytpjljhboodbmeaa", sum := "493b3d848256f6c289ef522980ad742ac1857f090e5e46433f3c90f1e88e635d", func := "loop.example/pixelworks/laws.FnExactGapOf", spec := "fnExactGapOf", unfollowed := true, recurses := true, apart := false }
def FnExactGapOfSaid : Prop := fnExactGapOfRow.holds Try.pinned (OpenSpec.ofChange fnExactGapOfSpec)

/-- ITS FALSE NEIGHBOUR: 'it returns false'. Refute it at one input. -/
def fnExactGapOfWrong : ChangeSpec := { name := "fnExactGapOf", fn := fun _ => fun
  | [d1, d2] => { results := [.lit (.bool false)], args := [d1, d2] }
  | _ => none }
def FnExactGapOfWrongFalsely : Prop := fnExactGapOfRow.holds Try.pinned (OpenSpec.ofChange fnExactGapOfWrong)

/-- 'laws.FnGapOf': WHATEVER THE INPUT: true; the input reads as it did. -/
def fnGapOfSpec : ChangeSpec := { name := "fnGapOf", fn := fun _ => fun
  | [d] => { results := [.lit (.bool true)], args := [d] }
  | _ => none }
def fnGapOfRow : OpenClaim := { program := "ytpjljhboodbmeaa", sum := "493b3d848256f6c289ef522980ad742ac1857f090e5e46433f3c90f1e88e635d", func := "loop.example/pixelworks/laws.FnGapOf", spec := "fnGapOf", unfollowed := true, recurses := true, apart := false }
def FnGapOfSaid : Prop := fnGapOfRow.holds Try.pinned (OpenSpec.ofChange fnGapOfSpec)

/-- ITS FALSE NEIGHBOUR: 'it returns false'. Refute it at one input. -/
def fnGapOfWrong : ChangeSpec := { name := "fnGapOf", fn := fun _ => fun
  | [d] => { results := [.lit (.bool false)], args := [d] }
  | _ => none }
def FnGapOfWrongFalsely : Prop := fnGapOfRow.holds Try.pinned (OpenSpec.ofChange fnGapOfWrong)

/-- 'laws.FnPasteImage': WHATEVER THE INPUT: true; the input reads as it did. -/
def fnPasteImageSpec : ChangeSpec := { name := "fnPasteImage", fn := fun _ => fun
  | [d] => { results := [.lit (.bool true)], args := [d] }
  | _ => none }
def fnPasteImageRow : OpenClaim := { program := "ytpjljhboodbmeaa", sum := "493b3d848256f6c289ef522980ad742ac1857f090e5e46433f3c90f1e88e635d", func := "loop.example/pixelworks/laws.FnPasteImage", spec := "fnPasteImage", unfollowed := true, recurses := true, apart := false }
def FnPasteImageSaid : Prop := fnPasteImageRow.holds Try.pinned (OpenSpec.ofChange fnPasteImageSpec)

/-- ITS FALSE NEIGHBOUR: 'it returns false'. Refute it at one input. -/
def fnPasteImageWrong : ChangeSpec := { name := "fnPasteImage", fn := fun _ => fun
  | [d] => { results := [.lit (.bool false)], args := [d] }
  | _ => none }
def FnPasteImageWrongFalsely : Prop := fnPasteImageRow.holds Try.pinned (OpenSpec.ofChange fnPasteImageWrong)

/-- 'laws.FnExactMaskImage': WHATEVER THE INPUT: true; the input reads as it did. -/
def fnExactMaskImageSpec : ChangeSpec := { name := "fnExactMaskImage", fn := fun _ => fun
  | [d1, d2, d3] => { results := [.lit (.bool true)], args := [d1, d2, d3] }
  | _ => none }
def fnExactMaskImageRow : OpenClaim := { program := "ytpjljhboodbmeaa", sum := "493b3d848256f6c289ef522980ad742ac1857f090e5e46433f3c90f1e88e635d", func := "loop.example/pixelworks/laws.FnExactMaskImage", spec := "fnExactMaskImage", unfollowed := true, recurses := true, apart := false }
def FnExactMaskImageSaid : Prop := fnExactMaskImageRow.holds Try.pinned (OpenSpec.ofChange fnExactMaskImageSpec)

/-- ITS FALSE NEIGHBOUR: 'it returns false'. Refute it at one input. -/
def fnExactMaskImageWrong : ChangeSpec := { name := "fnExactMaskImage", fn := fun _ => fun
  | [d1, d2, d3] => { results := [.lit (.bool false)], args := [d1, d2, d3] }
  | _ => none }
def FnExactMaskImageWrongFalsely : Prop := fnExactMaskImageRow.holds Try.pinned (OpenSpec.ofChange fnExactMaskImageWrong)

/- THE SECOND FORM. 'bulk': how many values and letters a reading holds, each counted each time it is reached (what is shared counts as often as it is met; a slice's spare places count too). A statement '..UptoSaid' is the law's where the arguments, and the package variables that the reading takes, are together of bulk at most 1048576: NARROWER than '..Said'. Prove '..Said' where nothing that the law and all that it calls make is longer than what came in: it says more and counts as full. Else prove '..UptoSaid'. A law counts once. -/
mutual
def uptoBulk {H : Type} : DataW H → Nat
  | .lit (.string bytes) => bytes.length + 1
  | .lit _ => 1
  | .nil => 1
  | .ptr d => uptoBulk d + 1
  | .slice elems spare => uptoBulkAll elems + uptoBulkAll spare + 1
  | .agg parts => uptoBulkAll parts + 1
  | .iface _ d => uptoBulk d + 1
  | .map entries => uptoBulkEntries entries + 1
  | .held _ => 1
def uptoBulkAll {H : Type} : List (DataW H) → Nat
  | [] => 0
  | d :: r => uptoBulk d + uptoBulkAll r
def uptoBulkEntries {H : Type} : List (Lit × DataW H) → Nat
  | [] => 0
  | x :: r => uptoBulkEntry x + uptoBulkEntries r
def uptoBulkEntry {H : Type} : Lit × DataW H → Nat
  | (.string bytes, d) => bytes.length + uptoBulk d + 1
  | (_, d) => uptoBulk d + 1
 end
def uptoSmall : (H : Type) → List (DataW H) → Bool := fun _ ds => decide (uptoBulkAll ds ≤ 1048576)
def OpenSpec.upto (s : _root_.Go.ChangeSpec) : _root_.Go.OpenSpec := { _root_.Go.OpenSpec.ofChange s with cond := some uptoSmall }

/-- 'laws.FnExactMapImage', WHERE WHAT IT READS IS OF BULK AT MOST 1048576: true; the input reads as it did. -/
def fnExactMapImageUptoRow : OpenClaim := { program := "ytpjljhboodbmeaa", sum := "493b3d848256f6c289ef522980ad742ac1857f090e5e46433f3c90f1e88e635d", func := "loop.example/pixelworks/laws.FnExactMapImage", spec := "fnExactMapImage", unfollowed := true, recurses := true, apart := false, narrowed := true }
def FnExactMapImageUptoSaid : Prop := fnExactMapImageUptoRow.holds Try.pinned (OpenSpec.upto fnExactMapImageSpec)

/-- 'laws.FnExactInvertImage', WHERE WHAT IT READS IS OF BULK AT MOST 1048576: true; the input reads as it did. -/
def fnExactInvertImageUptoRow : OpenClaim := { program := "ytpjljhboodbmeaa", sum := "493b3d848256f6c289ef522980ad742ac1857f090e5e46433f3c90f1e88e635d", func := "loop.example/pixelworks/laws.FnExactInvertImage", spec := "fnExactInvertImage", unfollowed := true, recurses := true, apart := false, narrowed := true }
def FnExactInvertImageUptoSaid : Prop := fnExactInvertImageUptoRow.holds Try.pinned (OpenSpec.upto fnExactInvertImageSpec)

/-- 'laws.FnInvertImage', WHERE WHAT IT READS IS OF BULK AT MOST 1048576: true; the input reads as it did. -/
def fnInvertImageUptoRow : OpenClaim := { program := "ytpjljhboodbmeaa", sum := "493b3d848256f6c289ef522980ad742ac1857f090e5e46433f3c90f1e88e635d", func := "loop.example/pixelworks/laws.FnInvertImage", spec := "fnInvertImage", unfollowed := true, recurses := true, apart := false, narrowed := true }
def FnInvertImageUptoSaid : Prop := fnInvertImageUptoRow.holds Try.pinned (OpenSpec.upto fnInvertImageSpec)

/-- 'laws.FnExactHistogramOf', WHERE WHAT IT READS IS OF BULK AT MOST 1048576: true; the input reads as it did. -/
def fnExactHistogramOfUptoRow : OpenClaim := { program := "ytpjljhboodbmeaa", sum := "493b3d848256f6c289ef522980ad742ac1857f090e5e46433f3c90f1e88e635d", func := "loop.example/pixelworks/laws.FnExactHistogramOf", spec := "fnExactHistogramOf", apart := false, narrowed := true }
def FnExactHistogramOfUptoSaid : Prop := fnExactHistogramOfUptoRow.holds Try.pinned (OpenSpec.upto fnExactHistogramOfSpec)

/-- 'laws.FnHistogramOf', WHERE WHAT IT READS IS OF BULK AT MOST 1048576: true; the input reads as it did. -/
def fnHistogramOfUptoRow : OpenClaim := { program := "ytpjljhboodbmeaa", sum := "493b3d848256f6c289ef522980ad742ac1857f090e5e46433f3c90f1e88e635d", func := "loop.example/pixelworks/laws.FnHistogramOf", spec := "fnHistogramOf", unfollowed := true, recurses := true, apart := false, narrowed := true }
def FnHistogramOfUptoSaid : Prop := fnHistogramOfUptoRow.holds Try.pinned (OpenSpec.upto fnHistogramOfSpec)

/-- 'laws.FnHistogramTurn', WHERE WHAT IT READS IS OF BULK AT MOST 1048576: true; the input reads as it did. -/
def fnHistogramTurnUptoRow : OpenClaim := { program := "ytpjljhboodbmeaa", sum := "493b3d848256f6c289ef522980ad742ac1857f090e5e46433f3c90f1e88e635d", func := "loop.example/pixelworks/laws.FnHistogramTurn", spec := "fnHistogramTurn", unfollowed := true, recurses := true, apart := false, narrowed := true }
def FnHistogramTurnUptoSaid : Prop := fnHistogramTurnUptoRow.holds Try.pinned (OpenSpec.upto fnHistogramTurnSpec)

/-- 'laws.FnExactEqualizeImage', WHERE WHAT IT READS IS OF BULK AT MOST 1048576: true; the input reads as it did. -/
def fnExactEqualizeImageUptoRow : OpenClaim := { program := "ytpjljhboodbmeaa", sum := "493b3d848256f6c289ef522980ad742ac1857f090e5e46433f3c90f1e88e635d", func := "loop.example/pixelworks/laws.FnExactEqualizeImage", spec := "fnExactEqualizeImage", unfollowed := true, recurses := true, apart := false, narrowed := true }
def FnExactEqualizeImageUptoSaid : Prop := fnExactEqualizeImageUptoRow.holds Try.pinned (OpenSpec.upto fnExactEqualizeImageSpec)

/-- 'laws.FnExactThresholdOf', WHERE WHAT IT READS IS OF BULK AT MOST 1048576: true; the input reads as it did. -/
def fnExactThresholdOfUptoRow : OpenClaim := { program := "ytpjljhboodbmeaa", sum := "493b3d848256f6c289ef522980ad742ac1857f090e5e46433f3c90f1e88e635d", func := "loop.example/pixelworks/laws.FnExactThresholdOf", spec := "fnExactThresholdOf", apart := false, narrowed := true }
def FnExactThresholdOfUptoSaid : Prop := fnExactThresholdOfUptoRow.holds Try.pinned (OpenSpec.upto fnExactThresholdOfSpec)

/-- 'laws.FnExactGapOf', WHERE WHAT IT READS IS OF BULK AT MOST 1048576: true; the input reads as it did. -/
def fnExactGapOfUptoRow : OpenClaim := { program := "ytpjljhboodbmeaa", sum := "493b3d848256f6c289ef522980ad742ac1857f090e5e46433f3c90f1e88e635d", func := "loop.example/pixelworks/laws.FnExactGapOf", spec := "fnExactGapOf", unfollowed := true, recurses := true, apart := false, narrowed := true }
def FnExactGapOfUptoSaid : Prop := fnExactGapOfUptoRow.holds Try.pinned (OpenSpec.upto fnExactGapOfSpec)

/-- 'laws.FnGapOf', WHERE WHAT IT READS IS OF BULK AT MOST 1048576: true; the input reads as it did. -/
def fnGapOfUptoRow : OpenClaim := { program := "ytpjljhboodbmeaa", sum := "493b3d848256f6c289ef522980ad742ac1857f090e5e46433f3c90f1e88e635d", func := "loop.example/pixelworks/laws.FnGapOf", spec := "fnGapOf", unfollowed := true, recurses := true, apart := false, narrowed := true }
def FnGapOfUptoSaid : Prop := fnGapOfUptoRow.holds Try.pinned (OpenSpec.upto fnGapOfSpec)

/-- 'laws.FnPasteImage', WHERE WHAT IT READS IS OF BULK AT MOST 1048576: true; the input reads as it did. -/
def fnPasteImageUptoRow : OpenClaim := { program := "ytpjljhboodbmeaa", sum := "493b3d848256f6c289ef522980ad742ac1857f090e5e46433f3c90f1e88e635d", func := "loop.example/pixelworks/laws.FnPasteImage", spec := "fnPasteImage", unfollowed := true, recurses := true, apart := false, narrowed := true }
def FnPasteImageUptoSaid : Prop := fnPasteImageUptoRow.holds Try.pinned (OpenSpec.upto fnPasteImageSpec)

/-- 'laws.FnExactMaskImage', WHERE WHAT IT READS IS OF BULK AT MOST 1048576: true; the input reads as it did. -/
def fnExactMaskImageUptoRow : OpenClaim := { program := "ytpjljhboodbmeaa", sum := "493b3d848256f6c289ef522980ad742ac1857f090e5e46433f3c90f1e88e635d", func := "loop.example/pixelworks/laws.FnExactMaskImage", spec := "fnExactMaskImage", unfollowed := true, recurses := true, apart := false, narrowed := true }
def FnExactMaskImageUptoSaid : Prop := fnExactMaskImageUptoRow.holds Try.pinned (OpenSpec.upto fnExactMaskImageSpec)

end Rows
end Go.Proofs.Ytpjljhboodbmeaa
