/-
  No cell of these rows narrows 'for every input' (looked for: loops, veiled, ifaces, maps, wideKeys, modest, calm, conditions, laid).
  DERIVED. THE GIVEN ROWS OF THIS SEAT. 6 by the template 'for every input the law returns true; each argument reads behind the call as it read before'; 0 by the template 'total and deterministic' (their statements: YtgieijogopcjnaaTotals.lean).
  GIVEN WITH THE SEED: the statements are not yours to turn. If you find one false, say at which input.
  Laid BY PROGRAM, IN A SANDBOX (cutbox-rows.mjs): the forced cells as the released guide's own fill.sh prints them over the translation d265c67094883765… (all of the seat's roots in one cut). By AI agents, Wed Nov 11 2026. No macro, syntax, notation, axiom, sorry.
-/
import Derived.Test.YtgieijogopcjnaaChecked
import GoSem.Claim
import GoSem.ClaimJoined
import GoSem.ClaimMapViews
import Derived.JoinedTies
import Derived.KernelRfl
namespace Go.Proofs.Ytgieijogopcjnaa
/- THE CELL 'sum', in the pinned program and in every row, IS THE sha256 OF THE DUMP (.gsa) THAT YtgieijogopcjnaaProg.lean LOADS. Nothing in Lean hashes anything: it is a label: what it is worth is what the hold of that sum in a sandbox is worth. -/
noncomputable def Try.pinned : Pinned := { name := "ytgieijogopcjnaa", sum := "d265c67094883765221554fcf6f1777ff24e4d06b9a6a030e22d0267d6a83588", checked := Try.checked }
namespace Rows
def none {H : Type} : Left H := { results := [], args := [] }

/-- 'laws.FnValidPacking': WHATEVER THE INPUT: true; the input reads as it did. -/
def fnValidPackingSpec : ChangeSpec := { name := "fnValidPacking", fn := fun _ => fun
  | [d] => { results := [.lit (.bool true)], args := [d] }
  | _ => none }
def fnValidPackingRow : OpenClaim := { program := "ytgieijogopcjnaa", sum := "d265c67094883765221554fcf6f1777ff24e4d06b9a6a030e22d0267d6a83588", func := "loop.example/pixelworks/laws.FnValidPacking", spec := "fnValidPacking", unfollowed := true, recurses := true, apart := false }
def FnValidPackingSaid : Prop := fnValidPackingRow.holds Try.pinned (OpenSpec.ofChange fnValidPackingSpec)

/-- ITS FALSE NEIGHBOUR: 'it returns false'. Refute it at one input. -/
def fnValidPackingWrong : ChangeSpec := { name := "fnValidPacking", fn := fun _ => fun
  | [d] => { results := [.lit (.bool false)], args := [d] }
  | _ => none }
def FnValidPackingWrongFalsely : Prop := fnValidPackingRow.holds Try.pinned (OpenSpec.ofChange fnValidPackingWrong)

/-- 'laws.FnValidPackingTwice': WHATEVER THE INPUT: true; the input reads as it did. -/
def fnValidPackingTwiceSpec : ChangeSpec := { name := "fnValidPackingTwice", fn := fun _ => fun
  | [d] => { results := [.lit (.bool true)], args := [d] }
  | _ => none }
def fnValidPackingTwiceRow : OpenClaim := { program := "ytgieijogopcjnaa", sum := "d265c67094883765221554fcf6f1777ff24e4d06b9a6a030e22d0267d6a83588", func := "loop.example/pixelworks/laws.FnValidPackingTwice", spec := "fnValidPackingTwice", unfollowed := true, recurses := true, apart := false }
def FnValidPackingTwiceSaid : Prop := fnValidPackingTwiceRow.holds Try.pinned (OpenSpec.ofChange fnValidPackingTwiceSpec)

/-- ITS FALSE NEIGHBOUR: 'it returns false'. Refute it at one input. -/
def fnValidPackingTwiceWrong : ChangeSpec := { name := "fnValidPackingTwice", fn := fun _ => fun
  | [d] => { results := [.lit (.bool false)], args := [d] }
  | _ => none }
def FnValidPackingTwiceWrongFalsely : Prop := fnValidPackingTwiceRow.holds Try.pinned (OpenSpec.ofChange fnValidPackingTwiceWrong)

/-- 'laws.FnExactPackSprites': WHATEVER THE INPUT: true; the input reads as it did. -/
def fnExactPackSpritesSpec : ChangeSpec := { name := "fnExactPackSprites", fn := fun _ => fun
  | [d1, d2] => { results := [.lit (.bool true)], args := [d1, d2] }
  | _ => none }
def fnExactPackSpritesRow : OpenClaim := { program := "ytgieijogopcjnaa", sum := "d265c67094883765221554fcf6f1777ff24e4d06b9a6a030e22d0267d6a83588", func := "loop.example/pixelworks/laws.FnExactPackSprites", spec := "fnExactPackSprites", unfollowed := true, recurses := true, apart := false }
def FnExactPackSpritesSaid : Prop := fnExactPackSpritesRow.holds Try.pinned (OpenSpec.ofChange fnExactPackSpritesSpec)

/-- ITS FALSE NEIGHBOUR: 'it returns false'. Refute it at one input. -/
def fnExactPackSpritesWrong : ChangeSpec := { name := "fnExactPackSprites", fn := fun _ => fun
  | [d1, d2] => { results := [.lit (.bool false)], args := [d1, d2] }
  | _ => none }
def FnExactPackSpritesWrongFalsely : Prop := fnExactPackSpritesRow.holds Try.pinned (OpenSpec.ofChange fnExactPackSpritesWrong)

/-- 'laws.FnPackSprites': WHATEVER THE INPUT: true; the input reads as it did. -/
def fnPackSpritesSpec : ChangeSpec := { name := "fnPackSprites", fn := fun _ => fun
  | [d] => { results := [.lit (.bool true)], args := [d] }
  | _ => none }
def fnPackSpritesRow : OpenClaim := { program := "ytgieijogopcjnaa", sum := "d265c67094883765221554fcf6f1777ff24e4d06b9a6a030e22d0267d6a83588", func := "loop.example/pixelworks/laws.FnPackSprites", spec := "fnPackSprites", unfollowed := true, recurses := true, apart := false }
def FnPackSpritesSaid : Prop := fnPackSpritesRow.holds Try.pinned (OpenSpec.ofChange fnPackSpritesSpec)

/-- ITS FALSE NEIGHBOUR: 'it returns false'. Refute it at one input. -/
def fnPackSpritesWrong : ChangeSpec := { name := "fnPackSprites", fn := fun _ => fun
  | [d] => { results := [.lit (.bool false)], args := [d] }
  | _ => none }
def FnPackSpritesWrongFalsely : Prop := fnPackSpritesRow.holds Try.pinned (OpenSpec.ofChange fnPackSpritesWrong)

/-- 'laws.FnPackSpritesHeight': WHATEVER THE INPUT: true; the input reads as it did. -/
def fnPackSpritesHeightSpec : ChangeSpec := { name := "fnPackSpritesHeight", fn := fun _ => fun
  | [d] => { results := [.lit (.bool true)], args := [d] }
  | _ => none }
def fnPackSpritesHeightRow : OpenClaim := { program := "ytgieijogopcjnaa", sum := "d265c67094883765221554fcf6f1777ff24e4d06b9a6a030e22d0267d6a83588", func := "loop.example/pixelworks/laws.FnPackSpritesHeight", spec := "fnPackSpritesHeight", unfollowed := true, recurses := true, apart := false }
def FnPackSpritesHeightSaid : Prop := fnPackSpritesHeightRow.holds Try.pinned (OpenSpec.ofChange fnPackSpritesHeightSpec)

/-- ITS FALSE NEIGHBOUR: 'it returns false'. Refute it at one input. -/
def fnPackSpritesHeightWrong : ChangeSpec := { name := "fnPackSpritesHeight", fn := fun _ => fun
  | [d] => { results := [.lit (.bool false)], args := [d] }
  | _ => none }
def FnPackSpritesHeightWrongFalsely : Prop := fnPackSpritesHeightRow.holds Try.pinned (OpenSpec.ofChange fnPackSpritesHeightWrong)

/-- 'laws.FnPackSpritesOne': WHATEVER THE INPUT: true; the input reads as it did. -/
def fnPackSpritesOneSpec : ChangeSpec := { name := "fnPackSpritesOne", fn := fun _ => fun
  | [d] => { results := [.lit (.bool true)], args := [d] }
  | _ => none }
def fnPackSpritesOneRow : OpenClaim := { program := "ytgieijogopcjnaa", sum := "d265c67094883765221554fcf6f1777ff24e4d06b9a6a030e22d0267d6a83588", func := "loop.example/pixelworks/laws.FnPackSpritesOne", spec := "fnPackSpritesOne", unfollowed := true, recurses := true, apart := false }
def FnPackSpritesOneSaid : Prop := fnPackSpritesOneRow.holds Try.pinned (OpenSpec.ofChange fnPackSpritesOneSpec)

/-- ITS FALSE NEIGHBOUR: 'it returns false'. Refute it at one input. -/
def fnPackSpritesOneWrong : ChangeSpec := { name := "fnPackSpritesOne", fn := fun _ => fun
  | [d] => { results := [.lit (.bool false)], args := [d] }
  | _ => none }
def FnPackSpritesOneWrongFalsely : Prop := fnPackSpritesOneRow.holds Try.pinned (OpenSpec.ofChange fnPackSpritesOneWrong)

/- THE SECOND FORM. 'bulk': how many values and letters a reading holds, each counted each time it is reached (what is shared counts as often as it is met; a slice's spare places count too). A statement '..UptoSaid' is the law's where the arguments, and the package variables that the reading takes, are together of bulk at most 1048576: NARROWER than '..Said'. Prove '..Said' where nothing that the law and all that it calls make is longer than what came in: it says more and counts as full. Else prove '..UptoSaid'. A law counts once. -/
mutual
def uptoBulk {H : Type} : DataW H → Nat
  | .lit (.string bytes) => bytes.length + 1
  | .lit _ => 1
  | .nil => 1
  | .ptr d => uptoBulk d + 1
  | .slice elems spare => uptoBulkAll elems + uptoBulkAll spare + 1
  | .agg parts => uptoBulkAll parts + 1
  | .iface _ d => uptoBulk d + 1
  | .map entries => uptoBulkEntries entries + 1
  | .held _ => 1
def uptoBulkAll {H : Type} : List (DataW H) → Nat
  | [] => 0
  | d :: r => uptoBulk d + uptoBulkAll r
def uptoBulkEntries {H : Type} : List (Lit × DataW H) → Nat
  | [] => 0
  | x :: r => uptoBulkEntry x + uptoBulkEntries r
def uptoBulkEntry {H : Type} : Lit × DataW H → Nat
  | (.string bytes, d) => bytes.length + uptoBulk d + 1
  | (_, d) => uptoBulk d + 1
 end
def uptoSmall : (H : Type) → List (DataW H) → Bool := fun _ ds => decide (uptoBulkAll ds ≤ 1048576)
def OpenSpec.upto (s : _root_.Go.ChangeSpec) : _root_.Go.OpenSpec := { _root_.Go.OpenSpec.ofChange s with cond := some uptoSmall }

/-- 'laws.FnValidPacking', WHERE WHAT IT READS IS OF BULK AT MOST 1048576: true; the input reads as it did. -/
def fnValidPackingUptoRow : OpenClaim := { program := "ytgieijogopcjnaa", sum := "d265c67094883765221554fcf6f1777ff24e4d06b9a6a030e22d0267d6a83588", func := "loop.example/pixelworks/laws.FnValidPacking", spec := "fnValidPacking", unfollowed := true, recurses := true, apart := false, narrowed := true }
def FnValidPackingUptoSaid : Prop := fnValidPackingUptoRow.holds Try.pinned (OpenSpec.upto fnValidPackingSpec)

/-- 'laws.FnValidPackingTwice', WHERE WHAT IT READS IS OF BULK AT MOST 1048576: true; the input reads as it did. -/
def fnValidPackingTwiceUptoRow : OpenClaim := { program := "ytgieijogopcjnaa", sum := "d265c67094883765221554fcf6f1777ff24e4d06b9a6a030e22d0267d6a83588", func := "loop.example/pixelworks/laws.FnValidPackingTwice", spec := "fnValidPackingTwice", unfollowed := true, recurses := true, apart := false, narrowed := true }
def FnValidPackingTwiceUptoSaid : Prop := fnValidPackingTwiceUptoRow.holds Try.pinned (OpenSpec.upto fnValidPackingTwiceSpec)

/-- 'laws.FnExactPackSprites', WHERE WHAT IT READS IS OF BULK AT MOST 1048576: true; the input reads as it did. -/
def fnExactPackSpritesUptoRow : OpenClaim := { program := "ytgieijogopcjnaa", sum := "d265c67094883765221554fcf6f1777ff24e4d06b9a6a030e22d0267d6a83588", func := "loop.example/pixelworks/laws.FnExactPackSprites", spec := "fnExactPackSprites", unfollowed := true, recurses := true, apart := false, narrowed := true }
def FnExactPackSpritesUptoSaid : Prop := fnExactPackSpritesUptoRow.holds Try.pinned (OpenSpec.upto fnExactPackSpritesSpec)

/-- 'laws.FnPackSprites', WHERE WHAT IT READS IS OF BULK AT MOST 1048576: true; the input reads as it did. -/
def fnPackSpritesUptoRow : OpenClaim := { program := "ytgieijogopcjnaa", sum := "d265c67094883765221554fcf6f1777ff24e4d06b9a6a030e22d0267d6a83588", func := "loop.example/pixelworks/laws.FnPackSprites", spec := "fnPackSprites", unfollowed := true, recurses := true, apart := false, narrowed := true }
def FnPackSpritesUptoSaid : Prop := fnPackSpritesUptoRow.holds Try.pinned (OpenSpec.upto fnPackSpritesSpec)

/-- 'laws.FnPackSpritesHeight', WHERE WHAT IT READS IS OF BULK AT MOST 1048576: true; the input reads as it did. -/
def fnPackSpritesHeightUptoRow : OpenClaim := { program := "ytgieijogopcjnaa", sum := "d265c67094883765221554fcf6f1777ff24e4d06b9a6a030e22d0267d6a83588", func := "loop.example/pixelworks/laws.FnPackSpritesHeight", spec := "fnPackSpritesHeight", unfollowed := true, recurses := true, apart := false, narrowed := true }
def FnPackSpritesHeightUptoSaid : Prop := fnPackSpritesHeightUptoRow.holds Try.pinned (OpenSpec.upto fnPackSpritesHeightSpec)

/-- 'laws.FnPackSpritesOne', WHERE WHAT IT READS IS OF BULK AT MOST 1048576: true; the input reads as it did. -/
def fnPackSpritesOneUptoRow : OpenClaim := { program := "ytgieijogopcjnaa", sum := "d265c67094883765221554fcf6f1777ff24e4d06b9a6a030e22d0267d6a83588", func := "loop.example/pixelworks/laws.FnPackSpritesOne", spec := "fnPackSpritesOne", unfollowed := true, recurses := true, apart := false, narrowed := true }
def FnPackSpritesOneUptoSaid : Prop := fnPackSpritesOneUptoRow.holds Try.pinned (OpenSpec.upto fnPackSpritesOneSpec)

end Rows
end Go.Proofs.Ytgieijogopcjnaa
