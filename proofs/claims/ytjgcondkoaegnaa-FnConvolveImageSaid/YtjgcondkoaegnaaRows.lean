/-
  No cell of these rows narrows 'for every input' (looked for: loops, veiled, ifaces, maps, wideKeys, modest, calm, conditions, laid).
  DERIVED. THE GIVEN ROWS OF THIS SEAT. 3 by the template 'for every input the law returns true; each argument reads behind the call as it read before'; 0 by the template 'total and deterministic' (their statements: YtjgcondkoaegnaaTotals.lean).
  GIVEN WITH THE SEED: the statements are not yours to turn. If you find one false, say at which input.
  Laid BY PROGRAM, IN A SANDBOX (cutbox-rows.mjs): the forced cells as the released guide's own fill.sh prints them over the translation 4bf09760602a4edf… (all of the seat's roots in one cut). By AI agents, Wed Nov 11 2026. No macro, syntax, notation, axiom, sorry.
-/
import Derived.Test.YtjgcondkoaegnaaChecked
import GoSem.Claim
import GoSem.ClaimJoined
import GoSem.ClaimMapViews
import Derived.JoinedTies
import Derived.KernelRfl
namespace Go.Proofs.Ytjgcondkoaegnaa
/- THE CELL 'sum', in the pinned program and in every row, IS THE sha256 OF THE DUMP (.gsa) THAT YtjgcondkoaegnaaProg.lean LOADS. Nothing in Lean hashes anything: it is a label: what it is worth is what the hold of that sum in a sandbox is worth. -/
noncomputable def Try.pinned : Pinned := { name := "ytjgcondkoaegnaa", sum := "4bf09760602a4edf40fee10da36fcc7950fd3b737b769a13c3676c3449a8184b", checked := Try.checked }
namespace Rows
def none {H : Type} : Left H := { results := [], args := [] }

/-- 'laws.FnExactConvolveImage': WHATEVER THE INPUT: true; the input reads as it did. -/
def fnExactConvolveImageSpec : ChangeSpec := { name := "fnExactConvolveImage", fn := fun _ => fun
  | [d1, d2] => { results := [.lit (.bool true)], args := [d1, d2] }
  | _ => none }
def fnExactConvolveImageRow : OpenClaim := { program := "ytjgcondkoaegnaa", sum := "4bf09760602a4edf40fee10da36fcc7950fd3b737b769a13c3676c3449a8184b", func := "loop.example/pixelworks/laws.FnExactConvolveImage", spec := "fnExactConvolveImage", unfollowed := true, recurses := true, plainKeys := false, apart := false }
def FnExactConvolveImageSaid : Prop := fnExactConvolveImageRow.holds Try.pinned (OpenSpec.ofChange fnExactConvolveImageSpec)

/-- ITS FALSE NEIGHBOUR: 'it returns false'. Refute it at one input. -/
def fnExactConvolveImageWrong : ChangeSpec := { name := "fnExactConvolveImage", fn := fun _ => fun
  | [d1, d2] => { results := [.lit (.bool false)], args := [d1, d2] }
  | _ => none }
def FnExactConvolveImageWrongFalsely : Prop := fnExactConvolveImageRow.holds Try.pinned (OpenSpec.ofChange fnExactConvolveImageWrong)

/-- 'laws.FnConvolveImage': WHATEVER THE INPUT: true; the input reads as it did. -/
def fnConvolveImageSpec : ChangeSpec := { name := "fnConvolveImage", fn := fun _ => fun
  | [d] => { results := [.lit (.bool true)], args := [d] }
  | _ => none }
def fnConvolveImageRow : OpenClaim := { program := "ytjgcondkoaegnaa", sum := "4bf09760602a4edf40fee10da36fcc7950fd3b737b769a13c3676c3449a8184b", func := "loop.example/pixelworks/laws.FnConvolveImage", spec := "fnConvolveImage", unfollowed := true, recurses := true, plainKeys := false, apart := false }
def FnConvolveImageSaid : Prop := fnConvolveImageRow.holds Try.pinned (OpenSpec.ofChange fnConvolveImageSpec)

/-- ITS FALSE NEIGHBOUR: 'it returns false'. Refute it at one input. -/
def fnConvolveImageWrong : ChangeSpec := { name := "fnConvolveImage", fn := fun _ => fun
  | [d] => { results := [.lit (.bool false)], args := [d] }
  | _ => none }
def FnConvolveImageWrongFalsely : Prop := fnConvolveImageRow.holds Try.pinned (OpenSpec.ofChange fnConvolveImageWrong)

/-- 'laws.FnConvolveImageTurn': WHATEVER THE INPUT: true; the input reads as it did. -/
def fnConvolveImageTurnSpec : ChangeSpec := { name := "fnConvolveImageTurn", fn := fun _ => fun
  | [d] => { results := [.lit (.bool true)], args := [d] }
  | _ => none }
def fnConvolveImageTurnRow : OpenClaim := { program := "ytjgcondkoaegnaa", sum := "4bf09760602a4edf40fee10da36fcc7950fd3b737b769a13c3676c3449a8184b", func := "loop.example/pixelworks/laws.FnConvolveImageTurn", spec := "fnConvolveImageTurn", unfollowed := true, recurses := true, plainKeys := false, apart := false }
def FnConvolveImageTurnSaid : Prop := fnConvolveImageTurnRow.holds Try.pinned (OpenSpec.ofChange fnConvolveImageTurnSpec)

/-- ITS FALSE NEIGHBOUR: 'it returns false'. Refute it at one input. -/
def fnConvolveImageTurnWrong : ChangeSpec := { name := "fnConvolveImageTurn", fn := fun _ => fun
  | [d] => { results := [.lit (.bool false)], args := [d] }
  | _ => none }
def FnConvolveImageTurnWrongFalsely : Prop := fnConvolveImageTurnRow.holds Try.pinned (OpenSpec.ofChange fnConvolveImageTurnWrong)

/- THE SECOND FORM. 'bulk': how many values and letters a reading holds, each counted each time it is reached (what is shared counts as often as it is met; a slice's spare places count too). A statement '..UptoSaid' is the law's where the arguments, and the package variables that the reading takes, are together of bulk at most 1048576: NARROWER than '..Said'. Prove '..Said' where nothing that the law and all that it calls make is longer than what came in: it says more and counts as full. Else prove '..UptoSaid'. A law counts once. -/
mutual
def uptoBulk {H : Type} : DataW H → Nat
  | .lit (.string bytes) => bytes.length + 1
  | .lit _ => 1
  | .nil => 1
  | .ptr d => uptoBulk d + 1
  | .slice elems spare => uptoBulkAll elems + uptoBulkAll spare + 1
  | .agg parts => uptoBulkAll parts + 1
  | .iface _ d => uptoBulk d + 1
  | .map entries => uptoBulkEntries entries + 1
  | .held _ => 1
def uptoBulkAll {H : Type} : List (DataW H) → Nat
  | [] => 0
  | d :: r => uptoBulk d + uptoBulkAll r
def uptoBulkEntries {H : Type} : List (Lit × DataW H) → Nat
  | [] => 0
  | x :: r => uptoBulkEntry x + uptoBulkEntries r
def uptoBulkEntry {H : Type} : Lit × DataW H → Nat
  | (.string bytes, d) => bytes.length + uptoBulk d + 1
  | (_, d) => uptoBulk d + 1
 end
def uptoSmall : (H : Type) → List (DataW H) → Bool := fun _ ds => decide (uptoBulkAll ds ≤ 1048576)
def OpenSpec.upto (s : _root_.Go.ChangeSpec) : _root_.Go.OpenSpec := { _root_.Go.OpenSpec.ofChange s with cond := some uptoSmall }

/-- 'laws.FnExactConvolveImage', WHERE WHAT IT READS IS OF BULK AT MOST 1048576: true; the input reads as it did. -/
def fnExactConvolveImageUptoRow : OpenClaim := { program := "ytjgcondkoaegnaa", sum := "4bf09760602a4edf40fee10da36fcc7950fd3b737b769a13c3676c3449a8184b", func := "loop.example/pixelworks/laws.FnExactConvolveImage", spec := "fnExactConvolveImage", unfollowed := true, recurses := true, plainKeys := false, apart := false, narrowed := true }
def FnExactConvolveImageUptoSaid : Prop := fnExactConvolveImageUptoRow.holds Try.pinned (OpenSpec.upto fnExactConvolveImageSpec)

/-- 'laws.FnConvolveImage', WHERE WHAT IT READS IS OF BULK AT MOST 1048576: true; the input reads as it did. -/
def fnConvolveImageUptoRow : OpenClaim := { program := "ytjgcondkoaegnaa", sum := "4bf09760602a4edf40fee10da36fcc7950fd3b737b769a13c3676c3449a8184b", func := "loop.example/pixelworks/laws.FnConvolveImage", spec := "fnConvolveImage", unfollowed := true, recurses := true, plainKeys := false, apart := false, narrowed := true }
def FnConvolveImageUptoSaid : Prop := fnConvolveImageUptoRow.holds Try.pinned (OpenSpec.upto fnConvolveImageSpec)

/-- 'laws.FnConvolveImageTurn', WHERE WHAT IT READS IS OF BULK AT MOST 1048576: true; the input reads as it did. -/
def fnConvolveImageTurnUptoRow : OpenClaim := { program := "ytjgcondkoaegnaa", sum := "4bf09760602a4edf40fee10da36fcc7950fd3b737b769a13c3676c3449a8184b", func := "loop.example/pixelworks/laws.FnConvolveImageTurn", spec := "fnConvolveImageTurn", unfollowed := true, recurses := true, plainKeys := false, apart := false, narrowed := true }
def FnConvolveImageTurnUptoSaid : Prop := fnConvolveImageTurnUptoRow.holds Try.pinned (OpenSpec.upto fnConvolveImageTurnSpec)

end Rows
end Go.Proofs.Ytjgcondkoaegnaa
