/-
  No cell of these rows narrows 'for every input' (looked for: loops, veiled, ifaces, maps, wideKeys, modest, calm, conditions, laid).
  DERIVED. THE GIVEN ROWS OF THIS SEAT. 3 by the template 'for every input the law returns true; each argument reads behind the call as it read before'; 0 by the template 'total and deterministic' (their statements: YtaejhodikpjeoaaTotals.lean).
  GIVEN WITH THE SEED: the statements are not yours to turn. If you find one false, say at which input.
  Laid BY PROGRAM, IN A SANDBOX (cutbox-rows.mjs): the forced cells as the released guide's own fill.sh prints them over the translation 4398fe7ba5f8b97c… (all of the seat's roots in one cut). By AI agents, Wed Nov 11 2026. No macro, syntax, notation, axiom, sorry.
-/
import Derived.Test.YtaejhodikpjeoaaChecked
import GoSem.Claim
import GoSem.ClaimJoined
import GoSem.ClaimMapViews
import Derived.JoinedTies
import Derived.KernelRfl
namespace Go.Proofs.Ytaejhodikpjeoaa
/- THE CELL 'sum', in the pinned program and in every row, IS THE sha256 OF THE DUMP (.gsa) THAT YtaejhodikpjeoaaProg.lean LOADS. Nothing in Lean hashes anything: it is a label: what it is worth is what the hold of that sum in a sandbox is worth. -/
noncomputable def Try.pinned : Pinned := { name := "ytaejhodikpjeoaa", sum := "4398fe7ba5f8b97cd79fb1f9e49d341baeca888130ce6a6cf922c3a4f31cf96b", checked := Try.checked }
namespace Rows
def none {H : Type} : Left H := { results := [], args := [] }

/-- 'laws.FnExactThresholdOf': WHATEVER THE INPUT: true; the input reads as it did. -/
def fnExactThresholdOfSpec : ChangeSpec := { name := "fnExactThresholdOf", fn := fun _ => fun
  | [d] => { results := [.lit (.bool true)], args := [d] }
  | _ => none }
def fnExactThresholdOfRow : OpenClaim := { program := "ytaejhodikpjeoaa", sum := "4398fe7ba5f8b97cd79fb1f9e49d341baeca888130ce6a6cf922c3a4f31cf96b", func := "loop.example/pixelworks/laws.FnExactThresholdOf", spec := "fnExactThresholdOf", plainKeys := false, apart := false }
def FnExactThresholdOfSaid : Prop := fnExactThresholdOfRow.holds Try.pinned (OpenSpec.ofChange fnExactThresholdOfSpec)

/-- ITS FALSE NEIGHBOUR: 'it returns false'. Refute it at one input. -/
def fnExactThresholdOfWrong : ChangeSpec := { name := "fnExactThresholdOf", fn := fun _ => fun
  | [d] => { results := [.lit (.bool false)], args := [d] }
  | _ => none }
def FnExactThresholdOfWrongFalsely : Prop := fnExactThresholdOfRow.holds Try.pinned (OpenSpec.ofChange fnExactThresholdOfWrong)

/-- 'laws.FnThresholdOf': WHATEVER THE INPUT: true; the input reads as it did. -/
def fnThresholdOfSpec : ChangeSpec := { name := "fnThresholdOf", fn := fun _ => fun
  | [d] => { results := [.lit (.bool true)], args := [d] }
  | _ => none }
def fnThresholdOfRow : OpenClaim := { program := "ytaejhodikpjeoaa", sum := "4398fe7ba5f8b97cd79fb1f9e49d341baeca888130ce6a6cf922c3a4f31cf96b", func := "loop.example/pixelworks/laws.FnThresholdOf", spec := "fnThresholdOf", plainKeys := false, apart := false }
def FnThresholdOfSaid : Prop := fnThresholdOfRow.holds Try.pinned (OpenSpec.ofChange fnThresholdOfSpec)

/-- ITS FALSE NEIGHBOUR: 'it returns false'. Refute it at one input. -/
def fnThresholdOfWrong : ChangeSpec := { name := "fnThresholdOf", fn := fun _ => fun
  | [d] => { results := [.lit (.bool false)], args := [d] }
  | _ => none }
def FnThresholdOfWrongFalsely : Prop := fnThresholdOfRow.holds Try.pinned (OpenSpec.ofChange fnThresholdOfWrong)

/-- 'laws.FnThresholdTwo': WHATEVER THE INPUT: true; the input reads as it did. -/
def fnThresholdTwoSpec : ChangeSpec := { name := "fnThresholdTwo", fn := fun _ => fun
  | [d] => { results := [.lit (.bool true)], args := [d] }
  | _ => none }
def fnThresholdTwoRow : OpenClaim := { program := "ytaejhodikpjeoaa", sum := "4398fe7ba5f8b97cd79fb1f9e49d341baeca888130ce6a6cf922c3a4f31cf96b", func := "loop.example/pixelworks/laws.FnThresholdTwo", spec := "fnThresholdTwo", unfollowed := true, recurses := true, plainKeys := false, apart := false }
def FnThresholdTwoSaid : Prop := fnThresholdTwoRow.holds Try.pinned (OpenSpec.ofChange fnThresholdTwoSpec)

/-- ITS FALSE NEIGHBOUR: 'it returns false'. Refute it at one input. -/
def fnThresholdTwoWrong : ChangeSpec := { name := "fnThresholdTwo", fn := fun _ => fun
  | [d] => { results := [.lit (.bool false)], args := [d] }
  | _ => none }
def FnThresholdTwoWrongFalsely : Prop := fnThresholdTwoRow.holds Try.pinned (OpenSpec.ofChange fnThresholdTwoWrong)

/- THE SECOND FORM. 'bulk': how many values and letters a reading holds, each counted each time it is reached (what is shared counts as often as it is met; a slice's spare places count too). A statement '..UptoSaid' is the law's where the arguments, and the package variables that the reading takes, are together of bulk at most 1048576: NARROWER than '..Said'. Prove '..Said' where nothing that the law and all that it calls make is longer than what came in: it says more and counts as full. Else prove '..UptoSaid'. A law counts once. -/
mutual
def uptoBulk {H : Type} : DataW H → Nat
  | .lit (.string bytes) => bytes.length + 1
  | .lit _ => 1
  | .nil => 1
  | .ptr d => uptoBulk d + 1
  | .slice elems spare => uptoBulkAll elems + uptoBulkAll spare + 1
  | .agg parts => uptoBulkAll parts + 1
  | .iface _ d => uptoBulk d + 1
  | .map entries => uptoBulkEntries entries + 1
  | .held _ => 1
def uptoBulkAll {H : Type} : List (DataW H) → Nat
  | [] => 0
  | d :: r => uptoBulk d + uptoBulkAll r
def uptoBulkEntries {H : Type} : List (Lit × DataW H) → Nat
  | [] => 0
  | x :: r => uptoBulkEntry x + uptoBulkEntries r
def uptoBulkEntry {H : Type} : Lit × DataW H → Nat
  | (.string bytes, d) => bytes.length + uptoBulk d + 1
  | (_, d) => uptoBulk d + 1
 end
def uptoSmall : (H : Type) → List (DataW H) → Bool := fun _ ds => decide (uptoBulkAll ds ≤ 1048576)
def OpenSpec.upto (s : _root_.Go.ChangeSpec) : _root_.Go.OpenSpec := { _root_.Go.OpenSpec.ofChange s with cond := some uptoSmall }

/-- 'laws.FnExactThresholdOf', WHERE WHAT IT READS IS OF BULK AT MOST 1048576: true; the input reads as it did. -/
def fnExactThresholdOfUptoRow : OpenClaim := { program := "ytaejhodikpjeoaa", sum := "4398fe7ba5f8b97cd79fb1f9e49d341baeca888130ce6a6cf922c3a4f31cf96b", func := "loop.example/pixelworks/laws.FnExactThresholdOf", spec := "fnExactThresholdOf", plainKeys := false, apart := false, narrowed := true }
def FnExactThresholdOfUptoSaid : Prop := fnExactThresholdOfUptoRow.holds Try.pinned (OpenSpec.upto fnExactThresholdOfSpec)

/-- 'laws.FnThresholdOf', WHERE WHAT IT READS IS OF BULK AT MOST 1048576: true; the input reads as it did. -/
def fnThresholdOfUptoRow : OpenClaim := { program := "ytaejhodikpjeoaa", sum := "4398fe7ba5f8b97cd79fb1f9e49d341baeca888130ce6a6cf922c3a4f31cf96b", func := "loop.example/pixelworks/laws.FnThresholdOf", spec := "fnThresholdOf", plainKeys := false, apart := false, narrowed := true }
def FnThresholdOfUptoSaid : Prop := fnThresholdOfUptoRow.holds Try.pinned (OpenSpec.upto fnThresholdOfSpec)

/-- 'laws.FnThresholdTwo', WHERE WHAT IT READS IS OF BULK AT MOST 1048576: true; the input reads as it did. -/
def fnThresholdTwoUptoRow : OpenClaim := { program := "ytaejhodikpjeoaa", sum := "4398fe7ba5f8b97cd79fb1f9e49d341baeca888130ce6a6cf922c3a4f31cf96b", func := "loop.example/pixelworks/laws.FnThresholdTwo", spec := "fnThresholdTwo", unfollowed := true, recurses := true, plainKeys := false, apart := false, narrowed := true }
def FnThresholdTwoUptoSaid : Prop := fnThresholdTwoUptoRow.holds Try.pinned (OpenSpec.upto fnThresholdTwoSpec)

end Rows
end Go.Proofs.Ytaejhodikpjeoaa
