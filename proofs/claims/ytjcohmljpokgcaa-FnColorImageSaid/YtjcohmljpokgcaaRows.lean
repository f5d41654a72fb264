/-
  No cell of these rows narrows 'for every input' (looked for: loops, veiled, ifaces, maps, wideKeys, modest, calm, conditions, laid).
  DERIVED. THE GIVEN ROWS OF THIS SEAT. 3 by the template 'for every input the law returns true; each argument reads behind the call as it read before'; 0 by the template 'total and deterministic' (their statements: YtjcohmljpokgcaaTotals.lean).
  GIVEN WITH THE SEED: the statements are not yours to turn. If you find one false, say at which input.
  Laid BY PROGRAM, IN A SANDBOX (cutbox-rows.mjs): the forced cells as the released guide's own fill.sh prints them over the translation fe538487c30e7bc0… (all of the seat's roots in one cut). By AI agents, Wed Nov 11 2026. No macro, syntax, notation, axiom, sorry.
-/
import Derived.Test.YtjcohmljpokgcaaChecked
import GoSem.Claim
import GoSem.ClaimJoined
import GoSem.ClaimMapViews
import Derived.JoinedTies
import Derived.KernelRfl
namespace Go.Proofs.Ytjcohmljpokgcaa
/- THE CELL 'sum', in the pinned program and in every row, IS THE sha256 OF THE DUMP (.gsa) THAT YtjcohmljpokgcaaProg.lean LOADS. Nothing in Lean hashes anything: it is a label: what it is worth is what the hold of that sum in a sandbox is worth. -/
noncomputable def Try.pinned : Pinned := { name := "ytjcohmljpokgcaa", sum := "fe538487c30e7bc0c6e32a50dde5cae336933c3ef18d6e1178bcb1fb8f5eddfe", checked := Try.checked }
namespace Rows
def none {H : Type} : Left H := { results := [], args := [] }

/-- 'laws.FnColorImage': WHATEVER THE INPUT: true; the input reads as it did. -/
def fnColorImageSpec : ChangeSpec := { name := "fnColorImage", fn := fun _ => fun
  | [d] => { results := [.lit (.bool true)], args := [d] }
  | _ => none }
def fnColorImageRow : OpenClaim := { program := "ytjcohmljpokgcaa", sum := "fe538487c30e7bc0c6e32a50dde5cae336933c3ef18d6e1178bcb1fb8f5eddfe", func := "loop.example/pixelworks/laws.FnColorImage", spec := "fnColorImage", unfollowed := true, recurses := true, plainKeys := false, apart := false }
def FnColorImageSaid : Prop := fnColorImageRow.holds Try.pinned (OpenSpec.ofChange fnColorImageSpec)

/-- ITS FALSE NEIGHBOUR: 'it returns false'. Refute it at one input. -/
def fnColorImageWrong : ChangeSpec := { name := "fnColorImage", fn := fun _ => fun
  | [d] => { results := [.lit (.bool false)], args := [d] }
  | _ => none }
def FnColorImageWrongFalsely : Prop := fnColorImageRow.holds Try.pinned (OpenSpec.ofChange fnColorImageWrong)

/-- 'laws.FnFillImage': WHATEVER THE INPUT: true; the input reads as it did. -/
def fnFillImageSpec : ChangeSpec := { name := "fnFillImage", fn := fun _ => fun
  | [d] => { results := [.lit (.bool true)], args := [d] }
  | _ => none }
def fnFillImageRow : OpenClaim := { program := "ytjcohmljpokgcaa", sum := "fe538487c30e7bc0c6e32a50dde5cae336933c3ef18d6e1178bcb1fb8f5eddfe", func := "loop.example/pixelworks/laws.FnFillImage", spec := "fnFillImage", unfollowed := true, recurses := true, plainKeys := false, apart := false }
def FnFillImageSaid : Prop := fnFillImageRow.holds Try.pinned (OpenSpec.ofChange fnFillImageSpec)

/-- ITS FALSE NEIGHBOUR: 'it returns false'. Refute it at one input. -/
def fnFillImageWrong : ChangeSpec := { name := "fnFillImage", fn := fun _ => fun
  | [d] => { results := [.lit (.bool false)], args := [d] }
  | _ => none }
def FnFillImageWrongFalsely : Prop := fnFillImageRow.holds Try.pinned (OpenSpec.ofChange fnFillImageWrong)

/-- 'laws.FnEqualizeTwice': WHATEVER THE INPUT: true; the input reads as it did. -/
def fnEqualizeTwiceSpec : ChangeSpec := { name := "fnEqualizeTwice", fn := fun _ => fun
  | [d] => { results := [.lit (.bool true)], args := [d] }
  | _ => none }
def fnEqualizeTwiceRow : OpenClaim := { program := "ytjcohmljpokgcaa", sum := "fe538487c30e7bc0c6e32a50dde5cae336933c3ef18d6e1178bcb1fb8f5eddfe", func := "loop.example/pixelworks/laws.FnEqualizeTwice", spec := "fnEqualizeTwice", unfollowed := true, recurses := true, plainKeys := false, apart := false }
def FnEqualizeTwiceSaid : Prop := fnEqualizeTwiceRow.holds Try.pinned (OpenSpec.ofChange fnEqualizeTwiceSpec)

/-- ITS FALSE NEIGHBOUR: 'it returns false'. Refute it at one input. -/
def fnEqualizeTwiceWrong : ChangeSpec := { name := "fnEqualizeTwice", fn := fun _ => fun
  | [d] => { results := [.lit (.bool false)], args := [d] }
  | _ => none }
def FnEqualizeTwiceWrongFalsely : Prop := fnEqualizeTwiceRow.holds Try.pinned (OpenSpec.ofChange fnEqualizeTwiceWrong)

/- THE SECOND FORM. 'bulk': how many values and letters a reading holds, each counted each time it is reached (what is shared counts as often as it is met; a slice's spare places count too). A statement '..UptoSaid' is the law's where the arguments, and the package variables that the reading takes, are together of bulk at most 1048576: NARROWER than '..Said'. Prove '..Said' where nothing that the law and all that it calls make is longer than what came in: it says more and counts as full. Else prove '..UptoSaid'. A law counts once. -/
mutual
def uptoBulk {H : Type} : DataW H → Nat
  | .lit (.string bytes) => bytes.length + 1
  | .lit _ => 1
  | .nil => 1
  | .ptr d => uptoBulk d + 1
  | .slice elems spare => uptoBulkAll elems + uptoBulkAll spare + 1
  | .agg parts => uptoBulkAll parts + 1
  | .iface _ d => uptoBulk d + 1
  | .map entries => uptoBulkEntries entries + 1
  | .held _ => 1
def uptoBulkAll {H : Type} : List (DataW H) → Nat
  | [] => 0
  | d :: r => uptoBulk d + uptoBulkAll r
def uptoBulkEntries {H : Type} : List (Lit × DataW H) → Nat
  | [] => 0
  | x :: r => uptoBulkEntry x + uptoBulkEntries r
def uptoBulkEntry {H : Type} : Lit × DataW H → Nat
  | (.string bytes, d) => bytes.length + uptoBulk d + 1
  | (_, d) => uptoBulk d + 1
 end
def uptoSmall : (H : Type) → List (DataW H) → Bool := fun _ ds => decide (uptoBulkAll ds ≤ 1048576)
def OpenSpec.upto (s : _root_.Go.ChangeSpec) : _root_.Go.OpenSpec := { _root_.Go.OpenSpec.ofChange s with cond := some uptoSmall }

/-- 'laws.FnColorImage', WHERE WHAT IT READS IS OF BULK AT MOST 1048576: true; the input reads as it did. -/
def fnColorImageUptoRow : OpenClaim := { program := "ytjcohmljpokgcaa", sum := "fe538487c30e7bc0c6e32a50dde5cae336933c3ef18d6e1178bcb1fb8f5eddfe", func := "loop.example/pixelworks/laws.FnColorImage", spec := "fnColorImage", unfollowed := true, recurses := true, plainKeys := false, apart := false, narrowed := true }
def FnColorImageUptoSaid : Prop := fnColorImageUptoRow.holds Try.pinned (OpenSpec.upto fnColorImageSpec)

/-- 'laws.FnFillImage', WHERE WHAT IT READS IS OF BULK AT MOST 1048576: true; the input reads as it did. -/
def fnFillImageUptoRow : OpenClaim := { program := "ytjcohmljpokgcaa", sum := "fe538487c30e7bc0c6e32a50dde5cae336933c3ef18d6e1178bcb1fb8f5eddfe", func := "loop.example/pixelworks/laws.FnFillImage", spec := "fnFillImage", unfollowed := true, recurses := true, plainKeys := false, apart := false, narrowed := true }
def FnFillImageUptoSaid : Prop := fnFillImageUptoRow.holds Try.pinned (OpenSpec.upto fnFillImageSpec)

/-- 'laws.FnEqualizeTwice', WHERE WHAT IT READS IS OF BULK AT MOST 1048576: true; the input reads as it did. -/
def fnEqualizeTwiceUptoRow : OpenClaim := { program := "ytjcohmljpokgcaa", sum := "fe538487c30e7bc0c6e32a50dde5cae336933c3ef18d6e1178bcb1fb8f5eddfe", func := "loop.example/pixelworks/laws.FnEqualizeTwice", spec := "fnEqualizeTwice", unfollowed := true, recurses := true, plainKeys := false, apart := false, narrowed := true }
def FnEqualizeTwiceUptoSaid : Prop := fnEqualizeTwiceUptoRow.holds Try.pinned (OpenSpec.upto fnEqualizeTwiceSpec)

end Rows
end Go.Proofs.Ytjcohmljpokgcaa
