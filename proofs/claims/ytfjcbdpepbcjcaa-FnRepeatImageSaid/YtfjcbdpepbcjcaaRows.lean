/-
  No cell of these rows narrows 'for every input' (looked for: loops, veiled, ifaces, maps, wideKeys, modest, calm, conditions, laid).
  DERIVED. THE GIVEN ROWS OF THIS SEAT. 6 by the template 'for every input the law returns true; each argument reads behind the call as it read before'; 0 by the template 'total and deterministic' (their statements: YtfjcbdpepbcjcaaTotals.lean).
  GIVEN WITH THE SEED: the statements are not yours to turn. If you find one false, say at which input.
  Laid BY PROGRAM, IN A SANDBOX (cutbox-rows.mjs): the forced cells as the released guide's own fill.sh prints them over the translation 817b299045dae8e4… (all of the seat's roots in one cut). By AI agents, Wed Nov 11 2026. No macro, syntax, notation, axiom, sorry.
-/
import Derived.Test.YtfjcbdpepbcjcaaChecked
import GoSem.Claim
import GoSem.ClaimJoined
import GoSem.ClaimMapViews
import Derived.JoinedTies
import Derived.KernelRfl
namespace Go.Proofs.Ytfjcbdpepbcjcaa
/- THE CELL 'sum', in the pinned program and in every row, IS THE sha256 OF THE DUMP (.gsa) THAT YtfjcbdpepbcjcaaProg.lean LOADS. Nothing in Lean hashes anything: it is a label: what it is worth is what the hold of that sum in a sandbox is worth. -/
noncomputable def Try.pinned : Pinned := { name := "ytfjcbdpepbcjcaa", sum := "817b299045dae8e4af125f1db5112aac46f4c2e89bb23e21bd4a79085d0e7f3e", checked := Try.checked }
namespace Rows
def none {H : Type} : Left H := { results := [], args := [] }

/-- 'laws.FnExactFindImage': WHATEVER THE INPUT: true; the input reads as it did. -/
def fnExactFindImageSpec : ChangeSpec := { name := "fnExactFindImage", fn := fun _ => fun
  | [d1, d2] => { results := [.lit (.bool true)], args := [d1, d2] }
  | _ => none }
def fnExactFindImageRow : OpenClaim := { program := "ytfjcbdpepbcjcaa", sum := "817b299045dae8e4af125f1db5112aac46f4c2e89bb23e21bd4a79085d0e7f3e", func := "loop.example/pixelworks/laws.FnExactFindImage", spec := "fnExactFindImage", unfollowed := true, recurses := true, apart := false }
def FnExactFindImageSaid : Prop := fnExactFindImageRow.holds Try.pinned (OpenSpec.ofChange fnExactFindImageSpec)

/-- ITS FALSE NEIGHBOUR: 'it returns false'. Refute it at one input. -/
def fnExactFindImageWrong : ChangeSpec := { name := "fnExactFindImage", fn := fun _ => fun
  | [d1, d2] => { results := [.lit (.bool false)], args := [d1, d2] }
  | _ => none }
def FnExactFindImageWrongFalsely : Prop := fnExactFindImageRow.holds Try.pinned (OpenSpec.ofChange fnExactFindImageWrong)

/-- 'laws.FnExactCountImage': WHATEVER THE INPUT: true; the input reads as it did. -/
def fnExactCountImageSpec : ChangeSpec := { name := "fnExactCountImage", fn := fun _ => fun
  | [d1, d2] => { results := [.lit (.bool true)], args := [d1, d2] }
  | _ => none }
def fnExactCountImageRow : OpenClaim := { program := "ytfjcbdpepbcjcaa", sum := "817b299045dae8e4af125f1db5112aac46f4c2e89bb23e21bd4a79085d0e7f3e", func := "loop.example/pixelworks/laws.FnExactCountImage", spec := "fnExactCountImage", unfollowed := true, recurses := true, apart := false }
def FnExactCountImageSaid : Prop := fnExactCountImageRow.holds Try.pinned (OpenSpec.ofChange fnExactCountImageSpec)

/-- ITS FALSE NEIGHBOUR: 'it returns false'. Refute it at one input. -/
def fnExactCountImageWrong : ChangeSpec := { name := "fnExactCountImage", fn := fun _ => fun
  | [d1, d2] => { results := [.lit (.bool false)], args := [d1, d2] }
  | _ => none }
def FnExactCountImageWrongFalsely : Prop := fnExactCountImageRow.holds Try.pinned (OpenSpec.ofChange fnExactCountImageWrong)

/-- 'laws.FnFindImage': WHATEVER THE INPUT: true; the input reads as it did. -/
def fnFindImageSpec : ChangeSpec := { name := "fnFindImage", fn := fun _ => fun
  | [d] => { results := [.lit (.bool true)], args := [d] }
  | _ => none }
def fnFindImageRow : OpenClaim := { program := "ytfjcbdpepbcjcaa", sum := "817b299045dae8e4af125f1db5112aac46f4c2e89bb23e21bd4a79085d0e7f3e", func := "loop.example/pixelworks/laws.FnFindImage", spec := "fnFindImage", unfollowed := true, recurses := true, apart := false }
def FnFindImageSaid : Prop := fnFindImageRow.holds Try.pinned (OpenSpec.ofChange fnFindImageSpec)

/-- ITS FALSE NEIGHBOUR: 'it returns false'. Refute it at one input. -/
def fnFindImageWrong : ChangeSpec := { name := "fnFindImage", fn := fun _ => fun
  | [d] => { results := [.lit (.bool false)], args := [d] }
  | _ => none }
def FnFindImageWrongFalsely : Prop := fnFindImageRow.holds Try.pinned (OpenSpec.ofChange fnFindImageWrong)

/-- 'laws.FnFindImageOwn': WHATEVER THE INPUT: true; the input reads as it did. -/
def fnFindImageOwnSpec : ChangeSpec := { name := "fnFindImageOwn", fn := fun _ => fun
  | [d] => { results := [.lit (.bool true)], args := [d] }
  | _ => none }
def fnFindImageOwnRow : OpenClaim := { program := "ytfjcbdpepbcjcaa", sum := "817b299045dae8e4af125f1db5112aac46f4c2e89bb23e21bd4a79085d0e7f3e", func := "loop.example/pixelworks/laws.FnFindImageOwn", spec := "fnFindImageOwn", unfollowed := true, recurses := true, apart := false }
def FnFindImageOwnSaid : Prop := fnFindImageOwnRow.holds Try.pinned (OpenSpec.ofChange fnFindImageOwnSpec)

/-- ITS FALSE NEIGHBOUR: 'it returns false'. Refute it at one input. -/
def fnFindImageOwnWrong : ChangeSpec := { name := "fnFindImageOwn", fn := fun _ => fun
  | [d] => { results := [.lit (.bool false)], args := [d] }
  | _ => none }
def FnFindImageOwnWrongFalsely : Prop := fnFindImageOwnRow.holds Try.pinned (OpenSpec.ofChange fnFindImageOwnWrong)

/-- 'laws.FnCountImage': WHATEVER THE INPUT: true; the input reads as it did. -/
def fnCountImageSpec : ChangeSpec := { name := "fnCountImage", fn := fun _ => fun
  | [d] => { results := [.lit (.bool true)], args := [d] }
  | _ => none }
def fnCountImageRow : OpenClaim := { program := "ytfjcbdpepbcjcaa", sum := "817b299045dae8e4af125f1db5112aac46f4c2e89bb23e21bd4a79085d0e7f3e", func := "loop.example/pixelworks/laws.FnCountImage", spec := "fnCountImage", unfollowed := true, recurses := true, apart := false }
def FnCountImageSaid : Prop := fnCountImageRow.holds Try.pinned (OpenSpec.ofChange fnCountImageSpec)

/-- ITS FALSE NEIGHBOUR: 'it returns false'. Refute it at one input. -/
def fnCountImageWrong : ChangeSpec := { name := "fnCountImage", fn := fun _ => fun
  | [d] => { results := [.lit (.bool false)], args := [d] }
  | _ => none }
def FnCountImageWrongFalsely : Prop := fnCountImageRow.holds Try.pinned (OpenSpec.ofChange fnCountImageWrong)

/-- 'laws.FnRepeatImage': WHATEVER THE INPUT: true; the input reads as it did. -/
def fnRepeatImageSpec : ChangeSpec := { name := "fnRepeatImage", fn := fun _ => fun
  | [d] => { results := [.lit (.bool true)], args := [d] }
  | _ => none }
def fnRepeatImageRow : OpenClaim := { program := "ytfjcbdpepbcjcaa", sum := "817b299045dae8e4af125f1db5112aac46f4c2e89bb23e21bd4a79085d0e7f3e", func := "loop.example/pixelworks/laws.FnRepeatImage", spec := "fnRepeatImage", unfollowed := true, recurses := true, apart := false }
def FnRepeatImageSaid : Prop := fnRepeatImageRow.holds Try.pinned (OpenSpec.ofChange fnRepeatImageSpec)

/-- ITS FALSE NEIGHBOUR: 'it returns false'. Refute it at one input. -/
def fnRepeatImageWrong : ChangeSpec := { name := "fnRepeatImage", fn := fun _ => fun
  | [d] => { results := [.lit (.bool false)], args := [d] }
  | _ => none }
def FnRepeatImageWrongFalsely : Prop := fnRepeatImageRow.holds Try.pinned (OpenSpec.ofChange fnRepeatImageWrong)

/- THE SECOND FORM. 'bulk': how many values and letters a reading holds, each counted each time it is reached (what is shared counts as often as it is met; a slice's spare places count too). A statement '..UptoSaid' is the law's where the arguments, and the package variables that the reading takes, are together of bulk at most 1048576: NARROWER than '..Said'. Prove '..Said' where nothing that the law and all that it calls make is longer than what came in: it says more and counts as full. Else prove '..UptoSaid'. A law counts once. -/
mutual
def uptoBulk {H : Type} : DataW H → Nat
  | .lit (.string bytes) => bytes.length + 1
  | .lit _ => 1
  | .nil => 1
  | .ptr d => uptoBulk d + 1
  | .slice elems spare => uptoBulkAll elems + uptoBulkAll spare + 1
  | .agg parts => uptoBulkAll parts + 1
  | .iface _ d => uptoBulk d + 1
  | .map entries => uptoBulkEntries entries + 1
  | .held _ => 1
def uptoBulkAll {H : Type} : List (DataW H) → Nat
  | [] => 0
  | d :: r => uptoBulk d + uptoBulkAll r
def uptoBulkEntries {H : Type} : List (Lit × DataW H) → Nat
  | [] => 0
  | x :: r => uptoBulkEntry x + uptoBulkEntries r
def uptoBulkEntry {H : Type} : Lit × DataW H → Nat
  | (.string bytes, d) => bytes.length + uptoBulk d + 1
  | (_, d) => uptoBulk d + 1
 end
def uptoSmall : (H : Type) → List (DataW H) → Bool := fun _ ds => decide (uptoBulkAll ds ≤ 1048576)
def OpenSpec.upto (s : _root_.Go.ChangeSpec) : _root_.Go.OpenSpec := { _root_.Go.OpenSpec.ofChange s with cond := some uptoSmall }

/-- 'laws.FnExactFindImage', WHERE WHAT IT READS IS OF BULK AT MOST 1048576: true; the input reads as it did. -/
def fnExactFindImageUptoRow : OpenClaim := { program := "ytfjcbdpepbcjcaa", sum := "817b299045dae8e4af125f1db5112aac46f4c2e89bb23e21bd4a79085d0e7f3e", func := "loop.example/pixelworks/laws.FnExactFindImage", spec := "fnExactFindImage", unfollowed := true, recurses := true, apart := false, narrowed := true }
def FnExactFindImageUptoSaid : Prop := fnExactFindImageUptoRow.holds Try.pinned (OpenSpec.upto fnExactFindImageSpec)

/-- 'laws.FnExactCountImage', WHERE WHAT IT READS IS OF BULK AT MOST 1048576: true; the input reads as it did. -/
def fnExactCountImageUptoRow : OpenClaim := { program := "ytfjcbdpepbcjcaa", sum := "817b299045dae8e4af125f1db5112aac46f4c2e89bb23e21bd4a79085d0e7f3e", func := "loop.example/pixelworks/laws.FnExactCountImage", spec := "fnExactCountImage", unfollowed := true, recurses := true, apart := false, narrowed := true }
def FnExactCountImageUptoSaid : Prop := fnExactCountImageUptoRow.holds Try.pinned (OpenSpec.upto fnExactCountImageSpec)

/-- 'laws.FnFindImage', WHERE WHAT IT READS IS OF BULK AT MOST 1048576: true; the input reads as it did. -/
def fnFindImageUptoRow : OpenClaim := { program := "ytfjcbdpepbcjcaa", sum := "817b299045dae8e4af125f1db5112aac46f4c2e89bb23e21bd4a79085d0e7f3e", func := "loop.example/pixelworks/laws.FnFindImage", spec := "fnFindImage", unfollowed := true, recurses := true, apart := false, narrowed := true }
def FnFindImageUptoSaid : Prop := fnFindImageUptoRow.holds Try.pinned (OpenSpec.upto fnFindImageSpec)

/-- 'laws.FnFindImageOwn', WHERE WHAT IT READS IS OF BULK AT MOST 1048576: true; the input reads as it did. -/
def fnFindImageOwnUptoRow : OpenClaim := { program := "ytfjcbdpepbcjcaa", sum := "817b299045dae8e4af125f1db5112aac46f4c2e89bb23e21bd4a79085d0e7f3e", func := "loop.example/pixelworks/laws.FnFindImageOwn", spec := "fnFindImageOwn", unfollowed := true, recurses := true, apart := false, narrowed := true }
def FnFindImageOwnUptoSaid : Prop := fnFindImageOwnUptoRow.holds Try.pinned (OpenSpec.upto fnFindImageOwnSpec)

/-- 'laws.FnCountImage', WHERE WHAT IT READS IS OF BULK AT MOST 1048576: true; the input reads as it did. -/
def fnCountImageUptoRow : OpenClaim := { program := "ytfjcbdpepbcjcaa", sum := "817b299045dae8e4af125f1db5112aac46f4c2e89bb23e21bd4a79085d0e7f3e", func := "loop.example/pixelworks/laws.FnCountImage", spec := "fnCountImage", unfollowed := true, recurses := true, apart := false, narrowed := true }
def FnCountImageUptoSaid : Prop := fnCountImageUptoRow.holds Try.pinned (OpenSpec.upto fnCountImageSpec)

/-- 'laws.FnRepeatImage', WHERE WHAT IT READS IS OF BULK AT MOST 1048576: true; the input reads as it did. -/
def fnRepeatImageUptoRow : OpenClaim := { program := "ytfjcbdpepbcjcaa", sum := "817b299045dae8e4af125f1db5112aac46f4c2e89bb23e21bd4a79085d0e7f3e", func := "loop.example/pixelworks/laws.FnRepeatImage", spec := "fnRepeatImage", unfollowed := true, recurses := true, apart := false, narrowed := true }
def FnRepeatImageUptoSaid : Prop := fnRepeatImageUptoRow.holds Try.pinned (OpenSpec.upto fnRepeatImageSpec)

end Rows
end Go.Proofs.Ytfjcbdpepbcjcaa
