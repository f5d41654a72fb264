/-
  No cell of these rows narrows 'for every input' (looked for: loops, veiled, ifaces, maps, wideKeys, modest, calm, conditions, laid).
  DERIVED. THE GIVEN ROWS OF THIS SEAT. 5 by the template 'for every input the law returns true; each argument reads behind the call as it read before'; 0 by the template 'total and deterministic' (their statements: YtfeldhhbnhdodaaTotals.lean).
  GIVEN WITH THE SEED: the statements are not yours to turn. If you find one false, say at which input.
  Laid BY PROGRAM, IN A SANDBOX (cutbox-rows.mjs): the forced cells as the released guide's own fill.sh prints them over the translation 159e876e43289b08… (all of the seat's roots in one cut). By AI agents, Wed Nov 11 2026. No macro, syntax, notation, axiom, sorry.
-/
import Derived.Test.YtfeldhhbnhdodaaChecked
import GoSem.Claim
import GoSem.ClaimJoined
import GoSem.ClaimMapViews
import Derived.JoinedTies
import Derived.KernelRfl
namespace Go.Proofs.Ytfeldhhbnhdodaa
/- THE CELL 'sum', in the pinned program and in every row, IS THE sha256 OF THE DUMP (.gsa) THAT YtfeldhhbnhdodaaProg.lean LOADS. Nothing in Lean hashes anything: it is a label: what it is worth is what the hold of that sum in a sandbox is worth. -/
noncomputable def Try.pinned : Pinned := { name := "ytfeldhhbnhdodaa", sum := "159e876e43289b08dc5ba9af4013d0614f281d68e886a7db93121ad6cf4d11d6", checked := Try.checked }
namespace Rows
def none {H : Type} : Left H := { results := [], args := [] }

/-- 'laws.FnSplitPlanes': WHATEVER THE INPUT: true; the input reads as it did. -/
def fnSplitPlanesSpec : ChangeSpec := { name := "fnSplitPlanes", fn := fun _ => fun
  | [d] => { results := [.lit (.bool true)], args := [d] }
  | _ => none }
def fnSplitPlanesRow : OpenClaim := { program := "ytfeldhhbnhdodaa", sum := "159e876e43289b08dc5ba9af4013d0614f281d68e886a7db93121ad6cf4d11d6", func := "loop.example/pixelworks/laws.FnSplitPlanes", spec := "fnSplitPlanes", unfollowed := true, recurses := true, apart := false }
def FnSplitPlanesSaid : Prop := fnSplitPlanesRow.holds Try.pinned (OpenSpec.ofChange fnSplitPlanesSpec)

/-- ITS FALSE NEIGHBOUR: 'it returns false'. Refute it at one input. -/
def fnSplitPlanesWrong : ChangeSpec := { name := "fnSplitPlanes", fn := fun _ => fun
  | [d] => { results := [.lit (.bool false)], args := [d] }
  | _ => none }
def FnSplitPlanesWrongFalsely : Prop := fnSplitPlanesRow.holds Try.pinned (OpenSpec.ofChange fnSplitPlanesWrong)

/-- 'laws.FnMergePlanes': WHATEVER THE INPUT: true; the input reads as it did. -/
def fnMergePlanesSpec : ChangeSpec := { name := "fnMergePlanes", fn := fun _ => fun
  | [d] => { results := [.lit (.bool true)], args := [d] }
  | _ => none }
def fnMergePlanesRow : OpenClaim := { program := "ytfeldhhbnhdodaa", sum := "159e876e43289b08dc5ba9af4013d0614f281d68e886a7db93121ad6cf4d11d6", func := "loop.example/pixelworks/laws.FnMergePlanes", spec := "fnMergePlanes", unfollowed := true, recurses := true, apart := false }
def FnMergePlanesSaid : Prop := fnMergePlanesRow.holds Try.pinned (OpenSpec.ofChange fnMergePlanesSpec)

/-- ITS FALSE NEIGHBOUR: 'it returns false'. Refute it at one input. -/
def fnMergePlanesWrong : ChangeSpec := { name := "fnMergePlanes", fn := fun _ => fun
  | [d] => { results := [.lit (.bool false)], args := [d] }
  | _ => none }
def FnMergePlanesWrongFalsely : Prop := fnMergePlanesRow.holds Try.pinned (OpenSpec.ofChange fnMergePlanesWrong)

/-- 'laws.FnSplitPlanesTurn': WHATEVER THE INPUT: true; the input reads as it did. -/
def fnSplitPlanesTurnSpec : ChangeSpec := { name := "fnSplitPlanesTurn", fn := fun _ => fun
  | [d] => { results := [.lit (.bool true)], args := [d] }
  | _ => none }
def fnSplitPlanesTurnRow : OpenClaim := { program := "ytfeldhhbnhdodaa", sum := "159e876e43289b08dc5ba9af4013d0614f281d68e886a7db93121ad6cf4d11d6", func := "loop.example/pixelworks/laws.FnSplitPlanesTurn", spec := "fnSplitPlanesTurn", unfollowed := true, recurses := true, apart := false }
def FnSplitPlanesTurnSaid : Prop := fnSplitPlanesTurnRow.holds Try.pinned (OpenSpec.ofChange fnSplitPlanesTurnSpec)

/-- ITS FALSE NEIGHBOUR: 'it returns false'. Refute it at one input. -/
def fnSplitPlanesTurnWrong : ChangeSpec := { name := "fnSplitPlanesTurn", fn := fun _ => fun
  | [d] => { results := [.lit (.bool false)], args := [d] }
  | _ => none }
def FnSplitPlanesTurnWrongFalsely : Prop := fnSplitPlanesTurnRow.holds Try.pinned (OpenSpec.ofChange fnSplitPlanesTurnWrong)

/-- 'laws.FnExactSplitPlanes': WHATEVER THE INPUT: true; the input reads as it did. -/
def fnExactSplitPlanesSpec : ChangeSpec := { name := "fnExactSplitPlanes", fn := fun _ => fun
  | [d] => { results := [.lit (.bool true)], args := [d] }
  | _ => none }
def fnExactSplitPlanesRow : OpenClaim := { program := "ytfeldhhbnhdodaa", sum := "159e876e43289b08dc5ba9af4013d0614f281d68e886a7db93121ad6cf4d11d6", func := "loop.example/pixelworks/laws.FnExactSplitPlanes", spec := "fnExactSplitPlanes", unfollowed := true, recurses := true, apart := false }
def FnExactSplitPlanesSaid : Prop := fnExactSplitPlanesRow.holds Try.pinned (OpenSpec.ofChange fnExactSplitPlanesSpec)

/-- ITS FALSE NEIGHBOUR: 'it returns false'. Refute it at one input. -/
def fnExactSplitPlanesWrong : ChangeSpec := { name := "fnExactSplitPlanes", fn := fun _ => fun
  | [d] => { results := [.lit (.bool false)], args := [d] }
  | _ => none }
def FnExactSplitPlanesWrongFalsely : Prop := fnExactSplitPlanesRow.holds Try.pinned (OpenSpec.ofChange fnExactSplitPlanesWrong)

/-- 'laws.FnExactMergePlanes': WHATEVER THE INPUT: true; the input reads as it did. -/
def fnExactMergePlanesSpec : ChangeSpec := { name := "fnExactMergePlanes", fn := fun _ => fun
  | [d] => { results := [.lit (.bool true)], args := [d] }
  | _ => none }
def fnExactMergePlanesRow : OpenClaim := { program := "ytfeldhhbnhdodaa", sum := "159e876e43289b08dc5ba9af4013d0614f281d68e886a7db93121ad6cf4d11d6", func := "loop.example/pixelworks/laws.FnExactMergePlanes", spec := "fnExactMergePlanes", unfollowed := true, recurses := true, apart := false }
def FnExactMergePlanesSaid : Prop := fnExactMergePlanesRow.holds Try.pinned (OpenSpec.ofChange fnExactMergePlanesSpec)

/-- ITS FALSE NEIGHBOUR: 'it returns false'. Refute it at one input. -/
def fnExactMergePlanesWrong : ChangeSpec := { name := "fnExactMergePlanes", fn := fun _ => fun
  | [d] => { results := [.lit (.bool false)], args := [d] }
  | _ => none }
def FnExactMergePlanesWrongFalsely : Prop := fnExactMergePlanesRow.holds Try.pinned (OpenSpec.ofChange fnExactMergePlanesWrong)

/- THE SECOND FORM. 'bulk': how many values and letters a reading holds, each counted each time it is reached (what is shared counts as often as it is met; a slice's spare places count too). A statement '..UptoSaid' is the law's where the arguments, and the package variables that the reading takes, are together of bulk at most 1048576: NARROWER than '..Said'. Prove '..Said' where nothing that the law and all that it calls make is longer than what came in: it says more and counts as full. Else prove '..UptoSaid'. A law counts once. -/
mutual
def uptoBulk {H : Type} : DataW H → Nat
  | .lit (.string bytes) => bytes.length + 1
  | .lit _ => 1
  | .nil => 1
  | .ptr d => uptoBulk d + 1
  | .slice elems spare => uptoBulkAll elems + uptoBulkAll spare + 1
  | .agg parts => uptoBulkAll parts + 1
  | .iface _ d => uptoBulk d + 1
  | .map entries => uptoBulkEntries entries + 1
  | .held _ => 1
def uptoBulkAll {H : Type} : List (DataW H) → Nat
  | [] => 0
  | d :: r => uptoBulk d + uptoBulkAll r
def uptoBulkEntries {H : Type} : List (Lit × DataW H) → Nat
  | [] => 0
  | x :: r => uptoBulkEntry x + uptoBulkEntries r
def uptoBulkEntry {H : Type} : Lit × DataW H → Nat
  | (.string bytes, d) => bytes.length + uptoBulk d + 1
  | (_, d) => uptoBulk d + 1
 end
def uptoSmall : (H : Type) → List (DataW H) → Bool := fun _ ds => decide (uptoBulkAll ds ≤ 1048576)
def OpenSpec.upto (s : _root_.Go.ChangeSpec) : _root_.Go.OpenSpec := { _root_.Go.OpenSpec.ofChange s with cond := some uptoSmall }

/-- 'laws.FnSplitPlanes', WHERE WHAT IT READS IS OF BULK AT MOST 1048576: true; the input reads as it did. -/
def fnSplitPlanesUptoRow : OpenClaim := { program := "ytfeldhhbnhdodaa", sum := "159e876e43289b08dc5ba9af4013d0614f281d68e886a7db93121ad6cf4d11d6", func := "loop.example/pixelworks/laws.FnSplitPlanes", spec := "fnSplitPlanes", unfollowed := true, recurses := true, apart := false, narrowed := true }
def FnSplitPlanesUptoSaid : Prop := fnSplitPlanesUptoRow.holds Try.pinned (OpenSpec.upto fnSplitPlanesSpec)

/-- 'laws.FnMergePlanes', WHERE WHAT IT READS IS OF BULK AT MOST 1048576: true; the input reads as it did. -/
def fnMergePlanesUptoRow : OpenClaim := { program := "ytfeldhhbnhdodaa", sum := "159e876e43289b08dc5ba9af4013d0614f281d68e886a7db93121ad6cf4d11d6", func := "loop.example/pixelworks/laws.FnMergePlanes", spec := "fnMergePlanes", unfollowed := true, recurses := true, apart := false, narrowed := true }
def FnMergePlanesUptoSaid : Prop := fnMergePlanesUptoRow.holds Try.pinned (OpenSpec.upto fnMergePlanesSpec)

/-- 'laws.FnSplitPlanesTurn', WHERE WHAT IT READS IS OF BULK AT MOST 1048576: true; the input reads as it did. -/
def fnSplitPlanesTurnUptoRow : OpenClaim := { program := "ytfeldhhbnhdodaa", sum := "159e876e43289b08dc5ba9af4013d0614f281d68e886a7db93121ad6cf4d11d6", func := "loop.example/pixelworks/laws.FnSplitPlanesTurn", spec := "fnSplitPlanesTurn", unfollowed := true, recurses := true, apart := false, narrowed := true }
def FnSplitPlanesTurnUptoSaid : Prop := fnSplitPlanesTurnUptoRow.holds Try.pinned (OpenSpec.upto fnSplitPlanesTurnSpec)

/-- 'laws.FnExactSplitPlanes', WHERE WHAT IT READS IS OF BULK AT MOST 1048576: true; the input reads as it did. -/
def fnExactSplitPlanesUptoRow : OpenClaim := { program := "ytfeldhhbnhdodaa", sum := "159e876e43289b08dc5ba9af4013d0614f281d68e886a7db93121ad6cf4d11d6", func := "loop.example/pixelworks/laws.FnExactSplitPlanes", spec := "fnExactSplitPlanes", unfollowed := true, recurses := true, apart := false, narrowed := true }
def FnExactSplitPlanesUptoSaid : Prop := fnExactSplitPlanesUptoRow.holds Try.pinned (OpenSpec.upto fnExactSplitPlanesSpec)

/-- 'laws.FnExactMergePlanes', WHERE WHAT IT READS IS OF BULK AT MOST 1048576: true; the input reads as it did. -/
def fnExactMergePlanesUptoRow : OpenClaim := { program := "ytfeldhhbnhdodaa", sum := "159e876e43289b08dc5ba9af4013d0614f281d68e886a7db93121ad6cf4d11d6", func := "loop.example/pixelworks/laws.FnExactMergePlanes", spec := "fnExactMergePlanes", unfollowed := true, recurses := true, apart := false, narrowed := true }
def FnExactMergePlanesUptoSaid : Prop := fnExactMergePlanesUptoRow.holds Try.pinned (OpenSpec.upto fnExactMergePlanesSpec)

end Rows
end Go.Proofs.Ytfeldhhbnhdodaa
