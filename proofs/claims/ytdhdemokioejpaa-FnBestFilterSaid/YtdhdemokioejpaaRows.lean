/-
  No cell of these rows narrows 'for every input' (looked for: loops, veiled, ifaces, maps, wideKeys, modest, calm, conditions, laid).
  DERIVED. THE GIVEN ROWS OF THIS SEAT. 4 by the template 'for every input the law returns true; each argument reads behind the call as it read before'; 0 by the template 'total and deterministic' (their statements: YtdhdemokioejpaaTotals.lean).
  GIVEN WITH THE SEED: the statements are not yours to turn. If you find one false, say at which input.
  Laid BY PROGRAM, IN A SANDBOX (cutbox-rows.mjs): the forced cells as the released guide's own fill.sh prints them over the translation 075c30a47d1a2af4… (all of the seat's roots in one cut). By AI agents, Wed Nov 11 2026. No macro, syntax, notation, axiom, sorry.
-/
import Derived.Test.YtdhdemokioejpaaChecked
import GoSem.Claim
import GoSem.ClaimJoined
import GoSem.ClaimMapViews
import Derived.JoinedTies
import Derived.KernelRfl
namespace Go.Proofs.Ytdhdemokioejpaa
/- THE CELL 'sum', in the pinned program and in every row, IS THE sha256 OF THE DUMP (.gsa) THAT YtdhdemokioejpaaProg.lean LOADS. Nothing in Lean hashes anything: it is a label: what it is worth is what the hold of that sum in a sandbox is worth. -/
noncomputable def Try.pinned : Pinned := { name := "ytdhdemokioejpaa", sum := "075c30a47d1a2af460e24eb034af0cdc36238c82fdad55feabca0fe742d17bc5", checked := Try.checked }
namespace Rows
def none {H : Type} : Left H := { results := [], args := [] }

/-- 'laws.FnBestFilter': WHATEVER THE INPUT: true; the input reads as it did. -/
def fnBestFilterSpec : ChangeSpec := { name := "fnBestFilter", fn := fun _ => fun
  | [d] => { results := [.lit (.bool true)], args := [d] }
  | _ => none }
def fnBestFilterRow : OpenClaim := { program := "ytdhdemokioejpaa", sum := "075c30a47d1a2af460e24eb034af0cdc36238c82fdad55feabca0fe742d17bc5", func := "loop.example/pixelworks/laws.FnBestFilter", spec := "fnBestFilter", unfollowed := true, recurses := true, apart := false }
def FnBestFilterSaid : Prop := fnBestFilterRow.holds Try.pinned (OpenSpec.ofChange fnBestFilterSpec)

/-- ITS FALSE NEIGHBOUR: 'it returns false'. Refute it at one input. -/
def fnBestFilterWrong : ChangeSpec := { name := "fnBestFilter", fn := fun _ => fun
  | [d] => { results := [.lit (.bool false)], args := [d] }
  | _ => none }
def FnBestFilterWrongFalsely : Prop := fnBestFilterRow.holds Try.pinned (OpenSpec.ofChange fnBestFilterWrong)

/-- 'laws.FnLeastHeight': WHATEVER THE INPUT: true; the input reads as it did. -/
def fnLeastHeightSpec : ChangeSpec := { name := "fnLeastHeight", fn := fun _ => fun
  | [d] => { results := [.lit (.bool true)], args := [d] }
  | _ => none }
def fnLeastHeightRow : OpenClaim := { program := "ytdhdemokioejpaa", sum := "075c30a47d1a2af460e24eb034af0cdc36238c82fdad55feabca0fe742d17bc5", func := "loop.example/pixelworks/laws.FnLeastHeight", spec := "fnLeastHeight", apart := false }
def FnLeastHeightSaid : Prop := fnLeastHeightRow.holds Try.pinned (OpenSpec.ofChange fnLeastHeightSpec)

/-- ITS FALSE NEIGHBOUR: 'it returns false'. Refute it at one input. -/
def fnLeastHeightWrong : ChangeSpec := { name := "fnLeastHeight", fn := fun _ => fun
  | [d] => { results := [.lit (.bool false)], args := [d] }
  | _ => none }
def FnLeastHeightWrongFalsely : Prop := fnLeastHeightRow.holds Try.pinned (OpenSpec.ofChange fnLeastHeightWrong)

/-- 'laws.FnPackSpritesOne': WHATEVER THE INPUT: true; the input reads as it did. -/
def fnPackSpritesOneSpec : ChangeSpec := { name := "fnPackSpritesOne", fn := fun _ => fun
  | [d] => { results := [.lit (.bool true)], args := [d] }
  | _ => none }
def fnPackSpritesOneRow : OpenClaim := { program := "ytdhdemokioejpaa", sum := "075c30a47d1a2af460e24eb034af0cdc36238c82fdad55feabca0fe742d17bc5", func := "loop.example/pixelworks/laws.FnPackSpritesOne", spec := "fnPackSpritesOne", unfollowed := true, recurses := true, apart := false }
def FnPackSpritesOneSaid : Prop := fnPackSpritesOneRow.holds Try.pinned (OpenSpec.ofChange fnPackSpritesOneSpec)

/-- ITS FALSE NEIGHBOUR: 'it returns false'. Refute it at one input. -/
def fnPackSpritesOneWrong : ChangeSpec := { name := "fnPackSpritesOne", fn := fun _ => fun
  | [d] => { results := [.lit (.bool false)], args := [d] }
  | _ => none }
def FnPackSpritesOneWrongFalsely : Prop := fnPackSpritesOneRow.holds Try.pinned (OpenSpec.ofChange fnPackSpritesOneWrong)

/-- 'laws.FnExactPackSprites': WHATEVER THE INPUT: true; the input reads as it did. -/
def fnExactPackSpritesSpec : ChangeSpec := { name := "fnExactPackSprites", fn := fun _ => fun
  | [d1, d2] => { results := [.lit (.bool true)], args := [d1, d2] }
  | _ => none }
def fnExactPackSpritesRow : OpenClaim := { program := "ytdhdemokioejpaa", sum := "075c30a47d1a2af460e24eb034af0cdc36238c82fdad55feabca0fe742d17bc5", func := "loop.example/pixelworks/laws.FnExactPackSprites", spec := "fnExactPackSprites", unfollowed := true, recurses := true, apart := false }
def FnExactPackSpritesSaid : Prop := fnExactPackSpritesRow.holds Try.pinned (OpenSpec.ofChange fnExactPackSpritesSpec)

/-- ITS FALSE NEIGHBOUR: 'it returns false'. Refute it at one input. -/
def fnExactPackSpritesWrong : ChangeSpec := { name := "fnExactPackSprites", fn := fun _ => fun
  | [d1, d2] => { results := [.lit (.bool false)], args := [d1, d2] }
  | _ => none }
def FnExactPackSpritesWrongFalsely : Prop := fnExactPackSpritesRow.holds Try.pinned (OpenSpec.ofChange fnExactPackSpritesWrong)

/- THE SECOND FORM. 'bulk': how many values and letters a reading holds, each counted each time it is reached (what is shared counts as often as it is met; a slice's spare places count too). A statement '..UptoSaid' is the law's where the arguments, and the package variables that the reading takes, are together of bulk at most 1048576: NARROWER than '..Said'. Prove '..Said' where nothing that the law and all that it calls make is longer than what came in: it says more and counts as full. Else prove '..UptoSaid'. A law counts once. -/
mutual
def uptoBulk {H : Type} : DataW H → Nat
  | .lit (.string bytes) => bytes.length + 1
  | .lit _ => 1
  | .nil => 1
  | .ptr d => uptoBulk d + 1
  | .slice elems spare => uptoBulkAll elems + uptoBulkAll spare + 1
  | .agg parts => uptoBulkAll parts + 1
  | .iface _ d => uptoBulk d + 1
  | .map entries => uptoBulkEntries entries + 1
  | .held _ => 1
def uptoBulkAll {H : Type} : List (DataW H) → Nat
  | [] => 0
  | d :: r => uptoBulk d + uptoBulkAll r
def uptoBulkEntries {H : Type} : List (Lit × DataW H) → Nat
  | [] => 0
  | x :: r => uptoBulkEntry x + uptoBulkEntries r
def uptoBulkEntry {H : Type} : Lit × DataW H → Nat
  | (.string bytes, d) => bytes.length + uptoBulk d + 1
  | (_, d) => uptoBulk d + 1
 end
def uptoSmall : (H : Type) → List (DataW H) → Bool := fun _ ds => decide (uptoBulkAll ds ≤ 1048576)
def OpenSpec.upto (s : _root_.Go.ChangeSpec) : _root_.Go.OpenSpec := { _root_.Go.OpenSpec.ofChange s with cond := some uptoSmall }

/-- 'laws.FnBestFilter', WHERE WHAT IT READS IS OF BULK AT MOST 1048576: true; the input reads as it did. -/
def fnBestFilterUptoRow : OpenClaim := { program := "ytdhdemokioejpaa", sum := "075c30a47d1a2af460e24eb034af0cdc36238c82fdad55feabca0fe742d17bc5", func := "loop.example/pixelworks/laws.FnBestFilter", spec := "fnBestFilter", unfollowed := true, recurses := true, apart := false, narrowed := true }
def FnBestFilterUptoSaid : Prop := fnBestFilterUptoRow.holds Try.pinned (OpenSpec.upto fnBestFilterSpec)

/-- 'laws.FnLeastHeight', WHERE WHAT IT READS IS OF BULK AT MOST 1048576: true; the input reads as it did. -/
def fnLeastHeightUptoRow : OpenClaim := { program := "ytdhdemokioejpaa", sum := "075c30a47d1a2af460e24eb034af0cdc36238c82fdad55feabca0fe742d17bc5", func := "loop.example/pixelworks/laws.FnLeastHeight", spec := "fnLeastHeight", apart := false, narrowed := true }
def FnLeastHeightUptoSaid : Prop := fnLeastHeightUptoRow.holds Try.pinned (OpenSpec.upto fnLeastHeightSpec)

/-- 'laws.FnPackSpritesOne', WHERE WHAT IT READS IS OF BULK AT MOST 1048576: true; the input reads as it did. -/
def fnPackSpritesOneUptoRow : OpenClaim := { program := "ytdhdemokioejpaa", sum := "075c30a47d1a2af460e24eb034af0cdc36238c82fdad55feabca0fe742d17bc5", func := "loop.example/pixelworks/laws.FnPackSpritesOne", spec := "fnPackSpritesOne", unfollowed := true, recurses := true, apart := false, narrowed := true }
def FnPackSpritesOneUptoSaid : Prop := fnPackSpritesOneUptoRow.holds Try.pinned (OpenSpec.upto fnPackSpritesOneSpec)

/-- 'laws.FnExactPackSprites', WHERE WHAT IT READS IS OF BULK AT MOST 1048576: true; the input reads as it did. -/
def fnExactPackSpritesUptoRow : OpenClaim := { program := "ytdhdemokioejpaa", sum := "075c30a47d1a2af460e24eb034af0cdc36238c82fdad55feabca0fe742d17bc5", func := "loop.example/pixelworks/laws.FnExactPackSprites", spec := "fnExactPackSprites", unfollowed := true, recurses := true, apart := false, narrowed := true }
def FnExactPackSpritesUptoSaid : Prop := fnExactPackSpritesUptoRow.holds Try.pinned (OpenSpec.upto fnExactPackSpritesSpec)

end Rows
end Go.Proofs.Ytdhdemokioejpaa
