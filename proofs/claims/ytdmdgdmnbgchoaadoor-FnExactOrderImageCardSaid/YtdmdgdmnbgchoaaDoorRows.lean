/-
  NARROWER THAN 'FOR EVERY INPUT', by the rows' own cells (each row's printed sentence says how): FnOrderImage: laid · FnExactOrderImage: laid.
  DERIVED. THE GIVEN ROWS OF THIS SEAT. 2 by the template 'for every input the law returns true; each argument reads behind the call as it read before'; 0 by the template 'total and deterministic' (their statements: YtdmdgdmnbgchoaaDoorTotals.lean).
  GIVEN WITH THE SEED: the statements are not yours to turn. If you find one false, say at which input.
  Laid BY PROGRAM, IN A SANDBOX (cutbox-rows.mjs): the forced cells as the released guide's own fill.sh prints them over the translation 3239c9b8a66947e8… (all of the seat's roots in one cut). By AI agents, Wed Nov 11 2026. No macro, syntax, notation, axiom, sorry.
-/
import Derived.Test.YtdmdgdmnbgchoaaDoorChecked
import GoSem.Claim
import GoSem.ClaimJoined
import GoSem.ClaimMapViews
import Derived.JoinedTies
import Derived.KernelRfl
namespace Go.Proofs.YtdmdgdmnbgchoaaDoor
/- THE CELL 'sum', in the pinned program and in every row, IS THE sha256 OF THE DUMP (.gsa) THAT YtdmdgdmnbgchoaaDoorProg.lean LOADS. Nothing in Lean hashes anything: it is a label: what it is worth is what the hold of that sum in a sandbox is worth. -/
noncomputable def Tryd.pinned : Pinned := { name := "ytdmdgdmnbgchoaadoor", sum := "3239c9b8a66947e842235ba46f4873e117141464d8320a46cd09946ea8feb1be", checked := Tryd.checked }
namespace Rows
def none {H : Type} : Left H := { results := [], args := [] }

/- WHAT THE LISTED PACKAGE-LEVEL VARIABLES READ AS WHEN THE CALL BEGINS. Each datum BY PROGRAM (the guide's laid-datum.mjs) off the statement by which the dump's own 'gosem.cut.vars' lays the variable. In a bare row this is a premise. The card (YtdmdgdmnbgchoaaDoorCards.lean) ties it to the program's text. -/
def laid_loop_example_pixelworks_impl_matrix {H : Type} : DataW H := .agg [.agg [.lit (.int .i64 0), .lit (.int .i64 8), .lit (.int .i64 2), .lit (.int .i64 10)], .agg [.lit (.int .i64 12), .lit (.int .i64 4), .lit (.int .i64 14), .lit (.int .i64 6)], .agg [.lit (.int .i64 3), .lit (.int .i64 11), .lit (.int .i64 1), .lit (.int .i64 9)], .agg [.lit (.int .i64 15), .lit (.int .i64 7), .lit (.int .i64 13), .lit (.int .i64 5)]]

/-- 'laws.FnOrderImage': WHATEVER THE INPUT: true; the input reads as it did. -/
def fnOrderImageSpec : ChangeSpec := { name := "fnOrderImage", vars := ["loop.example/pixelworks/impl.matrix"], fn := fun _ => fun
  | [d, g1] => { results := [.lit (.bool true)], args := [d], vars := [g1] }
  | _ => none }
def fnOrderImageRow : OpenClaim := { program := "ytdmdgdmnbgchoaadoor", sum := "3239c9b8a66947e842235ba46f4873e117141464d8320a46cd09946ea8feb1be", func := "loop.example/pixelworks/laws.FnOrderImage", spec := "fnOrderImage", unfollowed := true, recurses := true, named := ["loop.example/pixelworks/impl.matrix"], apart := false, laid := [("loop.example/pixelworks/impl.matrix", laid_loop_example_pixelworks_impl_matrix)] }
def FnOrderImageSaid : Prop := fnOrderImageRow.holds Tryd.pinned (OpenSpec.ofChange fnOrderImageSpec)

/-- ITS FALSE NEIGHBOUR: 'it returns false'. Refute it at one input. -/
def fnOrderImageWrong : ChangeSpec := { name := "fnOrderImage", vars := ["loop.example/pixelworks/impl.matrix"], fn := fun _ => fun
  | [d, g1] => { results := [.lit (.bool false)], args := [d], vars := [g1] }
  | _ => none }
def FnOrderImageWrongFalsely : Prop := fnOrderImageRow.holds Tryd.pinned (OpenSpec.ofChange fnOrderImageWrong)

/-- 'laws.FnExactOrderImage': WHATEVER THE INPUT: true; the input reads as it did. -/
def fnExactOrderImageSpec : ChangeSpec := { name := "fnExactOrderImage", vars := ["loop.example/pixelworks/impl.matrix"], fn := fun _ => fun
  | [d1, d2, g1] => { results := [.lit (.bool true)], args := [d1, d2], vars := [g1] }
  | _ => none }
def fnExactOrderImageRow : OpenClaim := { program := "ytdmdgdmnbgchoaadoor", sum := "3239c9b8a66947e842235ba46f4873e117141464d8320a46cd09946ea8feb1be", func := "loop.example/pixelworks/laws.FnExactOrderImage", spec := "fnExactOrderImage", unfollowed := true, recurses := true, named := ["loop.example/pixelworks/impl.matrix"], apart := false, laid := [("loop.example/pixelworks/impl.matrix", laid_loop_example_pixelworks_impl_matrix)] }
def FnExactOrderImageSaid : Prop := fnExactOrderImageRow.holds Tryd.pinned (OpenSpec.ofChange fnExactOrderImageSpec)

/-- ITS FALSE NEIGHBOUR: 'it returns false'. Refute it at one input. -/
def fnExactOrderImageWrong : ChangeSpec := { name := "fnExactOrderImage", vars := ["loop.example/pixelworks/impl.matrix"], fn := fun _ => fun
  | [d1, d2, g1] => { results := [.lit (.bool false)], args := [d1, d2], vars := [g1] }
  | _ => none }
def FnExactOrderImageWrongFalsely : Prop := fnExactOrderImageRow.holds Tryd.pinned (OpenSpec.ofChange fnExactOrderImageWrong)

/- THE SECOND FORM. 'bulk': how many values and letters a reading holds, each counted each time it is reached (what is shared counts as often as it is met; a slice's spare places count too). A statement '..UptoSaid' is the law's where the arguments, and the package variables that the reading takes, are together of bulk at most 1048576: NARROWER than '..Said'. Prove '..Said' where nothing that the law and all that it calls make is longer than what came in: it says more and counts as full. Else prove '..UptoSaid'. A law counts once. -/
mutual
def uptoBulk {H : Type} : DataW H → Nat
  | .lit (.string bytes) => bytes.length + 1
  | .lit _ => 1
  | .nil => 1
  | .ptr d => uptoBulk d + 1
  | .slice elems spare => uptoBulkAll elems + uptoBulkAll spare + 1
  | .agg parts => uptoBulkAll parts + 1
  | .iface _ d => uptoBulk d + 1
  | .map entries => uptoBulkEntries entries + 1
  | .held _ => 1
def uptoBulkAll {H : Type} : List (DataW H) → Nat
  | [] => 0
  | d :: r => uptoBulk d + uptoBulkAll r
def uptoBulkEntries {H : Type} : List (Lit × DataW H) → Nat
  | [] => 0
  | x :: r => uptoBulkEntry x + uptoBulkEntries r
def uptoBulkEntry {H : Type} : Lit × DataW H → Nat
  | (.string bytes, d) => bytes.length + uptoBulk d + 1
  | (_, d) => uptoBulk d + 1
 end
def uptoSmall : (H : Type) → List (DataW H) → Bool := fun _ ds => decide (uptoBulkAll ds ≤ 1048576)
def OpenSpec.upto (s : _root_.Go.ChangeSpec) : _root_.Go.OpenSpec := { _root_.Go.OpenSpec.ofChange s with cond := some uptoSmall }

/-- 'laws.FnOrderImage', WHERE WHAT IT READS IS OF BULK AT MOST 1048576: true; the input reads as it did. -/
def fnOrderImageUptoRow : OpenClaim := { program := "ytdmdgdmnbgchoaadoor", sum := "3239c9b8a66947e842235ba46f4873e117141464d8320a46cd09946ea8feb1be", func := "loop.example/pixelworks/laws.FnOrderImage", spec := "fnOrderImage", unfollowed := true, recurses := true, named := ["loop.example/pixelworks/impl.matrix"], apart := false, laid := [("loop.example/pixelworks/impl.matrix", laid_loop_example_pixelworks_impl_matrix)], narrowed := true }
def FnOrderImageUptoSaid : Prop := fnOrderImageUptoRow.holds Tryd.pinned (OpenSpec.upto fnOrderImageSpec)

/-- 'laws.FnExactOrderImage', WHERE WHAT IT READS IS OF BULK AT MOST 1048576: true; the input reads as it did. -/
def fnExactOrderImageUptoRow : OpenClaim := { program := "ytdmdgdmnbgchoaadoor", sum := "3239c9b8a66947e842235ba46f4873e117141464d8320a46cd09946ea8feb1be", func := "loop.example/pixelworks/laws.FnExactOrderImage", spec := "fnExactOrderImage", unfollowed := true, recurses := true, named := ["loop.example/pixelworks/impl.matrix"], apart := false, laid := [("loop.example/pixelworks/impl.matrix", laid_loop_example_pixelworks_impl_matrix)], narrowed := true }
def FnExactOrderImageUptoSaid : Prop := fnExactOrderImageUptoRow.holds Tryd.pinned (OpenSpec.upto fnExactOrderImageSpec)

end Rows
end Go.Proofs.YtdmdgdmnbgchoaaDoor
