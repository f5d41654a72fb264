/-
  NARROWER THAN 'FOR EVERY INPUT', by the rows' own cells (each row's printed sentence says how): FnPassData: laid · FnJoinPasses: laid · FnPassRoundTrip: laid · FnExactPassData: laid · FnExactJoinPasses: laid.
  DERIVED. THE GIVEN ROWS OF THIS SEAT. 5 by the template 'for every input the law returns true; each argument reads behind the call as it read before'; 0 by the template 'total and deterministic' (their statements: YtlkacohbfgcokaaDoorTotals.lean).
  GIVEN WITH THE SEED: the statements are not yours to turn. If you find one false, say at which input.
  Laid BY PROGRAM, IN A SANDBOX (cutbox-rows.mjs): the forced cells as the released guide's own fill.sh prints them over the translation ef2d23705f9fada4… (all of the seat's roots in one cut). By AI agents, Wed Nov 11 2026. No macro, syntax, notation, axiom, sorry.
-/
import Derived.Test.YtlkacohbfgcokaaDoorChecked
import GoSem.Claim
import GoSem.ClaimJoined
import GoSem.ClaimMapViews
import Derived.JoinedTies
import Derived.KernelRfl
namespace Go.Proofs.YtlkacohbfgcokaaDoor
/- THE CELL 'sum', in the pinned program and in every row, IS THE sha256 OF THE DUMP (.gsa) THAT YtlkacohbfgcokaaDoorProg.lean LOADS. Nothing in Lean hashes anything: it is a label: what it is worth is what the hold of that sum in a sandbox is worth. -/
noncomputable def Tryd.pinned : Pinned := { name := "ytlkacohbfgcokaadoor", sum := "ef2d23705f9fada4172e7faf5758a5a923a865e0fd4d048187dd704649c2c15d", checked := Tryd.checked }
namespace Rows
def none {H : Type} : Left H := { results := [], args := [] }

/- WHAT THE LISTED PACKAGE-LEVEL VARIABLES READ AS WHEN THE CALL BEGINS. Each datum BY PROGRAM (the guide's laid-datum.mjs) off the statement by which the dump's own 'gosem.cut.vars' lays the variable. In a bare row this is a premise. The card (YtlkacohbfgcokaaDoorCards.lean) ties it to the program's text. -/
def laid_loop_example_pixelworks_impl_patterns {H : Type} : DataW H := .agg [.agg [.agg [.lit (.int .i64 0), .lit (.int .i64 8)], .agg [.lit (.int .i64 0), .lit (.int .i64 8)]], .agg [.agg [.lit (.int .i64 4), .lit (.int .i64 8)], .agg [.lit (.int .i64 0), .lit (.int .i64 8)]], .agg [.agg [.lit (.int .i64 0), .lit (.int .i64 4)], .agg [.lit (.int .i64 4), .lit (.int .i64 8)]], .agg [.agg [.lit (.int .i64 2), .lit (.int .i64 4)], .agg [.lit (.int .i64 0), .lit (.int .i64 4)]], .agg [.agg [.lit (.int .i64 0), .lit (.int .i64 2)], .agg [.lit (.int .i64 2), .lit (.int .i64 4)]], .agg [.agg [.lit (.int .i64 1), .lit (.int .i64 2)], .agg [.lit (.int .i64 0), .lit (.int .i64 2)]], .agg [.agg [.lit (.int .i64 0), .lit (.int .i64 1)], .agg [.lit (.int .i64 1), .lit (.int .i64 2)]]]

/-- 'laws.FnPassData': WHATEVER THE INPUT: true; the input reads as it did. -/
def fnPassDataSpec : ChangeSpec := { name := "fnPassData", vars := ["loop.example/pixelworks/impl.patterns"], fn := fun _ => fun
  | [d, g1] => { results := [.lit (.bool true)], args := [d], vars := [g1] }
  | _ => none }
def fnPassDataRow : OpenClaim := { program := "ytlkacohbfgcokaadoor", sum := "ef2d23705f9fada4172e7faf5758a5a923a865e0fd4d048187dd704649c2c15d", func := "loop.example/pixelworks/laws.FnPassData", spec := "fnPassData", unfollowed := true, recurses := true, named := ["loop.example/pixelworks/impl.patterns"], apart := false, laid := [("loop.example/pixelworks/impl.patterns", laid_loop_example_pixelworks_impl_patterns)] }
def FnPassDataSaid : Prop := fnPassDataRow.holds Tryd.pinned (OpenSpec.ofChange fnPassDataSpec)

/-- ITS FALSE NEIGHBOUR: 'it returns false'. Refute it at one input. -/
def fnPassDataWrong : ChangeSpec := { name := "fnPassData", vars := ["loop.example/pixelworks/impl.patterns"], fn := fun _ => fun
  | [d, g1] => { results := [.lit (.bool false)], args := [d], vars := [g1] }
  | _ => none }
def FnPassDataWrongFalsely : Prop := fnPassDataRow.holds Tryd.pinned (OpenSpec.ofChange fnPassDataWrong)

/-- 'laws.FnJoinPasses': WHATEVER THE INPUT: true; the input reads as it did. -/
def fnJoinPassesSpec : ChangeSpec := { name := "fnJoinPasses", vars := ["loop.example/pixelworks/impl.patterns"], fn := fun _ => fun
  | [d, g1] => { results := [.lit (.bool true)], args := [d], vars := [g1] }
  | _ => none }
def fnJoinPassesRow : OpenClaim := { program := "ytlkacohbfgcokaadoor", sum := "ef2d23705f9fada4172e7faf5758a5a923a865e0fd4d048187dd704649c2c15d", func := "loop.example/pixelworks/laws.FnJoinPasses", spec := "fnJoinPasses", unfollowed := true, recurses := true, named := ["loop.example/pixelworks/impl.patterns"], apart := false, laid := [("loop.example/pixelworks/impl.patterns", laid_loop_example_pixelworks_impl_patterns)] }
def FnJoinPassesSaid : Prop := fnJoinPassesRow.holds Tryd.pinned (OpenSpec.ofChange fnJoinPassesSpec)

/-- ITS FALSE NEIGHBOUR: 'it returns false'. Refute it at one input. -/
def fnJoinPassesWrong : ChangeSpec := { name := "fnJoinPasses", vars := ["loop.example/pixelworks/impl.patterns"], fn := fun _ => fun
  | [d, g1] => { results := [.lit (.bool false)], args := [d], vars := [g1] }
  | _ => none }
def FnJoinPassesWrongFalsely : Prop := fnJoinPassesRow.holds Tryd.pinned (OpenSpec.ofChange fnJoinPassesWrong)

/-- 'laws.FnPassRoundTrip': WHATEVER THE INPUT: true; the input reads as it did. -/
def fnPassRoundTripSpec : ChangeSpec := { name := "fnPassRoundTrip", vars := ["loop.example/pixelworks/impl.patterns"], fn := fun _ => fun
  | [d, g1] => { results := [.lit (.bool true)], args := [d], vars := [g1] }
  | _ => none }
def fnPassRoundTripRow : OpenClaim := { program := "ytlkacohbfgcokaadoor", sum := "ef2d23705f9fada4172e7faf5758a5a923a865e0fd4d048187dd704649c2c15d", func := "loop.example/pixelworks/laws.FnPassRoundTrip", spec := "fnPassRoundTrip", unfollowed := true, recurses := true, named := ["loop.example/pixelworks/impl.patterns"], apart := false, laid := [("loop.example/pixelworks/impl.patterns", laid_loop_example_pixelworks_impl_patterns)] }
def FnPassRoundTripSaid : Prop := fnPassRoundTripRow.holds Tryd.pinned (OpenSpec.ofChange fnPassRoundTripSpec)

/-- ITS FALSE NEIGHBOUR: 'it returns false'. Refute it at one input. -/
def fnPassRoundTripWrong : ChangeSpec := { name := "fnPassRoundTrip", vars := ["loop.example/pixelworks/impl.patterns"], fn := fun _ => fun
  | [d, g1] => { results := [.lit (.bool false)], args := [d], vars := [g1] }
  | _ => none }
def FnPassRoundTripWrongFalsely : Prop := fnPassRoundTripRow.holds Tryd.pinned (OpenSpec.ofChange fnPassRoundTripWrong)

/-- 'laws.FnExactPassData': WHATEVER THE INPUT: true; the input reads as it did. -/
def fnExactPassDataSpec : ChangeSpec := { name := "fnExactPassData", vars := ["loop.example/pixelworks/impl.patterns"], fn := fun _ => fun
  | [d1, d2, g1] => { results := [.lit (.bool true)], args := [d1, d2], vars := [g1] }
  | _ => none }
def fnExactPassDataRow : OpenClaim := { program := "ytlkacohbfgcokaadoor", sum := "ef2d23705f9fada4172e7faf5758a5a923a865e0fd4d048187dd704649c2c15d", func := "loop.example/pixelworks/laws.FnExactPassData", spec := "fnExactPassData", unfollowed := true, recurses := true, named := ["loop.example/pixelworks/impl.patterns"], apart := false, laid := [("loop.example/pixelworks/impl.patterns", laid_loop_example_pixelworks_impl_patterns)] }
def FnExactPassDataSaid : Prop := fnExactPassDataRow.holds Tryd.pinned (OpenSpec.ofChange fnExactPassDataSpec)

/-- ITS FALSE NEIGHBOUR: 'it returns false'. Refute it at one input. -/
def fnExactPassDataWrong : ChangeSpec := { name := "fnExactPassData", vars := ["loop.example/pixelworks/impl.patterns"], fn := fun _ => fun
  | [d1, d2, g1] => { results := [.lit (.bool false)], args := [d1, d2], vars := [g1] }
  | _ => none }
def FnExactPassDataWrongFalsely : Prop := fnExactPassDataRow.holds Tryd.pinned (OpenSpec.ofChange fnExactPassDataWrong)

/-- 'laws.FnExactJoinPasses': WHATEVER THE INPUT: true; the input reads as it did. -/
def fnExactJoinPassesSpec : ChangeSpec := { name := "fnExactJoinPasses", vars := ["loop.example/pixelworks/impl.patterns"], fn := fun _ => fun
  | [d1, d2, d3, d4, g1] => { results := [.lit (.bool true)], args := [d1, d2, d3, d4], vars := [g1] }
  | _ => none }
def fnExactJoinPassesRow : OpenClaim := { program := "ytlkacohbfgcokaadoor", sum := "ef2d23705f9fada4172e7faf5758a5a923a865e0fd4d048187dd704649c2c15d", func := "loop.example/pixelworks/laws.FnExactJoinPasses", spec := "fnExactJoinPasses", unfollowed := true, recurses := true, named := ["loop.example/pixelworks/impl.patterns"], apart := false, laid := [("loop.example/pixelworks/impl.patterns", laid_loop_example_pixelworks_impl_patterns)] }
def FnExactJoinPassesSaid : Prop := fnExactJoinPassesRow.holds Tryd.pinned (OpenSpec.ofChange fnExactJoinPassesSpec)

/-- ITS FALSE NEIGHBOUR: 'it returns false'. Refute it at one input. -/
def fnExactJoinPassesWrong : ChangeSpec := { name := "fnExactJoinPasses", vars := ["loop.example/pixelworks/impl.patterns"], fn := fun _ => fun
  | [d1, d2, d3, d4, g1] => { results := [.lit (.bool false)], args := [d1, d2, d3, d4], vars := [g1] }
  | _ => none }
def FnExactJoinPassesWrongFalsely : Prop := fnExactJoinPassesRow.holds Tryd.pinned (OpenSpec.ofChange fnExactJoinPassesWrong)

/- THE SECOND FORM. 'bulk': how many values and letters a reading holds, each counted each time it is reached (what is shared counts as often as it is met; a slice's spare places count too). A statement '..UptoSaid' is the law's where the arguments, and the package variables that the reading takes, are together of bulk at most 1048576: NARROWER than '..Said'. Prove '..Said' where nothing that the law and all that it calls make is longer than what came in: it says more and counts as full. Else prove '..UptoSaid'. A law counts once. -/
mutual
def uptoBulk {H : Type} : DataW H → Nat
  | .lit (.string bytes) => bytes.length + 1
  | .lit _ => 1
  | .nil => 1
  | .ptr d => uptoBulk d + 1
  | .slice elems spare => uptoBulkAll elems + uptoBulkAll spare + 1
  | .agg parts => uptoBulkAll parts + 1
  | .iface _ d => uptoBulk d + 1
  | .map entries => uptoBulkEntries entries + 1
  | .held _ => 1
def uptoBulkAll {H : Type} : List (DataW H) → Nat
  | [] => 0
  | d :: r => uptoBulk d + uptoBulkAll r
def uptoBulkEntries {H : Type} : List (Lit × DataW H) → Nat
  | [] => 0
  | x :: r => uptoBulkEntry x + uptoBulkEntries r
def uptoBulkEntry {H : Type} : Lit × DataW H → Nat
  | (.string bytes, d) => bytes.length + uptoBulk d + 1
  | (_, d) => uptoBulk d + 1
 end
def uptoSmall : (H : Type) → List (DataW H) → Bool := fun _ ds => decide (uptoBulkAll ds ≤ 1048576)
def OpenSpec.upto (s : _root_.Go.ChangeSpec) : _root_.Go.OpenSpec := { _root_.Go.OpenSpec.ofChange s with cond := some uptoSmall }

/-- 'laws.FnPassData', WHERE WHAT IT READS IS OF BULK AT MOST 1048576: true; the input reads as it did. -/
def fnPassDataUptoRow : OpenClaim := { program := "ytlkacohbfgcokaadoor", sum := "ef2d23705f9fada4172e7faf5758a5a923a865e0fd4d048187dd704649c2c15d", func := "loop.example/pixelworks/laws.FnPassData", spec := "fnPassData", unfollowed := true, recurses := true, named := ["loop.example/pixelworks/impl.patterns"], apart := false, laid := [("loop.example/pixelworks/impl.patterns", laid_loop_example_pixelworks_impl_patterns)], narrowed := true }
def FnPassDataUptoSaid : Prop := fnPassDataUptoRow.holds Tryd.pinned (OpenSpec.upto fnPassDataSpec)

/-- 'laws.FnJoinPasses', WHERE WHAT IT READS IS OF BULK AT MOST 1048576: true; the input reads as it did. -/
def fnJoinPassesUptoRow : OpenClaim := { program := "ytlkacohbfgcokaadoor", sum := "ef2d23705f9fada4172e7faf5758a5a923a865e0fd4d048187dd704649c2c15d", func := "loop.example/pixelworks/laws.FnJoinPasses", spec := "fnJoinPasses", unfollowed := true, recurses := true, named := ["loop.example/pixelworks/impl.patterns"], apart := false, laid := [("loop.example/pixelworks/impl.patterns", laid_loop_example_pixelworks_impl_patterns)], narrowed := true }
def FnJoinPassesUptoSaid : Prop := fnJoinPassesUptoRow.holds Tryd.pinned (OpenSpec.upto fnJoinPassesSpec)

/-- 'laws.FnPassRoundTrip', WHERE WHAT IT READS IS OF BULK AT MOST 1048576: true; the input reads as it did. -/
def fnPassRoundTripUptoRow : OpenClaim := { program := "ytlkacohbfgcokaadoor", sum := "ef2d23705f9fada4172e7faf5758a5a923a865e0fd4d048187dd704649c2c15d", func := "loop.example/pixelworks/laws.FnPassRoundTrip", spec := "fnPassRoundTrip", unfollowed := true, recurses := true, named := ["loop.example/pixelworks/impl.patterns"], apart := false, laid := [("loop.example/pixelworks/impl.patterns", laid_loop_example_pixelworks_impl_patterns)], narrowed := true }
def FnPassRoundTripUptoSaid : Prop := fnPassRoundTripUptoRow.holds Tryd.pinned (OpenSpec.upto fnPassRoundTripSpec)

/-- 'laws.FnExactPassData', WHERE WHAT IT READS IS OF BULK AT MOST 1048576: true; the input reads as it did. -/
def fnExactPassDataUptoRow : OpenClaim := { program := "ytlkacohbfgcokaadoor", sum := "ef2d23705f9fada4172e7faf5758a5a923a865e0fd4d048187dd704649c2c15d", func := "loop.example/pixelworks/laws.FnExactPassData", spec := "fnExactPassData", unfollowed := true, recurses := true, named := ["loop.example/pixelworks/impl.patterns"], apart := false, laid := [("loop.example/pixelworks/impl.patterns", laid_loop_example_pixelworks_impl_patterns)], narrowed := true }
def FnExactPassDataUptoSaid : Prop := fnExactPassDataUptoRow.holds Tryd.pinned (OpenSpec.upto fnExactPassDataSpec)

/-- 'laws.FnExactJoinPasses', WHERE WHAT IT READS IS OF BULK AT MOST 1048576: true; the input reads as it did. -/
def fnExactJoinPassesUptoRow : OpenClaim := { program := "ytlkacohbfgcokaadoor", sum := "ef2d23705f9fada4172e7faf5758a5a923a865e0fd4d048187dd704649c2c15d", func := "loop.example/pixelworks/laws.FnExactJoinPasses", spec := "fnExactJoinPasses", unfollowed := true, recurses := true, named := ["loop.example/pixelworks/impl.patterns"], apart := false, laid := [("loop.example/pixelworks/impl.patterns", laid_loop_example_pixelworks_impl_patterns)], narrowed := true }
def FnExactJoinPassesUptoSaid : Prop := fnExactJoinPassesUptoRow.holds Tryd.pinned (OpenSpec.upto fnExactJoinPassesSpec)

end Rows
end Go.Proofs.YtlkacohbfgcokaaDoor
