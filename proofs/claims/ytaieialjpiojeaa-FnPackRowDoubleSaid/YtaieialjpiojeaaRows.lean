/-
  No cell of these rows narrows 'for every input' (looked for: loops, veiled, ifaces, maps, wideKeys, modest, calm, conditions, laid).
  DERIVED. THE GIVEN ROWS OF THIS SEAT. 12 by the template 'for every input the law returns true; each argument reads behind the call as it read before'; 0 by the template 'total and deterministic' (their statements: YtaieialjpiojeaaTotals.lean).
  GIVEN WITH THE SEED: the statements are not yours to turn. If you find one false, say at which input.
  Laid BY PROGRAM, IN A SANDBOX (cutbox-rows.mjs): the forced cells as the released guide's own fill.sh prints them over the translation 488d7354c9414873… (all of the seat's roots in one cut). By AI agents, Wed Nov 11 2026. No macro, syntax, notation, axiom, sorry.
-/
import Derived.Test.YtaieialjpiojeaaChecked
import GoSem.Claim
import GoSem.ClaimJoined
import GoSem.ClaimMapViews
import Derived.JoinedTies
import Derived.KernelRfl
namespace Go.Proofs.Ytaieialjpiojeaa
/- THE CELL 'sum', in the pinned program and in every row, IS THE sha256 OF THE DUMP (.gsa) THAT YtaieialjpiojeaaProg.lean LOADS. Nothing in Lean hashes anything: it is a label: what it is worth is what the hold of that sum in a sandbox is worth. -/
noncomputable def Try.pinned : Pinned := { name := "ytaieialjpiojeaa", sum := "488d7354c9414873deaf7256f3675a12c76db893b4aa6d712c202383d4bde9e4", checked := Try.checked }
namespace Rows
def none {H : Type} : Left H := { results := [], args := [] }

/-- 'laws.FnExactFilterRow': WHATEVER THE INPUT: true; the input reads as it did. -/
def fnExactFilterRowSpec : ChangeSpec := { name := "fnExactFilterRow", fn := fun _ => fun
  | [d1, d2, d3, d4] => { results := [.lit (.bool true)], args := [d1, d2, d3, d4] }
  | _ => none }
def fnExactFilterRowRow : OpenClaim := { program := "ytaieialjpiojeaa", sum := "488d7354c9414873deaf7256f3675a12c76db893b4aa6d712c202383d4bde9e4", func := "loop.example/pixelworks/laws.FnExactFilterRow", spec := "fnExactFilterRow", unfollowed := true, recurses := true, apart := false }
def FnExactFilterRowSaid : Prop := fnExactFilterRowRow.holds Try.pinned (OpenSpec.ofChange fnExactFilterRowSpec)

/-- ITS FALSE NEIGHBOUR: 'it returns false'. Refute it at one input. -/
def fnExactFilterRowWrong : ChangeSpec := { name := "fnExactFilterRow", fn := fun _ => fun
  | [d1, d2, d3, d4] => { results := [.lit (.bool false)], args := [d1, d2, d3, d4] }
  | _ => none }
def FnExactFilterRowWrongFalsely : Prop := fnExactFilterRowRow.holds Try.pinned (OpenSpec.ofChange fnExactFilterRowWrong)

/-- 'laws.FnExactUnfilterRow': WHATEVER THE INPUT: true; the input reads as it did. -/
def fnExactUnfilterRowSpec : ChangeSpec := { name := "fnExactUnfilterRow", fn := fun _ => fun
  | [d1, d2, d3, d4] => { results := [.lit (.bool true)], args := [d1, d2, d3, d4] }
  | _ => none }
def fnExactUnfilterRowRow : OpenClaim := { program := "ytaieialjpiojeaa", sum := "488d7354c9414873deaf7256f3675a12c76db893b4aa6d712c202383d4bde9e4", func := "loop.example/pixelworks/laws.FnExactUnfilterRow", spec := "fnExactUnfilterRow", unfollowed := true, recurses := true, apart := false }
def FnExactUnfilterRowSaid : Prop := fnExactUnfilterRowRow.holds Try.pinned (OpenSpec.ofChange fnExactUnfilterRowSpec)

/-- ITS FALSE NEIGHBOUR: 'it returns false'. Refute it at one input. -/
def fnExactUnfilterRowWrong : ChangeSpec := { name := "fnExactUnfilterRow", fn := fun _ => fun
  | [d1, d2, d3, d4] => { results := [.lit (.bool false)], args := [d1, d2, d3, d4] }
  | _ => none }
def FnExactUnfilterRowWrongFalsely : Prop := fnExactUnfilterRowRow.holds Try.pinned (OpenSpec.ofChange fnExactUnfilterRowWrong)

/-- 'laws.FnExactBestFilter': WHATEVER THE INPUT: true; the input reads as it did. -/
def fnExactBestFilterSpec : ChangeSpec := { name := "fnExactBestFilter", fn := fun _ => fun
  | [d1, d2, d3] => { results := [.lit (.bool true)], args := [d1, d2, d3] }
  | _ => none }
def fnExactBestFilterRow : OpenClaim := { program := "ytaieialjpiojeaa", sum := "488d7354c9414873deaf7256f3675a12c76db893b4aa6d712c202383d4bde9e4", func := "loop.example/pixelworks/laws.FnExactBestFilter", spec := "fnExactBestFilter", unfollowed := true, recurses := true, apart := false }
def FnExactBestFilterSaid : Prop := fnExactBestFilterRow.holds Try.pinned (OpenSpec.ofChange fnExactBestFilterSpec)

/-- ITS FALSE NEIGHBOUR: 'it returns false'. Refute it at one input. -/
def fnExactBestFilterWrong : ChangeSpec := { name := "fnExactBestFilter", fn := fun _ => fun
  | [d1, d2, d3] => { results := [.lit (.bool false)], args := [d1, d2, d3] }
  | _ => none }
def FnExactBestFilterWrongFalsely : Prop := fnExactBestFilterRow.holds Try.pinned (OpenSpec.ofChange fnExactBestFilterWrong)

/-- 'laws.FnFilterRow': WHATEVER THE INPUT: true; the input reads as it did. -/
def fnFilterRowSpec : ChangeSpec := { name := "fnFilterRow", fn := fun _ => fun
  | [d] => { results := [.lit (.bool true)], args := [d] }
  | _ => none }
def fnFilterRowRow : OpenClaim := { program := "ytaieialjpiojeaa", sum := "488d7354c9414873deaf7256f3675a12c76db893b4aa6d712c202383d4bde9e4", func := "loop.example/pixelworks/laws.FnFilterRow", spec := "fnFilterRow", unfollowed := true, recurses := true, apart := false }
def FnFilterRowSaid : Prop := fnFilterRowRow.holds Try.pinned (OpenSpec.ofChange fnFilterRowSpec)

/-- ITS FALSE NEIGHBOUR: 'it returns false'. Refute it at one input. -/
def fnFilterRowWrong : ChangeSpec := { name := "fnFilterRow", fn := fun _ => fun
  | [d] => { results := [.lit (.bool false)], args := [d] }
  | _ => none }
def FnFilterRowWrongFalsely : Prop := fnFilterRowRow.holds Try.pinned (OpenSpec.ofChange fnFilterRowWrong)

/-- 'laws.FnUnfilterRow': WHATEVER THE INPUT: true; the input reads as it did. -/
def fnUnfilterRowSpec : ChangeSpec := { name := "fnUnfilterRow", fn := fun _ => fun
  | [d] => { results := [.lit (.bool true)], args := [d] }
  | _ => none }
def fnUnfilterRowRow : OpenClaim := { program := "ytaieialjpiojeaa", sum := "488d7354c9414873deaf7256f3675a12c76db893b4aa6d712c202383d4bde9e4", func := "loop.example/pixelworks/laws.FnUnfilterRow", spec := "fnUnfilterRow", unfollowed := true, recurses := true, apart := false }
def FnUnfilterRowSaid : Prop := fnUnfilterRowRow.holds Try.pinned (OpenSpec.ofChange fnUnfilterRowSpec)

/-- ITS FALSE NEIGHBOUR: 'it returns false'. Refute it at one input. -/
def fnUnfilterRowWrong : ChangeSpec := { name := "fnUnfilterRow", fn := fun _ => fun
  | [d] => { results := [.lit (.bool false)], args := [d] }
  | _ => none }
def FnUnfilterRowWrongFalsely : Prop := fnUnfilterRowRow.holds Try.pinned (OpenSpec.ofChange fnUnfilterRowWrong)

/-- 'laws.FnFilterRowSame': WHATEVER THE INPUT: true; the input reads as it did. -/
def fnFilterRowSameSpec : ChangeSpec := { name := "fnFilterRowSame", fn := fun _ => fun
  | [d] => { results := [.lit (.bool true)], args := [d] }
  | _ => none }
def fnFilterRowSameRow : OpenClaim := { program := "ytaieialjpiojeaa", sum := "488d7354c9414873deaf7256f3675a12c76db893b4aa6d712c202383d4bde9e4", func := "loop.example/pixelworks/laws.FnFilterRowSame", spec := "fnFilterRowSame", unfollowed := true, recurses := true, apart := false }
def FnFilterRowSameSaid : Prop := fnFilterRowSameRow.holds Try.pinned (OpenSpec.ofChange fnFilterRowSameSpec)

/-- ITS FALSE NEIGHBOUR: 'it returns false'. Refute it at one input. -/
def fnFilterRowSameWrong : ChangeSpec := { name := "fnFilterRowSame", fn := fun _ => fun
  | [d] => { results := [.lit (.bool false)], args := [d] }
  | _ => none }
def FnFilterRowSameWrongFalsely : Prop := fnFilterRowSameRow.holds Try.pinned (OpenSpec.ofChange fnFilterRowSameWrong)

/-- 'laws.FnBestFilter': WHATEVER THE INPUT: true; the input reads as it did. -/
def fnBestFilterSpec : ChangeSpec := { name := "fnBestFilter", fn := fun _ => fun
  | [d] => { results := [.lit (.bool true)], args := [d] }
  | _ => none }
def fnBestFilterRow : OpenClaim := { program := "ytaieialjpiojeaa", sum := "488d7354c9414873deaf7256f3675a12c76db893b4aa6d712c202383d4bde9e4", func := "loop.example/pixelworks/laws.FnBestFilter", spec := "fnBestFilter", unfollowed := true, recurses := true, apart := false }
def FnBestFilterSaid : Prop := fnBestFilterRow.holds Try.pinned (OpenSpec.ofChange fnBestFilterSpec)

/-- ITS FALSE NEIGHBOUR: 'it returns false'. Refute it at one input. -/
def fnBestFilterWrong : ChangeSpec := { name := "fnBestFilter", fn := fun _ => fun
  | [d] => { results := [.lit (.bool false)], args := [d] }
  | _ => none }
def FnBestFilterWrongFalsely : Prop := fnBestFilterRow.holds Try.pinned (OpenSpec.ofChange fnBestFilterWrong)

/-- 'laws.FnExactCheckOf': WHATEVER THE INPUT: true; the input reads as it did. -/
def fnExactCheckOfSpec : ChangeSpec := { name := "fnExactCheckOf", fn := fun _ => fun
  | [d] => { results := [.lit (.bool true)], args := [d] }
  | _ => none }
def fnExactCheckOfRow : OpenClaim := { program := "ytaieialjpiojeaa", sum := "488d7354c9414873deaf7256f3675a12c76db893b4aa6d712c202383d4bde9e4", func := "loop.example/pixelworks/laws.FnExactCheckOf", spec := "fnExactCheckOf", apart := false }
def FnExactCheckOfSaid : Prop := fnExactCheckOfRow.holds Try.pinned (OpenSpec.ofChange fnExactCheckOfSpec)

/-- ITS FALSE NEIGHBOUR: 'it returns false'. Refute it at one input. -/
def fnExactCheckOfWrong : ChangeSpec := { name := "fnExactCheckOf", fn := fun _ => fun
  | [d] => { results := [.lit (.bool false)], args := [d] }
  | _ => none }
def FnExactCheckOfWrongFalsely : Prop := fnExactCheckOfRow.holds Try.pinned (OpenSpec.ofChange fnExactCheckOfWrong)

/-- 'laws.FnCheckOf': WHATEVER THE INPUT: true; the input reads as it did. -/
def fnCheckOfSpec : ChangeSpec := { name := "fnCheckOf", fn := fun _ => fun
  | [d] => { results := [.lit (.bool true)], args := [d] }
  | _ => none }
def fnCheckOfRow : OpenClaim := { program := "ytaieialjpiojeaa", sum := "488d7354c9414873deaf7256f3675a12c76db893b4aa6d712c202383d4bde9e4", func := "loop.example/pixelworks/laws.FnCheckOf", spec := "fnCheckOf", apart := false }
def FnCheckOfSaid : Prop := fnCheckOfRow.holds Try.pinned (OpenSpec.ofChange fnCheckOfSpec)

/-- ITS FALSE NEIGHBOUR: 'it returns false'. Refute it at one input. -/
def fnCheckOfWrong : ChangeSpec := { name := "fnCheckOf", fn := fun _ => fun
  | [d] => { results := [.lit (.bool false)], args := [d] }
  | _ => none }
def FnCheckOfWrongFalsely : Prop := fnCheckOfRow.holds Try.pinned (OpenSpec.ofChange fnCheckOfWrong)

/-- 'laws.FnPackRow': WHATEVER THE INPUT: true; the input reads as it did. -/
def fnPackRowSpec : ChangeSpec := { name := "fnPackRow", fn := fun _ => fun
  | [d] => { results := [.lit (.bool true)], args := [d] }
  | _ => none }
def fnPackRowRow : OpenClaim := { program := "ytaieialjpiojeaa", sum := "488d7354c9414873deaf7256f3675a12c76db893b4aa6d712c202383d4bde9e4", func := "loop.example/pixelworks/laws.FnPackRow", spec := "fnPackRow", apart := false }
def FnPackRowSaid : Prop := fnPackRowRow.holds Try.pinned (OpenSpec.ofChange fnPackRowSpec)

/-- ITS FALSE NEIGHBOUR: 'it returns false'. Refute it at one input. -/
def fnPackRowWrong : ChangeSpec := { name := "fnPackRow", fn := fun _ => fun
  | [d] => { results := [.lit (.bool false)], args := [d] }
  | _ => none }
def FnPackRowWrongFalsely : Prop := fnPackRowRow.holds Try.pinned (OpenSpec.ofChange fnPackRowWrong)

/-- 'laws.FnPackRowDouble': WHATEVER THE INPUT: true; the input reads as it did. -/
def fnPackRowDoubleSpec : ChangeSpec := { name := "fnPackRowDouble", fn := fun _ => fun
  | [d] => { results := [.lit (.bool true)], args := [d] }
  | _ => none }
def fnPackRowDoubleRow : OpenClaim := { program := "ytaieialjpiojeaa", sum := "488d7354c9414873deaf7256f3675a12c76db893b4aa6d712c202383d4bde9e4", func := "loop.example/pixelworks/laws.FnPackRowDouble", spec := "fnPackRowDouble", apart := false }
def FnPackRowDoubleSaid : Prop := fnPackRowDoubleRow.holds Try.pinned (OpenSpec.ofChange fnPackRowDoubleSpec)

/-- ITS FALSE NEIGHBOUR: 'it returns false'. Refute it at one input. -/
def fnPackRowDoubleWrong : ChangeSpec := { name := "fnPackRowDouble", fn := fun _ => fun
  | [d] => { results := [.lit (.bool false)], args := [d] }
  | _ => none }
def FnPackRowDoubleWrongFalsely : Prop := fnPackRowDoubleRow.holds Try.pinned (OpenSpec.ofChange fnPackRowDoubleWrong)

/-- 'laws.FnExactCanonicalCodes': WHATEVER THE INPUT: true; the input reads as it did. -/
def fnExactCanonicalCodesSpec : ChangeSpec := { name := "fnExactCanonicalCodes", fn := fun _ => fun
  | [d] => { results := [.lit (.bool true)], args := [d] }
  | _ => none }
def fnExactCanonicalCodesRow : OpenClaim := { program := "ytaieialjpiojeaa", sum := "488d7354c9414873deaf7256f3675a12c76db893b4aa6d712c202383d4bde9e4", func := "loop.example/pixelworks/laws.FnExactCanonicalCodes", spec := "fnExactCanonicalCodes", apart := false }
def FnExactCanonicalCodesSaid : Prop := fnExactCanonicalCodesRow.holds Try.pinned (OpenSpec.ofChange fnExactCanonicalCodesSpec)

/-- ITS FALSE NEIGHBOUR: 'it returns false'. Refute it at one input. -/
def fnExactCanonicalCodesWrong : ChangeSpec := { name := "fnExactCanonicalCodes", fn := fun _ => fun
  | [d] => { results := [.lit (.bool false)], args := [d] }
  | _ => none }
def FnExactCanonicalCodesWrongFalsely : Prop := fnExactCanonicalCodesRow.holds Try.pinned (OpenSpec.ofChange fnExactCanonicalCodesWrong)

/- THE SECOND FORM. 'bulk': how many values and letters a reading holds, each counted each time it is reached (what is shared counts as often as it is met; a slice's spare places count too). A statement '..UptoSaid' is the law's where the arguments, and the package variables that the reading takes, are together of bulk at most 1048576: NARROWER than '..Said'. Prove '..Said' where nothing that the law and all that it calls make is longer than what came in: it says more and counts as full. Else prove '..UptoSaid'. A law counts once. -/
mutual
def uptoBulk {H : Type} : DataW H → Nat
  | .lit (.string bytes) => bytes.length + 1
  | .lit _ => 1
  | .nil => 1
  | .ptr d => uptoBulk d + 1
  | .slice elems spare => uptoBulkAll elems + uptoBulkAll spare + 1
  | .agg parts => uptoBulkAll parts + 1
  | .iface _ d => uptoBulk d + 1
  | .map entries => uptoBulkEntries entries + 1
  | .held _ => 1
def uptoBulkAll {H : Type} : List (DataW H) → Nat
  | [] => 0
  | d :: r => uptoBulk d + uptoBulkAll r
def uptoBulkEntries {H : Type} : List (Lit × DataW H) → Nat
  | [] => 0
  | x :: r => uptoBulkEntry x + uptoBulkEntries r
def uptoBulkEntry {H : Type} : Lit × DataW H → Nat
  | (.string bytes, d) => bytes.length + uptoBulk d + 1
  | (_, d) => uptoBulk d + 1
 end
def uptoSmall : (H : Type) → List (DataW H) → Bool := fun _ ds => decide (uptoBulkAll ds ≤ 1048576)
def OpenSpec.upto (s : _root_.Go.ChangeSpec) : _root_.Go.OpenSpec := { _root_.Go.OpenSpec.ofChange s with cond := some uptoSmall }

/-- 'laws.FnExactFilterRow', WHERE WHAT IT READS IS OF BULK AT MOST 1048576: true; the input reads as it did. -/
def fnExactFilterRowUptoRow : OpenClaim := { program := "ytaieialjpiojeaa", sum := "488d7354c9414873deaf7256f3675a12c76db893b4aa6d712c202383d4bde9e4", func := "loop.example/pixelworks/laws.FnExactFilterRow", spec := "fnExactFilterRow", unfollowed := true, recurses := true, apart := false, narrowed := true }
def FnExactFilterRowUptoSaid : Prop := fnExactFilterRowUptoRow.holds Try.pinned (OpenSpec.upto fnExactFilterRowSpec)

/-- 'laws.FnExactUnfilterRow', WHERE WHAT IT READS IS OF BULK AT MOST 1048576: true; the input reads as it did. -/
def fnExactUnfilterRowUptoRow : OpenClaim := { program := "ytaieialjpiojeaa", sum := "488d7354c9414873deaf7256f3675a12c76db893b4aa6d712c202383d4bde9e4", func := "loop.example/pixelworks/laws.FnExactUnfilterRow", spec := "fnExactUnfilterRow", unfollowed := true, recurses := true, apart := false, narrowed := true }
def FnExactUnfilterRowUptoSaid : Prop := fnExactUnfilterRowUptoRow.holds Try.pinned (OpenSpec.upto fnExactUnfilterRowSpec)

/-- 'laws.FnExactBestFilter', WHERE WHAT IT READS IS OF BULK AT MOST 1048576: true; the input reads as it did. -/
def fnExactBestFilterUptoRow : OpenClaim := { program := "ytaieialjpiojeaa", sum := "488d7354c9414873deaf7256f3675a12c76db893b4aa6d712c202383d4bde9e4", func := "loop.example/pixelworks/laws.FnExactBestFilter", spec := "fnExactBestFilter", unfollowed := true, recurses := true, apart := false, narrowed := true }
def FnExactBestFilterUptoSaid : Prop := fnExactBestFilterUptoRow.holds Try.pinned (OpenSpec.upto fnExactBestFilterSpec)

/-- 'laws.FnFilterRow', WHERE WHAT IT READS IS OF BULK AT MOST 1048576: true; the input reads as it did. -/
def fnFilterRowUptoRow : OpenClaim := { program := "ytaieialjpiojeaa", sum := "488d7354c9414873deaf7256f3675a12c76db893b4aa6d712c202383d4bde9e4", func := "loop.example/pixelworks/laws.FnFilterRow", spec := "fnFilterRow", unfollowed := true, recurses := true, apart := false, narrowed := true }
def FnFilterRowUptoSaid : Prop := fnFilterRowUptoRow.holds Try.pinned (OpenSpec.upto fnFilterRowSpec)

/-- 'laws.FnUnfilterRow', WHERE WHAT IT READS IS OF BULK AT MOST 1048576: true; the input reads as it did. -/
def fnUnfilterRowUptoRow : OpenClaim := { program := "ytaieialjpiojeaa", sum := "488d7354c9414873deaf7256f3675a12c76db893b4aa6d712c202383d4bde9e4", func := "loop.example/pixelworks/laws.FnUnfilterRow", spec := "fnUnfilterRow", unfollowed := true, recurses := true, apart := false, narrowed := true }
def FnUnfilterRowUptoSaid : Prop := fnUnfilterRowUptoRow.holds Try.pinned (OpenSpec.upto fnUnfilterRowSpec)

/-- 'laws.FnFilterRowSame', WHERE WHAT IT READS IS OF BULK AT MOST 1048576: true; the input reads as it did. -/
def fnFilterRowSameUptoRow : OpenClaim := { program := "ytaieialjpiojeaa", sum := "488d7354c9414873deaf7256f3675a12c76db893b4aa6d712c202383d4bde9e4", func := "loop.example/pixelworks/laws.FnFilterRowSame", spec := "fnFilterRowSame", unfollowed := true, recurses := true, apart := false, narrowed := true }
def FnFilterRowSameUptoSaid : Prop := fnFilterRowSameUptoRow.holds Try.pinned (OpenSpec.upto fnFilterRowSameSpec)

/-- 'laws.FnBestFilter', WHERE WHAT IT READS IS OF BULK AT MOST 1048576: true; the input reads as it did. -/
def fnBestFilterUptoRow : OpenClaim := { program := "ytaieialjpiojeaa", sum := "488d7354c9414873deaf7256f3675a12c76db893b4aa6d712c202383d4bde9e4", func := "loop.example/pixelworks/laws.FnBestFilter", spec := "fnBestFilter", unfollowed := true, recurses := true, apart := false, narrowed := true }
def FnBestFilterUptoSaid : Prop := fnBestFilterUptoRow.holds Try.pinned (OpenSpec.upto fnBestFilterSpec)

/-- 'laws.FnExactCheckOf', WHERE WHAT IT READS IS OF BULK AT MOST 1048576: true; the input reads as it did. -/
def fnExactCheckOfUptoRow : OpenClaim := { program := "ytaieialjpiojeaa", sum := "488d7354c9414873deaf7256f3675a12c76db893b4aa6d712c202383d4bde9e4", func := "loop.example/pixelworks/laws.FnExactCheckOf", spec := "fnExactCheckOf", apart := false, narrowed := true }
def FnExactCheckOfUptoSaid : Prop := fnExactCheckOfUptoRow.holds Try.pinned (OpenSpec.upto fnExactCheckOfSpec)

/-- 'laws.FnCheckOf', WHERE WHAT IT READS IS OF BULK AT MOST 1048576: true; the input reads as it did. -/
def fnCheckOfUptoRow : OpenClaim := { program := "ytaieialjpiojeaa", sum := "488d7354c9414873deaf7256f3675a12c76db893b4aa6d712c202383d4bde9e4", func := "loop.example/pixelworks/laws.FnCheckOf", spec := "fnCheckOf", apart := false, narrowed := true }
def FnCheckOfUptoSaid : Prop := fnCheckOfUptoRow.holds Try.pinned (OpenSpec.upto fnCheckOfSpec)

/-- 'laws.FnPackRow', WHERE WHAT IT READS IS OF BULK AT MOST 1048576: true; the input reads as it did. -/
def fnPackRowUptoRow : OpenClaim := { program := "ytaieialjpiojeaa", sum := "488d7354c9414873deaf7256f3675a12c76db893b4aa6d712c202383d4bde9e4", func := "loop.example/pixelworks/laws.FnPackRow", spec := "fnPackRow", apart := false, narrowed := true }
def FnPackRowUptoSaid : Prop := fnPackRowUptoRow.holds Try.pinned (OpenSpec.upto fnPackRowSpec)

/-- 'laws.FnPackRowDouble', WHERE WHAT IT READS IS OF BULK AT MOST 1048576: true; the input reads as it did. -/
def fnPackRowDoubleUptoRow : OpenClaim := { program := "ytaieialjpiojeaa", sum := "488d7354c9414873deaf7256f3675a12c76db893b4aa6d712c202383d4bde9e4", func := "loop.example/pixelworks/laws.FnPackRowDouble", spec := "fnPackRowDouble", apart := false, narrowed := true }
def FnPackRowDoubleUptoSaid : Prop := fnPackRowDoubleUptoRow.holds Try.pinned (OpenSpec.upto fnPackRowDoubleSpec)

/-- 'laws.FnExactCanonicalCodes', WHERE WHAT IT READS IS OF BULK AT MOST 1048576: true; the input reads as it did. -/
def fnExactCanonicalCodesUptoRow : OpenClaim := { program := "ytaieialjpiojeaa", sum := "488d7354c9414873deaf7256f3675a12c76db893b4aa6d712c202383d4bde9e4", func := "loop.example/pixelworks/laws.FnExactCanonicalCodes", spec := "fnExactCanonicalCodes", apart := false, narrowed := true }
def FnExactCanonicalCodesUptoSaid : Prop := fnExactCanonicalCodesUptoRow.holds Try.pinned (OpenSpec.upto fnExactCanonicalCodesSpec)

end Rows
end Go.Proofs.Ytaieialjpiojeaa
