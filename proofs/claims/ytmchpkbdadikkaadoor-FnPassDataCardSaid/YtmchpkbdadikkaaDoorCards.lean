/-
  DERIVED. GIVEN WITH THE SEED: THE CARDS: each row of YtmchpkbdadikkaaDoorRows.lean that lists a variable, with what it lists TIED to the program's text (the seventh form; the later family's looks); each row that meets fmt, with fmt's text TOLD by the authors' own Lean function (tested against real Go, not proved from fmt's source: count such statements apart). THE CARD IS WHAT COUNTS. Prove the row's statement (the work); the ties are given (YtmchpkbdadikkaaDoorTie.lean); close each card by the builder's one call (the guide's Derived/Test/ToyasCard.lean, 'card_holds'). Laid BY PROGRAM, IN A SANDBOX (cutbox-door.mjs). By AI agents, Wed Nov 11 2026. No macro, syntax, notation, axiom, sorry.
-/
import Derived.Test.YtmchpkbdadikkaaDoorRows
import GoSem.ClaimSeven
namespace Go.Proofs.YtmchpkbdadikkaaDoor
namespace Rows

/-- THE TIED CARD OF 'laws.FnExactPassData'. -/
def fnExactPassDataCard : Claim7 := { stood := { row := fnExactPassDataRow, standIns := [], harness := (true, "bb850ef132f70fc7fece33eaedd1de489882ea9d55db349e4ce706bdc68dacdf"), looks := false }, kinds := [], alts := [], laidByText := true, laidKinds := [.wider], laidTests := true, laidLooks := .later }
def FnExactPassDataCardSaid : Prop := Claim7.holds Tryd.pinned (.plain (OpenSpec.ofChange fnExactPassDataSpec)) fnExactPassDataCard

/-- THE TIED CARD OF 'laws.FnPassData'. -/
def fnPassDataCard : Claim7 := { stood := { row := fnPassDataRow, standIns := [], harness := (true, "bb850ef132f70fc7fece33eaedd1de489882ea9d55db349e4ce706bdc68dacdf"), looks := false }, kinds := [], alts := [], laidByText := true, laidKinds := [.wider], laidTests := true, laidLooks := .later }
def FnPassDataCardSaid : Prop := Claim7.holds Tryd.pinned (.plain (OpenSpec.ofChange fnPassDataSpec)) fnPassDataCard

/-- THE SECOND FORM's CARD OF 'laws.FnExactPassData'. -/
def fnExactPassDataUptoCard : Claim7 := { stood := { row := fnExactPassDataUptoRow, standIns := [], harness := (true, "bb850ef132f70fc7fece33eaedd1de489882ea9d55db349e4ce706bdc68dacdf"), looks := false }, kinds := [], alts := [], laidByText := true, laidKinds := [.wider], laidTests := true, laidLooks := .later }
def FnExactPassDataUptoCardSaid : Prop := Claim7.holds Tryd.pinned (.plain (OpenSpec.upto fnExactPassDataSpec)) fnExactPassDataUptoCard

/-- THE SECOND FORM's CARD OF 'laws.FnPassData'. -/
def fnPassDataUptoCard : Claim7 := { stood := { row := fnPassDataUptoRow, standIns := [], harness := (true, "bb850ef132f70fc7fece33eaedd1de489882ea9d55db349e4ce706bdc68dacdf"), looks := false }, kinds := [], alts := [], laidByText := true, laidKinds := [.wider], laidTests := true, laidLooks := .later }
def FnPassDataUptoCardSaid : Prop := Claim7.holds Tryd.pinned (.plain (OpenSpec.upto fnPassDataSpec)) fnPassDataUptoCard
end Rows
end Go.Proofs.YtmchpkbdadikkaaDoor
