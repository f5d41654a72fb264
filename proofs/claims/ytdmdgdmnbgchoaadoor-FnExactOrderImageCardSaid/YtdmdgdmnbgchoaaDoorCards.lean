/-
  DERIVED. GIVEN WITH THE SEED: THE CARDS: each row of YtdmdgdmnbgchoaaDoorRows.lean that lists a variable, with what it lists TIED to the program's text (the seventh form; the later family's looks); each row that meets fmt, with fmt's text TOLD by the authors' own Lean function (tested against real Go, not proved from fmt's source: count such statements apart). THE CARD IS WHAT COUNTS. Prove the row's statement (the work); the ties are given (YtdmdgdmnbgchoaaDoorTie.lean); close each card by the builder's one call (the guide's Derived/Test/ToyasCard.lean, 'card_holds'). Laid BY PROGRAM, IN A SANDBOX (cutbox-door.mjs). By AI agents, Wed Nov 11 2026. No macro, syntax, notation, axiom, sorry.
-/
import Derived.Test.YtdmdgdmnbgchoaaDoorRows
import GoSem.ClaimSeven
namespace Go.Proofs.YtdmdgdmnbgchoaaDoor
namespace Rows

/-- THE TIED CARD OF 'laws.FnOrderImage'. -/
def fnOrderImageCard : Claim7 := { stood := { row := fnOrderImageRow, standIns := [], harness := (true, "5e686cf7e0064abec1d87caa77754dc5ff1169da25ee2733dd6580556024a480"), looks := false }, kinds := [], alts := [], laidByText := true, laidKinds := [.data], laidTests := true, laidLooks := .later }
def FnOrderImageCardSaid : Prop := Claim7.holds Tryd.pinned (.plain (OpenSpec.ofChange fnOrderImageSpec)) fnOrderImageCard

/-- THE TIED CARD OF 'laws.FnExactOrderImage'. -/
def fnExactOrderImageCard : Claim7 := { stood := { row := fnExactOrderImageRow, standIns := [], harness := (true, "5e686cf7e0064abec1d87caa77754dc5ff1169da25ee2733dd6580556024a480"), looks := false }, kinds := [], alts := [], laidByText := true, laidKinds := [.data], laidTests := true, laidLooks := .later }
def FnExactOrderImageCardSaid : Prop := Claim7.holds Tryd.pinned (.plain (OpenSpec.ofChange fnExactOrderImageSpec)) fnExactOrderImageCard

/-- THE SECOND FORM's CARD OF 'laws.FnOrderImage'. -/
def fnOrderImageUptoCard : Claim7 := { stood := { row := fnOrderImageUptoRow, standIns := [], harness := (true, "5e686cf7e0064abec1d87caa77754dc5ff1169da25ee2733dd6580556024a480"), looks := false }, kinds := [], alts := [], laidByText := true, laidKinds := [.data], laidTests := true, laidLooks := .later }
def FnOrderImageUptoCardSaid : Prop := Claim7.holds Tryd.pinned (.plain (OpenSpec.upto fnOrderImageSpec)) fnOrderImageUptoCard

/-- THE SECOND FORM's CARD OF 'laws.FnExactOrderImage'. -/
def fnExactOrderImageUptoCard : Claim7 := { stood := { row := fnExactOrderImageUptoRow, standIns := [], harness := (true, "5e686cf7e0064abec1d87caa77754dc5ff1169da25ee2733dd6580556024a480"), looks := false }, kinds := [], alts := [], laidByText := true, laidKinds := [.data], laidTests := true, laidLooks := .later }
def FnExactOrderImageUptoCardSaid : Prop := Claim7.holds Tryd.pinned (.plain (OpenSpec.upto fnExactOrderImageSpec)) fnExactOrderImageUptoCard
end Rows
end Go.Proofs.YtdmdgdmnbgchoaaDoor
