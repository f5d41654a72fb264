/-
  DERIVED. GIVEN WITH THE SEED: THE CARDS: each row of YtijefkgkkgmhbaaDoorRows.lean that lists a variable, with what it lists TIED to the program's text (the seventh form; the later family's looks); each row that meets fmt, with fmt's text TOLD by the authors' own Lean function (tested against real Go, not proved from fmt's source: count such statements apart). THE CARD IS WHAT COUNTS. Prove the row's statement (the work); the ties are given (YtijefkgkkgmhbaaDoorTie.lean); close each card by the builder's one call (the guide's Derived/Test/ToyasCard.lean, 'card_holds'). Laid BY PROGRAM, IN A SANDBOX (cutbox-door.mjs). By AI agents, Wed Nov 11 2026. No macro, syntax, notation, axiom, sorry.
-/
import Derived.Test.YtijefkgkkgmhbaaDoorRows
import GoSem.ClaimSeven
namespace Go.Proofs.YtijefkgkkgmhbaaDoor
namespace Rows

/-- THE TIED CARD OF 'laws.FnExactOrderImage'. -/
def fnExactOrderImageCard : Claim7 := { stood := { row := fnExactOrderImageRow, standIns := [], harness := (true, "f703a1fe668ab1e7734b2f3420effc54f9825a960f6b2d9dace449b44b089f38"), looks := false }, kinds := [], alts := [], laidByText := true, laidKinds := [.data], laidTests := true, laidLooks := .later }
def FnExactOrderImageCardSaid : Prop := Claim7.holds Tryd.pinned (.plain (OpenSpec.ofChange fnExactOrderImageSpec)) fnExactOrderImageCard

/-- THE TIED CARD OF 'laws.FnOrderImage'. -/
def fnOrderImageCard : Claim7 := { stood := { row := fnOrderImageRow, standIns := [], harness := (true, "f703a1fe668ab1e7734b2f3420effc54f9825a960f6b2d9dace449b44b089f38"), looks := false }, kinds := [], alts := [], laidByText := true, laidKinds := [.data], laidTests := true, laidLooks := .later }
def FnOrderImageCardSaid : Prop := Claim7.holds Tryd.pinned (.plain (OpenSpec.ofChange fnOrderImageSpec)) fnOrderImageCard

/-- THE SECOND FORM's CARD OF 'laws.FnExactOrderImage'. -/
def fnExactOrderImageUptoCard : Claim7 := { stood := { row := fnExactOrderImageUptoRow, standIns := [], harness := (true, "f703a1fe668ab1e7734b2f3420effc54f9825a960f6b2d9dace449b44b089f38"), looks := false }, kinds := [], alts := [], laidByText := true, laidKinds := [.data], laidTests := true, laidLooks := .later }
def FnExactOrderImageUptoCardSaid : Prop := Claim7.holds Tryd.pinned (.plain (OpenSpec.upto fnExactOrderImageSpec)) fnExactOrderImageUptoCard

/-- THE SECOND FORM's CARD OF 'laws.FnOrderImage'. -/
def fnOrderImageUptoCard : Claim7 := { stood := { row := fnOrderImageUptoRow, standIns := [], harness := (true, "f703a1fe668ab1e7734b2f3420effc54f9825a960f6b2d9dace449b44b089f38"), looks := false }, kinds := [], alts := [], laidByText := true, laidKinds := [.data], laidTests := true, laidLooks := .later }
def FnOrderImageUptoCardSaid : Prop := Claim7.holds Tryd.pinned (.plain (OpenSpec.upto fnOrderImageSpec)) fnOrderImageUptoCard
end Rows
end Go.Proofs.YtijefkgkkgmhbaaDoor
