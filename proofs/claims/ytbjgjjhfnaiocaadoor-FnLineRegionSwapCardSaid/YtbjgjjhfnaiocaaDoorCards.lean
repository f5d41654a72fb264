/-
  DERIVED. GIVEN WITH THE SEED: THE CARDS: each row of YtbjgjjhfnaiocaaDoorRows.lean that lists a variable, with what it lists TIED to the program's text (the seventh form; the later family's looks); each row that meets fmt, with fmt's text TOLD by the authors' own Lean function (tested against real Go, not proved from fmt's source: count such statements apart). THE CARD IS WHAT COUNTS. Prove the row's statement (the work); the ties are given (YtbjgjjhfnaiocaaDoorTie.lean); close each card by the builder's one call (the guide's Derived/Test/ToyasCard.lean, 'card_holds'). Laid BY PROGRAM, IN A SANDBOX (cutbox-door.mjs). By AI agents, Wed Nov 11 2026. No macro, syntax, notation, axiom, sorry.
-/
import Derived.Test.YtbjgjjhfnaiocaaDoorRows
import GoSem.ClaimSeven
namespace Go.Proofs.YtbjgjjhfnaiocaaDoor
namespace Rows

/-- THE TIED CARD OF 'laws.FnExactLineRegion'. -/
def fnExactLineRegionCard : Claim7 := { stood := { row := fnExactLineRegionRow, standIns := [], harness := (true, "6d39d747f09fa3c526cc76d56b1d44bdd58cabbbbcd0c5f537ef1d10321150bc"), looks := false }, kinds := [], alts := [], laidByText := true, laidKinds := [.data], laidTests := true, laidLooks := .later }
def FnExactLineRegionCardSaid : Prop := Claim7.holds Tryd.pinned (.plain (OpenSpec.ofChange fnExactLineRegionSpec)) fnExactLineRegionCard

/-- THE TIED CARD OF 'laws.FnLineRegion'. -/
def fnLineRegionCard : Claim7 := { stood := { row := fnLineRegionRow, standIns := [], harness := (true, "6d39d747f09fa3c526cc76d56b1d44bdd58cabbbbcd0c5f537ef1d10321150bc"), looks := false }, kinds := [], alts := [], laidByText := true, laidKinds := [.data], laidTests := true, laidLooks := .later }
def FnLineRegionCardSaid : Prop := Claim7.holds Tryd.pinned (.plain (OpenSpec.ofChange fnLineRegionSpec)) fnLineRegionCard

/-- THE TIED CARD OF 'laws.FnLineRegionSwap'. -/
def fnLineRegionSwapCard : Claim7 := { stood := { row := fnLineRegionSwapRow, standIns := [], harness := (true, "6d39d747f09fa3c526cc76d56b1d44bdd58cabbbbcd0c5f537ef1d10321150bc"), looks := false }, kinds := [], alts := [], laidByText := true, laidKinds := [.data], laidTests := true, laidLooks := .later }
def FnLineRegionSwapCardSaid : Prop := Claim7.holds Tryd.pinned (.plain (OpenSpec.ofChange fnLineRegionSwapSpec)) fnLineRegionSwapCard

/-- THE TIED CARD OF 'laws.FnLineRegionBox'. -/
def fnLineRegionBoxCard : Claim7 := { stood := { row := fnLineRegionBoxRow, standIns := [], harness := (true, "6d39d747f09fa3c526cc76d56b1d44bdd58cabbbbcd0c5f537ef1d10321150bc"), looks := false }, kinds := [], alts := [], laidByText := true, laidKinds := [.data], laidTests := true, laidLooks := .later }
def FnLineRegionBoxCardSaid : Prop := Claim7.holds Tryd.pinned (.plain (OpenSpec.ofChange fnLineRegionBoxSpec)) fnLineRegionBoxCard

/-- THE TIED CARD OF 'laws.FnShiftRegion'. -/
def fnShiftRegionCard : Claim7 := { stood := { row := fnShiftRegionRow, standIns := [], harness := (true, "6d39d747f09fa3c526cc76d56b1d44bdd58cabbbbcd0c5f537ef1d10321150bc"), looks := false }, kinds := [], alts := [], laidByText := true, laidKinds := [.data], laidTests := true, laidLooks := .later }
def FnShiftRegionCardSaid : Prop := Claim7.holds Tryd.pinned (.plain (OpenSpec.ofChange fnShiftRegionSpec)) fnShiftRegionCard

/-- THE SECOND FORM's CARD OF 'laws.FnExactLineRegion'. -/
def fnExactLineRegionUptoCard : Claim7 := { stood := { row := fnExactLineRegionUptoRow, standIns := [], harness := (true, "6d39d747f09fa3c526cc76d56b1d44bdd58cabbbbcd0c5f537ef1d10321150bc"), looks := false }, kinds := [], alts := [], laidByText := true, laidKinds := [.data], laidTests := true, laidLooks := .later }
def FnExactLineRegionUptoCardSaid : Prop := Claim7.holds Tryd.pinned (.plain (OpenSpec.upto fnExactLineRegionSpec)) fnExactLineRegionUptoCard

/-- THE SECOND FORM's CARD OF 'laws.FnLineRegion'. -/
def fnLineRegionUptoCard : Claim7 := { stood := { row := fnLineRegionUptoRow, standIns := [], harness := (true, "6d39d747f09fa3c526cc76d56b1d44bdd58cabbbbcd0c5f537ef1d10321150bc"), looks := false }, kinds := [], alts := [], laidByText := true, laidKinds := [.data], laidTests := true, laidLooks := .later }
def FnLineRegionUptoCardSaid : Prop := Claim7.holds Tryd.pinned (.plain (OpenSpec.upto fnLineRegionSpec)) fnLineRegionUptoCard

/-- THE SECOND FORM's CARD OF 'laws.FnLineRegionSwap'. -/
def fnLineRegionSwapUptoCard : Claim7 := { stood := { row := fnLineRegionSwapUptoRow, standIns := [], harness := (true, "6d39d747f09fa3c526cc76d56b1d44bdd58cabbbbcd0c5f537ef1d10321150bc"), looks := false }, kinds := [], alts := [], laidByText := true, laidKinds := [.data], laidTests := true, laidLooks := .later }
def FnLineRegionSwapUptoCardSaid : Prop := Claim7.holds Tryd.pinned (.plain (OpenSpec.upto fnLineRegionSwapSpec)) fnLineRegionSwapUptoCard

/-- THE SECOND FORM's CARD OF 'laws.FnLineRegionBox'. -/
def fnLineRegionBoxUptoCard : Claim7 := { stood := { row := fnLineRegionBoxUptoRow, standIns := [], harness := (true, "6d39d747f09fa3c526cc76d56b1d44bdd58cabbbbcd0c5f537ef1d10321150bc"), looks := false }, kinds := [], alts := [], laidByText := true, laidKinds := [.data], laidTests := true, laidLooks := .later }
def FnLineRegionBoxUptoCardSaid : Prop := Claim7.holds Tryd.pinned (.plain (OpenSpec.upto fnLineRegionBoxSpec)) fnLineRegionBoxUptoCard

/-- THE SECOND FORM's CARD OF 'laws.FnShiftRegion'. -/
def fnShiftRegionUptoCard : Claim7 := { stood := { row := fnShiftRegionUptoRow, standIns := [], harness := (true, "6d39d747f09fa3c526cc76d56b1d44bdd58cabbbbcd0c5f537ef1d10321150bc"), looks := false }, kinds := [], alts := [], laidByText := true, laidKinds := [.data], laidTests := true, laidLooks := .later }
def FnShiftRegionUptoCardSaid : Prop := Claim7.holds Tryd.pinned (.plain (OpenSpec.upto fnShiftRegionSpec)) fnShiftRegionUptoCard
end Rows
end Go.Proofs.YtbjgjjhfnaiocaaDoor
