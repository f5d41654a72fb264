/-
  DERIVED. GIVEN WITH THE SEED: THE CARDS: each row of YtbikdgnefibcdaaDoorRows.lean that lists a variable, with what it lists TIED to the program's text (the seventh form; the later family's looks); each row that meets fmt, with fmt's text TOLD by the authors' own Lean function (tested against real Go, not proved from fmt's source: count such statements apart). THE CARD IS WHAT COUNTS. Prove the row's statement (the work); the ties are given (YtbikdgnefibcdaaDoorTie.lean); close each card by the builder's one call (the guide's Derived/Test/ToyasCard.lean, 'card_holds'). Laid BY PROGRAM, IN A SANDBOX (cutbox-door.mjs). By AI agents, Wed Nov 11 2026. No macro, syntax, notation, axiom, sorry.
-/
import Derived.Test.YtbikdgnefibcdaaDoorRows
import GoSem.ClaimSeven
namespace Go.Proofs.YtbikdgnefibcdaaDoor
namespace Rows

/-- THE TIED CARD OF 'laws.FnPassSize'. -/
def fnPassSizeCard : Claim7 := { stood := { row := fnPassSizeRow, standIns := [], harness := (true, "63d173c82f380edc5bc917716cd8aee1d0e4942438ef8b61221b6603318dc769"), looks := false }, kinds := [], alts := [], laidByText := true, laidKinds := [.wider], laidTests := true, laidLooks := .later }
def FnPassSizeCardSaid : Prop := Claim7.holds Tryd.pinned (.plain (OpenSpec.ofChange fnPassSizeSpec)) fnPassSizeCard

/-- THE TIED CARD OF 'laws.FnShiftRegion'. -/
def fnShiftRegionCard : Claim7 := { stood := { row := fnShiftRegionRow, standIns := [], harness := (true, "63d173c82f380edc5bc917716cd8aee1d0e4942438ef8b61221b6603318dc769"), looks := false }, kinds := [], alts := [], laidByText := true, laidKinds := [.data], laidTests := true, laidLooks := .later }
def FnShiftRegionCardSaid : Prop := Claim7.holds Tryd.pinned (.plain (OpenSpec.ofChange fnShiftRegionSpec)) fnShiftRegionCard

/-- THE TIED CARD OF 'laws.FnCombineRegionsThree'. -/
def fnCombineRegionsThreeCard : Claim7 := { stood := { row := fnCombineRegionsThreeRow, standIns := [], harness := (true, "63d173c82f380edc5bc917716cd8aee1d0e4942438ef8b61221b6603318dc769"), looks := false }, kinds := [], alts := [], laidByText := true, laidKinds := [.data], laidTests := true, laidLooks := .later }
def FnCombineRegionsThreeCardSaid : Prop := Claim7.holds Tryd.pinned (.plain (OpenSpec.ofChange fnCombineRegionsThreeSpec)) fnCombineRegionsThreeCard

/-- THE TIED CARD OF 'laws.FnExactEdgeOf'. -/
def fnExactEdgeOfCard : Claim7 := { stood := { row := fnExactEdgeOfRow, standIns := [], harness := (true, "63d173c82f380edc5bc917716cd8aee1d0e4942438ef8b61221b6603318dc769"), looks := false }, kinds := [], alts := [], laidByText := true, laidKinds := [.data], laidTests := true, laidLooks := .later }
def FnExactEdgeOfCardSaid : Prop := Claim7.holds Tryd.pinned (.plain (OpenSpec.ofChange fnExactEdgeOfSpec)) fnExactEdgeOfCard

/-- THE TIED CARD OF 'laws.FnExactGrowRegion'. -/
def fnExactGrowRegionCard : Claim7 := { stood := { row := fnExactGrowRegionRow, standIns := [], harness := (true, "63d173c82f380edc5bc917716cd8aee1d0e4942438ef8b61221b6603318dc769"), looks := false }, kinds := [], alts := [], laidByText := true, laidKinds := [.data], laidTests := true, laidLooks := .later }
def FnExactGrowRegionCardSaid : Prop := Claim7.holds Tryd.pinned (.plain (OpenSpec.ofChange fnExactGrowRegionSpec)) fnExactGrowRegionCard

/-- THE TIED CARD OF 'laws.FnExactShrinkRegion'. -/
def fnExactShrinkRegionCard : Claim7 := { stood := { row := fnExactShrinkRegionRow, standIns := [], harness := (true, "63d173c82f380edc5bc917716cd8aee1d0e4942438ef8b61221b6603318dc769"), looks := false }, kinds := [], alts := [], laidByText := true, laidKinds := [.data], laidTests := true, laidLooks := .later }
def FnExactShrinkRegionCardSaid : Prop := Claim7.holds Tryd.pinned (.plain (OpenSpec.ofChange fnExactShrinkRegionSpec)) fnExactShrinkRegionCard

/-- THE TIED CARD OF 'laws.FnExactOpenRegion'. -/
def fnExactOpenRegionCard : Claim7 := { stood := { row := fnExactOpenRegionRow, standIns := [], harness := (true, "63d173c82f380edc5bc917716cd8aee1d0e4942438ef8b61221b6603318dc769"), looks := false }, kinds := [], alts := [], laidByText := true, laidKinds := [.data], laidTests := true, laidLooks := .later }
def FnExactOpenRegionCardSaid : Prop := Claim7.holds Tryd.pinned (.plain (OpenSpec.ofChange fnExactOpenRegionSpec)) fnExactOpenRegionCard

/-- THE TIED CARD OF 'laws.FnExactShiftRegion'. -/
def fnExactShiftRegionCard : Claim7 := { stood := { row := fnExactShiftRegionRow, standIns := [], harness := (true, "63d173c82f380edc5bc917716cd8aee1d0e4942438ef8b61221b6603318dc769"), looks := false }, kinds := [], alts := [], laidByText := true, laidKinds := [.data], laidTests := true, laidLooks := .later }
def FnExactShiftRegionCardSaid : Prop := Claim7.holds Tryd.pinned (.plain (OpenSpec.ofChange fnExactShiftRegionSpec)) fnExactShiftRegionCard

/-- THE TIED CARD OF 'laws.FnExactPassSize'. -/
def fnExactPassSizeCard : Claim7 := { stood := { row := fnExactPassSizeRow, standIns := [], harness := (true, "63d173c82f380edc5bc917716cd8aee1d0e4942438ef8b61221b6603318dc769"), looks := false }, kinds := [], alts := [], laidByText := true, laidKinds := [.wider], laidTests := true, laidLooks := .later }
def FnExactPassSizeCardSaid : Prop := Claim7.holds Tryd.pinned (.plain (OpenSpec.ofChange fnExactPassSizeSpec)) fnExactPassSizeCard

/-- THE SECOND FORM's CARD OF 'laws.FnPassSize'. -/
def fnPassSizeUptoCard : Claim7 := { stood := { row := fnPassSizeUptoRow, standIns := [], harness := (true, "63d173c82f380edc5bc917716cd8aee1d0e4942438ef8b61221b6603318dc769"), looks := false }, kinds := [], alts := [], laidByText := true, laidKinds := [.wider], laidTests := true, laidLooks := .later }
def FnPassSizeUptoCardSaid : Prop := Claim7.holds Tryd.pinned (.plain (OpenSpec.upto fnPassSizeSpec)) fnPassSizeUptoCard

/-- THE SECOND FORM's CARD OF 'laws.FnShiftRegion'. -/
def fnShiftRegionUptoCard : Claim7 := { stood := { row := fnShiftRegionUptoRow, standIns := [], harness := (true, "63d173c82f380edc5bc917716cd8aee1d0e4942438ef8b61221b6603318dc769"), looks := false }, kinds := [], alts := [], laidByText := true, laidKinds := [.data], laidTests := true, laidLooks := .later }
def FnShiftRegionUptoCardSaid : Prop := Claim7.holds Tryd.pinned (.plain (OpenSpec.upto fnShiftRegionSpec)) fnShiftRegionUptoCard

/-- THE SECOND FORM's CARD OF 'laws.FnCombineRegionsThree'. -/
def fnCombineRegionsThreeUptoCard : Claim7 := { stood := { row := fnCombineRegionsThreeUptoRow, standIns := [], harness := (true, "63d173c82f380edc5bc917716cd8aee1d0e4942438ef8b61221b6603318dc769"), looks := false }, kinds := [], alts := [], laidByText := true, laidKinds := [.data], laidTests := true, laidLooks := .later }
def FnCombineRegionsThreeUptoCardSaid : Prop := Claim7.holds Tryd.pinned (.plain (OpenSpec.upto fnCombineRegionsThreeSpec)) fnCombineRegionsThreeUptoCard

/-- THE SECOND FORM's CARD OF 'laws.FnExactEdgeOf'. -/
def fnExactEdgeOfUptoCard : Claim7 := { stood := { row := fnExactEdgeOfUptoRow, standIns := [], harness := (true, "63d173c82f380edc5bc917716cd8aee1d0e4942438ef8b61221b6603318dc769"), looks := false }, kinds := [], alts := [], laidByText := true, laidKinds := [.data], laidTests := true, laidLooks := .later }
def FnExactEdgeOfUptoCardSaid : Prop := Claim7.holds Tryd.pinned (.plain (OpenSpec.upto fnExactEdgeOfSpec)) fnExactEdgeOfUptoCard

/-- THE SECOND FORM's CARD OF 'laws.FnExactGrowRegion'. -/
def fnExactGrowRegionUptoCard : Claim7 := { stood := { row := fnExactGrowRegionUptoRow, standIns := [], harness := (true, "63d173c82f380edc5bc917716cd8aee1d0e4942438ef8b61221b6603318dc769"), looks := false }, kinds := [], alts := [], laidByText := true, laidKinds := [.data], laidTests := true, laidLooks := .later }
def FnExactGrowRegionUptoCardSaid : Prop := Claim7.holds Tryd.pinned (.plain (OpenSpec.upto fnExactGrowRegionSpec)) fnExactGrowRegionUptoCard

/-- THE SECOND FORM's CARD OF 'laws.FnExactShrinkRegion'. -/
def fnExactShrinkRegionUptoCard : Claim7 := { stood := { row := fnExactShrinkRegionUptoRow, standIns := [], harness := (true, "63d173c82f380edc5bc917716cd8aee1d0e4942438ef8b61221b6603318dc769"), looks := false }, kinds := [], alts := [], laidByText := true, laidKinds := [.data], laidTests := true, laidLooks := .later }
def FnExactShrinkRegionUptoCardSaid : Prop := Claim7.holds Tryd.pinned (.plain (OpenSpec.upto fnExactShrinkRegionSpec)) fnExactShrinkRegionUptoCard

/-- THE SECOND FORM's CARD OF 'laws.FnExactOpenRegion'. -/
def fnExactOpenRegionUptoCard : Claim7 := { stood := { row := fnExactOpenRegionUptoRow, standIns := [], harness := (true, "63d173c82f380edc5bc917716cd8aee1d0e4942438ef8b61221b6603318dc769"), looks := false }, kinds := [], alts := [], laidByText := true, laidKinds := [.data], laidTests := true, laidLooks := .later }
def FnExactOpenRegionUptoCardSaid : Prop := Claim7.holds Tryd.pinned (.plain (OpenSpec.upto fnExactOpenRegionSpec)) fnExactOpenRegionUptoCard

/-- THE SECOND FORM's CARD OF 'laws.FnExactShiftRegion'. -/
def fnExactShiftRegionUptoCard : Claim7 := { stood := { row := fnExactShiftRegionUptoRow, standIns := [], harness := (true, "63d173c82f380edc5bc917716cd8aee1d0e4942438ef8b61221b6603318dc769"), looks := false }, kinds := [], alts := [], laidByText := true, laidKinds := [.data], laidTests := true, laidLooks := .later }
def FnExactShiftRegionUptoCardSaid : Prop := Claim7.holds Tryd.pinned (.plain (OpenSpec.upto fnExactShiftRegionSpec)) fnExactShiftRegionUptoCard

/-- THE SECOND FORM's CARD OF 'laws.FnExactPassSize'. -/
def fnExactPassSizeUptoCard : Claim7 := { stood := { row := fnExactPassSizeUptoRow, standIns := [], harness := (true, "63d173c82f380edc5bc917716cd8aee1d0e4942438ef8b61221b6603318dc769"), looks := false }, kinds := [], alts := [], laidByText := true, laidKinds := [.wider], laidTests := true, laidLooks := .later }
def FnExactPassSizeUptoCardSaid : Prop := Claim7.holds Tryd.pinned (.plain (OpenSpec.upto fnExactPassSizeSpec)) fnExactPassSizeUptoCard
end Rows
end Go.Proofs.YtbikdgnefibcdaaDoor
