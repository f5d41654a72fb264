/-
  DERIVED. GIVEN WITH THE SEED: THE CARDS: each row of YtoeifhflbgfcjaaDoorRows.lean that lists a variable, with what it lists TIED to the program's text (the seventh form; the later family's looks); each row that meets fmt, with fmt's text TOLD by the authors' own Lean function (tested against real Go, not proved from fmt's source: count such statements apart). THE CARD IS WHAT COUNTS. Prove the row's statement (the work); the ties are given (YtoeifhflbgfcjaaDoorTie.lean); close each card by the builder's one call (the guide's Derived/Test/ToyasCard.lean, 'card_holds'). Laid BY PROGRAM, IN A SANDBOX (cutbox-door.mjs). By AI agents, Wed Nov 11 2026. No macro, syntax, notation, axiom, sorry.
-/
import Derived.Test.YtoeifhflbgfcjaaDoorRows
import GoSem.ClaimSeven
namespace Go.Proofs.YtoeifhflbgfcjaaDoor
namespace Rows

/-- THE TIED CARD OF 'laws.FnEdgeOf'. -/
def fnEdgeOfCard : Claim7 := { stood := { row := fnEdgeOfRow, standIns := [], harness := (true, "a71bd015d8857a1dba73eaf3d0be30ffb5bce2dc047db70378c9ddd73fc78cc6"), looks := false }, kinds := [], alts := [], laidByText := true, laidKinds := [.data], laidTests := true, laidLooks := .later }
def FnEdgeOfCardSaid : Prop := Claim7.holds Tryd.pinned (.plain (OpenSpec.ofChange fnEdgeOfSpec)) fnEdgeOfCard

/-- THE TIED CARD OF 'laws.FnGrowRegion'. -/
def fnGrowRegionCard : Claim7 := { stood := { row := fnGrowRegionRow, standIns := [], harness := (true, "a71bd015d8857a1dba73eaf3d0be30ffb5bce2dc047db70378c9ddd73fc78cc6"), looks := false }, kinds := [], alts := [], laidByText := true, laidKinds := [.data], laidTests := true, laidLooks := .later }
def FnGrowRegionCardSaid : Prop := Claim7.holds Tryd.pinned (.plain (OpenSpec.ofChange fnGrowRegionSpec)) fnGrowRegionCard

/-- THE TIED CARD OF 'laws.FnGrowRegionUnion'. -/
def fnGrowRegionUnionCard : Claim7 := { stood := { row := fnGrowRegionUnionRow, standIns := [], harness := (true, "a71bd015d8857a1dba73eaf3d0be30ffb5bce2dc047db70378c9ddd73fc78cc6"), looks := false }, kinds := [], alts := [], laidByText := true, laidKinds := [.data], laidTests := true, laidLooks := .later }
def FnGrowRegionUnionCardSaid : Prop := Claim7.holds Tryd.pinned (.plain (OpenSpec.ofChange fnGrowRegionUnionSpec)) fnGrowRegionUnionCard

/-- THE TIED CARD OF 'laws.FnShrinkRegion'. -/
def fnShrinkRegionCard : Claim7 := { stood := { row := fnShrinkRegionRow, standIns := [], harness := (true, "a71bd015d8857a1dba73eaf3d0be30ffb5bce2dc047db70378c9ddd73fc78cc6"), looks := false }, kinds := [], alts := [], laidByText := true, laidKinds := [.data], laidTests := true, laidLooks := .later }
def FnShrinkRegionCardSaid : Prop := Claim7.holds Tryd.pinned (.plain (OpenSpec.ofChange fnShrinkRegionSpec)) fnShrinkRegionCard

/-- THE TIED CARD OF 'laws.FnShrinkRegionSteps'. -/
def fnShrinkRegionStepsCard : Claim7 := { stood := { row := fnShrinkRegionStepsRow, standIns := [], harness := (true, "a71bd015d8857a1dba73eaf3d0be30ffb5bce2dc047db70378c9ddd73fc78cc6"), looks := false }, kinds := [], alts := [], laidByText := true, laidKinds := [.data], laidTests := true, laidLooks := .later }
def FnShrinkRegionStepsCardSaid : Prop := Claim7.holds Tryd.pinned (.plain (OpenSpec.ofChange fnShrinkRegionStepsSpec)) fnShrinkRegionStepsCard

/-- THE TIED CARD OF 'laws.FnOpenRegion'. -/
def fnOpenRegionCard : Claim7 := { stood := { row := fnOpenRegionRow, standIns := [], harness := (true, "a71bd015d8857a1dba73eaf3d0be30ffb5bce2dc047db70378c9ddd73fc78cc6"), looks := false }, kinds := [], alts := [], laidByText := true, laidKinds := [.data], laidTests := true, laidLooks := .later }
def FnOpenRegionCardSaid : Prop := Claim7.holds Tryd.pinned (.plain (OpenSpec.ofChange fnOpenRegionSpec)) fnOpenRegionCard

/-- THE TIED CARD OF 'laws.FnEdgeOfBox'. -/
def fnEdgeOfBoxCard : Claim7 := { stood := { row := fnEdgeOfBoxRow, standIns := [], harness := (true, "a71bd015d8857a1dba73eaf3d0be30ffb5bce2dc047db70378c9ddd73fc78cc6"), looks := false }, kinds := [], alts := [], laidByText := true, laidKinds := [.data], laidTests := true, laidLooks := .later }
def FnEdgeOfBoxCardSaid : Prop := Claim7.holds Tryd.pinned (.plain (OpenSpec.ofChange fnEdgeOfBoxSpec)) fnEdgeOfBoxCard

/-- THE TIED CARD OF 'laws.FnExactEdgeOf'. -/
def fnExactEdgeOfCard : Claim7 := { stood := { row := fnExactEdgeOfRow, standIns := [], harness := (true, "a71bd015d8857a1dba73eaf3d0be30ffb5bce2dc047db70378c9ddd73fc78cc6"), looks := false }, kinds := [], alts := [], laidByText := true, laidKinds := [.data], laidTests := true, laidLooks := .later }
def FnExactEdgeOfCardSaid : Prop := Claim7.holds Tryd.pinned (.plain (OpenSpec.ofChange fnExactEdgeOfSpec)) fnExactEdgeOfCard

/-- THE TIED CARD OF 'laws.FnExactGrowRegion'. -/
def fnExactGrowRegionCard : Claim7 := { stood := { row := fnExactGrowRegionRow, standIns := [], harness := (true, "a71bd015d8857a1dba73eaf3d0be30ffb5bce2dc047db70378c9ddd73fc78cc6"), looks := false }, kinds := [], alts := [], laidByText := true, laidKinds := [.data], laidTests := true, laidLooks := .later }
def FnExactGrowRegionCardSaid : Prop := Claim7.holds Tryd.pinned (.plain (OpenSpec.ofChange fnExactGrowRegionSpec)) fnExactGrowRegionCard

/-- THE TIED CARD OF 'laws.FnExactShrinkRegion'. -/
def fnExactShrinkRegionCard : Claim7 := { stood := { row := fnExactShrinkRegionRow, standIns := [], harness := (true, "a71bd015d8857a1dba73eaf3d0be30ffb5bce2dc047db70378c9ddd73fc78cc6"), looks := false }, kinds := [], alts := [], laidByText := true, laidKinds := [.data], laidTests := true, laidLooks := .later }
def FnExactShrinkRegionCardSaid : Prop := Claim7.holds Tryd.pinned (.plain (OpenSpec.ofChange fnExactShrinkRegionSpec)) fnExactShrinkRegionCard

/-- THE TIED CARD OF 'laws.FnExactOpenRegion'. -/
def fnExactOpenRegionCard : Claim7 := { stood := { row := fnExactOpenRegionRow, standIns := [], harness := (true, "a71bd015d8857a1dba73eaf3d0be30ffb5bce2dc047db70378c9ddd73fc78cc6"), looks := false }, kinds := [], alts := [], laidByText := true, laidKinds := [.data], laidTests := true, laidLooks := .later }
def FnExactOpenRegionCardSaid : Prop := Claim7.holds Tryd.pinned (.plain (OpenSpec.ofChange fnExactOpenRegionSpec)) fnExactOpenRegionCard

/-- THE SECOND FORM's CARD OF 'laws.FnEdgeOf'. -/
def fnEdgeOfUptoCard : Claim7 := { stood := { row := fnEdgeOfUptoRow, standIns := [], harness := (true, "a71bd015d8857a1dba73eaf3d0be30ffb5bce2dc047db70378c9ddd73fc78cc6"), looks := false }, kinds := [], alts := [], laidByText := true, laidKinds := [.data], laidTests := true, laidLooks := .later }
def FnEdgeOfUptoCardSaid : Prop := Claim7.holds Tryd.pinned (.plain (OpenSpec.upto fnEdgeOfSpec)) fnEdgeOfUptoCard

/-- THE SECOND FORM's CARD OF 'laws.FnGrowRegion'. -/
def fnGrowRegionUptoCard : Claim7 := { stood := { row := fnGrowRegionUptoRow, standIns := [], harness := (true, "a71bd015d8857a1dba73eaf3d0be30ffb5bce2dc047db70378c9ddd73fc78cc6"), looks := false }, kinds := [], alts := [], laidByText := true, laidKinds := [.data], laidTests := true, laidLooks := .later }
def FnGrowRegionUptoCardSaid : Prop := Claim7.holds Tryd.pinned (.plain (OpenSpec.upto fnGrowRegionSpec)) fnGrowRegionUptoCard

/-- THE SECOND FORM's CARD OF 'laws.FnGrowRegionUnion'. -/
def fnGrowRegionUnionUptoCard : Claim7 := { stood := { row := fnGrowRegionUnionUptoRow, standIns := [], harness := (true, "a71bd015d8857a1dba73eaf3d0be30ffb5bce2dc047db70378c9ddd73fc78cc6"), looks := false }, kinds := [], alts := [], laidByText := true, laidKinds := [.data], laidTests := true, laidLooks := .later }
def FnGrowRegionUnionUptoCardSaid : Prop := Claim7.holds Tryd.pinned (.plain (OpenSpec.upto fnGrowRegionUnionSpec)) fnGrowRegionUnionUptoCard

/-- THE SECOND FORM's CARD OF 'laws.FnShrinkRegion'. -/
def fnShrinkRegionUptoCard : Claim7 := { stood := { row := fnShrinkRegionUptoRow, standIns := [], harness := (true, "a71bd015d8857a1dba73eaf3d0be30ffb5bce2dc047db70378c9ddd73fc78cc6"), looks := false }, kinds := [], alts := [], laidByText := true, laidKinds := [.data], laidTests := true, laidLooks := .later }
def FnShrinkRegionUptoCardSaid : Prop := Claim7.holds Tryd.pinned (.plain (OpenSpec.upto fnShrinkRegionSpec)) fnShrinkRegionUptoCard

/-- THE SECOND FORM's CARD OF 'laws.FnShrinkRegionSteps'. -/
def fnShrinkRegionStepsUptoCard : Claim7 := { stood := { row := fnShrinkRegionStepsUptoRow, standIns := [], harness := (true, "a71bd015d8857a1dba73eaf3d0be30ffb5bce2dc047db70378c9ddd73fc78cc6"), looks := false }, kinds := [], alts := [], laidByText := true, laidKinds := [.data], laidTests := true, laidLooks := .later }
def FnShrinkRegionStepsUptoCardSaid : Prop := Claim7.holds Tryd.pinned (.plain (OpenSpec.upto fnShrinkRegionStepsSpec)) fnShrinkRegionStepsUptoCard

/-- THE SECOND FORM's CARD OF 'laws.FnOpenRegion'. -/
def fnOpenRegionUptoCard : Claim7 := { stood := { row := fnOpenRegionUptoRow, standIns := [], harness := (true, "a71bd015d8857a1dba73eaf3d0be30ffb5bce2dc047db70378c9ddd73fc78cc6"), looks := false }, kinds := [], alts := [], laidByText := true, laidKinds := [.data], laidTests := true, laidLooks := .later }
def FnOpenRegionUptoCardSaid : Prop := Claim7.holds Tryd.pinned (.plain (OpenSpec.upto fnOpenRegionSpec)) fnOpenRegionUptoCard

/-- THE SECOND FORM's CARD OF 'laws.FnEdgeOfBox'. -/
def fnEdgeOfBoxUptoCard : Claim7 := { stood := { row := fnEdgeOfBoxUptoRow, standIns := [], harness := (true, "a71bd015d8857a1dba73eaf3d0be30ffb5bce2dc047db70378c9ddd73fc78cc6"), looks := false }, kinds := [], alts := [], laidByText := true, laidKinds := [.data], laidTests := true, laidLooks := .later }
def FnEdgeOfBoxUptoCardSaid : Prop := Claim7.holds Tryd.pinned (.plain (OpenSpec.upto fnEdgeOfBoxSpec)) fnEdgeOfBoxUptoCard

/-- THE SECOND FORM's CARD OF 'laws.FnExactEdgeOf'. -/
def fnExactEdgeOfUptoCard : Claim7 := { stood := { row := fnExactEdgeOfUptoRow, standIns := [], harness := (true, "a71bd015d8857a1dba73eaf3d0be30ffb5bce2dc047db70378c9ddd73fc78cc6"), looks := false }, kinds := [], alts := [], laidByText := true, laidKinds := [.data], laidTests := true, laidLooks := .later }
def FnExactEdgeOfUptoCardSaid : Prop := Claim7.holds Tryd.pinned (.plain (OpenSpec.upto fnExactEdgeOfSpec)) fnExactEdgeOfUptoCard

/-- THE SECOND FORM's CARD OF 'laws.FnExactGrowRegion'. -/
def fnExactGrowRegionUptoCard : Claim7 := { stood := { row := fnExactGrowRegionUptoRow, standIns := [], harness := (true, "a71bd015d8857a1dba73eaf3d0be30ffb5bce2dc047db70378c9ddd73fc78cc6"), looks := false }, kinds := [], alts := [], laidByText := true, laidKinds := [.data], laidTests := true, laidLooks := .later }
def FnExactGrowRegionUptoCardSaid : Prop := Claim7.holds Tryd.pinned (.plain (OpenSpec.upto fnExactGrowRegionSpec)) fnExactGrowRegionUptoCard

/-- THE SECOND FORM's CARD OF 'laws.FnExactShrinkRegion'. -/
def fnExactShrinkRegionUptoCard : Claim7 := { stood := { row := fnExactShrinkRegionUptoRow, standIns := [], harness := (true, "a71bd015d8857a1dba73eaf3d0be30ffb5bce2dc047db70378c9ddd73fc78cc6"), looks := false }, kinds := [], alts := [], laidByText := true, laidKinds := [.data], laidTests := true, laidLooks := .later }
def FnExactShrinkRegionUptoCardSaid : Prop := Claim7.holds Tryd.pinned (.plain (OpenSpec.upto fnExactShrinkRegionSpec)) fnExactShrinkRegionUptoCard

/-- THE SECOND FORM's CARD OF 'laws.FnExactOpenRegion'. -/
def fnExactOpenRegionUptoCard : Claim7 := { stood := { row := fnExactOpenRegionUptoRow, standIns := [], harness := (true, "a71bd015d8857a1dba73eaf3d0be30ffb5bce2dc047db70378c9ddd73fc78cc6"), looks := false }, kinds := [], alts := [], laidByText := true, laidKinds := [.data], laidTests := true, laidLooks := .later }
def FnExactOpenRegionUptoCardSaid : Prop := Claim7.holds Tryd.pinned (.plain (OpenSpec.upto fnExactOpenRegionSpec)) fnExactOpenRegionUptoCard
end Rows
end Go.Proofs.YtoeifhflbgfcjaaDoor
