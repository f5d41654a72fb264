/-
  DERIVED. GIVEN WITH THE SEED: THE CARDS: each row of YtlkacohbfgcokaaDoorRows.lean that lists a variable, with what it lists TIED to the program's text (the seventh form; the later family's looks); each row that meets fmt, with fmt's text TOLD by the authors' own Lean function (tested against real Go, not proved from fmt's source: count such statements apart). THE CARD IS WHAT COUNTS. Prove the row's statement (the work); the ties are given (YtlkacohbfgcokaaDoorTie.lean); close each card by the builder's one call (the guide's Derived/Test/ToyasCard.lean, 'card_holds'). Laid BY PROGRAM, IN A SANDBOX (cutbox-door.mjs). By AI agents, Wed Nov 11 2026. No macro, syntax, notation, axiom, sorry.
-/
import Derived.Test.YtlkacohbfgcokaaDoorRows
import GoSem.ClaimSeven
namespace Go.Proofs.YtlkacohbfgcokaaDoor
namespace Rows

/-- THE TIED CARD OF 'laws.FnPassData'. -/
def fnPassDataCard : Claim7 := { stood := { row := fnPassDataRow, standIns := [], harness := (true, "91eeb512b3798397c4765cb37357a83d4492f090f394b82a4441624c1fc28164"), looks := false }, kinds := [], alts := [], laidByText := true, laidKinds := [.wider], laidTests := true, laidLooks := .later }
def FnPassDataCardSaid : Prop := Claim7.holds Tryd.pinned (.plain (OpenSpec.ofChange fnPassDataSpec)) fnPassDataCard

/-- THE TIED CARD OF 'laws.FnJoinPasses'. -/
def fnJoinPassesCard : Claim7 := { stood := { row := fnJoinPassesRow, standIns := [], harness := (true, "91eeb512b3798397c4765cb37357a83d4492f090f394b82a4441624c1fc28164"), looks := false }, kinds := [], alts := [], laidByText := true, laidKinds := [.wider], laidTests := true, laidLooks := .later }
def FnJoinPassesCardSaid : Prop := Claim7.holds Tryd.pinned (.plain (OpenSpec.ofChange fnJoinPassesSpec)) fnJoinPassesCard

/-- THE TIED CARD OF 'laws.FnPassRoundTrip'. -/
def fnPassRoundTripCard : Claim7 := { stood := { row := fnPassRoundTripRow, standIns := [], harness := (true, "91eeb512b3798397c4765cb37357a83d4492f090f394b82a4441624c1fc28164"), looks := false }, kinds := [], alts := [], laidByText := true, laidKinds := [.wider], laidTests := true, laidLooks := .later }
def FnPassRoundTripCardSaid : Prop := Claim7.holds Tryd.pinned (.plain (OpenSpec.ofChange fnPassRoundTripSpec)) fnPassRoundTripCard

/-- THE TIED CARD OF 'laws.FnExactPassData'. -/
def fnExactPassDataCard : Claim7 := { stood := { row := fnExactPassDataRow, standIns := [], harness := (true, "91eeb512b3798397c4765cb37357a83d4492f090f394b82a4441624c1fc28164"), looks := false }, kinds := [], alts := [], laidByText := true, laidKinds := [.wider], laidTests := true, laidLooks := .later }
def FnExactPassDataCardSaid : Prop := Claim7.holds Tryd.pinned (.plain (OpenSpec.ofChange fnExactPassDataSpec)) fnExactPassDataCard

/-- THE TIED CARD OF 'laws.FnExactJoinPasses'. -/
def fnExactJoinPassesCard : Claim7 := { stood := { row := fnExactJoinPassesRow, standIns := [], harness := (true, "91eeb512b3798397c4765cb37357a83d4492f090f394b82a4441624c1fc28164"), looks := false }, kinds := [], alts := [], laidByText := true, laidKinds := [.wider], laidTests := true, laidLooks := .later }
def FnExactJoinPassesCardSaid : Prop := Claim7.holds Tryd.pinned (.plain (OpenSpec.ofChange fnExactJoinPassesSpec)) fnExactJoinPassesCard

/-- THE SECOND FORM's CARD OF 'laws.FnPassData'. -/
def fnPassDataUptoCard : Claim7 := { stood := { row := fnPassDataUptoRow, standIns := [], harness := (true, "91eeb512b3798397c4765cb37357a83d4492f090f394b82a4441624c1fc28164"), looks := false }, kinds := [], alts := [], laidByText := true, laidKinds := [.wider], laidTests := true, laidLooks := .later }
def FnPassDataUptoCardSaid : Prop := Claim7.holds Tryd.pinned (.plain (OpenSpec.upto fnPassDataSpec)) fnPassDataUptoCard

/-- THE SECOND FORM's CARD OF 'laws.FnJoinPasses'. -/
def fnJoinPassesUptoCard : Claim7 := { stood := { row := fnJoinPassesUptoRow, standIns := [], harness := (true, "91eeb512b3798397c4765cb37357a83d4492f090f394b82a4441624c1fc28164"), looks := false }, kinds := [], alts := [], laidByText := true, laidKinds := [.wider], laidTests := true, laidLooks := .later }
def FnJoinPassesUptoCardSaid : Prop := Claim7.holds Tryd.pinned (.plain (OpenSpec.upto fnJoinPassesSpec)) fnJoinPassesUptoCard

/-- THE SECOND FORM's CARD OF 'laws.FnPassRoundTrip'. -/
def fnPassRoundTripUptoCard : Claim7 := { stood := { row := fnPassRoundTripUptoRow, standIns := [], harness := (true, "91eeb512b3798397c4765cb37357a83d4492f090f394b82a4441624c1fc28164"), looks := false }, kinds := [], alts := [], laidByText := true, laidKinds := [.wider], laidTests := true, laidLooks := .later }
def FnPassRoundTripUptoCardSaid : Prop := Claim7.holds Tryd.pinned (.plain (OpenSpec.upto fnPassRoundTripSpec)) fnPassRoundTripUptoCard

/-- THE SECOND FORM's CARD OF 'laws.FnExactPassData'. -/
def fnExactPassDataUptoCard : Claim7 := { stood := { row := fnExactPassDataUptoRow, standIns := [], harness := (true, "91eeb512b3798397c4765cb37357a83d4492f090f394b82a4441624c1fc28164"), looks := false }, kinds := [], alts := [], laidByText := true, laidKinds := [.wider], laidTests := true, laidLooks := .later }
def FnExactPassDataUptoCardSaid : Prop := Claim7.holds Tryd.pinned (.plain (OpenSpec.upto fnExactPassDataSpec)) fnExactPassDataUptoCard

/-- THE SECOND FORM's CARD OF 'laws.FnExactJoinPasses'. -/
def fnExactJoinPassesUptoCard : Claim7 := { stood := { row := fnExactJoinPassesUptoRow, standIns := [], harness := (true, "91eeb512b3798397c4765cb37357a83d4492f090f394b82a4441624c1fc28164"), looks := false }, kinds := [], alts := [], laidByText := true, laidKinds := [.wider], laidTests := true, laidLooks := .later }
def FnExactJoinPassesUptoCardSaid : Prop := Claim7.holds Tryd.pinned (.plain (OpenSpec.upto fnExactJoinPassesSpec)) fnExactJoinPassesUptoCard
end Rows
end Go.Proofs.YtlkacohbfgcokaaDoor
