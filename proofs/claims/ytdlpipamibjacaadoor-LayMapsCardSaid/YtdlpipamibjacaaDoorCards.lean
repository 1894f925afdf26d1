/-
  DERIVED. GIVEN WITH THE SEED: THE CARDS: each row of YtdlpipamibjacaaDoorRows.lean that lists a variable, with what it lists TIED to the program's text (the seventh form; the later family's looks); each row that meets fmt, with fmt's text TOLD by the authors' own Lean function (tested against real Go, not proved from fmt's source: count such statements apart). THE CARD IS WHAT COUNTS. Prove the row's statement (the work); the ties are given (YtdlpipamibjacaaDoorTie.lean); close each card by the builder's one call (the guide's Derived/Test/ToyasCard.lean, 'card_holds'). Laid BY PROGRAM, IN A SANDBOX (cutbox-door.mjs). By AI agents, Wed Nov 11 2026. No macro, syntax, notation, axiom, sorry.
-/
import Derived.Test.YtdlpipamibjacaaDoorRows
import GoSem.ClaimSeven
namespace Go.Proofs.YtdlpipamibjacaaDoor
namespace Rows

/-- THE TIED CARD OF 'ashlarlaw03.LayMaps'. -/
def layMapsCard : Claim7 := { stood := { row := layMapsRow, standIns := [], harness := (true, "27f39c5a06528c2aa895eeea4023ba0e27e3316f587259b5b3b9dffbb10eca2b"), looks := false }, kinds := [], alts := [], laidByText := true, laidKinds := [.data], laidTests := true, laidLooks := .later }
def LayMapsCardSaid : Prop := Claim7.holds Tryd.pinned (.plain (OpenSpec.ofChange layMapsSpec)) layMapsCard

/-- THE TIED CARD OF 'ashlarlaw03.LayBacks'. -/
def layBacksCard : Claim7 := { stood := { row := layBacksRow, standIns := [], harness := (true, "27f39c5a06528c2aa895eeea4023ba0e27e3316f587259b5b3b9dffbb10eca2b"), looks := false }, kinds := [], alts := [], laidByText := true, laidKinds := [.data], laidTests := true, laidLooks := .later }
def LayBacksCardSaid : Prop := Claim7.holds Tryd.pinned (.plain (OpenSpec.ofChange layBacksSpec)) layBacksCard

/-- THE TIED CARD OF 'ashlarlaw03.LaySizes'. -/
def laySizesCard : Claim7 := { stood := { row := laySizesRow, standIns := [], harness := (true, "27f39c5a06528c2aa895eeea4023ba0e27e3316f587259b5b3b9dffbb10eca2b"), looks := false }, kinds := [], alts := [], laidByText := true, laidKinds := [.data], laidTests := true, laidLooks := .later }
def LaySizesCardSaid : Prop := Claim7.holds Tryd.pinned (.plain (OpenSpec.ofChange laySizesSpec)) laySizesCard

/-- THE TIED CARD OF 'ashlarlaw03.LayThere'. -/
def layThereCard : Claim7 := { stood := { row := layThereRow, standIns := [], harness := (true, "27f39c5a06528c2aa895eeea4023ba0e27e3316f587259b5b3b9dffbb10eca2b"), looks := false }, kinds := [], alts := [], laidByText := true, laidKinds := [.data], laidTests := true, laidLooks := .later }
def LayThereCardSaid : Prop := Claim7.holds Tryd.pinned (.plain (OpenSpec.ofChange layThereSpec)) layThereCard

/-- THE TIED CARD OF 'ashlarlaw03.LayEach'. -/
def layEachCard : Claim7 := { stood := { row := layEachRow, standIns := [], harness := (true, "27f39c5a06528c2aa895eeea4023ba0e27e3316f587259b5b3b9dffbb10eca2b"), looks := false }, kinds := [], alts := [], laidByText := true, laidKinds := [.data], laidTests := true, laidLooks := .later }
def LayEachCardSaid : Prop := Claim7.holds Tryd.pinned (.plain (OpenSpec.ofChange layEachSpec)) layEachCard

/-- THE TIED CARD OF 'ashlarlaw03.LayTurns'. -/
def layTurnsCard : Claim7 := { stood := { row := layTurnsRow, standIns := [], harness := (true, "27f39c5a06528c2aa895eeea4023ba0e27e3316f587259b5b3b9dffbb10eca2b"), looks := false }, kinds := [], alts := [], laidByText := true, laidKinds := [.data], laidTests := true, laidLooks := .later }
def LayTurnsCardSaid : Prop := Claim7.holds Tryd.pinned (.plain (OpenSpec.ofChange layTurnsSpec)) layTurnsCard

/-- THE TIED CARD OF 'ashlarlaw03.LayNext'. -/
def layNextCard : Claim7 := { stood := { row := layNextRow, standIns := [], harness := (true, "27f39c5a06528c2aa895eeea4023ba0e27e3316f587259b5b3b9dffbb10eca2b"), looks := false }, kinds := [], alts := [], laidByText := true, laidKinds := [.data], laidTests := true, laidLooks := .later }
def LayNextCardSaid : Prop := Claim7.holds Tryd.pinned (.plain (OpenSpec.ofChange layNextSpec)) layNextCard

/-- THE TIED CARD OF 'ashlarlaw04.SuperCodes'. -/
def superCodesCard : Claim7 := { stood := { row := superCodesRow, standIns := [], harness := (true, "27f39c5a06528c2aa895eeea4023ba0e27e3316f587259b5b3b9dffbb10eca2b"), looks := false }, kinds := [], alts := [], laidByText := true, laidKinds := [.data, .data, .data], laidTests := true, laidLooks := .later }
def SuperCodesCardSaid : Prop := Claim7.holds Tryd.pinned (.plain (OpenSpec.ofChange superCodesSpec)) superCodesCard

/-- THE TIED CARD OF 'ashlarlaw04.SuperBack'. -/
def superBackCard : Claim7 := { stood := { row := superBackRow, standIns := [], harness := (true, "27f39c5a06528c2aa895eeea4023ba0e27e3316f587259b5b3b9dffbb10eca2b"), looks := false }, kinds := [], alts := [], laidByText := true, laidKinds := [.data, .data, .data], laidTests := true, laidLooks := .later }
def SuperBackCardSaid : Prop := Claim7.holds Tryd.pinned (.plain (OpenSpec.ofChange superBackSpec)) superBackCard

/-- THE TIED CARD OF 'ashlarlaw04.SuperOnly'. -/
def superOnlyCard : Claim7 := { stood := { row := superOnlyRow, standIns := [], harness := (true, "27f39c5a06528c2aa895eeea4023ba0e27e3316f587259b5b3b9dffbb10eca2b"), looks := false }, kinds := [], alts := [], laidByText := true, laidKinds := [.data, .data, .data], laidTests := true, laidLooks := .later }
def SuperOnlyCardSaid : Prop := Claim7.holds Tryd.pinned (.plain (OpenSpec.ofChange superOnlySpec)) superOnlyCard

/-- THE TIED CARD OF 'ashlarlaw04.SuperTurned'. -/
def superTurnedCard : Claim7 := { stood := { row := superTurnedRow, standIns := [], harness := (true, "27f39c5a06528c2aa895eeea4023ba0e27e3316f587259b5b3b9dffbb10eca2b"), looks := false }, kinds := [], alts := [], laidByText := true, laidKinds := [.data, .data, .data], laidTests := true, laidLooks := .later }
def SuperTurnedCardSaid : Prop := Claim7.holds Tryd.pinned (.plain (OpenSpec.ofChange superTurnedSpec)) superTurnedCard

/-- THE TIED CARD OF 'ashlarlaw04.SuperNewest'. -/
def superNewestCard : Claim7 := { stood := { row := superNewestRow, standIns := [], harness := (true, "27f39c5a06528c2aa895eeea4023ba0e27e3316f587259b5b3b9dffbb10eca2b"), looks := false }, kinds := [], alts := [], laidByText := true, laidKinds := [.data, .data, .data], laidTests := true, laidLooks := .later }
def SuperNewestCardSaid : Prop := Claim7.holds Tryd.pinned (.plain (OpenSpec.ofChange superNewestSpec)) superNewestCard

/-- THE SECOND FORM's CARD OF 'ashlarlaw03.LayMaps'. -/
def layMapsUptoCard : Claim7 := { stood := { row := layMapsUptoRow, standIns := [], harness := (true, "27f39c5a06528c2aa895eeea4023ba0e27e3316f587259b5b3b9dffbb10eca2b"), looks := false }, kinds := [], alts := [], laidByText := true, laidKinds := [.data], laidTests := true, laidLooks := .later }
def LayMapsUptoCardSaid : Prop := Claim7.holds Tryd.pinned (.plain (OpenSpec.upto layMapsSpec)) layMapsUptoCard

/-- THE SECOND FORM's CARD OF 'ashlarlaw03.LayBacks'. -/
def layBacksUptoCard : Claim7 := { stood := { row := layBacksUptoRow, standIns := [], harness := (true, "27f39c5a06528c2aa895eeea4023ba0e27e3316f587259b5b3b9dffbb10eca2b"), looks := false }, kinds := [], alts := [], laidByText := true, laidKinds := [.data], laidTests := true, laidLooks := .later }
def LayBacksUptoCardSaid : Prop := Claim7.holds Tryd.pinned (.plain (OpenSpec.upto layBacksSpec)) layBacksUptoCard

/-- THE SECOND FORM's CARD OF 'ashlarlaw03.LaySizes'. -/
def laySizesUptoCard : Claim7 := { stood := { row := laySizesUptoRow, standIns := [], harness := (true, "27f39c5a06528c2aa895eeea4023ba0e27e3316f587259b5b3b9dffbb10eca2b"), looks := false }, kinds := [], alts := [], laidByText := true, laidKinds := [.data], laidTests := true, laidLooks := .later }
def LaySizesUptoCardSaid : Prop := Claim7.holds Tryd.pinned (.plain (OpenSpec.upto laySizesSpec)) laySizesUptoCard

/-- THE SECOND FORM's CARD OF 'ashlarlaw03.LayThere'. -/
def layThereUptoCard : Claim7 := { stood := { row := layThereUptoRow, standIns := [], harness := (true, "27f39c5a06528c2aa895eeea4023ba0e27e3316f587259b5b3b9dffbb10eca2b"), looks := false }, kinds := [], alts := [], laidByText := true, laidKinds := [.data], laidTests := true, laidLooks := .later }
def LayThereUptoCardSaid : Prop := Claim7.holds Tryd.pinned (.plain (OpenSpec.upto layThereSpec)) layThereUptoCard

/-- THE SECOND FORM's CARD OF 'ashlarlaw03.LayEach'. -/
def layEachUptoCard : Claim7 := { stood := { row := layEachUptoRow, standIns := [], harness := (true, "27f39c5a06528c2aa895eeea4023ba0e27e3316f587259b5b3b9dffbb10eca2b"), looks := false }, kinds := [], alts := [], laidByText := true, laidKinds := [.data], laidTests := true, laidLooks := .later }
def LayEachUptoCardSaid : Prop := Claim7.holds Tryd.pinned (.plain (OpenSpec.upto layEachSpec)) layEachUptoCard

/-- THE SECOND FORM's CARD OF 'ashlarlaw03.LayTurns'. -/
def layTurnsUptoCard : Claim7 := { stood := { row := layTurnsUptoRow, standIns := [], harness := (true, "27f39c5a06528c2aa895eeea4023ba0e27e3316f587259b5b3b9dffbb10eca2b"), looks := false }, kinds := [], alts := [], laidByText := true, laidKinds := [.data], laidTests := true, laidLooks := .later }
def LayTurnsUptoCardSaid : Prop := Claim7.holds Tryd.pinned (.plain (OpenSpec.upto layTurnsSpec)) layTurnsUptoCard

/-- THE SECOND FORM's CARD OF 'ashlarlaw03.LayNext'. -/
def layNextUptoCard : Claim7 := { stood := { row := layNextUptoRow, standIns := [], harness := (true, "27f39c5a06528c2aa895eeea4023ba0e27e3316f587259b5b3b9dffbb10eca2b"), looks := false }, kinds := [], alts := [], laidByText := true, laidKinds := [.data], laidTests := true, laidLooks := .later }
def LayNextUptoCardSaid : Prop := Claim7.holds Tryd.pinned (.plain (OpenSpec.upto layNextSpec)) layNextUptoCard

/-- THE SECOND FORM's CARD OF 'ashlarlaw04.SuperCodes'. -/
def superCodesUptoCard : Claim7 := { stood := { row := superCodesUptoRow, standIns := [], harness := (true, "27f39c5a06528c2aa895eeea4023ba0e27e3316f587259b5b3b9dffbb10eca2b"), looks := false }, kinds := [], alts := [], laidByText := true, laidKinds := [.data, .data, .data], laidTests := true, laidLooks := .later }
def SuperCodesUptoCardSaid : Prop := Claim7.holds Tryd.pinned (.plain (OpenSpec.upto superCodesSpec)) superCodesUptoCard

/-- THE SECOND FORM's CARD OF 'ashlarlaw04.SuperBack'. -/
def superBackUptoCard : Claim7 := { stood := { row := superBackUptoRow, standIns := [], harness := (true, "27f39c5a06528c2aa895eeea4023ba0e27e3316f587259b5b3b9dffbb10eca2b"), looks := false }, kinds := [], alts := [], laidByText := true, laidKinds := [.data, .data, .data], laidTests := true, laidLooks := .later }
def SuperBackUptoCardSaid : Prop := Claim7.holds Tryd.pinned (.plain (OpenSpec.upto superBackSpec)) superBackUptoCard

/-- THE SECOND FORM's CARD OF 'ashlarlaw04.SuperOnly'. -/
def superOnlyUptoCard : Claim7 := { stood := { row := superOnlyUptoRow, standIns := [], harness := (true, "27f39c5a06528c2aa895eeea4023ba0e27e3316f587259b5b3b9dffbb10eca2b"), looks := false }, kinds := [], alts := [], laidByText := true, laidKinds := [.data, .data, .data], laidTests := true, laidLooks := .later }
def SuperOnlyUptoCardSaid : Prop := Claim7.holds Tryd.pinned (.plain (OpenSpec.upto superOnlySpec)) superOnlyUptoCard

/-- THE SECOND FORM's CARD OF 'ashlarlaw04.SuperTurned'. -/
def superTurnedUptoCard : Claim7 := { stood := { row := superTurnedUptoRow, standIns := [], harness := (true, "27f39c5a06528c2aa895eeea4023ba0e27e3316f587259b5b3b9dffbb10eca2b"), looks := false }, kinds := [], alts := [], laidByText := true, laidKinds := [.data, .data, .data], laidTests := true, laidLooks := .later }
def SuperTurnedUptoCardSaid : Prop := Claim7.holds Tryd.pinned (.plain (OpenSpec.upto superTurnedSpec)) superTurnedUptoCard

/-- THE SECOND FORM's CARD OF 'ashlarlaw04.SuperNewest'. -/
def superNewestUptoCard : Claim7 := { stood := { row := superNewestUptoRow, standIns := [], harness := (true, "27f39c5a06528c2aa895eeea4023ba0e27e3316f587259b5b3b9dffbb10eca2b"), looks := false }, kinds := [], alts := [], laidByText := true, laidKinds := [.data, .data, .data], laidTests := true, laidLooks := .later }
def SuperNewestUptoCardSaid : Prop := Claim7.holds Tryd.pinned (.plain (OpenSpec.upto superNewestSpec)) superNewestUptoCard
end Rows
end Go.Proofs.YtdlpipamibjacaaDoor
