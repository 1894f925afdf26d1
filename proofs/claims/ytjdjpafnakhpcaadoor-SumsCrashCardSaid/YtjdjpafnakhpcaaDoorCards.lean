/-
  DERIVED. GIVEN WITH THE SEED: THE CARDS: each row of YtjdjpafnakhpcaaDoorRows.lean that lists a variable, with what it lists TIED to the program's text (the seventh form; the later family's looks); each row that meets fmt, with fmt's text TOLD by the authors' own Lean function (tested against real Go, not proved from fmt's source: count such statements apart). THE CARD IS WHAT COUNTS. Prove the row's statement (the work); the ties are given (YtjdjpafnakhpcaaDoorTie.lean); close each card by the builder's one call (the guide's Derived/Test/ToyasCard.lean, 'card_holds'). Laid BY PROGRAM, IN A SANDBOX (cutbox-door.mjs). By AI agents, Wed Nov 11 2026. No macro, syntax, notation, axiom, sorry.
-/
import Derived.Test.YtjdjpafnakhpcaaDoorRows
import GoSem.ClaimSeven
namespace Go.Proofs.YtjdjpafnakhpcaaDoor
namespace Rows

/-- THE TIED CARD OF 'ashlarlaw06.SumsPlaces'. -/
def sumsPlacesCard : Claim7 := { stood := { row := sumsPlacesRow, standIns := [], harness := (true, "e1c924c0a6984fb8dd2a93f3584842dda51c4978159a4ec4d5dbabc61ba4147d"), looks := false }, kinds := [], alts := [], laidByText := true, laidKinds := [.data, .data], laidTests := true, laidLooks := .later }
def SumsPlacesCardSaid : Prop := Claim7.holds Tryd.pinned (.plain (OpenSpec.ofChange sumsPlacesSpec)) sumsPlacesCard

/-- THE TIED CARD OF 'ashlarlaw06.SumsApart'. -/
def sumsApartCard : Claim7 := { stood := { row := sumsApartRow, standIns := [], harness := (true, "e1c924c0a6984fb8dd2a93f3584842dda51c4978159a4ec4d5dbabc61ba4147d"), looks := false }, kinds := [], alts := [], laidByText := true, laidKinds := [.data, .data], laidTests := true, laidLooks := .later }
def SumsApartCardSaid : Prop := Claim7.holds Tryd.pinned (.plain (OpenSpec.ofChange sumsApartSpec)) sumsApartCard

/-- THE TIED CARD OF 'ashlarlaw06.SumsSum'. -/
def sumsSumCard : Claim7 := { stood := { row := sumsSumRow, standIns := [], harness := (true, "e1c924c0a6984fb8dd2a93f3584842dda51c4978159a4ec4d5dbabc61ba4147d"), looks := false }, kinds := [], alts := [], laidByText := true, laidKinds := [.data, .data], laidTests := true, laidLooks := .later }
def SumsSumCardSaid : Prop := Claim7.holds Tryd.pinned (.plain (OpenSpec.ofChange sumsSumSpec)) sumsSumCard

/-- THE TIED CARD OF 'ashlarlaw06.SumsCrash'. -/
def sumsCrashCard : Claim7 := { stood := { row := sumsCrashRow, standIns := [], harness := (true, "e1c924c0a6984fb8dd2a93f3584842dda51c4978159a4ec4d5dbabc61ba4147d"), looks := false }, kinds := [], alts := [], laidByText := true, laidKinds := [.data, .data], laidTests := true, laidLooks := .later }
def SumsCrashCardSaid : Prop := Claim7.holds Tryd.pinned (.plain (OpenSpec.ofChange sumsCrashSpec)) sumsCrashCard

/-- THE TIED CARD OF 'ashlarlaw06.SumsTurned'. -/
def sumsTurnedCard : Claim7 := { stood := { row := sumsTurnedRow, standIns := [], harness := (true, "e1c924c0a6984fb8dd2a93f3584842dda51c4978159a4ec4d5dbabc61ba4147d"), looks := false }, kinds := [], alts := [], laidByText := true, laidKinds := [.data, .data], laidTests := true, laidLooks := .later }
def SumsTurnedCardSaid : Prop := Claim7.holds Tryd.pinned (.plain (OpenSpec.ofChange sumsTurnedSpec)) sumsTurnedCard

/-- THE TIED CARD OF 'ashlarlaw06.SumsMoved'. -/
def sumsMovedCard : Claim7 := { stood := { row := sumsMovedRow, standIns := [], harness := (true, "e1c924c0a6984fb8dd2a93f3584842dda51c4978159a4ec4d5dbabc61ba4147d"), looks := false }, kinds := [], alts := [], laidByText := true, laidKinds := [.data, .data], laidTests := true, laidLooks := .later }
def SumsMovedCardSaid : Prop := Claim7.holds Tryd.pinned (.plain (OpenSpec.ofChange sumsMovedSpec)) sumsMovedCard

/-- THE TIED CARD OF 'ashlarlaw06.SumsMend'. -/
def sumsMendCard : Claim7 := { stood := { row := sumsMendRow, standIns := [], harness := (true, "e1c924c0a6984fb8dd2a93f3584842dda51c4978159a4ec4d5dbabc61ba4147d"), looks := false }, kinds := [], alts := [], laidByText := true, laidKinds := [.data, .data], laidTests := true, laidLooks := .later }
def SumsMendCardSaid : Prop := Claim7.holds Tryd.pinned (.plain (OpenSpec.ofChange sumsMendSpec)) sumsMendCard

/-- THE TIED CARD OF 'ashlarlaw06.SumsNobody'. -/
def sumsNobodyCard : Claim7 := { stood := { row := sumsNobodyRow, standIns := [], harness := (true, "e1c924c0a6984fb8dd2a93f3584842dda51c4978159a4ec4d5dbabc61ba4147d"), looks := false }, kinds := [], alts := [], laidByText := true, laidKinds := [.data, .data], laidTests := true, laidLooks := .later }
def SumsNobodyCardSaid : Prop := Claim7.holds Tryd.pinned (.plain (OpenSpec.ofChange sumsNobodySpec)) sumsNobodyCard

/-- THE TIED CARD OF 'ashlarlaw07.PplCodes'. -/
def pplCodesCard : Claim7 := { stood := { row := pplCodesRow, standIns := [], harness := (true, "e1c924c0a6984fb8dd2a93f3584842dda51c4978159a4ec4d5dbabc61ba4147d"), looks := false }, kinds := [], alts := [], laidByText := true, laidKinds := [.data, .data, .data], laidTests := true, laidLooks := .later }
def PplCodesCardSaid : Prop := Claim7.holds Tryd.pinned (.plain (OpenSpec.ofChange pplCodesSpec)) pplCodesCard

/-- THE TIED CARD OF 'ashlarlaw07.PplBack'. -/
def pplBackCard : Claim7 := { stood := { row := pplBackRow, standIns := [], harness := (true, "e1c924c0a6984fb8dd2a93f3584842dda51c4978159a4ec4d5dbabc61ba4147d"), looks := false }, kinds := [], alts := [], laidByText := true, laidKinds := [.data, .data, .data], laidTests := true, laidLooks := .later }
def PplBackCardSaid : Prop := Claim7.holds Tryd.pinned (.plain (OpenSpec.ofChange pplBackSpec)) pplBackCard

/-- THE TIED CARD OF 'ashlarlaw07.PplTurned'. -/
def pplTurnedCard : Claim7 := { stood := { row := pplTurnedRow, standIns := [], harness := (true, "e1c924c0a6984fb8dd2a93f3584842dda51c4978159a4ec4d5dbabc61ba4147d"), looks := false }, kinds := [], alts := [], laidByText := true, laidKinds := [.data, .data, .data], laidTests := true, laidLooks := .later }
def PplTurnedCardSaid : Prop := Claim7.holds Tryd.pinned (.plain (OpenSpec.ofChange pplTurnedSpec)) pplTurnedCard

/-- THE TIED CARD OF 'ashlarlaw07.PplLogs'. -/
def pplLogsCard : Claim7 := { stood := { row := pplLogsRow, standIns := [], harness := (true, "e1c924c0a6984fb8dd2a93f3584842dda51c4978159a4ec4d5dbabc61ba4147d"), looks := false }, kinds := [], alts := [], laidByText := true, laidKinds := [.data, .data, .data], laidTests := true, laidLooks := .later }
def PplLogsCardSaid : Prop := Claim7.holds Tryd.pinned (.plain (OpenSpec.ofChange pplLogsSpec)) pplLogsCard

/-- THE TIED CARD OF 'ashlarlaw07.PplCrash'. -/
def pplCrashCard : Claim7 := { stood := { row := pplCrashRow, standIns := [], harness := (true, "e1c924c0a6984fb8dd2a93f3584842dda51c4978159a4ec4d5dbabc61ba4147d"), looks := false }, kinds := [], alts := [], laidByText := true, laidKinds := [.data, .data, .data], laidTests := true, laidLooks := .later }
def PplCrashCardSaid : Prop := Claim7.holds Tryd.pinned (.plain (OpenSpec.ofChange pplCrashSpec)) pplCrashCard

/-- THE TIED CARD OF 'ashlarlaw07.PplSure'. -/
def pplSureCard : Claim7 := { stood := { row := pplSureRow, standIns := [], harness := (true, "e1c924c0a6984fb8dd2a93f3584842dda51c4978159a4ec4d5dbabc61ba4147d"), looks := false }, kinds := [], alts := [], laidByText := true, laidKinds := [.data, .data, .data], laidTests := true, laidLooks := .later }
def PplSureCardSaid : Prop := Claim7.holds Tryd.pinned (.plain (OpenSpec.ofChange pplSureSpec)) pplSureCard

/-- THE TIED CARD OF 'ashlarlaw07.PplNobody'. -/
def pplNobodyCard : Claim7 := { stood := { row := pplNobodyRow, standIns := [], harness := (true, "e1c924c0a6984fb8dd2a93f3584842dda51c4978159a4ec4d5dbabc61ba4147d"), looks := false }, kinds := [], alts := [], laidByText := true, laidKinds := [.data, .data, .data], laidTests := true, laidLooks := .later }
def PplNobodyCardSaid : Prop := Claim7.holds Tryd.pinned (.plain (OpenSpec.ofChange pplNobodySpec)) pplNobodyCard

/-- THE SECOND FORM's CARD OF 'ashlarlaw06.SumsPlaces'. -/
def sumsPlacesUptoCard : Claim7 := { stood := { row := sumsPlacesUptoRow, standIns := [], harness := (true, "e1c924c0a6984fb8dd2a93f3584842dda51c4978159a4ec4d5dbabc61ba4147d"), looks := false }, kinds := [], alts := [], laidByText := true, laidKinds := [.data, .data], laidTests := true, laidLooks := .later }
def SumsPlacesUptoCardSaid : Prop := Claim7.holds Tryd.pinned (.plain (OpenSpec.upto sumsPlacesSpec)) sumsPlacesUptoCard

/-- THE SECOND FORM's CARD OF 'ashlarlaw06.SumsApart'. -/
def sumsApartUptoCard : Claim7 := { stood := { row := sumsApartUptoRow, standIns := [], harness := (true, "e1c924c0a6984fb8dd2a93f3584842dda51c4978159a4ec4d5dbabc61ba4147d"), looks := false }, kinds := [], alts := [], laidByText := true, laidKinds := [.data, .data], laidTests := true, laidLooks := .later }
def SumsApartUptoCardSaid : Prop := Claim7.holds Tryd.pinned (.plain (OpenSpec.upto sumsApartSpec)) sumsApartUptoCard

/-- THE SECOND FORM's CARD OF 'ashlarlaw06.SumsSum'. -/
def sumsSumUptoCard : Claim7 := { stood := { row := sumsSumUptoRow, standIns := [], harness := (true, "e1c924c0a6984fb8dd2a93f3584842dda51c4978159a4ec4d5dbabc61ba4147d"), looks := false }, kinds := [], alts := [], laidByText := true, laidKinds := [.data, .data], laidTests := true, laidLooks := .later }
def SumsSumUptoCardSaid : Prop := Claim7.holds Tryd.pinned (.plain (OpenSpec.upto sumsSumSpec)) sumsSumUptoCard

/-- THE SECOND FORM's CARD OF 'ashlarlaw06.SumsCrash'. -/
def sumsCrashUptoCard : Claim7 := { stood := { row := sumsCrashUptoRow, standIns := [], harness := (true, "e1c924c0a6984fb8dd2a93f3584842dda51c4978159a4ec4d5dbabc61ba4147d"), looks := false }, kinds := [], alts := [], laidByText := true, laidKinds := [.data, .data], laidTests := true, laidLooks := .later }
def SumsCrashUptoCardSaid : Prop := Claim7.holds Tryd.pinned (.plain (OpenSpec.upto sumsCrashSpec)) sumsCrashUptoCard

/-- THE SECOND FORM's CARD OF 'ashlarlaw06.SumsTurned'. -/
def sumsTurnedUptoCard : Claim7 := { stood := { row := sumsTurnedUptoRow, standIns := [], harness := (true, "e1c924c0a6984fb8dd2a93f3584842dda51c4978159a4ec4d5dbabc61ba4147d"), looks := false }, kinds := [], alts := [], laidByText := true, laidKinds := [.data, .data], laidTests := true, laidLooks := .later }
def SumsTurnedUptoCardSaid : Prop := Claim7.holds Tryd.pinned (.plain (OpenSpec.upto sumsTurnedSpec)) sumsTurnedUptoCard

/-- THE SECOND FORM's CARD OF 'ashlarlaw06.SumsMoved'. -/
def sumsMovedUptoCard : Claim7 := { stood := { row := sumsMovedUptoRow, standIns := [], harness := (true, "e1c924c0a6984fb8dd2a93f3584842dda51c4978159a4ec4d5dbabc61ba4147d"), looks := false }, kinds := [], alts := [], laidByText := true, laidKinds := [.data, .data], laidTests := true, laidLooks := .later }
def SumsMovedUptoCardSaid : Prop := Claim7.holds Tryd.pinned (.plain (OpenSpec.upto sumsMovedSpec)) sumsMovedUptoCard

/-- THE SECOND FORM's CARD OF 'ashlarlaw06.SumsMend'. -/
def sumsMendUptoCard : Claim7 := { stood := { row := sumsMendUptoRow, standIns := [], harness := (true, "e1c924c0a6984fb8dd2a93f3584842dda51c4978159a4ec4d5dbabc61ba4147d"), looks := false }, kinds := [], alts := [], laidByText := true, laidKinds := [.data, .data], laidTests := true, laidLooks := .later }
def SumsMendUptoCardSaid : Prop := Claim7.holds Tryd.pinned (.plain (OpenSpec.upto sumsMendSpec)) sumsMendUptoCard

/-- THE SECOND FORM's CARD OF 'ashlarlaw06.SumsNobody'. -/
def sumsNobodyUptoCard : Claim7 := { stood := { row := sumsNobodyUptoRow, standIns := [], harness := (true, "e1c924c0a6984fb8dd2a93f3584842dda51c4978159a4ec4d5dbabc61ba4147d"), looks := false }, kinds := [], alts := [], laidByText := true, laidKinds := [.data, .data], laidTests := true, laidLooks := .later }
def SumsNobodyUptoCardSaid : Prop := Claim7.holds Tryd.pinned (.plain (OpenSpec.upto sumsNobodySpec)) sumsNobodyUptoCard

/-- THE SECOND FORM's CARD OF 'ashlarlaw07.PplCodes'. -/
def pplCodesUptoCard : Claim7 := { stood := { row := pplCodesUptoRow, standIns := [], harness := (true, "e1c924c0a6984fb8dd2a93f3584842dda51c4978159a4ec4d5dbabc61ba4147d"), looks := false }, kinds := [], alts := [], laidByText := true, laidKinds := [.data, .data, .data], laidTests := true, laidLooks := .later }
def PplCodesUptoCardSaid : Prop := Claim7.holds Tryd.pinned (.plain (OpenSpec.upto pplCodesSpec)) pplCodesUptoCard

/-- THE SECOND FORM's CARD OF 'ashlarlaw07.PplBack'. -/
def pplBackUptoCard : Claim7 := { stood := { row := pplBackUptoRow, standIns := [], harness := (true, "e1c924c0a6984fb8dd2a93f3584842dda51c4978159a4ec4d5dbabc61ba4147d"), looks := false }, kinds := [], alts := [], laidByText := true, laidKinds := [.data, .data, .data], laidTests := true, laidLooks := .later }
def PplBackUptoCardSaid : Prop := Claim7.holds Tryd.pinned (.plain (OpenSpec.upto pplBackSpec)) pplBackUptoCard

/-- THE SECOND FORM's CARD OF 'ashlarlaw07.PplTurned'. -/
def pplTurnedUptoCard : Claim7 := { stood := { row := pplTurnedUptoRow, standIns := [], harness := (true, "e1c924c0a6984fb8dd2a93f3584842dda51c4978159a4ec4d5dbabc61ba4147d"), looks := false }, kinds := [], alts := [], laidByText := true, laidKinds := [.data, .data, .data], laidTests := true, laidLooks := .later }
def PplTurnedUptoCardSaid : Prop := Claim7.holds Tryd.pinned (.plain (OpenSpec.upto pplTurnedSpec)) pplTurnedUptoCard

/-- THE SECOND FORM's CARD OF 'ashlarlaw07.PplLogs'. -/
def pplLogsUptoCard : Claim7 := { stood := { row := pplLogsUptoRow, standIns := [], harness := (true, "e1c924c0a6984fb8dd2a93f3584842dda51c4978159a4ec4d5dbabc61ba4147d"), looks := false }, kinds := [], alts := [], laidByText := true, laidKinds := [.data, .data, .data], laidTests := true, laidLooks := .later }
def PplLogsUptoCardSaid : Prop := Claim7.holds Tryd.pinned (.plain (OpenSpec.upto pplLogsSpec)) pplLogsUptoCard

/-- THE SECOND FORM's CARD OF 'ashlarlaw07.PplCrash'. -/
def pplCrashUptoCard : Claim7 := { stood := { row := pplCrashUptoRow, standIns := [], harness := (true, "e1c924c0a6984fb8dd2a93f3584842dda51c4978159a4ec4d5dbabc61ba4147d"), looks := false }, kinds := [], alts := [], laidByText := true, laidKinds := [.data, .data, .data], laidTests := true, laidLooks := .later }
def PplCrashUptoCardSaid : Prop := Claim7.holds Tryd.pinned (.plain (OpenSpec.upto pplCrashSpec)) pplCrashUptoCard

/-- THE SECOND FORM's CARD OF 'ashlarlaw07.PplSure'. -/
def pplSureUptoCard : Claim7 := { stood := { row := pplSureUptoRow, standIns := [], harness := (true, "e1c924c0a6984fb8dd2a93f3584842dda51c4978159a4ec4d5dbabc61ba4147d"), looks := false }, kinds := [], alts := [], laidByText := true, laidKinds := [.data, .data, .data], laidTests := true, laidLooks := .later }
def PplSureUptoCardSaid : Prop := Claim7.holds Tryd.pinned (.plain (OpenSpec.upto pplSureSpec)) pplSureUptoCard

/-- THE SECOND FORM's CARD OF 'ashlarlaw07.PplNobody'. -/
def pplNobodyUptoCard : Claim7 := { stood := { row := pplNobodyUptoRow, standIns := [], harness := (true, "e1c924c0a6984fb8dd2a93f3584842dda51c4978159a4ec4d5dbabc61ba4147d"), looks := false }, kinds := [], alts := [], laidByText := true, laidKinds := [.data, .data, .data], laidTests := true, laidLooks := .later }
def PplNobodyUptoCardSaid : Prop := Claim7.holds Tryd.pinned (.plain (OpenSpec.upto pplNobodySpec)) pplNobodyUptoCard
end Rows
end Go.Proofs.YtjdjpafnakhpcaaDoor
