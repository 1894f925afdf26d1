/-
  DERIVED. GIVEN WITH THE SEED: THE CARDS: each row of YtohdieddocogkaaDoorRows.lean that lists a variable, with what it lists TIED to the program's text (the seventh form; the later family's looks); each row that meets fmt, with fmt's text TOLD by the authors' own Lean function (tested against real Go, not proved from fmt's source: count such statements apart). THE CARD IS WHAT COUNTS. Prove the row's statement (the work); the ties are given (YtohdieddocogkaaDoorTie.lean); close each card by the builder's one call (the guide's Derived/Test/ToyasCard.lean, 'card_holds'). Laid BY PROGRAM, IN A SANDBOX (cutbox-door.mjs). By AI agents, Wed Nov 11 2026. No macro, syntax, notation, axiom, sorry.
-/
import Derived.Test.YtohdieddocogkaaDoorRows
import GoSem.ClaimSeven
namespace Go.Proofs.YtohdieddocogkaaDoor
namespace Rows

/-- THE TIED CARD OF 'ashlarlaw07.PplCodes'. -/
def pplCodesCard : Claim7 := { stood := { row := pplCodesRow, standIns := [], harness := (true, "6ec3667551a75e2c78ed5331f8de1563c3147131e24a3f17a345a19758265d56"), looks := false }, kinds := [], alts := [], laidByText := true, laidKinds := [.data, .data, .data], laidTests := true, laidLooks := .later }
def PplCodesCardSaid : Prop := Claim7.holds Tryd.pinned (.plain (OpenSpec.ofChange pplCodesSpec)) pplCodesCard

/-- THE TIED CARD OF 'ashlarlaw07.PplBack'. -/
def pplBackCard : Claim7 := { stood := { row := pplBackRow, standIns := [], harness := (true, "6ec3667551a75e2c78ed5331f8de1563c3147131e24a3f17a345a19758265d56"), looks := false }, kinds := [], alts := [], laidByText := true, laidKinds := [.data, .data, .data], laidTests := true, laidLooks := .later }
def PplBackCardSaid : Prop := Claim7.holds Tryd.pinned (.plain (OpenSpec.ofChange pplBackSpec)) pplBackCard

/-- THE TIED CARD OF 'ashlarlaw07.PplTurned'. -/
def pplTurnedCard : Claim7 := { stood := { row := pplTurnedRow, standIns := [], harness := (true, "6ec3667551a75e2c78ed5331f8de1563c3147131e24a3f17a345a19758265d56"), looks := false }, kinds := [], alts := [], laidByText := true, laidKinds := [.data, .data, .data], laidTests := true, laidLooks := .later }
def PplTurnedCardSaid : Prop := Claim7.holds Tryd.pinned (.plain (OpenSpec.ofChange pplTurnedSpec)) pplTurnedCard

/-- THE TIED CARD OF 'ashlarlaw07.PplLogs'. -/
def pplLogsCard : Claim7 := { stood := { row := pplLogsRow, standIns := [], harness := (true, "6ec3667551a75e2c78ed5331f8de1563c3147131e24a3f17a345a19758265d56"), looks := false }, kinds := [], alts := [], laidByText := true, laidKinds := [.data, .data, .data], laidTests := true, laidLooks := .later }
def PplLogsCardSaid : Prop := Claim7.holds Tryd.pinned (.plain (OpenSpec.ofChange pplLogsSpec)) pplLogsCard

/-- THE TIED CARD OF 'ashlarlaw07.PplCrash'. -/
def pplCrashCard : Claim7 := { stood := { row := pplCrashRow, standIns := [], harness := (true, "6ec3667551a75e2c78ed5331f8de1563c3147131e24a3f17a345a19758265d56"), looks := false }, kinds := [], alts := [], laidByText := true, laidKinds := [.data, .data, .data], laidTests := true, laidLooks := .later }
def PplCrashCardSaid : Prop := Claim7.holds Tryd.pinned (.plain (OpenSpec.ofChange pplCrashSpec)) pplCrashCard

/-- THE TIED CARD OF 'ashlarlaw07.PplSure'. -/
def pplSureCard : Claim7 := { stood := { row := pplSureRow, standIns := [], harness := (true, "6ec3667551a75e2c78ed5331f8de1563c3147131e24a3f17a345a19758265d56"), looks := false }, kinds := [], alts := [], laidByText := true, laidKinds := [.data, .data, .data], laidTests := true, laidLooks := .later }
def PplSureCardSaid : Prop := Claim7.holds Tryd.pinned (.plain (OpenSpec.ofChange pplSureSpec)) pplSureCard

/-- THE TIED CARD OF 'ashlarlaw07.PplNobody'. -/
def pplNobodyCard : Claim7 := { stood := { row := pplNobodyRow, standIns := [], harness := (true, "6ec3667551a75e2c78ed5331f8de1563c3147131e24a3f17a345a19758265d56"), looks := false }, kinds := [], alts := [], laidByText := true, laidKinds := [.data, .data, .data], laidTests := true, laidLooks := .later }
def PplNobodyCardSaid : Prop := Claim7.holds Tryd.pinned (.plain (OpenSpec.ofChange pplNobodySpec)) pplNobodyCard

/-- THE SECOND FORM's CARD OF 'ashlarlaw07.PplCodes'. -/
def pplCodesUptoCard : Claim7 := { stood := { row := pplCodesUptoRow, standIns := [], harness := (true, "6ec3667551a75e2c78ed5331f8de1563c3147131e24a3f17a345a19758265d56"), looks := false }, kinds := [], alts := [], laidByText := true, laidKinds := [.data, .data, .data], laidTests := true, laidLooks := .later }
def PplCodesUptoCardSaid : Prop := Claim7.holds Tryd.pinned (.plain (OpenSpec.upto pplCodesSpec)) pplCodesUptoCard

/-- THE SECOND FORM's CARD OF 'ashlarlaw07.PplBack'. -/
def pplBackUptoCard : Claim7 := { stood := { row := pplBackUptoRow, standIns := [], harness := (true, "6ec3667551a75e2c78ed5331f8de1563c3147131e24a3f17a345a19758265d56"), looks := false }, kinds := [], alts := [], laidByText := true, laidKinds := [.data, .data, .data], laidTests := true, laidLooks := .later }
def PplBackUptoCardSaid : Prop := Claim7.holds Tryd.pinned (.plain (OpenSpec.upto pplBackSpec)) pplBackUptoCard

/-- THE SECOND FORM's CARD OF 'ashlarlaw07.PplTurned'. -/
def pplTurnedUptoCard : Claim7 := { stood := { row := pplTurnedUptoRow, standIns := [], harness := (true, "6ec3667551a75e2c78ed5331f8de1563c3147131e24a3f17a345a19758265d56"), looks := false }, kinds := [], alts := [], laidByText := true, laidKinds := [.data, .data, .data], laidTests := true, laidLooks := .later }
def PplTurnedUptoCardSaid : Prop := Claim7.holds Tryd.pinned (.plain (OpenSpec.upto pplTurnedSpec)) pplTurnedUptoCard

/-- THE SECOND FORM's CARD OF 'ashlarlaw07.PplLogs'. -/
def pplLogsUptoCard : Claim7 := { stood := { row := pplLogsUptoRow, standIns := [], harness := (true, "6ec3667551a75e2c78ed5331f8de1563c3147131e24a3f17a345a19758265d56"), looks := false }, kinds := [], alts := [], laidByText := true, laidKinds := [.data, .data, .data], laidTests := true, laidLooks := .later }
def PplLogsUptoCardSaid : Prop := Claim7.holds Tryd.pinned (.plain (OpenSpec.upto pplLogsSpec)) pplLogsUptoCard

/-- THE SECOND FORM's CARD OF 'ashlarlaw07.PplCrash'. -/
def pplCrashUptoCard : Claim7 := { stood := { row := pplCrashUptoRow, standIns := [], harness := (true, "6ec3667551a75e2c78ed5331f8de1563c3147131e24a3f17a345a19758265d56"), looks := false }, kinds := [], alts := [], laidByText := true, laidKinds := [.data, .data, .data], laidTests := true, laidLooks := .later }
def PplCrashUptoCardSaid : Prop := Claim7.holds Tryd.pinned (.plain (OpenSpec.upto pplCrashSpec)) pplCrashUptoCard

/-- THE SECOND FORM's CARD OF 'ashlarlaw07.PplSure'. -/
def pplSureUptoCard : Claim7 := { stood := { row := pplSureUptoRow, standIns := [], harness := (true, "6ec3667551a75e2c78ed5331f8de1563c3147131e24a3f17a345a19758265d56"), looks := false }, kinds := [], alts := [], laidByText := true, laidKinds := [.data, .data, .data], laidTests := true, laidLooks := .later }
def PplSureUptoCardSaid : Prop := Claim7.holds Tryd.pinned (.plain (OpenSpec.upto pplSureSpec)) pplSureUptoCard

/-- THE SECOND FORM's CARD OF 'ashlarlaw07.PplNobody'. -/
def pplNobodyUptoCard : Claim7 := { stood := { row := pplNobodyUptoRow, standIns := [], harness := (true, "6ec3667551a75e2c78ed5331f8de1563c3147131e24a3f17a345a19758265d56"), looks := false }, kinds := [], alts := [], laidByText := true, laidKinds := [.data, .data, .data], laidTests := true, laidLooks := .later }
def PplNobodyUptoCardSaid : Prop := Claim7.holds Tryd.pinned (.plain (OpenSpec.upto pplNobodySpec)) pplNobodyUptoCard
end Rows
end Go.Proofs.YtohdieddocogkaaDoor
