/-
  DERIVED. GIVEN WITH THE SEED: THE CARDS: each row of YthhldceidmphfaaGreatDoorRows.lean that lists a variable, with what it lists TIED to the program's text (the seventh form; the later family's looks); each row that meets fmt, with fmt's text TOLD by the authors' own Lean function (tested against real Go, not proved from fmt's source: count such statements apart). THE CARD IS WHAT COUNTS. Prove the row's statement (the work); the ties are given (YthhldceidmphfaaGreatDoorTie.lean); close each card by the builder's one call (the guide's Derived/Test/ToyasCard.lean, 'card_holds'). Laid BY PROGRAM, IN A SANDBOX (cutbox-door.mjs). By AI agents, Wed Nov 11 2026. No macro, syntax, notation, axiom, sorry.
-/
import Derived.Test.YthhldceidmphfaaGreatDoorRows
import GoSem.ClaimSeven
namespace Go.Proofs.YthhldceidmphfaaGreatDoor
namespace Rows

/-- THE TIED CARD OF 'ashlarlaw08.RaidReads'. -/
def raidReadsCard : Claim7 := { stood := { row := raidReadsRow, standIns := [], harness := (true, "c753007e9b8f6cc388596808a356bcbc608a958d6e8f0d68df53b7a59db4aaff"), looks := false }, kinds := [], alts := [], laidByText := true, laidKinds := [.data, .data, .data, .data, .data], laidTests := true, laidLooks := .later }
def RaidReadsCardSaid : Prop := Claim7.holds Tryz.pinned (.plain (OpenSpec.ofChange raidReadsSpec)) raidReadsCard

/-- THE TIED CARD OF 'ashlarlaw08.RaidCrash'. -/
def raidCrashCard : Claim7 := { stood := { row := raidCrashRow, standIns := [], harness := (true, "c753007e9b8f6cc388596808a356bcbc608a958d6e8f0d68df53b7a59db4aaff"), looks := false }, kinds := [], alts := [], laidByText := true, laidKinds := [.data, .data, .data, .data, .data], laidTests := true, laidLooks := .later }
def RaidCrashCardSaid : Prop := Claim7.holds Tryz.pinned (.plain (OpenSpec.ofChange raidCrashSpec)) raidCrashCard

/-- THE TIED CARD OF 'ashlarlaw08.RaidDead'. -/
def raidDeadCard : Claim7 := { stood := { row := raidDeadRow, standIns := [], harness := (true, "c753007e9b8f6cc388596808a356bcbc608a958d6e8f0d68df53b7a59db4aaff"), looks := false }, kinds := [], alts := [], laidByText := true, laidKinds := [.data, .data, .data, .data, .data], laidTests := true, laidLooks := .later }
def RaidDeadCardSaid : Prop := Claim7.holds Tryz.pinned (.plain (OpenSpec.ofChange raidDeadSpec)) raidDeadCard

/-- THE TIED CARD OF 'ashlarlaw08.RaidHole'. -/
def raidHoleCard : Claim7 := { stood := { row := raidHoleRow, standIns := [], harness := (true, "c753007e9b8f6cc388596808a356bcbc608a958d6e8f0d68df53b7a59db4aaff"), looks := false }, kinds := [], alts := [], laidByText := true, laidKinds := [.data, .data, .data, .data, .data], laidTests := true, laidLooks := .later }
def RaidHoleCardSaid : Prop := Claim7.holds Tryz.pinned (.plain (OpenSpec.ofChange raidHoleSpec)) raidHoleCard

/-- THE TIED CARD OF 'ashlarlaw08.RaidTurned'. -/
def raidTurnedCard : Claim7 := { stood := { row := raidTurnedRow, standIns := [], harness := (true, "c753007e9b8f6cc388596808a356bcbc608a958d6e8f0d68df53b7a59db4aaff"), looks := false }, kinds := [], alts := [], laidByText := true, laidKinds := [.data, .data, .data, .data, .data], laidTests := true, laidLooks := .later }
def RaidTurnedCardSaid : Prop := Claim7.holds Tryz.pinned (.plain (OpenSpec.ofChange raidTurnedSpec)) raidTurnedCard

/-- THE TIED CARD OF 'ashlarlaw08.RaidWhole'. -/
def raidWholeCard : Claim7 := { stood := { row := raidWholeRow, standIns := [], harness := (true, "c753007e9b8f6cc388596808a356bcbc608a958d6e8f0d68df53b7a59db4aaff"), looks := false }, kinds := [], alts := [], laidByText := true, laidKinds := [.data, .data, .data, .data, .data], laidTests := true, laidLooks := .later }
def RaidWholeCardSaid : Prop := Claim7.holds Tryz.pinned (.plain (OpenSpec.ofChange raidWholeSpec)) raidWholeCard

/-- THE TIED CARD OF 'ashlarlaw08.RaidMends'. -/
def raidMendsCard : Claim7 := { stood := { row := raidMendsRow, standIns := [], harness := (true, "c753007e9b8f6cc388596808a356bcbc608a958d6e8f0d68df53b7a59db4aaff"), looks := false }, kinds := [], alts := [], laidByText := true, laidKinds := [.data, .data, .data, .data, .data], laidTests := true, laidLooks := .later }
def RaidMendsCardSaid : Prop := Claim7.holds Tryz.pinned (.plain (OpenSpec.ofChange raidMendsSpec)) raidMendsCard

/-- THE TIED CARD OF 'ashlarlaw08.RaidBeyond'. -/
def raidBeyondCard : Claim7 := { stood := { row := raidBeyondRow, standIns := [], harness := (true, "c753007e9b8f6cc388596808a356bcbc608a958d6e8f0d68df53b7a59db4aaff"), looks := false }, kinds := [], alts := [], laidByText := true, laidKinds := [.data, .data, .data, .data], laidTests := true, laidLooks := .later }
def RaidBeyondCardSaid : Prop := Claim7.holds Tryz.pinned (.plain (OpenSpec.ofChange raidBeyondSpec)) raidBeyondCard

/-- THE TIED CARD OF 'ashlarlaw08.RaidForeign'. -/
def raidForeignCard : Claim7 := { stood := { row := raidForeignRow, standIns := [], harness := (true, "c753007e9b8f6cc388596808a356bcbc608a958d6e8f0d68df53b7a59db4aaff"), looks := false }, kinds := [], alts := [], laidByText := true, laidKinds := [.data, .data, .data, .data, .data], laidTests := true, laidLooks := .later }
def RaidForeignCardSaid : Prop := Claim7.holds Tryz.pinned (.plain (OpenSpec.ofChange raidForeignSpec)) raidForeignCard

/-- THE TIED CARD OF 'ashlarlaw08.RaidNobody'. -/
def raidNobodyCard : Claim7 := { stood := { row := raidNobodyRow, standIns := [], harness := (true, "c753007e9b8f6cc388596808a356bcbc608a958d6e8f0d68df53b7a59db4aaff"), looks := false }, kinds := [], alts := [], laidByText := true, laidKinds := [.data, .data, .data, .data, .data], laidTests := true, laidLooks := .later }
def RaidNobodyCardSaid : Prop := Claim7.holds Tryz.pinned (.plain (OpenSpec.ofChange raidNobodySpec)) raidNobodyCard

/-- THE SECOND FORM's CARD OF 'ashlarlaw08.RaidReads'. -/
def raidReadsUptoCard : Claim7 := { stood := { row := raidReadsUptoRow, standIns := [], harness := (true, "c753007e9b8f6cc388596808a356bcbc608a958d6e8f0d68df53b7a59db4aaff"), looks := false }, kinds := [], alts := [], laidByText := true, laidKinds := [.data, .data, .data, .data, .data], laidTests := true, laidLooks := .later }
def RaidReadsUptoCardSaid : Prop := Claim7.holds Tryz.pinned (.plain (OpenSpec.upto raidReadsSpec)) raidReadsUptoCard

/-- THE SECOND FORM's CARD OF 'ashlarlaw08.RaidCrash'. -/
def raidCrashUptoCard : Claim7 := { stood := { row := raidCrashUptoRow, standIns := [], harness := (true, "c753007e9b8f6cc388596808a356bcbc608a958d6e8f0d68df53b7a59db4aaff"), looks := false }, kinds := [], alts := [], laidByText := true, laidKinds := [.data, .data, .data, .data, .data], laidTests := true, laidLooks := .later }
def RaidCrashUptoCardSaid : Prop := Claim7.holds Tryz.pinned (.plain (OpenSpec.upto raidCrashSpec)) raidCrashUptoCard

/-- THE SECOND FORM's CARD OF 'ashlarlaw08.RaidDead'. -/
def raidDeadUptoCard : Claim7 := { stood := { row := raidDeadUptoRow, standIns := [], harness := (true, "c753007e9b8f6cc388596808a356bcbc608a958d6e8f0d68df53b7a59db4aaff"), looks := false }, kinds := [], alts := [], laidByText := true, laidKinds := [.data, .data, .data, .data, .data], laidTests := true, laidLooks := .later }
def RaidDeadUptoCardSaid : Prop := Claim7.holds Tryz.pinned (.plain (OpenSpec.upto raidDeadSpec)) raidDeadUptoCard

/-- THE SECOND FORM's CARD OF 'ashlarlaw08.RaidHole'. -/
def raidHoleUptoCard : Claim7 := { stood := { row := raidHoleUptoRow, standIns := [], harness := (true, "c753007e9b8f6cc388596808a356bcbc608a958d6e8f0d68df53b7a59db4aaff"), looks := false }, kinds := [], alts := [], laidByText := true, laidKinds := [.data, .data, .data, .data, .data], laidTests := true, laidLooks := .later }
def RaidHoleUptoCardSaid : Prop := Claim7.holds Tryz.pinned (.plain (OpenSpec.upto raidHoleSpec)) raidHoleUptoCard

/-- THE SECOND FORM's CARD OF 'ashlarlaw08.RaidTurned'. -/
def raidTurnedUptoCard : Claim7 := { stood := { row := raidTurnedUptoRow, standIns := [], harness := (true, "c753007e9b8f6cc388596808a356bcbc608a958d6e8f0d68df53b7a59db4aaff"), looks := false }, kinds := [], alts := [], laidByText := true, laidKinds := [.data, .data, .data, .data, .data], laidTests := true, laidLooks := .later }
def RaidTurnedUptoCardSaid : Prop := Claim7.holds Tryz.pinned (.plain (OpenSpec.upto raidTurnedSpec)) raidTurnedUptoCard

/-- THE SECOND FORM's CARD OF 'ashlarlaw08.RaidWhole'. -/
def raidWholeUptoCard : Claim7 := { stood := { row := raidWholeUptoRow, standIns := [], harness := (true, "c753007e9b8f6cc388596808a356bcbc608a958d6e8f0d68df53b7a59db4aaff"), looks := false }, kinds := [], alts := [], laidByText := true, laidKinds := [.data, .data, .data, .data, .data], laidTests := true, laidLooks := .later }
def RaidWholeUptoCardSaid : Prop := Claim7.holds Tryz.pinned (.plain (OpenSpec.upto raidWholeSpec)) raidWholeUptoCard

/-- THE SECOND FORM's CARD OF 'ashlarlaw08.RaidMends'. -/
def raidMendsUptoCard : Claim7 := { stood := { row := raidMendsUptoRow, standIns := [], harness := (true, "c753007e9b8f6cc388596808a356bcbc608a958d6e8f0d68df53b7a59db4aaff"), looks := false }, kinds := [], alts := [], laidByText := true, laidKinds := [.data, .data, .data, .data, .data], laidTests := true, laidLooks := .later }
def RaidMendsUptoCardSaid : Prop := Claim7.holds Tryz.pinned (.plain (OpenSpec.upto raidMendsSpec)) raidMendsUptoCard

/-- THE SECOND FORM's CARD OF 'ashlarlaw08.RaidBeyond'. -/
def raidBeyondUptoCard : Claim7 := { stood := { row := raidBeyondUptoRow, standIns := [], harness := (true, "c753007e9b8f6cc388596808a356bcbc608a958d6e8f0d68df53b7a59db4aaff"), looks := false }, kinds := [], alts := [], laidByText := true, laidKinds := [.data, .data, .data, .data], laidTests := true, laidLooks := .later }
def RaidBeyondUptoCardSaid : Prop := Claim7.holds Tryz.pinned (.plain (OpenSpec.upto raidBeyondSpec)) raidBeyondUptoCard

/-- THE SECOND FORM's CARD OF 'ashlarlaw08.RaidForeign'. -/
def raidForeignUptoCard : Claim7 := { stood := { row := raidForeignUptoRow, standIns := [], harness := (true, "c753007e9b8f6cc388596808a356bcbc608a958d6e8f0d68df53b7a59db4aaff"), looks := false }, kinds := [], alts := [], laidByText := true, laidKinds := [.data, .data, .data, .data, .data], laidTests := true, laidLooks := .later }
def RaidForeignUptoCardSaid : Prop := Claim7.holds Tryz.pinned (.plain (OpenSpec.upto raidForeignSpec)) raidForeignUptoCard

/-- THE SECOND FORM's CARD OF 'ashlarlaw08.RaidNobody'. -/
def raidNobodyUptoCard : Claim7 := { stood := { row := raidNobodyUptoRow, standIns := [], harness := (true, "c753007e9b8f6cc388596808a356bcbc608a958d6e8f0d68df53b7a59db4aaff"), looks := false }, kinds := [], alts := [], laidByText := true, laidKinds := [.data, .data, .data, .data, .data], laidTests := true, laidLooks := .later }
def RaidNobodyUptoCardSaid : Prop := Claim7.holds Tryz.pinned (.plain (OpenSpec.upto raidNobodySpec)) raidNobodyUptoCard
end Rows
end Go.Proofs.YthhldceidmphfaaGreatDoor
