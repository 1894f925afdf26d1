/-
  DERIVED. GIVEN WITH THE SEED: THE CARDS: each row of YtgebkmpmnjhceaaGreatDoorRows.lean that lists a variable, with what it lists TIED to the program's text (the seventh form; the later family's looks); each row that meets fmt, with fmt's text TOLD by the authors' own Lean function (tested against real Go, not proved from fmt's source: count such statements apart). THE CARD IS WHAT COUNTS. Prove the row's statement (the work); the ties are given (YtgebkmpmnjhceaaGreatDoorTie.lean); close each card by the builder's one call (the guide's Derived/Test/ToyasCard.lean, 'card_holds'). Laid BY PROGRAM, IN A SANDBOX (cutbox-door.mjs). By AI agents, Wed Nov 11 2026. No macro, syntax, notation, axiom, sorry.
-/
import Derived.Test.YtgebkmpmnjhceaaGreatDoorRows
import GoSem.ClaimSeven
namespace Go.Proofs.YtgebkmpmnjhceaaGreatDoor
namespace Rows

/-- THE TIED CARD OF 'ashlarlaw08.RaidTurned'. -/
def raidTurnedCard : Claim7 := { stood := { row := raidTurnedRow, standIns := [], harness := (true, "c5934b8f71a0c9faf7fa254b2010b2d5b11a7103a5ea0b1703733cddc19c55da"), looks := false }, kinds := [], alts := [], laidByText := true, laidKinds := [.data, .data, .data, .data, .data], laidTests := true, laidLooks := .later }
def RaidTurnedCardSaid : Prop := Claim7.holds Tryz.pinned (.plain (OpenSpec.ofChange raidTurnedSpec)) raidTurnedCard

/-- THE TIED CARD OF 'ashlarlaw08.RaidMends'. -/
def raidMendsCard : Claim7 := { stood := { row := raidMendsRow, standIns := [], harness := (true, "c5934b8f71a0c9faf7fa254b2010b2d5b11a7103a5ea0b1703733cddc19c55da"), looks := false }, kinds := [], alts := [], laidByText := true, laidKinds := [.data, .data, .data, .data, .data], laidTests := true, laidLooks := .later }
def RaidMendsCardSaid : Prop := Claim7.holds Tryz.pinned (.plain (OpenSpec.ofChange raidMendsSpec)) raidMendsCard

/-- THE TIED CARD OF 'ashlarlaw08.RaidBeyond'. -/
def raidBeyondCard : Claim7 := { stood := { row := raidBeyondRow, standIns := [], harness := (true, "c5934b8f71a0c9faf7fa254b2010b2d5b11a7103a5ea0b1703733cddc19c55da"), looks := false }, kinds := [], alts := [], laidByText := true, laidKinds := [.data, .data, .data, .data], laidTests := true, laidLooks := .later }
def RaidBeyondCardSaid : Prop := Claim7.holds Tryz.pinned (.plain (OpenSpec.ofChange raidBeyondSpec)) raidBeyondCard

/-- THE SECOND FORM's CARD OF 'ashlarlaw08.RaidTurned'. -/
def raidTurnedUptoCard : Claim7 := { stood := { row := raidTurnedUptoRow, standIns := [], harness := (true, "c5934b8f71a0c9faf7fa254b2010b2d5b11a7103a5ea0b1703733cddc19c55da"), looks := false }, kinds := [], alts := [], laidByText := true, laidKinds := [.data, .data, .data, .data, .data], laidTests := true, laidLooks := .later }
def RaidTurnedUptoCardSaid : Prop := Claim7.holds Tryz.pinned (.plain (OpenSpec.upto raidTurnedSpec)) raidTurnedUptoCard

/-- THE SECOND FORM's CARD OF 'ashlarlaw08.RaidMends'. -/
def raidMendsUptoCard : Claim7 := { stood := { row := raidMendsUptoRow, standIns := [], harness := (true, "c5934b8f71a0c9faf7fa254b2010b2d5b11a7103a5ea0b1703733cddc19c55da"), looks := false }, kinds := [], alts := [], laidByText := true, laidKinds := [.data, .data, .data, .data, .data], laidTests := true, laidLooks := .later }
def RaidMendsUptoCardSaid : Prop := Claim7.holds Tryz.pinned (.plain (OpenSpec.upto raidMendsSpec)) raidMendsUptoCard

/-- THE SECOND FORM's CARD OF 'ashlarlaw08.RaidBeyond'. -/
def raidBeyondUptoCard : Claim7 := { stood := { row := raidBeyondUptoRow, standIns := [], harness := (true, "c5934b8f71a0c9faf7fa254b2010b2d5b11a7103a5ea0b1703733cddc19c55da"), looks := false }, kinds := [], alts := [], laidByText := true, laidKinds := [.data, .data, .data, .data], laidTests := true, laidLooks := .later }
def RaidBeyondUptoCardSaid : Prop := Claim7.holds Tryz.pinned (.plain (OpenSpec.upto raidBeyondSpec)) raidBeyondUptoCard
end Rows
end Go.Proofs.YtgebkmpmnjhceaaGreatDoor
