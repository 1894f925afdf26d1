/-
  DERIVED. GIVEN WITH THE SEED: THE CARDS: each row of YtbagmmngepkaeaaDoorRows.lean that lists a variable, with what it lists TIED to the program's text (the seventh form; the later family's looks); each row that meets fmt, with fmt's text TOLD by the authors' own Lean function (tested against real Go, not proved from fmt's source: count such statements apart). THE CARD IS WHAT COUNTS. Prove the row's statement (the work); the ties are given (YtbagmmngepkaeaaDoorTie.lean); close each card by the builder's one call (the guide's Derived/Test/ToyasCard.lean, 'card_holds'). Laid BY PROGRAM, IN A SANDBOX (cutbox-door.mjs). By AI agents, Wed Nov 11 2026. No macro, syntax, notation, axiom, sorry.
-/
import Derived.Test.YtbagmmngepkaeaaDoorRows
import GoSem.ClaimSeven
namespace Go.Proofs.YtbagmmngepkaeaaDoor
namespace Rows

/-- THE TIED CARD OF 'ashlarlaw01.OctetsNumbers'. -/
def octetsNumbersCard : Claim7 := { stood := { row := octetsNumbersRow, standIns := [], harness := (true, "03b4f227a00f1bcf50208bcae1fda95ef53d0be81389ef100827b241c26cd1e9"), looks := false }, kinds := [], alts := [], laidByText := true, laidKinds := [.data, .data], laidTests := true, laidLooks := .later }
def OctetsNumbersCardSaid : Prop := Claim7.holds Tryd.pinned (.plain (OpenSpec.ofChange octetsNumbersSpec)) octetsNumbersCard

/-- THE TIED CARD OF 'ashlarlaw01.OctetsBack'. -/
def octetsBackCard : Claim7 := { stood := { row := octetsBackRow, standIns := [], harness := (true, "03b4f227a00f1bcf50208bcae1fda95ef53d0be81389ef100827b241c26cd1e9"), looks := false }, kinds := [], alts := [], laidByText := true, laidKinds := [.data, .data], laidTests := true, laidLooks := .later }
def OctetsBackCardSaid : Prop := Claim7.holds Tryd.pinned (.plain (OpenSpec.ofChange octetsBackSpec)) octetsBackCard

/-- THE TIED CARD OF 'ashlarlaw01.OctetsSums'. -/
def octetsSumsCard : Claim7 := { stood := { row := octetsSumsRow, standIns := [], harness := (true, "03b4f227a00f1bcf50208bcae1fda95ef53d0be81389ef100827b241c26cd1e9"), looks := false }, kinds := [], alts := [], laidByText := true, laidKinds := [.data, .data], laidTests := true, laidLooks := .later }
def OctetsSumsCardSaid : Prop := Claim7.holds Tryd.pinned (.plain (OpenSpec.ofChange octetsSumsSpec)) octetsSumsCard

/-- THE TIED CARD OF 'ashlarlaw01.OctetsJoins'. -/
def octetsJoinsCard : Claim7 := { stood := { row := octetsJoinsRow, standIns := [], harness := (true, "03b4f227a00f1bcf50208bcae1fda95ef53d0be81389ef100827b241c26cd1e9"), looks := false }, kinds := [], alts := [], laidByText := true, laidKinds := [.data, .data], laidTests := true, laidLooks := .later }
def OctetsJoinsCardSaid : Prop := Claim7.holds Tryd.pinned (.plain (OpenSpec.ofChange octetsJoinsSpec)) octetsJoinsCard

/-- THE TIED CARD OF 'ashlarlaw01.OctetsTurned'. -/
def octetsTurnedCard : Claim7 := { stood := { row := octetsTurnedRow, standIns := [], harness := (true, "03b4f227a00f1bcf50208bcae1fda95ef53d0be81389ef100827b241c26cd1e9"), looks := false }, kinds := [], alts := [], laidByText := true, laidKinds := [.data, .data], laidTests := true, laidLooks := .later }
def OctetsTurnedCardSaid : Prop := Claim7.holds Tryd.pinned (.plain (OpenSpec.ofChange octetsTurnedSpec)) octetsTurnedCard

/-- THE TIED CARD OF 'ashlarlaw01.OctetsXors'. -/
def octetsXorsCard : Claim7 := { stood := { row := octetsXorsRow, standIns := [], harness := (true, "03b4f227a00f1bcf50208bcae1fda95ef53d0be81389ef100827b241c26cd1e9"), looks := false }, kinds := [], alts := [], laidByText := true, laidKinds := [.data, .data], laidTests := true, laidLooks := .later }
def OctetsXorsCardSaid : Prop := Claim7.holds Tryd.pinned (.plain (OpenSpec.ofChange octetsXorsSpec)) octetsXorsCard

/-- THE TIED CARD OF 'ashlarlaw01.OctetsTwice'. -/
def octetsTwiceCard : Claim7 := { stood := { row := octetsTwiceRow, standIns := [], harness := (true, "03b4f227a00f1bcf50208bcae1fda95ef53d0be81389ef100827b241c26cd1e9"), looks := false }, kinds := [], alts := [], laidByText := true, laidKinds := [.data, .data], laidTests := true, laidLooks := .later }
def OctetsTwiceCardSaid : Prop := Claim7.holds Tryd.pinned (.plain (OpenSpec.ofChange octetsTwiceSpec)) octetsTwiceCard

/-- THE TIED CARD OF 'ashlarlaw01.OctetsBits'. -/
def octetsBitsCard : Claim7 := { stood := { row := octetsBitsRow, standIns := [], harness := (true, "03b4f227a00f1bcf50208bcae1fda95ef53d0be81389ef100827b241c26cd1e9"), looks := false }, kinds := [], alts := [], laidByText := true, laidKinds := [.data, .data], laidTests := true, laidLooks := .later }
def OctetsBitsCardSaid : Prop := Claim7.holds Tryd.pinned (.plain (OpenSpec.ofChange octetsBitsSpec)) octetsBitsCard

/-- THE TIED CARD OF 'ashlarlaw01.OctetsTaken'. -/
def octetsTakenCard : Claim7 := { stood := { row := octetsTakenRow, standIns := [], harness := (true, "03b4f227a00f1bcf50208bcae1fda95ef53d0be81389ef100827b241c26cd1e9"), looks := false }, kinds := [], alts := [], laidByText := true, laidKinds := [.data, .data], laidTests := true, laidLooks := .later }
def OctetsTakenCardSaid : Prop := Claim7.holds Tryd.pinned (.plain (OpenSpec.ofChange octetsTakenSpec)) octetsTakenCard

/-- THE SECOND FORM's CARD OF 'ashlarlaw01.OctetsNumbers'. -/
def octetsNumbersUptoCard : Claim7 := { stood := { row := octetsNumbersUptoRow, standIns := [], harness := (true, "03b4f227a00f1bcf50208bcae1fda95ef53d0be81389ef100827b241c26cd1e9"), looks := false }, kinds := [], alts := [], laidByText := true, laidKinds := [.data, .data], laidTests := true, laidLooks := .later }
def OctetsNumbersUptoCardSaid : Prop := Claim7.holds Tryd.pinned (.plain (OpenSpec.upto octetsNumbersSpec)) octetsNumbersUptoCard

/-- THE SECOND FORM's CARD OF 'ashlarlaw01.OctetsBack'. -/
def octetsBackUptoCard : Claim7 := { stood := { row := octetsBackUptoRow, standIns := [], harness := (true, "03b4f227a00f1bcf50208bcae1fda95ef53d0be81389ef100827b241c26cd1e9"), looks := false }, kinds := [], alts := [], laidByText := true, laidKinds := [.data, .data], laidTests := true, laidLooks := .later }
def OctetsBackUptoCardSaid : Prop := Claim7.holds Tryd.pinned (.plain (OpenSpec.upto octetsBackSpec)) octetsBackUptoCard

/-- THE SECOND FORM's CARD OF 'ashlarlaw01.OctetsSums'. -/
def octetsSumsUptoCard : Claim7 := { stood := { row := octetsSumsUptoRow, standIns := [], harness := (true, "03b4f227a00f1bcf50208bcae1fda95ef53d0be81389ef100827b241c26cd1e9"), looks := false }, kinds := [], alts := [], laidByText := true, laidKinds := [.data, .data], laidTests := true, laidLooks := .later }
def OctetsSumsUptoCardSaid : Prop := Claim7.holds Tryd.pinned (.plain (OpenSpec.upto octetsSumsSpec)) octetsSumsUptoCard

/-- THE SECOND FORM's CARD OF 'ashlarlaw01.OctetsJoins'. -/
def octetsJoinsUptoCard : Claim7 := { stood := { row := octetsJoinsUptoRow, standIns := [], harness := (true, "03b4f227a00f1bcf50208bcae1fda95ef53d0be81389ef100827b241c26cd1e9"), looks := false }, kinds := [], alts := [], laidByText := true, laidKinds := [.data, .data], laidTests := true, laidLooks := .later }
def OctetsJoinsUptoCardSaid : Prop := Claim7.holds Tryd.pinned (.plain (OpenSpec.upto octetsJoinsSpec)) octetsJoinsUptoCard

/-- THE SECOND FORM's CARD OF 'ashlarlaw01.OctetsTurned'. -/
def octetsTurnedUptoCard : Claim7 := { stood := { row := octetsTurnedUptoRow, standIns := [], harness := (true, "03b4f227a00f1bcf50208bcae1fda95ef53d0be81389ef100827b241c26cd1e9"), looks := false }, kinds := [], alts := [], laidByText := true, laidKinds := [.data, .data], laidTests := true, laidLooks := .later }
def OctetsTurnedUptoCardSaid : Prop := Claim7.holds Tryd.pinned (.plain (OpenSpec.upto octetsTurnedSpec)) octetsTurnedUptoCard

/-- THE SECOND FORM's CARD OF 'ashlarlaw01.OctetsXors'. -/
def octetsXorsUptoCard : Claim7 := { stood := { row := octetsXorsUptoRow, standIns := [], harness := (true, "03b4f227a00f1bcf50208bcae1fda95ef53d0be81389ef100827b241c26cd1e9"), looks := false }, kinds := [], alts := [], laidByText := true, laidKinds := [.data, .data], laidTests := true, laidLooks := .later }
def OctetsXorsUptoCardSaid : Prop := Claim7.holds Tryd.pinned (.plain (OpenSpec.upto octetsXorsSpec)) octetsXorsUptoCard

/-- THE SECOND FORM's CARD OF 'ashlarlaw01.OctetsTwice'. -/
def octetsTwiceUptoCard : Claim7 := { stood := { row := octetsTwiceUptoRow, standIns := [], harness := (true, "03b4f227a00f1bcf50208bcae1fda95ef53d0be81389ef100827b241c26cd1e9"), looks := false }, kinds := [], alts := [], laidByText := true, laidKinds := [.data, .data], laidTests := true, laidLooks := .later }
def OctetsTwiceUptoCardSaid : Prop := Claim7.holds Tryd.pinned (.plain (OpenSpec.upto octetsTwiceSpec)) octetsTwiceUptoCard

/-- THE SECOND FORM's CARD OF 'ashlarlaw01.OctetsBits'. -/
def octetsBitsUptoCard : Claim7 := { stood := { row := octetsBitsUptoRow, standIns := [], harness := (true, "03b4f227a00f1bcf50208bcae1fda95ef53d0be81389ef100827b241c26cd1e9"), looks := false }, kinds := [], alts := [], laidByText := true, laidKinds := [.data, .data], laidTests := true, laidLooks := .later }
def OctetsBitsUptoCardSaid : Prop := Claim7.holds Tryd.pinned (.plain (OpenSpec.upto octetsBitsSpec)) octetsBitsUptoCard

/-- THE SECOND FORM's CARD OF 'ashlarlaw01.OctetsTaken'. -/
def octetsTakenUptoCard : Claim7 := { stood := { row := octetsTakenUptoRow, standIns := [], harness := (true, "03b4f227a00f1bcf50208bcae1fda95ef53d0be81389ef100827b241c26cd1e9"), looks := false }, kinds := [], alts := [], laidByText := true, laidKinds := [.data, .data], laidTests := true, laidLooks := .later }
def OctetsTakenUptoCardSaid : Prop := Claim7.holds Tryd.pinned (.plain (OpenSpec.upto octetsTakenSpec)) octetsTakenUptoCard
end Rows
end Go.Proofs.YtbagmmngepkaeaaDoor
