/-
  DERIVED. GIVEN WITH THE SEED: THE CARDS: each row of YtceebcaeodmllaaDoorRows.lean that lists a variable, with what it lists TIED to the program's text (the seventh form; the later family's looks); each row that meets fmt, with fmt's text TOLD by the authors' own Lean function (tested against real Go, not proved from fmt's source: count such statements apart). THE CARD IS WHAT COUNTS. Prove the row's statement (the work); the ties are given (YtceebcaeodmllaaDoorTie.lean); close each card by the builder's one call (the guide's Derived/Test/ToyasCard.lean, 'card_holds'). Laid BY PROGRAM, IN A SANDBOX (cutbox-door.mjs). By AI agents, Wed Nov 11 2026. No macro, syntax, notation, axiom, sorry.
-/
import Derived.Test.YtceebcaeodmllaaDoorRows
import GoSem.ClaimSeven
namespace Go.Proofs.YtceebcaeodmllaaDoor
namespace Rows

/-- THE TIED CARD OF 'ashlarlaw04.SuperCodes'. -/
def superCodesCard : Claim7 := { stood := { row := superCodesRow, standIns := [], harness := (true, "7bab6ae8fd4199935ff5a3b21efbb47955f262e08eea72e2cc2847ba1d056dcb"), looks := false }, kinds := [], alts := [], laidByText := true, laidKinds := [.data, .data, .data], laidTests := true, laidLooks := .later }
def SuperCodesCardSaid : Prop := Claim7.holds Tryd.pinned (.plain (OpenSpec.ofChange superCodesSpec)) superCodesCard

/-- THE TIED CARD OF 'ashlarlaw04.SuperBack'. -/
def superBackCard : Claim7 := { stood := { row := superBackRow, standIns := [], harness := (true, "7bab6ae8fd4199935ff5a3b21efbb47955f262e08eea72e2cc2847ba1d056dcb"), looks := false }, kinds := [], alts := [], laidByText := true, laidKinds := [.data, .data, .data], laidTests := true, laidLooks := .later }
def SuperBackCardSaid : Prop := Claim7.holds Tryd.pinned (.plain (OpenSpec.ofChange superBackSpec)) superBackCard

/-- THE TIED CARD OF 'ashlarlaw04.SuperOnly'. -/
def superOnlyCard : Claim7 := { stood := { row := superOnlyRow, standIns := [], harness := (true, "7bab6ae8fd4199935ff5a3b21efbb47955f262e08eea72e2cc2847ba1d056dcb"), looks := false }, kinds := [], alts := [], laidByText := true, laidKinds := [.data, .data, .data], laidTests := true, laidLooks := .later }
def SuperOnlyCardSaid : Prop := Claim7.holds Tryd.pinned (.plain (OpenSpec.ofChange superOnlySpec)) superOnlyCard

/-- THE TIED CARD OF 'ashlarlaw04.SuperTurned'. -/
def superTurnedCard : Claim7 := { stood := { row := superTurnedRow, standIns := [], harness := (true, "7bab6ae8fd4199935ff5a3b21efbb47955f262e08eea72e2cc2847ba1d056dcb"), looks := false }, kinds := [], alts := [], laidByText := true, laidKinds := [.data, .data, .data], laidTests := true, laidLooks := .later }
def SuperTurnedCardSaid : Prop := Claim7.holds Tryd.pinned (.plain (OpenSpec.ofChange superTurnedSpec)) superTurnedCard

/-- THE TIED CARD OF 'ashlarlaw04.SuperNewest'. -/
def superNewestCard : Claim7 := { stood := { row := superNewestRow, standIns := [], harness := (true, "7bab6ae8fd4199935ff5a3b21efbb47955f262e08eea72e2cc2847ba1d056dcb"), looks := false }, kinds := [], alts := [], laidByText := true, laidKinds := [.data, .data, .data], laidTests := true, laidLooks := .later }
def SuperNewestCardSaid : Prop := Claim7.holds Tryd.pinned (.plain (OpenSpec.ofChange superNewestSpec)) superNewestCard

/-- THE TIED CARD OF 'ashlarlaw04.SuperSlots'. -/
def superSlotsCard : Claim7 := { stood := { row := superSlotsRow, standIns := [], harness := (true, "7bab6ae8fd4199935ff5a3b21efbb47955f262e08eea72e2cc2847ba1d056dcb"), looks := false }, kinds := [], alts := [], laidByText := true, laidKinds := [.data, .data, .data], laidTests := true, laidLooks := .later }
def SuperSlotsCardSaid : Prop := Claim7.holds Tryd.pinned (.plain (OpenSpec.ofChange superSlotsSpec)) superSlotsCard

/-- THE SECOND FORM's CARD OF 'ashlarlaw04.SuperCodes'. -/
def superCodesUptoCard : Claim7 := { stood := { row := superCodesUptoRow, standIns := [], harness := (true, "7bab6ae8fd4199935ff5a3b21efbb47955f262e08eea72e2cc2847ba1d056dcb"), looks := false }, kinds := [], alts := [], laidByText := true, laidKinds := [.data, .data, .data], laidTests := true, laidLooks := .later }
def SuperCodesUptoCardSaid : Prop := Claim7.holds Tryd.pinned (.plain (OpenSpec.upto superCodesSpec)) superCodesUptoCard

/-- THE SECOND FORM's CARD OF 'ashlarlaw04.SuperBack'. -/
def superBackUptoCard : Claim7 := { stood := { row := superBackUptoRow, standIns := [], harness := (true, "7bab6ae8fd4199935ff5a3b21efbb47955f262e08eea72e2cc2847ba1d056dcb"), looks := false }, kinds := [], alts := [], laidByText := true, laidKinds := [.data, .data, .data], laidTests := true, laidLooks := .later }
def SuperBackUptoCardSaid : Prop := Claim7.holds Tryd.pinned (.plain (OpenSpec.upto superBackSpec)) superBackUptoCard

/-- THE SECOND FORM's CARD OF 'ashlarlaw04.SuperOnly'. -/
def superOnlyUptoCard : Claim7 := { stood := { row := superOnlyUptoRow, standIns := [], harness := (true, "7bab6ae8fd4199935ff5a3b21efbb47955f262e08eea72e2cc2847ba1d056dcb"), looks := false }, kinds := [], alts := [], laidByText := true, laidKinds := [.data, .data, .data], laidTests := true, laidLooks := .later }
def SuperOnlyUptoCardSaid : Prop := Claim7.holds Tryd.pinned (.plain (OpenSpec.upto superOnlySpec)) superOnlyUptoCard

/-- THE SECOND FORM's CARD OF 'ashlarlaw04.SuperTurned'. -/
def superTurnedUptoCard : Claim7 := { stood := { row := superTurnedUptoRow, standIns := [], harness := (true, "7bab6ae8fd4199935ff5a3b21efbb47955f262e08eea72e2cc2847ba1d056dcb"), looks := false }, kinds := [], alts := [], laidByText := true, laidKinds := [.data, .data, .data], laidTests := true, laidLooks := .later }
def SuperTurnedUptoCardSaid : Prop := Claim7.holds Tryd.pinned (.plain (OpenSpec.upto superTurnedSpec)) superTurnedUptoCard

/-- THE SECOND FORM's CARD OF 'ashlarlaw04.SuperNewest'. -/
def superNewestUptoCard : Claim7 := { stood := { row := superNewestUptoRow, standIns := [], harness := (true, "7bab6ae8fd4199935ff5a3b21efbb47955f262e08eea72e2cc2847ba1d056dcb"), looks := false }, kinds := [], alts := [], laidByText := true, laidKinds := [.data, .data, .data], laidTests := true, laidLooks := .later }
def SuperNewestUptoCardSaid : Prop := Claim7.holds Tryd.pinned (.plain (OpenSpec.upto superNewestSpec)) superNewestUptoCard

/-- THE SECOND FORM's CARD OF 'ashlarlaw04.SuperSlots'. -/
def superSlotsUptoCard : Claim7 := { stood := { row := superSlotsUptoRow, standIns := [], harness := (true, "7bab6ae8fd4199935ff5a3b21efbb47955f262e08eea72e2cc2847ba1d056dcb"), looks := false }, kinds := [], alts := [], laidByText := true, laidKinds := [.data, .data, .data], laidTests := true, laidLooks := .later }
def SuperSlotsUptoCardSaid : Prop := Claim7.holds Tryd.pinned (.plain (OpenSpec.upto superSlotsSpec)) superSlotsUptoCard
end Rows
end Go.Proofs.YtceebcaeodmllaaDoor
