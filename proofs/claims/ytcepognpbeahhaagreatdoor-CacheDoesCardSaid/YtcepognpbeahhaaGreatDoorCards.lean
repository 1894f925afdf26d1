/-
  DERIVED. GIVEN WITH THE SEED: THE CARDS: each row of YtcepognpbeahhaaGreatDoorRows.lean that lists a variable, with what it lists TIED to the program's text (the seventh form; the later family's looks); each row that meets fmt, with fmt's text TOLD by the authors' own Lean function (tested against real Go, not proved from fmt's source: count such statements apart). THE CARD IS WHAT COUNTS. Prove the row's statement (the work); the ties are given (YtcepognpbeahhaaGreatDoorTie.lean); close each card by the builder's one call (the guide's Derived/Test/ToyasCard.lean, 'card_holds'). Laid BY PROGRAM, IN A SANDBOX (cutbox-door.mjs). By AI agents, Wed Nov 11 2026. No macro, syntax, notation, axiom, sorry.
-/
import Derived.Test.YtcepognpbeahhaaGreatDoorRows
import GoSem.ClaimSeven
namespace Go.Proofs.YtcepognpbeahhaaGreatDoor
namespace Rows

/-- THE TIED CARD OF 'ashlarlaw10.CacheDoes'. -/
def cacheDoesCard : Claim7 := { stood := { row := cacheDoesRow, standIns := [], harness := (true, "56e0090058267c8133cb7a56d62874f22c237da7f50709630a37978238db89e2"), looks := false }, kinds := [], alts := [], laidByText := true, laidKinds := [.data, .data, .data, .data], laidTests := true, laidLooks := .later }
def CacheDoesCardSaid : Prop := Claim7.holds Tryz.pinned (.plain (OpenSpec.ofChange cacheDoesSpec)) cacheDoesCard

/-- THE TIED CARD OF 'ashlarlaw10.CacheReads'. -/
def cacheReadsCard : Claim7 := { stood := { row := cacheReadsRow, standIns := [], harness := (true, "56e0090058267c8133cb7a56d62874f22c237da7f50709630a37978238db89e2"), looks := false }, kinds := [], alts := [], laidByText := true, laidKinds := [.data, .data, .data, .data, .data], laidTests := true, laidLooks := .later }
def CacheReadsCardSaid : Prop := Claim7.holds Tryz.pinned (.plain (OpenSpec.ofChange cacheReadsSpec)) cacheReadsCard

/-- THE TIED CARD OF 'ashlarlaw10.CachePinned'. -/
def cachePinnedCard : Claim7 := { stood := { row := cachePinnedRow, standIns := [], harness := (true, "56e0090058267c8133cb7a56d62874f22c237da7f50709630a37978238db89e2"), looks := false }, kinds := [], alts := [], laidByText := true, laidKinds := [.data, .data, .data, .data], laidTests := true, laidLooks := .later }
def CachePinnedCardSaid : Prop := Claim7.holds Tryz.pinned (.plain (OpenSpec.ofChange cachePinnedSpec)) cachePinnedCard

/-- THE TIED CARD OF 'ashlarlaw10.CacheFull'. -/
def cacheFullCard : Claim7 := { stood := { row := cacheFullRow, standIns := [], harness := (true, "56e0090058267c8133cb7a56d62874f22c237da7f50709630a37978238db89e2"), looks := false }, kinds := [], alts := [], laidByText := true, laidKinds := [.data, .data, .data, .data], laidTests := true, laidLooks := .later }
def CacheFullCardSaid : Prop := Claim7.holds Tryz.pinned (.plain (OpenSpec.ofChange cacheFullSpec)) cacheFullCard

/-- THE TIED CARD OF 'ashlarlaw10.CacheLeast'. -/
def cacheLeastCard : Claim7 := { stood := { row := cacheLeastRow, standIns := [], harness := (true, "56e0090058267c8133cb7a56d62874f22c237da7f50709630a37978238db89e2"), looks := false }, kinds := [], alts := [], laidByText := true, laidKinds := [.data, .data, .data, .data], laidTests := true, laidLooks := .later }
def CacheLeastCardSaid : Prop := Claim7.holds Tryz.pinned (.plain (OpenSpec.ofChange cacheLeastSpec)) cacheLeastCard

/-- THE TIED CARD OF 'ashlarlaw10.CacheOff'. -/
def cacheOffCard : Claim7 := { stood := { row := cacheOffRow, standIns := [], harness := (true, "56e0090058267c8133cb7a56d62874f22c237da7f50709630a37978238db89e2"), looks := false }, kinds := [], alts := [], laidByText := true, laidKinds := [.data, .data, .data, .data], laidTests := true, laidLooks := .later }
def CacheOffCardSaid : Prop := Claim7.holds Tryz.pinned (.plain (OpenSpec.ofChange cacheOffSpec)) cacheOffCard

/-- THE TIED CARD OF 'ashlarlaw10.CacheNobody'. -/
def cacheNobodyCard : Claim7 := { stood := { row := cacheNobodyRow, standIns := [], harness := (true, "56e0090058267c8133cb7a56d62874f22c237da7f50709630a37978238db89e2"), looks := false }, kinds := [], alts := [], laidByText := true, laidKinds := [.data, .data, .data, .data], laidTests := true, laidLooks := .later }
def CacheNobodyCardSaid : Prop := Claim7.holds Tryz.pinned (.plain (OpenSpec.ofChange cacheNobodySpec)) cacheNobodyCard

/-- THE SECOND FORM's CARD OF 'ashlarlaw10.CacheDoes'. -/
def cacheDoesUptoCard : Claim7 := { stood := { row := cacheDoesUptoRow, standIns := [], harness := (true, "56e0090058267c8133cb7a56d62874f22c237da7f50709630a37978238db89e2"), looks := false }, kinds := [], alts := [], laidByText := true, laidKinds := [.data, .data, .data, .data], laidTests := true, laidLooks := .later }
def CacheDoesUptoCardSaid : Prop := Claim7.holds Tryz.pinned (.plain (OpenSpec.upto cacheDoesSpec)) cacheDoesUptoCard

/-- THE SECOND FORM's CARD OF 'ashlarlaw10.CacheReads'. -/
def cacheReadsUptoCard : Claim7 := { stood := { row := cacheReadsUptoRow, standIns := [], harness := (true, "56e0090058267c8133cb7a56d62874f22c237da7f50709630a37978238db89e2"), looks := false }, kinds := [], alts := [], laidByText := true, laidKinds := [.data, .data, .data, .data, .data], laidTests := true, laidLooks := .later }
def CacheReadsUptoCardSaid : Prop := Claim7.holds Tryz.pinned (.plain (OpenSpec.upto cacheReadsSpec)) cacheReadsUptoCard

/-- THE SECOND FORM's CARD OF 'ashlarlaw10.CachePinned'. -/
def cachePinnedUptoCard : Claim7 := { stood := { row := cachePinnedUptoRow, standIns := [], harness := (true, "56e0090058267c8133cb7a56d62874f22c237da7f50709630a37978238db89e2"), looks := false }, kinds := [], alts := [], laidByText := true, laidKinds := [.data, .data, .data, .data], laidTests := true, laidLooks := .later }
def CachePinnedUptoCardSaid : Prop := Claim7.holds Tryz.pinned (.plain (OpenSpec.upto cachePinnedSpec)) cachePinnedUptoCard

/-- THE SECOND FORM's CARD OF 'ashlarlaw10.CacheFull'. -/
def cacheFullUptoCard : Claim7 := { stood := { row := cacheFullUptoRow, standIns := [], harness := (true, "56e0090058267c8133cb7a56d62874f22c237da7f50709630a37978238db89e2"), looks := false }, kinds := [], alts := [], laidByText := true, laidKinds := [.data, .data, .data, .data], laidTests := true, laidLooks := .later }
def CacheFullUptoCardSaid : Prop := Claim7.holds Tryz.pinned (.plain (OpenSpec.upto cacheFullSpec)) cacheFullUptoCard

/-- THE SECOND FORM's CARD OF 'ashlarlaw10.CacheLeast'. -/
def cacheLeastUptoCard : Claim7 := { stood := { row := cacheLeastUptoRow, standIns := [], harness := (true, "56e0090058267c8133cb7a56d62874f22c237da7f50709630a37978238db89e2"), looks := false }, kinds := [], alts := [], laidByText := true, laidKinds := [.data, .data, .data, .data], laidTests := true, laidLooks := .later }
def CacheLeastUptoCardSaid : Prop := Claim7.holds Tryz.pinned (.plain (OpenSpec.upto cacheLeastSpec)) cacheLeastUptoCard

/-- THE SECOND FORM's CARD OF 'ashlarlaw10.CacheOff'. -/
def cacheOffUptoCard : Claim7 := { stood := { row := cacheOffUptoRow, standIns := [], harness := (true, "56e0090058267c8133cb7a56d62874f22c237da7f50709630a37978238db89e2"), looks := false }, kinds := [], alts := [], laidByText := true, laidKinds := [.data, .data, .data, .data], laidTests := true, laidLooks := .later }
def CacheOffUptoCardSaid : Prop := Claim7.holds Tryz.pinned (.plain (OpenSpec.upto cacheOffSpec)) cacheOffUptoCard

/-- THE SECOND FORM's CARD OF 'ashlarlaw10.CacheNobody'. -/
def cacheNobodyUptoCard : Claim7 := { stood := { row := cacheNobodyUptoRow, standIns := [], harness := (true, "56e0090058267c8133cb7a56d62874f22c237da7f50709630a37978238db89e2"), looks := false }, kinds := [], alts := [], laidByText := true, laidKinds := [.data, .data, .data, .data], laidTests := true, laidLooks := .later }
def CacheNobodyUptoCardSaid : Prop := Claim7.holds Tryz.pinned (.plain (OpenSpec.upto cacheNobodySpec)) cacheNobodyUptoCard
end Rows
end Go.Proofs.YtcepognpbeahhaaGreatDoor
