/-
  DERIVED. GIVEN WITH THE SEED: THE PROGRAM's TIES (one call each: nine closed facts by the kernel) AND EACH ROW's TIE, after the 31st guide's Derived/Test/Toyas{Tie, Card}.lean. No idea stands in it: it is a product of the set-up. Laid BY PROGRAM, IN A SANDBOX (cutbox-door.mjs). By AI agents, Wed Nov 11 2026. No macro, syntax, notation, axiom, sorry.
-/
import Derived.Test.YtgebkmpmnjhceaaGreatDoorRows
import Derived.LaidByTextLater
import Derived.SevenTiedAt
import Derived.LaidSub
import Derived.LaidOnce
namespace Go.Proofs.YtgebkmpmnjhceaaGreatDoor
open Go
set_option maxRecDepth 100000
theorem seatTie1 : Tryz.prog.laidByTextLater [("ashlar/lay.places", Rows.laid_ashlar_lay_places), ("ashlar/octets.lowRests", Rows.laid_ashlar_octets_lowRests), ("ashlar/octets.highRests", Rows.laid_ashlar_octets_highRests), ("ashlar/ppl.fields", Rows.laid_ashlar_ppl_fields), ("ashlar/super.widths", Rows.laid_ashlar_super_widths)] [.data, .data, .data, .data, .data] true :=
  Program.laidByTextLater_by_one 37 8 17 (by kernel_rfl) (by kernel_rfl) (by kernel_rfl) (by kernel_rfl) (by kernel_rfl) (by kernel_rfl) (fun _ _ => by kernel_rfl)
theorem noOwnUnsafe : Tryz.pinned.checked.prog.headLifts.contains "ownunsafe" = false := by kernel_rfl
theorem tie : Tryz.prog.laidByTextLater [("ashlar/lay.places", Rows.laid_ashlar_lay_places), ("ashlar/octets.lowRests", Rows.laid_ashlar_octets_lowRests), ("ashlar/octets.highRests", Rows.laid_ashlar_octets_highRests), ("ashlar/ppl.fields", Rows.laid_ashlar_ppl_fields), ("ashlar/super.widths", Rows.laid_ashlar_super_widths)] [.data, .data, .data, .data, .data] true :=
  Program.laidByTextLater.sub seatTie1 ["ashlar/lay.places", "ashlar/octets.lowRests", "ashlar/octets.highRests", "ashlar/ppl.fields", "ashlar/super.widths"] (by kernel_rfl) (by kernel_rfl)
theorem raidTurned_row_tie : Rows.raidTurnedRow.laidByTextAt .later Tryz.pinned [.data, .data, .data, .data, .data] true :=
  OpenClaim.laidByTextAt_later rfl rfl tie noOwnUnsafe
theorem raidMends_row_tie : Rows.raidMendsRow.laidByTextAt .later Tryz.pinned [.data, .data, .data, .data, .data] true :=
  OpenClaim.laidByTextAt_later rfl rfl tie noOwnUnsafe
theorem tie2 : Tryz.prog.laidByTextLater [("ashlar/octets.lowRests", Rows.laid_ashlar_octets_lowRests), ("ashlar/octets.highRests", Rows.laid_ashlar_octets_highRests), ("ashlar/ppl.fields", Rows.laid_ashlar_ppl_fields), ("ashlar/super.widths", Rows.laid_ashlar_super_widths)] [.data, .data, .data, .data] true :=
  Program.laidByTextLater.sub seatTie1 ["ashlar/octets.lowRests", "ashlar/octets.highRests", "ashlar/ppl.fields", "ashlar/super.widths"] (by kernel_rfl) (by kernel_rfl)
theorem raidBeyond_row_tie : Rows.raidBeyondRow.laidByTextAt .later Tryz.pinned [.data, .data, .data, .data] true :=
  OpenClaim.laidByTextAt_later rfl rfl tie2 noOwnUnsafe
theorem raidTurnedUpto_row_tie : Rows.raidTurnedUptoRow.laidByTextAt .later Tryz.pinned [.data, .data, .data, .data, .data] true :=
  OpenClaim.laidByTextAt_later rfl rfl tie noOwnUnsafe
theorem raidMendsUpto_row_tie : Rows.raidMendsUptoRow.laidByTextAt .later Tryz.pinned [.data, .data, .data, .data, .data] true :=
  OpenClaim.laidByTextAt_later rfl rfl tie noOwnUnsafe
theorem raidBeyondUpto_row_tie : Rows.raidBeyondUptoRow.laidByTextAt .later Tryz.pinned [.data, .data, .data, .data] true :=
  OpenClaim.laidByTextAt_later rfl rfl tie2 noOwnUnsafe
end Go.Proofs.YtgebkmpmnjhceaaGreatDoor
