/-
  What every card of lay shares: the table of places out of the row's list, the witness's world.
  Conditions: each theorem's own.
-/
import Derived.Test.YtdlpipamibjacaaDoorLv
import Derived.Test.YtdlpipamibjacaaDoorCards
import Derived.Test.YtdlpipamibjacaaDoorTie
import Derived.ProofKit
import Derived.OpenShut
import Derived.ChangeOld
import Derived.SizedLaws
import Derived.Deep.DeepHandedRow
import Derived.Lib.LaidTab
namespace Go.Proofs.YtdlpipamibjacaaDoor.L
open Go.ChangeShapes Go.WideShapes Go.ChangeAt Go.RowKit

theorem own : ownKnob Tryd.prog.godebug = none := by kernel_rfl
theorem laidOut : laidOutB Tryd.prog = true := by kernel_rfl
theorem gPlaces : Tryd.prog.globalNamed "ashlar/lay.places" = some 0 := by kernel_rfl
theorem gPlacesType : (Tryd.prog.globals[0]?).map (·.type) = some 58 := by kernel_rfl
theorem cells16 : Tryd.prog.cellsOf 58 = 16 := by kernel_rfl
theorem cellsInt : Tryd.prog.cellsOf 3 = 1 := by kernel_rfl

def placesZ : List Int := [-1, 0, 1, 2, 3, 4, 5, 6, 7, 8, 9, 10, 11, 12, 13, 14]
abbrev laidBoth : List (String × DataW Unit) := [("ashlar/lay.places", Rows.laid_ashlar_lay_places)]
/-- WHAT THE ROW's LIST GIVES: the table's cells. -/
theorem tabs_of_laid {W : World} (h : laidMetH Tryd.prog laidBoth W) : Tab W := by
  rw [MakeChecks.laidMetH_plain _ _ _ (by kernel_rfl)] at h
  obtain ⟨ps, ⟨g0, t0, cs0, f0, p0, q0, hg0, ht0, hv0, hd0, _, _⟩, _, _⟩ := h
  obtain rfl := Option.some.inj (gPlaces.symm.trans hg0)
  obtain rfl := Option.some.inj (gPlacesType.symm.trans ht0)
  have e0 : cs0.toList = placesZ.map fun z => Value.int .i64 z := Lib.cells_of_tab Tryd.underlying58 Tryd.underlying3 cellsInt cells16 hd0
  have low0 : ∀ i : Fin 16, placesZ[i.val]? = some ((i.val : Int) - 1) := by decide
  have low : ∀ i : Fin 16, (placesZ.map fun z => Value.int .i64 z)[i.val]? = some (.int .i64 ((i.val : Int) - 1)) := fun i => by rw [List.getElem?_map, low0 i]; rfl
  intro i hi
  have h1 := World.var?_cell hg0 hv0 i
  have h2 := low ⟨i, hi⟩
  rw [← e0] at h2
  rw [h1]
  simpa using h2

/-- A WORLD FOR THE WITNESS: the settled one, the table holding what its initialiser lays. -/
def withCells (l : List Int) : Obj → Obj
  | .cells _ t frozen => .cells (l.map fun (x : Int) => Value.int .i64 x).toArray t frozen
  | o => o
noncomputable def laidWorld (os : Os) : World :=
  { World.holding Tryd.prog os ⟨#[], #[], []⟩ with heap := (World.holding Tryd.prog os ⟨#[], #[], []⟩).heap.modify 0 (withCells placesZ) }
end Go.Proofs.YtdlpipamibjacaaDoor.L
