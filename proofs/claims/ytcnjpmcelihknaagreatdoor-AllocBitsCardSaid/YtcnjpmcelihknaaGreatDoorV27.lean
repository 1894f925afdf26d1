/-
  What the statement's proof rests on, part 27.
  Conditions: each theorem's own.
-/
import Derived.Shelf.SlIterI.Nil
import Derived.Ground.GgzProg
import Derived.Test.YtcnjpmcelihknaaGreatDoorV24
import Derived.Test.YtcnjpmcelihknaaGreatDoorV15
namespace Go.Proofs.YtcnjpmcelihknaaGreatDoor
open Go.Shelf
end Go.Proofs.YtcnjpmcelihknaaGreatDoor
namespace Go.Proofs.YtcnjpmcelihknaaGreatDoor.Kj
open Go.RowKit Go.Maps Go.Sort Go.Shelf
theorem heap_alloc_size (w:World) (o:Obj):(w.alloc o).heap.size=w.heap.size+1:=by simp
end Go.Proofs.YtcnjpmcelihknaaGreatDoor.Kj
