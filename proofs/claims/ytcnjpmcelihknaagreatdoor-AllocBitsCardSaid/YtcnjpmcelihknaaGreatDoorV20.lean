/-
  What the statement's proof rests on, part 20.
  Conditions: each theorem's own.
-/
import Derived.Test.YtcnjpmcelihknaaGreatDoorV17
import Derived.Test.YtcnjpmcelihknaaGreatDoorV10
namespace Go.Proofs.YtcnjpmcelihknaaGreatDoor.S
open Go.RowKit
theorem results_cell2 {fn:Func} {a b:Tmp} {t:TypeId} {P:Program} {w:World} {v x:Value} {tmps:Array Value} {g:Nat} (h:fn.results=#[.cell a t,.tmp b])
  (hp:tmps.getD a undef=.pointer (some ⟨g,0,none⟩)) (hl:(loadVar t ⟨g,0,none⟩).run P w=.ok v w) (hx:tmps.getD b undef=x):(results fn tmps).run P w=.ok (.tuple #[v,x]) w:=by
 rw [Array.getD_eq_getD_getElem?] at hp
 rw [Array.getD_eq_getD_getElem?] at hx
 simp [results,h,hp,hx,asAddr,hl]
def okD (l:List Nat):Bool:=(supOf l).right && (encL (supOf l).nums == l)
theorem zcB_bts:zcB=(bts (List.replicate 128 0)).toArray:=by simp [zcB,bts]
end Go.Proofs.YtcnjpmcelihknaaGreatDoor.S
