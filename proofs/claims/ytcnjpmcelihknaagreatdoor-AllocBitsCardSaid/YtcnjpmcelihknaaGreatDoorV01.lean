/-
  What the statement's proof rests on, part 1.
  Conditions: each theorem's own.
-/
import Derived.Below
import Derived.Laws.OwnMore
import Derived.Laws.IdiomCopy
namespace Go.Proofs.YtcnjpmcelihknaaGreatDoor.Ins
open Go.RowKit
def setL (xs:List Value) (o:Nat):List Value->List Value
 | []=>xs
 | v :: r=>setL (xs.set o v) (o+1) r
theorem setL_eq:∀(vs xs:List Value) (o:Nat),o+vs.length<=xs.length->setL xs o vs=xs.take o++vs++xs.drop (o+vs.length)
 | [],xs,o,_=>by simp [setL]
 | v :: r,xs,o,h=>by
  rw [List.length_cons] at h
  have hl:o<xs.length:=by omega
  have ih:=setL_eq r (xs.set o v) (o+1) (by rw [List.length_set];omega)
  have h1:(xs.set o v).take (o+1)=xs.take o++[v]:=by
   rw [List.take_succ_eq_append_getElem (by rw [List.length_set];exact hl),List.getElem_set_self,List.take_set]
   congr 1
   apply List.set_eq_of_length_le
   simp;omega
  have h2:(xs.set o v).drop (o+1+r.length)=xs.drop (o+1+r.length):=by
   rw [List.drop_set_of_lt (by omega)]
  rw [setL,ih,h1,h2,List.length_cons,show o+(r.length+1)=o+1+r.length by omega]
  simp
theorem grown (xs:List Value) (z p:Value) (i:Nat) (hi:i<xs.length) :
  setL (setL (xs.take i++List.replicate (xs.length+1-i) z) i [p]) (i+1) (xs.drop i)=xs.take i++p :: xs.drop i:=by
 have ht:(xs.take i).length=i:=by simp;omega
 have hl:(xs.drop i).length=xs.length-i:=List.length_drop
 rw [setL_eq [p] _ i (by simp;omega)]
 have h1:(xs.take i++List.replicate (xs.length+1-i) z).take i=xs.take i:=by rw [List.take_append_of_le_length (by omega),List.take_of_length_le (by omega)]
 have h2:(xs.take i++List.replicate (xs.length+1-i) z).drop (i+[p].length)=List.replicate (xs.length-i) z:=by
  rw [List.length_singleton,List.drop_append,ht,List.drop_eq_nil_of_le (by omega),List.nil_append,List.drop_replicate]
  congr 1;omega
 rw [h1,h2,setL_eq _ _ _ (by simp;omega),hl]
 have h3:(xs.take i++[p]++List.replicate (xs.length-i) z).take (i+1)=xs.take i++[p]:=by
  rw [List.take_append_of_le_length (by simp;omega),List.take_of_length_le (by simp;omega)]
 have h4:(xs.take i++[p]++List.replicate (xs.length-i) z).drop (i+1+(xs.length-i))=[]:=List.drop_eq_nil_of_le (by simp;omega)
 rw [h3,h4]
 simp
variable {w:World} {base:Nat} {e:TypeId} {g n cap:Nat} {xs:List Value}
theorem below_setCells {B:Nat} {a:World} (hb:B<=g):∀(vs:List Value) (o:Nat) {w:World},Below B a w->Below B a (w.setCells g o vs)
 | [],_,_,h=>h
 | v :: r,o,_,h=>below_setCells hb r (o+1) (h.setCell (p:=⟨g,o,none⟩) hb v)
end Go.Proofs.YtcnjpmcelihknaaGreatDoor.Ins
