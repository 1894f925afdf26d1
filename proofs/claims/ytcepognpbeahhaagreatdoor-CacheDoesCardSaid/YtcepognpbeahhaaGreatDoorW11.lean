/-
  What the statement's proof rests on, part 11.
  Conditions: each theorem's own.
-/
import Derived.Test.YtcepognpbeahhaaGreatDoorW10
namespace Go.Proofs.YtcepognpbeahhaaGreatDoor.Kc
open Go.RowKit Go.Maps
open Go.Proofs.YtcepognpbeahhaaGreatDoor.Sh (bts bts_length Reads)
section
variable (V:VolK)
inductive WbR (x:V.σ) (e:En):Int->V.σ->En->Prop
 | clean:e.dirty=false->WbR x e 0 x e
 | no (y:Int) (x':V.σ):e.dirty=true->V.wr x e.k e.d y x'->y≠0->WbR x e y x' e
 | done (x':V.σ):e.dirty=true->V.wr x e.k e.d 0 x'->WbR x e 0 x' { e with dirty:=false }
def firstE (l:List En):Nat:=l.findIdx fun e=>decide (e.pins=0)
inductive RoomR (most:Nat) (l:List En) (x:V.σ):Int->List En->V.σ->Prop
 | free:l.length<most->RoomR most l x 0 l x
 | full:¬l.length<most->(∀e∈l,e.pins≠0)->RoomR most l x 6 l x
 | no (e:En) (y:Int) (x':V.σ):¬l.length<most->l[firstE l]?=some e->e.pins=0->WbR V x e y x' e->y≠0->RoomR most l x y l x'
 | left (e e':En) (x':V.σ):¬l.length<most->l[firstE l]?=some e->e.pins=0->WbR V x e 0 x' e'->RoomR most l x 0 (dropE l e.k) x'
inductive KeepR (most:Nat) (k:Nat) (b:Sh.Bs) (l:List En) (x:V.σ):Int->List En->V.σ->Prop
 | no (y:Int) (l':List En) (x':V.σ):RoomR V most l x y l' x'->y≠0->KeepR most k b l x y l' x'
 | kept (l':List En) (x':V.σ) (p:Nat):RoomR V most l x 0 l' x'->KeepR most k b l x 0 (l'++[⟨k,p,b,false,0⟩]) x'
inductive FetchR (most:Nat) (k:Nat) (l:List En) (x:V.σ):Int->List En->V.σ->Prop
 | no (y:Int) (X:Sh.Bs) (x':V.σ):V.rd x k y X x'->y≠0->FetchR most k l x y l x'
 | got (X:Sh.Bs) (x1:V.σ) (y:Int) (l':List En) (x':V.σ):V.rd x k 0 X x1->KeepR V most k X l x1 y l' x'->FetchR most k l x y l' x'
def useE (l:List En) (e:En):List En:=dropE l e.k++[e]
inductive GetR (most:Nat) (n:Int) (l:List En) (x:V.σ):Int->Sh.Bs->List En->V.σ->Prop
 | out:¬(0<=n/\n<(V.n:Int))->GetR most n l x 1 [] l x
 | here (e:En):(0<=n/\n<(V.n:Int))->finds l n=some e->GetR most n l x 0 e.d (useE l e) x
 | no (k:Nat) (y:Int) (l':List En) (x':V.σ):n=(k:Int)->k<V.n->finds l n=none->FetchR V most k l x y l' x'->y≠0->GetR most n l x y [] l' x'
 | got (k:Nat) (l':List En) (x':V.σ) (e:En):n=(k:Int)->k<V.n->finds l n=none->FetchR V most k l x 0 l' x'->finds l' n=some e->GetR most n l x 0 e.d (useE l' e) x'
inductive PutR (most:Nat) (n:Int) (b:Sh.Bs) (l:List En) (x:V.σ):Int->List En->V.σ->Prop
 | out:¬((0<=n/\n<(V.n:Int))/\b.length=128)->PutR most n b l x 1 l x
 | here (e:En):(0<=n/\n<(V.n:Int))->b.length=128->finds l n=some e->PutR most n b l x 0 (useE l { e with d:=b,dirty:=true }) x
 | no (k:Nat) (y:Int) (l':List En) (x':V.σ):n=(k:Int)->k<V.n->b.length=128->finds l n=none->KeepR V most k b l x y l' x'->y≠0->PutR most n b l x y l' x'
 | new (k:Nat) (l':List En) (x':V.σ) (e:En):n=(k:Int)->k<V.n->b.length=128->finds l n=none->KeepR V most k b l x 0 l' x'->finds l' n=some e->PutR most n b l x 0 (useE l' { e with d:=b,dirty:=true }) x'
inductive WbsR:List Int->List En->V.σ->Int->List En->V.σ->Prop
 | nil (l:List En) (x:V.σ):WbsR [] l x 0 l x
 | no (k:Int) (t:List Int) (l:List En) (x:V.σ) (e:En) (y:Int) (x':V.σ):finds l k=some e->WbR V x e y x' e->y≠0->WbsR (k :: t) l x y l x'
 | next (k:Int) (t:List Int) (l:List En) (x:V.σ) (e e1:En) (x1:V.σ) (y:Int) (l':List En) (x':V.σ):finds l k=some e->WbR V x e 0 x1 e1->WbsR t (putE l e1) x1 y l' x'->WbsR (k :: t) l x y l' x'
def risesE (f:En->Bool) (l:List En):List Int:=((l.filter f).map fun e=>(e.k:Int)).mergeSort (fun a b=>decide (a<=b))
inductive FlushR (l:List En) (x:V.σ):Int->List En->V.σ->Prop
 | no (y:Int) (l':List En) (x':V.σ):WbsR V (risesE (fun e=>e.dirty && decide (e.pins=0)) l) l x y l' x'->y≠0->FlushR l x y l' x'
 | all (l':List En) (x1 x':V.σ) (y:Int):WbsR V (risesE (fun e=>e.dirty && decide (e.pins=0)) l) l x 0 l' x1->V.fl x1 y x'->FlushR l x y l' x'
end
def LeftC (V:VolK) (w:World) (g:Cg) (most:Nat) (l:List En) (x:V.σ) (l':List En) (x':V.σ) (k:Nat) (w':World):Prop :=
 ∃u,Cav V w' { g with u:=u } most l' x' k/\Sh.Moves (AllC V x g l) w (AllC V x' { g with u:=u } l') w'
end Go.Proofs.YtcepognpbeahhaaGreatDoor.Kc
