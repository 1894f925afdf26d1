/-
  What the statement's proof rests on, part 5.
  Conditions: each theorem's own.
-/
import Derived.Test.YtcnjpmcelihknaaGreatDoorRows
import Derived.WalkKit
import Derived.WalkSpells
import Derived.WalkLawsBesides
import Derived.Below
import Derived.Laws.OwnMore
import Derived.Laws.BitsAllLaws
import Derived.Laws.BytesArg
import Derived.Deep.AppendLies
import Derived.Deep.Draws
import Derived.Deep.QuietTactic
import Derived.BigQuiet
import Derived.Lib.Hide
import Derived.IntWalk
import Derived.Maps.OwnSet
import Derived.Maps.OwnOps
import Derived.StillTailTactics
import Derived.RegionTactic
import Derived.OwnWalk
import Derived.Deep.DeepFit
open Go.Lib (hid)
namespace Go.Proofs.YtcnjpmcelihknaaGreatDoor.Sh
abbrev Bs:=List Nat
structure Dk where
 sure:List Bs
 waits:List (Nat × Bs)
 dead:Bool
instance:Inhabited Dk:=⟨⟨[],[],false⟩⟩
structure Sf where
 disks:List Dk
 sectors:Nat
 count:Int
 off:Bool
 left:Nat
def lastGo (n:Int):List (Nat × Bs)->Nat->Option Nat->Option Nat
 | [],_,r=>r
 | x :: t,i,r=>lastGo n t (i+1) (if (x.1:Int)=n then some i else r)
def lastOf (l:List (Nat × Bs)) (n:Int):Option Nat:=lastGo n l 0 none
theorem lastGo_snoc (n:Int) (x:Nat × Bs):∀(l:List (Nat × Bs)) (i:Nat) (r:Option Nat),lastGo n (l++[x]) i r=if (x.1:Int)=n then some (i+l.length) else lastGo n l i r
 | [],i,r=>by simp [lastGo]
 | y :: t,i,r=>by
  simp only [List.cons_append,lastGo,List.length_cons]
  rw [lastGo_snoc n x t]
  split
  ·congr 1;omega
  ·rfl
theorem lastOf_snoc (l:List (Nat × Bs)) (x:Nat × Bs) (n:Int):lastOf (l++[x]) n=if (x.1:Int)=n then some l.length else lastOf l n:=by
 unfold lastOf;rw [lastGo_snoc];simp
def latest:List (Nat × Bs)->Nat->Bs->Bs
 | [],_,d=>d
 | x :: t,n,d=>latest t n (if x.1=n then x.2 else d)
theorem latest_snoc (x:Nat × Bs) (n:Nat):∀(l:List (Nat × Bs)) (d:Bs),latest (l++[x]) n d=if x.1=n then x.2 else latest l n d
 | [],d=>rfl
 | y :: t,d=>by simp only [List.cons_append,latest];rw [latest_snoc x n t]
theorem snoc_cases {α:Type} (l:List α):l=[]\/∃t x,l=t++[x]:=by
 rcases List.eq_nil_or_concat l with h | ⟨t,x,h⟩
 ·exact .inl h
 ·exact .inr ⟨t,x,by simpa using h⟩
theorem snoc_ind {α:Type} {P:List α->Prop} (h0:P []) (h1:∀t x,P t->P (t++[x])):∀l,P l:=by
 intro l
 generalize hn:l.length=n
 induction n generalizing l with
 | zero=>rw [List.eq_nil_of_length_eq_zero hn];exact h0
 | succ n ih =>
  rcases snoc_cases l with rfl | ⟨t,x,rfl⟩
  ·exact h0
  ·exact h1 t x (ih t (by simpa using hn))
theorem lastOf_spec (l:List (Nat × Bs)) (n:Nat) (d:Bs):match lastOf l n with
  | some j=>j<l.length/\∃b,l[j]?=some (n,b)/\latest l n d=b
  | none=>latest l n d=d/\∀x∈l,x.1≠n:=by
 refine snoc_ind (P:=fun l=>match lastOf l n with
  | some j=>j<l.length/\∃b,l[j]?=some (n,b)/\latest l n d=b
  | none=>latest l n d=d/\∀x∈l,x.1≠n) ⟨rfl,by simp⟩ ?_ l
 intro t x ih
 rw [lastOf_snoc]
 by_cases hx:x.1=n
 ·rw [if_pos (by omega)]
  refine ⟨by simp,x.2,?_,by rw [latest_snoc,if_pos hx]⟩
  simp [<- hx]
 ·rw [if_neg (by omega)]
  split
  ·rename_i j hj
   rw [hj] at ih
   obtain ⟨h1,b,h2,h3⟩:=ih
   exact ⟨by simp;omega,b,by rw [List.getElem?_append_left h1];exact h2,by rw [latest_snoc,if_neg hx];exact h3⟩
  ·rename_i hj
   rw [hj] at ih
   refine ⟨by rw [latest_snoc,if_neg hx];exact ih.1,?_⟩
   intro y hy
   rcases List.mem_append.1 hy with h | h
   ·exact ih.2 y h
   ·simp at h;subst h;exact hx
theorem lastOf_some {l:List (Nat × Bs)} {n j:Nat} (d:Bs) (h:lastOf l n=some j):j<l.length/\l[j]?=some (n,latest l n d):=by
 have:=lastOf_spec l n d
 rw [h] at this
 obtain ⟨h1,b,h2,h3⟩:=this
 exact ⟨h1,by rw [h3];exact h2⟩
theorem lastOf_none {l:List (Nat × Bs)} {n:Nat} (d:Bs) (h:lastOf l n=none):latest l n d=d:=by
 have:=lastOf_spec l n d
 rw [h] at this
 exact this.1
theorem lastOf_isSome (l:List (Nat × Bs)) (n:Int):(lastOf l n).isSome=l.any fun x=>decide ((x.1:Int)=n):=by
 refine snoc_ind (P:=fun l=>(lastOf l n).isSome=l.any fun x=>decide ((x.1:Int)=n)) rfl ?_ l
 intro t x ih
 rw [lastOf_snoc,List.any_append,<- ih]
 by_cases hx:(x.1:Int)=n<;>simp [hx]
def stl (kp:Nat->Bool):List (Nat × Bs)->Nat->List Bs->List Bs
 | [],_,s=>s
 | x :: t,i,s=>stl kp t (i+1) (if kp i then s.set x.1 x.2 else s)
theorem stl_snoc (kp:Nat->Bool) (x:Nat × Bs):∀(l:List (Nat × Bs)) (i:Nat) (s:List Bs),stl kp (l++[x]) i s=if kp (i+l.length) then (stl kp l i s).set x.1 x.2 else stl kp l i s
 | [],i,s=>by simp [stl]
 | y :: t,i,s=>by
  simp only [List.cons_append,stl,List.length_cons]
  rw [stl_snoc kp x t]
  have e:i+1+t.length=i+(t.length+1):=by omega
  rw [e]
theorem stl_length (kp:Nat->Bool):∀(l:List (Nat × Bs)) (i:Nat) (s:List Bs),(stl kp l i s).length=s.length
 | [],_,_=>rfl
 | x :: t,i,s=>by
  unfold stl
  rw [stl_length kp t]
  split
  ·simp
  ·rfl
def stlTo (kp:Nat->Bool) (l:List (Nat × Bs)) (k:Nat) (s:List Bs):List Bs:=stl kp (l.take k) 0 s
theorem stlTo_zero (kp:Nat->Bool) (l:List (Nat × Bs)) (s:List Bs):stlTo kp l 0 s=s:=rfl
theorem stlTo_all (kp:Nat->Bool) (l:List (Nat × Bs)) (s:List Bs):stlTo kp l l.length s=stl kp l 0 s:=by unfold stlTo;rw [List.take_length]
theorem stlTo_succ (kp:Nat->Bool) (l:List (Nat × Bs)) (k:Nat) (s:List Bs) {n:Nat} {b:Bs} (h:l[k]?=some (n,b)) :
  stlTo kp l (k+1) s=if kp k then (stlTo kp l k s).set n b else stlTo kp l k s:=by
 unfold stlTo
 obtain ⟨hk,he⟩:=List.getElem?_eq_some_iff.1 h
 rw [List.take_succ_eq_append_getElem hk,he,stl_snoc]
 simp [Nat.min_eq_left (Nat.le_of_lt hk)]
theorem stl_all {p:Bs->Prop} (kp:Nat->Bool):∀(l:List (Nat × Bs)) (i:Nat) (s:List Bs),(∀x∈l,p x.2)->(∀b∈s,p b)->∀b∈stl kp l i s,p b
 | [],_,_,_,hs=>hs
 | x :: t,i,s,hl,hs=>by
  unfold stl
  refine stl_all kp t _ _ (fun y hy=>hl y (List.mem_cons_of_mem _ hy)) ?_
  split
  ·intro b hb
   rcases List.mem_or_eq_of_mem_set hb with h | h
   ·exact hs b h
   ·rw [h];exact hl x (List.mem_cons_self ..)
  ·exact hs
theorem stl_true (n:Nat):∀(l:List (Nat × Bs)) (i:Nat) (s:List Bs),n<s.length->(stl (fun _=>true) l i s)[n]?=some (latest l n (s.getD n []))
 | [],_,s,h=>by simp [stl,latest,List.getD,h]
 | x :: t,i,s,h=>by
  simp only [stl,if_true,latest]
  rw [stl_true n t _ _ (by simpa using h)]
  congr 2
  by_cases hx:x.1=n
  ·subst hx;simp [List.getD,h]
  ·simp [List.getD,hx]
def stillIn (l:List (Nat × Bs)) (k:Nat) (n:Int):Bool:=(l.any fun x=>decide ((x.1:Int)=n)) && !((l.take k).any fun x=>decide ((x.1:Int)=n))
theorem stillIn_zero (l:List (Nat × Bs)) (n:Int):stillIn l 0 n=(lastOf l n).isSome:=by rw [lastOf_isSome];simp [stillIn]
theorem stillIn_all (l:List (Nat × Bs)) (n:Int):stillIn l l.length n=false:=by simp [stillIn]
theorem stillIn_succ (l:List (Nat × Bs)) (k:Nat) (n:Int) {m:Nat} {b:Bs} (h:l[k]?=some (m,b)):stillIn l (k+1) n=if (m:Int)=n then false else stillIn l k n:=by
 obtain ⟨hk,he⟩:=List.getElem?_eq_some_iff.1 h
 unfold stillIn
 rw [List.take_succ_eq_append_getElem hk,he,List.any_append]
 by_cases hm:(m:Int)=n<;>simp [hm]
def Dk.val (k:Dk) (n:Nat):Bs:=latest k.waits n (k.sure.getD n [])
def Dk.write (k:Dk) (n:Nat) (b:Bs):Dk:={ k with waits:=k.waits++[(n,b)] }
def Dk.settle (k:Dk) (kp:Nat->Bool):Dk:={ k with sure:=stl kp k.waits 0 k.sure,waits:=[] }
def noughts:Bs:=List.replicate 128 0
def newDk (sectors:Nat):Dk:={ sure:=List.replicate sectors noughts,waits:=[],dead:=false }
def newSf (disks sectors:Nat):Sf:={ disks:=List.replicate disks (newDk sectors),sectors:=sectors,count:=0,off:=false,left:=0 }
open Go.RowKit Go.Maps
theorem block_of_add (a:Addr) (n:Nat):(a.add n).block=a.block:=by unfold Addr.add;split<;>rfl
def Reads (w:World) (B:Nat) (A:Option Addr) (n:Nat) (xs:List Value):Prop :=
 xs.length=n/\(0<n->∃ad,A=some ad/\ad.block<B/\∀j u,xs[j]?=some u->w.cell? (ad.add j)=some u)
section
variable {w w':World} {B B' n:Nat} {A:Option Addr} {xs:List Value}
theorem Reads.none_:Reads w B A 0 []:=⟨rfl,fun h=>absurd h (by omega)⟩
theorem Reads.at_ {k:Nat} (h:Reads w B A n xs) (hk:k<n):∃ad u,A=some ad/\ad.block<B/\xs[k]?=some u/\w.cell? (ad.add k)=some u:=by
 obtain ⟨ad,e,hb,hc⟩:=h.2 (by omega)
 have hl:k<xs.length:=by have:=h.1;omega
 exact ⟨ad,xs[k],e,hb,List.getElem?_eq_getElem hl,hc k _ (List.getElem?_eq_getElem hl)⟩
theorem Reads.keep (h:Reads w B A n xs) (hk:∀p:Addr,p.block<B->w'.cell? p=w.cell? p):Reads w' B A n xs :=
 ⟨h.1,fun hn=>by
  obtain ⟨ad,e,hb,hc⟩:=h.2 hn
  exact ⟨ad,e,hb,fun j u hu=>(hk _ (by rw [block_of_add];exact hb)).trans (hc j u hu)⟩⟩
theorem Reads.more (h:Reads w B A n xs) (hB:B<=B'):Reads w B' A n xs :=
 ⟨h.1,fun hn=>by
  obtain ⟨ad,e,hb,hc⟩:=h.2 hn
  exact ⟨ad,e,by omega,hc⟩⟩
theorem Reads.below (h:Reads w B A n xs) (hb:Below B w w'):Reads w' B A n xs:=h.keep fun _ hp=>hb.cell hp
theorem Reads.alloc (h:Reads w B A n xs) (hB:B<=w.heap.size) (o:Obj):Reads (w.alloc o) B A n xs:=h.keep fun p hp=>World.cell?_alloc_lt w o p (by omega)
theorem Reads.of_own {base:Nat} {e:TypeId} {c:Nat} (h:w.ownsRow base e 1 (.slice A n c) n xs):Reads w w.heap.size A n xs:=by
 refine ⟨by simpa using h.1,fun hn=>?_⟩
 obtain ⟨g,cap,hv,_,hlt⟩:=h.form hn
 have hA:A=some ⟨g,0,none⟩:=by injection hv
 subst hA
 exact ⟨_,rfl,hlt,h.cells (g:=g) rfl⟩
end
def bts (l:List Nat):List Value:=l.map fun (x:Nat)=>Value.int .u8 (x:Int)
def Small (l:List Nat):Prop:=∀x∈l,x<256
theorem bts_length (l:List Nat):(bts l).length=l.length:=by simp [bts]
theorem bts_get (l:List Nat) (k:Nat) (h:k<l.length):(bts l)[k]?=some (.int .u8 ((l.getD k 0:Nat):Int)):=by
 simp [bts,List.getElem?_eq_getElem h]
theorem Small.get {l:List Nat} (h:Small l) (k:Nat):l.getD k 0<256:=by
 by_cases hk:k<l.length
 ·have e:l.getD k 0=l[k]:=by simp [List.getD,List.getElem?_eq_getElem hk]
  rw [e];exact h _ (List.getElem_mem hk)
 ·have e:l.getD k 0=0:=by simp [List.getD,List.getElem?_eq_none (Nat.le_of_not_lt hk)]
  rw [e];decide
theorem Reads.byte {w:World} {B n:Nat} {A:Option Addr} {l:List Nat} {k:Nat} (h:Reads w B A n (bts l)) (hk:k<n) :
  ∃ad,A=some ad/\ad.block<B/\w.cell? (ad.add k)=some (.int .u8 ((l.getD k 0:Nat):Int)):=by
 obtain ⟨ad,u,e,hb,hx,hc⟩:=h.at_ hk
 rw [bts_get l k (by rw [<- bts_length l,h.1];exact hk)] at hx
 exact ⟨ad,e,hb,by rw [hc,<- hx]⟩
theorem Reads.len {w:World} {B n:Nat} {A:Option Addr} {l:List Nat} (h:Reads w B A n (bts l)):l.length=n:=by rw [<- h.1,bts_length]
def strL (l:List Nat):ByteArray:=strOfNums (l.map fun (x:Nat)=>(x:Int))
def sv (l:List Nat):Value:=.string (strL l)
theorem bts_ints (l:List Nat):bts l=(l.map fun (x:Nat)=>(x:Int)).map (Value.int .u8):=by simp [bts]
theorem run_str {w:World} {B n:Nat} {A:Option Addr} {l:List Nat} (c:Nat) (hr:Reads w B A n (bts l)) :
  (convert 24 9 (.slice A n c)).run Tryz.prog w=.ok (.string (strL l)) w:=by
 have hlen:=hr.len
 rcases A with _ | ad
 ·have hn:n=0:=by
   rcases Nat.eq_zero_or_pos n with h | h
   ·exact h
   ·obtain ⟨ad,e,_⟩:=hr.2 h;cases e
  subst hn
  have hl:l=[]:=List.eq_nil_of_length_eq_zero hlen
  subst hl
  exact run_convert_bytes_nil (P:=Tryz.prog) w 24 5 Tryz.underlying24 Tryz.underlying5 0 c 9 Tryz.underlying9
 ·have hcells:∀j v,(bts l)[j]?=some v->w.cell? (ad.add j)=some v:=by
   intro j v hj
   rcases Nat.eq_zero_or_pos n with h | h
   ·have hl:l=[]:=List.eq_nil_of_length_eq_zero (by omega)
    subst hl
    simp [bts] at hj
   ·obtain ⟨ad',e,_,hc⟩:=hr.2 h
    injection e with e
    subst e
    exact hc j v hj
  have hl:(loadCells ad n).run Tryz.prog w=.ok ((l.map fun (x:Nat)=>(x:Int)).map (Value.int .u8)).toArray w:=by
   have:=run_loadCells_list (P:=Tryz.prog) w ad (bts l) hcells
   rw [bts_length,hlen,bts_ints] at this
   exact this
  rw [run_convert_bytes_string w 24 9 5 _ n c Tryz.underlying24 Tryz.underlying5 Tryz.underlying9,run_bytesToString w _ n c _ hl,foldl_push_bytes]
  simp [strL,strOfNums,ByteArray.empty,ByteArray.emptyWithCapacity]
  rfl
structure Only (F:Nat->Prop) (w w':World):Prop where
 os:w'.os=w.os
 tape:w'.tape=w.tape
 output:w'.output=w.output
 size:w.heap.size<=w'.heap.size
 block:∀k,k<w.heap.size->¬F k->w'.heap[k]?=w.heap[k]?
section
variable {F F':Nat->Prop} {w w1 w2:World}
theorem Only.refl (F:Nat->Prop) (w:World):Only F w w:=⟨rfl,rfl,rfl,Nat.le_refl _,fun _ _ _=>rfl⟩
theorem Only.trans (h:Only F w w1) (k:Only F' w1 w2) (hF:∀b,F' b->F b\/w.heap.size<=b):Only F w w2 :=
 ⟨k.os.trans h.os,k.tape.trans h.tape,k.output.trans h.output,Nat.le_trans h.size k.size,fun i hi hn =>
  (k.block i (Nat.lt_of_lt_of_le hi h.size) (fun e=>(hF i e).elim hn (by omega))).trans (h.block i hi hn)⟩
theorem Only.mono (h:Only F w w1) (hF:∀b,F b->F' b):Only F' w w1:=⟨h.os,h.tape,h.output,h.size,fun k hk hn=>h.block k hk fun e=>hn (hF k e)⟩
theorem Only.drew (h:Only F w w1):Only F w w1.drew:=⟨h.os,h.tape,h.output,h.size,h.block⟩
theorem Only.alloc (h:Only F w w1) (o:Obj):Only F w (w1.alloc o) :=
 h.trans (F':=fun _=>False) ⟨rfl,rfl,rfl,by simp,fun k hk _=>Below.heap_alloc _ _ _ hk⟩ (fun _ h=>h.elim)
theorem Only.setCell (h:Only F w w1) {p:Addr} (hp:F p.block\/w.heap.size<=p.block) (u:Value):Only F w (w1.setCell p u) :=
 h.trans (F':=fun b=>b=p.block) ⟨rfl,rfl,rfl,by simp [World.setCell],fun k _ hn=>Below.heap_setCell _ _ _ _ hn⟩ (fun b e=>by subst e;exact hp)
theorem Only.grown {row:Option Nat} (h:Only F w w1) (hg:w1.grownBy w2 row) (hr:∀b,row=some b->F b\/w.heap.size<=b):Only F w w2 :=
 h.trans (F':=fun b=>row=some b) ⟨hg.os,hg.tape,hg.output,hg.size,fun k hk hn=>hg.block k hk (fun e=>hn e.symm)⟩ hr
theorem Only.of_below {B:Nat} (h:Below B w w1) (hB:∀b,B<=b->b<w.heap.size->F b):Only F w w1 :=
 ⟨h.os,h.tape,h.output,h.size,fun k hk hn=>h.block k (by false_or_by_contra;exact hn (hB k (by omega) hk))⟩
theorem Only.below {B:Nat} (h:Only F w w1) (hB:∀b,F b->B<=b) (hs:B<=w.heap.size):Below B w w1 :=
 ⟨h.os,h.tape,h.output,h.size,fun k hk=>h.block k (by omega) (fun e=>by have:=hB k e;omega)⟩
theorem Only.cell (h:Only F w w1) {p:Addr} (hp:p.block<w.heap.size) (hn:¬F p.block):w1.cell? p=w.cell? p:=World.cell?_of_block (w:=w) (h.block _ hp hn)
theorem Only.frozen (h:Only F w w1) {p:Addr} (hp:p.block<w.heap.size) (hn:¬F p.block):w1.frozen? p=w.frozen? p:=World.frozen?_of_block (w:=w) (h.block _ hp hn)
end
theorem same_row {w w':World} {base:Nat} {e:TypeId} {size:Nat} {v:Value} {n:Nat} {xs:List Value} (h:w.ownsRow base e size v n xs) (hk:∀b,v.ownBlock=some b->w'.heap[b]?=w.heap[b]?):w'.ownsRow base e size v n xs:=by
 obtain ⟨h1,h2⟩:=h
 refine ⟨h1,?_⟩
 rcases h2 with h2 | ⟨g,cap,cur,hv,hg,hh,r⟩
 ·exact .inl h2
 ·exact .inr ⟨g,cap,cur,hv,hg,by rw [hk g (by rw [hv];rfl)];exact hh,r⟩
theorem same_map {H:Type} {w w':World} {P:Program} {k:TypeId} {R:Value->Option (DataW H × List MemPlace)} {b n:Nat} {D:DataW H} (h:w.ownsMap P k R b n D) (hk:w'.heap[b]?=w.heap[b]?):w'.ownsMap P k R b n D:=by
 obtain ⟨es,clock,hb,r⟩:=h
 exact ⟨es,clock,by rw [hk];exact hb,r⟩
/-! ### the map of the last writes -/
theorem lawInt:Keyed Tryz.prog 3:=int_keyed Tryz.underlying3
theorem zeroInt (w:World):(zeroValue 3).run Tryz.prog w=.ok (.int .i64 0) w:=by kernel_rfl
theorem keyInt (x:Nat) (hx:x<=9223372036854775807):keyOf Tryz.prog 3 (.int .i64 (x:Int))=some (.int .i64 (x:Int)):=keyOf_int_mk Tryz.underlying3 (by exact WalkArith.wf_i64 (by omega))
theorem elInt (x:Nat) (hx:x<=9223372036854775807):plainElem (H:=Unit) Tryz.prog 3 (.int .i64 (x:Int))=some (.lit (.int .i64 (x:Int)),[]):=plainElem_int Tryz.underlying3 (by exact WalkArith.wf_i64 (by omega))
def MapIs (w:World) (m n:Nat) (f:Int->Option Nat):Prop :=
 ∃D:DataW Unit,w.ownsMap Tryz.prog 3 (plainElem Tryz.prog 3) m n D/\∀x:Int,Maps.has D (.int .i64 x)=(f x).isSome/\∀j,f x=some j->D.atKey (.int .i64 x) (.lit (.int .i64 0))=.lit (.int .i64 (j:Int))
theorem MapIs.lt {w:World} {m n:Nat} {f:Int->Option Nat} (h:MapIs w m n f):m<w.heap.size:=by
 obtain ⟨D,h,_⟩:=h;exact h.lt
theorem MapIs.same {w w':World} {m n:Nat} {f:Int->Option Nat} (h:MapIs w m n f) (hk:w'.heap[m]?=w.heap[m]?):MapIs w' m n f:=by
 obtain ⟨D,h,r⟩:=h;exact ⟨D,same_map h hk,r⟩
theorem put_is {D:DataW Unit} {f:Int->Option Nat} (hD:IsMap D) (x j:Nat) (hf:∀x:Int,Maps.has D (.int .i64 x)=(f x).isSome/\∀j,f x=some j->D.atKey (.int .i64 x) (.lit (.int .i64 0))=.lit (.int .i64 (j:Int))) :
  ∀y:Int,Maps.has (D.put (.int .i64 (x:Int)) (.lit (.int .i64 (j:Int)))) (.int .i64 y)=(if (x:Int)=y then some j else f y).isSome /\
   ∀i,(if (x:Int)=y then some j else f y)=some i->(D.put (.int .i64 (x:Int)) (.lit (.int .i64 (j:Int)))).atKey (.int .i64 y) (.lit (.int .i64 0))=.lit (.int .i64 (i:Int)):=by
 intro y
 by_cases h:(x:Int)=y
 ·subst h
  rw [if_pos rfl]
  refine ⟨by rw [Maps.has_put_same hD (by trivial)];rfl,fun i hi=>?_⟩
  injection hi with hi
  subst hi
  exact Maps.atKey_put_same hD (by trivial) _ _
 ·have hne:Lit.int .i64 y≠Lit.int .i64 (x:Int):=fun e=>h (by injection e with _ e;exact e.symm)
  rw [if_neg h]
  refine ⟨by rw [Maps.has_put_other hne];exact (hf y).1,fun i hi=>?_⟩
  rw [Maps.atKey_put_other hne]
  exact (hf y).2 i hi
theorem del_is {D:DataW Unit} {f:Int->Option Nat} (x:Nat) (hf:∀x:Int,Maps.has D (.int .i64 x)=(f x).isSome/\∀j,f x=some j->D.atKey (.int .i64 x) (.lit (.int .i64 0))=.lit (.int .i64 (j:Int))) :
  ∀y:Int,Maps.has (D.del (.int .i64 (x:Int))) (.int .i64 y)=(if (x:Int)=y then none else f y).isSome /\
   ∀i,(if (x:Int)=y then none else f y)=some i->(D.del (.int .i64 (x:Int))).atKey (.int .i64 y) (.lit (.int .i64 0))=.lit (.int .i64 (i:Int)):=by
 intro y
 by_cases h:(x:Int)=y
 ·subst h
  rw [if_pos rfl]
  exact ⟨by rw [Maps.has_del_same];rfl,fun i hi=>by cases hi⟩
 ·have hne:Lit.int .i64 y≠Lit.int .i64 (x:Int):=fun e=>h (by injection e with _ e;exact e.symm)
  rw [if_neg h]
  refine ⟨by rw [Maps.has_del_other hne];exact (hf y).1,fun i hi=>?_⟩
  rw [Maps.atKey_del_other hne]
  exact (hf y).2 i hi
theorem MapIs.empty {w:World} {m n:Nat} (h:MapIs w m n (fun _=>none)):MapIs w m 0 (fun _=>none):=by
 obtain ⟨D,⟨es,clock,hb,F,hs,hD⟩,hf⟩:=h
 have hk:=Maps.fit_keys F
 have hnil:es.toList=[]:=by
  rcases hes:es.toList with _ | ⟨x,t⟩
  ·rfl
  ·exfalso
   have hx:(WideElems.rg Tryz.prog 3 (plainElem (H:=Unit) Tryz.prog 3) x)∈es.toList.map (WideElems.rg Tryz.prog 3 (plainElem (H:=Unit) Tryz.prog 3)):=List.mem_map_of_mem (by rw [hes];exact List.mem_cons_self ..)
   obtain ⟨v,hv⟩:=hk _ hx
   obtain ⟨a,ha⟩:∃a,(WideElems.rg Tryz.prog 3 (plainElem (H:=Unit) Tryz.prog 3) x).1=.int .i64 a:=by
    generalize (WideElems.rg Tryz.prog 3 (plainElem (H:=Unit) Tryz.prog 3) x).1=l at hv
    cases v<;>simp [keyOf,mapKey,Tryz.underlying3] at hv
    exact ⟨_,hv.2.symm⟩
   have h1:=(hf a).1
   rw [hD,Maps.has_eq] at h1
   have h2:((es.toList.map (WideElems.rg Tryz.prog 3 (plainElem (H:=Unit) Tryz.prog 3))).foldr DataW.insert []).any (fun p=>p.1.sameKey (.int .i64 a))=true:=by
    rw [List.any_eq_true]
    refine ⟨_,(WideShapes.sorted_perm _).mem_iff.2 hx,?_⟩
    rw [ha]
    simp [Lit.sameKey]
   rw [h2] at h1
   cases h1
 have hsz:es.size=0:=by rw [<- Array.length_toList,hnil];rfl
 exact ⟨D,⟨es,clock,hb,F,by omega,hD⟩,hf⟩
/-! ### rows of structs -/
def rowOf (f:Nat->Nat->Value) (n size:Nat):List Value:=(List.range (n*size)).map fun j=>f (j / size) (j%size)
theorem rowOf_length (f:Nat->Nat->Value) (n size:Nat):(rowOf f n size).length=n*size:=by simp [rowOf]
theorem rowOf_at (f:Nat->Nat->Value) {n size i c:Nat} (hi:i<n) (hc:c<size):(rowOf f n size)[i*size+c]?=some (f i c):=by
 have hlt:i*size+c<n*size:=by
  have:(i+1)*size<=n*size:=Nat.mul_le_mul_right _ hi
  rw [Nat.succ_mul] at this
  omega
 have h1:(i*size+c) / size=i:=by
  rw [Nat.mul_comm,Nat.mul_add_div (by omega),Nat.div_eq_of_lt hc,Nat.add_zero]
 have h2:(i*size+c)%size=c:=by rw [Nat.mul_comm,Nat.mul_add_mod,Nat.mod_eq_of_lt hc]
 simp [rowOf,hlt,h1,h2]
theorem rowOf_set (f:Nat->Nat->Value) {n size i c:Nat} (hc:c<size) (v:Value):(rowOf f n size).set (i*size+c) v=rowOf (fun a b=>if a=i/\b=c then v else f a b) n size:=by
 have h1:(i*size+c) / size=i:=by
  rw [Nat.mul_comm,Nat.mul_add_div (by omega),Nat.div_eq_of_lt hc,Nat.add_zero]
 have h2:(i*size+c)%size=c:=by rw [Nat.mul_comm,Nat.mul_add_mod,Nat.mod_eq_of_lt hc]
 apply List.ext_getElem?
 intro j
 rw [List.getElem?_set]
 by_cases hj:i*size+c=j
 ·subst hj
  simp only [if_true,rowOf_length]
  by_cases hlt:i*size+c<n*size
  ·simp [rowOf,hlt,h1,h2]
  ·simp [rowOf,hlt]
 ·rw [if_neg hj]
  by_cases hlt:j<n*size
  ·have hne:¬(j / size=i/\j%size=c):=by
    rintro ⟨rfl,rfl⟩
    exact hj (by rw [Nat.mul_comm];exact Nat.div_add_mod j size)
   simp [rowOf,hlt,hne]
  ·simp [rowOf,hlt]
theorem rowOf_congr {f g:Nat->Nat->Value} {n size:Nat} (hs:0<size) (h:∀i c,i<n->c<size->f i c=g i c):rowOf f n size=rowOf g n size:=by
 unfold rowOf
 apply List.map_congr_left
 intro j hj
 have hj:j<n*size:=List.mem_range.1 hj
 exact h _ _ (Nat.div_lt_of_lt_mul (by rw [Nat.mul_comm];exact hj)) (Nat.mod_lt _ hs)
def flat (l:List (Nat × Bs)):List Value:=l.flatMap fun x=>[.int .i64 (x.1:Int),sv x.2]
theorem flat_snoc (l:List (Nat × Bs)) (x:Nat × Bs):flat (l++[x])=flat l++[.int .i64 (x.1:Int),sv x.2]:=by simp [flat]
theorem flat_at:∀(l:List (Nat × Bs)) (j n:Nat) (b:Bs),l[j]?=some (n,b)->(flat l)[j*2]?=some (.int .i64 (n:Int))/\(flat l)[j*2+1]?=some (sv b)
 | [],j,n,b,h=>by simp at h
 | x :: t,0,n,b,h=>by
  simp at h
  subst h
  simp [flat]
 | x :: t,j+1,n,b,h=>by
  have:=flat_at t j n b (by simpa using h)
  have e:flat (x :: t)=.int .i64 (x.1:Int) :: sv x.2 :: flat t:=by simp [flat]
  rw [e]
  have e1:(j+1)*2=j*2+1+1:=by omega
  have e2:(j+1)*2+1=(j*2+1)+1+1:=by omega
  rw [e1]
  simp only [List.getElem?_cons_succ]
  exact this
/-! ### a disk -/
structure Gh where
 s:Value
 m:Nat
 v:Value
instance:Inhabited Gh:=⟨⟨.slice none 0 0,0,.slice none 0 0⟩⟩
def Gh.has (g:Gh) (b:Nat):Prop:=g.s.ownBlock=some b\/g.m=b\/g.v.ownBlock=some b
def diskV (g:Gh) (dead:Bool):Nat->Value
 | 0=>g.s
 | 1=>g.v
 | 2=>.map (some g.m)
 | _=>.bool dead
def Sec (b:Bs):Prop:=b.length=128/\Small b
structure DiskIs (w:World) (sectors:Nat) (g:Gh) (k:Dk):Prop where
 len:k.sure.length=sectors
 sure:w.ownsRow 0 9 1 g.s sectors (k.sure.map sv)
 secs:∀b∈k.sure,Sec b
 waits:w.ownsRow 0 218 2 g.v k.waits.length (flat k.waits)
 fits:∀x∈k.waits,x.1<sectors/\Sec x.2
 map:MapIs w g.m k.waits.length (lastOf k.waits)
theorem DiskIs.same {w w':World} {sectors:Nat} {g:Gh} {k:Dk} (h:DiskIs w sectors g k) (hk:∀b,g.has b->w'.heap[b]?=w.heap[b]?):DiskIs w' sectors g k :=
 ⟨h.len,same_row h.sure fun b hb=>hk b (.inl hb),h.secs,same_row h.waits fun b hb=>hk b (.inr (.inr hb)),h.fits,h.map.same (hk _ (.inr (.inl rfl)))⟩
theorem DiskIs.lt {w:World} {sectors:Nat} {g:Gh} {k:Dk} (h:DiskIs w sectors g k) {b:Nat} (hb:g.has b):b<w.heap.size:=by
 rcases hb with hb | rfl | hb
 ·exact (h.sure.lt b hb).2
 ·exact h.map.lt
 ·exact (h.waits.lt b hb).2
/-! ### a shelf -/
structure ShelfIs (w:World) (p:Nat) (S:Sf) (F:Nat->Prop) (D:Nat) (gs:Nat->Gh):Prop where
 some_:1<=S.disks.length
 most:S.disks.length<=17
 sec1:1<=S.sectors
 secM:S.sectors<=4096
 left:S.left<=9223372036854775807
 root:w.heap[p]?=some (.cells #[.bool S.off,.int .i64 (S.left:Int),.slice (some ⟨D,0,none⟩) S.disks.length S.disks.length,.int .i64 (S.sectors:Int),.int .i64 S.count] 115 (0,0))
 row:w.ownsRow 0 120 4 (.slice (some ⟨D,0,none⟩) S.disks.length S.disks.length) S.disks.length (rowOf (fun i c=>diskV (gs i) ((S.disks.getD i default).dead) c) S.disks.length 4)
 disk:∀i k,S.disks[i]?=some k->DiskIs w S.sectors (gs i) k
 apart:∀i j b,i<S.disks.length->j<S.disks.length->i≠j->(gs i).has b->¬(gs j).has b
 inF:F p/\F D/\∀i b,i<S.disks.length->(gs i).has b->F b
 ltF:∀b,F b->b<w.heap.size
theorem own_form {w:World} {base:Nat} {e:TypeId} {size:Nat} {v:Value} {n:Nat} {xs:List Value} (h:w.ownsRow base e size v n xs) (hn:0<n) :
  ∃g cap,v=.slice (some ⟨g,0,none⟩) n cap/\g<w.heap.size/\n<=cap/\cap<=9223372036854775807:=by
 rcases h.2 with ⟨_,h0⟩ | ⟨g,cap,cur,rfl,_,hh,hnc,hcm,_⟩
 ·omega
 ·exact ⟨g,cap,rfl,lt_of_block hh,hnc,by unfold maxLen at hcm;omega⟩
theorem cell_set_other (w:World) (a p:Addr) (v:Value) (h:p.block≠a.block):(w.setCell a v).cell? p=w.cell? p:=World.cell?_setCell_other w a p v (fun e=>h (by rw [e]))
theorem cell_at {w:World} {base:Nat} {e:TypeId} {size g n cap j:Nat} {xs:List Value} {u:Value} (h:w.ownsRow base e size (.slice (some ⟨g,0,none⟩) n cap) n xs) (hj:xs[j]?=some u):w.cell? ⟨g,j,none⟩=some u:=by
 have hlt:j<n*size:=by rw [<- h.1];exact (List.getElem?_eq_some_iff.1 hj).1
 rw [h.cellAt j hlt];exact hj
set_option maxRecDepth 20000 in
theorem dread_wait (w:World) (D o sectors n j:Nat) (g:Gh) (k:Dk) (h:DiskIs w sectors g k) (hn:n<sectors) (hs:sectors<=4096)
  (c1:w.cell? ⟨D,o+1,none⟩=some g.v) (c2:w.cell? ⟨D,o+2,none⟩=some (.map (some g.m))) (hj:lastOf k.waits n=some j) :
  Calls Tryz.prog 276 #[.pointer (some ⟨D,o,none⟩),.int .i64 n] w fun e w'=>e=.returned (sv (k.val n))/\w=w':=by
 obtain ⟨hjl,hjw⟩:=lastOf_some (k.sure.getD n []) hj
 obtain ⟨gb,cap,hv,_,hlc,hcm⟩:=own_form h.waits (by omega)
 have hr:=h.waits
 rw [hv] at hr c1
 have hc:=cell_at hr (flat_at _ _ _ _ hjw).2
 obtain ⟨Dm,hown,hf⟩:=h.map
 have hh:Maps.has Dm (.int .i64 (n:Int))=true:=by rw [(hf n).1,hj];rfl
 have ha:=(hf n).2 j hj
 have hval:k.val n=latest k.waits n (k.sure.getD n []):=rfl
 have hkey:=keyInt n (by omega)
 generalize latest k.waits n (k.sure.getD n [])=b at *
 generalize k.waits.length=L at *
 clear hr hv hjw hf hj h
 have HV:=hid hval
 clear hval
 go_enter Tryz.func276,Tryz.ntmps276
 go_wp2_with (first
  | (at_lookup;refine wpList_lookup_own_ok_int _ rfl _ _ 117 rfl 3 3 .i64 lawInt Tryz.underlying117 Tryz.underlying3 (zeroInt _) g.m L Dm rfl hown _ _ rfl hkey ?_;intro c hat hwc;obtain rfl:(j:Int)=c:=(by rw [ha] at hat;injection hat with e;injection e);clear hat hwc)
  | go_in)
 go_ret
 exact ⟨by rw [HV.out];rfl,rfl⟩
set_option maxRecDepth 20000 in
theorem dread_sure (w:World) (D o sectors n:Nat) (g:Gh) (k:Dk) (h:DiskIs w sectors g k) (hn:n<sectors) (hs:sectors<=4096)
  (c0:w.cell? ⟨D,o,none⟩=some g.s) (c2:w.cell? ⟨D,o+2,none⟩=some (.map (some g.m))) (hj:lastOf k.waits n=none) :
  Calls Tryz.prog 276 #[.pointer (some ⟨D,o,none⟩),.int .i64 n] w fun e w'=>e=.returned (sv (k.val n))/\w=w':=by
 have hval:k.val n=k.sure.getD n []:=lastOf_none _ hj
 obtain ⟨gb,cap,hv,_,hlc,hcm⟩:=own_form h.sure (by omega)
 have hr:=h.sure
 rw [hv] at hr c0
 have hl:=h.len
 have hc:=cell_at hr (j:=n) (u:=sv (k.sure.getD n [])) (by simp [List.getD,hl,hn])
 obtain ⟨Dm,hown,hf⟩:=h.map
 have hh:Maps.has Dm (.int .i64 (n:Int))=false:=by rw [(hf n).1,hj];rfl
 have hkey:=keyInt n (by omega)
 generalize k.sure.getD n []=b at *
 generalize k.waits.length=L at *
 clear hr hv hf hj h hl
 have HV:=hid hval
 clear hval
 go_enter Tryz.func276,Tryz.ntmps276
 go_wp2_with (first
  | (at_lookup;refine wpList_lookup_own_ok_int _ rfl _ _ 117 rfl 3 3 .i64 lawInt Tryz.underlying117 Tryz.underlying3 (zeroInt _) g.m L Dm rfl hown _ _ rfl hkey ?_;intro c hat hwc;clear hat hwc)
  | go_in)
 go_ret
 exact ⟨by rw [HV.out];rfl,rfl⟩
theorem dread_any (w:World) (D o sectors n:Nat) (g:Gh) (k:Dk) (h:DiskIs w sectors g k) (hn:n<sectors) (hs:sectors<=4096)
  (c0:w.cell? ⟨D,o,none⟩=some g.s) (c1:w.cell? ⟨D,o+1,none⟩=some g.v) (c2:w.cell? ⟨D,o+2,none⟩=some (.map (some g.m))) :
  Calls Tryz.prog 276 #[.pointer (some ⟨D,o,none⟩),.int .i64 n] w fun e w'=>e=.returned (sv (k.val n))/\w=w':=by
 rcases hj:lastOf k.waits n with _ | j
 ·exact dread_sure w D o sectors n g k h hn hs c0 c2 hj
 ·exact dread_wait w D o sectors n j g k h hn hs c1 c2 hj
theorem own_shape2 {w:World} {base:Nat} {e:TypeId} {size:Nat} {v:Value} {n:Nat} {xs:List Value} (h:w.ownsRow base e size v n xs):∃A c,v=.slice A n c:=by
 rcases h.2 with ⟨rfl,rfl⟩ | ⟨g,cap,cur,rfl,_⟩
 ·exact ⟨none,0,rfl⟩
 ·exact ⟨_,_,rfl⟩
theorem row_ne_map {w:World} {base:Nat} {e:TypeId} {size:Nat} {v:Value} {n m c:Nat} {xs:List Value} {f:Int->Option Nat} (h:w.ownsRow base e size v n xs) (hm:MapIs w m c f):v.ownBlock≠some m:=by
 intro e
 obtain ⟨Dm,⟨es,clock,hb,_⟩,_⟩:=hm
 rcases h.2 with ⟨rfl,rfl⟩ | ⟨g,cap,cur,rfl,_,hh,_⟩
 ·cases e
 ·simp only [Value.ownBlock,Option.some.injEq] at e
  subst e
  rw [hb] at hh
  cases hh
theorem cells2_new (w:World) (x y:Value) (t:TypeId):∀j u,[x,y][j]?=some u->(w.alloc (.cells #[x,y] t)).cell? ((⟨w.heap.size,0,none⟩:Addr).add j)=some u:=by
 intro j u hu
 have e:(⟨w.heap.size,0,none⟩:Addr).add j=⟨w.heap.size,j,none⟩:=by unfold Addr.add;split<;>simp_all
 rw [e,World.cell?_alloc_at _ _ _ _ rfl]
 match j,hu with
 | 0,hu=>simpa using hu
 | 1,hu=>simpa using hu
theorem one2 (n:Int) (s:ByteArray):∀u∈[Value.int .i64 n,.string s],u.oneCell'=true:=by
 intro u hu
 simp only [List.mem_cons,List.not_mem_nil,or_false] at hu
 rcases hu with rfl | rfl<;>rfl
theorem info_write:(Tryz.prog.info? 218).map (fun i=>(i.zero,i.size,i.bytes))=some (some (.agg #[.int .i64 0,.string ⟨#[]⟩]),2,24):=by kernel_rfl
set_option maxRecDepth 20000 in
theorem dwrite_any (w:World) (D o sectors n:Nat) (b:Bs) (g:Gh) (k:Dk) (h:DiskIs w sectors g k) (hn:n<sectors) (hs:sectors<=4096) (hD:¬g.has D)
  (hL:k.waits.length<1099511627776)
  (c1:w.cell? ⟨D,o+1,none⟩=some g.v) (f1:w.frozen? ⟨D,o+1,none⟩=false) (c2:w.cell? ⟨D,o+2,none⟩=some (.map (some g.m))) :
  Calls Tryz.prog 261 #[.pointer (some ⟨D,o,none⟩),.int .i64 n,sv b] w fun e w'=>e=.returned (.tuple #[]) /\
   ∃w1 v,w'=w1.setCell ⟨D,o+1,none⟩ v/\Only (fun b=>b=g.m\/g.v.ownBlock=some b) w w1 /\
    w1.ownsRow 0 218 2 v (k.waits.length+1) (flat (k.waits++[(n,b)]))/\MapIs w1 g.m (k.waits.length+1) (lastOf (k.waits++[(n,b)]))/\∀b',v.ownBlock=some b'->g.v.ownBlock=some b'\/w.heap.size<=b':=by
 obtain ⟨i0,hi,hz0,hz1,hz2⟩:=info_parts info_write
 obtain ⟨Dm,hown,hf⟩:=h.map
 have hrow:=h.waits
 have hkey:=keyInt n (by omega)
 have hval:=elInt k.waits.length (by omega)
 obtain ⟨A,cap,hv⟩:=own_shape2 hrow
 have hD1:g.m≠D:=fun e=>hD (.inr (.inl e))
 have hD2:g.v.ownBlock≠some D:=fun e=>hD (.inr (.inr e))
 have hmr:=row_ne_map hrow h.map
 have hDlt:=block_lt_of_cell c1
 rw [hv] at hrow c1 hD2 hmr
 generalize hLL:k.waits.length=L at *
 have HL:=hid hLL
 clear hLL h hD
 have HS:=hid (show sv b=.string (strL b) from rfl)
 show Calls Tryz.prog 261 #[.pointer (some ⟨D,o,none⟩),.int .i64 n,.string (strL b)] w _
 generalize strL b=s at *
 go_enter Tryz.func261,Tryz.ntmps261
 go_wp2
 go_still_tail 10,(by kernel_rfl)
 change wpList _ _ _ _ _ w.drew
 go_wp2_with (first
  | (at_mapUpdate;refine wpList_mapUpdate_own _ rfl _ _ _ 117 rfl 3 3 lawInt Tryz.underlying117 _ g.m L Dm rfl hown.drew (by unfold maxLen;omega) _ _ _ rfl rfl hkey _ [] hval ?_;intro w1 hown1 hgrow1;have k1:w1.cell? ⟨D,o+1,none⟩=some (.slice A L cap):=hgrow1.cell (w:=w.drew) c1 (fun e=>hD1 (by injection e with e;exact e.symm));have k2:w1.frozen? ⟨D,o+1,none⟩=false:=(World.frozen?_of_block (w:=w) (hgrow1.block D hDlt (fun e=>hD1 (by injection e with e;exact e.symm)))).trans f1;have hD1lt:=block_lt_of_cell k1;have hrow1:=hrow.kept (w:=w.drew) hgrow1 (.inr hmr))
  | (at_builtin;go_must (refine wpList_append_lies _ rfl _ _ 118 rfl 0 218 i0 _ 2 24 Tryz.underlying118 hi hz0 hz1 hz2 rfl (by decide) _ L _ rfl (hrow1.alloc _) ⟨w1.heap.size,0,none⟩ 1 1 [.int .i64 (n:Int),.string s] rfl rfl (cells2_new _ _ _ _) (one2 _ _) (by decide) (by unfold maxLen;omega) (by omega) (Nat.zero_le _) _ rfl ?_;intro g2 cap2 w2 hown2 hgrow2 hlie _;have k3:w2.cell? ⟨D,o+1,none⟩=some (.slice A L cap):=hgrow2.cell ((World.cell?_alloc_lt w1 _ ⟨D,o+1,none⟩ hD1lt).trans k1) (fun e=>hD2 e.symm);have k4:w2.frozen? ⟨D,o+1,none⟩=false:=(World.frozen?_of_block (w:=w1) ((hgrow2.block D (Nat.lt_of_lt_of_le hD1lt (by simp)) (fun e=>hD2 e.symm)).trans (Below.heap_alloc _ _ _ hD1lt))).trans k2))
  | go_in)
 go_end0
 have hm2:w2.heap[g.m]?=w1.heap[g.m]?:=(hgrow2.block g.m (Nat.lt_of_lt_of_le hown1.lt (by simp)) (fun e=>hmr e.symm)).trans (Below.heap_alloc _ _ _ hown1.lt)
 have hOnly:Only (fun b=>b=g.m\/(Value.slice A L cap).ownBlock=some b) w w2 :=
  (((Only.refl _ w).drew.grown hgrow1 (fun b e=>.inl (.inl (by injection e with e;exact e.symm)))).alloc _).grown hgrow2 (fun b e=>.inl (.inr e))
 have hLie:∀b',(Value.slice (some ⟨g2,0,none⟩) (L+1) cap2).ownBlock=some b'->(Value.slice A L cap).ownBlock=some b'\/w.heap.size<=b':=by
  intro b' hb'
  simp only [Value.ownBlock,Option.some.injEq] at hb'
  subst hb'
  rcases hlie with e | e
  ·exact .inl e
  ·right
   have h1:=hgrow1.size
   have h2:w.drew.heap.size=w.heap.size:=rfl
   rw [e]
   simp
   omega
 refine ⟨rfl,w2,_,rfl,hOnly,?_,⟨_,same_map hown1 hm2,?_⟩,hLie⟩
 ·rw [flat_snoc,HS.out];exact hown2
 ·intro x
  rw [lastOf_snoc,HL.out]
  exact put_is (f:=lastOf k.waits) hown.isMap n L hf x
theorem row_ne_row {w:World} {base base2:Nat} {e e2:TypeId} {size size2:Nat} {v v2:Value} {n n2 b:Nat} {xs xs2:List Value} (h:w.ownsRow base e size v n xs) (h2:w.ownsRow base2 e2 size2 v2 n2 xs2) (hne:e≠e2) (hb:v.ownBlock=some b):v2.ownBlock≠some b:=by
 intro e
 rcases h.2 with ⟨rfl,rfl⟩ | ⟨g,cap,cur,rfl,_,hh,_⟩
 ·cases hb
 ·rcases h2.2 with ⟨rfl,rfl⟩ | ⟨g2,cap2,cur2,rfl,_,hh2,_⟩
  ·cases e
  ·simp only [Value.ownBlock,Option.some.injEq] at e hb
   subst hb
   subst e
   rw [hh] at hh2
   injection hh2 with hh2
   injection hh2 with _ hh2 _
   exact hne hh2
def setF (g:Gh) (b:Nat):Prop:=b=g.m\/g.s.ownBlock=some b
def leftOf (l:List (Nat × Bs)) (j:Nat) (y:Int):Option Nat:=if stillIn l j y then lastOf l y else none
theorem leftOf_zero (l:List (Nat × Bs)):leftOf l 0=lastOf l:=by
 funext y
 unfold leftOf
 rw [stillIn_zero]
 cases h:lastOf l y<;>rfl
theorem leftOf_all (l:List (Nat × Bs)):leftOf l l.length=fun _=>none:=by
 funext y
 unfold leftOf
 rw [stillIn_all];rfl
theorem leftOf_succ (l:List (Nat × Bs)) (j:Nat) {n:Nat} {b:Bs} (h:l[j]?=some (n,b)):leftOf l (j+1)=fun y=>if (n:Int)=y then none else leftOf l j y:=by
 funext y
 unfold leftOf
 rw [stillIn_succ l j y h]
 by_cases e:(n:Int)=y
 ·rw [if_pos e,if_pos e];rfl
 ·rw [if_neg e,if_neg e]
structure SetRel (w wr:World) (g:Gh) (k:Dk) (kp:Nat->Bool) (sectors j:Nat):Prop where
 only:Only (setF g) w wr
 sure:wr.ownsRow 0 9 1 g.s sectors ((stlTo kp k.waits j k.sure).map sv)
 map:MapIs wr g.m k.waits.length (leftOf k.waits j)
theorem SetRel.start {w:World} {g:Gh} {k:Dk} {sectors:Nat} (h:DiskIs w sectors g k) (kp:Nat->Bool):SetRel w w g k kp sectors 0 :=
 ⟨Only.refl _ _,by rw [stlTo_zero];exact h.sure,by rw [leftOf_zero];exact h.map⟩
set_option maxRecDepth 20000 in
set_option maxHeartbeats 800000 in
theorem settle_all (w:World) (D o sectors:Nat) (g:Gh) (k:Dk) (h:DiskIs w sectors g k) (hs:sectors<=4096) (hD:¬g.has D) (hL:k.waits.length<1099511627776)
  (c0:w.cell? ⟨D,o,none⟩=some g.s) (c1:w.cell? ⟨D,o+1,none⟩=some g.v) (f1:w.frozen? ⟨D,o+1,none⟩=false) (c2:w.cell? ⟨D,o+2,none⟩=some (.map (some g.m))) :
  Calls Tryz.prog 117 #[.pointer (some ⟨D,o,none⟩),.func (.func 263) #[] #[]] w fun e w'=>e=.returned (.tuple #[]) /\
   ∃w1,w'=w1.setCell ⟨D,o+1,none⟩ (.slice none 0 0)/\SetRel w w1 g k (fun _=>true) sectors k.waits.length:=by
 have hD1:g.m≠D:=fun e=>hD (.inr (.inl e))
 have hD3:g.s.ownBlock≠some D:=fun e=>hD (.inl e)
 have hDF:¬setF g D:=fun e=>e.elim (fun e=>hD1 e.symm) hD3
 have hDlt:=block_lt_of_cell c1
 have hVF:∀b,g.v.ownBlock=some b->¬setF g b:=fun b hb e=>e.elim (fun e=>row_ne_map h.waits h.map (by rw [hb,e])) (row_ne_row h.waits h.sure (by decide) hb)
 obtain ⟨A,cap,hv⟩:=own_shape2 h.waits
 have hrow:=h.waits
 have hst:=SetRel.start h (fun _=>true)
 have hfits:=h.fits
 rw [hv] at c1 hrow hVF
 generalize hLL:k.waits.length=L at *
 have HL:=hid hLL
 clear hLL
 have HST:=hid hst
 clear hst
 go_enter Tryz.func117,Tryz.ntmps117
 go_wp2
 go_loopw [11] (fun i wr=>∃j:Nat,j<=L/\i=.int .i64 j/\Hid (SetRel w wr g k (fun _=>true) sectors j)) (fun i _=>L-(intOf i).toNat)
 case atStart=>exact ⟨0,Nat.zero_le _,rfl,HST⟩
 case round =>
  obtain ⟨j,hj,rfl,hrel⟩:=hrel
  by_cases hlt:j<L
  ·obtain ⟨n,b,hjw⟩:∃n b,k.waits[j]?=some (n,b):=⟨_,_,List.getElem?_eq_getElem (by rw [HL.out];exact hlt)⟩
   obtain ⟨gv,cap2,he,hgvlt,hlc,hcm⟩:=own_form hrow (by omega)
   simp only [Value.slice.injEq,true_and] at he
   obtain ⟨rfl,rfl⟩:=he
   have hmem:=hfits _ (List.mem_of_getElem? hjw)
   obtain ⟨gs,capS,hsv,hgslt,hslc,hscm⟩:=own_form h.sure (by have:=hmem.1;omega)
   have hO:=hrel.out.only
   have hsure:=hrel.out.sure
   have hgD:gs≠D:=fun e=>hD3 (by rw [hsv,e];rfl)
   have hgm:gs≠g.m:=fun e=>row_ne_map h.sure h.map (by rw [hsv,e];rfl)
   have k0:wr.cell? ⟨D,o,none⟩=some (.slice (some ⟨gs,0,none⟩) sectors capS):=(hO.cell hDlt hDF).trans (by rw [c0,hsv])
   have k1:wr.cell? ⟨D,o+1,none⟩=some (.slice (some ⟨gv,0,none⟩) L cap):=(hO.cell hDlt hDF).trans c1
   have k2:wr.cell? ⟨D,o+2,none⟩=some (.map (some g.m)):=(hO.cell hDlt hDF).trans c2
   have hgvF:=hVF gv rfl
   have hfl:=flat_at _ _ _ _ hjw
   have kn:wr.cell? ⟨gv,j*2,none⟩=some (.int .i64 (n:Int)):=(hO.cell hgvlt hgvF).trans (cell_at hrow hfl.1)
   have kb:wr.cell? ⟨gv,j*2+1,none⟩=some (.string (strL b)):=(hO.cell hgvlt hgvF).trans (cell_at hrow hfl.2)
   have hn:=hmem.1
   rw [hsv] at hsure
   have fs:∀i,wr.frozen? ⟨gs,i,none⟩=false:=fun i=>hsure.frozenAt i
   have fs0:=fs n
   obtain ⟨old,ko⟩:∃old,wr.cell? ⟨gs,n,none⟩=some old:=by
    have hlen:n<((stlTo (fun _=>true) k.waits j k.sure).map sv).length:=by rw [hsure.1];omega
    exact ⟨_,cell_at hsure (List.getElem?_eq_getElem hlen)⟩
   obtain ⟨Dm,hown,hf⟩:=hrel.out.map
   have hkey:=keyInt n (by omega)
   have hsz:=hO.size
   have HSV:=hid hsv
   have HF:=hid hf
   have HW:=hid hjw
   have HSU:=hid hsure
   have HOO:=hid hO
   clear hsv hf hjw hsure hO hfl fs hmem hfits hrow hrel hVF h c0 c1 c2 f1 hv HST hD
   have HS:=hid (show sv b=.string (strL b) from rfl)
   generalize strL b=s at *
   go_wp2_with (first | go_in)
   have hgs:=block_lt_of_cell k0
   have hq0:(wr.alloc (.cells #[.int .i64 (n:Int),.string s] 218)).cell? ⟨wr.heap.size,0,none⟩=some (.int .i64 (n:Int)):=by rw [World.cell?_alloc_at _ _ _ _ rfl];rfl
   have hq1:(wr.alloc (.cells #[.int .i64 (n:Int),.string s] 218)).cell? ⟨wr.heap.size,1,none⟩=some (.string s):=by rw [World.cell?_alloc_at _ _ _ _ rfl];rfl
   have hqb:=heap_alloc_new wr (.cells #[.int .i64 (n:Int),.string s] 218)
   have m0:(wr.alloc (.cells #[.int .i64 (n:Int),.string s] 218)).cell? ⟨D,o,none⟩=some (.slice (some ⟨gs,0,none⟩) sectors capS):=(World.cell?_alloc_lt wr _ ⟨D,o,none⟩ hgs).trans k0
   have m2:(wr.alloc (.cells #[.int .i64 (n:Int),.string s] 218)).cell? ⟨D,o+2,none⟩=some (.map (some g.m)):=(World.cell?_alloc_lt wr _ ⟨D,o+2,none⟩ hgs).trans k2
   have hgsl:gs<wr.heap.size:=(HSU.out.lt gs rfl).2
   have mf:(wr.alloc (.cells #[.int .i64 (n:Int),.string s] 218)).frozen? ⟨gs,n,none⟩=false:=(World.frozen?_of_block (w:=wr) (Below.heap_alloc _ _ _ hgsl)).trans fs0
   have mo:(wr.alloc (.cells #[.int .i64 (n:Int),.string s] 218)).cell? ⟨gs,n,none⟩=some old:=(World.cell?_alloc_lt wr _ ⟨gs,n,none⟩ hgsl).trans ko
   have hqs:wr.heap.size≠gs:=by omega
   have hqm:wr.heap.size≠g.m:=by have:=hown.lt;omega
   have hOn:=hid (HOO.out.alloc (.cells #[.int .i64 (n:Int),.string s] 218))
   have hSu:=hid (HSU.out.alloc (.cells #[.int .i64 (n:Int),.string s] 218))
   have hMa:=hown.alloc (.cells #[.int .i64 (n:Int),.string s] 218)
   clear k0 k1 k2 fs0 kn kb ko hown HOO HSU hgs hgsl hqb
   generalize wr.alloc (.cells #[.int .i64 (n:Int),.string s] 218)=w2 at *
   generalize wr.heap.size=q at *
   go_still_tail 9,(by kernel_rfl)
   change wpList _ _ _ _ _ w2.drew
   go_wp2
   have n0:(w2.setCell ⟨gs,n,none⟩ (.string s)).drew.cell? ⟨q,0,none⟩=some (.int .i64 (n:Int)):=(cell_set_other w2 ⟨gs,n,none⟩ ⟨q,0,none⟩ _ hqs).trans hq0
   have n2:(w2.setCell ⟨gs,n,none⟩ (.string s)).drew.cell? ⟨D,o+2,none⟩=some (.map (some g.m)):=(cell_set_other w2 ⟨gs,n,none⟩ ⟨D,o+2,none⟩ _ (fun e=>hgD e.symm)).trans m2
   have hOn3:=hid ((hOn.out.setCell (p:=⟨gs,n,none⟩) (.inl (.inr (by rw [HSV.out];rfl))) (.string s)).drew)
   have hSu3:Hid ((w2.setCell ⟨gs,n,none⟩ (.string s)).drew.ownsRow 0 9 1 (.slice (some ⟨gs,0,none⟩) sectors capS) sectors (((stlTo (fun _=>true) k.waits j k.sure).map sv).set n (.string s))):=hid (hSu.out.stored n (.string s)).1
   have hMa3:(w2.setCell ⟨gs,n,none⟩ (.string s)).drew.ownsMap Tryz.prog 3 (plainElem Tryz.prog 3) g.m k.waits.length Dm:=hMa.setCell (a:=⟨gs,n,none⟩) (fun e=>hgm e.symm) (.string s)
   clear m0 m2 mf mo hq0 hq1 hOn hSu hMa
   generalize (w2.setCell ⟨gs,n,none⟩ (.string s)).drew=w3 at *
   go_still_tail 6,(by kernel_rfl)
   change wpList _ _ _ _ _ w3.drew
   refine wpList_delete_own _ rfl _ _ 117 3 rfl 3 lawInt Tryz.underlying117 _ g.m _ Dm rfl hMa3.drew _ _ rfl hkey ?_
   intro w4 hown4 hturn4
   have hOn4:=hid (hOn3.out.drew.grown hturn4.grown (fun b e=>.inl (.inl (by injection e with e;exact e.symm))))
   have hSu4:=hid (hSu3.out.kept (w:=w3.drew) hturn4.grown (.inr (fun e=>hgm (by injection e))))
   clear n0 n2 hOn3 hSu3 hMa3 hturn4
   go_wp2
   go_roundw
   case rel =>
    refine ⟨j+1,by omega,by go_num,?_⟩
    refine hid ⟨hOn4.out,?_,_,hown4,?_⟩
    ·rw [stlTo_succ _ _ _ _ HW.out,if_pos rfl,HSV.out,List.map_set,HS.out]
     exact hSu4.out
    ·rw [leftOf_succ _ _ HW.out]
     exact del_is n HF.out
   case measure=>simp [intOf];omega
  ·obtain rfl:j=L:=by omega
   have hO:=hrel.out.only
   have k1:wr.cell? ⟨D,o+1,none⟩=some (.slice A j cap):=(hO.cell hDlt hDF).trans c1
   have kf:wr.frozen? ⟨D,o+1,none⟩=false:=(hO.frozen hDlt hDF).trans f1
   clear hrow hVF h c0 c1 c2 f1 hv HST hD hfits hO
   go_wp2
   go_end0
   exact ⟨rfl,wr,rfl,hrel.out⟩
end Go.Proofs.YtcnjpmcelihknaaGreatDoor.Sh
