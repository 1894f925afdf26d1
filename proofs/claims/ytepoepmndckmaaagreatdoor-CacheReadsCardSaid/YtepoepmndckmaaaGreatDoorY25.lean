/-
  What the statement's proof rests on, part 25.
  Conditions: each theorem's own.
-/
import Derived.Test.YtepoepmndckmaaaGreatDoorY22
import Derived.Test.YtepoepmndckmaaaGreatDoorY24
open Go.Lib (hid)
namespace Go.Proofs.YtepoepmndckmaaaGreatDoor.U
open Go.RowKit Go.Maps
def at' (k:Sh.Dk) (n:Nat):Sh.Bs:=k.sure.getD n []
theorem val_at {k:Sh.Dk} (h:k.waits=[]) (n:Nat):k.val n=at' k n:=by
 show Sh.latest k.waits n _=_
 rw [h];rfl
theorem at_settle_nil {k:Sh.Dk} (h:k.waits=[]) (kp:Nat->Bool) (n:Nat):at' (k.settle kp) n=at' k n:=by
 show (Sh.stl kp k.waits 0 k.sure).getD n []=_
 rw [h];rfl
theorem at_settle_one {k:Sh.Dk} {m:Nat} {b:Sh.Bs} (h:k.waits=[(m,b)]) (kp:Nat->Bool) (n:Nat) (hm:m<k.sure.length):at' (k.settle kp) n=if kp 0=true/\m=n then b else at' k n:=by
 show (Sh.stl kp k.waits 0 k.sure).getD n []=_
 rw [h]
 show (if kp 0 then k.sure.set m b else k.sure).getD n []=_
 by_cases hk:kp 0=true
 ·rw [if_pos hk]
  by_cases hmn:m=n
  ·subst hmn
   rw [if_pos ⟨hk,rfl⟩]
   generalize k.sure=u at *
   simp [List.getD,hm]
  ·rw [if_neg (fun e=>hmn e.2)]
   unfold at'
   simp [List.getD,List.getElem?_set_ne hmn]
 ·rw [if_neg (by simpa using hk),if_neg (fun e=>hk e.1)]
  rfl
def con (k:Sh.Dk):Nat->Sh.Bs:=fun j=>at' k (dataOf j)
def vals (k:Sh.Dk):Nat->Sh.Bs:=fun j=>k.val (dataOf j)
def upd (c:Nat->Sh.Bs) (i:Nat) (b:Sh.Bs):Nat->Sh.Bs:=fun j=>if j=i then b else c j
abbrev Cs:=(Nat->Sh.Bs)->Prop
def Safe (d nb:Nat) (k:Sh.Dk) (P:Cs):Prop:=∀kp:Nat->Bool,(∀j,j<nb->goodL d j (at' (k.settle kp) (sumOf j)) (at' (k.settle kp) (dataOf j))=true)/\P (con (k.settle kp))
structure Neat (d nb:Nat) (o:Int) (k:Sh.Dk) (P:Cs):Prop where
 secs:∀j,j<nb->(at' k (sumOf j)).length=128
 fits:∀j,j<nb->dataOf j<k.sure.length/\sumOf j<k.sure.length
 good:∀j,j<nb->goodL d j (at' k (sumOf j)) (at' k (dataOf j))=true
 may:P (con k)
 waits:k.waits=[]\/∃i b,i<nb/\o=(i:Int)/\k.waits=[(dataOf i,b)]/\(sumL d i b=pr (at' k (sumOf i)) i 0\/sumL d i b=pr (at' k (sumOf i)) i 1)/\P (upd (con k) i b)
section
variable {d nb:Nat} {o:Int} {k:Sh.Dk} {P:Cs}
theorem con_settle_one {i:Nat} {b:Sh.Bs} (h:k.waits=[(dataOf i,b)]) (kp:Nat->Bool) (hm:dataOf i<k.sure.length):con (k.settle kp)=if kp 0=true then upd (con k) i b else con k:=by
 funext j
 unfold con
 rw [at_settle_one h kp _ hm]
 by_cases hk:kp 0=true
 ·rw [if_pos hk]
  unfold upd
  by_cases hj:j=i
  ·subst hj
   rw [if_pos ⟨hk,rfl⟩,if_pos rfl]
  ·rw [if_neg (fun e=>hj (dataOf_inj e.2).symm),if_neg hj]
 ·rw [if_neg (fun e=>hk e.1),if_neg hk]
theorem con_settle_nil (h:k.waits=[]) (kp:Nat->Bool):con (k.settle kp)=con k:=by
 funext j
 exact at_settle_nil h kp _
theorem vals_nil (h:k.waits=[]):vals k=con k:=by
 funext j
 exact val_at h _
theorem vals_one {i:Nat} {b:Sh.Bs} (h:k.waits=[(dataOf i,b)]):vals k=upd (con k) i b:=by
 funext j
 show Sh.latest k.waits (dataOf j) (at' k (dataOf j))=_
 rw [h]
 show (if dataOf i=dataOf j then b else at' k (dataOf j))=_
 unfold upd
 by_cases hj:j=i
 ·subst hj;rw [if_pos rfl,if_pos rfl]
 ·rw [if_neg (fun e=>hj (dataOf_inj e).symm),if_neg hj];rfl
theorem Neat.safe (h:Neat d nb o k P):Safe d nb k P:=by
 intro kp
 rcases h.waits with hw | ⟨i,b,hi,_,hw,hs,hb⟩
 ·rw [con_settle_nil hw]
  refine ⟨fun j hj=>?_,h.may⟩
  rw [at_settle_nil hw,at_settle_nil hw];exact h.good j hj
 ·refine ⟨fun j hj=>?_,?_⟩
  ·rw [at_settle_one hw _ _ (h.fits i hi).1,at_settle_one hw _ _ (h.fits i hi).1]
   rw [if_neg (fun e=>data_ne_sum i j e.2)]
   by_cases hc:kp 0=true/\dataOf i=dataOf j
   ·rw [if_pos hc]
    obtain rfl:=dataOf_inj hc.2
    exact goodL_of hs
   ·rw [if_neg hc]
    exact h.good j hj
  ·rw [con_settle_one hw _ (h.fits i hi).1]
   split
   ·exact hb
   ·exact h.may
theorem Safe.more {P':Cs} (h:Safe d nb k P) (hm:∀c,P c->P' c):Safe d nb k P':=fun kp=>⟨(h kp).1,hm _ (h kp).2⟩
theorem Neat.more {P':Cs} (h:Neat d nb o k P) (hm:∀c,P c->P' c):Neat d nb o k P' :=
 ⟨h.secs,h.fits,h.good,hm _ h.may,h.waits.imp id fun ⟨i,b,h1,h2,h3,h4,h5⟩=>⟨i,b,h1,h2,h3,h4,hm _ h5⟩⟩
theorem Neat.now (h:Neat d nb o k P):P (vals k):=by
 rcases h.waits with hw | ⟨i,b,hi,_,hw,_,hb⟩
 ·rw [vals_nil hw];exact h.may
 ·rw [vals_one hw];exact hb
theorem Neat.con_flush (h:Neat d nb o k P):con (k.settle (fun _=>true))=vals k:=by
 rcases h.waits with hw | ⟨i,b,hi,_,hw,_,hb⟩
 ·rw [con_settle_nil hw,vals_nil hw]
 ·rw [con_settle_one hw _ (h.fits i hi).1,vals_one hw,if_pos rfl]
theorem Neat.flush (h:Neat d nb o k P) (o':Int):Neat d nb o' (k.settle (fun _=>true)) (fun c=>c=vals k)/\vals (k.settle (fun _=>true))=vals k/\(∀j,j<nb->(k.settle (fun _=>true)).val (sumOf j)=at' k (sumOf j))/\(k.settle (fun _=>true)).waits=[]:=by
 have hs:=h.safe (fun _=>true)
 have hlen:(k.settle (fun _=>true)).sure.length=k.sure.length:=Sh.stl_length _ _ _ _
 have hsum:∀j,j<nb->at' (k.settle (fun _=>true)) (sumOf j)=at' k (sumOf j):=by
  intro j hj
  rcases h.waits with hw | ⟨i,b,hi,_,hw,_,_⟩
  ·exact at_settle_nil hw _ _
  ·rw [at_settle_one hw _ _ (h.fits i hi).1,if_neg (fun e=>data_ne_sum i j e.2)]
 refine ⟨⟨fun j hj=>by rw [hsum j hj];exact h.secs j hj,fun j hj=>by rw [hlen];exact h.fits j hj,hs.1,h.con_flush,.inl rfl⟩,(vals_nil rfl).trans h.con_flush,fun j hj=>?_,rfl⟩
 rw [val_at (k:=k.settle (fun _=>true)) rfl]
 exact hsum j hj
theorem Neat.sums (h:Neat d nb o k P) (i:Nat) (hi:i<nb) (hno:k.waits=[]\/o≠(i:Int)) (sum:Nat) (hsm:Small (at' k (dataOf i))) :
  Safe d nb (k.write (sumOf i) (setPair (at' k (sumOf i)) i (sumL d i (at' k (dataOf i))) sum)) P /\
  Neat d nb (-1) ((k.write (sumOf i) (setPair (at' k (sumOf i)) i (sumL d i (at' k (dataOf i))) sum)).settle (fun _=>true)) (fun c=>c=vals k) /\
  vals ((k.write (sumOf i) (setPair (at' k (sumOf i)) i (sumL d i (at' k (dataOf i))) sum)).settle (fun _=>true))=vals k /\
  at' ((k.write (sumOf i) (setPair (at' k (sumOf i)) i (sumL d i (at' k (dataOf i))) sum)).settle (fun _=>true)) (sumOf i)=setPair (at' k (sumOf i)) i (sumL d i (at' k (dataOf i))) sum:=by
 have hs:=sumL_lt (d:=d) (k:=i) hsm
 have hl:=h.secs i hi
 -- what stands there,whatever is kept
 have key:∀kp:Nat->Bool,∃kq:Nat->Bool,∃q:Bool,(∀j,at' ((k.write (sumOf i) (setPair (at' k (sumOf i)) i (sumL d i (at' k (dataOf i))) sum)).settle kp) (dataOf j)=at' (k.settle kq) (dataOf j)) /\
   (∀j,j<nb->at' ((k.write (sumOf i) (setPair (at' k (sumOf i)) i (sumL d i (at' k (dataOf i))) sum)).settle kp) (sumOf j)=if q=true/\sumOf i=sumOf j then setPair (at' k (sumOf i)) i (sumL d i (at' k (dataOf i))) sum else at' (k.settle kq) (sumOf j))/\(kp=(fun _=>true)->kq=(fun _=>true)/\q=true):=by
  intro kp
  refine ⟨kp,kp k.waits.length,?_,?_,?_⟩
  ·intro j
   show (Sh.stl kp (k.waits++[(sumOf i,_)]) 0 k.sure).getD _ []=(Sh.stl kp k.waits 0 k.sure).getD _ []
   rw [Sh.stl_snoc]
   split
   ·simp only [List.getD,List.getElem?_set_ne (Ne.symm (data_ne_sum j i))]
   ·rfl
  ·intro j hj
   show (Sh.stl kp (k.waits++[(sumOf i,_)]) 0 k.sure).getD _ []=if _ then _ else (Sh.stl kp k.waits 0 k.sure).getD _ []
   rw [Sh.stl_snoc]
   have hlen:sumOf i<(Sh.stl kp k.waits 0 k.sure).length:=by rw [Sh.stl_length];exact (h.fits i hi).2
   generalize Sh.stl kp k.waits 0 k.sure=u at *
   by_cases hq:kp (0+k.waits.length)=true
   ·rw [if_pos hq]
    rw [Nat.zero_add] at hq
    by_cases hij:sumOf i=sumOf j
    ·rw [if_pos ⟨hq,hij⟩,<- hij]
     simp [List.getD,hlen]
    ·rw [if_neg (fun e=>hij e.2)]
     simp only [List.getD,List.getElem?_set_ne hij]
   ·rw [if_neg hq]
    rw [Nat.zero_add] at hq
    rw [if_neg (fun e=>hq e.1)]
  ·rintro rfl
   exact ⟨rfl,rfl⟩
 have hdata:∀kq:Nat->Bool,at' (k.settle kq) (dataOf i)=at' k (dataOf i):=by
  intro kq
  rcases h.waits with hw | ⟨i',b,hi',ho,hw,_,_⟩
  ·exact at_settle_nil hw _ _
  ·rcases hno with hn | hn
   ·rw [hn] at hw;cases hw
   ·rw [at_settle_one hw _ _ (h.fits i' hi').1,if_neg]
    rintro ⟨_,e⟩
    obtain rfl:=dataOf_inj e
    exact hn ho
 have hsafe:Safe d nb (k.write (sumOf i) (setPair (at' k (sumOf i)) i (sumL d i (at' k (dataOf i))) sum)) P:=by
  intro kp
  obtain ⟨kq,q,h1,h2,_⟩:=key kp
  obtain ⟨g1,g2⟩:=h.safe kq
  refine ⟨fun j hj=>?_,?_⟩
  ·rw [h1 j,h2 j hj]
   by_cases hc:q=true/\sumOf i=sumOf j
   ·rw [if_pos hc]
    have hsj:at' (k.settle kq) (sumOf j)=at' k (sumOf i):=by
     rw [<- hc.2]
     rcases h.waits with hw | ⟨i',b,hi',_,hw,_,_⟩
     ·exact at_settle_nil hw _ _
     ·rw [at_settle_one hw _ _ (h.fits i' hi').1,if_neg (fun e=>data_ne_sum i' i e.2)]
    by_cases hij:j=i
    ·subst hij
     rw [hdata kq]
     exact goodL_of (.inl (pr_set_0 hl hs).symm)
    ·rw [goodL_other hl (sumOf_eq hc.2.symm hij),<- hsj]
     exact g1 j hj
   ·rw [if_neg hc];exact g1 j hj
  ·have e:con ((k.write (sumOf i) (setPair (at' k (sumOf i)) i (sumL d i (at' k (dataOf i))) sum)).settle kp)=con (k.settle kq):=funext fun j=>h1 j
   rw [e];exact g2
 obtain ⟨kq,q,k1,k2,k3⟩:=key (fun _=>true)
 obtain ⟨rfl,rfl⟩:=k3 rfl
 have hcon:con ((k.write (sumOf i) (setPair (at' k (sumOf i)) i (sumL d i (at' k (dataOf i))) sum)).settle (fun _=>true))=vals k:=(funext fun j=>k1 j:_=con (k.settle (fun _=>true))).trans h.con_flush
 have hat:at' ((k.write (sumOf i) (setPair (at' k (sumOf i)) i (sumL d i (at' k (dataOf i))) sum)).settle (fun _=>true)) (sumOf i)=setPair (at' k (sumOf i)) i (sumL d i (at' k (dataOf i))) sum:=by
  rw [k2 i hi,if_pos ⟨rfl,rfl⟩]
 have hlen:((k.write (sumOf i) (setPair (at' k (sumOf i)) i (sumL d i (at' k (dataOf i))) sum)).settle (fun _=>true)).sure.length=k.sure.length:=Sh.stl_length _ _ _ _
 refine ⟨hsafe,⟨fun j hj=>?_,fun j hj=>by rw [hlen];exact h.fits j hj,fun j hj=>(hsafe (fun _=>true)).1 j hj,hcon,.inl rfl⟩,(vals_nil rfl).trans hcon,hat⟩
 rw [k2 j hj]
 split
 ·exact setPair_length hl
 ·have:=(h.flush 0).1.secs j hj
  exact this
theorem Neat.data {o':Int} (h:Neat d nb o k P) (hw:k.waits=[]) (i:Nat) (hi:i<nb) (b:Sh.Bs) (ho:o'=(i:Int)) (hs:sumL d i b=pr (at' k (sumOf i)) i 0\/sumL d i b=pr (at' k (sumOf i)) i 1) :
  Neat d nb o' (k.write (dataOf i) b) (fun c=>P c\/c=upd (vals k) i b)/\vals (k.write (dataOf i) b)=upd (vals k) i b:=by
 have hwt:(k.write (dataOf i) b).waits=[(dataOf i,b)]:=by show k.waits++[(dataOf i,b)]=_;rw [hw];rfl
 have hc:con (k.write (dataOf i) b)=con k:=rfl
 have hv:=vals_one hwt
 rw [hc,<- vals_nil hw] at hv
 refine ⟨⟨h.secs,h.fits,h.good,.inl h.may,.inr ⟨i,b,hi,ho,hwt,hs,.inr ?_⟩⟩,hv⟩
 rw [hc,vals_nil hw]
end
def dk (S:Sh.Sf) (d:Nat):Sh.Dk:=S.disks.getD d default
structure One (S:Sh.Sf) (d:Nat):Prop where
 lt:d<S.disks.length
 alive:(dk S d).dead=false
 len:(dk S d).sure.length=S.sectors
section
variable {S:Sh.Sf} {d:Nat}
theorem One.why (h:One S d):Sh.why S d=if S.off=true then 3 else 0:=by
 have:=h.alive
 unfold dk at this
 unfold Sh.why
 rw [this]
 rfl
theorem One.why0 (h:One S d):Sh.why S d=0↔S.off=false:=by
 rw [h.why]
 cases S.off<;>simp
theorem One.dk_wr (h:One S d) (n:Nat) (b:Sh.Bs) (hw:Sh.why S d=0):dk (Wr S d n b) d=(dk S d).write n b:=by
 have:=wr_getD S d n b h.lt hw d
 rwa [if_pos rfl] at this
theorem One.dk_fl (h:One S d) (hw:Sh.why S d=0):dk (Fl S d) d=(dk S d).settle (fun _=>true):=by
 have:=fl_getD S d h.lt hw d
 rwa [if_pos rfl] at this
theorem One.wr (h:One S d) (n:Nat) (b:Sh.Bs):One (Wr S d n b) d:=by
 by_cases hw:Sh.why S d=0
 ·exact ⟨by rw [wr_length];exact h.lt,by rw [h.dk_wr n b hw];exact h.alive,by rw [h.dk_wr n b hw,wr_sectors];exact h.len⟩
 ·rw [wr_why hw];exact h
theorem One.fl (h:One S d):One (Fl S d) d:=by
 by_cases hw:Sh.why S d=0
 ·exact ⟨by rw [fl_length];exact h.lt,by rw [h.dk_fl hw];exact h.alive,by rw [h.dk_fl hw,fl_sectors];exact (Sh.stl_length _ _ _ _).trans h.len⟩
 ·rw [fl_why hw];exact h
theorem dk_looked (S:Sh.Sf) (d e:Nat):dk (Looked S d) e=dk S e:=by unfold dk;rw [looked_disks]
theorem One.looked (h:One S d):One (Looked S d) d :=
 ⟨by rw [looked_disks];exact h.lt,by rw [dk_looked];exact h.alive,by rw [dk_looked,looked_sectors];exact h.len⟩
theorem Calm.one (h:Calm S d):One S d:=⟨h.lt,h.alive,h.len⟩
end
structure Jp (S:Sh.Sf) (d:Nat) (o:Int) (P:Cs):Prop where
 one:One S d
 safe:Safe d (blk S.sectors) (dk S d) P
 neat:S.off=false->Neat d (blk S.sectors) o (dk S d) P
section
variable {S S':Sh.Sf} {d:Nat} {o o':Int} {P P':Cs}
theorem Neat.any {nb:Nat} {k:Sh.Dk} (h:Neat d nb o k P) (hw:k.waits=[]) (o':Int):Neat d nb o' k P:=⟨h.secs,h.fits,h.good,h.may,.inl hw⟩
theorem Jp.of (h1:One S d) (h2:Neat d (blk S.sectors) o (dk S d) P):Jp S d o P:=⟨h1,h2.safe,fun _=>h2⟩
theorem Jp.over (h1:One S d) (h2:Safe d (blk S.sectors) (dk S d) P) (hoff:S.off≠false) (o':Int):Jp S d o' P:=⟨h1,h2,fun e=>absurd e hoff⟩
theorem Jp.more (h:Jp S d o P) (hm:∀c,P c->P' c):Jp S d o P':=⟨h.one,h.safe.more hm,fun e=>(h.neat e).more hm⟩
theorem Jp.off_any (h:Jp S d o P) (hoff:S.off≠false) (o':Int):Jp S d o' P:=Jp.over h.one h.safe hoff o'
theorem Jp.good (h:Jp S d o P) (hon:S.off=false) (k:Nat) (hk:k<blk S.sectors):goodAt S d k=true:=by
 have h1:=(h.safe (fun _=>true)).1 k hk
 have h2:=(h.neat hon).fits k hk
 have e1:at' ((dk S d).settle (fun _=>true)) (sumOf k)=V S d (sumOf k):=by rw [<- val_at rfl,val_settle _ _ h2.2];rfl
 have e2:at' ((dk S d).settle (fun _=>true)) (dataOf k)=V S d (dataOf k):=by rw [<- val_at rfl,val_settle _ _ h2.1];rfl
 rw [e1,e2] at h1
 exact h1
theorem Jp.flush (h:Jp S d o P) (hon:S.off=false) (o':Int):Jp (Fl S d) d o' (fun c=>c=vals (dk S d))/\vals (dk (Fl S d) d)=vals (dk S d)/\(dk (Fl S d) d).waits=[]:=by
 have hw:=h.one.why0.mpr hon
 obtain ⟨h1,h2,_,h3⟩:=(h.neat hon).flush o'
 rw [<- h.one.dk_fl hw] at h1 h2 h3
 refine ⟨Jp.of h.one.fl ?_,h2,h3⟩
 rw [fl_sectors]
 exact h1
theorem Jp.write (h:Jp S d o P) (hon:S.off=false) (k:Nat) (hk:k<blk S.sectors) (b b':Sh.Bs) (hb:Small b) (hv:Small (V S d (dataOf k)))
  (ho:Sh.why (ReadyQ (Looked S d) d o k true (sumL d k (V S d (dataOf k))) (sumL d k b) (V S d (sumOf k)) b') d=0->o'=(k:Int)) :
  Jp (Wr (ReadyQ (Looked S d) d o k true (sumL d k (V S d (dataOf k))) (sumL d k b) (V S d (sumOf k)) b') d (dataOf k) b) d o' (fun c=>P c\/c=upd (vals (dk S d)) k b) /\
  ((Wr (ReadyQ (Looked S d) d o k true (sumL d k (V S d (dataOf k))) (sumL d k b) (V S d (sumOf k)) b') d (dataOf k) b).off=false->vals (dk (Wr (ReadyQ (Looked S d) d o k true (sumL d k (V S d (dataOf k))) (sumL d k b) (V S d (sumOf k)) b') d (dataOf k) b) d)=upd (vals (dk S d)) k b):=by
 have hne:(true=false)=False:=by simp
 unfold ReadyQ spIf first at *
 simp only [hne,false_and,if_false,if_true] at *
 have hn:=h.neat hon
 have ha:One (Looked S d) d:=h.one.looked
 have hda:dk (Looked S d) d=dk S d:=dk_looked S d d
 have hwa:Sh.why (Looked S d) d=0:=by rw [looked_why];exact h.one.why0.mpr hon
 -- the block that waits is not this one
 obtain ⟨S1,hS1,o1,hse,n1,hv1,e1,e2,e3,hnow⟩:∃S1,flIf (Looked S d) d o k=S1/\One S1 d/\S1.sectors=S.sectors/\Neat d (blk S.sectors) o (dk S1 d) P/\vals (dk S1 d)=vals (dk S d)/\V S d (sumOf k)=at' (dk S1 d) (sumOf k)/\V S d (dataOf k)=at' (dk S1 d) (dataOf k)/\((dk S1 d).waits=[]\/o≠(k:Int))/\P (vals (dk S1 d)):=by
  refine ⟨_,rfl,?_⟩
  unfold flIf
  by_cases hko:(k:Int)=o
  ·rw [if_pos hko]
   have hf:dk (Fl (Looked S d) d) d=(dk S d).settle (fun _=>true):=by rw [ha.dk_fl hwa,hda]
   obtain ⟨q1,q2,q3,q4⟩:=hn.flush o
   rw [hf]
   refine ⟨ha.fl,by rw [fl_sectors,looked_sectors],q1.more (fun c e=>by rw [e];exact hn.now),q2,?_,?_,.inl rfl,by rw [q2];exact hn.now⟩
   ·rw [<- val_at rfl,q3 k hk]
    have:=val_settle (dk S d) (sumOf k) (hn.fits k hk).2
    rw [q3 k hk] at this
    exact this.symm
   ·rw [<- val_at rfl]
    exact (congrFun q2 k).symm
  ·rw [if_neg hko,hda]
   refine ⟨ha,looked_sectors S d,hn,rfl,?_,?_,.inr fun e=>hko e.symm,hn.now⟩
   ·rw [<- (hn.flush o).2.2.1 k hk]
    exact (val_settle (dk S d) (sumOf k) (hn.fits k hk).2).symm
   ·show (dk S d).val (dataOf k)=_
    rcases hn.waits with hw | ⟨i,c,hi,hoi,hw,_,_⟩
    ·exact val_at hw _
    ·show Sh.latest (dk S d).waits (dataOf k) (at' (dk S d) (dataOf k))=_
     rw [hw]
     show (if dataOf i=dataOf k then c else at' (dk S d) (dataOf k))=_
     rw [if_neg]
     intro e
     obtain rfl:=dataOf_inj e
     exact hko hoi.symm
 rw [hS1] at ho ⊢
 rw [e1,e2] at ho ⊢
 rw [e2] at hv
 rw [<- hv1]
 rw [<- hse] at hk n1
 clear e1 e2 hS1 ha hda hwa hn hon h hv1 hse
 obtain ⟨s1,s2,s3,s4⟩:=n1.sums k hk e3 (sumL d k b) hv
 have hp:=pr_set_1 (k:=k) (x:=sumL d k (at' (dk S1 d) (dataOf k))) (n1.secs k hk) (sumL_lt (d:=d) (k:=k) hb)
 have hsafe1:=n1.safe
 generalize setPair (at' (dk S1 d) (sumOf k)) k (sumL d k (at' (dk S1 d) (dataOf k))) (sumL d k b)=X at *
 generalize hvs:vals (dk S1 d)=vs at *
 by_cases w1:Sh.why S1 d=0
 ·have o2:=o1.wr (sumOf k) X
  have d2:=o1.dk_wr (sumOf k) X w1
  have z2:=wr_sectors S1 d (sumOf k) X
  rw [<- d2] at s1 s2 s3 s4
  generalize Wr S1 d (sumOf k) X=S2 at *
  by_cases w2:Sh.why S2 d=0
  ·have o3:=o2.fl
   have d3:=o2.dk_fl w2
   have z3:=(fl_sectors S2 d).trans z2
   rw [<- d3] at s2 s3 s4
   have hw3:(dk (Fl S2 d) d).waits=[]:=by rw [d3];rfl
   generalize Fl S2 d=S3 at *
   have z4:=(wr_sectors S3 d (dataOf k) b).trans z3
   by_cases w3:Sh.why S3 d=0
   ·obtain ⟨hq,hqv⟩:=s2.data hw3 k hk b (ho w3) (.inr (by rw [s4];exact hp.symm))
    rw [<- o3.dk_wr (dataOf k) b w3,s3] at hq hqv
    refine ⟨Jp.of (o3.wr _ _) ?_,fun _=>hqv⟩
    rw [z4]
    exact hq.more (fun c hc=>hc.imp (fun e=>by rw [e];exact hnow) id)
   ·rw [wr_why w3]
    refine ⟨Jp.over o3 ?_ (fun e=>w3 (o3.why0.mpr e)) o',fun e=>absurd (o3.why0.mpr e) w3⟩
    rw [z3]
    exact s2.safe.more (fun c e=>.inl (by rw [e];exact hnow))
  ·rw [fl_why w2,wr_why w2]
   refine ⟨Jp.over o2 ?_ (fun e=>w2 (o2.why0.mpr e)) o',fun e=>absurd (o2.why0.mpr e) w2⟩
   rw [z2]
   exact s1.more (fun c e=>.inl e)
 ·rw [wr_why w1,fl_why w1,wr_why w1]
  exact ⟨Jp.over o1 (hsafe1.more (fun c e=>.inl e)) (fun e=>w1 (o1.why0.mpr e)) o',fun e=>absurd (o1.why0.mpr e) w1⟩
theorem getD_rep' {n m:Nat} (x:Sh.Bs) (hm:m<n):(List.replicate n x).getD m []=x:=by
 simp [List.getD,hm]
theorem Jp.new {n s:Nat} (hd:d<n):Jp (Sh.newSf n s) d (-1) (fun c=>∀j,j<blk s->c j=Sh.noughts)/\∀j,j<blk s->vals (dk (Sh.newSf n s) d) j=Sh.noughts:=by
 have hk:dk (Sh.newSf n s) d=Sh.newDk s:=by
  unfold dk
  show (List.replicate n (Sh.newDk s)).getD d default=_
  simp [List.getD,hd]
 have hat:∀m,m<s->at' (dk (Sh.newSf n s) d) m=Sh.noughts:=by
  intro m hm
  rw [hk]
  show (List.replicate s Sh.noughts).getD m []=_
  exact getD_rep' _ hm
 have hlt:∀j,j<blk s->dataOf j<s/\sumOf j<s:=fun j hj=>⟨(sum_of_lt hj).1,(sum_of_lt hj).2.1⟩
 have hws:(dk (Sh.newSf n s) d).waits=[]:=by rw [hk];rfl
 refine ⟨Jp.of ⟨by simpa [Sh.newSf] using hd,by rw [hk];rfl,by rw [hk];simp [Sh.newDk,Sh.newSf]⟩ ⟨?_,?_,?_,?_,.inl hws⟩,?_⟩
 ·intro j hj;rw [hat _ (hlt j hj).2];rfl
 ·intro j hj;rw [hk];simpa [Sh.newDk] using hlt j hj
 ·intro j hj
  have hgd:=good_noughts (S:=Sh.newSf n s) (d:=d) (k:=j) (V_new hd (hlt j hj).2) (V_new hd (hlt j hj).1)
  unfold goodAt at hgd
  rw [V_new hd (hlt j hj).2,V_new hd (hlt j hj).1] at hgd
  rw [hat _ (hlt j hj).2,hat _ (hlt j hj).1]
  exact hgd
 ·intro j hj;exact hat _ (hlt j hj).1
 ·intro j hj
  rw [vals_nil hws]
  exact hat _ (hlt j hj).1
theorem crash_calm (ks:List (List Int)) (hd:d<S.disks.length) (ha:(S.disks.getD d default).dead=false) (hl:(S.disks.getD d default).sure.length=S.sectors):Calm (S.crash ks) d:=by
 have hg:=Sh.crash_getD S ks hd
 refine ⟨by rw [Sh.crash_length];exact hd,rfl,rfl,by rw [hg];exact ha,?_⟩
 rw [hg]
 exact (Sh.stl_length _ _ _ _).trans hl
end
section
variable {B:Nat} {W w w':World} {a p d:Nat} {o:Int} {S:Sh.Sf} {F:Nat->Prop} {P:Cs}
structure Wrote (S:Sh.Sf) (d k:Nat) (b:Sh.Bs) (P:Cs) (m:Nat) (y:Int) (o':Int) (S':Sh.Sf):Prop where
 jp:Jp S' d o' (fun c=>P c\/(S.off=false/\c=upd (vals (dk S d)) k b))
 now:S'.off=false->vals (dk S' d)=upd (vals (dk S d)) k b/\y=0
 on:S'.off=false->S.off=false
 sectors:S'.sectors=S.sectors
 calm:Calm S d->y=0/\Calm S' d
 len:∀k∈S'.disks,k.waits.length<=m+2
theorem wr_lens {S:Sh.Sf} {d n m:Nat} {b:Sh.Bs} (hL:∀k∈S.disks,k.waits.length<=m):∀k∈(Wr S d n b).disks,k.waits.length<=m+1:=by
 intro x hx
 unfold Wr at hx
 split at hx
 ·have hx:x∈S.disks.set d ((S.disks.getD d default).write n b):=hx
  rcases List.mem_or_eq_of_mem_set hx with hk | rfl
  ·have:=hL x hk;omega
  ·show ((S.disks.getD d default).waits++[(n,b)]).length<=m+1
   rw [List.length_append]
   by_cases hd:d<S.disks.length
   ·have:=hL _ (Sh.getD_mem (l:=S.disks) (d:=d) hd)
    show _+1<=m+1
    omega
   ·have e:S.disks.getD d default=default:=by simp [List.getD,List.getElem?_eq_none (Nat.le_of_not_lt hd)]
    rw [e]
    show 0+1<=m+1
    omega
 ·have:=hL x hx;omega
theorem fl_lens {S:Sh.Sf} {d m:Nat} (hL:∀k∈S.disks,k.waits.length<=m):∀k∈(Fl S d).disks,k.waits.length<=m:=fun x hx=>by
 have:=fl_waits (m:=m+1) (d:=d) (fun k hk=>by have:=hL k hk;omega) x hx
 omega
end
/-! ### a log -/
def LogIs (w:World) (g a n:Nat):Prop:=w.heap[g]?=some (.cells #[.pointer (some ⟨a,0,none⟩),.int .i64 n] 188 (0,0))
section
variable {w w':World} {g a n:Nat}
theorem LogIs.c0 (h:LogIs w g a n):w.cell? ⟨g,0,none⟩=some (.pointer (some ⟨a,0,none⟩)):=cell_of_row _ _ 0 _ _ _ h
theorem LogIs.c1 (h:LogIs w g a n):w.cell? ⟨g,1,none⟩=some (.int .i64 n):=cell_of_row _ _ 1 _ _ _ h
theorem LogIs.lt (h:LogIs w g a n):g<w.heap.size:=(Array.getElem?_eq_some_iff.1 h).1
theorem LogIs.same (h:LogIs w g a n) (hk:w'.heap[g]?=w.heap[g]?):LogIs w' g a n:=hk.trans h
end
structure Lg (B:Nat) (W w:World) (g a p d:Nat) (o:Int) (S:Sh.Sf) (F:Nat->Prop) (n:Nat):Prop where
 dv:Dv B W w a p d o S F
 log:LogIs w g a n
 apart:¬With F a g
 low:B<=g
def LGoes (B:Nat) (W w w':World) (g a p d:Nat) (o:Int) (S:Sh.Sf) (F:Nat->Prop) (n:Nat):Prop:=∃F',Lg B W w' g a p d o S F' n/\Sh.Moves (With F a) w (With F' a) w'
section
variable {B:Nat} {W w w' w'':World} {g a p d n:Nat} {o o':Int} {S S':Sh.Sf} {F:Nat->Prop}
theorem Lg.goes (h:Lg B W w g a p d o S F n) (hG:Goes B W w w' a p d o' S' F):LGoes B W w w' g a p d o' S' F n:=by
 obtain ⟨F',D,m⟩:=hG
 refine ⟨F',⟨D,h.log.same (m.1.block g h.log.lt h.apart),fun e=>?_,h.low⟩,m⟩
 rcases m.2 g e with e | e
 ·exact h.apart e
 ·exact Nat.lt_irrefl _ (Nat.lt_of_lt_of_le h.log.lt e)
theorem Lg.grown (h:Lg B W w g a p d o S F n) (hb:Below w.heap.size w w'):Lg B W w' g a p d o S F n:=⟨h.dv.grown hb,h.log.same (hb.block g h.log.lt),h.apart,h.low⟩
theorem Lg.lt (h:Lg B W w g a p d o S F n):∀b,With F a b->b<w.heap.size:=with_lt h.dv
theorem headAt_any (k:Nat) (hk:k<=1000) (w:World):Calls Tryz.prog 128 #[.int .i64 k] w fun e w'=>e=.returned (.int .i64 ((2+2*k:Nat):Int))/\w=w':=by
 have hx:=hid (show 2+2*(k:Int)=((2+2*k:Nat):Int) by omega)
 go_enter Tryz.func128,Tryz.ntmps128
 go_wp2
 go_ret
 exact ⟨by rw [<- hx.out];rfl,rfl⟩
theorem partAt_any (k:Nat) (hk:k<=1000) (w:World):Calls Tryz.prog 172 #[.int .i64 k] w fun e w'=>e=.returned (.int .i64 ((3+2*k:Nat):Int))/\w=w':=by
 have hx:=hid (show ((2+2*k:Nat):Int)+1=((3+2*k:Nat):Int) by omega)
 have hq:=hid (headAt_any k hk)
 have hb:2+2*k<=2002:=by omega
 generalize 2+2*k=x at *
 generalize 3+2*k=y at *
 go_enter Tryz.func172,Tryz.ntmps172
 go_wp2_with fail
 refine (hq.out _).mono ?_
 rintro e w' ⟨rfl,rfl⟩
 go_wp2
 go_ret
 exact ⟨by rw [<- hx.out];rfl,rfl⟩
theorem refusal_yes (h:LogIs w g a n) (k:Nat) (hk:k<n):Calls Tryz.prog 167 #[.pointer (some ⟨g,0,none⟩),.int .i64 k] w fun e w'=>e=.returned (.int .i64 0)/\w=w':=by
 have c1:=h.c1
 have hq:decide ((n:Int)<=(k:Int))=false:=by simp;omega
 go_enter Tryz.func167,Tryz.ntmps167
 go_wp2
 go_ret
 exact ⟨rfl,rfl⟩
end
section
variable {w:World} {a p:Nat} {d o:Int} {S:Sh.Sf} {F:Nat->Prop}
theorem logOpen_few (n:Nat) (h1:1<=n) (h2:n<=8) (h:DevIs w a p d o) (hs:Sh.Shelf w p S F) (hb:blk S.sectors<2+2*n) :
  Calls Tryz.prog 95 #[.pointer (some ⟨a,0,none⟩),.int .i64 n] w fun e w'=>e=.returned (.tuple #[.pointer none,.int .i64 1])/\∃k,w'=w.drewN k:=by
 have q1:decide ((n:Int)<1)=false:=by simp;omega
 have q2:decide (8<(n:Int))=false:=by simp;omega
 have hc:=hid (count_of h hs (secM_of hs))
 have q3:decide (blk S.sectors<2+2*n)=true:=by simp;omega
 have hq:=hid (headAt_any n (by omega))
 clear hb h hs
 generalize 2+2*n=x at *
 generalize blk S.sectors=y at *
 go_enter Tryz.func95,Tryz.ntmps95
 go_wp2_with (first
  | (go_at_call 127;refine hc.out.mono ?_;rintro e w' ⟨rfl,m,rfl⟩)
  | (go_at_call 128;refine (hq.out _).mono ?_;rintro e w' ⟨rfl,rfl⟩))
 go_ret2
 exact ⟨rfl,m,rfl⟩
theorem logOpen_ok (n:Nat) (h1:1<=n) (h2:n<=8) (h:DevIs w a p d o) (hs:Sh.Shelf w p S F) (hb:2+2*n<=blk S.sectors) :
  Calls Tryz.prog 95 #[.pointer (some ⟨a,0,none⟩),.int .i64 n] w fun e w'=>e=.returned (.tuple #[.pointer (some ⟨w.heap.size,0,none⟩),.int .i64 0])/\LogIs w' w.heap.size a n/\Below w.heap.size w w':=by
 have q1:decide ((n:Int)<1)=false:=by simp;omega
 have q2:decide (8<(n:Int))=false:=by simp;omega
 have hc:=hid (count_of h hs (secM_of hs))
 have q3:decide (blk S.sectors<2+2*n)=false:=by simp;omega
 have hq:=hid (headAt_any n (by omega))
 clear hb h hs
 generalize 2+2*n=x at *
 generalize blk S.sectors=y at *
 go_enter Tryz.func95,Tryz.ntmps95
 go_wp2_with (first
  | (go_at_call 127;refine hc.out.mono ?_;rintro e w' ⟨rfl,m,rfl⟩)
  | (go_at_call 128;refine (hq.out _).mono ?_;rintro e w' ⟨rfl,rfl⟩))
 go_ret2
 exact ⟨rfl,heap_alloc_new (w.drewN m) _,(drawn (Below.refl _ w) m).alloc (Nat.le_refl _) _⟩
end
def AllB (F:Nat->Prop) (a:Nat->Nat) (n:Nat) (b:Nat):Prop:=F b\/∃i,i<n/\b=a i
def put1 {α:Type} (f:Nat->α) (i:Nat) (x:α):Nat->α:=fun j=>if j=i then x else f j
structure Devs (B:Nat) (W w:World) (p n:Nat) (a:Nat->Nat) (o:Nat->Int) (S:Sh.Sf) (F:Nat->Prop):Prop where
 on:Sh.At B W w p S F
 dev:∀i,i<n->DevIs w (a i) p i (o i)
 apart:∀i,i<n->¬F (a i)
 inj:∀i j,i<n->j<n->a i=a j->i=j
 low:∀i,i<n->B<=a i
def DsGoes (B:Nat) (W w w':World) (p n:Nat) (a:Nat->Nat) (o:Nat->Int) (S:Sh.Sf) (F:Nat->Prop):Prop:=∃F',Devs B W w' p n a o S F'/\Sh.Moves (AllB F a n) w (AllB F' a n) w'
section
variable {B:Nat} {W w w' w'':World} {p n:Nat} {a:Nat->Nat} {o o':Nat->Int} {S S' S'':Sh.Sf} {F F':Nat->Prop}
theorem Devs.dv (h:Devs B W w p n a o S F) {i:Nat} (hi:i<n):Dv B W w (a i) p i (o i) S F:=⟨h.on,h.dev i hi,h.apart i hi,h.low i hi⟩
theorem Devs.lt (h:Devs B W w p n a o S F):∀b,AllB F a n b->b<w.heap.size:=by
 rintro b (e | ⟨i,hi,rfl⟩)
 ·exact h.on.shelf.ltF e
 ·exact (h.dev i hi).lt
theorem Devs.grown (h:Devs B W w p n a o S F) (hb:Below w.heap.size w w'):Devs B W w' p n a o S F :=
 ⟨h.on.grown hb,fun i hi=>(h.dev i hi).same (hb.block _ (h.dev i hi).lt),h.apart,h.inj,h.low⟩
theorem Devs.goes (h:Devs B W w p n a o S F) {i:Nat} (hi:i<n) {x:Int} (hG:Goes B W w w' (a i) p i x S' F):DsGoes B W w w' p n a (put1 o i x) S' F:=by
 obtain ⟨F',D,m⟩:=hG
 have hne:∀j,j<n->j≠i->¬With F (a i) (a j):=fun j hj hji e=>e.elim (h.apart j hj) fun e=>hji (h.inj j i hj hi e)
 have ha:∀j,j<n->¬F' (a j):=by
  intro j hj e
  by_cases hji:j=i
  ·subst hji;exact D.apart e
  ·rcases m.2 (a j) (.inl e) with e | e
   ·exact hne j hj hji e
   ·exact Nat.lt_irrefl _ (Nat.lt_of_lt_of_le (h.dev j hj).lt e)
 refine ⟨F',⟨D.on,fun j hj=>?_,ha,h.inj,h.low⟩,m.1.mono fun b hb=>hb.imp id (fun e=>⟨i,hi,e⟩),?_⟩
 ·by_cases hji:j=i
  ·subst hji
   unfold put1
   rw [if_pos rfl]
   exact D.dev
  ·unfold put1
   rw [if_neg hji]
   exact (h.dev j hj).same (m.1.block _ (h.dev j hj).lt (hne j hj hji))
 ·rintro b (e | ⟨j,hj,rfl⟩)
  ·exact (m.2 b (.inl e)).imp (fun e=>e.imp id fun e=>⟨i,hi,e⟩) id
  ·exact .inl (.inr ⟨j,hj,rfl⟩)
theorem Devs.stays (h:Devs B W w p n a o S F) (hs:Sh.Shelf w' p S' F) (ho:Sh.Only F w w'):Devs B W w' p n a o S' F :=
 ⟨h.on.stays hs ho,fun i hi=>(h.dev i hi).same (ho.block _ (h.dev i hi).lt (h.apart i hi)),h.apart,h.inj,h.low⟩
end
/-! ### logs -/
section
variable {B:Nat} {W w w':World} {p n L:Nat} {a g:Nat->Nat} {o o':Nat->Int} {S S':Sh.Sf} {F F':Nat->Prop}
end
theorem base_ok (n:Nat) (h1:1<=n) (h2:n<=8) (w:World):Calls Tryz.prog 94 #[.int .i64 n] w fun e w'=>e=.returned (.tuple #[.int .i64 ((2+2*n:Nat):Int),.int .i64 0])/\w=w':=by
 have hx:=hid (show 2+2*(n:Int)=((2+2*n:Nat):Int) by omega)
 have q2:decide ((n:Int)<=8)=true:=by simp;omega
 go_enter Tryz.func94,Tryz.ntmps94
 go_wp2
 go_ret2
 exact ⟨by rw [<- hx.out];rfl,rfl⟩
theorem stripes_yes (s:Int) (h1:1<=s) (h2:s<=1024) (w:World):Calls Tryz.prog 103 #[.int .i64 s] w fun e w'=>e=.returned (.bool true)/\w=w':=by
 have q1:decide (s≥1)=true:=by simp;omega
 have q2:decide (s<=1024)=true:=by simp;omega
 go_enter Tryz.func103,Tryz.ntmps103
 go_wp2
 go_ret
 exact ⟨rfl,rfl⟩
theorem need_ok (s n:Nat) (h1:1<=n) (h2:n<=8) (h3:1<=s) (h4:s<=1024) (w:World):Calls Tryz.prog 132 #[.int .i64 s,.int .i64 n] w fun e w'=>e=.returned (.tuple #[.int .i64 ((2+2*n+s:Nat):Int),.int .i64 0])/\w=w':=by
 have hq:=hid (base_ok n h1 h2)
 have hx:=hid (show ((2+2*n:Nat):Int)+(s:Int)=((2+2*n+s:Nat):Int) by omega)
 have hy:2+2*n<=18:=by omega
 have hs:=hid (stripes_yes s (by omega) (by omega))
 generalize 2+2*n+s=z at *
 generalize 2+2*n=x at *
 go_enter Tryz.func132,Tryz.ntmps132
 go_wp2_with (first
  | (go_at_call 94;refine (hq.out _).mono ?_;rintro e w' ⟨rfl,rfl⟩)
  | (go_at_call 103;refine (hs.out _).mono ?_;rintro e w' ⟨rfl,rfl⟩))
 go_ret2
 exact ⟨by rw [<- hx.out];rfl,rfl⟩
section
variable (s q:Int) (A:Option Addr) (n0 c:Nat) (w:World)
end
section
variable {B:Nat} {W w w':World} {g a p d n:Nat} {o:Int} {S S':Sh.Sf} {F:Nat->Prop} {P:Cs}
theorem goes_only {o':Int} (hG:Goes B W w w' a p d o' S' F) (b:Nat) (hb:b<w.heap.size) (hn:¬With F a b):w'.heap[b]?=w.heap[b]?:=by
 obtain ⟨F',_,m⟩:=hG
 exact m.1.block b hb hn
end
theorem pad_noughts {w:World} {g:Nat} (h:Pad w g []):Reads w w.heap.size (some ⟨g,0,none⟩) 128 (bts Sh.noughts):=by
 have h2:=h.more 128 (by decide)
 have:=h2.reads
 exact this
theorem wp_make_noughts {o:Oper} {a:Act} {w:World} {K:Act->World->Prop} {Q:Exit->Act->World->Prop} (l c:Operand) (hop:o.op=Op.makeSlice 40 l c) (hl:a.eval l=.int .i64 128) (hc:a.eval c=.int .i64 128)
  (hK:∀w',Pad w' w.heap.size []->Below w.heap.size w w'->K (a.put o.dst (.slice (some ⟨w.heap.size,0,none⟩) 128 128)) w'):Oper.wp Tryz.prog o a w K Q:=by
 obtain ⟨i,hi,hz,hsz,hby⟩:=info_parts info_u8
 have hrun:=run_make (P:=Tryz.prog) w 40 5 i (.int .u8 0) Tryz.underlying40 hi hz .i64 .i64 128 128 (by decide) (by decide) (by rw [hby];decide) (by decide)
 rw [hsz] at hrun
 unfold Oper.wp
 simp only [execOp,hop,hl,hc,Sem.run_bind,hrun,Result.andThen_ok]
 exact hK _ pad_zero ((Below.refl _ _).alloc (Nat.le_refl _) _)
section
variable {B:Nat} {W w w':World} {g a p d n:Nat} {o:Int} {S S':Sh.Sf} {F:Nat->Prop} {P:Cs}
end
set_option maxRecDepth 20000 in
theorem isNoughts_any (ad:Addr) (c:Nat) (b:Sh.Bs) (w:World) (hr:Reads w w.heap.size (some ad) 128 (bts b)) :
  Calls Tryz.prog 171 #[.slice (some ad) 128 c] w fun e w'=>e=.returned (.bool (decide (b=Sh.noughts)))/\w=w':=by
 have hl:=hr.len
 have he:=arr_eql w hl (show Sh.noughts.length=128 from by simp [Sh.noughts])
 have hld:=load_arr hr
 have hz:=zero_bytes
 have hat:=run_arrayAt ad c
 have hzn:=zcB_ne
 rw [<- zcB_bts] at he
 have hq:(b == Sh.noughts)=decide (b=Sh.noughts):=by rw [Bool.eq_iff_iff,beq_iff_eq,decide_eq_true_iff]
 rw [hq] at he
 generalize decide (b=Sh.noughts)=q at *
 clear hq hr hl
 generalize (bts b).toArray=X at *
 go_enter Tryz.func171,Tryz.ntmps171
 go_wp2_with (refine loadKnown (o:=⟨some 5,_,_,_,_,_⟩) (by rfl) 94 (.tmp 4) rfl ad rfl (.agg X) hld ?_)
 go_ret
 exact ⟨rfl,rfl⟩
theorem Lg.over {B:Nat} {W w w':World} {g a p d n q:Nat} {o:Int} {S:Sh.Sf} {F:Nat->Prop} (h:Lg B W w g a p d o S F n) (ho:Sh.Only (fun b=>b=q) w w') (hn:¬With F a q) (hq:B<=q) (hg:g≠q):Lg B W w' g a p d o S F n :=
 ⟨dv_over h.dv ho hn hq,h.log.same (ho.block g h.log.lt hg),h.apart,h.low⟩
section
variable {B:Nat} {W w w':World} {g a p d n:Nat} {o:Int} {S S':Sh.Sf} {F:Nat->Prop} {P:Cs}
end
set_option maxRecDepth 20000 in
theorem rNoughts_any (ad:Addr) (c:Nat) (b:Sh.Bs) (w:World) (hr:Reads w w.heap.size (some ad) 128 (bts b)) :
  Calls Tryz.prog 180 #[.slice (some ad) 128 c] w fun e w'=>e=.returned (.bool (decide (b=Sh.noughts)))/\w=w':=by
 have hl:=hr.len
 have he:=arr_eql w hl (show Sh.noughts.length=128 from by simp [Sh.noughts])
 have hld:=load_arr hr
 have hz:=zero_bytes
 have hat:=run_arrayAt ad c
 have hzn:=zcB_ne
 rw [<- zcB_bts] at he
 have hq:(b == Sh.noughts)=decide (b=Sh.noughts):=by rw [Bool.eq_iff_iff,beq_iff_eq,decide_eq_true_iff]
 rw [hq] at he
 generalize decide (b=Sh.noughts)=q at *
 clear hq hr hl
 generalize (bts b).toArray=X at *
 go_enter Tryz.func180,Tryz.ntmps180
 go_wp2_with (refine loadKnown (o:=⟨some 5,_,_,_,_,_⟩) (by rfl) 94 (.tmp 4) rfl ad rfl (.agg X) hld ?_)
 go_ret
 exact ⟨rfl,rfl⟩
theorem below_only {w w':World} {F:Nat->Prop} (h:Below w.heap.size w w'):Sh.Only F w w':=⟨h.os,h.tape,h.output,h.size,fun k hk _=>h.block k hk⟩
section
variable {B:Nat} {W w:World} {a p d:Nat} {o:Int} {S:Sh.Sf} {F:Nat->Prop}
set_option maxRecDepth 20000 in
theorem nought_calm (h:Dv B W w a p d o S F) (hT:Tabs W) (hTB:max 0 1+1<=B) (hc:Calm S d) (k:Nat) (hk:k<blk S.sectors) (hg:goodAt S d k=true) (hv:V S d (dataOf k)=Sh.noughts) (g:Option Addr) :
  Calls Tryz.prog 135 #[.agg #[.pointer (some ⟨a,0,none⟩),.pointer g],.int .i64 k] w fun e w'=>e=.returned (.int .i64 0)/\Dv B W w' a p d o (Looked S d) F/\Sh.Only F w w':=by
 have hb:Below w.heap.size w (w.alloc (.cells #[.pointer (some ⟨a,0,none⟩),.pointer g] 133)):=(Below.refl _ _).alloc (Nat.le_refl _) _
 have HRD:=hid (read_calm (h.grown hb) hT hTB hc k hk hg)
 have HB:=hid hb
 rw [hv] at HRD
 clear h hb hv hg hk hT hTB hc
 go_enter Tryz.func135,Tryz.ntmps135
 go_wp2_with fail
 refine HRD.out.mono ?_
 rintro e w1 ⟨A,c,rfl,y,D,O⟩
 obtain ⟨ad,rfl⟩:=bytes_some y
 have HIS:=hid (rNoughts_any ad c Sh.noughts w1 y.1)
 rw [decide_eq_true rfl] at HIS
 have HO:=hid ((below_only (F:=F) HB.out).trans O (fun _ e=>.inl e))
 clear y O
 go_wp2_with (go_at_call 180;refine HIS.out.mono ?_;rintro e w' ⟨rfl,rfl⟩)
 go_ret
 exact ⟨rfl,D,HO.out⟩
end
end Go.Proofs.YtepoepmndckmaaaGreatDoor.U
