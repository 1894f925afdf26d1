/-
  What the statement's proof rests on, part 33.
  Conditions: each theorem's own.
-/
import Derived.Test.YtgebkmpmnjhceaaGreatDoorV32
namespace Go.Proofs.YtgebkmpmnjhceaaGreatDoor.U
open Go.RowKit Go.Maps
def SecS (S:Sh.Sf):Prop:=∀x∈S.disks,(∀b∈x.sure,Sh.Sec b)/\(∀y∈x.waits,Sh.Sec y.2)/\x.sure.length=S.sectors
section
variable {S S':Sh.Sf} {d k n:Nat} {o y o':Int} {b:Sh.Bs}
theorem SecS.dk (h:SecS S) (hd:d<S.disks.length):(∀b∈(dk S d).sure,Sh.Sec b)/\(∀y∈(dk S d).waits,Sh.Sec y.2)/\(dk S d).sure.length=S.sectors:=h _ (Sh.getD_mem hd)
theorem latest_or (l:List (Nat × Sh.Bs)) (n:Nat) (x:Sh.Bs):Sh.latest l n x=x\/∃y∈l,Sh.latest l n x=y.2:=by
 induction l generalizing x with
 | nil=>exact .inl rfl
 | cons a t ih =>
  unfold Sh.latest
  by_cases e:a.1=n
  ·rw [if_pos e]
   rcases ih a.2 with h | ⟨y,hy,h⟩
   ·exact .inr ⟨a,List.mem_cons_self ..,h⟩
   ·exact .inr ⟨y,List.mem_cons_of_mem _ hy,h⟩
  ·rw [if_neg e]
   rcases ih x with h | ⟨y,hy,h⟩
   ·exact .inl h
   ·exact .inr ⟨y,List.mem_cons_of_mem _ hy,h⟩
theorem SecS.V (h:SecS S) (hd:d<S.disks.length) (hn:n<S.sectors):Sh.Sec (V S d n):=by
 obtain ⟨h1,h2,h3⟩:=h.dk hd
 have h0:Sh.Sec ((U.dk S d).sure.getD n []):=by
  have hl:n<(U.dk S d).sure.length:=by rw [h3];exact hn
  rw [List.getD_eq_getElem?_getD,List.getElem?_eq_getElem hl]
  exact h1 _ (List.getElem_mem hl)
 rcases latest_or (U.dk S d).waits n ((U.dk S d).sure.getD n []) with e | ⟨z,hz,e⟩
 ·show Sh.Sec (Sh.latest (U.dk S d).waits n ((U.dk S d).sure.getD n []))
  rw [e];exact h0
 ·show Sh.Sec (Sh.latest (U.dk S d).waits n ((U.dk S d).sure.getD n []))
  rw [e];exact h2 z hz
theorem SecS.set {l:List Sh.Dk} {x:Sh.Dk} {m:Nat} (h:∀x∈l,(∀b∈x.sure,Sh.Sec b)/\(∀y∈x.waits,Sh.Sec y.2)/\x.sure.length=m) (hx:(∀b∈x.sure,Sh.Sec b)/\(∀y∈x.waits,Sh.Sec y.2)/\x.sure.length=m) (d:Nat) :
  ∀z∈l.set d x,(∀b∈z.sure,Sh.Sec b)/\(∀y∈z.waits,Sh.Sec y.2)/\z.sure.length=m:=fun z hz=>by
 rcases List.mem_or_eq_of_mem_set hz with h1 | h1
 ·exact h z h1
 ·rw [h1];exact hx
theorem SecS.wr (h:SecS S) (hd:d<S.disks.length) (n:Nat) (hb:Sh.Sec b):SecS (Wr S d n b):=by
 unfold Wr
 split
 ·obtain ⟨h1,h2,h3⟩:=h.dk hd
  exact SecS.set h (x:=(U.dk S d).write n b) ⟨h1,fun y hy=>by
   have hy:y∈(U.dk S d).waits++[(n,b)]:=hy
   rcases List.mem_append.1 hy with hy | hy
   ·exact h2 y hy
   ·rw [List.mem_singleton.1 hy];exact hb,h3⟩ d
 ·exact h
theorem SecS.settle {k:Sh.Dk} {m:Nat} (h:(∀b∈k.sure,Sh.Sec b)/\(∀y∈k.waits,Sh.Sec y.2)/\k.sure.length=m) (kp:Nat->Bool):(∀b∈(k.settle kp).sure,Sh.Sec b)/\(∀y∈(k.settle kp).waits,Sh.Sec y.2)/\(k.settle kp).sure.length=m :=
 ⟨Sh.stl_all kp k.waits 0 k.sure h.2.1 h.1,(fun y hy=>by cases hy),(Sh.stl_length _ _ _ _).trans h.2.2⟩
theorem SecS.fl (h:SecS S) (hd:d<S.disks.length):SecS (Fl S d):=by
 unfold Fl
 split
 ·exact SecS.set h (x:=(U.dk S d).settle (fun _=>true)) (SecS.settle (h.dk hd) _) d
 ·exact h
theorem SecS.same (h:SecS S) (hs:Same S S'):SecS S':=by
 unfold SecS
 rw [hs.disks,hs.sectors]
 exact h
theorem SecS.dw (h:SecS S) (hd:d<S.disks.length) (hk:k<blk S.sectors) (hb:Sh.Sec b) (hD:DW S d o k b y o' S'):SecS S':=by
 rcases hD with ⟨_,_,_,rfl⟩ | ⟨_,b',R,hb',rfl,_,_,_,_,rfl⟩
 ·exact h
 ·have hX:=h.V hd (sum_of_lt hk).2.1
  refine SecS.wr ?_ (by rw [ready_length];exact hd) _ hb
  unfold Ready ReadyQ
  have h1:SecS (Looked S d):=h.same ((Same.refl S).looked d)
  have l1:d<(Looked S d).disks.length:=by rw [looked_disks];exact hd
  have h2:SecS (flIf (Looked S d) d o k):=by
   unfold flIf
   split
   ·exact h1.fl l1
   ·exact h1
  have l2:d<(flIf (Looked S d) d o k).disks.length:=by rw [flIf_length];exact l1
  have h3:SecS (spIf (flIf (Looked S d) d o k) d k (goodAt S d k) (sumL d k (U.V S d (dataOf k))) (sumL d k b) b'):=by
   unfold spIf
   split
   ·exact (h2.wr l2 _ hb').fl (by rw [wr_length];exact l2)
   ·exact h2
  have l3:d<(spIf (flIf (Looked S d) d o k) d k (goodAt S d k) (sumL d k (U.V S d (dataOf k))) (sumL d k b) b').disks.length:=by rw [spIf_length];exact l2
  exact (h3.wr l3 _ (setPair_sec hX)).fl (by rw [wr_length];exact l3)
def Dead (S:Sh.Sf) (d:Nat):Bool:=(dk S d).dead
theorem dead_fl (S:Sh.Sf) (d e:Nat):Dead (Fl S d) e=Dead S e:=by
 unfold Dead dk Fl
 split
 ·show ((S.disks.set d ((S.disks.getD d default).settle (fun _=>true))).getD e default).dead=_
  by_cases h:e=d
  ·subst h
   by_cases hl:e<S.disks.length
   ·simp [List.getD,hl]
    rfl
   ·rw [List.set_eq_of_length_le (by omega)]
  ·rw [getD_set_ne _ h]
 ·rfl
theorem dead_wr (S:Sh.Sf) (d n:Nat) (b:Sh.Bs) (e:Nat):Dead (Wr S d n b) e=Dead S e:=by
 unfold Dead dk Wr
 split
 ·show ((S.disks.set d ((S.disks.getD d default).write n b)).getD e default).dead=_
  by_cases h:e=d
  ·subst h
   by_cases hl:e<S.disks.length
   ·simp [List.getD,hl]
    rfl
   ·rw [List.set_eq_of_length_le (by omega)]
  ·rw [getD_set_ne _ h]
 ·rfl
theorem dead_same (h:Same S S') (e:Nat):Dead S' e=Dead S e:=by unfold Dead dk;rw [h.disks]
theorem dead_dw (hD:DW S d o k b y o' S') (e:Nat):Dead S' e=Dead S e:=by
 rcases hD with ⟨_,_,_,rfl⟩ | ⟨_,b',R,hb',rfl,_,_,_,_,rfl⟩
 ·rfl
 ·rw [dead_wr]
  unfold Ready ReadyQ
  rw [dead_fl,dead_wr]
  have h2:Dead (flIf (Looked S d) d o k) e=Dead S e:=by
   unfold flIf
   split
   ·rw [dead_fl];exact dead_same ((Same.refl S).looked d) e
   ·exact dead_same ((Same.refl S).looked d) e
  unfold spIf
  split
  ·rw [dead_fl,dead_wr];exact h2
  ·exact h2
theorem dead_why (h:Dead S d=true) (hon:S.off=false):Sh.why S d=4:=by
 unfold Dead dk at h
 unfold Sh.why
 rw [hon,h]
 rfl
theorem alive_why (h:Dead S d=false) (hon:S.off=false):Sh.why S d=0:=by
 unfold Dead dk at h
 unfold Sh.why
 rw [hon,h]
 rfl
theorem off_why (hoff:S.off≠false) (d:Nat):Sh.why S d=3:=by
 unfold Sh.why
 rw [if_pos (by simpa using hoff)]
theorem seen_alive (h:Dead S d=false) (hon:S.off=false) (k:Nat):seen S d k=vo S d k:=by
 unfold seen
 rw [if_pos (alive_why h hon)]
theorem seen_dead (h:Dead S d=true) (k:Nat):seen S d k=none:=by
 unfold seen
 rw [if_neg]
 intro e
 unfold Dead dk at h
 unfold Sh.why at e
 rw [h] at e
 by_cases ho:S.off=true
 ·rw [if_pos ho] at e;exact absurd e (by decide)
 ·rw [if_neg ho,if_pos rfl] at e;exact absurd e (by decide)
end
/-! ### all disks are flushed -/
section
variable {S:Sh.Sf} {n:Nat} {o:Nat->Int} {P:Nat->Co}
theorem fdS_dead (S:Sh.Sf) (j e:Nat):Dead (fdS S j).1 e=Dead S e:=by
 induction j with
 | zero=>rfl
 | succ j ih =>
  unfold fdS
  split
  ·rw [dead_fl];exact ih
  ·exact ih
theorem fdS_secS (h:SecS S) {j:Nat} (hj:j<=S.disks.length):SecS (fdS S j).1:=by
 induction j with
 | zero=>exact h
 | succ j ih =>
  unfold fdS
  split
  ·exact (ih (by omega)).fl (by rw [fdS_length];omega)
  ·exact ih (by omega)
structure Fds (S:Sh.Sf) (n:Nat) (o:Nat->Int) (P:Nat->Co) (j:Nat) (T:Sh.Sf) (y:Int):Prop where
 y03:y=0\/y=3
 off:y≠0->T.off≠false
 vo:∀d,d<n->Dead S d=false->vo T d=vo S d
 jp:∀d,d<n->Dead S d=false->Jp2 T d (o d) (P d)
 done:y=0->∀d,d<j->d<n->Dead S d=false->(∀o',Jp2 T d o' (fun c=>c=U.vo S d))/\(dk T d).waits=[]
 on:T.off=false->S.off=false
theorem Fds.all (hn:S.disks.length=n) (h:∀d,d<n->Dead S d=false->Jp2 S d (o d) (P d)):∀j,j<=n->Fds S n o P j (fdS S j).1 (fdS S j).2:=by
 intro j
 induction j with
 | zero=>exact fun _=>⟨.inl rfl,fun e=>absurd rfl e,fun _ _ _=>rfl,h,fun _ d hd=>absurd hd (by omega),id⟩
 | succ j ih =>
  intro hj
  have hi:=ih (by omega)
  by_cases h0:(fdS S j).2=0
  ·rw [fdS_succ S h0]
   have hd0:=fdS_dead S j j
   have hsec:=fdS_sectors S j
   have hdd:=hi.done h0
   have hv:=hi.vo
   have hjp:=hi.jp
   have hon2:=hi.on
   have hle:=fdS_length S j
   generalize (fdS S j).1=T at *
   have hal:=alike_fl T j
   by_cases hdead:Dead T j=true
   ·-- a dead disk
    have hne:∀d,d<n->Dead S d=false->d≠j:=fun d _ hd e=>by rw [e,<- hd0,hdead] at hd;cases hd
    have hfl:Fl T j=T:=fl_why fun e=>by
     have h1:=hdead
     unfold Dead dk at h1
     unfold Sh.why at e
     rw [h1] at e
     by_cases ho:T.off=true
     ·rw [if_pos ho] at e;exact absurd e (by decide)
     ·rw [if_neg ho,if_pos rfl] at e;exact absurd e (by decide)
    rw [hfl]
    have hy:bd (Sh.why T j)=0\/(bd (Sh.why T j)=3/\T.off≠false):=by
     by_cases ho:T.off=false
     ·rw [dead_why hdead ho];exact .inl rfl
     ·rw [off_why ho];exact .inr ⟨rfl,ho⟩
    exact ⟨hy.imp id And.left,fun e=>hy.elim (fun e2=>absurd e2 e) And.right,hv,hjp,fun e d hd hdn hda=>hdd d (by have:=hne d hdn hda;omega) hdn hda,hon2⟩
   ·have hda:Dead S j=false:=by rw [<- hd0];simpa using hdead
    have hjj:=hjp j (by omega) hda
    have hw:=hjj.one.why_y
    have hoff:Sh.why T j=0↔T.off=false:=hjj.one.why0
    refine ⟨by rcases hw with e | e<;>rw [e];exact .inl rfl;exact .inr rfl,fun e=>?_,fun d hd hds=>?_,fun d hd hds=>?_,fun e d hd hdn hds=>?_,fun e=>hon2 (fl_on hjj.one e)⟩
    ·have hwn:Sh.why T j≠0:=fun e2=>by rw [e2] at e;exact e rfl
     rw [fl_why hwn]
     exact fun e2=>hwn (hoff.mpr e2)
    ·by_cases hdj:d=j
     ·rw [hdj] at hd hds ⊢
      by_cases e:T.off=false
      ·rw [(hjj.fl e 0).2.1];exact hv j hd hds
      ·rw [hjj.fl_off e];exact hv j hd hds
     ·rw [vo_alike hal hdj];exact hv d hd hds
    ·by_cases hdj:d=j
     ·rw [hdj]
      by_cases e:T.off=false
      ·have hnow:=hjj.now e
       exact (hjj.fl e (o j)).1.more fun c e2=>by rw [e2];exact hnow
      ·rw [hjj.fl_off e];exact hjj
     ·exact (hjp d hd hds).alike hal (fl_sectors T j) (fun e=>fl_on hjj.one e) hdj
    ·have hwj:Sh.why T j=0:=hw.elim id fun e2=>by rw [e2] at e;exact absurd e (show ¬bd 3=0 by decide)
     have ho:=hoff.mp hwj
     by_cases hdj:d=j
     ·rw [hdj] at hdn hds ⊢
      refine ⟨fun o'=>?_,(hjj.fl ho 0).2.2⟩
      rw [<- hv j hdn hds]
      exact (hjj.fl ho o').1
     ·obtain ⟨q1,q2⟩:=hdd d (by omega) hdn hds
      refine ⟨fun o'=>(q1 o').alike hal (fl_sectors T j) (fun e=>fl_on hjj.one e) hdj,?_⟩
      have:dk (Fl T j) d=dk T d:=hal.2 d hdj
      rw [this];exact q2
  ·have e:fdS S (j+1)=fdS S j:=fdS_stop S h0 (Nat.le_succ j)
   rw [e]
   exact ⟨hi.y03,hi.off,hi.vo,hi.jp,fun e=>absurd e h0,hi.on⟩
end
def pm (M st:Nat):Nat:=L.par M st
def plM (M st dm:Nat):Nat:=L.placeOf M (pm M st) dm
structure Gh where
 dat:Nat->Nat->Sh.Bs
 op:Nat->Option (Nat × Sh.Bs)
 sl:Nat->Nat->Option (Nat × Nat)
 sure:Nat->Nat->Bool
 lack:Nat->Nat->Prop
def partG (g:Gh) (M st dm:Nat):Sh.Bs:=xorL (g.dat st dm) (g.dat st (pm M st))
def recH (g:Gh) (M st dm:Nat):Sh.Bs:=headL (numF st (plM M st dm) (Nums.sum 0 (partG g M st dm)))
def okBlk (g:Gh) (M st m:Nat) (v:Option Sh.Bs):Prop :=
 v=some (g.dat st m)\/(g.lack st m/\v=none)\/∃dm old,g.op st=some (dm,old)/\((m=dm/\v=some old)\/(m=pm M st/\v=some (xorL (partG g M st dm) old)))
def okSlot (g:Gh) (M d k:Nat) (h q:Option Sh.Bs):Prop :=
 (g.sl d k=none/\h=some Sh.noughts)\/∃st dm,g.sl d k=some (st,dm)/\((g.sure d k=false/\h=some Sh.noughts)\/(h=some (recH g M st dm)/\q=some (partG g M st dm)))
structure Ar where
 s:Go.Proofs.YtgebkmpmnjhceaaGreatDoor.S.Sup
 n:Nat
 L:Nat
 M:Nat
 St:Nat
 Q:Nat->Option Sh.Bs->Option Sh.Bs->Prop
def Ar.at (A:Ar) (st:Nat):Nat:=2+2*A.L+st
def Ar.num (A:Ar) (st m:Nat):Nat:=numOf A.s A.M st m
structure Pd (A:Ar) (g:Gh) (d:Nat) (c:Nat->Option Sh.Bs):Prop where
 blk:∀st,st<A.St->∀m,m<A.M->A.num st m=d->okBlk g A.M st m (c (A.at st))
 slot:∀k,k<A.L->okSlot g A.M d k (c (2+2*k)) (c (3+2*k))
 part:∀k,k<A.L->c (3+2*k)≠none
 said:A.Q d (c 0) (c 1)
structure GhOk (A:Ar) (g:Gh):Prop where
 sum:∀st,st<A.St->SumZ A.M (g.dat st)
 sec:∀st m,st<A.St->m<A.M->Sh.Sec (g.dat st m)
 op:∀st dm old,g.op st=some (dm,old)->st<A.St/\dm<A.M/\dm≠pm A.M st/\Sh.Sec old
 sl:∀d k st dm,g.sl d k=some (st,dm)->st<A.St/\dm<A.M/\dm≠pm A.M st/\A.num st (pm A.M st)=d/\∀dm' old,g.op st=some (dm',old)->dm'=dm
 lack:∀st m m',st<A.St->m<A.M->m'<A.M->g.lack st m->g.lack st m'->m=m'
def RecOk (A:Ar) (S:Sh.Sf) (g:Gh):Prop :=
 ∀st dm old,g.op st=some (dm,old)->Dead S (A.num st dm)=false->Dead S (A.num st (pm A.M st))=false->∃k,k<A.L/\g.sl (A.num st (pm A.M st)) k=some (st,dm)/\g.sure (A.num st (pm A.M st)) k=true
structure ArOk (A:Ar):Prop where
 m3:3<=A.M
 l1:1<=A.L
 n17:A.n<=17
 l8:A.L<=8
 s2:A.St<=1024
 num:∀st m,m<A.M->A.num st m<A.n
 inj:∀st m m',m<A.M->m'<A.M->A.num st m=A.num st m'->m=m'
structure Ci (A:Ar) (S:Sh.Sf) (o:Nat->Int) (g:Gh):Prop where
 ar:ArOk A
 ok:GhOk A g
 disk:∀d,d<A.n->Dead S d=false->Jp2 S d (o d) (Pd A g d)
 dead:∀st m,st<A.St->m<A.M->Dead S (A.num st m)=true->g.lack st m
 rc:RecOk A S g
 len:S.disks.length=A.n
 fit:2+2*A.L+A.St<=blk S.sectors
 sec:SecS S
structure Fi (A:Ar) (S:Sh.Sf) (o:Nat->Int) (g:Gh) (U:Set0):Prop where
 ci:Ci A S o g
 on:S.off=false
 now:∀st,st<A.St->∀m,m<A.M->seen S (A.num st m) (A.at st)=some (g.dat st m)\/(g.lack st m/\seen S (A.num st m) (A.at st)=none)
 used:∀d k,d<A.n->k<A.L->g.sl d k≠none->Maps.has U (slotKey d k)=true
structure Oi (A:Ar) (S:Sh.Sf) (o:Nat->Int) (g:Gh) (D U:Set0):Prop where
 fi:Fi A S o g U
 opens:∀st,st<A.St->g.op st≠none->Maps.has D (.int .i64 st)=true
 slots:∀d k st dm,g.sl d k=some (st,dm)->Maps.has D (.int .i64 st)=true
section
variable {A:Ar} {S S':Sh.Sf} {o:Nat->Int} {g g':Gh} {D U:Set0} {d k:Nat} {y z:Int} {b:Sh.Bs}
theorem pm_lt (h:ArOk A) (st:Nat):pm A.M st<A.M:=L.par_lt _ _ (by have:=h.m3;omega)
theorem Ci.small (h:Ci A S o g) (hd:d<A.n) (hk:k<blk S.sectors):Small (V S d (dataOf k)):=(h.sec.V (by rw [h.len];exact hd) (sum_of_lt hk).1).2
theorem Ci.at_lt (h:Ci A S o g) {st:Nat} (hst:st<A.St):A.at st<blk S.sectors:=by have:=h.fit;unfold Ar.at;omega
theorem Ci.same (h:Ci A S o g) (hs:Same S S'):Ci A S' o g :=
 ⟨h.ar,h.ok,fun d hd hda=>(h.disk d hd (by rw [<- dead_same hs];exact hda)).same hs,fun st m h1 h2 h3=>h.dead st m h1 h2 (by rw [<- dead_same hs];exact h3),fun st dm old h1 h2 h3=>h.rc st dm old h1 (by rw [<- dead_same hs];exact h2) (by rw [<- dead_same hs];exact h3),by rw [hs.disks];exact h.len,by rw [hs.sectors];exact h.fit,h.sec.same hs⟩
theorem Fi.same (h:Fi A S o g U) (hs:Same S S'):Fi A S' o g U :=
 ⟨h.ci.same hs,hs.off.trans h.on,fun st hst m hm=>by rw [seen_same hs];exact h.now st hst m hm,h.used⟩
theorem Oi.same (h:Oi A S o g D U) (hs:Same S S'):Oi A S' o g D U:=⟨h.fi.same hs,h.opens,h.slots⟩
theorem Ci.dw (h:Ci A S o g) (hd:d<A.n) (ha:Dead S d=false) (hk:k<blk S.sectors) (hb:Sh.Sec b) (hz:S.off=false->NoBlank S d k b) (hD:DW S d (o d) k b y z S')
  (hm:∀e,e<A.n->∀c,Pd A g e c->Pd A g' e c) (hnew:S.off=false->Pd A g' d (updO (vo S d) k (some b))) (hg:GhOk A g') (hl:∀st m,g.lack st m->g'.lack st m) (hr:RecOk A S g') :
  Ci A S' (put1 o d z) g'/\(y=0->vo S' d=updO (vo S d) k (some b))/\(S'.off=false->y=0/\S.off=false)/\(S.off≠false->S'=S/\y=3)/\(y=0\/y=3)/\(y=0->S.off=false)/\(∀e,Dead S' e=Dead S e)/\(∀e,e≠d->vo S' e=vo S e):=by
 obtain ⟨j1,j2,j3,j4,j5,j6⟩:=(h.disk d hd ha).dw hk hb.2 (h.small hd hk) hz hD
 have hdd:=dead_dw hD
 have hal:=hD.alike
 refine ⟨⟨h.ar,hg,fun e he hde=>?_,fun st m h1 h2 h3=>hl st m (h.dead st m h1 h2 (by rw [<- hdd];exact h3)),fun st dm old h1 h2 h3=>hr st dm old h1 (by rw [<- hdd];exact h2) (by rw [<- hdd];exact h3),hD.len.trans h.len,by rw [hD.sectors];exact h.fit,h.sec.dw (by rw [h.len];exact hd) hk hb hD⟩,j2,j3,j4,j5,j6,hdd,fun e he=>vo_alike hal he⟩
 by_cases c:e=d
 ·rw [c]
  have e1:put1 o d z d=z:=by unfold put1;rw [if_pos rfl]
  rw [e1]
  exact j1.more fun c hc=>hc.elim (hm d hd c) fun e2=>by rw [e2.2];exact hnew e2.1
 ·have e1:put1 o d z e=o e:=by unfold put1;rw [if_neg c]
  rw [e1]
  rw [hdd] at hde
  exact ((h.disk e he hde).alike hal hD.sectors (fun e2=>(j3 e2).2) c).more (hm e he)
theorem Ci.fl (h:Ci A S o g) (hd:d<A.n) (ha:Dead S d=false) (hm:∀e,e<A.n->e≠d->∀c,Pd A g e c->Pd A g' e c) (hnow:S.off=false->Pd A g' d (vo S d)) (hoff:∀c,S.off≠false->Pd A g d c->Pd A g' d c) (hg:GhOk A g') (hl:∀st m,g.lack st m->g'.lack st m) (hr:RecOk A S g') (z:Int) :
  Ci A (Fl S d) (put1 o d z) g'/\vo (Fl S d) d=vo S d/\((Fl S d).off=false->S.off=false)/\(∀e,Dead (Fl S d) e=Dead S e)/\(∀e,e≠d->vo (Fl S d) e=vo S e):=by
 have hj:=h.disk d hd ha
 have hdd:=dead_fl S d
 have hal:=alike_fl S d
 have hon:(Fl S d).off=false->S.off=false:=fl_on hj.one
 refine ⟨⟨h.ar,hg,fun e he hde=>?_,fun st m h1 h2 h3=>hl st m (h.dead st m h1 h2 (by rw [<- hdd];exact h3)),fun st dm old h1 h2 h3=>hr st dm old h1 (by rw [<- hdd];exact h2) (by rw [<- hdd];exact h3),(fl_length S d).trans h.len,by rw [fl_sectors];exact h.fit,h.sec.fl (by rw [h.len];exact hd)⟩,?_,hon,hdd,fun e he=>vo_alike hal he⟩
 ·by_cases c:e=d
  ·rw [c]
   by_cases ho:S.off=false
   ·exact (hj.fl ho _).1.more fun c e2=>by rw [e2];exact hnow ho
   ·rw [hj.fl_off ho]
    exact (hj.off_any ho _).more fun c hc=>hoff c ho hc
  ·have e1:put1 o d z e=o e:=by unfold put1;rw [if_neg c]
   rw [e1]
   rw [hdd] at hde
   exact ((h.disk e he hde).alike hal (fl_sectors S d) hon c).more (hm e he c)
 ·by_cases ho:S.off=false
  ·exact (hj.fl ho 0).2.1
  ·rw [hj.fl_off ho]
end
structure Gle (g' g:Gh):Prop where
 dat:g'.dat=g.dat
 op:∀st x,g'.op st=some x->g.op st=some x
 lack:g'.lack=g.lack
theorem Gle.refl (g:Gh):Gle g g:=⟨rfl,fun _ _ e=>e,rfl⟩
theorem Gle.trans {a b c:Gh} (h:Gle a b) (k:Gle b c):Gle a c:=⟨h.dat.trans k.dat,fun st x e=>k.op st x (h.op st x e),h.lack.trans k.lack⟩
def Gh.shut (g:Gh):Gh:={ g with op:=fun _=>none,sure:=fun _ _=>false }
def Gh.closed (g:Gh):Gh:={ g with op:=fun _=>none,sl:=fun _ _=>none }
theorem gle_shut (g:Gh):Gle g.shut g:=⟨rfl,(fun _ _ e=>by cases e),rfl⟩
theorem gle_closed (g:Gh):Gle g.closed g:=⟨rfl,(fun _ _ e=>by cases e),rfl⟩
theorem has_none {U:Set0} (h:Maps.size U=0) (k:Lit):Maps.has U k=false:=by
 unfold Maps.size at h
 unfold Maps.has
 split
 ·rename_i es
  simp only at h
  rw [List.eq_nil_of_length_eq_zero h]
  rfl
 ·rfl
theorem mem_slotsTo {L j k d x:Nat} (hd:d<j) (hx:x<L):(d,x)∈slotsTo L j k:=by
 unfold slotsTo
 refine List.mem_append_left _ ?_
 rw [List.mem_flatMap]
 exact ⟨d,List.mem_range.2 hd,List.mem_map.2 ⟨x,List.mem_range.2 hx,rfl⟩⟩
theorem slotsTo_lt {L j k n:Nat} (hj:j<n) (hk:k<=L) {x:Nat × Nat} (h:x∈slotsTo L j k):x.1<n/\x.2<L:=by
 unfold slotsTo at h
 rcases List.mem_append.1 h with h | h
 ·rw [List.mem_flatMap] at h
  obtain ⟨d,hd,h⟩:=h
  obtain ⟨y,hy,rfl⟩:=List.mem_map.1 h
  exact ⟨by have:=List.mem_range.1 hd;omega,List.mem_range.1 hy⟩
 ·obtain ⟨y,hy,rfl⟩:=List.mem_map.1 h
  exact ⟨hj,by have:=List.mem_range.1 hy;omega⟩
theorem slotsTo_all {L n:Nat} {x:Nat × Nat} (h:x∈slotsTo L n 0):x.1<n/\x.2<L:=by
 unfold slotsTo at h
 rcases List.mem_append.1 h with h | h
 ·rw [List.mem_flatMap] at h
  obtain ⟨d,hd,h⟩:=h
  obtain ⟨y,hy,rfl⟩:=List.mem_map.1 h
  exact ⟨List.mem_range.1 hd,List.mem_range.1 hy⟩
 ·simp at h
section
variable {A:Ar} {S S':Sh.Sf} {o:Nat->Int} {g g':Gh} {D U:Set0} {d k:Nat} {y z:Int} {b:Sh.Bs}
theorem okSlot.head {M:Nat} {h q:Option Sh.Bs} (e:okSlot g M d k h q):h≠none:=by
 rcases e with ⟨_,rfl⟩ | ⟨_,_,_,⟨_,rfl⟩ | ⟨rfl,_⟩⟩<;>simp
theorem GhOk.shut (h:GhOk A g):GhOk A g.shut:=⟨h.sum,h.sec,(fun _ _ _ e=>by cases e),fun d k st dm e=>by
 obtain ⟨h1,h2,h3,h4,_⟩:=h.sl d k st dm e
 exact ⟨h1,h2,h3,h4,fun _ _ e=>by cases e⟩,h.lack⟩
theorem GhOk.closed (h:GhOk A g):GhOk A g.closed:=⟨h.sum,h.sec,(fun _ _ _ e=>by cases e),(fun _ _ _ _ e=>by cases e),h.lack⟩
theorem Fi.shutPd (h:Fi A S o g U) (hd:d<A.n) (ha:Dead S d=false):Pd A g.shut d (vo S d):=by
 have hp:=(h.ci.disk d hd ha).now h.on
 refine ⟨fun st hst m hm hn=>?_,fun k hk=>?_,hp.part,hp.said⟩
 ·have hs:=h.now st hst m hm
  rw [hn,seen_alive ha h.on] at hs
  exact hs.imp id fun e=>.inl e
 ·rcases hp.slot k hk with e | ⟨st,dm,e1,e2⟩
  ·exact .inl e
  ·exact .inr ⟨st,dm,e1,e2.imp (fun e=>⟨rfl,e.2⟩) id⟩
theorem Ci.flushed (h:Ci A S o g) {g':Gh} (hg:GhOk A g') (hl:g'.lack=g.lack) (hr:∀st x,g'.op st≠some x) (hp:∀d,d<A.n->Dead S d=false->Pd A g' d (vo S d)) (h0:(fdS S A.n).2=0) (o':Nat->Int) :
  Ci A (fdS S A.n).1 o' g'/\(∀d,d<A.n->Dead S d=false->vo (fdS S A.n).1 d=vo S d)/\(∀d,Dead (fdS S A.n).1 d=Dead S d):=by
 have hF:=Fds.all (P:=Pd A g) h.len (fun d hd ha=>h.disk d hd ha) A.n (Nat.le_refl _)
 have hd:=fdS_dead S A.n
 refine ⟨⟨h.ar,hg,fun d h1 h2=>?_,fun st m h1 h2 h3=>?_,fun st dm old e=>absurd e (hr st _),(fdS_length S A.n).trans h.len,by rw [fdS_sectors];exact h.fit,fdS_secS h.sec (by rw [h.len];exact Nat.le_refl _)⟩,hF.vo,hd⟩
 ·rw [hd] at h2
  exact ((hF.done h0 d h1 h1 h2).1 (o' d)).more fun c e=>by rw [e];exact hp d h1 h2
 ·rw [hl]
  exact h.dead st m h1 h2 (by rw [<- hd];exact h3)
theorem fdS_off {S:Sh.Sf} (hoff:S.off≠false) {n:Nat} (hn:1<=n):fdS S n=(S,3):=by
 have hw:=off_why hoff 0
 have h1:fdS S 1=(S,3):=by
  rw [fdS_succ S (d:=0) rfl]
  show (Fl S 0,bd (Sh.why S 0))=_
  rw [fl_why (by rw [hw];decide),hw]
  rfl
 rw [fdS_stop S (k:=1) (n:=n) (by rw [h1];simp) hn,h1]
theorem Ci.n1 (h:Ci A S o g):1<=A.n:=by
 have:=h.ar.num 0 0 (by have:=h.ar.m3;omega)
 omega
theorem Ci.flushOff (h:Ci A S o g) (h0:(fdS S A.n).2≠0) (o':Nat->Int) :
  Ci A (fdS S A.n).1 o' g/\(fdS S A.n).2=3/\(fdS S A.n).1.off≠false/\(∀d,Dead (fdS S A.n).1 d=Dead S d):=by
 have hF:=Fds.all (P:=Pd A g) h.len (fun d hd ha=>h.disk d hd ha) A.n (Nat.le_refl _)
 have hd:=fdS_dead S A.n
 refine ⟨⟨h.ar,h.ok,fun d h1 h2=>?_,fun st m h1 h2 h3=>h.dead st m h1 h2 (by rw [<- hd];exact h3),fun st dm old h1 h2 h3=>h.rc st dm old h1 (by rw [<- hd];exact h2) (by rw [<- hd];exact h3),(fdS_length S A.n).trans h.len,by rw [fdS_sectors];exact h.fit,fdS_secS h.sec (by rw [h.len];exact Nat.le_refl _)⟩,hF.y03.elim (fun e=>absurd e h0) id,hF.off h0,hd⟩
 rw [hd] at h2
 exact (hF.jp d h1 h2).off_any (hF.off h0) (o' d)
/-! ### slots are cleared -/
structure ClrI (A:Ar) (S:Sh.Sf) (U:Set0) (g:Gh) (l:List (Nat × Nat)) (c:Stt):Prop where
 ci:Ci A c.S c.o g
 dead:∀d,Dead c.S d=Dead S d
 kept:∀d,d<A.n->Dead S d=false->∀j,vo c.S d j=vo S d j\/(∃k,k<A.L/\j=2+2*k)/\vo c.S d j=some Sh.noughts
 done:∀x∈l,Maps.has U (slotKey x.1 x.2)=true->Dead S x.1=false->vo c.S x.1 (2+2*x.2)=some Sh.noughts
theorem ClrI.step {c e:Stt} {l:List (Nat × Nat)} {x:Nat × Nat} (h:ClrI A S U g l c) (hs:∀d k,g.sure d k=false) (hx:x.1<A.n/\x.2<A.L) (hC:ClrStep U x c y e) :
  Ci A e.S e.o g/\(∀d,Dead e.S d=Dead S d)/\(y=0->ClrI A S U g (l++[x]) e)/\(y=0\/y=3)/\(y≠0->e.S.off≠false):=by
 obtain ⟨d,k⟩:=x
 obtain ⟨hd,hk⟩:=hx
 simp only at hd hk
 rcases hC with ⟨hu,rfl,rfl⟩ | ⟨hu,z,z',hD,rfl,ho⟩
 ·refine ⟨h.ci,h.dead,fun _=>⟨h.ci,h.dead,h.kept,fun w hw hu2 hds=>?_⟩,.inl rfl,fun e=>absurd rfl e⟩
  rcases List.mem_append.1 hw with hw | hw
  ·exact h.done w hw hu2 hds
  ·rw [List.mem_singleton.1 hw] at hu2
   rw [hu] at hu2;cases hu2
 ·simp only at hu hD ho
  by_cases hda:Dead c.S d=true
  ·-- a dead disk: nothing is done
   have hwn:Sh.why c.S d≠0:=fun e2=>by
    have h1:=hda
    unfold Dead dk at h1
    unfold Sh.why at e2
    rw [h1] at e2
    by_cases ho:c.S.off=true
    ·rw [if_pos ho] at e2;exact absurd e2 (by decide)
    ·rw [if_neg ho,if_pos rfl] at e2;exact absurd e2 (by decide)
   rcases hD with ⟨_,rfl,rfl,hS⟩ | ⟨hw0,_⟩
   ·have he:e=c:=by
     obtain ⟨eS,eo⟩:=e
     obtain ⟨cS,co⟩:=c
     simp only at hS ho
     rw [hS,ho,put1_same]
    subst he
    have hy:bd (Sh.why e.S d)=0\/(bd (Sh.why e.S d)=3/\e.S.off≠false):=by
     by_cases ho:e.S.off=false
     ·rw [dead_why hda ho];exact .inl rfl
     ·rw [off_why ho];exact .inr ⟨rfl,ho⟩
    refine ⟨h.ci,h.dead,fun _=>⟨h.ci,h.dead,h.kept,fun w hw hu2 hds=>?_⟩,hy.imp id And.left,fun e2=>hy.elim (fun e3=>absurd e3 e2) And.right⟩
    rcases List.mem_append.1 hw with hw | hw
    ·exact h.done w hw hu2 hds
    ·rw [List.mem_singleton.1 hw] at hds
     rw [<- h.dead,hda] at hds;cases hds
   ·exact absurd hw0 hwn
  ·have hda:Dead c.S d=false:=by simpa using hda
   have hfit:=h.ci.fit
   have hkb:2+2*k<blk c.S.sectors:=by omega
   have hpd:=fun hon=>(h.ci.disk d hd hda).now hon
   obtain ⟨q1,q2,q3,q4,q5,q6,q7,q8⟩:=h.ci.dw (g':=g) hd hda hkb Sh.noughts_sec (fun hon=>noBlank_good ((hpd hon).slot k hk).head _) hD (fun _ _ _ hc=>hc) (fun hon=>⟨fun st hst m hm hn=>by
     have e1:updO (vo c.S d) (2+2*k) (some Sh.noughts) (A.at st)=vo c.S d (A.at st):=if_neg (by unfold Ar.at;omega)
     rw [e1]
     exact (hpd hon).blk st hst m hm hn,fun k' hk'=>by
     have e2:updO (vo c.S d) (2+2*k) (some Sh.noughts) (3+2*k')=vo c.S d (3+2*k'):=if_neg (by omega)
     rw [e2]
     by_cases hkk:k'=k
     ·subst hkk
      have e1:updO (vo c.S d) (2+2*k') (some Sh.noughts) (2+2*k')=some Sh.noughts:=if_pos rfl
      rw [e1]
      rcases (hpd hon).slot k' hk' with e | ⟨st,dm,e3,_⟩
      ·exact .inl ⟨e.1,rfl⟩
      ·exact .inr ⟨st,dm,e3,.inl ⟨hs d k',rfl⟩⟩
     ·have e1:updO (vo c.S d) (2+2*k) (some Sh.noughts) (2+2*k')=vo c.S d (2+2*k'):=if_neg (by omega)
      rw [e1]
      exact (hpd hon).slot k' hk',fun k' hk'=>by
     have e2:updO (vo c.S d) (2+2*k) (some Sh.noughts) (3+2*k')=vo c.S d (3+2*k'):=if_neg (by omega)
     rw [e2]
     exact (hpd hon).part k' hk',by
     have e1:∀j,j<2->updO (vo c.S d) (2+2*k) (some Sh.noughts) j=vo c.S d j:=fun j hj=>if_neg (by omega)
     rw [e1 0 (by decide),e1 1 (by decide)]
     exact (hpd hon).said⟩) h.ci.ok (fun _ _ e=>e) h.ci.rc
   have hbd:bd z=z:=by rcases q5 with e | e<;>rw [e]<;>rfl
   have hqd:∀d,Dead e.S d=Dead S d:=fun d=>(q7 d).trans (h.dead d)
   rw [hbd,ho]
   refine ⟨q1,hqd,fun e0=>⟨by rw [ho];exact q1,hqd,fun d' hd' hds j=>?_,fun w hw hu2 hds=>?_⟩,q5,fun e0 e1=>e0 (q3 e1).1⟩
   ·by_cases c1:d'=d
    ·subst c1
     rw [q2 e0]
     by_cases c2:j=2+2*k
     ·subst c2
      exact .inr ⟨⟨k,hk,rfl⟩,if_pos rfl⟩
     ·have e1:updO (vo c.S d') (2+2*k) (some Sh.noughts) j=vo c.S d' j:=if_neg c2
      rw [e1]
      exact h.kept d' hd' hds j
    ·rw [q8 d' c1]
     exact h.kept d' hd' hds j
   ·rcases List.mem_append.1 hw with hw | hw
    ·have:=h.done w hw hu2 hds
     by_cases c1:w.1=d
     ·rw [c1] at this ⊢
      rw [q2 e0]
      by_cases c2:2+2*w.2=2+2*k
      ·exact if_pos c2
      ·exact (if_neg c2:updO (vo c.S d) (2+2*k) (some Sh.noughts) (2+2*w.2)=_).trans this
     ·rw [q8 _ c1];exact this
    ·rw [List.mem_singleton.1 hw]
     show vo e.S d (2+2*k)=_
     rw [q2 e0]
     exact if_pos rfl
theorem ClrI.steps {c0 e:Stt} {l:List (Nat × Nat)} (hC:ClrSteps U l c0 e) (h0:ClrI A S U g [] c0) (hs:∀d k,g.sure d k=false) (hl:∀x∈l,x.1<A.n/\x.2<A.L):ClrI A S U g l e:=by
 induction hC with
 | nil=>exact h0
 | snoc h1 h2 ih =>
  have i:=ih h0 fun x hx=>hl x (List.mem_append_left _ hx)
  exact (i.step hs (hl _ (List.mem_append_right _ (List.mem_singleton.2 rfl))) h2).2.2.1 rfl
theorem Fi.flush {D' U':Set0} {e:Stt} (h:Fi A S o g U) (hF:FlR A.n A.L D U S y e D' U') :
  (∀d,Dead e.S d=Dead S d)/\((y=0/\D'=noSet/\U'=noSet/\Ci A e.S e.o g.closed/\(e.S.off=false->Oi A e.S e.o g.closed noSet noSet)) \/
  (y=3/\e.S.off≠false/\∃g',Gle g' g/\Ci A e.S e.o g')):=by
 have hp:=fun d hd ha=>h.shutPd (d:=d) hd ha
 have last:∀{T:Sh.Sf} {o':Nat->Int},Ci A T o' g.closed->(∀d,Dead T d=Dead S d)->(∀d,d<A.n->Dead S d=false->∀st,st<A.St->vo T d (A.at st)=vo S d (A.at st))->T.off=false->Oi A T o' g.closed noSet noSet:=by
  intro T o' hc hdd hv hon
  refine ⟨⟨hc,hon,fun st hst m hm=>?_,fun _ _ _ _ e=>absurd rfl e⟩,fun _ _ e=>absurd rfl e,fun _ _ _ _ e=>by cases e⟩
  have hn:=h.now st hst m hm
  cases hda:Dead S (A.num st m)
  ·rw [seen_alive ((hdd _).trans hda) hon,hv _ (h.ci.ar.num st m hm) hda st hst]
   rw [seen_alive hda h.on] at hn
   exact hn
  ·rw [seen_dead ((hdd _).trans hda)]
   rw [seen_dead hda] at hn
   exact hn
 have hz:∀d,d<A.n->Dead S d=false->∀k,k<A.L->g.sl d k=none->vo S d (2+2*k)=some Sh.noughts:=fun d hd ha k hk e=>by
  rcases (hp d hd ha).slot k hk with e1 | ⟨st,dm,e1,_⟩
  ·exact e1.2
  ·have e1:g.sl d k=some (st,dm):=e1
   rw [e] at e1;cases e1
 cases hF with
 | first o' h0 =>
  obtain ⟨q1,q2,q3,q4⟩:=h.ci.flushOff h0 o'
  exact ⟨q4,.inr ⟨q2,q3,g,Gle.refl g,q1⟩⟩
 | none o' h0 hu =>
  obtain ⟨q1,q2,q3⟩:=h.ci.flushed h.ci.ok.closed (g':=g.closed) rfl (fun _ _ e=>by cases e) (fun d hd ha=>⟨fun st hst m hm hn=>(hp d hd ha).blk st hst m hm hn,fun k hk=>.inl ⟨rfl,hz d hd ha k hk (by
   cases hsl:g.sl d k with
   | none=>rfl
   | some x =>
    have:=h.used d k hd hk (by rw [hsl];simp)
    rw [has_none hu] at this;cases this)⟩,(hp d hd ha).part,(hp d hd ha).said⟩) h0 o'
  exact ⟨q3,.inl ⟨rfl,rfl,rfl,q1,last q1 q3 fun d hd ha st hst=>by rw [q2 d hd ha]⟩⟩
 | slots o1 y e h0 hu hC hy =>
  obtain ⟨q1,q2,q3⟩:=h.ci.flushed h.ci.ok.shut (g':=g.shut) rfl (fun _ _ e=>by cases e) hp h0 o1
  have i0:ClrI A S U g.shut [] ⟨(fdS S A.n).1,o1⟩:=⟨q1,q3,fun d hd ha j=>.inl (by rw [q2 d hd ha]),fun _ hx=>by cases hx⟩
  rcases hC with ⟨hy0,_⟩ | ⟨_,j,k,c,hj,hk,hs,hst⟩
  ·exact absurd hy0 hy
  ·have i1:=ClrI.steps hs i0 (fun _ _=>rfl) fun x hx=>slotsTo_lt hj (Nat.le_of_lt hk) hx
   obtain ⟨r1,r2,_,r4,r5⟩:=i1.step (fun _ _=>rfl) ⟨hj,hk⟩ hst
   exact ⟨r2,.inr ⟨r4.elim (fun e=>absurd e hy) id,r5 hy,g.shut,gle_shut g,r1⟩⟩
 | again o1 o' e h0 hu hC hy =>
  obtain ⟨q1,q2,q3⟩:=h.ci.flushed h.ci.ok.shut (g':=g.shut) rfl (fun _ _ e=>by cases e) hp h0 o1
  have i0:ClrI A S U g.shut [] ⟨(fdS S A.n).1,o1⟩:=⟨q1,q3,fun d hd ha j=>.inl (by rw [q2 d hd ha]),fun _ hx=>by cases hx⟩
  rcases hC with ⟨_,hs⟩ | ⟨hy0,_⟩
  ·have i1:=ClrI.steps hs i0 (fun _ _=>rfl) fun x hx=>slotsTo_all hx
   by_cases hon:e.S.off=false
   ·obtain ⟨r1,r2,r3,r4⟩:=i1.ci.flushOff hy o'
    exact ⟨fun d=>(r4 d).trans (i1.dead d),.inr ⟨r2,r3,g.shut,gle_shut g,r1⟩⟩
   ·rw [fdS_off hon h.ci.n1]
    have hc:Ci A e.S o' g.shut:=⟨i1.ci.ar,i1.ci.ok,fun d h1 h2=>(i1.ci.disk d h1 h2).off_any hon _,i1.ci.dead,i1.ci.rc,i1.ci.len,i1.ci.fit,i1.ci.sec⟩
    exact ⟨i1.dead,.inr ⟨rfl,hon,g.shut,gle_shut g,hc⟩⟩
  ·exact absurd rfl hy0
 | all o1 o' e h0 hu hC hy =>
  obtain ⟨q1,q2,q3⟩:=h.ci.flushed h.ci.ok.shut (g':=g.shut) rfl (fun _ _ e=>by cases e) hp h0 o1
  have i0:ClrI A S U g.shut [] ⟨(fdS S A.n).1,o1⟩:=⟨q1,q3,fun d hd ha j=>.inl (by rw [q2 d hd ha]),fun _ hx=>by cases hx⟩
  rcases hC with ⟨_,hs⟩ | ⟨hy0,_⟩
  ·have i1:=ClrI.steps hs i0 (fun _ _=>rfl) fun x hx=>slotsTo_all hx
   have hon:e.S.off=false:=by
    by_cases c:e.S.off=false
    ·exact c
    ·rw [fdS_off c h.ci.n1] at hy
     exact absurd hy (show ¬(3:Int)=0 by decide)
   have hblk:∀d,d<A.n->Dead S d=false->∀j,(∀k,k<A.L->j≠2+2*k)->vo e.S d j=vo S d j:=fun d hd ha j hj=>(i1.kept d hd ha j).elim id fun ⟨⟨k,hk,e⟩,_⟩=>absurd e (hj k hk)
   obtain ⟨r1,r2,r3⟩:=i1.ci.flushed h.ci.ok.closed (g':=g.closed) rfl (fun _ _ e=>by cases e) (fun d hd ha2=>by
    have ha:Dead S d=false:=by rw [<- i1.dead];exact ha2
    refine ⟨fun st hst m hm hn=>?_,fun k hk=>.inl ⟨rfl,?_⟩,fun k hk=>?_,?_⟩
    ·rw [hblk d hd ha _ (fun k hk=>by unfold Ar.at;omega)]
     exact (hp d hd ha).blk st hst m hm hn
    ·by_cases hus:Maps.has U (slotKey d k)=true
     ·exact i1.done (d,k) (mem_slotsTo hd hk) hus ha
     ·have hsl:g.sl d k=none:=by
       cases hsl:g.sl d k with
       | none=>rfl
       | some x=>exact absurd (h.used d k hd hk (by rw [hsl];simp)) hus
      exact (i1.kept d hd ha (2+2*k)).elim (fun e=>by rw [e];exact hz d hd ha k hk hsl) And.right
    ·rw [hblk d hd ha _ (fun k' _=>by omega)]
     exact (hp d hd ha).part k hk
    ·rw [hblk d hd ha 0 (fun k _=>by omega),hblk d hd ha 1 (fun k _=>by omega)]
     exact (hp d hd ha).said) hy o'
   exact ⟨fun d=>(r3 d).trans (i1.dead d),.inl ⟨rfl,rfl,rfl,r1,last r1 (fun d=>(r3 d).trans (i1.dead d)) fun d hd ha st hst=>by
    rw [r2 d hd ((i1.dead d).trans ha)]
    exact hblk d hd ha _ (fun k hk=>by unfold Ar.at;omega)⟩⟩
  ·exact absurd rfl hy0
end
def Gh.slot (g:Gh) (d k st dm:Nat) (b:Bool):Gh:={ g with sl:=fun e j=>if e=d/\j=k then some (st,dm) else g.sl e j,sure:=fun e j=>if e=d/\j=k then b else g.sure e j }
def Gh.write (g:Gh) (M st dm:Nat) (x:Sh.Bs):Gh :=
 { g with dat:=fun st' m=>if st'=st then (if m=dm then x else if m=pm M st then xorL (partG g M st dm) x else g.dat st m) else g.dat st' m,op:=fun st'=>if st'=st then some (dm,g.dat st dm) else g.op st' }
section
variable {A:Ar} {S S':Sh.Sf} {o:Nat->Int} {g g':Gh} {D U:Set0} {d k st dm:Nat} {y z:Int} {b x:Sh.Bs} {c:Nat->Option Sh.Bs}
theorem Pd.put (h:Pd A g d c) (ha:ArOk A) {m:Nat} (hm:m<A.M) (hd:A.num st m=d):Pd A g d (updO c (A.at st) (some (g.dat st m))):=by
 have e1:∀j,j≠A.at st->updO c (A.at st) (some (g.dat st m)) j=c j:=fun j hj=>if_neg hj
 refine ⟨fun st' hst' m' hm' hn'=>?_,fun k hk=>?_,fun k hk=>?_,?_⟩
 ·by_cases e:st'=st
  ·subst e
   rw [(ha.inj st' m' m hm' hm (hn'.trans hd.symm):m'=m)]
   exact .inl (if_pos rfl)
  ·rw [e1 _ (fun e2=>e (by unfold Ar.at at e2;omega))]
   exact h.blk st' hst' m' hm' hn'
 ·rw [e1 _ (by unfold Ar.at;omega),e1 _ (by unfold Ar.at;omega)]
  exact h.slot k hk
 ·rw [e1 _ (by unfold Ar.at;omega)]
  exact h.part k hk
 ·rw [e1 _ (by unfold Ar.at;omega),e1 _ (by unfold Ar.at;omega)]
  exact h.said
theorem Pd.slots (h:Pd A g d c) {c':Nat->Option Sh.Bs} (hs:∀k,k<A.L->okSlot g' A.M d k (c' (2+2*k)) (c' (3+2*k))) (hp:∀k,k<A.L->c' (3+2*k)≠none) (he:∀j,(∀k,k<A.L->j≠2+2*k/\j≠3+2*k)->c' j=c j) (hg:∀st m v,okBlk g A.M st m v->okBlk g' A.M st m v):Pd A g' d c':=by
 refine ⟨fun st hst m hm hn=>?_,hs,hp,?_⟩
 ·rw [he _ (fun k hk=>by unfold Ar.at;omega)]
  exact hg _ _ _ (h.blk st hst m hm hn)
 ·rw [he 0 (fun k _=>by omega),he 1 (fun k _=>by omega)]
  exact h.said
theorem Gh.slot_none (hsl:g.sl d k=none) (b:Bool) {e j st' dm':Nat} (h:g.sl e j=some (st',dm')):(g.slot d k st dm b).sl e j=some (st',dm')/\(g.slot d k st dm b).sure e j=g.sure e j:=by
 have hn:¬(e=d/\j=k):=fun ⟨e1,e2⟩=>by rw [e1,e2,hsl] at h;cases h
 exact ⟨(if_neg hn).trans h,if_neg hn⟩
theorem GhOk.slot (h:GhOk A g) (hst:st<A.St) (hdm:dm<A.M) (hne:dm≠pm A.M st) (hd:A.num st (pm A.M st)=d) (hop:g.op st=none) (b:Bool):GhOk A (g.slot d k st dm b):=by
 refine ⟨h.sum,h.sec,h.op,fun e j st' dm' hs=>?_,h.lack⟩
 have hs:(if e=d/\j=k then some (st,dm) else g.sl e j)=some (st',dm'):=hs
 by_cases c:e=d/\j=k
 ·rw [if_pos c] at hs
  injection hs with hs
  injection hs with e1 e2
  subst e1 e2
  exact ⟨hst,hdm,hne,hd.trans c.1.symm,fun dm' old e=>by rw [show (g.slot d k st dm b).op st=g.op st from rfl,hop] at e;cases e⟩
 ·rw [if_neg c] at hs
  exact h.sl e j st' dm' hs
theorem RecOk.slot (h:RecOk A S g) (hsl:g.sl d k=none) (b:Bool):RecOk A S (g.slot d k st dm b):=by
 intro st' dm' old h1 h2 h3
 obtain ⟨j,hj,q1,q2⟩:=h st' dm' old h1 h2 h3
 obtain ⟨r1,r2⟩:=Gh.slot_none (st:=st) (dm:=dm) hsl b q1
 exact ⟨j,hj,r1,r2.trans q2⟩
theorem Sec.part (h:GhOk A g) (ha:ArOk A) (hst:st<A.St) (hdm:dm<A.M):Sh.Sec (partG g A.M st dm):=xor_sec (h.sec st dm hst hdm) (h.sec st _ hst (pm_lt ha st))
theorem Ci.tail {e:Stt} {D' U':Set0} (h:Ci A S o g) (hd:d<A.n) (ha:Dead S d=false) (hk:k<A.L) (hsl:g.sl d k=none) (hop:g.op st=none) (hst:st<A.St) (hdm:dm<A.M) (hne:dm≠pm A.M st) (hnum:A.num st (pm A.M st)=d)
  (hR:RecTail d k (partG g A.M st dm) (recH g A.M st dm) ⟨S,o⟩ D U y e D' U') :
  D'=D/\U'=U.put (slotKey d k) one0/\(∀d,Dead e.S d=Dead S d)/\(y=0\/y=3)/\(y≠0->e.S.off≠false/\∃g',Gle g' g/\Ci A e.S e.o g') /\
  (y=0->Ci A e.S e.o (g.slot d k st dm true)/\(e.S.off=false->S.off=false)/\∀d' j,d'<A.n->(∀k,k<A.L->j≠2+2*k/\j≠3+2*k)->vo e.S d' j=vo S d' j):=by
 obtain ⟨rfl,rfl,z,o1,S2,hP,hT⟩:=hR
 refine ⟨rfl,rfl,?_⟩
 have hfit:=h.fit
 have hpt:=Sec.part h.ok h.ar hst hdm
 have hrh:Sh.Sec (recH g A.M st dm):=⟨headL_length _,headL_small _⟩
 have hsf:okSlot g A.M d k (some Sh.noughts) (some (partG g A.M st dm)):=.inl ⟨hsl,rfl⟩
 obtain ⟨y1,x1,S1,hD1,hD2⟩:=hP
 have hp0:=fun hon=>(h.disk d hd ha).now hon
 -- the part
 obtain ⟨q1,q2,q3,q4,q5,q6,q7,q8⟩:=h.dw (g':=g) hd ha (k:=3+2*k) (by omega) hpt (fun hon=>noBlank_good ((hp0 hon).part k hk) _) hD1 (fun _ _ _ hc=>hc) (fun hon=>by
  refine (hp0 hon).slots (g':=g) (fun k' hk'=>?_) (fun k' hk'=>?_) (fun j hj=>if_neg (hj k hk).2) fun _ _ _ e=>e
  ·have e1:updO (vo S d) (3+2*k) (some (partG g A.M st dm)) (2+2*k')=vo S d (2+2*k'):=if_neg (by omega)
   rw [e1]
   by_cases c:k'=k
   ·subst c
    rcases (hp0 hon).slot k' hk' with e | ⟨_,_,e,_⟩
    ·exact .inl e
    ·rw [hsl] at e;cases e
   ·have e2:updO (vo S d) (3+2*k) (some (partG g A.M st dm)) (3+2*k')=vo S d (3+2*k'):=if_neg (by omega)
    rw [e2]
    exact (hp0 hon).slot k' hk'
  ·by_cases c:k'=k
   ·subst c
    have e2:updO (vo S d) (3+2*k') (some (partG g A.M st dm)) (3+2*k')=some (partG g A.M st dm):=if_pos rfl
    rw [e2];simp
   ·have e2:updO (vo S d) (3+2*k) (some (partG g A.M st dm)) (3+2*k')=vo S d (3+2*k'):=if_neg (by omega)
    rw [e2]
    exact (hp0 hon).part k' hk') h.ok (fun _ _ e=>e) h.rc
 rcases hD2 with ⟨hy1,rfl,rfl,rfl⟩ | ⟨rfl,hD2⟩
 ·rcases hT with ⟨_,rfl,rfl⟩ | ⟨hz,_⟩
  ·exact ⟨q7,q5,fun hy=>⟨fun hon=>hy (q3 hon).1,g,Gle.refl g,q1⟩,fun hy=>absurd hy hy1⟩
  ·exact absurd hz hy1
 ·-- the head
  have ha1:Dead S1 d=false:=(q7 d).trans ha
  have hv1:=q2 rfl
  have hp1:=fun hon=>(q1.disk d hd ha1).now hon
  have hsec1:S1.sectors=S.sectors:=hD1.sectors
  have hox:put1 o d x1 d=x1:=if_pos rfl
  have hmono:∀(b:Bool) e,e<A.n->∀c,(e=d->b=false)->Pd A g e c->Pd A (g.slot d k st dm b) e c:=fun b e _ c hb hc=>by
   refine hc.slots (fun k' hk'=>?_) hc.part (fun _ _=>rfl) fun _ _ _ e=>e
   by_cases c1:e=d/\k'=k
   ·rcases hc.slot k' hk' with e1 | ⟨_,_,e1,_⟩
    ·exact .inr ⟨st,dm,if_pos c1,.inl ⟨(if_pos c1).trans (hb c1.1),e1.2⟩⟩
    ·rw [c1.1,c1.2,hsl] at e1;cases e1
   ·rcases hc.slot k' hk' with e1 | ⟨s1,s2,e1,e2⟩
    ·exact .inl ⟨(if_neg c1).trans e1.1,e1.2⟩
    ·exact .inr ⟨s1,s2,(if_neg c1).trans e1,e2.imp (fun e=>⟨(if_neg c1).trans e.1,e.2⟩) id⟩
  have hfull:∀(b:Bool) (c:Nat->Option Sh.Bs),Pd A g d (updO c (3+2*k) (some (partG g A.M st dm)))->Pd A (g.slot d k st dm b) d (updO (updO c (3+2*k) (some (partG g A.M st dm))) (2+2*k) (some (recH g A.M st dm))):=fun b c hc=>by
   refine hc.slots (fun k' hk'=>?_) (fun k' hk'=>?_) (fun j hj=>if_neg (hj k hk).1) fun _ _ _ e=>e
   ·by_cases c1:k'=k
    ·subst c1
     refine .inr ⟨st,dm,if_pos ⟨rfl,rfl⟩,.inr ⟨if_pos rfl,?_⟩⟩
     exact (if_neg (by omega)).trans (if_pos rfl)
    ·have e1:updO (updO c (3+2*k) (some (partG g A.M st dm))) (2+2*k) (some (recH g A.M st dm)) (2+2*k')=updO c (3+2*k) (some (partG g A.M st dm)) (2+2*k'):=if_neg (by omega)
     have e2:updO (updO c (3+2*k) (some (partG g A.M st dm))) (2+2*k) (some (recH g A.M st dm)) (3+2*k')=updO c (3+2*k) (some (partG g A.M st dm)) (3+2*k'):=if_neg (by omega)
     rw [e1,e2]
     have cn:¬(d=d/\k'=k):=fun e=>c1 e.2
     rcases hc.slot k' hk' with e1 | ⟨s1,s2,e1,e2⟩
     ·exact .inl ⟨(if_neg cn).trans e1.1,e1.2⟩
     ·exact .inr ⟨s1,s2,(if_neg cn).trans e1,e2.imp (fun e=>⟨(if_neg cn).trans e.1,e.2⟩) id⟩
   ·have e2:updO (updO c (3+2*k) (some (partG g A.M st dm))) (2+2*k) (some (recH g A.M st dm)) (3+2*k')=updO c (3+2*k) (some (partG g A.M st dm)) (3+2*k'):=if_neg (by omega)
    rw [e2]
    exact hc.part k' hk'
  rw [hv1] at hp1
  obtain ⟨r1,r2,r3,r4,r5,r6,r7,r8⟩:=q1.dw (g':=g.slot d k st dm false) hd ha1 (k:=2+2*k) (by rw [hsec1];omega) hrh (fun hon=>noBlank_good (by rw [hv1];exact ((hp1 hon).slot k hk).head) _) (by rw [hox];exact hD2) (fun e he c hc=>hmono false e he c (fun _=>rfl) hc) (fun hon=>by rw [hv1];exact hfull false _ (hp1 hon)) (h.ok.slot hst hdm hne hnum hop false) (fun _ _ e=>e) (fun s1 s2 s3 t1 t2 t3=>RecOk.slot q1.rc hsl false s1 s2 s3 t1 t2 t3)
  have hdd:∀e,Dead S2 e=Dead S e:=fun e=>(r7 e).trans (q7 e)
  have hpp:put1 (put1 o d x1) d o1=put1 o d o1:=by funext j;unfold put1;split<;>rfl
  rw [hpp] at r1
  have ha2:Dead S2 d=false:=(hdd d).trans ha
  rcases hT with ⟨hz,rfl,rfl⟩ | ⟨rfl,rfl,rfl⟩
  ·exact ⟨hdd,r5,fun hy=>⟨fun hon=>hy (r3 hon).1,g.slot d k st dm false,⟨rfl,fun _ _ e=>e,rfl⟩,r1⟩,fun hy=>absurd hy hz⟩
  ·-- the flush
   have hv2:=r2 rfl
   rw [hv1] at hv2
   by_cases hon:S2.off=false
   ·have hw:Sh.why S2 d=0:=alive_why ha2 hon
    have hp2:=(q1.disk d hd ha1).now ((r3 hon).2)
    rw [hv1] at hp2
    obtain ⟨t1,t2,t3,t4,t5⟩:=r1.fl (g':=g.slot d k st dm true) hd ha2 (fun e he hed c hc=>by
     refine hc.slots (fun k' hk'=>?_) hc.part (fun _ _=>rfl) fun _ _ _ e=>e
     have cn:¬(e=d/\k'=k):=fun e=>hed e.1
     rcases hc.slot k' hk' with e1 | ⟨s1,s2,e1,e2⟩
     ·exact .inl e1
     ·exact .inr ⟨s1,s2,e1,e2.imp (fun e=>⟨(if_neg cn).trans ((if_neg cn).symm.trans e.1),e.2⟩) id⟩) (fun _=>by rw [hv2];exact hfull true _ hp2) (fun c ho=>absurd hon ho) (h.ok.slot hst hdm hne hnum hop true) (fun _ _ e=>e) (fun s1 s2 s3 t1 t2 t3=>RecOk.slot (fun a b c d e f=>h.rc a b c d ((hdd _).symm.trans e) ((hdd _).symm.trans f)) hsl true s1 s2 s3 t1 t2 t3) (_root_.Go.Proofs.YtgebkmpmnjhceaaGreatDoor.U.shut (Sh.why S2 d) o1)
    rw [hw] at t1 ⊢
    refine ⟨fun e=>(t4 e).trans (hdd e),.inl rfl,fun hy=>absurd rfl hy,fun _=>⟨t1,fun ho=>(q3 ((r3 (t3 ho)).2)).2,fun d' j hd' hj=>?_⟩⟩
    by_cases c:d'=d
    ·subst c
     rw [t2,hv2]
     exact (if_neg (hj k hk).1).trans (if_neg (hj k hk).2)
    ·rw [t5 d' c,r8 d' c,q8 d' c]
   ·have hw:Sh.why S2 d=3:=off_why hon d
    have hfl:Fl S2 d=S2:=fl_why (by rw [hw];decide)
    have hz:shut (Sh.why S2 d) o1=o1:=by rw [hw];rfl
    rw [hfl,hw] at *
    have e3:_root_.Go.Proofs.YtgebkmpmnjhceaaGreatDoor.U.shut 3 o1=o1:=rfl
    rw [e3]
    have hpp2:put1 (put1 o d o1) d o1=put1 o d o1:=by funext j;unfold put1;split<;>rfl
    rw [hpp2]
    exact ⟨hdd,.inr rfl,fun _=>⟨hon,g.slot d k st dm false,⟨rfl,fun _ _ e=>e,rfl⟩,r1⟩,fun hy=>absurd hy (by decide)⟩
end
def Ld (A:Ar) (S:Sh.Sf) (g:Gh):Prop:=∀st m,st<A.St->m<A.M->g.lack st m->Dead S (A.num st m)=true
def NowP (A:Ar) (S:Sh.Sf) (g:Gh):Prop:=∀st m,st<A.St->m<A.M->Dead S (A.num st m)=false->vo S (A.num st m) (A.at st)=some (g.dat st m)
section
variable {A:Ar} {S S':Sh.Sf} {o:Nat->Int} {g g':Gh} {D U:Set0} {d k st dm:Nat} {y z:Int} {b x:Sh.Bs} {c:Nat->Option Sh.Bs}
theorem Fi.nowP (h:Fi A S o g U) (hl:Ld A S g):NowP A S g:=fun st m hst hm ha=>by
 have hn:=h.now st hst m hm
 rw [seen_alive ha h.on] at hn
 rcases hn with e | ⟨e,_⟩
 ·exact e
 ·rw [hl st m hst hm e] at ha;cases ha
theorem Fi.of (hc:Ci A S o g) (hon:S.off=false) (hn:NowP A S g) (hu:∀d k,d<A.n->k<A.L->g.sl d k≠none->Maps.has U (slotKey d k)=true):Fi A S o g U:=by
 refine ⟨hc,hon,fun st hst m hm=>?_,hu⟩
 cases ha:Dead S (A.num st m)
 ·rw [seen_alive ha hon]
  exact .inl (hn st m hst hm ha)
 ·exact .inr ⟨hc.dead st m hst hm ha,seen_dead ha _⟩
theorem Ci.there (h:Ci A S o g) (hl:Ld A S g) (hon:S.off=false) (hst:st<A.St) {m:Nat} (hm:m<A.M) (ha:Dead S (A.num st m)=false):vo S (A.num st m) (A.at st)≠none:=by
 have hp:=(h.disk _ (h.ar.num st m hm) ha).now hon
 rcases hp.blk st hst m hm rfl with e | ⟨e,_⟩ | ⟨_,_,_,⟨_,e⟩ | ⟨_,e⟩⟩
 ·rw [e];simp
 ·rw [hl st m hst hm e] at ha;cases ha
 ·rw [e];simp
 ·rw [e];simp
/-! ### other bytes -/
theorem write_dm (M st dm:Nat) (x:Sh.Bs):(g.write M st dm x).dat st dm=x:=by unfold Gh.write;simp
theorem write_pm {M st dm:Nat} (hne:dm≠pm M st) (x:Sh.Bs):(g.write M st dm x).dat st (pm M st)=xorL (partG g M st dm) x:=by unfold Gh.write;simp [Ne.symm hne]
theorem write_other {M st dm m:Nat} (h1:m≠dm) (h2:m≠pm M st) (x:Sh.Bs):(g.write M st dm x).dat st m=g.dat st m:=by unfold Gh.write;simp [h1,h2]
theorem write_st {M st dm st':Nat} (h:st'≠st) (x:Sh.Bs):(g.write M st dm x).dat st'=g.dat st'/\(g.write M st dm x).op st'=g.op st':=by unfold Gh.write;simp [h]
theorem write_op (M st dm:Nat) (x:Sh.Bs):(g.write M st dm x).op st=some (dm,g.dat st dm):=by unfold Gh.write;simp
theorem xor_turn {p x:Sh.Bs} (hp:Sh.Sec p) (hx:Sh.Sec x):xorL x (xorL p x)=p:=by
 refine sec_ext (by rw [xorL_len];exact hx.1) hp.1 fun i hi=>?_
 rw [xl_at hx.1 hi,xl_at hp.1 hi,Nat.xor_comm,Nat.xor_assoc,Nat.xor_self,Nat.xor_zero]
theorem write_part (hg:GhOk A g) (ha:ArOk A) (hst:st<A.St) (hdm:dm<A.M) (hne:dm≠pm A.M st) (hx:Sh.Sec x):partG (g.write A.M st dm x) A.M st dm=partG g A.M st dm:=by
 show xorL ((g.write A.M st dm x).dat st dm) ((g.write A.M st dm x).dat st (pm A.M st))=_
 rw [write_dm,write_pm hne]
 exact xor_turn (Sec.part hg ha hst hdm) hx
theorem part_old (hg:GhOk A g) (ha:ArOk A) (hst:st<A.St) (hdm:dm<A.M):xorL (partG g A.M st dm) (g.dat st dm)=g.dat st (pm A.M st):=by
 have h1:=hg.sec st dm hst hdm
 have h2:=hg.sec st _ hst (pm_lt ha st)
 unfold partG
 refine sec_ext (by rw [xorL_len,xorL_len];exact h1.1) h2.1 fun i hi=>?_
 rw [xl_at (by rw [xorL_len];exact h1.1) hi,xl_at h1.1 hi,xor_swap,Nat.xor_self,Nat.zero_xor]
theorem write_sum {M:Nat} {f:Nat->Sh.Bs} {dm p:Nat} (hz:SumZ M f) (hf:∀m,m<M->(f m).length=128) (h1:dm<M) (h2:p<M) (hne:dm≠p):SumZ M (fun m=>if m=dm then x else if m=p then xorL (xorL (f dm) (f p)) x else f m):=by
 intro i hi
 have e0:=xor_move (xf_neither (fun m=>(f m).getD i 0) h1 h2 hne)
 have e1:=xor_move (xf_neither (fun m=>(if m=dm then x else if m=p then xorL (xorL (f dm) (f p)) x else f m).getD i 0) h1 h2 hne)
 have ec:xf (fun m=>(if m=dm then x else if m=p then xorL (xorL (f dm) (f p)) x else f m).getD i 0) (tkNeither dm p) M=xf (fun m=>(f m).getD i 0) (tkNeither dm p) M:=xf_congr fun m _=>⟨rfl,fun ht=>by
  have ht:m≠dm/\m≠p:=by simpa [tkNeither] using ht
  simp [ht.1,ht.2]⟩
 rw [ec] at e1
 rw [e1]
 have e2:=xf_neither (fun m=>(f m).getD i 0) h1 h2 hne
 rw [hz i hi,Nat.zero_xor] at e2
 rw [e2]
 simp only [if_true,Ne.symm hne,if_false]
 rw [xl_at (by rw [xorL_len];exact hf dm h1) hi,xl_at (hf dm h1) hi,Nat.xor_comm (x.getD i 0),Nat.xor_assoc _ (x.getD i 0),Nat.xor_self,Nat.xor_zero,Nat.xor_self]
theorem GhOk.write (hg:GhOk A g) (ha:ArOk A) (hst:st<A.St) (hdm:dm<A.M) (hne:dm≠pm A.M st) (hx:Sh.Sec x) (hu:∀e j dm',g.sl e j=some (st,dm')->dm'=dm):GhOk A (g.write A.M st dm x):=by
 refine ⟨fun st' hst'=>?_,fun st' m hst' hm=>?_,fun st' dm' old he=>?_,fun e j st' dm' hs=>?_,hg.lack⟩
 ·by_cases c:st'=st
  ·subst c
   have e:(g.write A.M st' dm x).dat st'=fun m=>if m=dm then x else if m=pm A.M st' then xorL (xorL (g.dat st' dm) (g.dat st' (pm A.M st'))) x else g.dat st' m:=by
    funext m
    unfold Gh.write partG
    simp
   rw [e]
   exact write_sum (hg.sum st' hst') (fun m hm=>(hg.sec st' m hst' hm).1) hdm (pm_lt ha st') hne
  ·rw [(write_st c x).1];exact hg.sum st' hst'
 ·by_cases c:st'=st
  ·subst c
   by_cases c1:m=dm
   ·rw [c1,write_dm];exact hx
   ·by_cases c2:m=pm A.M st'
    ·rw [c2,write_pm hne]
     exact xor_sec (Sec.part hg ha hst' hdm) hx
    ·rw [write_other c1 c2];exact hg.sec st' m hst' hm
  ·rw [(write_st c x).1];exact hg.sec st' m hst' hm
 ·by_cases c:st'=st
  ·subst c
   rw [write_op] at he
   injection he with he
   injection he with e1 e2
   subst e1 e2
   exact ⟨hst,hdm,hne,hg.sec _ _ hst hdm⟩
  ·rw [(write_st c x).2] at he;exact hg.op st' dm' old he
 ·obtain ⟨h1,h2,h3,h4,h5⟩:=hg.sl e j st' dm' hs
  refine ⟨h1,h2,h3,h4,fun dm2 old he=>?_⟩
  by_cases c:st'=st
  ·subst c
   rw [write_op] at he
   injection he with he
   injection he with e1 e2
   rw [<- e1,hu e j dm' hs]
  ·rw [(write_st c x).2] at he;exact h5 dm2 old he
theorem Pd.write (hg:GhOk A g) (ha:ArOk A) (hst:st<A.St) (hdm:dm<A.M) (hne:dm≠pm A.M st) (hx:Sh.Sec x) (hop:g.op st=none) (hu:∀e j dm',g.sl e j=some (st,dm')->dm'=dm) (h:Pd A g d c):Pd A (g.write A.M st dm x) d c:=by
 have hpt:=write_part hg ha hst hdm hne hx
 refine ⟨fun st' hst' m hm hn=>?_,fun k hk=>?_,h.part,h.said⟩
 ·by_cases e:st'=st
  ·subst e
   rcases h.blk st' hst' m hm hn with e1 | e1 | ⟨_,_,e1,_⟩
   ·by_cases c1:m=dm
    ·subst c1
     exact .inr (.inr ⟨m,g.dat st' m,write_op _ _ _ _,.inl ⟨rfl,e1⟩⟩)
    ·by_cases c2:m=pm A.M st'
     ·refine .inr (.inr ⟨dm,g.dat st' dm,write_op _ _ _ _,.inr ⟨c2,?_⟩⟩)
      rw [hpt,part_old hg ha hst' hdm,<- c2]
      exact e1
     ·exact .inl (by rw [write_other c1 c2];exact e1)
   ·exact .inr (.inl e1)
   ·rw [hop] at e1;cases e1
  ·obtain ⟨w1,w2⟩:=write_st (g:=g) (M:=A.M) (dm:=dm) e x
   rcases h.blk st' hst' m hm hn with e1 | e1 | ⟨dm',old,e1,e2⟩
   ·exact .inl (by rw [w1];exact e1)
   ·exact .inr (.inl e1)
   ·refine .inr (.inr ⟨dm',old,by rw [w2];exact e1,?_⟩)
    unfold partG
    rw [w1]
    exact e2
 ·rcases h.slot k hk with e1 | ⟨s1,s2,e1,e2⟩
  ·exact .inl e1
  ·refine .inr ⟨s1,s2,e1,?_⟩
   have ep:partG (g.write A.M st dm x) A.M s1 s2=partG g A.M s1 s2:=by
    by_cases c:s1=st
    ·subst c
     rw [hu _ _ _ e1]
     exact hpt
    ·unfold partG
     rw [(write_st c x).1]
   unfold recH
   rw [ep]
   exact e2
theorem Ci.opened (h:Ci A S o g) (hst:st<A.St) (hdm:dm<A.M) (hne:dm≠pm A.M st) (hx:Sh.Sec x) (hop:g.op st=none) (hu:∀e j dm',g.sl e j=some (st,dm')->dm'=dm)
  (hr:Dead S (A.num st dm)=false->Dead S (A.num st (pm A.M st))=false->∃k,k<A.L/\g.sl (A.num st (pm A.M st)) k=some (st,dm)/\g.sure (A.num st (pm A.M st)) k=true):Ci A S o (g.write A.M st dm x):=by
 refine ⟨h.ar,h.ok.write h.ar hst hdm hne hx hu,fun d hd ha=>(h.disk d hd ha).more fun c hc=>hc.write h.ok h.ar hst hdm hne hx hop hu,h.dead,fun st' dm' old he h1 h2=>?_,h.len,h.fit,h.sec⟩
 by_cases c:st'=st
 ·subst c
  rw [write_op] at he
  injection he with he
  injection he with e1 e2
  subst e1
  exact hr h1 h2
 ·rw [(write_st c x).2] at he
  exact h.rc st' dm' old he h1 h2
theorem Ci.put {m:Nat} (h:Ci A S o g) (hl:Ld A S g) (hst:st<A.St) (hm:m<A.M) (ha:Dead S (A.num st m)=false) (hD:DW S (A.num st m) (o (A.num st m)) (A.at st) (g.dat st m) y z S') :
  Ci A S' (put1 o (A.num st m) z) g/\(y=0->vo S' (A.num st m)=updO (vo S (A.num st m)) (A.at st) (some (g.dat st m)))/\(S'.off=false->y=0/\S.off=false)/\(y=0\/y=3)/\(y=0->S.off=false)/\(∀e,Dead S' e=Dead S e)/\(∀e,e≠A.num st m->vo S' e=vo S e):=by
 obtain ⟨q1,q2,q3,q4,q5,q6,q7,q8⟩:=h.dw (g':=g) (h.ar.num st m hm) ha (h.at_lt hst) (h.ok.sec st m hst hm) (fun hon=>noBlank_good (h.there hl hon hst hm ha) _) hD (fun _ _ _ hc=>hc) (fun hon=>((h.disk _ (h.ar.num st m hm) ha).now hon).put h.ar hm rfl) h.ok (fun _ _ e=>e) h.rc
 exact ⟨q1,q2,q3,q5,q6,q7,q8⟩
theorem Ld.dead (h:Ld A S g) (hd:∀e,Dead S' e=Dead S e):Ld A S' g:=fun st m h1 h2 h3=>(hd _).trans (h st m h1 h2 h3)
theorem Ci.both {z2:Int} {S2 S3:Sh.Sf} (h:Ci A S o g) (hl:Ld A S g) (hst:st<A.St) (hdm:dm<A.M) (hne:dm≠pm A.M st) (ha:Dead S (A.num st dm)=false) (hb:Dead S (A.num st (pm A.M st))=false)
  (hD:DW S (A.num st dm) (o (A.num st dm)) (A.at st) (g.dat st dm) 0 z S2) (hE:DW S2 (A.num st (pm A.M st)) (put1 o (A.num st dm) z (A.num st (pm A.M st))) (A.at st) (g.dat st (pm A.M st)) y z2 S3)
  (hn:S.off=false->∀st' m,st'<A.St->m<A.M->Dead S (A.num st' m)=false->(st'=st->m≠dm/\m≠pm A.M st)->vo S (A.num st' m) (A.at st')=some (g.dat st' m)) :
  Ci A S3 (put1 (put1 o (A.num st dm) z) (A.num st (pm A.M st)) z2) g/\(∀e,Dead S3 e=Dead S e)/\(y=0\/y=3)/\(S3.off=false->y=0/\S.off=false/\NowP A S3 g):=by
 obtain ⟨q1,q2,q3,q5,q6,q7,q8⟩:=h.put hl hst hdm ha hD
 obtain ⟨r1,r2,r3,r5,r6,r7,r8⟩:=q1.put (hl.dead q7) hst (pm_lt h.ar st) ((q7 _).trans hb) hE
 refine ⟨r1,fun e=>(r7 e).trans (q7 e),r5,fun hon=>?_⟩
 obtain ⟨y0,hon2⟩:=r3 hon
 have hon1:=q6 rfl
 refine ⟨y0,hon1,fun st' m hst' hm hda=>?_⟩
 have hda1:Dead S (A.num st' m)=false:=((r7 _).trans (q7 _)).symm.trans hda
 have hne2:A.num st dm≠A.num st (pm A.M st):=fun e=>hne (h.ar.inj st _ _ hdm (pm_lt h.ar st) e)
 have key2:vo S2 (A.num st' m) (A.at st')=if st'=st/\m=dm then some (g.dat st dm) else vo S (A.num st' m) (A.at st'):=by
  by_cases c:A.num st' m=A.num st dm
  ·rw [c,q2 rfl]
   by_cases e:st'=st
   ·subst e
    rw [if_pos ⟨rfl,h.ar.inj _ _ _ hm hdm c⟩]
    exact if_pos rfl
   ·rw [if_neg fun e2=>e e2.1]
    exact if_neg fun e2=>e (by unfold Ar.at at e2;omega)
  ·rw [q8 _ c]
   rw [if_neg]
   rintro ⟨rfl,rfl⟩
   exact c rfl
 have key3:vo S3 (A.num st' m) (A.at st')=if st'=st/\m=pm A.M st then some (g.dat st (pm A.M st)) else vo S2 (A.num st' m) (A.at st'):=by
  by_cases c:A.num st' m=A.num st (pm A.M st)
  ·rw [c,r2 y0]
   by_cases e:st'=st
   ·subst e
    rw [if_pos ⟨rfl,h.ar.inj _ _ _ hm (pm_lt h.ar _) c⟩]
    exact if_pos rfl
   ·rw [if_neg fun e2=>e e2.1]
    exact if_neg fun e2=>e (by unfold Ar.at at e2;omega)
  ·rw [r8 _ c]
   rw [if_neg]
   rintro ⟨rfl,e⟩
   rw [e] at c
   exact c rfl
 rw [key3,key2]
 by_cases e1:st'=st/\m=pm A.M st
 ·rw [if_pos e1,e1.1,e1.2]
 ·rw [if_neg e1]
  by_cases e2:st'=st/\m=dm
  ·rw [if_pos e2,e2.1,e2.2]
  ·rw [if_neg e2]
   exact hn hon1 st' m hst' hm hda1 fun e=>⟨fun e3=>e2 ⟨e,e3⟩,fun e3=>e1 ⟨e,e3⟩⟩
theorem Ci.one {m:Nat} (h:Ci A S o g) (hl:Ld A S g) (hst:st<A.St) (hm:m<A.M) (ha:Dead S (A.num st m)=false) (hD:DW S (A.num st m) (o (A.num st m)) (A.at st) (g.dat st m) y z S')
  (hn:∀st' m',st'<A.St->m'<A.M->Dead S (A.num st' m')=false->(st'=st->m'≠m)->vo S (A.num st' m') (A.at st')=some (g.dat st' m')) :
  Ci A S' (put1 o (A.num st m) z) g/\(∀e,Dead S' e=Dead S e)/\(y=0\/y=3)/\(S'.off=false->y=0/\NowP A S' g):=by
 obtain ⟨q1,q2,q3,q5,q6,q7,q8⟩:=h.put hl hst hm ha hD
 refine ⟨q1,q7,q5,fun hon=>⟨(q3 hon).1,fun st' m' hst' hm' hda=>?_⟩⟩
 have hda1:Dead S (A.num st' m')=false:=(q7 _).symm.trans hda
 by_cases c:A.num st' m'=A.num st m
 ·rw [c,q2 (q3 hon).1]
  by_cases e:st'=st
  ·subst e
   rw [h.ar.inj _ _ _ hm' hm c]
   exact if_pos rfl
  ·have e1:updO (vo S (A.num st m)) (A.at st) (some (g.dat st m)) (A.at st')=vo S (A.num st m) (A.at st'):=if_neg fun e2=>e (by unfold Ar.at at e2;omega)
   rw [e1,<- c]
   exact hn st' m' hst' hm' hda1 fun e2=>absurd e2 e
 ·rw [q8 _ c]
  refine hn st' m' hst' hm' hda1 fun e e2=>c (by rw [e,e2])
end
theorem mod8_any (a:Int) (n:Nat) (hn:0<n) (hn2:n<=1000) (w:World):Calls Tryz.prog 16 #[.int .i64 a,.int .i64 n] w fun e w'=>e=.returned (.int .i64 (((a%n).toNat:Nat):Int))/\w=w':=by
 have hlt:(a.tmod n).natAbs<n:=by
  rw [Int.natAbs_tmod]
  exact Nat.mod_lt _ hn
 have hem:((a%n).toNat:Int)=if a.tmod n<0 then a.tmod n+n else a.tmod n:=by
  have h0:0<=a%(n:Int):=Int.emod_nonneg _ (by omega)
  rw [Int.toNat_of_nonneg h0,Int.tmod_eq_emod]
  have h1:a%(n:Int)<n:=Int.emod_lt_of_pos _ (by omega)
  split<;>omega
 rw [hem]
 have hn0:((n:Int) == 0)=false:=by simp;omega
 have hn1:((n:Int) == -1)=false:=by simp
 by_cases h:a.tmod n<0
 ·rw [if_pos h]
  have h1:decide (a.tmod n<0)=true:=by simpa using h
  have h2:wrap64 (a.tmod n+n)=a.tmod n+n:=by
   generalize a.tmod n=t at *
   exact IntWalk.wrap64_in _ ⟨by omega,by omega⟩
  go_enter Tryz.func16,Tryz.ntmps16
  go_wp2
  go_ret
  exact ⟨by rw [<- h2];rfl,rfl⟩
 ·rw [if_neg h]
  have h1:decide (a.tmod n<0)=false:=by simpa using h
  go_enter Tryz.func16,Tryz.ntmps16
  go_wp2
  go_ret
  exact ⟨rfl,rfl⟩
end Go.Proofs.YtgebkmpmnjhceaaGreatDoor.U
