/-
  What the statement's proof rests on, part 41.
  Conditions: each theorem's own.
-/
import Derived.Test.YtcnjpmcelihknaaGreatDoorV40
open Go.Proofs.YtcnjpmcelihknaaGreatDoor.S renaming Sup → SuP
namespace Go.Proofs.YtcnjpmcelihknaaGreatDoor.U
open Go.RowKit Go.Maps
def Gh.slot (g:Gh) (d k st dm:Nat) (b:Bool):Gh:={ g with sl:=fun e j=>if e=d/\j=k then some (st,dm) else g.sl e j,sure:=fun e j=>if e=d/\j=k then b else g.sure e j }
def Gh.write (g:Gh) (M st dm:Nat) (x:Sh.Bs):Gh :=
 { g with dat:=fun st' m=>if st'=st then (if m=dm then x else if m=pm M st then xorL (partG g M st dm) x else g.dat st m) else g.dat st' m,op:=fun st'=>if st'=st then some (dm,g.dat st dm) else g.op st' }
section
variable {A:Ar} {S S':Sh.Sf} {o:Nat->Int} {g g':Gh} {D U:Set0} {d k st dm:Nat} {y z:Int} {b x:Sh.Bs} {c:Nat->Option Sh.Bs}
theorem Pd.put (h:Pd A g d c) (ha:ArOk A) {m:Nat} (hm:m<A.M) (hd:A.num st m=d):Pd A g d (updO c (A.at st) (some (g.dat st m))):=by
 have e1:∀j,j≠A.at st->updO c (A.at st) (some (g.dat st m)) j=c j:=fun j hj=>if_neg hj
 refine ⟨fun st' hst' m' hm' hn'=>?_,fun k hk=>?_,fun k hk=>?_,?_⟩
 ·by_cases e:st'=st
  ·subst e
   rw [(ha.inj st' m' m hm' hm (hn'.trans hd.symm):m'=m)]
   exact .inl (if_pos rfl)
  ·rw [e1 _ (fun e2=>e (by unfold Ar.at at e2;omega))]
   exact h.blk st' hst' m' hm' hn'
 ·rw [e1 _ (by unfold Ar.at;omega),e1 _ (by unfold Ar.at;omega)]
  exact h.slot k hk
 ·rw [e1 _ (by unfold Ar.at;omega)]
  exact h.part k hk
 ·rw [e1 _ (by unfold Ar.at;omega),e1 _ (by unfold Ar.at;omega)]
  exact h.said
theorem Pd.slots (h:Pd A g d c) {c':Nat->Option Sh.Bs} (hs:∀k,k<A.L->okSlot g' A.M d k (c' (2+2*k)) (c' (3+2*k))) (hp:∀k,k<A.L->c' (3+2*k)≠none) (he:∀j,(∀k,k<A.L->j≠2+2*k/\j≠3+2*k)->c' j=c j) (hg:∀st m v,okBlk g A.M st m v->okBlk g' A.M st m v):Pd A g' d c':=by
 refine ⟨fun st hst m hm hn=>?_,hs,hp,?_⟩
 ·rw [he _ (fun k hk=>by unfold Ar.at;omega)]
  exact hg _ _ _ (h.blk st hst m hm hn)
 ·rw [he 0 (fun k _=>by omega),he 1 (fun k _=>by omega)]
  exact h.said
theorem Gh.slot_none (hsl:g.sl d k=none) (b:Bool) {e j st' dm':Nat} (h:g.sl e j=some (st',dm')):(g.slot d k st dm b).sl e j=some (st',dm')/\(g.slot d k st dm b).sure e j=g.sure e j:=by
 have hn:¬(e=d/\j=k):=fun ⟨e1,e2⟩=>by rw [e1,e2,hsl] at h;cases h
 exact ⟨(if_neg hn).trans h,if_neg hn⟩
theorem GhOk.slot (h:GhOk A g) (hst:st<A.St) (hdm:dm<A.M) (hne:dm≠pm A.M st) (hd:A.num st (pm A.M st)=d) (hop:g.op st=none) (b:Bool):GhOk A (g.slot d k st dm b):=by
 refine ⟨h.sum,h.sec,h.op,fun e j st' dm' hs=>?_,h.lack⟩
 have hs:(if e=d/\j=k then some (st,dm) else g.sl e j)=some (st',dm'):=hs
 by_cases c:e=d/\j=k
 ·rw [if_pos c] at hs
  injection hs with hs
  injection hs with e1 e2
  subst e1 e2
  exact ⟨hst,hdm,hne,hd.trans c.1.symm,fun dm' old e=>by rw [show (g.slot d k st dm b).op st=g.op st from rfl,hop] at e;cases e⟩
 ·rw [if_neg c] at hs
  exact h.sl e j st' dm' hs
theorem RecOk.slot (h:RecOk A S g) (hsl:g.sl d k=none) (b:Bool):RecOk A S (g.slot d k st dm b):=by
 intro st' dm' old h1 h2 h3
 obtain ⟨j,hj,q1,q2⟩:=h st' dm' old h1 h2 h3
 obtain ⟨r1,r2⟩:=Gh.slot_none (st:=st) (dm:=dm) hsl b q1
 exact ⟨j,hj,r1,r2.trans q2⟩
theorem Sec.part (h:GhOk A g) (ha:ArOk A) (hst:st<A.St) (hdm:dm<A.M):Sh.Sec (partG g A.M st dm):=xor_sec (h.sec st dm hst hdm) (h.sec st _ hst (pm_lt ha st))
theorem Ci.tail {e:Stt} {D' U':Set0} (h:Ci A S o g) (hd:d<A.n) (ha:Dead S d=false) (hk:k<A.L) (hsl:g.sl d k=none) (hop:g.op st=none) (hst:st<A.St) (hdm:dm<A.M) (hne:dm≠pm A.M st) (hnum:A.num st (pm A.M st)=d)
  (hR:RecTail d k (partG g A.M st dm) (recH g A.M st dm) ⟨S,o⟩ D U y e D' U') :
  D'=D/\U'=U.put (slotKey d k) one0/\(∀d,Dead e.S d=Dead S d)/\(y=0\/y=3)/\(y≠0->e.S.off≠false/\∃g',Gle g' g/\Ci A e.S e.o g') /\
  (y=0->Ci A e.S e.o (g.slot d k st dm true)/\(e.S.off=false->S.off=false)/\∀d' j,d'<A.n->(∀k,k<A.L->j≠2+2*k/\j≠3+2*k)->vo e.S d' j=vo S d' j):=by
 obtain ⟨rfl,rfl,z,o1,S2,hP,hT⟩:=hR
 refine ⟨rfl,rfl,?_⟩
 have hfit:=h.fit
 have hpt:=Sec.part h.ok h.ar hst hdm
 have hrh:Sh.Sec (recH g A.M st dm):=⟨headL_length _,headL_small _⟩
 have hsf:okSlot g A.M d k (some Sh.noughts) (some (partG g A.M st dm)):=.inl ⟨hsl,rfl⟩
 obtain ⟨y1,x1,S1,hD1,hD2⟩:=hP
 have hp0:=fun hon=>(h.disk d hd ha).now hon
 -- the part
 obtain ⟨q1,q2,q3,q4,q5,q6,q7,q8⟩:=h.dw (g':=g) hd ha (k:=3+2*k) (by omega) hpt (fun hon=>noBlank_good ((hp0 hon).part k hk) _) hD1 (fun _ _ _ hc=>hc) (fun hon=>by
  refine (hp0 hon).slots (g':=g) (fun k' hk'=>?_) (fun k' hk'=>?_) (fun j hj=>if_neg (hj k hk).2) fun _ _ _ e=>e
  ·have e1:updO (vo S d) (3+2*k) (some (partG g A.M st dm)) (2+2*k')=vo S d (2+2*k'):=if_neg (by omega)
   rw [e1]
   by_cases c:k'=k
   ·subst c
    rcases (hp0 hon).slot k' hk' with e | ⟨_,_,e,_⟩
    ·exact .inl e
    ·rw [hsl] at e;cases e
   ·have e2:updO (vo S d) (3+2*k) (some (partG g A.M st dm)) (3+2*k')=vo S d (3+2*k'):=if_neg (by omega)
    rw [e2]
    exact (hp0 hon).slot k' hk'
  ·by_cases c:k'=k
   ·subst c
    have e2:updO (vo S d) (3+2*k') (some (partG g A.M st dm)) (3+2*k')=some (partG g A.M st dm):=if_pos rfl
    rw [e2];simp
   ·have e2:updO (vo S d) (3+2*k) (some (partG g A.M st dm)) (3+2*k')=vo S d (3+2*k'):=if_neg (by omega)
    rw [e2]
    exact (hp0 hon).part k' hk') h.ok (fun _ _ e=>e) h.rc
 rcases hD2 with ⟨hy1,rfl,rfl,rfl⟩ | ⟨rfl,hD2⟩
 ·rcases hT with ⟨_,rfl,rfl⟩ | ⟨hz,_⟩
  ·exact ⟨q7,q5,fun hy=>⟨fun hon=>hy (q3 hon).1,g,Gle.refl g,q1⟩,fun hy=>absurd hy hy1⟩
  ·exact absurd hz hy1
 ·-- the head
  have ha1:Dead S1 d=false:=(q7 d).trans ha
  have hv1:=q2 rfl
  have hp1:=fun hon=>(q1.disk d hd ha1).now hon
  have hsec1:S1.sectors=S.sectors:=hD1.sectors
  have hox:put1 o d x1 d=x1:=if_pos rfl
  have hmono:∀(b:Bool) e,e<A.n->∀c,(e=d->b=false)->Pd A g e c->Pd A (g.slot d k st dm b) e c:=fun b e _ c hb hc=>by
   refine hc.slots (fun k' hk'=>?_) hc.part (fun _ _=>rfl) fun _ _ _ e=>e
   by_cases c1:e=d/\k'=k
   ·rcases hc.slot k' hk' with e1 | ⟨_,_,e1,_⟩
    ·exact .inr ⟨st,dm,if_pos c1,.inl ⟨(if_pos c1).trans (hb c1.1),e1.2⟩⟩
    ·rw [c1.1,c1.2,hsl] at e1;cases e1
   ·rcases hc.slot k' hk' with e1 | ⟨s1,s2,e1,e2⟩
    ·exact .inl ⟨(if_neg c1).trans e1.1,e1.2⟩
    ·exact .inr ⟨s1,s2,(if_neg c1).trans e1,e2.imp (fun e=>⟨(if_neg c1).trans e.1,e.2⟩) id⟩
  have hfull:∀(b:Bool) (c:Nat->Option Sh.Bs),Pd A g d (updO c (3+2*k) (some (partG g A.M st dm)))->Pd A (g.slot d k st dm b) d (updO (updO c (3+2*k) (some (partG g A.M st dm))) (2+2*k) (some (recH g A.M st dm))):=fun b c hc=>by
   refine hc.slots (fun k' hk'=>?_) (fun k' hk'=>?_) (fun j hj=>if_neg (hj k hk).1) fun _ _ _ e=>e
   ·by_cases c1:k'=k
    ·subst c1
     refine .inr ⟨st,dm,if_pos ⟨rfl,rfl⟩,.inr ⟨if_pos rfl,?_⟩⟩
     exact (if_neg (by omega)).trans (if_pos rfl)
    ·have e1:updO (updO c (3+2*k) (some (partG g A.M st dm))) (2+2*k) (some (recH g A.M st dm)) (2+2*k')=updO c (3+2*k) (some (partG g A.M st dm)) (2+2*k'):=if_neg (by omega)
     have e2:updO (updO c (3+2*k) (some (partG g A.M st dm))) (2+2*k) (some (recH g A.M st dm)) (3+2*k')=updO c (3+2*k) (some (partG g A.M st dm)) (3+2*k'):=if_neg (by omega)
     rw [e1,e2]
     have cn:¬(d=d/\k'=k):=fun e=>c1 e.2
     rcases hc.slot k' hk' with e1 | ⟨s1,s2,e1,e2⟩
     ·exact .inl ⟨(if_neg cn).trans e1.1,e1.2⟩
     ·exact .inr ⟨s1,s2,(if_neg cn).trans e1,e2.imp (fun e=>⟨(if_neg cn).trans e.1,e.2⟩) id⟩
   ·have e2:updO (updO c (3+2*k) (some (partG g A.M st dm))) (2+2*k) (some (recH g A.M st dm)) (3+2*k')=updO c (3+2*k) (some (partG g A.M st dm)) (3+2*k'):=if_neg (by omega)
    rw [e2]
    exact hc.part k' hk'
  rw [hv1] at hp1
  obtain ⟨r1,r2,r3,r4,r5,r6,r7,r8⟩:=q1.dw (g':=g.slot d k st dm false) hd ha1 (k:=2+2*k) (by rw [hsec1];omega) hrh (fun hon=>noBlank_good (by rw [hv1];exact ((hp1 hon).slot k hk).head) _) (by rw [hox];exact hD2) (fun e he c hc=>hmono false e he c (fun _=>rfl) hc) (fun hon=>by rw [hv1];exact hfull false _ (hp1 hon)) (h.ok.slot hst hdm hne hnum hop false) (fun _ _ e=>e) (fun s1 s2 s3 t1 t2 t3=>RecOk.slot q1.rc hsl false s1 s2 s3 t1 t2 t3)
  have hdd:∀e,Dead S2 e=Dead S e:=fun e=>(r7 e).trans (q7 e)
  have hpp:put1 (put1 o d x1) d o1=put1 o d o1:=by funext j;unfold put1;split<;>rfl
  rw [hpp] at r1
  have ha2:Dead S2 d=false:=(hdd d).trans ha
  rcases hT with ⟨hz,rfl,rfl⟩ | ⟨rfl,rfl,rfl⟩
  ·exact ⟨hdd,r5,fun hy=>⟨fun hon=>hy (r3 hon).1,g.slot d k st dm false,⟨rfl,fun _ _ e=>e,rfl⟩,r1⟩,fun hy=>absurd hy hz⟩
  ·-- the flush
   have hv2:=r2 rfl
   rw [hv1] at hv2
   by_cases hon:S2.off=false
   ·have hw:Sh.why S2 d=0:=alive_why ha2 hon
    have hp2:=(q1.disk d hd ha1).now ((r3 hon).2)
    rw [hv1] at hp2
    obtain ⟨t1,t2,t3,t4,t5⟩:=r1.fl (g':=g.slot d k st dm true) hd ha2 (fun e he hed c hc=>by
     refine hc.slots (fun k' hk'=>?_) hc.part (fun _ _=>rfl) fun _ _ _ e=>e
     have cn:¬(e=d/\k'=k):=fun e=>hed e.1
     rcases hc.slot k' hk' with e1 | ⟨s1,s2,e1,e2⟩
     ·exact .inl e1
     ·exact .inr ⟨s1,s2,e1,e2.imp (fun e=>⟨(if_neg cn).trans ((if_neg cn).symm.trans e.1),e.2⟩) id⟩) (fun _=>by rw [hv2];exact hfull true _ hp2) (fun c ho=>absurd hon ho) (h.ok.slot hst hdm hne hnum hop true) (fun _ _ e=>e) (fun s1 s2 s3 t1 t2 t3=>RecOk.slot (fun a b c d e f=>h.rc a b c d ((hdd _).symm.trans e) ((hdd _).symm.trans f)) hsl true s1 s2 s3 t1 t2 t3) (_root_.Go.Proofs.YtcnjpmcelihknaaGreatDoor.U.shut (Sh.why S2 d) o1)
    rw [hw] at t1 ⊢
    refine ⟨fun e=>(t4 e).trans (hdd e),.inl rfl,fun hy=>absurd rfl hy,fun _=>⟨t1,fun ho=>(q3 ((r3 (t3 ho)).2)).2,fun d' j hd' hj=>?_⟩⟩
    by_cases c:d'=d
    ·subst c
     rw [t2,hv2]
     exact (if_neg (hj k hk).1).trans (if_neg (hj k hk).2)
    ·rw [t5 d' c,r8 d' c,q8 d' c]
   ·have hw:Sh.why S2 d=3:=off_why hon d
    have hfl:Fl S2 d=S2:=fl_why (by rw [hw];decide)
    have hz:shut (Sh.why S2 d) o1=o1:=by rw [hw];rfl
    rw [hfl,hw] at *
    have e3:_root_.Go.Proofs.YtcnjpmcelihknaaGreatDoor.U.shut 3 o1=o1:=rfl
    rw [e3]
    have hpp2:put1 (put1 o d o1) d o1=put1 o d o1:=by funext j;unfold put1;split<;>rfl
    rw [hpp2]
    exact ⟨hdd,.inr rfl,fun _=>⟨hon,g.slot d k st dm false,⟨rfl,fun _ _ e=>e,rfl⟩,r1⟩,fun hy=>absurd hy (by decide)⟩
end
def Ld (A:Ar) (S:Sh.Sf) (g:Gh):Prop:=∀st m,st<A.St->m<A.M->g.lack st m->Dead S (A.num st m)=true
def NowP (A:Ar) (S:Sh.Sf) (g:Gh):Prop:=∀st m,st<A.St->m<A.M->Dead S (A.num st m)=false->vo S (A.num st m) (A.at st)=some (g.dat st m)
section
variable {A:Ar} {S S':Sh.Sf} {o:Nat->Int} {g g':Gh} {D U:Set0} {d k st dm:Nat} {y z:Int} {b x:Sh.Bs} {c:Nat->Option Sh.Bs}
theorem Fi.nowP (h:Fi A S o g U) (hl:Ld A S g):NowP A S g:=fun st m hst hm ha=>by
 have hn:=h.now st hst m hm
 rw [seen_alive ha h.on] at hn
 rcases hn with e | ⟨e,_⟩
 ·exact e
 ·rw [hl st m hst hm e] at ha;cases ha
theorem Fi.of (hc:Ci A S o g) (hon:S.off=false) (hn:NowP A S g) (hu:∀d k,d<A.n->k<A.L->g.sl d k≠none->Maps.has U (slotKey d k)=true):Fi A S o g U:=by
 refine ⟨hc,hon,fun st hst m hm=>?_,hu⟩
 cases ha:Dead S (A.num st m)
 ·rw [seen_alive ha hon]
  exact .inl (hn st m hst hm ha)
 ·exact .inr ⟨hc.dead st m hst hm ha,seen_dead ha _⟩
theorem Ci.there (h:Ci A S o g) (hl:Ld A S g) (hon:S.off=false) (hst:st<A.St) {m:Nat} (hm:m<A.M) (ha:Dead S (A.num st m)=false):vo S (A.num st m) (A.at st)≠none:=by
 have hp:=(h.disk _ (h.ar.num st m hm) ha).now hon
 rcases hp.blk st hst m hm rfl with e | ⟨e,_⟩ | ⟨_,_,_,⟨_,e⟩ | ⟨_,e⟩⟩
 ·rw [e];simp
 ·rw [hl st m hst hm e] at ha;cases ha
 ·rw [e];simp
 ·rw [e];simp
/-! ### other bytes -/
theorem write_dm (M st dm:Nat) (x:Sh.Bs):(g.write M st dm x).dat st dm=x:=by unfold Gh.write;simp
theorem write_pm {M st dm:Nat} (hne:dm≠pm M st) (x:Sh.Bs):(g.write M st dm x).dat st (pm M st)=xorL (partG g M st dm) x:=by unfold Gh.write;simp [Ne.symm hne]
theorem write_other {M st dm m:Nat} (h1:m≠dm) (h2:m≠pm M st) (x:Sh.Bs):(g.write M st dm x).dat st m=g.dat st m:=by unfold Gh.write;simp [h1,h2]
theorem write_st {M st dm st':Nat} (h:st'≠st) (x:Sh.Bs):(g.write M st dm x).dat st'=g.dat st'/\(g.write M st dm x).op st'=g.op st':=by unfold Gh.write;simp [h]
theorem write_op (M st dm:Nat) (x:Sh.Bs):(g.write M st dm x).op st=some (dm,g.dat st dm):=by unfold Gh.write;simp
theorem xor_turn {p x:Sh.Bs} (hp:Sh.Sec p) (hx:Sh.Sec x):xorL x (xorL p x)=p:=by
 refine sec_ext (by rw [xorL_len];exact hx.1) hp.1 fun i hi=>?_
 rw [xl_at hx.1 hi,xl_at hp.1 hi,Nat.xor_comm,Nat.xor_assoc,Nat.xor_self,Nat.xor_zero]
theorem write_part (hg:GhOk A g) (ha:ArOk A) (hst:st<A.St) (hdm:dm<A.M) (hne:dm≠pm A.M st) (hx:Sh.Sec x):partG (g.write A.M st dm x) A.M st dm=partG g A.M st dm:=by
 show xorL ((g.write A.M st dm x).dat st dm) ((g.write A.M st dm x).dat st (pm A.M st))=_
 rw [write_dm,write_pm hne]
 exact xor_turn (Sec.part hg ha hst hdm) hx
theorem part_old (hg:GhOk A g) (ha:ArOk A) (hst:st<A.St) (hdm:dm<A.M):xorL (partG g A.M st dm) (g.dat st dm)=g.dat st (pm A.M st):=by
 have h1:=hg.sec st dm hst hdm
 have h2:=hg.sec st _ hst (pm_lt ha st)
 unfold partG
 refine sec_ext (by rw [xorL_len,xorL_len];exact h1.1) h2.1 fun i hi=>?_
 rw [xl_at (by rw [xorL_len];exact h1.1) hi,xl_at h1.1 hi,xor_swap,Nat.xor_self,Nat.zero_xor]
theorem write_sum {M:Nat} {f:Nat->Sh.Bs} {dm p:Nat} (hz:SumZ M f) (hf:∀m,m<M->(f m).length=128) (h1:dm<M) (h2:p<M) (hne:dm≠p):SumZ M (fun m=>if m=dm then x else if m=p then xorL (xorL (f dm) (f p)) x else f m):=by
 intro i hi
 have e0:=xor_move (xf_neither (fun m=>(f m).getD i 0) h1 h2 hne)
 have e1:=xor_move (xf_neither (fun m=>(if m=dm then x else if m=p then xorL (xorL (f dm) (f p)) x else f m).getD i 0) h1 h2 hne)
 have ec:xf (fun m=>(if m=dm then x else if m=p then xorL (xorL (f dm) (f p)) x else f m).getD i 0) (tkNeither dm p) M=xf (fun m=>(f m).getD i 0) (tkNeither dm p) M:=xf_congr fun m _=>⟨rfl,fun ht=>by
  have ht:m≠dm/\m≠p:=by simpa [tkNeither] using ht
  simp [ht.1,ht.2]⟩
 rw [ec] at e1
 rw [e1]
 have e2:=xf_neither (fun m=>(f m).getD i 0) h1 h2 hne
 rw [hz i hi,Nat.zero_xor] at e2
 rw [e2]
 simp only [if_true,Ne.symm hne,if_false]
 rw [xl_at (by rw [xorL_len];exact hf dm h1) hi,xl_at (hf dm h1) hi,Nat.xor_comm (x.getD i 0),Nat.xor_assoc _ (x.getD i 0),Nat.xor_self,Nat.xor_zero,Nat.xor_self]
theorem GhOk.write (hg:GhOk A g) (ha:ArOk A) (hst:st<A.St) (hdm:dm<A.M) (hne:dm≠pm A.M st) (hx:Sh.Sec x) (hu:∀e j dm',g.sl e j=some (st,dm')->dm'=dm):GhOk A (g.write A.M st dm x):=by
 refine ⟨fun st' hst'=>?_,fun st' m hst' hm=>?_,fun st' dm' old he=>?_,fun e j st' dm' hs=>?_,hg.lack⟩
 ·by_cases c:st'=st
  ·subst c
   have e:(g.write A.M st' dm x).dat st'=fun m=>if m=dm then x else if m=pm A.M st' then xorL (xorL (g.dat st' dm) (g.dat st' (pm A.M st'))) x else g.dat st' m:=by
    funext m
    unfold Gh.write partG
    simp
   rw [e]
   exact write_sum (hg.sum st' hst') (fun m hm=>(hg.sec st' m hst' hm).1) hdm (pm_lt ha st') hne
  ·rw [(write_st c x).1];exact hg.sum st' hst'
 ·by_cases c:st'=st
  ·subst c
   by_cases c1:m=dm
   ·rw [c1,write_dm];exact hx
   ·by_cases c2:m=pm A.M st'
    ·rw [c2,write_pm hne]
     exact xor_sec (Sec.part hg ha hst' hdm) hx
    ·rw [write_other c1 c2];exact hg.sec st' m hst' hm
  ·rw [(write_st c x).1];exact hg.sec st' m hst' hm
 ·by_cases c:st'=st
  ·subst c
   rw [write_op] at he
   injection he with he
   injection he with e1 e2
   subst e1 e2
   exact ⟨hst,hdm,hne,hg.sec _ _ hst hdm⟩
  ·rw [(write_st c x).2] at he;exact hg.op st' dm' old he
 ·obtain ⟨h1,h2,h3,h4,h5⟩:=hg.sl e j st' dm' hs
  refine ⟨h1,h2,h3,h4,fun dm2 old he=>?_⟩
  by_cases c:st'=st
  ·subst c
   rw [write_op] at he
   injection he with he
   injection he with e1 e2
   rw [<- e1,hu e j dm' hs]
  ·rw [(write_st c x).2] at he;exact h5 dm2 old he
theorem Pd.write (hg:GhOk A g) (ha:ArOk A) (hst:st<A.St) (hdm:dm<A.M) (hne:dm≠pm A.M st) (hx:Sh.Sec x) (hop:g.op st=none) (hu:∀e j dm',g.sl e j=some (st,dm')->dm'=dm) (h:Pd A g d c):Pd A (g.write A.M st dm x) d c:=by
 have hpt:=write_part hg ha hst hdm hne hx
 refine ⟨fun st' hst' m hm hn=>?_,fun k hk=>?_,h.part,h.said⟩
 ·by_cases e:st'=st
  ·subst e
   rcases h.blk st' hst' m hm hn with e1 | e1 | ⟨_,_,e1,_⟩
   ·by_cases c1:m=dm
    ·subst c1
     exact .inr (.inr ⟨m,g.dat st' m,write_op _ _ _ _,.inl ⟨rfl,e1⟩⟩)
    ·by_cases c2:m=pm A.M st'
     ·refine .inr (.inr ⟨dm,g.dat st' dm,write_op _ _ _ _,.inr ⟨c2,?_⟩⟩)
      rw [hpt,part_old hg ha hst' hdm,<- c2]
      exact e1
     ·exact .inl (by rw [write_other c1 c2];exact e1)
   ·exact .inr (.inl e1)
   ·rw [hop] at e1;cases e1
  ·obtain ⟨w1,w2⟩:=write_st (g:=g) (M:=A.M) (dm:=dm) e x
   rcases h.blk st' hst' m hm hn with e1 | e1 | ⟨dm',old,e1,e2⟩
   ·exact .inl (by rw [w1];exact e1)
   ·exact .inr (.inl e1)
   ·refine .inr (.inr ⟨dm',old,by rw [w2];exact e1,?_⟩)
    unfold partG
    rw [w1]
    exact e2
 ·rcases h.slot k hk with e1 | ⟨s1,s2,e1,e2⟩
  ·exact .inl e1
  ·refine .inr ⟨s1,s2,e1,?_⟩
   have ep:partG (g.write A.M st dm x) A.M s1 s2=partG g A.M s1 s2:=by
    by_cases c:s1=st
    ·subst c
     rw [hu _ _ _ e1]
     exact hpt
    ·unfold partG
     rw [(write_st c x).1]
   unfold recH
   rw [ep]
   exact e2
theorem Ci.opened (h:Ci A S o g) (hst:st<A.St) (hdm:dm<A.M) (hne:dm≠pm A.M st) (hx:Sh.Sec x) (hop:g.op st=none) (hu:∀e j dm',g.sl e j=some (st,dm')->dm'=dm)
  (hr:Dead S (A.num st dm)=false->Dead S (A.num st (pm A.M st))=false->∃k,k<A.L/\g.sl (A.num st (pm A.M st)) k=some (st,dm)/\g.sure (A.num st (pm A.M st)) k=true):Ci A S o (g.write A.M st dm x):=by
 refine ⟨h.ar,h.ok.write h.ar hst hdm hne hx hu,fun d hd ha=>(h.disk d hd ha).more fun c hc=>hc.write h.ok h.ar hst hdm hne hx hop hu,h.dead,fun st' dm' old he h1 h2=>?_,h.len,h.fit,h.sec⟩
 by_cases c:st'=st
 ·subst c
  rw [write_op] at he
  injection he with he
  injection he with e1 e2
  subst e1
  exact hr h1 h2
 ·rw [(write_st c x).2] at he
  exact h.rc st' dm' old he h1 h2
theorem Ci.put {m:Nat} (h:Ci A S o g) (hl:Ld A S g) (hst:st<A.St) (hm:m<A.M) (ha:Dead S (A.num st m)=false) (hD:DW S (A.num st m) (o (A.num st m)) (A.at st) (g.dat st m) y z S') :
  Ci A S' (put1 o (A.num st m) z) g/\(y=0->vo S' (A.num st m)=updO (vo S (A.num st m)) (A.at st) (some (g.dat st m)))/\(S'.off=false->y=0/\S.off=false)/\(y=0\/y=3)/\(y=0->S.off=false)/\(∀e,Dead S' e=Dead S e)/\(∀e,e≠A.num st m->vo S' e=vo S e):=by
 obtain ⟨q1,q2,q3,q4,q5,q6,q7,q8⟩:=h.dw (g':=g) (h.ar.num st m hm) ha (h.at_lt hst) (h.ok.sec st m hst hm) (fun hon=>noBlank_good (h.there hl hon hst hm ha) _) hD (fun _ _ _ hc=>hc) (fun hon=>((h.disk _ (h.ar.num st m hm) ha).now hon).put h.ar hm rfl) h.ok (fun _ _ e=>e) h.rc
 exact ⟨q1,q2,q3,q5,q6,q7,q8⟩
theorem Ld.dead (h:Ld A S g) (hd:∀e,Dead S' e=Dead S e):Ld A S' g:=fun st m h1 h2 h3=>(hd _).trans (h st m h1 h2 h3)
theorem Ci.both {z2:Int} {S2 S3:Sh.Sf} (h:Ci A S o g) (hl:Ld A S g) (hst:st<A.St) (hdm:dm<A.M) (hne:dm≠pm A.M st) (ha:Dead S (A.num st dm)=false) (hb:Dead S (A.num st (pm A.M st))=false)
  (hD:DW S (A.num st dm) (o (A.num st dm)) (A.at st) (g.dat st dm) 0 z S2) (hE:DW S2 (A.num st (pm A.M st)) (put1 o (A.num st dm) z (A.num st (pm A.M st))) (A.at st) (g.dat st (pm A.M st)) y z2 S3)
  (hn:S.off=false->∀st' m,st'<A.St->m<A.M->Dead S (A.num st' m)=false->(st'=st->m≠dm/\m≠pm A.M st)->vo S (A.num st' m) (A.at st')=some (g.dat st' m)) :
  Ci A S3 (put1 (put1 o (A.num st dm) z) (A.num st (pm A.M st)) z2) g/\(∀e,Dead S3 e=Dead S e)/\(y=0\/y=3)/\(S3.off=false->y=0/\S.off=false/\NowP A S3 g):=by
 obtain ⟨q1,q2,q3,q5,q6,q7,q8⟩:=h.put hl hst hdm ha hD
 obtain ⟨r1,r2,r3,r5,r6,r7,r8⟩:=q1.put (hl.dead q7) hst (pm_lt h.ar st) ((q7 _).trans hb) hE
 refine ⟨r1,fun e=>(r7 e).trans (q7 e),r5,fun hon=>?_⟩
 obtain ⟨y0,hon2⟩:=r3 hon
 have hon1:=q6 rfl
 refine ⟨y0,hon1,fun st' m hst' hm hda=>?_⟩
 have hda1:Dead S (A.num st' m)=false:=((r7 _).trans (q7 _)).symm.trans hda
 have hne2:A.num st dm≠A.num st (pm A.M st):=fun e=>hne (h.ar.inj st _ _ hdm (pm_lt h.ar st) e)
 have key2:vo S2 (A.num st' m) (A.at st')=if st'=st/\m=dm then some (g.dat st dm) else vo S (A.num st' m) (A.at st'):=by
  by_cases c:A.num st' m=A.num st dm
  ·rw [c,q2 rfl]
   by_cases e:st'=st
   ·subst e
    rw [if_pos ⟨rfl,h.ar.inj _ _ _ hm hdm c⟩]
    exact if_pos rfl
   ·rw [if_neg fun e2=>e e2.1]
    exact if_neg fun e2=>e (by unfold Ar.at at e2;omega)
  ·rw [q8 _ c]
   rw [if_neg]
   rintro ⟨rfl,rfl⟩
   exact c rfl
 have key3:vo S3 (A.num st' m) (A.at st')=if st'=st/\m=pm A.M st then some (g.dat st (pm A.M st)) else vo S2 (A.num st' m) (A.at st'):=by
  by_cases c:A.num st' m=A.num st (pm A.M st)
  ·rw [c,r2 y0]
   by_cases e:st'=st
   ·subst e
    rw [if_pos ⟨rfl,h.ar.inj _ _ _ hm (pm_lt h.ar _) c⟩]
    exact if_pos rfl
   ·rw [if_neg fun e2=>e e2.1]
    exact if_neg fun e2=>e (by unfold Ar.at at e2;omega)
  ·rw [r8 _ c]
   rw [if_neg]
   rintro ⟨rfl,e⟩
   rw [e] at c
   exact c rfl
 rw [key3,key2]
 by_cases e1:st'=st/\m=pm A.M st
 ·rw [if_pos e1,e1.1,e1.2]
 ·rw [if_neg e1]
  by_cases e2:st'=st/\m=dm
  ·rw [if_pos e2,e2.1,e2.2]
  ·rw [if_neg e2]
   exact hn hon1 st' m hst' hm hda1 fun e=>⟨fun e3=>e2 ⟨e,e3⟩,fun e3=>e1 ⟨e,e3⟩⟩
theorem Ci.one {m:Nat} (h:Ci A S o g) (hl:Ld A S g) (hst:st<A.St) (hm:m<A.M) (ha:Dead S (A.num st m)=false) (hD:DW S (A.num st m) (o (A.num st m)) (A.at st) (g.dat st m) y z S')
  (hn:∀st' m',st'<A.St->m'<A.M->Dead S (A.num st' m')=false->(st'=st->m'≠m)->vo S (A.num st' m') (A.at st')=some (g.dat st' m')) :
  Ci A S' (put1 o (A.num st m) z) g/\(∀e,Dead S' e=Dead S e)/\(y=0\/y=3)/\(S'.off=false->y=0/\NowP A S' g):=by
 obtain ⟨q1,q2,q3,q5,q6,q7,q8⟩:=h.put hl hst hm ha hD
 refine ⟨q1,q7,q5,fun hon=>⟨(q3 hon).1,fun st' m' hst' hm' hda=>?_⟩⟩
 have hda1:Dead S (A.num st' m')=false:=(q7 _).symm.trans hda
 by_cases c:A.num st' m'=A.num st m
 ·rw [c,q2 (q3 hon).1]
  by_cases e:st'=st
  ·subst e
   rw [h.ar.inj _ _ _ hm' hm c]
   exact if_pos rfl
  ·have e1:updO (vo S (A.num st m)) (A.at st) (some (g.dat st m)) (A.at st')=vo S (A.num st m) (A.at st'):=if_neg fun e2=>e (by unfold Ar.at at e2;omega)
   rw [e1,<- c]
   exact hn st' m' hst' hm' hda1 fun e2=>absurd e2 e
 ·rw [q8 _ c]
  refine hn st' m' hst' hm' hda1 fun e e2=>c (by rw [e,e2])
end
structure Gw (M:Nat) (g' g:Gh) (st dm:Nat) (x:Sh.Bs):Prop where
 lack:g'.lack=g.lack
 dat:g'.dat st dm=x
 rest:∀st' m,¬(st'=st/\(m=dm\/m=pm M st))->g'.dat st' m=g.dat st' m
 op:∀st',st'≠st->∀z,g'.op st'=some z->g.op st'=some z
 opst:∀dm' old,g'.op st=some (dm',old)->dm'=dm/\old=g.dat st dm
def WOut (A:Ar) (S:Sh.Sf) (g:Gh) (D' U':Set0) (st dm:Nat) (x:Sh.Bs) (y:Int) (e:Stt):Prop :=
 (∀d,Dead e.S d=Dead S d)/\((y=0/\∃g',Gw A.M g' g st dm x/\Ci A e.S e.o g'/\(e.S.off=false->Oi A e.S e.o g' D' U')) \/
  (y=3/\e.S.off≠false/\∃g',(Gle g' g\/Gw A.M g' g st dm x)/\Ci A e.S e.o g'))
section
variable {A:Ar} {S S':Sh.Sf} {o:Nat->Int} {g g':Gh} {D U:Set0} {d k st dm:Nat} {y z:Int} {b x:Sh.Bs} {c:Nat->Option Sh.Bs}
theorem gw_write {g1:Gh} (h:Gle g1 g) {M:Nat} (hne:dm≠pm M st):Gw M (g1.write M st dm x) g st dm x:=by
 refine ⟨h.lack,write_dm _ _ _ _,fun st' m hm=>?_,fun st' hst z hz=>?_,fun dm' old e=>?_⟩
 ·by_cases c:st'=st
  ·subst c
   rw [write_other (fun e=>hm ⟨rfl,.inl e⟩) (fun e=>hm ⟨rfl,.inr e⟩),h.dat]
  ·rw [(write_st c x).1,h.dat]
 ·rw [(write_st hst x).2] at hz
  exact h.op st' z hz
 ·rw [write_op] at e
  injection e with e
  injection e with e1 e2
  exact ⟨e1.symm,by rw [<- e2,h.dat]⟩
theorem Oi.shutSt (h:Oi A S o g D U) (hst:st<A.St) (hcl:Maps.has D (.int .i64 st)=false):g.op st=none/\∀e j dm',g.sl e j≠some (st,dm'):=by
 refine ⟨?_,fun e j dm' hs=>?_⟩
 ·cases ho:g.op st with
  | none=>rfl
  | some z=>rw [h.opens st hst (by rw [ho];simp)] at hcl;cases hcl
 ·rw [h.slots e j st dm' hs] at hcl;cases hcl
theorem has_putS {U:Set0} (hU:IsMap U) {k k':Nat} {d d':Nat} (h:Maps.has U (slotKey d' k')=true\/(d'=d/\k'=k)):Maps.has (DataW.put U (slotKey d k) one0) (slotKey d' k')=true:=by
 by_cases e:slotKey d' k'=slotKey d k
 ·rw [e]
  exact has_put_same hU (show WideAt.IsKeyLit (slotKey d k) from trivial) _
 ·rw [has_put_other e]
  rcases h with h | ⟨rfl,rfl⟩
  ·exact h
  ·exact absurd rfl e
theorem has_putI {D:Set0} (hD:IsMap D) {a b:Nat} (h:Maps.has D (.int .i64 (b:Int))=true\/b=a):Maps.has (DataW.put D (.int .i64 (a:Int)) one0) (.int .i64 (b:Int))=true:=by
 by_cases e:(.int .i64 (b:Int):Lit)=.int .i64 (a:Int)
 ·rw [e]
  exact has_put_same hD (show WideAt.IsKeyLit (.int .i64 (a:Int)) from trivial) _
 ·rw [has_put_other e]
  rcases h with h | rfl
  ·exact h
  ·exact absurd rfl e
structure Mid (A:Ar) (S:Sh.Sf) (o:Nat->Int) (g1:Gh) (D U:Set0) (st dm k:Nat):Prop where
 ci:Ci A S o g1
 op:g1.op st=none
 uniq:∀e j dm',g1.sl e j=some (st,dm')->dm'=dm
 kl:k<A.L
 sl:g1.sl (A.num st (pm A.M st)) k=some (st,dm)
 sure:g1.sure (A.num st (pm A.M st)) k=true
 now:S.off=false->NowP A S g1
 used:∀d k,d<A.n->k<A.L->g1.sl d k≠none->Maps.has U (slotKey d k)=true
 opens:∀st,st<A.St->g1.op st≠none->Maps.has D (.int .i64 st)=true
 slots:∀d k st' dm',g1.sl d k=some (st',dm')->st'≠st->Maps.has D (.int .i64 st')=true
 isD:IsMap D
theorem Oi.mid {e:Stt} {D' U':Set0} (h:Oi A S o g D U) (hl:Ld A S g) (hD:IsMap D) (hU:IsMap U) (hd:A.num st (pm A.M st)=d) (ha:Dead S d=false) (hk:k<A.L) (hu:Maps.has U (slotKey d k)=false) (hst:st<A.St) (hdm:dm<A.M) (hne:dm≠pm A.M st) (hcl:Maps.has D (.int .i64 st)=false)
  (hT:RecTail d k (partG g A.M st dm) (recH g A.M st dm) ⟨S,o⟩ D U y e D' U') :
  (∀d,Dead e.S d=Dead S d)/\(y=0\/y=3)/\(y≠0->e.S.off≠false/\∃g',Gle g' g/\Ci A e.S e.o g')/\(y=0->∃g1,Gle g1 g/\Mid A e.S e.o g1 D' U' st dm k):=by
 obtain ⟨hop,hns⟩:=h.shutSt hst hcl
 have hdn:d<A.n:=by rw [<- hd];exact h.fi.ci.ar.num st _ (pm_lt h.fi.ci.ar st)
 have hsl:g.sl d k=none:=by
  cases hs:g.sl d k with
  | none=>rfl
  | some z=>rw [h.fi.used d k hdn hk (by rw [hs];simp)] at hu;cases hu
 obtain ⟨rfl,rfl,q1,q2,q3,q4⟩:=h.fi.ci.tail hdn ha hk hsl hop hst hdm hne hd hT
 refine ⟨q1,q2,q3,fun hy=>?_⟩
 obtain ⟨r1,r2,r3⟩:=q4 hy
 have hslot:∀e j st' dm',(g.slot d k st dm true).sl e j=some (st',dm')->(e=d/\j=k/\st'=st/\dm'=dm)\/g.sl e j=some (st',dm'):=fun e j st' dm' hs=>by
  have hs:(if e=d/\j=k then some (st,dm) else g.sl e j)=some (st',dm'):=hs
  by_cases c:e=d/\j=k
  ·rw [if_pos c] at hs
   injection hs with hs
   injection hs with e1 e2
   exact .inl ⟨c.1,c.2,e1.symm,e2.symm⟩
  ·rw [if_neg c] at hs
   exact .inr hs
 refine ⟨g.slot d k st dm true,⟨rfl,fun _ _ e=>e,rfl⟩,⟨r1,hop,fun e j dm' hs=>?_,hk,?_,?_,fun hon=>?_,fun d' k' hd' hk' hs=>?_,h.opens,fun d' k' st' dm' hs hst'=>?_,hD⟩⟩
 ·rcases hslot e j st dm' hs with ⟨_,_,_,e⟩ | e1
  ·exact e
  ·exact absurd e1 (hns e j dm')
 ·exact if_pos ⟨hd,rfl⟩
 ·exact if_pos ⟨hd,rfl⟩
 ·intro st' m hst' hm hda
  have hda0:Dead S (A.num st' m)=false:=(q1 _).symm.trans hda
  rw [r3 _ _ (h.fi.ci.ar.num st' m hm) (fun k hk=>by unfold Ar.at;omega)]
  exact h.fi.nowP hl st' m hst' hm hda0
 ·refine has_putS hU ?_
  by_cases c:d'=d/\k'=k
  ·exact .inr c
  ·refine .inl (h.fi.used d' k' hd' hk' fun e=>hs ?_)
   exact (if_neg c).trans e
 ·rcases hslot d' k' st' dm' hs with ⟨_,_,e,_⟩ | e1
  ·exact absurd e hst'
  ·exact h.slots d' k' st' dm' e1
theorem Oi.record {e:Stt} {D' U':Set0} (h:Oi A S o g D U) (hl:Ld A S g) (hD:IsMap D) (hU:IsMap U) (hd:A.num st (pm A.M st)=d) (ha:Dead S d=false) (hst:st<A.St) (hdm:dm<A.M) (hne:dm≠pm A.M st) (hcl:Maps.has D (.int .i64 st)=false)
  (hR:RecR A.n A.L d (partG g A.M st dm) (recH g A.M st dm) ⟨S,o⟩ D U y e D' U') :
  (∀d,Dead e.S d=Dead S d)/\(y=0\/y=3)/\(y≠0->e.S.off≠false/\∃g',Gle g' g/\Ci A e.S e.o g')/\(y=0->∃g1 k,Gle g1 g/\Mid A e.S e.o g1 D' U' st dm k):=by
 rcases hR with ⟨hs,hT⟩ | ⟨_,y1,a1,D1,U1,hF,hx⟩
 ·obtain ⟨k,hk⟩:=Option.isSome_iff_exists.1 hs
  obtain ⟨k1,k2⟩:=freeK_is hk
  rw [hk] at hT
  obtain ⟨q1,q2,q3,q4⟩:=h.mid hl hD hU hd ha k1 k2 hst hdm hne hcl hT
  refine ⟨q1,q2,q3,fun hy=>?_⟩
  obtain ⟨g1,r1,r2⟩:=q4 hy
  exact ⟨g1,k,r1,r2⟩
 ·obtain ⟨hdd,hf⟩:=h.fi.flush hF
  rcases hf with ⟨rfl,rfl,rfl,hc,ho⟩ | ⟨rfl,hoff,g',hg',hc⟩
  ·rcases hx with ⟨h0,_⟩ | ⟨_,hT⟩
   ·exact absurd rfl h0
   ·have hfk:(freeK U d A.L).getD 0<A.L:=freeK_lt h.fi.ci.ar.l1
    generalize (freeK U d A.L).getD 0=k at *
    have ha1:Dead a1.S d=false:=(hdd d).trans ha
    by_cases hon:a1.S.off=false
    ·obtain ⟨q1,q2,q3,q4⟩:=(ho hon).mid (hl.dead hdd) isMap_empty isMap_empty hd ha1 hfk rfl hst hdm hne rfl hT
     refine ⟨fun d=>(q1 d).trans (hdd d),q2,fun hy=>?_,fun hy=>?_⟩
     ·obtain ⟨r1,g',r2,r3⟩:=q3 hy
      exact ⟨r1,g',r2.trans (gle_closed g),r3⟩
     ·obtain ⟨g1,r1,r2⟩:=q4 hy
      exact ⟨g1,k,r1.trans (gle_closed g),r2⟩
    ·obtain ⟨rfl,rfl,q1,q2,q3,q4⟩:=hc.tail (st:=st) (dm:=dm) (by rw [<- hd];exact h.fi.ci.ar.num st _ (pm_lt h.fi.ci.ar st)) ha1 hfk rfl rfl hst hdm hne hd hT
     refine ⟨fun d=>(q1 d).trans (hdd d),q2,fun hy=>?_,fun hy=>?_⟩
     ·obtain ⟨r1,g',r2,r3⟩:=q3 hy
      exact ⟨r1,g',r2.trans (gle_closed g),r3⟩
     ·-- the power is off: nothing is put
      exfalso
      obtain ⟨_,_,z,o1,S1,⟨y1,x1,S2,hw,hw2⟩,ht⟩:=hT
      have h3:Sh.why a1.S d≠0:=by rw [off_why hon];decide
      rcases hw with ⟨_,rfl,_,_⟩ | ⟨h0,_⟩
      ·rcases hw2 with ⟨hy1,rfl,_,_⟩ | ⟨hy1,_⟩
       ·rcases ht with ⟨_,e1,_⟩ | ⟨e1,_⟩
        ·rw [hy] at e1;exact hy1 e1.symm
        ·exact hy1 e1
       ·exact h3 hy1
      ·exact h3 h0
  ·rcases hx with ⟨_,rfl,rfl,rfl,rfl⟩ | ⟨h0,_⟩
   ·exact ⟨hdd,.inr rfl,fun _=>⟨hoff,g',hg',hc⟩,fun e=>absurd e (by decide)⟩
   ·exact absurd h0 (by decide)
end
section
variable {A:Ar} {S S':Sh.Sf} {o:Nat->Int} {g g':Gh} {D U:Set0} {d k st dm:Nat} {y z:Int} {b x:Sh.Bs} {c:Nat->Option Sh.Bs}
theorem Oi.wb {pl:Nat} {e:Stt} {D' U':Set0} (h:Oi A S o g D U) (hl:Ld A S g) (hD:IsMap D) (hU:IsMap U) (hst:st<A.St) (hdm:dm<A.M) (hne:dm≠pm A.M st) (hcl:Maps.has D (.int .i64 st)=false) (ha:Dead S (A.num st dm)=false) (hb:Dead S (A.num st (pm A.M st))=false) (hx:Sh.Sec x) (hpl:plM A.M st dm=pl)
  (hW:WbR A.n A.L A.s A.M (A.at st) st dm pl (pm A.M st) x D U S o y e D' U'):WOut A S g D' U' st dm x y e:=by
 have hok:=h.fi.ci.ok
 have har:=h.fi.ci.ar
 obtain ⟨p1,p2⟩:=part_is (s:=A.s) (k:=A.at st) (st:=st) h.fi.on (hok.sum st hst) (fun m hm=>hok.sec st m hst hm) hdm (pm_lt har st) hne (X:=g.lack st) (fun m m' hm hm' h1 h2=>hok.lack st m m' hst hm hm' h1 h2) (fun m hm=>h.fi.now st hst m hm)
 have hsm:Same S (partR A.s A.M (A.at st) st dm (pm A.M st) S).1:=partR_same
 have hrec:headL (numF st pl (Nums.sum 0 (partG g A.M st dm)))=recH g A.M st dm:=by unfold recH;rw [hpl]
 have hp2:(partR A.s A.M (A.at st) st dm (pm A.M st) S).2.1=partG g A.M st dm:=p2
 have hN:∀m,numOf A.s A.M st m=A.num st m:=fun _=>rfl
 have h1:=h.same hsm
 have hdd1:=fun e=>dead_same hsm e
 have hl1:=hl.dead hdd1
 generalize hr1:(partR A.s A.M (A.at st) st dm (pm A.M st) S).1=S1 at *
 have ha1:=(hdd1 _).trans ha
 have hb1:=(hdd1 _).trans hb
 -- behind the record
 have mid:∀{a1:Stt} {D1 U1:Set0} {g1:Gh} {k:Nat},(∀d,Dead a1.S d=Dead S1 d)->Gle g1 g->Mid A a1.S a1.o g1 D1 U1 st dm k->Ci A a1.S a1.o (g1.write A.M st dm x)/\Ld A a1.S (g1.write A.M st dm x):=by
  intro a1 D1 U1 g1 k hda hg hm
  exact ⟨hm.ci.opened hst hdm hne hx hm.op hm.uniq fun _ _=>⟨k,hm.kl,hm.sl,hm.sure⟩,fun st m h1 h2 h3=>by
   have h3:g1.lack st m:=h3
   rw [hg.lack] at h3
   exact (hda _).trans (hl1 st m h1 h2 h3)⟩
 cases hW with
 | lack h0=>exact absurd p1 h0
 | recd y a1 D1 U1 h0 hR hy =>
  rw [hr1,hp2,hrec] at hR
  obtain ⟨q1,q2,q3,_⟩:=h1.record hl1 hD hU rfl hb1 hst hdm hne hcl hR
  obtain ⟨r1,g',r2,r3⟩:=q3 hy
  exact ⟨fun d=>(q1 d).trans (hdd1 d),.inr ⟨q2.elim (fun e=>absurd e hy) id,r1,g',.inl r2,r3⟩⟩
 | data y a1 D1 U1 z S2 h0 hR hw hy =>
  rw [hr1,hp2,hrec] at hR
  obtain ⟨q1,q2,q3,q4⟩:=h1.record hl1 hD hU rfl hb1 hst hdm hne hcl hR
  obtain ⟨g1,k,hg,hm⟩:=q4 rfl
  obtain ⟨m1,m2⟩:=mid q1 hg hm
  obtain ⟨r1,r2,r3,r4,r5,r6,r7⟩:=m1.put m2 hst hdm ((q1 _).trans ha1) (by rw [write_dm];exact hw)
  exact ⟨fun d=>(r6 d).trans ((q1 d).trans (hdd1 d)),.inr ⟨r4.elim (fun e=>absurd e hy) id,fun e=>hy (r3 e).1,_,.inr (gw_write hg hne),r1⟩⟩
 | both y a1 D1 U1 z z3 S2 S3 h0 hR hw hw2 =>
  rw [hr1,hp2,hrec] at hR
  rw [hp2] at hw2
  obtain ⟨q1,q2,q3,q4⟩:=h1.record hl1 hD hU rfl hb1 hst hdm hne hcl hR
  obtain ⟨g1,k,hg,hm⟩:=q4 rfl
  obtain ⟨m1,m2⟩:=mid q1 hg hm
  have hpg:partG g1 A.M st dm=partG g A.M st dm:=by unfold partG;rw [hg.dat]
  obtain ⟨r1,r2,r3,r4⟩:=m1.both m2 hst hdm hne ((q1 _).trans ha1) ((q1 _).trans hb1) (by rw [write_dm];exact hw) (by rw [write_pm hne,hpg];exact hw2) (fun hon st' m hst' hm' hda hne2=>by
   rw [hm.now hon st' m hst' hm' hda]
   by_cases c:st'=st
   ·subst c
    obtain ⟨n1,n2⟩:=hne2 rfl
    rw [write_other n1 n2]
   ·rw [(write_st c x).1])
  have hDD:IsMap (DataW.put D1 (.int .i64 (st:Int)) one0):=hm.isD.put _ _
  have hfin:S3.off=false->Oi A S3 (put1 (put1 a1.o (A.num st dm) z) (A.num st (pm A.M st)) z3) (g1.write A.M st dm x) ((D1.put (.int .i64 st) one0).put (.int .i64 st) one0) U':=fun hon=>by
   obtain ⟨_,_,hn⟩:=r4 hon
   refine ⟨Fi.of r1 hon hn hm.used,fun st' hst' ho=>?_,fun d' k' st' dm' hs=>?_⟩
   ·by_cases c:st'=st
    ·exact has_putI hDD (.inr c)
    ·rw [(write_st c x).2] at ho
     exact has_putI hDD (.inl (has_putI hm.isD (.inl (hm.opens st' hst' ho))))
   ·by_cases c:st'=st
    ·exact has_putI hDD (.inr c)
    ·exact has_putI hDD (.inl (has_putI hm.isD (.inl (hm.slots d' k' st' dm' hs c))))
  refine ⟨fun d=>(r2 d).trans ((q1 d).trans (hdd1 d)),?_⟩
  by_cases hy:y=0
  ·exact .inl ⟨hy,_,gw_write hg hne,r1,hfin⟩
  ·exact .inr ⟨r3.elim (fun e=>absurd e hy) id,fun e=>hy (r4 e).1,_,.inr (gw_write hg hne),r1⟩
theorem Oi.alone {m:Nat} (h:Oi A S o g D U) (hl:Ld A S g) (hD:IsMap D) (hst:st<A.St) (hdm:dm<A.M) (hne:dm≠pm A.M st) (hcl:Maps.has D (.int .i64 st)=false) (hx:Sh.Sec x) (hm:m<A.M)
  (hc:(m=dm/\Dead S (A.num st (pm A.M st))=true)\/(m=pm A.M st/\Dead S (A.num st dm)=true)) (ha:Dead S (A.num st m)=false)
  (hw:DW S (A.num st m) (o (A.num st m)) (A.at st) ((g.write A.M st dm x).dat st m) y z S'):WOut A S g (D.put (.int .i64 st) one0) U st dm x y ⟨S',put1 o (A.num st m) z⟩:=by
 obtain ⟨hop,hns⟩:=h.shutSt hst hcl
 have hci:=h.fi.ci.opened hst hdm hne hx hop (fun e j dm' hs=>absurd hs (hns e j dm')) fun h1 h2=>by
  rcases hc with ⟨_,e⟩ | ⟨_,e⟩
  ·rw [e] at h2;cases h2
  ·rw [e] at h1;cases h1
 obtain ⟨r1,r2,r3,r4⟩:=hci.one (fun st m h1 h2 h3=>hl st m h1 h2 h3) hst hm ha hw (fun st' m' hst' hm' hda hne2=>by
  rw [h.fi.nowP hl st' m' hst' hm' hda]
  by_cases c:st'=st
  ·subst c
   have n0:=hne2 rfl
   have n1:m'≠dm:=fun e=>by
    rcases hc with ⟨e1,_⟩ | ⟨_,e1⟩
    ·exact n0 (e.trans e1.symm)
    ·rw [e,e1] at hda;cases hda
   have n2:m'≠pm A.M st':=fun e=>by
    rcases hc with ⟨_,e1⟩ | ⟨e1,_⟩
    ·rw [e,e1] at hda;cases hda
    ·exact n0 (e.trans e1.symm)
   rw [write_other n1 n2]
  ·rw [(write_st c x).1])
 refine ⟨r2,?_⟩
 by_cases hy:y=0
 ·refine .inl ⟨hy,_,gw_write (Gle.refl g) hne,r1,fun hon=>⟨Fi.of r1 hon (r4 hon).2 h.fi.used,fun st' hst' ho=>?_,fun d' k' st' dm' hs=>?_⟩⟩
  ·by_cases c:st'=st
   ·exact has_putI hD (.inr c)
   ·rw [(write_st c x).2] at ho
    exact has_putI hD (.inl (h.opens st' hst' ho))
  ·exact has_putI hD (.inl (h.slots d' k' st' dm' hs))
 ·exact .inr ⟨r3.elim (fun e=>absurd e hy) id,fun e=>hy (r4 e).1,_,.inr (gw_write (Gle.refl g) hne),r1⟩
theorem Oi.wrT {pl:Nat} {t e:Stt} {D' U':Set0} (h:Oi A t.S t.o g D U) (hl:Ld A t.S g) (hD:IsMap D) (hU:IsMap U) (hst:st<A.St) (hdm:dm<A.M) (hne:dm≠pm A.M st) (hcl:Maps.has D (.int .i64 st)=false) (hx:Sh.Sec x) (hpl:plM A.M st dm=pl)
  (hW:WrT A.n A.L A.s A.M (A.at st) st dm pl (pm A.M st) x D U t y e D' U'):WOut A t.S g D' U' st dm x y e:=by
 have hok:=h.fi.ci.ok
 have har:=h.fi.ci.ar
 cases hW with
 | io h1 h2 =>
  have e1:=h.fi.ci.dead st dm hst hdm h1
  have e2:=h.fi.ci.dead st _ hst (pm_lt har st) h2
  exact absurd (hok.lack st dm _ hst hdm (pm_lt har st) e1 e2) hne
 | data y z S2 h1 h2 hw=>exact h.alone hl hD hst hdm hne hcl hx hdm (.inl ⟨rfl,h2⟩) h1 (by rw [write_dm];exact hw)
 | par y e D' U' h1 h2 hw =>
  have hlk:=h.fi.ci.dead st dm hst hdm h1
  obtain ⟨p1,p2⟩:=tog_neither (s:=A.s) (k:=A.at st) (st:=st) h.fi.on (hok.sum st hst) (fun m hm=>hok.sec st m hst hm) hdm (pm_lt har st) hne fun m hm n1 _=>(h.fi.now st hst m hm).elim id fun e=>absurd (hok.lack st m dm hst hm hdm e.1 hlk) n1
  cases hw with
  | lack h0=>exact absurd p1 h0
  | done y z S2 h0 hw =>
   have hsm:=tog_same (s:=A.s) (M:=A.M) (k:=A.at st) (st:=st) (S:=t.S) (tk:=tkNeither dm (pm A.M st)) A.M
   have hdd:=fun e=>dead_same hsm e
   rw [p2] at hw
   have:=(h.same hsm).alone (y:=y) (z:=z) (S':=S2) (x:=x) (hl.dead hdd) hD hst hdm hne hcl hx (pm_lt har st) (.inr ⟨rfl,(hdd _).trans h1⟩) ((hdd _).trans h2) (by rw [write_pm hne];exact hw)
   obtain ⟨w1,w2⟩:=this
   exact ⟨fun d=>(w1 d).trans (hdd d),w2⟩
 | both y e D' U' h1 h2 hw=>exact h.wb hl hD hU hst hdm hne hcl h1 h2 hx hpl hw
theorem tog_offs {s:SuP} {M k st:Nat} {tk:Nat->Bool} (hoff:S.off≠false) {a:Nat} (ha:a<M) (ht:tk a=true):(tog s M k st tk S M).2.2=3:=by
 have hr:∀j,rdY (tog s M k st tk S j).1 (numOf s M st j) k=3:=fun j=>by
  rw [(tog_same (s:=s) (M:=M) (k:=k) (st:=st) (S:=S) (tk:=tk) j).rdY]
  unfold rdY
  rw [off_why hoff,if_neg (by decide)]
 have step:∀j,(tog s M k st tk S j).2.2=0->tk j=true->(tog s M k st tk S (j+1)).2.2=3:=fun j h0 hj=>by
  rw [tog_take h0 hj]
  show (if _ then _ else _)=_
  rw [hr j,if_neg (by decide),if_neg (by decide)]
 have all:∀j,(tog s M k st tk S j).2.2=0\/(tog s M k st tk S j).2.2=3:=by
  intro j
  induction j with
  | zero=>exact .inl rfl
  | succ j ih =>
   by_cases h1:(tog s M k st tk S j).2.2=0
   ·cases hj:tk j
    ·rw [tog_skip hj];exact ih
    ·exact .inr (step j h1 hj)
   ·rw [tog_stop h1 (Nat.le_succ j)];exact ih
 by_cases h0:(tog s M k st tk S a).2.2=0
 ·have h1:=step a h0 ht
  rw [tog_stop (j:=a+1) (by rw [h1];decide) (by omega)]
  exact h1
 ·rw [tog_stop h0 (Nat.le_of_lt ha)]
  exact (all a).elim (fun e=>absurd e h0) id
theorem third {M a b:Nat} (h3:3<=M):∃m,m<M/\tkNeither a b m=true:=by
 unfold tkNeither
 by_cases h0:0≠a/\0≠b
 ·exact ⟨0,by omega,by simpa using h0⟩
 ·by_cases h1:1≠a/\1≠b
  ·exact ⟨1,by omega,by simpa using h1⟩
  ·exact ⟨2,by omega,by simp;omega⟩
theorem Ci.wrOff {pl:Nat} {t e:Stt} {D' U':Set0} (h:Ci A t.S t.o g) (hoff:t.S.off≠false) (hst:st<A.St) (hdm:dm<A.M) (hne:dm≠pm A.M st) (hW:WrT A.n A.L A.s A.M (A.at st) st dm pl (pm A.M st) x D U t y e D' U'):y=3/\Same t.S e.S:=by
 obtain ⟨a,ha,hta⟩:=third (a:=dm) (b:=pm A.M st) h.ar.m3
 have ht:(tog A.s A.M (A.at st) st (tkNeither dm (pm A.M st)) t.S A.M).2.2=3:=tog_offs hoff ha hta
 cases hW with
 | io h1 h2=>exact absurd (h.ok.lack st dm _ hst hdm (pm_lt h.ar st) (h.dead st dm hst hdm h1) (h.dead st _ hst (pm_lt h.ar st) h2)) hne
 | data y z S2 h1 h2 hw =>
  rcases hw with ⟨_,rfl,_,rfl⟩ | ⟨h0,_⟩
  ·exact ⟨off_why hoff _,Same.refl _⟩
  ·rw [off_why hoff] at h0;exact absurd h0 (by decide)
 | par y e D' U' h1 h2 hw =>
  cases hw with
  | lack h0=>exact ⟨ht,tog_same _⟩
  | done y z S2 h0 hw=>rw [ht] at h0;exact absurd h0 (by decide)
 | both y e D' U' h1 h2 hw =>
  have hp:(partR A.s A.M (A.at st) st dm (pm A.M st) t.S).2.2=3:=by
   unfold partR
   rw [if_pos (by rw [ht];decide)]
   exact ht
  cases hw with
  | lack h0=>exact ⟨hp,partR_same⟩
  | recd y a1 D1 U1 h0=>rw [hp] at h0;exact absurd h0 (by decide)
  | data y a1 D1 U1 z S2 h0=>rw [hp] at h0;exact absurd h0 (by decide)
  | both y a1 D1 U1 z z3 S2 S3 h0=>rw [hp] at h0;exact absurd h0 (by decide)
theorem me_ok {M m:Nat} (h3:3<=M):meOf M m<M/\meOf M m≠pm M (stOf M m)/\plM M (stOf M m) (meOf M m)=plOf M m/\paOf M m=pm M (stOf M m):=by
 have hp:L.par M (stOf M m)<M:=L.par_lt _ _ (by omega)
 have hpl:plOf M m<M-1:=Nat.mod_lt _ (by omega)
 have hlt:meOf M m<M:=L.memAt_lt _ _ _ (by omega)
 have h1:=(L.mem_place M (L.par M (stOf M m)) (meOf M m) (plOf M m) hp hlt (by omega)).1 rfl
 refine ⟨hlt,fun e=>?_,h1.symm,rfl⟩
 have h2:=(L.mem_place M (L.par M (stOf M m)) (L.par M (stOf M m)) (M-1) hp hp (by omega)).1 (L.memAt_last _ _ hp)
 have e:meOf M m=L.par M (stOf M m):=e
 rw [e,<- h2] at h1
 omega
theorem st_lt {M St m:Nat} (h3:3<=M) (h:m<St*(M-1)):stOf M m<St:=(Nat.div_lt_iff_lt_mul (by omega)).2 h
theorem Oi.write {m:Nat} {e:Stt} {D' U':Set0} (h:Oi A S o g D U) (hl:Ld A S g) (hD:IsMap D) (hU:IsMap U) (hm:m<A.St*(A.M-1)) (hx:Sh.Sec x) (hW:WrR A.n A.L A.s A.M A.St (m:Int) x D U S o y e D' U') :
  (∀d,Dead e.S d=Dead S d)/\((y=0/\∃g',Gw A.M g' g (stOf A.M m) (meOf A.M m) x/\Ci A e.S e.o g'/\(e.S.off=false->Oi A e.S e.o g' D' U')) \/
  (y=3/\e.S.off≠false/\∃g',(Gle g' g\/Gw A.M g' g (stOf A.M m) (meOf A.M m) x)/\Ci A e.S e.o g')):=by
 have har:=h.fi.ci.ar
 obtain ⟨w1,w2,w3,w4⟩:=me_ok (M:=A.M) (m:=m) har.m3
 have hst:=st_lt har.m3 hm
 have key:∀{t:Stt} {D1 U1:Set0} {g1:Gh},(∀d,Dead t.S d=Dead S d)->Gle g1 g->Oi A t.S t.o g1 D1 U1->Ld A t.S g1->IsMap D1->IsMap U1->Maps.has D1 (.int .i64 (stOf A.M m))=false->WrT A.n A.L A.s A.M (2+2*A.L+stOf A.M m) (stOf A.M m) (meOf A.M m) (plOf A.M m) (paOf A.M m) x D1 U1 t y e D' U' ->
   (∀d,Dead e.S d=Dead S d)/\((y=0/\∃g',Gw A.M g' g (stOf A.M m) (meOf A.M m) x/\Ci A e.S e.o g'/\(e.S.off=false->Oi A e.S e.o g' D' U'))\/(y=3/\e.S.off≠false/\∃g',(Gle g' g\/Gw A.M g' g (stOf A.M m) (meOf A.M m) x)/\Ci A e.S e.o g')):=by
  intro t D1 U1 g1 hdd hg h1 hl1 hD1 hU1 hcl hw
  obtain ⟨r1,r2⟩:=h1.wrT hl1 hD1 hU1 hst w1 w2 hcl hx w3 hw
  have hgw:∀{g'},Gw A.M g' g1 (stOf A.M m) (meOf A.M m) x->Gw A.M g' g (stOf A.M m) (meOf A.M m) x:=fun q=>⟨q.lack.trans hg.lack,q.dat,fun st' m' hn=>by rw [q.rest st' m' hn,hg.dat],fun st' hn z hz=>hg.op st' z (q.op st' hn z hz),fun dm' old e=>by
   obtain ⟨e1,e2⟩:=q.opst dm' old e
   exact ⟨e1,by rw [e2,hg.dat]⟩⟩
  refine ⟨fun d=>(r1 d).trans (hdd d),r2.imp ?_ ?_⟩
  ·rintro ⟨e1,g',e2,e3,e4⟩
   exact ⟨e1,g',hgw e2,e3,e4⟩
  ·rintro ⟨e1,e2,g',e3,e4⟩
   exact ⟨e1,e2,g',e3.imp (fun q=>q.trans hg) hgw,e4⟩
 have hin:∀{m':Nat},(m:Int)=(m':Int)->m'=m:=fun e=>by omega
 cases hW with
 | refused h0 =>
  exfalso
  unfold refY hasB at h0
  rw [h.fi.on,decide_eq_true (⟨by omega,by omega⟩:0<=(m:Int)/\(m:Int)<((A.St*(A.M-1):Nat):Int))] at h0
  exact h0 rfl
 | flush m' y t D1 U1 e1 e2 e3 hh hF hy =>
  obtain rfl:=hin e1
  obtain ⟨q1,q2⟩:=h.fi.flush hF
  rcases q2 with ⟨e,_⟩ | ⟨r1,r2,g',r3,r4⟩
  ·exact absurd e hy
  ·exact ⟨q1,.inr ⟨r1,r2,g',.inl r3,r4⟩⟩
 | after m' t D1 U1 y e D' U' e1 e2 e3 hh hF hw =>
  obtain rfl:=hin e1
  obtain ⟨q1,q2⟩:=h.fi.flush hF
  rcases q2 with ⟨_,rfl,rfl,r3,r4⟩ | ⟨r1,_⟩
  ·by_cases hon:t.S.off=false
   ·exact key q1 (gle_closed g) (r4 hon) (fun st m h1 h2 h3=>(q1 _).trans (hl st m h1 h2 h3)) isMap_empty isMap_empty rfl hw
   ·-- the power went behind the flush: nothing is written
    obtain ⟨v1,v2⟩:=r3.wrOff hon hst w1 w2 hw
    exact ⟨fun d=>(dead_same v2 d).trans (q1 d),.inr ⟨v1,fun e2=>hon (v2.off.symm.trans e2),g.closed,.inl (gle_closed g),by
     have:=r3.same v2
     obtain ⟨eS,eo⟩:=e
     exact ⟨this.ar,this.ok,fun d h1 h2=>(this.disk d h1 h2).off_any (fun e2=>hon (v2.off.symm.trans e2)) _,this.dead,this.rc,this.len,this.fit,this.sec⟩⟩⟩
  ·exact absurd r1 (by decide)
 | first m' y e D' U' e1 e2 e3 hh hw =>
  obtain rfl:=hin e1
  exact key (t:=⟨S,o⟩) (fun _=>rfl) (Gle.refl g) h hl hD hU hh hw
end
section
variable {A:Ar} {S S':Sh.Sf} {o:Nat->Int} {g g':Gh} {D U:Set0} {d k st dm:Nat} {y z:Int} {b x X:Sh.Bs} {t:Stt}
theorem Fi.readT (h:Fi A S o g U) (hl:Ld A S g) (hst:st<A.St) (hdm:dm<A.M) (hR:RdT A.s A.M (A.at st) st dm S o y X t) :
  y=0/\X=g.dat st dm/\Same S t.S/\t.o=o:=by
 have hok:=h.ci.ok
 have hn:=h.now st hst dm hdm
 have h4:rdY S (A.num st dm) (A.at st)=4\/rdY S (A.num st dm) (A.at st)=5->seen S (A.num st dm) (A.at st)=none/\g.lack st dm/\rdY S (A.num st dm) (A.at st)=4:=by
  intro e
  rcases rdY_seen h.on (A.num st dm) (A.at st) with ⟨e0,_⟩ | ⟨_,e1⟩
  ·rw [e0] at e
   exact absurd e (by decide)
  ·rcases hn with e2 | ⟨e2,_⟩
   ·rw [e1] at e2;cases e2
   ·refine ⟨e1,e2,?_⟩
    have hd:=hl st dm hst hdm e2
    unfold rdY
    rw [dead_why hd h.on]
    rfl
 have hsh:g.lack st dm->(shouldR A.s A.M (A.at st) st dm S).2.2=0/\(shouldR A.s A.M (A.at st) st dm S).2.1=g.dat st dm/\Same S (shouldR A.s A.M (A.at st) st dm S).1:=by
  intro e
  have hs0:=(Same.refl S).looked (A.num st dm)
  have hlk:∀m,m<A.M->m≠dm->seen (Looked S (A.num st dm)) (numOf A.s A.M st m) (A.at st)=some (g.dat st m):=fun m hm hne=>by
   rw [seen_same hs0]
   exact (h.now st hst m hm).elim id fun e2=>absurd (hok.lack st m dm hst hm hdm e2.1 e) hne
  obtain ⟨p1,p2⟩:=tog_not (s:=A.s) (k:=A.at st) (st:=st) (hs0.off.trans h.on) (hok.sum st hst) (fun m hm=>hok.sec st m hst hm) hdm hlk
  exact ⟨p1,p2,hs0.trans (tog_same (s:=A.s) (M:=A.M) (k:=A.at st) (st:=st) (S:=Looked S (A.num st dm)) (tk:=tkNot dm) A.M)⟩
 cases hR with
 | plain h0 =>
  rcases rdY_seen h.on (A.num st dm) (A.at st) with ⟨e0,e1⟩ | ⟨e0,_⟩
  ·refine ⟨e0,?_,(Same.refl S).looked _,rfl⟩
   rcases hn with e2 | ⟨_,e2⟩
   ·rw [e1] at e2
    injection e2
   ·rw [e1] at e2;cases e2
  ·exact absurd e0 h0
 | lack h0 h1=>exact absurd (hsh (h4 h0).2.1).1 h1
 | dead h0 h1 =>
  obtain ⟨q1,q2,q3⟩:=hsh (h4 (.inl h0)).2.1
  exact ⟨rfl,q2,q3,rfl⟩
 | bad z x S2 h0 =>
  have:=(h4 (.inr h0)).2.2
  have h0:rdY S (A.num st dm) (A.at st)=5:=h0
  rw [h0] at this
  exact absurd this (by decide)
 | mend x S2 h0 =>
  have:=(h4 (.inr h0)).2.2
  have h0:rdY S (A.num st dm) (A.at st)=5:=h0
  rw [h0] at this
  exact absurd this (by decide)
theorem Oi.read {m:Nat} (h:Oi A S o g D U) (hl:Ld A S g) (hm:m<A.St*(A.M-1)) (hR:RdR A.L A.s A.M A.St (m:Int) S o y X t) :
  y=0/\X=g.dat (stOf A.M m) (meOf A.M m)/\(∀d,Dead t.S d=Dead S d)/\Oi A t.S t.o g D U:=by
 have har:=h.fi.ci.ar
 obtain ⟨w1,w2,w3,w4⟩:=me_ok (M:=A.M) (m:=m) har.m3
 have hst:=st_lt har.m3 hm
 cases hR with
 | refused h0 =>
  exfalso
  unfold refY hasB at h0
  rw [h.fi.on,decide_eq_true (⟨by omega,by omega⟩:0<=(m:Int)/\(m:Int)<((A.St*(A.M-1):Nat):Int))] at h0
  exact h0 rfl
 | there m' y X t e1 e2 e3 hT =>
  obtain rfl:m'=m:=by omega
  obtain ⟨q1,q2,q3,q4⟩:=h.fi.readT hl hst w1 hT
  refine ⟨q1,q2,fun d=>dead_same q3 d,?_⟩
  rw [q4]
  exact h.same q3
end
section
variable {B:Nat} {W w w':World} {p n:Nat} {S:Sh.Sf} {F:Nat->Prop}
end
section
variable {A:Ar} {S S':Sh.Sf} {o:Nat->Int} {g g':Gh} {D U:Set0} {d k st dm:Nat} {y z:Int} {b x old:Sh.Bs} {c:Nat->Option Sh.Bs}
def Told (A:Ar) (S:Sh.Sf) (g:Gh) (st:Nat):Prop :=
 ∀m,m<A.M->Dead S (A.num st m)=false->(m≠pm A.M st\/g.op st=none\/∀dm old,g.op st=some (dm,old)->Dead S (A.num st dm)=true)->vo S (A.num st m) (A.at st)=some (g.dat st m)
/-! ### what is no record is none -/
end
section
variable {A:Ar} {S S0 S':Sh.Sf} {o:Nat->Int} {g g':Gh} {D U U':Set0} {d k st dm:Nat} {y z:Int} {b x old h q:Sh.Bs} {c e:Stt} {l:List (Nat × Nat)}
end
section
variable {A:Ar} {S S0 S':Sh.Sf} {o:Nat->Int} {g g':Gh} {D U U':Set0} {d k st dm:Nat} {y z:Int} {b x old h q:Sh.Bs} {c e:Stt} {l:List (Nat × Nat)}
/-! ### what the disks say -/
def saidOf (s:SuP) (d:Nat):SuP:={ s with disk:=(d:Int) }
structure Said (A:Ar):Prop where
 q:∀d c0 c1,A.Q d c0 c1->c0=some Sh.noughts/\c1=some (Go.Proofs.YtcnjpmcelihknaaGreatDoor.S.encL (saidOf A.s d).nums)
 gen:A.s.gen=1
 right:∀d,d<A.n->(saidOf A.s d).right=true
 mem:A.s.mem=(A.M:Int)
 str:A.s.str=(A.St:Int)
 logs:A.s.logs=(A.L:Int)
 fit:Fit A.n A.s
 m16:A.M<=16
 st1:1<=A.St
theorem okD_noughts:Go.Proofs.YtcnjpmcelihknaaGreatDoor.S.okD Sh.noughts=false:=by decide
end
section
variable {A:Ar} {S S0 S':Sh.Sf} {o:Nat->Int} {g g':Gh} {D U U':Set0} {d k st dm:Nat} {y z:Int} {b x old h q:Sh.Bs} {c e t:Stt} {l:List (Nat × Nat)}
end
def Pw (S:Sh.Sf):Prop:=S.off=false/\S.left=0
section
variable {S S':Sh.Sf} {o:Nat->Int} {d k:Nat} {y z:Int} {b:Sh.Bs} {D U D' U':Set0} {a e t:Stt}
theorem Pw.wr (h:Pw S) (d n:Nat) (b:Sh.Bs):Pw (Wr S d n b):=by
 unfold Wr
 split
 ·refine ⟨?_,?_⟩
  ·show Sh.offAt S.left S.off=false
   unfold Sh.offAt
   rw [h.2,if_pos rfl];exact h.1
  ·show S.left-1=0
   rw [h.2]
 ·exact h
theorem Pw.fl (h:Pw S) (d:Nat):Pw (Fl S d):=by
 unfold Fl
 split
 ·refine ⟨?_,?_⟩
  ·show Sh.offAt S.left S.off=false
   unfold Sh.offAt
   rw [h.2,if_pos rfl];exact h.1
  ·show S.left-1=0
   rw [h.2]
 ·exact h
theorem Pw.same (h:Pw S) (hs:Same S S'):Pw S':=⟨hs.off.trans h.1,hs.left.trans h.2⟩
theorem Pw.looked (h:Pw S) (d:Nat):Pw (Looked S d):=h.same ((Same.refl S).looked d)
theorem Pw.fli (h:Pw S) (d:Nat) (o:Int) (k:Nat):Pw (flIf S d o k):=by
 unfold flIf
 split
 ·exact h.fl d
 ·exact h
theorem Pw.spi (h:Pw S) (d k:Nat) (g:Bool) (s sum:Nat) (b:Sh.Bs):Pw (spIf S d k g s sum b):=by
 unfold spIf
 split
 ·first
  | exact (h.wr _ _ _).fl d
  | exact h.wr _ _ _
 ·exact h
theorem Pw.ready (h:Pw S) (d:Nat) (o:Int) (k:Nat) (b b':Sh.Bs):Pw (Ready S d o k b b'):=by
 unfold Ready ReadyQ
 exact (((((h.looked d).fli d o k).spi d k _ _ _ b')).wr _ _ _).fl d
theorem Pw.dw {o y o':Int} (h:Pw S) (hD:DW S d o k b y o' S'):Pw S':=by
 rcases hD with ⟨_,_,_,rfl⟩ | ⟨_,b',R,_,rfl,_,_,_,_,rfl⟩
 ·exact h
 ·exact (h.ready d o k b b').wr _ _ _
theorem Pw.fds (h:Pw S):∀n,Pw (fdS S n).1
 | 0=>h
 | n+1=>by
  unfold fdS
  split
  ·exact (h.fds n).fl n
  ·exact h.fds n
theorem Pw.clrStep {x:Nat × Nat} {c e:Stt} (h:Pw c.S) (hC:ClrStep U x c y e):Pw e.S:=by
 rcases hC with ⟨_,_,rfl⟩ | ⟨_,z,z',hD,_,_⟩
 ·exact h
 ·exact h.dw hD
theorem Pw.clrSteps {l:List (Nat × Nat)} {c e:Stt} (hC:ClrSteps U l c e) (h:Pw c.S):Pw e.S:=by
 induction hC with
 | nil=>exact h
 | snoc _ h2 ih=>exact (ih h).clrStep h2
theorem Pw.clrR {n L:Nat} {c e:Stt} (h:Pw c.S) (hC:ClrR n L U c y e):Pw e.S:=by
 rcases hC with ⟨_,h1⟩ | ⟨_,_,_,_,_,_,h1,h2⟩
 ·exact Pw.clrSteps h1 h
 ·exact (Pw.clrSteps h1 h).clrStep h2
theorem Pw.flR {n L:Nat} (h:Pw S) (hF:FlR n L D U S y e D' U'):Pw e.S:=by
 cases hF with
 | first o' _=>exact h.fds n
 | slots o1 y b _ _ hC _=>exact Pw.clrR (c:=⟨_,_⟩) (h.fds n) hC
 | again o1 o' b _ _ hC _=>exact (Pw.clrR (c:=⟨_,_⟩) (h.fds n) hC).fds n
 | none o' _ _=>exact h.fds n
 | all o1 o' b _ _ hC _=>exact (Pw.clrR (c:=⟨_,_⟩) (h.fds n) hC).fds n
end
section
variable {S S':Sh.Sf} {o:Nat->Int} {d k:Nat} {y z:Int} {b:Sh.Bs} {D U D' U':Set0} {a e t:Stt}
theorem Pw.putR {o1 z1 o2:Int} {l hd:Sh.Bs} (h:Pw S) (hP:PutR S d o1 k l hd z1 o2 S'):Pw S':=by
 obtain ⟨y1,o1,S1,h1,⟨_,_,_,rfl⟩ | ⟨_,h2⟩⟩:=hP
 ·exact h.dw h1
 ·exact (h.dw h1).dw h2
theorem Pw.recTail {l hd:Sh.Bs} (h:Pw a.S) (hR:RecTail d k l hd a D U y e D' U'):Pw e.S:=by
 obtain ⟨_,_,z,o1,S1,h1,⟨_,_,rfl⟩ | ⟨_,_,rfl⟩⟩:=hR
 ·exact h.putR h1
 ·exact (h.putR h1).fl d
theorem Pw.recR {n L:Nat} {l hd:Sh.Bs} (h:Pw a.S) (hR:RecR n L d l hd a D U y e D' U'):Pw e.S:=by
 rcases hR with ⟨_,h1⟩ | ⟨_,y1,a1,D1,U1,hF,⟨_,_,rfl,_,_⟩ | ⟨_,h1⟩⟩
 ·exact h.recTail h1
 ·exact h.flR hF
 ·exact (h.flR hF).recTail h1
theorem Pw.wpR {s:SuP} {M st m p:Nat} {x:Sh.Bs} (h:Pw S) (hW:WpR s M k st m p x D U S o y e D' U'):Pw e.S:=by
 cases hW with
 | lack _=>exact h.same (tog_same _)
 | done y z S2 _ hD=>exact (h.same (tog_same _)).dw hD
theorem Pw.wbR {n L:Nat} {s:SuP} {M st m pl p:Nat} {x:Sh.Bs} (h:Pw S) (hW:WbR n L s M k st m pl p x D U S o y e D' U'):Pw e.S:=by
 have hp:Pw (partR s M k st m p S).1:=h.same partR_same
 cases hW with
 | lack _=>exact hp
 | recd y a1 D1 U1 _ hR _=>exact Pw.recR (a:=⟨_,_⟩) hp hR
 | data y a1 D1 U1 z S2 _ hR hD _=>exact (Pw.recR (a:=⟨_,_⟩) hp hR).dw hD
 | both y a1 D1 U1 z z3 S2 S3 _ hR hD hE=>exact ((Pw.recR (a:=⟨_,_⟩) hp hR).dw hD).dw hE
theorem Pw.wrT {n L:Nat} {s:SuP} {M st m pl p:Nat} {x:Sh.Bs} (h:Pw t.S) (hW:WrT n L s M k st m pl p x D U t y e D' U'):Pw e.S:=by
 cases hW with
 | io _ _=>exact h
 | data y z S2 _ _ hD=>exact h.dw hD
 | par y e D1 U1 _ _ hP=>exact h.wpR hP
 | both y e D1 U1 _ _ hB=>exact h.wbR hB
theorem Pw.wrR {n L M St:Nat} {s:SuP} {i:Int} {x:Sh.Bs} (h:Pw S) (hW:WrR n L s M St i x D U S o y e D' U'):Pw e.S:=by
 cases hW with
 | refused _=>exact h
 | flush m y t D1 U1 _ _ _ _ hF _=>exact h.flR hF
 | after m t D1 U1 y e D2 U2 _ _ _ _ hF hT=>exact (h.flR hF).wrT hT
 | first m y e D1 U1 _ _ _ _ hT=>exact Pw.wrT (t:=⟨_,_⟩) h hT
theorem Pw.rdR {L M St:Nat} {s:SuP} {i:Int} {X:Sh.Bs} (h:Pw S) (hR:RdR L s M St i S o y X t):Pw t.S:=by
 cases hR with
 | refused _=>exact h
 | there m y X t _ _ _ hT =>
  have hs:∀{M k st me:Nat},Pw (shouldR s M k st me S).1:=(h.looked _).same (tog_same _)
  cases hT with
  | plain _=>exact h.looked _
  | lack _ _=>exact hs
  | dead _ _=>exact hs
  | bad z x S2 _ _ hD _=>exact hs.dw hD
  | mend x S2 _ _ hD=>exact hs.dw hD
end
def gh0:Gh:=⟨fun _ _=>Sh.noughts,fun _=>none,fun _ _=>none,fun _ _=>false,fun _ _=>False⟩
def arOf (s:SuP) (n L M St:Nat):Ar:=⟨s,n,L,M,St,fun d c0 c1=>c0=some Sh.noughts/\c1=some (Go.Proofs.YtcnjpmcelihknaaGreatDoor.S.encL (saidOf s d).nums)⟩
theorem sec_shelf {w:World} {p:Nat} {S:Sh.Sf} {F:Nat->Prop} (h:Sh.Shelf w p S F):SecS S:=by
 obtain ⟨D,gs,q⟩:=h
 intro x hx
 obtain ⟨i,hi,rfl⟩:=List.mem_iff_getElem.1 hx
 have hd:=q.disk i _ (List.getElem?_eq_getElem hi)
 exact ⟨hd.secs,fun y hy=>(hd.fits y hy).2,hd.len⟩
theorem xf_zero (tk:Nat->Bool):∀M,xf (fun _=>Sh.noughts.getD 0 0) tk M=0
 | 0=>rfl
 | M+1=>by
  unfold xf
  rw [xf_zero tk M]
  split<;>rfl
theorem sumZ_0 (M:Nat):SumZ M (fun _=>Sh.noughts):=fun i hi=>by
 have e:(fun (_:Nat)=>Sh.noughts.getD i 0)=fun _=>Sh.noughts.getD 0 0:=by
  funext _
  rw [noughts_at,noughts_at]
 show xf (fun (_:Nat)=>Sh.noughts.getD i 0) _ M=0
 rw [e]
 exact xf_zero _ M
section
variable {S:Sh.Sf} {o:Nat->Int} {n sc M St L:Nat}
theorem said_new (m3:3<=M) (m16:M<=16) (s1:1<=St) (s2:St<=1024) (l1:1<=L) (l2:L<=8) (hn:n=M\/n=M+1):Said (arOf (newSaid M St L) n L M St) :=
 ⟨fun _ _ _ h=>h,rfl,fun d hd=>said_right m3 m16 s1 s2 l1 l2 (by have hd:d<n:=hd;omega),rfl,rfl,rfl,by
  show ((n:Int)=(M:Int)/\(-1:Int)=-1)\/(n:Int)=(M:Int)+1
  omega,m16,s1⟩
theorem Born.ci {w:World} {p:Nat} {F:Nat->Prop} (h:Born S n sc M St L o) (hw:Sh.Shelf w p S F) (m3:3<=M) (m16:M<=16) (s2:St<=1024) (l1:1<=L) (l2:L<=8) (hn:n=M\/n=M+1) (hb:2+2*L+St<=blk sc) :
  Oi (arOf (newSaid M St L) n L M St) S o gh0 noSet noSet/\Pw S/\∀d,d<n->Dead S d=false:=by
 have hnum:∀st m,(arOf (newSaid M St L) n L M St).num st m=m:=fun st m=>by
  show numOf (newSaid M St L) M st m=m
  unfold numOf
  exact if_neg fun e=>by
   have e1:(m:Int)=-1:=e.1
   omega
 have har:ArOk (arOf (newSaid M St L) n L M St):=⟨m3,l1,by show n<=17;omega,l2,s2,fun st m hm=>by rw [hnum];show m<n;have hm:m<M:=hm;omega,fun st m m' _ _ e=>by rw [hnum,hnum] at e;exact e⟩
 have hpw:Pw S:=by
  have:=h.calm 0 (by omega)
  exact ⟨this.on,this.left⟩
 have hal:∀d,d<n->Dead S d=false:=fun d hd=>(h.calm d hd).alive
 have hv:∀d,d<n->Jp2 S d (o d) (fun c=>c=vo S d)/\∀j,j<blk sc->vo S d j=some (if j=1 then Go.Proofs.YtcnjpmcelihknaaGreatDoor.S.encL (saidOf (newSaid M St L) d).nums else Sh.noughts):=fun d hd=>by
  obtain ⟨j1,j2,j3⟩:=h.disk d hd
  obtain ⟨k1,k2⟩:=j1.jp2 hpw.1 j3 (o d)
  refine ⟨k1,fun j hj=>?_⟩
  rw [k2 j (by rw [h.sectors];exact hj),j2]
  unfold upd saidOf
  by_cases e:j=1
  ·rw [if_pos e,if_pos e]
  ·rw [if_neg e,if_neg e]
   exact congrArg some (V_new (m:=n) (n:=sc) hd (sum_of_lt hj).1)
 have hp:∀d,d<n->Pd (arOf (newSaid M St L) n L M St) gh0 d (vo S d):=fun d hd=>by
  have hq:∀j,j<blk sc->j≠1->vo S d j=some Sh.noughts:=fun j hj e=>by rw [(hv d hd).2 j hj,if_neg e]
  refine ⟨fun st hst m _ _=>.inl (hq _ ?_ ?_),fun k hk=>.inl ⟨rfl,hq _ ?_ (by omega)⟩,fun k hk=>?_,hq 0 (by omega) (by decide),(hv d hd).2 1 (by omega)⟩
  ·show 2+2*L+st<_
   have hst:st<St:=hst
   omega
  ·show 2+2*L+st≠1
   omega
  ·have hk:k<L:=hk
   omega
  ·have hk:k<L:=hk
   rw [hq _ (by omega) (by omega)];simp
 have hci:Ci (arOf (newSaid M St L) n L M St) S o gh0 :=
  ⟨har,⟨fun _ _=>sumZ_0 M,fun _ _ _ _=>Sh.noughts_sec,(fun _ _ _ e=>by cases e),(fun _ _ _ _ e=>by cases e),(fun _ _ _ _ _ _ e=>e.elim)⟩,fun d hd _=>(hv d hd).1.more fun c hc=>by rw [hc];exact hp d hd,
   (fun st m _ hm e=>by rw [hal _ (har.num st m hm)] at e;cases e),(fun _ _ _ e=>by cases e),h.len,by rw [h.sectors];exact hb,sec_shelf hw⟩
 refine ⟨⟨Fi.of hci hpw.1 (fun st m hst hm _=>?_) (fun _ _ _ _ e=>absurd rfl e),(fun _ _ e=>absurd rfl e),(fun _ _ _ _ e=>by cases e)⟩,hpw,hal⟩
 have hd:=har.num st m hm
 rw [(hv _ hd).2 _ (by show 2+2*L+st<_;have hst:st<St:=hst;omega),if_neg (by show 2+2*L+st≠1;omega)]
 rfl
end
end Go.Proofs.YtcnjpmcelihknaaGreatDoor.U
