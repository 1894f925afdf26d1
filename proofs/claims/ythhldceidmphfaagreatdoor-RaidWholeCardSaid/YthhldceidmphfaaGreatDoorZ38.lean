/-
  What the statement's proof rests on, part 38.
  Conditions: each theorem's own.
-/
import Derived.Test.YthhldceidmphfaaGreatDoorZ37
namespace Go.Proofs.YthhldceidmphfaaGreatDoor.U
open Go.RowKit Go.Maps
def Ar.as (A:Ar) (d:Nat):Ar:={ A with s:=saidOf A.s d }
structure Gm (M:Nat) (g' g:Gh):Prop where
 lack:g'.lack=g.lack
 dat:∀st m,m≠pm M st→g'.dat st m=g.dat st m∨g.op st=some (m,g'.dat st m)
 op:∀st dm old,g'.op st=some (dm,old)→old=g.dat st dm∨g.op st=some (dm,old)
theorem Gr.gm {M:Nat} {g' g:Gh} (h:Gr M g' g):Gm M g' g:=by
 refine ⟨h.lack,fun st m hm=>?_,fun st dm old e=>?_⟩
 ·rcases h.each st with ⟨e,_⟩ | ⟨dm,old,e1,e2,_,e4⟩
  ·exact .inl (by rw [e])
  ·by_cases c:m=dm
   ·exact .inr (by rw [c,e2];exact e1)
   ·exact .inl (e4 m c hm)
 ·rcases h.each st with ⟨_,e1⟩ | ⟨dm',old',_,_,e3,_⟩
  ·exact .inr (by rw [← e1];exact e)
  ·rw [e3] at e
   injection e with e
   injection e with e1 e2
   exact .inl (by rw [← e1];exact e2.symm)
theorem Gm.gle {M:Nat} {g'' g' g:Gh} (h:Gm M g' g) (k:Gle g'' g'):Gm M g'' g :=
 ⟨k.lack.trans h.lack,fun st m hm=>by rw [k.dat];exact h.dat st m hm,fun st dm old e=>h.op st dm old (k.op st _ e)⟩
section
variable {A:Ar} {S S0 S':Sh.Sf} {o:Nat→Int} {g g':Gh} {D U U':Set0} {d k st dm:Nat} {y z:Int} {b x old h q:Sh.Bs} {c e t:Stt} {l:List (Nat × Nat)}
theorem Pd.as {c:Nat→Option Sh.Bs} {e:Nat} (h:Pd A g d c):Pd (A.as e) g d c:=⟨h.blk,h.slot,h.part,h.said⟩
theorem Ci.as {e:Nat} (h:Ci A S o g):Ci (A.as e) S o g :=
 ⟨⟨h.ar.m3,h.ar.l1,h.ar.n17,h.ar.l8,h.ar.s2,h.ar.num,h.ar.inj⟩,⟨h.ok.sum,h.ok.sec,h.ok.op,h.ok.sl,h.ok.lack⟩,fun d hd ha=>(h.disk d hd ha).more fun _ hc=>hc.as,h.dead,h.rc,h.len,h.fit,h.sec⟩
theorem Said.as {e:Nat} (h:Said A):Said (A.as e):=⟨h.q,h.gen,h.right,h.mem,h.str,h.logs,h.fit,h.m16,h.st1⟩
theorem Rest.opened (h:Rest A S g) (hl:Ld A S g) (hs:Said A) (hon:S.off=false) (hR:OpenR A.n S y t) :
  ∃d0 g',d0<A.n∧newestOf (sayTo S A.n 0)=saidOf A.s d0∧Gm A.M g' g∧(∀d,Dead t.S d=Dead S d) ∧
   ((y=0∧Ci (A.as d0) t.S t.o g'∧(∀st,g'.op st=none)∧(t.S.off=false→Oi (A.as d0) t.S t.o g' noSet noSet))∨(y=3∧t.S.off≠false∧Ci (A.as d0) t.S t.o g')):=by
 obtain ⟨hne,d0,hd0,hnw⟩:=h.newest hs hon
 have hslot:slotOf (saidOf A.s d0)=1:=by
  show (A.s.gen%2).toNat=1
  rw [hs.gen];rfl
 have hlg:(saidOf A.s d0).logs.toNat=A.L:=by show A.s.logs.toNat=_;rw [hs.logs];rfl
 have hmm:(saidOf A.s d0).mem.toNat=A.M:=by show A.s.mem.toNat=_;rw [hs.mem];rfl
 have hst:(saidOf A.s d0).str.toNat=A.St:=by show A.s.str.toNat=_;rw [hs.str];rfl
 -- the stripes are told,and records that are none are none
 obtain ⟨g1,t1,t2,t3,t4,_⟩:=h.ci.tellAll hl hon A.St (Nat.le_refl _)
 have t5:=(t1.strip hon h.quiet).as (e:=d0)
 have hg2:Gm A.M (g1.strip S) g:=t4.gm.gle ⟨rfl,fun _ _ e=>e,rfl⟩
 have hl2:Ld (A.as d0) S (g1.strip S):=fun st m a b e=>hl st m a b (by rw [← t4.lack];exact e)
 have i0:Rpi (A.as d0) S (g1.strip S) [] ⟨S,fun _=>-1⟩ noSet :=
  ⟨t5,hon,fun _=>rfl,fun st hst=>t2 st hst,fun d k _ _ e=>by
   cases hx:(g1.strip S).sl d k with
   | none=>exact absurd hx e
   | some q=>exact (strip_sl hx).2,(fun _ _ _ _ _ _ _ _ e=>by cases e),(fun _ _ e=>by cases e),isMap_empty⟩
 have hag:∀{S1:Sh.Sf} {z:Int} {b:Stt},Same S S1→AgR A.n (saidOf A.s d0) 1 ⟨S1,fun _=>-1⟩ z b→z=0∧Same S b.S∧b.o=fun _=>-1:=fun hss hr=>by
  obtain ⟨r1,r2,r3⟩:=(h.same hss).agree (a:=⟨_,fun _=>-1⟩) hs (hss.off.trans hon) hr
  exact ⟨r1,hss.trans r2,r3⟩
 have hrp:∀{b t:Stt} {z:Int} {U:Set0},Same S b.S→b.o=(fun _=>-1)→RplR A.n A.L (saidOf A.s d0) A.M A.St b noSet z t U →
   (∀d,Dead t.S d=Dead S d)∧Ci (A.as d0) t.S t.o (g1.strip S)∧((z=0∧(t.S.off=false→Fi (A.as d0) t.S t.o (g1.strip S) U))∨(z=3∧t.S.off≠false)):=fun {b} {t} {z} {U} hss ho hr=>by
  have i1:=i0.same (S':=b.S) hss
  have hb:(⟨b.S,fun _=>-1⟩:Stt)=b:=by rw [← ho]
  have i1:Rpi (A.as d0) S (g1.strip S) [] ⟨b.S,fun _=>-1⟩ noSet:=i1
  rw [hb] at i1
  exact i1.all hl2 hs.m16 hr
 cases hR with
 | off h0=>exact absurd hon h0
 | none S1 _ _ h0=>exact absurd h0 hne
 | agree S1 y b _ hss _ hr hy =>
  rw [hnw,hslot] at hr
  exact absurd (hag hss hr).1 hy
 | replay S1 b y t U _ hss _ hr hp hy =>
  rw [hnw,hslot] at hr
  rw [hnw,hlg,hmm,hst] at hp
  obtain ⟨_,a2,a3⟩:=hag hss hr
  obtain ⟨p1,p2,p3⟩:=hrp a2 a3 hp
  rcases p3 with ⟨p3,_⟩ | ⟨p3,p4⟩
  ·exact absurd p3 hy
  ·exact ⟨d0,_,hd0,hnw,hg2,p1,.inr ⟨p3,p4,p2⟩⟩
 | flush S1 b t U y e D' U' _ hss _ hr hp hf =>
  rw [hnw,hslot] at hr
  rw [hnw,hlg,hmm,hst] at hp
  rw [hnw,hlg] at hf
  obtain ⟨_,a2,a3⟩:=hag hss hr
  obtain ⟨p1,p2,p3⟩:=hrp a2 a3 hp
  rcases p3 with ⟨_,p3⟩ | ⟨p3,_⟩
  ·by_cases hton:t.S.off=false
   ·have hfi:=p3 hton
    obtain ⟨q1,q2⟩:=hfi.flush hf
    have hdd:=fun d=>(q1 d).trans (p1 d)
    rcases q2 with ⟨r1,_,_,r2,r3⟩ | ⟨r1,r2,g3,r3,r4⟩
    ·exact ⟨d0,_,hd0,hnw,hg2.gle (gle_closed _),hdd,.inl ⟨r1,r2,fun _=>rfl,r3⟩⟩
    ·exact ⟨d0,g3,hd0,hnw,hg2.gle r3,hdd,.inr ⟨r1,r2,r4⟩⟩
   ·-- the power went with the last block that was replayed
    have h3:=fdS_off hton p2.n1
    have h3:fdS t.S A.n=(t.S,3):=h3
    have off:∀{o':Nat→Int},Ci (A.as d0) t.S o' (g1.strip S):=⟨p2.ar,p2.ok,fun d x1 x2=>(p2.disk d x1 x2).off_any hton _,p2.dead,p2.rc,p2.len,p2.fit,p2.sec⟩
    cases hf with
    | first o' h0 =>
     rw [h3]
     exact ⟨d0,_,hd0,hnw,hg2,p1,.inr ⟨rfl,hton,off⟩⟩
    | none o' h0 _=>exact absurd ((congrArg Prod.snd h3).symm.trans h0) (show ¬(3:Int)=0 by decide)
    | slots o1 y b h0 _ _ _=>exact absurd ((congrArg Prod.snd h3).symm.trans h0) (show ¬(3:Int)=0 by decide)
    | again o1 o' b h0 _ _ _=>exact absurd ((congrArg Prod.snd h3).symm.trans h0) (show ¬(3:Int)=0 by decide)
    | all o1 o' b h0 _ _ _=>exact absurd ((congrArg Prod.snd h3).symm.trans h0) (show ¬(3:Int)=0 by decide)
  ·exact absurd p3 (by decide)
end
def Pw (S:Sh.Sf):Prop:=S.off=false∧S.left=0
section
variable {S S':Sh.Sf} {o:Nat→Int} {d k:Nat} {y z:Int} {b:Sh.Bs} {D U D' U':Set0} {a e t:Stt}
theorem Pw.wr (h:Pw S) (d n:Nat) (b:Sh.Bs):Pw (Wr S d n b):=by
 unfold Wr
 split
 ·refine ⟨?_,?_⟩
  ·show Sh.offAt S.left S.off=false
   unfold Sh.offAt
   rw [h.2,if_pos rfl];exact h.1
  ·show S.left-1=0
   rw [h.2]
 ·exact h
theorem Pw.fl (h:Pw S) (d:Nat):Pw (Fl S d):=by
 unfold Fl
 split
 ·refine ⟨?_,?_⟩
  ·show Sh.offAt S.left S.off=false
   unfold Sh.offAt
   rw [h.2,if_pos rfl];exact h.1
  ·show S.left-1=0
   rw [h.2]
 ·exact h
theorem Pw.same (h:Pw S) (hs:Same S S'):Pw S':=⟨hs.off.trans h.1,hs.left.trans h.2⟩
theorem Pw.looked (h:Pw S) (d:Nat):Pw (Looked S d):=h.same ((Same.refl S).looked d)
theorem Pw.fli (h:Pw S) (d:Nat) (o:Int) (k:Nat):Pw (flIf S d o k):=by
 unfold flIf
 split
 ·exact h.fl d
 ·exact h
theorem Pw.spi (h:Pw S) (d k:Nat) (g:Bool) (s sum:Nat) (b:Sh.Bs):Pw (spIf S d k g s sum b):=by
 unfold spIf
 split
 ·first
  | exact (h.wr _ _ _).fl d
  | exact h.wr _ _ _
 ·exact h
theorem Pw.ready (h:Pw S) (d:Nat) (o:Int) (k:Nat) (b b':Sh.Bs):Pw (Ready S d o k b b'):=by
 unfold Ready ReadyQ
 exact (((((h.looked d).fli d o k).spi d k _ _ _ b')).wr _ _ _).fl d
theorem Pw.dw {o y o':Int} (h:Pw S) (hD:DW S d o k b y o' S'):Pw S':=by
 rcases hD with ⟨_,_,_,rfl⟩ | ⟨_,b',R,_,rfl,_,_,_,_,rfl⟩
 ·exact h
 ·exact (h.ready d o k b b').wr _ _ _
theorem Pw.fds (h:Pw S):∀n,Pw (fdS S n).1
 | 0=>h
 | n+1=>by
  unfold fdS
  split
  ·exact (h.fds n).fl n
  ·exact h.fds n
theorem Pw.clrStep {x:Nat × Nat} {c e:Stt} (h:Pw c.S) (hC:ClrStep U x c y e):Pw e.S:=by
 rcases hC with ⟨_,_,rfl⟩ | ⟨_,z,z',hD,_,_⟩
 ·exact h
 ·exact h.dw hD
theorem Pw.clrSteps {l:List (Nat × Nat)} {c e:Stt} (hC:ClrSteps U l c e) (h:Pw c.S):Pw e.S:=by
 induction hC with
 | nil=>exact h
 | snoc _ h2 ih=>exact (ih h).clrStep h2
theorem Pw.clrR {n L:Nat} {c e:Stt} (h:Pw c.S) (hC:ClrR n L U c y e):Pw e.S:=by
 rcases hC with ⟨_,h1⟩ | ⟨_,_,_,_,_,_,h1,h2⟩
 ·exact Pw.clrSteps h1 h
 ·exact (Pw.clrSteps h1 h).clrStep h2
theorem Pw.flR {n L:Nat} (h:Pw S) (hF:FlR n L D U S y e D' U'):Pw e.S:=by
 cases hF with
 | first o' _=>exact h.fds n
 | slots o1 y b _ _ hC _=>exact Pw.clrR (c:=⟨_,_⟩) (h.fds n) hC
 | again o1 o' b _ _ hC _=>exact (Pw.clrR (c:=⟨_,_⟩) (h.fds n) hC).fds n
 | none o' _ _=>exact h.fds n
 | all o1 o' b _ _ hC _=>exact (Pw.clrR (c:=⟨_,_⟩) (h.fds n) hC).fds n
theorem Pw.sur {o y o':Int} (h:Pw S) (hS:SuR S d o k b y o' S'):Pw S':=by
 obtain ⟨_,_,_,h1,⟨_,_,_,rfl⟩ | ⟨_,_,_,rfl⟩⟩:=hS
 ·exact h.dw h1
 ·exact (h.dw h1).fl d
theorem Pw.agStep {x:Go.Proofs.YthhldceidmphfaaGreatDoor.S.Sup} (h:Pw a.S) (hA:AgStep x k d a y e):Pw e.S:=by
 cases hA with
 | says S1 _ hs _ _=>exact h.same hs
 | other S1 z o' S' hs _ hu=>exact (h.same hs).sur hu
theorem Pw.agSteps {x:Go.Proofs.YthhldceidmphfaaGreatDoor.S.Sup} {j:Nat} (hA:AgSteps x k j a e) (h:Pw a.S):Pw e.S:=by
 induction hA with
 | nil=>exact h
 | snoc _ h2 ih=>exact (ih h).agStep h2
theorem Pw.agR {n:Nat} {x:Go.Proofs.YthhldceidmphfaaGreatDoor.S.Sup} (h:Pw a.S) (hA:AgR n x k a y e):Pw e.S:=by
 rcases hA with ⟨_,h1⟩ | ⟨_,_,_,_,h1,h2⟩
 ·exact Pw.agSteps h1 h
 ·exact (Pw.agSteps h1 h).agStep h2
theorem Pw.mkS (h:Pw S) (hM:MkS S o d k b y e):Pw e.S:=by
 rcases hM with ⟨_,_,_,rfl⟩ | ⟨_,z,S',hD,rfl⟩
 ·exact h.looked d
 ·exact (h.looked d).dw hD
theorem Pw.redo {LL M St nr rs rp:Nat} {s:Go.Proofs.YthhldceidmphfaaGreatDoor.S.Sup} {l:Sh.Bs} (h:Pw S) (hR:RedoR LL s M St nr rs rp l S o y e):Pw e.S:=by
 cases hR with
 | beyond _=>exact h
 | other _ _ _=>exact h
 | lack _ _ _ _=>exact h.looked _
 | done y t _ _ _ _ hm=>exact (h.looked _).mkS hm
theorem Pw.rp {LL M St:Nat} {s:Go.Proofs.YthhldceidmphfaaGreatDoor.S.Sup} (h:Pw S) (hR:RpR LL s M St U S o d k y e U'):Pw e.S:=by
 cases hR with
 | got S1 y t hs _ hr=>exact (h.same hs).redo hr
 | bad S1 hs _=>exact h.same hs
 | none S1 hs _=>exact h.same hs
 | no S1 hs _ _ _ _=>exact h.same hs
theorem Pw.rpSteps {LL M St:Nat} {s:Go.Proofs.YthhldceidmphfaaGreatDoor.S.Sup} {l:List (Nat × Nat)} (hR:RpSteps LL s M St l a U e U') (h:Pw a.S):Pw e.S:=by
 induction hR with
 | nil=>exact h
 | snoc _ h2 ih=>exact (ih h).rp h2
theorem Pw.rplR {n LL M St:Nat} {s:Go.Proofs.YthhldceidmphfaaGreatDoor.S.Sup} (h:Pw a.S) (hR:RplR n LL s M St a U y e U'):Pw e.S:=by
 rcases hR with ⟨_,h1⟩ | ⟨_,_,_,_,_,_,_,h1,h2⟩
 ·exact Pw.rpSteps h1 h
 ·exact (Pw.rpSteps h1 h).rp h2
theorem Pw.openR {n:Nat} (h:Pw S) (hR:OpenR n S y t):Pw t.S:=by
 cases hR with
 | off _=>exact h
 | none S1 _ hs _=>exact h.same hs
 | agree S1 y b _ hs _ hr _=>exact Pw.agR (a:=⟨_,_⟩) (h.same hs) hr
 | replay S1 b y t U _ hs _ hr hp _=>exact (Pw.agR (a:=⟨_,_⟩) (h.same hs) hr).rplR hp
 | flush S1 b t U y e D' U' _ hs _ hr hp hf=>exact ((Pw.agR (a:=⟨_,_⟩) (h.same hs) hr).rplR hp).flR hf
theorem pw_crash (S:Sh.Sf) (ks:List (List Int)):Pw (S.crash ks):=⟨rfl,rfl⟩
end
def gh0:Gh:=⟨fun _ _=>Sh.noughts,fun _=>none,fun _ _=>none,fun _ _=>false,fun _ _=>False⟩
def arOf (s:Go.Proofs.YthhldceidmphfaaGreatDoor.S.Sup) (n L M St:Nat):Ar:=⟨s,n,L,M,St,fun d c0 c1=>c0=some Sh.noughts∧c1=some (Go.Proofs.YthhldceidmphfaaGreatDoor.S.encL (saidOf s d).nums)⟩
theorem sec_shelf {w:World} {p:Nat} {S:Sh.Sf} {F:Nat→Prop} (h:Sh.Shelf w p S F):SecS S:=by
 obtain ⟨D,gs,q⟩:=h
 intro x hx
 obtain ⟨i,hi,rfl⟩:=List.mem_iff_getElem.1 hx
 have hd:=q.disk i _ (List.getElem?_eq_getElem hi)
 exact ⟨hd.secs,fun y hy=>(hd.fits y hy).2,hd.len⟩
theorem xf_zero (tk:Nat→Bool):∀M,xf (fun _=>Sh.noughts.getD 0 0) tk M=0
 | 0=>rfl
 | M+1=>by
  unfold xf
  rw [xf_zero tk M]
  split<;>rfl
theorem sumZ_0 (M:Nat):SumZ M (fun _=>Sh.noughts):=fun i hi=>by
 have e:(fun (_:Nat)=>Sh.noughts.getD i 0)=fun _=>Sh.noughts.getD 0 0:=by
  funext _
  rw [noughts_at,noughts_at]
 show xf (fun (_:Nat)=>Sh.noughts.getD i 0) _ M=0
 rw [e]
 exact xf_zero _ M
section
variable {S:Sh.Sf} {o:Nat→Int} {n sc M St L:Nat}
theorem said_new (m3:3≤M) (m16:M≤16) (s1:1≤St) (s2:St≤1024) (l1:1≤L) (l2:L≤8) (hn:n=M∨n=M+1):Said (arOf (newSaid M St L) n L M St) :=
 ⟨fun _ _ _ h=>h,rfl,fun d hd=>said_right m3 m16 s1 s2 l1 l2 (by have hd:d<n:=hd;omega),rfl,rfl,rfl,by
  show ((n:Int)=(M:Int)∧(-1:Int)=-1)∨(n:Int)=(M:Int)+1
  omega,m16,s1⟩
theorem Born.ci {w:World} {p:Nat} {F:Nat→Prop} (h:Born S n sc M St L o) (hw:Sh.Shelf w p S F) (m3:3≤M) (m16:M≤16) (s2:St≤1024) (l1:1≤L) (l2:L≤8) (hn:n=M∨n=M+1) (hb:2+2*L+St≤blk sc) :
  Oi (arOf (newSaid M St L) n L M St) S o gh0 noSet noSet∧Pw S∧∀d,d<n→Dead S d=false:=by
 have hnum:∀st m,(arOf (newSaid M St L) n L M St).num st m=m:=fun st m=>by
  show numOf (newSaid M St L) M st m=m
  unfold numOf
  exact if_neg fun e=>by
   have e1:(m:Int)=-1:=e.1
   omega
 have har:ArOk (arOf (newSaid M St L) n L M St):=⟨m3,l1,by show n≤17;omega,l2,s2,fun st m hm=>by rw [hnum];show m<n;have hm:m<M:=hm;omega,fun st m m' _ _ e=>by rw [hnum,hnum] at e;exact e⟩
 have hpw:Pw S:=by
  have:=h.calm 0 (by omega)
  exact ⟨this.on,this.left⟩
 have hal:∀d,d<n→Dead S d=false:=fun d hd=>(h.calm d hd).alive
 have hv:∀d,d<n→Jp2 S d (o d) (fun c=>c=vo S d)∧∀j,j<blk sc→vo S d j=some (if j=1 then Go.Proofs.YthhldceidmphfaaGreatDoor.S.encL (saidOf (newSaid M St L) d).nums else Sh.noughts):=fun d hd=>by
  obtain ⟨j1,j2,j3⟩:=h.disk d hd
  obtain ⟨k1,k2⟩:=j1.jp2 hpw.1 j3 (o d)
  refine ⟨k1,fun j hj=>?_⟩
  rw [k2 j (by rw [h.sectors];exact hj),j2]
  unfold upd saidOf
  by_cases e:j=1
  ·rw [if_pos e,if_pos e]
  ·rw [if_neg e,if_neg e]
   exact congrArg some (V_new (m:=n) (n:=sc) hd (sum_of_lt hj).1)
 have hp:∀d,d<n→Pd (arOf (newSaid M St L) n L M St) gh0 d (vo S d):=fun d hd=>by
  have hq:∀j,j<blk sc→j≠1→vo S d j=some Sh.noughts:=fun j hj e=>by rw [(hv d hd).2 j hj,if_neg e]
  refine ⟨fun st hst m _ _=>.inl (hq _ ?_ ?_),fun k hk=>.inl ⟨rfl,hq _ ?_ (by omega)⟩,fun k hk=>?_,hq 0 (by omega) (by decide),(hv d hd).2 1 (by omega)⟩
  ·show 2+2*L+st<_
   have hst:st<St:=hst
   omega
  ·show 2+2*L+st≠1
   omega
  ·have hk:k<L:=hk
   omega
  ·have hk:k<L:=hk
   rw [hq _ (by omega) (by omega)];simp
 have hci:Ci (arOf (newSaid M St L) n L M St) S o gh0 :=
  ⟨har,⟨fun _ _=>sumZ_0 M,fun _ _ _ _=>Sh.noughts_sec,(fun _ _ _ e=>by cases e),(fun _ _ _ _ e=>by cases e),(fun _ _ _ _ _ _ e=>e.elim)⟩,fun d hd _=>(hv d hd).1.more fun c hc=>by rw [hc];exact hp d hd,
   (fun st m _ hm e=>by rw [hal _ (har.num st m hm)] at e;cases e),(fun _ _ _ e=>by cases e),h.len,by rw [h.sectors];exact hb,sec_shelf hw⟩
 refine ⟨⟨Fi.of hci hpw.1 (fun st m hst hm _=>?_) (fun _ _ _ _ e=>absurd rfl e),(fun _ _ e=>absurd rfl e),(fun _ _ _ _ e=>by cases e)⟩,hpw,hal⟩
 have hd:=har.num st m hm
 rw [(hv _ hd).2 _ (by show 2+2*L+st<_;have hst:st<St:=hst;omega),if_neg (by show 2+2*L+st≠1;omega)]
 rfl
end
end Go.Proofs.YthhldceidmphfaaGreatDoor.U
