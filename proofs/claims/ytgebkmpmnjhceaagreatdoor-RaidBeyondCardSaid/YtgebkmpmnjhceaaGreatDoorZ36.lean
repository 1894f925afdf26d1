/-
  What the statement's proof rests on, part 36.
  Conditions: each theorem's own.
-/
import Derived.Test.YtgebkmpmnjhceaaGreatDoorZ34
import Derived.Test.YtgebkmpmnjhceaaGreatDoorZ35
import Derived.Test.YtgebkmpmnjhceaaGreatDoorZ33
open Go.Proofs.YtgebkmpmnjhceaaGreatDoor.S renaming Sup → SuP
namespace Go.Proofs.YtgebkmpmnjhceaaGreatDoor.U
open Go.RowKit Go.Maps
section
variable {A:Ar} {S S':Sh.Sf} {o:Nat->Int} {D U D' U':Set0} {wr wr':Nat->List Sh.Bs} {d k m st:Nat} {y z:Int} {b x X:Sh.Bs} {c:Nat->Option Sh.Bs} {t e:Stt}
theorem rdY_is (S:Sh.Sf) (d k:Nat):rdY S d k=0\/rdY S d k=3\/rdY S d k=4\/rdY S d k=5:=by
 unfold rdY Sh.why
 by_cases h1:S.off=true
 ·rw [if_pos h1];simp
 ·rw [if_neg h1]
  by_cases h2:(S.disks.getD d default).dead=true
  ·rw [if_pos h2];simp
  ·rw [if_neg h2]
   by_cases h3:goodAt S d k=true<;>simp [h3]
theorem tog_y (s:SuP) (M k st:Nat) (tk:Nat->Bool) (S:Sh.Sf):∀j,(tog s M k st tk S j).2.2=0\/(tog s M k st tk S j).2.2=3\/(tog s M k st tk S j).2.2=10
 | 0=>.inl rfl
 | j+1=>by
  by_cases h0:(tog s M k st tk S j).2.2=0
  ·by_cases ht:tk j=true
   ·rw [tog_take h0 ht]
    show (if _ then _ else _)=(0:Int)\/_
    rcases rdY_is (tog s M k st tk S j).1 (numOf s M st j) k with e | e | e | e<;>rw [e]<;>simp
   ·rw [tog_skip (by simpa using ht)]
    exact .inl h0
  ·rw [tog_stop h0 (Nat.le_succ j)]
   exact tog_y s M k st tk S j
theorem tog_secS {s:SuP} {M st n:Nat} {tk:Nat->Bool} (hs:SecS S) (hn:∀m,m<M->numOf s M st m<S.disks.length) (hk:k<blk S.sectors):∀j,j<=M->Sh.Sec (tog s M k st tk S j).2.1
 | 0,_=>Sh.noughts_sec
 | j+1,hj=>by
  have ih:=tog_secS (tk:=tk) (n:=n) hs hn hk j (by omega)
  by_cases h0:(tog s M k st tk S j).2.2=0
  ·by_cases ht:tk j=true
   ·rw [tog_take h0 ht]
    have hsm:=tog_same (s:=s) (M:=M) (k:=k) (st:=st) (tk:=tk) (S:=S) j
    show Sh.Sec (if _ then _ else _)
    split
    ·exact xor_sec ih ((hs.same hsm).V (by rw [hsm.len];exact hn j (by omega)) (by rw [hsm.sectors];exact (sum_of_lt hk).1))
    ·exact ih
   ·rw [tog_skip (by simpa using ht)]
    exact ih
  ·rw [tog_stop h0 (Nat.le_succ j)]
   exact ih
theorem Wk.togSec (h:Wk A S o wr) (hst:st<A.St) (tk:Nat->Bool):Sh.Sec (tog A.s A.M (A.at st) st tk S A.M).2.1 :=
 tog_secS (n:=0) h.sec (fun m hm=>by rw [h.len];exact h.ar.num st m hm) (h.at_lt hst) A.M (Nat.le_refl _)
theorem part_y (s:SuP) (M k st a b:Nat) (S:Sh.Sf):(partR s M k st a b S).2.2=0\/(partR s M k st a b S).2.2=3\/(partR s M k st a b S).2.2=10:=by
 unfold partR
 split<;>exact tog_y _ _ _ _ _ _ _
theorem Wk.partSec (h:Wk A S o wr) (hst:st<A.St) (a b:Nat):Sh.Sec (partR A.s A.M (A.at st) st a b S).2.1:=by
 unfold partR
 split
 ·exact h.togSec hst _
 ·exact (h.same (tog_same A.M)).togSec hst _
def Wo (A:Ar) (S:Sh.Sf) (wr:Nat->List Sh.Bs) (y:Int) (e:Stt):Prop:=Wk A e.S e.o wr/\(y=0\/y=3\/y=10)/\∀d,Dead e.S d=Dead S d
theorem Wk.dwd (h:Wk A S o wr) (hm:m<A.St*(A.M-1)) (hd:A.num (stOf A.M m) (meOf A.M m)=d) (ha:Dead S d=false) (hb:Sh.Sec b) (hx:b∈wr m) (hD:DW S d (o d) (A.at (stOf A.M m)) b y z S') :
  Wk A S' (put1 o d z) wr/\(y=0\/y=3)/\∀e,Dead S' e=Dead S e:=by
 have h3:=h.ar.m3
 have hst:=st_lt h3 hm
 refine h.dw (by rw [<- hd];exact h.ar.num _ _ (me_ok h3).1) ha (h.at_lt hst) hb (fun c hc=>⟨hc.blk _ hst _ (me_ok h3).1 hd,hc.data_put h.ar hd hx⟩) hD
theorem Wk.dwp (h:Wk A S o wr) (hst:st<A.St) (hd:A.num st (pm A.M st)=d) (ha:Dead S d=false) (hb:Sh.Sec b) (hD:DW S d (o d) (A.at st) b y z S') :
  Wk A S' (put1 o d z) wr/\(y=0\/y=3)/\∀e,Dead S' e=Dead S e :=
 h.dw (by rw [<- hd];exact h.ar.num _ _ (pm_lt h.ar st)) ha (h.at_lt hst) hb (fun c hc=>⟨hc.blk _ hst _ (pm_lt h.ar st) hd,hc.par_put h.ar hd⟩) hD
theorem Wk.wrT {pl:Nat} (h:Wk A t.S t.o wr) (hm:m<A.St*(A.M-1)) (hx:Sh.Sec x) (hw:x∈wr m)
  (hW:WrT A.n A.L A.s A.M (A.at (stOf A.M m)) (stOf A.M m) (meOf A.M m) pl (pm A.M (stOf A.M m)) x D U t y e D' U'):Wo A t.S wr y e:=by
 have h3:=h.ar.m3
 have hst:=st_lt h3 hm
 obtain ⟨w1,w2,_,_⟩:=me_ok (M:=A.M) (m:=m) h3
 have up:∀{y:Int} {e:Stt},Wk A e.S e.o wr/\(y=0\/y=3)/\(∀d,Dead e.S d=Dead t.S d)->Wo A t.S wr y e:=fun ⟨a,b,c⟩=>⟨a,b.imp id .inl,c⟩
 cases hW with
 | io _ _=>exact ⟨h,.inr (.inr rfl),fun _=>rfl⟩
 | data y z S2 ha _ hD=>exact up (e:=⟨S2,_⟩) (h.dwd hm rfl ha hx hw hD)
 | par y e D' U' _ hb hW =>
  cases hW with
  | lack h0 =>
   have hs:=tog_same (s:=A.s) (M:=A.M) (k:=A.at (stOf A.M m)) (st:=stOf A.M m) (tk:=tkNeither (meOf A.M m) (pm A.M (stOf A.M m))) (S:=t.S) A.M
   exact ⟨h.same hs,tog_y _ _ _ _ _ _ _,dead_same hs⟩
  | done y z S2 h0 hD =>
   have hs:=tog_same (s:=A.s) (M:=A.M) (k:=A.at (stOf A.M m)) (st:=stOf A.M m) (tk:=tkNeither (meOf A.M m) (pm A.M (stOf A.M m))) (S:=t.S) A.M
   obtain ⟨j1,j2,j3⟩:=(h.same hs).dwp hst rfl ((dead_same hs _).trans hb) (xor_sec (h.togSec hst _) hx) hD
   exact up (e:=⟨S2,_⟩) ⟨j1,j2,fun d=>(j3 d).trans (dead_same hs d)⟩
 | both y e D' U' ha hb hW =>
  have hs:=partR_same (s:=A.s) (M:=A.M) (k:=A.at (stOf A.M m)) (st:=stOf A.M m) (a:=meOf A.M m) (b:=pm A.M (stOf A.M m)) (S:=t.S)
  have h1:=h.same hs
  have hds:=dead_same hs
  have hps:=h.partSec hst (meOf A.M m) (pm A.M (stOf A.M m))
  have hrec:∀{y:Int} {a1:Stt} {D1 U1:Set0} {pl:Nat},RecR A.n A.L (numOf A.s A.M (stOf A.M m) (pm A.M (stOf A.M m))) (partR A.s A.M (A.at (stOf A.M m)) (stOf A.M m) (meOf A.M m) (pm A.M (stOf A.M m)) t.S).2.1 (headL (numF (stOf A.M m) pl (Nums.sum 0 (partR A.s A.M (A.at (stOf A.M m)) (stOf A.M m) (meOf A.M m) (pm A.M (stOf A.M m)) t.S).2.1))) ⟨(partR A.s A.M (A.at (stOf A.M m)) (stOf A.M m) (meOf A.M m) (pm A.M (stOf A.M m)) t.S).1,t.o⟩ D U y a1 D1 U1 ->
    Wk A a1.S a1.o wr/\(y=0\/y=3)/\∀d,Dead a1.S d=Dead t.S d:=fun hR=>by
   obtain ⟨j1,j2,j3⟩:=Wk.record (a:=⟨_,t.o⟩) h1 (h.ar.num _ _ (pm_lt h.ar _)) ((hds _).trans hb) hps ⟨headL_length _,headL_small _⟩ hR
   exact ⟨j1,j2,fun d=>(j3 d).trans (hds d)⟩
  cases hW with
  | lack h0=>exact ⟨h1,part_y _ _ _ _ _ _ _,hds⟩
  | recd y a1 D1 U1 _ hR _=>exact up (hrec hR)
  | data y a1 D1 U1 z S2 _ hR hD _ =>
   obtain ⟨j1,_,j3⟩:=hrec hR
   obtain ⟨k1,k2,k3⟩:=j1.dwd hm rfl ((j3 _).trans ha) hx hw hD
   exact up (e:=⟨S2,_⟩) ⟨k1,k2,fun d=>(k3 d).trans (j3 d)⟩
  | both y a1 D1 U1 z z3 S2 S3 _ hR hD hE =>
   obtain ⟨j1,_,j3⟩:=hrec hR
   obtain ⟨k1,_,k3⟩:=j1.dwd hm rfl ((j3 _).trans ha) hx hw hD
   obtain ⟨l1,l2,l3⟩:=k1.dwp hst rfl ((k3 _).trans ((j3 _).trans hb)) (xor_sec hps hx) hE
   exact up (e:=⟨S3,_⟩) ⟨l1,l2,fun d=>(l3 d).trans ((k3 d).trans (j3 d))⟩
theorem has_in {M St:Nat} (hm:m<St*(M-1)):hasB M St (m:Int)=true:=decide_eq_true ⟨by omega,by omega⟩
theorem Wk.write (h:Wk A S o wr) (hm:m<A.St*(A.M-1)) (hx:Sh.Sec x) (hw:x∈wr m) (hW:WrR A.n A.L A.s A.M A.St (m:Int) x D U S o y e D' U'):Wo A S wr y e:=by
 have h3:=h.ar.m3
 obtain ⟨_,_,w3,w4⟩:=me_ok (M:=A.M) (m:=m) h3
 cases hW with
 | refused h0 =>
  refine ⟨h,?_,fun _=>rfl⟩
  rw [has_in hm]
  unfold refY
  rw [if_pos rfl]
  split
  ·exact .inr (.inl rfl)
  ·exact .inl rfl
 | flush m' y t D1 U1 _ _ _ _ hF _ =>
  obtain ⟨i1,i2,i3⟩:=h.flush hF
  exact ⟨i1,i2.imp id .inl,i3⟩
 | after m' t D1 U1 y e D' U' e1 _ _ _ hF hT =>
  obtain rfl:m'=m:=by omega
  obtain ⟨i1,_,i3⟩:=h.flush hF
  rw [w4] at hT
  obtain ⟨j1,j2,j3⟩:=i1.wrT hm hx hw hT
  exact ⟨j1,j2,fun d=>(j3 d).trans (i3 d)⟩
 | first m' y e D' U' e1 _ _ _ hT =>
  obtain rfl:m'=m:=by omega
  rw [w4] at hT
  exact Wk.wrT (t:=⟨S,o⟩) h hm hx hw hT
def Two (A:Ar) (S:Sh.Sf):Prop:=∀st,st<A.St->∃a b,a<A.M/\b<A.M/\a≠b/\Dead S (A.num st a)=true/\Dead S (A.num st b)=true
theorem Two.dead (h:Two A S) (hd:∀d,Dead S' d=Dead S d):Two A S':=fun st hst=>by
 obtain ⟨a,b,h1,h2,h3,h4,h5⟩:=h st hst
 exact ⟨a,b,h1,h2,h3,(hd _).trans h4,(hd _).trans h5⟩
theorem Wk.readAny (h:Wk A S o wr) (hon:S.off=false) (hm:m<A.St*(A.M-1)) (hR:RdR A.L A.s A.M A.St (m:Int) S o y X t) :
  Same S t.S/\t.o=o/\((y=0/\X∈wr m)\/((y=10\/y=3)/\X=[])\/(Dead S (A.num (stOf A.M m) (meOf A.M m))=true/\(shouldR A.s A.M (A.at (stOf A.M m)) (stOf A.M m) (meOf A.M m) S).2.2=0)):=by
 have h3:=h.ar.m3
 have hst:=st_lt h3 hm
 obtain ⟨w1,w2,_,_⟩:=me_ok (M:=A.M) (m:=m) h3
 cases hR with
 | refused h0 =>
  exfalso
  rw [has_in hm] at h0
  unfold refY at h0
  rw [if_pos rfl,hon] at h0
  exact h0 rfl
 | there m' y X t e1 _ _ hT =>
  obtain rfl:m'=m:=by omega
  have hnl:rdY S (A.num (stOf A.M m') (meOf A.M m')) (A.at (stOf A.M m'))≠5:=fun e=>by
   by_cases ha:Dead S (A.num (stOf A.M m') (meOf A.M m'))=false
   ·rcases rdY_seen hon (A.num (stOf A.M m') (meOf A.M m')) (A.at (stOf A.M m')) with ⟨q,_⟩ | ⟨_,q⟩
    ·rw [q] at e;cases e
    ·rw [seen_alive ha hon] at q
     exact (h.good (h.ar.num _ _ w1) ha hon).blk _ hst _ w1 rfl q
   ·have hw:=dead_why (by simpa using ha) hon
    unfold rdY at e
    rw [hw] at e;cases e
  have hdead:rdY S (A.num (stOf A.M m') (meOf A.M m')) (A.at (stOf A.M m'))=4->Dead S (A.num (stOf A.M m') (meOf A.M m'))=true:=fun e=>by
   by_cases ha:Dead S (A.num (stOf A.M m') (meOf A.M m'))=false
   ·have hw:=alive_why ha hon
    unfold rdY at e
    rw [if_pos hw] at e
    split at e<;>cases e
   ·simpa using ha
  have hlk:=Same.looked (Same.refl S) (numOf A.s A.M (stOf A.M m') (meOf A.M m'))
  have hs:Same S (shouldR A.s A.M (A.at (stOf A.M m')) (stOf A.M m') (meOf A.M m') S).1:=hlk.trans (tog_same A.M)
  have hy:(shouldR A.s A.M (A.at (stOf A.M m')) (stOf A.M m') (meOf A.M m') S).2.2=0\/(shouldR A.s A.M (A.at (stOf A.M m')) (stOf A.M m') (meOf A.M m') S).2.2=3\/(shouldR A.s A.M (A.at (stOf A.M m')) (stOf A.M m') (meOf A.M m') S).2.2=10:=tog_y _ _ _ _ _ _ _
  cases hT with
  | plain hno =>
   refine ⟨Same.looked (Same.refl S) _,rfl,.inl ?_⟩
   rcases rdY_seen hon (A.num (stOf A.M m') (meOf A.M m')) (A.at (stOf A.M m')) with ⟨q1,q2⟩ | ⟨q,_⟩
   ·refine ⟨q1,?_⟩
    have ha:Dead S (A.num (stOf A.M m') (meOf A.M m'))=false:=by
     by_cases ha:Dead S (A.num (stOf A.M m') (meOf A.M m'))=false
     ·exact ha
     ·rw [seen_dead (by simpa using ha)] at q2;cases q2
    rw [seen_alive ha hon] at q2
    obtain ⟨v,hv,e⟩:=(h.good (h.ar.num _ _ w1) ha hon).dat m' hm rfl
    rw [q2] at e
    cases e
    exact hv
   ·exact absurd q hno
  | lack _ h0=>exact ⟨hs,rfl,.inr (.inl ⟨by rcases hy with e | e | e;exact absurd e h0;exact .inr e;exact .inl e,rfl⟩)⟩
  | dead h4 h0=>exact ⟨hs,rfl,.inr (.inr ⟨hdead h4,h0⟩)⟩
  | bad z x S2 h5=>exact absurd h5 hnl
  | mend x S2 h5=>exact absurd h5 hnl
theorem Two.lacks (h2:Two A S) (hon:S.off=false) (hst:st<A.St) (me:Nat):(shouldR A.s A.M k st me S).2.2≠0:=by
 obtain ⟨a,b,ha,hb,hab,hda,hdb⟩:=h2.dead (dead_same (Same.looked (Same.refl S) (numOf A.s A.M st me))) _ hst
 have hon:(Looked S (numOf A.s A.M st me)).off=false:=(looked_off S _).1.trans hon
 have:(shouldR A.s A.M k st me S).2.2=10:=by
  by_cases e:a=me
  ·exact tog_lacks hon hb (by exact decide_eq_true (by rw [<- e];exact Ne.symm hab)) (seen_dead hdb _)
  ·exact tog_lacks hon ha (by exact decide_eq_true e) (seen_dead hda _)
 rw [this];decide
/-! ### all of it -/
structure By (A:Ar) (S:Sh.Sf) (o:Nat->Int) (D U:Set0) (wr:Nat->List Sh.Bs):Prop where
 wk:Wk A S o wr
 on:S.off=false->(∃g,Ld A S g/\MayOk A g wr/\Oi A S o g D U)\/Two A S
theorem MayOk.more {g:Gh} (h:MayOk A g wr) (hm:∀m v,v∈wr m->v∈wr' m):MayOk A g wr':=fun j hj=>⟨hm j _ (h j hj).1,fun old ho=>hm j _ ((h j hj).2 old ho)⟩
theorem push_in (wr:Nat->List Sh.Bs) (m:Nat) (x:Sh.Bs):x∈pushM wr m x m/\∀j v,v∈wr j->v∈pushM wr m x j:=by
 unfold pushM
 refine ⟨?_,fun j v hv=>?_⟩
 ·rw [if_pos rfl];exact List.mem_append_right _ (List.mem_singleton.2 rfl)
 ·split
  ·exact List.mem_append_left _ hv
  ·exact hv
theorem By.write (h:By A S o D U wr) (hD:IsMap D) (hU:IsMap U) (hm:m<A.St*(A.M-1)) (hx:Sh.Sec x) (hW:WrR A.n A.L A.s A.M A.St (m:Int) x D U S o y e D' U') :
  By A e.S e.o D' U' (pushM wr m x)/\(y=0\/y=3\/y=10):=by
 obtain ⟨h1,h2⟩:=push_in wr m x
 obtain ⟨j1,j2,j3⟩:=(h.wk.more h2).write hm hx h1 hW
 refine ⟨⟨j1,fun hon=>?_⟩,j2⟩
 by_cases ho:S.off=false
 ·rcases h.on ho with ⟨g,g1,g2,g3⟩ | ht
  ·have hld:∀{g':Gh},g'.lack=g.lack->Ld A e.S g':=fun hg st m a b c=>(j3 _).trans (g1 st m a b (by rw [<- hg];exact c))
   obtain ⟨_,q⟩:=g3.write g1 hD hU hm hx hW
   rcases q with ⟨_,g',e2,_,e4⟩ | ⟨_,e2,_⟩
   ·exact .inl ⟨g',hld e2.lack,g2.gw h.wk.ar.m3 e2,e4 hon⟩
   ·exact absurd hon e2
  ·exact .inr (ht.dead j3)
 ·obtain ⟨_,rfl,rfl,rfl⟩:=write_off ho (⟨by omega,by omega⟩:0<=(m:Int)/\(m:Int)<((A.St*(A.M-1):Nat):Int)) hW
  exact absurd hon ho
theorem By.flush (h:By A S o D U wr) (hF:FlR A.n A.L D U S y e D' U'):By A e.S e.o D' U' wr/\(y=0\/y=3):=by
 obtain ⟨j1,j2,j3⟩:=h.wk.flush hF
 refine ⟨⟨j1,fun hon=>?_⟩,j2⟩
 have ho:S.off=false:=by
  by_cases ho:S.off=false
  ·exact ho
  ·exfalso
   have h3:=fdS_off ho (show 1<=A.n by have:=h.wk.ar.num 0 0 (by have:=h.wk.ar.m3;omega);omega)
   cases hF with
   | first o' h0=>rw [h3] at hon;exact ho hon
   | none o' h0 _=>exact absurd ((congrArg Prod.snd h3).symm.trans h0) (show ¬(3:Int)=0 by decide)
   | slots o1 y b h0 _ _ _=>exact absurd ((congrArg Prod.snd h3).symm.trans h0) (show ¬(3:Int)=0 by decide)
   | again o1 o' b h0 _ _ _=>exact absurd ((congrArg Prod.snd h3).symm.trans h0) (show ¬(3:Int)=0 by decide)
   | all o1 o' b h0 _ _ _=>exact absurd ((congrArg Prod.snd h3).symm.trans h0) (show ¬(3:Int)=0 by decide)
 rcases h.on ho with ⟨g,g1,g2,g3⟩ | ht
 ·obtain ⟨_,q⟩:=g3.fi.flush hF
  rcases q with ⟨_,rfl,rfl,_,e4⟩ | ⟨_,e2,_⟩
  ·exact .inl ⟨g.closed,fun st m a b c=>(j3 _).trans (g1 st m a b c),g2.gle (gle_closed g),e4 hon⟩
  ·exact absurd hon e2
 ·exact .inr (ht.dead j3)
theorem By.read (h:By A S o D U wr) (hm:m<A.St*(A.M-1)) (hR:RdR A.L A.s A.M A.St (m:Int) S o y X t) :
  By A t.S t.o D U wr/\((y=0/\X∈wr m)\/((y=10\/y=3)/\X=[])):=by
 by_cases hon:S.off=false
 ·obtain ⟨hs,ho,hy⟩:=h.wk.readAny hon hm hR
  have hw:Wk A t.S t.o wr:=by rw [ho];exact h.wk.same hs
  rcases h.on hon with ⟨g,g1,g2,g3⟩ | ht
  ·obtain ⟨q1,q2,q3,q4⟩:=g3.read g1 hm hR
   exact ⟨⟨hw,fun _=>.inl ⟨g,fun st m a b c=>(q3 _).trans (g1 st m a b c),g2,q4⟩⟩,.inl ⟨q1,by rw [q2];exact (g2 m hm).1⟩⟩
  ·refine ⟨⟨hw,fun _=>.inr (ht.dead (dead_same hs))⟩,?_⟩
   rcases hy with e | e | ⟨_,e⟩
   ·exact .inl e
   ·exact .inr e
   ·exact absurd e (ht.lacks hon (st_lt h.wk.ar.m3 hm) _)
 ·cases hR with
  | refused h0 =>
   refine ⟨h,.inr ⟨.inr ?_,rfl⟩⟩
   rw [has_in hm]
   have:S.off=true:=by simpa using hon
   unfold refY
   rw [this];rfl
  | there m' y X t _ _ e3=>exact absurd e3 hon
theorem By.stop (h:By A S o D U wr) (n:Int):By A (S.doStop n) o D U wr :=
 ⟨h.wk.stop n,fun hon=>by
  rcases h.on (stop_on hon) with ⟨g,g1,g2,g3⟩ | ht
  ·exact .inl ⟨g,g1.dead (dead_stop S n),g2,g3.stop n hon⟩
  ·exact .inr (ht.dead (dead_stop S n))⟩
end
section
variable {A:Ar} {S S':Sh.Sf} {o:Nat->Int} {g:Gh} {D U D' U':Set0} {wr:Nat->List Sh.Bs} {d k m st e:Nat} {y z:Int} {b x X:Sh.Bs}
theorem Oi.killOut (h:Oi A S o g D U) (he:e<A.n) (hk:∀st m,st<A.St->m<A.M->A.num st m=e->Dead S e=true):Oi A (S.doKill e) o g D U:=by
 have hc:=h.fi.ci
 have hdk:=fun d=>dead_kill (S:=S) (d:=e) (by rw [hc.len];exact he) d
 have hal:∀d,Dead (S.doKill e) d=false->d≠e/\Dead S d=false:=fun d hd=>by
  rw [hdk d] at hd
  by_cases c:d=e
  ·rw [if_pos c] at hd;cases hd
  ·rw [if_neg c] at hd;exact ⟨c,hd⟩
 have hde:∀st m,st<A.St->m<A.M->Dead (S.doKill e) (A.num st m)=Dead S (A.num st m):=fun st m h1 h2=>by
  rw [hdk]
  by_cases c:A.num st m=e
  ·rw [if_pos c,c,hk st m h1 h2 c]
  ·rw [if_neg c]
 refine ⟨⟨⟨hc.ar,hc.ok,fun d hd hda=>(hc.disk d hd (hal d hda).2).kill (hal d hda).1,fun st m h1 h2 h3=>hc.dead st m h1 h2 (by rw [<- hde st m h1 h2];exact h3),fun st dm old h1 h2 h3=>hc.rc st dm old h1 (hal _ h2).2 (hal _ h3).2,by unfold Sh.Sf.doKill;simp [hc.len],hc.fit,hc.sec.kill (by rw [hc.len];exact he)⟩,h.fi.on,fun st hst m hm=>?_,h.fi.used⟩,h.opens,h.slots⟩
 have hn:=h.fi.now st hst m hm
 have hd0:=hde st m hst hm
 cases hd:Dead S (A.num st m)
 ·have hne:A.num st m≠e:=fun c=>by rw [c,hk st m hst hm c] at hd;cases hd
  rw [seen_alive hd h.fi.on] at hn
  rw [seen_alive (hd0.trans hd) h.fi.on,vo_dk (dk_kill_ne S hne)]
  exact hn
 ·rw [seen_dead hd] at hn
  rw [seen_dead (hd0.trans hd)]
  exact hn
theorem By.back {wr':Nat->List Sh.Bs} (h:By A S o D U wr) (hm:∀m v,v∈wr m->v∈wr' m):By A S o D U wr' :=
 ⟨h.wk.more hm,fun hon=>(h.on hon).imp (fun ⟨g,a,b,c⟩=>⟨g,a,b.more hm,c⟩) id⟩
theorem By.kill (h:By A S o D U wr) (hn:∀st m,m<A.M->A.num st m=m) (he:e<A.n):By A (S.doKill e) o D U wr:=by
 have hdk:=fun d=>dead_kill (S:=S) (d:=e) (by rw [h.wk.len];exact he) d
 have hold:∀d,Dead S d=true->Dead (S.doKill e) d=true:=fun d hd=>by rw [hdk];split;rfl;exact hd
 refine ⟨h.wk.kill he,fun hon=>?_⟩
 rcases h.on hon with ⟨g,g1,g2,g3⟩ | ht
 ·by_cases hl:∃st m,st<A.St/\m<A.M/\g.lack st m
  ·obtain ⟨st,m,h1,h2,h3⟩:=hl
   have hm:=g1 st m h1 h2 h3
   rw [hn st m h2] at hm
   by_cases c:e=m
   ·refine .inl ⟨g,fun st m a b c=>hold _ (g1 st m a b c),g2,g3.killOut he fun _ _ _ _ _=>by rw [c];exact hm⟩
   ·by_cases cm:e<A.M
    ·refine .inr fun st' _=>⟨e,m,cm,h2,c,?_,?_⟩
     ·rw [hn st' e cm,hdk,if_pos rfl]
     ·rw [hn st' m h2];exact hold _ hm
    ·refine .inl ⟨g,fun st m a b c=>hold _ (g1 st m a b c),g2,g3.killOut he fun st m _ b c=>?_⟩
     rw [hn st m b] at c
     omega
  ·refine .inl ⟨{ g with lack:=fun st m=>A.num st m=e },fun st m a b (c:A.num st m=e)=>?_,g2,g3.kill he fun st m a b c=>hl ⟨st,m,a,b,c⟩⟩
   rw [hdk];exact if_pos c
 ·refine .inr fun st hst=>?_
  obtain ⟨a,b,h1,h2,h3,h4,h5⟩:=ht st hst
  exact ⟨a,b,h1,h2,h3,hold _ h4,hold _ h5⟩
end
/-! ### how much is read,written and flushed -/
def Spent (S T:Sh.Sf) (n:Nat):Prop:=∃(k:Nat) (z:Int),k<=n/\T.count=S.count+k+z*18446744073709551616
section
variable {S T R:Sh.Sf} {d k n j:Nat} {o y z:Int} {b:Sh.Bs}
theorem Spent.refl (S:Sh.Sf) (n:Nat):Spent S S n:=⟨0,0,Nat.zero_le _,by simp⟩
theorem Spent.trans (h:Spent S T n) (k:Spent T R j):Spent S R (n+j):=by
 obtain ⟨a,x,h1,h2⟩:=h
 obtain ⟨b,y,k1,k2⟩:=k
 exact ⟨a+b,x+y,by omega,by rw [k2,h2];push_cast;rw [Int.add_mul];omega⟩
theorem Spent.more (h:Spent S T n) (hj:n<=j):Spent S T j:=by
 obtain ⟨a,x,h1,h2⟩:=h
 exact ⟨a,x,by omega,h2⟩
theorem wrap_is (x:Int):∃z:Int,wrap64 x=x+z*18446744073709551616:=⟨-((x+9223372036854775808) / 18446744073709551616),by unfold wrap64;have:=Int.emod_add_mul_ediv (x+9223372036854775808) 18446744073709551616;omega⟩
theorem Spent.one (h:T.count=wrap64 (S.count+1)):Spent S T 1:=by
 obtain ⟨z,hz⟩:=wrap_is (S.count+1)
 exact ⟨1,z,Nat.le_refl _,by rw [h,hz];rfl⟩
theorem spent_looked (S:Sh.Sf) (d:Nat):Spent S (Looked S d) 2:=by
 unfold Looked
 split
 ·exact Spent.trans (n:=1) (j:=1) (Spent.one (T:=S.doRead) rfl) (Spent.one rfl)
 ·exact Spent.refl _ _
theorem spent_wr (S:Sh.Sf) (d n:Nat) (b:Sh.Bs):Spent S (Wr S d n b) 1:=by
 unfold Wr
 split
 ·exact Spent.one rfl
 ·exact Spent.refl _ _
theorem spent_fl (S:Sh.Sf) (d:Nat):Spent S (Fl S d) 1:=by
 unfold Fl
 split
 ·exact Spent.one rfl
 ·exact Spent.refl _ _
theorem spent_dw (h:DW S d o k b y z T):Spent S T 8:=by
 rcases h with ⟨_,_,_,rfl⟩ | ⟨_,b',R,_,rfl,_,_,_,_,rfl⟩
 ·exact Spent.refl _ _
 ·unfold Ready ReadyQ
  have h1:=spent_looked S d
  generalize Looked S d=S0 at *
  have h2:Spent S0 (flIf S0 d o k) 1:=by
   unfold flIf;split
   ·exact spent_fl _ _
   ·exact Spent.refl _ _
  generalize flIf S0 d o k=S1 at *
  have h3:∀g s t,Spent S1 (spIf S1 d k g s t b') 2:=fun g s t=>by
   unfold spIf;split
   ·exact (spent_wr _ _ _ _).trans (spent_fl _ _)
   ·exact Spent.refl _ _
  exact ((((h1.trans h2).trans (h3 _ _ _)).trans (spent_wr _ _ _ _)).trans (spent_fl _ _)).trans (spent_wr _ _ _ _)
theorem spent_fds (S:Sh.Sf):∀j,Spent S (fdS S j).1 j
 | 0=>Spent.refl _ _
 | j+1=>by
  unfold fdS
  split
  ·exact (spent_fds S j).trans (spent_fl _ _)
  ·exact (spent_fds S j).more (Nat.le_succ j)
theorem spent_tog (s:SuP) (M k st:Nat) (tk:Nat->Bool) (S:Sh.Sf):∀j,Spent S (tog s M k st tk S j).1 (2*j)
 | 0=>Spent.refl _ _
 | j+1=>by
  have ih:=spent_tog s M k st tk S j
  by_cases h0:(tog s M k st tk S j).2.2=0
  ·by_cases ht:tk j=true
   ·rw [tog_take h0 ht]
    exact ih.trans (spent_looked _ _)
   ·rw [tog_skip (by simpa using ht)]
    exact ih.more (by omega)
  ·rw [tog_stop h0 (Nat.le_succ j)]
   exact ih.more (by omega)
theorem spent_part (s:SuP) (M k st a b:Nat) (S:Sh.Sf):Spent S (partR s M k st a b S).1 (2*M+2*M):=by
 unfold partR
 split
 ·exact (spent_tog _ _ _ _ _ _ _).more (by omega)
 ·exact (spent_tog _ _ _ _ _ _ _).trans (spent_tog _ _ _ _ _ _ _)
theorem spent_clear {U:Set0} {x:Nat × Nat} {a e:Stt} (h:ClrStep U x a y e):Spent a.S e.S 8:=by
 rcases h with ⟨_,_,rfl⟩ | ⟨_,z,z',h,_⟩
 ·exact Spent.refl _ _
 ·exact spent_dw h
theorem spent_clears {U:Set0} {l:List (Nat × Nat)} {a e:Stt} (h:ClrSteps U l a e):Spent a.S e.S (8*l.length):=by
 induction h with
 | nil a=>exact Spent.refl _ _
 | snoc h1 h2 ih=>exact (ih.trans (spent_clear h2)).more (by rw [List.length_append];simp;omega)
theorem spent_clr {U:Set0} {L:Nat} {a e:Stt} (h:ClrR n L U a y e):Spent a.S e.S (8*(n*L)):=by
 rcases h with ⟨_,h⟩ | ⟨_,j,k,c,hj,hk,h1,h2⟩
 ·exact (spent_clears h).more (by rw [slotsTo_length];omega)
 ·refine ((spent_clears h1).trans (spent_clear h2)).more ?_
  rw [slotsTo_length]
  have:(j+1)*L<=n*L:=Nat.mul_le_mul_right _ hj
  rw [Nat.add_mul] at this
  omega
theorem spent_flush {D U D' U':Set0} {L:Nat} {e:Stt} (h:FlR n L D U S y e D' U'):Spent S e.S (n+8*(n*L)+n):=by
 cases h with
 | first o' h0=>exact (spent_fds S n).more (by omega)
 | slots o1 y b h0 _ hC _=>exact ((spent_fds S n).trans (spent_clr hC)).more (by omega)
 | again o1 o' b h0 _ hC _=>exact ((spent_fds S n).trans (spent_clr hC)).trans (spent_fds _ _)
 | none o' h0 _=>exact (spent_fds S n).more (by omega)
 | all o1 o' b h0 _ hC _=>exact ((spent_fds S n).trans (spent_clr hC)).trans (spent_fds _ _)
theorem spent_tail {D U D' U':Set0} {a e:Stt} {l hd:Sh.Bs} (h:RecTail d k l hd a D U y e D' U'):Spent a.S e.S 17:=by
 obtain ⟨_,_,z,o1,S1,⟨y1,x1,T,hD1,hD2⟩,hT⟩:=h
 have h1:Spent a.S S1 16:=by
  rcases hD2 with ⟨_,_,_,rfl⟩ | ⟨_,hD2⟩
  ·exact (spent_dw hD1).more (by omega)
  ·exact (spent_dw hD1).trans (spent_dw hD2)
 rcases hT with ⟨_,_,rfl⟩ | ⟨_,_,rfl⟩
 ·exact h1.more (by omega)
 ·exact h1.trans (spent_fl _ _)
theorem spent_rec {D U D' U':Set0} {L:Nat} {a e:Stt} {l hd:Sh.Bs} (h:RecR n L d l hd a D U y e D' U'):Spent a.S e.S (n+8*(n*L)+n+17):=by
 rcases h with ⟨_,h⟩ | ⟨_,y1,a1,D1,U1,hF,h⟩
 ·exact (spent_tail h).more (by omega)
 ·rcases h with ⟨_,_,rfl,_,_⟩ | ⟨_,h⟩
  ·exact (spent_flush hF).more (by omega)
  ·exact (spent_flush hF).trans (spent_tail h)
theorem spent_wrT {s:SuP} {L M k st a pl b:Nat} {x:Sh.Bs} {D U D' U':Set0} {t e:Stt} (h:WrT n L s M k st a pl b x D U t y e D' U'):Spent t.S e.S (2*M+2*M+(n+8*(n*L)+n+17)+8+8):=by
 cases h with
 | io _ _=>exact Spent.refl _ _
 | data y z S2 _ _ hD=>exact (spent_dw hD).more (by omega)
 | par y e D' U' _ _ hW =>
  cases hW with
  | lack h0=>exact (spent_tog _ _ _ _ _ _ _).more (by omega)
  | done y z S2 h0 hD=>exact ((spent_tog _ _ _ _ _ _ _).trans (spent_dw hD)).more (by omega)
 | both y e D' U' _ _ hW =>
  cases hW with
  | lack h0=>exact (spent_part _ _ _ _ _ _ _).more (by omega)
  | recd y a1 D1 U1 _ hR _=>exact ((spent_part _ _ _ _ _ _ _).trans (spent_rec hR)).more (by omega)
  | data y a1 D1 U1 z S2 _ hR hD _=>exact (((spent_part _ _ _ _ _ _ _).trans (spent_rec hR)).trans (spent_dw hD)).more (by omega)
  | both y a1 D1 U1 z z3 S2 S3 _ hR hD hE=>exact (((spent_part _ _ _ _ _ _ _).trans (spent_rec hR)).trans (spent_dw hD)).trans (spent_dw hE)
theorem spent_write {s:SuP} {L M St:Nat} {x:Sh.Bs} {D U D' U':Set0} {f:Nat->Int} {i:Int} {e:Stt} (h:WrR n L s M St i x D U S f y e D' U'):Spent S e.S ((n+8*(n*L)+n)+(2*M+2*M+(n+8*(n*L)+n+17)+8+8)):=by
 cases h with
 | refused h0=>exact Spent.refl _ _
 | flush m' y t D1 U1 _ _ _ _ hF _=>exact (spent_flush hF).more (by omega)
 | after m' t D1 U1 y e D' U' _ _ _ _ hF hT=>exact (spent_flush hF).trans (spent_wrT hT)
 | first m' y e D' U' _ _ _ _ hT=>exact (spent_wrT (t:=⟨S,f⟩) hT).more (by omega)
theorem spent_read {s:SuP} {L M St:Nat} {f:Nat->Int} {i:Int} {X:Sh.Bs} {e:Stt} (h:RdR L s M St i S f y X e):Spent S e.S (2+2*M+8):=by
 cases h with
 | refused h0=>exact Spent.refl _ _
 | there m' y X t _ _ _ hT =>
  cases hT with
  | plain _=>exact (spent_looked _ _).more (by omega)
  | lack _ _=>exact ((spent_looked _ _).trans (spent_tog _ _ _ _ _ _ _)).more (by omega)
  | dead _ _=>exact ((spent_looked _ _).trans (spent_tog _ _ _ _ _ _ _)).more (by omega)
  | bad z x S2 _ _ hD _=>exact ((spent_looked _ _).trans (spent_tog _ _ _ _ _ _ _)).trans (spent_dw hD)
  | mend x S2 _ _ hD=>exact ((spent_looked _ _).trans (spent_tog _ _ _ _ _ _ _)).trans (spent_dw hD)
theorem Spent.diff (h:Spent S T n) (hn:n<9223372036854775808):∃k:Nat,k<=n/\wrap64 (T.count-S.count)=k:=by
 obtain ⟨a,x,h1,h2⟩:=h
 refine ⟨a,h1,?_⟩
 unfold wrap64
 rw [h2]
 omega
end
section
variable {A:Ar} {S:Sh.Sf} {o:Nat->Int} {g:Gh} {D U:Set0} {may:Nat->List Sh.Bs} {kd:Bool} {d:Nat} {c:Nat->Option Sh.Bs}
theorem Pd.wd (h:Pd A g d c) (ha:ArOk A) (hl:∀st m,st<A.St->m<A.M->A.num st m=d->¬g.lack st m) (hm:MayOk A g may):Wd A may d c:=by
 have h3:=ha.m3
 refine ⟨fun m h1 h2=>?_,fun st hst m hm h2=>?_,fun k hk=>⟨(h.slot k hk).head,h.part k hk⟩⟩
 ·have hst:=st_lt h3 h1
  obtain ⟨w1,w2,_,_⟩:=me_ok (M:=A.M) (m:=m) h3
  obtain ⟨m1,m2⟩:=hm m h1
  rcases h.blk _ hst _ w1 h2 with e | ⟨e,_⟩ | ⟨dm,old,e,⟨e1,e2⟩ | ⟨e1,_⟩⟩
  ·exact ⟨_,m1,e⟩
  ·exact absurd e (hl _ _ hst w1 h2)
  ·exact ⟨old,m2 old (by rw [e1];exact e),e2⟩
  ·exact absurd e1 w2
 ·rcases h.blk st hst m hm h2 with e | ⟨e,_⟩ | ⟨dm,old,_,⟨_,e⟩ | ⟨_,e⟩⟩
  ·rw [e];simp
  ·exact absurd e (hl st m hst hm h2)
  ·rw [e];simp
  ·rw [e];simp
theorem Inv.by_ (h:Inv A S o g D U may kd):By A S o D U may:=by
 refine ⟨⟨h.ci.ar,fun d hd ha=>(h.ci.disk d hd ha).more fun c hc=>hc.wd h.ci.ar (fun st m hst hm hn hk=>?_) h.mays,h.ci.len,h.ci.fit,h.ci.sec⟩,fun hon=>.inl ⟨g,h.ld,h.mays,h.on hon⟩⟩
 have:=h.ld st m hst hm hk
 rw [hn,ha] at this
 cases this
end
structure Bw (J:Vk) (w:World) (r q cap tq q2:Nat) (A:Ar) (S:Sh.Sf) (o:Nat->Int) (D U:Set0) (F:Nat->Prop) (P:Nat->Prop) (wr:Nat->List Sh.Bs) (m:Nat):Prop where
 vr:Vr J w A.s o S F D U
 few:Few S D U m
 n:J.n=A.n
 L:J.L=A.L
 row:w.heap[r]?=some (.cells (rigC J.p J.v A.M A.St A.L q (A.St*(A.M-1)) cap tq false) 39 (0,0))
 low:J.B<=r
 out:¬AllV J F r
 log:∀i,i<J.n->J.gn i≠r
 tab:May (A.St*(A.M-1)) w J.B q2 (RG J r F) P wr
section
variable {J:Vk} {w w':World} {r q cap tq q2 k:Nat} {A:Ar} {S S':Sh.Sf} {o o':Nat->Int} {D U D' U':Set0} {F F' P P':Nat->Prop} {wr wr':Nat->List Sh.Bs} {m a:Nat} {b:Sh.Bs} {g off c:Nat->Nat}
theorem Bw.lt (h:Bw J w r q cap tq q2 A S o D U F P wr m):∀b,RG J r F b->b<w.heap.size:=by
 rintro b (e | rfl | ⟨i,hi,rfl⟩)
 ·exact h.vr.lt b e
 ·exact (Array.getElem?_eq_some_iff.1 h.row).1
 ·exact World.block_lt_of_cell? w _ (h.vr.logs.log i hi).c0
theorem Bw.goes (h:Bw J w r q cap tq q2 A S o D U F P wr m) (hG:RGoes J w w' A.s o' S' F D' U') (hf:Few S' D' U' a):∃F',Bw J w' r q cap tq q2 A S' o' D' U' F' P wr a:=by
 obtain ⟨F',V,mv⟩:=hG
 have hlt:=(Array.getElem?_eq_some_iff.1 h.row).1
 obtain ⟨g,off,c,ht⟩:=h.tab
 refine ⟨F',V,hf,h.n,h.L,(mv.1.block r hlt h.out).trans h.row,h.low,fun e=>?_,h.log,⟨g,off,c,ht.moves (moves_rg mv)⟩⟩
 rcases mv.2 r e with e | e
 ·exact h.out e
 ·omega
theorem Bw.grown (h:Bw J w r q cap tq q2 A S o D U F P wr m) (hb:Below w.heap.size w w'):Bw J w' r q cap tq q2 A S o D U F P wr m:=by
 have hlt:=(Array.getElem?_eq_some_iff.1 h.row).1
 obtain ⟨g,off,c,ht⟩:=h.tab
 exact ⟨h.vr.grown hb,h.few,h.n,h.L,(hb.block r hlt).trans h.row,h.low,h.out,h.log,⟨g,off,c,ht.grown hb⟩⟩
theorem Bw.cells (h:Bw J w r q cap tq q2 A S o D U F P wr m) :
  w.cell? ⟨r,0,none⟩=some (.pointer (some ⟨J.p,0,none⟩))/\w.cell? ⟨r,1,none⟩=some (.pointer (some ⟨J.v,0,none⟩))/\w.cell? ⟨r,2,none⟩=some (.int .i64 A.M)/\w.cell? ⟨r,5,none⟩=some (.slice (some ⟨q,0,none⟩) (A.St*(A.M-1)) cap) :=
 ⟨cell_of_row _ _ 0 _ _ _ h.row,cell_of_row _ _ 1 _ _ _ h.row,cell_of_row _ _ 2 _ _ _ h.row,cell_of_row _ _ 5 _ _ _ h.row⟩
theorem Bw.more (h:Bw J w r q cap tq q2 A S o D U F P wr m) (hm:m<=a):Bw J w r q cap tq q2 A S o D U F P wr a:=⟨h.vr,h.few.more hm,h.n,h.L,h.row,h.low,h.out,h.log,h.tab⟩
theorem Bw.table (h:Bw J w r q cap tq q2 A S o D U F P wr m) (ht:MayIs (A.St*(A.M-1)) w J.B q2 (RG J r F) P wr g off c) {X:Nat->Prop} (ho:Sh.Only X w w') (hX:∀b,X b->b=q2\/∃j,P j/\b=g j)
  (hm:May (A.St*(A.M-1)) w' J.B q2 (RG J r F) P' wr'):Bw J w' r q cap tq q2 A S o D U F P' wr' m:=by
 have hn:∀b,X b->¬RG J r F b:=fun b hb=>by
  rcases hX b hb with rfl | ⟨j,hj,rfl⟩
  ·exact ht.outq
  ·exact ht.outg j hj
 have hlow:∀b,X b->J.B<=b:=fun b hb=>by
  rcases hX b hb with rfl | ⟨j,hj,rfl⟩
  ·exact ht.low
  ·exact ht.glow j hj
 have hk:∀b,b<w.heap.size->RG J r F b->w'.heap[b]?=w.heap[b]?:=fun b hb hx=>ho.block b hb fun e=>hn b e hx
 have hV:Vr J w' A.s o S F D U:=by
  have hv:=h.vr
  have hbel:Below J.B J.W w':=hv.bel.trans (ho.below hlow hv.size)
  exact hv.only_tab ho (fun b hb e=>hn b e (.inl hb)) hbel (fun i hi=>hk _ (World.block_lt_of_cell? w _ (hv.logs.log i hi).c0) (.inr (.inr ⟨i,hi,rfl⟩)))
 exact ⟨hV,h.few,h.n,h.L,(hk r (Array.getElem?_eq_some_iff.1 h.row).1 (.inr (.inl rfl))).trans h.row,h.low,h.out,h.log,hm⟩
theorem Bw.fill (h:Bw J w r q cap tq q2 A S o D U F (fun j=>j<k) (fun _=>[b]) m) (hk:k<A.St*(A.M-1)) (t:TypeId) :
  Bw J ((w.alloc (.cells #[Sh.sv b] t)).setCell ⟨q2,k,none⟩ (.slice (some ⟨w.heap.size,0,none⟩) 1 1)) r q cap tq q2 A S o D U F (fun j=>j<k+1) (fun _=>[b]) m:=by
 have hG:=h.lt
 obtain ⟨g,off,c,ht⟩:=h.tab
 have hlt:=ht.lt
 have hgl:=fun j hj=>(ht.mid j hj).lt
 have hrow:=heap_alloc_new w (.cells #[Sh.sv b] t)
 have hb1:Below w.heap.size w (w.alloc (.cells #[Sh.sv b] t)):=(Below.refl _ w).alloc (Nat.le_refl _) (.cells #[Sh.sv b] t)
 have h1:=ht.grown hb1
 have e:(fun _=>[b]:Nat->List Sh.Bs)=fun j=>if j=k then [b] else [b]:=by funext j;simp
 refine (h.grown hb1).table h1 (X:=fun b=>b=q2) (Sh.Only.setCell (F:=fun b=>b=q2) (p:=⟨q2,k,none⟩) (Sh.Only.refl _ _) (.inl (show q2=q2 from rfl)) _) (fun _ e=>.inl e) ?_
 rw [e]
 refine h1.put (l:=[b]) hk ⟨rfl,Nat.le_refl _,by simp,fun j hj=>?_,fun j _=>frozen_of_row _ _ _ _ _ hrow,fun j hj=>?_⟩ h.vr.size (Nat.ne_of_gt hlt) (fun j hj _=>Nat.ne_of_lt (hgl j hj)) (fun e=>Nat.lt_irrefl _ (hG _ e)) (fun j hj=>by have hj:j<k+1:=hj;by_cases e:j=k;exact .inr e;exact .inl (by omega))
 ·obtain rfl:j=0:=by omega
  rw [cell_of_row _ _ (0+0) _ _ _ hrow];rfl
 ·obtain rfl:j=0:=by have:([b]:List Sh.Bs).length=1:=rfl;omega
  rw [cell_of_row _ _ (0+0) _ _ _ hrow];rfl
theorem Bw.append (h:Bw J w r q cap tq q2 A S o D U F (fun j=>j<A.St*(A.M-1)) wr m) (ht:MayIs (A.St*(A.M-1)) w J.B q2 (RG J r F) (fun j=>j<A.St*(A.M-1)) wr g off c)
  {g' off' c':Nat} (hk:k<A.St*(A.M-1)) (hg:w.grownBy w' (some (g k))) (hm:Sh.Mids w' g' off' ((wr k).length+1) c' (wr k++[b])) (ho:g'=g k\/g'=w.heap.size) :
  Bw J (w'.setCell ⟨q2,k,none⟩ (.slice (some ⟨g',off',none⟩) ((wr k).length+1) c')) r q cap tq q2 A S o D U F (fun j=>j<A.St*(A.M-1)) (pushM wr k b) m:=by
 have hM:=ht.append hk hg hm ho h.vr.size h.lt
 refine h.table ht (X:=fun b=>b=q2\/b=g k) ?_ (fun b e=>e.imp id fun e=>⟨k,hk,e⟩) hM
 have h1:Sh.Only (fun b=>b=q2\/b=g k) w w':=⟨hg.os,hg.tape,hg.output,hg.size,fun x hx hn=>hg.block x hx (fun e=>hn (.inr (by injection e)))⟩
 exact h1.setCell (.inl (.inl rfl)) _
theorem Bw.cell (h:Bw J w r q cap tq q2 A S o D U F P wr m) (hk:k<A.St*(A.M-1)):(∃v,w.cell? ⟨q2,k,none⟩=some v)/\w.frozen? ⟨q2,k,none⟩=false:=by
 obtain ⟨g,off,c,M⟩:=h.tab
 exact ⟨Option.isSome_iff_exists.1 (M.there k hk),M.free k hk⟩
end
open Go.ChangeShapes Go.WideShapes Go.ChangeAt
structure All4 (w:World):Prop where
 tabs:Tabs w
 fld:Flds w
 wid:Go.Proofs.YtgebkmpmnjhceaaGreatDoor.S.Wid w
theorem All4.over {w w':World} (h:All4 w) (hb:Below w.heap.size w w'):All4 w':=⟨h.tabs.below h.tabs.size hb,h.fld.below h.fld.size hb,h.wid.below h.wid.size hb⟩
theorem All4.tbl {W:World} (h:All4 W):Tb4 W.heap.size W:=⟨h.tabs,h.tabs.size,h.wid,h.wid.size,h.fld,h.fld.size⟩
structure Bst (A:Ar):Prop where
 said:Said A
 sp:A.s.spare=-1
 l3:A.L=3
 n1:A.n=A.M+1
def BeyS (J:Vk) (r q cap tq q2:Nat) (A:Ar) (m lb:Nat) (S:Sh.Sf) (wr:Nat->List Sh.Bs) (w:World):Prop :=
 ∃o D U F,Bw J w r q cap tq q2 A S o D U F (fun j=>j<A.St*(A.M-1)) wr m/\By A S o D U wr/\∀j,j<A.St*(A.M-1)->wr j≠[]/\(wr j).length<=lb
section
variable {J:Vk} {w w':World} {r q cap tq q2 k m lb:Nat} {A:Ar} {S S':Sh.Sf} {o:Nat->Int} {D U:Set0} {F:Nat->Prop} {wr:Nat->List Sh.Bs} {b:Sh.Bs}
theorem fits_wk (h:Wk A S o wr) (hs:Said A):Fits A.n A.L A.s A.M A.St S:=by
 have hr:=hs.right 0 (by have:=h.ar.num 0 0 (by have:=h.ar.m3;omega);omega)
 have hf:=hs.fit
 obtain ⟨r1,r2,r3,r4,r5,r6,r7,r8⟩:=Go.Proofs.YtgebkmpmnjhceaaGreatDoor.S.right_parts hr
 have hm:(saidOf A.s 0).most<=(saidOf A.s 0).str:=by unfold Go.Proofs.YtgebkmpmnjhceaaGreatDoor.S.Sup.most;split<;>omega
 have e1:(saidOf A.s 0).str=A.s.str:=rfl
 have e2:(saidOf A.s 0).mark=A.s.mark:=rfl
 have e3:(saidOf A.s 0).spare=A.s.spare:=rfl
 have h1:=hs.mem
 have h2:=hs.str
 have h3:=hs.logs
 have:=h.ar.m3
 have:=h.ar.l1
 have:=h.ar.l8
 have:=h.ar.s2
 have:=hs.m16
 have:=hs.st1
 unfold Fit at hf
 have e4:(saidOf A.s 0).mem=A.s.mem:=rfl
 exact ⟨h1,h2,h3,by omega,by omega,by omega,by omega,by omega,by omega,by omega,by omega,⟨by omega,by omega⟩,h.len,h.fit⟩
theorem Bst.num (h:Bst A) (st m:Nat):A.num st m=m:=by
 unfold Ar.num numOf
 rw [if_neg]
 rw [h.sp]
 omega
theorem Bst.n17 (h:Bst A):A.n<=17:=by have:=h.n1;have:=h.said.m16;omega
theorem nL (h:Bst A):A.n*A.L<=51:=by rw [h.l3];have:=h.n17;omega
theorem BeyS.grown (h:BeyS J r q cap tq q2 A m lb S wr w) (hb:Below w.heap.size w w'):BeyS J r q cap tq q2 A m lb S wr w':=by
 obtain ⟨o,D,U,F,h1,h2⟩:=h
 exact ⟨o,D,U,F,h1.grown hb,h2⟩
theorem BeyS.more {m' lb':Nat} (h:BeyS J r q cap tq q2 A m lb S wr w) (h1:m<=m') (h2:lb<=lb'):BeyS J r q cap tq q2 A m' lb' S wr w:=by
 obtain ⟨o,D,U,F,a,b,c⟩:=h
 exact ⟨o,D,U,F,a.more h1,b,fun j hj=>⟨(c j hj).1,Nat.le_trans (c j hj).2 h2⟩⟩
theorem BeyS.bel (h:BeyS J r q cap tq q2 A m lb S wr w):Below J.B J.W w/\J.B<=w.heap.size:=by
 obtain ⟨o,D,U,F,a,_⟩:=h
 exact ⟨a.vr.bel,a.vr.size⟩
theorem BeyS.cells (h:BeyS J r q cap tq q2 A m lb S wr w) :
  w.cell? ⟨r,0,none⟩=some (.pointer (some ⟨J.p,0,none⟩))/\w.cell? ⟨r,1,none⟩=some (.pointer (some ⟨J.v,0,none⟩))/\w.cell? ⟨r,2,none⟩=some (.int .i64 A.M)/\w.cell? ⟨r,5,none⟩=some (.slice (some ⟨q,0,none⟩) (A.St*(A.M-1)) cap):=by
 obtain ⟨o,D,U,F,a,_⟩:=h
 exact a.cells
theorem BeyS.count (h:BeyS J r q cap tq q2 A m lb S wr w) (hb:Below w.heap.size w w'):Calls Tryz.prog 17 #[.pointer (some ⟨J.p,0,none⟩)] w' fun e w2=>e=.returned (.int .i64 S.count)/\w'=w2:=by
 obtain ⟨o,D,U,F,a,_⟩:=h
 exact Sh.count_is (a.vr.grown hb).vo.ds.on.shelf rfl
theorem BeyS.read (h:BeyS J r q cap tq q2 A m lb S wr w) (hs:Bst A) (hT:Tb4 J.B J.W) (hm:m<=4000000) (hk:k<A.St*(A.M-1)) :
  Calls Tryz.prog 11 #[.pointer (some ⟨J.v,0,none⟩),.int .i64 k] w fun e w'=>∃(y:Int) (A':Option Addr) (len c:Nat) (X:Sh.Bs) (S':Sh.Sf),e=.returned (.tuple #[.slice A' len c,.int .i64 y]) /\
   BeyS J r q cap tq q2 A (m+1000) lb S' wr w'/\Spent S S' 64/\((y=0/\len=128/\Sh.Bytes w w' A' X/\Sh.Sec X/\X∈wr k)\/((y=10\/y=3)/\A'=none/\len=0/\c=0)):=by
 obtain ⟨o,D,U,F,hw,hy,hl⟩:=h
 have hF:=fits_wk hy.wk hs.said
 rw [<- hw.n,<- hw.L] at hF
 refine (vRead_any hw.vr hF hT.tabs hT.tb (k:Int) hw.few.waits (by omega)).mono ?_
 rintro e w2 ⟨y,A',len,c,rfl,X,t,F2,hR,V2,m2,hres⟩
 obtain ⟨F',hw2⟩:=hw.goes ⟨F2,V2,m2⟩ (hw.few.read hR)
 have hsp:=(spent_read hR).more (j:=64) (by have:=hs.said.m16;omega)
 rw [hw.L] at hR
 obtain ⟨j1,j2⟩:=hy.read hk hR
 refine ⟨y,A',len,c,X,t.S,rfl,⟨t.o,D,U,F',hw2,j1,hl⟩,hsp,?_⟩
 rcases hres with ⟨e1,e2,e3,e4,_⟩ | ⟨e1,e2⟩
 ·rcases j2 with ⟨_,j2⟩ | ⟨j2,_⟩
  ·exact .inl ⟨e1,e2,e3,e4,j2⟩
  ·rw [e1] at j2;exact absurd j2 (by decide)
 ·rcases j2 with ⟨j2,_⟩ | ⟨j2,_⟩
  ·exact absurd j2 e1
  ·exact .inr ⟨j2,e2⟩
def BeyW (J:Vk) (r q cap tq q2:Nat) (A:Ar) (m lb:Nat) (S:Sh.Sf) (wr:Nat->List Sh.Bs) (B:Option Addr) (b:Sh.Bs) (w:World):Prop :=
 ∃o D U F,Bw J w r q cap tq q2 A S o D U F (fun j=>j<A.St*(A.M-1)) wr m/\By A S o D U wr/\(∀j,j<A.St*(A.M-1)->wr j≠[]/\(wr j).length<=lb)/\Sh.Beside w (AllV J F) B b
theorem BeyW.bey {B:Option Addr} (h:BeyW J r q cap tq q2 A m lb S wr B b w):BeyS J r q cap tq q2 A m lb S wr w:=by
 obtain ⟨o,D,U,F,h1,h2,h3,_⟩:=h
 exact ⟨o,D,U,F,h1,h2,h3⟩
theorem BeyW.write {B:Option Addr} {c:Nat} (h:BeyW J r q cap tq q2 A m lb S wr B b w) (hs:Bst A) (hT:Tb4 J.B J.W) (hm:m<=4000000) (hk:k<A.St*(A.M-1)) (hb:Sh.Sec b) (hx:b∈wr k) :
  Calls Tryz.prog 19 #[.pointer (some ⟨J.v,0,none⟩),.int .i64 k,.slice B 128 c] w fun e w'=>∃(y:Int) (S':Sh.Sf),e=.returned (.int .i64 y)/\BeyS J r q cap tq q2 A (m+1000) lb S' wr w'/\Spent S S' 1200/\(y=0\/y=3\/y=10):=by
 obtain ⟨o,D,U,F,hw,hy,hl,hA⟩:=h
 have hF:=fits_wk hy.wk hs.said
 rw [<- hw.n,<- hw.L] at hF
 refine (vWrite_any hw.vr hF hT.tabs hT.tb hT.flds hT.fb (k:Int) hb hA hw.few.waits hw.few.opens.2 hw.few.used (by omega)).mono ?_
 rintro e w2 ⟨y,rfl,t,D',U',hW,hG⟩
 rw [hw.n,hw.L] at hW
 have h17:=hs.n17
 obtain ⟨F',hw2⟩:=hw.goes hG (hw.few.write hw.vr.used h17 hy.wk.ar.l8 hW)
 have hsp:=(spent_write hW).more (j:=1200) (by have:=hs.said.m16;have:=nL hs;omega)
 obtain ⟨j1,j2⟩:=hy.write (isMap_set hw.vr.opens) (isMap_set hw.vr.used) hk hb hW
 refine ⟨y,t.S,rfl,⟨t.o,D',U',F',hw2,j1.back fun j v hv=>?_,hl⟩,hsp,j2⟩
 unfold pushM at hv
 by_cases e:j=k
 ·rw [if_pos e] at hv
  rcases List.mem_append.1 hv with hv | hv
  ·exact hv
  ·rw [List.mem_singleton.1 hv,e];exact hx
 ·rw [if_neg e] at hv;exact hv
theorem BeyS.flush (h:BeyS J r q cap tq q2 A m lb S wr w) (hs:Bst A) (hT:Tb4 J.B J.W) (hm:m<=4000000) :
  Calls Tryz.prog 10 #[.pointer (some ⟨J.v,0,none⟩)] w fun e w'=>∃(y:Int) (S':Sh.Sf),e=.returned (.int .i64 y)/\BeyS J r q cap tq q2 A (m+1000) lb S' wr w'/\Spent S S' 1200/\(y=0\/y=3):=by
 obtain ⟨o,D,U,F,hw,hy,hl⟩:=h
 have hF:=fits_wk hy.wk hs.said
 rw [<- hw.n,<- hw.L] at hF
 refine (vFlush_any hw.vr hF hT.tabs hT.tb hw.few.waits hw.few.used (by omega)).mono ?_
 rintro e w2 ⟨y,rfl,t,D',U',hW,hG⟩
 rw [hw.n,hw.L] at hW
 have h17:=hs.n17
 obtain ⟨F',hw2⟩:=hw.goes hG (hw.few.flush h17 hy.wk.ar.l8 hW)
 have hsp:=(spent_flush hW).more (j:=1200) (by have:=nL hs;omega)
 obtain ⟨j1,j2⟩:=hy.flush hW
 exact ⟨y,t.S,rfl,⟨t.o,D',U',F',hw2,j1,hl⟩,hsp,j2⟩
theorem BeyS.stop (h:BeyS J r q cap tq q2 A m lb S wr w) (n:Int) (h1:-9223372036854775808<=n) (h2:n<=9223372036854775807) :
  Calls Tryz.prog 20 #[.pointer (some ⟨J.p,0,none⟩),.int .i64 n] w fun e w'=>e=.returned (.tuple #[])/\BeyS J r q cap tq q2 A m lb (S.doStop n) wr w':=by
 obtain ⟨o,D,U,F,hw,hy,hl⟩:=h
 refine (Sh.stop_any w J.p n h1 h2 hw.vr.vo.ds.on.shelf).mono ?_
 rintro e w2 ⟨rfl,hsh,hon⟩
 have hG:=hw.vr.goesV (hw.vr.vo.goes (hw.vr.vo.ds.left ⟨F,hsh,hon,fun b e=>.inl e⟩))
 obtain ⟨F',hw2⟩:=hw.goes (a:=m) hG ⟨stop_waits hw.few.waits n,hw.few.opens,hw.few.used⟩
 exact ⟨rfl,o,D,U,F',hw2,hy.stop n,hl⟩
theorem BeyS.kill (h:BeyS J r q cap tq q2 A m lb S wr w) (hs:Bst A) {d:Nat} (hd:d<A.n) (hb:Below w.heap.size w w') :
  Calls Tryz.prog 21 #[.pointer (some ⟨J.p,0,none⟩),.int .i64 d] w' fun e w2=>e=.returned (.int .i64 0)/\BeyS J r q cap tq q2 A m lb (S.doKill d) wr w2/\∀x,w.heap.size<=x->x<w'.heap.size->w2.heap[x]?=w'.heap[x]?:=by
 obtain ⟨o,D,U,F,hw,hy,hl⟩:=h
 have hw':=hw.grown hb
 refine (vkill hw'.vr d (by rw [hy.wk.len];exact hd)).mono ?_
 rintro e w2 ⟨rfl,hG⟩
 obtain ⟨F',hw2⟩:=hw'.goes (a:=m) hG ⟨kill_lens hw.few.waits _,hw.few.opens,hw.few.used⟩
 obtain ⟨_,_,mv⟩:=hG
 exact ⟨rfl,⟨o,D,U,F',hw2,hy.kill (fun st m _=>hs.num st m) hd,hl⟩,fun x h1 h2=>mv.1.block x h2 fun e=>by have:=hw.vr.lt x e;omega⟩
theorem cell_at12N {N B:Nat} {G P:Nat->Prop} {g off c:Nat->Nat} (M:MayIs N w B q2 G P wr g off c) (hk:P k) (hg:w.grownBy w' (some (g k))) :
  w'.cell? ⟨q2,k,none⟩=some (.slice (some ⟨g k,off k,none⟩) (wr k).length (c k))/\w'.frozen? ⟨q2,k,none⟩=false:=by
 have hb:=hg.block q2 M.lt (fun e=>M.gne k hk (by injection e with e;exact e.symm))
 exact ⟨(World.cell?_of_block (w:=w) (a:=⟨q2,k,none⟩) hb).trans (M.cells k hk),(World.frozen?_of_block (w:=w) (a:=⟨q2,k,none⟩) hb).trans (M.free k (M.small k hk))⟩
theorem BeyW.appended {w1 w8 w12:World} {g off c:Nat->Nat} {g' off' c' x:Nat} (hw:Bw J w r q cap tq q2 A S o D U F (fun j=>j<A.St*(A.M-1)) wr m) (ht:MayIs (A.St*(A.M-1)) w J.B q2 (RG J r F) (fun j=>j<A.St*(A.M-1)) wr g off c)
  (hy:By A S o D U wr) (hl:∀j,j<A.St*(A.M-1)->wr j≠[]/\(wr j).length<=lb) (hb1:Below w.heap.size w w1) (ho1:w1.ownsRow w.heap.size 5 1 (.slice (some ⟨w.heap.size,0,none⟩) 128 128) 128 (bts (Sh.secOf x))) (hb8:Below w1.heap.size w1 w8) (hk:k<A.St*(A.M-1))
  (hg:w8.grownBy w12 (some (g k))) (hm:Sh.Mids w12 g' off' ((wr k).length+1) c' (wr k++[Sh.secOf x])) (ho:g'=g k\/g'=w8.heap.size) :
  BeyW J r q cap tq q2 A m (lb+1) S (pushM wr k (Sh.secOf x)) (some ⟨w.heap.size,0,none⟩) (Sh.secOf x) (w12.setCell ⟨q2,k,none⟩ (.slice (some ⟨g',off',none⟩) ((wr k).length+1) c')):=by
 have hb:=hb1.trans (hb8.mono hb1.size)
 have hw8:=hw.grown hb
 have ht8:=ht.grown hb
 have hsz:w.heap.size<w1.heap.size:=by
  obtain ⟨cs,t,hh,_⟩:=octs_own ho1
  exact (Array.getElem?_eq_some_iff.1 hh).1
 have hgk:=(ht.mid k hk).lt
 have hql:=ht.lt
 have hsb:(w12.setCell ⟨q2,k,none⟩ (.slice (some ⟨g',off',none⟩) ((wr k).length+1) c')).heap[w.heap.size]?=w1.heap[w.heap.size]? :=
  (Sh.heap_set_other w12 ⟨q2,k,none⟩ _ (show w.heap.size≠q2 by omega)).trans ((hg.block w.heap.size (Nat.lt_of_lt_of_le hsz hb8.size) (fun e=>by injection e with e;omega)).trans (hb8.block _ hsz))
 refine ⟨o,D,U,F,hw8.append ht8 hk hg hm ho,hy.back (push_in wr k (Sh.secOf x)).2,fun j hj=>?_,?_⟩
 ·obtain ⟨h1,h2⟩:=hl j hj
  unfold pushM
  split
  ·exact ⟨by simp,by simp;omega⟩
  ·exact ⟨h1,by omega⟩
 ·refine ⟨Sh.Reads.of_own (Sh.same_row ho1 (fun y hy=>by injection hy with hy;rw [<- hy];exact hsb)),fun y hy e=>?_⟩
  injection hy with hy
  subst hy
  exact Nat.lt_irrefl _ (hw.vr.lt _ e)
theorem may_newN {N B:Nat} {G:Nat->Prop} {t:TypeId} {xs:List Value} (may:Nat->List Sh.Bs) (hB:B<=w.heap.size) (hG:∀b,G b->b<w.heap.size) (h:w'.ownsRow w.heap.size t 1 (.slice (some ⟨w.heap.size,0,none⟩) N N) N xs) :
  May N w' B w.heap.size G (fun j=>j<0) may:=by
 obtain ⟨_,h⟩:=h
 rcases h with ⟨h,_⟩ | ⟨g,cap,cur,h,_,hrow,hle,_,hsz,_⟩
 ·cases h
 ·injection h with h1 h2 h3
  injection h1 with h1
  injection h1 with h1
  subst h1 h3
  refine ⟨fun _=>0,fun _=>0,fun _=>0,fun _ (h:_<0)=>absurd h (Nat.not_lt_zero _),hB,(Array.getElem?_eq_some_iff.1 hrow).1,fun k hk=>?_,fun k _=>frozen_of_row _ _ _ _ _ hrow,fun _ (h:_<0)=>absurd h (Nat.not_lt_zero _),fun _ (h:_<0)=>absurd h (Nat.not_lt_zero _),fun _ (h:_<0)=>absurd h (Nat.not_lt_zero _),fun _ (h:_<0)=>absurd h (Nat.not_lt_zero _),fun _ _ (h:_<0)=>absurd h (Nat.not_lt_zero _),fun e=>Nat.lt_irrefl _ (hG _ e),fun _ (h:_<0)=>absurd h (Nat.not_lt_zero _)⟩
  rw [cell_of_row _ _ k _ _ _ hrow,Array.getElem?_eq_getElem (by omega)]
  rfl
theorem make128 (w:World):∃w',(Instr.makeSlice 41 (.int .i64 128) (.int .i64 128)).run Tryz.prog w=.ok (.slice (some ⟨w.heap.size,0,none⟩) 128 128) w'/\w'.ownsRow w.heap.size 5 1 (.slice (some ⟨w.heap.size,0,none⟩) 128 128) 128 (bts Sh.noughts)/\Below w.heap.size w w':=by
 obtain ⟨i1,ki,kz0,kz1,kz2⟩:=info_parts (show (Tryz.prog.info? 5).map (fun i=>(i.zero,i.size,i.bytes))=some (some (.int .u8 0),1,1) by kernel_rfl)
 obtain ⟨w',hrun,r1,r2⟩:=run_make_full (P:=Tryz.prog) w w.heap.size 41 5 i1 _ 1 Tryz.underlying41 ki kz0 kz1 .i64 .i64 128 (by rw [kz2];omega) (by unfold maxLen;omega) (Nat.le_refl _)
 exact ⟨w',hrun,Sh.noughts_own r1,(Below.refl _ w).grown r2 (Nat.le_refl _) (fun _ h=>by cases h)⟩
theorem makeN (w:World) {N B:Nat} {G:Nat->Prop} (may:Nat->List Sh.Bs) (hB:B<=w.heap.size) (hG:∀b,G b->b<w.heap.size) (hN:N<=1000) :
  ∃w',(Instr.makeSlice 36 (.int .i64 N) (.int .i64 N)).run Tryz.prog w=.ok (.slice (some ⟨w.heap.size,0,none⟩) N N) w'/\May N w' B w.heap.size G (fun j=>j<0) may/\Below w.heap.size w w':=by
 obtain ⟨i1,ki,kz0,kz1,kz2⟩:=info_parts info_strs
 obtain ⟨w',hrun,r1,r2⟩:=run_make_full (P:=Tryz.prog) w w.heap.size 36 50 i1 _ 1 Tryz.underlying36 ki kz0 kz1 .i64 .i64 N (by rw [kz2];omega) (by unfold maxLen;omega) (Nat.le_refl _)
 exact ⟨w',hrun,may_newN may hB hG r1,(Below.refl _ w).grown r2 (Nat.le_refl _) (fun _ h=>by cases h)⟩
end
theorem begun_bey {J:Vk} {w:World} {r M St:Nat} {S:Sh.Sf} {o:Nat->Int} {F:Nat->Prop} (h:Rig J w r (arOf (newSaid M St 3) (M+1) 3 M St) S o noSet noSet F false (fun _=>[Sh.noughts]) 100) (hb:Born S (M+1) 40 M St 3 o) (m3:3<=M) (m16:M<=16) (s1:1<=St) (s6:St<=6) :
  Bst (arOf (newSaid M St 3) (M+1) 3 M St)/\By (arOf (newSaid M St 3) (M+1) 3 M St) S o noSet noSet (fun _=>[Sh.noughts]):=by
 obtain ⟨q1,q2,q3⟩:=hb.ci h.vr.vo.ds.on.shelf m3 m16 (show St<=1024 by omega) (by decide) (by decide) (.inr rfl) (by rw [blk40'];omega)
 have hs:=said_new (n:=M+1) m3 m16 s1 (show St<=1024 by omega) (show 1<=3 by decide) (show 3<=8 by decide) (.inr rfl)
 have hi:Inv (arOf (newSaid M St 3) (M+1) 3 M St) S o gh0 noSet noSet (fun _=>[Sh.noughts]) false:=⟨q1.fi.ci,hs,fun _ _ _ _ e=>e.elim,fun _ _ _ e=>e.elim,fun j hj=>⟨List.mem_singleton.2 rfl,fun old e=>by cases e⟩,fun _=>q1⟩
 exact ⟨⟨hs,rfl,rfl,rfl⟩,hi.by_⟩
end Go.Proofs.YtgebkmpmnjhceaaGreatDoor.U
