/-
  What the statement's proof rests on, part 42.
  Conditions: each theorem's own.
-/
import Derived.Test.YtepoepmndckmaaaGreatDoorY41
open Go.Proofs.YtepoepmndckmaaaGreatDoor.S renaming Sup → SuP
namespace Go.Proofs.YtepoepmndckmaaaGreatDoor.U
open Go.RowKit Go.Maps
theorem plM_lt {M st dm:Nat} (h3:3<=M) (hdm:dm<M) (hne:dm≠pm M st):plM M st dm<M-1/\L.memAt M (L.par M st) (plM M st dm)=dm:=by
 have hp:L.par M st<M:=L.par_lt _ _ (by omega)
 have h1:plM M st dm<M:=L.placeOf_lt _ _ _ (by omega)
 have h2:L.memAt M (L.par M st) (plM M st dm)=dm:=(L.mem_place M (L.par M st) dm _ hp hdm h1).2 rfl
 refine ⟨?_,h2⟩
 by_cases e:plM M st dm=M-1
 ·rw [e,L.memAt_last M _ hp] at h2
  exact absurd h2.symm hne
 ·omega
section
variable {A:Ar} {S S0 S':Sh.Sf} {o:Nat->Int} {g g':Gh} {D U U':Set0} {d k st dm:Nat} {y z:Int} {b x old h q:Sh.Bs} {c e:Stt} {l:List (Nat × Nat)}
theorem gotY_off (hoff:S.off≠false) (d k:Nat):gotY S d k=3:=by
 unfold gotY rdY
 rw [off_why hoff]
 rfl
theorem gotY_dead (hon:S.off=false) (hd:Dead S d=true) (k:Nat):gotY S d k=4:=by
 unfold gotY rdY
 rw [dead_why hd hon]
 rfl
theorem gotY_none (hon:S.off=false) (hd:Dead S d=false) (h:vo S d (2+2*k)=some Sh.noughts):gotY S d k=7:=by
 obtain ⟨h1,h2⟩:=seen_some hon (by rw [seen_alive hd hon];exact h)
 unfold gotY
 rw [h1,h2]
 rfl
theorem gotY_rec (hon:S.off=false) (hd:Dead S d=false) (hst:st<1024) {pl:Nat} (hpl:pl<15) (hq:Sh.Sec q) (h1:vo S d (2+2*k)=some (headL (numF st pl (Nums.sum 0 q)))) (h2:vo S d (3+2*k)=some q) :
  gotY S d k=0/\numAt (V S d (dataOf (2+2*k))) 0=st/\numAt (V S d (dataOf (2+2*k))) 1=pl/\V S d (dataOf (3+2*k))=q:=by
 obtain ⟨a1,a2⟩:=seen_some hon (by rw [seen_alive hd hon];exact h1)
 obtain ⟨b1,b2⟩:=seen_some hon (by rw [seen_alive hd hon];exact h2)
 obtain ⟨c1,c2,c3,_⟩:=okD_headT hst hpl q hq.2
 unfold gotY
 rw [a1,b1,a2,b2]
 refine ⟨?_,c2,c3,rfl⟩
 rw [if_neg (by simp),if_neg (headL_neT _),if_neg (by simp),if_pos c1]
structure Rpi (A:Ar) (S0:Sh.Sf) (g:Gh) (l:List (Nat × Nat)) (c:Stt) (U:Set0):Prop where
 ci:Ci A c.S c.o g
 on:c.S.off=false
 dead:∀d,Dead c.S d=Dead S0 d
 told:∀st,st<A.St->Told A c.S g st
 heads:∀d k,d<A.n->k<A.L->g.sl d k≠none->Dead c.S d=false/\vo c.S d (2+2*k)≠some Sh.noughts
 done:∀st dm old k,st<A.St->g.op st=some (dm,old)->Dead c.S (A.num st dm)=false->Dead c.S (A.num st (pm A.M st))=false->(A.num st (pm A.M st),k)∈l->g.sl (A.num st (pm A.M st)) k=some (st,dm)->vo c.S (A.num st (pm A.M st)) (A.at st)=some (g.dat st (pm A.M st))
 used:∀d k,(d,k)∈l->g.sl d k≠none->Maps.has U (slotKey d k)=true
 isU:IsMap U
theorem Told.same {S:Sh.Sf} (h:Told A S g st) (hs:Same S S'):Told A S' g st:=fun m hm ha hc=>by
 rw [vo_same hs]
 exact h m hm ((dead_same hs _).symm.trans ha) (hc.imp id (Or.imp id fun e dm old he=>(dead_same hs _).symm.trans (e dm old he)))
theorem Rpi.same (h:Rpi A S0 g l c U) (hs:Same c.S S'):Rpi A S0 g l ⟨S',c.o⟩ U :=
 ⟨h.ci.same hs,hs.off.trans h.on,fun d=>(dead_same hs d).trans (h.dead d),fun st hst=>(h.told st hst).same hs,fun d k hd hk e=>by
  show Dead S' d=false/\vo S' d _≠_
  rw [dead_same hs,vo_same hs];exact h.heads d k hd hk e,fun st dm old k hst he h1 h2 h3 h4=>by
  show vo S' _ _=_
  rw [vo_same hs];exact h.done st dm old k hst he ((dead_same hs _).symm.trans h1) ((dead_same hs _).symm.trans h2) h3 h4,h.used,h.isU⟩
theorem Rpi.add (h:Rpi A S0 g l c U) (hU:U'=U\/U'=DataW.put U (slotKey d k) one0) (hu:g.sl d k≠none->U'=DataW.put U (slotKey d k) one0)
  (hd:∀st dm old,st<A.St->g.op st=some (dm,old)->Dead c.S (A.num st dm)=false->Dead c.S (A.num st (pm A.M st))=false->A.num st (pm A.M st)=d->g.sl d k=some (st,dm)->vo c.S (A.num st (pm A.M st)) (A.at st)=some (g.dat st (pm A.M st))) :
  Rpi A S0 g (l++[(d,k)]) c U':=by
 refine ⟨h.ci,h.on,h.dead,h.told,h.heads,fun st dm old k' hst he h1 h2 h3 h4=>?_,fun d' k' hm hs=>?_,?_⟩
 ·rcases List.mem_append.1 h3 with h3 | h3
  ·exact h.done st dm old k' hst he h1 h2 h3 h4
  ·have e:=List.mem_singleton.1 h3
   injection e with e1 e2
   rw [e1,e2] at h4
   exact hd st dm old hst he h1 h2 e1 h4
 ·rcases List.mem_append.1 hm with hm | hm
  ·have:=h.used d' k' hm hs
   rcases hU with e | e
   ·rw [e];exact this
   ·rw [e];exact has_putS h.isU (.inl this)
  ·have e:=List.mem_singleton.1 hm
   injection e with e1 e2
   subst e1 e2
   rw [hu hs]
   exact has_putS h.isU (.inr ⟨rfl,rfl⟩)
 ·rcases hU with e | e
  ·rw [e];exact h.isU
  ·rw [e];exact h.isU.put _ _
theorem rp_off {s:SuP} {LL M St:Nat} (hoff:S.off≠false) (h:RpR LL s M St U S o d k y e U'):y=3/\Same S e.S/\e.o=o:=by
 have h3:=gotY_off hoff d k
 cases h with
 | got S1 y t hs h0 _=>rw [h3] at h0;exact absurd h0 (by decide)
 | bad S1 hs h0=>rw [h3] at h0;exact absurd h0 (by decide)
 | none S1 hs h0=>rw [h3] at h0;exact absurd h0 (by decide)
 | no S1 hs _ _ _ _=>rw [h3];exact ⟨rfl,hs,rfl⟩
theorem Rpi.step (h:Rpi A S0 g l c U) (hl:Ld A c.S g) (h16:A.M<=16) (hd:d<A.n) (hk:k<A.L) (hR:RpR A.L A.s A.M A.St U c.S c.o d k y e U') :
  (∀d,Dead e.S d=Dead S0 d)/\Ci A e.S e.o g/\((y=0/\(e.S.off=false->Rpi A S0 g (l++[(d,k)]) e U'))\/(y=3/\e.S.off≠false)):=by
 have hok:=h.ci.ok
 have har:=h.ci.ar
 have fin:∀{e:Stt} {U':Set0},Rpi A S0 g (l++[(d,k)]) e U'->(∀d,Dead e.S d=Dead S0 d)/\Ci A e.S e.o g/\(((0:Int)=0/\(e.S.off=false->Rpi A S0 g (l++[(d,k)]) e U'))\/((0:Int)=3/\e.S.off≠false)) :=
  fun r=>⟨r.dead,r.ci,.inl ⟨rfl,fun _=>r⟩⟩
 by_cases hda:Dead c.S d=true
 ·-- the disk is dead
  have h4:=gotY_dead h.on hda k
  cases hR with
  | got S1 y t hs h0 _=>rw [h4] at h0;exact absurd h0 (by decide)
  | bad S1 hs h0=>rw [h4] at h0;exact absurd h0 (by decide)
  | none S1 hs h0=>rw [h4] at h0;exact absurd h0 (by decide)
  | no S1 hs _ _ _ _ =>
   rw [h4]
   have hsl:g.sl d k=none:=by
    cases hsl:g.sl d k with
    | none=>rfl
    | some x=>rw [(h.heads d k hd hk (by rw [hsl];simp)).1] at hda;cases hda
   exact fin ((h.same hs).add (.inl rfl) (fun e=>absurd hsl e) fun st dm old _ _ _ _ _ e=>by rw [hsl] at e;cases e)
 ·have hda:Dead c.S d=false:=by simpa using hda
  have hp:=(h.ci.disk d hd hda).now h.on
  cases hsl:g.sl d k with
  | none =>
   have h7:gotY c.S d k=7:=gotY_none h.on hda (by
    rcases hp.slot k hk with e1 | ⟨_,_,e1,_⟩
    ·exact e1.2
    ·rw [hsl] at e1;cases e1)
   cases hR with
   | got S1 y t hs h0 _=>rw [h7] at h0;exact absurd h0 (by decide)
   | bad S1 hs h0=>rw [h7] at h0;exact absurd h0 (by decide)
   | none S1 hs h0=>exact fin ((h.same hs).add (.inl rfl) (fun e=>absurd hsl e) fun st dm old _ _ _ _ _ e=>by rw [hsl] at e;cases e)
   | no S1 hs _ _ _ h0=>exact absurd h7 h0
  | some q =>
   obtain ⟨st,dm⟩:=q
   obtain ⟨hst,hdm,hne,hnum,_⟩:=hok.sl d k st dm hsl
   obtain ⟨hpl,hmem⟩:=plM_lt (st:=st) har.m3 hdm hne
   have hpt:Sh.Sec (partG g A.M st dm):=Sec.part hok har hst hdm
   have hrec:vo c.S d (2+2*k)=some (recH g A.M st dm)/\vo c.S d (3+2*k)=some (partG g A.M st dm):=by
    rcases hp.slot k hk with e1 | ⟨s1,s2,e1,e2⟩
    ·rw [e1.1] at hsl;cases hsl
    ·rw [hsl] at e1
     injection e1 with e1
     injection e1 with e3 e4
     subst e3 e4
     rcases e2 with ⟨_,e2⟩ | e2
     ·exact absurd e2 (h.heads d k hd hk (by rw [hsl];simp)).2
     ·exact e2
   have hs2:=har.s2
   obtain ⟨g0,g1,g2,g3⟩:=gotY_rec h.on hda (Nat.lt_of_lt_of_le hst hs2) (by omega) hpt hrec.1 hrec.2
   -- what is told of the stripe's data
   have data:Dead c.S (A.num st dm)=false->vo c.S (A.num st dm) (A.at st)=some (g.dat st dm):=fun ha=>h.told st hst dm hdm ha (.inl hne)
   cases hR with
   | bad S1 hs h0=>rw [g0] at h0;exact absurd h0 (by decide)
   | none S1 hs h0=>rw [g0] at h0;exact absurd h0 (by decide)
   | no S1 hs h0 _ _ _=>exact absurd g0 h0
   | got S1 y t hs _ hr =>
    rw [g1,g2,g3] at hr
    have i1:=h.same hs
    have bl:blkOn A.s A.M st (plM A.M st dm)=A.num st dm:=by
     unfold blkOn Ar.num
     rw [hmem]
    have mk:∀{e:Stt},Rpi A S0 g l e U->(∀old,g.op st=some (dm,old)->Dead e.S (A.num st dm)=false->Dead e.S d=false->vo e.S d (A.at st)=some (g.dat st (pm A.M st)))->Rpi A S0 g (l++[(d,k)]) e (DataW.put U (slotKey d k) one0):=fun r hh =>
     r.add (.inr rfl) (fun _=>rfl) fun st' dm' old' _ he h1 h2 h3 h4=>by
      rw [hsl] at h4
      injection h4 with h4
      injection h4 with e3 e4
      subst e3 e4
      rw [h3] at h2 ⊢
      exact hh old' he h1 h2
    cases hr with
    | beyond h0=>omega
    | other _ _ h0=>exact absurd hnum h0
    | lack _ _ _ h0 =>
     rw [bl] at h0 ⊢
     have hrd:=rdY_seen (S:=S1) i1.on (A.num st dm) (2+2*A.L+st)
     have hde:Dead S1 (A.num st dm)=true:=by
      cases hx:Dead S1 (A.num st dm) with
      | true=>rfl
      | false =>
       have:=data ((dead_same hs _).symm.trans hx)
       rw [<- vo_same hs,<- seen_alive hx i1.on] at this
       exact absurd (seen_some i1.on this).1 h0
     rcases hrd with ⟨e0,_⟩ | ⟨e0,_⟩
     ·exact absurd e0 h0
     ·rw [if_pos e0]
      have hs3:Same S1 (Looked S1 (A.num st dm)):=(Same.refl S1).looked _
      exact fin (mk (i1.same hs3) fun old _ h1 _=>by
       have h1:Dead (Looked S1 (A.num st dm)) (A.num st dm)=false:=h1
       rw [dead_same hs3,hde] at h1;cases h1)
    | done y t _ _ _ h0 hm =>
     rw [bl] at h0 hm
     have hs3:Same S1 (Looked S1 (A.num st dm)):=(Same.refl S1).looked _
     have hal:Dead S1 (A.num st dm)=false:=by
      cases hx:Dead S1 (A.num st dm) with
      | false=>rfl
      | true =>
       unfold rdY at h0
       rw [dead_why hx i1.on,if_neg (by decide)] at h0
       exact absurd h0 (by decide)
     have hv:V S1 (A.num st dm) (dataOf (2+2*A.L+st))=g.dat st dm:=by
      have:=data ((dead_same hs _).symm.trans hal)
      rw [<- vo_same hs,<- seen_alive hal i1.on] at this
      exact (seen_some i1.on this).2
     rw [hv,part_old hok har hst hdm] at hm
     have i2:=i1.same hs3
     generalize Looked S1 (A.num st dm)=S2 at *
     have hda2:Dead S2 d=false:=(dead_same hs3 d).trans ((dead_same hs d).trans hda)
     have hs4:Same S2 (Looked S2 d):=(Same.refl S2).looked _
     have i3:=i2.same hs4
     rcases hm with ⟨e1,e2,rfl,rfl⟩ | ⟨_,z,S',hD,rfl⟩
     ·refine fin (mk i3 fun _ _ _ _=>?_)
      have hq:=rdY_seen (S:=S2) i2.on d (2+2*A.L+st)
      rcases hq with ⟨_,e3⟩ | ⟨e3,_⟩
      ·rw [seen_alive hda2 i2.on,e2] at e3
       show vo (Looked S2 d) d _=_
       rw [vo_same hs4]
       exact e3
      ·rw [e1] at e3;exact absurd e3 (by decide)
     ·generalize Looked S2 d=S3 at *
      have hda3:Dead S3 d=false:=(dead_same hs4 d).trans hda2
      have hl3:Ld A S3 g:=hl.dead fun d=>(dead_same hs4 d).trans ((dead_same hs3 d).trans (dead_same hs d))
      subst hnum
      obtain ⟨q1,q2,q3,q4,q5,q6,q7⟩:=i3.ci.put (m:=pm A.M st) hl3 hst (pm_lt har st) hda3 hD
      have hdd:∀d,Dead S' d=Dead S0 d:=fun d=>(q6 d).trans (i3.dead d)
      refine ⟨hdd,q1,?_⟩
      rcases q4 with e0 | e0
      ·subst e0
       refine .inl ⟨rfl,fun hon=>?_⟩
       have hv2:=q2 rfl
       have hat:vo S' (A.num st (pm A.M st)) (A.at st)=some (g.dat st (pm A.M st)):=by
        rw [hv2];exact if_pos rfl
       -- all else stays
       have keep:∀d' j,¬(d'=A.num st (pm A.M st)/\j=A.at st)->vo S' d' j=vo S3 d' j:=fun d' j hn=>by
        by_cases c1:d'=A.num st (pm A.M st)
        ·rw [c1,hv2];exact if_neg fun e=>hn ⟨c1,e⟩
        ·rw [q7 d' c1]
       have sput:∀st' m,st'<A.St->m<A.M->vo S3 (A.num st' m) (A.at st')=some (g.dat st' m)->vo S' (A.num st' m) (A.at st')=some (g.dat st' m):=fun st' m hst' hm e=>by
        by_cases c1:st'=st
        ·subst c1
         by_cases c2:m=pm A.M st'
         ·rw [c2];exact hat
         ·rw [keep _ _ fun e2=>c2 (har.inj st' m _ hm (pm_lt har st') e2.1)];exact e
        ·rw [keep _ _ fun e2=>c1 (by have:=e2.2;unfold Ar.at at this;omega)];exact e
       have i4:Rpi A S0 g l ⟨S',put1 c.o (A.num st (pm A.M st)) z⟩ U:=by
        refine ⟨q1,hon,hdd,fun st' hst' m hm ha hc=>?_,fun d' k' hd' hk' e=>?_,fun st' dm' old' k' hst' he h1 h2 h3 h4=>?_,i3.used,i3.isU⟩
        ·refine sput st' m hst' hm (i3.told st' hst' m hm ((q6 _).symm.trans ha) (hc.imp id (Or.imp id fun e dm old he=>(q6 _).symm.trans (e dm old he))))
        ·obtain ⟨a1,a2⟩:=i3.heads d' k' hd' hk' e
         refine ⟨(q6 d').trans a1,?_⟩
         show vo S' d' _≠_
         rw [keep _ _ fun e2=>by have:=e2.2;unfold Ar.at at this;omega]
         exact a2
        ·exact sput st' _ hst' (pm_lt har st') (i3.done st' dm' old' k' hst' he ((q6 _).symm.trans h1) ((q6 _).symm.trans h2) h3 h4)
       exact mk i4 fun _ _ _ _=>hat
      ·exact .inr ⟨e0,fun e1=>by rw [(q3 e1).1] at e0;exact absurd e0 (by decide)⟩
theorem Rpi.steps {a b:Stt} {ds:List (Nat × Nat)} (hR:RpSteps A.L A.s A.M A.St ds a U b U') (h:Rpi A S0 g [] a U) (hl:Ld A S0 g) (h16:A.M<=16) (hx:∀x∈ds,x.1<A.n/\x.2<A.L) :
  (∀d,Dead b.S d=Dead S0 d)/\Ci A b.S b.o g/\(b.S.off=false->Rpi A S0 g ds b U'):=by
 induction hR with
 | nil=>exact ⟨h.dead,h.ci,fun _=>h⟩
 | @snoc _ _ _ _ b1 _ _ _ _ h1 h2 ih =>
  obtain ⟨i1,i2,i3⟩:=ih h (fun x e=>hx x (List.mem_append_left _ e))
  obtain ⟨x1,x2⟩:=hx _ (List.mem_append_right _ (List.mem_singleton.2 rfl))
  by_cases hon:b1.S.off=false
  ·obtain ⟨r1,r2,r3⟩:=(i3 hon).step (hl.dead i1) h16 x1 x2 h2
   refine ⟨r1,r2,fun e=>?_⟩
   rcases r3 with ⟨_,r3⟩ | ⟨r3,_⟩
   ·exact r3 e
   ·exact absurd r3 (by decide)
  ·exact absurd (rp_off hon h2).1 (by decide)
theorem Rpi.fi {b:Stt} (h:Rpi A S0 g (slotsTo A.L A.n 0) b U):Fi A b.S b.o g U:=by
 have har:=h.ci.ar
 refine Fi.of h.ci h.on (fun st m hst hm ha=>?_) (fun d k hd hk e=>h.used d k (mem_slotsTo hd hk) e)
 by_cases c1:m=pm A.M st
 ·cases hop:g.op st with
  | none=>exact h.told st hst m hm ha (.inr (.inl hop))
  | some q =>
   obtain ⟨dm,old⟩:=q
   cases hd:Dead b.S (A.num st dm) with
   | true=>exact h.told st hst m hm ha (.inr (.inr fun dm' old' e=>by
     rw [hop] at e
     injection e with e
     injection e with e1 e2
     rw [<- e1];exact hd))
   | false =>
    subst c1
    obtain ⟨k,hk,e1,_⟩:=h.ci.rc st dm old hop hd ha
    exact h.done st dm old k hst hop hd ha (mem_slotsTo (har.num st _ hm) hk) e1
 ·exact h.told st hst m hm ha (.inl c1)
theorem Rpi.all {a b:Stt} (h:Rpi A S0 g [] a U) (hl:Ld A S0 g) (h16:A.M<=16) (hR:RplR A.n A.L A.s A.M A.St a U y b U') :
  (∀d,Dead b.S d=Dead S0 d)/\Ci A b.S b.o g/\((y=0/\(b.S.off=false->Fi A b.S b.o g U'))\/(y=3/\b.S.off≠false)):=by
 rcases hR with ⟨rfl,hs⟩ | ⟨hy,j,k,c,U1,hj,hk,hs,hr⟩
 ·obtain ⟨i1,i2,i3⟩:=h.steps hs hl h16 fun x e=>slotsTo_all e
  exact ⟨i1,i2,.inl ⟨rfl,fun hon=>(i3 hon).fi⟩⟩
 ·obtain ⟨i1,i2,i3⟩:=h.steps hs hl h16 fun x e=>slotsTo_lt hj (Nat.le_of_lt hk) e
  by_cases hon:c.S.off=false
  ·obtain ⟨r1,r2,r3⟩:=(i3 hon).step (hl.dead i1) h16 hj hk hr
   rcases r3 with ⟨r3,_⟩ | r3
   ·exact absurd r3 hy
   ·exact ⟨r1,r2,.inr r3⟩
  ·obtain ⟨r1,r2,r3⟩:=rp_off hon hr
   refine ⟨fun d=>(dead_same r2 d).trans (i1 d),?_,.inr ⟨r1,fun e=>hon (r2.off.symm.trans e)⟩⟩
   rw [r3]
   exact i2.same r2
end
structure Rest (A:Ar) (S:Sh.Sf) (g:Gh):Prop where
 ci:Ci A S (fun _=>-1) g
 quiet:∀d,d<A.n->Dead S d=false->Jp2 S d (-1) (fun c=>c=vo S d)
section
variable {A:Ar} {S S0 S':Sh.Sf} {o:Nat->Int} {g g':Gh} {D U U':Set0} {d k st dm:Nat} {y z:Int} {b x old h q:Sh.Bs} {c e:Stt} {l:List (Nat × Nat)}
theorem Ci.crash (h:Ci A S o g) (ks:List (List Int)):Rest A (S.crash ks) g/\(∀d,d<A.n->Dead (S.crash ks) d=Dead S d)/\(S.crash ks).off=false/\(S.crash ks).left=0:=by
 have hd:∀d,d<A.n->Dead (S.crash ks) d=Dead S d:=fun d hd=>dead_crash ks (by rw [h.len];exact hd)
 have hsec:=h.sec.crash ks
 have hlen:(S.crash ks).disks.length=A.n:=(Sh.crash_length S ks).trans h.len
 have hse:(S.crash ks).sectors=S.sectors:=rfl
 have hj:=fun d (h1:d<A.n) (h2:Dead (S.crash ks) d=false)=>(h.disk d h1 ((hd d h1).symm.trans h2)).crash ks (fun n hn=>(hsec.V (by rw [hlen];exact h1) (by rw [hse];exact hn)).1) (-1)
 refine ⟨⟨⟨h.ar,h.ok,fun d h1 h2=>?_,fun st m h1 h2 h3=>h.dead st m h1 h2 ((hd _ (h.ar.num st m h2)).symm.trans h3),fun st dm old he h2 h3=>?_,hlen,?_,hsec⟩,fun d h1 h2=>(hj d h1 h2).1⟩,hd,rfl,rfl⟩
 ·obtain ⟨j1,j2,_⟩:=hj d h1 h2
  exact j1.more fun c hc=>by rw [hc];exact j2
 ·obtain ⟨_,hdm,_⟩:=h.ok.op st dm old he
  exact h.rc st dm old he ((hd _ (h.ar.num st dm hdm)).symm.trans h2) ((hd _ (h.ar.num st _ (pm_lt h.ar st))).symm.trans h3)
 ·rw [hse];exact h.fit
theorem Rest.same (h:Rest A S g) (hs:Same S S'):Rest A S' g :=
 ⟨h.ci.same hs,fun d hd ha=>by
  rw [vo_same hs]
  exact (h.quiet d hd ((dead_same hs d).symm.trans ha)).same hs⟩
/-! ### what the disks say -/
def saidOf (s:SuP) (d:Nat):SuP:={ s with disk:=(d:Int) }
structure Said (A:Ar):Prop where
 q:∀d c0 c1,A.Q d c0 c1->c0=some Sh.noughts/\c1=some (Go.Proofs.YtepoepmndckmaaaGreatDoor.S.encL (saidOf A.s d).nums)
 gen:A.s.gen=1
 right:∀d,d<A.n->(saidOf A.s d).right=true
 mem:A.s.mem=(A.M:Int)
 str:A.s.str=(A.St:Int)
 logs:A.s.logs=(A.L:Int)
 fit:Fit A.n A.s
 m16:A.M<=16
 st1:1<=A.St
theorem okD_enc {s:SuP} (hr:s.right=true):Go.Proofs.YtepoepmndckmaaaGreatDoor.S.okD (Go.Proofs.YtepoepmndckmaaaGreatDoor.S.encL s.nums)=true:=by
 unfold Go.Proofs.YtepoepmndckmaaaGreatDoor.S.okD
 rw [Go.Proofs.YtepoepmndckmaaaGreatDoor.S.supOf_enc hr,hr]
 simp
theorem okD_noughts:Go.Proofs.YtepoepmndckmaaaGreatDoor.S.okD Sh.noughts=false:=by decide
theorem Rest.say (h:Rest A S g) (hs:Said A) (hon:S.off=false) (hd:d<A.n) :
  (Dead S d=true->∀b,sayO S d b=none)/\(Dead S d=false->sayO S d 0=none/\sayO S d 1=some (saidOf A.s d)):=by
 refine ⟨fun hda b=>sayO_no fun e=>?_,fun hda=>?_⟩
 ·unfold rdY at e
  rw [dead_why hda hon,if_neg (by decide)] at e
  exact absurd e (by decide)
 ·have hp:=(h.ci.disk d hd hda).now hon
  obtain ⟨q0,q1⟩:=hs.q d _ _ hp.said
  obtain ⟨a1,a2⟩:=seen_some hon (by rw [seen_alive hda hon];exact q0)
  obtain ⟨b1,b2⟩:=seen_some hon (by rw [seen_alive hda hon];exact q1)
  refine ⟨sayO_bad (by rw [a2];exact okD_noughts),?_⟩
  rw [sayO_yes b1 (by rw [b2];exact okD_enc (hs.right d hd)) (by
   rw [b2,Go.Proofs.YtepoepmndckmaaaGreatDoor.S.supOf_enc (hs.right d hd)]
   refine ⟨rfl,?_,by rw [h.ci.len];exact hs.fit,?_⟩
   ·show A.s.gen%2=_
    rw [hs.gen];rfl
   ·show 2+2*A.s.logs.toNat+A.s.str.toNat<=_
    rw [hs.logs,hs.str]
    exact h.ci.fit),b2,Go.Proofs.YtepoepmndckmaaaGreatDoor.S.supOf_enc (hs.right d hd)]
theorem Rest.says (h:Rest A S g) (hs:Said A) (hon:S.off=false) (hd:d<A.n) {b:Nat} {x:SuP} (hb:b<2) (hx:sayO S d b=some x):Dead S d=false/\b=1/\x=saidOf A.s d:=by
 obtain ⟨h1,h2⟩:=h.say hs hon hd
 cases hda:Dead S d with
 | true=>rw [h1 hda] at hx;cases hx
 | false =>
  obtain ⟨e0,e1⟩:=h2 hda
  obtain rfl | rfl:b=0\/b=1:=by omega
  ·rw [e0] at hx;cases hx
  ·rw [e1] at hx
   injection hx with hx
   exact ⟨rfl,rfl,hx.symm⟩
theorem Rest.sayIs (h:Rest A S g) (hs:Said A) (hon:S.off=false) (hd:d<A.n) {b:Nat} {x:SuP} (hb:b<2) (hx:sayO S d b=some x):SayIs A.n (blk S.sectors) d b x:=by
 obtain ⟨_,rfl,rfl⟩:=h.says hs hon hd hb hx
 have hf:=h.ci.fit
 refine ⟨hs.right d hd,rfl,?_,hs.fit,?_⟩
 ·show A.s.gen%2=_
  rw [hs.gen];rfl
 ·show 2+2*A.s.logs.toNat+A.s.str.toNat<=_
  rw [hs.logs,hs.str]
  exact hf
theorem Ci.alive (h:Ci A S o g) (h1:1<=A.St):∃d,d<A.n/\Dead S d=false:=by
 have h3:=h.ar.m3
 cases h0:Dead S (A.num 0 0) with
 | false=>exact ⟨_,h.ar.num 0 0 (by omega),h0⟩
 | true =>
  cases h2:Dead S (A.num 0 1) with
  | false=>exact ⟨_,h.ar.num 0 1 (by omega),h2⟩
  | true=>exact absurd (h.ok.lack 0 0 1 (by omega) (by omega) (by omega) (h.dead 0 0 (by omega) (by omega) h0) (h.dead 0 1 (by omega) (by omega) h2)) (by decide)
theorem Rest.newest (h:Rest A S g) (hs:Said A) (hon:S.off=false):sayTo S A.n 0≠[]/\∃d,d<A.n/\newestOf (sayTo S A.n 0)=saidOf A.s d:=by
 obtain ⟨d,hd,ha⟩:=h.ci.alive hs.st1
 have hne:sayTo S A.n 0≠[]:=by
  intro e
  have:saidOf A.s d∈sayTo S A.n 0:=by
   unfold sayTo
   exact List.mem_filterMap.2 ⟨(d,1),mem_slotsTo hd (by decide),((h.say hs hon hd).2 ha).2⟩
  rw [e] at this
  cases this
 obtain ⟨d',b,h1,h2,h3⟩:=mem_sayTo (mem_newest hne)
 exact ⟨hne,d',h1,(h.says hs hon h1 h2 h3).2.2⟩
theorem alike_said (s:SuP) (d e:Nat):alikeB (saidOf s d) (saidOf s e)=true:=by
 unfold alikeB saidOf
 simp
theorem Rest.agreeStep (h:Rest A c.S g) (hs:Said A) (hon:c.S.off=false) (hd:d<A.n) {d0:Nat} (hR:AgStep (saidOf A.s d0) 1 d c y e):y=0/\Same c.S e.S/\e.o=c.o:=by
 cases hR with
 | says S1 x hss _ _=>exact ⟨rfl,hss,rfl⟩
 | other S1 z o' S' hss hno hu =>
  cases hda:Dead c.S d with
  | false =>
   have:=hno _ ((h.say hs hon hd).2 hda).2
   rw [alike_said] at this;cases this
  | true =>
   have hw:Sh.why S1 d=4:=dead_why ((dead_same hss d).trans hda) (hss.off.trans hon)
   obtain ⟨y1,o1,S2,hD,hy⟩:=hu
   rcases hD with ⟨_,e1,e2,e3⟩ | ⟨e1,_⟩
   ·rw [hw] at e1
    rcases hy with ⟨_,e4,e5,e6⟩ | ⟨e4,_⟩
    ·rw [e4,e1,e5,e2,e6,e3]
     exact ⟨rfl,hss,put1_same _ _⟩
    ·rw [e1] at e4;exact absurd e4 (by decide)
   ·rw [hw] at e1;exact absurd e1 (by decide)
theorem Rest.agreeSteps {a b:Stt} {d0 j:Nat} (hR:AgSteps (saidOf A.s d0) 1 j a b) (h:Rest A a.S g) (hs:Said A) (hon:a.S.off=false) (hj:j<=A.n):Same a.S b.S/\b.o=a.o:=by
 induction hR with
 | nil=>exact ⟨Same.refl _,rfl⟩
 | snoc h1 h2 ih =>
  obtain ⟨i1,i2⟩:=ih h hon (by omega)
  obtain ⟨_,k1,k2⟩:=(h.same i1).agreeStep hs (i1.off.trans hon) (by omega) h2
  exact ⟨i1.trans k1,k2.trans i2⟩
theorem Rest.agree {a b:Stt} {d0:Nat} (h:Rest A a.S g) (hs:Said A) (hon:a.S.off=false) (hR:AgR A.n (saidOf A.s d0) 1 a y b):y=0/\Same a.S b.S/\b.o=a.o:=by
 rcases hR with ⟨rfl,hR⟩ | ⟨hy,j,c,hj,h1,h2⟩
 ·exact ⟨rfl,h.agreeSteps hR hs hon (Nat.le_refl _)⟩
 ·obtain ⟨i1,i2⟩:=h.agreeSteps h1 hs hon (Nat.le_of_lt hj)
  exact absurd ((h.same i1).agreeStep hs (i1.off.trans hon) hj h2).1 hy
end
def Ar.as (A:Ar) (d:Nat):Ar:={ A with s:=saidOf A.s d }
structure Gm (M:Nat) (g' g:Gh):Prop where
 lack:g'.lack=g.lack
 dat:∀st m,m≠pm M st->g'.dat st m=g.dat st m\/g.op st=some (m,g'.dat st m)
 op:∀st dm old,g'.op st=some (dm,old)->old=g.dat st dm\/g.op st=some (dm,old)
theorem Gr.gm {M:Nat} {g' g:Gh} (h:Gr M g' g):Gm M g' g:=by
 refine ⟨h.lack,fun st m hm=>?_,fun st dm old e=>?_⟩
 ·rcases h.each st with ⟨e,_⟩ | ⟨dm,old,e1,e2,_,e4⟩
  ·exact .inl (by rw [e])
  ·by_cases c:m=dm
   ·exact .inr (by rw [c,e2];exact e1)
   ·exact .inl (e4 m c hm)
 ·rcases h.each st with ⟨_,e1⟩ | ⟨dm',old',_,_,e3,_⟩
  ·exact .inr (by rw [<- e1];exact e)
  ·rw [e3] at e
   injection e with e
   injection e with e1 e2
   exact .inl (by rw [<- e1];exact e2.symm)
theorem Gm.gle {M:Nat} {g'' g' g:Gh} (h:Gm M g' g) (k:Gle g'' g'):Gm M g'' g :=
 ⟨k.lack.trans h.lack,fun st m hm=>by rw [k.dat];exact h.dat st m hm,fun st dm old e=>h.op st dm old (k.op st _ e)⟩
section
variable {A:Ar} {S S0 S':Sh.Sf} {o:Nat->Int} {g g':Gh} {D U U':Set0} {d k st dm:Nat} {y z:Int} {b x old h q:Sh.Bs} {c e t:Stt} {l:List (Nat × Nat)}
theorem Pd.as {c:Nat->Option Sh.Bs} {e:Nat} (h:Pd A g d c):Pd (A.as e) g d c:=⟨h.blk,h.slot,h.part,h.said⟩
theorem Ci.as {e:Nat} (h:Ci A S o g):Ci (A.as e) S o g :=
 ⟨⟨h.ar.m3,h.ar.l1,h.ar.n17,h.ar.l8,h.ar.s2,h.ar.num,h.ar.inj⟩,⟨h.ok.sum,h.ok.sec,h.ok.op,h.ok.sl,h.ok.lack⟩,fun d hd ha=>(h.disk d hd ha).more fun _ hc=>hc.as,h.dead,h.rc,h.len,h.fit,h.sec⟩
theorem Said.as {e:Nat} (h:Said A):Said (A.as e):=⟨h.q,h.gen,h.right,h.mem,h.str,h.logs,h.fit,h.m16,h.st1⟩
theorem Rest.opened (h:Rest A S g) (hl:Ld A S g) (hs:Said A) (hon:S.off=false) (hR:OpenR A.n S y t) :
  ∃d0 g',d0<A.n/\newestOf (sayTo S A.n 0)=saidOf A.s d0/\Gm A.M g' g/\(∀d,Dead t.S d=Dead S d) /\
   ((y=0/\Ci (A.as d0) t.S t.o g'/\(∀st,g'.op st=none)/\(t.S.off=false->Oi (A.as d0) t.S t.o g' noSet noSet))\/(y=3/\t.S.off≠false/\Ci (A.as d0) t.S t.o g')):=by
 obtain ⟨hne,d0,hd0,hnw⟩:=h.newest hs hon
 have hslot:slotOf (saidOf A.s d0)=1:=by
  show (A.s.gen%2).toNat=1
  rw [hs.gen];rfl
 have hlg:(saidOf A.s d0).logs.toNat=A.L:=by show A.s.logs.toNat=_;rw [hs.logs];rfl
 have hmm:(saidOf A.s d0).mem.toNat=A.M:=by show A.s.mem.toNat=_;rw [hs.mem];rfl
 have hst:(saidOf A.s d0).str.toNat=A.St:=by show A.s.str.toNat=_;rw [hs.str];rfl
 -- the stripes are told,and records that are none are none
 obtain ⟨g1,t1,t2,t3,t4,_⟩:=h.ci.tellAll hl hon A.St (Nat.le_refl _)
 have t5:=(t1.strip hon h.quiet).as (e:=d0)
 have hg2:Gm A.M (g1.strip S) g:=t4.gm.gle ⟨rfl,fun _ _ e=>e,rfl⟩
 have hl2:Ld (A.as d0) S (g1.strip S):=fun st m a b e=>hl st m a b (by rw [<- t4.lack];exact e)
 have i0:Rpi (A.as d0) S (g1.strip S) [] ⟨S,fun _=>-1⟩ noSet :=
  ⟨t5,hon,fun _=>rfl,fun st hst=>t2 st hst,fun d k _ _ e=>by
   cases hx:(g1.strip S).sl d k with
   | none=>exact absurd hx e
   | some q=>exact (strip_sl hx).2,(fun _ _ _ _ _ _ _ _ e=>by cases e),(fun _ _ e=>by cases e),isMap_empty⟩
 have hag:∀{S1:Sh.Sf} {z:Int} {b:Stt},Same S S1->AgR A.n (saidOf A.s d0) 1 ⟨S1,fun _=>-1⟩ z b->z=0/\Same S b.S/\b.o=fun _=>-1:=fun hss hr=>by
  obtain ⟨r1,r2,r3⟩:=(h.same hss).agree (a:=⟨_,fun _=>-1⟩) hs (hss.off.trans hon) hr
  exact ⟨r1,hss.trans r2,r3⟩
 have hrp:∀{b t:Stt} {z:Int} {U:Set0},Same S b.S->b.o=(fun _=>-1)->RplR A.n A.L (saidOf A.s d0) A.M A.St b noSet z t U ->
   (∀d,Dead t.S d=Dead S d)/\Ci (A.as d0) t.S t.o (g1.strip S)/\((z=0/\(t.S.off=false->Fi (A.as d0) t.S t.o (g1.strip S) U))\/(z=3/\t.S.off≠false)):=fun {b} {t} {z} {U} hss ho hr=>by
  have i1:=i0.same (S':=b.S) hss
  have hb:(⟨b.S,fun _=>-1⟩:Stt)=b:=by rw [<- ho]
  have i1:Rpi (A.as d0) S (g1.strip S) [] ⟨b.S,fun _=>-1⟩ noSet:=i1
  rw [hb] at i1
  exact i1.all hl2 hs.m16 hr
 cases hR with
 | off h0=>exact absurd hon h0
 | none S1 _ _ h0=>exact absurd h0 hne
 | agree S1 y b _ hss _ hr hy =>
  rw [hnw,hslot] at hr
  exact absurd (hag hss hr).1 hy
 | replay S1 b y t U _ hss _ hr hp hy =>
  rw [hnw,hslot] at hr
  rw [hnw,hlg,hmm,hst] at hp
  obtain ⟨_,a2,a3⟩:=hag hss hr
  obtain ⟨p1,p2,p3⟩:=hrp a2 a3 hp
  rcases p3 with ⟨p3,_⟩ | ⟨p3,p4⟩
  ·exact absurd p3 hy
  ·exact ⟨d0,_,hd0,hnw,hg2,p1,.inr ⟨p3,p4,p2⟩⟩
 | flush S1 b t U y e D' U' _ hss _ hr hp hf =>
  rw [hnw,hslot] at hr
  rw [hnw,hlg,hmm,hst] at hp
  rw [hnw,hlg] at hf
  obtain ⟨_,a2,a3⟩:=hag hss hr
  obtain ⟨p1,p2,p3⟩:=hrp a2 a3 hp
  rcases p3 with ⟨_,p3⟩ | ⟨p3,_⟩
  ·by_cases hton:t.S.off=false
   ·have hfi:=p3 hton
    obtain ⟨q1,q2⟩:=hfi.flush hf
    have hdd:=fun d=>(q1 d).trans (p1 d)
    rcases q2 with ⟨r1,_,_,r2,r3⟩ | ⟨r1,r2,g3,r3,r4⟩
    ·exact ⟨d0,_,hd0,hnw,hg2.gle (gle_closed _),hdd,.inl ⟨r1,r2,fun _=>rfl,r3⟩⟩
    ·exact ⟨d0,g3,hd0,hnw,hg2.gle r3,hdd,.inr ⟨r1,r2,r4⟩⟩
   ·-- the power went with the last block that was replayed
    have h3:=fdS_off hton p2.n1
    have h3:fdS t.S A.n=(t.S,3):=h3
    have off:∀{o':Nat->Int},Ci (A.as d0) t.S o' (g1.strip S):=⟨p2.ar,p2.ok,fun d x1 x2=>(p2.disk d x1 x2).off_any hton _,p2.dead,p2.rc,p2.len,p2.fit,p2.sec⟩
    cases hf with
    | first o' h0 =>
     rw [h3]
     exact ⟨d0,_,hd0,hnw,hg2,p1,.inr ⟨rfl,hton,off⟩⟩
    | none o' h0 _=>exact absurd ((congrArg Prod.snd h3).symm.trans h0) (show ¬(3:Int)=0 by decide)
    | slots o1 y b h0 _ _ _=>exact absurd ((congrArg Prod.snd h3).symm.trans h0) (show ¬(3:Int)=0 by decide)
    | again o1 o' b h0 _ _ _=>exact absurd ((congrArg Prod.snd h3).symm.trans h0) (show ¬(3:Int)=0 by decide)
    | all o1 o' b h0 _ _ _=>exact absurd ((congrArg Prod.snd h3).symm.trans h0) (show ¬(3:Int)=0 by decide)
  ·exact absurd p3 (by decide)
end
def Pw (S:Sh.Sf):Prop:=S.off=false/\S.left=0
section
variable {S S':Sh.Sf} {o:Nat->Int} {d k:Nat} {y z:Int} {b:Sh.Bs} {D U D' U':Set0} {a e t:Stt}
theorem Pw.wr (h:Pw S) (d n:Nat) (b:Sh.Bs):Pw (Wr S d n b):=by
 unfold Wr
 split
 ·refine ⟨?_,?_⟩
  ·show Sh.offAt S.left S.off=false
   unfold Sh.offAt
   rw [h.2,if_pos rfl];exact h.1
  ·show S.left-1=0
   rw [h.2]
 ·exact h
theorem Pw.fl (h:Pw S) (d:Nat):Pw (Fl S d):=by
 unfold Fl
 split
 ·refine ⟨?_,?_⟩
  ·show Sh.offAt S.left S.off=false
   unfold Sh.offAt
   rw [h.2,if_pos rfl];exact h.1
  ·show S.left-1=0
   rw [h.2]
 ·exact h
theorem Pw.same (h:Pw S) (hs:Same S S'):Pw S':=⟨hs.off.trans h.1,hs.left.trans h.2⟩
theorem Pw.looked (h:Pw S) (d:Nat):Pw (Looked S d):=h.same ((Same.refl S).looked d)
theorem Pw.fli (h:Pw S) (d:Nat) (o:Int) (k:Nat):Pw (flIf S d o k):=by
 unfold flIf
 split
 ·exact h.fl d
 ·exact h
theorem Pw.spi (h:Pw S) (d k:Nat) (g:Bool) (s sum:Nat) (b:Sh.Bs):Pw (spIf S d k g s sum b):=by
 unfold spIf
 split
 ·first
  | exact (h.wr _ _ _).fl d
  | exact h.wr _ _ _
 ·exact h
theorem Pw.ready (h:Pw S) (d:Nat) (o:Int) (k:Nat) (b b':Sh.Bs):Pw (Ready S d o k b b'):=by
 unfold Ready ReadyQ
 exact (((((h.looked d).fli d o k).spi d k _ _ _ b')).wr _ _ _).fl d
theorem Pw.dw {o y o':Int} (h:Pw S) (hD:DW S d o k b y o' S'):Pw S':=by
 rcases hD with ⟨_,_,_,rfl⟩ | ⟨_,b',R,_,rfl,_,_,_,_,rfl⟩
 ·exact h
 ·exact (h.ready d o k b b').wr _ _ _
theorem Pw.fds (h:Pw S):∀n,Pw (fdS S n).1
 | 0=>h
 | n+1=>by
  unfold fdS
  split
  ·exact (h.fds n).fl n
  ·exact h.fds n
theorem Pw.clrStep {x:Nat × Nat} {c e:Stt} (h:Pw c.S) (hC:ClrStep U x c y e):Pw e.S:=by
 rcases hC with ⟨_,_,rfl⟩ | ⟨_,z,z',hD,_,_⟩
 ·exact h
 ·exact h.dw hD
theorem Pw.clrSteps {l:List (Nat × Nat)} {c e:Stt} (hC:ClrSteps U l c e) (h:Pw c.S):Pw e.S:=by
 induction hC with
 | nil=>exact h
 | snoc _ h2 ih=>exact (ih h).clrStep h2
theorem Pw.clrR {n L:Nat} {c e:Stt} (h:Pw c.S) (hC:ClrR n L U c y e):Pw e.S:=by
 rcases hC with ⟨_,h1⟩ | ⟨_,_,_,_,_,_,h1,h2⟩
 ·exact Pw.clrSteps h1 h
 ·exact (Pw.clrSteps h1 h).clrStep h2
theorem Pw.flR {n L:Nat} (h:Pw S) (hF:FlR n L D U S y e D' U'):Pw e.S:=by
 cases hF with
 | first o' _=>exact h.fds n
 | slots o1 y b _ _ hC _=>exact Pw.clrR (c:=⟨_,_⟩) (h.fds n) hC
 | again o1 o' b _ _ hC _=>exact (Pw.clrR (c:=⟨_,_⟩) (h.fds n) hC).fds n
 | none o' _ _=>exact h.fds n
 | all o1 o' b _ _ hC _=>exact (Pw.clrR (c:=⟨_,_⟩) (h.fds n) hC).fds n
theorem Pw.sur {o y o':Int} (h:Pw S) (hS:SuR S d o k b y o' S'):Pw S':=by
 obtain ⟨_,_,_,h1,⟨_,_,_,rfl⟩ | ⟨_,_,_,rfl⟩⟩:=hS
 ·exact h.dw h1
 ·exact (h.dw h1).fl d
theorem Pw.agStep {x:SuP} (h:Pw a.S) (hA:AgStep x k d a y e):Pw e.S:=by
 cases hA with
 | says S1 _ hs _ _=>exact h.same hs
 | other S1 z o' S' hs _ hu=>exact (h.same hs).sur hu
theorem Pw.agSteps {x:SuP} {j:Nat} (hA:AgSteps x k j a e) (h:Pw a.S):Pw e.S:=by
 induction hA with
 | nil=>exact h
 | snoc _ h2 ih=>exact (ih h).agStep h2
theorem Pw.agR {n:Nat} {x:SuP} (h:Pw a.S) (hA:AgR n x k a y e):Pw e.S:=by
 rcases hA with ⟨_,h1⟩ | ⟨_,_,_,_,h1,h2⟩
 ·exact Pw.agSteps h1 h
 ·exact (Pw.agSteps h1 h).agStep h2
theorem Pw.mkS (h:Pw S) (hM:MkS S o d k b y e):Pw e.S:=by
 rcases hM with ⟨_,_,_,rfl⟩ | ⟨_,z,S',hD,rfl⟩
 ·exact h.looked d
 ·exact (h.looked d).dw hD
theorem Pw.redo {LL M St nr rs rp:Nat} {s:SuP} {l:Sh.Bs} (h:Pw S) (hR:RedoR LL s M St nr rs rp l S o y e):Pw e.S:=by
 cases hR with
 | beyond _=>exact h
 | other _ _ _=>exact h
 | lack _ _ _ _=>exact h.looked _
 | done y t _ _ _ _ hm=>exact (h.looked _).mkS hm
theorem Pw.rp {LL M St:Nat} {s:SuP} (h:Pw S) (hR:RpR LL s M St U S o d k y e U'):Pw e.S:=by
 cases hR with
 | got S1 y t hs _ hr=>exact (h.same hs).redo hr
 | bad S1 hs _=>exact h.same hs
 | none S1 hs _=>exact h.same hs
 | no S1 hs _ _ _ _=>exact h.same hs
theorem Pw.rpSteps {LL M St:Nat} {s:SuP} {l:List (Nat × Nat)} (hR:RpSteps LL s M St l a U e U') (h:Pw a.S):Pw e.S:=by
 induction hR with
 | nil=>exact h
 | snoc _ h2 ih=>exact (ih h).rp h2
theorem Pw.rplR {n LL M St:Nat} {s:SuP} (h:Pw a.S) (hR:RplR n LL s M St a U y e U'):Pw e.S:=by
 rcases hR with ⟨_,h1⟩ | ⟨_,_,_,_,_,_,_,h1,h2⟩
 ·exact Pw.rpSteps h1 h
 ·exact (Pw.rpSteps h1 h).rp h2
theorem Pw.openR {n:Nat} (h:Pw S) (hR:OpenR n S y t):Pw t.S:=by
 cases hR with
 | off _=>exact h
 | none S1 _ hs _=>exact h.same hs
 | agree S1 y b _ hs _ hr _=>exact Pw.agR (a:=⟨_,_⟩) (h.same hs) hr
 | replay S1 b y t U _ hs _ hr hp _=>exact (Pw.agR (a:=⟨_,_⟩) (h.same hs) hr).rplR hp
 | flush S1 b t U y e D' U' _ hs _ hr hp hf=>exact ((Pw.agR (a:=⟨_,_⟩) (h.same hs) hr).rplR hp).flR hf
theorem pw_crash (S:Sh.Sf) (ks:List (List Int)):Pw (S.crash ks):=⟨rfl,rfl⟩
end
section
variable {S S':Sh.Sf} {o:Nat->Int} {d k:Nat} {y z:Int} {b:Sh.Bs} {D U D' U':Set0} {a e t:Stt}
theorem Pw.putR {o1 z1 o2:Int} {l hd:Sh.Bs} (h:Pw S) (hP:PutR S d o1 k l hd z1 o2 S'):Pw S':=by
 obtain ⟨y1,o1,S1,h1,⟨_,_,_,rfl⟩ | ⟨_,h2⟩⟩:=hP
 ·exact h.dw h1
 ·exact (h.dw h1).dw h2
theorem Pw.recTail {l hd:Sh.Bs} (h:Pw a.S) (hR:RecTail d k l hd a D U y e D' U'):Pw e.S:=by
 obtain ⟨_,_,z,o1,S1,h1,⟨_,_,rfl⟩ | ⟨_,_,rfl⟩⟩:=hR
 ·exact h.putR h1
 ·exact (h.putR h1).fl d
theorem Pw.recR {n L:Nat} {l hd:Sh.Bs} (h:Pw a.S) (hR:RecR n L d l hd a D U y e D' U'):Pw e.S:=by
 rcases hR with ⟨_,h1⟩ | ⟨_,y1,a1,D1,U1,hF,⟨_,_,rfl,_,_⟩ | ⟨_,h1⟩⟩
 ·exact h.recTail h1
 ·exact h.flR hF
 ·exact (h.flR hF).recTail h1
theorem Pw.wpR {s:SuP} {M st m p:Nat} {x:Sh.Bs} (h:Pw S) (hW:WpR s M k st m p x D U S o y e D' U'):Pw e.S:=by
 cases hW with
 | lack _=>exact h.same (tog_same _)
 | done y z S2 _ hD=>exact (h.same (tog_same _)).dw hD
theorem Pw.wbR {n L:Nat} {s:SuP} {M st m pl p:Nat} {x:Sh.Bs} (h:Pw S) (hW:WbR n L s M k st m pl p x D U S o y e D' U'):Pw e.S:=by
 have hp:Pw (partR s M k st m p S).1:=h.same partR_same
 cases hW with
 | lack _=>exact hp
 | recd y a1 D1 U1 _ hR _=>exact Pw.recR (a:=⟨_,_⟩) hp hR
 | data y a1 D1 U1 z S2 _ hR hD _=>exact (Pw.recR (a:=⟨_,_⟩) hp hR).dw hD
 | both y a1 D1 U1 z z3 S2 S3 _ hR hD hE=>exact ((Pw.recR (a:=⟨_,_⟩) hp hR).dw hD).dw hE
theorem Pw.wrT {n L:Nat} {s:SuP} {M st m pl p:Nat} {x:Sh.Bs} (h:Pw t.S) (hW:WrT n L s M k st m pl p x D U t y e D' U'):Pw e.S:=by
 cases hW with
 | io _ _=>exact h
 | data y z S2 _ _ hD=>exact h.dw hD
 | par y e D1 U1 _ _ hP=>exact h.wpR hP
 | both y e D1 U1 _ _ hB=>exact h.wbR hB
theorem Pw.wrR {n L M St:Nat} {s:SuP} {i:Int} {x:Sh.Bs} (h:Pw S) (hW:WrR n L s M St i x D U S o y e D' U'):Pw e.S:=by
 cases hW with
 | refused _=>exact h
 | flush m y t D1 U1 _ _ _ _ hF _=>exact h.flR hF
 | after m t D1 U1 y e D2 U2 _ _ _ _ hF hT=>exact (h.flR hF).wrT hT
 | first m y e D1 U1 _ _ _ _ hT=>exact Pw.wrT (t:=⟨_,_⟩) h hT
theorem Pw.rdR {L M St:Nat} {s:SuP} {i:Int} {X:Sh.Bs} (h:Pw S) (hR:RdR L s M St i S o y X t):Pw t.S:=by
 cases hR with
 | refused _=>exact h
 | there m y X t _ _ _ hT =>
  have hs:∀{M k st me:Nat},Pw (shouldR s M k st me S).1:=(h.looked _).same (tog_same _)
  cases hT with
  | plain _=>exact h.looked _
  | lack _ _=>exact hs
  | dead _ _=>exact hs
  | bad z x S2 _ _ hD _=>exact hs.dw hD
  | mend x S2 _ _ hD=>exact hs.dw hD
end
def gh0:Gh:=⟨fun _ _=>Sh.noughts,fun _=>none,fun _ _=>none,fun _ _=>false,fun _ _=>False⟩
def arOf (s:SuP) (n L M St:Nat):Ar:=⟨s,n,L,M,St,fun d c0 c1=>c0=some Sh.noughts/\c1=some (Go.Proofs.YtepoepmndckmaaaGreatDoor.S.encL (saidOf s d).nums)⟩
theorem sec_shelf {w:World} {p:Nat} {S:Sh.Sf} {F:Nat->Prop} (h:Sh.Shelf w p S F):SecS S:=by
 obtain ⟨D,gs,q⟩:=h
 intro x hx
 obtain ⟨i,hi,rfl⟩:=List.mem_iff_getElem.1 hx
 have hd:=q.disk i _ (List.getElem?_eq_getElem hi)
 exact ⟨hd.secs,fun y hy=>(hd.fits y hy).2,hd.len⟩
theorem xf_zero (tk:Nat->Bool):∀M,xf (fun _=>Sh.noughts.getD 0 0) tk M=0
 | 0=>rfl
 | M+1=>by
  unfold xf
  rw [xf_zero tk M]
  split<;>rfl
theorem sumZ_0 (M:Nat):SumZ M (fun _=>Sh.noughts):=fun i hi=>by
 have e:(fun (_:Nat)=>Sh.noughts.getD i 0)=fun _=>Sh.noughts.getD 0 0:=by
  funext _
  rw [noughts_at,noughts_at]
 show xf (fun (_:Nat)=>Sh.noughts.getD i 0) _ M=0
 rw [e]
 exact xf_zero _ M
section
variable {S:Sh.Sf} {o:Nat->Int} {n sc M St L:Nat}
theorem said_new (m3:3<=M) (m16:M<=16) (s1:1<=St) (s2:St<=1024) (l1:1<=L) (l2:L<=8) (hn:n=M\/n=M+1):Said (arOf (newSaid M St L) n L M St) :=
 ⟨fun _ _ _ h=>h,rfl,fun d hd=>said_right m3 m16 s1 s2 l1 l2 (by have hd:d<n:=hd;omega),rfl,rfl,rfl,by
  show ((n:Int)=(M:Int)/\(-1:Int)=-1)\/(n:Int)=(M:Int)+1
  omega,m16,s1⟩
theorem Born.ci {w:World} {p:Nat} {F:Nat->Prop} (h:Born S n sc M St L o) (hw:Sh.Shelf w p S F) (m3:3<=M) (m16:M<=16) (s2:St<=1024) (l1:1<=L) (l2:L<=8) (hn:n=M\/n=M+1) (hb:2+2*L+St<=blk sc) :
  Oi (arOf (newSaid M St L) n L M St) S o gh0 noSet noSet/\Pw S/\∀d,d<n->Dead S d=false:=by
 have hnum:∀st m,(arOf (newSaid M St L) n L M St).num st m=m:=fun st m=>by
  show numOf (newSaid M St L) M st m=m
  unfold numOf
  exact if_neg fun e=>by
   have e1:(m:Int)=-1:=e.1
   omega
 have har:ArOk (arOf (newSaid M St L) n L M St):=⟨m3,l1,by show n<=17;omega,l2,s2,fun st m hm=>by rw [hnum];show m<n;have hm:m<M:=hm;omega,fun st m m' _ _ e=>by rw [hnum,hnum] at e;exact e⟩
 have hpw:Pw S:=by
  have:=h.calm 0 (by omega)
  exact ⟨this.on,this.left⟩
 have hal:∀d,d<n->Dead S d=false:=fun d hd=>(h.calm d hd).alive
 have hv:∀d,d<n->Jp2 S d (o d) (fun c=>c=vo S d)/\∀j,j<blk sc->vo S d j=some (if j=1 then Go.Proofs.YtepoepmndckmaaaGreatDoor.S.encL (saidOf (newSaid M St L) d).nums else Sh.noughts):=fun d hd=>by
  obtain ⟨j1,j2,j3⟩:=h.disk d hd
  obtain ⟨k1,k2⟩:=j1.jp2 hpw.1 j3 (o d)
  refine ⟨k1,fun j hj=>?_⟩
  rw [k2 j (by rw [h.sectors];exact hj),j2]
  unfold upd saidOf
  by_cases e:j=1
  ·rw [if_pos e,if_pos e]
  ·rw [if_neg e,if_neg e]
   exact congrArg some (V_new (m:=n) (n:=sc) hd (sum_of_lt hj).1)
 have hp:∀d,d<n->Pd (arOf (newSaid M St L) n L M St) gh0 d (vo S d):=fun d hd=>by
  have hq:∀j,j<blk sc->j≠1->vo S d j=some Sh.noughts:=fun j hj e=>by rw [(hv d hd).2 j hj,if_neg e]
  refine ⟨fun st hst m _ _=>.inl (hq _ ?_ ?_),fun k hk=>.inl ⟨rfl,hq _ ?_ (by omega)⟩,fun k hk=>?_,hq 0 (by omega) (by decide),(hv d hd).2 1 (by omega)⟩
  ·show 2+2*L+st<_
   have hst:st<St:=hst
   omega
  ·show 2+2*L+st≠1
   omega
  ·have hk:k<L:=hk
   omega
  ·have hk:k<L:=hk
   rw [hq _ (by omega) (by omega)];simp
 have hci:Ci (arOf (newSaid M St L) n L M St) S o gh0 :=
  ⟨har,⟨fun _ _=>sumZ_0 M,fun _ _ _ _=>Sh.noughts_sec,(fun _ _ _ e=>by cases e),(fun _ _ _ _ e=>by cases e),(fun _ _ _ _ _ _ e=>e.elim)⟩,fun d hd _=>(hv d hd).1.more fun c hc=>by rw [hc];exact hp d hd,
   (fun st m _ hm e=>by rw [hal _ (har.num st m hm)] at e;cases e),(fun _ _ _ e=>by cases e),h.len,by rw [h.sectors];exact hb,sec_shelf hw⟩
 refine ⟨⟨Fi.of hci hpw.1 (fun st m hst hm _=>?_) (fun _ _ _ _ e=>absurd rfl e),(fun _ _ e=>absurd rfl e),(fun _ _ _ _ e=>by cases e)⟩,hpw,hal⟩
 have hd:=har.num st m hm
 rw [(hv _ hd).2 _ (by show 2+2*L+st<_;have hst:st<St:=hst;omega),if_neg (by show 2+2*L+st≠1;omega)]
 rfl
end
end Go.Proofs.YtepoepmndckmaaaGreatDoor.U
