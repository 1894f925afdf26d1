/-
  What the statement's proof rests on, part 38.
  Conditions: each theorem's own.
-/
import Derived.Test.YtepoepmndckmaaaGreatDoorZ37
import Derived.Deep.AppendSrc
import Derived.Deep.AppendLies
import Derived.Deep.MidRow
namespace Go.Proofs.YtepoepmndckmaaaGreatDoor.Sh
open Go.RowKit Go.Maps
theorem info_str:(Tryz.prog.info? 9).map (fun i=>(i.zero,i.size,i.bytes))=some (some (.string ⟨#[]⟩),1,16):=by kernel_rfl
end Go.Proofs.YtepoepmndckmaaaGreatDoor.Sh
namespace Go.Proofs.YtepoepmndckmaaaGreatDoor.U
open Go.RowKit Go.Maps
section
variable {N:Nat} {w w':World} {B q:Nat} {G G' P P':Nat→Prop} {may:Nat→List Sh.Bs} {g off c:Nat→Nat}
end
end Go.Proofs.YtepoepmndckmaaaGreatDoor.U
namespace Go.Proofs.YtepoepmndckmaaaGreatDoor.Sh
open Go.ChangeShapes Go.WideShapes Go.ChangeAt Go.RowKit Go.Maps
section
variable {H:Type} {enc:TypeId × Value→H} {W:World}
theorem cellsInt:Tryz.prog.cellsOf 3=1:=by kernel_rfl
def I64 (z:Int):Prop:=-9223372036854775808≤z∧z≤9223372036854775807
end
end Go.Proofs.YtepoepmndckmaaaGreatDoor.Sh
namespace Go.Proofs.YtepoepmndckmaaaGreatDoor.U
open Go.RowKit Go.Maps
def MayOk (A:Ar) (g:Gh) (may:Nat→List Sh.Bs):Prop :=
 ∀m,m<A.St*(A.M-1)→g.dat (stOf A.M m) (meOf A.M m)∈may m∧∀old,g.op (stOf A.M m)=some (meOf A.M m,old)→old∈may m
def LastOk (A:Ar) (g:Gh) (may:Nat→List Sh.Bs):Prop:=∀m,m<A.St*(A.M-1)→may m≠[]∧(may m).getD ((may m).length-1) []=g.dat (stOf A.M m) (meOf A.M m)
structure Inv (A:Ar) (S:Sh.Sf) (o:Nat→Int) (g:Gh) (D U:Set0) (may:Nat→List Sh.Bs) (kd:Bool):Prop where
 ci:Ci A S o g
 said:Said A
 ld:Ld A S g
 kds:kd=false→∀st m,¬g.lack st m
 mays:MayOk A g may
 on:S.off=false→Oi A S o g D U
section
variable {A:Ar} {S S':Sh.Sf} {o:Nat→Int} {g g':Gh} {D U D' U':Set0} {may:Nat→List Sh.Bs} {kd:Bool} {y:Int} {x X:Sh.Bs} {t e:Stt} {m:Nat}
theorem me_inj {M a b:Nat} (h3:3≤M) (h1:stOf M a=stOf M b) (h2:meOf M a=meOf M b):a=b:=by
 obtain ⟨a1,a2,a3,_⟩:=me_ok (M:=M) (m:=a) h3
 obtain ⟨b1,b2,b3,_⟩:=me_ok (M:=M) (m:=b) h3
 rw [h1,h2,b3] at a3
 have e1:b%(M-1)=a%(M-1):=a3
 have e2:a / (M-1)=b / (M-1):=h1
 have:=Nat.div_add_mod a (M-1)
 have:=Nat.div_add_mod b (M-1)
 rw [e1,← e2] at this
 omega
def pushM (may:Nat→List Sh.Bs) (m:Nat) (x:Sh.Bs):Nat→List Sh.Bs:=fun j=>if j=m then may j++[x] else may j
theorem MayOk.push (h:MayOk A g may) (m:Nat) (x:Sh.Bs):MayOk A g (pushM may m x):=fun j hj=>by
 obtain ⟨h1,h2⟩:=h j hj
 unfold pushM
 by_cases e:j=m
 ·rw [if_pos e]
  exact ⟨List.mem_append_left _ h1,fun old ho=>List.mem_append_left _ (h2 old ho)⟩
 ·rw [if_neg e];exact ⟨h1,h2⟩
theorem MayOk.gle (h:MayOk A g may) (k:Gle g' g):MayOk A g' may:=fun j hj=>⟨by rw [k.dat];exact (h j hj).1,fun old ho=>(h j hj).2 old (k.op _ _ ho)⟩
theorem MayOk.gw (h:MayOk A g may) (h3:3≤A.M) (k:Gw A.M g' g (stOf A.M m) (meOf A.M m) x):MayOk A g' (pushM may m x):=fun j hj=>by
 obtain ⟨h1,h2⟩:=h j hj
 by_cases e:j=m
 ·subst e
  unfold pushM
  rw [if_pos rfl]
  refine ⟨by rw [k.dat];exact List.mem_append_right _ (List.mem_singleton.2 rfl),fun old ho=>?_⟩
  rw [(k.opst _ _ ho).2]
  exact List.mem_append_left _ h1
 ·unfold pushM
  rw [if_neg e]
  have hne:=(me_ok (M:=A.M) (m:=j) h3).2.1
  by_cases c:stOf A.M j=stOf A.M m
  ·have hm:meOf A.M j≠meOf A.M m:=fun e2=>e (me_inj h3 c e2)
   refine ⟨?_,fun old ho=>?_⟩
   ·rw [k.rest _ _ fun q=>q.2.elim hm fun q=>hne (by rw [q,c])];exact h1
   ·rw [c] at ho
    exact absurd (k.opst _ _ ho).1 hm
  ·refine ⟨?_,fun old ho=>h2 old (k.op _ c _ ho)⟩
   rw [k.rest _ _ fun q=>c q.1];exact h1
theorem LastOk.gw (h:LastOk A g may) (h3:3≤A.M) (k:Gw A.M g' g (stOf A.M m) (meOf A.M m) x):LastOk A g' (pushM may m x):=fun j hj=>by
 obtain ⟨h1,h2⟩:=h j hj
 by_cases e:j=m
 ·subst e
  unfold pushM
  rw [if_pos rfl,k.dat]
  refine ⟨by simp,?_⟩
  simp [List.getD]
 ·unfold pushM
  rw [if_neg e]
  have hne:=(me_ok (M:=A.M) (m:=j) h3).2.1
  refine ⟨h1,h2.trans (k.rest _ _ fun q=>?_).symm⟩
  rcases q.2 with e2 | e2
  ·exact e (me_inj h3 q.1 e2)
  ·exact hne (by rw [e2,q.1])
def trimAll (may:Nat→List Sh.Bs):Nat→List Sh.Bs:=fun j=>(may j).drop ((may j).length-1)
theorem drop_last {l:List Sh.Bs} (h:l≠[]):l.drop (l.length-1)=[l.getD (l.length-1) []]:=by
 rcases Sh.snoc_cases l with rfl | ⟨t,x,rfl⟩
 ·exact absurd rfl h
 ·simp [List.getD]
theorem LastOk.trim (h:LastOk A g may):LastOk A g (trimAll may):=fun j hj=>by
 obtain ⟨h1,h2⟩:=h j hj
 unfold trimAll
 rw [drop_last h1,h2]
 exact ⟨by simp,by simp [List.getD]⟩
theorem trim_may (h:LastOk A g may) (ho:∀st,g.op st=none):MayOk A g (trimAll may):=fun j hj=>by
 obtain ⟨h1,h2⟩:=h j hj
 unfold trimAll
 rw [drop_last h1,h2]
 exact ⟨List.mem_singleton.2 rfl,fun old e=>by rw [ho] at e;cases e⟩
end
theorem isMap_set {w:World} {k:TypeId} {b:Nat} {D:Set0} (h:SetIs w k b D):IsMap D:=by
 obtain ⟨es,_,_,_,_,rfl⟩:=h
 exact ⟨_,rfl⟩
section
variable {A:Ar} {S S':Sh.Sf} {o:Nat→Int} {g g':Gh} {D U D' U':Set0} {may:Nat→List Sh.Bs} {kd:Bool} {y:Int} {x X:Sh.Bs} {t e:Stt} {m:Nat}
theorem Inv.read (h:Inv A S o g D U may kd) (hon:S.off=false) (hm:m<A.St*(A.M-1)) (hR:RdR A.L A.s A.M A.St (m:Int) S o y X t) :
  y=0∧X=g.dat (stOf A.M m) (meOf A.M m)∧Inv A t.S t.o g D U may kd∧t.S.off=false:=by
 obtain ⟨q1,q2,q3,q4⟩:=(h.on hon).read h.ld hm hR
 exact ⟨q1,q2,⟨q4.fi.ci,h.said,h.ld.dead q3,h.kds,h.mays,fun _=>q4⟩,q4.fi.on⟩
theorem write_off {nn LL M St:Nat} {s:Go.Proofs.YtepoepmndckmaaaGreatDoor.S.Sup} {n:Int} (hoff:S.off≠false) (hn:0≤n∧n<((St*(M-1):Nat):Int)) (hW:WrR nn LL s M St n x D U S o y e D' U'):y=3∧e=⟨S,o⟩∧D'=D∧U'=U:=by
 cases hW with
 | refused h0 =>
  refine ⟨?_,rfl,rfl,rfl⟩
  unfold refY hasB
  rw [decide_eq_true hn]
  have:S.off=true:=by simpa using hoff
  rw [this]
  rfl
 | flush m y t D1 U1 e1 e2 e3=>exact absurd e3 hoff
 | after m t D1 U1 y e D' U' e1 e2 e3=>exact absurd e3 hoff
 | first m y e D' U' e1 e2 e3=>exact absurd e3 hoff
theorem Inv.write (h:Inv A S o g D U may kd) (hlast:LastOk A g may) (hon:S.off=false) (hD:IsMap D) (hU:IsMap U) (hm:m<A.St*(A.M-1)) (hx:Sh.Sec x) (hW:WrR A.n A.L A.s A.M A.St (m:Int) x D U S o y e D' U') :
  ∃g',Inv A e.S e.o g' D' U' (pushM may m x) kd∧((y=0∧(e.S.off=false→LastOk A g' (pushM may m x)))∨(y=3∧e.S.off≠false)):=by
 have h3:=h.ci.ar.m3
 obtain ⟨q1,q2⟩:=(h.on hon).write h.ld hD hU hm hx hW
 have hld:∀{g':Gh},g'.lack=g.lack→Ld A e.S g':=fun hg st m a b c=>(q1 _).trans (h.ld st m a b (by rw [← hg];exact c))
 rcases q2 with ⟨e1,g',e2,e3,e4⟩ | ⟨e1,e2,g',e3,e4⟩
 ·exact ⟨g',⟨e3,h.said,hld e2.lack,fun hk=>by rw [e2.lack];exact h.kds hk,h.mays.gw h3 e2,e4⟩,.inl ⟨e1,fun _=>hlast.gw h3 e2⟩⟩
 ·refine ⟨g',⟨e4,h.said,?_,fun hk=>?_,?_,fun q=>absurd q e2⟩,.inr ⟨e1,e2⟩⟩
  ·exact hld (e3.elim Gle.lack Gw.lack)
  ·rw [e3.elim Gle.lack Gw.lack];exact h.kds hk
  ·rcases e3 with e3 | e3
   ·exact (h.mays.push m x).gle e3
   ·exact h.mays.gw h3 e3
theorem Inv.flush (h:Inv A S o g D U may kd) (hlast:S.off=false→LastOk A g may) (hF:FlR A.n A.L D U S y e D' U') :
  ∃g',(y=0∧Inv A e.S e.o g' D' U' (trimAll may) kd∧(e.S.off=false→LastOk A g' (trimAll may)))∨(y=3∧e.S.off≠false∧Inv A e.S e.o g' D' U' may kd):=by
 by_cases hon:S.off=false
 ·obtain ⟨q1,q2⟩:=(h.on hon).fi.flush hF
  have hld:∀{g':Gh},g'.lack=g.lack→Ld A e.S g':=fun hg st m a b c=>(q1 _).trans (h.ld st m a b (by rw [← hg];exact c))
  rcases q2 with ⟨r1,rfl,rfl,r3,r4⟩ | ⟨r1,r2,g',r3,r4⟩
  ·have hl:LastOk A g.closed may:=fun j hj=>(hlast hon) j hj
   exact ⟨g.closed,.inl ⟨r1,⟨r3,h.said,hld rfl,h.kds,trim_may hl fun _=>rfl,r4⟩,fun _=>hl.trim⟩⟩
  ·exact ⟨g',.inr ⟨r1,r2,⟨r4,h.said,hld r3.lack,fun hk=>by rw [r3.lack];exact h.kds hk,h.mays.gle r3,fun q=>absurd q r2⟩⟩⟩
 ·have h3:=fdS_off hon h.ci.n1
  have off:∀{o':Nat→Int},Inv A S o' g D U may kd:=⟨⟨h.ci.ar,h.ci.ok,fun d x1 x2=>(h.ci.disk d x1 x2).off_any hon _,h.ci.dead,h.ci.rc,h.ci.len,h.ci.fit,h.ci.sec⟩,h.said,h.ld,h.kds,h.mays,fun q=>absurd q hon⟩
  cases hF with
  | first o' h0 =>
   rw [h3]
   exact ⟨g,.inr ⟨rfl,hon,off⟩⟩
  | none o' h0 _=>exact absurd ((congrArg Prod.snd h3).symm.trans h0) (show ¬(3:Int)=0 by decide)
  | slots o1 y b h0 _ _ _=>exact absurd ((congrArg Prod.snd h3).symm.trans h0) (show ¬(3:Int)=0 by decide)
  | again o1 o' b h0 _ _ _=>exact absurd ((congrArg Prod.snd h3).symm.trans h0) (show ¬(3:Int)=0 by decide)
  | all o1 o' b h0 _ _ _=>exact absurd ((congrArg Prod.snd h3).symm.trans h0) (show ¬(3:Int)=0 by decide)
theorem Oi.stop (h:Oi A S o g D U) (n:Int) (hon:(S.doStop n).off=false):Oi A (S.doStop n) o g D U:=by
 have hv:∀d k,seen (S.doStop n) d k=seen S d k:=fun d k=>by
  by_cases hd:Dead S d=true
  ·rw [seen_dead hd,seen_dead ((dead_stop S n d).trans hd)]
  ·have hd:Dead S d=false:=by simpa using hd
   rw [seen_alive hd h.fi.on,seen_alive ((dead_stop S n d).trans hd) hon,vo_stop]
 exact ⟨⟨h.fi.ci.stop n,hon,fun st hst m hm=>by rw [hv];exact h.fi.now st hst m hm,h.fi.used⟩,h.opens,h.slots⟩
theorem stop_on {S:Sh.Sf} {n:Int} (h:(S.doStop n).off=false):S.off=false:=by
 unfold Sh.Sf.doStop at h
 by_cases e:S.off=true
 ·rw [if_pos e] at h
  exact h
 ·simpa using e
theorem Inv.stop (h:Inv A S o g D U may kd) (n:Int):Inv A (S.doStop n) o g D U may kd :=
 ⟨h.ci.stop n,h.said,h.ld.dead (dead_stop S n),h.kds,h.mays,fun hon=>(h.on (stop_on hon)).stop n hon⟩
/-! ### a crash -/
end
section
variable {S:Sh.Sf} {o:Nat→Int} {D U D' U':Set0} {y:Int} {x X:Sh.Bs} {t e:Stt} {m:Nat}
theorem waits_same {S T:Sh.Sf} (h:Same S T) (hL:∀x∈S.disks,x.waits.length≤m):∀x∈T.disks,x.waits.length≤m:=by rw [h.disks];exact hL
theorem waits_more {T:Sh.Sf} {a b:Nat} (hab:a≤b) (hL:∀x∈T.disks,x.waits.length≤a):∀x∈T.disks,x.waits.length≤b:=fun x hx=>Nat.le_trans (hL x hx) hab
theorem RdT.waits {s:Go.Proofs.YtepoepmndckmaaaGreatDoor.S.Sup} {M k st me:Nat} (h:RdT s M k st me S o y X t) (hL:∀x∈S.disks,x.waits.length≤m):∀x∈t.S.disks,x.waits.length≤m+3:=by
 have hs:Same S (shouldR s M k st me S).1:=((Same.refl S).looked _).trans (tog_same M)
 cases h with
 | plain _=>exact waits_more (Nat.le_add_right _ _) (waits_same ((Same.refl S).looked _) hL)
 | lack _ _=>exact waits_more (Nat.le_add_right _ _) (waits_same hs hL)
 | dead _ _=>exact waits_more (Nat.le_add_right _ _) (waits_same hs hL)
 | bad z x S2 _ _ hD _=>exact hD.waits (waits_same hs hL)
 | mend x S2 _ _ hD=>exact hD.waits (waits_same hs hL)
theorem RdR.waits {LL M St:Nat} {s:Go.Proofs.YtepoepmndckmaaaGreatDoor.S.Sup} {n:Int} (h:RdR LL s M St n S o y X t) (hL:∀x∈S.disks,x.waits.length≤m):∀x∈t.S.disks,x.waits.length≤m+3:=by
 cases h with
 | refused _=>exact waits_more (Nat.le_add_right _ _) hL
 | there m' y X t _ _ _ hT=>exact hT.waits hL
theorem WrT.waits {nn LL M k st a pl b:Nat} {s:Go.Proofs.YtepoepmndckmaaaGreatDoor.S.Sup} (hn:nn≤17) (h8:LL≤8) (h:WrT nn LL s M k st a pl b x D U t y e D' U') (hL:∀x∈t.S.disks,x.waits.length≤m):∀x∈e.S.disks,x.waits.length≤m+500:=by
 cases h with
 | io=>exact waits_more (by omega) hL
 | data y z S2 _ _ hw=>exact waits_more (by omega) (hw.waits hL)
 | par y e D' U' _ _ hw =>
  cases hw with
  | lack=>exact waits_more (by omega) (waits_same (tog_same M) hL)
  | done y z S2 _ hw=>exact waits_more (by omega) (hw.waits (waits_same (tog_same M) hL))
 | both y e D' U' _ _ hw =>
  cases hw with
  | lack=>exact waits_more (by omega) (waits_same partR_same hL)
  | recd y a1 D1 U1 _ hr _ =>
   have:=hr.waits hn h8 (m:=m) (waits_same (T:=(partR s M k st a b t.S).1) partR_same hL)
   exact waits_more (by omega) this
  | data y a1 D1 U1 z S2 _ hr hw _ =>
   have:=hw.waits (hr.waits hn h8 (m:=m) (waits_same (T:=(partR s M k st a b t.S).1) partR_same hL))
   exact waits_more (by omega) this
  | both y a1 D1 U1 z z3 S2 S3 _ hr hw hw2 =>
   have:=hw2.waits (hw.waits (hr.waits hn h8 (m:=m) (waits_same (T:=(partR s M k st a b t.S).1) partR_same hL)))
   exact waits_more (by omega) this
theorem WrR.waits {nn LL M St:Nat} {s:Go.Proofs.YtepoepmndckmaaaGreatDoor.S.Sup} {n:Int} (hn:nn≤17) (h8:LL≤8) (h:WrR nn LL s M St n x D U S o y e D' U') (hL:∀x∈S.disks,x.waits.length≤m):∀x∈e.S.disks,x.waits.length≤m+1000:=by
 cases h with
 | refused=>exact waits_more (by omega) hL
 | flush _ _ _ _ _ _ _ _ _ hf=>exact waits_more (by omega) (hf.waits hn h8 hL)
 | after _ t _ _ _ _ _ _ _ _ _ _ hf hw =>
  have:=WrT.waits hn h8 hw (hf.waits hn h8 hL)
  exact waits_more (by omega) this
 | first _ _ _ _ _ _ _ _ _ hw=>exact waits_more (by omega) (WrT.waits (t:=⟨S,o⟩) hn h8 hw hL)
theorem tidy_puti (h:Tidy D) (k:Nat):Tidy (D.put (.int .i64 (k:Int)) one0)∧Maps.size (D.put (.int .i64 (k:Int)) one0)≤Maps.size D+1 :=
 ⟨h.put (show WideAt.IsKeyLit (.int .i64 (k:Int)) from trivial) _,by rw [Maps.size_put h];split<;>omega⟩
theorem FlR.opensOf {n L:Nat} {b:Stt} (h:FlR n L D U S y b D' U'):D'=D∨D'=noSet:=by
 cases h with
 | first o' h=>exact .inl rfl
 | slots o1 y b h1 h2 h3 h4=>exact .inl rfl
 | again o1 o' b h1 h2 h3 h4=>exact .inl rfl
 | none o' h1 h2=>exact .inr rfl
 | all o1 o' b h1 h2 h3 h4=>exact .inr rfl
theorem tidy_of {D1:Set0} (h:D1=D∨D1=noSet) (hD:Tidy D∧Maps.size D≤m):Tidy D1∧Maps.size D1≤m:=by
 rcases h with rfl | rfl
 ·exact hD
 ·exact ⟨tidy_empty,Nat.zero_le _⟩
theorem RecR.opensOf {n L d:Nat} {l hd:Sh.Bs} {a b:Stt} (h:RecR n L d l hd a D U y b D' U'):D'=D∨D'=noSet:=by
 rcases h with ⟨_,rfl,_⟩ | ⟨_,y1,a1,D1,U1,h1,⟨_,_,_,rfl,_⟩ | ⟨_,rfl,_⟩⟩
 ·exact .inl rfl
 ·exact h1.opensOf
 ·exact h1.opensOf
theorem tidy_more {D:Set0} {a b:Nat} (hab:a≤b) (h:Tidy D∧Maps.size D≤a):Tidy D∧Maps.size D≤b:=⟨h.1,Nat.le_trans h.2 hab⟩
theorem tidy_put1 (k:Nat) (h:Tidy D∧Maps.size D≤m):Tidy (D.put (.int .i64 (k:Int)) one0)∧Maps.size (D.put (.int .i64 (k:Int)) one0)≤m+1:=by
 obtain ⟨h1,h2⟩:=tidy_puti h.1 k
 exact ⟨h1,Nat.le_trans h2 (Nat.succ_le_succ h.2)⟩
theorem WrT.opensOf {nn LL M k st a pl b:Nat} {s:Go.Proofs.YtepoepmndckmaaaGreatDoor.S.Sup} (h:WrT nn LL s M k st a pl b x D U t y e D' U') (hD:Tidy D∧Maps.size D≤m):Tidy D'∧Maps.size D'≤m+2:=by
 cases h with
 | io=>exact tidy_more (by omega) hD
 | data=>first
  | exact tidy_more (by omega) (tidy_put1 st hD)
  | exact tidy_more (by omega) hD
 | par y e D' U' _ _ hw=>cases hw with
  | lack=>exact tidy_more (by omega) hD
  | done=>first
   | exact tidy_more (by omega) (tidy_put1 st hD)
   | exact tidy_more (by omega) hD
 | both y e D' U' _ _ hw=>cases hw with
  | lack=>exact tidy_more (by omega) hD
  | recd _ _ _ _ _ hr=>exact tidy_more (by omega) (tidy_of hr.opensOf hD)
  | data _ _ _ _ _ _ _ hr=>exact tidy_more (by omega) (tidy_put1 st (tidy_of hr.opensOf hD))
  | both _ _ _ _ _ _ _ _ _ hr=>exact tidy_put1 st (tidy_put1 st (tidy_of hr.opensOf hD))
theorem WrR.opensOf {nn LL M St:Nat} {s:Go.Proofs.YtepoepmndckmaaaGreatDoor.S.Sup} {n:Int} (h:WrR nn LL s M St n x D U S o y e D' U') (hD:Tidy D∧Maps.size D≤m):Tidy D'∧Maps.size D'≤m+2:=by
 cases h with
 | refused=>exact tidy_more (by omega) hD
 | flush _ _ _ _ _ _ _ _ _ hf=>exact tidy_more (by omega) (tidy_of hf.opensOf hD)
 | after _ _ _ _ _ _ _ _ _ _ _ _ hf hw=>exact hw.opensOf (tidy_of hf.opensOf hD)
 | first _ _ _ _ _ _ _ _ _ hw=>exact hw.opensOf hD
structure Few (S:Sh.Sf) (D U:Set0) (m:Nat):Prop where
 waits:∀x∈S.disks,x.waits.length≤m
 opens:Tidy D∧Maps.size D≤m
 used:Maps.size U≤m
theorem Few.more {a b:Nat} (hab:a≤b) (h:Few S D U a):Few S D U b:=⟨waits_more hab h.waits,tidy_more hab h.opens,Nat.le_trans h.used hab⟩
theorem Few.write {nn LL M St:Nat} {s:Go.Proofs.YtepoepmndckmaaaGreatDoor.S.Sup} {n:Int} {w:World} {b:Nat} (h:Few S D U m) (hs:SetIs w 155 b U) (hn:nn≤17) (h8:LL≤8) (hW:WrR nn LL s M St n x D U S o y e D' U'):Few e.S D' U' (m+1000) :=
 ⟨hW.waits hn h8 h.waits,tidy_more (by omega) (hW.opensOf h.opens),by have:=hW.usedOf.size hs;have:=h.used;omega⟩
theorem Few.flush {n L:Nat} (h:Few S D U m) (hn:n≤17) (h8:L≤8) (hF:FlR n L D U S y e D' U'):Few e.S D' U' (m+1000) :=
 ⟨waits_more (by omega) (hF.waits hn h8 h.waits),tidy_more (by omega) (tidy_of hF.opensOf h.opens),by
  have:=h.used
  rcases hF.usedOf with rfl | rfl
  ·omega
  ·exact Nat.zero_le _⟩
theorem Few.read {LL M St:Nat} {s:Go.Proofs.YtepoepmndckmaaaGreatDoor.S.Sup} {n:Int} (h:Few S D U m) (hR:RdR LL s M St n S o y X t):Few t.S D U (m+1000) :=
 ⟨waits_more (by omega) (hR.waits h.waits),tidy_more (by omega) h.opens,Nat.le_trans h.used (by omega)⟩
end
section
variable {J:Vk} {w w':World} {r q cap tq:Nat} {A:Ar} {S S':Sh.Sf} {o o':Nat→Int} {D U D' U':Set0} {F F':Nat→Prop} {kd:Bool} {may:Nat→List Sh.Bs} {m:Nat} {g off c:Nat→Nat}
theorem fits_ci {g:Gh} (h:Ci A S o g) (hs:Said A):Fits A.n A.L A.s A.M A.St S:=by
 have hr:=hs.right 0 h.n1
 have hf:=hs.fit
 obtain ⟨r1,r2,r3,r4,r5,r6,r7,r8⟩:=Go.Proofs.YtepoepmndckmaaaGreatDoor.S.right_parts hr
 have hm:(saidOf A.s 0).most≤(saidOf A.s 0).str:=by unfold Go.Proofs.YtepoepmndckmaaaGreatDoor.S.Sup.most;split<;>omega
 have e1:(saidOf A.s 0).str=A.s.str:=rfl
 have e2:(saidOf A.s 0).mark=A.s.mark:=rfl
 have e3:(saidOf A.s 0).spare=A.s.spare:=rfl
 have h1:=hs.mem
 have h2:=hs.str
 have h3:=hs.logs
 have:=h.ar.m3
 have:=h.ar.l1
 have:=h.ar.l8
 have:=h.ar.s2
 have:=hs.m16
 have:=hs.st1
 unfold Fit at hf
 have e4:(saidOf A.s 0).mem=A.s.mem:=rfl
 exact ⟨h1,h2,h3,by omega,by omega,by omega,by omega,by omega,by omega,by omega,by omega,⟨by omega,by omega⟩,h.len,h.fit⟩
end
end Go.Proofs.YtepoepmndckmaaaGreatDoor.U
