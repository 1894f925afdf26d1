/-
  What the statement's proof rests on, part 43.
  Conditions: each theorem's own.
-/
import Derived.Test.YtepoepmndckmaaaGreatDoorY42
import Derived.Test.YtepoepmndckmaaaGreatDoorY41
import Derived.Deep.AppendSrc
import Derived.Deep.AppendLies
import Derived.Deep.MidRow
open Go.Proofs.YtepoepmndckmaaaGreatDoor.S renaming Sup → SuP
namespace Go.Proofs.YtepoepmndckmaaaGreatDoor.Sh
open Go.RowKit Go.Maps
theorem info_str:(Tryz.prog.info? 9).map (fun i=>(i.zero,i.size,i.bytes))=some (some (.string ⟨#[]⟩),1,16):=by kernel_rfl
end Go.Proofs.YtepoepmndckmaaaGreatDoor.Sh
namespace Go.Proofs.YtepoepmndckmaaaGreatDoor.U
open Go.RowKit Go.Maps
section
variable {N:Nat} {w w':World} {B q:Nat} {G G' P P':Nat->Prop} {may:Nat->List Sh.Bs} {g off c:Nat->Nat}
end
end Go.Proofs.YtepoepmndckmaaaGreatDoor.U
namespace Go.Proofs.YtepoepmndckmaaaGreatDoor.Sh
open Go.ChangeShapes Go.WideShapes Go.ChangeAt Go.RowKit Go.Maps
section
variable {H:Type} {enc:TypeId × Value->H} {W:World}
theorem cellsInt:Tryz.prog.cellsOf 3=1:=by kernel_rfl
theorem cellsInts:Tryz.prog.cellsOf 54=1:=by kernel_rfl
theorem cells_get {base n:Nat} {a:Addr} {xs:List Value} (h:W.cells? base a n=some xs):xs.length=n/\∀k,k<n->∃v,xs[k]?=some v/\W.cell? (a.add k)=some v:=by
 unfold World.cells? at h
 split at h
 ·have hl:xs.length=n:=by simpa using mapM_some_length h
  refine ⟨hl,fun k hk=>?_⟩
  have:=mapM_some_get h k k (by simp [hk])
  rw [List.getElem?_eq_getElem (by omega)] at this
  exact ⟨_,List.getElem?_eq_getElem (by omega),this⟩
 ·cases h
theorem int_of {m:Nat} {v:Value} {y:DataW H × List MemPlace} (h:DataW.trod enc Tryz.prog W 0 (fun _=>true) true m 3 [v]=some y):∃z:Int,v=.int .i64 z/\-9223372036854775808<=z/\z<=9223372036854775807:=by
 cases m with
 | zero=>simp [DataW.trod] at h
 | succ m =>
  simp only [DataW.trod,Tryz.underlying3] at h
  cases v<;>simp at h
  rename_i k b
  obtain ⟨⟨rfl,hw⟩,_⟩:=h
  exact ⟨b,rfl,bounds_i64 hw⟩
theorem each_in {t e:TypeId} {fuel n c:Nat} {A:Option Addr} {x:DataW H × List MemPlace} (ht:Tryz.prog.underlying t=some (.slice e)) (hc:Tryz.prog.cellsOf e=1)
  (h:DataW.trod enc Tryz.prog W 0 (fun _=>true) true fuel t [.slice A n c]=some x) :
  (A=none/\n=0)\/∃(ad:Addr) (m:Nat),A=some ad/\n<=9223372036854775807/\∀i,i<n->∃v y,W.cell? (ad.add i)=some v/\DataW.trod enc Tryz.prog W 0 (fun _=>true) true m e [v]=some y:=by
 rcases DataW.trod_slice ht h with ⟨h0,hx⟩ | ⟨a,len,cap,elems,rest,m,_,h0,hx,_,hl,hm,hlen,hel,_⟩
 ·simp only [List.cons.injEq,Value.slice.injEq,and_true] at h0
  obtain ⟨rfl,rfl,rfl⟩:=h0
  exact .inl ⟨rfl,rfl⟩
 ·simp only [List.cons.injEq,Value.slice.injEq,and_true] at h0
  obtain ⟨rfl,rfl,rfl⟩:=h0
  refine .inr ⟨a,m,rfl,by unfold maxLen at hm;omega,fun i hi=>?_⟩
  have h1:=hel i hi
  rw [hc,Nat.mul_one,List.getElem?_eq_getElem (by omega),Option.bind_eq_some_iff] at h1
  obtain ⟨cs,hcs,hy⟩:=h1
  obtain ⟨hl1,hg⟩:=cells_get hcs
  obtain ⟨v,hv,hcv⟩:=hg 0 (by decide)
  have e:cs=[v]:=by
   match cs,hl1,hv with
   | [u],_,hv=>simpa using hv
  subst e
  have e2:(a.add i).add 0=a.add i:=by unfold Addr.add;simp
  rw [e2] at hcv
  exact ⟨v,_,hcv,hy⟩
theorem ints_in {fuel n c:Nat} {A:Option Addr} {x:DataW H × List MemPlace} (h:DataW.trod enc Tryz.prog W 0 (fun _=>true) true fuel 54 [.slice A n c]=some x) :
  ∃l:List Int,n<=9223372036854775807/\Reads W W.heap.size A n (ints l)/\(0<n->∀a,A=some a->a.block<W.heap.size):=by
 rcases each_in Tryz.underlying54 cellsInt h with ⟨rfl,rfl⟩ | ⟨ad,m,rfl,hn,hel⟩
 ·exact ⟨[],by decide,Reads.none_,fun h=>absurd h (by decide)⟩
 ·have hz:∀i,∃z:Int,i<n->W.cell? (ad.add i)=some (.int .i64 z):=by
   intro i
   by_cases hi:i<n
   ·obtain ⟨v,y,hv,hy⟩:=hel i hi
    obtain ⟨z,rfl,_⟩:=int_of hy
    exact ⟨z,fun _=>hv⟩
   ·exact ⟨0,fun h=>absurd h hi⟩
  obtain ⟨f,hf⟩:=Classical.axiomOfChoice hz
  have hb:0<n->ad.block<W.heap.size:=fun h0=>by
   have:=World.block_lt_of_cell? W _ (hf 0 h0)
   rwa [block_of_add] at this
  refine ⟨(List.range n).map f,hn,⟨by simp [ints],fun h0=>⟨ad,rfl,hb h0,fun j u hu=>?_⟩⟩,fun h0 a ha=>by injection ha with ha;subst ha;exact hb h0⟩
  have hj:j<n:=by
   rcases Nat.lt_or_ge j n with h | h
   ·exact h
   ·rw [List.getElem?_eq_none (by simpa [ints] using h)] at hu;cases hu
  rw [hf j hj,<- hu]
  simp [ints,hj]
theorem keep_in {fuel n c:Nat} {A:Option Addr} {x:DataW H × List MemPlace} (h:DataW.trod enc Tryz.prog W 0 (fun _=>true) true fuel 45 [.slice A n c]=some x) :
  ∃ks:List (List Int),n<=9223372036854775807/\KeepIs W (Old W) A n ks:=by
 rcases each_in Tryz.underlying45 cellsInts h with ⟨rfl,rfl⟩ | ⟨ad,m,rfl,hn,hel⟩
 ·exact ⟨[],by decide,rfl,fun h=>absurd h (by decide)⟩
 ·have hz:∀i,∃l:List Int,i<n->∃A' m c,W.cell? (ad.add i)=some (.slice A' m c)/\m<=9223372036854775807/\Reads W W.heap.size A' m (ints l)/\(0<m->∀a',A'=some a'->Old W a'.block):=by
   intro i
   by_cases hi:i<n
   ·obtain ⟨v,y,hv,hy⟩:=hel i hi
    obtain ⟨A',n',c',rfl⟩:∃A' n' c',v=.slice A' n' c':=by
     rcases DataW.trod_slice Tryz.underlying54 hy with ⟨h0,_⟩ | ⟨a,len,cap,_,_,_,_,h0,_⟩
     ·simp only [List.cons.injEq,and_true] at h0;exact ⟨_,_,_,h0⟩
     ·simp only [List.cons.injEq,and_true] at h0;exact ⟨_,_,_,h0⟩
    obtain ⟨l,h1,h2,h3⟩:=ints_in hy
    exact ⟨l,fun _=>⟨A',n',c',hv,h1,h2,h3⟩⟩
   ·exact ⟨[],fun h=>absurd h hi⟩
  obtain ⟨f,hf⟩:=Classical.axiomOfChoice hz
  refine ⟨(List.range n).map f,hn,by simp,fun h0=>⟨ad,rfl,?_,fun j hj=>?_⟩⟩
  ·obtain ⟨_,_,_,h1,_⟩:=hf 0 h0
   have:=World.block_lt_of_cell? W _ h1
   rwa [block_of_add] at this
  ·have e:((List.range n).map f).getD j []=f j:=by simp [List.getD,hj]
   rw [e]
   exact hf j hj
def I64 (z:Int):Prop:=-9223372036854775808<=z/\z<=9223372036854775807
end
end Go.Proofs.YtepoepmndckmaaaGreatDoor.Sh
namespace Go.Proofs.YtepoepmndckmaaaGreatDoor.U
open Go.RowKit Go.Maps
def MayOk (A:Ar) (g:Gh) (may:Nat->List Sh.Bs):Prop :=
 ∀m,m<A.St*(A.M-1)->g.dat (stOf A.M m) (meOf A.M m)∈may m/\∀old,g.op (stOf A.M m)=some (meOf A.M m,old)->old∈may m
structure Inv (A:Ar) (S:Sh.Sf) (o:Nat->Int) (g:Gh) (D U:Set0) (may:Nat->List Sh.Bs) (kd:Bool):Prop where
 ci:Ci A S o g
 said:Said A
 ld:Ld A S g
 kds:kd=false->∀st m,¬g.lack st m
 mays:MayOk A g may
 on:S.off=false->Oi A S o g D U
section
variable {A:Ar} {S S':Sh.Sf} {o:Nat->Int} {g g':Gh} {D U D' U':Set0} {may:Nat->List Sh.Bs} {kd:Bool} {y:Int} {x X:Sh.Bs} {t e:Stt} {m:Nat}
theorem me_inj {M a b:Nat} (h3:3<=M) (h1:stOf M a=stOf M b) (h2:meOf M a=meOf M b):a=b:=by
 obtain ⟨a1,a2,a3,_⟩:=me_ok (M:=M) (m:=a) h3
 obtain ⟨b1,b2,b3,_⟩:=me_ok (M:=M) (m:=b) h3
 rw [h1,h2,b3] at a3
 have e1:b%(M-1)=a%(M-1):=a3
 have e2:a / (M-1)=b / (M-1):=h1
 have:=Nat.div_add_mod a (M-1)
 have:=Nat.div_add_mod b (M-1)
 rw [e1,<- e2] at this
 omega
theorem MayOk.gm (h:MayOk A g may) (h3:3<=A.M) (k:Gm A.M g' g):MayOk A g' may:=fun j hj=>by
 obtain ⟨h1,h2⟩:=h j hj
 refine ⟨?_,fun old ho=>?_⟩
 ·rcases k.dat (stOf A.M j) (meOf A.M j) (me_ok h3).2.1 with e | e
  ·rw [e];exact h1
  ·exact h2 _ e
 ·rcases k.op _ _ _ ho with e | e
  ·rw [e];exact h1
  ·exact h2 _ e
end
theorem isMap_set {w:World} {k:TypeId} {b:Nat} {D:Set0} (h:SetIs w k b D):IsMap D:=by
 obtain ⟨es,_,_,_,_,rfl⟩:=h
 exact ⟨_,rfl⟩
section
variable {A:Ar} {S S':Sh.Sf} {o:Nat->Int} {g g':Gh} {D U D' U':Set0} {may:Nat->List Sh.Bs} {kd:Bool} {y:Int} {x X:Sh.Bs} {t e:Stt} {m:Nat}
/-! ### a crash -/
structure Rst (A:Ar) (S:Sh.Sf) (g:Gh) (may:Nat->List Sh.Bs) (kd:Bool):Prop where
 rest:Rest A S g
 said:Said A
 ld:Ld A S g
 kds:kd=false->∀st m,¬g.lack st m
 mays:MayOk A g may
theorem Inv.crash (h:Inv A S o g D U may kd) (ks:List (List Int)):Rst A (S.crash ks) g may kd:=by
 obtain ⟨q1,q2,_⟩:=h.ci.crash ks
 exact ⟨q1,h.said,fun st m a b e=>(q2 _ (h.ci.ar.num st m b)).trans (h.ld st m a b e),h.kds,h.mays⟩
theorem Rst.opened (h:Rst A S g may kd) (hR:OpenR A.n S y t) :
  ∃d0 g',d0<A.n/\((y=0/\newestOf (sayTo S A.n 0)=(A.as d0).s/\Inv (A.as d0) t.S t.o g' noSet noSet may kd/\∀st,g'.op st=none)\/(y=3/\t.S.off≠false/\Inv (A.as d0) t.S t.o g' noSet noSet may kd)):=by
 have h3:=h.rest.ci.ar.m3
 by_cases hon:S.off=false
 ·obtain ⟨d0,g',h1,h2,h4,h5,h6⟩:=h.rest.opened h.ld h.said hon hR
  have hld:Ld (A.as d0) t.S g':=fun st m a b e=>(h5 _).trans (h.ld st m a b (by rw [<- h4.lack];exact e))
  have hk:kd=false->∀st m,¬g'.lack st m:=fun e=>by rw [h4.lack];exact h.kds e
  refine ⟨d0,g',h1,?_⟩
  rcases h6 with ⟨e1,e2,e0,e3⟩ | ⟨e1,e2,e3⟩
  ·exact .inl ⟨e1,h2,⟨e2,h.said.as,hld,hk,h.mays.gm h3 h4,e3⟩,e0⟩
  ·exact .inr ⟨e1,e2,e3,h.said.as,hld,hk,h.mays.gm h3 h4,fun q=>absurd q e2⟩
 ·cases hR with
  | off _ =>
   refine ⟨0,g,h.rest.ci.n1,.inr ⟨rfl,hon,?_⟩⟩
   exact ⟨h.rest.ci.as,h.said.as,h.ld,h.kds,h.mays,fun q=>absurd q hon⟩
  | none S1 e=>exact absurd e hon
  | agree S1 y b e=>exact absurd e hon
  | replay S1 b y t U e=>exact absurd e hon
  | flush S1 b t U y e D' U' e1=>exact absurd e1 hon
theorem Rst.opens (h:Rst A S g may kd) (hp:Pw S) (hR:OpenR A.n S y t) :
  y=0/\Pw t.S/\∃d0 g',d0<A.n/\newestOf (sayTo S A.n 0)=(A.as d0).s/\Inv (A.as d0) t.S t.o g' noSet noSet may kd/\∀st,g'.op st=none:=by
 have hq:=hp.openR hR
 obtain ⟨d0,g',h1,h2⟩:=h.opened hR
 rcases h2 with ⟨e1,e2,e3⟩ | ⟨_,e2,_⟩
 ·exact ⟨e1,hq,d0,g',h1,e2,e3⟩
 ·exact absurd hq.1 e2
end
section
variable {S:Sh.Sf} {o:Nat->Int} {D U D' U':Set0} {y:Int} {x X:Sh.Bs} {t e:Stt} {m:Nat}
theorem waits_same {S T:Sh.Sf} (h:Same S T) (hL:∀x∈S.disks,x.waits.length<=m):∀x∈T.disks,x.waits.length<=m:=by rw [h.disks];exact hL
theorem waits_more {T:Sh.Sf} {a b:Nat} (hab:a<=b) (hL:∀x∈T.disks,x.waits.length<=a):∀x∈T.disks,x.waits.length<=b:=fun x hx=>Nat.le_trans (hL x hx) hab
theorem RdT.waits {s:SuP} {M k st me:Nat} (h:RdT s M k st me S o y X t) (hL:∀x∈S.disks,x.waits.length<=m):∀x∈t.S.disks,x.waits.length<=m+3:=by
 have hs:Same S (shouldR s M k st me S).1:=((Same.refl S).looked _).trans (tog_same M)
 cases h with
 | plain _=>exact waits_more (Nat.le_add_right _ _) (waits_same ((Same.refl S).looked _) hL)
 | lack _ _=>exact waits_more (Nat.le_add_right _ _) (waits_same hs hL)
 | dead _ _=>exact waits_more (Nat.le_add_right _ _) (waits_same hs hL)
 | bad z x S2 _ _ hD _=>exact hD.waits (waits_same hs hL)
 | mend x S2 _ _ hD=>exact hD.waits (waits_same hs hL)
theorem RdR.waits {LL M St:Nat} {s:SuP} {n:Int} (h:RdR LL s M St n S o y X t) (hL:∀x∈S.disks,x.waits.length<=m):∀x∈t.S.disks,x.waits.length<=m+3:=by
 cases h with
 | refused _=>exact waits_more (Nat.le_add_right _ _) hL
 | there m' y X t _ _ _ hT=>exact hT.waits hL
theorem WrT.waits {nn LL M k st a pl b:Nat} {s:SuP} (hn:nn<=17) (h8:LL<=8) (h:WrT nn LL s M k st a pl b x D U t y e D' U') (hL:∀x∈t.S.disks,x.waits.length<=m):∀x∈e.S.disks,x.waits.length<=m+500:=by
 cases h with
 | io=>exact waits_more (by omega) hL
 | data y z S2 _ _ hw=>exact waits_more (by omega) (hw.waits hL)
 | par y e D' U' _ _ hw =>
  cases hw with
  | lack=>exact waits_more (by omega) (waits_same (tog_same M) hL)
  | done y z S2 _ hw=>exact waits_more (by omega) (hw.waits (waits_same (tog_same M) hL))
 | both y e D' U' _ _ hw =>
  cases hw with
  | lack=>exact waits_more (by omega) (waits_same partR_same hL)
  | recd y a1 D1 U1 _ hr _ =>
   have:=hr.waits hn h8 (m:=m) (waits_same (T:=(partR s M k st a b t.S).1) partR_same hL)
   exact waits_more (by omega) this
  | data y a1 D1 U1 z S2 _ hr hw _ =>
   have:=hw.waits (hr.waits hn h8 (m:=m) (waits_same (T:=(partR s M k st a b t.S).1) partR_same hL))
   exact waits_more (by omega) this
  | both y a1 D1 U1 z z3 S2 S3 _ hr hw hw2 =>
   have:=hw2.waits (hw.waits (hr.waits hn h8 (m:=m) (waits_same (T:=(partR s M k st a b t.S).1) partR_same hL)))
   exact waits_more (by omega) this
theorem WrR.waits {nn LL M St:Nat} {s:SuP} {n:Int} (hn:nn<=17) (h8:LL<=8) (h:WrR nn LL s M St n x D U S o y e D' U') (hL:∀x∈S.disks,x.waits.length<=m):∀x∈e.S.disks,x.waits.length<=m+1000:=by
 cases h with
 | refused=>exact waits_more (by omega) hL
 | flush _ _ _ _ _ _ _ _ _ hf=>exact waits_more (by omega) (hf.waits hn h8 hL)
 | after _ t _ _ _ _ _ _ _ _ _ _ hf hw =>
  have:=WrT.waits hn h8 hw (hf.waits hn h8 hL)
  exact waits_more (by omega) this
 | first _ _ _ _ _ _ _ _ _ hw=>exact waits_more (by omega) (WrT.waits (t:=⟨S,o⟩) hn h8 hw hL)
theorem tidy_puti (h:Tidy D) (k:Nat):Tidy (D.put (.int .i64 (k:Int)) one0)/\Maps.size (D.put (.int .i64 (k:Int)) one0)<=Maps.size D+1 :=
 ⟨h.put (show WideAt.IsKeyLit (.int .i64 (k:Int)) from trivial) _,by rw [Maps.size_put h];split<;>omega⟩
theorem FlR.opensOf {n L:Nat} {b:Stt} (h:FlR n L D U S y b D' U'):D'=D\/D'=noSet:=by
 cases h with
 | first o' h=>exact .inl rfl
 | slots o1 y b h1 h2 h3 h4=>exact .inl rfl
 | again o1 o' b h1 h2 h3 h4=>exact .inl rfl
 | none o' h1 h2=>exact .inr rfl
 | all o1 o' b h1 h2 h3 h4=>exact .inr rfl
theorem tidy_of {D1:Set0} (h:D1=D\/D1=noSet) (hD:Tidy D/\Maps.size D<=m):Tidy D1/\Maps.size D1<=m:=by
 rcases h with rfl | rfl
 ·exact hD
 ·exact ⟨tidy_empty,Nat.zero_le _⟩
theorem RecR.opensOf {n L d:Nat} {l hd:Sh.Bs} {a b:Stt} (h:RecR n L d l hd a D U y b D' U'):D'=D\/D'=noSet:=by
 rcases h with ⟨_,rfl,_⟩ | ⟨_,y1,a1,D1,U1,h1,⟨_,_,_,rfl,_⟩ | ⟨_,rfl,_⟩⟩
 ·exact .inl rfl
 ·exact h1.opensOf
 ·exact h1.opensOf
theorem tidy_more {D:Set0} {a b:Nat} (hab:a<=b) (h:Tidy D/\Maps.size D<=a):Tidy D/\Maps.size D<=b:=⟨h.1,Nat.le_trans h.2 hab⟩
theorem tidy_put1 (k:Nat) (h:Tidy D/\Maps.size D<=m):Tidy (D.put (.int .i64 (k:Int)) one0)/\Maps.size (D.put (.int .i64 (k:Int)) one0)<=m+1:=by
 obtain ⟨h1,h2⟩:=tidy_puti h.1 k
 exact ⟨h1,Nat.le_trans h2 (Nat.succ_le_succ h.2)⟩
theorem WrT.opensOf {nn LL M k st a pl b:Nat} {s:SuP} (h:WrT nn LL s M k st a pl b x D U t y e D' U') (hD:Tidy D/\Maps.size D<=m):Tidy D'/\Maps.size D'<=m+2:=by
 cases h with
 | io=>exact tidy_more (by omega) hD
 | data=>first
  | exact tidy_more (by omega) (tidy_put1 st hD)
  | exact tidy_more (by omega) hD
 | par y e D' U' _ _ hw=>cases hw with
  | lack=>exact tidy_more (by omega) hD
  | done=>first
   | exact tidy_more (by omega) (tidy_put1 st hD)
   | exact tidy_more (by omega) hD
 | both y e D' U' _ _ hw=>cases hw with
  | lack=>exact tidy_more (by omega) hD
  | recd _ _ _ _ _ hr=>exact tidy_more (by omega) (tidy_of hr.opensOf hD)
  | data _ _ _ _ _ _ _ hr=>exact tidy_more (by omega) (tidy_put1 st (tidy_of hr.opensOf hD))
  | both _ _ _ _ _ _ _ _ _ hr=>exact tidy_put1 st (tidy_put1 st (tidy_of hr.opensOf hD))
theorem WrR.opensOf {nn LL M St:Nat} {s:SuP} {n:Int} (h:WrR nn LL s M St n x D U S o y e D' U') (hD:Tidy D/\Maps.size D<=m):Tidy D'/\Maps.size D'<=m+2:=by
 cases h with
 | refused=>exact tidy_more (by omega) hD
 | flush _ _ _ _ _ _ _ _ _ hf=>exact tidy_more (by omega) (tidy_of hf.opensOf hD)
 | after _ _ _ _ _ _ _ _ _ _ _ _ hf hw=>exact hw.opensOf (tidy_of hf.opensOf hD)
 | first _ _ _ _ _ _ _ _ _ hw=>exact hw.opensOf hD
structure Few (S:Sh.Sf) (D U:Set0) (m:Nat):Prop where
 waits:∀x∈S.disks,x.waits.length<=m
 opens:Tidy D/\Maps.size D<=m
 used:Maps.size U<=m
theorem Few.write {nn LL M St:Nat} {s:SuP} {n:Int} {w:World} {b:Nat} (h:Few S D U m) (hs:SetIs w 155 b U) (hn:nn<=17) (h8:LL<=8) (hW:WrR nn LL s M St n x D U S o y e D' U'):Few e.S D' U' (m+1000) :=
 ⟨hW.waits hn h8 h.waits,tidy_more (by omega) (hW.opensOf h.opens),by have:=hW.usedOf.size hs;have:=h.used;omega⟩
theorem Few.flush {n L:Nat} (h:Few S D U m) (hn:n<=17) (h8:L<=8) (hF:FlR n L D U S y e D' U'):Few e.S D' U' (m+1000) :=
 ⟨waits_more (by omega) (hF.waits hn h8 h.waits),tidy_more (by omega) (tidy_of hF.opensOf h.opens),by
  have:=h.used
  rcases hF.usedOf with rfl | rfl
  ·omega
  ·exact Nat.zero_le _⟩
theorem Few.read {LL M St:Nat} {s:SuP} {n:Int} (h:Few S D U m) (hR:RdR LL s M St n S o y X t):Few t.S D U (m+1000) :=
 ⟨waits_more (by omega) (hR.waits h.waits),tidy_more (by omega) h.opens,Nat.le_trans h.used (by omega)⟩
end
section
variable {J:Vk} {w w':World} {r q cap tq:Nat} {A:Ar} {S S':Sh.Sf} {o o':Nat->Int} {D U D' U':Set0} {F F':Nat->Prop} {kd:Bool} {may:Nat->List Sh.Bs} {m:Nat} {g off c:Nat->Nat}
theorem fits_ci {g:Gh} (h:Ci A S o g) (hs:Said A):Fits A.n A.L A.s A.M A.St S:=by
 have hr:=hs.right 0 h.n1
 have hf:=hs.fit
 obtain ⟨r1,r2,r3,r4,r5,r6,r7,r8⟩:=Go.Proofs.YtepoepmndckmaaaGreatDoor.S.right_parts hr
 have hm:(saidOf A.s 0).most<=(saidOf A.s 0).str:=by unfold Go.Proofs.YtepoepmndckmaaaGreatDoor.S.Sup.most;split<;>omega
 have e1:(saidOf A.s 0).str=A.s.str:=rfl
 have e2:(saidOf A.s 0).mark=A.s.mark:=rfl
 have e3:(saidOf A.s 0).spare=A.s.spare:=rfl
 have h1:=hs.mem
 have h2:=hs.str
 have h3:=hs.logs
 have:=h.ar.m3
 have:=h.ar.l1
 have:=h.ar.l8
 have:=h.ar.s2
 have:=hs.m16
 have:=hs.st1
 unfold Fit at hf
 have e4:(saidOf A.s 0).mem=A.s.mem:=rfl
 exact ⟨h1,h2,h3,by omega,by omega,by omega,by omega,by omega,by omega,by omega,by omega,⟨by omega,by omega⟩,h.len,h.fit⟩
end
section
variable {A:Ar} {S S':Sh.Sf} {o:Nat->Int} {g:Gh} {may:Nat->List Sh.Bs} {kd:Bool} {y:Int} {t:Stt} {m n:Nat}
theorem crash_waits (S:Sh.Sf) (ks:List (List Int)):∀x∈(S.crash ks).disks,x.waits.length<=0:=by
 intro x hx
 obtain ⟨d,hd,rfl⟩:=List.mem_iff_getElem.1 hx
 have hd2:d<S.disks.length:=by rw [<- Sh.crash_length S ks];exact hd
 have e:(S.crash ks).disks[d]=(S.crash ks).disks.getD d default:=by simp [List.getD,hd]
 rw [e,Sh.crash_getD S ks hd2]
 exact Nat.le_refl 0
theorem sayO_off (hoff:S.off≠false) (d b:Nat):sayO S d b=none:=sayO_no fun e=>by
 unfold rdY at e
 rw [off_why hoff,if_neg (by decide)] at e
 exact absurd e (by decide)
theorem Rst.asks (h:Rst A S g may kd):(∀d b x,d<A.n->b<2->sayO S d b=some x->SayIs A.n (blk S.sectors) d b x)/\(∀d b x e,d<A.n->b<2->e<A.n->sayO S d b=some x->({ x with disk:=(e:Int) }:SuP).right=true):=by
 by_cases hon:S.off=false
 ·refine ⟨fun d b x hd hb hx=>h.rest.sayIs h.said hon hd hb hx,fun d b x e hd hb he hx=>?_⟩
  obtain ⟨_,_,rfl⟩:=h.rest.says h.said hon hd hb hx
  exact h.said.right e he
 ·exact ⟨(fun d b x _ _ hx=>by rw [sayO_off hon] at hx;cases hx),(fun d b x e _ _ _ hx=>by rw [sayO_off hon] at hx;cases hx)⟩
theorem RplR.waits {LL M St:Nat} {s:SuP} {a b:Stt} {U U':Set0} (hn:n<=17) (h8:LL<=8) (h:RplR n LL s M St a U y b U') (hL:∀x∈a.S.disks,x.waits.length<=m):∀x∈b.S.disks,x.waits.length<=m+500:=by
 have h1:n*LL<=17*8:=Nat.mul_le_mul hn h8
 rcases h with ⟨_,hs⟩ | ⟨_,j,k,c,U1,hj,hk,hs,hr⟩
 ·have:=hs.waits hL
  rw [slotsTo_length] at this
  exact waits_more (by omega) this
 ·have:=hr.waits (hs.waits hL)
  rw [slotsTo_length] at this
  have h2:(j+1)*LL<=17*8:=Nat.mul_le_mul (by omega) h8
  rw [Nat.succ_mul] at h2
  exact waits_more (by omega) this
theorem OpenR.waits (hn:n<=17) (h8':S.off=false->(newestOf (sayTo S n 0)).logs.toNat<=8) (h:OpenR n S y t) (hL:∀x∈S.disks,x.waits.length<=m):∀x∈t.S.disks,x.waits.length<=m+2000:=by
 cases h with
 | off _=>exact waits_more (by omega) hL
 | none S1 _ hs _=>exact waits_more (by omega) (waits_same hs hL)
 | agree S1 y b _ hs _ hr _=>exact waits_more (by omega) (hr.waits (a:=⟨S1,fun _=>-1⟩) hn (waits_same hs hL))
 | replay S1 b y t U hon hs _ hr hp _ =>
  have h8:=h8' hon
  exact waits_more (by omega) (RplR.waits hn h8 hp (hr.waits (a:=⟨S1,fun _=>-1⟩) hn (waits_same hs hL)))
 | flush S1 b t U y e D' U' hon hs _ hr hp hf =>
  have h8:=h8' hon
  exact waits_more (by omega) (hf.waits hn h8 (RplR.waits hn h8 hp (hr.waits (a:=⟨S1,fun _=>-1⟩) hn (waits_same hs hL))))
end
section
variable {A:Ar} {S:Sh.Sf} {F:Nat->Prop} {kd:Bool} {may:Nat->List Sh.Bs} {gh:Gh}
structure Tbl (B:Nat) (W:World):Prop where
 tabs:Tabs W
 tb:max 0 1+1<=B
 wid:Go.Proofs.YtepoepmndckmaaaGreatDoor.S.Wid W
 wb:2+1<=B
 flds:Flds W
 fb:4+1<=B
 lay:Go.Proofs.YtepoepmndckmaaaGreatDoor.L.Tab W
 pb:3+1<=B
theorem rst_open {B p:Nat} {W w:World} (h:Rst A S gh may kd) (ha:Sh.At B W w p S F) (hT:Tbl B W) (hL:∀k∈S.disks,k.waits.length<=0) :
  Calls Tryz.prog 19 #[.pointer (some ⟨p,0,none⟩)] w (OpenQ B W w p A.n S F):=by
 obtain ⟨a1,a2⟩:=h.asks
 have hf:=h.rest.ci.fit
 exact open_any ha h.rest.ci.len h.rest.ci.n1 h.rest.ci.ar.n17 hT.tabs hT.tb hT.wid hT.wb hT.flds hT.fb hT.lay hT.pb (by omega) a1 a2 hL (Nat.zero_le _)
end
end Go.Proofs.YtepoepmndckmaaaGreatDoor.U
