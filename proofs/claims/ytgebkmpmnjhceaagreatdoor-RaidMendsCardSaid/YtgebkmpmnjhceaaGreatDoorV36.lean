/-
  What the statement's proof rests on, part 36.
  Conditions: each theorem's own.
-/
import Derived.Test.YtgebkmpmnjhceaaGreatDoorV35
import Derived.Test.YtgebkmpmnjhceaaGreatDoorV34
import Derived.Test.YtgebkmpmnjhceaaGreatDoorV31
import Derived.Test.YtgebkmpmnjhceaaGreatDoorV33
import Derived.Test.YtgebkmpmnjhceaaGreatDoorVtk
open Go.Lib (hid)
namespace Go.Proofs.YtgebkmpmnjhceaaGreatDoor.U
open Go.RowKit Go.Maps
def rigC (p v M St L q N cap tq:Nat) (kd:Bool):Array Value:=#[.pointer (some ⟨p,0,none⟩),.pointer (some ⟨v,0,none⟩),.int .i64 M,.int .i64 St,.int .i64 L,.slice (some ⟨q,0,none⟩) N cap,.bool kd,.slice (some ⟨tq,0,none⟩) St St,.bool false]
def RG (J:Vk) (r:Nat) (F:Nat->Prop) (b:Nat):Prop:=AllV J F b\/b=r\/∃i,i<J.n/\b=J.gn i
def RT (J:Vk) (r tq:Nat) (F:Nat->Prop) (b:Nat):Prop:=RG J r F b\/b=tq
structure Tqs (w:World) (B tq n:Nat) (f:Nat->Bool):Prop where
 low:B<=tq
 lt:tq<w.heap.size
 at_:∀j,j<n->w.cell? ⟨tq,j,none⟩=some (.bool (f j))
 free:∀j,j<n->w.frozen? ⟨tq,j,none⟩=false
theorem Tqs.kept {w w':World} {B tq n:Nat} {f:Nat->Bool} (h:Tqs w B tq n f) (hb:w'.heap[tq]?=w.heap[tq]?):Tqs w' B tq n f :=
 ⟨h.low,by
  have h1:w.heap[tq]?=some (w.heap[tq]'h.lt):=Array.getElem?_eq_getElem h.lt
  exact (Array.getElem?_eq_some_iff.1 (hb.trans h1)).1,fun j hj=>(World.cell?_of_block (w:=w) (a:=⟨tq,j,none⟩) hb).trans (h.at_ j hj),fun j hj=>(World.frozen?_of_block (w:=w) (a:=⟨tq,j,none⟩) hb).trans (h.free j hj)⟩
structure RgIs (J:Vk) (w:World) (r q cap tq:Nat) (A:Ar) (kd:Bool) (may:Nat->List Sh.Bs) (F:Nat->Prop) (g off c:Nat->Nat):Prop where
 row:w.heap[r]?=some (.cells (rigC J.p J.v A.M A.St A.L q (A.St*(A.M-1)) cap tq kd) 39 (0,0))
 may:MayIs (A.St*(A.M-1)) w J.B q (RT J r tq F) (fun j=>j<A.St*(A.M-1)) may g off c
 low:J.B<=r
 out:¬AllV J F r
 log:∀i,i<J.n->J.gn i≠r
 tqs:Tqs w J.B tq A.St (fun _=>false)
 tqo:¬RG J r F tq
def Rg (J:Vk) (w:World) (r:Nat) (A:Ar) (kd:Bool) (may:Nat->List Sh.Bs) (F:Nat->Prop):Prop:=∃q cap tq g off c,RgIs J w r q cap tq A kd may F g off c
structure Rig (J:Vk) (w:World) (r:Nat) (A:Ar) (S:Sh.Sf) (o:Nat->Int) (D U:Set0) (F:Nat->Prop) (kd:Bool) (may:Nat->List Sh.Bs) (m:Nat):Prop where
 vr:Vr J w A.s o S F D U
 few:Few S D U m
 n:J.n=A.n
 L:J.L=A.L
 rg:Rg J w r A kd may F
section
variable {J:Vk} {w w':World} {r q cap tq:Nat} {A:Ar} {S S':Sh.Sf} {o o':Nat->Int} {D U D' U':Set0} {F F':Nat->Prop} {kd:Bool} {may:Nat->List Sh.Bs} {m:Nat} {g off c:Nat->Nat}
theorem moves_rg (m:Sh.Moves (AllV J F) w (AllV J F') w'):Sh.Moves (RG J r F) w (RG J r F') w' :=
 ⟨⟨m.1.os,m.1.tape,m.1.output,m.1.size,fun k hk hn=>m.1.block k hk fun e=>hn (.inl e)⟩,fun b e=>e.elim (fun e=>(m.2 b e).imp .inl id) (fun e=>.inl (.inr e))⟩
theorem moves_rt (m:Sh.Moves (AllV J F) w (AllV J F') w'):Sh.Moves (RT J r tq F) w (RT J r tq F') w' :=
 ⟨⟨m.1.os,m.1.tape,m.1.output,m.1.size,fun k hk hn=>m.1.block k hk fun e=>hn (.inl (.inl e))⟩,fun b e=>e.elim (fun e=>((moves_rg m).2 b e).imp .inl id) (fun e=>.inl (.inr e))⟩
theorem RgIs.moves (h:RgIs J w r q cap tq A kd may F g off c) (m:Sh.Moves (AllV J F) w (AllV J F') w'):RgIs J w' r q cap tq A kd may F' g off c:=by
 have hlt:=(Array.getElem?_eq_some_iff.1 h.row).1
 refine ⟨(m.1.block r hlt h.out).trans h.row,h.may.moves (moves_rt m),h.low,fun e=>?_,h.log,h.tqs.kept (m.1.block tq h.tqs.lt fun e=>h.tqo (.inl e)),fun e=>?_⟩
 ·rcases m.2 r e with e | e
  ·exact h.out e
  ·omega
 ·rcases (moves_rg m).2 tq e with e | e
  ·exact h.tqo e
  ·have:=h.tqs.lt
   omega
theorem Rg.moves (h:Rg J w r A kd may F) (m:Sh.Moves (AllV J F) w (AllV J F') w'):Rg J w' r A kd may F':=by
 obtain ⟨q,cap,tq,g,off,c,h⟩:=h
 exact ⟨q,cap,tq,g,off,c,h.moves m⟩
theorem RgIs.grown (h:RgIs J w r q cap tq A kd may F g off c) (hb:Below w.heap.size w w'):RgIs J w' r q cap tq A kd may F g off c:=h.moves (moves_grown hb)
theorem Rg.grown (h:Rg J w r A kd may F) (hb:Below w.heap.size w w'):Rg J w' r A kd may F:=h.moves (moves_grown hb)
theorem Rig.grown (h:Rig J w r A S o D U F kd may m) (hb:Below w.heap.size w w'):Rig J w' r A S o D U F kd may m:=⟨h.vr.grown hb,h.few,h.n,h.L,h.rg.grown hb⟩
theorem fits_ci {g:Gh} (h:Ci A S o g) (hs:Said A):Fits A.n A.L A.s A.M A.St S:=by
 have hr:=hs.right 0 h.n1
 have hf:=hs.fit
 obtain ⟨r1,r2,r3,r4,r5,r6,r7,r8⟩:=Go.Proofs.YtgebkmpmnjhceaaGreatDoor.S.right_parts hr
 have hm:(saidOf A.s 0).most<=(saidOf A.s 0).str:=by unfold Go.Proofs.YtgebkmpmnjhceaaGreatDoor.S.Sup.most;split<;>omega
 have e1:(saidOf A.s 0).str=A.s.str:=rfl
 have e2:(saidOf A.s 0).mark=A.s.mark:=rfl
 have e3:(saidOf A.s 0).spare=A.s.spare:=rfl
 have h1:=hs.mem
 have h2:=hs.str
 have h3:=hs.logs
 have:=h.ar.m3
 have:=h.ar.l1
 have:=h.ar.l8
 have:=h.ar.s2
 have:=hs.m16
 have:=hs.st1
 unfold Fit at hf
 have e4:(saidOf A.s 0).mem=A.s.mem:=rfl
 exact ⟨h1,h2,h3,by omega,by omega,by omega,by omega,by omega,by omega,by omega,by omega,⟨by omega,by omega⟩,h.len,h.fit⟩
theorem RgIs.cells (h:RgIs J w r q cap tq A kd may F g off c) :
  w.cell? ⟨r,0,none⟩=some (.pointer (some ⟨J.p,0,none⟩))/\w.cell? ⟨r,1,none⟩=some (.pointer (some ⟨J.v,0,none⟩))/\w.cell? ⟨r,2,none⟩=some (.int .i64 A.M)/\w.cell? ⟨r,5,none⟩=some (.slice (some ⟨q,0,none⟩) (A.St*(A.M-1)) cap)/\w.cell? ⟨r,6,none⟩=some (.bool kd)/\w.cell? ⟨r,8,none⟩=some (.bool false) :=
 ⟨cell_of_row _ _ 0 _ _ _ h.row,cell_of_row _ _ 1 _ _ _ h.row,cell_of_row _ _ 2 _ _ _ h.row,cell_of_row _ _ 5 _ _ _ h.row,cell_of_row _ _ 6 _ _ _ h.row,cell_of_row _ _ 8 _ _ _ h.row⟩
end
section
variable {J:Vk} {w w':World} {r q cap tq:Nat} {A:Ar} {F:Nat->Prop} {kd:Bool} {may:Nat->List Sh.Bs} {g off c:Nat->Nat}
end
def setTo (A:Ar) (g:Gh) (may:Nat->List Sh.Bs) (k:Nat):Nat->List Sh.Bs:=fun j=>if j<k then [g.dat (stOf A.M j) (meOf A.M j)] else may j
theorem setTo_0 (A:Ar) (g:Gh) (may:Nat->List Sh.Bs):setTo A g may 0=may:=by funext j;simp [setTo]
theorem setTo_succ (A:Ar) (g:Gh) (may:Nat->List Sh.Bs) (k:Nat):setTo A g may (k+1)=fun j=>if j=k then [g.dat (stOf A.M k) (meOf A.M k)] else setTo A g may k j:=by
 funext j
 unfold setTo
 by_cases e:j=k
 ·subst e;simp
 ·by_cases h:j<k
  ·rw [if_pos (by omega),if_neg e,if_pos h]
  ·rw [if_neg (by omega),if_neg e,if_neg h]
section
variable {J:Vk} {w w':World} {r q cap tq m:Nat} {A:Ar} {S S':Sh.Sf} {o o':Nat->Int} {D U:Set0} {F:Nat->Prop} {kd:Bool} {may:Nat->List Sh.Bs} {gh:Gh} {g off c:Nat->Nat}
theorem settled (h:Inv A S o gh D U may kd) (ho:∀st,gh.op st=none):Inv A S o gh D U (setTo A gh may (A.St*(A.M-1))) kd/\LastOk A gh (setTo A gh may (A.St*(A.M-1))):=by
 refine ⟨⟨h.ci,h.said,h.ld,h.kds,fun j hj=>?_,h.on⟩,fun j hj=>?_⟩
 ·unfold setTo
  rw [if_pos hj]
  exact ⟨List.mem_singleton.2 rfl,fun old e=>by rw [ho] at e;cases e⟩
 ·unfold setTo
  rw [if_pos hj]
  exact ⟨by simp,by simp [List.getD]⟩
end
section
variable {J:Vk} {w w':World} {r q cap tq m k:Nat} {A:Ar} {S S':Sh.Sf} {o o':Nat->Int} {D U:Set0} {F:Nat->Prop} {kd:Bool} {may:Nat->List Sh.Bs} {gh:Gh} {g off c:Nat->Nat} {b:Sh.Bs}
theorem Vr.only_tab {s:Go.Proofs.YtgebkmpmnjhceaaGreatDoor.S.Sup} {X:Nat->Prop} (h:Vr J w s o S F D U) (ho:Sh.Only X w w') (hx2:∀b,AllV J F b->¬X b) (hbel:Below J.B J.W w') (hg:∀i,i<J.n->w'.heap[J.gn i]?=w.heap[J.gn i]?):Vr J w' s o S F D U:=by
 have hk:∀b,b<w.heap.size->¬X b->w'.heap[b]?=w.heap[b]?:=fun b hb hx=>ho.block b hb hx
 exact ⟨⟨⟨⟨h.vo.ds.on.shelf.only ho (fun b hb e=>hx2 b (.inl (.inl hb)) e),h.vo.ds.on.low,hbel,Nat.le_trans h.size ho.size⟩,fun i hi=>(h.vo.ds.dev i hi).same (hk _ (h.vo.ds.dev i hi).lt (hx2 _ (.inl (.inr ⟨i,hi,rfl⟩)))),h.vo.ds.apart,h.vo.ds.inj,h.vo.ds.low⟩,h.vo.vol.kept (hk _ h.vo.vol.vlt (hx2 _ (.inr (.inl rfl)))) (hk _ h.vo.vol.tlt (hx2 _ (.inr (.inr (.inl rfl))))),h.vo.apart,h.vo.low,⟨Nat.lt_of_lt_of_le h.vo.lt.1 ho.size,Nat.lt_of_lt_of_le h.vo.lt.2 ho.size⟩⟩,⟨fun i hi=>(h.logs.log i hi).same (hg i hi),h.logs.apart,h.logs.low⟩,h.ne,set_same h.opens (hk _ h.vo.lt.1 (hx2 _ (.inr (.inr (.inr (.inl rfl)))))),set_same h.used (hk _ h.vo.lt.2 (hx2 _ (.inr (.inr (.inr (.inr rfl))))))⟩
theorem rg_lt (h:Vr J w A.s o S F D U) (hr:RgIs J w r q cap tq A kd may F g off c):∀b,RG J r F b->b<w.heap.size:=by
 rintro b (e | rfl | ⟨i,hi,rfl⟩)
 ·exact h.lt b e
 ·exact (Array.getElem?_eq_some_iff.1 hr.row).1
 ·have:=(h.lg hi)
  exact World.block_lt_of_cell? w _ (h.logs.log i hi).c0
theorem Rig.table (h:Rig J w r A S o D U F kd may m) (hr:RgIs J w r q cap tq A kd may F g off c) {may':Nat->List Sh.Bs} {X:Nat->Prop} (ho:Sh.Only X w w') (hX:∀b,X b->b=q\/∃j,j<A.St*(A.M-1)/\b=g j)
  (hm:May (A.St*(A.M-1)) w' J.B q (RT J r tq F) (fun j=>j<A.St*(A.M-1)) may'):Rig J w' r A S o D U F kd may' m:=by
 have hn2:∀b,X b->¬RT J r tq F b:=fun b hb=>by
  rcases hX b hb with rfl | ⟨j,hj,rfl⟩
  ·exact hr.may.outq
  ·exact hr.may.outg j hj
 have hn:∀b,X b->¬RG J r F b:=fun b hb e=>hn2 b hb (.inl e)
 have hlow:∀b,X b->J.B<=b:=fun b hb=>by
  rcases hX b hb with rfl | ⟨j,hj,rfl⟩
  ·exact hr.may.low
  ·exact hr.may.glow j hj
 have hk:∀b,b<w.heap.size->RG J r F b->w'.heap[b]?=w.heap[b]?:=fun b hb hx=>ho.block b hb fun e=>hn b e hx
 have hV:Vr J w' A.s o S F D U:=by
  have hv:=h.vr
  have hbel:Below J.B J.W w':=hv.bel.trans (ho.below hlow hv.size)
  have hx:∀b,AllV J F b->w'.heap[b]?=w.heap[b]?:=fun b hb=>hk b (hv.lt b hb) (.inl hb)
  have hx2:∀b,AllV J F b->¬X b:=fun b hb e=>hn b e (.inl hb)
  exact hv.only_tab ho hx2 hbel (fun i hi=>hk _ (World.block_lt_of_cell? w _ (hv.logs.log i hi).c0) (.inr (.inr ⟨i,hi,rfl⟩)))
 refine ⟨hV,h.few,h.n,h.L,?_⟩
 obtain ⟨g',off',c',hm⟩:=hm
 exact ⟨q,cap,tq,g',off',c',(hk r (Array.getElem?_eq_some_iff.1 hr.row).1 (.inr (.inl rfl))).trans hr.row,hm,hr.low,hr.out,hr.log,hr.tqs.kept (ho.block tq hr.tqs.lt fun e=>hn2 tq e (.inr rfl)),hr.tqo⟩
end
abbrev Kn:=Sh.Sf->(Nat->Int)->Set0->Set0->(Nat->List Sh.Bs)->Prop
structure KeepW (A:Ar) (I:Kn):Prop where
 ar:ArOk A
 said:Said A
 fits:∀{S o D U may},I S o D U may->Fits A.n A.L A.s A.M A.St S
 ne:∀{S o D U may},I S o D U may->∀j,j<A.St*(A.M-1)->may j≠[]
 on:∀{S o D U may},I S o D U may->S.off=false
 write:∀{S o D U may m x y e D' U'},I S o D U may->IsMap D->IsMap U->m<A.St*(A.M-1)->Sh.Sec x->WrR A.n A.L A.s A.M A.St (m:Int) x D U S o y e D' U'->y=0/\I e.S e.o D' U' (pushM may m x)
 flush:∀{S o D U may y e D' U'},I S o D U may->FlR A.n A.L D U S y e D' U'->y=0/\I e.S e.o D' U' (trimAll may)
structure KeepR (A:Ar) (I:Kn) (g:Nat->Sh.Bs):Prop where
 fits:∀{S o D U may},I S o D U may->Fits A.n A.L A.s A.M A.St S
 read:∀{S o D U may m y X t},I S o D U may->m<A.St*(A.M-1)->RdR A.L A.s A.M A.St (m:Int) S o y X t->y=0/\X=g m/\I t.S t.o D U may
 mem:∀{S o D U may},I S o D U may->∀j,j<A.St*(A.M-1)->g j∈may j
def GoodK (I:Kn) (J:Vk) (r:Nat) (A:Ar) (kd:Bool) (m lb:Nat) (w:World):Prop :=
 ∃(S:Sh.Sf) (o:Nat->Int) (D U:Set0) (F:Nat->Prop) (may:Nat->List Sh.Bs),Rig J w r A S o D U F kd may m/\I S o D U may/\(∀j,j<A.St*(A.M-1)->(may j).length<=lb)
theorem GoodK.more {I:Kn} {J:Vk} {r:Nat} {A:Ar} {kd:Bool} {a b l l':Nat} {w:World} (hab:a<=b) (hl:l<=l') (h:GoodK I J r A kd a l w):GoodK I J r A kd b l' w:=by
 obtain ⟨S,o,D,U,F,may,h1,h2,h3⟩:=h
 exact ⟨S,o,D,U,F,may,⟨h1.vr,h1.few.more hab,h1.n,h1.L,h1.rg⟩,h2,fun j hj=>Nat.le_trans (h3 j hj) hl⟩
def Iw (A:Ar):Kn:=fun S o D U may=>(∃gh,Inv A S o gh D U may false/\LastOk A gh may)/\Pw S/\∀d,Dead S d=false
section
variable {A:Ar} {S:Sh.Sf} {o:Nat->Int} {D U D' U':Set0} {may:Nat->List Sh.Bs} {m:Nat} {x:Sh.Bs} {y:Int} {e:Stt}
theorem Iw.write (h:Iw A S o D U may) (hD:IsMap D) (hU:IsMap U) (hm:m<A.St*(A.M-1)) (hx:Sh.Sec x) (hW:WrR A.n A.L A.s A.M A.St (m:Int) x D U S o y e D' U'):y=0/\Iw A e.S e.o D' U' (pushM may m x):=by
 obtain ⟨⟨gh,hi,hl⟩,hp,hd⟩:=h
 have hpe:=hp.wrR hW
 have q1:=((hi.on hp.1).write hi.ld hD hU hm hx hW).1
 obtain ⟨g',h1,h2⟩:=hi.write hl hp.1 hD hU hm hx hW
 rcases h2 with ⟨rfl,h2⟩ | ⟨_,h2⟩
 ·exact ⟨rfl,⟨g',h1,h2 hpe.1⟩,hpe,fun d=>(q1 d).trans (hd d)⟩
 ·exact absurd hpe.1 h2
theorem Iw.flush (h:Iw A S o D U may) (hF:FlR A.n A.L D U S y e D' U'):y=0/\Iw A e.S e.o D' U' (trimAll may):=by
 obtain ⟨⟨gh,hi,hl⟩,hp,hd⟩:=h
 have hpe:=hp.flR hF
 have q1:=((hi.on hp.1).fi.flush hF).1
 obtain ⟨g',h2⟩:=hi.flush (fun _=>hl) hF
 rcases h2 with ⟨rfl,h1,h2⟩ | ⟨_,h2,_⟩
 ·exact ⟨rfl,⟨g',h1,h2 hpe.1⟩,hpe,fun d=>(q1 d).trans (hd d)⟩
 ·exact absurd hpe.1 h2
theorem keep_w (hA:ArOk A) (hs:Said A):KeepW A (Iw A) where
 ar:=hA
 said:=hs
 fits h:=by
  obtain ⟨⟨gh,hi,_⟩,_⟩:=h
  exact fits_ci hi.ci hi.said
 ne h j hj e:=by
  obtain ⟨⟨gh,hi,_⟩,_⟩:=h
  have:=(hi.mays j hj).1
  rw [e] at this
  cases this
 on h:=h.2.1.1
 write h:=h.write
 flush h:=h.flush
theorem Iw.ws (h:Iw A S o D U may):∃g:Nat->Nat->Sh.Bs,Ws A S g (fun _ _=>False)/\∀j,j<A.St*(A.M-1)->may j≠[]/\(may j).getD ((may j).length-1) []=g (stOf A.M j) (meOf A.M j):=by
 obtain ⟨⟨gh,hi,hl⟩,hp,hd⟩:=h
 have ho:=hi.on hp.1
 refine ⟨gh.dat,⟨hi.ci.ar,fun d hlt=>⟨by rw [hi.ci.len];exact hlt,hp.1,hp.2,hd d,(hi.ci.sec.dk (by rw [hi.ci.len];exact hlt)).2.2⟩,hi.ci.sec,hi.ci.len,hi.ci.fit,hi.ci.ok.sum,hi.ci.ok.sec,fun st hst m hm=>?_,fun _ _ _ _ e=>e.elim⟩,fun j hj=>hl j hj⟩
 rcases ho.fi.now st hst m hm with e | ⟨e,_⟩
 ·exact .inl e
 ·exact absurd e (hi.kds rfl st m)
end
def rigT (p v M St L q N cap tq:Nat) (bd:Bool):Array Value:=#[.pointer (some ⟨p,0,none⟩),.pointer (some ⟨v,0,none⟩),.int .i64 M,.int .i64 St,.int .i64 L,.slice (some ⟨q,0,none⟩) N cap,.bool false,.slice (some ⟨tq,0,none⟩) St St,.bool bd]
structure RgT (J:Vk) (w:World) (r q cap tq:Nat) (A:Ar) (tn:Nat->Bool) (bd:Bool) (may:Nat->List Sh.Bs) (F:Nat->Prop) (g off c:Nat->Nat):Prop where
 row:w.heap[r]?=some (.cells (rigT J.p J.v A.M A.St A.L q (A.St*(A.M-1)) cap tq bd) 39 (0,0))
 may:MayIs (A.St*(A.M-1)) w J.B q (RT J r tq F) (fun j=>j<A.St*(A.M-1)) may g off c
 low:J.B<=r
 out:¬AllV J F r
 log:∀i,i<J.n->J.gn i≠r
 tqs:Tqs w J.B tq A.St tn
 tqo:¬RG J r F tq
structure RigT (J:Vk) (w:World) (r:Nat) (A:Ar) (S:Sh.Sf) (o:Nat->Int) (D U:Set0) (F:Nat->Prop) (tn:Nat->Bool) (bd:Bool) (may:Nat->List Sh.Bs) (m:Nat):Prop where
 vr:Vr J w A.s o S F D U
 few:Few S D U m
 n:J.n=A.n
 L:J.L=A.L
 rg:∃q cap tq g off c,RgT J w r q cap tq A tn bd may F g off c
section
variable {J:Vk} {w w':World} {r q cap tq m a k:Nat} {A:Ar} {S S':Sh.Sf} {o o':Nat->Int} {D U D' U':Set0} {F F':Nat->Prop} {tn:Nat->Bool} {bd:Bool} {may:Nat->List Sh.Bs} {g off c:Nat->Nat} {b:Sh.Bs}
theorem Rig.toT (h:Rig J w r A S o D U F false may m):RigT J w r A S o D U F (fun _=>false) false may m:=by
 obtain ⟨q,cap,tq,g,off,c,hr⟩:=h.rg
 exact ⟨h.vr,h.few,h.n,h.L,q,cap,tq,g,off,c,⟨hr.row,hr.may,hr.low,hr.out,hr.log,hr.tqs,hr.tqo⟩⟩
theorem RgT.moves (h:RgT J w r q cap tq A tn bd may F g off c) (m:Sh.Moves (AllV J F) w (AllV J F') w'):RgT J w' r q cap tq A tn bd may F' g off c:=by
 have hlt:=(Array.getElem?_eq_some_iff.1 h.row).1
 refine ⟨(m.1.block r hlt h.out).trans h.row,h.may.moves (moves_rt m),h.low,fun e=>?_,h.log,h.tqs.kept (m.1.block tq h.tqs.lt fun e=>h.tqo (.inl e)),fun e=>?_⟩
 ·rcases m.2 r e with e | e
  ·exact h.out e
  ·omega
 ·rcases (moves_rg m).2 tq e with e | e
  ·exact h.tqo e
  ·have:=h.tqs.lt
   omega
theorem RgT.grown (h:RgT J w r q cap tq A tn bd may F g off c) (hb:Below w.heap.size w w'):RgT J w' r q cap tq A tn bd may F g off c:=h.moves (moves_grown hb)
theorem RigT.grown (h:RigT J w r A S o D U F tn bd may m) (hb:Below w.heap.size w w'):RigT J w' r A S o D U F tn bd may m:=by
 obtain ⟨q,cap,tq,g,off,c,hr⟩:=h.rg
 exact ⟨h.vr.grown hb,h.few,h.n,h.L,q,cap,tq,g,off,c,hr.grown hb⟩
theorem RigT.moved (h:RigT J w r A S o D U F tn bd may m) (V:Vr J w' A.s o' S' F' D' U') (mv:Sh.Moves (AllV J F) w (AllV J F') w') (hf:Few S' D' U' a):RigT J w' r A S' o' D' U' F' tn bd may a:=by
 obtain ⟨q,cap,tq,g,off,c,hr⟩:=h.rg
 exact ⟨V,hf,h.n,h.L,q,cap,tq,g,off,c,hr.moves mv⟩
theorem RgT.cells (h:RgT J w r q cap tq A tn bd may F g off c) :
  w.cell? ⟨r,0,none⟩=some (.pointer (some ⟨J.p,0,none⟩))/\w.cell? ⟨r,1,none⟩=some (.pointer (some ⟨J.v,0,none⟩))/\w.cell? ⟨r,2,none⟩=some (.int .i64 A.M)/\w.cell? ⟨r,5,none⟩=some (.slice (some ⟨q,0,none⟩) (A.St*(A.M-1)) cap)/\w.cell? ⟨r,6,none⟩=some (.bool false)/\w.cell? ⟨r,8,none⟩=some (.bool bd) :=
 ⟨cell_of_row _ _ 0 _ _ _ h.row,cell_of_row _ _ 1 _ _ _ h.row,cell_of_row _ _ 2 _ _ _ h.row,cell_of_row _ _ 5 _ _ _ h.row,cell_of_row _ _ 6 _ _ _ h.row,cell_of_row _ _ 8 _ _ _ h.row⟩
theorem RgT.cells2 (h:RgT J w r q cap tq A tn bd may F g off c) :
  w.cell? ⟨r,3,none⟩=some (.int .i64 A.St)/\w.cell? ⟨r,4,none⟩=some (.int .i64 A.L)/\w.cell? ⟨r,7,none⟩=some (.slice (some ⟨tq,0,none⟩) A.St A.St) :=
 ⟨cell_of_row _ _ 3 _ _ _ h.row,cell_of_row _ _ 4 _ _ _ h.row,cell_of_row _ _ 7 _ _ _ h.row⟩
theorem rgT_lt (h:Vr J w A.s o S F D U) (hr:RgT J w r q cap tq A tn bd may F g off c):∀b,RG J r F b->b<w.heap.size:=by
 rintro b (e | rfl | ⟨i,hi,rfl⟩)
 ·exact h.lt b e
 ·exact (Array.getElem?_eq_some_iff.1 hr.row).1
 ·exact World.block_lt_of_cell? w _ (h.logs.log i hi).c0
theorem RigT.table (h:RigT J w r A S o D U F tn bd may m) (hr:RgT J w r q cap tq A tn bd may F g off c) {may':Nat->List Sh.Bs} {X:Nat->Prop} (ho:Sh.Only X w w') (hX:∀b,X b->b=q\/∃j,j<A.St*(A.M-1)/\b=g j)
  (hm:May (A.St*(A.M-1)) w' J.B q (RT J r tq F) (fun j=>j<A.St*(A.M-1)) may'):RigT J w' r A S o D U F tn bd may' m:=by
 have hn2:∀b,X b->¬RT J r tq F b:=fun b hb=>by
  rcases hX b hb with rfl | ⟨j,hj,rfl⟩
  ·exact hr.may.outq
  ·exact hr.may.outg j hj
 have hn:∀b,X b->¬RG J r F b:=fun b hb e=>hn2 b hb (.inl e)
 have hlow:∀b,X b->J.B<=b:=fun b hb=>by
  rcases hX b hb with rfl | ⟨j,hj,rfl⟩
  ·exact hr.may.low
  ·exact hr.may.glow j hj
 have hk:∀b,b<w.heap.size->RG J r F b->w'.heap[b]?=w.heap[b]?:=fun b hb hx=>ho.block b hb fun e=>hn b e hx
 have hV:Vr J w' A.s o S F D U:=by
  have hv:=h.vr
  have hbel:Below J.B J.W w':=hv.bel.trans (ho.below hlow hv.size)
  have hx2:∀b,AllV J F b->¬X b:=fun b hb e=>hn b e (.inl hb)
  exact hv.only_tab ho hx2 hbel (fun i hi=>hk _ (World.block_lt_of_cell? w _ (hv.logs.log i hi).c0) (.inr (.inr ⟨i,hi,rfl⟩)))
 refine ⟨hV,h.few,h.n,h.L,?_⟩
 obtain ⟨g',off',c',hm⟩:=hm
 exact ⟨q,cap,tq,g',off',c',(hk r (Array.getElem?_eq_some_iff.1 hr.row).1 (.inr (.inl rfl))).trans hr.row,hm,hr.low,hr.out,hr.log,hr.tqs.kept (ho.block tq hr.tqs.lt fun e=>hn2 tq e (.inr rfl)),hr.tqo⟩
theorem RigT.fill (h:RigT J w r A S o D U F tn bd may m) (hr:RgT J w r q cap tq A tn bd may F g off c) (hk:k<A.St*(A.M-1)) (b:Sh.Bs) (t:TypeId) :
  RigT J ((w.alloc (.cells #[Sh.sv b] t)).setCell ⟨q,k,none⟩ (.slice (some ⟨w.heap.size,0,none⟩) 1 1)) r A S o D U F tn bd (fun j=>if j=k then [b] else may j) m:=by
 have hlt:=rgT_lt h.vr hr
 have hb:Below w.heap.size w (w.alloc (.cells #[Sh.sv b] t)):=(Below.refl _ w).alloc (Nat.le_refl _) _
 have hrow:=heap_alloc_new w (.cells #[Sh.sv b] t)
 have hr1:=hr.grown hb
 refine (h.grown hb).table hr1 (X:=fun x=>x=q) (Sh.Only.setCell (F:=fun b=>b=q) (p:=⟨q,k,none⟩) (Sh.Only.refl _ _) (.inl rfl) _) (fun b e=>.inl e) ?_
 refine hr1.may.put (l:=[b]) hk ⟨rfl,Nat.le_refl _,by simp,fun j hj=>?_,fun j _=>frozen_of_row _ _ _ _ _ hrow,fun j hj=>?_⟩ h.vr.size (Nat.ne_of_gt hr.may.lt) (fun j hj _=>Nat.ne_of_lt (hr.may.mid j hj).lt) (fun e=>e.elim (fun e=>Nat.lt_irrefl _ (hlt _ e)) (fun e=>absurd hr.tqs.lt (by omega))) (fun j hj=>.inl hj)
 ·obtain rfl:j=0:=by omega
  rw [cell_of_row _ _ (0+0) _ _ _ hrow];rfl
 ·obtain rfl:j=0:=by have:([b]:List Sh.Bs).length=1:=rfl;omega
  rw [cell_of_row _ _ (0+0) _ _ _ hrow];rfl
theorem RigT.mark (h:RigT J w r A S o D U F tn bd may m) (hr:RgT J w r q cap tq A tn bd may F g off c) (hk:k<A.St) :
  RigT J ((w.setCell ⟨tq,k,none⟩ (.bool true)).setCell ⟨r,8,none⟩ (.bool true)) r A S o D U F (fun j=>if j=k then true else tn j) true may m:=by
 have ht:tq≠r:=fun e=>hr.tqo (.inr (.inl e))
 have ho:Sh.Only (fun b=>b=tq\/b=r) w ((w.setCell ⟨tq,k,none⟩ (.bool true)).setCell ⟨r,8,none⟩ (.bool true)):=((Sh.Only.refl (fun b=>b=tq\/b=r) w).setCell (p:=⟨tq,k,none⟩) (.inl (.inl rfl)) _).setCell (p:=⟨r,8,none⟩) (.inl (.inr rfl)) _
 have hb:∀x,x<w.heap.size->x≠tq->x≠r->((w.setCell ⟨tq,k,none⟩ (.bool true)).setCell ⟨r,8,none⟩ (.bool true)).heap[x]?=w.heap[x]?:=fun x hx h1 h2=>ho.block x hx fun e=>e.elim h1 h2
 have hlt:=rgT_lt h.vr hr
 have hrow:=heap_setCell_same (w.setCell ⟨tq,k,none⟩ (.bool true)) r 8 _ _ (.bool true) ((heap_setCell_other w ⟨tq,k,none⟩ r _ (Ne.symm ht)).trans hr.row)
 have hV:Vr J ((w.setCell ⟨tq,k,none⟩ (.bool true)).setCell ⟨r,8,none⟩ (.bool true)) A.s o S F D U:=by
  have hv:=h.vr
  refine hv.only_tab ho (fun b hv2 e=>?_) (hv.bel.trans (ho.below (fun b e=>e.elim (fun e=>e▸hr.tqs.low) (fun e=>e▸hr.low)) hv.size)) (fun i hi=>?_)
  ·rcases e with rfl | rfl
   ·exact hr.tqo (.inl hv2)
   ·exact hr.out hv2
  ·exact hb _ (World.block_lt_of_cell? w _ (hv.logs.log i hi).c0) (fun e=>hr.tqo (.inr (.inr ⟨i,hi,e.symm⟩))) (hr.log i hi)
 refine ⟨hV,h.few,h.n,h.L,q,cap,tq,g,off,c,hrow,?_,hr.low,hr.out,hr.log,?_,hr.tqo⟩
 ·exact hr.may.same (fun _ e=>e) (hb q hr.may.lt (fun e=>hr.may.outq (.inr e)) (fun e=>hr.may.outq (.inl (.inr (.inl e))))) (fun j hj=>hb _ (hr.may.mid j hj).lt (fun e=>hr.may.outg j hj (.inr e)) (fun e=>hr.may.outg j hj (.inl (.inr (.inl e))))) ho.size fun b e=>.inl e
 ·refine ⟨hr.tqs.low,Nat.lt_of_lt_of_le hr.tqs.lt ho.size,fun j hj=>?_,fun j hj=>?_⟩
  ·rw [World.cell?_setCell_other _ _ _ _ (fun e=>ht (congrArg Addr.block e).symm)]
   by_cases e:j=k
   ·subst e
    rw [if_pos rfl]
    exact World.cell?_setCell_same _ _ _ (hr.tqs.at_ j hj)
   ·rw [if_neg e,World.cell?_setCell_other _ _ _ _ (fun e2=>e (congrArg Addr.off e2).symm)]
    exact hr.tqs.at_ j hj
  ·rw [World.frozen?_setCell,World.frozen?_setCell]
   exact hr.tqs.free j hj
set_option maxRecDepth 20000 in
theorem lastT_any (h:RgT J w r q cap tq A tn bd may F g off c) (j:Nat) (hj:j<A.St*(A.M-1)) (k:Nat) (hk:(may j).length=k+1) (hl:k<=100000) :
  Calls Tryz.prog 12 #[.pointer (some ⟨r,0,none⟩),.int .i64 j] w fun e w'=>e=.returned (Sh.sv ((may j).getD k []))/\Below w.heap.size w w':=by
 obtain ⟨_,_,_,c5,_,_⟩:=h.cells
 have cj:=h.may.cells j hj
 have hm:=(h.may.mid j hj).at_ k (by omega)
 rw [hk] at cj
 clear h
 have hs1:((k+1:Nat):Int)-1=(k:Int):=by omega
 have hs2:(k:Int)<((k+1:Nat):Int):=by omega
 have q3:(j:Int)<((A.St*(A.M-1):Nat):Int):=by omega
 have hwk:IntKind.i64.wrap (k:Int)=(k:Int):=IntWalk.i64_in _ ⟨by omega,by omega⟩
 have hq0:=Below.refl w.heap.size w
 generalize A.St*(A.M-1)=N at *
 generalize (may j).getD k []=b at *
 generalize g j=gj at *
 generalize off j=oj at *
 generalize c j=cc at *
 go_enter Tryz.func12,Tryz.ntmps12
 go_wp2
 go_quiet (fail)
 go_wp2
 go_ret
 exact ⟨rfl,drawn hq0 _⟩
end
section
variable {S T:Sh.Sf} {d k n i x e j:Nat}
theorem turnB_back (b:Sh.Bs) (i x:Nat):Sh.turnB (Sh.turnB b i x) i x=b:=by
 unfold Sh.turnB
 by_cases h:i<b.length
 ·apply List.ext_getElem?
  intro j
  by_cases e:i=j
  ·subst e
   simp [List.getD,h,Nat.xor_assoc]
  ·simp [List.getElem?_set_ne e]
 ·rw [List.set_eq_of_length_le (l:=b) (by omega),List.set_eq_of_length_le (by omega)]
theorem turn_dk (S:Sh.Sf) (n i x:Nat) (hd:d<S.disks.length):dk (S.doCorrupt d n i x) d=(dk S d).turn n i x:=by
 unfold dk Sh.Sf.doCorrupt
 simp [List.getD,hd]
theorem turn_other (S:Sh.Sf) (n i x:Nat) (he:e≠d):dk (S.doCorrupt d n i x) e=dk S e:=by
 unfold dk Sh.Sf.doCorrupt
 simp [List.getD,List.getElem?_set_ne (Ne.symm he)]
theorem turn_len (S:Sh.Sf) (d n i x:Nat):(S.doCorrupt d n i x).disks.length=S.disks.length:=by
 unfold Sh.Sf.doCorrupt
 simp
theorem turn_back (hd:d<S.disks.length) (hn:n<(dk S d).sure.length) (hs:Same (S.doCorrupt d n i x) T):Same S (T.doCorrupt d n i x):=by
 have h1:T.disks=S.disks.set d ((dk S d).turn n i x):=hs.disks
 have h2:(T.doCorrupt d n i x).disks=S.disks:=by
  show T.disks.set d ((T.disks.getD d default).turn n i x)=S.disks
  have h3:T.disks.getD d default=(dk S d).turn n i x:=by
   rw [h1]
   simp [List.getD,hd]
  rw [h3,h1,List.set_set]
  have h4:((dk S d).turn n i x).turn n i x=dk S d:=by
   show ({ (dk S d) with sure:=((dk S d).sure.set n (Sh.turnB ((dk S d).sure.getD n []) i x)).set n (Sh.turnB (((dk S d).sure.set n (Sh.turnB ((dk S d).sure.getD n []) i x)).getD n []) i x) }:Sh.Dk)=dk S d
   have h5:((dk S d).sure.set n (Sh.turnB ((dk S d).sure.getD n []) i x)).getD n []=Sh.turnB ((dk S d).sure.getD n []) i x:=by simp [List.getD,hn]
   rw [h5,turnB_back,List.set_set]
   have h6:(dk S d).sure.set n ((dk S d).sure.getD n [])=(dk S d).sure:=by
    have:(dk S d).sure.getD n []=(dk S d).sure[n]'hn:=by simp [List.getD,hn]
    rw [this,List.set_getElem_self]
   rw [h6]
  rw [h4]
  have:dk S d=S.disks[d]'hd:=by unfold dk;simp [List.getD,hd]
  rw [this,List.set_getElem_self]
 exact ⟨h2,hs.sectors,hs.off,hs.left⟩
theorem turn_V (hd:d<S.disks.length) {n':Nat} (hne:n'≠n):V (S.doCorrupt d n i x) d n'=V S d n':=by
 have h1:=turn_dk (S:=S) n i x hd
 unfold dk at h1
 unfold V
 rw [h1]
 show Sh.latest (S.disks.getD d default).waits n' (((S.disks.getD d default).sure.set n _).getD n' [])=Sh.latest (S.disks.getD d default).waits n' ((S.disks.getD d default).sure.getD n' [])
 congr 1
 simp [List.getD,List.getElem?_set_ne (Ne.symm hne)]
theorem turn_calmS (hd:d<S.disks.length) (h:Calm S e):Calm (S.doCorrupt d n i x) e:=by
 by_cases c:e=d
 ·subst c
  have h1:=turn_dk (S:=S) n i x hd
  unfold dk at h1
  refine ⟨by rw [turn_len];exact hd,h.on,h.left,by rw [h1];exact h.alive,?_⟩
  rw [h1]
  show ((S.disks.getD e default).sure.set n _).length=S.sectors
  rw [List.length_set]
  exact h.len
 ·have h1:=turn_other (S:=S) n i x c
  unfold dk at h1
  exact ⟨by rw [turn_len];exact h.lt,h.on,h.left,by rw [h1];exact h.alive,by rw [h1];exact h.len⟩
theorem turn_seen (hd:d<S.disks.length) (hc:Calm S e) (hne:¬(e=d/\j=k)):seen (S.doCorrupt d (dataOf k) i x) e j=seen S e j:=by
 have h1:Sh.why (S.doCorrupt d (dataOf k) i x) e=0:=(turn_calmS hd hc).why
 unfold seen
 rw [if_pos h1,if_pos hc.why]
 by_cases c:e=d
 ·subst c
  have hjk:j≠k:=fun e2=>hne ⟨rfl,e2⟩
  rw [vo_eq,vo_eq]
  have a1:V (S.doCorrupt e (dataOf k) i x) e (dataOf j)=V S e (dataOf j):=turn_V hd fun e2=>hjk (dataOf_inj e2)
  have a2:V (S.doCorrupt e (dataOf k) i x) e (sumOf j)=V S e (sumOf j):=turn_V hd fun e2=>data_ne_sum k j e2.symm
  rw [a1]
  show (if goodL _ _ _ _=true then _ else _)=if goodL _ _ _ _=true then _ else _
  rw [a1,a2]
 ·exact congrFun (vo_dk (turn_other S (dataOf k) i x c)) j
theorem SecS.turn (h:SecS S) (hd:d<S.disks.length) (hn:n<(U.dk S d).sure.length) (hx:x<256):SecS (S.doCorrupt d n i x):=by
 obtain ⟨h1,h2,h3⟩:=h.dk hd
 refine SecS.set h (x:=(U.dk S d).turn n i x) ⟨?_,?_,?_⟩ d
 ·intro b hb
  rcases List.mem_or_eq_of_mem_set hb with hb | rfl
  ·exact h1 b hb
  ·refine Sh.turnB_sec (h1 _ ?_) hx
   have:(U.dk S d).sure.getD n []=(U.dk S d).sure[n]'hn:=by simp [List.getD,hn]
   show (U.dk S d).sure.getD n []∈_
   rw [this]
   exact List.getElem_mem _
 ·exact h2
 ·show ((U.dk S d).sure.set n _).length=_
  rw [List.length_set]
  exact h3
end
section
variable {A:Ar} {S S':Sh.Sf} {g:Nat->Nat->Sh.Bs} {lk:Nat->Nat->Prop} {st m i x:Nat}
theorem Ws.turn (h:Ws A S g lk) (hst:st<A.St) (hm:m<A.M) (hx:x<256) (hno:∀y,¬lk st y) (hbad:goodAt (S.doCorrupt (A.num st m) (dataOf (A.at st)) i x) (A.num st m) (A.at st)=false) :
  Ws A (S.doCorrupt (A.num st m) (dataOf (A.at st)) i x) g (fun s y=>lk s y\/(s=st/\y=m))/\seen (S.doCorrupt (A.num st m) (dataOf (A.at st)) i x) (A.num st m) (A.at st)=none /\
  ∀s y,s<A.St->y<A.M->s≠st->seen (S.doCorrupt (A.num st m) (dataOf (A.at st)) i x) (A.num s y) (A.at s)=seen S (A.num s y) (A.at s):=by
 have hd:=h.ar.num st m hm
 have hdl:A.num st m<S.disks.length:=by rw [h.len];exact hd
 have hk:=h.at_lt hst
 have hns:dataOf (A.at st)<(dk S (A.num st m)).sure.length:=by
  have:=(h.calm _ hd).len
  unfold dk
  rw [this]
  exact (sum_of_lt hk).1
 have hs0:seen (S.doCorrupt (A.num st m) (dataOf (A.at st)) i x) (A.num st m) (A.at st)=none:=by
  unfold seen
  rw [if_pos (turn_calmS hdl (h.calm _ hd)).why,vo_eq,hbad]
  rfl
 have hat:∀s,A.at s=A.at st->s=st:=fun s e=>by unfold Ar.at at e;omega
 have hsn:=fun e (he:e<A.n) j (hne:¬(e=A.num st m/\j=A.at st))=>turn_seen (j:=j) (k:=A.at st) (i:=i) (x:=x) hdl (h.calm e he) hne
 refine ⟨⟨h.ar,fun d hd=>turn_calmS hdl (h.calm d hd),h.sec.turn hdl hns hx,(turn_len ..).trans h.len,h.fit,h.sum,h.gsec,fun s hs y hy=>?_,fun s a b q e1 e2=>?_⟩,hs0,fun s y hs hy hne=>hsn _ (h.ar.num s y hy) _ fun e=>hne (hat s e.2)⟩
 ·by_cases c:A.num s y=A.num st m/\A.at s=A.at st
  ·have e1:=hat s c.2
   subst e1
   have e2:=h.ar.inj s y m hy hm c.1
   subst e2
   exact .inr ⟨.inr ⟨rfl,rfl⟩,hs0⟩
  ·rw [hsn _ (h.ar.num s y hy) _ c]
   exact (h.vals s hs y hy).imp id fun e=>⟨.inl e.1,e.2⟩
 ·rcases e1 with e1 | ⟨rfl,rfl⟩<;>rcases e2 with e2 | ⟨e3,rfl⟩
  ·exact h.uniq s a b q e1 e2
  ·subst e3
   exact absurd e1 (hno a)
  ·exact absurd e2 (hno b)
  ·rfl
end
section
variable {J:Vk} {w w':World} {s:Go.Proofs.YtgebkmpmnjhceaaGreatDoor.S.Sup} {o:Nat->Int} {S:Sh.Sf} {F:Nat->Prop} {D U:Set0}
theorem vcorrupt (h:Vr J w s o S F D U) (d n i x:Nat) (hx:x<256) (hd:d<S.disks.length) (hn:n<S.sectors) (hi:i<128) (hw:Sh.lastOf (S.disks.getD d default).waits n=none) :
  Calls Tryz.prog 67 #[.pointer (some ⟨J.p,0,none⟩),.int .i64 d,.int .i64 n,.int .i64 i,.int .u8 x] w fun e w'=>e=.returned (.int .i64 0)/\RGoes J w w' s o (S.doCorrupt d n i x) F D U:=by
 refine (Sh.corrupt_done w J.p d n i x hx h.vo.ds.on.shelf hd hn hi hw).mono ?_
 rintro e w' ⟨rfl,hl⟩
 exact ⟨rfl,h.goesV (h.vo.goes (h.vo.ds.left hl))⟩
theorem vdread (h:Vr J w s o S F D U) {a d k:Nat} (hdev:DevIs w a J.p d (-1)) (ha:J.B<=a) (hna:¬AllV J F a) (hT:Tabs J.W) (hTB:max 0 1+1<=J.B) (hk:k<blk S.sectors) (hd:d<S.disks.length) :
  Calls Tryz.prog 69 #[.pointer (some ⟨a,0,none⟩),.int .i64 k] w fun e w'=>ReadO (rdY S d k) (V S d (dataOf k)) w e w'/\RGoes J w w' s o (Looked S d) F D U:=by
 have hv:Dv J.B J.W w a J.p d (-1) S F:=⟨h.vo.ds.on,hdev,fun e=>hna (.inl (.inl e)),ha⟩
 refine (dread hv hT hTB k hk hd).mono ?_
 rintro e w' ⟨h1,h2,h3⟩
 exact ⟨h1,h.goesV (h.vo.goes (h.vo.ds.left ⟨F,h2.on.shelf,h3,fun _ e=>Or.inl e⟩))⟩
end
open Go.ChangeShapes Go.WideShapes Go.ChangeAt
def Tw (J:Vk) (w:World) (r:Nat) (A:Ar) (g:Nat->Nat->Sh.Bs) (tn:Nat->Bool) (bd:Bool) (may:Nat->List Sh.Bs) (m:Nat):Prop :=
 ∃S o F lk,RigT J w r A S o noSet noSet F tn bd may m/\Ws A S g lk/\(∀st y,st<A.St->lk st y->tn st=true)/\∀st,st<A.St->tn st=true->∃y,y<A.M/\seen S (A.num st y) (A.at st)=none
section
variable {J:Vk} {w:World} {r m:Nat} {A:Ar} {g:Nat->Nat->Sh.Bs} {tn:Nat->Bool} {bd:Bool} {may:Nat->List Sh.Bs}
theorem turn_waits {S:Sh.Sf} {d n i x m:Nat} (h:∀k∈S.disks,k.waits.length<=m) (hd:d<S.disks.length):∀k∈(S.doCorrupt d n i x).disks,k.waits.length<=m:=fun k hk=>by
 have hk:k∈S.disks.set d ((S.disks.getD d default).turn n i x):=hk
 rcases List.mem_or_eq_of_mem_set hk with hk | rfl
 ·exact h k hk
 ·exact h (S.disks.getD d default) (Sh.getD_mem hd)
theorem turn_few {S:Sh.Sf} {D U:Set0} {d n i x m:Nat} (h:Few S D U m) (hd:d<S.disks.length):Few (S.doCorrupt d n i x) D U m:=⟨turn_waits h.waits hd,h.opens,h.used⟩
theorem Few.same {S T:Sh.Sf} {D U:Set0} {m:Nat} (h:Few S D U m) (hs:Same S T):Few T D U m:=⟨by rw [hs.disks];exact h.waits,h.opens,h.used⟩
theorem rdY_calm {S:Sh.Sf} {d k:Nat} (h:Calm S d):rdY S d k=if goodAt S d k=true then 0 else 5:=by
 unfold rdY
 rw [if_pos h.why]
set_option maxRecDepth 20000 in
set_option maxHeartbeats 8000000 in
theorem turn_any (h:Tw J w r A g tn bd may m) (hsp:A.s.spare=-1) (hs1:1<=A.St) (hs2:A.St<=1000) (hm16:A.M<=16) (hT:Tabs J.W) (hTB:max 0 1+1<=J.B) (a1 a2 a3:Int) (x:Nat) (hx:x<256) :
  Calls Tryz.prog 29 #[.pointer (some ⟨r,0,none⟩),.int .i64 a1,.int .i64 a2,.int .i64 a3,.int .u8 x] w fun e w'=>e=.returned (.tuple #[])/\∃tn' bd',Tw J w' r A g tn' bd' may m:=by
 have H0:Hid (∃tn' bd',Tw J w r A g tn' bd' may m):=hid ⟨tn,bd,h⟩
 have H0d:Hid (∃tn' bd',Tw J w.drew r A g tn' bd' may m):=hid (by
  obtain ⟨S,o,F,lk,R,hh⟩:=h
  exact ⟨tn,bd,S,o,F,lk,R.grown ((Below.refl _ _).drew),hh⟩)
 obtain ⟨S,o,F,lk,R,W,hl,hb⟩:=h
 obtain ⟨q,cap,tq,gg,off,c,G⟩:=R.rg
 obtain ⟨c0,c1,c2,_,c6,_⟩:=G.cells
 obtain ⟨c3,c4,c7⟩:=G.cells2
 have hl8:=W.ar.l8
 have hm3:=W.ar.m3
 have HM1:=hid (fun w=>mod8_any a1 A.St (by omega) (by omega) w)
 have HM2:=hid (fun w=>mod8_any a2 A.M (by omega) (by omega) w)
 have HM3:=hid (fun w=>mod8_any a3 128 (by decide) (by decide) w)
 obtain ⟨st,hst⟩:∃k,(a1%A.St).toNat=k:=⟨_,rfl⟩
 obtain ⟨d,hdd⟩:∃k,(a2%A.M).toNat=k:=⟨_,rfl⟩
 obtain ⟨i,hii⟩:∃k,(a3%(128:Nat)).toNat=k:=⟨_,rfl⟩
 rw [hst] at HM1
 rw [hdd] at HM2
 rw [hii] at HM3
 have hst2:st<A.St:=by
  have:a1%A.St<A.St:=Int.emod_lt_of_pos _ (by omega)
  have:0<=a1%A.St:=Int.emod_nonneg _ (by omega)
  omega
 have hd2:d<A.M:=by
  have:a2%A.M<A.M:=Int.emod_lt_of_pos _ (by omega)
  have:0<=a2%A.M:=Int.emod_nonneg _ (by omega)
  omega
 have hi2:i<128:=by omega
 clear hst hdd hii
 have c9:=G.tqs.at_ st hst2
 have hnum:A.num st d=d:=numOf_id hsp _ _ _
 have hdn:d<A.n:=by rw [<- hnum];exact W.ar.num st d hd2
 have hk:=W.at_lt hst2
 have hat:A.at st=2+2*A.L+st:=rfl
 have hbk:A.at st<4096:=by omega
 have hat2:((A.at st:Nat):Int)=2+2*(A.L:Int)+(st:Int):=by rw [hat];omega
 have HPL:=hid (fun w=>place_yes (A.at st) hbk w)
 rw [hat2] at HPL
 have hq3:(st:Int)<(A.St:Int):=by omega
 have hsd:d<S.disks.length:=by rw [W.len];exact hdn
 have hns:dataOf (A.at st)<S.sectors:=(sum_of_lt hk).1
 have Rd:=R.grown (w':=w.drew) ((Below.refl _ _).drew)
 have HCW:=hid (Sh.corrupt_waits w.drew J.p d (dataOf (A.at st)) i x Rd.vr.vo.ds.on.shelf hsd hns hi2)
 have HCD:Hid ((Sh.lastOf (S.disks.getD d default).waits (dataOf (A.at st):Nat)).isSome=false->_):=hid fun e=>vcorrupt Rd.vr d (dataOf (A.at st)) i x hx hsd hns hi2 (by simpa using e)
 have hrlt:=(Array.getElem?_eq_some_iff.1 G.row).1
 have hro:=G.out
 have HS1:Hid (∀(w2:World) (F2:Nat->Prop),Sh.Moves (AllV J F) w.drew (AllV J F2) w2->w2.cell? ⟨r,0,none⟩=some (.pointer (some ⟨J.p,0,none⟩))):=hid fun w2 F2 m2 =>
  (World.cell?_of_block (w:=w) (a:=⟨r,0,none⟩) (m2.1.block r hrlt hro)).trans c0
 have HR:=hid (And.intro Rd (And.intro W (And.intro hl hb)))
 generalize htn:tn st=tb at c9
 clear R W G hl hb
 go_enter Tryz.func29,Tryz.ntmps29
 go_wp2_with fail
 refine (HM1.out _).mono ?_
 rintro e w' ⟨rfl,rfl⟩
 go_wp2_with fail
 refine (HM2.out _).mono ?_
 rintro e w' ⟨rfl,rfl⟩
 cases tb with
 | true =>
  go_wp2
  refine bodyPost_ret (results_none rfl _ _ _) rfl ?_
  exact ⟨rfl,H0.out⟩
 | false =>
  by_cases hx0:x=0
  ·subst hx0
   go_wp2
   refine bodyPost_ret (results_none rfl _ _ _) rfl ?_
   exact ⟨rfl,H0.out⟩
  ·have hx1:((x:Int)=0)=False:=by simp;omega
   go_wp2_with fail
   refine (HPL.out _).mono ?_
   rintro e w' ⟨rfl,rfl⟩
   cases hwt:(Sh.lastOf (S.disks.getD d default).waits (dataOf (A.at st):Nat)).isSome with
   | true =>
    have HCO:=hid (HCW.out hwt)
    go_wp2_with fail
    refine wp_region_held_drew (S:=fun W'=>W'.cell? ⟨r,0,none⟩=some (.pointer (some ⟨J.p,0,none⟩))) (by kernel_rfl) c0 (fun hHeld=>?_)
    refine tk 0 63 ?_
    refine tk 1 64 ?_
    refine tk 2 65 ?_
    refine tk 3 66 ?_
    refine tk 4 67 ?_
    refine tk 5 68 ?_
    refine tk 6 69 ?_
    refine tk 8 71 ?_
    refine r1 7 (some 70) fun K hK=>?_
    go_simp
    refine (HM3.out _).mono ?_
    rintro e w' ⟨rfl,rfl⟩
    refine hK.out _ _ c0 (fun hHeld=>?_)
    clear hK K
    try simp only [Act.put,List.setIfInBounds_toArray,List.set_cons_zero,List.set_cons_succ]
    refine r1 9 (some 72) fun K hK=>?_
    go_simp
    refine (HCO.out).mono ?_
    rintro e w' ⟨rfl,rfl⟩
    refine hK.out _ _ c0 (fun hHeld=>?_)
    clear hK K
    try simp only [Act.put,List.setIfInBounds_toArray,List.set_cons_zero,List.set_cons_succ]
    refine tk 10 73 ?_
    refine wpAnyH_done (by kernel_rfl) ?_ _
    go_wp2_with fail
    refine bodyPost_ret (results_none rfl _ _ _) rfl ?_
    exact ⟨rfl,H0d.out⟩
   | false =>
    have HCO:=hid (HCD.out hwt)
    go_wp2_with fail
    refine wp_region_held_drew (S:=fun W'=>W'.cell? ⟨r,0,none⟩=some (.pointer (some ⟨J.p,0,none⟩))) (by kernel_rfl) c0 (fun hHeld=>?_)
    refine tk 0 63 ?_
    refine tk 1 64 ?_
    refine tk 2 65 ?_
    refine tk 3 66 ?_
    refine tk 4 67 ?_
    refine tk 5 68 ?_
    refine tk 6 69 ?_
    refine tk 8 71 ?_
    refine r1 7 (some 70) fun K hK=>?_
    go_simp
    refine (HM3.out _).mono ?_
    rintro e w' ⟨rfl,rfl⟩
    refine hK.out _ _ c0 (fun hHeld=>?_)
    clear hK K
    try simp only [Act.put,List.setIfInBounds_toArray,List.set_cons_zero,List.set_cons_succ]
    refine r1 9 (some 72) fun K hK=>?_
    go_simp
    refine (HCO.out).mono ?_
    rintro e w1 ⟨rfl,F1,V1,m1⟩
    refine hK.out _ _ (HS1.out _ _ m1) (fun hHeld=>?_)
    clear hK K
    try simp only [Act.put,List.setIfInBounds_toArray,List.set_cons_zero,List.set_cons_succ]
    refine tk 10 73 ?_
    refine wpAnyH_done (by kernel_rfl) ?_ _
    obtain ⟨Rd,W,hl,hb⟩:=HR.out
    have hf1:=turn_few (d:=d) (n:=dataOf (A.at st)) (i:=i) (x:=x) Rd.few hsd
    have R1:=Rd.moved V1 m1 hf1
    have hsd1:d<(S.doCorrupt d (dataOf (A.at st)) i x).disks.length:=by rw [turn_len];exact hsd
    have HOP:=hid (open_yes d V1.vo.ds.on.shelf hsd1)
    have hcalm:Calm (S.doCorrupt d (dataOf (A.at st)) i x) d:=turn_calmS hsd (W.calm d hdn)
    have HRD:Hid (∀w2,Below w1.heap.size w1 w2->DevIs w2 w1.heap.size J.p d (-1)->_):=hid fun w2 hb2 hdev=>vdread (V1.grown hb2) (k:=A.at st) hdev V1.size (fun e=>Nat.lt_irrefl _ (V1.lt _ e)) hT hTB hk hsd1
    rw [hat2] at HRD
    rw [rdY_calm hcalm] at HRD
    have HR1:=hid R1
    clear Rd W hl hb R1 V1 m1
    cases hg:goodAt (S.doCorrupt d (dataOf (A.at st)) i x) d (A.at st) with
    | true =>
     rw [hg,if_pos rfl] at HRD
     go_wp2_with fail
     refine HOP.out.mono ?_
     rintro e w2 ⟨rfl,hdev,hb2⟩
     have HRE:=hid (HRD.out w2 hb2 hdev)
     have HR2:=hid (HR1.out.grown hb2)
     clear hdev hb2
     go_wp2_with fail
     refine HRE.out.mono ?_
     rintro e w3 ⟨⟨A3,n3,c3',rfl,hres⟩,F3,V3,m3⟩
     have R3:=HR2.out.moved V3 m3 (hf1.same ((Same.refl _).looked d))
     have R3d:=R3.grown (w':=w3.drew) ((Below.refl _ _).drew)
     obtain ⟨q3,cap3,tq3,gg3,off3,cc3,G3⟩:=R3.rg
     obtain ⟨d0,_⟩:=G3.cells
     have hro3:=G3.out
     have hrlt3:=(Array.getElem?_eq_some_iff.1 G3.row).1
     have hwt3:Sh.lastOf ((Looked (S.doCorrupt d (dataOf (A.at st)) i x) d).disks.getD d default).waits (dataOf (A.at st):Nat)=none:=by
      rw [((Same.refl (S.doCorrupt d (dataOf (A.at st)) i x)).looked d).disks]
      have h1:=turn_dk (S:=S) (dataOf (A.at st)) i x hsd
      unfold dk at h1
      rw [h1]
      show Sh.lastOf (S.disks.getD d default).waits _=none
      simpa using hwt
     have HC2:=hid (vcorrupt R3d.vr d (dataOf (A.at st)) i x hx (by rw [((Same.refl (S.doCorrupt d (dataOf (A.at st)) i x)).looked d).disks];exact hsd1) (by rw [((Same.refl (S.doCorrupt d (dataOf (A.at st)) i x)).looked d).sectors];exact hns) hi2 hwt3)
     have HR3:=hid R3d
     have HS3:Hid (∀(w4:World) (F4:Nat->Prop),Sh.Moves (AllV J F3) w3.drew (AllV J F4) w4->w4.cell? ⟨r,0,none⟩=some (.pointer (some ⟨J.p,0,none⟩))):=hid fun w4 F4 m4 =>
      (World.cell?_of_block (w:=w3) (a:=⟨r,0,none⟩) (m4.1.block r hrlt3 hro3)).trans d0
     clear hres V3 m3 R3 R3d G3 hro3 hrlt3 hwt3 c0 c1 c2 c3 c4 c6 c7 c9
     go_wp2_with fail
     refine wp_region_held_drew (S:=fun W'=>W'.cell? ⟨r,0,none⟩=some (.pointer (some ⟨J.p,0,none⟩))) (by kernel_rfl) d0 (fun hHeld=>?_)
     refine tk 0 93 ?_
     refine tk 1 94 ?_
     refine tk 2 95 ?_
     refine tk 3 96 ?_
     refine tk 4 97 ?_
     refine tk 5 98 ?_
     refine tk 6 99 ?_
     refine tk 8 101 ?_
     refine r1 7 (some 100) fun K hK=>?_
     go_simp
     refine (HM3.out _).mono ?_
     rintro e w' ⟨rfl,rfl⟩
     refine hK.out _ _ d0 (fun hHeld=>?_)
     clear hK K
     try simp only [Act.put,List.setIfInBounds_toArray,List.set_cons_zero,List.set_cons_succ]
     refine r1 9 (some 102) fun K hK=>?_
     go_simp
     refine (HC2.out).mono ?_
     rintro e w4 ⟨rfl,F4,V4,m4⟩
     refine hK.out _ _ (HS3.out _ _ m4) (fun hHeld=>?_)
     clear hK K
     try simp only [Act.put,List.setIfInBounds_toArray,List.set_cons_zero,List.set_cons_succ]
     refine wpAnyH_done (by kernel_rfl) ?_ _
     have HE:Hid (∃tn' bd',Tw J w4 r A g tn' bd' may m):=hid (by
      obtain ⟨Rd,W,hl,hb⟩:=HR.out
      have hlen:dataOf (A.at st)<(dk S d).sure.length:=by
       have:=(W.calm _ hdn).len
       unfold dk
       rw [this]
       exact hns
      have hsm:Same S ((Looked (S.doCorrupt d (dataOf (A.at st)) i x) d).doCorrupt d (dataOf (A.at st)) i x):=turn_back hsd hlen ((Same.refl _).looked d)
      exact ⟨tn,bd,_,o,F4,lk,HR3.out.moved V4 m4 (Rd.few.same hsm),W.same hsm,hl,fun s hs e=>by
       obtain ⟨y,h1,h2⟩:=hb s hs e
       exact ⟨y,h1,by rw [seen_same hsm];exact h2⟩⟩)
     clear V4 m4
     go_wp2_with fail
     refine bodyPost_ret (results_none rfl _ _ _) rfl ?_
     exact ⟨rfl,HE.out⟩
    | false =>
     rw [hg,if_neg (by decide)] at HRD
     go_wp2_with fail
     refine HOP.out.mono ?_
     rintro e w2 ⟨rfl,hdev,hb2⟩
     have HRE:=hid (HRD.out w2 hb2 hdev)
     have HR2:=hid (HR1.out.grown hb2)
     clear hdev hb2
     go_wp2_with fail
     refine HRE.out.mono ?_
     rintro e w3 ⟨⟨A3,n3,c3',rfl,hres⟩,F3,V3,m3⟩
     have R3:=HR2.out.moved V3 m3 (hf1.same ((Same.refl _).looked d))
     obtain ⟨q3,cap3,tq3,gg3,off3,cc3,G3⟩:=R3.rg
     obtain ⟨_,_,d7⟩:=G3.cells2
     have d9:=G3.tqs.at_ st hst2
     have f9:=G3.tqs.free st hst2
     have d8:=cell_of_row _ _ 8 _ _ _ G3.row
     have f8:=frozen_of_row _ _ 8 _ _ G3.row
     have htr:tq3≠r:=fun e=>G3.tqo (.inr (.inl e))
     have HE:Hid (∃tn' bd',Tw J ((w3.setCell ⟨tq3,st,none⟩ (.bool true)).setCell ⟨r,8,none⟩ (.bool true)) r A g tn' bd' may m):=hid (by
      obtain ⟨Rd,W,hl,hb⟩:=HR.out
      have hbad:goodAt (S.doCorrupt (A.num st d) (dataOf (A.at st)) i x) (A.num st d) (A.at st)=false:=by rw [hnum];exact hg
      have hW:=W.turn hst2 hd2 hx (fun y e=>by rw [hl st y hst2 e] at htn;cases htn) hbad
      rw [hnum] at hW
      obtain ⟨hW1,hW2,hW3⟩:=hW
      have hsm:=(Same.refl (S.doCorrupt d (dataOf (A.at st)) i x)).looked d
      refine ⟨_,true,_,o,F3,_,R3.mark G3 hst2,hW1.same hsm,fun s y hs e=>?_,fun s hs e=>?_⟩
      ·by_cases c:s=st
       ·rw [if_pos c]
       ·rw [if_neg c]
        rcases e with e | e
        ·exact hl s y hs e
        ·exact absurd e.1 c
      ·by_cases c:s=st
       ·subst c
        exact ⟨d,hd2,by rw [seen_same hsm,hnum];exact hW2⟩
       ·rw [if_neg c] at e
        obtain ⟨y,h1,h2⟩:=hb s hs e
        exact ⟨y,h1,by rw [seen_same hsm,hW3 s y hs h1 c];exact h2⟩)
     clear hres V3 m3 R3 G3 c0 c1 c2 c3 c4 c6 c7 c9
     go_wp2_with fail
     go_end0
     exact ⟨rfl,HE.out⟩
end
section
variable {J:Vk} {w:World} {r m lb:Nat} {A:Ar} {S:Sh.Sf} {o:Nat->Int} {D U:Set0} {F:Nat->Prop} {tn:Nat->Bool} {bd:Bool} {may:Nat->List Sh.Bs} {gh:Gh} {I:Kn}
def StlK (I:Kn) (J:Vk) (r:Nat) (A:Ar) (D U:Set0) (tn:Nat->Bool) (bd:Bool) (may:Nat->List Sh.Bs) (gh:Gh) (m k:Nat) (wr:World):Prop :=
 ∃S o F,RigT J wr r A S o D U F tn bd (setTo A gh may k) (m+1000*k)/\I S o D U may
set_option maxRecDepth 20000 in
set_option maxHeartbeats 8000000 in
theorem settleK_any (h:RigT J w r A S o D U F tn bd may m) (hK:KeepR A I (fun j=>gh.dat (stOf A.M j) (meOf A.M j))) (hi:I S o D U may) (hT:Tabs J.W) (hTB:max 0 1+1<=J.B)
  (hN:A.St*(A.M-1)<=1000) (hlb:∀j,j<A.St*(A.M-1)->(may j).length<=lb) (hl:lb<=100000) (hm:m<=400000000) :
  Calls Tryz.prog 15 #[.pointer (some ⟨r,0,none⟩)] w fun e w'=>e=.returned (.bool true)/\StlK I J r A D U tn bd may gh m (A.St*(A.M-1)) w':=by
 have H0:Hid (StlK I J r A D U tn bd may gh m 0 w):=hid ⟨S,o,F,by rw [setTo_0];exact h,hi⟩
 have HLB:=hid hlb
 have HKR:=hid hK
 clear h hi hlb hK
 go_enter Tryz.func15,Tryz.ntmps15
 go_wp2
 generalize hNN:A.St*(A.M-1)=N at *
 go_loopw [3] (fun i wr=>∃k:Nat,k<=N/\i=.int .i64 k/\Hid (StlK I J r A D U tn bd may gh m k wr)) (fun i _=>N-(intOf i).toNat)
 case atStart=>exact ⟨0,Nat.zero_le _,rfl,H0⟩
 case round =>
  obtain ⟨k,hk,rfl,hrel⟩:=hrel
  obtain ⟨S1,o1,F1,R1,I1⟩:=hrel.out
  obtain ⟨q,cap,tq,g,off,c,G1⟩:=R1.rg
  have cs:=G1.cells
  rw [hNN] at cs
  obtain ⟨_,c1,_,c5,_,_⟩:=cs
  by_cases hlt:k<N
  ·have q3:(k:Int)<(N:Int):=by omega
   have hF:Fits J.n J.L A.s A.M A.St S1:=by rw [R1.n,R1.L];exact HKR.out.fits I1
   have HRD:=hid (vRead_any R1.vr hF hT hTB (k:Int) R1.few.waits (by omega))
   have HK:=hid (And.intro R1 I1)
   clear R1 I1 G1 H0 hrel hF
   go_wp2_with fail
   refine HRD.out.mono ?_
   rintro e w2 ⟨y,A2,len,c2,rfl,X,t,F2,hR,V2,m2,hres⟩
   obtain ⟨R1,I1⟩:=HK.out
   rw [R1.L] at hR
   obtain ⟨rfl,hX,I2⟩:=HKR.out.read I1 (by omega) hR
   have R2:RigT J w2 r A t.S t.o D U F2 tn bd (setTo A gh may k) (m+1000*(k+1)):=R1.moved V2 m2 ((R1.few.read hR).more (by omega))
   rcases hres with ⟨_,rfl,hB,_,_⟩ | ⟨h0,_⟩
   ·obtain ⟨q2,cap2,tq2,g2,off2,cc2,G2⟩:=R2.rg
    have hkm:(setTo A gh may k) k=may k:=by unfold setTo;rw [if_neg (Nat.lt_irrefl k)]
    have k5:=G2.cells.2.2.2.1
    have kq:=G2.may.cells k (by omega)
    have hmid:=G2.may.mid k (by omega)
    have hrlt:=(Array.getElem?_eq_some_iff.1 G2.row).1
    have hqlt:=G2.may.lt
    have hfree:=G2.may.free k (by omega)
    rw [hkm] at kq hmid
    rw [hNN] at k5
    have HLk:=hid (HLB.out k (by omega))
    have hmem:X∈may k:=by rw [hX];exact HKR.out.mem I2 k (by omega)
    generalize hsv:Sh.strL X=sv at *
    have t1:=fun W' (hb:Below w2.heap.size w2 W')=>conv_bytes (c:=c2) hB hsv W' hb
    have HV:Hid (∃i,i<(may k).length/\(Sh.strL ((may k).getD i [])).toList=sv.toList):=hid (by
     obtain ⟨i,hi,e⟩:=List.mem_iff_getElem.1 hmem
     exact ⟨i,hi,by rw [<- hsv,<- e];simp [List.getD,hi]⟩)
    have HR2:=hid (And.intro R2 (And.intro I2 (And.intro G2 (And.intro hX hsv))))
    have k1:=fun W' (hb:Below w2.heap.size w2 W')=>(hb.cell (p:=⟨r,5,none⟩) hrlt).trans k5
    have k2:=fun W' (hb:Below w2.heap.size w2 W')=>(hb.cell (p:=⟨q2,k,none⟩) hqlt).trans kq
    have HM2:=hid (fun i (hi:i<(may k).length) W' (hb:Below w2.heap.size w2 W')=>(hb.cell (p:=⟨g2 k,off2 k+i,none⟩) hmid.lt).trans (hmid.at_ i hi))
    clear R1 I1 R2 I2 G2 hX hsv hmem hB V2 m2 hR hkm hmid k5 kq hrlt hqlt HRD HK c1 c5
    generalize may k=l at *
    generalize g2 k=gj at *
    generalize off2 k=offj at *
    generalize cc2 k=cj at *
    go_wp2_with fail
    go_loopw [6,7] (fun s6 s7 wr2=>∃(i:Nat) (b:Bool),i<=l.length/\s6=.bool b/\s7=.int .i64 i/\Hid (Below w2.heap.size w2 wr2/\(b=true\/∀x,x<i->(Sh.strL (l.getD x [])).toList≠sv.toList))) (fun _ i _=>l.length-(intOf i).toNat)
    case atStart=>exact ⟨0,false,Nat.zero_le _,rfl,rfl,hid ⟨Below.refl _ _,.inr fun x hx=>absurd hx (by omega)⟩⟩
    case round =>
     obtain ⟨i,b,hi,rfl,rfl,hbw⟩:=hrel
     have hbel:=hbw.out.1
     have kA:=k1 wr hbel
     have kB:=k2 wr hbel
     by_cases hli:i<l.length
     ·have q4:(i:Int)<(l.length:Int):=by omega
      have m1:=fun W' (hb:Below wr.heap.size wr W')=>HM2.out i hli W' (Sh.below_on hbel hb)
      have k3:=fun W' (hb:Below wr.heap.size wr W')=>k1 W' (Sh.below_on hbel hb)
      have k4:=fun W' (hb:Below wr.heap.size wr W')=>k2 W' (Sh.below_on hbel hb)
      have t2:=fun W' (hb:Below wr.heap.size wr W')=>t1 W' (Sh.below_on hbel hb)
      have hbd:=hid (show Below w2.heap.size w2 wr.drew from Sh.below_on hbel ((Below.refl _ _).drew))
      have hno:=hid hbw.out.2
      unfold Sh.sv at m1
      clear hbw hbel k1 k2 t1
      generalize hyy:Sh.strL (l.getD i [])=sy at *
      have HYY:=hid hyy
      clear hyy
      obtain ⟨qq,hqq⟩:∃qq,(sy.toList == sv.toList)=qq:=⟨_,rfl⟩
      have HQ:=hid hqq
      have l18:l.length<=9223372036854775807:=by have:=HLk.out;omega
      cases b with
      | true =>
       go_wp2_with fail
       refine wp_region_held_drew (S:=fun W'=>Below wr.heap.size wr W') (by kernel_rfl) ((Below.refl _ _).drew) (fun hHeld=>?_)
       refine tk 0 40 ?_
       refine tk 1 41 ?_
       refine tu 2 42 ?_
       refine tu 3 43 ?_
       refine tu 4 44 ?_
       refine tu 5 45 ?_
       refine tu 6 46 ?_
       refine tu 7 47 ?_
       refine tu 8 48 ?_
       refine tu 9 49 ?_
       refine tu 10 50 ?_
       refine tu 11 51 ?_
       refine tu 12 52 ?_
       refine tu 13 53 ?_
       refine tu 14 54 ?_
       refine tk 15 55 ?_
       refine tk 16 6 ?_
       refine wpAnyH_done (by kernel_rfl) ?_ _
       go_wp2_with fail
       refine ⟨⟨i+1,true,by omega,rfl,by go_num,hid ⟨hbd.out,.inl rfl⟩⟩,?_⟩
       simp [intOf]
       omega
      | false =>
       go_wp2_with fail
       refine wp_region_held_drew (S:=fun W'=>Below wr.heap.size wr W') (by kernel_rfl) ((Below.refl _ _).drew) (fun hHeld=>?_)
       refine tk 0 40 ?_
       refine tk 1 41 ?_
       refine tk 2 42 ?_
       refine tk 3 43 ?_
       refine tk 4 44 ?_
       refine tk 5 45 ?_
       refine tk 6 46 ?_
       refine tk 7 47 ?_
       refine tk 8 48 ?_
       refine tk 9 49 ?_
       refine tk 10 50 ?_
       refine tk 11 51 ?_
       refine tk 12 52 ?_
       refine tk 13 53 ?_
       refine tk 14 54 ?_
       refine tk 15 55 ?_
       refine tk 16 6 ?_
       refine wpAnyH_done (by kernel_rfl) ?_ _
       have hnx:=hid (show qq=true\/∀x,x<i+1->(Sh.strL (l.getD x [])).toList≠sv.toList from by
        cases qq with
        | true=>exact .inl rfl
        | false =>
         refine .inr fun x hx=>?_
         by_cases e:x=i
         ·subst e
          rw [HYY.out]
          have:=HQ.out
          rw [beq_eq_false_iff_ne] at this
          exact this
         ·rcases hno.out with h | h
          ·cases h
          ·exact h x (by omega))
       clear HQ hqq hno HYY
       go_wp2_with fail
       refine ⟨⟨i+1,qq,by omega,rfl,by go_num,hid ⟨hbd.out,hnx.out⟩⟩,?_⟩
       simp [intOf]
       omega
     ·have hb:b=true:=by
       rcases hbw.out.2 with h | h
       ·exact h
       ·obtain ⟨x,hx,e⟩:=HV.out
        exact absurd e (h x (by omega))
      have hil:i=l.length:=by omega
      have R3:=hid (HR2.out.1.grown hbel)
      have G3:=hid (HR2.out.2.2.1.grown hbel)
      subst hb
      have kc:=fun W' (hb:Below wr.heap.size wr W')=>k2 W' (Sh.below_on hbel hb)
      have k3:=fun W' (hb:Below wr.heap.size wr W')=>k1 W' (Sh.below_on hbel hb)
      have t2:=fun W' (hb:Below wr.heap.size wr W')=>t1 W' (Sh.below_on hbel hb)
      have hql:=G3.out.may.lt
      have hfr:=G3.out.may.free k (by omega)
      have kf:=fun W' (hb:Below wr.heap.size wr W')=>((World.frozen?_of_block (w:=wr) (a:=⟨q2,k,none⟩) (hb.block q2 hql)).trans hfr)
      have hb8:Below wr.heap.size wr (wr.drew.alloc (.cells #[.string sv] 9)):=(Below.refl _ _).drew.alloc (Nat.le_refl _) _
      have kc8:=kc _ hb8
      have kf8:=kf _ hb8
      have HB8:=hid hb8
      have hrq:r≠q2:=fun e=>G3.out.may.outq (.inl (.inr (.inl e.symm)))
      have S0:wr.drew.cell? ⟨r,5,none⟩=some (.slice (some ⟨q2,0,none⟩) N cap2):=k3 _ ((Below.refl _ _).drew)
      have HEQ:Hid (((wr.setCell ⟨q2,k,none⟩ (.slice (some ⟨wr.heap.size,0,none⟩) 1 1)).alloc (.cells #[.string sv] 9)).drew=(wr.drew.alloc (.cells #[.string sv] 9)).setCell ⟨q2,k,none⟩ (.slice (some ⟨wr.heap.size,0,none⟩) 1 1)):=hid (by go_simp)
      have S8:=hid (k3 _ hb8)
      have S9:Hid ((((wr.setCell ⟨q2,k,none⟩ (.slice (some ⟨wr.heap.size,0,none⟩) 1 1)).alloc (.cells #[.string sv] 9)).drew).cell? ⟨r,5,none⟩=some (.slice (some ⟨q2,0,none⟩) N cap2)):=hid (by
       rw [HEQ.out]
       exact (World.cell?_setCell_other _ _ _ _ (fun e=>hrq (congrArg Addr.block e).symm)).trans S8.out)
      have t3:=t2 wr ((Below.refl _ _))
      have t4:=t2 wr.drew ((Below.refl _ _).drew)
      clear t2
      clear hbw hbel k1 k2 t1 hil kf hb8
      go_wp2_with fail
      refine wp_region_held_drew (S:=fun W'=>W'.cell? ⟨r,5,none⟩=some (.slice (some ⟨q2,0,none⟩) N cap2)) (by kernel_rfl) S0 (fun hHeld=>?_)
      refine tk 0 58 ?_
      refine tk 1 59 ?_
      refine tk 2 60 ?_
      refine tk 3 61 ?_
      refine tk 4 62 ?_
      refine tk 5 63 ?_
      refine r1 6 (some 64) fun K hK=>?_
      go_simp
      refine hK.out _ _ S0 (fun _=>?_)
      clear hK K
      try simp only [Act.put,List.setIfInBounds_toArray,List.set_cons_zero,List.set_cons_succ]
      refine r1 7 (some 65) fun K hK=>?_
      go_simp
      refine hK.out _ _ S8.out (fun _=>?_)
      clear hK K
      try simp only [Act.put,List.setIfInBounds_toArray,List.set_cons_zero,List.set_cons_succ]
      refine tk 8 66 ?_
      refine r1 9 none fun K hK=>?_
      go_simp
      refine hK.out _ _ S9.out (fun _=>?_)
      clear hK K
      try simp only [Act.put,List.setIfInBounds_toArray,List.set_cons_zero,List.set_cons_succ]
      refine wpAnyH_done (by kernel_rfl) ?_ _
      have R9:Hid (RigT J ((wr.drew.alloc (.cells #[.string sv] 9)).setCell ⟨q2,k,none⟩ (.slice (some ⟨wr.heap.size,0,none⟩) 1 1)) r A t.S t.o D U F2 tn bd (setTo A gh may (k+1)) (m+1000*(k+1))):=hid (by
       obtain ⟨_,_,_,hX,hsv⟩:=HR2.out
       have hd:=(Below.refl wr.heap.size wr).drew
       have:=(R3.out.grown hd).fill (G3.out.grown hd) (k:=k) (by omega) X 9
       rw [setTo_succ,<- hX]
       unfold Sh.sv at this
       rw [hsv] at this
       exact this)
      have HI:=hid (And.intro HR2.out.2.1 HR2.out.2.1)
      clear HR2 R3 G3
      go_wp2_with fail
      refine ⟨⟨k+1,by omega,by go_num,hid ⟨t.S,t.o,F2,by rw [HEQ.out];exact R9.out,HI.out.1⟩⟩,?_⟩
      simp [intOf]
      omega
   ·exact absurd rfl h0
  ·have e:k=N:=by omega
   clear R1 I1 G1 H0 c1
   go_wp2
   go_ret
   exact ⟨rfl,by rw [hNN,<- e];exact hrel.out⟩
end
section
variable {J:Vk} {w:World} {r m lb:Nat} {A:Ar} {S:Sh.Sf} {o:Nat->Int} {D U:Set0} {F:Nat->Prop} {kd:Bool} {may:Nat->List Sh.Bs} {gh:Gh}
end
section
variable {J:Vk} {B p v:Nat} {w w':World} {r q cap tq:Nat} {A:Ar} {S S':Sh.Sf} {o o':Nat->Int} {D U:Set0} {F F':Nat->Prop} {kd:Bool} {may:Nat->List Sh.Bs} {m:Nat} {g off c:Nat->Nat}
end
structure Akin (A A':Ar):Prop where
 n:A'.n=A.n
 L:A'.L=A.L
 M:A'.M=A.M
 St:A'.St=A.St
def Good (B:Nat) (W:World) (p r:Nat) (A0:Ar) (kd:Bool) (m lb:Nat) (w:World):Prop :=
 ∃(J:Vk) (A:Ar) (S:Sh.Sf) (o:Nat->Int) (g:Gh) (D U:Set0) (F:Nat->Prop) (may:Nat->List Sh.Bs),J.B=B/\J.W=W/\J.p=p/\Akin A0 A/\Rig J w r A S o D U F kd may m/\Inv A S o g D U may kd/\(S.off=false->LastOk A g may)/\(∀j,j<A.St*(A.M-1)->(may j).length<=lb)
section
variable {J:Vk} {w:World} {r m lb:Nat} {A:Ar} {S:Sh.Sf} {o:Nat->Int} {D U:Set0} {F:Nat->Prop} {kd:Bool} {may:Nat->List Sh.Bs} {gh:Gh}
end
section
variable {J:Vk} {w:World} {r m lb:Nat} {A:Ar} {S:Sh.Sf} {o:Nat->Int} {D U:Set0} {F:Nat->Prop} {kd:Bool} {may:Nat->List Sh.Bs} {gh:Gh}
end
end Go.Proofs.YtgebkmpmnjhceaaGreatDoor.U
