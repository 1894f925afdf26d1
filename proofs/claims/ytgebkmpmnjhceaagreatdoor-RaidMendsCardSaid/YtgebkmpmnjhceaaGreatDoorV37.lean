/-
  What the statement's proof rests on, part 37.
  Conditions: each theorem's own.
-/
import Derived.Test.YtgebkmpmnjhceaaGreatDoorV36
import Derived.Test.YtgebkmpmnjhceaaGreatDoorV33
import Derived.Test.YtgebkmpmnjhceaaGreatDoorVtk
open Go.Lib (hid)
namespace Go.Proofs.YtgebkmpmnjhceaaGreatDoor.U
open Go.RowKit Go.Maps
def Octs (w:World) (b:Nat):Prop:=∃cs t,w.heap[b]?=some (.cells cs t (0,0))/\∀(i:Nat) (v:Value),cs[i]?=some v->∃z,v=Value.int .u8 z
theorem octs_own {w:World} {base b:Nat} {l:List Nat} (h:w.ownsRow base 5 1 (.slice (some ⟨b,0,none⟩) 128 128) 128 (bts l)):Octs w b:=by
 rcases h.2 with ⟨h,_⟩ | ⟨g,cap,cur,h,_,hh,hnc,hm,hs,ht⟩
 ·cases h
 ·injection h with h1 h2 h3
  injection h1 with h1
  injection h1 with h1
  subst h1
  refine ⟨_,_,hh,fun i v hv=>?_⟩
  have hc:cap=128:=by omega
  subst hc
  have hi:i<128:=by
   have:=(Array.getElem?_eq_some_iff.1 hv).1
   omega
  have h2:(bts l)[i]?=some v:=by
   rw [<- ht,List.getElem?_take,if_pos (by omega)]
   rw [<- Array.getElem?_toList] at hv
   exact hv
  unfold bts at h2
  rw [List.getElem?_map] at h2
  cases hx:l[i]? with
  | none=>rw [hx] at h2;cases h2
  | some x=>rw [hx] at h2;injection h2 with h2;exact ⟨_,h2.symm⟩
theorem Octs.cell {w:World} {b i:Nat} {v:Value} (h:Octs w b) (hv:w.cell? ⟨b,i,none⟩=some v):∃z,v=Value.int .u8 z:=by
 obtain ⟨cs,t,h1,h2⟩:=h
 rw [cell_of_row _ _ i _ _ _ h1] at hv
 exact h2 i v hv
section
variable {J:Vk} {w w':World} {r m sb:Nat} {A:Ar} {S:Sh.Sf} {o:Nat->Int} {D U:Set0} {F:Nat->Prop} {kd:Bool} {may:Nat->List Sh.Bs} {q cap tq:Nat} {g off c:Nat->Nat}
theorem RgIs.aside (hr:RgIs J w r q cap tq A kd may F g off c) (hv:Vr J w A.s o S F D U) (hs:Octs w sb) (hne:∀j,j<A.St*(A.M-1)->may j≠[]) (hN:0<A.St*(A.M-1)):sb≠r/\sb≠q/\(∀j,j<A.St*(A.M-1)->sb≠g j)/\(∀i,i<J.n->J.gn i≠sb)/\sb≠tq:=by
 refine ⟨fun e=>?_,fun e=>?_,fun j hj e=>?_,fun i hi e=>?_,fun e=>?_⟩
 ·obtain ⟨z,hz⟩:=hs.cell (e▸hr.cells.1)
  cases hz
 ·obtain ⟨z,hz⟩:=hs.cell (e▸hr.may.cells 0 hN)
  cases hz
 ·have:=(hr.may.mid j hj).at_ 0 (Nat.pos_of_ne_zero fun e=>hne j hj (List.eq_nil_of_length_eq_zero e))
  obtain ⟨z,hz⟩:=hs.cell (e▸this)
  cases hz
 ·obtain ⟨z,hz⟩:=hs.cell (e▸(hv.logs.log i hi).c0)
  cases hz
 ·obtain ⟨z,hz⟩:=hs.cell (e▸hr.tqs.at_ 0 (Nat.pos_of_mul_pos_right hN))
  cases hz
theorem Rig.poke (h:Rig J w r A S o D U F kd may m) (hnv:¬AllV J F sb) (hlow:J.B<=sb) (hs:Octs w sb) (hne:∀j,j<A.St*(A.M-1)->may j≠[]) (hN:0<A.St*(A.M-1)) (i:Nat) (v:Value):Rig J (w.setCell ⟨sb,i,none⟩ v) r A S o D U F kd may m:=by
 obtain ⟨q,cap,tq,g,off,c,hr⟩:=h.rg
 obtain ⟨a1,a2,a3,a4,a5⟩:=hr.aside h.vr hs hne hN
 have ho:Sh.Only (fun b=>b=sb) w (w.setCell ⟨sb,i,none⟩ v):=(Sh.Only.refl (fun b=>b=sb) w).setCell (p:=⟨sb,i,none⟩) (.inl rfl) _
 have hb:∀x,x≠sb->(w.setCell ⟨sb,i,none⟩ v).heap[x]?=w.heap[x]?:=fun x hx=>heap_setCell_other w ⟨sb,i,none⟩ x _ hx
 exact ⟨only_vr h.vr ho hnv hlow a4,h.few,h.n,h.L,q,cap,tq,g,off,c,(hb r (Ne.symm a1)).trans hr.row,hr.may.same (fun _ e=>e) (hb q (Ne.symm a2)) (fun j hj=>hb _ (Ne.symm (a3 j hj))) ho.size (fun b e=>.inl e),hr.low,hr.out,hr.log,hr.tqs.kept (hb tq (Ne.symm a5)),hr.tqo⟩
theorem Rig.append {k g' off' c':Nat} {b:Sh.Bs} (h:Rig J w r A S o D U F kd may m) (hr:RgIs J w r q cap tq A kd may F g off c) (hk:k<A.St*(A.M-1)) (hg:w.grownBy w' (some (g k))) (hm:Sh.Mids w' g' off' ((may k).length+1) c' (may k++[b])) (ho:g'=g k\/g'=w.heap.size) :
  Rig J (w'.setCell ⟨q,k,none⟩ (.slice (some ⟨g',off',none⟩) ((may k).length+1) c')) r A S o D U F kd (pushM may k b) m:=by
 have hO:Sh.Only (fun x=>x=q\/x=g k) w w':=⟨hg.os,hg.tape,hg.output,hg.size,fun x hx hn=>hg.block x hx (fun e=>hn (.inr (by injection e)))⟩
 have hO2:Sh.Only (fun x=>x=q\/x=g k) w (w'.setCell ⟨q,k,none⟩ (.slice (some ⟨g',off',none⟩) ((may k).length+1) c')):=hO.setCell (p:=⟨q,k,none⟩) (.inl (.inl rfl)) _
 refine h.table hr hO2 (fun x e=>e.imp id fun e=>⟨k,hk,e⟩) ?_
 exact hr.may.append hk hg hm ho h.vr.size (fun b e=>e.elim (rg_lt h.vr hr b) (fun e=>e▸hr.tqs.lt))
end
open Go.ChangeShapes Go.WideShapes Go.ChangeAt
section
variable {J:Vk} {w:World} {r m lb:Nat} {A:Ar} {S:Sh.Sf} {o:Nat->Int} {D U:Set0} {F:Nat->Prop} {kd:Bool} {may:Nat->List Sh.Bs} {gh:Gh}
theorem sec3 (b:Nat) (hb:b<256):∃z:Nat,z<256/\(bts (Sh.secOf b))[3]?=some (.int .u8 z):=by
 have hl:=(Sh.secOf_sec hb).1
 have hs:=(Sh.secOf_sec hb).2
 refine ⟨(Sh.secOf b)[3]'(by omega),hs _ (List.getElem_mem _),?_⟩
 unfold bts
 rw [List.getElem?_map,List.getElem?_eq_getElem (by omega)]
 rfl
end
section
variable {J:Vk} {w:World} {r m lb:Nat} {A:Ar} {S:Sh.Sf} {o:Nat->Int} {D U:Set0} {F:Nat->Prop} {kd:Bool} {may:Nat->List Sh.Bs} {I:Kn}
set_option maxRecDepth 20000 in
set_option maxHeartbeats 8000000 in
theorem rigWriteK_no (h:Rig J w r A S o D U F kd may m) (hK:KeepW A I) (hi:I S o D U may) (hlb:∀j,j<A.St*(A.M-1)->(may j).length<=lb) (hT:Tbl J.B J.W) (hm:m<=400000000) (n:Int) (hn1:-9223372036854775808<=n) (hn2:n<=9223372036854775807) (x:Nat) (hx:x<256)
  (hr:¬(0<=n/\n<((A.St*(A.M-1):Nat):Int))) :
  Calls Tryz.prog 28 #[.pointer (some ⟨r,0,none⟩),.int .i64 n,.int .u8 x] w fun e w'=>e=.returned (.bool true)/\GoodK I J r A kd (m+1000) lb w':=by
 have hp:J.p=J.p:=rfl
 have HH:=hid (And.intro h (And.intro hi (And.intro hlb hK)))
 clear h hi hlb hK
 go_enter Tryz.func28,Tryz.ntmps28
 go_wp2_with fail
 refine (Sh.sector_any w x hx).mono ?_
 rintro e w1 ⟨rfl,ho1,hb1⟩
 have R1:=HH.out.1.grown hb1
 obtain ⟨q,cap,tq,g,off,c,G1⟩:=R1.rg
 obtain ⟨c0,c1,_,c5,_,_⟩:=G1.cells
 have HOF:=hid (by
  obtain ⟨D0,gs,qq⟩:=R1.vr.vo.ds.on.shelf
  exact Sh.off_any qq)
 have hF:Fits J.n J.L A.s A.M A.St S:=by
  rw [HH.out.1.n,HH.out.1.L]
  exact HH.out.2.2.2.fits HH.out.2.1
 have hlt:=HH.out.1.vr.lt
 have HWR:=hid (vWrite_any (x:=Sh.secOf x) (A:=some ⟨w.heap.size,0,none⟩) (c:=128) R1.vr hF hT.tabs hT.tb hT.flds hT.fb n (Sh.secOf_sec hx) ⟨Sh.Reads.of_own ho1,fun a ha e=>by
  injection ha with ha
  subst ha
  exact Nat.lt_irrefl _ (hlt _ e)⟩ R1.few.waits R1.few.opens.2 R1.few.used (by omega))
 have hsz:w.heap.size<w1.heap.size:=by
  obtain ⟨cs,t,hh,_⟩:=octs_own ho1
  exact (Array.getElem?_eq_some_iff.1 hh).1
 obtain ⟨z,hz,hz3⟩:=sec3 x hx
 have k3:=Sh.cell_at ho1 (j:=3) hz3
 have kf:w1.frozen? ⟨w.heap.size,3,none⟩=false:=by
  obtain ⟨cs,t,hh,_⟩:=octs_own ho1
  exact frozen_of_row _ _ 3 _ _ hh
 have hnv:¬AllV J F w.heap.size:=fun e=>Nat.lt_irrefl _ (hlt _ e)
 have HFIN:Hid (∀(w2:World) (F2:Nat->Prop),Vr J w2 A.s o S F2 D U->Sh.Moves (AllV J F) w1 (AllV J F2) w2->∀v,GoodK I J r A kd (m+1000) lb (w2.setCell ⟨w.heap.size,3,none⟩ v)):=hid fun w2 F2 V2 m2 v=>by
  obtain ⟨h,hi,hlb,hK⟩:=HH.out
  have hb2:=m2.1.block _ hsz hnv
  obtain ⟨cs,t,hh,hcs⟩:=octs_own ho1
  have R2:Rig J w2 r A S o D U F2 kd may (m+1000):=⟨V2,h.few.more (by omega),h.n,h.L,R1.rg.moves m2⟩
  refine ⟨S,o,D,U,F2,may,R2.poke (fun e=>?_) h.vr.size ⟨cs,t,hb2.trans hh,hcs⟩ (fun j hj e=>hK.ne hi j hj e) (Nat.mul_pos hK.said.st1 (by have:=hK.ar.m3;omega)) 3 v,hi,hlb⟩
  rcases m2.2 _ e with e | e
  ·exact hnv e
  ·omega
 by_cases h0:n<0
 ·have q1:decide (n≥0)=false:=decide_eq_false (by omega)
  clear hF R1 G1 ho1
  go_wp2_with (go_at_call 27;refine HOF.out.mono ?_;rintro e w' ⟨rfl,rfl⟩)
  refine HWR.out.mono ?_
  rintro e w2 ⟨y,rfl,e2,D2,U2,hW,F2,V2,m2⟩
  obtain ⟨rfl,rfl,rfl,rfl⟩:=write_out hr hW
  have hb2:=m2.1.block _ hsz hnv
  have l3:=(World.cell?_of_block (w:=w1) (a:=⟨w.heap.size,3,none⟩) hb2).trans k3
  have lf:=(World.frozen?_of_block (w:=w1) (a:=⟨w.heap.size,3,none⟩) hb2).trans kf
  have HG:=hid (HFIN.out w2 F2 V2 m2)
  clear k3 kf HWR HOF c0 c1 c5 V2 m2
  go_wp2
  go_ret
  exact ⟨rfl,HG.out _⟩
 ·have q1:decide (n≥0)=true:=decide_eq_true (by omega)
  have q2:decide (n<((A.St*(A.M-1):Nat):Int))=false:=decide_eq_false (by omega)
  clear hF R1 G1 ho1
  go_wp2_with (go_at_call 27;refine HOF.out.mono ?_;rintro e w' ⟨rfl,rfl⟩)
  refine HWR.out.mono ?_
  rintro e w2 ⟨y,rfl,e2,D2,U2,hW,F2,V2,m2⟩
  obtain ⟨rfl,rfl,rfl,rfl⟩:=write_out hr hW
  have hb2:=m2.1.block _ hsz hnv
  have l3:=(World.cell?_of_block (w:=w1) (a:=⟨w.heap.size,3,none⟩) hb2).trans k3
  have lf:=(World.frozen?_of_block (w:=w1) (a:=⟨w.heap.size,3,none⟩) hb2).trans kf
  have HG:=hid (HFIN.out w2 F2 V2 m2)
  clear k3 kf HWR HOF c0 c1 c5 V2 m2
  go_wp2
  go_ret
  exact ⟨rfl,HG.out _⟩
end
theorem wp_append_mids {o:Oper} {a:Act} {w:World} {K:Act->World->Prop} {Q:Exit->Act->World->Prop} (s x:Operand)
  (ho:o.op=.call { callee:=.builtin .append,args:=#[s,x],argTypes:=#[50,50] })
  {g off n c cc:Nat} {b:Sh.Bs} {l:List Sh.Bs} {ad:Addr} (hs:a.eval s=.slice (some ⟨g,off,none⟩) n c) (hx:a.eval x=.slice (some ad) 1 cc) (h:Sh.Mids w g off n c l) (hb:w.cell? ad=some (Sh.sv b)) (hn:n<=100000)
  (hk:∀g' off' c' w',Sh.Mids w' g' off' (n+1) c' (l++[b])->w.grownBy w' (some g)->(g'=g\/g'=w.heap.size)->K (a.put o.dst (.slice (some ⟨g',off',none⟩) (n+1) c')) w'):Oper.wp Tryz.prog o a w K Q:=by
 obtain ⟨g',off',c',w',hr,h2,h3,h4⟩:=Sh.run_append_mids (cc:=cc) o.type h hb hn
 unfold Oper.wp execOp
 simp only [ho,resolve,invoke,builtin,Sem.run_bind,Sem.run_pure,Result.andThen_ok,List.map_toArray,List.map_cons,List.map_nil,hs,hx,hr]
 exact hk g' off' c' w' h2 h3 h4
section
variable {J:Vk} {w:World} {r m lb:Nat} {A:Ar} {S:Sh.Sf} {o:Nat->Int} {D U:Set0} {F:Nat->Prop} {kd:Bool} {may:Nat->List Sh.Bs} {gh:Gh}
end
section
variable {J:Vk} {w:World} {r m lb:Nat} {A:Ar} {S:Sh.Sf} {o:Nat->Int} {D U:Set0} {F:Nat->Prop} {kd:Bool} {may:Nat->List Sh.Bs} {I:Kn}
set_option maxRecDepth 20000 in
set_option maxHeartbeats 8000000 in
theorem rigWriteK_on (h:Rig J w r A S o D U F kd may m) (hK:KeepW A I) (hi:I S o D U may) (hlb:∀j,j<A.St*(A.M-1)->(may j).length<=lb) (hl:lb<=50000) (hT:Tbl J.B J.W) (hm:m<=400000000) (k:Nat) (hk:k<A.St*(A.M-1)) (hN:A.St*(A.M-1)<=1000) (x:Nat) (hx:x<256) :
  Calls Tryz.prog 28 #[.pointer (some ⟨r,0,none⟩),.int .i64 k,.int .u8 x] w fun e w'=>e=.returned (.bool true)/\GoodK I J r A kd (m+1000) (lb+1) w':=by
 have hon:=hK.on hi
 have HH:=hid (And.intro h (And.intro hi (And.intro hlb hK)))
 clear h hi hlb hK
 go_enter Tryz.func28,Tryz.ntmps28
 go_wp2_with fail
 refine (Sh.sector_any w x hx).mono ?_
 rintro e w1 ⟨rfl,ho1,hb1⟩
 have R1:=HH.out.1.grown hb1
 obtain ⟨q,cap,tq,g,off,c,G1⟩:=R1.rg
 obtain ⟨c0,c1,_,c5,_,_⟩:=G1.cells
 have HOF:=hid (by
  obtain ⟨D0,gs,qq⟩:=R1.vr.vo.ds.on.shelf
  exact Sh.off_any qq)
 rw [hon] at HOF
 have hlt:=HH.out.1.vr.lt
 have hsz:w.heap.size<w1.heap.size:=by
  obtain ⟨cs,t,hh,_⟩:=octs_own ho1
  exact (Array.getElem?_eq_some_iff.1 hh).1
 have hrl:=(Array.getElem?_eq_some_iff.1 G1.row).1
 have q1:decide ((k:Int)≥0)=true:=decide_eq_true (by omega)
 have q2:decide ((k:Int)<((A.St*(A.M-1):Nat):Int))=true:=decide_eq_true (by omega)
 have q3:(k:Int)<((A.St*(A.M-1):Nat):Int):=by omega
 have kq:=G1.may.cells k hk
 have hql:=G1.may.lt
 generalize hsn:Sh.strL (Sh.secOf x)=sn
 have hb8:Below w1.heap.size w1 (w1.drew.alloc (.cells #[.string sn] 9)):=(Below.refl _ _).drew.alloc (Nat.le_refl _) _
 have kq8:=(hb8.cell (p:=⟨q,k,none⟩) hql).trans kq
 have G8:=hid (G1.grown hb8)
 have R8:=hid (R1.grown hb8)
 have X0:Hid ((w1.drew.alloc (.cells #[.string sn] 9)).cell? ⟨w1.heap.size,0,none⟩=some (Sh.sv (Sh.secOf x))):=hid (by
  unfold Sh.sv
  rw [hsn]
  exact cell_of_row _ _ 0 _ _ _ (heap_alloc_new w1.drew _))
 have hl5:(may k).length<=100000:=by have:=HH.out.2.2.1 k hk;omega
 have hho:=hid ho1
 generalize hsb:w.heap.size=sb at *
 have k5:=fun (W':World) (hS:W'.heap[r]?=w1.heap[r]?/\W'.heap[sb]?=w1.heap[sb]?)=>(World.cell?_of_block (w:=w1) (a:=⟨r,5,none⟩) hS.1).trans c5
 have t2:=fun (W':World) (hS:W'.heap[r]?=w1.heap[r]?/\W'.heap[sb]?=w1.heap[sb]?)=>Sh.conv_own (q:=sb) (Sh.same_row ho1 (fun y hy=>by injection hy with hy;rw [<- hy];exact hS.2)) hsn W' (Below.refl _ _)
 have S8:Hid ((w1.drew.alloc (.cells #[.string sn] 9)).heap[r]?=w1.heap[r]?/\(w1.drew.alloc (.cells #[.string sn] 9)).heap[sb]?=w1.heap[sb]?):=hid ⟨hb8.block r hrl,hb8.block sb hsz⟩
 have HAS:=hid (G8.out.aside R8.out.vr (sb:=sb) (by
  obtain ⟨cs,ty,hh,hcs⟩:=octs_own hho.out
  exact ⟨cs,ty,S8.out.2.trans hh,hcs⟩) (fun j hj e=>HH.out.2.2.2.ne HH.out.2.1 j hj e) (by omega))
 have HRQ:Hid (r≠g k/\r≠q/\q≠g k):=hid ⟨fun e=>G8.out.may.outg k hk (.inl (.inr (.inl e.symm))),fun e=>G8.out.may.outq (.inl (.inr (.inl e.symm))),fun e=>G8.out.may.gne k hk e.symm⟩
 have HS12:Hid (∀w12,World.grownBy (w1.drew.alloc (.cells #[.string sn] 9)) w12 (some (g k))->(w12.heap[r]?=w1.heap[r]?/\w12.heap[sb]?=w1.heap[sb]?)/\w12.heap[q]?=(w1.drew.alloc (.cells #[.string sn] 9)).heap[q]?):=hid fun w12 hg=>by
  have z1:=(Array.getElem?_eq_some_iff.1 G8.out.row).1
  have z2:=Nat.lt_of_lt_of_le hsz (show w1.heap.size<=(w1.drew.alloc (.cells #[.string sn] 9)).heap.size by simp)
  exact ⟨⟨(hg.block r z1 (fun e=>HRQ.out.1 (by injection e))).trans S8.out.1,(hg.block sb z2 (fun e=>HAS.out.2.2.1 k hk (by injection e))).trans S8.out.2⟩,hg.block q G8.out.may.lt (fun e=>HRQ.out.2.2 (by injection e))⟩
 have hnv:¬AllV J F sb:=fun e=>by have:=hlt _ e;omega
 clear R1 G1 ho1 hb8
 go_wp2_with (go_at_call 27;refine HOF.out.mono ?_;rintro e w' ⟨rfl,rfl⟩)
 refine wp_region_held_drew (S:=fun W'=>W'.heap[r]?=w1.heap[r]?/\W'.heap[sb]?=w1.heap[sb]?) (by kernel_rfl) ⟨rfl,rfl⟩ (fun hHeld=>?_)
 refine tk 0 34 ?_
 refine tk 1 35 ?_
 refine tk 2 36 ?_
 refine tk 3 37 ?_
 refine tk 4 38 ?_
 refine tk 5 39 ?_
 refine tk 6 40 ?_
 refine tk 7 41 ?_
 refine tk 8 42 ?_
 refine tk 9 43 ?_
 refine tk 10 44 ?_
 refine tk 12 46 ?_
 refine tk 13 47 ?_
 refine wpAnyH_ready (rs:=[11,14]) (by kernel_rfl) (by simp) ?_
 refine (AllReadyH.cons (o:=⟨some 45,_,_,_,_,_⟩) rfl (fun K hK=>?_) (AllReadyH.cons (o:=⟨some 48,_,_,_,_,_⟩) rfl (fun K hK=>?_) AllReadyH.nil))
 ·go_simp
  refine hK.out _ _ ⟨rfl,rfl⟩ (fun _=>?_)
  clear hK K
  try simp only [Act.put,List.setIfInBounds_toArray,List.set_cons_zero,List.set_cons_succ]
  refine r1 14 (some 48) fun K hK=>?_
  go_simp
  refine hK.out _ _ S8.out (fun _=>?_)
  clear hK K
  try simp only [Act.put,List.setIfInBounds_toArray,List.set_cons_zero,List.set_cons_succ]
  refine r1 15 (some 49) fun K hK=>?_
  rw [if_pos (by rfl)]
  refine wp_append_mids (.tmp 45) (.tmp 48) rfl (g:=g k) (off:=off k) (n:=(may k).length) (c:=c k) (cc:=1) (b:=Sh.secOf x) (l:=may k) (ad:=⟨w1.heap.size,0,none⟩) rfl rfl (G8.out.may.mid k hk) X0.out hl5 (fun g2 off2 c2 w12 hm12 hg12 ho12=>?_)
  obtain ⟨s12,b12⟩:=HS12.out w12 hg12
  refine hK.out _ _ s12 (fun _=>?_)
  clear hK K
  try simp only [Act.put,List.setIfInBounds_toArray,List.set_cons_zero,List.set_cons_succ]
  refine tk 16 50 ?_
  have kc:=(World.cell?_of_block (a:=⟨q,k,none⟩) b12).trans (G8.out.may.cells k hk)
  have kf:=(World.frozen?_of_block (a:=⟨q,k,none⟩) b12).trans (G8.out.may.free k hk)
  have R13:=R8.out.append G8.out hk hg12 hm12 ho12
  have S13:((w12.setCell ⟨q,k,none⟩ (.slice (some ⟨g2,off2,none⟩) ((may k).length+1) c2)).heap[r]?=w1.heap[r]?/\(w12.setCell ⟨q,k,none⟩ (.slice (some ⟨g2,off2,none⟩) ((may k).length+1) c2)).heap[sb]?=w1.heap[sb]?) :=
   ⟨(heap_setCell_other _ ⟨q,k,none⟩ r _ HRQ.out.2.1).trans s12.1,(heap_setCell_other _ ⟨q,k,none⟩ sb _ HAS.out.2.1).trans s12.2⟩
  refine r1 17 none fun K hK=>?_
  go_simp
  refine hK.out _ _ S13 (fun _=>?_)
  clear hK K
  try simp only [Act.put,List.setIfInBounds_toArray,List.set_cons_zero,List.set_cons_succ]
  refine wpAnyH_done (by kernel_rfl) ?_ _
  have hsz13:w1.heap.size<=(w12.setCell ⟨q,k,none⟩ (.slice (some ⟨g2,off2,none⟩) ((may k).length+1) c2)).heap.size:=by
   have:=hg12.size
   simp at this ⊢
   omega
  generalize w12.setCell ⟨q,k,none⟩ (.slice (some ⟨g2,off2,none⟩) ((may k).length+1) c2)=w13 at *
  have j0:=(World.cell?_of_block (w:=w1) (a:=⟨r,0,none⟩) S13.1).trans c0
  have j1:=(World.cell?_of_block (w:=w1) (a:=⟨r,1,none⟩) S13.1).trans c1
  have ho13:=Sh.same_row hho.out (w':=w13) (fun y hy=>by injection hy with hy;rw [<- hy];exact S13.2)
  obtain ⟨h,hi,hlb,hK⟩:=HH.out
  have hF:Fits J.n J.L A.s A.M A.St S:=by
   rw [h.n,h.L]
   exact hK.fits hi
  have HWR:=hid (vWrite_any (x:=Sh.secOf x) (A:=some ⟨sb,0,none⟩) (c:=128) R13.vr hF hT.tabs hT.tb hT.flds hT.fb (k:Int) (Sh.secOf_sec hx) ⟨Sh.Reads.of_own ho13,fun a ha e=>by
   injection ha with ha
   subst ha
   exact hnv e⟩ R13.few.waits R13.few.opens.2 R13.few.used (by omega))
  obtain ⟨z,hz,hz3⟩:=sec3 x hx
  have k3:=Sh.cell_at ho13 (j:=3) hz3
  have kf3:w13.frozen? ⟨sb,3,none⟩=false:=by
   obtain ⟨cs,ty,hh,_⟩:=octs_own ho13
   exact frozen_of_row _ _ 3 _ _ hh
  have HR13:=hid (And.intro R13 (And.intro S13 (octs_own ho13)))
  have hs13:sb<w13.heap.size:=by omega
  have hr13:r<w13.heap.size:=by omega
  clear h hi hlb hK hF kc kf R13 S13 ho13 s12 b12 hg12 hm12 ho12 k5 t2 c0 c1 c5 kq kq8
  go_wp2_with fail
  refine HWR.out.mono ?_
  rintro e w2 ⟨y,rfl,e2,D2,U2,hW,F2,V2,m2⟩
  obtain ⟨h,hi,hlb,hK⟩:=HH.out
  obtain ⟨R13,S13,hoc⟩:=HR13.out
  have hfw:=R13.few.write R13.vr.used (by rw [h.n];exact hK.ar.n17) (by rw [h.L];exact hK.ar.l8) hW
  rw [h.n,h.L] at hW
  obtain ⟨rfl,inv'⟩:=hK.write hi (isMap_set R13.vr.opens) (isMap_set R13.vr.used) hk (Sh.secOf_sec hx) hW
  have hb2:=m2.1.block _ hs13 hnv
  have l3:=(World.cell?_of_block (w:=w13) (a:=⟨sb,3,none⟩) hb2).trans k3
  have lf:=(World.frozen?_of_block (w:=w13) (a:=⟨sb,3,none⟩) hb2).trans kf3
  have hro:¬AllV J F r:=G8.out.out
  have l0:=(World.cell?_of_block (w:=w13) (a:=⟨r,0,none⟩) (m2.1.block r hr13 hro)).trans j0
  have hnv2:¬AllV J F2 sb:=fun e=>by
   rcases m2.2 _ e with e | e
   ·exact hnv e
   ·omega
  have HG:Hid (∀v,GoodK I J r A kd (m+1000) (lb+1) (w2.setCell ⟨sb,3,none⟩ v)):=hid fun v=>by
   obtain ⟨cs,ty,hh,hcs⟩:=hoc
   have R2:Rig J w2 r A e2.S e2.o D2 U2 F2 kd (pushM may k (Sh.secOf x)) (m+1000):=⟨V2,hfw,h.n,h.L,R13.rg.moves m2⟩
   refine ⟨e2.S,e2.o,D2,U2,F2,_,R2.poke hnv2 (by have:=h.vr.size;omega) ⟨cs,ty,hb2.trans hh,hcs⟩ (fun j hj e=>hK.ne inv' j hj e) (by omega) 3 v,inv',fun j hj=>?_⟩
   have:=hlb j hj
   unfold pushM
   split
   ·simp;omega
   ·omega
  have hrs:(r=sb)=False:=eq_false (Ne.symm HAS.out.1)
  have hrs2:(sb=r)=False:=eq_false HAS.out.1
  clear h hi hlb hK R13 S13 hoc hfw hW hb2 hnv2 V2 m2 k3 kf3 HWR inv' j0 j1 HR13
  go_wp2
  go_ret
  exact ⟨rfl,HG.out _⟩
 ·go_simp
  refine hK.out _ _ S8.out (fun _=>?_)
  clear hK K
  try simp only [Act.put,List.setIfInBounds_toArray,List.set_cons_zero,List.set_cons_succ]
  refine r1 11 (some 45) fun K hK=>?_
  go_simp
  refine hK.out _ _ S8.out (fun _=>?_)
  clear hK K
  try simp only [Act.put,List.setIfInBounds_toArray,List.set_cons_zero,List.set_cons_succ]
  refine r1 15 (some 49) fun K hK=>?_
  rw [if_pos (by rfl)]
  refine wp_append_mids (.tmp 45) (.tmp 48) rfl (g:=g k) (off:=off k) (n:=(may k).length) (c:=c k) (cc:=1) (b:=Sh.secOf x) (l:=may k) (ad:=⟨w1.heap.size,0,none⟩) rfl rfl (G8.out.may.mid k hk) X0.out hl5 (fun g2 off2 c2 w12 hm12 hg12 ho12=>?_)
  obtain ⟨s12,b12⟩:=HS12.out w12 hg12
  refine hK.out _ _ s12 (fun _=>?_)
  clear hK K
  try simp only [Act.put,List.setIfInBounds_toArray,List.set_cons_zero,List.set_cons_succ]
  refine tk 16 50 ?_
  have kc:=(World.cell?_of_block (a:=⟨q,k,none⟩) b12).trans (G8.out.may.cells k hk)
  have kf:=(World.frozen?_of_block (a:=⟨q,k,none⟩) b12).trans (G8.out.may.free k hk)
  have R13:=R8.out.append G8.out hk hg12 hm12 ho12
  have S13:((w12.setCell ⟨q,k,none⟩ (.slice (some ⟨g2,off2,none⟩) ((may k).length+1) c2)).heap[r]?=w1.heap[r]?/\(w12.setCell ⟨q,k,none⟩ (.slice (some ⟨g2,off2,none⟩) ((may k).length+1) c2)).heap[sb]?=w1.heap[sb]?) :=
   ⟨(heap_setCell_other _ ⟨q,k,none⟩ r _ HRQ.out.2.1).trans s12.1,(heap_setCell_other _ ⟨q,k,none⟩ sb _ HAS.out.2.1).trans s12.2⟩
  refine r1 17 none fun K hK=>?_
  go_simp
  refine hK.out _ _ S13 (fun _=>?_)
  clear hK K
  try simp only [Act.put,List.setIfInBounds_toArray,List.set_cons_zero,List.set_cons_succ]
  refine wpAnyH_done (by kernel_rfl) ?_ _
  have hsz13:w1.heap.size<=(w12.setCell ⟨q,k,none⟩ (.slice (some ⟨g2,off2,none⟩) ((may k).length+1) c2)).heap.size:=by
   have:=hg12.size
   simp at this ⊢
   omega
  generalize w12.setCell ⟨q,k,none⟩ (.slice (some ⟨g2,off2,none⟩) ((may k).length+1) c2)=w13 at *
  have j0:=(World.cell?_of_block (w:=w1) (a:=⟨r,0,none⟩) S13.1).trans c0
  have j1:=(World.cell?_of_block (w:=w1) (a:=⟨r,1,none⟩) S13.1).trans c1
  have ho13:=Sh.same_row hho.out (w':=w13) (fun y hy=>by injection hy with hy;rw [<- hy];exact S13.2)
  obtain ⟨h,hi,hlb,hK⟩:=HH.out
  have hF:Fits J.n J.L A.s A.M A.St S:=by
   rw [h.n,h.L]
   exact hK.fits hi
  have HWR:=hid (vWrite_any (x:=Sh.secOf x) (A:=some ⟨sb,0,none⟩) (c:=128) R13.vr hF hT.tabs hT.tb hT.flds hT.fb (k:Int) (Sh.secOf_sec hx) ⟨Sh.Reads.of_own ho13,fun a ha e=>by
   injection ha with ha
   subst ha
   exact hnv e⟩ R13.few.waits R13.few.opens.2 R13.few.used (by omega))
  obtain ⟨z,hz,hz3⟩:=sec3 x hx
  have k3:=Sh.cell_at ho13 (j:=3) hz3
  have kf3:w13.frozen? ⟨sb,3,none⟩=false:=by
   obtain ⟨cs,ty,hh,_⟩:=octs_own ho13
   exact frozen_of_row _ _ 3 _ _ hh
  have HR13:=hid (And.intro R13 (And.intro S13 (octs_own ho13)))
  have hs13:sb<w13.heap.size:=by omega
  have hr13:r<w13.heap.size:=by omega
  clear h hi hlb hK hF kc kf R13 S13 ho13 s12 b12 hg12 hm12 ho12 k5 t2 c0 c1 c5 kq kq8
  go_wp2_with fail
  refine HWR.out.mono ?_
  rintro e w2 ⟨y,rfl,e2,D2,U2,hW,F2,V2,m2⟩
  obtain ⟨h,hi,hlb,hK⟩:=HH.out
  obtain ⟨R13,S13,hoc⟩:=HR13.out
  have hfw:=R13.few.write R13.vr.used (by rw [h.n];exact hK.ar.n17) (by rw [h.L];exact hK.ar.l8) hW
  rw [h.n,h.L] at hW
  obtain ⟨rfl,inv'⟩:=hK.write hi (isMap_set R13.vr.opens) (isMap_set R13.vr.used) hk (Sh.secOf_sec hx) hW
  have hb2:=m2.1.block _ hs13 hnv
  have l3:=(World.cell?_of_block (w:=w13) (a:=⟨sb,3,none⟩) hb2).trans k3
  have lf:=(World.frozen?_of_block (w:=w13) (a:=⟨sb,3,none⟩) hb2).trans kf3
  have hro:¬AllV J F r:=G8.out.out
  have l0:=(World.cell?_of_block (w:=w13) (a:=⟨r,0,none⟩) (m2.1.block r hr13 hro)).trans j0
  have hnv2:¬AllV J F2 sb:=fun e=>by
   rcases m2.2 _ e with e | e
   ·exact hnv e
   ·omega
  have HG:Hid (∀v,GoodK I J r A kd (m+1000) (lb+1) (w2.setCell ⟨sb,3,none⟩ v)):=hid fun v=>by
   obtain ⟨cs,ty,hh,hcs⟩:=hoc
   have R2:Rig J w2 r A e2.S e2.o D2 U2 F2 kd (pushM may k (Sh.secOf x)) (m+1000):=⟨V2,hfw,h.n,h.L,R13.rg.moves m2⟩
   refine ⟨e2.S,e2.o,D2,U2,F2,_,R2.poke hnv2 (by have:=h.vr.size;omega) ⟨cs,ty,hb2.trans hh,hcs⟩ (fun j hj e=>hK.ne inv' j hj e) (by omega) 3 v,inv',fun j hj=>?_⟩
   have:=hlb j hj
   unfold pushM
   split
   ·simp;omega
   ·omega
  have hrs:(r=sb)=False:=eq_false (Ne.symm HAS.out.1)
  have hrs2:(sb=r)=False:=eq_false HAS.out.1
  clear h hi hlb hK R13 S13 hoc hfw hW hb2 hnv2 V2 m2 k3 kf3 HWR inv' j0 j1 HR13
  go_wp2
  go_ret
  exact ⟨rfl,HG.out _⟩
end
def opV (v:Sh.Op8):Value:=.agg #[.int .i64 v.kind,.int .i64 v.n,.int .i64 v.at_,.int .u8 (v.x:Int),.slice v.A v.m v.c]
section
variable {J:Vk} {w:World} {r m lb:Nat} {A:Ar} {S:Sh.Sf} {o:Nat->Int} {D U:Set0} {F:Nat->Prop} {kd:Bool} {may:Nat->List Sh.Bs} {gh:Gh}
theorem op_cells {w:World} {b:Nat} {x0 x1 x2 x3 x4:Value} {t:TypeId} (h:w.heap[b]?=some (.cells #[x0,x1,x2,x3,x4] t (0,0))) :
  w.cell? ⟨b,0,none⟩=some x0/\w.cell? ⟨b,1,none⟩=some x1/\w.cell? ⟨b,2,none⟩=some x2/\w.cell? ⟨b,3,none⟩=some x3/\w.cell? ⟨b,4,none⟩=some x4 :=
 ⟨cell_of_row _ _ 0 _ _ _ h,cell_of_row _ _ 1 _ _ _ h,cell_of_row _ _ 2 _ _ _ h,cell_of_row _ _ 3 _ _ _ h,cell_of_row _ _ 4 _ _ _ h⟩
end
section
variable {J:Vk} {w:World} {r m lb:Nat} {A:Ar} {S:Sh.Sf} {o:Nat->Int} {D U:Set0} {F:Nat->Prop} {kd:Bool} {may:Nat->List Sh.Bs} {I:Kn}
theorem rigWriteK_any (h:Rig J w r A S o D U F kd may m) (hK:KeepW A I) (hi:I S o D U may) (hlb:∀j,j<A.St*(A.M-1)->(may j).length<=lb) (hl:lb<=50000) (hT:Tbl J.B J.W) (hm:m<=400000000) (hN:A.St*(A.M-1)<=1000) (n:Int) (hn1:-9223372036854775808<=n) (hn2:n<=9223372036854775807) (x:Nat) (hx:x<256) :
  Calls Tryz.prog 28 #[.pointer (some ⟨r,0,none⟩),.int .i64 n,.int .u8 x] w fun e w'=>e=.returned (.bool true)/\GoodK I J r A kd (m+1000) (lb+1) w':=by
 by_cases hr:0<=n/\n<((A.St*(A.M-1):Nat):Int)
 ·obtain ⟨k,rfl⟩:∃k:Nat,n=(k:Int):=⟨n.toNat,by omega⟩
  exact rigWriteK_on h hK hi hlb hl hT hm k (by omega) hN x hx
 ·exact (rigWriteK_no h hK hi hlb hT hm n hn1 hn2 x hx hr).mono fun _ _ e=>⟨e.1,e.2.more (Nat.le_refl _) (by omega)⟩
set_option maxRecDepth 20000 in
set_option maxHeartbeats 4000000 in
theorem doK_write (h:Rig J w r A S o D U F kd may m) (hK:KeepW A I) (hi:I S o D U may) (hlb:∀j,j<A.St*(A.M-1)->(may j).length<=lb) (hl:lb<=50000) (hT:Tbl J.B J.W) (hm:m<=400000000) (hN:A.St*(A.M-1)<=1000) (v:Sh.Op8) (hk:v.kind=2) (hn:Sh.I64 v.n) (hx:v.x<256) :
  Calls Tryz.prog 9 #[.pointer (some ⟨r,0,none⟩),opV v] w fun e w'=>e=.returned (.bool true)/\GoodK I J r A kd (m+1000) (lb+1) w':=by
 have hb0:Below w.heap.size w (w.alloc (.cells #[.int .i64 v.kind,.int .i64 v.n,.int .i64 v.at_,.int .u8 (v.x:Int),.slice v.A v.m v.c] 31)):=(Below.refl _ _).alloc (Nat.le_refl _) _
 obtain ⟨k0,k1,k2,k3,k4⟩:=op_cells (heap_alloc_new w (.cells #[.int .i64 v.kind,.int .i64 v.n,.int .i64 v.at_,.int .u8 (v.x:Int),.slice v.A v.m v.c] 31))
 have HWR:=hid (rigWriteK_any (h.grown hb0) hK hi hlb hl hT hm hN v.n hn.1 hn.2 v.x hx)
 unfold opV
 obtain ⟨kind,n,at_,x,vA,vm,vc,ks⟩:=v
 simp only at hk hn hx k0 k1 k2 k3 k4 HWR hb0 ⊢
 subst hk
 clear h hi hlb hK
 go_enter Tryz.func9,Tryz.ntmps9
 go_wp2_with fail
 refine HWR.out.mono ?_
 rintro e w1 ⟨rfl,hg⟩
 have HG:=hid hg
 clear hg HWR k0 k1 k2 k3 k4
 go_wp2
 go_ret
 exact ⟨rfl,HG.out⟩
end
section
variable {J:Vk} {w:World} {r m lb:Nat} {A:Ar} {S:Sh.Sf} {o:Nat->Int} {D U:Set0} {F:Nat->Prop} {kd:Bool} {may:Nat->List Sh.Bs} {gh:Gh}
end
theorem offS {w:World} {p:Nat} {S:Sh.Sf} {F:Nat->Prop} (h:Sh.Shelf w p S F):Calls Tryz.prog 27 #[.pointer (some ⟨p,0,none⟩)] w fun e w'=>e=.returned (.bool S.off)/\w=w':=by
 obtain ⟨D0,gs,q⟩:=h
 exact Sh.off_any q
def trimK (may:Nat->List Sh.Bs) (k:Nat):Nat->List Sh.Bs:=fun j=>if j<k then (may j).drop ((may j).length-1) else may j
theorem trimK_0 (may:Nat->List Sh.Bs):trimK may 0=may:=by funext j;simp [trimK]
theorem trimK_at (may:Nat->List Sh.Bs) (k:Nat):trimK may k k=may k:=by simp [trimK]
theorem trimK_succ (may:Nat->List Sh.Bs) (k:Nat):trimK may (k+1)=fun j=>if j=k then (trimK may k j).drop ((trimK may k j).length-1) else trimK may k j:=by
 funext j
 unfold trimK
 by_cases e:j=k
 ·subst e;simp
 ·by_cases h:j<k
  ·rw [if_pos (by omega),if_neg e,if_pos h]
  ·rw [if_neg (by omega),if_neg e,if_neg h]
section
variable {J:Vk} {w w2:World} {r q cap tq m lb:Nat} {A:Ar} {S:Sh.Sf} {o:Nat->Int} {D U:Set0} {F F2:Nat->Prop} {kd:Bool} {may may':Nat->List Sh.Bs} {gh:Gh} {g off c:Nat->Nat} {y n:Int} {X:Sh.Bs} {t:Stt}
theorem Rig.trims {k:Nat} (h:Rig J w r A S o D U F kd (trimK may k) m) (hr:RgIs J w r q cap tq A kd (trimK may k) F g off c) (hk:k<A.St*(A.M-1)) (h0:0<(may k).length) :
  Rig J (w.setCell ⟨q,k,none⟩ (.slice (some ⟨g k,off k+((may k).length-1),none⟩) 1 (c k-((may k).length-1)))) r A S o D U F kd (trimK may (k+1)) m:=by
 have h1:=hr.may.trim (k:=k) hk (by rw [trimK_at];exact h0)
 rw [trimK_at,<- trimK_succ] at h1
 exact h.table hr (X:=fun x=>x=q) (Sh.Only.setCell (F:=fun b=>b=q) (p:=⟨q,k,none⟩) (Sh.Only.refl _ _) (.inl rfl) _) (fun b e=>.inl e) h1
theorem MayIs.congr {N B:Nat} {G P:Nat->Prop} (h:MayIs N w B q G P may g off c) (he:∀j,P j->may j=may' j):MayIs N w B q G P may' g off c :=
 ⟨h.small,h.low,h.lt,h.there,h.free,fun k hk=>by rw [<- he k hk];exact h.cells k hk,fun k hk=>by rw [<- he k hk];exact h.mid k hk,h.glow,h.gne,h.inj,h.outq,h.outg⟩
theorem Rig.congr (h:Rig J w r A S o D U F kd may m) (he:∀j,j<A.St*(A.M-1)->may j=may' j):Rig J w r A S o D U F kd may' m:=by
 obtain ⟨q,cap,tq,g,off,c,hr⟩:=h.rg
 exact ⟨h.vr,h.few,h.n,h.L,q,cap,tq,g,off,c,⟨hr.row,hr.may.congr he,hr.low,hr.out,hr.log,hr.tqs,hr.tqo⟩⟩
theorem Rig.trimmed (h:Rig J w r A S o D U F kd (trimK may (A.St*(A.M-1))) m):Rig J w r A S o D U F kd (trimAll may) m:=h.congr fun j hj=>by unfold trimK trimAll;rw [if_pos hj]
def Flt (J:Vk) (r:Nat) (A:Ar) (S:Sh.Sf) (o:Nat->Int) (D U:Set0) (kd:Bool) (may:Nat->List Sh.Bs) (m k:Nat) (wr:World):Prop:=∃F,Rig J wr r A S o D U F kd (trimK may k) m
end
section
variable {J:Vk} {w:World} {r m lb:Nat} {A:Ar} {S:Sh.Sf} {o:Nat->Int} {D U:Set0} {F:Nat->Prop} {kd:Bool} {may:Nat->List Sh.Bs} {I:Kn}
set_option maxRecDepth 20000 in
set_option maxHeartbeats 4000000 in
theorem doK_flush (h:Rig J w r A S o D U F kd may m) (hK:KeepW A I) (hi:I S o D U may) (hlb:∀j,j<A.St*(A.M-1)->(may j).length<=lb) (hl:lb<=50000) (hT:Tbl J.B J.W) (hm:m<=400000000) (hN:A.St*(A.M-1)<=1000) (v:Sh.Op8) (hk:v.kind=3) :
  Calls Tryz.prog 9 #[.pointer (some ⟨r,0,none⟩),opV v] w fun e w'=>e=.returned (.bool true)/\GoodK I J r A kd (m+1000) lb w':=by
 have hb0:Below w.heap.size w (w.alloc (.cells #[.int .i64 v.kind,.int .i64 v.n,.int .i64 v.at_,.int .u8 (v.x:Int),.slice v.A v.m v.c] 31)):=(Below.refl _ _).alloc (Nat.le_refl _) _
 obtain ⟨k0,k1,k2,k3,k4⟩:=op_cells (heap_alloc_new w (.cells #[.int .i64 v.kind,.int .i64 v.n,.int .i64 v.at_,.int .u8 (v.x:Int),.slice v.A v.m v.c] 31))
 have R1:=h.grown hb0
 have hF:Fits J.n J.L A.s A.M A.St S:=by
  rw [h.n,h.L]
  exact hK.fits hi
 have HFL:=hid (vFlush_any R1.vr hF hT.tabs hT.tb R1.few.waits R1.few.used (by omega))
 obtain ⟨q,cap,tq,g,off,c,G1⟩:=R1.rg
 obtain ⟨c0,c1,_,c5,_,_⟩:=G1.cells
 have HH:=hid (And.intro R1 (And.intro hi (And.intro hlb hK)))
 unfold opV
 obtain ⟨kind,n,at_,x,vA,vm,vc,ks⟩:=v
 simp only at hk k0 k1 k2 k3 k4 HFL HH hb0 c0 c1 c5 ⊢
 subst hk
 clear h hi hlb hK R1 hF G1
 go_enter Tryz.func9,Tryz.ntmps9
 go_wp2_with fail
 refine HFL.out.mono ?_
 rintro e w2 ⟨y,rfl,b,D2,U2,hR,F2,V2,m2⟩
 obtain ⟨R1,hi,hlb,hK⟩:=HH.out
 have hfw:=R1.few.flush (by rw [R1.n];exact hK.ar.n17) (by rw [R1.L];exact hK.ar.l8) hR
 rw [R1.n,R1.L] at hR
 obtain ⟨rfl,I2⟩:=hK.flush hi hR
 have R2:Rig J w2 r A b.S b.o D2 U2 F2 kd may (m+1000):=⟨V2,hfw,R1.n,R1.L,R1.rg.moves m2⟩
 have HNE:=hid (show ∀j,j<A.St*(A.M-1)->may j≠[]/\(may j).length<=lb from fun j hj=>⟨hK.ne hi j hj,hlb j hj⟩)
 have HOF:=hid (offS V2.vo.ds.on.shelf)
 obtain ⟨q2,cap2,tq2,g2,off2,cc2,G2⟩:=R2.rg
 obtain ⟨j0,_,_,j5,_,_⟩:=G2.cells
 clear R1 hi hlb hK hfw hR V2 m2 HH HFL c0 c1 c5 k0 k1 k2 k3 k4 hb0 G2
 have HI:=hid (And.intro I2 I2)
 have H0:Hid (Flt J r A b.S b.o D2 U2 kd may (m+1000) 0 w2):=hid ⟨F2,by rw [trimK_0];exact R2⟩
 clear I2 R2 HOF j0
 generalize hNN:A.St*(A.M-1)=N at *
 go_wp2_with fail
 go_loopw [8] (fun i wr=>∃k:Nat,k<=N/\i=.int .i64 k/\Hid (Flt J r A b.S b.o D2 U2 kd may (m+1000) k wr)) (fun i _=>N-(intOf i).toNat)
 case atStart=>exact ⟨0,Nat.zero_le _,rfl,H0⟩
 case round =>
  obtain ⟨k,hk,rfl,hrel⟩:=hrel
  clear H0 j5
  obtain ⟨F3,R3⟩:=hrel.out
  obtain ⟨q,cap,tq,g,off,cj,G3⟩:=R3.rg
  have c5:=G3.cells.2.2.2.1
  rw [hNN] at c5
  by_cases hlt:k<N
  ·have hltA:k<A.St*(A.M-1):=by omega
   obtain ⟨q0,hq0⟩:∃q0,(may k).length=q0+1:=⟨(may k).length-1,by have:=(HNE.out k hlt).1;have h0:(may k).length≠0:=fun e=>this (List.eq_nil_of_length_eq_zero e);omega⟩
   have kA:=G3.may.cells k hltA
   have hqc:=(G3.may.mid k hltA).le
   have kf:=G3.may.free k hltA
   have hrq:r≠q:=fun e=>G3.may.outq (.inl (.inr (.inl e.symm)))
   rw [trimK_at,hq0] at kA hqc
   have hs1:(0:Int)<=((q0+1:Nat):Int)-1:=by omega
   have hq500:q0<=60000:=by have:=(HNE.out k hlt).2;omega
   have hB4:=R3.trims G3 hltA (by omega)
   have hB5:=(R3.grown (w':=wr.drew) ((Below.refl _ _).drew)).trims (G3.grown (w':=wr.drew) ((Below.refl _ _).drew)) hltA (by omega)
   rw [hq0] at hB4 hB5
   simp only [Nat.add_sub_cancel] at hB4 hB5
   have B4:Hid (Flt J r A b.S b.o D2 U2 kd may (m+1000) (k+1) _):=hid ⟨F3,hB4.grown ((Below.refl _ _).drew)⟩
   have B5:Hid (Flt J r A b.S b.o D2 U2 kd may (m+1000) (k+1) _):=hid ⟨F3,hB5⟩
   clear hB4 hB5
   have hwq:IntKind.i64.wrap (q0:Int)=(q0:Int):=IntWalk.i64_in _ ⟨by omega,by omega⟩
   have hc1:(q0:Int)<=(q0:Int)+1:=by omega
   have hcq:(cj k=q0)=False:=by simp;omega
   have q3:(k:Int)<(N:Int):=by omega
   have S0:wr.drew.cell? ⟨r,5,none⟩=some (.slice (some ⟨q,0,none⟩) N cap):=c5
   clear R3 G3 hq0 hrel hltA
   generalize g k=gj at *
   generalize off k=offj at *
   generalize cj k=cc at *
   have S9:Hid ((((wr.setCell ⟨q,k,none⟩ (.slice (some ⟨gj,offj+q0,none⟩) 1 (cc-q0))).drew).cell? ⟨r,5,none⟩=some (.slice (some ⟨q,0,none⟩) N cap))):=hid ((World.cell?_setCell_other _ _ _ _ (fun e=>hrq (congrArg Addr.block e).symm)).trans c5)
   have S8:Hid ((((wr.drew.setCell ⟨q,k,none⟩ (.slice (some ⟨gj,offj+q0,none⟩) 1 (cc-q0)))).cell? ⟨r,5,none⟩=some (.slice (some ⟨q,0,none⟩) N cap))):=hid ((World.cell?_setCell_other _ _ _ _ (fun e=>hrq (congrArg Addr.block e).symm)).trans c5)
   go_wp2_with fail
   refine wp_region_held_drew (S:=fun W'=>W'.cell? ⟨r,5,none⟩=some (.slice (some ⟨q,0,none⟩) N cap)) (by kernel_rfl) S0 (fun hHeld=>?_)
   refine tk 0 92 ?_
   refine tk 1 93 ?_
   refine tk 2 94 ?_
   refine tk 3 95 ?_
   refine tk 4 96 ?_
   refine tk 5 97 ?_
   refine tk 6 98 ?_
   refine tk 7 99 ?_
   refine tk 8 100 ?_
   refine tk 9 101 ?_
   refine tk 10 102 ?_
   refine tk 12 104 ?_
   refine tk 13 105 ?_
   refine tk 14 106 ?_
   refine tk 15 107 ?_
   refine tk 16 108 ?_
   refine tk 17 109 ?_
   refine wpAnyH_ready (rs:=[11,18]) (by kernel_rfl) (by simp) ?_
   refine AllReadyH.cons (o:=⟨some 103,_,_,_,_,_⟩) rfl (fun K hK=>?_) (AllReadyH.cons (o:=⟨some 110,_,_,_,_,_⟩) rfl (fun K hK=>?_) AllReadyH.nil)
   ·go_simp
    refine hK.out _ _ S0 (fun hHeld=>?_)
    clear hK K
    try simp only [Act.put,List.setIfInBounds_toArray,List.set_cons_zero,List.set_cons_succ]
    refine r1 18 (some 110) fun K hK=>?_
    go_simp
    refine hK.out _ _ S0 (fun hHeld=>?_)
    clear hK K
    try simp only [Act.put,List.setIfInBounds_toArray,List.set_cons_zero,List.set_cons_succ]
    refine tk 19 111 ?_
    refine tk 20 112 ?_
    refine tk 21 113 ?_
    refine tk 22 114 ?_
    refine r1 23 none fun K hK=>?_
    go_simp
    first | refine hK.out _ _ S9.out (fun _=>?_) | refine hK.out _ _ S8.out (fun _=>?_)
    clear hK K
    try simp only [Act.put,List.setIfInBounds_toArray,List.set_cons_zero,List.set_cons_succ]
    refine wpAnyH_done (by kernel_rfl) ?_ _
    go_wp2_with fail
    refine ⟨⟨k+1,by omega,by go_num,by first | exact B4 | exact B5⟩,?_⟩
    simp [intOf]
    omega
   ·go_simp
    refine hK.out _ _ S0 (fun hHeld=>?_)
    clear hK K
    try simp only [Act.put,List.setIfInBounds_toArray,List.set_cons_zero,List.set_cons_succ]
    refine tk 19 111 ?_
    refine tk 20 112 ?_
    refine r1 11 (some 103) fun K hK=>?_
    go_simp
    refine hK.out _ _ S0 (fun hHeld=>?_)
    clear hK K
    try simp only [Act.put,List.setIfInBounds_toArray,List.set_cons_zero,List.set_cons_succ]
    refine tk 21 113 ?_
    refine tk 22 114 ?_
    refine r1 23 none fun K hK=>?_
    go_simp
    first | refine hK.out _ _ S9.out (fun _=>?_) | refine hK.out _ _ S8.out (fun _=>?_)
    clear hK K
    try simp only [Act.put,List.setIfInBounds_toArray,List.set_cons_zero,List.set_cons_succ]
    refine wpAnyH_done (by kernel_rfl) ?_ _
    go_wp2_with fail
    refine ⟨⟨k+1,by omega,by go_num,by first | exact B4 | exact B5⟩,?_⟩
    simp [intOf]
    omega
  ·have e:k=N:=by omega
   have HE:=hid R3
   clear R3 G3
   go_wp2
   go_ret
   refine ⟨rfl,b.S,b.o,D2,U2,F3,trimAll may,Rig.trimmed (by have:=HE.out;rw [e,<- hNN] at this;exact this),HI.out.1,fun j hj=>?_⟩
   have:=(HNE.out j (by omega)).2
   unfold trimAll
   rw [List.length_drop]
   omega
end
theorem info_strs:(Tryz.prog.info? 50).map (fun i=>(i.zero,i.size,i.bytes))=some (some (.slice none 0 0),1,24):=by kernel_rfl
theorem info_bools:(Tryz.prog.info? 4).map (fun i=>(i.zero,i.size,i.bytes))=some (some (.bool false),1,1):=by kernel_rfl
structure Vals (w:World) (g n c:Nat) (l:List Value):Prop where
 len:l.length=n
 le:n<=c
 lt:g<w.heap.size
 there:∀j,j<c->(w.cell? ⟨g,j,none⟩).isSome=true
 free:∀j,j<c->w.frozen? ⟨g,j,none⟩=false
 at_:∀j,j<n->w.cell? ⟨g,j,none⟩=l[j]?
def OVals (w:World) (s:Value) (n:Nat) (l:List Value):Prop:=(s=.slice none 0 0/\n=0/\l=[])\/∃g c,s=.slice (some ⟨g,0,none⟩) n c/\Vals w g n c l
theorem zero_cells_V (z:Value) (k i:Nat) (h:i<k):∃u,(Builtin.zeroCells #[z] k)[i]?=some u:=⟨_,Array.getElem?_eq_getElem (by simp [Builtin.zeroCells];exact h)⟩
set_option maxRecDepth 20000 in
theorem run_append_vals (ty:TypeId) {w:World} {s:Value} {n cc:Nat} {l:List Value} (h:OVals w s n l) {ad:Addr} {x:Value} (hx:w.cell? ad=some x) (h1:x.oneCell'=true) (hn:n<=100000) :
  ∃g' c' w',(Builtin.append_ #[36,36] ty #[s,.slice (some ad) 1 cc]).run Tryz.prog w=.ok (.slice (some ⟨g',0,none⟩) (n+1) c') w'/\Vals w' g' (n+1) c' (l++[x])/\((∃c,s=.slice (some ⟨g',0,none⟩) n c/\w.grownBy w' (some g'))\/(g'=w.heap.size/\Below w.heap.size w w')):=by
 obtain ⟨i,hi,hz,hsz,hby⟩:=info_parts info_strs
 have hadd:ad.add 0=ad:=by unfold Addr.add;simp
 have hs:Src Tryz.prog i.size 36 (.slice (some ad) 1 cc) 1 [x] w:=by
  rw [hsz]
  refine Src.ofSlice w Tryz.underlying36 ad 1 cc _ rfl (fun j u hu=>?_) (fun u hu=>by simp at hu;subst hu;exact h1)
  match j,hu with
  | 0,hu=>rw [hadd,hx];exact hu
 have grow:∀(A0:Option Addr) (cp:Nat),n<=cp->¬n+1<=cp->l.length=n->(Builtin.firstCells i.size n (.slice A0 n cp)).run Tryz.prog w.drew=.ok l.toArray w.drew ->
   ∃g' c' w',(Builtin.append_ #[36,36] ty #[.slice A0 n cp,.slice (some ad) 1 cc]).run Tryz.prog w=.ok (.slice (some ⟨g',0,none⟩) (n+1) c') w'/\Vals w' g' (n+1) c' (l++[x])/\(g'=w.heap.size/\Below w.heap.size w w'):=by
  intro A0 cp h1' h2 hl hold
  obtain rfl:cp=n:=by omega
  have hg:=grownCap_ge w (cp+1) cp 50
  refine ⟨w.heap.size,_,_,run_append_grow_src w _ _ ty _ i _ Tryz.underlying36 hi hz A0 cp cp l hold _ 1 _ hs (by omega) (by omega) (by rw [hby];have:=nextslicecap_le (need:=cp+1) (old:=cp) (by omega);omega),?_,rfl,?_⟩
  ·generalize hG:grownCap w (cp+1) cp 50=G at *
   have hrow:(w.drew.alloc (.cells ((l++[x]).toArray++Builtin.zeroCells (Value.slice none 0 0).cells (G-(cp+1))) 50)).heap[w.heap.size]?=_:=heap_alloc_new w.drew _
   have hlen:(l++[x]).toArray.size=cp+1:=by simp [hl]
   refine ⟨by simp [hl],hg,by simp,fun j hj=>?_,fun j _=>frozen_of_row _ _ _ _ _ hrow,fun j hj=>?_⟩
   ·rw [cell_of_row _ _ j _ _ _ hrow]
    by_cases hjc:j<cp+1
    ·rw [Array.getElem?_append_left (by rw [hlen];exact hjc),List.getElem?_toArray,List.getElem?_eq_getElem (by simp [hl];omega)];rfl
    ·rw [Array.getElem?_append_right (by rw [hlen];omega),hlen]
     obtain ⟨u,hu⟩:=zero_cells_V (.slice none 0 0) (G-(cp+1)) (j-(cp+1)) (by omega)
     exact (congrArg Option.isSome hu).trans rfl
   ·rw [cell_of_row _ _ j _ _ _ hrow,Array.getElem?_append_left (by rw [hlen];exact hj),List.getElem?_toArray]
  ·exact (Below.refl _ _).drew.alloc (Nat.le_refl _) _
 rcases h with ⟨rfl,rfl,rfl⟩ | ⟨g,c,rfl,h⟩
 ·obtain ⟨g',c',w',h1,h2,h3⟩:=grow none 0 (Nat.le_refl _) (by omega) rfl (by rw [hsz];exact run_firstCells_none w.drew 1 0 0 0)
  exact ⟨g',c',w',h1,h2,.inr h3⟩
 ·by_cases hr:n+1<=c
  ·refine ⟨g,c,_,run_append_room_src w _ _ ty _ i Tryz.underlying36 hi g 0 n c _ 1 _ hs hr (fun j hj=>?_) (fun j hj=>?_),?_,.inl ⟨c,rfl,?_⟩⟩
   ·rw [hsz]
    obtain rfl:j=0:=by simpa using hj
    simp only [Nat.mul_one,Nat.zero_add,Nat.add_zero];exact h.there n (by omega)
   ·rw [hsz]
    obtain rfl:j=0:=by simpa using hj
    simp only [Nat.mul_one,Nat.zero_add,Nat.add_zero];exact h.free n (by omega)
   ·rw [hsz]
    have hin:∀j,j<([x]).length->(w.cell? ⟨g,0+n*1+j,none⟩).isSome=true:=fun j hj=>by
     obtain rfl:j=0:=by simpa using hj
     simp only [Nat.mul_one,Nat.zero_add,Nat.add_zero];exact h.there n (by omega)
    refine ⟨by simp [h.len],hr,?_,fun j hj=>World.isSome_setCells _ _ _ _ _ (h.there j hj),fun j hj=>by rw [World.frozen?_setCells];exact h.free j hj,fun j hj=>?_⟩
    ·exact World.block_lt_of_cell? (w.setCells g (0+n*1) [x]) _ (World.cell?_setCells_in g _ _ w hin 0 (by simp))
    ·by_cases e:j=n
     ·subst e
      have:=World.cell?_setCells_in g _ _ w hin 0 (by simp)
      simp only [Nat.mul_one,Nat.zero_add,Nat.add_zero] at this ⊢
      rw [this,<- h.len]
      simp
     ·rw [World.cell?_setCells_out g _ _ w _ (fun _ _=>.inl (by show j<0+n*1;omega)),h.at_ j (by omega),List.getElem?_append_left (by rw [h.len];omega)]
   ·rw [hsz]
    show w.grownBy (w.setCell ⟨g,0+n*1,none⟩ x) (some g)
    have hO:Sh.Only (fun b=>b=g) w (w.setCell ⟨g,0+n*1,none⟩ x):=(Sh.Only.refl (fun b=>b=g) w).setCell (p:=⟨g,0+n*1,none⟩) (.inl rfl) _
    exact ⟨hO.os,hO.tape,hO.output,hO.size,fun k _ hk=>Sh.heap_set_other w ⟨g,0+n*1,none⟩ _ (fun e=>hk (by rw [e]))⟩
  ·have hold:(Builtin.firstCells i.size n (.slice (some ⟨g,0,none⟩) n c)).run Tryz.prog w.drew=.ok l.toArray w.drew:=by
    rw [hsz]
    refine run_firstCells_some w.drew 1 n ⟨g,0,none⟩ n c l (by rw [h.len,Nat.mul_one]) (fun j v hv=>?_)
    have hj:j<l.length:=by
     rcases Nat.lt_or_ge j l.length with h | h
     ·exact h
     ·rw [List.getElem?_eq_none h] at hv;cases hv
    rw [Addr.add_mid,Nat.zero_add]
    exact (h.at_ j (by rw [<- h.len];exact hj)).trans hv
   obtain ⟨g',c',w',h1,h2,h3⟩:=grow (some ⟨g,0,none⟩) c h.le hr h.len hold
   exact ⟨g',c',w',h1,h2,.inr h3⟩
theorem wp_append_vals {o:Oper} {a:Act} {w:World} {K:Act->World->Prop} {Q:Exit->Act->World->Prop} (so x:Operand)
  (ho:o.op=.call { callee:=.builtin .append,args:=#[so,x],argTypes:=#[36,36] })
  {s v:Value} {n cc:Nat} {l:List Value} {ad:Addr} (hs:a.eval so=s) (hx:a.eval x=.slice (some ad) 1 cc) (h:OVals w s n l) (hb:w.cell? ad=some v) (h1:v.oneCell'=true) (hn:n<=100000)
  (hk:∀g' c' w',Vals w' g' (n+1) c' (l++[v])->((∃c,s=.slice (some ⟨g',0,none⟩) n c/\w.grownBy w' (some g'))\/(g'=w.heap.size/\Below w.heap.size w w'))->K (a.put o.dst (.slice (some ⟨g',0,none⟩) (n+1) c')) w'):Oper.wp Tryz.prog o a w K Q:=by
 obtain ⟨g',c',w',hr,h2,h3⟩:=run_append_vals (cc:=cc) o.type h hb h1 hn
 unfold Oper.wp execOp
 simp only [ho,resolve,invoke,builtin,Sem.run_bind,Sem.run_pure,Result.andThen_ok,List.map_toArray,List.map_cons,List.map_nil,hs,hx,hr]
 exact hk g' c' w' h2 h3
def rowB (p v M St L:Nat) (s:Value) (tq:Nat):Array Value:=#[.pointer (some ⟨p,0,none⟩),.pointer (some ⟨v,0,none⟩),.int .i64 M,.int .i64 St,.int .i64 L,s,.bool false,.slice (some ⟨tq,0,none⟩) St St,.bool false]
structure BegI (J:Vk) (w:World) (r tq:Nat) (A:Ar) (S:Sh.Sf) (o:Nat->Int) (F:Nat->Prop) (i:Nat) (s:Value) (g:Nat->Nat):Prop where
 vr:Vr J w A.s o S F noSet noSet
 row:w.heap[r]?=some (.cells (rowB J.p J.v A.M A.St A.L s tq) 39 (0,0))
 low:J.B<=r
 out:¬AllV J F r
 log:∀i,i<J.n->J.gn i≠r
 tqs:Tqs w J.B tq A.St (fun _=>false)
 tqo:¬RG J r F tq
 tab:OVals w s i ((List.range i).map fun j=>.slice (some ⟨g j,0,none⟩) 1 1)
 mid:∀j,j<i->Sh.Mids w (g j) 0 1 1 [Sh.noughts]/\J.B<=g j/\¬RT J r tq F (g j)
 inj:∀j k,j<i->k<i->g j=g k->j=k
 own:∀q n c,s=.slice (some ⟨q,0,none⟩) n c->J.B<=q/\¬RT J r tq F q/\∀j,j<i->g j≠q
section
variable {J:Vk} {w w' w3 w4:World} {r tq i:Nat} {A:Ar} {S:Sh.Sf} {o:Nat->Int} {F:Nat->Prop} {s:Value} {g:Nat->Nat}
theorem OVals.grown {n:Nat} {l:List Value} (h:OVals w s n l) (hb:Below w.heap.size w w'):OVals w' s n l:=by
 rcases h with h | ⟨q,c,e,h⟩
 ·exact .inl h
 ·have hq:=hb.block q h.lt
  exact .inr ⟨q,c,e,h.len,h.le,Nat.lt_of_lt_of_le h.lt hb.size,fun j hj=>by rw [World.cell?_of_block (w:=w) hq];exact h.there j hj,fun j hj=>by rw [World.frozen?_of_block (w:=w) hq];exact h.free j hj,fun j hj=>by rw [World.cell?_of_block (w:=w) hq];exact h.at_ j hj⟩
theorem BegI.grown (h:BegI J w r tq A S o F i s g) (hb:Below w.heap.size w w'):BegI J w' r tq A S o F i s g :=
 ⟨h.vr.grown hb,(hb.block r (Array.getElem?_eq_some_iff.1 h.row).1).trans h.row,h.low,h.out,h.log,h.tqs.kept (hb.block tq h.tqs.lt),h.tqo,h.tab.grown hb,fun j hj=>⟨(h.mid j hj).1.same (hb.block _ (h.mid j hj).1.lt) hb.size,(h.mid j hj).2⟩,h.inj,h.own⟩
theorem BegI.cells (h:BegI J w r tq A S o F i s g):w.cell? ⟨r,5,none⟩=some s/\w.frozen? ⟨r,5,none⟩=false :=
 ⟨cell_of_row _ _ 5 _ _ _ h.row,frozen_of_row _ _ 5 _ _ h.row⟩
theorem BegI.lt (h:BegI J w r tq A S o F i s g):∀b,RG J r F b->b<w.heap.size:=by
 rintro b (e | rfl | ⟨i,hi,rfl⟩)
 ·exact h.vr.lt b e
 ·exact (Array.getElem?_eq_some_iff.1 h.row).1
 ·exact World.block_lt_of_cell? w _ (h.vr.logs.log i hi).c0
theorem range_snoc (i:Nat) (f f':Nat->Value) (h:∀j,j<i->f' j=f j):(List.range (i+1)).map f'=(List.range i).map f++[f' i]:=by
 rw [List.range_succ,List.map_append]
 congr 1
 exact List.map_congr_left fun j hj=>h j (by simpa using hj)
theorem mids_new (w:World) (t:TypeId) (b:Sh.Bs):Sh.Mids (w.alloc (.cells #[Sh.sv b] t)) w.heap.size 0 1 1 [b]:=by
 have hrow:=heap_alloc_new w (.cells #[Sh.sv b] t)
 refine ⟨rfl,Nat.le_refl _,by simp,fun j hj=>?_,fun j _=>frozen_of_row _ _ _ _ _ hrow,fun j hj=>?_⟩
 ·obtain rfl:j=0:=by omega
  rw [cell_of_row _ _ (0+0) _ _ _ hrow];rfl
 ·obtain rfl:j=0:=by omega
  rw [cell_of_row _ _ (0+0) _ _ _ hrow];rfl
theorem mids_grown {w w':World} {g off n c:Nat} {l:List Sh.Bs} (h:Sh.Mids w g off n c l) (hb:Below w.heap.size w w'):Sh.Mids w' g off n c l:=h.same (hb.block _ h.lt) hb.size
theorem wp_make128 {o:Oper} {a:Act} {w:World} {K:Act->World->Prop} {Q:Exit->Act->World->Prop} (l c:Operand) (hop:o.op=Op.makeSlice 41 l c) (hl:a.eval l=.int .i64 128) (hc:a.eval c=.int .i64 128)
  (hK:∀w',w'.ownsRow w.heap.size 5 1 (.slice (some ⟨w.heap.size,0,none⟩) 128 128) 128 (bts Sh.noughts)->Below w.heap.size w w'->K (a.put o.dst (.slice (some ⟨w.heap.size,0,none⟩) 128 128)) w'):Oper.wp Tryz.prog o a w K Q:=by
 obtain ⟨i1,ki,kz0,kz1,kz2⟩:=info_parts (show (Tryz.prog.info? 5).map (fun i=>(i.zero,i.size,i.bytes))=some (some (.int .u8 0),1,1) by kernel_rfl)
 obtain ⟨w',hrun,r1,r2⟩:=run_make_full (P:=Tryz.prog) w w.heap.size 41 5 i1 _ 1 Tryz.underlying41 ki kz0 kz1 .i64 .i64 128 (by rw [kz2];omega) (by unfold maxLen;omega) (Nat.le_refl _)
 have hrun':(Instr.makeSlice 41 (.int .i64 128) (.int .i64 128)).run Tryz.prog w=.ok (.slice (some ⟨w.heap.size,0,none⟩) 128 128) w':=hrun
 unfold Oper.wp
 simp [execOp,hop,hl,hc,hrun',Result.andThen]
 exact hK _ (Sh.noughts_own r1) ((Below.refl _ w).grown r2 (Nat.le_refl _) (fun _ h=>by cases h))
theorem bools_own {w:World} {g base n:Nat} (h:w.ownsRow base 4 1 (.slice (some ⟨g,0,none⟩) n n) n (madeCells (Value.bool false).cells (n*1)).toList):g<w.heap.size/\(∀j,j<n->w.cell? ⟨g,j,none⟩=some (.bool false))/\∀j,j<n->w.frozen? ⟨g,j,none⟩=false:=by
 have e0:(madeCells (Value.bool false).cells (n*1)).toList=List.replicate (n*1) (.bool false):=toList_madeCells_one _ _
 rw [e0] at h
 obtain ⟨h1,h2⟩:=h
 rcases h2 with ⟨e,_⟩ | ⟨g',cap,cur,e,_,hh,h3,h4,h5,h6⟩
 ·cases e
 ·injection e with e1 e2 e3
  injection e1 with e1
  injection e1 with e1
  subst e1
  refine ⟨(Array.getElem?_eq_some_iff.1 hh).1,fun j hj=>?_,fun j _=>frozen_of_row _ _ j _ _ hh⟩
  rw [cell_of_row _ _ j _ _ _ hh,<- Array.getElem?_toList,<- List.getElem?_take_of_lt (show j<n*1 by omega),h6,List.getElem?_replicate,if_pos (by omega)]
theorem make_bools (w:World) (n:Nat) (hn:n<=1000):∃w',(Instr.makeSlice 37 (.int .i64 n) (.int .i64 n)).run Tryz.prog w=.ok (.slice (some ⟨w.heap.size,0,none⟩) n n) w'/\Below w.heap.size w w'/\(w.heap.size<w'.heap.size/\(∀j,j<n->w'.cell? ⟨w.heap.size,j,none⟩=some (.bool false))/\∀j,j<n->w'.frozen? ⟨w.heap.size,j,none⟩=false):=by
 obtain ⟨i1,ki,kz0,kz1,kz2⟩:=info_parts info_bools
 obtain ⟨w',hrun,r1,r2⟩:=run_make_full (P:=Tryz.prog) w w.heap.size 37 4 i1 _ 1 Tryz.underlying37 ki kz0 kz1 .i64 .i64 n (by rw [kz2];omega) (by unfold maxLen;omega) (Nat.le_refl _)
 refine ⟨w',hrun,(Below.refl _ w).grown r2 (Nat.le_refl _) (fun _ h=>by cases h),?_⟩
 exact bools_own r1
theorem BegI.next (h:BegI J w r tq A S o F i s g) {x q' c':Nat} (hb:Below w.heap.size w w3) (hx:w.heap.size<=x) (hm:Sh.Mids w3 x 0 1 1 [Sh.noughts])
  (hv:Vals w4 q' (i+1) c' ((List.range i).map (fun j=>Value.slice (some ⟨g j,0,none⟩) 1 1)++[.slice (some ⟨x,0,none⟩) 1 1]))
  (ha:(∃c,s=.slice (some ⟨q',0,none⟩) i c/\w3.grownBy w4 (some q'))\/(q'=w3.heap.size/\Below w3.heap.size w3 w4)) :
  BegI J (w4.setCell ⟨r,5,none⟩ (.slice (some ⟨q',0,none⟩) (i+1) c')) r tq A S o F (i+1) (.slice (some ⟨q',0,none⟩) (i+1) c') (fun j=>if j=i then x else g j):=by
 have h3:=h.grown hb
 have hlt3:=h3.lt
 have hltw:=h.lt
 have hrlt:=hlt3 r (.inr (.inl rfl))
 have hsz:=h3.vr.size
 -- the table's block
 have hq:¬RT J r tq F q'/\J.B<=q'/\(∀j,j<i->g j≠q')/\x≠q':=by
  rcases ha with ⟨c,e,_⟩ | ⟨e,_⟩
  ·obtain ⟨a1,a2,a3⟩:=h3.own q' i c e
   refine ⟨a2,a1,a3,fun e2=>?_⟩
   rcases h.tab with ⟨e3,_⟩ | ⟨q,c3,e3,hvv⟩
   ·rw [e3] at e;cases e
   ·rw [e3] at e
    injection e with e4 e5 e6
    injection e4 with e4
    injection e4 with e4
    have:=hvv.lt
    omega
  ·refine ⟨fun e2=>?_,by omega,fun j hj e2=>?_,fun e2=>?_⟩
   ·rcases e2 with e2 | e2
    ·have:=hlt3 _ e2;omega
    ·have:=h3.tqs.lt;omega
   ·have:=(h3.mid j hj).1.lt;omega
   ·have:=hm.lt;omega
 have ho4:Sh.Only (fun b=>b=q') w3 w4:=by
  rcases ha with ⟨c,e,hg⟩ | ⟨e,hb4⟩
  ·exact ⟨hg.os,hg.tape,hg.output,hg.size,fun k hk hn=>hg.block k hk (fun e=>hn (by injection e))⟩
  ·exact ⟨hb4.os,hb4.tape,hb4.output,hb4.size,fun k hk hn=>hb4.block k hk⟩
 have ho:Sh.Only (fun b=>b=q'\/b=r) w3 (w4.setCell ⟨r,5,none⟩ (.slice (some ⟨q',0,none⟩) (i+1) c')) :=
  (ho4.mono fun _ e=>.inl e).setCell (p:=⟨r,5,none⟩) (.inl (.inr rfl)) _
 have hrq:r≠q':=fun e=>hq.1 (.inl (.inr (.inl e.symm)))
 have hb5:∀k,k≠r->(w4.setCell ⟨r,5,none⟩ (.slice (some ⟨q',0,none⟩) (i+1) c')).heap[k]?=w4.heap[k]?:=fun k hk=>heap_setCell_other w4 ⟨r,5,none⟩ k _ hk
 have hrow4:=(ho4.block r hrlt hrq).trans h3.row
 have hrow:=heap_setCell_same w4 r 5 _ _ (.slice (some ⟨q',0,none⟩) (i+1) c') hrow4
 have hsz5:w4.heap.size<=(w4.setCell ⟨r,5,none⟩ (.slice (some ⟨q',0,none⟩) (i+1) c')).heap.size:=by simp
 refine ⟨h3.vr.only_tab ho ?_ (h3.vr.bel.trans (ho.below (fun b e=>e.elim (fun e=>e▸hq.2.1) (fun e=>e▸h.low)) hsz)) ?_,hrow,h.low,h.out,h.log,h3.tqs.kept ((hb5 tq fun e=>h.tqo (.inr (.inl e))).trans (ho4.block tq h3.tqs.lt fun e=>hq.1 (.inr e.symm))),h.tqo,?_,fun j hj=>?_,fun j k hj hk e=>?_,fun q n c e=>?_⟩
 ·intro b hb e
  rcases e with rfl | rfl
  ·exact hq.1 (.inl (.inl hb))
  ·exact h.out hb
 ·intro j hj
  refine ho.block _ (hlt3 _ (.inr (.inr ⟨j,hj,rfl⟩))) fun e=>?_
  rcases e with e | e
  ·exact hq.1 (.inl (.inr (.inr ⟨j,hj,e.symm⟩)))
  ·exact h.log j hj e
 ·refine .inr ⟨q',c',rfl,?_⟩
  rw [range_snoc i (fun j=>Value.slice (some ⟨g j,0,none⟩) 1 1) (fun j=>Value.slice (some ⟨if j=i then x else g j,0,none⟩) 1 1) (fun j hj=>by show Value.slice (some ⟨if j=i then x else g j,0,none⟩) 1 1=_;rw [if_neg (by omega)])]
  simp only [if_true]
  have hqb:=hb5 q' (Ne.symm hrq)
  exact ⟨hv.len,hv.le,Nat.lt_of_lt_of_le hv.lt hsz5,fun j hj=>by rw [World.cell?_of_block (w:=w4) hqb];exact hv.there j hj,fun j hj=>by rw [World.frozen?_of_block (w:=w4) hqb];exact hv.free j hj,fun j hj=>by rw [World.cell?_of_block (w:=w4) hqb];exact hv.at_ j hj⟩
 ·by_cases e:j=i
  ·simp only [e,if_true]
   have hxr:¬RT J r tq F x:=fun e2=>by
    rcases e2 with e2 | e2
    ·have:=hltw x e2;omega
    ·have:=h.tqs.lt;omega
   refine ⟨hm.same ?_ (Nat.le_trans ho4.size hsz5),by have:=h.vr.size;omega,hxr⟩
   rw [hb5 x fun e2=>hxr (.inl (.inr (.inl e2)))]
   exact ho4.block x hm.lt hq.2.2.2
  ·simp only [e,if_false]
   obtain ⟨m1,m2,m3⟩:=h3.mid j (by omega)
   refine ⟨m1.same ?_ (Nat.le_trans ho4.size hsz5),m2,m3⟩
   rw [hb5 _ fun e2=>m3 (.inl (.inr (.inl e2)))]
   exact ho4.block _ m1.lt (hq.2.2.1 j (by omega))
 ·have hne:∀j,j<i->g j≠x:=fun j hj e2=>by have:=(h.mid j hj).1.lt;omega
  by_cases e1:j=i<;>by_cases e2:k=i
  ·rw [e1,e2]
  ·simp only [e1,e2,if_true,if_false] at e
   exact absurd e.symm (hne k (by omega))
  ·simp only [e1,e2,if_true,if_false] at e
   exact absurd e (hne j (by omega))
  ·simp only [e1,e2,if_false] at e
   exact h.inj j k (by omega) (by omega) e
 ·injection e with e4 e5 e6
  injection e4 with e4
  injection e4 with e4
  subst e4
  refine ⟨hq.2.1,hq.1,fun j hj=>?_⟩
  by_cases e1:j=i
  ·simp only [e1,if_true];exact hq.2.2.2
  ·simp only [e1,if_false];exact hq.2.2.1 j (by omega)
theorem BegI.rig {m:Nat} (h:BegI J w r tq A S o F i s g) (hi:i=A.St*(A.M-1)) (h0:0<i) (hf:Few S noSet noSet m) (hn:J.n=A.n) (hL:J.L=A.L):Rig J w r A S o noSet noSet F false (fun _=>[Sh.noughts]) m:=by
 subst hi
 rcases h.tab with ⟨_,e,_⟩ | ⟨q,c,e,hv⟩
 ·omega
 ·obtain ⟨o1,o2,o3⟩:=h.own q _ c e
  have hrow:=h.row
  rw [e] at hrow
  have hle:=hv.le
  refine ⟨h.vr,hf,hn,hL,q,c,tq,g,fun _=>0,fun _=>1,hrow,⟨fun k hk=>hk,o1,hv.lt,fun k hk=>hv.there k (by omega),fun k hk=>hv.free k (by omega),fun k hk=>?_,fun k hk=>(h.mid k hk).1,fun k hk=>(h.mid k hk).2.1,fun k hk=>o3 k hk,fun a b ha hb e=>h.inj a b ha hb e,o2,fun k hk=>(h.mid k hk).2.2⟩,h.low,h.out,h.log,h.tqs,h.tqo⟩
  rw [hv.at_ k hk]
  simp [hk]
end
end Go.Proofs.YtgebkmpmnjhceaaGreatDoor.U
