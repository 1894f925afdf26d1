/-
  What the statement's proof rests on, part 40.
  Conditions: each theorem's own.
-/
import Derived.Test.YthhldceidmphfaaGreatDoorZ39
import Derived.Test.YthhldceidmphfaaGreatDoorZ32
import Derived.Test.YthhldceidmphfaaGreatDoorZtk
namespace Go.Proofs.YthhldceidmphfaaGreatDoor.U
open Go.ChangeShapes Go.WideShapes Go.ChangeAt Go.RowKit Go.Maps
section
variable {J:Vk} {w:World} {r m lb:Nat} {A:Ar} {S:Sh.Sf} {o:Nat→Int} {D U:Set0} {F:Nat→Prop} {kd:Bool} {may:Nat→List Sh.Bs} {gh:Gh}
def Stl (J:Vk) (r:Nat) (A:Ar) (D U:Set0) (kd:Bool) (may:Nat→List Sh.Bs) (gh:Gh) (m k:Nat) (wr:World):Prop :=
 ∃S o F,Rig J wr r A S o D U F kd (setTo A gh may k) (m+1000*k)∧Inv A S o gh D U may kd∧S.off=false
set_option maxRecDepth 20000 in
set_option maxHeartbeats 8000000 in
theorem settle_any (h:Rig J w r A S o D U F kd may m) (hi:Inv A S o gh D U may kd) (hon:S.off=false) (hT:Tabs J.W) (hTB:max 1 2+1≤J.B)
  (hN:A.St*(A.M-1)≤1000) (hlb:∀j,j<A.St*(A.M-1)→(may j).length≤lb) (hl:lb≤100000) (hm:m≤400000000) :
  Calls Tryz.prog 23 #[.pointer (some ⟨r,0,none⟩)] w fun e w'=>e=.returned (.bool true)∧Stl J r A D U kd may gh m (A.St*(A.M-1)) w':=by
 have H0:Hid (Stl J r A D U kd may gh m 0 w):=Lib.hid ⟨S,o,F,by rw [setTo_0];exact h,hi,hon⟩
 have HLB:=Lib.hid hlb
 clear h hi hon hlb
 go_enter Tryz.func23,Tryz.ntmps23
 go_wp2
 generalize hNN:A.St*(A.M-1)=N at *
 go_loopw [3] (fun i wr=>∃k:Nat,k≤N∧i=.int .i64 k∧Hid (Stl J r A D U kd may gh m k wr)) (fun i _=>N-(intOf i).toNat)
 case atStart=>exact ⟨0,Nat.zero_le _,rfl,H0⟩
 case round =>
  obtain ⟨k,hk,rfl,hrel⟩:=hrel
  obtain ⟨S1,o1,F1,R1,I1,on1⟩:=hrel.out
  obtain ⟨q,cap,tq,g,off,c,G1⟩:=R1.rg
  have cs:=G1.cells
  rw [hNN] at cs
  obtain ⟨_,c1,_,c5,_,_⟩:=cs
  by_cases hlt:k<N
  ·have q3:(k:Int)<(N:Int):=by omega
   have hF:Fits J.n J.L A.s A.M A.St S1:=by rw [R1.n,R1.L];exact fits_ci I1.ci I1.said
   have HRD:=Lib.hid (vRead_any R1.vr hF hT hTB (k:Int) R1.few.waits (by omega))
   have HK:=Lib.hid (And.intro R1 (And.intro I1 on1))
   clear R1 I1 on1 G1 H0 hrel hF
   go_wp2_with fail
   refine HRD.out.mono ?_
   rintro e w2 ⟨y,A2,len,c2,rfl,X,t,F2,hR,V2,m2,hres⟩
   obtain ⟨R1,I1,on1⟩:=HK.out
   rw [R1.L] at hR
   obtain ⟨rfl,hX,I2,on2⟩:=I1.read on1 (by omega) hR
   have R2:Rig J w2 r A t.S t.o D U F2 kd (setTo A gh may k) (m+1000*(k+1)):=⟨V2,(R1.few.read hR).more (by omega),R1.n,R1.L,R1.rg.moves m2⟩
   rcases hres with ⟨_,rfl,hB,_,_⟩ | ⟨h0,_⟩
   ·obtain ⟨q2,cap2,tq2,g2,off2,cc2,G2⟩:=R2.rg
    have hkm:(setTo A gh may k) k=may k:=by unfold setTo;rw [if_neg (Nat.lt_irrefl k)]
    have k5:=G2.cells.2.2.2.1
    have kq:=G2.may.cells k (by omega)
    have hmid:=G2.may.mid k (by omega)
    have hrlt:=(Array.getElem?_eq_some_iff.1 G2.row).1
    have hqlt:=G2.may.lt
    have hfree:=G2.may.free k (by omega)
    rw [hkm] at kq hmid
    rw [hNN] at k5
    have HLk:=Lib.hid (HLB.out k (by omega))
    have hmem:X∈may k:=by rw [hX];exact (I2.mays k (by omega)).1
    generalize hsv:Sh.strL X=sv at *
    have t1:=fun W' (hb:Below w2.heap.size w2 W')=>conv_bytes (c:=c2) hB hsv W' hb
    have HV:Hid (∃i,i<(may k).length∧(Sh.strL ((may k).getD i [])).toList=sv.toList):=Lib.hid (by
     obtain ⟨i,hi,e⟩:=List.mem_iff_getElem.1 hmem
     exact ⟨i,hi,by rw [← hsv,← e];simp [List.getD,hi]⟩)
    have HR2:=Lib.hid (And.intro R2 (And.intro I2 (And.intro on2 (And.intro G2 (And.intro hX hsv)))))
    have k1:=fun W' (hb:Below w2.heap.size w2 W')=>(hb.cell (p:=⟨r,5,none⟩) hrlt).trans k5
    have k2:=fun W' (hb:Below w2.heap.size w2 W')=>(hb.cell (p:=⟨q2,k,none⟩) hqlt).trans kq
    have HM2:=Lib.hid (fun i (hi:i<(may k).length) W' (hb:Below w2.heap.size w2 W')=>(hb.cell (p:=⟨g2 k,off2 k+i,none⟩) hmid.lt).trans (hmid.at_ i hi))
    clear R1 I1 on1 R2 I2 on2 G2 hX hsv hmem hB V2 m2 hR hkm hmid k5 kq hrlt hqlt HRD HK c1 c5
    generalize may k=l at *
    generalize g2 k=gj at *
    generalize off2 k=offj at *
    generalize cc2 k=cj at *
    go_wp2_with fail
    go_loopw [6,7] (fun s6 s7 wr2=>∃(i:Nat) (b:Bool),i≤l.length∧s6=.bool b∧s7=.int .i64 i∧Hid (Below w2.heap.size w2 wr2∧(b=true∨∀x,x<i→(Sh.strL (l.getD x [])).toList≠sv.toList))) (fun _ i _=>l.length-(intOf i).toNat)
    case atStart=>exact ⟨0,false,Nat.zero_le _,rfl,rfl,Lib.hid ⟨Below.refl _ _,.inr fun x hx=>absurd hx (by omega)⟩⟩
    case round =>
     obtain ⟨i,b,hi,rfl,rfl,hbw⟩:=hrel
     have hbel:=hbw.out.1
     have kA:=k1 wr hbel
     have kB:=k2 wr hbel
     by_cases hli:i<l.length
     ·have q4:(i:Int)<(l.length:Int):=by omega
      have m1:=fun W' (hb:Below wr.heap.size wr W')=>HM2.out i hli W' (Sh.below_on hbel hb)
      have k3:=fun W' (hb:Below wr.heap.size wr W')=>k1 W' (Sh.below_on hbel hb)
      have k4:=fun W' (hb:Below wr.heap.size wr W')=>k2 W' (Sh.below_on hbel hb)
      have t2:=fun W' (hb:Below wr.heap.size wr W')=>t1 W' (Sh.below_on hbel hb)
      have hbd:=Lib.hid (show Below w2.heap.size w2 wr.drew from Sh.below_on hbel ((Below.refl _ _).drew))
      have hno:=Lib.hid hbw.out.2
      unfold Sh.sv at m1
      clear hbw hbel k1 k2 t1
      generalize hyy:Sh.strL (l.getD i [])=sy at *
      have HYY:=Lib.hid hyy
      clear hyy
      obtain ⟨qq,hqq⟩:∃qq,(sy.toList == sv.toList)=qq:=⟨_,rfl⟩
      have HQ:=Lib.hid hqq
      have l18:l.length≤9223372036854775807:=by have:=HLk.out;omega
      cases b with
      | true =>
       go_wp2_with fail
       refine wp_region_held_drew (S:=fun W'=>Below wr.heap.size wr W') (by kernel_rfl) ((Below.refl _ _).drew) (fun hHeld=>?_)
       refine tk 0 40 ?_
       refine tk 1 41 ?_
       refine tu 2 42 ?_
       refine tu 3 43 ?_
       refine tu 4 44 ?_
       refine tu 5 45 ?_
       refine tu 6 46 ?_
       refine tu 7 47 ?_
       refine tu 8 48 ?_
       refine tu 9 49 ?_
       refine tu 10 50 ?_
       refine tu 11 51 ?_
       refine tu 12 52 ?_
       refine tu 13 53 ?_
       refine tu 14 54 ?_
       refine tk 15 55 ?_
       refine tk 16 6 ?_
       refine wpAnyH_done (by kernel_rfl) ?_ _
       go_wp2_with fail
       refine ⟨⟨i+1,true,by omega,rfl,by go_num,Lib.hid ⟨hbd.out,.inl rfl⟩⟩,?_⟩
       simp [intOf]
       omega
      | false =>
       go_wp2_with fail
       refine wp_region_held_drew (S:=fun W'=>Below wr.heap.size wr W') (by kernel_rfl) ((Below.refl _ _).drew) (fun hHeld=>?_)
       refine tk 0 40 ?_
       refine tk 1 41 ?_
       refine tk 2 42 ?_
       refine tk 3 43 ?_
       refine tk 4 44 ?_
       refine tk 5 45 ?_
       refine tk 6 46 ?_
       refine tk 7 47 ?_
       refine tk 8 48 ?_
       refine tk 9 49 ?_
       refine tk 10 50 ?_
       refine tk 11 51 ?_
       refine tk 12 52 ?_
       refine tk 13 53 ?_
       refine tk 14 54 ?_
       refine tk 15 55 ?_
       refine tk 16 6 ?_
       refine wpAnyH_done (by kernel_rfl) ?_ _
       have hnx:=Lib.hid (show qq=true∨∀x,x<i+1→(Sh.strL (l.getD x [])).toList≠sv.toList from by
        cases qq with
        | true=>exact .inl rfl
        | false =>
         refine .inr fun x hx=>?_
         by_cases e:x=i
         ·subst e
          rw [HYY.out]
          have:=HQ.out
          rw [beq_eq_false_iff_ne] at this
          exact this
         ·rcases hno.out with h | h
          ·cases h
          ·exact h x (by omega))
       clear HQ hqq hno HYY
       go_wp2_with fail
       refine ⟨⟨i+1,qq,by omega,rfl,by go_num,Lib.hid ⟨hbd.out,hnx.out⟩⟩,?_⟩
       simp [intOf]
       omega
     ·have hb:b=true:=by
       rcases hbw.out.2 with h | h
       ·exact h
       ·obtain ⟨x,hx,e⟩:=HV.out
        exact absurd e (h x (by omega))
      have hil:i=l.length:=by omega
      have R3:=Lib.hid (HR2.out.1.grown hbel)
      have G3:=Lib.hid (HR2.out.2.2.2.1.grown hbel)
      subst hb
      have kc:=fun W' (hb:Below wr.heap.size wr W')=>k2 W' (Sh.below_on hbel hb)
      have k3:=fun W' (hb:Below wr.heap.size wr W')=>k1 W' (Sh.below_on hbel hb)
      have t2:=fun W' (hb:Below wr.heap.size wr W')=>t1 W' (Sh.below_on hbel hb)
      have hql:=G3.out.may.lt
      have hfr:=G3.out.may.free k (by omega)
      have kf:=fun W' (hb:Below wr.heap.size wr W')=>((World.frozen?_of_block (w:=wr) (a:=⟨q2,k,none⟩) (hb.block q2 hql)).trans hfr)
      have hb8:Below wr.heap.size wr (wr.drew.alloc (.cells #[.string sv] 9)):=(Below.refl _ _).drew.alloc (Nat.le_refl _) _
      have kc8:=kc _ hb8
      have kf8:=kf _ hb8
      have HB8:=Lib.hid hb8
      have hrq:r≠q2:=fun e=>G3.out.may.outq (.inr (.inl e.symm))
      have S0:wr.drew.cell? ⟨r,5,none⟩=some (.slice (some ⟨q2,0,none⟩) N cap2):=k3 _ ((Below.refl _ _).drew)
      have HEQ:Hid (((wr.setCell ⟨q2,k,none⟩ (.slice (some ⟨wr.heap.size,0,none⟩) 1 1)).alloc (.cells #[.string sv] 9)).drew=(wr.drew.alloc (.cells #[.string sv] 9)).setCell ⟨q2,k,none⟩ (.slice (some ⟨wr.heap.size,0,none⟩) 1 1)):=Lib.hid (by go_simp)
      have S8:=Lib.hid (k3 _ hb8)
      have S9:Hid ((((wr.setCell ⟨q2,k,none⟩ (.slice (some ⟨wr.heap.size,0,none⟩) 1 1)).alloc (.cells #[.string sv] 9)).drew).cell? ⟨r,5,none⟩=some (.slice (some ⟨q2,0,none⟩) N cap2)):=Lib.hid (by
       rw [HEQ.out]
       exact (World.cell?_setCell_other _ _ _ _ (fun e=>hrq (congrArg Addr.block e).symm)).trans S8.out)
      have t3:=t2 wr ((Below.refl _ _))
      have t4:=t2 wr.drew ((Below.refl _ _).drew)
      clear t2
      clear hbw hbel k1 k2 t1 hil kf hb8
      go_wp2_with fail
      refine wp_region_held_drew (S:=fun W'=>W'.cell? ⟨r,5,none⟩=some (.slice (some ⟨q2,0,none⟩) N cap2)) (by kernel_rfl) S0 (fun hHeld=>?_)
      refine tk 0 58 ?_
      refine tk 1 59 ?_
      refine tk 2 60 ?_
      refine tk 3 61 ?_
      refine tk 4 62 ?_
      refine tk 5 63 ?_
      refine r1 6 (some 64) fun K hK=>?_
      go_simp
      refine hK.out _ _ S0 (fun _=>?_)
      clear hK K
      try simp only [Act.put,List.setIfInBounds_toArray,List.set_cons_zero,List.set_cons_succ]
      refine r1 7 (some 65) fun K hK=>?_
      go_simp
      refine hK.out _ _ S8.out (fun _=>?_)
      clear hK K
      try simp only [Act.put,List.setIfInBounds_toArray,List.set_cons_zero,List.set_cons_succ]
      refine tk 8 66 ?_
      refine r1 9 none fun K hK=>?_
      go_simp
      refine hK.out _ _ S9.out (fun _=>?_)
      clear hK K
      try simp only [Act.put,List.setIfInBounds_toArray,List.set_cons_zero,List.set_cons_succ]
      refine wpAnyH_done (by kernel_rfl) ?_ _
      have R9:Hid (Rig J ((wr.drew.alloc (.cells #[.string sv] 9)).setCell ⟨q2,k,none⟩ (.slice (some ⟨wr.heap.size,0,none⟩) 1 1)) r A t.S t.o D U F2 kd (setTo A gh may (k+1)) (m+1000*(k+1))):=Lib.hid (by
       obtain ⟨_,_,_,_,hX,hsv⟩:=HR2.out
       have hd:=(Below.refl wr.heap.size wr).drew
       have:=(R3.out.grown hd).fill (G3.out.grown hd) (k:=k) (by omega) X 9
       rw [setTo_succ,← hX]
       unfold Sh.sv at this
       rw [hsv] at this
       exact this)
      have HI:=Lib.hid (And.intro HR2.out.2.1 HR2.out.2.2.1)
      clear HR2 R3 G3
      go_wp2_with fail
      refine ⟨⟨k+1,by omega,by go_num,Lib.hid ⟨t.S,t.o,F2,by rw [HEQ.out];exact R9.out,HI.out.1,HI.out.2⟩⟩,?_⟩
      simp [intOf]
      omega
   ·exact absurd rfl h0
  ·have e:k=N:=by omega
   clear R1 I1 on1 G1 H0 c1
   go_wp2
   go_ret
   exact ⟨rfl,by rw [hNN,← e];exact hrel.out⟩
end
structure RgS (B p v:Nat) (w:World) (r q cap tq:Nat) (A:Ar) (kd:Bool) (may:Nat→List Sh.Bs) (F:Nat→Prop) (g off c:Nat→Nat):Prop where
 row:w.heap[r]?=some (.cells (rigC p v A.M A.St A.L q (A.St*(A.M-1)) cap tq kd) 39 (0,0))
 may:MayIs (A.St*(A.M-1)) w B q (fun b=>F b∨b=r) (fun j=>j<A.St*(A.M-1)) may g off c
 low:B≤r
 out:¬F r
section
variable {J:Vk} {B p v:Nat} {w w':World} {r q cap tq:Nat} {A:Ar} {S S':Sh.Sf} {o o':Nat→Int} {D U:Set0} {F F':Nat→Prop} {kd:Bool} {may:Nat→List Sh.Bs} {m:Nat} {g off c:Nat→Nat}
theorem MayIs.less {N B q:Nat} {G G' P:Nat→Prop} (h:MayIs N w B q G P may g off c) (hG:∀b,G' b→G b):MayIs N w B q G' P may g off c :=
 ⟨h.small,h.low,h.lt,h.there,h.free,h.cells,h.mid,h.glow,h.gne,h.inj,fun e=>h.outq (hG _ e),fun k hk e=>h.outg k hk (hG _ e)⟩
theorem RgIs.side (h:RgIs J w r q cap tq A kd may F g off c):RgS J.B J.p J.v w r q cap tq A kd may F g off c :=
 ⟨h.row,h.may.less fun _ e=>e.elim (fun e=>.inl (.inl (.inl e))) (fun e=>.inr (.inl e)),h.low,fun e=>h.out (.inl (.inl e))⟩
theorem RgS.moves (h:RgS B p v w r q cap tq A kd may F g off c) (m:Sh.Moves F w F' w'):RgS B p v w' r q cap tq A kd may F' g off c:=by
 have hlt:=(Array.getElem?_eq_some_iff.1 h.row).1
 have m2:Sh.Moves (fun b=>F b∨b=r) w (fun b=>F' b∨b=r) w':=⟨⟨m.1.os,m.1.tape,m.1.output,m.1.size,fun k hk hn=>m.1.block k hk fun e=>hn (.inl e)⟩,fun b e=>e.elim (fun e=>(m.2 b e).imp .inl id) (fun e=>.inl (.inr e))⟩
 refine ⟨(m.1.block r hlt h.out).trans h.row,h.may.moves m2,h.low,fun e=>?_⟩
 rcases m.2 r e with e | e
 ·exact h.out e
 ·omega
theorem RgS.cells (h:RgS B p v w r q cap tq A kd may F g off c):w.cell? ⟨r,0,none⟩=some (.pointer (some ⟨p,0,none⟩))∧w.cell? ⟨r,1,none⟩=some (.pointer (some ⟨v,0,none⟩)):=⟨cell_of_row _ _ 0 _ _ _ h.row,cell_of_row _ _ 1 _ _ _ h.row⟩
theorem RgS.opened {n:Nat} (h:RgS J.B J.p v w r q cap tq A kd may F g off c) (hv:Vr J w' A.s o S F' D U) (mv:Sh.Moves F w (AllV J F') w') (hne:∀j,j<A.St*(A.M-1)→may j≠[]) (hN:0<A.St*(A.M-1)) (hn:J.n=n) (hL:J.L=A.L) (hAn:n=A.n) (hf:Few S D U m) :
  Rig J (w'.setCell ⟨r,1,none⟩ (.pointer (some ⟨J.v,0,none⟩))) r A S o D U F' kd may m:=by
 have h1:=h.moves mv
 -- a log's block is none of these
 have lg:∀i,i<J.n→J.gn i≠r∧J.gn i≠q∧∀j,j<A.St*(A.M-1)→J.gn i≠g j:=fun i hi=>by
  have hl:=hv.logs.log i hi
  refine ⟨fun e=>?_,fun e=>?_,fun j hj e=>?_⟩
  ·have e1:=h1.row
   rw [← e] at e1
   have hl:w'.heap[J.gn i]?=_:=hl
   rw [hl] at e1
   injection e1 with e1
   injection e1 with e1
   have e2:(2:Nat)=9:=congrArg Array.size e1
   exact absurd e2 (by decide)
  ·have e1:=h1.may.cells 0 hN
   rw [← e,hl.c0] at e1
   cases e1
  ·have e1:=(h1.may.mid j hj).at_ 0 (Nat.pos_of_ne_zero fun e=>hne j hj (List.eq_nil_of_length_eq_zero e))
   rw [← e,cell_of_row _ _ _ _ _ _ hl] at e1
   match hx:off j+0 with
   | 0=>rw [hx] at e1;cases e1
   | 1=>rw [hx] at e1;cases e1
   | k+2=>rw [hx] at e1;simp at e1
 have hb:∀x,x≠r→(w'.setCell ⟨r,1,none⟩ (.pointer (some ⟨J.v,0,none⟩))).heap[x]?=w'.heap[x]?:=fun x hx=>heap_setCell_other w' ⟨r,1,none⟩ x _ hx
 have ho:Sh.Only (fun b=>b=r) w' (w'.setCell ⟨r,1,none⟩ (.pointer (some ⟨J.v,0,none⟩))):=(Sh.Only.refl (fun b=>b=r) w').setCell (p:=⟨r,1,none⟩) (.inl rfl) _
 have hrow:=heap_setCell_same w' r 1 _ _ (.pointer (some ⟨J.v,0,none⟩)) h1.row
 have hout:¬AllV J F' r:=h1.out
 refine ⟨only_vr hv ho hout h.low fun i hi=>(lg i hi).1,hf,hn.trans hAn,hL,q,cap,tq,g,off,c,⟨hrow,?_,h.low,hout,fun i hi=>(lg i hi).1⟩⟩
 have hm:=h1.may
 have hqr:q≠r:=fun e=>hm.outq (.inr e)
 have hgr:∀j,j<A.St*(A.M-1)→g j≠r:=fun j hj e=>hm.outg j hj (.inr e)
 have hm2:=hm.same (w':=w'.setCell ⟨r,1,none⟩ (.pointer (some ⟨J.v,0,none⟩))) (fun _ e=>e) (hb q hqr) (fun j hj=>hb _ (hgr j hj)) ho.size (G':=fun b=>AllV J F' b∨b=r) (fun b e=>.inl e)
 exact ⟨hm2.small,hm2.low,hm2.lt,hm2.there,hm2.free,hm2.cells,hm2.mid,hm2.glow,hm2.gne,hm2.inj,fun e=>by
  rcases e with e | e | ⟨i,hi,e⟩
  ·exact hm2.outq (.inl e)
  ·exact hm2.outq (.inr e)
  ·exact (lg i hi).2.1 e.symm,fun j hj e=>by
  rcases e with e | e | ⟨i,hi,e⟩
  ·exact hm2.outg j hj (.inl e)
  ·exact hm2.outg j hj (.inr e)
  ·exact (lg i hi).2.2 j hj e.symm⟩
end
section
variable {A:Ar} {S S':Sh.Sf} {o:Nat→Int} {g:Gh} {may:Nat→List Sh.Bs} {kd:Bool} {y:Int} {t:Stt} {m n:Nat}
theorem crash_waits (S:Sh.Sf) (ks:List (List Int)):∀x∈(S.crash ks).disks,x.waits.length≤0:=by
 intro x hx
 obtain ⟨d,hd,rfl⟩:=List.mem_iff_getElem.1 hx
 have hd2:d<S.disks.length:=by rw [← Sh.crash_length S ks];exact hd
 have e:(S.crash ks).disks[d]=(S.crash ks).disks.getD d default:=by simp [List.getD,hd]
 rw [e,Sh.crash_getD S ks hd2]
 exact Nat.le_refl 0
theorem stop_waits {S:Sh.Sf} {m:Nat} (h:∀x∈S.disks,x.waits.length≤m) (n:Int):∀x∈(S.doStop n).disks,x.waits.length≤m:=by
 have:(S.doStop n).disks=S.disks:=by unfold Sh.Sf.doStop;split<;>rfl
 rw [this];exact h
theorem sayO_off (hoff:S.off≠false) (d b:Nat):sayO S d b=none:=sayO_no fun e=>by
 unfold rdY at e
 rw [off_why hoff,if_neg (by decide)] at e
 exact absurd e (by decide)
theorem Rst.asks (h:Rst A S g may kd):(∀d b x,d<A.n→b<2→sayO S d b=some x→SayIs A.n (blk S.sectors) d b x)∧(∀d b x e,d<A.n→b<2→e<A.n→sayO S d b=some x→({ x with disk:=(e:Int) }:Go.Proofs.YthhldceidmphfaaGreatDoor.S.Sup).right=true):=by
 by_cases hon:S.off=false
 ·refine ⟨fun d b x hd hb hx=>h.rest.sayIs h.said hon hd hb hx,fun d b x e hd hb he hx=>?_⟩
  obtain ⟨_,_,rfl⟩:=h.rest.says h.said hon hd hb hx
  exact h.said.right e he
 ·exact ⟨(fun d b x _ _ hx=>by rw [sayO_off hon] at hx;cases hx),(fun d b x e _ _ _ hx=>by rw [sayO_off hon] at hx;cases hx)⟩
theorem RplR.waits {LL M St:Nat} {s:Go.Proofs.YthhldceidmphfaaGreatDoor.S.Sup} {a b:Stt} {U U':Set0} (hn:n≤17) (h8:LL≤8) (h:RplR n LL s M St a U y b U') (hL:∀x∈a.S.disks,x.waits.length≤m):∀x∈b.S.disks,x.waits.length≤m+500:=by
 have h1:n*LL≤17*8:=Nat.mul_le_mul hn h8
 rcases h with ⟨_,hs⟩ | ⟨_,j,k,c,U1,hj,hk,hs,hr⟩
 ·have:=hs.waits hL
  rw [slotsTo_length] at this
  exact waits_more (by omega) this
 ·have:=hr.waits (hs.waits hL)
  rw [slotsTo_length] at this
  have h2:(j+1)*LL≤17*8:=Nat.mul_le_mul (by omega) h8
  rw [Nat.succ_mul] at h2
  exact waits_more (by omega) this
theorem OpenR.waits (hn:n≤17) (h8':S.off=false→(newestOf (sayTo S n 0)).logs.toNat≤8) (h:OpenR n S y t) (hL:∀x∈S.disks,x.waits.length≤m):∀x∈t.S.disks,x.waits.length≤m+2000:=by
 cases h with
 | off _=>exact waits_more (by omega) hL
 | none S1 _ hs _=>exact waits_more (by omega) (waits_same hs hL)
 | agree S1 y b _ hs _ hr _=>exact waits_more (by omega) (hr.waits (a:=⟨S1,fun _=>-1⟩) hn (waits_same hs hL))
 | replay S1 b y t U hon hs _ hr hp _ =>
  have h8:=h8' hon
  exact waits_more (by omega) (RplR.waits hn h8 hp (hr.waits (a:=⟨S1,fun _=>-1⟩) hn (waits_same hs hL)))
 | flush S1 b t U y e D' U' hon hs _ hr hp hf =>
  have h8:=h8' hon
  exact waits_more (by omega) (hf.waits hn h8 (RplR.waits hn h8 hp (hr.waits (a:=⟨S1,fun _=>-1⟩) hn (waits_same hs hL))))
end
structure Akin (A A':Ar):Prop where
 n:A'.n=A.n
 L:A'.L=A.L
 M:A'.M=A.M
 St:A'.St=A.St
def Good (B:Nat) (W:World) (p r:Nat) (A0:Ar) (kd:Bool) (m lb:Nat) (w:World):Prop :=
 ∃(J:Vk) (A:Ar) (S:Sh.Sf) (o:Nat→Int) (g:Gh) (D U:Set0) (F:Nat→Prop) (may:Nat→List Sh.Bs),J.B=B∧J.W=W∧J.p=p∧Akin A0 A∧Rig J w r A S o D U F kd may m∧Inv A S o g D U may kd∧(S.off=false→LastOk A g may)∧(∀j,j<A.St*(A.M-1)→(may j).length≤lb)
section
variable {J:Vk} {w:World} {r m lb:Nat} {A:Ar} {S:Sh.Sf} {o:Nat→Int} {D U:Set0} {F:Nat→Prop} {kd:Bool} {may:Nat→List Sh.Bs} {gh:Gh}
structure Tbl (B:Nat) (W:World):Prop where
 tabs:Tabs W
 tb:max 1 2+1≤B
 wid:Go.Proofs.YthhldceidmphfaaGreatDoor.S.Wid W
 wb:0+1≤B
 flds:Flds W
 fb:4+1≤B
 lay:Go.Proofs.YthhldceidmphfaaGreatDoor.L.Tab W
 pb:3+1≤B
theorem rst_open {B p:Nat} {W w:World} (h:Rst A S gh may kd) (ha:Sh.At B W w p S F) (hT:Tbl B W) (hL:∀k∈S.disks,k.waits.length≤0) :
  Calls Tryz.prog 37 #[.pointer (some ⟨p,0,none⟩)] w (OpenQ B W w p A.n S F):=by
 obtain ⟨a1,a2⟩:=h.asks
 have hf:=h.rest.ci.fit
 exact open_any ha h.rest.ci.len h.rest.ci.n1 h.rest.ci.ar.n17 hT.tabs hT.tb hT.wid hT.wb hT.flds hT.fb hT.lay hT.pb (by omega) a1 a2 hL (Nat.zero_le _)
set_option maxRecDepth 20000 in
set_option maxHeartbeats 8000000 in
theorem crash_plain (h:Rig J w r A S o D U F kd may m) (hi:Inv A S o gh D U may kd) (hB:J.B=J.W.heap.size) (hT:Tbl J.B J.W) (hm:m≤400000000) (hlb:∀j,j<A.St*(A.M-1)→(may j).length≤lb) (hl:lb≤100000) (hlb1:1≤lb) (hN:A.St*(A.M-1)≤1000)
  (B0:Option Addr) (bn bc:Nat) {ks:List (List Int)} (hk:Sh.KeepIs J.W (Sh.Old J.W) B0 bn ks) (hbn:bn≤9223372036854775807) (stop:Int) (hs:stop<0) :
  Calls Tryz.prog 17 #[.pointer (some ⟨r,0,none⟩),.slice B0 bn bc,.int .i64 stop] w fun e w'=>e=.returned (.bool true)∧Good J.B J.W J.p r A kd 2000000 lb w':=by
 obtain ⟨q,cap,tq,g,off,c,G1⟩:=h.rg
 have RS:=G1.side
 obtain ⟨c0,_⟩:=RS.cells
 have HCR:=Lib.hid (Sh.crash_of hB h.vr.vo.ds.on B0 bn bc hk hbn (fun k hk=>by have:=h.few.waits k hk;omega))
 have HRS:=Lib.hid (And.intro RS (And.intro h.vr hi))
 have hs2:decide (stop≥0)=false:=decide_eq_false (by omega)
 clear h hi G1 RS
 go_enter Tryz.func17,Tryz.ntmps17
 go_wp2_with fail
 refine HCR.out.mono ?_
 rintro e w1 ⟨rfl,hleft⟩
 obtain ⟨RS,hv,hi⟩:=HRS.out
 obtain ⟨F1,a1,mv1⟩:=hv.vo.ds.on.left hleft
 have RS1:=RS.moves mv1
 obtain ⟨c1,_⟩:=RS1.cells
 have hrst:=hi.crash ks
 have HOP:=Lib.hid (rst_open hrst a1 hT (crash_waits S ks))
 have HK1:=Lib.hid (And.intro RS1 (And.intro hrst (pw_crash S ks)))
 clear RS hv hi a1 mv1 RS1 hrst hleft HRS HCR c0
 go_wp2_with fail
 refine HOP.out.mono ?_
 rintro e w2 ⟨y,t,hO,hres⟩
 obtain ⟨RS1,hrst,hpw⟩:=HK1.out
 obtain ⟨rfl,hpt,d0,g',hd0,hnw,hinv,hop⟩:=hrst.opens hpw hO
 rcases hres with ⟨h0,_⟩ | ⟨_,J2,F2,rfl,e1,e2,e3,e4,e5,V2,mv2⟩
 ·exact absurd rfl h0
 ·have hw:∀x∈t.S.disks,x.waits.length≤2000:=by
   have:=OpenR.waits (m:=0) hrst.rest.ci.ar.n17 (fun _=>by
    rw [hnw]
    show A.s.logs.toNat≤8
    rw [hrst.said.logs]
    exact hrst.rest.ci.ar.l8) hO (crash_waits S ks)
   exact waits_more (by omega) this
  have hLL:(J2.L:Int)=(A.L:Int):=by
   rw [← e5,hnw]
   exact hrst.said.logs
  rw [hnw] at V2
  have hne:∀j,j<A.St*(A.M-1)→may j≠[]:=fun j hj e=>by
   have:=(hinv.mays j hj).1
   rw [e] at this
   cases this
  have hN0:0<A.St*(A.M-1):=Nat.mul_pos hrst.said.st1 (by have:=hrst.rest.ci.ar.m3;omega)
  have hAk:Akin A (A.as d0):=⟨rfl,rfl,rfl,rfl⟩
  have RS2:RgS J2.B J2.p J.v w1 r q cap tq (A.as d0) kd may F1 g off c:=by
   rw [e1,e3]
   exact ⟨RS1.row,RS1.may,RS1.low,RS1.out⟩
  have R3:=RS2.opened V2 mv2 hne hN0 e4 (show J2.L=A.L by omega) rfl (m:=2000) ⟨hw,⟨tidy_empty,Nat.zero_le _⟩,Nat.zero_le _⟩
  have hrow:=(RS2.moves mv2).row
  have k0:=cell_of_row _ _ 1 _ _ _ hrow
  have kf:=frozen_of_row _ _ 1 _ _ hrow
  have HST:=Lib.hid (settle_any R3 hinv hpt.1 (by rw [e2];exact hT.tabs) (by rw [e1];exact hT.tb) hN hlb hl (by omega))
  have HE:=Lib.hid (And.intro e1 (And.intro e2 (And.intro e3 hAk)))
  have HI:=Lib.hid (And.intro hinv hop)
  clear RS1 hrst hpw hpt hnw hinv hop hO mv2 V2 hw hLL hne hN0 hAk RS2 R3 hrow HOP HK1 c1
  go_wp2_with fail
  refine HST.out.mono ?_
  rintro e w4 ⟨rfl,S4,o4,F4,R4,I4,on4⟩
  have HF:=Lib.hid (And.intro R4 (And.intro I4 on4))
  clear R4 I4 on4 HST k0 kf
  go_wp2
  go_ret
  obtain ⟨R4,I4,on4⟩:=HF.out
  obtain ⟨e1,e2,e3,hAk⟩:=HE.out
  obtain ⟨I5,L5⟩:=settled I4 HI.out.2
  refine ⟨rfl,J2,A.as d0,S4,o4,g',noSet,noSet,F4,_,e1,e2,e3,hAk,⟨R4.vr,R4.few.more ?_,R4.n,R4.L,R4.rg⟩,I5,fun _=>L5,fun j hj=>?_⟩
  ·have:(A.as d0).St*((A.as d0).M-1)≤1000:=hN
   omega
  ·unfold setTo
   rw [if_pos hj]
   exact hlb1
end
section
variable {J:Vk} {w:World} {r m lb:Nat} {A:Ar} {S:Sh.Sf} {o:Nat→Int} {D U:Set0} {F:Nat→Prop} {kd:Bool} {may:Nat→List Sh.Bs} {gh:Gh}
end
def Octs (w:World) (b:Nat):Prop:=∃cs t,w.heap[b]?=some (.cells cs t (0,0))∧∀(i:Nat) (v:Value),cs[i]?=some v→∃z,v=Value.int .u8 z
theorem octs_own {w:World} {base b:Nat} {l:List Nat} (h:w.ownsRow base 5 1 (.slice (some ⟨b,0,none⟩) 128 128) 128 (bts l)):Octs w b:=by
 rcases h.2 with ⟨h,_⟩ | ⟨g,cap,cur,h,_,hh,hnc,hm,hs,ht⟩
 ·cases h
 ·injection h with h1 h2 h3
  injection h1 with h1
  injection h1 with h1
  subst h1
  refine ⟨_,_,hh,fun i v hv=>?_⟩
  have hc:cap=128:=by omega
  subst hc
  have hi:i<128:=by
   have:=(Array.getElem?_eq_some_iff.1 hv).1
   omega
  have h2:(bts l)[i]?=some v:=by
   rw [← ht,List.getElem?_take,if_pos (by omega)]
   rw [← Array.getElem?_toList] at hv
   exact hv
  unfold bts at h2
  rw [List.getElem?_map] at h2
  cases hx:l[i]? with
  | none=>rw [hx] at h2;cases h2
  | some x=>rw [hx] at h2;injection h2 with h2;exact ⟨_,h2.symm⟩
theorem Octs.cell {w:World} {b i:Nat} {v:Value} (h:Octs w b) (hv:w.cell? ⟨b,i,none⟩=some v):∃z,v=Value.int .u8 z:=by
 obtain ⟨cs,t,h1,h2⟩:=h
 rw [cell_of_row _ _ i _ _ _ h1] at hv
 exact h2 i v hv
section
variable {J:Vk} {w w':World} {r m sb:Nat} {A:Ar} {S:Sh.Sf} {o:Nat→Int} {D U:Set0} {F:Nat→Prop} {kd:Bool} {may:Nat→List Sh.Bs} {q cap tq:Nat} {g off c:Nat→Nat}
theorem RgIs.aside (hr:RgIs J w r q cap tq A kd may F g off c) (hv:Vr J w A.s o S F D U) (hs:Octs w sb) (hne:∀j,j<A.St*(A.M-1)→may j≠[]) (hN:0<A.St*(A.M-1)):sb≠r∧sb≠q∧(∀j,j<A.St*(A.M-1)→sb≠g j)∧∀i,i<J.n→J.gn i≠sb:=by
 refine ⟨fun e=>?_,fun e=>?_,fun j hj e=>?_,fun i hi e=>?_⟩
 ·obtain ⟨z,hz⟩:=hs.cell (e▸hr.cells.1)
  cases hz
 ·obtain ⟨z,hz⟩:=hs.cell (e▸hr.may.cells 0 hN)
  cases hz
 ·have:=(hr.may.mid j hj).at_ 0 (Nat.pos_of_ne_zero fun e=>hne j hj (List.eq_nil_of_length_eq_zero e))
  obtain ⟨z,hz⟩:=hs.cell (e▸this)
  cases hz
 ·obtain ⟨z,hz⟩:=hs.cell (e▸(hv.logs.log i hi).c0)
  cases hz
theorem Rig.poke (h:Rig J w r A S o D U F kd may m) (hnv:¬AllV J F sb) (hlow:J.B≤sb) (hs:Octs w sb) (hne:∀j,j<A.St*(A.M-1)→may j≠[]) (hN:0<A.St*(A.M-1)) (i:Nat) (v:Value):Rig J (w.setCell ⟨sb,i,none⟩ v) r A S o D U F kd may m:=by
 obtain ⟨q,cap,tq,g,off,c,hr⟩:=h.rg
 obtain ⟨a1,a2,a3,a4⟩:=hr.aside h.vr hs hne hN
 have ho:Sh.Only (fun b=>b=sb) w (w.setCell ⟨sb,i,none⟩ v):=(Sh.Only.refl (fun b=>b=sb) w).setCell (p:=⟨sb,i,none⟩) (.inl rfl) _
 have hb:∀x,x≠sb→(w.setCell ⟨sb,i,none⟩ v).heap[x]?=w.heap[x]?:=fun x hx=>heap_setCell_other w ⟨sb,i,none⟩ x _ hx
 exact ⟨only_vr h.vr ho hnv hlow a4,h.few,h.n,h.L,q,cap,tq,g,off,c,(hb r (Ne.symm a1)).trans hr.row,hr.may.same (fun _ e=>e) (hb q (Ne.symm a2)) (fun j hj=>hb _ (Ne.symm (a3 j hj))) ho.size (fun b e=>.inl e),hr.low,hr.out,hr.log⟩
theorem Rig.append {k g' off' c':Nat} {b:Sh.Bs} (h:Rig J w r A S o D U F kd may m) (hr:RgIs J w r q cap tq A kd may F g off c) (hk:k<A.St*(A.M-1)) (hg:w.grownBy w' (some (g k))) (hm:Sh.Mids w' g' off' ((may k).length+1) c' (may k++[b])) (ho:g'=g k∨g'=w.heap.size) :
  Rig J (w'.setCell ⟨q,k,none⟩ (.slice (some ⟨g',off',none⟩) ((may k).length+1) c')) r A S o D U F kd (pushM may k b) m:=by
 have hO:Sh.Only (fun x=>x=q∨x=g k) w w':=⟨hg.os,hg.tape,hg.output,hg.size,fun x hx hn=>hg.block x hx (fun e=>hn (.inr (by injection e)))⟩
 have hO2:Sh.Only (fun x=>x=q∨x=g k) w (w'.setCell ⟨q,k,none⟩ (.slice (some ⟨g',off',none⟩) ((may k).length+1) c')):=hO.setCell (p:=⟨q,k,none⟩) (.inl (.inl rfl)) _
 refine h.table hr hO2 (fun x e=>e.imp id fun e=>⟨k,hk,e⟩) ?_
 exact hr.may.append hk hg hm ho h.vr.size (rg_lt h.vr hr)
end
section
variable {J:Vk} {w:World} {r m lb:Nat} {A:Ar} {S:Sh.Sf} {o:Nat→Int} {D U:Set0} {F:Nat→Prop} {kd:Bool} {may:Nat→List Sh.Bs} {gh:Gh}
theorem sec3 (b:Nat) (hb:b<256):∃z:Nat,z<256∧(bts (Sh.secOf b))[3]?=some (.int .u8 z):=by
 have hl:=(Sh.secOf_sec hb).1
 have hs:=(Sh.secOf_sec hb).2
 refine ⟨(Sh.secOf b)[3]'(by omega),hs _ (List.getElem_mem _),?_⟩
 unfold bts
 rw [List.getElem?_map,List.getElem?_eq_getElem (by omega)]
 rfl
set_option maxRecDepth 20000 in
set_option maxHeartbeats 8000000 in
theorem rigWrite_no (h:Rig J w r A S o D U F kd may m) (hi:Inv A S o gh D U may kd) (hlast:S.off=false→LastOk A gh may) (hlb:∀j,j<A.St*(A.M-1)→(may j).length≤lb) (hT:Tbl J.B J.W) (hm:m≤400000000) (n:Int) (hn1:-9223372036854775808≤n) (hn2:n≤9223372036854775807) (x:Nat) (hx:x<256)
  (hno:¬(0≤n∧n<((A.St*(A.M-1):Nat):Int))∨S.off=true) :
  Calls Tryz.prog 45 #[.pointer (some ⟨r,0,none⟩),.int .i64 n,.int .u8 x] w fun e w'=>e=.returned (.bool true)∧Good J.B J.W J.p r A kd (m+1000) lb w':=by
 have hp:J.p=J.p:=rfl
 have HH:=Lib.hid (And.intro h (And.intro hi (And.intro hlast hlb)))
 clear h hi hlast hlb
 go_enter Tryz.func45,Tryz.ntmps45
 go_wp2_with fail
 refine (Sh.sector_any w x hx).mono ?_
 rintro e w1 ⟨rfl,ho1,hb1⟩
 have R1:=HH.out.1.grown hb1
 obtain ⟨q,cap,tq,g,off,c,G1⟩:=R1.rg
 obtain ⟨c0,c1,_,c5,_,_⟩:=G1.cells
 have HOF:=Lib.hid (by
  obtain ⟨D0,gs,qq⟩:=R1.vr.vo.ds.on.shelf
  exact Sh.off_any qq)
 have hF:Fits J.n J.L A.s A.M A.St S:=HH.out.1.fits HH.out.2.1
 have hlt:=HH.out.1.vr.lt
 have HWR:=Lib.hid (vWrite_any (x:=Sh.secOf x) (A:=some ⟨w.heap.size,0,none⟩) (c:=128) R1.vr hF hT.tabs hT.tb hT.flds hT.fb n (Sh.secOf_sec hx) ⟨Sh.Reads.of_own ho1,fun a ha e=>by
  injection ha with ha
  subst ha
  exact Nat.lt_irrefl _ (hlt _ e)⟩ R1.few.waits R1.few.opens.2 R1.few.used (by omega))
 have hsz:w.heap.size<w1.heap.size:=by
  obtain ⟨cs,t,hh,_⟩:=octs_own ho1
  exact (Array.getElem?_eq_some_iff.1 hh).1
 obtain ⟨z,hz,hz3⟩:=sec3 x hx
 have k3:=Sh.cell_at ho1 (j:=3) hz3
 have kf:w1.frozen? ⟨w.heap.size,3,none⟩=false:=by
  obtain ⟨cs,t,hh,_⟩:=octs_own ho1
  exact frozen_of_row _ _ 3 _ _ hh
 have hnv:¬AllV J F w.heap.size:=fun e=>Nat.lt_irrefl _ (hlt _ e)
 have HFIN:Hid (∀(w2:World) (F2:Nat→Prop),Vr J w2 A.s o S F2 D U→Sh.Moves (AllV J F) w1 (AllV J F2) w2→∀v,Good J.B J.W J.p r A kd (m+1000) lb (w2.setCell ⟨w.heap.size,3,none⟩ v)):=Lib.hid fun w2 F2 V2 m2 v=>by
  obtain ⟨h,hi,hlast,hlb⟩:=HH.out
  have hb2:=m2.1.block _ hsz hnv
  obtain ⟨cs,t,hh,hcs⟩:=octs_own ho1
  have R2:Rig J w2 r A S o D U F2 kd may (m+1000):=⟨V2,h.few.more (by omega),h.n,h.L,R1.rg.moves m2⟩
  refine ⟨J,A,S,o,gh,D,U,F2,may,rfl,rfl,rfl,⟨rfl,rfl,rfl,rfl⟩,R2.poke (fun e=>?_) h.vr.size ⟨cs,t,hb2.trans hh,hcs⟩ (fun j hj e=>?_) (Nat.mul_pos hi.said.st1 (by have:=hi.ci.ar.m3;omega)) 3 v,hi,hlast,hlb⟩
  ·rcases m2.2 _ e with e | e
   ·exact hnv e
   ·omega
  ·have:=(hi.mays j hj).1
   rw [e] at this
   cases this
 by_cases hr:0≤n∧n<((A.St*(A.M-1):Nat):Int)
 ·have hoff:S.off=true:=hno.elim (fun e=>absurd hr e) id
  have q1:decide (n≥0)=true:=decide_eq_true (by omega)
  have q2:decide (n<((A.St*(A.M-1):Nat):Int))=true:=decide_eq_true (by omega)
  rw [hoff] at HOF
  clear hF R1 G1 ho1
  go_wp2_with (go_at_call 44;refine HOF.out.mono ?_;rintro e w' ⟨rfl,rfl⟩)
  refine HWR.out.mono ?_
  rintro e w2 ⟨y,rfl,e2,D2,U2,hW,F2,V2,m2⟩
  obtain ⟨rfl,rfl,rfl,rfl⟩:=write_off (by rw [hoff];simp) hr hW
  have hb2:=m2.1.block _ hsz hnv
  have l3:=(World.cell?_of_block (w:=w1) (a:=⟨w.heap.size,3,none⟩) hb2).trans k3
  have lf:=(World.frozen?_of_block (w:=w1) (a:=⟨w.heap.size,3,none⟩) hb2).trans kf
  have HG:=Lib.hid (HFIN.out w2 F2 V2 m2)
  have hnv2:¬AllV J F2 w.heap.size:=fun e=>by
   rcases m2.2 _ e with e | e
   ·exact hnv e
   ·omega
  have HOF3:Hid (∀v,Calls Tryz.prog 44 #[.pointer (some ⟨J.p,0,none⟩)] (w2.setCell ⟨w.heap.size,3,none⟩ v) fun e w'=>e=.returned (.bool true)∧w2.setCell ⟨w.heap.size,3,none⟩ v=w'):=Lib.hid fun v=>by
   have ho:Sh.Only (fun b=>b=w.heap.size) w2 (w2.setCell ⟨w.heap.size,3,none⟩ v):=(Sh.Only.refl (fun b=>b=w.heap.size) w2).setCell (p:=⟨w.heap.size,3,none⟩) (.inl rfl) _
   obtain ⟨D0,gs,qq⟩:=V2.vo.ds.on.shelf.only ho (fun b hb e=>hnv2 (e▸.inl (.inl hb)))
   have:=Sh.off_any qq
   rw [hoff] at this
   exact this
  have hrlt:=(Array.getElem?_eq_some_iff.1 (HH.out.1.rg.choose_spec.choose_spec.choose_spec.choose_spec.choose_spec.choose_spec.row)).1
  have hrs:(r=w.heap.size)=False:=by simp;omega
  have hrs2:(w.heap.size=r)=False:=by simp;omega
  have j0:w2.cell? ⟨r,0,none⟩=some (.pointer (some ⟨J.p,0,none⟩)):=by
   have hr1:r<w1.heap.size:=Nat.lt_trans hrlt hsz
   have hro:¬AllV J F r:=HH.out.1.rg.choose_spec.choose_spec.choose_spec.choose_spec.choose_spec.choose_spec.out
   exact (World.cell?_of_block (w:=w1) (a:=⟨r,0,none⟩) (m2.1.block r hr1 hro)).trans c0
  clear k3 kf HWR HOF c0 c1 c5 V2 m2 hrlt
  go_wp2_with (go_at_call 44;refine (HOF3.out _).mono ?_;rintro e w' ⟨rfl,rfl⟩)
  go_ret
  exact ⟨rfl,HG.out _⟩
 ·by_cases h0:n<0
  ·have q1:decide (n≥0)=false:=decide_eq_false (by omega)
   clear hF R1 G1 ho1
   go_wp2_with (go_at_call 44;refine HOF.out.mono ?_;rintro e w' ⟨rfl,rfl⟩)
   refine HWR.out.mono ?_
   rintro e w2 ⟨y,rfl,e2,D2,U2,hW,F2,V2,m2⟩
   obtain ⟨rfl,rfl,rfl,rfl⟩:=write_out hr hW
   have hb2:=m2.1.block _ hsz hnv
   have l3:=(World.cell?_of_block (w:=w1) (a:=⟨w.heap.size,3,none⟩) hb2).trans k3
   have lf:=(World.frozen?_of_block (w:=w1) (a:=⟨w.heap.size,3,none⟩) hb2).trans kf
   have HG:=Lib.hid (HFIN.out w2 F2 V2 m2)
   clear k3 kf HWR HOF c0 c1 c5 V2 m2
   go_wp2
   go_ret
   exact ⟨rfl,HG.out _⟩
  ·have q1:decide (n≥0)=true:=decide_eq_true (by omega)
   have q2:decide (n<((A.St*(A.M-1):Nat):Int))=false:=decide_eq_false (by omega)
   clear hF R1 G1 ho1
   go_wp2_with (go_at_call 44;refine HOF.out.mono ?_;rintro e w' ⟨rfl,rfl⟩)
   refine HWR.out.mono ?_
   rintro e w2 ⟨y,rfl,e2,D2,U2,hW,F2,V2,m2⟩
   obtain ⟨rfl,rfl,rfl,rfl⟩:=write_out hr hW
   have hb2:=m2.1.block _ hsz hnv
   have l3:=(World.cell?_of_block (w:=w1) (a:=⟨w.heap.size,3,none⟩) hb2).trans k3
   have lf:=(World.frozen?_of_block (w:=w1) (a:=⟨w.heap.size,3,none⟩) hb2).trans kf
   have HG:=Lib.hid (HFIN.out w2 F2 V2 m2)
   clear k3 kf HWR HOF c0 c1 c5 V2 m2
   go_wp2
   go_ret
   exact ⟨rfl,HG.out _⟩
end
theorem wp_append_mids {o:Oper} {a:Act} {w:World} {K:Act→World→Prop} {Q:Exit→Act→World→Prop} (s x:Operand)
  (ho:o.op=.call { callee:=.builtin .append,args:=#[s,x],argTypes:=#[52,52] })
  {g off n c cc:Nat} {b:Sh.Bs} {l:List Sh.Bs} {ad:Addr} (hs:a.eval s=.slice (some ⟨g,off,none⟩) n c) (hx:a.eval x=.slice (some ad) 1 cc) (h:Sh.Mids w g off n c l) (hb:w.cell? ad=some (Sh.sv b)) (hn:n≤100000)
  (hk:∀g' off' c' w',Sh.Mids w' g' off' (n+1) c' (l++[b])→w.grownBy w' (some g)→(g'=g∨g'=w.heap.size)→K (a.put o.dst (.slice (some ⟨g',off',none⟩) (n+1) c')) w'):Oper.wp Tryz.prog o a w K Q:=by
 obtain ⟨g',off',c',w',hr,h2,h3,h4⟩:=Sh.run_append_mids (cc:=cc) o.type h hb hn
 unfold Oper.wp execOp
 simp only [ho,resolve,invoke,builtin,Sem.run_bind,Sem.run_pure,Result.andThen_ok,List.map_toArray,List.map_cons,List.map_nil,hs,hx,hr]
 exact hk g' off' c' w' h2 h3 h4
section
variable {J:Vk} {w:World} {r m lb:Nat} {A:Ar} {S:Sh.Sf} {o:Nat→Int} {D U:Set0} {F:Nat→Prop} {kd:Bool} {may:Nat→List Sh.Bs} {gh:Gh}
set_option maxRecDepth 20000 in
set_option maxHeartbeats 8000000 in
theorem rigWrite_on (h:Rig J w r A S o D U F kd may m) (hi:Inv A S o gh D U may kd) (hlast:S.off=false→LastOk A gh may) (hlb:∀j,j<A.St*(A.M-1)→(may j).length≤lb) (hl:lb≤50000) (hT:Tbl J.B J.W) (hm:m≤400000000) (k:Nat) (hk:k<A.St*(A.M-1)) (hN:A.St*(A.M-1)≤1000) (x:Nat) (hx:x<256) (hon:S.off=false) :
  Calls Tryz.prog 45 #[.pointer (some ⟨r,0,none⟩),.int .i64 k,.int .u8 x] w fun e w'=>e=.returned (.bool true)∧Good J.B J.W J.p r A kd (m+1000) (lb+1) w':=by
 have HH:=Lib.hid (And.intro h (And.intro hi (And.intro hlast hlb)))
 clear h hi hlast hlb
 go_enter Tryz.func45,Tryz.ntmps45
 go_wp2_with fail
 refine (Sh.sector_any w x hx).mono ?_
 rintro e w1 ⟨rfl,ho1,hb1⟩
 have R1:=HH.out.1.grown hb1
 obtain ⟨q,cap,tq,g,off,c,G1⟩:=R1.rg
 obtain ⟨c0,c1,_,c5,_,_⟩:=G1.cells
 have HOF:=Lib.hid (by
  obtain ⟨D0,gs,qq⟩:=R1.vr.vo.ds.on.shelf
  exact Sh.off_any qq)
 rw [hon] at HOF
 have hlt:=HH.out.1.vr.lt
 have hsz:w.heap.size<w1.heap.size:=by
  obtain ⟨cs,t,hh,_⟩:=octs_own ho1
  exact (Array.getElem?_eq_some_iff.1 hh).1
 have hrl:=(Array.getElem?_eq_some_iff.1 G1.row).1
 have q1:decide ((k:Int)≥0)=true:=decide_eq_true (by omega)
 have q2:decide ((k:Int)<((A.St*(A.M-1):Nat):Int))=true:=decide_eq_true (by omega)
 have q3:(k:Int)<((A.St*(A.M-1):Nat):Int):=by omega
 have kq:=G1.may.cells k hk
 have hql:=G1.may.lt
 generalize hsn:Sh.strL (Sh.secOf x)=sn
 have hb8:Below w1.heap.size w1 (w1.drew.alloc (.cells #[.string sn] 9)):=(Below.refl _ _).drew.alloc (Nat.le_refl _) _
 have kq8:=(hb8.cell (p:=⟨q,k,none⟩) hql).trans kq
 have G8:=Lib.hid (G1.grown hb8)
 have R8:=Lib.hid (R1.grown hb8)
 have X0:Hid ((w1.drew.alloc (.cells #[.string sn] 9)).cell? ⟨w1.heap.size,0,none⟩=some (Sh.sv (Sh.secOf x))):=Lib.hid (by
  unfold Sh.sv
  rw [hsn]
  exact cell_of_row _ _ 0 _ _ _ (heap_alloc_new w1.drew _))
 have hl5:(may k).length≤100000:=by have:=HH.out.2.2.2 k hk;omega
 have hho:=Lib.hid ho1
 generalize hsb:w.heap.size=sb at *
 have k5:=fun (W':World) (hS:W'.heap[r]?=w1.heap[r]?∧W'.heap[sb]?=w1.heap[sb]?)=>(World.cell?_of_block (w:=w1) (a:=⟨r,5,none⟩) hS.1).trans c5
 have t2:=fun (W':World) (hS:W'.heap[r]?=w1.heap[r]?∧W'.heap[sb]?=w1.heap[sb]?)=>Sh.conv_own (q:=sb) (Sh.same_row ho1 (fun y hy=>by injection hy with hy;rw [← hy];exact hS.2)) hsn W' (Below.refl _ _)
 have S8:Hid ((w1.drew.alloc (.cells #[.string sn] 9)).heap[r]?=w1.heap[r]?∧(w1.drew.alloc (.cells #[.string sn] 9)).heap[sb]?=w1.heap[sb]?):=Lib.hid ⟨hb8.block r hrl,hb8.block sb hsz⟩
 have HAS:=Lib.hid (G8.out.aside R8.out.vr (sb:=sb) (by
  obtain ⟨cs,ty,hh,hcs⟩:=octs_own hho.out
  exact ⟨cs,ty,S8.out.2.trans hh,hcs⟩) (fun j hj e=>by
   have:=(HH.out.2.1.mays j hj).1
   rw [e] at this
   cases this) (by omega))
 have HRQ:Hid (r≠g k∧r≠q∧q≠g k):=Lib.hid ⟨fun e=>G8.out.may.outg k hk (.inr (.inl e.symm)),fun e=>G8.out.may.outq (.inr (.inl e.symm)),fun e=>G8.out.may.gne k hk e.symm⟩
 have HS12:Hid (∀w12,World.grownBy (w1.drew.alloc (.cells #[.string sn] 9)) w12 (some (g k))→(w12.heap[r]?=w1.heap[r]?∧w12.heap[sb]?=w1.heap[sb]?)∧w12.heap[q]?=(w1.drew.alloc (.cells #[.string sn] 9)).heap[q]?):=Lib.hid fun w12 hg=>by
  have z1:=(Array.getElem?_eq_some_iff.1 G8.out.row).1
  have z2:=Nat.lt_of_lt_of_le hsz (show w1.heap.size≤(w1.drew.alloc (.cells #[.string sn] 9)).heap.size by simp)
  exact ⟨⟨(hg.block r z1 (fun e=>HRQ.out.1 (by injection e))).trans S8.out.1,(hg.block sb z2 (fun e=>HAS.out.2.2.1 k hk (by injection e))).trans S8.out.2⟩,hg.block q G8.out.may.lt (fun e=>HRQ.out.2.2 (by injection e))⟩
 have hnv:¬AllV J F sb:=fun e=>by have:=hlt _ e;omega
 clear R1 G1 ho1 hb8
 go_wp2_with (go_at_call 44;refine HOF.out.mono ?_;rintro e w' ⟨rfl,rfl⟩)
 refine wp_region_held_drew (S:=fun W'=>W'.heap[r]?=w1.heap[r]?∧W'.heap[sb]?=w1.heap[sb]?) (by kernel_rfl) ⟨rfl,rfl⟩ (fun hHeld=>?_)
 refine tk 0 34 ?_
 refine tk 1 35 ?_
 refine tk 2 36 ?_
 refine tk 3 37 ?_
 refine tk 4 38 ?_
 refine tk 5 39 ?_
 refine tk 6 40 ?_
 refine tk 7 41 ?_
 refine tk 8 42 ?_
 refine tk 9 43 ?_
 refine tk 10 44 ?_
 refine tk 12 46 ?_
 refine tk 13 47 ?_
 refine wpAnyH_ready (rs:=[11,14]) (by kernel_rfl) (by simp) ?_
 refine (AllReadyH.cons (o:=⟨some 45,_,_,_,_,_⟩) rfl (fun K hK=>?_) (AllReadyH.cons (o:=⟨some 48,_,_,_,_,_⟩) rfl (fun K hK=>?_) AllReadyH.nil))
 ·go_simp
  refine hK.out _ _ ⟨rfl,rfl⟩ (fun _=>?_)
  clear hK K
  try simp only [Act.put,List.setIfInBounds_toArray,List.set_cons_zero,List.set_cons_succ]
  refine r1 14 (some 48) fun K hK=>?_
  go_simp
  refine hK.out _ _ S8.out (fun _=>?_)
  clear hK K
  try simp only [Act.put,List.setIfInBounds_toArray,List.set_cons_zero,List.set_cons_succ]
  refine r1 15 (some 49) fun K hK=>?_
  rw [if_pos (by rfl)]
  refine wp_append_mids (.tmp 45) (.tmp 48) rfl (g:=g k) (off:=off k) (n:=(may k).length) (c:=c k) (cc:=1) (b:=Sh.secOf x) (l:=may k) (ad:=⟨w1.heap.size,0,none⟩) rfl rfl (G8.out.may.mid k hk) X0.out hl5 (fun g2 off2 c2 w12 hm12 hg12 ho12=>?_)
  obtain ⟨s12,b12⟩:=HS12.out w12 hg12
  refine hK.out _ _ s12 (fun _=>?_)
  clear hK K
  try simp only [Act.put,List.setIfInBounds_toArray,List.set_cons_zero,List.set_cons_succ]
  refine tk 16 50 ?_
  have kc:=(World.cell?_of_block (a:=⟨q,k,none⟩) b12).trans (G8.out.may.cells k hk)
  have kf:=(World.frozen?_of_block (a:=⟨q,k,none⟩) b12).trans (G8.out.may.free k hk)
  have R13:=R8.out.append G8.out hk hg12 hm12 ho12
  have S13:((w12.setCell ⟨q,k,none⟩ (.slice (some ⟨g2,off2,none⟩) ((may k).length+1) c2)).heap[r]?=w1.heap[r]?∧(w12.setCell ⟨q,k,none⟩ (.slice (some ⟨g2,off2,none⟩) ((may k).length+1) c2)).heap[sb]?=w1.heap[sb]?) :=
   ⟨(heap_setCell_other _ ⟨q,k,none⟩ r _ HRQ.out.2.1).trans s12.1,(heap_setCell_other _ ⟨q,k,none⟩ sb _ HAS.out.2.1).trans s12.2⟩
  refine r1 17 none fun K hK=>?_
  go_simp
  refine hK.out _ _ S13 (fun _=>?_)
  clear hK K
  try simp only [Act.put,List.setIfInBounds_toArray,List.set_cons_zero,List.set_cons_succ]
  refine wpAnyH_done (by kernel_rfl) ?_ _
  have hsz13:w1.heap.size≤(w12.setCell ⟨q,k,none⟩ (.slice (some ⟨g2,off2,none⟩) ((may k).length+1) c2)).heap.size:=by
   have:=hg12.size
   simp at this ⊢
   omega
  generalize w12.setCell ⟨q,k,none⟩ (.slice (some ⟨g2,off2,none⟩) ((may k).length+1) c2)=w13 at *
  have j0:=(World.cell?_of_block (w:=w1) (a:=⟨r,0,none⟩) S13.1).trans c0
  have j1:=(World.cell?_of_block (w:=w1) (a:=⟨r,1,none⟩) S13.1).trans c1
  have ho13:=Sh.same_row hho.out (w':=w13) (fun y hy=>by injection hy with hy;rw [← hy];exact S13.2)
  obtain ⟨h,hi,hlast,hlb⟩:=HH.out
  have hF:Fits J.n J.L A.s A.M A.St S:=h.fits hi
  have HWR:=Lib.hid (vWrite_any (x:=Sh.secOf x) (A:=some ⟨sb,0,none⟩) (c:=128) R13.vr hF hT.tabs hT.tb hT.flds hT.fb (k:Int) (Sh.secOf_sec hx) ⟨Sh.Reads.of_own ho13,fun a ha e=>by
   injection ha with ha
   subst ha
   exact hnv e⟩ R13.few.waits R13.few.opens.2 R13.few.used (by omega))
  obtain ⟨z,hz,hz3⟩:=sec3 x hx
  have k3:=Sh.cell_at ho13 (j:=3) hz3
  have kf3:w13.frozen? ⟨sb,3,none⟩=false:=by
   obtain ⟨cs,ty,hh,_⟩:=octs_own ho13
   exact frozen_of_row _ _ 3 _ _ hh
  have HR13:=Lib.hid (And.intro R13 (And.intro S13 (octs_own ho13)))
  have hs13:sb<w13.heap.size:=by omega
  have hr13:r<w13.heap.size:=by omega
  clear h hi hlast hlb hF kc kf R13 S13 ho13 s12 b12 hg12 hm12 ho12 k5 t2 c0 c1 c5 kq kq8
  go_wp2_with fail
  refine HWR.out.mono ?_
  rintro e w2 ⟨y,rfl,e2,D2,U2,hW,F2,V2,m2⟩
  obtain ⟨h,hi,hlast,hlb⟩:=HH.out
  obtain ⟨R13,S13,hoc⟩:=HR13.out
  have hfw:=R13.few.write R13.vr.used (by rw [h.n];exact hi.ci.ar.n17) (by rw [h.L];exact hi.ci.ar.l8) hW
  rw [h.n,h.L] at hW
  obtain ⟨g',inv',hcase⟩:=hi.write (hlast hon) hon (isMap_set R13.vr.opens) (isMap_set R13.vr.used) hk (Sh.secOf_sec hx) hW
  have hb2:=m2.1.block _ hs13 hnv
  have l3:=(World.cell?_of_block (w:=w13) (a:=⟨sb,3,none⟩) hb2).trans k3
  have lf:=(World.frozen?_of_block (w:=w13) (a:=⟨sb,3,none⟩) hb2).trans kf3
  have hro:¬AllV J F r:=G8.out.out
  have l0:=(World.cell?_of_block (w:=w13) (a:=⟨r,0,none⟩) (m2.1.block r hr13 hro)).trans j0
  have hnv2:¬AllV J F2 sb:=fun e=>by
   rcases m2.2 _ e with e | e
   ·exact hnv e
   ·omega
  have HG:Hid (∀v,Good J.B J.W J.p r A kd (m+1000) (lb+1) (w2.setCell ⟨sb,3,none⟩ v)):=Lib.hid fun v=>by
   obtain ⟨cs,ty,hh,hcs⟩:=hoc
   have R2:Rig J w2 r A e2.S e2.o D2 U2 F2 kd (pushM may k (Sh.secOf x)) (m+1000):=⟨V2,hfw,h.n,h.L,R13.rg.moves m2⟩
   refine ⟨J,A,e2.S,e2.o,g',D2,U2,F2,_,rfl,rfl,rfl,⟨rfl,rfl,rfl,rfl⟩,R2.poke hnv2 (by have:=h.vr.size;omega) ⟨cs,ty,hb2.trans hh,hcs⟩ (fun j hj e=>?_) (by omega) 3 v,inv',fun ho=>?_,fun j hj=>?_⟩
   ·have:=(inv'.mays j hj).1
    rw [e] at this
    cases this
   ·rcases hcase with ⟨_,e⟩ | ⟨_,e⟩
    ·exact e ho
    ·exact absurd ho e
   ·have:=hlb j hj
    unfold pushM
    split
    ·simp;omega
    ·omega
  have HOF3:Hid (∀v,Calls Tryz.prog 44 #[.pointer (some ⟨J.p,0,none⟩)] (w2.setCell ⟨sb,3,none⟩ v) fun e w'=>e=.returned (.bool e2.S.off)∧w2.setCell ⟨sb,3,none⟩ v=w'):=Lib.hid fun v=>by
   have ho:Sh.Only (fun b=>b=sb) w2 (w2.setCell ⟨sb,3,none⟩ v):=(Sh.Only.refl (fun b=>b=sb) w2).setCell (p:=⟨sb,3,none⟩) (.inl rfl) _
   obtain ⟨D0,gs,qq⟩:=V2.vo.ds.on.shelf.only ho (fun b hb e=>hnv2 (e▸.inl (.inl hb)))
   exact Sh.off_any qq
  have hrs:(r=sb)=False:=eq_false (Ne.symm HAS.out.1)
  have hrs2:(sb=r)=False:=eq_false HAS.out.1
  have hc2:y=0∨(y=3∧e2.S.off=true):=hcase.imp And.left fun e=>⟨e.1,by simpa using e.2⟩
  clear h hi hlast hlb R13 S13 hoc hfw hW hcase hb2 hnv2 V2 m2 k3 kf3 HWR inv' j0 j1 HR13
  rcases hc2 with rfl | ⟨rfl,hof⟩
  ·go_wp2
   go_ret
   exact ⟨rfl,HG.out _⟩
  ·rw [hof] at HOF3
   go_wp2_with (go_at_call 44;refine (HOF3.out _).mono ?_;rintro e w' ⟨rfl,rfl⟩)
   go_ret
   exact ⟨rfl,HG.out _⟩
 ·go_simp
  refine hK.out _ _ S8.out (fun _=>?_)
  clear hK K
  try simp only [Act.put,List.setIfInBounds_toArray,List.set_cons_zero,List.set_cons_succ]
  refine r1 11 (some 45) fun K hK=>?_
  go_simp
  refine hK.out _ _ S8.out (fun _=>?_)
  clear hK K
  try simp only [Act.put,List.setIfInBounds_toArray,List.set_cons_zero,List.set_cons_succ]
  refine r1 15 (some 49) fun K hK=>?_
  rw [if_pos (by rfl)]
  refine wp_append_mids (.tmp 45) (.tmp 48) rfl (g:=g k) (off:=off k) (n:=(may k).length) (c:=c k) (cc:=1) (b:=Sh.secOf x) (l:=may k) (ad:=⟨w1.heap.size,0,none⟩) rfl rfl (G8.out.may.mid k hk) X0.out hl5 (fun g2 off2 c2 w12 hm12 hg12 ho12=>?_)
  obtain ⟨s12,b12⟩:=HS12.out w12 hg12
  refine hK.out _ _ s12 (fun _=>?_)
  clear hK K
  try simp only [Act.put,List.setIfInBounds_toArray,List.set_cons_zero,List.set_cons_succ]
  refine tk 16 50 ?_
  have kc:=(World.cell?_of_block (a:=⟨q,k,none⟩) b12).trans (G8.out.may.cells k hk)
  have kf:=(World.frozen?_of_block (a:=⟨q,k,none⟩) b12).trans (G8.out.may.free k hk)
  have R13:=R8.out.append G8.out hk hg12 hm12 ho12
  have S13:((w12.setCell ⟨q,k,none⟩ (.slice (some ⟨g2,off2,none⟩) ((may k).length+1) c2)).heap[r]?=w1.heap[r]?∧(w12.setCell ⟨q,k,none⟩ (.slice (some ⟨g2,off2,none⟩) ((may k).length+1) c2)).heap[sb]?=w1.heap[sb]?) :=
   ⟨(heap_setCell_other _ ⟨q,k,none⟩ r _ HRQ.out.2.1).trans s12.1,(heap_setCell_other _ ⟨q,k,none⟩ sb _ HAS.out.2.1).trans s12.2⟩
  refine r1 17 none fun K hK=>?_
  go_simp
  refine hK.out _ _ S13 (fun _=>?_)
  clear hK K
  try simp only [Act.put,List.setIfInBounds_toArray,List.set_cons_zero,List.set_cons_succ]
  refine wpAnyH_done (by kernel_rfl) ?_ _
  have hsz13:w1.heap.size≤(w12.setCell ⟨q,k,none⟩ (.slice (some ⟨g2,off2,none⟩) ((may k).length+1) c2)).heap.size:=by
   have:=hg12.size
   simp at this ⊢
   omega
  generalize w12.setCell ⟨q,k,none⟩ (.slice (some ⟨g2,off2,none⟩) ((may k).length+1) c2)=w13 at *
  have j0:=(World.cell?_of_block (w:=w1) (a:=⟨r,0,none⟩) S13.1).trans c0
  have j1:=(World.cell?_of_block (w:=w1) (a:=⟨r,1,none⟩) S13.1).trans c1
  have ho13:=Sh.same_row hho.out (w':=w13) (fun y hy=>by injection hy with hy;rw [← hy];exact S13.2)
  obtain ⟨h,hi,hlast,hlb⟩:=HH.out
  have hF:Fits J.n J.L A.s A.M A.St S:=h.fits hi
  have HWR:=Lib.hid (vWrite_any (x:=Sh.secOf x) (A:=some ⟨sb,0,none⟩) (c:=128) R13.vr hF hT.tabs hT.tb hT.flds hT.fb (k:Int) (Sh.secOf_sec hx) ⟨Sh.Reads.of_own ho13,fun a ha e=>by
   injection ha with ha
   subst ha
   exact hnv e⟩ R13.few.waits R13.few.opens.2 R13.few.used (by omega))
  obtain ⟨z,hz,hz3⟩:=sec3 x hx
  have k3:=Sh.cell_at ho13 (j:=3) hz3
  have kf3:w13.frozen? ⟨sb,3,none⟩=false:=by
   obtain ⟨cs,ty,hh,_⟩:=octs_own ho13
   exact frozen_of_row _ _ 3 _ _ hh
  have HR13:=Lib.hid (And.intro R13 (And.intro S13 (octs_own ho13)))
  have hs13:sb<w13.heap.size:=by omega
  have hr13:r<w13.heap.size:=by omega
  clear h hi hlast hlb hF kc kf R13 S13 ho13 s12 b12 hg12 hm12 ho12 k5 t2 c0 c1 c5 kq kq8
  go_wp2_with fail
  refine HWR.out.mono ?_
  rintro e w2 ⟨y,rfl,e2,D2,U2,hW,F2,V2,m2⟩
  obtain ⟨h,hi,hlast,hlb⟩:=HH.out
  obtain ⟨R13,S13,hoc⟩:=HR13.out
  have hfw:=R13.few.write R13.vr.used (by rw [h.n];exact hi.ci.ar.n17) (by rw [h.L];exact hi.ci.ar.l8) hW
  rw [h.n,h.L] at hW
  obtain ⟨g',inv',hcase⟩:=hi.write (hlast hon) hon (isMap_set R13.vr.opens) (isMap_set R13.vr.used) hk (Sh.secOf_sec hx) hW
  have hb2:=m2.1.block _ hs13 hnv
  have l3:=(World.cell?_of_block (w:=w13) (a:=⟨sb,3,none⟩) hb2).trans k3
  have lf:=(World.frozen?_of_block (w:=w13) (a:=⟨sb,3,none⟩) hb2).trans kf3
  have hro:¬AllV J F r:=G8.out.out
  have l0:=(World.cell?_of_block (w:=w13) (a:=⟨r,0,none⟩) (m2.1.block r hr13 hro)).trans j0
  have hnv2:¬AllV J F2 sb:=fun e=>by
   rcases m2.2 _ e with e | e
   ·exact hnv e
   ·omega
  have HG:Hid (∀v,Good J.B J.W J.p r A kd (m+1000) (lb+1) (w2.setCell ⟨sb,3,none⟩ v)):=Lib.hid fun v=>by
   obtain ⟨cs,ty,hh,hcs⟩:=hoc
   have R2:Rig J w2 r A e2.S e2.o D2 U2 F2 kd (pushM may k (Sh.secOf x)) (m+1000):=⟨V2,hfw,h.n,h.L,R13.rg.moves m2⟩
   refine ⟨J,A,e2.S,e2.o,g',D2,U2,F2,_,rfl,rfl,rfl,⟨rfl,rfl,rfl,rfl⟩,R2.poke hnv2 (by have:=h.vr.size;omega) ⟨cs,ty,hb2.trans hh,hcs⟩ (fun j hj e=>?_) (by omega) 3 v,inv',fun ho=>?_,fun j hj=>?_⟩
   ·have:=(inv'.mays j hj).1
    rw [e] at this
    cases this
   ·rcases hcase with ⟨_,e⟩ | ⟨_,e⟩
    ·exact e ho
    ·exact absurd ho e
   ·have:=hlb j hj
    unfold pushM
    split
    ·simp;omega
    ·omega
  have HOF3:Hid (∀v,Calls Tryz.prog 44 #[.pointer (some ⟨J.p,0,none⟩)] (w2.setCell ⟨sb,3,none⟩ v) fun e w'=>e=.returned (.bool e2.S.off)∧w2.setCell ⟨sb,3,none⟩ v=w'):=Lib.hid fun v=>by
   have ho:Sh.Only (fun b=>b=sb) w2 (w2.setCell ⟨sb,3,none⟩ v):=(Sh.Only.refl (fun b=>b=sb) w2).setCell (p:=⟨sb,3,none⟩) (.inl rfl) _
   obtain ⟨D0,gs,qq⟩:=V2.vo.ds.on.shelf.only ho (fun b hb e=>hnv2 (e▸.inl (.inl hb)))
   exact Sh.off_any qq
  have hrs:(r=sb)=False:=eq_false (Ne.symm HAS.out.1)
  have hrs2:(sb=r)=False:=eq_false HAS.out.1
  have hc2:y=0∨(y=3∧e2.S.off=true):=hcase.imp And.left fun e=>⟨e.1,by simpa using e.2⟩
  clear h hi hlast hlb R13 S13 hoc hfw hW hcase hb2 hnv2 V2 m2 k3 kf3 HWR inv' j0 j1 HR13
  rcases hc2 with rfl | ⟨rfl,hof⟩
  ·go_wp2
   go_ret
   exact ⟨rfl,HG.out _⟩
  ·rw [hof] at HOF3
   go_wp2_with (go_at_call 44;refine (HOF3.out _).mono ?_;rintro e w' ⟨rfl,rfl⟩)
   go_ret
   exact ⟨rfl,HG.out _⟩
end
def opV (v:Sh.Op8):Value:=.agg #[.int .i64 v.kind,.int .i64 v.n,.int .i64 v.at_,.int .u8 (v.x:Int),.slice v.A v.m v.c]
section
variable {J:Vk} {w:World} {r m lb:Nat} {A:Ar} {S:Sh.Sf} {o:Nat→Int} {D U:Set0} {F:Nat→Prop} {kd:Bool} {may:Nat→List Sh.Bs} {gh:Gh}
theorem op_cells {w:World} {b:Nat} {x0 x1 x2 x3 x4:Value} {t:TypeId} (h:w.heap[b]?=some (.cells #[x0,x1,x2,x3,x4] t (0,0))) :
  w.cell? ⟨b,0,none⟩=some x0∧w.cell? ⟨b,1,none⟩=some x1∧w.cell? ⟨b,2,none⟩=some x2∧w.cell? ⟨b,3,none⟩=some x3∧w.cell? ⟨b,4,none⟩=some x4 :=
 ⟨cell_of_row _ _ 0 _ _ _ h,cell_of_row _ _ 1 _ _ _ h,cell_of_row _ _ 2 _ _ _ h,cell_of_row _ _ 3 _ _ _ h,cell_of_row _ _ 4 _ _ _ h⟩
theorem Good.more {B:Nat} {W:World} {p:Nat} {A0:Ar} {a b l l':Nat} (hab:a≤b) (hl:l≤l') (h:Good B W p r A0 kd a l w):Good B W p r A0 kd b l' w:=by
 obtain ⟨J,A,S,o,g,D,U,F,may,e1,e2,e3,e4,e5,e6,e7,e8⟩:=h
 exact ⟨J,A,S,o,g,D,U,F,may,e1,e2,e3,e4,⟨e5.vr,e5.few.more hab,e5.n,e5.L,e5.rg⟩,e6,e7,fun j hj=>Nat.le_trans (e8 j hj) hl⟩
theorem rigWrite_any (h:Rig J w r A S o D U F kd may m) (hi:Inv A S o gh D U may kd) (hlast:S.off=false→LastOk A gh may) (hlb:∀j,j<A.St*(A.M-1)→(may j).length≤lb) (hl:lb≤50000) (hT:Tbl J.B J.W) (hm:m≤400000000) (hN:A.St*(A.M-1)≤1000) (n:Int) (hn1:-9223372036854775808≤n) (hn2:n≤9223372036854775807) (x:Nat) (hx:x<256) :
  Calls Tryz.prog 45 #[.pointer (some ⟨r,0,none⟩),.int .i64 n,.int .u8 x] w fun e w'=>e=.returned (.bool true)∧Good J.B J.W J.p r A kd (m+1000) (lb+1) w':=by
 by_cases hr:0≤n∧n<((A.St*(A.M-1):Nat):Int)
 ·cases hon:S.off with
  | true=>exact (rigWrite_no h hi hlast hlb hT hm n hn1 hn2 x hx (.inr hon)).mono fun _ _ e=>⟨e.1,e.2.more (Nat.le_refl _) (by omega)⟩
  | false =>
   obtain ⟨k,rfl⟩:∃k:Nat,n=(k:Int):=⟨n.toNat,by omega⟩
   exact rigWrite_on h hi hlast hlb hl hT hm k (by omega) hN x hx hon
 ·exact (rigWrite_no h hi hlast hlb hT hm n hn1 hn2 x hx (.inl hr)).mono fun _ _ e=>⟨e.1,e.2.more (Nat.le_refl _) (by omega)⟩
set_option maxRecDepth 20000 in
set_option maxHeartbeats 4000000 in
theorem do_write (h:Rig J w r A S o D U F kd may m) (hi:Inv A S o gh D U may kd) (hlast:S.off=false→LastOk A gh may) (hlb:∀j,j<A.St*(A.M-1)→(may j).length≤lb) (hl:lb≤50000) (hT:Tbl J.B J.W) (hm:m≤400000000) (hN:A.St*(A.M-1)≤1000) (v:Sh.Op8) (hk:v.kind=2) (hn:Sh.I64 v.n) (hx:v.x<256) :
  Calls Tryz.prog 16 #[.pointer (some ⟨r,0,none⟩),opV v] w fun e w'=>e=.returned (.bool true)∧Good J.B J.W J.p r A kd (m+1000) (lb+1) w':=by
 have hb0:Below w.heap.size w (w.alloc (.cells #[.int .i64 v.kind,.int .i64 v.n,.int .i64 v.at_,.int .u8 (v.x:Int),.slice v.A v.m v.c] 31)):=(Below.refl _ _).alloc (Nat.le_refl _) _
 obtain ⟨k0,k1,k2,k3,k4⟩:=op_cells (heap_alloc_new w (.cells #[.int .i64 v.kind,.int .i64 v.n,.int .i64 v.at_,.int .u8 (v.x:Int),.slice v.A v.m v.c] 31))
 have HWR:=Lib.hid (rigWrite_any (h.grown hb0) hi hlast hlb hl hT hm hN v.n hn.1 hn.2 v.x hx)
 unfold opV
 obtain ⟨kind,n,at_,x,vA,vm,vc,ks⟩:=v
 simp only at hk hn hx k0 k1 k2 k3 k4 HWR hb0 ⊢
 subst hk
 clear h hi hlast hlb
 go_enter Tryz.func16,Tryz.ntmps16
 go_wp2_with fail
 refine HWR.out.mono ?_
 rintro e w1 ⟨rfl,hg⟩
 have HG:=Lib.hid hg
 clear hg HWR k0 k1 k2 k3 k4
 go_wp2
 go_ret
 exact ⟨rfl,HG.out⟩
end
section
variable {J:Vk} {w:World} {r m lb:Nat} {A:Ar} {S:Sh.Sf} {o:Nat→Int} {D U:Set0} {F:Nat→Prop} {kd:Bool} {may:Nat→List Sh.Bs} {gh:Gh}
set_option maxRecDepth 20000 in
set_option maxHeartbeats 4000000 in
theorem do_crash (h:Rig J w r A S o D U F kd may m) (hi:Inv A S o gh D U may kd) (hlb:∀j,j<A.St*(A.M-1)→(may j).length≤lb) (hl:lb≤50000) (hlb1:1≤lb) (hB:J.B=J.W.heap.size) (hT:Tbl J.B J.W) (hm:m≤400000000) (hN:A.St*(A.M-1)≤1000) (v:Sh.Op8) (hk:v.kind=5) (hkp:Sh.KeepIs J.W (Sh.Old J.W) v.A v.m v.ks) (hm9:v.m≤9223372036854775807) :
  Calls Tryz.prog 16 #[.pointer (some ⟨r,0,none⟩),opV v] w fun e w'=>e=.returned (.bool true)∧Good J.B J.W J.p r A kd 2000000 lb w':=by
 have hb0:Below w.heap.size w (w.alloc (.cells #[.int .i64 v.kind,.int .i64 v.n,.int .i64 v.at_,.int .u8 (v.x:Int),.slice v.A v.m v.c] 31)):=(Below.refl _ _).alloc (Nat.le_refl _) _
 obtain ⟨k0,k1,k2,k3,k4⟩:=op_cells (heap_alloc_new w (.cells #[.int .i64 v.kind,.int .i64 v.n,.int .i64 v.at_,.int .u8 (v.x:Int),.slice v.A v.m v.c] 31))
 have HWR:=Lib.hid (crash_plain (h.grown hb0) hi hB hT hm hlb (by omega) hlb1 hN v.A v.m v.c hkp hm9 (-1) (by decide))
 unfold opV
 obtain ⟨kind,n,at_,x,vA,vm,vc,ks⟩:=v
 simp only at hk hkp hm9 k0 k1 k2 k3 k4 HWR hb0 ⊢
 subst hk
 clear h hi hlb
 go_enter Tryz.func16,Tryz.ntmps16
 go_wp2_with fail
 refine HWR.out.mono ?_
 rintro e w1 ⟨rfl,hg⟩
 have HG:=Lib.hid hg
 clear hg HWR k0 k1 k2 k3 k4
 go_wp2
 go_ret
 exact ⟨rfl,HG.out⟩
set_option maxRecDepth 20000 in
set_option maxHeartbeats 4000000 in
theorem do_stop (h:Rig J w r A S o D U F kd may m) (hi:Inv A S o gh D U may kd) (hlast:S.off=false→LastOk A gh may) (hlb:∀j,j<A.St*(A.M-1)→(may j).length≤lb) (v:Sh.Op8) (hk:v.kind=4) (hn:Sh.I64 v.n) :
  Calls Tryz.prog 16 #[.pointer (some ⟨r,0,none⟩),opV v] w fun e w'=>e=.returned (.bool true)∧Good J.B J.W J.p r A kd m lb w':=by
 have hb0:Below w.heap.size w (w.alloc (.cells #[.int .i64 v.kind,.int .i64 v.n,.int .i64 v.at_,.int .u8 (v.x:Int),.slice v.A v.m v.c] 31)):=(Below.refl _ _).alloc (Nat.le_refl _) _
 obtain ⟨k0,k1,k2,k3,k4⟩:=op_cells (heap_alloc_new w (.cells #[.int .i64 v.kind,.int .i64 v.n,.int .i64 v.at_,.int .u8 (v.x:Int),.slice v.A v.m v.c] 31))
 have R1:=h.grown hb0
 obtain ⟨q,cap,tq,g,off,c,G1⟩:=R1.rg
 obtain ⟨c0,_⟩:=G1.cells
 have HSP:=Lib.hid (Sh.stop_any (w.alloc (.cells #[.int .i64 v.kind,.int .i64 v.n,.int .i64 v.at_,.int .u8 (v.x:Int),.slice v.A v.m v.c] 31)).drew J.p v.n hn.1 hn.2 (R1.vr.grown (w':=(w.alloc (.cells #[.int .i64 v.kind,.int .i64 v.n,.int .i64 v.at_,.int .u8 (v.x:Int),.slice v.A v.m v.c] 31)).drew) ((Below.refl _ _).drew)).vo.ds.on.shelf)
 have HR1:=Lib.hid (R1.grown (w':=(w.alloc (.cells #[.int .i64 v.kind,.int .i64 v.n,.int .i64 v.at_,.int .u8 (v.x:Int),.slice v.A v.m v.c] 31)).drew) ((Below.refl _ _).drew))
 have HI:=Lib.hid (And.intro hi (And.intro hlast hlb))
 clear R1 G1
 unfold opV
 obtain ⟨kind,n,at_,x,vA,vm,vc,ks⟩:=v
 simp only at hk hn k0 k1 k2 k3 k4 HSP HR1 c0 hb0 ⊢
 subst hk
 clear h hi hlast hlb
 go_enter Tryz.func16,Tryz.ntmps16
 go_wp2_with fail
 go_region_with (go_at_call 28;refine HSP.out.mono ?_;rintro e w1 ⟨rfl,hsh,hon⟩)
 all_goals
  have HE:Hid (Good J.B J.W J.p r A kd m lb w1):=Lib.hid (by
   obtain ⟨hi,hlast,hlb⟩:=HI.out
   have hR:=HR1.out
   have hG:=hR.vr.goesV (hR.vr.vo.goes (hR.vr.vo.ds.left ⟨F,hsh,hon,fun b e=>.inl e⟩))
   obtain ⟨F',R2⟩:=hR.goes (a:=m) hG ⟨stop_waits hR.few.waits n,hR.few.opens,hR.few.used⟩
   exact ⟨J,A,S.doStop n,o,gh,D,U,F',may,rfl,rfl,rfl,⟨rfl,rfl,rfl,rfl⟩,R2,hi.stop n,fun e=>hlast (stop_on e),hlb⟩)
  clear hsh hon
  go_wp2
  go_ret
  exact ⟨rfl,HE.out⟩
end
section
variable {J:Vk} {w:World} {r m lb:Nat} {A:Ar} {S:Sh.Sf} {o:Nat→Int} {D U:Set0} {F:Nat→Prop} {kd:Bool} {may:Nat→List Sh.Bs} {gh:Gh}
end
end Go.Proofs.YthhldceidmphfaaGreatDoor.U
