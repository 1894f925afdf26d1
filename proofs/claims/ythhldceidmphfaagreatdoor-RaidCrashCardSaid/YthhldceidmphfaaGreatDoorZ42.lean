/-
  What the statement's proof rests on, part 42.
  Conditions: each theorem's own.
-/
import Derived.Test.YthhldceidmphfaaGreatDoorZ41
import Derived.Test.YthhldceidmphfaaGreatDoorZtk
namespace Go.Proofs.YthhldceidmphfaaGreatDoor.U
open Go.ChangeShapes Go.WideShapes Go.ChangeAt Go.RowKit Go.Maps
section
theorem begun {J:Vk} {w:World} {r M St L n:Nat} {S:Sh.Sf} {o:Nat→Int} {F:Nat→Prop} (h:Rig J w r (arOf (newSaid M St L) n L M St) S o noSet noSet F false (fun _=>[Sh.noughts]) 100) (hb:Born S n 40 M St L o) (m3:3≤M) (m16:M≤16) (s1:1≤St) (s2:St≤1024) (l1:1≤L) (l2:L≤8) (hn:n=M∨n=M+1) (hbk:2+2*L+St≤blk 40) :
  Good J.B J.W J.p r (arOf (newSaid M St L) n L M St) false 100 1 w:=by
 obtain ⟨q1,q2,q3⟩:=hb.ci h.vr.vo.ds.on.shelf m3 m16 s2 l1 l2 hn hbk
 refine ⟨J,_,S,o,gh0,noSet,noSet,F,_,rfl,rfl,rfl,⟨rfl,rfl,rfl,rfl⟩,h,⟨q1.fi.ci,said_new m3 m16 s1 s2 l1 l2 hn,fun _ _ _ _ e=>e.elim,fun _ _ _ e=>e.elim,fun j hj=>⟨List.mem_singleton.2 rfl,fun old e=>by cases e⟩,fun _=>q1⟩,fun _ j hj=>⟨by simp,rfl⟩,fun j hj=>Nat.le_refl 1⟩
theorem BegI.kept {J:Vk} {w3 w4:World} {r tq i q':Nat} {A:Ar} {S:Sh.Sf} {o:Nat→Int} {F:Nat→Prop} {s:Value} {g:Nat→Nat} (h:BegI J w3 r tq A S o F i s g) (ha:(∃c,s=.slice (some ⟨q',0,none⟩) i c∧w3.grownBy w4 (some q'))∨(q'=w3.heap.size∧Below w3.heap.size w3 w4)):w4.cell? ⟨r,5,none⟩=some s∧w4.frozen? ⟨r,5,none⟩=false:=by
 obtain ⟨k1,k2⟩:=h.cells
 have hlt:=h.lt r (.inr (.inl rfl))
 have hb:w4.heap[r]?=w3.heap[r]?:=by
  rcases ha with ⟨c,e,hg⟩ | ⟨_,hb⟩
  ·exact hg.block r hlt fun e2=>(h.own q' i c e).2.1 (by injection e2 with e2;rw [e2];exact .inr (.inl rfl))
  ·exact hb.block r hlt
 exact ⟨(World.cell?_of_block (w:=w3) (a:=⟨r,5,none⟩) hb).trans k1,(World.frozen?_of_block (w:=w3) (a:=⟨r,5,none⟩) hb).trans k2⟩
set_option maxRecDepth 20000 in
set_option maxHeartbeats 8000000 in
theorem begin_any {B:Nat} {W w:World} (hb:Below B W w) (hB:B≤w.heap.size) (hT:Tbl B W) (a b c:Int) :
  Calls Tryz.prog 14 #[.int .i64 a,.int .i64 b,.int .i64 c] w fun e w'=>∃r p A,e=.returned (.pointer (some ⟨r,0,none⟩))∧Good B W p r A false 100 1 w'∧A.n=A.M+1∧A.St*(A.M-1)≤1000:=by
 obtain ⟨k1,hk1⟩:∃k,(a%(14:Nat)).toNat=k:=⟨_,rfl⟩
 obtain ⟨k2,hk2⟩:∃k,(b%(6:Nat)).toNat=k:=⟨_,rfl⟩
 obtain ⟨k3,hk3⟩:∃k,(c%(8:Nat)).toNat=k:=⟨_,rfl⟩
 have HM1:=Lib.hid (mod8_any a 14 (by decide) (by decide) w)
 have HM2:=Lib.hid (mod8_any b 6 (by decide) (by decide) w)
 have HM3:=Lib.hid (mod8_any c 8 (by decide) (by decide) w)
 rw [hk1] at HM1
 rw [hk2] at HM2
 rw [hk3] at HM3
 have q1:k1<14:=by omega
 have q2:k2<6:=by omega
 have q3:k3<8:=by omega
 obtain ⟨M,hM⟩:∃M:Nat,M=3+k1:=⟨_,rfl⟩
 obtain ⟨St,hSt⟩:∃M:Nat,M=1+k2:=⟨_,rfl⟩
 obtain ⟨L,hL⟩:∃M:Nat,M=1+k3:=⟨_,rfl⟩
 obtain ⟨N1,hN1⟩:∃M1:Nat,M1=M+1:=⟨_,rfl⟩
 obtain ⟨M1,hM1⟩:∃M1:Nat,M1=M-1:=⟨_,rfl⟩
 have e1:3+(k1:Int)=(M:Int):=by omega
 have e2:1+(k2:Int)=(St:Int):=by omega
 have e3:1+(k3:Int)=(L:Int):=by omega
 have e4:(M:Int)+1=(N1:Int):=by omega
 have HQ:=Lib.hid (show (3≤M∧M≤16)∧(1≤St∧St≤6)∧(1≤L∧L≤8)∧N1=M+1∧M1=M-1 by omega)
 have HNB:=Lib.hid (show St*M1≤90 from Nat.le_trans (Nat.mul_le_mul (show St≤6 by omega) (show M1≤15 by omega)) (by decide))
 have b1:M≤16:=by omega
 have b2:St≤6:=by omega
 have b3:L≤8:=by omega
 have b4:N1≤17:=by omega
 clear hk1 hk2 hk3 hM hSt hL hN1 hM1
 go_enter Tryz.func14,Tryz.ntmps14
 go_wp2_with fail
 refine HM1.out.mono ?_
 rintro e w' ⟨rfl,rfl⟩
 go_wp2_with fail
 refine HM2.out.mono ?_
 rintro e w' ⟨rfl,rfl⟩
 go_wp2_with fail
 refine HM3.out.mono ?_
 rintro e w' ⟨rfl,rfl⟩
 clear HM1 HM2 HM3
 go_wp2_with fail
 refine (Sh.new_ok N1 40 _ (by have:=HQ.out;omega) (by omega) (by decide) (by decide)).mono ?_
 rintro e w2 ⟨p,F1,rfl,hS,hF,hb2⟩
 have hrowA:=heap_alloc_new w (.cells #[.pointer none,.pointer none,.int .i64 M,.int .i64 St,.int .i64 L,.slice none 0 0,.bool false,.slice none 0 0,.bool false] 39)
 have hszA:w.heap.size<(w.alloc (.cells #[.pointer none,.pointer none,.int .i64 M,.int .i64 St,.int .i64 L,.slice none 0 0,.bool false,.slice none 0 0,.bool false] 39)).heap.size:=by simp
 have hrow2:=(hb2.block w.heap.size hszA).trans hrowA
 have hrlt2:=(Array.getElem?_eq_some_iff.1 hrow2).1
 have hnF:¬F1 w.heap.size:=fun e=>by have:=hF _ e;omega
 have AT:Sh.At B W w2 p (Sh.newSf N1 40) F1:=⟨hS,fun b e=>by have:=hF b e;omega,(hb.alloc hB _).trans (hb2.mono (by omega)),by omega⟩
 clear hS hF hb2 hrowA hszA hb
 generalize w.heap.size=r at *
 have ATd:=AT.grown ((Below.refl w2.heap.size w2).drew)
 have c2:=cell_of_row _ _ 2 _ _ _ hrow2
 have c3:=cell_of_row _ _ 3 _ _ _ hrow2
 have c4:=cell_of_row _ _ 4 _ _ _ hrow2
 have HKP:Hid (∀(w3:World) (J:Vk) (F3:Nat→Prop),Sh.Moves F1 w2.drew (AllV J F3) w3→w3.heap[r]?=w2.heap[r]?∧¬AllV J F3 r):=Lib.hid fun w3 J F3 mv=>⟨mv.1.block r hrlt2 hnF,fun e=>(mv.2 r e).elim hnF fun e2=>absurd hrlt2 (Nat.not_lt.2 e2)⟩
 have HS:Hid (∀(w3:World) (J:Vk) (F3:Nat→Prop),Sh.Moves F1 w2.drew (AllV J F3) w3→w3.cell? ⟨r,2,none⟩=some (.int .i64 M)∧w3.cell? ⟨r,3,none⟩=some (.int .i64 St)∧w3.cell? ⟨r,4,none⟩=some (.int .i64 L)):=Lib.hid fun w3 J F3 mv =>
  ⟨(World.cell?_of_block (w:=w2) (a:=⟨r,2,none⟩) (HKP.out w3 J F3 mv).1).trans c2,(World.cell?_of_block (w:=w2) (a:=⟨r,3,none⟩) (HKP.out w3 J F3 mv).1).trans c3,(World.cell?_of_block (w:=w2) (a:=⟨r,4,none⟩) (HKP.out w3 J F3 mv).1).trans c4⟩
 have HCR:=Lib.hid (create_new ATd hT.tabs hT.tb hT.wid hT.wb M St L (by have:=HQ.out;omega) (by omega) (by have:=HQ.out;omega) (by omega) (by have:=HQ.out;omega) (by omega) (by have:=HQ.out;omega) (by rw [blk40'];omega))
 have HR2:=Lib.hid (And.intro hrow2 hrlt2)
 clear AT ATd hnF hrow2 hrlt2
 go_wp2_with fail
 refine wp_region_held_drew (S:=fun W'=>W'.cell? ⟨r,2,none⟩=some (.int .i64 M)∧W'.cell? ⟨r,3,none⟩=some (.int .i64 St)∧W'.cell? ⟨r,4,none⟩=some (.int .i64 L)) (by kernel_rfl) ⟨c2,c3,c4⟩ (fun hHeld=>?_)
 refine tk 0 39 ?_
 refine tk 1 40 ?_
 refine tk 2 41 ?_
 refine tk 3 42 ?_
 refine wpAnyH_take (i:=4) (oi:=⟨some 43,_,_,_,_,_⟩) (v:=?_) rfl (by kernel_rfl) (by kernel_rfl) (by kernel_rfl) (fun _ _ _ h=>h) (Or.inl ⟨by rfl,?_⟩) (by assumption) ?_
 rotate_left
 ·(intro w hSw;obtain ⟨hS2,hS3,hS4⟩:=hSw;(try dsimp only at hSw);go_simp;first | done | with_reducible rfl)
 try simp only [Act.put,List.setIfInBounds_toArray,List.set_cons_zero,List.set_cons_succ]
 refine tk 5 44 ?_
 refine tk 6 45 ?_
 refine tk 7 46 ?_
 refine wpAnyH_take (i:=8) (oi:=⟨some 47,_,_,_,_,_⟩) (v:=?_) rfl (by kernel_rfl) (by kernel_rfl) (by kernel_rfl) (fun _ _ _ h=>h) (Or.inl ⟨by rfl,?_⟩) (by assumption) ?_
 rotate_left
 ·(intro w hSw;obtain ⟨hS2,hS3,hS4⟩:=hSw;(try dsimp only at hSw);go_simp;first | done | with_reducible rfl)
 try simp only [Act.put,List.setIfInBounds_toArray,List.set_cons_zero,List.set_cons_succ]
 refine tk 9 48 ?_
 refine tk 10 49 ?_
 refine tk 11 50 ?_
 refine wpAnyH_take (i:=12) (oi:=⟨some 51,_,_,_,_,_⟩) (v:=?_) rfl (by kernel_rfl) (by kernel_rfl) (by kernel_rfl) (fun _ _ _ h=>h) (Or.inl ⟨by rfl,?_⟩) (by assumption) ?_
 rotate_left
 ·(intro w hSw;obtain ⟨hS2,hS3,hS4⟩:=hSw;(try dsimp only at hSw);go_simp;first | done | with_reducible rfl)
 try simp only [Act.put,List.setIfInBounds_toArray,List.set_cons_zero,List.set_cons_succ]
 refine r1 13 (some 52) fun K hK=>?_
 go_simp
 refine (HCR.out).mono ?_
 rintro e w3 ⟨J,F3,o3,S3,rfl,hJB,hJW,hJp,hJn,hJL,V3,hbn,mv3⟩
 refine hK.out _ _ (HS.out _ _ _ mv3) (fun hHeld=>?_)
 clear hK K
 try simp only [Act.put,List.setIfInBounds_toArray,List.set_cons_zero,List.set_cons_succ]
 refine tk 14 38 ?_
 refine tk 15 53 ?_
 refine tk 16 54 ?_
 refine tk 17 10 ?_
 refine tk 18 9 ?_
 refine wpAnyH_done (by kernel_rfl) ?_ _
 obtain ⟨hkp,hout⟩:=HKP.out _ _ _ mv3
 obtain ⟨hrow2,hrlt2⟩:=HR2.out
 have hrow3:=hkp.trans hrow2
 have hrlt3:=(Array.getElem?_eq_some_iff.1 hrow3).1
 have hlow:J.B≤r:=by rw [hJB];exact hB
 have hN1M:N1=M∨N1=M+1:=.inr HQ.out.2.2.2.1
 have hbk:2+2*L+St≤blk 40:=by rw [blk40'];omega
 obtain ⟨q1',q2',q3'⟩:=hbn.ci V3.vo.ds.on.shelf HQ.out.1.1 HQ.out.1.2 (by omega) HQ.out.2.2.1.1 HQ.out.2.2.1.2 hN1M hbk
 have hFi:=fits_ci q1'.fi.ci (said_new HQ.out.1.1 HQ.out.1.2 HQ.out.2.1.1 (by omega) HQ.out.2.2.1.1 HQ.out.2.2.1.2 hN1M)
 have hFJ:Fits J.n J.L (newSaid M St L) M St S3:=by rw [hJn,hJL];exact hFi
 have hlog:∀i,i<J.n→J.gn i≠r:=fun i hi e=>by
  have hl:w3.heap[J.gn i]?=_:=V3.logs.log i hi
  have e1:=hrow3
  rw [← e,hl] at e1
  injection e1 with e1
  injection e1 with e1
  have e2:(2:Nat)=9:=congrArg Array.size e1
  exact absurd e2 (by decide)
 obtain ⟨N,hN⟩:∃N:Nat,N=St*(M-1):=⟨_,rfl⟩
 have hN1:N=St*M1:=by rw [hN,HQ.out.2.2.2.2]
 have hN90:N≤90:=by rw [hN1];exact HNB.out
 have HNE:=Lib.hid hN
 have HSZ:Hid (∀W,Below w3.heap.size w3 W→Calls Tryz.prog 38 #[.pointer (some ⟨J.v,0,none⟩)] W fun e w'=>e=.returned (.int .i64 (N:Int))∧Below W.heap.size W w'):=Lib.hid fun W hb=>by rw [hN];exact vsize (V3.grown hb) hFJ
 have k2:=fun W' (hb:Below w3.heap.size w3 W')=>(hb.cell (p:=⟨r,2,none⟩) hrlt3).trans (cell_of_row _ _ 2 _ _ _ hrow3)
 have k3:=fun W' (hb:Below w3.heap.size w3 W')=>(hb.cell (p:=⟨r,3,none⟩) hrlt3).trans (cell_of_row _ _ 3 _ _ _ hrow3)
 have HK3:=Lib.hid (And.intro hrow3 (And.intro V3 (And.intro hout (And.intro hlog (And.intro hFJ hbn)))))
 have hwm:IntKind.i64.wrap ((M:Int)-1)=(M1:Int):=(IntWalk.i64_in _ ⟨by omega,by omega⟩).trans (by have:=HQ.out;omega)
 have hwp:IntKind.i64.wrap ((St:Int)*(M1:Int))=(N:Int):=by
  have e:(St:Int)*(M1:Int)=(N:Int):=by rw [hN1];simp
  rw [e]
  exact IntWalk.i64_in _ ⟨by omega,by omega⟩
 clear hkp hrow2 hrlt2 hrow3 HR2 HKP HS HCR hFi q1' q2' q3' hFJ hbn V3 mv3 hout hlog hN hN1 c2 c3 c4 hHeld
 go_wp2_with fail
 refine wp_region_held_drew (S:=fun W'=>Below w3.heap.size w3 W') (by kernel_rfl) ((Below.refl _ _).drew) (fun hHeld=>?_)
 refine tk 0 55 ?_
 refine tk 1 56 ?_
 refine tk 2 57 ?_
 refine tk 3 58 ?_
 refine tk 4 59 ?_
 refine tk 5 60 ?_
 refine tk 6 61 ?_
 refine tk 7 62 ?_
 refine tk 9 64 ?_
 refine tk 10 65 ?_
 refine tk 11 66 ?_
 refine tk 12 67 ?_
 refine tk 13 68 ?_
 refine tk 14 69 ?_
 refine tk 15 70 ?_
 refine tk 16 71 ?_
 refine tk 17 72 ?_
 refine tk 18 73 ?_
 refine r1 8 (some 63) fun K hK=>?_
 go_simp
 refine (HSZ.out _ hHeld).mono ?_
 rintro e w4 ⟨rfl,hb4⟩
 refine hK.out _ _ (hHeld.trans (hb4.mono hHeld.size)) (fun hHeld=>?_)
 clear hK K
 try simp only [Act.put,List.setIfInBounds_toArray,List.set_cons_zero,List.set_cons_succ]
 refine tk 19 74 ?_
 refine tk 20 75 ?_
 refine wpAnyH_done (by kernel_rfl) ?_ _
 obtain ⟨hrow3,V3,hout,hlog,hFJ,hbn⟩:=HK3.out
 have hrow4:=(hHeld.block r hrlt3).trans hrow3
 have x0:=cell_of_row _ _ 0 _ _ _ hrow4
 have x1:=cell_of_row _ _ 1 _ _ _ hrow4
 have x3:=cell_of_row _ _ 3 _ _ _ hrow4
 have f0:=frozen_of_row _ _ 0 _ _ hrow4
 have f1:=frozen_of_row _ _ 1 _ _ hrow4
 obtain ⟨w6,hmk,hb6⟩:=make_bools ((w4.setCell ⟨r,0,none⟩ (.pointer (some ⟨p,0,none⟩))).setCell ⟨r,1,none⟩ (.pointer (some ⟨J.v,0,none⟩))) St (by omega)
 have hrow5:=heap_setCell_same _ r 1 _ _ (.pointer (some ⟨J.v,0,none⟩)) (heap_setCell_same w4 r 0 _ _ (.pointer (some ⟨p,0,none⟩)) hrow4)
 have hrow6:=(hb6.block r (Array.getElem?_eq_some_iff.1 hrow5).1).trans hrow5
 have ho5:Sh.Only (fun b=>b=r) w4 ((w4.setCell ⟨r,0,none⟩ (.pointer (some ⟨p,0,none⟩))).setCell ⟨r,1,none⟩ (.pointer (some ⟨J.v,0,none⟩))):=((Sh.Only.refl (fun b=>b=r) w4).setCell (p:=⟨r,0,none⟩) (.inl rfl) _).setCell (p:=⟨r,1,none⟩) (.inl rfl) _
 have V5:=only_vr (V3.grown hHeld) ho5 hout hlow hlog
 have V6:=V5.grown hb6
 have e5:((w4.setCell ⟨r,0,none⟩ (.pointer (some ⟨p,0,none⟩))).setCell ⟨r,1,none⟩ (.pointer (some ⟨J.v,0,none⟩))).heap.size=w4.heap.size:=by simp
 rw [e5] at hmk
 have x7:=cell_of_row _ _ 7 _ _ _ hrow6
 have f7:=frozen_of_row _ _ 7 _ _ hrow6
 have H0:Hid (BegI J (w6.setCell ⟨r,7,none⟩ (.slice (some ⟨w4.heap.size,0,none⟩) St St)) r w4.heap.size (arOf (newSaid M St L) N1 L M St) S3 o3 F3 0 (.slice none 0 0) (fun _=>0)):=Lib.hid
  ⟨only_vr V6 ((Sh.Only.refl (fun b=>b=r) w6).setCell (p:=⟨r,7,none⟩) (.inl rfl) _) hout hlow hlog,by rw [hJp];exact heap_setCell_same w6 r 7 _ _ (.slice (some ⟨w4.heap.size,0,none⟩) St St) hrow6,hlow,hout,hlog,.inl ⟨rfl,rfl,rfl⟩,(fun j hj=>absurd hj (Nat.not_lt_zero j)),(fun j k hj=>absurd hj (Nat.not_lt_zero j)),(fun q n c e=>by cases e)⟩
 have HK6:=Lib.hid (And.intro hFJ hbn)
 clear hrow3 V3 hout hlog hFJ hbn hrow4 hb6 hrow5 hrow6 ho5 V5 V6 e5 hHeld k2 k3 HSZ hwm hwp HK3 hb4
 go_wp2_with fail
 clear hmk
 generalize w4.heap.size=tq at *
 obtain ⟨sn,hsn⟩:∃sn,Sh.strL Sh.noughts=sn:=⟨_,rfl⟩
 have HSN:=Lib.hid hsn
 clear hsn x0 x1 x3 f0 f1 x7 f7
 go_loopw [11] (fun i wr=>∃(k:Nat) (s:Value) (g:Nat→Nat),k≤N∧i=.int .i64 k∧Hid (BegI J wr r tq (arOf (newSaid M St L) N1 L M St) S3 o3 F3 k s g)) (fun i _=>N-(intOf i).toNat)
 case atStart=>exact ⟨0,_,_,Nat.zero_le _,rfl,H0⟩
 case round =>
  obtain ⟨k,s,g,hk,rfl,HBr⟩:=hrel
  clear H0
  have HSZ:Hid (Calls Tryz.prog 38 #[.pointer (some ⟨J.v,0,none⟩)] wr fun e w'=>e=.returned (.int .i64 (N:Int))∧Below wr.heap.size wr w'):=Lib.hid (by rw [HNE.out];exact vsize HBr.out.vr HK6.out.1)
  by_cases hlt:k<N
  ·have q3:(k:Int)<(N:Int):=by omega
   go_wp2_with fail
   refine HSZ.out.mono ?_
   rintro e wz ⟨rfl,hbz⟩
   have HB:=Lib.hid (HBr.out.grown hbz)
   clear HBr HSZ hbz
   have KC:Hid (∀W',Below wz.heap.size wz W'→W'.cell? ⟨r,5,none⟩=some s):=Lib.hid fun W' hb=>(HB.out.grown hb).cells.1
   have hcz:Below wz.heap.size wz wz.drew:=(Below.refl _ _).drew
   go_wp2_with fail
   refine wp_region_held_drew (S:=fun _=>True) (by kernel_rfl) trivial (fun hHeld=>?_)
   refine tk 0 98 ?_
   refine tk 1 99 ?_
   refine tk 2 100 ?_
   refine tk 3 101 ?_
   refine wpAnyH_ready (rs:=[4,5]) (by kernel_rfl) (by simp) ?_
   refine AllReadyH.cons (o:=⟨some 102,_,_,_,_,_⟩) rfl (fun K hK=>?_) (AllReadyH.cons (o:=⟨some 103,_,_,_,_,_⟩) rfl (fun K hK=>?_) AllReadyH.nil)
   ·have q5:=KC.out _ hcz
    go_simp
    refine hK.out _ _ trivial (fun hHeld=>?_)
    clear hK K
    try simp only [Act.put,List.setIfInBounds_toArray,List.set_cons_zero,List.set_cons_succ]
    clear q5
    refine r1 5 (some 103) fun K hK=>?_
    rw [if_pos (by rfl)]
    refine wp_make128 _ _ rfl rfl rfl (fun wm hom hgm=>?_)
    refine hK.out _ _ trivial (fun hHeld=>?_)
    clear hK K
    try simp only [Act.put,List.setIfInBounds_toArray,List.set_cons_zero,List.set_cons_succ]
    have hcm:Below wz.heap.size wz wm:=hcz.trans (hgm.mono hcz.size)
    have t1:(convert 45 9 (.slice (some ⟨wz.heap.size,0,none⟩) 128 128)).run Tryz.prog wm=.ok (.string sn) wm:=Sh.conv_own hom HSN.out wm (Below.refl _ _)
    refine r1 6 (some 104) fun K hK=>?_
    go_simp
    refine hK.out _ _ trivial (fun hHeld=>?_)
    clear hK K
    try simp only [Act.put,List.setIfInBounds_toArray,List.set_cons_zero,List.set_cons_succ]
    clear t1
    refine r1 7 (some 105) fun K hK=>?_
    go_simp
    refine hK.out _ _ trivial (fun hHeld=>?_)
    clear hK K
    try simp only [Act.put,List.setIfInBounds_toArray,List.set_cons_zero,List.set_cons_succ]
    have hc7:Below wz.heap.size wz (wm.alloc (.cells #[.string sn] 9)):=hcm.trans (((Below.refl _ wm).alloc (Nat.le_refl _) _).mono hcm.size)
    refine r1 8 (some 106) fun K hK=>?_
    go_simp
    refine hK.out _ _ trivial (fun hHeld=>?_)
    clear hK K
    try simp only [Act.put,List.setIfInBounds_toArray,List.set_cons_zero,List.set_cons_succ]
    have hc8:Below wz.heap.size wz ((wm.alloc (.cells #[.string sn] 9)).alloc (.cells #[.slice (some ⟨wm.heap.size,0,none⟩) 1 1] 52)):=hc7.trans (((Below.refl _ _).alloc (Nat.le_refl _) _).mono hc7.size)
    refine r1 9 (some 107) fun K hK=>?_
    have X8:=cell_of_row _ _ 0 _ _ _ (heap_alloc_new (wm.alloc (.cells #[.string sn] 9)) (.cells #[.slice (some ⟨wm.heap.size,0,none⟩) 1 1] 52))
    have hM8:=Lib.hid (mids_grown (mids_new wm 9 Sh.noughts) (w':=(wm.alloc (.cells #[Sh.sv Sh.noughts] 9)).alloc (.cells #[.slice (some ⟨wm.heap.size,0,none⟩) 1 1] 52)) ((Below.refl _ _).alloc (Nat.le_refl _) _))
    unfold Sh.sv at hM8
    rw [HSN.out] at hM8
    have hB8:=Lib.hid (HB.out.grown hc8)
    rw [if_pos (by rfl)]
    refine wp_append_vals (.tmp 102) (.tmp 106) rfl (s:=s) (v:=.slice (some ⟨wm.heap.size,0,none⟩) 1 1) (n:=k) (cc:=1) rfl rfl hB8.out.tab (by first | exact X8 | simp at X8 ⊢) rfl (by omega) (fun q2 c2 w9 hv ha=>?_)
    have hnx:=Lib.hid (HB.out.next hc8 hcm.size hM8.out hv ha)
    have hc9:w9.cell? ⟨r,5,none⟩=some s∧w9.frozen? ⟨r,5,none⟩=false:=hB8.out.kept ha
    obtain ⟨kc9,kf9⟩:=hc9
    refine hK.out _ _ trivial (fun hHeld=>?_)
    clear hK K
    try simp only [Act.put,List.setIfInBounds_toArray,List.set_cons_zero,List.set_cons_succ]
    refine tk 10 108 ?_
    refine tk 11 109 ?_
    refine r1 12 none fun K hK=>?_
    go_simp
    refine hK.out _ _ trivial (fun hHeld=>?_)
    clear hK K
    try simp only [Act.put,List.setIfInBounds_toArray,List.set_cons_zero,List.set_cons_succ]
    refine wpAnyH_done (by kernel_rfl) ?_ _
    clear kc9 kf9
    have hnx2:=Lib.hid hnx.out
    go_wp2_with fail
    refine ⟨⟨k+1,_,_,by omega,by go_num,hnx⟩,?_⟩
    simp [intOf]
    omega
   ·rw [if_pos (by rfl)]
    refine wp_make128 _ _ rfl rfl rfl (fun wm hom hgm=>?_)
    refine hK.out _ _ trivial (fun hHeld=>?_)
    clear hK K
    try simp only [Act.put,List.setIfInBounds_toArray,List.set_cons_zero,List.set_cons_succ]
    have hcm:Below wz.heap.size wz wm:=hcz.trans (hgm.mono hcz.size)
    have t1:(convert 45 9 (.slice (some ⟨wz.heap.size,0,none⟩) 128 128)).run Tryz.prog wm=.ok (.string sn) wm:=Sh.conv_own hom HSN.out wm (Below.refl _ _)
    refine wpAnyH_ready (rs:=[4,6]) (by kernel_rfl) (by simp) ?_
    refine AllReadyH.cons (o:=⟨some 102,_,_,_,_,_⟩) rfl (fun K hK=>?_) (AllReadyH.cons (o:=⟨some 104,_,_,_,_,_⟩) rfl (fun K hK=>?_) AllReadyH.nil)
    ·have q5:=KC.out _ hcm
     go_simp
     refine hK.out _ _ trivial (fun hHeld=>?_)
     clear hK K
     try simp only [Act.put,List.setIfInBounds_toArray,List.set_cons_zero,List.set_cons_succ]
     clear q5
     refine r1 6 (some 104) fun K hK=>?_
     go_simp
     refine hK.out _ _ trivial (fun hHeld=>?_)
     clear hK K
     try simp only [Act.put,List.setIfInBounds_toArray,List.set_cons_zero,List.set_cons_succ]
     clear t1
     refine r1 7 (some 105) fun K hK=>?_
     go_simp
     refine hK.out _ _ trivial (fun hHeld=>?_)
     clear hK K
     try simp only [Act.put,List.setIfInBounds_toArray,List.set_cons_zero,List.set_cons_succ]
     have hc7:Below wz.heap.size wz (wm.alloc (.cells #[.string sn] 9)):=hcm.trans (((Below.refl _ wm).alloc (Nat.le_refl _) _).mono hcm.size)
     refine r1 8 (some 106) fun K hK=>?_
     go_simp
     refine hK.out _ _ trivial (fun hHeld=>?_)
     clear hK K
     try simp only [Act.put,List.setIfInBounds_toArray,List.set_cons_zero,List.set_cons_succ]
     have hc8:Below wz.heap.size wz ((wm.alloc (.cells #[.string sn] 9)).alloc (.cells #[.slice (some ⟨wm.heap.size,0,none⟩) 1 1] 52)):=hc7.trans (((Below.refl _ _).alloc (Nat.le_refl _) _).mono hc7.size)
     refine r1 9 (some 107) fun K hK=>?_
     have X8:=cell_of_row _ _ 0 _ _ _ (heap_alloc_new (wm.alloc (.cells #[.string sn] 9)) (.cells #[.slice (some ⟨wm.heap.size,0,none⟩) 1 1] 52))
     have hM8:=Lib.hid (mids_grown (mids_new wm 9 Sh.noughts) (w':=(wm.alloc (.cells #[Sh.sv Sh.noughts] 9)).alloc (.cells #[.slice (some ⟨wm.heap.size,0,none⟩) 1 1] 52)) ((Below.refl _ _).alloc (Nat.le_refl _) _))
     unfold Sh.sv at hM8
     rw [HSN.out] at hM8
     have hB8:=Lib.hid (HB.out.grown hc8)
     rw [if_pos (by rfl)]
     refine wp_append_vals (.tmp 102) (.tmp 106) rfl (s:=s) (v:=.slice (some ⟨wm.heap.size,0,none⟩) 1 1) (n:=k) (cc:=1) rfl rfl hB8.out.tab (by first | exact X8 | simp at X8 ⊢) rfl (by omega) (fun q2 c2 w9 hv ha=>?_)
     have hnx:=Lib.hid (HB.out.next hc8 hcm.size hM8.out hv ha)
     have hc9:w9.cell? ⟨r,5,none⟩=some s∧w9.frozen? ⟨r,5,none⟩=false:=hB8.out.kept ha
     obtain ⟨kc9,kf9⟩:=hc9
     refine hK.out _ _ trivial (fun hHeld=>?_)
     clear hK K
     try simp only [Act.put,List.setIfInBounds_toArray,List.set_cons_zero,List.set_cons_succ]
     refine tk 10 108 ?_
     refine tk 11 109 ?_
     refine r1 12 none fun K hK=>?_
     go_simp
     refine hK.out _ _ trivial (fun hHeld=>?_)
     clear hK K
     try simp only [Act.put,List.setIfInBounds_toArray,List.set_cons_zero,List.set_cons_succ]
     refine wpAnyH_done (by kernel_rfl) ?_ _
     clear kc9 kf9
     have hnx2:=Lib.hid hnx.out
     go_wp2_with fail
     refine ⟨⟨k+1,_,_,by omega,by go_num,hnx⟩,?_⟩
     simp [intOf]
     omega
    ·go_simp
     refine hK.out _ _ trivial (fun hHeld=>?_)
     clear hK K
     try simp only [Act.put,List.setIfInBounds_toArray,List.set_cons_zero,List.set_cons_succ]
     clear t1
     refine wpAnyH_ready (rs:=[4,7]) (by kernel_rfl) (by simp) ?_
     refine AllReadyH.cons (o:=⟨some 102,_,_,_,_,_⟩) rfl (fun K hK=>?_) (AllReadyH.cons (o:=⟨some 105,_,_,_,_,_⟩) rfl (fun K hK=>?_) AllReadyH.nil)
     ·have q5:=KC.out _ hcm
      go_simp
      refine hK.out _ _ trivial (fun hHeld=>?_)
      clear hK K
      try simp only [Act.put,List.setIfInBounds_toArray,List.set_cons_zero,List.set_cons_succ]
      clear q5
      refine r1 7 (some 105) fun K hK=>?_
      go_simp
      refine hK.out _ _ trivial (fun hHeld=>?_)
      clear hK K
      try simp only [Act.put,List.setIfInBounds_toArray,List.set_cons_zero,List.set_cons_succ]
      have hc7:Below wz.heap.size wz (wm.alloc (.cells #[.string sn] 9)):=hcm.trans (((Below.refl _ wm).alloc (Nat.le_refl _) _).mono hcm.size)
      refine r1 8 (some 106) fun K hK=>?_
      go_simp
      refine hK.out _ _ trivial (fun hHeld=>?_)
      clear hK K
      try simp only [Act.put,List.setIfInBounds_toArray,List.set_cons_zero,List.set_cons_succ]
      have hc8:Below wz.heap.size wz ((wm.alloc (.cells #[.string sn] 9)).alloc (.cells #[.slice (some ⟨wm.heap.size,0,none⟩) 1 1] 52)):=hc7.trans (((Below.refl _ _).alloc (Nat.le_refl _) _).mono hc7.size)
      refine r1 9 (some 107) fun K hK=>?_
      have X8:=cell_of_row _ _ 0 _ _ _ (heap_alloc_new (wm.alloc (.cells #[.string sn] 9)) (.cells #[.slice (some ⟨wm.heap.size,0,none⟩) 1 1] 52))
      have hM8:=Lib.hid (mids_grown (mids_new wm 9 Sh.noughts) (w':=(wm.alloc (.cells #[Sh.sv Sh.noughts] 9)).alloc (.cells #[.slice (some ⟨wm.heap.size,0,none⟩) 1 1] 52)) ((Below.refl _ _).alloc (Nat.le_refl _) _))
      unfold Sh.sv at hM8
      rw [HSN.out] at hM8
      have hB8:=Lib.hid (HB.out.grown hc8)
      rw [if_pos (by rfl)]
      refine wp_append_vals (.tmp 102) (.tmp 106) rfl (s:=s) (v:=.slice (some ⟨wm.heap.size,0,none⟩) 1 1) (n:=k) (cc:=1) rfl rfl hB8.out.tab (by first | exact X8 | simp at X8 ⊢) rfl (by omega) (fun q2 c2 w9 hv ha=>?_)
      have hnx:=Lib.hid (HB.out.next hc8 hcm.size hM8.out hv ha)
      have hc9:w9.cell? ⟨r,5,none⟩=some s∧w9.frozen? ⟨r,5,none⟩=false:=hB8.out.kept ha
      obtain ⟨kc9,kf9⟩:=hc9
      refine hK.out _ _ trivial (fun hHeld=>?_)
      clear hK K
      try simp only [Act.put,List.setIfInBounds_toArray,List.set_cons_zero,List.set_cons_succ]
      refine tk 10 108 ?_
      refine tk 11 109 ?_
      refine r1 12 none fun K hK=>?_
      go_simp
      refine hK.out _ _ trivial (fun hHeld=>?_)
      clear hK K
      try simp only [Act.put,List.setIfInBounds_toArray,List.set_cons_zero,List.set_cons_succ]
      refine wpAnyH_done (by kernel_rfl) ?_ _
      clear kc9 kf9
      have hnx2:=Lib.hid hnx.out
      go_wp2_with fail
      refine ⟨⟨k+1,_,_,by omega,by go_num,hnx⟩,?_⟩
      simp [intOf]
      omega
     ·go_simp
      refine hK.out _ _ trivial (fun hHeld=>?_)
      clear hK K
      try simp only [Act.put,List.setIfInBounds_toArray,List.set_cons_zero,List.set_cons_succ]
      have hc7:Below wz.heap.size wz (wm.alloc (.cells #[.string sn] 9)):=hcm.trans (((Below.refl _ wm).alloc (Nat.le_refl _) _).mono hcm.size)
      refine wpAnyH_ready (rs:=[4,8]) (by kernel_rfl) (by simp) ?_
      refine AllReadyH.cons (o:=⟨some 102,_,_,_,_,_⟩) rfl (fun K hK=>?_) (AllReadyH.cons (o:=⟨some 106,_,_,_,_,_⟩) rfl (fun K hK=>?_) AllReadyH.nil)
      ·have q5:=KC.out _ hc7
       go_simp
       refine hK.out _ _ trivial (fun hHeld=>?_)
       clear hK K
       try simp only [Act.put,List.setIfInBounds_toArray,List.set_cons_zero,List.set_cons_succ]
       clear q5
       refine r1 8 (some 106) fun K hK=>?_
       go_simp
       refine hK.out _ _ trivial (fun hHeld=>?_)
       clear hK K
       try simp only [Act.put,List.setIfInBounds_toArray,List.set_cons_zero,List.set_cons_succ]
       have hc8:Below wz.heap.size wz ((wm.alloc (.cells #[.string sn] 9)).alloc (.cells #[.slice (some ⟨wm.heap.size,0,none⟩) 1 1] 52)):=hc7.trans (((Below.refl _ _).alloc (Nat.le_refl _) _).mono hc7.size)
       refine r1 9 (some 107) fun K hK=>?_
       have X8:=cell_of_row _ _ 0 _ _ _ (heap_alloc_new (wm.alloc (.cells #[.string sn] 9)) (.cells #[.slice (some ⟨wm.heap.size,0,none⟩) 1 1] 52))
       have hM8:=Lib.hid (mids_grown (mids_new wm 9 Sh.noughts) (w':=(wm.alloc (.cells #[Sh.sv Sh.noughts] 9)).alloc (.cells #[.slice (some ⟨wm.heap.size,0,none⟩) 1 1] 52)) ((Below.refl _ _).alloc (Nat.le_refl _) _))
       unfold Sh.sv at hM8
       rw [HSN.out] at hM8
       have hB8:=Lib.hid (HB.out.grown hc8)
       rw [if_pos (by rfl)]
       refine wp_append_vals (.tmp 102) (.tmp 106) rfl (s:=s) (v:=.slice (some ⟨wm.heap.size,0,none⟩) 1 1) (n:=k) (cc:=1) rfl rfl hB8.out.tab (by first | exact X8 | simp at X8 ⊢) rfl (by omega) (fun q2 c2 w9 hv ha=>?_)
       have hnx:=Lib.hid (HB.out.next hc8 hcm.size hM8.out hv ha)
       have hc9:w9.cell? ⟨r,5,none⟩=some s∧w9.frozen? ⟨r,5,none⟩=false:=hB8.out.kept ha
       obtain ⟨kc9,kf9⟩:=hc9
       refine hK.out _ _ trivial (fun hHeld=>?_)
       clear hK K
       try simp only [Act.put,List.setIfInBounds_toArray,List.set_cons_zero,List.set_cons_succ]
       refine tk 10 108 ?_
       refine tk 11 109 ?_
       refine r1 12 none fun K hK=>?_
       go_simp
       refine hK.out _ _ trivial (fun hHeld=>?_)
       clear hK K
       try simp only [Act.put,List.setIfInBounds_toArray,List.set_cons_zero,List.set_cons_succ]
       refine wpAnyH_done (by kernel_rfl) ?_ _
       clear kc9 kf9
       have hnx2:=Lib.hid hnx.out
       go_wp2_with fail
       refine ⟨⟨k+1,_,_,by omega,by go_num,hnx⟩,?_⟩
       simp [intOf]
       omega
      ·go_simp
       refine hK.out _ _ trivial (fun hHeld=>?_)
       clear hK K
       try simp only [Act.put,List.setIfInBounds_toArray,List.set_cons_zero,List.set_cons_succ]
       have hc8:Below wz.heap.size wz ((wm.alloc (.cells #[.string sn] 9)).alloc (.cells #[.slice (some ⟨wm.heap.size,0,none⟩) 1 1] 52)):=hc7.trans (((Below.refl _ _).alloc (Nat.le_refl _) _).mono hc7.size)
       refine r1 4 (some 102) fun K hK=>?_
       have q5:=KC.out _ hc8
       go_simp
       refine hK.out _ _ trivial (fun hHeld=>?_)
       clear hK K
       try simp only [Act.put,List.setIfInBounds_toArray,List.set_cons_zero,List.set_cons_succ]
       clear q5
       refine r1 9 (some 107) fun K hK=>?_
       have X8:=cell_of_row _ _ 0 _ _ _ (heap_alloc_new (wm.alloc (.cells #[.string sn] 9)) (.cells #[.slice (some ⟨wm.heap.size,0,none⟩) 1 1] 52))
       have hM8:=Lib.hid (mids_grown (mids_new wm 9 Sh.noughts) (w':=(wm.alloc (.cells #[Sh.sv Sh.noughts] 9)).alloc (.cells #[.slice (some ⟨wm.heap.size,0,none⟩) 1 1] 52)) ((Below.refl _ _).alloc (Nat.le_refl _) _))
       unfold Sh.sv at hM8
       rw [HSN.out] at hM8
       have hB8:=Lib.hid (HB.out.grown hc8)
       rw [if_pos (by rfl)]
       refine wp_append_vals (.tmp 102) (.tmp 106) rfl (s:=s) (v:=.slice (some ⟨wm.heap.size,0,none⟩) 1 1) (n:=k) (cc:=1) rfl rfl hB8.out.tab (by first | exact X8 | simp at X8 ⊢) rfl (by omega) (fun q2 c2 w9 hv ha=>?_)
       have hnx:=Lib.hid (HB.out.next hc8 hcm.size hM8.out hv ha)
       have hc9:w9.cell? ⟨r,5,none⟩=some s∧w9.frozen? ⟨r,5,none⟩=false:=hB8.out.kept ha
       obtain ⟨kc9,kf9⟩:=hc9
       refine hK.out _ _ trivial (fun hHeld=>?_)
       clear hK K
       try simp only [Act.put,List.setIfInBounds_toArray,List.set_cons_zero,List.set_cons_succ]
       refine tk 10 108 ?_
       refine tk 11 109 ?_
       refine r1 12 none fun K hK=>?_
       go_simp
       refine hK.out _ _ trivial (fun hHeld=>?_)
       clear hK K
       try simp only [Act.put,List.setIfInBounds_toArray,List.set_cons_zero,List.set_cons_succ]
       refine wpAnyH_done (by kernel_rfl) ?_ _
       clear kc9 kf9
       have hnx2:=Lib.hid hnx.out
       go_wp2_with fail
       refine ⟨⟨k+1,_,_,by omega,by go_num,hnx⟩,?_⟩
       simp [intOf]
       omega
  ·have hkN:k=N:=by omega
   go_wp2_with fail
   refine HSZ.out.mono ?_
   rintro e wz ⟨rfl,hbz⟩
   have HG:Hid (Good B W J.p r (arOf (newSaid M St L) N1 L M St) false 100 1 wz):=Lib.hid (by
    obtain ⟨hFJ,hbn⟩:=HK6.out
    have h90:=HNE.out
    obtain ⟨⟨r1,r2⟩,⟨r3,r4⟩,⟨r5,r6⟩,r7,r8⟩:=HQ.out
    have hpos:0<St*(M-1):=Nat.mul_pos (by omega) (by omega)
    have hR:=(HBr.out.grown hbz).rig (m:=100) (show k=St*(M-1) from hkN.trans h90) (by rw [hkN,h90];exact hpos) ⟨hbn.waits,⟨tidy_empty,Nat.zero_le _⟩,Nat.zero_le _⟩ hJn hJL
    have:=begun hR hbn r1 r2 r3 (by omega) r5 r6 (.inr r7) (by rw [blk40'];omega)
    rw [hJB,hJW] at this
    exact this)
   clear HBr HSZ hbz
   go_wp2
   go_ret
   exact ⟨r,J.p,_,rfl,HG.out,HQ.out.2.2.2.1,by show St*(M-1)≤1000;rw [← HNE.out];omega⟩
end
end Go.Proofs.YthhldceidmphfaaGreatDoor.U
namespace Go.Proofs.YthhldceidmphfaaGreatDoor.Sh
open Go.RowKit Go.Maps
theorem keep_mono {w:World} {G G':Nat→Prop} {A:Option Addr} {n:Nat} {ks:List (List Int)} (h:KeepIs w G A n ks) (hG:∀b,G b→G' b):KeepIs w G' A n ks:=by
 refine ⟨h.1,fun h0=>?_⟩
 obtain ⟨ad,e,g,hc⟩:=h.2 h0
 refine ⟨ad,e,hG _ g,fun j hj=>?_⟩
 obtain ⟨A',m,c,h1,h2,h3,h4⟩:=hc j hj
 exact ⟨A',m,c,h1,h2,h3,fun hm a' ha=>hG _ (h4 hm a' ha)⟩
theorem keep_over {w w':World} {A:Option Addr} {n:Nat} {ks:List (List Int)} (h:KeepIs w (Old w) A n ks) (hb:Below w.heap.size w w'):KeepIs w' (Old w') A n ks :=
 keep_mono (keep_below h hb) fun b (e:b<w.heap.size)=>Nat.lt_of_lt_of_le e hb.size
theorem op8_over {w w':World} {b o:Nat} {v:Op8} (hlt:b<w.heap.size) (h:Op8Is w b o v) (hb:Below w.heap.size w w'):Op8Is w' b o v :=
 ⟨(hb.cell (p:=⟨b,o,none⟩) hlt).trans h.c0,(hb.cell (p:=⟨b,o+1,none⟩) hlt).trans h.c1,(hb.cell (p:=⟨b,o+2,none⟩) hlt).trans h.c2,(hb.cell (p:=⟨b,o+3,none⟩) hlt).trans h.c3,(hb.cell (p:=⟨b,o+4,none⟩) hlt).trans h.c4,h.b0,h.b1,h.b2,h.b3,h.b4,keep_over h.keep hb⟩
theorem ops8_over {w w':World} {A:Option Addr} {n:Nat} {f:Nat→Op8} (h:Ops8 w A n f) (hb:Below w.heap.size w w'):Ops8 w' A n f:=by
 refine ⟨h.1,fun h0=>?_⟩
 obtain ⟨b,off,e,hlt,hop⟩:=h.2 h0
 exact ⟨b,off,e,Nat.lt_of_lt_of_le hlt hb.size,fun i hi=>op8_over hlt (hop i hi) hb⟩
end Go.Proofs.YthhldceidmphfaaGreatDoor.Sh
namespace Go.Proofs.YthhldceidmphfaaGreatDoor.U
open Go.RowKit Go.Maps
section
variable {B:Nat} {W w w':World} {p r m lb:Nat} {A A':Ar} {kd:Bool}
theorem Akin.trans {A1 A2 A3:Ar} (h:Akin A1 A2) (k:Akin A2 A3):Akin A1 A3:=⟨k.n.trans h.n,k.L.trans h.L,k.M.trans h.M,k.St.trans h.St⟩
theorem Good.akin (hk:Akin A A') (h:Good B W p r A' kd m lb w):Good B W p r A kd m lb w:=by
 obtain ⟨J,A2,S,o,g,D,U,F,may,e1,e2,e3,e4,rest⟩:=h
 exact ⟨J,A2,S,o,g,D,U,F,may,e1,e2,e3,hk.trans e4,rest⟩
theorem Good.grown (h:Good B W p r A kd m lb w) (hb:Below w.heap.size w w'):Good B W p r A kd m lb w':=by
 obtain ⟨J,A2,S,o,g,D,U,F,may,e1,e2,e3,e4,e5,rest⟩:=h
 exact ⟨J,A2,S,o,g,D,U,F,may,e1,e2,e3,e4,e5.grown hb,rest⟩
theorem Good.bel (h:Good B W p r A kd m lb w):Below B W w∧B≤w.heap.size:=by
 obtain ⟨J,A2,S,o,g,D,U,F,may,rfl,rfl,e3,e4,e5,rest⟩:=h
 exact ⟨e5.vr.bel,e5.vr.size⟩
def IsKind (k:Int):Prop:=k=1∨k=2∨k=3∨k=4∨k=5∨k=6∨k=8
theorem do_any (h:Good B W p r A kd m lb w) (hB:B=W.heap.size) (hT:Tbl B W) (hm:m≤4000000) (hm2:2000000≤m) (hl:lb≤1000) (hl1:1≤lb) (hN:A.St*(A.M-1)≤1000) (hn1:A.n=A.M+1) (v:Sh.Op8) (hk:IsKind v.kind)
  (hv1:Sh.I64 v.n) (hv2:Sh.I64 v.at_) (hv3:v.x<256) (hv4:v.m≤9223372036854775807) (hv5:Sh.KeepIs W (Sh.Old W) v.A v.m v.ks) :
  Calls Tryz.prog 16 #[.pointer (some ⟨r,0,none⟩),opV v] w fun e w'=>e=.returned (.bool true)∧∃kd',Good B W p r A kd' (m+1000) (lb+1) w':=by
 obtain ⟨J,A2,S,o,g,D,U,F,may,rfl,rfl,rfl,ak,R,I,L,hlb⟩:=h
 have hN2:A2.St*(A2.M-1)≤1000:=by rw [ak.St,ak.M];exact hN
 have hn2:A2.n=A2.M+1:=by rw [ak.n,ak.M];exact hn1
 rcases hk with e | e | e | e | e | e | e
 ·exact (do_read R I L hlb (by omega) hT (by omega) v e hv1).mono fun _ _ h=>⟨h.1,_,(h.2.akin ak).more (Nat.le_refl _) (by omega)⟩
 ·exact (do_write R I L hlb (by omega) hT (by omega) hN2 v e hv1 hv3).mono fun _ _ h=>⟨h.1,_,h.2.akin ak⟩
 ·exact (do_flush R I L hlb (by omega) hT (by omega) hN2 v e).mono fun _ _ h=>⟨h.1,_,(h.2.akin ak).more (Nat.le_refl _) (by omega)⟩
 ·exact (do_stop R I L hlb v e hv1).mono fun _ _ h=>⟨h.1,_,(h.2.akin ak).more (by omega) (by omega)⟩
 ·exact (do_crash R I hlb (by omega) hl1 hB hT (by omega) hN2 v e hv5 hv4).mono fun _ _ h=>⟨h.1,_,(h.2.akin ak).more (by omega) (by omega)⟩
 ·exact (do_kill R I L hlb hn2 v e hv2).mono fun _ _ h=>⟨h.1,_,(h.2.akin ak).more (by omega) (by omega)⟩
 ·exact (do_crash8 R I hlb (by omega) hl1 hB hT (by omega) hN2 v e hv2 hv5 hv4).mono fun _ _ h=>⟨h.1,_,(h.2.akin ak).more (by omega) (by omega)⟩
theorem crash_last (h:Good B W p r A kd m lb w) (hB:B=W.heap.size) (hT:Tbl B W) (hm:m≤4000000) (hl:lb≤1000) (hl1:1≤lb) (hN:A.St*(A.M-1)≤1000) (A0:Option Addr) (n c:Nat) {ks:List (List Int)} (hk:Sh.KeepIs W (Sh.Old W) A0 n ks) (hn:n≤9223372036854775807) :
  Calls Tryz.prog 17 #[.pointer (some ⟨r,0,none⟩),.slice A0 n c,.int .i64 (-1)] w fun e w'=>e=.returned (.bool true)∧Good B W p r A kd 2000000 lb w':=by
 obtain ⟨J,A2,S,o,g,D,U,F,may,rfl,rfl,rfl,ak,R,I,L,hlb⟩:=h
 have hN2:A2.St*(A2.M-1)≤1000:=by rw [ak.St,ak.M];exact hN
 exact (crash_plain R I hB hT (by omega) hlb (by omega) hl1 hN2 A0 n c hk hn (-1) (by decide)).mono fun _ _ h=>⟨h.1,h.2.akin ak⟩
theorem keep_none (W:World) (G:Nat→Prop):Sh.KeepIs W G none 0 []:=⟨rfl,fun h=>absurd h (by decide)⟩
theorem All.tbl (h:All W):Tbl W.heap.size W:=⟨h.tabs,h.tabs.size,h.wid,h.wid.size,h.fld,h.fld.size,h.lay,h.lay.size⟩
end
open Go.ChangeShapes Go.WideShapes Go.ChangeAt
section
set_option maxRecDepth 20000 in
set_option maxHeartbeats 8000000 in
theorem play_any {w:World} (hA:All w) (a b c:Int) (A:Option Addr) (n cp:Nat) (f:Nat→Sh.Op8) (hl:Sh.Ops8 w A n f) (kb kn kc:Nat) (ks:Nat→Int) (hkb:kb<w.heap.size) (hkn:kn≤100) (hks:∀j,j<kn→w.cell? ⟨kb,j,none⟩=some (.int .i64 (ks j))) (hki:∀j,j<kn→IsKind (ks j)) :
  Calls Tryz.prog 13 #[.int .i64 a,.int .i64 b,.int .i64 c,.slice A n cp,.slice (some ⟨kb,0,none⟩) kn kc] w fun e w'=>e=.returned (.bool true)∧Below w.heap.size w w':=by
 have HTB:=Lib.hid hA.tbl
 have HA:=Lib.hid hA
 have hnn:=hl.1
 have HL:=Lib.hid hl
 have HKS:=Lib.hid hks
 have HKI:=Lib.hid hki
 have HBG:=Lib.hid (begin_any (Below.refl w.heap.size w) (Nat.le_refl _) HTB.out a b c)
 clear hA hl hks hki
 go_enter Tryz.func13,Tryz.ntmps13
 go_wp2_with fail
 refine HBG.out.mono ?_
 rintro e w1 ⟨r,p,Ar0,rfl,hg,hn1,hN⟩
 have HG1:=Lib.hid hg
 have HN:=Lib.hid (And.intro hn1 hN)
 have HA1:=Lib.hid (HA.out.over hg.bel.1)
 clear hg hn1 hN HBG
 have HLI:=Lib.hid (lives_true w1 HA1.out.tabs HA1.out.fld HA1.out.wid)
 go_wp2_with fail
 refine HLI.out.mono ?_
 rintro e w2 ⟨rfl,hb2⟩
 have H0:Hid (∃kd,Good w.heap.size w p r Ar0 kd (2000000+1000*0) (1+0) w2):=Lib.hid ⟨_,(HG1.out.grown hb2).more (by omega) (Nat.le_refl _)⟩
 clear hb2 HLI HG1 HA1
 go_wp2_with fail
 go_loopw [12] (fun i wr=>∃k:Nat,k≤n∧k≤150∧i=.int .i64 k∧Hid (∃kd,Good w.heap.size w p r Ar0 kd (2000000+1000*k) (1+k) wr)) (fun i _=>150-(intOf i).toNat)
 case atStart=>exact ⟨0,Nat.zero_le _,Nat.zero_le _,rfl,H0⟩
 case round =>
  obtain ⟨k,hk,hk2,rfl,HBr⟩:=hrel
  clear H0
  by_cases hlt:k<n∧k<150
  ·obtain ⟨hlt,hlt2⟩:=hlt
   have q3:(k:Int)<(n:Int):=by omega
   have q4:(k:Int)<150:=by omega
   obtain ⟨b0,off0,rfl,hbl,hop⟩:=HL.out.2 (by omega)
   have hop:=hop k hlt
   have HOP:=Lib.hid hop
   have d0:=fun W' (hb:Below w.heap.size w W')=>(hb.cell (p:=⟨b0,off0+k*5,none⟩) hbl).trans hop.c0
   have dk:=fun W' (hb:Below w.heap.size w W') j (hj:j<kn)=>(hb.cell (p:=⟨kb,j,none⟩) hkb).trans (HKS.out j hj)
   have HDK:=Lib.hid dk
   have hbr:Below w.heap.size w wr:=by obtain ⟨kd,hg⟩:=HBr.out;exact hg.bel.1
   have H1:Hid (Below w.heap.size w wr∧Below wr.heap.size wr wr∧(false=true→∃j,j<kn∧ks j=(f k).kind)):=Lib.hid ⟨hbr,Below.refl _ _,fun e=>by cases e⟩
   have HB0:=Lib.hid hbr
   clear hop dk hbr
   generalize hkd:(f k).kind=kind at *
   have HKD:=Lib.hid hkd
   clear hkd
   go_wp2_with fail
   go_loopw [13,14] (fun s13 s14 wr2=>∃(i:Nat) (b:Bool),i≤kn∧s13=.bool b∧s14=.int .i64 i∧Hid (Below w.heap.size w wr2∧Below wr.heap.size wr wr2∧(b=true→∃j,j<kn∧ks j=kind))) (fun _ i _=>kn-(intOf i).toNat)
   case atStart=>exact ⟨0,false,Nat.zero_le _,rfl,rfl,H1⟩
   case round =>
    obtain ⟨i,b,hi,rfl,rfl,HI⟩:=hrel
    clear H1
    by_cases hli:i<kn
    ·have q5:(i:Int)<(kn:Int):=by omega
     have e0:=fun W' (hb:Below wr.heap.size wr W')=>d0 W' (HI.out.1.trans (hb.mono HI.out.1.size))
     have e1:=fun W' (hb:Below wr.heap.size wr W')=>HDK.out W' (HI.out.1.trans (hb.mono HI.out.1.size)) i hli
     have HBD:=Lib.hid (And.intro (HI.out.1.trans (((Below.refl wr.heap.size wr).drew).mono HI.out.1.size)) (HI.out.2.1.trans (((Below.refl wr.heap.size wr).drew).mono HI.out.2.1.size)))
     clear d0
     have HKI1:=Lib.hid (show ks i=kind→∃j,j<kn∧ks j=kind from fun e=>⟨i,hli,e⟩)
     generalize ks i=ki at *
     cases b with
     | true =>
      go_wp2_with fail
      refine wp_region_held_drew (S:=fun W'=>Below wr.heap.size wr W') (by kernel_rfl) ((Below.refl _ _).drew) (fun hHeld=>?_)
      refine tk 0 41 ?_
      refine tk 1 42 ?_
      refine tu 2 43 ?_
      refine tu 3 44 ?_
      refine tu 4 45 ?_
      refine tu 5 46 ?_
      refine tu 6 47 ?_
      refine tu 7 48 ?_
      refine tu 8 49 ?_
      refine tu 9 50 ?_
      refine tu 10 51 ?_
      refine tu 11 52 ?_
      refine tk 12 53 ?_
      refine tk 13 13 ?_
      refine wpAnyH_done (by kernel_rfl) ?_ _
      go_wp2_with fail
      refine ⟨⟨i+1,true,by omega,rfl,by go_num,Lib.hid ⟨HBD.out.1,HBD.out.2,fun _=>HI.out.2.2 trivial⟩⟩,?_⟩
      simp [intOf]
      omega
     | false =>
      obtain ⟨qq,hqq⟩:∃qq,(ki == kind)=qq:=⟨_,rfl⟩
      have HQ:=Lib.hid hqq
      go_wp2_with fail
      refine wp_region_held_drew (S:=fun W'=>Below wr.heap.size wr W') (by kernel_rfl) ((Below.refl _ _).drew) (fun hHeld=>?_)
      refine tk 0 41 ?_
      refine tk 1 42 ?_
      refine tk 2 43 ?_
      refine tk 3 44 ?_
      refine tk 4 45 ?_
      refine tk 5 46 ?_
      refine tk 6 47 ?_
      refine tk 7 48 ?_
      refine tk 8 49 ?_
      refine tk 9 50 ?_
      refine tk 10 51 ?_
      refine tk 11 52 ?_
      refine tk 12 53 ?_
      refine tk 13 13 ?_
      refine wpAnyH_done (by kernel_rfl) ?_ _
      have hnx:Hid (qq=true→∃j,j<kn∧ks j=kind):=Lib.hid (fun e=>HKI1.out (by have:=HQ.out;rw [e] at this;simpa using this))
      clear hqq HQ
      go_wp2_with fail
      refine ⟨⟨i+1,qq,by omega,rfl,by go_num,Lib.hid ⟨HBD.out.1,HBD.out.2,hnx.out⟩⟩,?_⟩
      simp [intOf]
      omega
    ·have hik:i=kn:=by omega
     clear d0
     have HG2:Hid (∃kd,Good w.heap.size w p r Ar0 kd (2000000+1000*k) (1+k) wr):=Lib.hid (by obtain ⟨kd,hg⟩:=HBr.out;exact ⟨kd,hg.grown HI.out.2.1⟩)
     cases b with
     | true =>
      have HKN:Hid (IsKind (f k).kind):=Lib.hid (by obtain ⟨j,hj,e⟩:=HI.out.2.2 rfl;rw [HKD.out,← e];exact HKI.out j hj)
      have hb1:=HI.out.1
      have hop:=HOP.out
      have x0:=(hb1.cell (p:=⟨b0,off0+k*5,none⟩) hbl).trans hop.c0
      have x1:=(hb1.cell (p:=⟨b0,off0+k*5+1,none⟩) hbl).trans hop.c1
      have x2:=(hb1.cell (p:=⟨b0,off0+k*5+2,none⟩) hbl).trans hop.c2
      have x3:=(hb1.cell (p:=⟨b0,off0+k*5+3,none⟩) hbl).trans hop.c3
      have x4:=(hb1.cell (p:=⟨b0,off0+k*5+4,none⟩) hbl).trans hop.c4
      have HDO:Hid (Calls Tryz.prog 16 #[.pointer (some ⟨r,0,none⟩),opV (f k)] wr fun e w'=>e=.returned (.bool true)∧∃kd',Good w.heap.size w p r Ar0 kd' (2000000+1000*k+1000) (1+k+1) w'):=Lib.hid (by
       obtain ⟨kd,hg⟩:=HG2.out
       exact do_any hg rfl HTB.out (by omega) (by omega) (by omega) (by omega) HN.out.2 HN.out.1 (f k) HKN.out hop.b1 hop.b2 hop.b3 hop.b4 hop.keep)
      unfold opV at HDO
      clear hb1 hop HG2
      generalize (f k).kind=kd0 at *
      generalize (f k).n=kd1 at *
      generalize (f k).at_=kd2 at *
      generalize (f k).x=kd3 at *
      generalize (f k).A=kd4 at *
      generalize (f k).m=kd5 at *
      generalize (f k).c=kd6 at *
      go_wp2_with fail
      refine HDO.out.mono ?_
      rintro e w3 ⟨rfl,hg3⟩
      have HG3:Hid (∃kd,Good w.heap.size w p r Ar0 kd (2000000+1000*(k+1)) (1+(k+1)) w3):=Lib.hid (by
       obtain ⟨kd',hg⟩:=hg3
       exact ⟨kd',hg.more (by omega) (by omega)⟩)
      clear hg3 HDO
      go_wp2_with fail
      refine ⟨⟨k+1,by omega,by omega,by go_num,HG3⟩,?_⟩
      simp [intOf]
      omega
     | false =>
      have HG3:Hid (∃kd,Good w.heap.size w p r Ar0 kd (2000000+1000*(k+1)) (1+(k+1)) wr):=Lib.hid (by
       obtain ⟨kd',hg⟩:=HG2.out
       exact ⟨kd',hg.more (by omega) (by omega)⟩)
      clear HG2
      go_wp2_with fail
      refine ⟨⟨k+1,by omega,by omega,by go_num,HG3⟩,?_⟩
      simp [intOf]
      omega
  ·have q3:¬((k:Int)<(n:Int)∧(k:Int)<150):=by omega
   have HCR:Hid (Calls Tryz.prog 17 #[.pointer (some ⟨r,0,none⟩),.slice none 0 0,.int .i64 (-1)] wr fun e w'=>e=.returned (.bool true)∧Below w.heap.size w w'):=Lib.hid (by
    obtain ⟨kd,hg⟩:=HBr.out
    exact (crash_last hg rfl HTB.out (by omega) (by omega) (by omega) HN.out.2 none 0 0 (keep_none _ _) (by decide)).mono fun _ _ h=>⟨h.1,h.2.bel.1⟩)
   clear HBr
   by_cases hkn2:k<n
   ·have q5:(k:Int)<(n:Int):=by omega
    have q6:¬((k:Int)<150):=by omega
    go_wp2_with fail
    refine HCR.out.mono ?_
    rintro e w3 ⟨rfl,hb⟩
    have HB:=Lib.hid hb
    clear hb
    go_wp2
    go_ret
    exact ⟨rfl,HB.out⟩
   ·have q5:¬((k:Int)<(n:Int)):=by omega
    go_wp2_with fail
    refine HCR.out.mono ?_
    rintro e w3 ⟨rfl,hb⟩
    have HB:=Lib.hid hb
    clear hb
    go_wp2
    go_ret
    exact ⟨rfl,HB.out⟩
end
end Go.Proofs.YthhldceidmphfaaGreatDoor.U
