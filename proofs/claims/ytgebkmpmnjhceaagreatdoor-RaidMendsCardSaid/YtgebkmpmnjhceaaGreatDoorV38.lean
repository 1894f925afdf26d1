/-
  What the statement's proof rests on, part 38.
  Conditions: each theorem's own.
-/
import Derived.Test.YtgebkmpmnjhceaaGreatDoorV37
import Derived.Test.YtgebkmpmnjhceaaGreatDoorV36
import Derived.Test.YtgebkmpmnjhceaaGreatDoorVtk
open Go.Lib (hid)
namespace Go.Proofs.YtgebkmpmnjhceaaGreatDoor.U
open Go.ChangeShapes Go.WideShapes Go.ChangeAt Go.RowKit Go.Maps
section
theorem begun {J:Vk} {w:World} {r M St L n:Nat} {S:Sh.Sf} {o:Nat->Int} {F:Nat->Prop} (h:Rig J w r (arOf (newSaid M St L) n L M St) S o noSet noSet F false (fun _=>[Sh.noughts]) 100) (hb:Born S n 40 M St L o) (m3:3<=M) (m16:M<=16) (s1:1<=St) (s2:St<=1024) (l1:1<=L) (l2:L<=8) (hn:n=M\/n=M+1) (hbk:2+2*L+St<=blk 40) :
  Good J.B J.W J.p r (arOf (newSaid M St L) n L M St) false 100 1 w:=by
 obtain ⟨q1,q2,q3⟩:=hb.ci h.vr.vo.ds.on.shelf m3 m16 s2 l1 l2 hn hbk
 refine ⟨J,_,S,o,gh0,noSet,noSet,F,_,rfl,rfl,rfl,⟨rfl,rfl,rfl,rfl⟩,h,⟨q1.fi.ci,said_new m3 m16 s1 s2 l1 l2 hn,fun _ _ _ _ e=>e.elim,fun _ _ _ e=>e.elim,fun j hj=>⟨List.mem_singleton.2 rfl,fun old e=>by cases e⟩,fun _=>q1⟩,fun _ j hj=>⟨by simp,rfl⟩,fun j hj=>Nat.le_refl 1⟩
def Begun (B:Nat) (W:World) (p r M St L:Nat) (w:World):Prop :=
 ∃J S o F,J.B=B/\J.W=W/\J.p=p/\Rig J w r (arOf (newSaid M St L) (M+1) L M St) S o noSet noSet F false (fun _=>[Sh.noughts]) 100/\Born S (M+1) 40 M St L o/\3<=M/\M<=16/\1<=St/\St<=6/\1<=L/\L<=8/\St*(M-1)<=90
theorem BegI.kept {J:Vk} {w3 w4:World} {r tq i q':Nat} {A:Ar} {S:Sh.Sf} {o:Nat->Int} {F:Nat->Prop} {s:Value} {g:Nat->Nat} (h:BegI J w3 r tq A S o F i s g) (ha:(∃c,s=.slice (some ⟨q',0,none⟩) i c/\w3.grownBy w4 (some q'))\/(q'=w3.heap.size/\Below w3.heap.size w3 w4)):w4.cell? ⟨r,5,none⟩=some s/\w4.frozen? ⟨r,5,none⟩=false:=by
 obtain ⟨k1,k2⟩:=h.cells
 have hlt:=h.lt r (.inr (.inl rfl))
 have hb:w4.heap[r]?=w3.heap[r]?:=by
  rcases ha with ⟨c,e,hg⟩ | ⟨_,hb⟩
  ·exact hg.block r hlt fun e2=>(h.own q' i c e).2.1 (by injection e2 with e2;rw [e2];exact .inl (.inr (.inl rfl)))
  ·exact hb.block r hlt
 exact ⟨(World.cell?_of_block (w:=w3) (a:=⟨r,5,none⟩) hb).trans k1,(World.frozen?_of_block (w:=w3) (a:=⟨r,5,none⟩) hb).trans k2⟩
set_option maxRecDepth 20000 in
set_option maxHeartbeats 8000000 in
theorem begin_full {B:Nat} {W w:World} (hb:Below B W w) (hB:B<=w.heap.size) (hT:Tb4 B W) (a b c:Int) :
  Calls Tryz.prog 7 #[.int .i64 a,.int .i64 b,.int .i64 c] w fun e w'=>∃r p M St L,e=.returned (.pointer (some ⟨r,0,none⟩))/\Begun B W p r M St L w'/\(L:Int)=1+c%8/\(St:Int)=1+b%6:=by
 obtain ⟨k1,hk1⟩:∃k,(a%(14:Nat)).toNat=k:=⟨_,rfl⟩
 obtain ⟨k2,hk2⟩:∃k,(b%(6:Nat)).toNat=k:=⟨_,rfl⟩
 obtain ⟨k3,hk3⟩:∃k,(c%(8:Nat)).toNat=k:=⟨_,rfl⟩
 have HM1:=hid (mod8_any a 14 (by decide) (by decide) w)
 have HM2:=hid (mod8_any b 6 (by decide) (by decide) w)
 have HM3:=hid (mod8_any c 8 (by decide) (by decide) w)
 rw [hk1] at HM1
 rw [hk2] at HM2
 rw [hk3] at HM3
 have q1:k1<14:=by omega
 have q2:k2<6:=by omega
 have q3:k3<8:=by omega
 obtain ⟨M,hM⟩:∃M:Nat,M=3+k1:=⟨_,rfl⟩
 obtain ⟨St,hSt⟩:∃M:Nat,M=1+k2:=⟨_,rfl⟩
 obtain ⟨L,hL⟩:∃M:Nat,M=1+k3:=⟨_,rfl⟩
 obtain ⟨N1,hN1⟩:∃M1:Nat,M1=M+1:=⟨_,rfl⟩
 obtain ⟨M1,hM1⟩:∃M1:Nat,M1=M-1:=⟨_,rfl⟩
 have e1:3+(k1:Int)=(M:Int):=by omega
 have e2:1+(k2:Int)=(St:Int):=by omega
 have e3:1+(k3:Int)=(L:Int):=by omega
 have e4:(M:Int)+1=(N1:Int):=by omega
 have HQ:=hid (show (3<=M/\M<=16)/\(1<=St/\St<=6)/\(1<=L/\L<=8)/\N1=M+1/\M1=M-1 by omega)
 have HNB:=hid (show St*M1<=90 from Nat.le_trans (Nat.mul_le_mul (show St<=6 by omega) (show M1<=15 by omega)) (by decide))
 have b1:M<=16:=by omega
 have b2:St<=6:=by omega
 have b3:L<=8:=by omega
 have b4:N1<=17:=by omega
 have HLC:=hid (show (L:Int)=1+c%8/\(St:Int)=1+b%6 by omega)
 clear hk1 hk2 hk3 hM hSt hL hN1 hM1
 go_enter Tryz.func7,Tryz.ntmps7
 go_wp2_with fail
 refine HM1.out.mono ?_
 rintro e w' ⟨rfl,rfl⟩
 go_wp2_with fail
 refine HM2.out.mono ?_
 rintro e w' ⟨rfl,rfl⟩
 go_wp2_with fail
 refine HM3.out.mono ?_
 rintro e w' ⟨rfl,rfl⟩
 clear HM1 HM2 HM3
 go_wp2_with fail
 refine (Sh.new_ok N1 40 _ (by have:=HQ.out;omega) (by omega) (by decide) (by decide)).mono ?_
 rintro e w2 ⟨p,F1,rfl,hS,hF,hb2⟩
 have hrowA:=heap_alloc_new w (.cells #[.pointer none,.pointer none,.int .i64 M,.int .i64 St,.int .i64 L,.slice none 0 0,.bool false,.slice none 0 0,.bool false] 39)
 have hszA:w.heap.size<(w.alloc (.cells #[.pointer none,.pointer none,.int .i64 M,.int .i64 St,.int .i64 L,.slice none 0 0,.bool false,.slice none 0 0,.bool false] 39)).heap.size:=by simp
 have hrow2:=(hb2.block w.heap.size hszA).trans hrowA
 have hrlt2:=(Array.getElem?_eq_some_iff.1 hrow2).1
 have hnF:¬F1 w.heap.size:=fun e=>by have:=hF _ e;omega
 have AT:Sh.At B W w2 p (Sh.newSf N1 40) F1:=⟨hS,fun b e=>by have:=hF b e;omega,(hb.alloc hB _).trans (hb2.mono (by omega)),by omega⟩
 clear hS hF hb2 hrowA hszA hb
 generalize w.heap.size=r at *
 have ATd:=AT.grown ((Below.refl w2.heap.size w2).drew)
 have c2:=cell_of_row _ _ 2 _ _ _ hrow2
 have c3:=cell_of_row _ _ 3 _ _ _ hrow2
 have c4:=cell_of_row _ _ 4 _ _ _ hrow2
 have HKP:Hid (∀(w3:World) (J:Vk) (F3:Nat->Prop),Sh.Moves F1 w2.drew (AllV J F3) w3->w3.heap[r]?=w2.heap[r]?/\¬AllV J F3 r):=hid fun w3 J F3 mv=>⟨mv.1.block r hrlt2 hnF,fun e=>(mv.2 r e).elim hnF fun e2=>absurd hrlt2 (Nat.not_lt.2 e2)⟩
 have HS:Hid (∀(w3:World) (J:Vk) (F3:Nat->Prop),Sh.Moves F1 w2.drew (AllV J F3) w3->w3.cell? ⟨r,2,none⟩=some (.int .i64 M)/\w3.cell? ⟨r,3,none⟩=some (.int .i64 St)/\w3.cell? ⟨r,4,none⟩=some (.int .i64 L)):=hid fun w3 J F3 mv =>
  ⟨(World.cell?_of_block (w:=w2) (a:=⟨r,2,none⟩) (HKP.out w3 J F3 mv).1).trans c2,(World.cell?_of_block (w:=w2) (a:=⟨r,3,none⟩) (HKP.out w3 J F3 mv).1).trans c3,(World.cell?_of_block (w:=w2) (a:=⟨r,4,none⟩) (HKP.out w3 J F3 mv).1).trans c4⟩
 have HCR:=hid (create_new ATd hT.tabs hT.tb hT.wid hT.wb M St L (by have:=HQ.out;omega) (by omega) (by have:=HQ.out;omega) (by omega) (by have:=HQ.out;omega) (by omega) (by have:=HQ.out;omega) (by rw [blk40'];omega))
 have HR2:=hid (And.intro hrow2 hrlt2)
 clear AT ATd hnF hrow2 hrlt2
 go_wp2_with fail
 refine wp_region_held_drew (S:=fun W'=>W'.cell? ⟨r,2,none⟩=some (.int .i64 M)/\W'.cell? ⟨r,3,none⟩=some (.int .i64 St)/\W'.cell? ⟨r,4,none⟩=some (.int .i64 L)) (by kernel_rfl) ⟨c2,c3,c4⟩ (fun hHeld=>?_)
 refine tk 0 39 ?_
 refine tk 1 40 ?_
 refine tk 2 41 ?_
 refine tk 3 42 ?_
 refine wpAnyH_take (i:=4) (oi:=⟨some 43,_,_,_,_,_⟩) (v:=?_) rfl (by kernel_rfl) (by kernel_rfl) (by kernel_rfl) (fun _ _ _ h=>h) (Or.inl ⟨by rfl,?_⟩) (by assumption) ?_
 rotate_left
 ·(intro w hSw;obtain ⟨hS2,hS3,hS4⟩:=hSw;(try dsimp only at hSw);go_simp;first | done | with_reducible rfl)
 try simp only [Act.put,List.setIfInBounds_toArray,List.set_cons_zero,List.set_cons_succ]
 refine tk 5 44 ?_
 refine tk 6 45 ?_
 refine tk 7 46 ?_
 refine wpAnyH_take (i:=8) (oi:=⟨some 47,_,_,_,_,_⟩) (v:=?_) rfl (by kernel_rfl) (by kernel_rfl) (by kernel_rfl) (fun _ _ _ h=>h) (Or.inl ⟨by rfl,?_⟩) (by assumption) ?_
 rotate_left
 ·(intro w hSw;obtain ⟨hS2,hS3,hS4⟩:=hSw;(try dsimp only at hSw);go_simp;first | done | with_reducible rfl)
 try simp only [Act.put,List.setIfInBounds_toArray,List.set_cons_zero,List.set_cons_succ]
 refine tk 9 48 ?_
 refine tk 10 49 ?_
 refine tk 11 50 ?_
 refine wpAnyH_take (i:=12) (oi:=⟨some 51,_,_,_,_,_⟩) (v:=?_) rfl (by kernel_rfl) (by kernel_rfl) (by kernel_rfl) (fun _ _ _ h=>h) (Or.inl ⟨by rfl,?_⟩) (by assumption) ?_
 rotate_left
 ·(intro w hSw;obtain ⟨hS2,hS3,hS4⟩:=hSw;(try dsimp only at hSw);go_simp;first | done | with_reducible rfl)
 try simp only [Act.put,List.setIfInBounds_toArray,List.set_cons_zero,List.set_cons_succ]
 refine r1 13 (some 52) fun K hK=>?_
 go_simp
 refine (HCR.out).mono ?_
 rintro e w3 ⟨J,F3,o3,S3,rfl,hJB,hJW,hJp,hJn,hJL,V3,hbn,mv3⟩
 refine hK.out _ _ (HS.out _ _ _ mv3) (fun hHeld=>?_)
 clear hK K
 try simp only [Act.put,List.setIfInBounds_toArray,List.set_cons_zero,List.set_cons_succ]
 refine tk 14 38 ?_
 refine tk 15 53 ?_
 refine tk 16 54 ?_
 refine tk 17 10 ?_
 refine tk 18 9 ?_
 refine wpAnyH_done (by kernel_rfl) ?_ _
 obtain ⟨hkp,hout⟩:=HKP.out _ _ _ mv3
 obtain ⟨hrow2,hrlt2⟩:=HR2.out
 have hrow3:=hkp.trans hrow2
 have hrlt3:=(Array.getElem?_eq_some_iff.1 hrow3).1
 have hlow:J.B<=r:=by rw [hJB];exact hB
 have hN1M:N1=M\/N1=M+1:=.inr HQ.out.2.2.2.1
 have hbk:2+2*L+St<=blk 40:=by rw [blk40'];omega
 obtain ⟨q1',q2',q3'⟩:=hbn.ci V3.vo.ds.on.shelf HQ.out.1.1 HQ.out.1.2 (by omega) HQ.out.2.2.1.1 HQ.out.2.2.1.2 hN1M hbk
 have hFi:=fits_ci q1'.fi.ci (said_new HQ.out.1.1 HQ.out.1.2 HQ.out.2.1.1 (by omega) HQ.out.2.2.1.1 HQ.out.2.2.1.2 hN1M)
 have hFJ:Fits J.n J.L (newSaid M St L) M St S3:=by rw [hJn,hJL];exact hFi
 have hlog:∀i,i<J.n->J.gn i≠r:=fun i hi e=>by
  have hl:w3.heap[J.gn i]?=_:=V3.logs.log i hi
  have e1:=hrow3
  rw [<- e,hl] at e1
  injection e1 with e1
  injection e1 with e1
  have e2:(2:Nat)=9:=congrArg Array.size e1
  exact absurd e2 (by decide)
 obtain ⟨N,hN⟩:∃N:Nat,N=St*(M-1):=⟨_,rfl⟩
 have hN1:N=St*M1:=by rw [hN,HQ.out.2.2.2.2]
 have hN90:N<=90:=by rw [hN1];exact HNB.out
 have HNE:=hid hN
 have HSZ:Hid (∀W,Below w3.heap.size w3 W->Calls Tryz.prog 25 #[.pointer (some ⟨J.v,0,none⟩)] W fun e w'=>e=.returned (.int .i64 (N:Int))/\Below W.heap.size W w'):=hid fun W hb=>by rw [hN];exact vsize (V3.grown hb) hFJ
 have k2:=fun W' (hb:Below w3.heap.size w3 W')=>(hb.cell (p:=⟨r,2,none⟩) hrlt3).trans (cell_of_row _ _ 2 _ _ _ hrow3)
 have k3:=fun W' (hb:Below w3.heap.size w3 W')=>(hb.cell (p:=⟨r,3,none⟩) hrlt3).trans (cell_of_row _ _ 3 _ _ _ hrow3)
 have HK3:=hid (And.intro hrow3 (And.intro V3 (And.intro hout (And.intro hlog (And.intro hFJ hbn)))))
 have hwm:IntKind.i64.wrap ((M:Int)-1)=(M1:Int):=(IntWalk.i64_in _ ⟨by omega,by omega⟩).trans (by have:=HQ.out;omega)
 have hwp:IntKind.i64.wrap ((St:Int)*(M1:Int))=(N:Int):=by
  have e:(St:Int)*(M1:Int)=(N:Int):=by rw [hN1];simp
  rw [e]
  exact IntWalk.i64_in _ ⟨by omega,by omega⟩
 clear hkp hrow2 hrlt2 hrow3 HR2 HKP HS HCR hFi q1' q2' q3' hFJ hbn V3 mv3 hout hlog hN hN1 c2 c3 c4 hHeld
 go_wp2_with fail
 refine wp_region_held_drew (S:=fun W'=>Below w3.heap.size w3 W') (by kernel_rfl) ((Below.refl _ _).drew) (fun hHeld=>?_)
 refine tk 0 55 ?_
 refine tk 1 56 ?_
 refine tk 2 57 ?_
 refine tk 3 58 ?_
 refine tk 4 59 ?_
 refine tk 5 60 ?_
 refine tk 6 61 ?_
 refine tk 7 62 ?_
 refine tk 9 64 ?_
 refine tk 10 65 ?_
 refine tk 11 66 ?_
 refine tk 12 67 ?_
 refine tk 13 68 ?_
 refine tk 14 69 ?_
 refine tk 15 70 ?_
 refine tk 16 71 ?_
 refine tk 17 72 ?_
 refine tk 18 73 ?_
 refine r1 8 (some 63) fun K hK=>?_
 go_simp
 refine (HSZ.out _ hHeld).mono ?_
 rintro e w4 ⟨rfl,hb4⟩
 refine hK.out _ _ (hHeld.trans (hb4.mono hHeld.size)) (fun hHeld=>?_)
 clear hK K
 try simp only [Act.put,List.setIfInBounds_toArray,List.set_cons_zero,List.set_cons_succ]
 refine tk 19 74 ?_
 refine tk 20 75 ?_
 refine wpAnyH_done (by kernel_rfl) ?_ _
 obtain ⟨hrow3,V3,hout,hlog,hFJ,hbn⟩:=HK3.out
 have hrow4:=(hHeld.block r hrlt3).trans hrow3
 have x0:=cell_of_row _ _ 0 _ _ _ hrow4
 have x1:=cell_of_row _ _ 1 _ _ _ hrow4
 have x3:=cell_of_row _ _ 3 _ _ _ hrow4
 have f0:=frozen_of_row _ _ 0 _ _ hrow4
 have f1:=frozen_of_row _ _ 1 _ _ hrow4
 obtain ⟨w6,hmk,hb6,hq1,hq2,hq3⟩:=make_bools ((w4.setCell ⟨r,0,none⟩ (.pointer (some ⟨p,0,none⟩))).setCell ⟨r,1,none⟩ (.pointer (some ⟨J.v,0,none⟩))) St (by omega)
 have hrow5:=heap_setCell_same _ r 1 _ _ (.pointer (some ⟨J.v,0,none⟩)) (heap_setCell_same w4 r 0 _ _ (.pointer (some ⟨p,0,none⟩)) hrow4)
 have hrow6:=(hb6.block r (Array.getElem?_eq_some_iff.1 hrow5).1).trans hrow5
 have ho5:Sh.Only (fun b=>b=r) w4 ((w4.setCell ⟨r,0,none⟩ (.pointer (some ⟨p,0,none⟩))).setCell ⟨r,1,none⟩ (.pointer (some ⟨J.v,0,none⟩))):=((Sh.Only.refl (fun b=>b=r) w4).setCell (p:=⟨r,0,none⟩) (.inl rfl) _).setCell (p:=⟨r,1,none⟩) (.inl rfl) _
 have V5:=only_vr (V3.grown hHeld) ho5 hout hlow hlog
 have V6:=V5.grown hb6
 have e5:((w4.setCell ⟨r,0,none⟩ (.pointer (some ⟨p,0,none⟩))).setCell ⟨r,1,none⟩ (.pointer (some ⟨J.v,0,none⟩))).heap.size=w4.heap.size:=by simp
 rw [e5] at hmk hq1 hq2 hq3
 have x7:=cell_of_row _ _ 7 _ _ _ hrow6
 have f7:=frozen_of_row _ _ 7 _ _ hrow6
 have hr4:=(Array.getElem?_eq_some_iff.1 hrow4).1
 have TQS:Hid (Tqs (w6.setCell ⟨r,7,none⟩ (.slice (some ⟨w4.heap.size,0,none⟩) St St)) J.B w4.heap.size St (fun _=>false)/\¬RG J r F3 w4.heap.size):=hid (by
  have V4:=V3.grown hHeld
  refine ⟨Tqs.kept ⟨V4.size,hq1,hq2,hq3⟩ (heap_setCell_other w6 ⟨r,7,none⟩ _ _ (by show w4.heap.size≠r;omega)),fun e=>?_⟩
  rcases e with e | e | ⟨i,hi,e⟩
  ·exact Nat.lt_irrefl _ (V4.lt _ e)
  ·omega
  ·have:=World.block_lt_of_cell? w4 _ (V4.logs.log i hi).c0
   dsimp only at this
   omega)
 have H0:Hid (BegI J (w6.setCell ⟨r,7,none⟩ (.slice (some ⟨w4.heap.size,0,none⟩) St St)) r w4.heap.size (arOf (newSaid M St L) N1 L M St) S3 o3 F3 0 (.slice none 0 0) (fun _=>0)):=hid
  ⟨only_vr V6 ((Sh.Only.refl (fun b=>b=r) w6).setCell (p:=⟨r,7,none⟩) (.inl rfl) _) hout hlow hlog,by rw [hJp];exact heap_setCell_same w6 r 7 _ _ (.slice (some ⟨w4.heap.size,0,none⟩) St St) hrow6,hlow,hout,hlog,TQS.out.1,TQS.out.2,.inl ⟨rfl,rfl,rfl⟩,(fun j hj=>absurd hj (Nat.not_lt_zero j)),(fun j k hj=>absurd hj (Nat.not_lt_zero j)),(fun q n c e=>by cases e)⟩
 have HK6:=hid (And.intro hFJ hbn)
 clear hr4 TQS hq1 hq2 hq3 hrow3 V3 hout hlog hFJ hbn hrow4 hb6 hrow5 hrow6 ho5 V5 V6 e5 hHeld k2 k3 HSZ hwm hwp HK3 hb4
 go_wp2_with fail
 clear hmk
 generalize w4.heap.size=tq at *
 obtain ⟨sn,hsn⟩:∃sn,Sh.strL Sh.noughts=sn:=⟨_,rfl⟩
 have HSN:=hid hsn
 clear hsn x0 x1 x3 f0 f1 x7 f7
 go_loopw [11] (fun i wr=>∃(k:Nat) (s:Value) (g:Nat->Nat),k<=N/\i=.int .i64 k/\Hid (BegI J wr r tq (arOf (newSaid M St L) N1 L M St) S3 o3 F3 k s g)) (fun i _=>N-(intOf i).toNat)
 case atStart=>exact ⟨0,_,_,Nat.zero_le _,rfl,H0⟩
 case round =>
  obtain ⟨k,s,g,hk,rfl,HBr⟩:=hrel
  clear H0
  have HSZ:Hid (Calls Tryz.prog 25 #[.pointer (some ⟨J.v,0,none⟩)] wr fun e w'=>e=.returned (.int .i64 (N:Int))/\Below wr.heap.size wr w'):=hid (by rw [HNE.out];exact vsize HBr.out.vr HK6.out.1)
  by_cases hlt:k<N
  ·have q3:(k:Int)<(N:Int):=by omega
   go_wp2_with fail
   refine HSZ.out.mono ?_
   rintro e wz ⟨rfl,hbz⟩
   have HB:=hid (HBr.out.grown hbz)
   clear HBr HSZ hbz
   have KC:Hid (∀W',Below wz.heap.size wz W'->W'.cell? ⟨r,5,none⟩=some s):=hid fun W' hb=>(HB.out.grown hb).cells.1
   have hcz:Below wz.heap.size wz wz.drew:=(Below.refl _ _).drew
   go_wp2_with fail
   refine wp_region_held_drew (S:=fun _=>True) (by kernel_rfl) trivial (fun hHeld=>?_)
   refine tk 0 98 ?_
   refine tk 1 99 ?_
   refine tk 2 100 ?_
   refine tk 3 101 ?_
   refine wpAnyH_ready (rs:=[4,5]) (by kernel_rfl) (by simp) ?_
   refine AllReadyH.cons (o:=⟨some 102,_,_,_,_,_⟩) rfl (fun K hK=>?_) (AllReadyH.cons (o:=⟨some 103,_,_,_,_,_⟩) rfl (fun K hK=>?_) AllReadyH.nil)
   ·have q5:=KC.out _ hcz
    go_simp
    refine hK.out _ _ trivial (fun hHeld=>?_)
    clear hK K
    try simp only [Act.put,List.setIfInBounds_toArray,List.set_cons_zero,List.set_cons_succ]
    clear q5
    refine r1 5 (some 103) fun K hK=>?_
    rw [if_pos (by rfl)]
    refine wp_make128 _ _ rfl rfl rfl (fun wm hom hgm=>?_)
    refine hK.out _ _ trivial (fun hHeld=>?_)
    clear hK K
    try simp only [Act.put,List.setIfInBounds_toArray,List.set_cons_zero,List.set_cons_succ]
    have hcm:Below wz.heap.size wz wm:=hcz.trans (hgm.mono hcz.size)
    have t1:(convert 41 9 (.slice (some ⟨wz.heap.size,0,none⟩) 128 128)).run Tryz.prog wm=.ok (.string sn) wm:=Sh.conv_own hom HSN.out wm (Below.refl _ _)
    refine r1 6 (some 104) fun K hK=>?_
    go_simp
    refine hK.out _ _ trivial (fun hHeld=>?_)
    clear hK K
    try simp only [Act.put,List.setIfInBounds_toArray,List.set_cons_zero,List.set_cons_succ]
    clear t1
    refine r1 7 (some 105) fun K hK=>?_
    go_simp
    refine hK.out _ _ trivial (fun hHeld=>?_)
    clear hK K
    try simp only [Act.put,List.setIfInBounds_toArray,List.set_cons_zero,List.set_cons_succ]
    have hc7:Below wz.heap.size wz (wm.alloc (.cells #[.string sn] 9)):=hcm.trans (((Below.refl _ wm).alloc (Nat.le_refl _) _).mono hcm.size)
    refine r1 8 (some 106) fun K hK=>?_
    go_simp
    refine hK.out _ _ trivial (fun hHeld=>?_)
    clear hK K
    try simp only [Act.put,List.setIfInBounds_toArray,List.set_cons_zero,List.set_cons_succ]
    have hc8:Below wz.heap.size wz ((wm.alloc (.cells #[.string sn] 9)).alloc (.cells #[.slice (some ⟨wm.heap.size,0,none⟩) 1 1] 50)):=hc7.trans (((Below.refl _ _).alloc (Nat.le_refl _) _).mono hc7.size)
    refine r1 9 (some 107) fun K hK=>?_
    have X8:=cell_of_row _ _ 0 _ _ _ (heap_alloc_new (wm.alloc (.cells #[.string sn] 9)) (.cells #[.slice (some ⟨wm.heap.size,0,none⟩) 1 1] 50))
    have hM8:=hid (mids_grown (mids_new wm 9 Sh.noughts) (w':=(wm.alloc (.cells #[Sh.sv Sh.noughts] 9)).alloc (.cells #[.slice (some ⟨wm.heap.size,0,none⟩) 1 1] 50)) ((Below.refl _ _).alloc (Nat.le_refl _) _))
    unfold Sh.sv at hM8
    rw [HSN.out] at hM8
    have hB8:=hid (HB.out.grown hc8)
    rw [if_pos (by rfl)]
    refine wp_append_vals (.tmp 102) (.tmp 106) rfl (s:=s) (v:=.slice (some ⟨wm.heap.size,0,none⟩) 1 1) (n:=k) (cc:=1) rfl rfl hB8.out.tab (by first | exact X8 | simp at X8 ⊢) rfl (by omega) (fun q2 c2 w9 hv ha=>?_)
    have hnx:=hid (HB.out.next hc8 hcm.size hM8.out hv ha)
    have hc9:w9.cell? ⟨r,5,none⟩=some s/\w9.frozen? ⟨r,5,none⟩=false:=hB8.out.kept ha
    obtain ⟨kc9,kf9⟩:=hc9
    refine hK.out _ _ trivial (fun hHeld=>?_)
    clear hK K
    try simp only [Act.put,List.setIfInBounds_toArray,List.set_cons_zero,List.set_cons_succ]
    refine tk 10 108 ?_
    refine tk 11 109 ?_
    refine r1 12 none fun K hK=>?_
    go_simp
    refine hK.out _ _ trivial (fun hHeld=>?_)
    clear hK K
    try simp only [Act.put,List.setIfInBounds_toArray,List.set_cons_zero,List.set_cons_succ]
    refine wpAnyH_done (by kernel_rfl) ?_ _
    clear kc9 kf9
    have hnx2:=hid hnx.out
    go_wp2_with fail
    refine ⟨⟨k+1,_,_,by omega,by go_num,hnx⟩,?_⟩
    simp [intOf]
    omega
   ·rw [if_pos (by rfl)]
    refine wp_make128 _ _ rfl rfl rfl (fun wm hom hgm=>?_)
    refine hK.out _ _ trivial (fun hHeld=>?_)
    clear hK K
    try simp only [Act.put,List.setIfInBounds_toArray,List.set_cons_zero,List.set_cons_succ]
    have hcm:Below wz.heap.size wz wm:=hcz.trans (hgm.mono hcz.size)
    have t1:(convert 41 9 (.slice (some ⟨wz.heap.size,0,none⟩) 128 128)).run Tryz.prog wm=.ok (.string sn) wm:=Sh.conv_own hom HSN.out wm (Below.refl _ _)
    refine wpAnyH_ready (rs:=[4,6]) (by kernel_rfl) (by simp) ?_
    refine AllReadyH.cons (o:=⟨some 102,_,_,_,_,_⟩) rfl (fun K hK=>?_) (AllReadyH.cons (o:=⟨some 104,_,_,_,_,_⟩) rfl (fun K hK=>?_) AllReadyH.nil)
    ·have q5:=KC.out _ hcm
     go_simp
     refine hK.out _ _ trivial (fun hHeld=>?_)
     clear hK K
     try simp only [Act.put,List.setIfInBounds_toArray,List.set_cons_zero,List.set_cons_succ]
     clear q5
     refine r1 6 (some 104) fun K hK=>?_
     go_simp
     refine hK.out _ _ trivial (fun hHeld=>?_)
     clear hK K
     try simp only [Act.put,List.setIfInBounds_toArray,List.set_cons_zero,List.set_cons_succ]
     clear t1
     refine r1 7 (some 105) fun K hK=>?_
     go_simp
     refine hK.out _ _ trivial (fun hHeld=>?_)
     clear hK K
     try simp only [Act.put,List.setIfInBounds_toArray,List.set_cons_zero,List.set_cons_succ]
     have hc7:Below wz.heap.size wz (wm.alloc (.cells #[.string sn] 9)):=hcm.trans (((Below.refl _ wm).alloc (Nat.le_refl _) _).mono hcm.size)
     refine r1 8 (some 106) fun K hK=>?_
     go_simp
     refine hK.out _ _ trivial (fun hHeld=>?_)
     clear hK K
     try simp only [Act.put,List.setIfInBounds_toArray,List.set_cons_zero,List.set_cons_succ]
     have hc8:Below wz.heap.size wz ((wm.alloc (.cells #[.string sn] 9)).alloc (.cells #[.slice (some ⟨wm.heap.size,0,none⟩) 1 1] 50)):=hc7.trans (((Below.refl _ _).alloc (Nat.le_refl _) _).mono hc7.size)
     refine r1 9 (some 107) fun K hK=>?_
     have X8:=cell_of_row _ _ 0 _ _ _ (heap_alloc_new (wm.alloc (.cells #[.string sn] 9)) (.cells #[.slice (some ⟨wm.heap.size,0,none⟩) 1 1] 50))
     have hM8:=hid (mids_grown (mids_new wm 9 Sh.noughts) (w':=(wm.alloc (.cells #[Sh.sv Sh.noughts] 9)).alloc (.cells #[.slice (some ⟨wm.heap.size,0,none⟩) 1 1] 50)) ((Below.refl _ _).alloc (Nat.le_refl _) _))
     unfold Sh.sv at hM8
     rw [HSN.out] at hM8
     have hB8:=hid (HB.out.grown hc8)
     rw [if_pos (by rfl)]
     refine wp_append_vals (.tmp 102) (.tmp 106) rfl (s:=s) (v:=.slice (some ⟨wm.heap.size,0,none⟩) 1 1) (n:=k) (cc:=1) rfl rfl hB8.out.tab (by first | exact X8 | simp at X8 ⊢) rfl (by omega) (fun q2 c2 w9 hv ha=>?_)
     have hnx:=hid (HB.out.next hc8 hcm.size hM8.out hv ha)
     have hc9:w9.cell? ⟨r,5,none⟩=some s/\w9.frozen? ⟨r,5,none⟩=false:=hB8.out.kept ha
     obtain ⟨kc9,kf9⟩:=hc9
     refine hK.out _ _ trivial (fun hHeld=>?_)
     clear hK K
     try simp only [Act.put,List.setIfInBounds_toArray,List.set_cons_zero,List.set_cons_succ]
     refine tk 10 108 ?_
     refine tk 11 109 ?_
     refine r1 12 none fun K hK=>?_
     go_simp
     refine hK.out _ _ trivial (fun hHeld=>?_)
     clear hK K
     try simp only [Act.put,List.setIfInBounds_toArray,List.set_cons_zero,List.set_cons_succ]
     refine wpAnyH_done (by kernel_rfl) ?_ _
     clear kc9 kf9
     have hnx2:=hid hnx.out
     go_wp2_with fail
     refine ⟨⟨k+1,_,_,by omega,by go_num,hnx⟩,?_⟩
     simp [intOf]
     omega
    ·go_simp
     refine hK.out _ _ trivial (fun hHeld=>?_)
     clear hK K
     try simp only [Act.put,List.setIfInBounds_toArray,List.set_cons_zero,List.set_cons_succ]
     clear t1
     refine wpAnyH_ready (rs:=[4,7]) (by kernel_rfl) (by simp) ?_
     refine AllReadyH.cons (o:=⟨some 102,_,_,_,_,_⟩) rfl (fun K hK=>?_) (AllReadyH.cons (o:=⟨some 105,_,_,_,_,_⟩) rfl (fun K hK=>?_) AllReadyH.nil)
     ·have q5:=KC.out _ hcm
      go_simp
      refine hK.out _ _ trivial (fun hHeld=>?_)
      clear hK K
      try simp only [Act.put,List.setIfInBounds_toArray,List.set_cons_zero,List.set_cons_succ]
      clear q5
      refine r1 7 (some 105) fun K hK=>?_
      go_simp
      refine hK.out _ _ trivial (fun hHeld=>?_)
      clear hK K
      try simp only [Act.put,List.setIfInBounds_toArray,List.set_cons_zero,List.set_cons_succ]
      have hc7:Below wz.heap.size wz (wm.alloc (.cells #[.string sn] 9)):=hcm.trans (((Below.refl _ wm).alloc (Nat.le_refl _) _).mono hcm.size)
      refine r1 8 (some 106) fun K hK=>?_
      go_simp
      refine hK.out _ _ trivial (fun hHeld=>?_)
      clear hK K
      try simp only [Act.put,List.setIfInBounds_toArray,List.set_cons_zero,List.set_cons_succ]
      have hc8:Below wz.heap.size wz ((wm.alloc (.cells #[.string sn] 9)).alloc (.cells #[.slice (some ⟨wm.heap.size,0,none⟩) 1 1] 50)):=hc7.trans (((Below.refl _ _).alloc (Nat.le_refl _) _).mono hc7.size)
      refine r1 9 (some 107) fun K hK=>?_
      have X8:=cell_of_row _ _ 0 _ _ _ (heap_alloc_new (wm.alloc (.cells #[.string sn] 9)) (.cells #[.slice (some ⟨wm.heap.size,0,none⟩) 1 1] 50))
      have hM8:=hid (mids_grown (mids_new wm 9 Sh.noughts) (w':=(wm.alloc (.cells #[Sh.sv Sh.noughts] 9)).alloc (.cells #[.slice (some ⟨wm.heap.size,0,none⟩) 1 1] 50)) ((Below.refl _ _).alloc (Nat.le_refl _) _))
      unfold Sh.sv at hM8
      rw [HSN.out] at hM8
      have hB8:=hid (HB.out.grown hc8)
      rw [if_pos (by rfl)]
      refine wp_append_vals (.tmp 102) (.tmp 106) rfl (s:=s) (v:=.slice (some ⟨wm.heap.size,0,none⟩) 1 1) (n:=k) (cc:=1) rfl rfl hB8.out.tab (by first | exact X8 | simp at X8 ⊢) rfl (by omega) (fun q2 c2 w9 hv ha=>?_)
      have hnx:=hid (HB.out.next hc8 hcm.size hM8.out hv ha)
      have hc9:w9.cell? ⟨r,5,none⟩=some s/\w9.frozen? ⟨r,5,none⟩=false:=hB8.out.kept ha
      obtain ⟨kc9,kf9⟩:=hc9
      refine hK.out _ _ trivial (fun hHeld=>?_)
      clear hK K
      try simp only [Act.put,List.setIfInBounds_toArray,List.set_cons_zero,List.set_cons_succ]
      refine tk 10 108 ?_
      refine tk 11 109 ?_
      refine r1 12 none fun K hK=>?_
      go_simp
      refine hK.out _ _ trivial (fun hHeld=>?_)
      clear hK K
      try simp only [Act.put,List.setIfInBounds_toArray,List.set_cons_zero,List.set_cons_succ]
      refine wpAnyH_done (by kernel_rfl) ?_ _
      clear kc9 kf9
      have hnx2:=hid hnx.out
      go_wp2_with fail
      refine ⟨⟨k+1,_,_,by omega,by go_num,hnx⟩,?_⟩
      simp [intOf]
      omega
     ·go_simp
      refine hK.out _ _ trivial (fun hHeld=>?_)
      clear hK K
      try simp only [Act.put,List.setIfInBounds_toArray,List.set_cons_zero,List.set_cons_succ]
      have hc7:Below wz.heap.size wz (wm.alloc (.cells #[.string sn] 9)):=hcm.trans (((Below.refl _ wm).alloc (Nat.le_refl _) _).mono hcm.size)
      refine wpAnyH_ready (rs:=[4,8]) (by kernel_rfl) (by simp) ?_
      refine AllReadyH.cons (o:=⟨some 102,_,_,_,_,_⟩) rfl (fun K hK=>?_) (AllReadyH.cons (o:=⟨some 106,_,_,_,_,_⟩) rfl (fun K hK=>?_) AllReadyH.nil)
      ·have q5:=KC.out _ hc7
       go_simp
       refine hK.out _ _ trivial (fun hHeld=>?_)
       clear hK K
       try simp only [Act.put,List.setIfInBounds_toArray,List.set_cons_zero,List.set_cons_succ]
       clear q5
       refine r1 8 (some 106) fun K hK=>?_
       go_simp
       refine hK.out _ _ trivial (fun hHeld=>?_)
       clear hK K
       try simp only [Act.put,List.setIfInBounds_toArray,List.set_cons_zero,List.set_cons_succ]
       have hc8:Below wz.heap.size wz ((wm.alloc (.cells #[.string sn] 9)).alloc (.cells #[.slice (some ⟨wm.heap.size,0,none⟩) 1 1] 50)):=hc7.trans (((Below.refl _ _).alloc (Nat.le_refl _) _).mono hc7.size)
       refine r1 9 (some 107) fun K hK=>?_
       have X8:=cell_of_row _ _ 0 _ _ _ (heap_alloc_new (wm.alloc (.cells #[.string sn] 9)) (.cells #[.slice (some ⟨wm.heap.size,0,none⟩) 1 1] 50))
       have hM8:=hid (mids_grown (mids_new wm 9 Sh.noughts) (w':=(wm.alloc (.cells #[Sh.sv Sh.noughts] 9)).alloc (.cells #[.slice (some ⟨wm.heap.size,0,none⟩) 1 1] 50)) ((Below.refl _ _).alloc (Nat.le_refl _) _))
       unfold Sh.sv at hM8
       rw [HSN.out] at hM8
       have hB8:=hid (HB.out.grown hc8)
       rw [if_pos (by rfl)]
       refine wp_append_vals (.tmp 102) (.tmp 106) rfl (s:=s) (v:=.slice (some ⟨wm.heap.size,0,none⟩) 1 1) (n:=k) (cc:=1) rfl rfl hB8.out.tab (by first | exact X8 | simp at X8 ⊢) rfl (by omega) (fun q2 c2 w9 hv ha=>?_)
       have hnx:=hid (HB.out.next hc8 hcm.size hM8.out hv ha)
       have hc9:w9.cell? ⟨r,5,none⟩=some s/\w9.frozen? ⟨r,5,none⟩=false:=hB8.out.kept ha
       obtain ⟨kc9,kf9⟩:=hc9
       refine hK.out _ _ trivial (fun hHeld=>?_)
       clear hK K
       try simp only [Act.put,List.setIfInBounds_toArray,List.set_cons_zero,List.set_cons_succ]
       refine tk 10 108 ?_
       refine tk 11 109 ?_
       refine r1 12 none fun K hK=>?_
       go_simp
       refine hK.out _ _ trivial (fun hHeld=>?_)
       clear hK K
       try simp only [Act.put,List.setIfInBounds_toArray,List.set_cons_zero,List.set_cons_succ]
       refine wpAnyH_done (by kernel_rfl) ?_ _
       clear kc9 kf9
       have hnx2:=hid hnx.out
       go_wp2_with fail
       refine ⟨⟨k+1,_,_,by omega,by go_num,hnx⟩,?_⟩
       simp [intOf]
       omega
      ·go_simp
       refine hK.out _ _ trivial (fun hHeld=>?_)
       clear hK K
       try simp only [Act.put,List.setIfInBounds_toArray,List.set_cons_zero,List.set_cons_succ]
       have hc8:Below wz.heap.size wz ((wm.alloc (.cells #[.string sn] 9)).alloc (.cells #[.slice (some ⟨wm.heap.size,0,none⟩) 1 1] 50)):=hc7.trans (((Below.refl _ _).alloc (Nat.le_refl _) _).mono hc7.size)
       refine r1 4 (some 102) fun K hK=>?_
       have q5:=KC.out _ hc8
       go_simp
       refine hK.out _ _ trivial (fun hHeld=>?_)
       clear hK K
       try simp only [Act.put,List.setIfInBounds_toArray,List.set_cons_zero,List.set_cons_succ]
       clear q5
       refine r1 9 (some 107) fun K hK=>?_
       have X8:=cell_of_row _ _ 0 _ _ _ (heap_alloc_new (wm.alloc (.cells #[.string sn] 9)) (.cells #[.slice (some ⟨wm.heap.size,0,none⟩) 1 1] 50))
       have hM8:=hid (mids_grown (mids_new wm 9 Sh.noughts) (w':=(wm.alloc (.cells #[Sh.sv Sh.noughts] 9)).alloc (.cells #[.slice (some ⟨wm.heap.size,0,none⟩) 1 1] 50)) ((Below.refl _ _).alloc (Nat.le_refl _) _))
       unfold Sh.sv at hM8
       rw [HSN.out] at hM8
       have hB8:=hid (HB.out.grown hc8)
       rw [if_pos (by rfl)]
       refine wp_append_vals (.tmp 102) (.tmp 106) rfl (s:=s) (v:=.slice (some ⟨wm.heap.size,0,none⟩) 1 1) (n:=k) (cc:=1) rfl rfl hB8.out.tab (by first | exact X8 | simp at X8 ⊢) rfl (by omega) (fun q2 c2 w9 hv ha=>?_)
       have hnx:=hid (HB.out.next hc8 hcm.size hM8.out hv ha)
       have hc9:w9.cell? ⟨r,5,none⟩=some s/\w9.frozen? ⟨r,5,none⟩=false:=hB8.out.kept ha
       obtain ⟨kc9,kf9⟩:=hc9
       refine hK.out _ _ trivial (fun hHeld=>?_)
       clear hK K
       try simp only [Act.put,List.setIfInBounds_toArray,List.set_cons_zero,List.set_cons_succ]
       refine tk 10 108 ?_
       refine tk 11 109 ?_
       refine r1 12 none fun K hK=>?_
       go_simp
       refine hK.out _ _ trivial (fun hHeld=>?_)
       clear hK K
       try simp only [Act.put,List.setIfInBounds_toArray,List.set_cons_zero,List.set_cons_succ]
       refine wpAnyH_done (by kernel_rfl) ?_ _
       clear kc9 kf9
       have hnx2:=hid hnx.out
       go_wp2_with fail
       refine ⟨⟨k+1,_,_,by omega,by go_num,hnx⟩,?_⟩
       simp [intOf]
       omega
  ·have hkN:k=N:=by omega
   go_wp2_with fail
   refine HSZ.out.mono ?_
   rintro e wz ⟨rfl,hbz⟩
   have HG:Hid (Begun B W J.p r M St L wz):=hid (by
    obtain ⟨hFJ,hbn⟩:=HK6.out
    have h90:=HNE.out
    obtain ⟨⟨r1,r2⟩,⟨r3,r4⟩,⟨r5,r6⟩,r7,r8⟩:=HQ.out
    have hpos:0<St*(M-1):=Nat.mul_pos (by omega) (by omega)
    have hR:=(HBr.out.grown hbz).rig (m:=100) (show k=St*(M-1) from hkN.trans h90) (by rw [hkN,h90];exact hpos) ⟨hbn.waits,⟨tidy_empty,Nat.zero_le _⟩,Nat.zero_le _⟩ hJn hJL
    subst r7
    exact ⟨J,_,_,_,hJB,hJW,rfl,hR,hbn,r1,r2,r3,r4,r5,r6,by rw [<- h90,<- hkN];omega⟩)
   clear HBr HSZ hbz
   go_wp2
   go_ret
   exact ⟨r,J.p,M,St,L,rfl,HG.out,HLC.out⟩
end
section
variable {A:Ar} {S S':Sh.Sf} {g:Nat->Nat->Sh.Bs} {lk:Nat->Nat->Prop} {o:Nat->Int} {D U D' U':Set0} {may:Nat->List Sh.Bs} {y:Int} {e:Stt} {st m:Nat}
theorem fits_ws (h:Ws A S g lk) (hs:Said A):Fits A.n A.L A.s A.M A.St S:=by
 have hn0:0<A.n:=by have:=h.ar.num 0 0 (by have:=h.ar.m3;omega);omega
 have hr:=hs.right 0 hn0
 have hf:=hs.fit
 obtain ⟨r1,r2,r3,r4,r5,r6,r7,r8⟩:=Go.Proofs.YtgebkmpmnjhceaaGreatDoor.S.right_parts hr
 have hm:(saidOf A.s 0).most<=(saidOf A.s 0).str:=by unfold Go.Proofs.YtgebkmpmnjhceaaGreatDoor.S.Sup.most;split<;>omega
 have e1:(saidOf A.s 0).str=A.s.str:=rfl
 have e2:(saidOf A.s 0).mark=A.s.mark:=rfl
 have e3:(saidOf A.s 0).spare=A.s.spare:=rfl
 have h1:=hs.mem
 have h2:=hs.str
 have h3:=hs.logs
 have:=h.ar.m3
 have:=h.ar.l1
 have:=h.ar.l8
 have:=h.ar.s2
 have:=hs.m16
 have:=hs.st1
 unfold Fit at hf
 have e4:(saidOf A.s 0).mem=A.s.mem:=rfl
 exact ⟨h1,h2,h3,by omega,by omega,by omega,by omega,by omega,by omega,by omega,by omega,⟨by omega,by omega⟩,h.len,h.fit⟩
theorem Iw.flushed (h:Iw A S o D U may) (hF:FlR A.n A.L D U S y e D' U') :
  y=0/\D'=noSet/\U'=noSet/\∃g:Nat->Nat->Sh.Bs,Ws A e.S g (fun _ _=>False)/\∀j,j<A.St*(A.M-1)->may j≠[]/\(may j).getD ((may j).length-1) []=g (stOf A.M j) (meOf A.M j):=by
 obtain ⟨h0,h1⟩:=h.flush hF
 have hne:=(keep_w (A:=A) (by obtain ⟨⟨gh,hi,_⟩,_⟩:=h;exact hi.ci.ar) (by obtain ⟨⟨gh,hi,_⟩,_⟩:=h;exact hi.said)).ne h
 obtain ⟨g,w1,w2⟩:=h1.ws
 refine ⟨h0,?_⟩
 obtain ⟨⟨gh,hi,hl⟩,hp,hd⟩:=h
 obtain ⟨q1,q2⟩:=(hi.on hp.1).fi.flush hF
 rcases q2 with ⟨_,e1,e2,_⟩ | ⟨_,e2,_⟩
 ·refine ⟨e1,e2,g,w1,fun j hj=>⟨hne j hj,?_⟩⟩
  have h2:=(w2 j hj).2
  unfold trimAll at h2
  rw [drop_last (hne j hj)] at h2
  simpa [List.getD] using h2
 ·exact absurd h1.2.1.1 e2
theorem begun_iw {J:Vk} {w:World} {r M St L n:Nat} {F:Nat->Prop} (h:Rig J w r (arOf (newSaid M St L) n L M St) S o noSet noSet F false (fun _=>[Sh.noughts]) 100) (hb:Born S n 40 M St L o) (m3:3<=M) (m16:M<=16) (s1:1<=St) (s2:St<=1024) (l1:1<=L) (l2:L<=8) (hn:n=M\/n=M+1) (hbk:2+2*L+St<=blk 40) :
  Iw (arOf (newSaid M St L) n L M St) S o noSet noSet (fun _=>[Sh.noughts]):=by
 obtain ⟨q1,q2,q3⟩:=hb.ci h.vr.vo.ds.on.shelf m3 m16 s2 l1 l2 hn hbk
 have hsd:=said_new m3 m16 s1 s2 l1 l2 hn
 have c0:=hb.calm 0 (by omega)
 refine ⟨⟨gh0,⟨q1.fi.ci,hsd,fun _ _ _ _ e=>e.elim,fun _ _ _ e=>e.elim,fun j hj=>⟨List.mem_singleton.2 rfl,fun old e=>by cases e⟩,fun _=>q1⟩,fun j hj=>⟨by simp,rfl⟩⟩,⟨c0.on,c0.left⟩,fun d=>?_⟩
 by_cases hd:d<n
 ·exact (hb.calm d hd).alive
 ·unfold Dead dk
  rw [List.getD_eq_getElem?_getD,List.getElem?_eq_none (by rw [hb.len];omega)]
  rfl
theorem Ws.wholes (h:Ws A S g lk) (hst:st<A.St) (hno:∀m,m<A.M->seen S (A.num st m) (A.at st)≠none):wholeV (tog A.s A.M (A.at st) st (fun _=>true) S A.M)=.tuple #[.bool true,.int .i64 0]:=by
 obtain ⟨h1,h2⟩:=h.whole hst hno
 unfold wholeV
 rw [if_pos h1,h2,decide_eq_true rfl]
def ghG (g:Nat->Nat->Sh.Bs):Gh:=⟨g,fun _=>none,fun _ _=>none,fun _ _=>false,fun _ _=>False⟩
def Is (A:Ar) (g:Nat->Nat->Sh.Bs):Kn:=fun S _ _ _ may=>(∃lk,Ws A S g lk)/\∀j,j<A.St*(A.M-1)->g (stOf A.M j) (meOf A.M j)∈may j
theorem keep_r (hs:Said A):KeepR A (Is A g) (fun j=>(ghG g).dat (stOf A.M j) (meOf A.M j)) where
 fits h:=by
  obtain ⟨⟨lk,h⟩,_⟩:=h
  exact fits_ws h hs
 read h hm hR:=by
  obtain ⟨⟨lk,h⟩,h2⟩:=h
  obtain ⟨q1,q2,q3⟩:=h.read hm hR
  exact ⟨q1,q2,⟨_,q3⟩,h2⟩
 mem h j hj:=h.2 j hj
end
section
variable {J:Vk} {w w':World} {r m:Nat} {A:Ar} {g:Nat->Nat->Sh.Bs} {tn:Nat->Bool} {bd:Bool} {may:Nat->List Sh.Bs}
theorem Tw.grown (h:Tw J w r A g tn bd may m) (hb:Below w.heap.size w w'):Tw J w' r A g tn bd may m:=by
 obtain ⟨S,o,F,lk,R,hh⟩:=h
 exact ⟨S,o,F,lk,R.grown hb,hh⟩
set_option maxRecDepth 20000 in
set_option maxHeartbeats 4000000 in
theorem doK_turn (h:Tw J w r A g tn bd may m) (hsp:A.s.spare=-1) (hs1:1<=A.St) (hs2:A.St<=1000) (hm16:A.M<=16) (hT:Tabs J.W) (hTB:max 0 1+1<=J.B) (v:Sh.Op8) (hk:v.kind=7) (hx:v.x<256) :
  Calls Tryz.prog 9 #[.pointer (some ⟨r,0,none⟩),opV v] w fun e w'=>e=.returned (.bool true)/\∃tn' bd',Tw J w' r A g tn' bd' may m:=by
 have hb0:Below w.heap.size w (w.alloc (.cells #[.int .i64 v.kind,.int .i64 v.n,.int .i64 v.at_,.int .u8 (v.x:Int),.slice v.A v.m v.c] 31)):=(Below.refl _ _).alloc (Nat.le_refl _) _
 obtain ⟨k0,k1,k2,k3,k4⟩:=op_cells (heap_alloc_new w (.cells #[.int .i64 v.kind,.int .i64 v.n,.int .i64 v.at_,.int .u8 (v.x:Int),.slice v.A v.m v.c] 31))
 have HWR:=hid (turn_any (h.grown hb0) hsp hs1 hs2 hm16 hT hTB v.n v.at_ v.n v.x hx)
 unfold opV
 obtain ⟨kind,n,at_,x,vA,vm,vc,ks⟩:=v
 simp only at hk hx k0 k1 k2 k3 k4 HWR hb0 ⊢
 subst hk
 clear h hb0
 go_enter Tryz.func9,Tryz.ntmps9
 go_wp2_with fail
 refine HWR.out.mono ?_
 rintro e w1 ⟨rfl,hg⟩
 have HG:=hid hg
 clear hg HWR k0 k1 k2 k3 k4
 go_wp2
 go_ret
 exact ⟨rfl,HG.out⟩
end
def Tr (J:Vk) (w:World) (r:Nat) (A:Ar) (g:Nat->Nat->Sh.Bs) (rd:Bool) (j:Nat) (tn:Nat->Bool) (bd:Bool) (may:Nat->List Sh.Bs) (m:Nat):Prop :=
 ∃S o F lk,RigT J w r A S o noSet noSet F tn bd may m/\Ws A S g lk/\(∀st y,st<A.St->lk st y->tn st=true)/\(rd=false->∀st,j<=st->st<A.St->tn st=true->∃y,y<A.M/\seen S (A.num st y) (A.at st)=none)
def Tm (J:Vk) (w:World) (r:Nat) (A:Ar) (g:Nat->Nat->Sh.Bs) (rd:Bool) (j:Nat) (tn:Nat->Bool) (bd:Bool) (may:Nat->List Sh.Bs) (m:Nat):Prop :=
 ∃S o F lk,RigT J w r A S o noSet noSet F tn bd may m/\Ws A S g lk/\(∀st y,st<A.St->lk st y->tn st=true)/\(rd=false->∀st,j+1<=st->st<A.St->tn st=true->∃y,y<A.M/\seen S (A.num st y) (A.at st)=none)/\∀y,y<A.M->seen S (A.num j y) (A.at j)≠none
theorem MdR.waits {n L M st mm:Nat} {s:Go.Proofs.YtgebkmpmnjhceaaGreatDoor.S.Sup} {D U D' U':Set0} {S:Sh.Sf} {o:Nat->Int} {nn y:Int} {t:Stt} (h:MdR n L s M st D U S o nn y t D' U') (hn:n<=17) (h8:L<=8) (hL:∀x∈S.disks,x.waits.length<=mm):∀x∈t.S.disks,x.waits.length<=mm+411:=by
 cases h with
 | busy y t D' U' hs hy=>exact waits_more (by omega) (hs.waits hn h8 hL)
 | stop t D' U' r hs hr hy =>
  subst hr
  exact waits_more (by omega) (waits_same (mdl_same M) (hs.waits hn h8 hL))
 | quiet t D' U' r hs hr hy hb hd =>
  subst hr
  exact waits_more (by omega) (waits_same (mdl_same M) (hs.waits hn h8 hL))
 | mends t e D' U' b y r hs hr hy hc hRo =>
  subst hr
  exact waits_more (by omega) (hRo.waits (waits_same (mdl_same M) (hs.waits hn h8 hL)))
section
variable {J:Vk} {w w':World} {r m m' j:Nat} {A:Ar} {g:Nat->Nat->Sh.Bs} {tn:Nat->Bool} {bd rd:Bool} {may:Nat->List Sh.Bs}
theorem Tw.tr (h:Tw J w r A g tn bd may m) (rd:Bool):Tr J w r A g rd 0 tn bd may m:=by
 obtain ⟨S,o,F,lk,h1,h2,h3,h4⟩:=h
 exact ⟨S,o,F,lk,h1,h2,h3,fun _ st _=>h4 st⟩
theorem Tr.grown (h:Tr J w r A g rd j tn bd may m) (hb:Below w.heap.size w w'):Tr J w' r A g rd j tn bd may m:=by
 obtain ⟨S,o,F,lk,R,hh⟩:=h
 exact ⟨S,o,F,lk,R.grown hb,hh⟩
theorem Tr.more (h:Tr J w r A g rd j tn bd may m) (hm:m<=m'):Tr J w r A g rd j tn bd may m':=by
 obtain ⟨S,o,F,lk,R,hh⟩:=h
 exact ⟨S,o,F,lk,⟨R.vr,R.few.more hm,R.n,R.L,R.rg⟩,hh⟩
theorem Tr.rg (h:Tr J w r A g rd j tn bd may m):∃F q cap tq gg off c,RgT J w r q cap tq A tn bd may F gg off c:=by
 obtain ⟨S,o,F,lk,R,hh⟩:=h
 exact ⟨F,R.rg⟩
theorem Tm.rg (h:Tm J w r A g rd j tn bd may m):∃F q cap tq gg off c,RgT J w r q cap tq A tn bd may F gg off c:=by
 obtain ⟨S,o,F,lk,R,hh⟩:=h
 exact ⟨F,R.rg⟩
theorem Tr.bel (h:Tr J w r A g rd j tn bd may m):Below J.B J.W w:=by
 obtain ⟨S,o,F,lk,R,hh⟩:=h
 exact R.vr.bel
theorem trRead (h:Tr J w r A g true 0 tn bd may m) (hs:Said A) (hT:Tabs J.W) (hTB:max 0 1+1<=J.B) (hm:m<=400000000) (k:Nat) (hk:k<A.St*(A.M-1)) :
  Calls Tryz.prog 11 #[.pointer (some ⟨J.v,0,none⟩),.int .i64 k] w fun e w'=>∃A2 c2,e=.returned (.tuple #[.slice A2 128 c2,.int .i64 0])/\Sh.Bytes w w' A2 (g (stOf A.M k) (meOf A.M k))/\Tr J w' r A g true 0 tn bd may (m+1000):=by
 obtain ⟨S,o,F,lk,R,W,hl,_⟩:=h
 have hF:Fits J.n J.L A.s A.M A.St S:=by rw [R.n,R.L];exact fits_ws W hs
 refine (vRead_any R.vr hF hT hTB (k:Int) R.few.waits (by omega)).mono ?_
 rintro e w2 ⟨y,A2,len,c2,rfl,X,t,F2,hR,V2,m2,hres⟩
 have hf:=R.few.read hR
 rw [R.L] at hR
 obtain ⟨rfl,rfl,W2⟩:=W.read hk hR
 rcases hres with ⟨_,rfl,hB,_,_⟩ | ⟨h0,_⟩
 ·exact ⟨A2,c2,rfl,hB,t.S,t.o,F2,_,R.moved V2 m2 hf,W2,fun st y hst e=>hl st y hst e.1,fun e=>by cases e⟩
 ·exact absurd rfl h0
theorem trMend (h:Tr J w r A g rd j tn bd may m) (hs:Said A) (hT:Tabs J.W) (hTB:max 0 1+1<=J.B) (hm:m<=400000000) (hj:j<A.St) :
  Calls Tryz.prog 13 #[.pointer (some ⟨J.v,0,none⟩),.int .i64 j] w fun e w'=>∃nn:Int,e=.returned (.tuple #[.int .i64 nn,.int .i64 0])/\(nn=0\/nn=1)/\(tn j=false->nn=0)/\(rd=false->tn j=true->nn=1)/\Tm J w' r A g rd j tn bd may (m+1000):=by
 obtain ⟨S,o,F,lk,R,W,hl,hb⟩:=h
 have hF:Fits J.n J.L A.s A.M A.St S:=by rw [R.n,R.L];exact fits_ws W hs
 refine (mend_any R.vr hF hT hTB R.few.waits R.few.used (by omega) j hj).mono ?_
 rintro e w2 ⟨nn,y,rfl,t,D',U',hR,F2,V2,m2⟩
 have hw:=hR.waits (by rw [R.n];exact W.ar.n17) (by rw [R.L];exact W.ar.l8) R.few.waits
 rw [R.n,R.L] at hR
 obtain ⟨rfl,rfl,rfl,W2,h5,h6,h7⟩:=W.mend hj hR
 refine ⟨nn,rfl,?_,fun e=>?_,fun e1 e2=>?_,t.S,t.o,F2,_,R.moved V2 m2 ⟨fun x hx=>Nat.le_trans (hw x hx) (by omega),⟨tidy_empty,Nat.zero_le _⟩,Nat.zero_le _⟩,W2,fun st y hst e=>hl st y hst e.1,fun e1 st hst hst2 e2=>?_,h5⟩
 ·rcases h7 with h7 | h7
  ·exact .inr h7.1
  ·exact .inl h7.1
 ·rcases h7 with ⟨_,y,hy,h7⟩ | h7
  ·exfalso
   rcases W.vals j hj y hy with a | ⟨a,_⟩
   ·rw [h7] at a;cases a
   ·rw [hl j y hj a] at e;cases e
  ·exact h7.1
 ·rcases h7 with h7 | ⟨_,h7⟩
  ·exact h7.1
  ·obtain ⟨y,hy,e3⟩:=hb e1 j (Nat.le_refl _) hj e2
   exact absurd e3 (h7 y hy)
 ·obtain ⟨y,hy,e3⟩:=hb e1 st (by omega) hst2 e2
  exact ⟨y,hy,by rw [h6 st y hst2 hy (by omega)];exact e3⟩
theorem trWhole (h:Tm J w r A g rd j tn bd may m) (hs:Said A) (hT:Tabs J.W) (hTB:max 0 1+1<=J.B) (hj:j<A.St) :
  Calls Tryz.prog 14 #[.pointer (some ⟨J.v,0,none⟩),.int .i64 j] w fun e w'=>e=.returned (.tuple #[.bool true,.int .i64 0])/\Tr J w' r A g rd (j+1) tn bd may m:=by
 obtain ⟨S,o,F,lk,R,W,hl,hb,h5⟩:=h
 have hF:Fits J.n J.L A.s A.M A.St S:=by rw [R.n,R.L];exact fits_ws W hs
 refine (whole_any R.vr hF hT hTB j hj).mono ?_
 rintro e w2 ⟨rfl,hG⟩
 have hsm:=tog_same (s:=A.s) (M:=A.M) (k:=A.at j) (st:=j) (S:=S) (tk:=fun _=>true) A.M
 rw [R.L] at hG
 have hw:=W.wholes hj h5
 unfold Ar.at at hw
 rw [R.L]
 refine ⟨by rw [hw],_,o,F,lk,R.moved hG.1 ⟨hG.2,fun _ e=>Or.inl e⟩ (R.few.same hsm),W.same hsm,hl,fun e1 st hst hst2 e2=>?_⟩
 obtain ⟨y,hy,e3⟩:=hb e1 st hst hst2 e2
 exact ⟨y,hy,(seen_same hsm _ _).trans e3⟩
theorem trSettle (h:Tr J w r A g rd j tn bd may m) (hs:Said A) (hT:Tabs J.W) (hTB:max 0 1+1<=J.B) (hm:m<=400000000) (hN:A.St*(A.M-1)<=1000) (hmay:∀j,j<A.St*(A.M-1)->may j≠[]/\(may j).getD ((may j).length-1) []=g (stOf A.M j) (meOf A.M j)) (hlb:∀j,j<A.St*(A.M-1)->(may j).length<=1000) :
  Calls Tryz.prog 15 #[.pointer (some ⟨r,0,none⟩)] w fun e w'=>e=.returned (.bool true)/\Below J.B J.W w':=by
 obtain ⟨S,o,F,lk,R,W,hl,hb⟩:=h
 have hI:Is A g S o noSet noSet may:=⟨⟨lk,W⟩,fun j hj=>by
  obtain ⟨h1,h2⟩:=hmay j hj
  rw [<- h2]
  have h0:(may j).length≠0:=fun e=>h1 (List.eq_nil_of_length_eq_zero e)
  have:(may j).getD ((may j).length-1) []=(may j)[(may j).length-1]'(by omega):=by simp [List.getD,show (may j).length-1<(may j).length by omega]
  rw [this]
  exact List.getElem_mem _⟩
 refine (settleK_any (gh:=ghG g) R (keep_r hs) hI hT hTB hN hlb (by omega) hm).mono ?_
 rintro e w' ⟨rfl,S2,o2,F2,R2,_⟩
 exact ⟨rfl,R2.vr.bel⟩
end
end Go.Proofs.YtgebkmpmnjhceaaGreatDoor.U
