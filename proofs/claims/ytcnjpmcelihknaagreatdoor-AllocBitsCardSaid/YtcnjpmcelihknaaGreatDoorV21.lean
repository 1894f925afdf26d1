/-
  What the statement's proof rests on, part 21.
  Conditions: each theorem's own.
-/
import Derived.Test.YtcnjpmcelihknaaGreatDoorV18
import Derived.Shelf.SlicesE.Clone
import Derived.IntWalk
import Derived.Shelf.SlicesE.Index
import Derived.Test.YtcnjpmcelihknaaGreatDoorVtk
open Go.Lib (hid)
namespace Go.Proofs.YtcnjpmcelihknaaGreatDoor.U
open Go.RowKit Go.Maps Go.Shelf
def cloneRenB:Go.Shelf.Ren:=⟨fun | 41=>165 | n=>n,fun | 4=>4 | 22=>24 | 23=>5 | n=>n,fun | n=>n⟩
theorem cloneLaysB:Go.Proofs.SlLaysE0.n41 Tryz.prog cloneRenB:={
 mixed:=by kernel_rfl
 f41:=⟨(Tryz.f165).name,by kernel_rfl,Tryz.func165.trans (congrArg some (by kernel_rfl))⟩
 t4:=Tryz.underlying4
 a4:=Tryz.isAgg4
 z4:=Tryz.sizeOf4
 v4:=Tryz.zeroValue4
 t22:=Tryz.underlying24
 a22:=Tryz.isAgg24
 z22:=Tryz.sizeOf24
 v22:=Tryz.zeroValue24 }
def RowB (w:World) (g:Nat) (l:List Nat) (rest:List Value):Prop:=w.heap[g]?=some (.cells (bts l++rest).toArray 5 (0,0))
theorem RowB.lt {w:World} {g:Nat} {l:List Nat} {rest:List Value} (h:RowB w g l rest):g<w.heap.size:=(Array.getElem?_eq_some_iff.1 h).1
theorem RowB.reads {w:World} {g:Nat} {l:List Nat} {rest:List Value} (h:RowB w g l rest) (hl:l.length=128):Reads w w.heap.size (some ⟨g,0,none⟩) 128 (bts l):=by
 refine ⟨by rw [bts_length,hl],fun _=>⟨_,rfl,h.lt,fun j u hu=>?_⟩⟩
 have e:(⟨g,0,none⟩:Addr).add j=⟨g,j,none⟩:=by unfold Addr.add;split<;>simp_all
 rw [e,cell_of_row _ _ j _ _ _ h,List.getElem?_toArray,List.getElem?_append_left (Array.getElem?_eq_some_iff.1 (by simpa using hu)).1]
 exact hu
theorem RowB.same {w w':World} {g:Nat} {l:List Nat} {rest:List Value} (h:RowB w g l rest) (hk:w'.heap[g]?=w.heap[g]?):RowB w' g l rest:=hk.trans h
theorem splice_row (l c:List Nat) (rest:List Value) (i:Nat) (h:i+c.length<=l.length):splice (bts l++rest) i (bts c)=bts (putAt l i c)++rest:=by
 rw [<- putAt_bts]
 unfold splice
 rw [List.take_append_of_le_length (by rw [bts_length];omega),List.drop_append_of_le_length (by rw [bts_length,bts_length];omega)]
 simp
theorem info_u8p:(Tryz.prog.info? 5).map (fun i=>(i.zero,i.size,i.bytes))=some (some (.int .u8 0),1,1):=by kernel_rfl
theorem info_u8s:(Tryz.prog.info? 5).map (·.size)=some 1:=by kernel_rfl
theorem clone_bytes (w:World) (b c:Nat) {l:Sh.Bs} (hl:l.length=128) (hr:Reads w w.heap.size (some ⟨b,0,none⟩) 128 (bts l)) :
  Calls Tryz.prog 165 #[.slice (some ⟨b,0,none⟩) 128 c] w fun e w'=>∃g c' rest,e=.returned (.slice (some ⟨g,0,none⟩) 128 c')/\128<=c'/\c'<=maxLen/\w.heap.size<=g/\RowB w' g l rest/\Below w.heap.size w w':=by
 obtain ⟨i0,hi,hz0,hz1,hz2⟩:=info_parts info_u8p
 obtain ⟨ad,e,_,hc⟩:=hr.2 (by decide)
 obtain rfl:(⟨b,0,none⟩:Addr)=ad:=Option.some.inj e
 refine (AnyE.slices_Clone cloneLaysB i0 _ 1 1 hi hz0 hz1 hz2 rfl (by decide) (fun w=>Tryz.sizeOf5 w) b 0 128 c (bts l) w (by rw [bts_length,hl]) (by unfold maxLen;omega) (by omega) (fun j u hu=>?_) (bts_one l)).mono ?_
 ·have:=hc j u hu
  have e2:(⟨b,0,none⟩:Addr).add j=⟨b,0+j,none⟩:=by unfold Addr.add;split<;>simp_all
  rw [<- e2];exact this
 ·rintro e' w' ⟨v',rfl,h1,_,h2⟩
  rcases h1.2 with ⟨_,h0⟩ | ⟨g,cap,cur,rfl,hg,hh,hn,hm,hs,ht⟩
  ·exact absurd h0 (by decide)
  ·refine ⟨g,cap,cur.toList.drop 128,rfl,hn,hm,hg,?_,h2⟩
   have ht:cur.toList.take 128=bts l:=ht
   show w'.heap[g]?=some (.cells (bts l++cur.toList.drop 128).toArray 5 (0,0))
   rw [hh,<- ht,List.take_append_drop]
   rfl
set_option maxRecDepth 20000 in
set_option maxHeartbeats 4000000 in
theorem with_any (k:Nat) (b1 c1:Nat) (A2:Option Addr) (c2 x0 y0 s x y:Nat) (l:Sh.Bs) (w:World) (hk:k<=4096) (hl:l.length=128) (hx:x<4294967296) (hy:y<4294967296) (hr:Reads w w.heap.size (some ⟨b1,0,none⟩) 128 (bts l)) :
  Calls Tryz.prog 257 #[.agg (stV k (some ⟨b1,0,none⟩) c1 A2 c2 x0 y0 s),.agg #[.int .u32 (x:Int),.int .u32 (y:Int)]] w fun e w'=>∃g c rest,e=.returned (.slice (some ⟨g,0,none⟩) 128 c)/\w.heap.size<=g/\RowB w' g (setPair l k x y) rest/\Below w.heap.size w w':=by
 obtain ⟨q0,q1,z0,b0⟩:=two_new' w (stV k (some ⟨b1,0,none⟩) c1 A2 c2 x0 y0 s) #[.int .u32 (x:Int),.int .u32 (y:Int)] 257 255
 have hcl:=hid (clone_bytes _ b1 c1 hl ((hr.below b0).more b0.size))
 have j0:=cell_of_row _ _ 0 _ _ _ q1
 have j1:=cell_of_row _ _ 1 _ _ _ q1
 obtain ⟨k0,_,_,k3,_⟩:=cells8_of q0
 have hpa:=hid (pairAt_any k (by omega))
 have hn0:=hid (number_any x hx)
 have hn1:=hid (number_any y hy)
 have Hb0:=hid b0
 have Hz0:=hid z0
 have hs1:setPair l k x y=putAt (putAt l (k%16*8) (putL x 4)) (k%16*8+4) (putL y 4):=rfl
 have hm:k%16*8<=120:=by omega
 have hl1:(putAt l (k%16*8) (putL x 4)).length=128:=by rw [putAt_length (by rw [putL_length];omega),hl]
 have hi0:∀W,(Instr.index 255 (.agg #[.int .u32 (x:Int),.int .u32 (y:Int)]) (.int .i64 0)).run Tryz.prog W=.ok (.int .u32 (x:Int)) W:=fun W=>by kernel_rfl
 have hi1:∀W,(Instr.index 255 (.agg #[.int .u32 (x:Int),.int .u32 (y:Int)]) (.int .i64 1)).run Tryz.prog W=.ok (.int .u32 (y:Int)) W:=fun W=>by kernel_rfl
 clear q0 q1 z0 b0 hr
 have HS0:=hid (splice_row l (putL x 4) · (k%16*8) (by rw [putL_length];omega))
 have HS2:=hid (splice_row (putAt l (k%16*8) (putL x 4)) (putL y 4) · (k%16*8+4) (by rw [putL_length];omega))
 rw [<- hs1] at HS2
 clear hs1
 generalize putAt l (k%16*8) (putL x 4)=l1 at *
 generalize k%16*8=m at *
 unfold stV at *
 generalize sumOf k=z1 at *
 generalize dataOf k=z2 at *
 go_enter Tryz.func257,Tryz.ntmps257
 go_wp2_with fail
 generalize ((w.alloc (.cells #[.int .i64 (k:Int),.int .i64 (z1:Int),.int .i64 (z2:Int),.slice (some ⟨b1,0,none⟩) 128 c1,.slice A2 128 c2,.int .u32 (x0:Int),.int .u32 (y0:Int),.int .u32 (s:Int)] 257)).alloc (.cells #[.int .u32 (x:Int),.int .u32 (y:Int)] 255))=W0 at *
 refine hcl.out.mono ?_
 rintro e w1 ⟨g,c,rest,rfl,hc1,hcm,hg,hrow,hb1⟩
 have m0:=(hb1.cell (p:=⟨w.heap.size,0,none⟩) (by have:=Hz0.out;show w.heap.size<_;omega)).trans k0
 have n0:=(hb1.cell (p:=⟨w.heap.size+1,0,none⟩) (by have:=Hz0.out;show w.heap.size+1<_;omega)).trans j0
 have n1:=(hb1.cell (p:=⟨w.heap.size+1,1,none⟩) (by have:=Hz0.out;show w.heap.size+1<_;omega)).trans j1
 have HB1:=hid (Hb0.out.trans (hb1.mono (by have:=Hz0.out;omega)))
 have hgw:w.heap.size+1<g:=by have:=Hz0.out;omega
 clear k0 k3 j0 j1 hcl hb1
 go_wp2_with fail
 go_loopw [12] (fun s12 wr=>∃j:Nat,j<=2/\s12=.int .i64 j/\wr.cell? ⟨w.heap.size,0,none⟩=some (.int .i64 (k:Int))/\Below w.heap.size w wr/\RowB wr g (if j=0 then l else if j=1 then l1 else setPair l k x y) rest) (fun i _=>2-(intOf i).toNat)
 case atStart=>exact ⟨0,by decide,rfl,m0,HB1.out,hrow⟩
 case round =>
  clear m0 n0 n1 hrow HB1
  obtain ⟨j,hj,rfl,m0,hb,hrow⟩:=hrel
  have hgr:g<wr.heap.size:=hrow.lt
  have hltr:w.heap.size<wr.heap.size:=by omega
  rcases (show j=0\/j=1\/j=2 by omega) with rfl | rfl | rfl
  ·have hrow:RowB wr g l rest:=hrow
   go_wp2_with fail
   have e1:IntKind.i64.wrap (0:Int)=0:=by rfl
   have e2:IntKind.i64.wrap (m:Int)=m:=IntWalk.i64_in _ (by omega)
   have e3:(m:Int)<=128:=by omega
   have e4:(c=m)=False:=by simp;omega
   refine wp_region_held_drew (S:=fun (W':World)=>W'.cell? ⟨w.heap.size,0,none⟩=some (.int .i64 (k:Int))) (by kernel_rfl) m0 (fun hHeld=>?_)
   refine tk 0 16 ?_
   refine tk 1 17 ?_
   refine tk 2 18 ?_
   refine tk 4 20 ?_
   refine tk 5 21 ?_
   refine tk 8 24 ?_
   refine r1 3 (some 19) fun K hK=>?_
   go_simp
   refine (hpa.out _).mono ?_
   rintro e w' ⟨rfl,rfl⟩
   refine hK.out _ _ (hHeld) (fun hHeld=>?_)
   clear hK K
   try simp only [Act.put,List.setIfInBounds_toArray,List.set_cons_zero,List.set_cons_succ]
   refine tk 6 22 ?_
   refine tk 7 23 ?_
   refine r1 9 (some 25) fun K hK=>?_
   go_simp
   refine (hn0.out _).mono ?_
   rintro e w3 ⟨A3,d3,rfl,r3,b3⟩
   refine hK.out _ _ ((b3.cell (p:=⟨w.heap.size,0,none⟩) (show w.heap.size<wr.drew.heap.size from hltr)).trans m0) (fun hHeld=>?_)
   clear hK K
   try simp only [Act.put,List.setIfInBounds_toArray,List.set_cons_zero,List.set_cons_succ]
   have hb3:Below wr.heap.size wr w3:=⟨b3.os,b3.tape,b3.output,b3.size,b3.block⟩
   have hrow3:RowB w3 g l rest:=hrow.same (hb3.block g hgr)
   have HB3:=hid (hb.trans (hb3.mono (Nat.le_of_lt hltr)))
   have m3:w3.cell? ⟨w.heap.size,0,none⟩=some (.int .i64 (k:Int)):=hHeld
   clear b3 hb3
   refine r1 10 (some 26) fun K hK=>?_
   obtain ⟨ad3,rfl,_,hc3⟩:=r3.2 (by decide)
   refine step_copy_splice rfl (.tmp 23) (.tmp 25) 24 24 rfl 5 Tryz.underlying24 info_u8s _ _ _ _ _ _ rfl rfl g m (bts l++rest) 5 hrow3 (bts (putL x 4)) (by rw [bts_length,putL_length];exact (Nat.min_eq_left (by omega)).symm) (fun _=>⟨rfl,ad3,rfl,hc3⟩) (by rw [bts_length,putL_length,List.length_append,bts_length,hl];omega) (bts_one _) g w3 (Below.refl _ _) (Nat.le_refl _) ?_
   intro w4 hg4 hb4
   refine hK.out _ _ (?_) (fun hHeld=>?_)
   ·exact (hb4.cell (p:=⟨w.heap.size,0,none⟩) (show w.heap.size<g by omega)).trans m3
   clear hK K
   try simp only [Act.put,List.setIfInBounds_toArray,List.set_cons_zero,List.set_cons_succ]
   refine wpAnyH_done (by kernel_rfl) ?_ _
   have hm4:w4.cell? ⟨w.heap.size,0,none⟩=some (.int .i64 (k:Int)):=hHeld
   have hrow4:RowB w4 g l1 rest:=by have e:=hg4.out;rw [HS0.out] at e;exact e
   have HB4:=hid (HB3.out.trans (hb4.mono (show w.heap.size<=g by omega)))
   clear e1 e2 e3 e4 hHeld hg4 hb4 m3 hrow3
   go_wp2 
   go_roundw
   case rel=>exact ⟨0+1,by decide,by rfl,hm4,HB4.out,hrow4⟩
   case measure=>simp [intOf]
  ·have hrow:RowB wr g l1 rest:=hrow
   go_wp2_with fail
   have e1:IntKind.i64.wrap (4:Int)=4:=by rfl
   have e2:IntKind.i64.wrap ((m:Int)+4)=m+4:=IntWalk.i64_in _ (by omega)
   have e3:(m:Int)+4<=128:=by omega
   have e5:0<=(m:Int)+4:=by omega
   have e6:((m:Int)+4).toNat=m+4:=by omega
   have e4:(c=m+4)=False:=by simp;omega
   refine wp_region_held_drew (S:=fun (W':World)=>W'.cell? ⟨w.heap.size,0,none⟩=some (.int .i64 (k:Int))) (by kernel_rfl) m0 (fun hHeld=>?_)
   refine tk 0 16 ?_
   refine tk 1 17 ?_
   refine tk 2 18 ?_
   refine tk 4 20 ?_
   refine tk 5 21 ?_
   refine tk 8 24 ?_
   refine r1 3 (some 19) fun K hK=>?_
   go_simp
   refine (hpa.out _).mono ?_
   rintro e w' ⟨rfl,rfl⟩
   refine hK.out _ _ (hHeld) (fun hHeld=>?_)
   clear hK K
   try simp only [Act.put,List.setIfInBounds_toArray,List.set_cons_zero,List.set_cons_succ]
   refine tk 6 22 ?_
   refine tk 7 23 ?_
   refine r1 9 (some 25) fun K hK=>?_
   go_simp
   refine (hn1.out _).mono ?_
   rintro e w3 ⟨A3,d3,rfl,r3,b3⟩
   refine hK.out _ _ ((b3.cell (p:=⟨w.heap.size,0,none⟩) (show w.heap.size<wr.drew.heap.size from hltr)).trans m0) (fun hHeld=>?_)
   clear hK K
   try simp only [Act.put,List.setIfInBounds_toArray,List.set_cons_zero,List.set_cons_succ]
   have hb3:Below wr.heap.size wr w3:=⟨b3.os,b3.tape,b3.output,b3.size,b3.block⟩
   have hrow3:RowB w3 g l1 rest:=hrow.same (hb3.block g hgr)
   have HB3:=hid (hb.trans (hb3.mono (Nat.le_of_lt hltr)))
   have m3:w3.cell? ⟨w.heap.size,0,none⟩=some (.int .i64 (k:Int)):=hHeld
   clear b3 hb3
   refine r1 10 (some 26) fun K hK=>?_
   obtain ⟨ad3,rfl,_,hc3⟩:=r3.2 (by decide)
   refine step_copy_splice rfl (.tmp 23) (.tmp 25) 24 24 rfl 5 Tryz.underlying24 info_u8s _ _ _ _ _ _ rfl rfl g (m+4) (bts l1++rest) 5 hrow3 (bts (putL y 4)) (by rw [bts_length,putL_length];exact (Nat.min_eq_left (by omega)).symm) (fun _=>⟨rfl,ad3,rfl,hc3⟩) (by rw [bts_length,putL_length,List.length_append,bts_length,hl1];omega) (bts_one _) g w3 (Below.refl _ _) (Nat.le_refl _) ?_
   intro w4 hg4 hb4
   refine hK.out _ _ (?_) (fun hHeld=>?_)
   ·exact (hb4.cell (p:=⟨w.heap.size,0,none⟩) (show w.heap.size<g by omega)).trans m3
   clear hK K
   try simp only [Act.put,List.setIfInBounds_toArray,List.set_cons_zero,List.set_cons_succ]
   refine wpAnyH_done (by kernel_rfl) ?_ _
   have hm4:w4.cell? ⟨w.heap.size,0,none⟩=some (.int .i64 (k:Int)):=hHeld
   have hrow4:RowB w4 g (setPair l k x y) rest:=by have e:=hg4.out;rw [HS2.out] at e;exact e
   have HB4:=hid (HB3.out.trans (hb4.mono (show w.heap.size<=g by omega)))
   clear e1 e2 e3 e4 e5 e6 hHeld hg4 hb4 m3 hrow3
   go_wp2 
   go_roundw
   case rel=>exact ⟨1+1,by decide,by rfl,hm4,HB4.out,hrow4⟩
   case measure=>simp [intOf]
  ·have hrow:RowB wr g (setPair l k x y) rest:=hrow
   go_wp2
   go_ret
   exact ⟨g,c,rest,rfl,by omega,hrow,hb⟩
def conRen:Go.Shelf.Ren:=⟨fun | 29=>283 | 31=>278 | n=>n,fun | 0=>0 | 3=>3 | 4=>4 | 22=>305 | 23=>23 | n=>n,fun | n=>n⟩
theorem conLays:Go.Proofs.SlLaysE.n31 Tryz.prog conRen:={
 mixed:=by kernel_rfl
 f29:=⟨(Tryz.f283).name,by kernel_rfl,Tryz.func283.trans (congrArg some (by kernel_rfl))⟩
 f31:=⟨(Tryz.f278).name,by kernel_rfl,Tryz.func278.trans (congrArg some (by kernel_rfl))⟩
 t0:=by kernel_rfl
 a0:=fun w=>by kernel_rfl
 z0:=fun w=>by kernel_rfl
 v0:=fun w=>by kernel_rfl
 t3:=Tryz.underlying3
 a3:=Tryz.isAgg3
 z3:=Tryz.sizeOf3
 v3:=Tryz.zeroValue3
 t4:=Tryz.underlying4
 a4:=Tryz.isAgg4
 z4:=Tryz.sizeOf4
 v4:=Tryz.zeroValue4
 t22:=Tryz.underlying305
 a22:=Tryz.isAgg305
 z22:=Tryz.sizeOf305
 v22:=Tryz.zeroValue305
 a23:=Tryz.isAgg23
 z23:=Tryz.sizeOf23 }
theorem contains_any (g x y z s:Nat) (w:World) (h:w.heap[g]?=some (.cells #[.int .u32 (x:Int),.int .u32 (y:Int),.int .u32 (z:Int)] 303 (0,0))) :
  Calls Tryz.prog 278 #[.slice (some ⟨g,0,none⟩) 3 3,.int .u32 (s:Int)] w fun e w'=>e=.returned (.bool (decide (s=x\/s=y\/s=z)))/\w=w':=by
 refine (AnyE.slices_Contains conLays (Value.int .u32) _ (EqlAt.int _ _ .u32) g 0 3 3 [(x:Int),(y:Int),(z:Int)] (s:Int) w (by simp) (by omega) (fun j hj=>?_)).mono ?_
 ·match j,hj with
  | 0,_=>exact cell_of_row _ _ 0 _ _ _ h
  | 1,_=>exact cell_of_row _ _ 1 _ _ _ h
  | 2,_=>exact cell_of_row _ _ 2 _ _ _ h
 ·rintro e w' ⟨rfl,rfl⟩
  refine ⟨?_,rfl⟩
  congr 2
  rw [Bool.eq_iff_iff,decide_eq_true_iff]
  simp
  omega
def bump (l:Sh.Bs) (j:Nat):Sh.Bs:=l.set 0 ((l.getD 0 0+j)%256)
theorem bump_length (l:Sh.Bs) (j:Nat):(bump l j).length=l.length:=by simp [bump]
theorem bump_small {l:Sh.Bs} (h:Small l) (j:Nat):Small (bump l j):=by
 intro x hx
 rcases List.mem_or_eq_of_mem_set hx with hx | rfl
 ·exact h x hx
 ·exact Nat.mod_lt _ (by decide)
theorem bump_get {l:Sh.Bs} (hl:l.length=128) (j:Nat):(bump l j).getD 0 0=(l.getD 0 0+j)%256:=by
 simp [bump,List.getD,hl]
theorem bump_zero {l:Sh.Bs} (h:Small l) (hl:l.length=128):bump l 0=l:=by
 have h0:=h.get 0
 unfold bump
 rw [Nat.add_zero,Nat.mod_eq_of_lt h0]
 apply List.ext_getElem?
 intro i
 by_cases hi:i=0
 ·subst hi
  rw [List.getElem?_set_self (by omega)]
  simp [List.getD,hl]
 ·rw [List.getElem?_set_ne (Ne.symm hi)]
theorem bump_set (l:Sh.Bs) (i j:Nat):(bump l i).set 0 ((l.getD 0 0+j)%256)=bump l j:=by
 unfold bump
 rw [List.set_set]
theorem bump_ne {d k:Int} {l:Sh.Bs} (h:Small l) (hl:l.length=128) {i j:Nat} (hij:i<j) (hj:j<256):sumL d k (bump l i)≠sumL d k (bump l j):=by
 unfold sumL
 have hs:Nums.sum (Nums.sum 0 (putL (w32 d) 4)) (putL (w32 k) 4)<4294967296:=Nums.sum_lt (putL_small _ _) (Nums.sum_lt (putL_small _ _) (by decide))
 have h0:=h.get 0
 rw [<- bump_set l i j]
 exact Nums.sum_set_ne (bump_small h i) hs 0 (by rw [bump_length,hl];decide) _ (Nat.mod_lt _ (by decide)) (by rw [bump_get hl];omega)
theorem bump_row (l:Sh.Bs) (hl:l.length=128) (rest:List Value) (i j:Nat):(bts (bump l i)++rest).toArray.setIfInBounds 0 (.int .u8 (((l.getD 0 0+j)%256:Nat):Int))=(bts (bump l j)++rest).toArray:=by
 rw [List.setIfInBounds_toArray,List.set_append_left _ _ (by rw [bts_length,bump_length,hl];decide),<- bump_set l i j]
 simp [bts,List.map_set]
theorem four_in_three {s0 s1 s2 s3 x y z:Nat} (h0:s0=x\/s0=y\/s0=z) (h1:s1=x\/s1=y\/s1=z) (h2:s2=x\/s2=y\/s2=z) (h3:s3=x\/s3=y\/s3=z)
  (a:s0≠s1) (b:s0≠s2) (c:s0≠s3) (d:s1≠s2) (e:s1≠s3) (f:s2≠s3):False:=by omega
def byteAt (w:World) (g:Nat):Nat:=match w.cell? ⟨g,0,none⟩ with | some (.int _ z)=>z.toNat | _=>0
theorem byteAt_row {w:World} {g:Nat} {l:Sh.Bs} {rest:List Value} (hl:l.length=128) (h:RowB w g l rest):byteAt w g=l.getD 0 0/\w.cell? ⟨g,0,none⟩=some (.int .u8 ((l.getD 0 0:Nat):Int))/\w.frozen? ⟨g,0,none⟩=false:=by
 have hc:w.cell? ⟨g,0,none⟩=some (.int .u8 ((l.getD 0 0:Nat):Int)):=by
  rw [cell_of_row _ _ 0 _ _ _ h,List.getElem?_toArray,List.getElem?_append_left (by rw [bts_length,hl];decide)]
  exact bts_get l 0 (by rw [hl];decide)
 refine ⟨?_,hc,frozen_of_row _ _ _ _ _ h⟩
 unfold byteAt
 rw [hc]
 simp
def OwnK (g d k:Nat) (W:World):Prop:=W.cell? ⟨g,1,none⟩=some (.int .i64 (d:Int))/\W.cell? ⟨g+1,0,none⟩=some (.int .i64 (k:Int))
def SpoiltIs (w:World) (d k:Int) (x y z:Nat) (e:Ending) (w':World):Prop :=
 ∃g c b rest,e=.returned (.slice (some ⟨g,0,none⟩) 128 c)/\w.heap.size<=g/\Sh.Sec b/\RowB w' g b rest/\¬(sumL d k b=x\/sumL d k b=y\/sumL d k b=z)/\Below w.heap.size w w'
theorem three_new (w:World) (a b c:Value) (t:TypeId):(w.alloc (.cells #[a,b,c] t)).heap[w.heap.size]?=some (.cells #[a,b,c] t (0,0)):=heap_alloc_new _ _
set_option maxRecDepth 20000 in
set_option maxHeartbeats 4000000 in
theorem spoilt_any (p d k:Nat) (A1:Option Addr) (c1 b2 c2 x y z:Nat) (l:Sh.Bs) (w:World) (hs:Sh.Sec l) (hr:Reads w w.heap.size (some ⟨b2,0,none⟩) 128 (bts l)) (hT:Tabs w) :
  Calls Tryz.prog 256 #[.agg #[.pointer (some ⟨p,0,none⟩),.int .i64 d],.agg (stV k A1 c1 (some ⟨b2,0,none⟩) c2 x y z)] w (SpoiltIs w d k x y z):=by
 obtain ⟨hl,hsm⟩:=hs
 obtain ⟨q0,q1,z0,b0⟩:=two_new' w #[.pointer (some ⟨p,0,none⟩),.int .i64 d] (stV k A1 c1 (some ⟨b2,0,none⟩) c2 x y z) 230 257
 have hcl:=hid (clone_bytes _ b2 c2 hl ((hr.below b0).more b0.size))
 have HT:=hid (hT.below hT.size b0)
 have Hb0:=hid b0
 have Hz0:=hid z0
 have Q0:=hid q0
 have Q1:=hid q1
 obtain ⟨k0,_,_,_,k4,k5,k6,k7,_⟩:=cells8_of q1
 have hx0:=hsm.get 0
 clear q0 q1 z0 b0 hr hT
 unfold stV at *
 generalize sumOf k=z1 at *
 generalize dataOf k=z2 at *
 go_enter Tryz.func256,Tryz.ntmps256
 go_wp2_with fail
 generalize ((w.alloc (.cells #[.pointer (some ⟨p,0,none⟩),.int .i64 (d:Int)] 230)).alloc (.cells #[.int .i64 (k:Int),.int .i64 (z1:Int),.int .i64 (z2:Int),.slice A1 128 c1,.slice (some ⟨b2,0,none⟩) 128 c2,.int .u32 (x:Int),.int .u32 (y:Int),.int .u32 (z:Int)] 257))=W0 at *
 refine hcl.out.mono ?_
 rintro e w1 ⟨g,c,rest,rfl,hc1,hcm,hg,hrow,hb1⟩
 have hz1:W0.heap.size<=w1.heap.size:=hb1.size
 have hlt0:w.heap.size<W0.heap.size:=by have:=Hz0.out;omega
 have hlt1:w.heap.size+1<W0.heap.size:=by have:=Hz0.out;omega
 have m0:=(hb1.cell (p:=⟨w.heap.size+1,0,none⟩) hlt1).trans k0
 have m5:=(hb1.cell (p:=⟨w.heap.size+1,5,none⟩) hlt1).trans k5
 have m6:=(hb1.cell (p:=⟨w.heap.size+1,6,none⟩) hlt1).trans k6
 have m7:=(hb1.cell (p:=⟨w.heap.size+1,7,none⟩) hlt1).trans k7
 have md:=(hb1.cell (p:=⟨w.heap.size,1,none⟩) hlt0).trans (cell_of_row _ _ 1 _ _ _ Q0.out)
 have hr3:=three_new w1 (.int .u32 (x:Int)) (.int .u32 (y:Int)) (.int .u32 (z:Int)) 303
 have hb2:Below w1.heap.size w1 (w1.alloc (.cells #[.int .u32 (x:Int),.int .u32 (y:Int),.int .u32 (z:Int)] 303)):=(Below.refl _ _).alloc (Nat.le_refl _) _
 have hgw1:=hrow.lt
 clear k0 k4 k5 k6 k7 hcl
 go_wp2_with fail
 clear m0 m5 m6 m7 md
 go_loopw [] (fun wr=>∃j:Nat,j<=3/\(∀i,i<j->sumL d k (bump l i)=x\/sumL d k (bump l i)=y\/sumL d k (bump l i)=z)/\RowB wr g (bump l j) rest/\wr.heap[w1.heap.size]?=some (.cells #[.int .u32 (x:Int),.int .u32 (y:Int),.int .u32 (z:Int)] 303 (0,0))/\Below W0.heap.size W0 wr/\w1.heap.size<wr.heap.size) (fun wr=>300-(byteAt wr g+256-l.getD 0 0)%256)
 case atStart =>
  refine ⟨0,by decide,fun i hi=>absurd hi (Nat.not_lt_zero _),?_,hr3,hb1.trans (hb2.mono hz1),by simp⟩
  rw [bump_zero hsm hl]
  exact hrow.same (hb2.block g hgw1)
 case round =>
  clear hr3 hb2 hrow hb1
  obtain ⟨j,hj,hall,hrow,htk,hb,hg3lt⟩:=hrel
  have hgr:=hrow.lt
  have hltr:w.heap.size<wr.heap.size:=by omega
  have hltr1:w.heap.size+1<wr.heap.size:=by omega
  have hO:OwnK w.heap.size d k wr:=⟨(hb.cell (p:=⟨w.heap.size,1,none⟩) hlt0).trans (cell_of_row _ _ 1 _ _ _ Q0.out),(hb.cell (p:=⟨w.heap.size+1,0,none⟩) hlt1).trans (cells8_of Q1.out).1⟩
  have i0:=fun W' (h:OwnK w.heap.size d k W')=>h.1
  have i1:=fun W' (h:OwnK w.heap.size d k W')=>h.2
  have hlj:(bump l j).length=128:=(bump_length l j).trans hl
  have hsmj:=bump_small hsm j
  have hrdj:Reads wr.drew wr.drew.heap.size (some ⟨g,0,none⟩) 128 (bts (bump l j)):=hrow.reads hlj
  have hTj:Tabs wr.drew:=show Tabs wr from HT.out.below HT.out.size hb
  obtain ⟨hba,hbc,hbf⟩:=byteAt_row hlj hrow
  rw [bump_get hl] at hba hbc
  generalize hdec:decide (sumL d k (bump l j)=x\/sumL d k (bump l j)=y\/sumL d k (bump l j)=z)=q
  have Hdec:=hid hdec
  have Hall:=hid hall
  have Hba:=hid hba
  have Hb:=hid hb
  clear hall hba hlj
  go_wp2_with fail
  refine wp_region_held_drew (S:=OwnK w.heap.size d k) (by kernel_rfl) hO (fun hHeld=>?_)
  refine tk 0 19 ?_
  refine tk 1 20 ?_
  refine tk 2 21 ?_
  refine tk 3 22 ?_
  refine tk 4 23 ?_
  refine tk 5 24 ?_
  refine r1 6 (some 25) fun K hK=>?_
  go_simp
  refine (sum_any d k (some ⟨g,0,none⟩) 128 c (bump l j) wr.drew hsmj hrdj (by decide) hTj).mono ?_
  rintro e w3 ⟨rfl,b3⟩
  refine hK.out _ _ (⟨(b3.cell (p:=⟨w.heap.size,1,none⟩) (show w.heap.size<wr.drew.heap.size from hltr)).trans hHeld.1,(b3.cell (p:=⟨w.heap.size+1,0,none⟩) (show w.heap.size+1<wr.drew.heap.size from hltr1)).trans hHeld.2⟩) (fun hHeld=>?_)
  clear hK K
  try simp only [Act.put,List.setIfInBounds_toArray,List.set_cons_zero,List.set_cons_succ]
  have hB3:Below wr.heap.size wr w3:=⟨b3.os,b3.tape,b3.output,b3.size,b3.block⟩
  clear b3
  have hr3:w3.heap[w1.heap.size]?=some (.cells #[.int .u32 (x:Int),.int .u32 (y:Int),.int .u32 (z:Int)] 303 (0,0)):=(hB3.block _ hg3lt).trans htk
  have hq:=contains_any w1.heap.size x y z (sumL d k (bump l j)) w3 hr3
  rw [hdec] at hq
  refine r1 7 (some 26) fun K hK=>?_
  go_simp
  refine (hq).mono ?_
  rintro e w4 ⟨rfl,rfl⟩
  refine hK.out _ _ (hHeld) (fun hHeld=>?_)
  clear hK K
  try simp only [Act.put,List.setIfInBounds_toArray,List.set_cons_zero,List.set_cons_succ]
  refine wpAnyH_done (by kernel_rfl) ?_ _
  have hrow3:RowB w3 g (bump l j) rest:=hrow.same (hB3.block g hgr)
  have hB:=Hb.out.trans (hB3.mono (by omega))
  have hbf3:w3.frozen? ⟨g,0,none⟩=false:=frozen_of_row _ _ _ _ _ hrow3
  have hbc3:w3.cell? ⟨g,0,none⟩=some (.int .u8 (((l.getD 0 0+j)%256:Nat):Int)):=(hB3.cell (p:=⟨g,0,none⟩) hgr).trans hbc
  have hg3:w1.heap.size<w3.heap.size:=Nat.lt_of_lt_of_le hg3lt hB3.size
  cases q
  ·have hno:¬(sumL d k (bump l j)=x\/sumL d k (bump l j)=y\/sumL d k (bump l j)=z):=of_decide_eq_false Hdec.out
   have HR:=hid hrow3
   have HN:=hid hno
   clear hbc hbc3 hbf3 hrow3 hrow hno hr3 htk
   go_wp2
   go_ret
   exact ⟨g,c,bump l j,rest,rfl,by omega,⟨(bump_length l j).trans hl,bump_small hsm j⟩,HR.out,HN.out,Hb0.out.trans (hB.mono (by omega))⟩
  ·have hyes:sumL d k (bump l j)=x\/sumL d k (bump l j)=y\/sumL d k (bump l j)=z:=of_decide_eq_true Hdec.out
   have hj3:j<3:=by
    rcases Nat.lt_or_ge j 3 with h | h
    ·exact h
    ·obtain rfl:j=3:=by omega
     exact (four_in_three (Hall.out 0 (by decide)) (Hall.out 1 (by decide)) (Hall.out 2 (by decide)) hyes (bump_ne hsm hl (by decide) (by decide)) (bump_ne hsm hl (by decide) (by decide)) (bump_ne hsm hl (by decide) (by decide)) (bump_ne hsm hl (by decide) (by decide)) (bump_ne hsm hl (by decide) (by decide)) (bump_ne hsm hl (by decide) (by decide))).elim
   have hyes':=hid (show ∀i,i<j+1->sumL d k (bump l i)=x\/sumL d k (bump l i)=y\/sumL d k (bump l i)=z from fun i hi=>by
    rcases Nat.lt_or_ge i j with h | h
    ·exact Hall.out i h
    ·obtain rfl:i=j:=by omega
     exact hyes)
   have hR:=hid (show RowB (w3.setCell ⟨g,0,none⟩ (.int .u8 (((l.getD 0 0+(j+1))%256:Nat):Int))) g (bump l (j+1)) rest from by
    have:=heap_setCell_same w3 g 0 _ _ (.int .u8 (((l.getD 0 0+(j+1))%256:Nat):Int)) hrow3
    rw [bump_row l hl] at this
    exact this)
   have hT3:=hid ((Sh.heap_set_other w3 ⟨g,0,none⟩ (.int .u8 (((l.getD 0 0+(j+1))%256:Nat):Int)) (show w1.heap.size≠g by omega)).trans hr3)
   have hB':=hid (hB.setCell (p:=⟨g,0,none⟩) hg (.int .u8 (((l.getD 0 0+(j+1))%256:Nat):Int)))
   have hS':=hid (show w1.heap.size<(w3.setCell ⟨g,0,none⟩ (.int .u8 (((l.getD 0 0+(j+1))%256:Nat):Int))).heap.size by simpa using hg3)
   have hw:((((l.getD 0 0+j)%256:Nat):Int)+1)%256=(((l.getD 0 0+(j+1))%256:Nat):Int):=by omega
   have hMs:=hid (show 300-(byteAt (w3.setCell ⟨g,0,none⟩ (.int .u8 (((l.getD 0 0+(j+1))%256:Nat):Int))) g+256-l.getD 0 0)%256<300-(byteAt wr g+256-l.getD 0 0)%256 by
    rw [(byteAt_row ((bump_length l (j+1)).trans hl) hR.out).1,bump_get hl,Hba.out]
    omega)
   clear hbc hrow3 hrow hyes hr3 htk
   generalize (l.getD 0 0+(j+1))%256=v1 at *
   generalize (l.getD 0 0+j)%256=v0 at *
   go_wp2
   exact ⟨⟨j+1,by omega,hyes'.out,hR.out,hT3.out,hB'.out,hS'.out⟩,hMs.out⟩
end Go.Proofs.YtcnjpmcelihknaaGreatDoor.U
