/-
  What the statement's proof rests on, part 12.
  Conditions: each theorem's own.
-/
import Derived.Test.YtgebkmpmnjhceaaGreatDoorV10
import Derived.Test.YtgebkmpmnjhceaaGreatDoorV03
import Derived.Laws.CopyOwn
import Derived.Test.YtgebkmpmnjhceaaGreatDoorVtk
open Go.Lib (hid)
namespace Go.Proofs.YtgebkmpmnjhceaaGreatDoor.U
open Go.RowKit Go.Maps
def blk (n:Nat):Nat:=n / 17*16+(n%17-1)
theorem blk_le (n:Nat):blk n<=n:=by unfold blk;omega
def sumOf (k:Nat):Nat:=k / 16*17
def dataOf (k:Nat):Nat:=k / 16*17+1+k%16
theorem blocks_pos (n:Nat) (hn:n<=9223372036854775807) (w:World) :
  Calls Tryz.prog 125 #[.int .i64 n] w fun e w'=>e=.returned (.int .i64 ((blk n:Nat):Int))/\w=w':=by
 have h1:((n:Int)%17)=((n%17:Nat):Int):=by omega
 have h2:((n:Int) / 17)=((n / 17:Nat):Int):=by omega
 have hb:(n / 17)<=542551296285575048:=by omega
 have hm:max ((n:Int)) 0=n:=by omega
 have hx:=hid (show ((n / 17:Nat):Int)*16+max (((n%17:Nat):Int)-1) 0=((blk n:Nat):Int) by unfold blk;omega)
 have hr:n%17<17:=Nat.mod_lt _ (by decide)
 generalize n%17=r at *
 generalize n / 17=q at *
 go_enter Tryz.func125,Tryz.ntmps125
 go_wp2
 go_ret
 exact ⟨by rw [<- hx.out];rfl,rfl⟩
theorem place_yes (k:Nat) (hk:k<4096) (w:World) :
  Calls Tryz.prog 66 #[.int .i64 k] w fun e w'=>e=.returned (.tuple #[.int .i64 ((sumOf k:Nat):Int),.int .i64 ((dataOf k:Nat):Int),.int .i64 0])/\w=w':=by
 have h1:((k:Int)%16)=((k%16:Nat):Int):=by omega
 have h2:((k:Int) / 16)=((k / 16:Nat):Int):=by omega
 have hb:k / 16<256:=by omega
 have hr:k%16<16:=Nat.mod_lt _ (by decide)
 have hx:=hid (show ((k / 16:Nat):Int)*17=((sumOf k:Nat):Int) by unfold sumOf;omega)
 have hy:=hid (show ((k / 16:Nat):Int)*17+1+((k%16:Nat):Int)=((dataOf k:Nat):Int) by unfold dataOf;omega)
 generalize k%16=r at *
 generalize k / 16=q at *
 go_enter Tryz.func66,Tryz.ntmps66
 go_wp2
 go_ret3
 exact ⟨by rw [<- hx.out,<- hy.out];rfl,rfl⟩
theorem pairAt_any (k:Nat) (hk:k<=9223372036854775807) (w:World) :
  Calls Tryz.prog 148 #[.int .i64 k] w fun e w'=>e=.returned (.int .i64 ((k%16*8:Nat):Int))/\w=w':=by
 have h1:((k:Int)%16)=((k%16:Nat):Int):=by omega
 have hr:k%16<16:=Nat.mod_lt _ (by decide)
 have hx:=hid (show ((k%16:Nat):Int)*2*4=((k%16*8:Nat):Int) by omega)
 generalize k%16=r at *
 go_enter Tryz.func148,Tryz.ntmps148
 go_wp2
 go_ret
 exact ⟨by rw [<- hx.out];rfl,rfl⟩
def w32 (z:Int):Nat:=(z%4294967296).toNat
theorem w32_lt (z:Int):w32 z<4294967296:=by unfold w32;omega
theorem w32_cast (z:Int):((w32 z:Nat):Int)=z%4294967296:=by unfold w32;omega
def sumL (disk block:Int) (l:List Nat):Nat:=Nums.sum (Nums.sum (Nums.sum 0 (putL (w32 disk) 4)) (putL (w32 block) 4)) l
theorem drawn {B:Nat} {w w':World} (h:Below B w w') (k:Nat):Below B w (w'.drewN k):=⟨h.os,h.tape,h.output,h.size,h.block⟩
theorem putL_small (x n:Nat):Small (putL x n):=by
 intro y hy
 unfold putL at hy
 obtain ⟨k,_,rfl⟩:=List.mem_map.1 hy
 exact Nat.mod_lt _ (by decide)
theorem number_any (x:Nat) (hx:x<4294967296) (w:World) :
  Calls Tryz.prog 138 #[.int .u32 x] w fun e w'=>∃A c,e=.returned (.slice A 4 c)/\Reads w' w'.heap.size A 4 (bts (putL x 4))/\Below w.heap.size w w':=by
 have hp:=hid (put_ok x 4 · (by decide) (by decide) (by omega))
 go_enter Tryz.func138,Tryz.ntmps138
 go_wp2_with (go_at_call 151;refine (hp.out _).mono ?_;rintro e w' ⟨v,rfl,hown,hb⟩)
 obtain ⟨A,c,rfl⟩:∃A c,v=.slice A 4 c:=by
  rcases hown.2 with ⟨_,h⟩ | ⟨g,cap,cur,rfl,_⟩
  ·rw [putL_length] at h;cases h
  ·rw [putL_length];exact ⟨_,_,rfl⟩
 rw [putL_length] at hown
 have hr:=Reads.of_own hown
 clear hown
 go_wp2
 go_ret
 exact ⟨A,c,rfl,hr,hb⟩
set_option maxHeartbeats 800000 in
theorem sum_any (disk block:Int) (A:Option Addr) (n c:Nat) (l:List Nat) (w:World) (hl:Small l)
  (hr:Reads w w.heap.size A n (bts l)) (hn:n<=maxLen) (hT:Tabs w) :
  Calls Tryz.prog 109 #[.int .i64 disk,.int .i64 block,.slice A n c] w fun e w'=>e=.returned (.int .u32 ((sumL disk block l:Nat):Int))/\Below w.heap.size w w':=by
 have e1:=(w32_cast disk).symm
 have e2:=(w32_cast block).symm
 have l1:=w32_lt disk
 have l2:=w32_lt block
 have HX:=hid (show sumL disk block l=Nums.sum (Nums.sum (Nums.sum 0 (putL (w32 disk) 4)) (putL (w32 block) 4)) l from rfl)
 generalize sumL disk block l=res at *
 generalize w32 disk=d at *
 generalize w32 block=k at *
 go_enter Tryz.func109,Tryz.ntmps109
 go_wp2_with fail
 refine (number_any d l1 w).mono ?_
 rintro e w1 ⟨A1,c1,rfl,r1,b1⟩
 have T1:=hT.below hT.size b1
 go_wp2_with fail
 refine (crc_any A1 4 c1 w1.heap.size (putL d 4) 0 w1 (by decide) (putL_small d 4) r1 (by decide) T1).mono ?_
 rintro e w2 ⟨rfl,k1,rfl⟩
 have T2:Tabs (w1.drewN k1):=T1.drewN k1
 have b2:Below w.heap.size w (w1.drewN k1):=drawn b1 k1
 have g1:=Nums.sum_lt (putL_small d 4) (s:=0) (by decide)
 generalize Nums.sum 0 (putL d 4)=s1 at *
 generalize w1.drewN k1=w3 at *
 clear r1 b1 T1
 go_wp2_with fail
 refine (number_any k l2 w3).mono ?_
 rintro e w4 ⟨A2,c2,rfl,r2,b4⟩
 have T4:=T2.below T2.size b4
 have b5:=b2.trans (b4.mono b2.size)
 go_wp2_with fail
 refine (crc_any A2 4 c2 w4.heap.size (putL k 4) s1 w4 g1 (putL_small k 4) r2 (by decide) T4).mono ?_
 rintro e w5 ⟨rfl,k2,rfl⟩
 have T5:Tabs (w4.drewN k2):=T4.drewN k2
 have b6:Below w.heap.size w (w4.drewN k2):=drawn b5 k2
 have g2:=Nums.sum_lt (putL_small k 4) g1
 generalize Nums.sum s1 (putL k 4)=s2 at *
 generalize w4.drewN k2=w6 at *
 clear r2 b4 T4 b5 b2 T2
 have r6:=(hr.below b6).more b6.size
 go_wp2_with fail
 refine (crc_any A n c w6.heap.size l s2 w6 g2 hl r6 hn T5).mono ?_
 rintro e w7 ⟨rfl,k3,rfl⟩
 have b7:Below w.heap.size w (w6.drewN k3):=drawn b6 k3
 rw [<- HX.out]
 go_wp2
 go_ret
 exact ⟨rfl,b7⟩
def DevIs (w:World) (a p:Nat) (d o:Int):Prop:=w.heap[a]?=some (.cells #[.pointer (some ⟨p,0,none⟩),.int .i64 d,.int .i64 o] 128 (0,0))
section
variable {w:World} {a p:Nat} {d o:Int}
theorem DevIs.c0 (h:DevIs w a p d o):w.cell? ⟨a,0,none⟩=some (.pointer (some ⟨p,0,none⟩)):=cell_of_row _ _ 0 _ _ _ h
theorem DevIs.c1 (h:DevIs w a p d o):w.cell? ⟨a,1,none⟩=some (.int .i64 d):=cell_of_row _ _ 1 _ _ _ h
theorem DevIs.c2 (h:DevIs w a p d o):w.cell? ⟨a,2,none⟩=some (.int .i64 o):=cell_of_row _ _ 2 _ _ _ h
theorem DevIs.free (h:DevIs w a p d o) (i:Nat):w.frozen? ⟨a,i,none⟩=false:=frozen_of_row _ _ _ _ _ h
theorem DevIs.lt (h:DevIs w a p d o):a<w.heap.size:=(Array.getElem?_eq_some_iff.1 h).1
theorem DevIs.same {w':World} (h:DevIs w a p d o) (hk:w'.heap[a]?=w.heap[a]?):DevIs w' a p d o:=hk.trans h
end
section
variable {w:World} {a p:Nat} {d o:Int} {S:Sh.Sf} {F:Nat->Prop}
theorem size_of (h:Sh.Shelf w p S F):Calls Tryz.prog 91 #[.pointer (some ⟨p,0,none⟩)] w fun e w'=>e=.returned (.tuple #[.int .i64 (S.disks.length:Int),.int .i64 (S.sectors:Int)])/\∃n,w'=w.drewN n:=by
 obtain ⟨D,gs,s⟩:=h
 exact Sh.size_any s
theorem open_yes (d:Nat) (h:Sh.Shelf w p S F) (hd:d<S.disks.length) :
  Calls Tryz.prog 68 #[.pointer (some ⟨p,0,none⟩),.int .i64 d] w fun e w'=>e=.returned (.tuple #[.pointer (some ⟨w.heap.size,0,none⟩),.int .i64 0])/\DevIs w' w.heap.size p d (-1)/\Below w.heap.size w w':=by
 have hs:=hid (size_of h)
 have hb:((S.disks.length:Int)<=(d:Int))=False:=by simp;omega
 generalize S.disks.length=k at *
 go_enter Tryz.func68,Tryz.ntmps68
 go_wp2_with fail
 refine hs.out.mono ?_
 rintro e w' ⟨rfl,m,rfl⟩
 go_wp2
 go_ret2
 refine ⟨rfl,?_,?_⟩
 ·have:=heap_alloc_new (w.drewN m) (.cells #[.pointer (some ⟨p,0,none⟩),.int .i64 d,.int .i64 (-1)] 128)
  exact this
 ·exact (drawn (Below.refl _ w) m).alloc (Nat.le_refl _) _
theorem count_of (h:DevIs w a p d o) (hs:Sh.Shelf w p S F) (hS:S.sectors<=4096) :
  Calls Tryz.prog 94 #[.pointer (some ⟨a,0,none⟩)] w fun e w'=>e=.returned (.int .i64 ((blk S.sectors:Nat):Int))/\∃n,w'=w.drewN n:=by
 have hz:=hid (size_of hs)
 have hb:=hid (fun w=>blocks_pos S.sectors (by omega) w)
 have c0:=h.c0
 generalize S.sectors=k at *
 clear h hs
 go_enter Tryz.func94,Tryz.ntmps94
 go_wp2_with fail
 refine hz.out.mono ?_
 rintro e w' ⟨rfl,m,rfl⟩
 go_wp2_with fail
 refine (hb.out _).mono ?_
 rintro e w' ⟨rfl,rfl⟩
 go_wp2
 go_ret
 exact ⟨rfl,m,rfl⟩
theorem has_yes (k:Nat) (h:DevIs w a p d o) (hs:Sh.Shelf w p S F) (hS:S.sectors<=4096) (hk:k<blk S.sectors) :
  Calls Tryz.prog 102 #[.pointer (some ⟨a,0,none⟩),.int .i64 k] w fun e w'=>e=.returned (.bool true)/\∃n,w'=w.drewN n:=by
 have hz:=hid (count_of h hs hS)
 clear h hs
 generalize blk S.sectors=b at *
 go_enter Tryz.func102,Tryz.ntmps102
 go_wp2_with (go_at_call 94;refine hz.out.mono ?_;rintro e w' ⟨rfl,m,rfl⟩)
 go_ret
 exact ⟨rfl,m,rfl⟩
end
theorem getN_cut_lt {l:List Nat} (hl:Small l) (i:Nat):getN (cutAt l i 4)<4294967296:=cutAt_lt hl i 4
def pr (l:List Nat) (k j:Nat):Nat:=getN (cutAt l (k%16*8+j*4) 4)
theorem info_pair:(Tryz.prog.info? 153).map (·.size)=some 2:=by kernel_rfl
theorem two_new (w:World) (c d:Array Value) (t:TypeId):((w.alloc (.cells c t)).alloc (.cells d t)).heap[w.heap.size]?=some (.cells c t (0,0))/\((w.alloc (.cells c t)).alloc (.cells d t)).heap[w.heap.size+1]?=some (.cells d t (0,0)) /\
  ((w.alloc (.cells c t)).alloc (.cells d t)).heap.size=w.heap.size+2/\Below w.heap.size w ((w.alloc (.cells c t)).alloc (.cells d t)):=by
 have hz:(w.alloc (.cells c t)).heap.size=w.heap.size+1:=by simp
 have hb1:Below w.heap.size w (w.alloc (.cells c t)):=(Below.refl _ w).alloc (Nat.le_refl _) _
 have hb2:Below (w.alloc (.cells c t)).heap.size (w.alloc (.cells c t)) ((w.alloc (.cells c t)).alloc (.cells d t)):=(Below.refl _ _).alloc (Nat.le_refl _) _
 refine ⟨(hb2.block w.heap.size (by omega)).trans (heap_alloc_new _ _),?_,by simp,hb1.trans (hb2.mono (by omega))⟩
 have:=heap_alloc_new (w.alloc (.cells c t)) (.cells d t)
 rw [hz] at this
 exact this
theorem store_two {w:World} {g:Nat} {t:TypeId} {v0 v1:Value} (h:w.heap[g]?=some (.cells #[v0,v1] t (0,0))) (a:Value) (ha:a.oneCell'=true) :
  (store ⟨g,0,none⟩ a).run Tryz.prog w=.ok () (w.setCell ⟨g,0,none⟩ a):=by
 have k0:w.cell? ⟨g,0,none⟩=some v0:=cell_of_row _ _ 0 _ _ _ h
 have f0:w.frozen? ⟨g,0,none⟩=false:=frozen_of_row _ _ _ _ _ h
 rw [run_store _ _ _ _ _ ha,k0]
 simp only [f0]
 rfl
theorem results_in {fn:Func} {a:Tmp} {t:TypeId} {P:Program} {w:World} {v:Value} {tmps:Array Value} {g:Nat} (h:fn.results=#[.cell a t])
  (hp:tmps.getD a undef=.pointer (some ⟨g,0,none⟩)) (hl:(loadVar t ⟨g,0,none⟩).run P w=.ok v w):(results fn tmps).run P w=.ok v w:=by
 rw [Array.getD_eq_getD_getElem?] at hp
 simp [results,h,hp,asAddr,hl]
set_option maxRecDepth 20000 in
set_option maxHeartbeats 1600000 in
theorem pairOf_any (A:Option Addr) (c k:Nat) (l:List Nat) (w:World) (hk:k<=9223372036854775807) (hl:Small l) (hr:Reads w w.heap.size A 128 (bts l)) :
  Calls Tryz.prog 129 #[.slice A 128 c,.int .i64 k] w fun e w'=>e=.returned (.agg #[.int .u32 ((pr l k 0:Nat):Int),.int .u32 ((pr l k 1:Nat):Int)])/\Below w.heap.size w w':=by
 obtain ⟨r0,r1,z0,b0⟩:=two_new w #[.int .u32 0,.int .u32 0] #[.int .u32 0,.int .u32 0] 153
 have hpa:=hid (pairAt_any k hk)
 go_enter Tryz.func129,Tryz.ntmps129
 have hm:k%16*8<=120:=by omega
 have HP0:=hid (show getN (cutAt l (k%16*8) 4)=pr l k 0 from rfl)
 have HP1:=hid (show getN (cutAt l (k%16*8+4) 4)=pr l k 1 from rfl)
 have q0:=getN_cut_lt hl (k%16*8)
 have q1:=getN_cut_lt hl (k%16*8+4)
 have G0:=hid (fun (W:World) (B:Nat) (h:Reads W B A 128 (bts l))=>get_ok A 128 c B l (k%16*8) 4 W (by decide) (by decide) hl h (by decide) (by omega))
 have G1:=hid (fun (W:World) (B:Nat) (h:Reads W B A 128 (bts l))=>get_ok A 128 c B l (k%16*8+4) 4 W (by decide) (by decide) hl h (by decide) (by omega))
 rw [HP0.out] at q0
 rw [HP1.out] at q1
 rw [HP0.out] at G0
 rw [HP1.out] at G1
 generalize pr l k 0=x0 at *
 generalize pr l k 1=x1 at *
 generalize k%16*8=m at *
 have hr0:=(hr.below b0).more b0.size
 go_wp2_with fail
 generalize ((w.alloc (.cells #[.int .u32 0,.int .u32 0] 153)).alloc (.cells #[.int .u32 0,.int .u32 0] 153))=W0 at *
 have hw0:((x0:Nat):Int)%4294967296=x0:=by omega
 have hw1:((x1:Nat):Int)%4294967296=x1:=by omega
 go_loopw [9] (fun s9 wr=>∃j:Nat,j<=2/\s9=.int .i64 j/\Reads wr wr.heap.size A 128 (bts l)/\Below w.heap.size w wr/\wr.heap.size=w.heap.size+2/\wr.heap[w.heap.size]?=some (.cells #[.int .u32 0,.int .u32 0] 153 (0,0)) /\
  wr.heap[w.heap.size+1]?=some (.cells #[if j=0 then .int .u32 0 else .int .u32 (x0:Int),if j<=1 then .int .u32 0 else .int .u32 (x1:Int)] 153 (0,0))) (fun i _=>2-(intOf i).toNat)
 case atStart=>exact ⟨0,by decide,rfl,hr0,b0,z0,r0,r1⟩
 case round =>
  clear r0 r1 b0 z0 hr0
  obtain ⟨j,hj,rfl,hr1,b1,z1,r0,r1⟩:=hrel
  rcases (show j=0\/j=1\/j=2 by omega) with rfl | rfl | rfl
  ·have r1:wr.heap[w.heap.size+1]?=some (.cells #[.int .u32 0,.int .u32 0] 153 (0,0)):=r1
   have k0:=cell_of_row _ _ 0 _ _ _ r1
   have k1:=cell_of_row _ _ 1 _ _ _ r1
   simp only [List.getElem?_toArray,List.getElem?_cons_zero,List.getElem?_cons_succ] at k0 k1
   have f0:=frozen_of_row _ _ 0 _ _ r1
   have r2:(wr.setCell ⟨w.heap.size+1,0,none⟩ (.int .u32 (x0:Int))).heap[w.heap.size+1]?=some (.cells #[.int .u32 (x0:Int),.int .u32 0] 153 (0,0)):=heap_setCell_same wr _ _ _ _ _ r1
   have r3:(wr.setCell ⟨w.heap.size+1,0,none⟩ (.int .u32 (x0:Int))).heap[w.heap.size]?=_:=(Sh.heap_set_other wr ⟨w.heap.size+1,0,none⟩ (.int .u32 (x0:Int)) (show w.heap.size≠w.heap.size+1 by omega)).trans r0
   have b3:Below w.heap.size w (wr.setCell ⟨w.heap.size+1,0,none⟩ (.int .u32 (x0:Int))):=b1.setCell (p:=⟨w.heap.size+1,0,none⟩) (Nat.le_succ _) _
   have z3:(wr.setCell ⟨w.heap.size+1,0,none⟩ (.int .u32 (x0:Int))).heap.size=w.heap.size+2:=by simp [z1]
   have hr3:Reads (wr.setCell ⟨w.heap.size+1,0,none⟩ (.int .u32 (x0:Int))) (wr.setCell ⟨w.heap.size+1,0,none⟩ (.int .u32 (x0:Int))).heap.size A 128 (bts l):=(hr.below b3).more b3.size
   go_wp2_with (first
    | (go_at_call 148;refine (hpa.out _).mono ?_;rintro e w' ⟨rfl,rfl⟩)
    | (go_at_call 147;refine (G0.out _ _ hr1).mono ?_;rintro e w' ⟨rfl,rfl⟩))
   go_roundw
   case rel=>exact ⟨0+1,by omega,by rfl,hr3,b3,z3,r3,r2⟩
   case measure=>simp [intOf]
  ·have r1:wr.heap[w.heap.size+1]?=some (.cells #[.int .u32 (x0:Int),.int .u32 0] 153 (0,0)):=r1
   have k0:=cell_of_row _ _ 0 _ _ _ r1
   have k1:=cell_of_row _ _ 1 _ _ _ r1
   simp only [List.getElem?_toArray,List.getElem?_cons_zero,List.getElem?_cons_succ] at k0 k1
   have f0:=frozen_of_row _ _ 1 _ _ r1
   have r2:(wr.setCell ⟨w.heap.size+1,1,none⟩ (.int .u32 (x1:Int))).heap[w.heap.size+1]?=some (.cells #[.int .u32 (x0:Int),.int .u32 (x1:Int)] 153 (0,0)):=heap_setCell_same wr _ _ _ _ _ r1
   have r3:(wr.setCell ⟨w.heap.size+1,1,none⟩ (.int .u32 (x1:Int))).heap[w.heap.size]?=_:=(Sh.heap_set_other wr ⟨w.heap.size+1,1,none⟩ (.int .u32 (x1:Int)) (show w.heap.size≠w.heap.size+1 by omega)).trans r0
   have b3:Below w.heap.size w (wr.setCell ⟨w.heap.size+1,1,none⟩ (.int .u32 (x1:Int))):=b1.setCell (p:=⟨w.heap.size+1,1,none⟩) (Nat.le_succ _) _
   have z3:(wr.setCell ⟨w.heap.size+1,1,none⟩ (.int .u32 (x1:Int))).heap.size=w.heap.size+2:=by simp [z1]
   have hr3:Reads (wr.setCell ⟨w.heap.size+1,1,none⟩ (.int .u32 (x1:Int))) (wr.setCell ⟨w.heap.size+1,1,none⟩ (.int .u32 (x1:Int))).heap.size A 128 (bts l):=(hr.below b3).more b3.size
   go_wp2_with (first
    | (go_at_call 148;refine (hpa.out _).mono ?_;rintro e w' ⟨rfl,rfl⟩)
    | (go_at_call 147;refine (G1.out _ _ hr1).mono ?_;rintro e w' ⟨rfl,rfl⟩))
   go_roundw
   case rel=>exact ⟨1+1,by omega,by rfl,hr3,b3,z3,r3,r2⟩
   case measure=>simp [intOf]
  ·have r1:wr.heap[w.heap.size+1]?=some (.cells #[.int .u32 (x0:Int),.int .u32 (x1:Int)] 153 (0,0)):=r1
   obtain ⟨k0,k1,f0,f1⟩:=(show wr.cell? ⟨w.heap.size,0,none⟩=some (.int .u32 0)/\wr.cell? ⟨w.heap.size,1,none⟩=some (.int .u32 0)/\wr.frozen? ⟨w.heap.size,0,none⟩=false/\wr.frozen? ⟨w.heap.size,1,none⟩=false from ⟨cell_of_row _ _ 0 _ _ _ r0,cell_of_row _ _ 1 _ _ _ r0,frozen_of_row _ _ _ _ _ r0,frozen_of_row _ _ _ _ _ r0⟩)
   obtain ⟨j0,j1⟩:=(show wr.cell? ⟨w.heap.size+1,0,none⟩=some (.int .u32 (x0:Int))/\wr.cell? ⟨w.heap.size+1,1,none⟩=some (.int .u32 (x1:Int)) from ⟨cell_of_row _ _ 0 _ _ _ r1,cell_of_row _ _ 1 _ _ _ r1⟩)
   have r2:((wr.setCell ⟨w.heap.size,0,none⟩ (.int .u32 (x0:Int))).setCell ⟨w.heap.size,1,none⟩ (.int .u32 (x1:Int))).heap[w.heap.size]?=some (.cells #[.int .u32 (x0:Int),.int .u32 (x1:Int)] 153 (0,0)) :=
    heap_setCell_same _ _ _ _ _ _ (show (wr.setCell ⟨w.heap.size,0,none⟩ (.int .u32 (x0:Int))).heap[w.heap.size]?=some (.cells #[.int .u32 (x0:Int),.int .u32 0] 153 (0,0)) from heap_setCell_same wr _ _ _ _ _ r0)
   have b3:Below w.heap.size w ((wr.setCell ⟨w.heap.size,0,none⟩ (.int .u32 (x0:Int))).setCell ⟨w.heap.size,1,none⟩ (.int .u32 (x1:Int))):=(b1.setCell (p:=⟨w.heap.size,0,none⟩) (Nat.le_refl _) _).setCell (p:=⟨w.heap.size,1,none⟩) (Nat.le_refl _) _
   have hinfo:(Tryz.prog.info? 153).map (·.size)=some (#[Value.int .u32 (x0:Int),.int .u32 (x1:Int)]:Array Value).size:=info_pair
   have hlv:=run_loadVar_row (P:=Tryz.prog) _ w.heap.size 153 153 _ (0,0) _ r2 Tryz.underlying153 rfl hinfo
   have s0:=store_two r0 (.int .u32 (x0:Int)) (by rfl)
   have HLV:=hid hlv
   have HB3:=hid b3
   clear hlv hinfo r2 r1 r0 b3 b1 z1 hr1 G0 G1 hpa
   go_wp2
   refine bodyPost_ret (results_in (g:=w.heap.size) Tryz.results129 rfl HLV.out) rfl ?_
   exact ⟨rfl,HB3.out⟩
structure Dv (B:Nat) (W w:World) (a p d:Nat) (o:Int) (S:Sh.Sf) (F:Nat->Prop):Prop where
 on:Sh.At B W w p S F
 dev:DevIs w a p d o
 apart:¬F a
 low:B<=a
section
variable {B:Nat} {W w w':World} {a p d:Nat} {o:Int} {S S':Sh.Sf} {F:Nat->Prop}
theorem Dv.left (h:Dv B W w a p d o S F) (hl:Sh.Left F w p S' w'):∃F',Dv B W w' a p d o S' F'/\Sh.Moves F w F' w':=by
 obtain ⟨F',h1,hm⟩:=h.on.left hl
 refine ⟨F',⟨h1,h.dev.same (hm.1.block a h.dev.lt h.apart),fun e=>?_,h.low⟩,hm⟩
 rcases hm.2 a e with e | e
 ·exact h.apart e
 ·exact Nat.lt_irrefl _ (Nat.lt_of_lt_of_le h.dev.lt e)
theorem Dv.grown (h:Dv B W w a p d o S F) (hb:Below w.heap.size w w'):Dv B W w' a p d o S F:=⟨h.on.grown hb,h.dev.same (hb.block a h.dev.lt),h.apart,h.low⟩
theorem Dv.put (h:Dv B W w a p d o S F) (o':Int):Dv B W (w.setCell ⟨a,2,none⟩ (.int .i64 o')) a p d o' S F:=by
 have hO:Sh.Only (fun b=>b=a) w (w.setCell ⟨a,2,none⟩ (.int .i64 o')):=Sh.Only.setCell (F:=fun b=>b=a) (p:=⟨a,2,none⟩) (Sh.Only.refl _ w) (.inl (show a=a from rfl)) _
 refine ⟨⟨h.on.shelf.only hO (fun b hb e=>h.apart (e▸hb)),h.on.low,h.on.bel.setCell (p:=⟨a,2,none⟩) h.low _,by simpa using h.on.size⟩,?_,h.apart,h.low⟩
 exact heap_setCell_same w a 2 _ _ _ h.dev
def With (F:Nat->Prop) (a:Nat) (b:Nat):Prop:=F b\/b=a
def Goes (B:Nat) (W w w':World) (a p d:Nat) (o:Int) (S:Sh.Sf) (F:Nat->Prop):Prop:=∃F',Dv B W w' a p d o S F'/\Sh.Moves (With F a) w (With F' a) w'
theorem Dv.goes (h:Dv B W w a p d o S F) (hl:Sh.Left F w p S' w'):Goes B W w w' a p d o S' F:=by
 obtain ⟨F',D1,hm⟩:=h.left hl
 exact ⟨F',D1,hm.1.mono fun b hb=>.inl hb,fun b hb=>hb.elim (fun e=>(hm.2 b e).imp .inl id) fun e=>.inl (.inr e)⟩
theorem Dv.stays (h:Dv B W w a p d o S F) (hs:Sh.Shelf w' p S' F) (ho:Sh.Only F w w'):Dv B W w' a p d o S' F :=
 ⟨h.on.stays hs ho,h.dev.same (ho.block a h.dev.lt h.apart),h.apart,h.low⟩
theorem moves_below (h:Below w.heap.size w w'):Sh.Moves (With F a) w (With F a) w':=⟨⟨h.os,h.tape,h.output,h.size,fun k hk _=>h.block k hk⟩,fun _ hb=>.inl hb⟩
theorem moves_only (h:Sh.Only F w w'):Sh.Moves (With F a) w (With F a) w':=⟨h.mono fun _ hb=>.inl hb,fun _ hb=>.inl hb⟩
theorem moves_put (o':Int):Sh.Moves (With F a) w (With F a) (w.setCell ⟨a,2,none⟩ (.int .i64 o')) :=
 ⟨Sh.Only.setCell (p:=⟨a,2,none⟩) (Sh.Only.refl _ w) (.inl (.inr (show a=a from rfl))) _,fun _ hb=>.inl hb⟩
theorem moves_drew:Sh.Moves (With F a) w (With F a) w.drew:=⟨⟨rfl,rfl,rfl,Nat.le_refl _,fun _ _ _=>rfl⟩,fun _ hb=>.inl hb⟩
end
/-! ### what is done where it can be -/
def Wr (S:Sh.Sf) (d n:Nat) (b:Sh.Bs):Sh.Sf:=if Sh.why S d=0 then S.doWrite d n b else S
def Fl (S:Sh.Sf) (d:Nat):Sh.Sf:=if Sh.why S d=0 then S.doFlush d else S
def shut (y o:Int):Int:=if y=0 then -1 else o
section
variable {w:World} {p d n:Nat} {S:Sh.Sf} {F:Nat->Prop}
theorem wr_of (w:World) (p d n:Nat) (b:Sh.Bs) {A:Option Addr} {c:Nat} (h:Sh.Shelf w p S F) (hd:d<S.disks.length) (hn:n<S.sectors) (hL:∀k∈S.disks,k.waits.length<1099511627776) (hb:Sh.Sec b) (hr:Sh.Reads w w.heap.size A 128 (Sh.bts b)) (hA:∀a,A=some a->¬F a.block) :
  Calls Tryz.prog 110 #[.pointer (some ⟨p,0,none⟩),.int .i64 d,.int .i64 n,.slice A 128 c] w fun e w'=>e=.returned (.int .i64 (Sh.why S d))/\Sh.Left F w p (Wr S d n b) w':=by
 unfold Wr
 by_cases hw:Sh.why S d=0
 ·rw [if_pos hw,hw]
  exact Sh.write_done w p d n b h hd hn hw (hL _ (Sh.getD_mem hd)) hb hr hA
 ·rw [if_neg hw]
  refine (Sh.write_why w p d n h hd hn hw).mono ?_
  rintro e w' ⟨rfl,rfl⟩
  exact ⟨rfl,Sh.left_here h⟩
theorem fl_of (w:World) (p d:Nat) (h:Sh.Shelf w p S F) (hd:d<S.disks.length) (hL:∀k∈S.disks,k.waits.length<1099511627776) :
  Calls Tryz.prog 105 #[.pointer (some ⟨p,0,none⟩),.int .i64 d] w fun e w'=>e=.returned (.int .i64 (Sh.why S d))/\Sh.Left F w p (Fl S d) w':=by
 unfold Fl
 by_cases hw:Sh.why S d=0
 ·rw [if_pos hw,hw]
  exact Sh.flush_done w p d h hd hw (hL _ (Sh.getD_mem hd))
 ·rw [if_neg hw]
  refine (Sh.flush_why w p d h hd hw).mono ?_
  rintro e w' ⟨rfl,rfl⟩
  exact ⟨rfl,Sh.left_here h⟩
end
section
variable {B:Nat} {W w w':World} {a p d:Nat} {o:Int} {S S':Sh.Sf} {F:Nat->Prop}
theorem flush_dev (h:Dv B W w a p d o S F) (hd:d<S.disks.length) (hL:∀k∈S.disks,k.waits.length<1099511627776) :
  Calls Tryz.prog 71 #[.pointer (some ⟨a,0,none⟩)] w fun e w'=>e=.returned (.int .i64 (Sh.why S d))/\Goes B W w w' a p d (shut (Sh.why S d) o) (Fl S d) F:=by
 have j0:=fun (W':World) (h:DevIs W' a p d o)=>h.c0
 have j1:=fun (W':World) (h:DevIs W' a p d o)=>h.c1
 have HD:=hid (h.grown (w':=w.drew) ⟨rfl,rfl,rfl,Nat.le_refl _,fun _ _=>rfl⟩)
 have HFL:=hid (fl_of w.drew p d HD.out.on.shelf hd hL)
 clear h
 generalize Fl S d=S' at *
 generalize Sh.why S d=y at *
 go_enter Tryz.func71,Tryz.ntmps71
 go_wp2_with fail
 refine wp_region_held_drew (S:=fun (W':World)=>DevIs W' a p d o) (by kernel_rfl) (HD.out.dev) (fun hHeld=>?_)
 refine tk 0 6 ?_
 refine tk 1 7 ?_
 refine tk 2 8 ?_
 refine tk 3 9 ?_
 refine tk 4 10 ?_
 refine tk 5 11 ?_
 refine tk 6 12 ?_
 refine tk 7 13 ?_
 refine tk 8 14 ?_
 refine tk 9 15 ?_
 refine r1 10 (some 16) fun K hK=>?_
 go_simp
 refine HFL.out.mono ?_
 rintro e w1 ⟨rfl,hl⟩
 refine hK.out _ _ ((by obtain ⟨F',D1,_⟩:=HD.out.left hl;exact D1.dev)) (fun hHeld=>?_)
 clear hK K
 try simp only [Act.put,List.setIfInBounds_toArray,List.set_cons_zero,List.set_cons_succ]
 refine tk 11 3 ?_
 refine wpAnyH_done (by kernel_rfl) ?_ _
 obtain ⟨F',D1,M1⟩:=HD.out.goes hl
 have M2:=hid ((moves_drew (F:=F) (a:=a) (w:=w)).trans M1)
 have k2:=D1.dev.c2
 have f2:=D1.dev.free 2
 by_cases hy:y=0
 ·subst hy
  have D2:=hid (D1.put (-1))
  have M3:=hid (M2.out.trans (moves_put (F:=F') (-1)))
  clear D1 M1
  go_wp2
  go_ret
  exact ⟨rfl,F',D2.out,M3.out⟩
 ·have hq:(y == 0)=false:=by rw [beq_eq_false_iff_ne];exact hy
  clear M1
  go_wp2
  go_ret
  exact ⟨rfl,F',by rw [show shut y o=o from if_neg hy];exact D1,M2.out⟩
end
section
variable {B:Nat} {W w w':World} {a p d:Nat} {o:Int} {S S':Sh.Sf} {F:Nat->Prop}
theorem wr_length (S:Sh.Sf) (d n:Nat) (b:Sh.Bs):(Wr S d n b).disks.length=S.disks.length:=by
 unfold Wr
 split
 ·show (S.disks.set d _).length=_;rw [List.length_set]
 ·rfl
theorem wr_waits {S:Sh.Sf} {d n:Nat} {b:Sh.Bs} {m:Nat} (hL:∀k∈S.disks,k.waits.length+1<m):∀k∈(Wr S d n b).disks,k.waits.length<m:=by
 unfold Wr
 split
 ·intro k hk
  have hk:k∈S.disks.set d ((S.disks.getD d default).write n b):=hk
  by_cases hd:d<S.disks.length
  ·rcases List.mem_or_eq_of_mem_set hk with hk | rfl
   ·have:=hL k hk;omega
   ·have:=hL _ (Sh.getD_mem (l:=S.disks) (d:=d) hd)
    have e:((S.disks.getD d default).write n b).waits.length=(S.disks.getD d default).waits.length+1:=by unfold Sh.Dk.write;exact List.length_append
    omega
  ·rw [List.set_eq_of_length_le (by omega)] at hk
   have:=hL k hk;omega
 ·intro k hk;have:=hL k hk;omega
theorem sure_any (h:Dv B W w a p d o S F) (hd:d<S.disks.length) (n:Nat) (hn:n<S.sectors) (b:Sh.Bs) {A:Option Addr} {c:Nat} (hb:Sh.Sec b) (hr:Sh.Reads w w.heap.size A 128 (Sh.bts b)) (hA:∀x,A=some x->¬F x.block) (hL1:∀k∈S.disks,k.waits.length+1<1099511627776) :
  Calls Tryz.prog 134 #[.pointer (some ⟨a,0,none⟩),.int .i64 n,.slice A 128 c] w fun e w'=>e=.returned (.int .i64 (Sh.why (Wr S d n b) d))/\Goes B W w w' a p d (shut (Sh.why (Wr S d n b) d) o) (Fl (Wr S d n b) d) F:=by
 have hL:∀k∈S.disks,k.waits.length<1099511627776:=fun k hk=>by have:=hL1 k hk;omega
 have hrd:Sh.Reads w.drew w.drew.heap.size A 128 (Sh.bts b):=hr
 have j0:=fun (W':World) (h:DevIs W' a p d o)=>h.c0
 have j1:=fun (W':World) (h:DevIs W' a p d o)=>h.c1
 have HD:=hid (h.grown (w':=w.drew) ⟨rfl,rfl,rfl,Nat.le_refl _,fun _ _=>rfl⟩)
 have HWR:=hid (wr_of (c:=c) w.drew p d n b HD.out.on.shelf hd hn hL hb hrd hA)
 have hW1:=hid (wr_waits (S:=S) (d:=d) (n:=n) (b:=b) hL1)
 have hd1:d<(Wr S d n b).disks.length:=by rw [wr_length];exact hd
 have hno:=hid (show Sh.why S d≠0->Wr S d n b=S/\Fl S d=S from fun h=>⟨by unfold Wr;rw [if_neg h],by unfold Fl;rw [if_neg h]⟩)
 have HFD:=hid (fun (w1:World) (F1:Nat->Prop) (D:Dv B W w1 a p d o (Wr S d n b) F1)=>flush_dev D hd1 hW1.out)
 clear h hW1 hd1 hr hrd
 generalize Wr S d n b=S1 at *
 generalize hy:Sh.why S d=y at *
 generalize hf2:Fl S1 d=S2 at *
 generalize hy1:Sh.why S1 d=y1 at *
 have Hy:=hid hy
 have Hy1:=hid hy1
 have Hf2:=hid hf2
 clear hy hy1 hf2
 go_enter Tryz.func134,Tryz.ntmps134
 go_wp2_with fail
 refine wp_region_held_drew (S:=fun (W':World)=>DevIs W' a p d o) (by kernel_rfl) (HD.out.dev) (fun hHeld=>?_)
 refine tk 0 8 ?_
 refine tk 1 9 ?_
 refine tk 2 10 ?_
 refine tk 3 11 ?_
 refine tk 4 12 ?_
 refine tk 5 13 ?_
 refine tk 6 14 ?_
 refine tk 7 15 ?_
 refine tk 8 16 ?_
 refine tk 9 17 ?_
 refine tk 10 18 ?_
 refine tk 11 19 ?_
 refine r1 12 (some 20) fun K hK=>?_
 go_simp
 refine HWR.out.mono ?_
 rintro e w1 ⟨rfl,hl⟩
 refine hK.out _ _ ((by obtain ⟨F',D1,_⟩:=HD.out.left hl;exact D1.dev)) (fun hHeld=>?_)
 clear hK K
 try simp only [Act.put,List.setIfInBounds_toArray,List.set_cons_zero,List.set_cons_succ]
 refine tk 13 7 ?_
 refine wpAnyH_done (by kernel_rfl) ?_ _
 obtain ⟨F',D1,M1⟩:=HD.out.goes hl
 have M2:=hid ((moves_drew (F:=F) (a:=a) (w:=w)).trans M1)
 clear M1
 by_cases hy:y=0
 ·subst hy
  have H1:=hid D1
  go_wp2_with fail
  refine (HFD.out _ _ H1.out).mono ?_
  rintro e w2 ⟨rfl,F2,D2,M3⟩
  have M4:=hid (M2.out.trans M3)
  clear M3
  go_wp2
  go_ret
  exact ⟨rfl,F2,D2,M4.out⟩
 ·have D3:=hid (show Dv B W w1 a p d (shut y1 o) S2 F' from by
   have e:=hno.out hy
   have e1:S2=S:=by rw [<- Hf2.out,e.1,e.2]
   have e2:y1=y:=by rw [<- Hy1.out,e.1,Hy.out]
   rw [e1,e2,show shut y o=o from if_neg hy,<- e.1]
   exact D1)
  obtain rfl:y1=y:=by rw [<- Hy1.out,(hno.out hy).1,Hy.out]
  have hq:(y1 == 0)=false:=by rw [beq_eq_false_iff_ne];exact hy
  clear D1 HFD hno
  go_wp2
  go_ret
  exact ⟨rfl,F',D3.out,M2.out⟩
end
theorem getN_putL (x n:Nat):getN (putL x n)=x%2 ^ (8*n):=by
 induction n with
 | zero=>simp [putL,getN,Nat.mod_one]
 | succ n ih =>
  have h:putL x (n+1)=putL x n++[x / 2 ^ (8*n)%256]:=by simp [putL,List.range_succ]
  rw [h,getN_snoc,ih,putL_length]
  have e:8*(n+1)=8*n+8:=by omega
  rw [e,Nat.pow_add,Nat.mod_mul]
  have:(2:Nat) ^ 8=256:=by decide
  rw [this,Nat.mul_comm (2 ^ (8*n))]
def putAt (l:List Nat) (i:Nat) (c:List Nat):List Nat:=l.take i++(c++l.drop (i+c.length))
theorem putAt_bts (l c:List Nat) (i:Nat):splice (bts l) i (bts c)=bts (putAt l i c):=by
 simp [splice,putAt,bts,List.map_take,List.map_drop]
theorem putAt_length {l c:List Nat} {i:Nat} (h:i+c.length<=l.length):(putAt l i c).length=l.length:=by
 simp [putAt];omega
theorem putAt_small {l c:List Nat} {i:Nat} (hl:Small l) (hc:Small c):Small (putAt l i c):=by
 intro x hx
 rcases List.mem_append.1 hx with hx | hx
 ·exact hl x (List.mem_of_mem_take hx)
 ·rcases List.mem_append.1 hx with hx | hx
  ·exact hc x hx
  ·exact hl x (List.mem_of_mem_drop hx)
theorem cut_put_same {l c:List Nat} {i:Nat} (h:i<=l.length):cutAt (putAt l i c) i c.length=c:=by
 unfold cutAt putAt
 rw [List.drop_left' (by simp;omega),List.take_left' rfl]
theorem putAt_get {l c:List Nat} {i x:Nat} (h:i+c.length<=l.length) (hx:x<i\/i+c.length<=x):(putAt l i c)[x]?=l[x]?:=by
 unfold putAt
 rcases hx with hx | hx
 ·rw [List.getElem?_append_left (by simp;omega),List.getElem?_take,if_pos hx]
 ·rw [List.getElem?_append_right (by simp;omega),List.getElem?_append_right (by simp;omega),List.getElem?_drop]
  congr 1
  simp
  omega
theorem cut_put_other {l c:List Nat} {i j m:Nat} (h:i+c.length<=l.length) (hj:j+m<=i\/i+c.length<=j):cutAt (putAt l i c) j m=cutAt l j m:=by
 unfold cutAt
 apply List.ext_getElem?
 intro x
 rw [List.getElem?_take,List.getElem?_take]
 split
 ·rw [List.getElem?_drop,List.getElem?_drop,putAt_get h (by omega)]
 ·rfl
def setPair (l:List Nat) (k x y:Nat):List Nat:=putAt (putAt l (k%16*8) (putL x 4)) (k%16*8+4) (putL y 4)
section
variable {l:List Nat} {k x y:Nat}
theorem setPair_length (hl:l.length=128):(setPair l k x y).length=128:=by
 unfold setPair
 rw [putAt_length (by rw [putAt_length (by rw [putL_length];omega),putL_length];omega),putAt_length (by rw [putL_length];omega),hl]
theorem setPair_small (hl:Small l):Small (setPair l k x y):=putAt_small (putAt_small hl (putL_small _ _)) (putL_small _ _)
theorem setPair_sec (h:Sh.Sec l):Sh.Sec (setPair l k x y):=⟨setPair_length h.1,setPair_small h.2⟩
theorem pr_set_0 (hl:l.length=128) (hx:x<4294967296):pr (setPair l k x y) k 0=x:=by
 have h1:(putAt l (k%16*8) (putL x 4)).length=128:=by rw [putAt_length (by rw [putL_length];omega),hl]
 unfold pr setPair
 simp only [Nat.zero_mul,Nat.add_zero]
 rw [cut_put_other (by rw [putL_length];omega) (.inl (by omega))]
 have:=cut_put_same (l:=l) (c:=putL x 4) (i:=k%16*8) (by omega)
 rw [putL_length] at this
 rw [this,getN_putL,Nat.mod_eq_of_lt hx]
theorem pr_set_1 (hl:l.length=128) (hy:y<4294967296):pr (setPair l k x y) k 1=y:=by
 have h1:(putAt l (k%16*8) (putL x 4)).length=128:=by rw [putAt_length (by rw [putL_length];omega),hl]
 unfold pr setPair
 rw [Nat.one_mul]
 have:=cut_put_same (l:=putAt l (k%16*8) (putL x 4)) (c:=putL y 4) (i:=k%16*8+4) (by omega)
 rw [putL_length] at this
 rw [this,getN_putL,Nat.mod_eq_of_lt hy]
theorem pr_set_other (hl:l.length=128) {j i:Nat} (hj:j%16≠k%16) (hi:i<2):pr (setPair l k x y) j i=pr l j i:=by
 have h1:(putAt l (k%16*8) (putL x 4)).length=128:=by rw [putAt_length (by rw [putL_length];omega),hl]
 unfold pr setPair
 rw [cut_put_other (by rw [putL_length];omega) (by rw [putL_length];omega),cut_put_other (by rw [putL_length];omega) (by rw [putL_length];omega)]
end
theorem sumL_lt {d k:Int} {b:List Nat} (hb:Small b):sumL d k b<4294967296:=Nums.sum_lt hb (Nums.sum_lt (putL_small _ _) (Nums.sum_lt (putL_small _ _) (by decide)))
def goodB (s x y:Nat) (b:Sh.Bs):Bool:=decide (s=x) || (decide (s=y) || (decide (x=0/\y=0) && decide (b=Sh.noughts)))
def goodL (d k:Nat) (sec b:Sh.Bs):Bool:=goodB (sumL d k b) (pr sec k 0) (pr sec k 1) b
theorem goodL_of {d k:Nat} {sec b:Sh.Bs} (h:sumL d k b=pr sec k 0\/sumL d k b=pr sec k 1):goodL d k sec b=true:=by
 unfold goodL goodB
 rcases h with h | h<;>simp [h]
theorem goodL_other {d k j x y:Nat} {sec b:Sh.Bs} (hl:sec.length=128) (hj:j%16≠k%16):goodL d j (setPair sec k x y) b=goodL d j sec b:=by
 unfold goodL
 rw [pr_set_other hl hj (by decide),pr_set_other hl hj (by decide)]
theorem sum_of_lt {k:Nat} {n:Nat} (h:k<blk n):dataOf k<n/\sumOf k<n/\sumOf k≠dataOf k:=by
 unfold blk at h;unfold dataOf sumOf;omega
theorem dataOf_inj {j k:Nat} (h:dataOf j=dataOf k):j=k:=by unfold dataOf at h;omega
theorem data_ne_sum (j k:Nat):dataOf j≠sumOf k:=by unfold dataOf sumOf;omega
theorem sumOf_eq {j k:Nat} (h:sumOf j=sumOf k) (hj:j≠k):j%16≠k%16:=by unfold sumOf at h;omega
def V (S:Sh.Sf) (d n:Nat):Sh.Bs:=(S.disks.getD d default).val n
def Looked (S:Sh.Sf) (d:Nat):Sh.Sf:=if Sh.why S d=0 then S.doRead.doRead else S
theorem looked_disks (S:Sh.Sf) (d:Nat):(Looked S d).disks=S.disks:=by unfold Looked;split<;>rfl
theorem looked_sectors (S:Sh.Sf) (d:Nat):(Looked S d).sectors=S.sectors:=by unfold Looked;split<;>rfl
theorem looked_why (S:Sh.Sf) (d e:Nat):Sh.why (Looked S d) e=Sh.why S e:=by unfold Looked;split<;>rfl
theorem looked_off (S:Sh.Sf) (d:Nat):(Looked S d).off=S.off/\(Looked S d).left=S.left:=by unfold Looked;split<;>exact ⟨rfl,rfl⟩
theorem looked_V (S:Sh.Sf) (d e n:Nat):V (Looked S d) e n=V S e n:=by unfold V;rw [looked_disks]
theorem fl_length (S:Sh.Sf) (d:Nat):(Fl S d).disks.length=S.disks.length:=by
 unfold Fl
 split
 ·show (S.disks.set d _).length=_;rw [List.length_set]
 ·rfl
theorem wr_sectors (S:Sh.Sf) (d n:Nat) (b:Sh.Bs):(Wr S d n b).sectors=S.sectors:=by unfold Wr;split<;>rfl
theorem fl_sectors (S:Sh.Sf) (d:Nat):(Fl S d).sectors=S.sectors:=by unfold Fl;split<;>rfl
theorem fl_waits {S:Sh.Sf} {d m:Nat} (hL:∀k∈S.disks,k.waits.length<m):∀k∈(Fl S d).disks,k.waits.length<m:=by
 unfold Fl
 split
 ·intro k hk
  have hk:k∈S.disks.set d ((S.disks.getD d default).settle (fun _=>true)):=hk
  by_cases hd:d<S.disks.length
  ·rcases List.mem_or_eq_of_mem_set hk with hk | rfl
   ·exact hL k hk
   ·show ([]:List (Nat × Sh.Bs)).length<m
    have:=hL _ (Sh.getD_mem (l:=S.disks) (d:=d) hd)
    simp;omega
  ·rw [List.set_eq_of_length_le (by omega)] at hk
   exact hL k hk
 ·exact hL
theorem wr_getD (S:Sh.Sf) (d n:Nat) (b:Sh.Bs) (hd:d<S.disks.length) (hw:Sh.why S d=0) (e:Nat) :
  (Wr S d n b).disks.getD e default=if e=d then (S.disks.getD d default).write n b else S.disks.getD e default:=by
 unfold Wr
 rw [if_pos hw]
 exact Sh.getD_set _ _ _ _ hd
theorem fl_getD (S:Sh.Sf) (d:Nat) (hd:d<S.disks.length) (hw:Sh.why S d=0) (e:Nat) :
  (Fl S d).disks.getD e default=if e=d then (S.disks.getD d default).settle (fun _=>true) else S.disks.getD e default:=by
 unfold Fl
 rw [if_pos hw]
 exact Sh.getD_set _ _ _ _ hd
theorem val_write (k:Sh.Dk) (n m:Nat) (b:Sh.Bs):(k.write n b).val m=if n=m then b else k.val m:=by
 show Sh.latest (k.waits++[(n,b)]) m (k.sure.getD m [])=_
 rw [Sh.latest_snoc]
 rfl
theorem val_settle (k:Sh.Dk) (m:Nat) (hm:m<k.sure.length):(k.settle (fun _=>true)).val m=k.val m:=by
 show Sh.latest [] m ((Sh.stl (fun _=>true) k.waits 0 k.sure).getD m [])=Sh.latest k.waits m (k.sure.getD m [])
 have:=Sh.stl_true m k.waits 0 k.sure hm
 rw [List.getD,this]
 rfl
structure Calm (S:Sh.Sf) (d:Nat):Prop where
 lt:d<S.disks.length
 on:S.off=false
 left:S.left=0
 alive:(S.disks.getD d default).dead=false
 len:(S.disks.getD d default).sure.length=S.sectors
section
variable {S:Sh.Sf} {d:Nat}
theorem Calm.why (h:Calm S d):Sh.why S d=0:=by
 unfold Sh.why
 rw [h.on,h.alive]
 rfl
theorem Calm.wr (h:Calm S d) (n:Nat) (b:Sh.Bs):Calm (Wr S d n b) d:=by
 have hg:=wr_getD S d n b h.lt h.why d
 rw [if_pos rfl] at hg
 refine ⟨by rw [wr_length];exact h.lt,?_,?_,by rw [hg];exact h.alive,by rw [hg,wr_sectors];exact h.len⟩
 ·unfold Wr
  rw [if_pos h.why]
  show Sh.offAt S.left S.off=false
  rw [h.left,h.on]
  rfl
 ·unfold Wr
  rw [if_pos h.why]
  show S.left-1=0
  rw [h.left]
theorem Calm.fl (h:Calm S d):Calm (Fl S d) d:=by
 have hg:=fl_getD S d h.lt h.why d
 rw [if_pos rfl] at hg
 refine ⟨by rw [fl_length];exact h.lt,?_,?_,by rw [hg];exact h.alive,by rw [hg,fl_sectors];exact (Sh.stl_length _ _ _ _).trans h.len⟩
 ·unfold Fl
  rw [if_pos h.why]
  show Sh.offAt S.left S.off=false
  rw [h.left,h.on]
  rfl
 ·unfold Fl
  rw [if_pos h.why]
  show S.left-1=0
  rw [h.left]
theorem Calm.looked (h:Calm S d) (e:Nat):Calm (Looked S e) d:=by
 refine ⟨by rw [looked_disks];exact h.lt,(looked_off S e).1.trans h.on,(looked_off S e).2.trans h.left,by rw [looked_disks];exact h.alive,by rw [looked_disks,looked_sectors];exact h.len⟩
theorem Calm.V_wr (h:Calm S d) (n m:Nat) (b:Sh.Bs):V (Wr S d n b) d m=if n=m then b else V S d m:=by
 unfold V
 rw [wr_getD S d n b h.lt h.why d,if_pos rfl,val_write]
theorem Calm.V_fl (h:Calm S d) (m:Nat) (hm:m<S.sectors):V (Fl S d) d m=V S d m:=by
 unfold V
 rw [fl_getD S d h.lt h.why d,if_pos rfl,val_settle _ _ (by rw [h.len];exact hm)]
theorem Calm.waits_fl (h:Calm S d):((Fl S d).disks.getD d default).waits=[]:=by
 rw [fl_getD S d h.lt h.why d,if_pos rfl]
 rfl
end
end Go.Proofs.YtgebkmpmnjhceaaGreatDoor.U
