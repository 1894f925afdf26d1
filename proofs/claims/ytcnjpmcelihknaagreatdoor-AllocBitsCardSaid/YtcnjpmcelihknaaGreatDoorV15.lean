/-
  What the statement's proof rests on, part 15.
  Conditions: each theorem's own.
-/
import Derived.Test.YtcnjpmcelihknaaGreatDoorV12
import Derived.Test.YtcnjpmcelihknaaGreatDoorV04
import Derived.Laws.CopyOwn
import Derived.Maps.OwnSet
import Derived.Test.YtcnjpmcelihknaaGreatDoorVtk
open Go.Lib (hid)
namespace Go.Proofs.YtcnjpmcelihknaaGreatDoor.U
open Go.RowKit Go.Maps
def blk (n:Nat):Nat:=n / 17*16+(n%17-1)
theorem blk_le (n:Nat):blk n<=n:=by unfold blk;omega
def sumOf (k:Nat):Nat:=k / 16*17
def dataOf (k:Nat):Nat:=k / 16*17+1+k%16
theorem blocks_pos (n:Nat) (hn:n<=9223372036854775807) (w:World) :
  Calls Tryz.prog 184 #[.int .i64 n] w fun e w'=>e=.returned (.int .i64 ((blk n:Nat):Int))/\w=w':=by
 have h1:((n:Int)%17)=((n%17:Nat):Int):=by omega
 have h2:((n:Int) / 17)=((n / 17:Nat):Int):=by omega
 have hb:(n / 17)<=542551296285575048:=by omega
 have hm:max ((n:Int)) 0=n:=by omega
 have hx:=hid (show ((n / 17:Nat):Int)*16+max (((n%17:Nat):Int)-1) 0=((blk n:Nat):Int) by unfold blk;omega)
 have hr:n%17<17:=Nat.mod_lt _ (by decide)
 generalize n%17=r at *
 generalize n / 17=q at *
 go_enter Tryz.func184,Tryz.ntmps184
 go_wp2
 go_ret
 exact ⟨by rw [<- hx.out];rfl,rfl⟩
theorem place_yes (k:Nat) (hk:k<4096) (w:World) :
  Calls Tryz.prog 251 #[.int .i64 k] w fun e w'=>e=.returned (.tuple #[.int .i64 ((sumOf k:Nat):Int),.int .i64 ((dataOf k:Nat):Int),.int .i64 0])/\w=w':=by
 have h1:((k:Int)%16)=((k%16:Nat):Int):=by omega
 have h2:((k:Int) / 16)=((k / 16:Nat):Int):=by omega
 have hb:k / 16<256:=by omega
 have hr:k%16<16:=Nat.mod_lt _ (by decide)
 have hx:=hid (show ((k / 16:Nat):Int)*17=((sumOf k:Nat):Int) by unfold sumOf;omega)
 have hy:=hid (show ((k / 16:Nat):Int)*17+1+((k%16:Nat):Int)=((dataOf k:Nat):Int) by unfold dataOf;omega)
 generalize k%16=r at *
 generalize k / 16=q at *
 go_enter Tryz.func251,Tryz.ntmps251
 go_wp2
 go_ret3
 exact ⟨by rw [<- hx.out,<- hy.out];rfl,rfl⟩
theorem pairAt_any (k:Nat) (hk:k<=9223372036854775807) (w:World) :
  Calls Tryz.prog 277 #[.int .i64 k] w fun e w'=>e=.returned (.int .i64 ((k%16*8:Nat):Int))/\w=w':=by
 have h1:((k:Int)%16)=((k%16:Nat):Int):=by omega
 have hr:k%16<16:=Nat.mod_lt _ (by decide)
 have hx:=hid (show ((k%16:Nat):Int)*2*4=((k%16*8:Nat):Int) by omega)
 generalize k%16=r at *
 go_enter Tryz.func277,Tryz.ntmps277
 go_wp2
 go_ret
 exact ⟨by rw [<- hx.out];rfl,rfl⟩
def w32 (z:Int):Nat:=(z%4294967296).toNat
theorem w32_lt (z:Int):w32 z<4294967296:=by unfold w32;omega
theorem w32_cast (z:Int):((w32 z:Nat):Int)=z%4294967296:=by unfold w32;omega
def sumL (disk block:Int) (l:List Nat):Nat:=Nums.sum (Nums.sum (Nums.sum 0 (putL (w32 disk) 4)) (putL (w32 block) 4)) l
theorem drawn {B:Nat} {w w':World} (h:Below B w w') (k:Nat):Below B w (w'.drewN k):=⟨h.os,h.tape,h.output,h.size,h.block⟩
theorem putL_small (x n:Nat):Small (putL x n):=by
 intro y hy
 unfold putL at hy
 obtain ⟨k,_,rfl⟩:=List.mem_map.1 hy
 exact Nat.mod_lt _ (by decide)
theorem number_any (x:Nat) (hx:x<4294967296) (w:World) :
  Calls Tryz.prog 258 #[.int .u32 x] w fun e w'=>∃A c,e=.returned (.slice A 4 c)/\Reads w' w'.heap.size A 4 (bts (putL x 4))/\Below w.heap.size w w':=by
 have hp:=hid (put_ok x 4 · (by decide) (by decide) (by omega))
 go_enter Tryz.func258,Tryz.ntmps258
 go_wp2_with (go_at_call 112;refine (hp.out _).mono ?_;rintro e w' ⟨v,rfl,hown,hb⟩)
 obtain ⟨A,c,rfl⟩:∃A c,v=.slice A 4 c:=by
  rcases hown.2 with ⟨_,h⟩ | ⟨g,cap,cur,rfl,_⟩
  ·rw [putL_length] at h;cases h
  ·rw [putL_length];exact ⟨_,_,rfl⟩
 rw [putL_length] at hown
 have hr:=Reads.of_own hown
 clear hown
 go_wp2
 go_ret
 exact ⟨A,c,rfl,hr,hb⟩
set_option maxHeartbeats 800000 in
theorem sum_any (disk block:Int) (A:Option Addr) (n c:Nat) (l:List Nat) (w:World) (hl:Small l)
  (hr:Reads w w.heap.size A n (bts l)) (hn:n<=maxLen) (hT:Tabs w) :
  Calls Tryz.prog 222 #[.int .i64 disk,.int .i64 block,.slice A n c] w fun e w'=>e=.returned (.int .u32 ((sumL disk block l:Nat):Int))/\Below w.heap.size w w':=by
 have e1:=(w32_cast disk).symm
 have e2:=(w32_cast block).symm
 have l1:=w32_lt disk
 have l2:=w32_lt block
 have HX:=hid (show sumL disk block l=Nums.sum (Nums.sum (Nums.sum 0 (putL (w32 disk) 4)) (putL (w32 block) 4)) l from rfl)
 generalize sumL disk block l=res at *
 generalize w32 disk=d at *
 generalize w32 block=k at *
 go_enter Tryz.func222,Tryz.ntmps222
 go_wp2_with fail
 refine (number_any d l1 w).mono ?_
 rintro e w1 ⟨A1,c1,rfl,r1,b1⟩
 have T1:=hT.below hT.size b1
 go_wp2_with fail
 refine (crc_any A1 4 c1 w1.heap.size (putL d 4) 0 w1 (by decide) (putL_small d 4) r1 (by decide) T1).mono ?_
 rintro e w2 ⟨rfl,k1,rfl⟩
 have T2:Tabs (w1.drewN k1):=T1.drewN k1
 have b2:Below w.heap.size w (w1.drewN k1):=drawn b1 k1
 have g1:=Nums.sum_lt (putL_small d 4) (s:=0) (by decide)
 generalize Nums.sum 0 (putL d 4)=s1 at *
 generalize w1.drewN k1=w3 at *
 clear r1 b1 T1
 go_wp2_with fail
 refine (number_any k l2 w3).mono ?_
 rintro e w4 ⟨A2,c2,rfl,r2,b4⟩
 have T4:=T2.below T2.size b4
 have b5:=b2.trans (b4.mono b2.size)
 go_wp2_with fail
 refine (crc_any A2 4 c2 w4.heap.size (putL k 4) s1 w4 g1 (putL_small k 4) r2 (by decide) T4).mono ?_
 rintro e w5 ⟨rfl,k2,rfl⟩
 have T5:Tabs (w4.drewN k2):=T4.drewN k2
 have b6:Below w.heap.size w (w4.drewN k2):=drawn b5 k2
 have g2:=Nums.sum_lt (putL_small k 4) g1
 generalize Nums.sum s1 (putL k 4)=s2 at *
 generalize w4.drewN k2=w6 at *
 clear r2 b4 T4 b5 b2 T2
 have r6:=(hr.below b6).more b6.size
 go_wp2_with fail
 refine (crc_any A n c w6.heap.size l s2 w6 g2 hl r6 hn T5).mono ?_
 rintro e w7 ⟨rfl,k3,rfl⟩
 have b7:Below w.heap.size w (w6.drewN k3):=drawn b6 k3
 rw [<- HX.out]
 go_wp2
 go_ret
 exact ⟨rfl,b7⟩
def DevIs (w:World) (a p:Nat) (d o:Int):Prop:=w.heap[a]?=some (.cells #[.pointer (some ⟨p,0,none⟩),.int .i64 d,.int .i64 o] 232 (0,0))
section
variable {w:World} {a p:Nat} {d o:Int}
theorem DevIs.c0 (h:DevIs w a p d o):w.cell? ⟨a,0,none⟩=some (.pointer (some ⟨p,0,none⟩)):=cell_of_row _ _ 0 _ _ _ h
theorem DevIs.c1 (h:DevIs w a p d o):w.cell? ⟨a,1,none⟩=some (.int .i64 d):=cell_of_row _ _ 1 _ _ _ h
theorem DevIs.c2 (h:DevIs w a p d o):w.cell? ⟨a,2,none⟩=some (.int .i64 o):=cell_of_row _ _ 2 _ _ _ h
theorem DevIs.free (h:DevIs w a p d o) (i:Nat):w.frozen? ⟨a,i,none⟩=false:=frozen_of_row _ _ _ _ _ h
theorem DevIs.lt (h:DevIs w a p d o):a<w.heap.size:=(Array.getElem?_eq_some_iff.1 h).1
theorem DevIs.same {w':World} (h:DevIs w a p d o) (hk:w'.heap[a]?=w.heap[a]?):DevIs w' a p d o:=hk.trans h
end
section
variable {w:World} {a p:Nat} {d o:Int} {S:Sh.Sf} {F:Nat->Prop}
theorem size_of (h:Sh.Shelf w p S F):Calls Tryz.prog 127 #[.pointer (some ⟨p,0,none⟩)] w fun e w'=>e=.returned (.tuple #[.int .i64 (S.disks.length:Int),.int .i64 (S.sectors:Int)])/\∃n,w'=w.drewN n:=by
 obtain ⟨D,gs,s⟩:=h
 exact Sh.size_any s
theorem open_yes (d:Nat) (h:Sh.Shelf w p S F) (hd:d<S.disks.length) :
  Calls Tryz.prog 128 #[.pointer (some ⟨p,0,none⟩),.int .i64 d] w fun e w'=>e=.returned (.tuple #[.pointer (some ⟨w.heap.size,0,none⟩),.int .i64 0])/\DevIs w' w.heap.size p d (-1)/\Below w.heap.size w w':=by
 have hs:=hid (size_of h)
 have hb:((S.disks.length:Int)<=(d:Int))=False:=by simp;omega
 generalize S.disks.length=k at *
 go_enter Tryz.func128,Tryz.ntmps128
 go_wp2_with fail
 refine hs.out.mono ?_
 rintro e w' ⟨rfl,m,rfl⟩
 go_wp2
 go_ret2
 refine ⟨rfl,?_,?_⟩
 ·have:=heap_alloc_new (w.drewN m) (.cells #[.pointer (some ⟨p,0,none⟩),.int .i64 d,.int .i64 (-1)] 232)
  exact this
 ·exact (drawn (Below.refl _ w) m).alloc (Nat.le_refl _) _
theorem count_of (h:DevIs w a p d o) (hs:Sh.Shelf w p S F) (hS:S.sectors<=4096) :
  Calls Tryz.prog 131 #[.pointer (some ⟨a,0,none⟩)] w fun e w'=>e=.returned (.int .i64 ((blk S.sectors:Nat):Int))/\∃n,w'=w.drewN n:=by
 have hz:=hid (size_of hs)
 have hb:=hid (fun w=>blocks_pos S.sectors (by omega) w)
 have c0:=h.c0
 generalize S.sectors=k at *
 clear h hs
 go_enter Tryz.func131,Tryz.ntmps131
 go_wp2_with fail
 refine hz.out.mono ?_
 rintro e w' ⟨rfl,m,rfl⟩
 go_wp2_with fail
 refine (hb.out _).mono ?_
 rintro e w' ⟨rfl,rfl⟩
 go_wp2
 go_ret
 exact ⟨rfl,m,rfl⟩
theorem has_yes (k:Nat) (h:DevIs w a p d o) (hs:Sh.Shelf w p S F) (hS:S.sectors<=4096) (hk:k<blk S.sectors) :
  Calls Tryz.prog 218 #[.pointer (some ⟨a,0,none⟩),.int .i64 k] w fun e w'=>e=.returned (.bool true)/\∃n,w'=w.drewN n:=by
 have hz:=hid (count_of h hs hS)
 clear h hs
 generalize blk S.sectors=b at *
 go_enter Tryz.func218,Tryz.ntmps218
 go_wp2_with (go_at_call 131;refine hz.out.mono ?_;rintro e w' ⟨rfl,m,rfl⟩)
 go_ret
 exact ⟨rfl,m,rfl⟩
end
theorem getN_cut_lt {l:List Nat} (hl:Small l) (i:Nat):getN (cutAt l i 4)<4294967296:=cutAt_lt hl i 4
def pr (l:List Nat) (k j:Nat):Nat:=getN (cutAt l (k%16*8+j*4) 4)
theorem info_pair:(Tryz.prog.info? 255).map (·.size)=some 2:=by kernel_rfl
theorem two_new (w:World) (c d:Array Value) (t:TypeId):((w.alloc (.cells c t)).alloc (.cells d t)).heap[w.heap.size]?=some (.cells c t (0,0))/\((w.alloc (.cells c t)).alloc (.cells d t)).heap[w.heap.size+1]?=some (.cells d t (0,0)) /\
  ((w.alloc (.cells c t)).alloc (.cells d t)).heap.size=w.heap.size+2/\Below w.heap.size w ((w.alloc (.cells c t)).alloc (.cells d t)):=by
 have hz:(w.alloc (.cells c t)).heap.size=w.heap.size+1:=by simp
 have hb1:Below w.heap.size w (w.alloc (.cells c t)):=(Below.refl _ w).alloc (Nat.le_refl _) _
 have hb2:Below (w.alloc (.cells c t)).heap.size (w.alloc (.cells c t)) ((w.alloc (.cells c t)).alloc (.cells d t)):=(Below.refl _ _).alloc (Nat.le_refl _) _
 refine ⟨(hb2.block w.heap.size (by omega)).trans (heap_alloc_new _ _),?_,by simp,hb1.trans (hb2.mono (by omega))⟩
 have:=heap_alloc_new (w.alloc (.cells c t)) (.cells d t)
 rw [hz] at this
 exact this
theorem store_two {w:World} {g:Nat} {t:TypeId} {v0 v1:Value} (h:w.heap[g]?=some (.cells #[v0,v1] t (0,0))) (a:Value) (ha:a.oneCell'=true) :
  (store ⟨g,0,none⟩ a).run Tryz.prog w=.ok () (w.setCell ⟨g,0,none⟩ a):=by
 have k0:w.cell? ⟨g,0,none⟩=some v0:=cell_of_row _ _ 0 _ _ _ h
 have f0:w.frozen? ⟨g,0,none⟩=false:=frozen_of_row _ _ _ _ _ h
 rw [run_store _ _ _ _ _ ha,k0]
 simp only [f0]
 rfl
theorem results_in {fn:Func} {a:Tmp} {t:TypeId} {P:Program} {w:World} {v:Value} {tmps:Array Value} {g:Nat} (h:fn.results=#[.cell a t])
  (hp:tmps.getD a undef=.pointer (some ⟨g,0,none⟩)) (hl:(loadVar t ⟨g,0,none⟩).run P w=.ok v w):(results fn tmps).run P w=.ok v w:=by
 rw [Array.getD_eq_getD_getElem?] at hp
 simp [results,h,hp,asAddr,hl]
set_option maxRecDepth 20000 in
set_option maxHeartbeats 1600000 in
theorem pairOf_any (A:Option Addr) (c k:Nat) (l:List Nat) (w:World) (hk:k<=9223372036854775807) (hl:Small l) (hr:Reads w w.heap.size A 128 (bts l)) :
  Calls Tryz.prog 253 #[.slice A 128 c,.int .i64 k] w fun e w'=>e=.returned (.agg #[.int .u32 ((pr l k 0:Nat):Int),.int .u32 ((pr l k 1:Nat):Int)])/\Below w.heap.size w w':=by
 obtain ⟨r0,r1,z0,b0⟩:=two_new w #[.int .u32 0,.int .u32 0] #[.int .u32 0,.int .u32 0] 255
 have hpa:=hid (pairAt_any k hk)
 go_enter Tryz.func253,Tryz.ntmps253
 have hm:k%16*8<=120:=by omega
 have HP0:=hid (show getN (cutAt l (k%16*8) 4)=pr l k 0 from rfl)
 have HP1:=hid (show getN (cutAt l (k%16*8+4) 4)=pr l k 1 from rfl)
 have q0:=getN_cut_lt hl (k%16*8)
 have q1:=getN_cut_lt hl (k%16*8+4)
 have G0:=hid (fun (W:World) (B:Nat) (h:Reads W B A 128 (bts l))=>get_ok A 128 c B l (k%16*8) 4 W (by decide) (by decide) hl h (by decide) (by omega))
 have G1:=hid (fun (W:World) (B:Nat) (h:Reads W B A 128 (bts l))=>get_ok A 128 c B l (k%16*8+4) 4 W (by decide) (by decide) hl h (by decide) (by omega))
 rw [HP0.out] at q0
 rw [HP1.out] at q1
 rw [HP0.out] at G0
 rw [HP1.out] at G1
 generalize pr l k 0=x0 at *
 generalize pr l k 1=x1 at *
 generalize k%16*8=m at *
 have hr0:=(hr.below b0).more b0.size
 go_wp2_with fail
 generalize ((w.alloc (.cells #[.int .u32 0,.int .u32 0] 255)).alloc (.cells #[.int .u32 0,.int .u32 0] 255))=W0 at *
 have hw0:((x0:Nat):Int)%4294967296=x0:=by omega
 have hw1:((x1:Nat):Int)%4294967296=x1:=by omega
 go_loopw [9] (fun s9 wr=>∃j:Nat,j<=2/\s9=.int .i64 j/\Reads wr wr.heap.size A 128 (bts l)/\Below w.heap.size w wr/\wr.heap.size=w.heap.size+2/\wr.heap[w.heap.size]?=some (.cells #[.int .u32 0,.int .u32 0] 255 (0,0)) /\
  wr.heap[w.heap.size+1]?=some (.cells #[if j=0 then .int .u32 0 else .int .u32 (x0:Int),if j<=1 then .int .u32 0 else .int .u32 (x1:Int)] 255 (0,0))) (fun i _=>2-(intOf i).toNat)
 case atStart=>exact ⟨0,by decide,rfl,hr0,b0,z0,r0,r1⟩
 case round =>
  clear r0 r1 b0 z0 hr0
  obtain ⟨j,hj,rfl,hr1,b1,z1,r0,r1⟩:=hrel
  rcases (show j=0\/j=1\/j=2 by omega) with rfl | rfl | rfl
  ·have r1:wr.heap[w.heap.size+1]?=some (.cells #[.int .u32 0,.int .u32 0] 255 (0,0)):=r1
   have k0:=cell_of_row _ _ 0 _ _ _ r1
   have k1:=cell_of_row _ _ 1 _ _ _ r1
   simp only [List.getElem?_toArray,List.getElem?_cons_zero,List.getElem?_cons_succ] at k0 k1
   have f0:=frozen_of_row _ _ 0 _ _ r1
   have r2:(wr.setCell ⟨w.heap.size+1,0,none⟩ (.int .u32 (x0:Int))).heap[w.heap.size+1]?=some (.cells #[.int .u32 (x0:Int),.int .u32 0] 255 (0,0)):=heap_setCell_same wr _ _ _ _ _ r1
   have r3:(wr.setCell ⟨w.heap.size+1,0,none⟩ (.int .u32 (x0:Int))).heap[w.heap.size]?=_:=(Sh.heap_set_other wr ⟨w.heap.size+1,0,none⟩ (.int .u32 (x0:Int)) (show w.heap.size≠w.heap.size+1 by omega)).trans r0
   have b3:Below w.heap.size w (wr.setCell ⟨w.heap.size+1,0,none⟩ (.int .u32 (x0:Int))):=b1.setCell (p:=⟨w.heap.size+1,0,none⟩) (Nat.le_succ _) _
   have z3:(wr.setCell ⟨w.heap.size+1,0,none⟩ (.int .u32 (x0:Int))).heap.size=w.heap.size+2:=by simp [z1]
   have hr3:Reads (wr.setCell ⟨w.heap.size+1,0,none⟩ (.int .u32 (x0:Int))) (wr.setCell ⟨w.heap.size+1,0,none⟩ (.int .u32 (x0:Int))).heap.size A 128 (bts l):=(hr.below b3).more b3.size
   go_wp2_with (first
    | (go_at_call 277;refine (hpa.out _).mono ?_;rintro e w' ⟨rfl,rfl⟩)
    | (go_at_call 124;refine (G0.out _ _ hr1).mono ?_;rintro e w' ⟨rfl,rfl⟩))
   go_roundw
   case rel=>exact ⟨0+1,by omega,by rfl,hr3,b3,z3,r3,r2⟩
   case measure=>simp [intOf]
  ·have r1:wr.heap[w.heap.size+1]?=some (.cells #[.int .u32 (x0:Int),.int .u32 0] 255 (0,0)):=r1
   have k0:=cell_of_row _ _ 0 _ _ _ r1
   have k1:=cell_of_row _ _ 1 _ _ _ r1
   simp only [List.getElem?_toArray,List.getElem?_cons_zero,List.getElem?_cons_succ] at k0 k1
   have f0:=frozen_of_row _ _ 1 _ _ r1
   have r2:(wr.setCell ⟨w.heap.size+1,1,none⟩ (.int .u32 (x1:Int))).heap[w.heap.size+1]?=some (.cells #[.int .u32 (x0:Int),.int .u32 (x1:Int)] 255 (0,0)):=heap_setCell_same wr _ _ _ _ _ r1
   have r3:(wr.setCell ⟨w.heap.size+1,1,none⟩ (.int .u32 (x1:Int))).heap[w.heap.size]?=_:=(Sh.heap_set_other wr ⟨w.heap.size+1,1,none⟩ (.int .u32 (x1:Int)) (show w.heap.size≠w.heap.size+1 by omega)).trans r0
   have b3:Below w.heap.size w (wr.setCell ⟨w.heap.size+1,1,none⟩ (.int .u32 (x1:Int))):=b1.setCell (p:=⟨w.heap.size+1,1,none⟩) (Nat.le_succ _) _
   have z3:(wr.setCell ⟨w.heap.size+1,1,none⟩ (.int .u32 (x1:Int))).heap.size=w.heap.size+2:=by simp [z1]
   have hr3:Reads (wr.setCell ⟨w.heap.size+1,1,none⟩ (.int .u32 (x1:Int))) (wr.setCell ⟨w.heap.size+1,1,none⟩ (.int .u32 (x1:Int))).heap.size A 128 (bts l):=(hr.below b3).more b3.size
   go_wp2_with (first
    | (go_at_call 277;refine (hpa.out _).mono ?_;rintro e w' ⟨rfl,rfl⟩)
    | (go_at_call 124;refine (G1.out _ _ hr1).mono ?_;rintro e w' ⟨rfl,rfl⟩))
   go_roundw
   case rel=>exact ⟨1+1,by omega,by rfl,hr3,b3,z3,r3,r2⟩
   case measure=>simp [intOf]
  ·have r1:wr.heap[w.heap.size+1]?=some (.cells #[.int .u32 (x0:Int),.int .u32 (x1:Int)] 255 (0,0)):=r1
   obtain ⟨k0,k1,f0,f1⟩:=(show wr.cell? ⟨w.heap.size,0,none⟩=some (.int .u32 0)/\wr.cell? ⟨w.heap.size,1,none⟩=some (.int .u32 0)/\wr.frozen? ⟨w.heap.size,0,none⟩=false/\wr.frozen? ⟨w.heap.size,1,none⟩=false from ⟨cell_of_row _ _ 0 _ _ _ r0,cell_of_row _ _ 1 _ _ _ r0,frozen_of_row _ _ _ _ _ r0,frozen_of_row _ _ _ _ _ r0⟩)
   obtain ⟨j0,j1⟩:=(show wr.cell? ⟨w.heap.size+1,0,none⟩=some (.int .u32 (x0:Int))/\wr.cell? ⟨w.heap.size+1,1,none⟩=some (.int .u32 (x1:Int)) from ⟨cell_of_row _ _ 0 _ _ _ r1,cell_of_row _ _ 1 _ _ _ r1⟩)
   have r2:((wr.setCell ⟨w.heap.size,0,none⟩ (.int .u32 (x0:Int))).setCell ⟨w.heap.size,1,none⟩ (.int .u32 (x1:Int))).heap[w.heap.size]?=some (.cells #[.int .u32 (x0:Int),.int .u32 (x1:Int)] 255 (0,0)) :=
    heap_setCell_same _ _ _ _ _ _ (show (wr.setCell ⟨w.heap.size,0,none⟩ (.int .u32 (x0:Int))).heap[w.heap.size]?=some (.cells #[.int .u32 (x0:Int),.int .u32 0] 255 (0,0)) from heap_setCell_same wr _ _ _ _ _ r0)
   have b3:Below w.heap.size w ((wr.setCell ⟨w.heap.size,0,none⟩ (.int .u32 (x0:Int))).setCell ⟨w.heap.size,1,none⟩ (.int .u32 (x1:Int))):=(b1.setCell (p:=⟨w.heap.size,0,none⟩) (Nat.le_refl _) _).setCell (p:=⟨w.heap.size,1,none⟩) (Nat.le_refl _) _
   have hinfo:(Tryz.prog.info? 255).map (·.size)=some (#[Value.int .u32 (x0:Int),.int .u32 (x1:Int)]:Array Value).size:=info_pair
   have hlv:=run_loadVar_row (P:=Tryz.prog) _ w.heap.size 255 255 _ (0,0) _ r2 Tryz.underlying255 rfl hinfo
   have s0:=store_two r0 (.int .u32 (x0:Int)) (by rfl)
   have HLV:=hid hlv
   have HB3:=hid b3
   clear hlv hinfo r2 r1 r0 b3 b1 z1 hr1 G0 G1 hpa
   go_wp2
   refine bodyPost_ret (results_in (g:=w.heap.size) Tryz.results253 rfl HLV.out) rfl ?_
   exact ⟨rfl,HB3.out⟩
structure Dv (B:Nat) (W w:World) (a p d:Nat) (o:Int) (S:Sh.Sf) (F:Nat->Prop):Prop where
 on:Sh.At B W w p S F
 dev:DevIs w a p d o
 apart:¬F a
 low:B<=a
section
variable {B:Nat} {W w w':World} {a p d:Nat} {o:Int} {S S':Sh.Sf} {F:Nat->Prop}
theorem Dv.left (h:Dv B W w a p d o S F) (hl:Sh.Left F w p S' w'):∃F',Dv B W w' a p d o S' F'/\Sh.Moves F w F' w':=by
 obtain ⟨F',h1,hm⟩:=h.on.left hl
 refine ⟨F',⟨h1,h.dev.same (hm.1.block a h.dev.lt h.apart),fun e=>?_,h.low⟩,hm⟩
 rcases hm.2 a e with e | e
 ·exact h.apart e
 ·exact Nat.lt_irrefl _ (Nat.lt_of_lt_of_le h.dev.lt e)
theorem Dv.grown (h:Dv B W w a p d o S F) (hb:Below w.heap.size w w'):Dv B W w' a p d o S F:=⟨h.on.grown hb,h.dev.same (hb.block a h.dev.lt),h.apart,h.low⟩
theorem Dv.put (h:Dv B W w a p d o S F) (o':Int):Dv B W (w.setCell ⟨a,2,none⟩ (.int .i64 o')) a p d o' S F:=by
 have hO:Sh.Only (fun b=>b=a) w (w.setCell ⟨a,2,none⟩ (.int .i64 o')):=Sh.Only.setCell (F:=fun b=>b=a) (p:=⟨a,2,none⟩) (Sh.Only.refl _ w) (.inl (show a=a from rfl)) _
 refine ⟨⟨h.on.shelf.only hO (fun b hb e=>h.apart (e▸hb)),h.on.low,h.on.bel.setCell (p:=⟨a,2,none⟩) h.low _,by simpa using h.on.size⟩,?_,h.apart,h.low⟩
 exact heap_setCell_same w a 2 _ _ _ h.dev
def With (F:Nat->Prop) (a:Nat) (b:Nat):Prop:=F b\/b=a
def Goes (B:Nat) (W w w':World) (a p d:Nat) (o:Int) (S:Sh.Sf) (F:Nat->Prop):Prop:=∃F',Dv B W w' a p d o S F'/\Sh.Moves (With F a) w (With F' a) w'
theorem Dv.goes (h:Dv B W w a p d o S F) (hl:Sh.Left F w p S' w'):Goes B W w w' a p d o S' F:=by
 obtain ⟨F',D1,hm⟩:=h.left hl
 exact ⟨F',D1,hm.1.mono fun b hb=>.inl hb,fun b hb=>hb.elim (fun e=>(hm.2 b e).imp .inl id) fun e=>.inl (.inr e)⟩
theorem Dv.stays (h:Dv B W w a p d o S F) (hs:Sh.Shelf w' p S' F) (ho:Sh.Only F w w'):Dv B W w' a p d o S' F :=
 ⟨h.on.stays hs ho,h.dev.same (ho.block a h.dev.lt h.apart),h.apart,h.low⟩
theorem moves_below (h:Below w.heap.size w w'):Sh.Moves (With F a) w (With F a) w':=⟨⟨h.os,h.tape,h.output,h.size,fun k hk _=>h.block k hk⟩,fun _ hb=>.inl hb⟩
theorem moves_only (h:Sh.Only F w w'):Sh.Moves (With F a) w (With F a) w':=⟨h.mono fun _ hb=>.inl hb,fun _ hb=>.inl hb⟩
theorem moves_put (o':Int):Sh.Moves (With F a) w (With F a) (w.setCell ⟨a,2,none⟩ (.int .i64 o')) :=
 ⟨Sh.Only.setCell (p:=⟨a,2,none⟩) (Sh.Only.refl _ w) (.inl (.inr (show a=a from rfl))) _,fun _ hb=>.inl hb⟩
theorem moves_drew:Sh.Moves (With F a) w (With F a) w.drew:=⟨⟨rfl,rfl,rfl,Nat.le_refl _,fun _ _ _=>rfl⟩,fun _ hb=>.inl hb⟩
end
/-! ### what is done where it can be -/
def Wr (S:Sh.Sf) (d n:Nat) (b:Sh.Bs):Sh.Sf:=if Sh.why S d=0 then S.doWrite d n b else S
def Fl (S:Sh.Sf) (d:Nat):Sh.Sf:=if Sh.why S d=0 then S.doFlush d else S
def shut (y o:Int):Int:=if y=0 then -1 else o
section
variable {w:World} {p d n:Nat} {S:Sh.Sf} {F:Nat->Prop}
theorem wr_of (w:World) (p d n:Nat) (b:Sh.Bs) {A:Option Addr} {c:Nat} (h:Sh.Shelf w p S F) (hd:d<S.disks.length) (hn:n<S.sectors) (hL:∀k∈S.disks,k.waits.length<1099511627776) (hb:Sh.Sec b) (hr:Sh.Reads w w.heap.size A 128 (Sh.bts b)) (hA:∀a,A=some a->¬F a.block) :
  Calls Tryz.prog 223 #[.pointer (some ⟨p,0,none⟩),.int .i64 d,.int .i64 n,.slice A 128 c] w fun e w'=>e=.returned (.int .i64 (Sh.why S d))/\Sh.Left F w p (Wr S d n b) w':=by
 unfold Wr
 by_cases hw:Sh.why S d=0
 ·rw [if_pos hw,hw]
  exact Sh.write_done w p d n b h hd hn hw (hL _ (Sh.getD_mem hd)) hb hr hA
 ·rw [if_neg hw]
  refine (Sh.write_why w p d n h hd hn hw).mono ?_
  rintro e w' ⟨rfl,rfl⟩
  exact ⟨rfl,Sh.left_here h⟩
theorem fl_of (w:World) (p d:Nat) (h:Sh.Shelf w p S F) (hd:d<S.disks.length) (hL:∀k∈S.disks,k.waits.length<1099511627776) :
  Calls Tryz.prog 224 #[.pointer (some ⟨p,0,none⟩),.int .i64 d] w fun e w'=>e=.returned (.int .i64 (Sh.why S d))/\Sh.Left F w p (Fl S d) w':=by
 unfold Fl
 by_cases hw:Sh.why S d=0
 ·rw [if_pos hw,hw]
  exact Sh.flush_done w p d h hd hw (hL _ (Sh.getD_mem hd))
 ·rw [if_neg hw]
  refine (Sh.flush_why w p d h hd hw).mono ?_
  rintro e w' ⟨rfl,rfl⟩
  exact ⟨rfl,Sh.left_here h⟩
end
section
variable {B:Nat} {W w w':World} {a p d:Nat} {o:Int} {S S':Sh.Sf} {F:Nat->Prop}
theorem flush_dev (h:Dv B W w a p d o S F) (hd:d<S.disks.length) (hL:∀k∈S.disks,k.waits.length<1099511627776) :
  Calls Tryz.prog 189 #[.pointer (some ⟨a,0,none⟩)] w fun e w'=>e=.returned (.int .i64 (Sh.why S d))/\Goes B W w w' a p d (shut (Sh.why S d) o) (Fl S d) F:=by
 have j0:=fun (W':World) (h:DevIs W' a p d o)=>h.c0
 have j1:=fun (W':World) (h:DevIs W' a p d o)=>h.c1
 have HD:=hid (h.grown (w':=w.drew) ⟨rfl,rfl,rfl,Nat.le_refl _,fun _ _=>rfl⟩)
 have HFL:=hid (fl_of w.drew p d HD.out.on.shelf hd hL)
 clear h
 generalize Fl S d=S' at *
 generalize Sh.why S d=y at *
 go_enter Tryz.func189,Tryz.ntmps189
 go_wp2_with fail
 refine wp_region_held_drew (S:=fun (W':World)=>DevIs W' a p d o) (by kernel_rfl) (HD.out.dev) (fun hHeld=>?_)
 refine tk 0 6 ?_
 refine tk 1 7 ?_
 refine tk 2 8 ?_
 refine tk 3 9 ?_
 refine tk 4 10 ?_
 refine tk 5 11 ?_
 refine tk 6 12 ?_
 refine tk 7 13 ?_
 refine tk 8 14 ?_
 refine tk 9 15 ?_
 refine r1 10 (some 16) fun K hK=>?_
 go_simp
 refine HFL.out.mono ?_
 rintro e w1 ⟨rfl,hl⟩
 refine hK.out _ _ ((by obtain ⟨F',D1,_⟩:=HD.out.left hl;exact D1.dev)) (fun hHeld=>?_)
 clear hK K
 try simp only [Act.put,List.setIfInBounds_toArray,List.set_cons_zero,List.set_cons_succ]
 refine tk 11 3 ?_
 refine wpAnyH_done (by kernel_rfl) ?_ _
 obtain ⟨F',D1,M1⟩:=HD.out.goes hl
 have M2:=hid ((moves_drew (F:=F) (a:=a) (w:=w)).trans M1)
 have k2:=D1.dev.c2
 have f2:=D1.dev.free 2
 by_cases hy:y=0
 ·subst hy
  have D2:=hid (D1.put (-1))
  have M3:=hid (M2.out.trans (moves_put (F:=F') (-1)))
  clear D1 M1
  go_wp2
  go_ret
  exact ⟨rfl,F',D2.out,M3.out⟩
 ·have hq:(y == 0)=false:=by rw [beq_eq_false_iff_ne];exact hy
  clear M1
  go_wp2
  go_ret
  exact ⟨rfl,F',by rw [show shut y o=o from if_neg hy];exact D1,M2.out⟩
end
section
variable {B:Nat} {W w w':World} {a p d:Nat} {o:Int} {S S':Sh.Sf} {F:Nat->Prop}
theorem wr_length (S:Sh.Sf) (d n:Nat) (b:Sh.Bs):(Wr S d n b).disks.length=S.disks.length:=by
 unfold Wr
 split
 ·show (S.disks.set d _).length=_;rw [List.length_set]
 ·rfl
theorem wr_waits {S:Sh.Sf} {d n:Nat} {b:Sh.Bs} {m:Nat} (hL:∀k∈S.disks,k.waits.length+1<m):∀k∈(Wr S d n b).disks,k.waits.length<m:=by
 unfold Wr
 split
 ·intro k hk
  have hk:k∈S.disks.set d ((S.disks.getD d default).write n b):=hk
  by_cases hd:d<S.disks.length
  ·rcases List.mem_or_eq_of_mem_set hk with hk | rfl
   ·have:=hL k hk;omega
   ·have:=hL _ (Sh.getD_mem (l:=S.disks) (d:=d) hd)
    have e:((S.disks.getD d default).write n b).waits.length=(S.disks.getD d default).waits.length+1:=by unfold Sh.Dk.write;exact List.length_append
    omega
  ·rw [List.set_eq_of_length_le (by omega)] at hk
   have:=hL k hk;omega
 ·intro k hk;have:=hL k hk;omega
theorem sure_any (h:Dv B W w a p d o S F) (hd:d<S.disks.length) (n:Nat) (hn:n<S.sectors) (b:Sh.Bs) {A:Option Addr} {c:Nat} (hb:Sh.Sec b) (hr:Sh.Reads w w.heap.size A 128 (Sh.bts b)) (hA:∀x,A=some x->¬F x.block) (hL1:∀k∈S.disks,k.waits.length+1<1099511627776) :
  Calls Tryz.prog 255 #[.pointer (some ⟨a,0,none⟩),.int .i64 n,.slice A 128 c] w fun e w'=>e=.returned (.int .i64 (Sh.why (Wr S d n b) d))/\Goes B W w w' a p d (shut (Sh.why (Wr S d n b) d) o) (Fl (Wr S d n b) d) F:=by
 have hL:∀k∈S.disks,k.waits.length<1099511627776:=fun k hk=>by have:=hL1 k hk;omega
 have hrd:Sh.Reads w.drew w.drew.heap.size A 128 (Sh.bts b):=hr
 have j0:=fun (W':World) (h:DevIs W' a p d o)=>h.c0
 have j1:=fun (W':World) (h:DevIs W' a p d o)=>h.c1
 have HD:=hid (h.grown (w':=w.drew) ⟨rfl,rfl,rfl,Nat.le_refl _,fun _ _=>rfl⟩)
 have HWR:=hid (wr_of (c:=c) w.drew p d n b HD.out.on.shelf hd hn hL hb hrd hA)
 have hW1:=hid (wr_waits (S:=S) (d:=d) (n:=n) (b:=b) hL1)
 have hd1:d<(Wr S d n b).disks.length:=by rw [wr_length];exact hd
 have hno:=hid (show Sh.why S d≠0->Wr S d n b=S/\Fl S d=S from fun h=>⟨by unfold Wr;rw [if_neg h],by unfold Fl;rw [if_neg h]⟩)
 have HFD:=hid (fun (w1:World) (F1:Nat->Prop) (D:Dv B W w1 a p d o (Wr S d n b) F1)=>flush_dev D hd1 hW1.out)
 clear h hW1 hd1 hr hrd
 generalize Wr S d n b=S1 at *
 generalize hy:Sh.why S d=y at *
 generalize hf2:Fl S1 d=S2 at *
 generalize hy1:Sh.why S1 d=y1 at *
 have Hy:=hid hy
 have Hy1:=hid hy1
 have Hf2:=hid hf2
 clear hy hy1 hf2
 go_enter Tryz.func255,Tryz.ntmps255
 go_wp2_with fail
 refine wp_region_held_drew (S:=fun (W':World)=>DevIs W' a p d o) (by kernel_rfl) (HD.out.dev) (fun hHeld=>?_)
 refine tk 0 8 ?_
 refine tk 1 9 ?_
 refine tk 2 10 ?_
 refine tk 3 11 ?_
 refine tk 4 12 ?_
 refine tk 5 13 ?_
 refine tk 6 14 ?_
 refine tk 7 15 ?_
 refine tk 8 16 ?_
 refine tk 9 17 ?_
 refine tk 10 18 ?_
 refine tk 11 19 ?_
 refine r1 12 (some 20) fun K hK=>?_
 go_simp
 refine HWR.out.mono ?_
 rintro e w1 ⟨rfl,hl⟩
 refine hK.out _ _ ((by obtain ⟨F',D1,_⟩:=HD.out.left hl;exact D1.dev)) (fun hHeld=>?_)
 clear hK K
 try simp only [Act.put,List.setIfInBounds_toArray,List.set_cons_zero,List.set_cons_succ]
 refine tk 13 7 ?_
 refine wpAnyH_done (by kernel_rfl) ?_ _
 obtain ⟨F',D1,M1⟩:=HD.out.goes hl
 have M2:=hid ((moves_drew (F:=F) (a:=a) (w:=w)).trans M1)
 clear M1
 by_cases hy:y=0
 ·subst hy
  have H1:=hid D1
  go_wp2_with fail
  refine (HFD.out _ _ H1.out).mono ?_
  rintro e w2 ⟨rfl,F2,D2,M3⟩
  have M4:=hid (M2.out.trans M3)
  clear M3
  go_wp2
  go_ret
  exact ⟨rfl,F2,D2,M4.out⟩
 ·have D3:=hid (show Dv B W w1 a p d (shut y1 o) S2 F' from by
   have e:=hno.out hy
   have e1:S2=S:=by rw [<- Hf2.out,e.1,e.2]
   have e2:y1=y:=by rw [<- Hy1.out,e.1,Hy.out]
   rw [e1,e2,show shut y o=o from if_neg hy,<- e.1]
   exact D1)
  obtain rfl:y1=y:=by rw [<- Hy1.out,(hno.out hy).1,Hy.out]
  have hq:(y1 == 0)=false:=by rw [beq_eq_false_iff_ne];exact hy
  clear D1 HFD hno
  go_wp2
  go_ret
  exact ⟨rfl,F',D3.out,M2.out⟩
end
theorem getN_putL (x n:Nat):getN (putL x n)=x%2 ^ (8*n):=by
 induction n with
 | zero=>simp [putL,getN,Nat.mod_one]
 | succ n ih =>
  have h:putL x (n+1)=putL x n++[x / 2 ^ (8*n)%256]:=by simp [putL,List.range_succ]
  rw [h,getN_snoc,ih,putL_length]
  have e:8*(n+1)=8*n+8:=by omega
  rw [e,Nat.pow_add,Nat.mod_mul]
  have:(2:Nat) ^ 8=256:=by decide
  rw [this,Nat.mul_comm (2 ^ (8*n))]
def putAt (l:List Nat) (i:Nat) (c:List Nat):List Nat:=l.take i++(c++l.drop (i+c.length))
theorem putAt_bts (l c:List Nat) (i:Nat):splice (bts l) i (bts c)=bts (putAt l i c):=by
 simp [splice,putAt,bts,List.map_take,List.map_drop]
theorem putAt_length {l c:List Nat} {i:Nat} (h:i+c.length<=l.length):(putAt l i c).length=l.length:=by
 simp [putAt];omega
theorem putAt_small {l c:List Nat} {i:Nat} (hl:Small l) (hc:Small c):Small (putAt l i c):=by
 intro x hx
 rcases List.mem_append.1 hx with hx | hx
 ·exact hl x (List.mem_of_mem_take hx)
 ·rcases List.mem_append.1 hx with hx | hx
  ·exact hc x hx
  ·exact hl x (List.mem_of_mem_drop hx)
theorem cut_put_same {l c:List Nat} {i:Nat} (h:i<=l.length):cutAt (putAt l i c) i c.length=c:=by
 unfold cutAt putAt
 rw [List.drop_left' (by simp;omega),List.take_left' rfl]
theorem putAt_get {l c:List Nat} {i x:Nat} (h:i+c.length<=l.length) (hx:x<i\/i+c.length<=x):(putAt l i c)[x]?=l[x]?:=by
 unfold putAt
 rcases hx with hx | hx
 ·rw [List.getElem?_append_left (by simp;omega),List.getElem?_take,if_pos hx]
 ·rw [List.getElem?_append_right (by simp;omega),List.getElem?_append_right (by simp;omega),List.getElem?_drop]
  congr 1
  simp
  omega
theorem cut_put_other {l c:List Nat} {i j m:Nat} (h:i+c.length<=l.length) (hj:j+m<=i\/i+c.length<=j):cutAt (putAt l i c) j m=cutAt l j m:=by
 unfold cutAt
 apply List.ext_getElem?
 intro x
 rw [List.getElem?_take,List.getElem?_take]
 split
 ·rw [List.getElem?_drop,List.getElem?_drop,putAt_get h (by omega)]
 ·rfl
def setPair (l:List Nat) (k x y:Nat):List Nat:=putAt (putAt l (k%16*8) (putL x 4)) (k%16*8+4) (putL y 4)
section
variable {l:List Nat} {k x y:Nat}
theorem setPair_length (hl:l.length=128):(setPair l k x y).length=128:=by
 unfold setPair
 rw [putAt_length (by rw [putAt_length (by rw [putL_length];omega),putL_length];omega),putAt_length (by rw [putL_length];omega),hl]
theorem setPair_small (hl:Small l):Small (setPair l k x y):=putAt_small (putAt_small hl (putL_small _ _)) (putL_small _ _)
theorem setPair_sec (h:Sh.Sec l):Sh.Sec (setPair l k x y):=⟨setPair_length h.1,setPair_small h.2⟩
theorem pr_set_0 (hl:l.length=128) (hx:x<4294967296):pr (setPair l k x y) k 0=x:=by
 have h1:(putAt l (k%16*8) (putL x 4)).length=128:=by rw [putAt_length (by rw [putL_length];omega),hl]
 unfold pr setPair
 simp only [Nat.zero_mul,Nat.add_zero]
 rw [cut_put_other (by rw [putL_length];omega) (.inl (by omega))]
 have:=cut_put_same (l:=l) (c:=putL x 4) (i:=k%16*8) (by omega)
 rw [putL_length] at this
 rw [this,getN_putL,Nat.mod_eq_of_lt hx]
theorem pr_set_1 (hl:l.length=128) (hy:y<4294967296):pr (setPair l k x y) k 1=y:=by
 have h1:(putAt l (k%16*8) (putL x 4)).length=128:=by rw [putAt_length (by rw [putL_length];omega),hl]
 unfold pr setPair
 rw [Nat.one_mul]
 have:=cut_put_same (l:=putAt l (k%16*8) (putL x 4)) (c:=putL y 4) (i:=k%16*8+4) (by omega)
 rw [putL_length] at this
 rw [this,getN_putL,Nat.mod_eq_of_lt hy]
theorem pr_set_other (hl:l.length=128) {j i:Nat} (hj:j%16≠k%16) (hi:i<2):pr (setPair l k x y) j i=pr l j i:=by
 have h1:(putAt l (k%16*8) (putL x 4)).length=128:=by rw [putAt_length (by rw [putL_length];omega),hl]
 unfold pr setPair
 rw [cut_put_other (by rw [putL_length];omega) (by rw [putL_length];omega),cut_put_other (by rw [putL_length];omega) (by rw [putL_length];omega)]
end
theorem sumL_lt {d k:Int} {b:List Nat} (hb:Small b):sumL d k b<4294967296:=Nums.sum_lt hb (Nums.sum_lt (putL_small _ _) (Nums.sum_lt (putL_small _ _) (by decide)))
def goodB (s x y:Nat) (b:Sh.Bs):Bool:=decide (s=x) || (decide (s=y) || (decide (x=0/\y=0) && decide (b=Sh.noughts)))
def goodL (d k:Nat) (sec b:Sh.Bs):Bool:=goodB (sumL d k b) (pr sec k 0) (pr sec k 1) b
theorem goodL_of {d k:Nat} {sec b:Sh.Bs} (h:sumL d k b=pr sec k 0\/sumL d k b=pr sec k 1):goodL d k sec b=true:=by
 unfold goodL goodB
 rcases h with h | h<;>simp [h]
theorem goodL_other {d k j x y:Nat} {sec b:Sh.Bs} (hl:sec.length=128) (hj:j%16≠k%16):goodL d j (setPair sec k x y) b=goodL d j sec b:=by
 unfold goodL
 rw [pr_set_other hl hj (by decide),pr_set_other hl hj (by decide)]
theorem sum_of_lt {k:Nat} {n:Nat} (h:k<blk n):dataOf k<n/\sumOf k<n/\sumOf k≠dataOf k:=by
 unfold blk at h;unfold dataOf sumOf;omega
theorem dataOf_inj {j k:Nat} (h:dataOf j=dataOf k):j=k:=by unfold dataOf at h;omega
theorem data_ne_sum (j k:Nat):dataOf j≠sumOf k:=by unfold dataOf sumOf;omega
theorem sumOf_eq {j k:Nat} (h:sumOf j=sumOf k) (hj:j≠k):j%16≠k%16:=by unfold sumOf at h;omega
def V (S:Sh.Sf) (d n:Nat):Sh.Bs:=(S.disks.getD d default).val n
def Looked (S:Sh.Sf) (d:Nat):Sh.Sf:=if Sh.why S d=0 then S.doRead.doRead else S
theorem looked_disks (S:Sh.Sf) (d:Nat):(Looked S d).disks=S.disks:=by unfold Looked;split<;>rfl
theorem looked_sectors (S:Sh.Sf) (d:Nat):(Looked S d).sectors=S.sectors:=by unfold Looked;split<;>rfl
theorem looked_why (S:Sh.Sf) (d e:Nat):Sh.why (Looked S d) e=Sh.why S e:=by unfold Looked;split<;>rfl
theorem looked_off (S:Sh.Sf) (d:Nat):(Looked S d).off=S.off/\(Looked S d).left=S.left:=by unfold Looked;split<;>exact ⟨rfl,rfl⟩
theorem looked_V (S:Sh.Sf) (d e n:Nat):V (Looked S d) e n=V S e n:=by unfold V;rw [looked_disks]
theorem fl_length (S:Sh.Sf) (d:Nat):(Fl S d).disks.length=S.disks.length:=by
 unfold Fl
 split
 ·show (S.disks.set d _).length=_;rw [List.length_set]
 ·rfl
theorem wr_sectors (S:Sh.Sf) (d n:Nat) (b:Sh.Bs):(Wr S d n b).sectors=S.sectors:=by unfold Wr;split<;>rfl
theorem fl_sectors (S:Sh.Sf) (d:Nat):(Fl S d).sectors=S.sectors:=by unfold Fl;split<;>rfl
theorem fl_waits {S:Sh.Sf} {d m:Nat} (hL:∀k∈S.disks,k.waits.length<m):∀k∈(Fl S d).disks,k.waits.length<m:=by
 unfold Fl
 split
 ·intro k hk
  have hk:k∈S.disks.set d ((S.disks.getD d default).settle (fun _=>true)):=hk
  by_cases hd:d<S.disks.length
  ·rcases List.mem_or_eq_of_mem_set hk with hk | rfl
   ·exact hL k hk
   ·show ([]:List (Nat × Sh.Bs)).length<m
    have:=hL _ (Sh.getD_mem (l:=S.disks) (d:=d) hd)
    simp;omega
  ·rw [List.set_eq_of_length_le (by omega)] at hk
   exact hL k hk
 ·exact hL
theorem wr_getD (S:Sh.Sf) (d n:Nat) (b:Sh.Bs) (hd:d<S.disks.length) (hw:Sh.why S d=0) (e:Nat) :
  (Wr S d n b).disks.getD e default=if e=d then (S.disks.getD d default).write n b else S.disks.getD e default:=by
 unfold Wr
 rw [if_pos hw]
 exact Sh.getD_set _ _ _ _ hd
theorem fl_getD (S:Sh.Sf) (d:Nat) (hd:d<S.disks.length) (hw:Sh.why S d=0) (e:Nat) :
  (Fl S d).disks.getD e default=if e=d then (S.disks.getD d default).settle (fun _=>true) else S.disks.getD e default:=by
 unfold Fl
 rw [if_pos hw]
 exact Sh.getD_set _ _ _ _ hd
theorem val_write (k:Sh.Dk) (n m:Nat) (b:Sh.Bs):(k.write n b).val m=if n=m then b else k.val m:=by
 show Sh.latest (k.waits++[(n,b)]) m (k.sure.getD m [])=_
 rw [Sh.latest_snoc]
 rfl
theorem val_settle (k:Sh.Dk) (m:Nat) (hm:m<k.sure.length):(k.settle (fun _=>true)).val m=k.val m:=by
 show Sh.latest [] m ((Sh.stl (fun _=>true) k.waits 0 k.sure).getD m [])=Sh.latest k.waits m (k.sure.getD m [])
 have:=Sh.stl_true m k.waits 0 k.sure hm
 rw [List.getD,this]
 rfl
structure Calm (S:Sh.Sf) (d:Nat):Prop where
 lt:d<S.disks.length
 on:S.off=false
 left:S.left=0
 alive:(S.disks.getD d default).dead=false
 len:(S.disks.getD d default).sure.length=S.sectors
section
variable {S:Sh.Sf} {d:Nat}
theorem Calm.why (h:Calm S d):Sh.why S d=0:=by
 unfold Sh.why
 rw [h.on,h.alive]
 rfl
theorem Calm.wr (h:Calm S d) (n:Nat) (b:Sh.Bs):Calm (Wr S d n b) d:=by
 have hg:=wr_getD S d n b h.lt h.why d
 rw [if_pos rfl] at hg
 refine ⟨by rw [wr_length];exact h.lt,?_,?_,by rw [hg];exact h.alive,by rw [hg,wr_sectors];exact h.len⟩
 ·unfold Wr
  rw [if_pos h.why]
  show Sh.offAt S.left S.off=false
  rw [h.left,h.on]
  rfl
 ·unfold Wr
  rw [if_pos h.why]
  show S.left-1=0
  rw [h.left]
theorem Calm.fl (h:Calm S d):Calm (Fl S d) d:=by
 have hg:=fl_getD S d h.lt h.why d
 rw [if_pos rfl] at hg
 refine ⟨by rw [fl_length];exact h.lt,?_,?_,by rw [hg];exact h.alive,by rw [hg,fl_sectors];exact (Sh.stl_length _ _ _ _).trans h.len⟩
 ·unfold Fl
  rw [if_pos h.why]
  show Sh.offAt S.left S.off=false
  rw [h.left,h.on]
  rfl
 ·unfold Fl
  rw [if_pos h.why]
  show S.left-1=0
  rw [h.left]
theorem Calm.looked (h:Calm S d) (e:Nat):Calm (Looked S e) d:=by
 refine ⟨by rw [looked_disks];exact h.lt,(looked_off S e).1.trans h.on,(looked_off S e).2.trans h.left,by rw [looked_disks];exact h.alive,by rw [looked_disks,looked_sectors];exact h.len⟩
theorem Calm.V_wr (h:Calm S d) (n m:Nat) (b:Sh.Bs):V (Wr S d n b) d m=if n=m then b else V S d m:=by
 unfold V
 rw [wr_getD S d n b h.lt h.why d,if_pos rfl,val_write]
theorem Calm.V_fl (h:Calm S d) (m:Nat) (hm:m<S.sectors):V (Fl S d) d m=V S d m:=by
 unfold V
 rw [fl_getD S d h.lt h.why d,if_pos rfl,val_settle _ _ (by rw [h.len];exact hm)]
theorem Calm.waits_fl (h:Calm S d):((Fl S d).disks.getD d default).waits=[]:=by
 rw [fl_getD S d h.lt h.why d,if_pos rfl]
 rfl
end
end Go.Proofs.YtcnjpmcelihknaaGreatDoor.U
namespace Go.Proofs.YtcnjpmcelihknaaGreatDoor.Kj
open Go.RowKit Go.Maps
open Go.Proofs.YtcnjpmcelihknaaGreatDoor.Sh (bts bts_length Reads)
def fset (f:Nat->Sh.Bs) (m:Nat) (b:Sh.Bs) (j:Nat):Sh.Bs:=if j=m then b else f j
theorem fset_same (f:Nat->Sh.Bs) (m:Nat) (b:Sh.Bs):fset f m b m=b:=if_pos rfl
theorem fset_other (f:Nat->Sh.Bs) {m j:Nat} (b:Sh.Bs) (h:j≠m):fset f m b j=f j:=if_neg h
def less1 (C:Nat->Prop) (m:Nat) (j:Nat):Prop:=C j/\j≠m
structure StoK where
 c:Nat
 v:Nat
 n:Nat
 B:Nat
 W:World
 Is:World->(Nat->Prop)->(Nat->Sh.Bs)->(Nat->Prop)->Nat->Prop
 nmax:n<=65535
 tabs:∀{w O f C k},Is w O f C k->Tabs w
 bel:∀{w O f C k},Is w O f C k->Below B W w
 lt:∀{w O f C k},Is w O f C k->∀b,O b->b<w.heap.size
 stays:∀{w w' O f C k} {F:Nat->Prop},Is w O f C k->Sh.Only F w w'->(∀b,F b->¬O b)->Is w' O f C k
 less:∀{w O f C k k'},Is w O f C k->k'<=k->Is w O f C k'
 sec:∀{w O f C k} (m:Nat),Is w O f C k->m<n->Sh.Sec (f m)
 volume:∀{w O f C k},Is w O f C k->Calls Tryz.prog 78 #[.pointer (some ⟨c,0,none⟩)] w fun e w'=>e=.returned (.pointer (some ⟨v,0,none⟩))/\w=w'
 size:∀{w O f C k},Is w O f C k->Calls Tryz.prog 140 #[.pointer (some ⟨v,0,none⟩)] w fun e w'=>e=.returned (.int .i64 (n:Int))/\Below w.heap.size w w'
 vread:∀{w O f C k} (m:Nat),Is w O f C (k+1)->m<n->C m->Calls Tryz.prog 84 #[.pointer (some ⟨v,0,none⟩),.int .i64 (m:Int)] w fun e w' =>
  ∃(A:Option Addr) (cap:Nat) (O':Nat->Prop),e=.returned (.tuple #[.slice A 128 cap,.int .i64 0])/\Is w' O' f C k/\Sh.Moves O w O' w'/\Sh.Bytes w w' A (f m)/\∀a,A=some a->¬O' a.block
 vwrite:∀{w O f C k} (m:Nat) {A:Option Addr} {b:Sh.Bs} (cp:Nat),Is w O f C (k+1)->m<n->C m->Sh.Beside w O A b->Sh.Sec b->Calls Tryz.prog 80 #[.pointer (some ⟨v,0,none⟩),.int .i64 (m:Int),.slice A 128 cp] w fun e w' =>
  ∃(O':Nat->Prop),e=.returned (.int .i64 0)/\Is w' O' (fset f m b) C k/\Sh.Moves O w O' w'
 vflush:∀{w O f C k},Is w O f C (k+1)->Calls Tryz.prog 82 #[.pointer (some ⟨v,0,none⟩)] w fun e w' =>
  ∃(O':Nat->Prop),e=.returned (.int .i64 0)/\Is w' O' f C k/\Sh.Moves O w O' w'
 get:∀{w O f C k} (m:Nat),Is w O f C (k+2)->m<n->Calls Tryz.prog 95 #[.pointer (some ⟨c,0,none⟩),.int .i64 (m:Int)] w fun e w' =>
  ∃(A:Option Addr) (cap:Nat) (O':Nat->Prop),e=.returned (.tuple #[.slice A 128 cap,.int .i64 0])/\Is w' O' f (less1 C m) k/\Sh.Moves O w O' w'/\Sh.Bytes w w' A (f m)/\∀a,A=some a->¬O' a.block
 put:∀{w O f C k} (m:Nat) {A:Option Addr} {b:Sh.Bs} (cp:Nat),Is w O f C (k+1)->m<n->Sh.Beside w O A b->Sh.Sec b->Calls Tryz.prog 156 #[.pointer (some ⟨c,0,none⟩),.int .i64 (m:Int),.slice A 128 cp] w fun e w' =>
  ∃(O':Nat->Prop),e=.returned (.int .i64 0)/\Is w' O' (fset f m b) (less1 C m) k/\Sh.Moves O w O' w'
 flush:∀{w O f C k},Is w O f C (k+1100)->Calls Tryz.prog 99 #[.pointer (some ⟨c,0,none⟩)] w fun e w' =>
  ∃(O':Nat->Prop),e=.returned (.int .i64 0)/\Is w' O' f C k/\Sh.Moves O w O' w'
theorem StoK.grown (S:StoK) {w w':World} {O:Nat->Prop} {f:Nat->Sh.Bs} {C:Nat->Prop} {k:Nat} (h:S.Is w O f C k) (hb:Below w.heap.size w w'):S.Is w' O f C k :=
 S.stays h (Go.Proofs.YtcnjpmcelihknaaGreatDoor.Kc.only_below hb) fun _ e=>e.elim
open Go.Proofs.YtcnjpmcelihknaaGreatDoor.Sh (bts bts_length Reads)
/-! ### plain -/
def ins1 (p:Nat × Sh.Bs):List (Nat × Sh.Bs)->List (Nat × Sh.Bs)
 | []=>[p]
 | q :: r=>if p.1<q.1 then p :: q :: r else q :: ins1 p r
def rdel (R:List (Nat × Sh.Bs)) (k:Nat):List (Nat × Sh.Bs):=R.filter fun p=>decide (p.1≠k)
def rput (R:List (Nat × Sh.Bs)) (k:Nat) (b:Sh.Bs):List (Nat × Sh.Bs):=ins1 (k,b) (rdel R k)
def rget (R:List (Nat × Sh.Bs)) (k:Nat):Option Sh.Bs:=(R.find? fun p=>decide (p.1=k)).map Prod.snd
def Rises (R:List (Nat × Sh.Bs)):Prop:=R.Pairwise fun p q=>p.1<q.1
theorem ins1_perm (p:Nat × Sh.Bs):∀R,(ins1 p R).Perm (p :: R)
 | []=>List.Perm.refl _
 | q :: r=>by
  unfold ins1
  split
  ·exact List.Perm.refl _
  ·exact ((ins1_perm p r).cons q).trans (List.Perm.swap p q r)
theorem ins1_mem {p z:Nat × Sh.Bs} {R:List (Nat × Sh.Bs)}:z∈ins1 p R↔z=p\/z∈R:=by rw [(ins1_perm p R).mem_iff,List.mem_cons]
theorem ins1_rises {p:Nat × Sh.Bs}:∀{R:List (Nat × Sh.Bs)},Rises R->(∀q∈R,q.1≠p.1)->Rises (ins1 p R)
 | [],_,_=>List.pairwise_singleton _ _
 | q :: r,h,hn=>by
  obtain ⟨h1,h2⟩:=List.pairwise_cons.1 h
  have hq:=hn q (List.mem_cons_self ..)
  unfold ins1
  split
  ·rename_i hlt
   exact List.pairwise_cons.2 ⟨fun z hz=>(List.mem_cons.1 hz).elim (fun e=>by rw [e];exact hlt) (fun e=>Nat.lt_trans hlt (h1 z e)),h⟩
  ·rename_i hge
   exact List.pairwise_cons.2 ⟨fun z hz=>(ins1_mem.1 hz).elim (fun e=>by rw [e];omega) (h1 z),ins1_rises h2 fun z hz=>hn z (List.mem_cons_of_mem _ hz)⟩
theorem rdel_mem {R:List (Nat × Sh.Bs)} {k:Nat} {z:Nat × Sh.Bs}:z∈rdel R k↔z∈R/\z.1≠k:=by simp [rdel]
theorem rdel_rises {R:List (Nat × Sh.Bs)} (h:Rises R) (k:Nat):Rises (rdel R k):=h.sublist List.filter_sublist
theorem rput_rises {R:List (Nat × Sh.Bs)} (h:Rises R) (k:Nat) (b:Sh.Bs):Rises (rput R k b):=ins1_rises (rdel_rises h k) fun _ hq=>(rdel_mem.1 hq).2
theorem rput_mem {R:List (Nat × Sh.Bs)} {k:Nat} {b:Sh.Bs} {z:Nat × Sh.Bs}:z∈rput R k b↔z=(k,b)\/(z∈R/\z.1≠k):=by unfold rput;rw [ins1_mem,rdel_mem]
theorem rget_some {R:List (Nat × Sh.Bs)} {k:Nat} {b:Sh.Bs} (h:rget R k=some b):(k,b)∈R:=by
 unfold rget at h
 rcases hf:R.find? (fun p=>decide (p.1=k)) with _ | p
 ·rw [hf] at h;cases h
 ·rw [hf] at h
  have h1:=List.mem_of_find?_eq_some hf
  have h2:p.1=k:=by simpa using List.find?_some hf
  simp only [Option.map_some,Option.some.injEq] at h
  rw [<- h2,<- h];exact h1
theorem rget_none {R:List (Nat × Sh.Bs)} {k:Nat} (h:rget R k=none):∀z∈R,z.1≠k:=by
 unfold rget at h
 rw [Option.map_eq_none_iff,List.find?_eq_none] at h
 exact fun z hz=>by simpa using h z hz
theorem rises_one {R:List (Nat × Sh.Bs)} (h:Rises R) {k:Nat} {b c:Sh.Bs} (hb:(k,b)∈R) (hc:(k,c)∈R):b=c:=by
 induction R with
 | nil=>cases hb
 | cons q r ih =>
  obtain ⟨h1,h2⟩:=List.pairwise_cons.1 h
  rcases List.mem_cons.1 hb with e | hb<;>rcases List.mem_cons.1 hc with e2 | hc
  ·rw [<- e] at e2;injection e2 with _ e2;exact e2.symm
  ·have:=h1 _ hc;rw [<- e] at this;exact absurd this (Nat.lt_irrefl _)
  ·have:=h1 _ hb;rw [<- e2] at this;exact absurd this (Nat.lt_irrefl _)
  ·exact ih h2 hb hc
theorem rget_mem {R:List (Nat × Sh.Bs)} (h:Rises R) {k:Nat} {b:Sh.Bs} (hb:(k,b)∈R):rget R k=some b:=by
 rcases hg:rget R k with _ | c
 ·exact absurd rfl (rget_none hg _ hb)
 ·rw [rises_one h hb (rget_some hg)]
theorem rget_rput {R:List (Nat × Sh.Bs)} (h:Rises R) (k j:Nat) (b:Sh.Bs):rget (rput R k b) j=if j=k then some b else rget R j:=by
 split
 ·rename_i e;subst e;exact rget_mem (rput_rises h j b) (rput_mem.2 (.inl rfl))
 ·rename_i e
  rcases hg:rget R j with _ | c
  ·rcases hg2:rget (rput R k b) j with _ | c
   ·rfl
   ·rcases rput_mem.1 (rget_some hg2) with q | q
    ·injection q with q _;exact absurd q e
    ·exact absurd rfl (rget_none hg _ q.1)
  ·exact rget_mem (rput_rises h k b) (rput_mem.2 (.inr ⟨rget_some hg,e⟩))
theorem rdel_absent {R:List (Nat × Sh.Bs)} {k:Nat} (h:rget R k=none):rdel R k=R:=by
 unfold rdel
 rw [List.filter_eq_self]
 exact fun z hz=>by simpa using rget_none h z hz
theorem rput_length_new {R:List (Nat × Sh.Bs)} {k:Nat} (b:Sh.Bs) (h:rget R k=none):(rput R k b).length=R.length+1:=by
 unfold rput
 rw [(ins1_perm _ _).length_eq,rdel_absent h];rfl
theorem rdel_length:∀{R:List (Nat × Sh.Bs)} (_:Rises R) {k:Nat} {b:Sh.Bs} (_:(k,b)∈R),(rdel R k).length+1=R.length
 | [],_,_,_,h=>by cases h
 | q :: r,h,k,b,hb=>by
  obtain ⟨h1,h2⟩:=List.pairwise_cons.1 h
  unfold rdel
  rcases List.mem_cons.1 hb with e | hb
  ·have hq:q.1=k:=by rw [<- e]
   rw [List.filter_cons_of_neg (by simp [hq]),List.filter_eq_self.2 (fun z hz=>by have:=h1 z hz;simp;omega)];rfl
  ·have hq:q.1≠k:=by have:=h1 _ hb;simp only at this;omega
   rw [List.filter_cons_of_pos (by simpa using hq)]
   have:=rdel_length h2 hb
   unfold rdel at this
   simp only [List.length_cons]
   omega
theorem rput_length_old {R:List (Nat × Sh.Bs)} (hR:Rises R) {k:Nat} {c:Sh.Bs} (b:Sh.Bs) (h:rget R k=some c):(rput R k b).length=R.length:=by
 unfold rput
 rw [(ins1_perm _ _).length_eq,List.length_cons,rdel_length hR (rget_some h)]
def over (R:List (Nat × Sh.Bs)) (f:Nat->Sh.Bs) (j:Nat):Sh.Bs:=(rget R j).getD (f j)
theorem over_nil (f:Nat->Sh.Bs):over [] f=f:=rfl
theorem over_put {R:List (Nat × Sh.Bs)} (h:Rises R) (f:Nat->Sh.Bs) (k:Nat) (b:Sh.Bs):over (rput R k b) f=fset (over R f) k b:=by
 funext j
 unfold over fset
 rw [rget_rput h]
 split<;>rfl
/-! ### in memory -/
def arrV (b:Sh.Bs):Value:=.agg (bts b).toArray
def byteD (x:Nat):DataW Unit:=.lit (.int .u8 (x:Int))
def arrD (b:Sh.Bs):DataW Unit:=.agg (b.map byteD)
def oneD:Value->DataW Unit
 | .int .u8 n=>.lit (.int .u8 n)
 | _=>.nil
def arrR:Value->Option (DataW Unit × List MemPlace)
 | .agg cs=>some (.agg (cs.toList.map oneD),[])
 | _=>none
theorem arrR_mk (b:Sh.Bs):arrR (arrV b)=some (arrD b,[]):=by
 simp only [arrR,arrV,arrD,bts,List.map_map]
 congr 2
theorem byteD_inv:∀{cs:List Value} {b:Sh.Bs},cs.map oneD=b.map byteD->cs=bts b
 | [],[],_=>rfl
 | [],_ :: _,h=>by cases h
 | _ :: _,[],h=>by cases h
 | v :: cs,x :: b,h=>by
  simp only [List.map_cons,List.cons.injEq] at h
  rw [byteD_inv h.2]
  have:v=.int .u8 (x:Int):=by
   have h1:=h.1
   unfold oneD byteD at h1
   split at h1
   ·injection h1 with h1;injection h1 with _ h1;rw [h1]
   ·cases h1
  rw [this];rfl
theorem arrR_inv {v:Value} {b:Sh.Bs} {ps:List MemPlace} (h:arrR v=some (arrD b,ps)):v=arrV b:=by
 cases v<;>simp only [arrR,Option.some.injEq,Prod.mk.injEq,reduceCtorEq] at h
 rename_i cs
 obtain ⟨h,_⟩:=h
 injection h with h
 have:=byteD_inv h
 unfold arrV
 rw [<- this]
def toD (R:List (Nat × Sh.Bs)):DataW Unit:=.map (R.map fun p=>(.int .i64 (p.1:Int),arrD p.2))
def RMap (w:World) (m:Nat) (R:List (Nat × Sh.Bs)):Prop:=w.ownsMap Tryz.prog 3 arrR m R.length (toD R)
theorem own_tight {w:World} {P:Program} {k:TypeId} {R:Value->Option (DataW Unit × List MemPlace)} {b n:Nat} {D:DataW Unit} (h:w.ownsMap P k R b n D):w.ownsMap P k R b (Maps.size D) D:=by
 obtain ⟨es,clock,hb,F,hs,hD⟩:=h
 exact ⟨es,clock,hb,F,by rw [hD];simp [Maps.size,length_sorted],hD⟩
theorem toD_size (R:List (Nat × Sh.Bs)):Maps.size (toD R)=R.length:=by simp [Maps.size,toD]
theorem RMap.of {w:World} {m n:Nat} {R:List (Nat × Sh.Bs)} (h:w.ownsMap Tryz.prog 3 arrR m n (toD R)):RMap w m R:=by
 have:=own_tight h
 rw [toD_size] at this
 exact this
theorem RMap.lt {w:World} {m:Nat} {R:List (Nat × Sh.Bs)} (h:RMap w m R):m<w.heap.size:=World.ownsMap.lt h
theorem RMap.same {w w':World} {m:Nat} {R:List (Nat × Sh.Bs)} (h:RMap w m R) (hk:w'.heap[m]?=w.heap[m]?):RMap w' m R:=Sh.same_map h hk
theorem RMap.made (w:World):RMap (w.alloc (.map #[] 0)) w.heap.size []:=World.ownsMap_made w _ _ _
theorem same_int (a b:Int):(Lit.int .i64 a).sameKey (.int .i64 b)=decide (a=b):=by simp [Lit.sameKey]
theorem filter_toD (R:List (Nat × Sh.Bs)) (k:Nat):(R.map fun p=>((.int .i64 (p.1:Int),arrD p.2):Lit × DataW Unit)).filter (fun p=>!p.1.sameKey (.int .i64 (k:Int)))=(rdel R k).map fun p=>(.int .i64 (p.1:Int),arrD p.2):=by
 unfold rdel
 rw [List.filter_map]
 congr 1
 apply List.filter_congr
 intro z _
 simp only [Function.comp,same_int]
 by_cases h:z.1=k
 ·simp [h]
 ·rw [decide_eq_false (fun e=>h (by omega)),decide_eq_true h];rfl
theorem insert_ins (p:Nat × Sh.Bs):∀R:List (Nat × Sh.Bs),DataW.insert ((.int .i64 (p.1:Int),arrD p.2):Lit × DataW Unit) (R.map fun p=>(.int .i64 (p.1:Int),arrD p.2))=(ins1 p R).map fun p=>(.int .i64 (p.1:Int),arrD p.2)
 | []=>rfl
 | q :: r=>by
  rw [List.map_cons]
  unfold DataW.insert ins1
  by_cases h:p.1<q.1
  ·have:Lit.before (.int .i64 (p.1:Int)) (.int .i64 (q.1:Int))=true:=decide_eq_true (by omega)
   rw [if_pos h,if_pos this];rfl
  ·have:¬Lit.before (.int .i64 (p.1:Int)) (.int .i64 (q.1:Int))=true:=by
    intro e;exact h (by have:=of_decide_eq_true e;omega)
   rw [if_neg h,if_neg this,List.map_cons,insert_ins p r]
theorem toD_put (R:List (Nat × Sh.Bs)) (k:Nat) (b:Sh.Bs):(toD R).put (.int .i64 (k:Int)) (arrD b)=toD (rput R k b):=by
 show DataW.map _=DataW.map _
 rw [filter_toD,insert_ins (k,b)];rfl
theorem toD_find (R:List (Nat × Sh.Bs)) (k:Nat):(R.map fun p=>((.int .i64 (p.1:Int),arrD p.2):Lit × DataW Unit)).find? (fun p=>p.1.sameKey (.int .i64 (k:Int)))=(R.find? fun p=>decide (p.1=k)).map fun p=>(.int .i64 (p.1:Int),arrD p.2):=by
 rw [List.find?_map]
 congr 1
 congr 1
 funext z
 simp only [Function.comp,same_int]
 by_cases h:z.1=k
 ·simp [h]
 ·rw [decide_eq_false (fun e=>h (by omega)),decide_eq_false h]
theorem toD_at (R:List (Nat × Sh.Bs)) (k:Nat) (z:DataW Unit):(toD R).atKey (.int .i64 (k:Int)) z=((rget R k).map arrD).getD z:=by
 unfold toD DataW.atKey rget
 simp only [toD_find]
 cases R.find? (fun p=>decide (p.1=k))<;>rfl
theorem any_find {α:Type} (f:α->Bool):∀l:List α,l.any f=(l.find? f).isSome
 | []=>rfl
 | a :: r=>by
  rw [List.any_cons,List.find?_cons]
  cases f a
  ·exact any_find f r
  ·rfl
theorem toD_has (R:List (Nat × Sh.Bs)) (k:Nat):Maps.has (toD R) (.int .i64 (k:Int))=(rget R k).isSome:=by
 unfold toD
 rw [Maps.has_eq,any_find,toD_find]
 unfold rget
 cases R.find? (fun p=>decide (p.1=k))<;>rfl
theorem zeroArr (w:World):(zeroValue 147).run Tryz.prog w=.ok (arrV Sh.noughts) w:=by kernel_rfl
theorem keyI (x:Int) (hx:-9223372036854775808<=x/\x<=9223372036854775807):keyOf Tryz.prog 3 (.int .i64 x)=some (.int .i64 x):=keyOf_int_mk Tryz.underlying3 (by exact WalkArith.wf_i64 (by omega))
theorem RMap.look {w:World} {m:Nat} {R:List (Nat × Sh.Bs)} (h:RMap w m R) (k:Nat) (hk:k<=1073741824) :
  (Instr.lookup 142 (.map (some m)) (.int .i64 (k:Int)) true).run Tryz.prog w=.ok (.tuple #[.agg (bts ((rget R k).getD Sh.noughts)).toArray,.bool (rget R k).isSome]) w:=by
 obtain ⟨v,ps,hrun,hv⟩:=World.ownsMap.look_ok (t:=142) (e:=147) (z:=arrV Sh.noughts) (zd:=arrD Sh.noughts) (zp:=[]) (key:=.int .i64 (k:Int)) (kl:=.int .i64 (k:Int)) h Sh.lawInt Tryz.underlying142 (zeroArr w) (arrR_mk _) (keyI (k:Int) (by omega))
 rw [toD_at] at hv
 have hv2:arrR v=some (arrD ((rget R k).getD Sh.noughts),ps):=by
  rw [hv]
  cases rget R k<;>rfl
 rw [hrun,arrR_inv hv2,toD_has]
 rfl
theorem RMap.len {w:World} {m:Nat} {R:List (Nat × Sh.Bs)} (h:RMap w m R) (ty:TypeId):(Builtin.len_ #[142] ty #[.map (some m)]).run Tryz.prog w=.ok (.int .i64 (R.length:Int)) w:=by
 rw [World.ownsMap.len h Tryz.underlying142,toD_size]
theorem turned_only {w w':World} {m:Nat} (h:w.mapTurned w' m):Sh.Only (fun b=>b=m) w w' :=
 have g:=h.grown
 ⟨g.os,g.tape,g.output,g.size,fun i hi hn=>g.block i hi (fun e=>hn (Option.some.inj e))⟩
theorem RMap.store {w:World} {m:Nat} {R:List (Nat × Sh.Bs)} (h:RMap w m R) (hR:R.length<=1024) (k:Nat) (hk:k<=1073741824) (b:Sh.Bs) :
  ∃w',(Instr.mapUpdate 142 (.map (some m)) (.int .i64 (k:Int)) (arrV b)).run Tryz.prog w=.ok () w'/\RMap w' m (rput R k b)/\Sh.Only (fun b=>b=m) w w':=by
 obtain ⟨w',h1,h2,h3⟩:=World.ownsMap.store (t:=142) (e:=147) h Sh.lawInt Tryz.underlying142 (Nat.lt_of_le_of_lt hR (by decide)) (keyI (k:Int) (by omega)) (arrR_mk b)
 rw [toD_put] at h2
 exact ⟨w',h1,.of h2,turned_only h3⟩
end Go.Proofs.YtcnjpmcelihknaaGreatDoor.Kj
