/-
  What the statement's proof rests on, part 23.
  Conditions: each theorem's own.
-/
import Derived.Test.YtcnjpmcelihknaaGreatDoorV22
import Derived.Test.YtcnjpmcelihknaaGreatDoorVtk
open Go.Lib (hid)
namespace Go.Proofs.YtcnjpmcelihknaaGreatDoor.U
open Go.RowKit Go.Maps
def ReadyQ (S0:Sh.Sf) (d:Nat) (o:Int) (k:Nat) (g:Bool) (s sum:Nat) (X1 b':Sh.Bs):Sh.Sf:=Fl (Wr (spIf (flIf S0 d o k) d k g s sum b') d (sumOf k) (setPair X1 k (first g s sum) sum)) d
def Ready (S:Sh.Sf) (d:Nat) (o:Int) (k:Nat) (b b':Sh.Bs):Sh.Sf:=ReadyQ (Looked S d) d o k (goodAt S d k) (sumL d k (V S d (dataOf k))) (sumL d k b) (V S d (sumOf k)) b'
def WriteQ (B:Nat) (W w:World) (a p d:Nat) (o:Int) (S0:Sh.Sf) (F:Nat->Prop) (k:Nat) (g:Bool) (x y s:Nat) (X1 b:Sh.Bs) (e:Ending) (w':World):Prop :=
 ∃b' o',Sh.Sec b'/\(Sh.why (flIf S0 d o k) d=0/\g=false/\s=sumL d k b->¬(sumL d k b'=x\/sumL d k b'=y\/sumL d k b'=s)) /\
  e=.returned (.int .i64 (Sh.why (ReadyQ S0 d o k g s (sumL d k b) X1 b') d))/\(Sh.why (ReadyQ S0 d o k g s (sumL d k b) X1 b') d=0->o'=(k:Int))/\(Sh.why (ReadyQ S0 d o k g s (sumL d k b) X1 b') d≠0->o'=-1\/o'=o) /\
  Goes B W w w' a p d o' (Wr (ReadyQ S0 d o k g s (sumL d k b) X1 b') d (dataOf k) b) F
def WriteIs (B:Nat) (W w:World) (a p d:Nat) (o:Int) (S:Sh.Sf) (F:Nat->Prop) (k:Nat) (b:Sh.Bs) (e:Ending) (w':World):Prop :=
 WriteQ B W w a p d o (Looked S d) F k (goodAt S d k) (pr (V S d (sumOf k)) k 0) (pr (V S d (sumOf k)) k 1) (sumL d k (V S d (dataOf k))) (V S d (sumOf k)) b e w'
theorem write_mk {B:Nat} {W w w':World} {a p d:Nat} {o o' z:Int} {S0 S3:Sh.Sf} {F:Nat->Prop} {k:Nat} {g:Bool} {x y s:Nat} {X1 b b':Sh.Bs} (H3:ReadyQ S0 d o k g s (sumL d k b) X1 b'=S3) (hs:Sh.Sec b')
  (hsp:Sh.why (flIf S0 d o k) d=0/\g=false/\s=sumL d k b->¬(sumL d k b'=x\/sumL d k b'=y\/sumL d k b'=s)) (hz:Sh.why S3 d=z) (h0:z=0->o'=(k:Int)) (h1:z≠0->o'=-1\/o'=o) (hG:Goes B W w w' a p d o' (Wr S3 d (dataOf k) b) F) :
  WriteQ B W w a p d o S0 F k g x y s X1 b (.returned (.int .i64 z)) w':=by
 subst H3 hz
 exact ⟨b',o',hs,hsp,rfl,h0,h1,hG⟩
theorem beside_with {B:Nat} {W w w':World} {a p d:Nat} {o:Int} {S:Sh.Sf} {F:Nat->Prop} {A:Option Addr} {l:Sh.Bs} (h:Dv B W w a p d o S F) (hb:Sh.Bytes w w' A l):Sh.Beside w' (With F a) A l :=
 ⟨hb.1,fun x hx e=>by have:=(hb.2 x hx).1;have:=with_lt h _ e;omega⟩
section
variable {B:Nat} {W w:World} {a p d:Nat} {o:Int} {S:Sh.Sf} {F:Nat->Prop}
set_option maxRecDepth 20000 in
set_option maxHeartbeats 1000000 in
theorem write_why (h:Dv B W w a p d o S F) (k:Nat) (hk:k<blk S.sectors) (hd:d<S.disks.length) (hw:Sh.why S d≠0) (A:Option Addr) (c:Nat) :
  Calls Tryz.prog 188 #[.pointer (some ⟨a,0,none⟩),.int .i64 k,.slice A 128 c] w fun e w'=>e=.returned (.int .i64 (Sh.why S d))/\Below w.heap.size w w':=by
 have HH:=hid (has_yes k h.dev h.on.shelf (secM_of h.on.shelf) hk)
 have c0:=h.dev.c0
 have c1:=h.dev.c1
 have HL:=hid (fun m=>look_why (w:=w.drewN m) (h.on.shelf.only (G:=fun _=>False) ⟨rfl,rfl,rfl,Nat.le_refl _,fun _ _ _=>rfl⟩ (fun _ _ e=>e)) k hk hd hw)
 have hq:(Sh.why S d != 0)=true:=by simpa using hw
 have hq2:(Sh.why S d == 0)=false:=by simpa using hw
 clear h hk hw
 generalize Sh.why S d=y at *
 unfold st0 at *
 go_enter Tryz.func188,Tryz.ntmps188
 go_wp2_with (first
  | (go_at_call 218;refine HH.out.mono ?_;rintro e w' ⟨rfl,m,rfl⟩)
  | (go_at_call 219;refine (HL.out m).mono ?_;rintro e w2 ⟨rfl,b2⟩))
 go_ret
 exact ⟨rfl,((drawn (Below.refl _ w) m).trans b2).alloc (Nat.le_trans b2.size (Nat.le_refl _)) _⟩
set_option maxRecDepth 100000 in
set_option maxHeartbeats 8000000 in
theorem write_done (h:Dv B W w a p d o S F) (hT:Tabs W) (hTB:max 0 1+1<=B) (k:Nat) (hk:k<blk S.sectors) (hd:d<S.disks.length) (hw:Sh.why S d=0) (b:Sh.Bs) {A:Option Addr} {c:Nat}
  (hb:Sh.Sec b) (hA:Sh.Beside w (With F a) A b) (hL:∀k∈S.disks,k.waits.length+3<1099511627776) :
  Calls Tryz.prog 188 #[.pointer (some ⟨a,0,none⟩),.int .i64 k,.slice A 128 c] w (WriteIs B W w a p d o S F k b):=by
 have HH:=hid (has_yes k h.dev h.on.shelf (secM_of h.on.shelf) hk)
 have c0:=h.dev.c0
 have c1:=h.dev.c1
 have HL:=hid (fun m=>look_done (w:=w.drewN m) (h.on.grown (drawn (Below.refl _ w) m)) hT hTB k hk hd hw)
 obtain ⟨hk1,hk2,_⟩:=sum_of_lt hk
 have h1:=V_sec h.on.shelf hd hk2
 have h2:=V_sec h.on.shelf hd hk1
 have hs0:sumL d k (V S d (dataOf k))<4294967296:=sumL_lt h2.2
 have HST:=hid (fun w2 (hs:Sh.Shelf w2 p S.doRead.doRead F) (ho:Sh.Only F w w2)=>h.stays hs ho)
 have Hh:=hid h
 have hlo:=hid (looked_on hw)
 have hk':k<blk (S.doRead.doRead).sectors:=hk
 have hd':d<(S.doRead.doRead).disks.length:=hd
 have hL':∀k∈(S.doRead.doRead).disks,k.waits.length+2<1099511627776:=fun k hk=>by have:=hL k hk;omega
 have HSpl:=hid hL
 have HFin:=hid hw
 unfold LookIs at HL
 clear h hw hL HFin
 unfold WriteIs goodAt goodL
 rw [hlo.out]
 generalize V S d (sumOf k)=X1 at *
 generalize V S d (dataOf k)=X2 at *
 generalize hpx:pr X1 k 0=x at *
 generalize hpy:pr X1 k 1=y at *
 generalize hps:sumL (d:Int) (k:Int) X2=s at *
 have hs:s<4294967296:=hs0
 clear hpx hpy hps hs0
 go_enter Tryz.func188,Tryz.ntmps188
 go_wp2_with (go_at_call 218;refine HH.out.mono ?_;rintro e w' ⟨rfl,m,rfl⟩)
 refine (HL.out m).mono ?_
 rintro e w2 ⟨b1,d1,b2,d2,rfl,y1,y2,s2,o2⟩
 have hrow:(w2.alloc (.cells (stV k (some ⟨b1,0,none⟩) d1 (some ⟨b2,0,none⟩) d2 x y s) 257)).heap[w2.heap.size]?=some (.cells (stV k (some ⟨b1,0,none⟩) d1 (some ⟨b2,0,none⟩) d2 x y s) 257 (0,0)):=heap_alloc_new _ _
 have hb2:Below w2.heap.size w2 (w2.alloc (.cells (stV k (some ⟨b1,0,none⟩) d1 (some ⟨b2,0,none⟩) d2 x y s) 257)):=(Below.refl _ _).alloc (Nat.le_refl _) _
 have z3:w2.heap.size<(w2.alloc (.cells (stV k (some ⟨b1,0,none⟩) d1 (some ⟨b2,0,none⟩) d2 x y s) 257)).heap.size:=by simp
 have o2':Sh.Only F w w2:=(only_below F (drawn (Below.refl _ w) m)).trans o2 (fun _ hb=>.inl hb)
 have D2:=hid (HST.out w2 s2 o2')
 have Hd0:=hid (Hh.out.grown (drawn (Below.refl _ w) m))
 have Y1:=hid ((beside_with Hd0.out y1).grown hb2)
 have Y2:=hid ((beside_with Hd0.out y2).grown hb2)
 have M2:=hid (moves_only (a:=a) o2')
 have YA:=hid ((hA.moves M2.out).grown hb2)
 have N4:=hid (show ¬With F a w2.heap.size from fun e=>Nat.lt_irrefl _ (with_lt D2.out _ e))
 have D3:=hid (D2.out.grown hb2)
 have M3:=hid (M2.out.trans (moves_below (F:=F) (a:=a) hb2))
 have T3:=hid (At.tabs D3.out.on hT hTB)
 have hld:=load_state hrow info_state
 clear y1 y2 s2 o2 o2' hb2 HH HL c0 c1 hA Hd0 HST Hh
 unfold stV at *
 have hO:StD a w2.heap.size p d #[.int .i64 (k:Int),.int .i64 ((sumOf k:Nat):Int),.int .i64 ((dataOf k:Nat):Int),.slice (some ⟨b1,0,none⟩) 128 d1,.slice (some ⟨b2,0,none⟩) 128 d2,.int .u32 (x:Int),.int .u32 (y:Int),.int .u32 (s:Int)] (w2.alloc (.cells #[.int .i64 (k:Int),.int .i64 ((sumOf k:Nat):Int),.int .i64 ((dataOf k:Nat):Int),.slice (some ⟨b1,0,none⟩) 128 d1,.slice (some ⟨b2,0,none⟩) 128 d2,.int .u32 (x:Int),.int .u32 (y:Int),.int .u32 (s:Int)] 257)).drew:=⟨⟨D3.out.dev.c0,D3.out.dev.c1⟩,hrow⟩
 go_wp2_with fail
 generalize w2.alloc (.cells #[.int .i64 (k:Int),.int .i64 ((sumOf k:Nat):Int),.int .i64 ((dataOf k:Nat):Int),.slice (some ⟨b1,0,none⟩) 128 d1,.slice (some ⟨b2,0,none⟩) 128 d2,.int .u32 (x:Int),.int .u32 (y:Int),.int .u32 (s:Int)] 257)=w3 at *
 clear hrow hld
 have f0:=fun W' (h:StD a w2.heap.size p d #[.int .i64 (k:Int),.int .i64 ((sumOf k:Nat):Int),.int .i64 ((dataOf k:Nat):Int),.slice (some ⟨b1,0,none⟩) 128 d1,.slice (some ⟨b2,0,none⟩) 128 d2,.int .u32 (x:Int),.int .u32 (y:Int),.int .u32 (s:Int)] W')=>(cells8_of h.2).1
 have f1:=fun W' (h:StD a w2.heap.size p d #[.int .i64 (k:Int),.int .i64 ((sumOf k:Nat):Int),.int .i64 ((dataOf k:Nat):Int),.slice (some ⟨b1,0,none⟩) 128 d1,.slice (some ⟨b2,0,none⟩) 128 d2,.int .u32 (x:Int),.int .u32 (y:Int),.int .u32 (s:Int)] W')=>(cells8_of h.2).2.1
 have f2:=fun W' (h:StD a w2.heap.size p d #[.int .i64 (k:Int),.int .i64 ((sumOf k:Nat):Int),.int .i64 ((dataOf k:Nat):Int),.slice (some ⟨b1,0,none⟩) 128 d1,.slice (some ⟨b2,0,none⟩) 128 d2,.int .u32 (x:Int),.int .u32 (y:Int),.int .u32 (s:Int)] W')=>(cells8_of h.2).2.2.1
 have f3:=fun W' (h:StD a w2.heap.size p d #[.int .i64 (k:Int),.int .i64 ((sumOf k:Nat):Int),.int .i64 ((dataOf k:Nat):Int),.slice (some ⟨b1,0,none⟩) 128 d1,.slice (some ⟨b2,0,none⟩) 128 d2,.int .u32 (x:Int),.int .u32 (y:Int),.int .u32 (s:Int)] W')=>(cells8_of h.2).2.2.2.1
 have f4:=fun W' (h:StD a w2.heap.size p d #[.int .i64 (k:Int),.int .i64 ((sumOf k:Nat):Int),.int .i64 ((dataOf k:Nat):Int),.slice (some ⟨b1,0,none⟩) 128 d1,.slice (some ⟨b2,0,none⟩) 128 d2,.int .u32 (x:Int),.int .u32 (y:Int),.int .u32 (s:Int)] W')=>(cells8_of h.2).2.2.2.2.1
 have f5:=fun W' (h:StD a w2.heap.size p d #[.int .i64 (k:Int),.int .i64 ((sumOf k:Nat):Int),.int .i64 ((dataOf k:Nat):Int),.slice (some ⟨b1,0,none⟩) 128 d1,.slice (some ⟨b2,0,none⟩) 128 d2,.int .u32 (x:Int),.int .u32 (y:Int),.int .u32 (s:Int)] W')=>(cells8_of h.2).2.2.2.2.2.1
 have f6:=fun W' (h:StD a w2.heap.size p d #[.int .i64 (k:Int),.int .i64 ((sumOf k:Nat):Int),.int .i64 ((dataOf k:Nat):Int),.slice (some ⟨b1,0,none⟩) 128 d1,.slice (some ⟨b2,0,none⟩) 128 d2,.int .u32 (x:Int),.int .u32 (y:Int),.int .u32 (s:Int)] W')=>(cells8_of h.2).2.2.2.2.2.2.1
 have f7:=fun W' (h:StD a w2.heap.size p d #[.int .i64 (k:Int),.int .i64 ((sumOf k:Nat):Int),.int .i64 ((dataOf k:Nat):Int),.slice (some ⟨b1,0,none⟩) 128 d1,.slice (some ⟨b2,0,none⟩) 128 d2,.int .u32 (x:Int),.int .u32 (y:Int),.int .u32 (s:Int)] W')=>(cells8_of h.2).2.2.2.2.2.2.2.1
 have g0:=fun W' (h:StD a w2.heap.size p d #[.int .i64 (k:Int),.int .i64 ((sumOf k:Nat):Int),.int .i64 ((dataOf k:Nat):Int),.slice (some ⟨b1,0,none⟩) 128 d1,.slice (some ⟨b2,0,none⟩) 128 d2,.int .u32 (x:Int),.int .u32 (y:Int),.int .u32 (s:Int)] W')=>h.1.1
 have g1:=fun W' (h:StD a w2.heap.size p d #[.int .i64 (k:Int),.int .i64 ((sumOf k:Nat):Int),.int .i64 ((dataOf k:Nat):Int),.slice (some ⟨b1,0,none⟩) 128 d1,.slice (some ⟨b2,0,none⟩) 128 d2,.int .u32 (x:Int),.int .u32 (y:Int),.int .u32 (s:Int)] W')=>h.1.2
 refine wp_region_held_drew (S:=StD a w2.heap.size p d #[.int .i64 (k:Int),.int .i64 ((sumOf k:Nat):Int),.int .i64 ((dataOf k:Nat):Int),.slice (some ⟨b1,0,none⟩) 128 d1,.slice (some ⟨b2,0,none⟩) 128 d2,.int .u32 (x:Int),.int .u32 (y:Int),.int .u32 (s:Int)]) (by kernel_rfl) hO (fun hHeld=>?_)
 refine tk 0 36 ?_
 refine tk 1 37 ?_
 refine tk 2 38 ?_
 refine tk 3 39 ?_
 refine tk 4 40 ?_
 refine tk 5 41 ?_
 refine tk 6 42 ?_
 refine tk 7 43 ?_
 refine tk 8 44 ?_
 refine r1 9 (some 45) fun K hK=>?_
 go_simp
 refine (sum_any d k A 128 c b w3.drew hb.2 YA.out.1 (by decide) (show Tabs w3 from T3.out)).mono ?_
 rintro e w4 ⟨rfl,b4⟩
 refine hK.out _ _ (⟨⟨(b4.cell (p:=⟨a,0,none⟩) D3.out.dev.lt).trans hHeld.1.1,(b4.cell (p:=⟨a,1,none⟩) D3.out.dev.lt).trans hHeld.1.2⟩,(b4.block w2.heap.size z3).trans hHeld.2⟩) (fun hHeld=>?_)
 clear hK K
 try simp only [Act.put,List.setIfInBounds_toArray,List.set_cons_zero,List.set_cons_succ]
 have hs4:=hHeld
 have b4':Below w3.heap.size w3 w4:=⟨b4.os,b4.tape,b4.output,b4.size,b4.block⟩
 have D4:=hid (D3.out.grown b4')
 have M4:=hid (M3.out.trans (moves_below (F:=F) (a:=a) b4'))
 have Y14:=hid (Y1.out.grown b4')
 have Y24:=hid (Y2.out.grown b4')
 have YA4:=hid (YA.out.grown b4')
 have z4:=Nat.lt_of_lt_of_le z3 b4'.size
 clear b4 b4'
 refine r1 10 (some 46) fun K hK=>?_
 go_simp
 refine (prepare_any D4.out hT hTB k hk' hd' b1 d1 b2 d2 x y s (sumL d k b) X1 X2 Y14.out Y24.out h1 h2 hs (sumL_lt hb.2) hL').mono ?_
 rintro e w5 ⟨b',o5,hsec5,hsp5,he,ho5,F5,D5,M5⟩
 have hs5:StD a w2.heap.size p d #[.int .i64 (k:Int),.int .i64 ((sumOf k:Nat):Int),.int .i64 ((dataOf k:Nat):Int),.slice (some ⟨b1,0,none⟩) 128 d1,.slice (some ⟨b2,0,none⟩) 128 d2,.int .u32 (x:Int),.int .u32 (y:Int),.int .u32 (s:Int)] w5:=⟨⟨D5.dev.c0,D5.dev.c1⟩,(M5.1.block w2.heap.size z4 N4.out).trans hs4.2⟩
 have HE:=hid (show goodB s x y X2=goodB s x y X2 from rfl)
 generalize hy3:Sh.why (Wr (spIf (flIf S.doRead.doRead d o k) d k (goodB s x y X2) s (sumL d k b) b') d (sumOf k) (setPair X1 k (first (goodB s x y X2) s (sumL d k b)) (sumL d k b))) d=y3 at he D5
 generalize hS3:Fl (Wr (spIf (flIf S.doRead.doRead d o k) d k (goodB s x y X2) s (sumL d k b) b') d (sumOf k) (setPair X1 k (first (goodB s x y X2) s (sumL d k b)) (sumL d k b))) d=S3 at D5
 have Hy3:=hid hy3
 have HS3:=hid hS3
 have Hsp:=hid hsp5
 clear hy3 hS3 HE hsp5
 subst he
 refine hK.out _ _ (hs5) (fun hHeld=>?_)
 clear hK K
 try simp only [Act.put,List.setIfInBounds_toArray,List.set_cons_zero,List.set_cons_succ]
 clear hs5 hs4
 refine tk 11 9 ?_
 refine wpAnyH_done (by kernel_rfl) ?_ _
 have hs5:=hHeld
 have D5h:=hid D5
 have M5h:=hid (M4.out.trans M5)
 have YA5:=hid (YA4.out.moves M5)
 have z5:=Nat.lt_of_lt_of_le z4 M5.1.size
 have N5:=hid (show ¬With F5 a w2.heap.size from fun e=>(M5.2 _ e).elim N4.out (fun e2=>Nat.lt_irrefl _ (Nat.lt_of_lt_of_le z4 e2)))
 have hd3:=hid (show d<S3.disks.length by rw [<- HS3.out,fl_length,wr_length,spIf_length,flIf_length];exact hd')
 have hk3:=hid (show dataOf k<S3.sectors by rw [<- HS3.out,fl_sectors,wr_sectors,spIf_sectors,flIf_sectors];exact hk1)
 have L3:=hid (show ∀k∈S3.disks,k.waits.length<1099511627776 from by
  rw [<- HS3.out]
  exact fl_waits (wr_waits (fun k hk=>by
   have:=spIf_waits (m:=1099511627775) (fun k hk=>by
    have:=flIf_waits (m:=1099511627774) o _ (fun k hk=>by have:=HSpl.out k hk;omega) k hk
    omega) k hk
   omega)))
 clear hO hHeld D5 M5 Y14 Y24 YA4 D3 Y1 Y2 YA HSpl T3 D2 M2 M3 D4 M4
 by_cases hy3:y3=0
 ·subst hy3
  have hO5:StD a w2.heap.size p d #[.int .i64 (k:Int),.int .i64 ((sumOf k:Nat):Int),.int .i64 ((dataOf k:Nat):Int),.slice (some ⟨b1,0,none⟩) 128 d1,.slice (some ⟨b2,0,none⟩) 128 d2,.int .u32 (x:Int),.int .u32 (y:Int),.int .u32 (s:Int)] w5.drew:=hs5
  go_wp2_with fail
  refine wp_region_held_drew (S:=StD a w2.heap.size p d #[.int .i64 (k:Int),.int .i64 ((sumOf k:Nat):Int),.int .i64 ((dataOf k:Nat):Int),.slice (some ⟨b1,0,none⟩) 128 d1,.slice (some ⟨b2,0,none⟩) 128 d2,.int .u32 (x:Int),.int .u32 (y:Int),.int .u32 (s:Int)]) (by kernel_rfl) hO5 (fun hHeld=>?_)
  refine tk 0 50 ?_
  refine tk 1 51 ?_
  refine tk 2 52 ?_
  refine tk 3 53 ?_
  refine tk 4 54 ?_
  refine tk 5 55 ?_
  refine tk 6 56 ?_
  refine tk 7 57 ?_
  refine tk 8 58 ?_
  refine tk 9 59 ?_
  refine tk 10 60 ?_
  refine tk 11 61 ?_
  refine tk 12 62 ?_
  refine r1 13 (some 63) fun K hK=>?_
  go_simp
  refine (wr_of w5.drew p d (dataOf k) b (D5h.out.grown (w':=w5.drew) ⟨rfl,rfl,rfl,Nat.le_refl _,fun _ _=>rfl⟩).on.shelf hd3.out hk3.out L3.out hb YA5.out.1 (fun x hx e=>YA5.out.2 x hx (.inl e))).mono ?_
  rintro e w6 ⟨he,hl⟩
  generalize hy4:Sh.why S3 d=y4 at he
  have Hy4:=hid hy4
  clear hy4
  subst he
  obtain ⟨F6,D6,M6⟩:=(D5h.out.grown (w':=w5.drew) ⟨rfl,rfl,rfl,Nat.le_refl _,fun _ _=>rfl⟩).goes hl
  have hs6:StD a w2.heap.size p d #[.int .i64 (k:Int),.int .i64 ((sumOf k:Nat):Int),.int .i64 ((dataOf k:Nat):Int),.slice (some ⟨b1,0,none⟩) 128 d1,.slice (some ⟨b2,0,none⟩) 128 d2,.int .u32 (x:Int),.int .u32 (y:Int),.int .u32 (s:Int)] w6:=⟨⟨D6.dev.c0,D6.dev.c1⟩,(M6.1.block w2.heap.size z5 N5.out).trans hs5.2⟩
  refine hK.out _ _ (hs6) (fun hHeld=>?_)
  clear hK K
  try simp only [Act.put,List.setIfInBounds_toArray,List.set_cons_zero,List.set_cons_succ]
  clear hs6
  refine tk 14 10 ?_
  refine wpAnyH_done (by kernel_rfl) ?_ _
  have M6h:=hid (M5h.out.trans ((moves_drew (F:=F5) (a:=a) (w:=w5)).trans M6))
  have k2:=D6.dev.c2
  have kf:=D6.dev.free 2
  clear hO5 hHeld f0 f1 f2 f3 f4 f5 f6 f7 g0 g1 hs5 M6
  by_cases hy4:y4=0
  ·subst hy4
   have D7:=hid (D6.put (k:Int))
   have M7:=hid (M6h.out.trans (moves_put (F:=F6) (a:=a) (k:Int)))
   have HP:=hid (write_mk HS3.out hsec5 Hsp.out Hy4.out (fun _=>rfl) (fun e=>absurd rfl e) ⟨F6,D7.out,M7.out⟩)
   clear D6
   go_wp2_with fail
   go_ret
   exact HP.out
  ·have hq4:(y4 == 0)=false:=by rw [beq_eq_false_iff_ne];exact hy4
   have HP:=hid (write_mk HS3.out hsec5 Hsp.out Hy4.out (fun e=>absurd e hy4) (fun _=>ho5) ⟨F6,D6,M6h.out⟩)
   clear D6 k2 kf
   go_wp2_with fail
   go_ret
   exact HP.out
 ·have hq3:(y3 == 0)=false:=by rw [beq_eq_false_iff_ne];exact hy3
  have hw3:=hid (show Sh.why S3 d=y3 by rw [<- HS3.out,fl_why (by rw [Hy3.out];exact hy3),Hy3.out])
  have HW:=hid (show Wr S3 d (dataOf k) b=S3 from wr_why (by rw [hw3.out];exact hy3))
  have HP:=hid (write_mk HS3.out hsec5 Hsp.out hw3.out (fun e=>absurd e hy3) (fun _=>ho5) ⟨F5,by rw [HW.out];exact D5h.out,M5h.out⟩)
  clear f0 f1 f2 f3 f4 f5 f6 f7 g0 g1 hs5
  go_wp2_with fail
  go_ret
  exact HP.out
end
theorem wr_other (S:Sh.Sf) (d n:Nat) (b:Sh.Bs) {e:Nat} (h:e≠d):(Wr S d n b).disks.getD e default=S.disks.getD e default:=by
 unfold Wr
 split
 ·show (S.disks.set d _).getD e default=_
  simp [List.getD,List.getElem?_set_ne (Ne.symm h)]
 ·rfl
theorem fl_other (S:Sh.Sf) (d:Nat) {e:Nat} (h:e≠d):(Fl S d).disks.getD e default=S.disks.getD e default:=by
 unfold Fl
 split
 ·show (S.disks.set d _).getD e default=_
  simp [List.getD,List.getElem?_set_ne (Ne.symm h)]
 ·rfl
structure Over (S:Sh.Sf) (d:Nat) (N:Nat->Prop) (S':Sh.Sf):Prop where
 calm:Calm S' d
 sectors:S'.sectors=S.sectors
 len:S'.disks.length=S.disks.length
 same:∀n,n<S.sectors->¬N n->V S' d n=V S d n
 alike:∀e,e≠d->S'.disks.getD e default=S.disks.getD e default
section
variable {S S1 S2:Sh.Sf} {d:Nat} {N N':Nat->Prop}
theorem Over.refl (h:Calm S d):Over S d N S:=⟨h,rfl,rfl,fun _ _ _=>rfl,fun _ _=>rfl⟩
theorem Over.trans (h:Over S d N S1) (k:Over S1 d N S2):Over S d N S2 :=
 ⟨k.calm,k.sectors.trans h.sectors,k.len.trans h.len,fun n hn hN=>(k.same n (by rw [h.sectors];exact hn) hN).trans (h.same n hn hN),fun e he=>(k.alike e he).trans (h.alike e he)⟩
theorem Over.looked (h:Calm S d):Over S d N (Looked S d) :=
 ⟨h.looked d,looked_sectors S d,by rw [looked_disks],fun n _ _=>looked_V S d d n,fun e _=>by rw [looked_disks]⟩
theorem Over.wr (h:Calm S d) (n:Nat) (b:Sh.Bs) (hn:N n):Over S d N (Wr S d n b) :=
 ⟨h.wr n b,wr_sectors S d n b,wr_length S d n b,fun m _ hm=>by rw [h.V_wr,if_neg (fun (e:n=m)=>hm (e▸hn))],fun _ he=>wr_other S d n b he⟩
theorem Over.fl (h:Calm S d):Over S d N (Fl S d) :=
 ⟨h.fl,fl_sectors S d,fl_length S d,fun m hm _=>h.V_fl m hm,fun _ he=>fl_other S d he⟩
theorem Over.flIf (h:Calm S d) (o:Int) (k:Nat):Over S d N (flIf S d o k):=by
 unfold U.flIf
 split
 ·exact Over.fl h
 ·exact Over.refl h
theorem Over.spIf (h:Calm S d) (k:Nat) (g:Bool) (s sum:Nat) (b:Sh.Bs) (hN:N (dataOf k)):Over S d N (spIf S d k g s sum b):=by
 unfold U.spIf
 split
 ·exact (Over.wr h (dataOf k) b hN).trans (Over.fl (h.wr _ _))
 ·exact Over.refl h
end
section
variable {S:Sh.Sf} {d:Nat}
theorem ready_over (h:Calm S d) (o:Int) (k:Nat) (hk:k<blk S.sectors) (b b':Sh.Bs) :
  Over S d (fun n=>n=sumOf k\/n=dataOf k) (Ready S d o k b b') /\
  V (Ready S d o k b b') d (sumOf k)=setPair (V S d (sumOf k)) k (first (goodAt S d k) (sumL d k (V S d (dataOf k))) (sumL d k b)) (sumL d k b)/\((Ready S d o k b b').disks.getD d default).waits=[]:=by
 obtain ⟨hk1,hk2,_⟩:=sum_of_lt hk
 unfold Ready ReadyQ
 generalize goodAt S d k=g
 generalize sumL d k (V S d (dataOf k))=s
 generalize sumL d k b=sum
 have h1:Over S d (fun n=>n=sumOf k\/n=dataOf k) (Looked S d):=Over.looked h
 have h2:=h1.trans (Over.flIf h1.calm o k)
 have h3:=h2.trans (Over.spIf h2.calm k g s sum b' (.inr rfl))
 generalize spIf (flIf (Looked S d) d o k) d k g s sum b'=S2 at *
 have h4:=h3.trans (Over.wr h3.calm (sumOf k) (setPair (V S d (sumOf k)) k (first g s sum) sum) (.inl rfl))
 have h5:=h4.trans (Over.fl h4.calm)
 refine ⟨h5,?_,h4.calm.waits_fl⟩
 rw [h4.calm.V_fl _ (by rw [h4.sectors];exact hk2),h3.calm.V_wr,if_pos rfl]
end
section
variable {B:Nat} {W w:World} {a p d:Nat} {o:Int} {S:Sh.Sf} {F:Nat->Prop}
theorem read_calm (h:Dv B W w a p d o S F) (hT:Tabs W) (hTB:max 0 1+1<=B) (hc:Calm S d) (k:Nat) (hk:k<blk S.sectors) (hg:goodAt S d k=true) :
  Calls Tryz.prog 186 #[.pointer (some ⟨a,0,none⟩),.int .i64 k] w fun e w'=>∃A c,e=.returned (.tuple #[.slice A 128 c,.int .i64 0])/\Sh.Bytes w w' A (V S d (dataOf k))/\Dv B W w' a p d o (Looked S d) F/\Sh.Only F w w':=by
 refine (read_done h hT hTB k hk hc.lt hc.why true hg).mono ?_
 rintro e w' ⟨h1,h2,h3⟩
 rcases h1 with ⟨_,A,c,rfl,hb⟩ | ⟨h0,_⟩
 ·exact ⟨A,c,rfl,hb,h2,h3⟩
 ·cases h0
end
theorem getD_rep (m:Nat) (x:Sh.Dk) {d:Nat} (hd:d<m):(List.replicate m x).getD d default=x:=by simp [List.getD,hd]
theorem calm_new {m n d:Nat} (hd:d<m):Calm (Sh.newSf m n) d:=by
 have hg:(Sh.newSf m n).disks.getD d default=Sh.newDk n:=getD_rep m _ hd
 refine ⟨by show d<(List.replicate m (Sh.newDk n)).length;rw [List.length_replicate];exact hd,rfl,rfl,by rw [hg];rfl,?_⟩
 rw [hg]
 exact List.length_replicate
theorem V_new {m n d k:Nat} (hd:d<m) (hk:k<n):V (Sh.newSf m n) d k=Sh.noughts:=by
 have hg:(Sh.newSf m n).disks.getD d default=Sh.newDk n:=getD_rep m _ hd
 unfold V
 rw [hg]
 show Sh.latest [] k ((List.replicate n Sh.noughts).getD k [])=_
 simp [Sh.latest,List.getD,hk]
theorem new_small (m n:Nat):∀k∈(Sh.newSf m n).disks,k.waits.length+3<1099511627776:=by
 intro k hk
 have hk:k∈List.replicate m (Sh.newDk n):=hk
 rw [(List.mem_replicate.1 hk).2]
 show 0+3<1099511627776
 decide
theorem good_noughts {S:Sh.Sf} {d k:Nat} (h1:V S d (sumOf k)=Sh.noughts) (h2:V S d (dataOf k)=Sh.noughts):goodAt S d k=true:=by
 unfold goodAt goodL goodB
 rw [h1,h2]
 have h0:∀j,pr Sh.noughts k j=0:=by
  intro j
  unfold pr
  have:∀l:List Nat,(∀x∈l,x=0)->getN l=0:=by
   intro l
   induction l with
   | nil=>intro _;rfl
   | cons x t ih =>
    intro h
    have hx:=h x (List.mem_cons_self ..)
    have ht:=ih (fun y hy=>h y (List.mem_cons_of_mem _ hy))
    simp [getN,hx,ht]
  apply this
  intro x hx
  have:=List.mem_of_mem_drop (List.mem_of_mem_take hx)
  exact List.eq_of_mem_replicate this
 rw [h0,h0]
 simp
end Go.Proofs.YtcnjpmcelihknaaGreatDoor.U
