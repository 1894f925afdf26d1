/-
  What the statement's proof rests on, part 22.
  Conditions: each theorem's own.
-/
import Derived.Test.YtcnjpmcelihknaaGreatDoorV21
import Derived.Deep.DeepCutAuto
import Derived.Test.YtcnjpmcelihknaaGreatDoorVtk
open Go.Lib (hid)
namespace Go.Proofs.YtcnjpmcelihknaaGreatDoor.U
open Go.RowKit Go.Maps
def flIf (S:Sh.Sf) (d:Nat) (o:Int) (k:Nat):Sh.Sf:=if (k:Int)=o then Fl S d else S
def spIf (S:Sh.Sf) (d k:Nat) (g:Bool) (s sum:Nat) (b:Sh.Bs):Sh.Sf:=if g=false/\s=sum then Fl (Wr S d (dataOf k) b) d else S
def first (g:Bool) (s sum:Nat):Nat:=if g then s else sum
theorem fl_why {S:Sh.Sf} {d:Nat} (h:Sh.why S d≠0):Fl S d=S:=by unfold Fl;rw [if_neg h]
theorem wr_why {S:Sh.Sf} {d n:Nat} {b:Sh.Bs} (h:Sh.why S d≠0):Wr S d n b=S:=by unfold Wr;rw [if_neg h]
theorem flIf_length (S:Sh.Sf) (d:Nat) (o:Int) (k:Nat):(flIf S d o k).disks.length=S.disks.length:=by unfold flIf;split;exact fl_length _ _;rfl
theorem flIf_sectors (S:Sh.Sf) (d:Nat) (o:Int) (k:Nat):(flIf S d o k).sectors=S.sectors:=by unfold flIf;split;exact fl_sectors _ _;rfl
theorem spIf_length (S:Sh.Sf) (d k:Nat) (g:Bool) (s sum:Nat) (b:Sh.Bs):(spIf S d k g s sum b).disks.length=S.disks.length:=by unfold spIf;split;rw [fl_length,wr_length];rfl
theorem spIf_sectors (S:Sh.Sf) (d k:Nat) (g:Bool) (s sum:Nat) (b:Sh.Bs):(spIf S d k g s sum b).sectors=S.sectors:=by unfold spIf;split;rw [fl_sectors,wr_sectors];rfl
theorem flIf_waits {S:Sh.Sf} {d m:Nat} (o:Int) (k:Nat) (hL:∀k∈S.disks,k.waits.length<m):∀x∈(flIf S d o k).disks,x.waits.length<m:=by unfold flIf;split;exact fl_waits hL;exact hL
theorem spIf_waits {S:Sh.Sf} {d k m:Nat} {g:Bool} {s sum:Nat} {b:Sh.Bs} (hL:∀k∈S.disks,k.waits.length+1<m):∀x∈(spIf S d k g s sum b).disks,x.waits.length<m:=by
 unfold spIf;split
 ·exact fl_waits (wr_waits hL)
 ·intro x hx;have:=hL x hx;omega
def PrepIs (B:Nat) (W w:World) (a p d:Nat) (o:Int) (S:Sh.Sf) (F:Nat->Prop) (k x y s sum:Nat) (X1 X2:Sh.Bs) (e:Ending) (w':World):Prop :=
 ∃b o',Sh.Sec b/\(Sh.why (flIf S d o k) d=0/\goodB s x y X2=false/\s=sum->¬(sumL d k b=x\/sumL d k b=y\/sumL d k b=s)) /\
  e=.returned (.int .i64 (Sh.why (Wr (spIf (flIf S d o k) d k (goodB s x y X2) s sum b) d (sumOf k) (setPair X1 k (first (goodB s x y X2) s sum) sum)) d)) /\
  (o'=-1\/o'=o)/\Goes B W w w' a p d o' (Fl (Wr (spIf (flIf S d o k) d k (goodB s x y X2) s sum b) d (sumOf k) (setPair X1 k (first (goodB s x y X2) s sum) sum)) d) F
def OpenK (a g:Nat) (o:Int) (k:Nat) (W:World):Prop:=W.cell? ⟨a,2,none⟩=some (.int .i64 o)/\W.cell? ⟨g,0,none⟩=some (.int .i64 (k:Int))
theorem goes_of {B:Nat} {W w w0 w':World} {a p d:Nat} {o:Int} {S:Sh.Sf} {F F0 F':Nat->Prop} (m0:Sh.Moves (With F a) w (With F0 a) w0) (D:Dv B W w' a p d o S F') (m:Sh.Moves (With F0 a) w0 (With F' a) w'):Goes B W w w' a p d o S F:=⟨F',D,m0.trans m⟩
def StD (a g p d:Nat) (X:Array Value) (W:World):Prop:=(W.cell? ⟨a,0,none⟩=some (.pointer (some ⟨p,0,none⟩))/\W.cell? ⟨a,1,none⟩=some (.int .i64 (d:Int)))/\W.heap[g]?=some (.cells X 257 (0,0))
def StP (g q:Nat) (X Y:Array Value) (W:World):Prop:=W.heap[g]?=some (.cells X 257 (0,0))/\W.heap[q]?=some (.cells Y 255 (0,0))
def SpCond (S1:Sh.Sf) (d k:Nat) (gb:Bool) (s sum x y:Nat) (b:Sh.Bs):Prop:=Sh.why S1 d=0/\gb=false/\s=sum->¬(sumL d k b=x\/sumL d k b=y\/sumL d k b=s)
theorem prep_mk {B:Nat} {W w w':World} {a p d:Nat} {o o':Int} {S S1 S2:Sh.Sf} {F:Nat->Prop} {k x y s sum:Nat} {X1 X2 b:Sh.Bs} {gb:Bool} (H1:flIf S d o k=S1) (Hg:goodB s x y X2=gb) (H2:spIf S1 d k gb s sum b=S2) (hb:Sh.Sec b)
  (hc:SpCond S1 d k gb s sum x y b) (z:Int) (hz:Sh.why (Wr S2 d (sumOf k) (setPair X1 k (first gb s sum) sum)) d=z) (ho:o'=-1\/o'=o)
  (hG:Goes B W w w' a p d o' (Fl (Wr S2 d (sumOf k) (setPair X1 k (first gb s sum) sum)) d) F):PrepIs B W w a p d o S F k x y s sum X1 X2 (.returned (.int .i64 z)) w':=by
 subst H1 Hg H2 hz
 exact ⟨b,o',hb,hc,rfl,ho,hG⟩
theorem shut_o {y o o1:Int} (h:o1=-1\/o1=o):shut y o1=-1\/shut y o1=o:=by
 unfold shut
 split
 ·exact .inl rfl
 ·exact h
theorem dv_over {B:Nat} {W w w':World} {a p d q:Nat} {o:Int} {S:Sh.Sf} {F:Nat->Prop} (h:Dv B W w a p d o S F) (ho:Sh.Only (fun b=>b=q) w w') (hn:¬With F a q) (hq:B<=q):Dv B W w' a p d o S F :=
 ⟨⟨h.on.shelf.only ho (fun _ hb e=>hn (.inl (e▸hb))),h.on.low,h.on.bel.trans (ho.below (fun _ e=>e▸hq) h.on.size),Nat.le_trans h.on.size ho.size⟩,h.dev.same (ho.block a h.dev.lt (fun e=>hn (.inr e.symm))),h.apart,h.low⟩
theorem beside_over {w w':World} {G:Nat->Prop} {q b:Nat} {l:Sh.Bs} (h:Sh.Beside w G (some ⟨b,0,none⟩) l) (ho:Sh.Only (fun x=>x=q) w w') (hne:b≠q):Sh.Beside w' G (some ⟨b,0,none⟩) l:=by
 refine ⟨⟨h.1.1,fun h0=>?_⟩,h.2⟩
 obtain ⟨ad,e,hlt,hc⟩:=h.1.2 h0
 refine ⟨ad,e,Nat.lt_of_lt_of_le hlt ho.size,fun j u hu=>(ho.cell (p:=ad.add j) (by rw [block_of_add];exact hlt) ?_).trans (hc j u hu)⟩
 rw [block_of_add]
 obtain rfl:=Option.some.inj e
 exact hne
theorem beside_ne {w:World} {G:Nat->Prop} {b:Nat} {l:Sh.Bs} (h:Sh.Beside w G (some ⟨b,0,none⟩) l):b≠w.heap.size:=by
 obtain ⟨ad,e,hlt,_⟩:=h.1.2 (by decide)
 obtain rfl:=Option.some.inj e
 exact Nat.ne_of_lt hlt
theorem noughts_sec':Sh.Sec Sh.noughts:=Sh.noughts_sec
section
variable {B:Nat} {W w:World} {a p d:Nat} {o:Int} {S:Sh.Sf} {F:Nat->Prop}
theorem with_lt (h:Dv B W w a p d o S F):∀b,With F a b->b<w.heap.size:=fun _ hb=>hb.elim (fun e=>h.on.shelf.ltF e) (fun e=>e▸h.dev.lt)
set_option maxRecDepth 100000 in
set_option maxHeartbeats 8000000 in
theorem prepare_any (h:Dv B W w a p d o S F) (hT:Tabs W) (hTB:max 0 1+1<=B) (k:Nat) (hk:k<blk S.sectors) (hd:d<S.disks.length) (b1 c1 b2 c2 x y s sum:Nat) (X1 X2:Sh.Bs)
  (hY1:Sh.Beside w (With F a) (some ⟨b1,0,none⟩) X1) (hY2:Sh.Beside w (With F a) (some ⟨b2,0,none⟩) X2) (h1:Sh.Sec X1) (h2:Sh.Sec X2) (hs:s<4294967296) (hsum:sum<4294967296) (hL:∀k∈S.disks,k.waits.length+2<1099511627776) :
  Calls Tryz.prog 221 #[.pointer (some ⟨a,0,none⟩),.agg (stV k (some ⟨b1,0,none⟩) c1 (some ⟨b2,0,none⟩) c2 x y s),.int .u32 (sum:Int)] w (PrepIs B W w a p d o S F k x y s sum X1 X2):=by
 have hbl:=blk_le S.sectors
 have hM:=secM_of h.on.shelf
 obtain ⟨hk1,hk2,_⟩:=sum_of_lt hk
 have hrow0:(w.alloc (.cells (stV k (some ⟨b1,0,none⟩) c1 (some ⟨b2,0,none⟩) c2 x y s) 257)).heap[w.heap.size]?=some (.cells (stV k (some ⟨b1,0,none⟩) c1 (some ⟨b2,0,none⟩) c2 x y s) 257 (0,0)):=heap_alloc_new _ _
 have hb0:Below w.heap.size w (w.alloc (.cells (stV k (some ⟨b1,0,none⟩) c1 (some ⟨b2,0,none⟩) c2 x y s) 257)):=(Below.refl _ _).alloc (Nat.le_refl _) _
 have hz0:w.heap.size<(w.alloc (.cells (stV k (some ⟨b1,0,none⟩) c1 (some ⟨b2,0,none⟩) c2 x y s) 257)).heap.size:=by simp
 have D0:=hid (h.grown hb0)
 have Y1:=hid (hY1.grown hb0)
 have Y2:=hid (hY2.grown hb0)
 have M0:=hid (moves_below (F:=F) (a:=a) hb0)
 have hnF:=hid (show ¬With F a w.heap.size from fun e=>Nat.lt_irrefl _ (with_lt h _ e))
 clear h hY1 hY2 hb0
 have HG:=hid (fun w' (hr:Reads w' w'.heap.size (some ⟨b2,0,none⟩) 128 (bts X2))=>good_any k (some ⟨b1,0,none⟩) c1 ⟨b2,0,none⟩ c2 x y s X2 w' hr)
 have HW:=hid (fun v (hv:v<4294967296) w' (hr:Reads w' w'.heap.size (some ⟨b1,0,none⟩) 128 (bts X1))=>with_any k b1 c1 (some ⟨b2,0,none⟩) c2 x y s v sum X1 w' (by omega) h1.1 hv hsum hr)
 have HSP:=hid (fun w' (hr:Reads w' w'.heap.size (some ⟨b2,0,none⟩) 128 (bts X2)) (hT:Tabs w')=>spoilt_any p d k (some ⟨b1,0,none⟩) c1 b2 c2 x y s X2 w' h2 hr hT)
 have HI:=hid info_state
 generalize hq:((k:Int) == o)=q
 have Hq:=hid hq
 go_enter Tryz.func221,Tryz.ntmps221
 unfold stV at *
 go_wp2_with fail
 generalize w.alloc (.cells #[.int .i64 (k:Int),.int .i64 ((sumOf k:Nat):Int),.int .i64 ((dataOf k:Nat):Int),.slice (some ⟨b1,0,none⟩) 128 c1,.slice (some ⟨b2,0,none⟩) 128 c2,.int .u32 (x:Int),.int .u32 (y:Int),.int .u32 (s:Int)] 257)=W0 at *
 have hO:OpenK a w.heap.size o k W0.drew:=⟨D0.out.dev.c2,(cells8_of hrow0).1⟩
 have i0:=fun W' (h:OpenK a w.heap.size o k W')=>h.1
 have i1:=fun W' (h:OpenK a w.heap.size o k W')=>h.2
 refine wp_region_held_drew (S:=OpenK a w.heap.size o k) (by kernel_rfl) hO (fun hHeld=>?_)
 refine tk 0 10 ?_
 refine tk 1 11 ?_
 refine tk 2 12 ?_
 refine tk 3 13 ?_
 refine tk 4 14 ?_
 refine tk 5 15 ?_
 refine tk 6 16 ?_
 refine wpAnyH_done (by kernel_rfl) ?_ _
 clear hO hHeld i0 i1 hq
 have R0:=hid hrow0
 have DD:=hid (D0.out.grown (w':=W0.drew) ⟨rfl,rfl,rfl,Nat.le_refl _,fun _ _=>rfl⟩)
 have MD:=hid (M0.out.trans (moves_drew (F:=F) (a:=a) (w:=W0)))
 have Z0:=hid hz0
 clear hrow0 hz0
 have hd1:d<(flIf S d o k).disks.length:=by rw [flIf_length];exact hd
 have hs1:(flIf S d o k).sectors=S.sectors:=flIf_sectors S d o k
 have L1:=hid (flIf_waits (S:=S) (d:=d) (m:=1099511627774) o k (fun k hk=>by have:=hL k hk;omega))
 have L0:=hid (show ∀k∈S.disks,k.waits.length<1099511627776 from fun k hk=>by have:=hL k hk;omega)
 have HFD:=hid (flush_dev DD.out hd L0.out)
 have HfY:=hid (show (k:Int)=o->flIf S d o k=Fl S d from fun h=>if_pos h)
 have HfN:=hid (show (k:Int)≠o->flIf S d o k=S from fun h=>if_neg h)
 have HfW:=hid (show Sh.why S d≠0->Fl S d=S from fl_why)
 generalize hS1:flIf S d o k=S1 at *
 have HS1:=hid hS1
 clear hS1
 generalize hy1:Sh.why S d=y1 at *
 have Hy1:=hid hy1
 clear hy1
 go_upto_if 16 with fail
 go_cut [7] (fun _ wx=>∃F1 o1,(o1=-1\/o1=o)/\Dv B W wx a p d o1 S1 F1/\Sh.Moves (With F a) W0 (With F1 a) wx)
 case first =>
  cases q
  ·have hne:(k:Int)≠o:=by simpa using Hq.out
   have D1:=DD.out
   rw [<- HfN.out hne] at D1
   have HR:=hid (show ∃F1 o1,(o1=-1\/o1=o)/\Dv B W W0.drew a p d o1 S1 F1/\Sh.Moves (With F a) W0 (With F1 a) W0.drew from ⟨F,o,.inr rfl,D1,moves_drew⟩)
   clear D1 hne
   go_wp2_with fail
   go_meet
   exact HR.out
  ·have hek:=hid (show (k:Int)=o by simpa using Hq.out)
   go_wp2_with fail
   refine HFD.out.mono ?_
   rintro e w1 ⟨rfl,F1,D1,M1⟩
   rw [<- HfY.out hek.out] at D1
   by_cases hy:y1=0
   ·subst hy
    have HR:=hid (show ∃F1 o1,(o1=-1\/o1=o)/\Dv B W w1 a p d o1 S1 F1/\Sh.Moves (With F a) W0 (With F1 a) w1 from ⟨F1,-1,.inl rfl,D1,moves_drew.trans M1⟩)
    clear D1 M1
    go_wp2_with fail
    go_meet
    exact HR.out
   ·have hy2:(y1 == 0)=false:=by rw [beq_eq_false_iff_ne];exact hy
    have e1:S1=S:=by rw [HfY.out hek.out,HfW.out hy]
    have hw1:Sh.why S1 d≠0:=by rw [e1,Hy1.out];exact hy
    have HP:=hid (show PrepIs B W w a p d o S F k x y s sum X1 X2 (.returned (.int .i64 y1)) w1 from by
     refine prep_mk (S2:=S1) (b:=Sh.noughts) (o':=o) HS1.out rfl ?_ noughts_sec' (fun h=>absurd h.1 hw1) y1 ?_ (.inr rfl) ?_
     ·unfold spIf;split
      ·rw [wr_why hw1,fl_why hw1]
      ·rfl
     ·rw [wr_why hw1,e1,Hy1.out]
     ·rw [wr_why hw1,fl_why hw1]
      rw [show shut y1 o=o from if_neg hy] at D1
      exact ⟨F1,D1,MD.out.trans M1⟩)
    clear D1 M1 hw1 e1
    go_wp2_with fail
    go_ret
    exact HP.out
 case rest =>
  obtain ⟨F1,o1,ho1,D1,M1⟩:=hcut
  have hd1':=hid hd1
  have Y1a:=hid (Y1.out.moves M1)
  have Y2a:=hid (Y2.out.moves M1)
  have N1:=hid (show ¬With F1 a w.heap.size from fun e=>(M1.2 _ e).elim hnF.out (fun e2=>Nat.lt_irrefl _ (Nat.lt_of_lt_of_le Z0.out e2)))
  have r1:=(M1.1.block w.heap.size Z0.out hnF.out).trans R0.out
  have z1:=Nat.lt_of_lt_of_le Z0.out M1.1.size
  have T1:=hid (At.tabs D1.on hT hTB)
  have hG1:=hid (HG.out wc Y2a.out.1)
  have hld1:=load_state r1 info_state
  have D1':=hid D1
  have M1':=hid M1
  generalize hgb:goodB s x y X2=gb at *
  have Hgb:=hid hgb
  clear hgb D1 M1 HFD HfY HfN HfW DD MD D0 Hq Hy1 hd1
  obtain ⟨q0,q1,q2,q3,q4,q5,q6,q7,_⟩:=cells8_of r1
  go_wp2_with fail
  refine hG1.out.mono ?_
  rintro e w2 ⟨rfl,b2'⟩
  have r2:=(b2'.block w.heap.size z1).trans r1
  have z2:=Nat.lt_of_lt_of_le z1 b2'.size
  have D2:=hid (D1'.out.grown b2')
  have M2:=hid (M1'.out.trans (moves_below (F:=F1) (a:=a) b2'))
  have T2:=hid (At.tabs D2.out.on hT hTB)
  have Y1b:=hid (Y1a.out.grown b2')
  have Y2b:=hid (Y2a.out.grown b2')
  have hld2:=load_state r2 info_state
  clear q0 q1 q2 q3 q4 q5 q6 q7 r1 z1 hld1 b2' hG1 D1' M1' Y1a Y2a
  obtain ⟨q0,q1,q2,q3,q4,q5,q6,q7,_⟩:=cells8_of r2
  cases gb
  ·by_cases hss:s=sum
   ·subst hss
    have e5:((s:Int) == (s:Int))=true:=by simp
    have L2:∀k∈S1.disks,k.waits.length+1<1099511627776:=fun k hk=>by have:=L1.out k hk;omega
    have hk1s:dataOf k<S1.sectors:=by rw [hs1];exact hk1
    have hO:StD a w.heap.size p d #[.int .i64 (k:Int),.int .i64 ((sumOf k:Nat):Int),.int .i64 ((dataOf k:Nat):Int),.slice (some ⟨b1,0,none⟩) 128 c1,.slice (some ⟨b2,0,none⟩) 128 c2,.int .u32 (x:Int),.int .u32 (y:Int),.int .u32 (s:Int)] w2.drew:=⟨⟨D2.out.dev.c0,D2.out.dev.c1⟩,r2⟩
    go_wp2_with fail
    clear q0 q1 q2 q3 q4 q5 q6 q7
    have f0:=fun W' (h:StD a w.heap.size p d #[.int .i64 (k:Int),.int .i64 ((sumOf k:Nat):Int),.int .i64 ((dataOf k:Nat):Int),.slice (some ⟨b1,0,none⟩) 128 c1,.slice (some ⟨b2,0,none⟩) 128 c2,.int .u32 (x:Int),.int .u32 (y:Int),.int .u32 (s:Int)] W')=>(cells8_of h.2).1
    have f1:=fun W' (h:StD a w.heap.size p d #[.int .i64 (k:Int),.int .i64 ((sumOf k:Nat):Int),.int .i64 ((dataOf k:Nat):Int),.slice (some ⟨b1,0,none⟩) 128 c1,.slice (some ⟨b2,0,none⟩) 128 c2,.int .u32 (x:Int),.int .u32 (y:Int),.int .u32 (s:Int)] W')=>(cells8_of h.2).2.1
    have f2:=fun W' (h:StD a w.heap.size p d #[.int .i64 (k:Int),.int .i64 ((sumOf k:Nat):Int),.int .i64 ((dataOf k:Nat):Int),.slice (some ⟨b1,0,none⟩) 128 c1,.slice (some ⟨b2,0,none⟩) 128 c2,.int .u32 (x:Int),.int .u32 (y:Int),.int .u32 (s:Int)] W')=>(cells8_of h.2).2.2.1
    have f3:=fun W' (h:StD a w.heap.size p d #[.int .i64 (k:Int),.int .i64 ((sumOf k:Nat):Int),.int .i64 ((dataOf k:Nat):Int),.slice (some ⟨b1,0,none⟩) 128 c1,.slice (some ⟨b2,0,none⟩) 128 c2,.int .u32 (x:Int),.int .u32 (y:Int),.int .u32 (s:Int)] W')=>(cells8_of h.2).2.2.2.1
    have f4:=fun W' (h:StD a w.heap.size p d #[.int .i64 (k:Int),.int .i64 ((sumOf k:Nat):Int),.int .i64 ((dataOf k:Nat):Int),.slice (some ⟨b1,0,none⟩) 128 c1,.slice (some ⟨b2,0,none⟩) 128 c2,.int .u32 (x:Int),.int .u32 (y:Int),.int .u32 (s:Int)] W')=>(cells8_of h.2).2.2.2.2.1
    have f5:=fun W' (h:StD a w.heap.size p d #[.int .i64 (k:Int),.int .i64 ((sumOf k:Nat):Int),.int .i64 ((dataOf k:Nat):Int),.slice (some ⟨b1,0,none⟩) 128 c1,.slice (some ⟨b2,0,none⟩) 128 c2,.int .u32 (x:Int),.int .u32 (y:Int),.int .u32 (s:Int)] W')=>(cells8_of h.2).2.2.2.2.2.1
    have f6:=fun W' (h:StD a w.heap.size p d #[.int .i64 (k:Int),.int .i64 ((sumOf k:Nat):Int),.int .i64 ((dataOf k:Nat):Int),.slice (some ⟨b1,0,none⟩) 128 c1,.slice (some ⟨b2,0,none⟩) 128 c2,.int .u32 (x:Int),.int .u32 (y:Int),.int .u32 (s:Int)] W')=>(cells8_of h.2).2.2.2.2.2.2.1
    have f7:=fun W' (h:StD a w.heap.size p d #[.int .i64 (k:Int),.int .i64 ((sumOf k:Nat):Int),.int .i64 ((dataOf k:Nat):Int),.slice (some ⟨b1,0,none⟩) 128 c1,.slice (some ⟨b2,0,none⟩) 128 c2,.int .u32 (x:Int),.int .u32 (y:Int),.int .u32 (s:Int)] W')=>(cells8_of h.2).2.2.2.2.2.2.2.1
    have g0:=fun W' (h:StD a w.heap.size p d #[.int .i64 (k:Int),.int .i64 ((sumOf k:Nat):Int),.int .i64 ((dataOf k:Nat):Int),.slice (some ⟨b1,0,none⟩) 128 c1,.slice (some ⟨b2,0,none⟩) 128 c2,.int .u32 (x:Int),.int .u32 (y:Int),.int .u32 (s:Int)] W')=>h.1.1
    have g1:=fun W' (h:StD a w.heap.size p d #[.int .i64 (k:Int),.int .i64 ((sumOf k:Nat):Int),.int .i64 ((dataOf k:Nat):Int),.slice (some ⟨b1,0,none⟩) 128 c1,.slice (some ⟨b2,0,none⟩) 128 c2,.int .u32 (x:Int),.int .u32 (y:Int),.int .u32 (s:Int)] W')=>h.1.2
    refine wp_region_held_drew (S:=StD a w.heap.size p d #[.int .i64 (k:Int),.int .i64 ((sumOf k:Nat):Int),.int .i64 ((dataOf k:Nat):Int),.slice (some ⟨b1,0,none⟩) 128 c1,.slice (some ⟨b2,0,none⟩) 128 c2,.int .u32 (x:Int),.int .u32 (y:Int),.int .u32 (s:Int)]) (by kernel_rfl) hO (fun hHeld=>?_)
    refine tk 0 31 ?_
    refine tk 1 32 ?_
    refine tk 2 33 ?_
    refine tk 3 34 ?_
    refine tk 4 35 ?_
    refine tk 5 36 ?_
    refine tk 6 37 ?_
    refine tk 7 38 ?_
    refine r1 8 (some 39) fun K hK=>?_
    go_simp
    refine (HSP.out w2.drew Y2b.out.1 (show Tabs w2 from T2.out)).mono ?_
    rintro e w3 ⟨g3,d3,b3,rest3,rfl,hg3,hsec3,hrow3,hno3,bl3⟩
    refine hK.out _ _ (⟨⟨(bl3.cell (p:=⟨a,0,none⟩) D2.out.dev.lt).trans hHeld.1.1,(bl3.cell (p:=⟨a,1,none⟩) D2.out.dev.lt).trans hHeld.1.2⟩,(bl3.block w.heap.size z2).trans hHeld.2⟩) (fun hHeld=>?_)
    clear hK K
    try simp only [Act.put,List.setIfInBounds_toArray,List.set_cons_zero,List.set_cons_succ]
    have hs3:=hHeld
    have bl3':Below w2.heap.size w2 w3:=⟨bl3.os,bl3.tape,bl3.output,bl3.size,bl3.block⟩
    have D3:=hid (D2.out.grown bl3')
    have M3:=hid (M2.out.trans (moves_below (F:=F1) (a:=a) bl3'))
    have Y1c:=hid (Y1b.out.grown bl3')
    have Y2c:=hid (Y2b.out.grown bl3')
    have z3:=Nat.lt_of_lt_of_le z2 bl3'.size
    have hr3:=hrow3.reads hsec3.1
    have hA3:∀x,some (⟨g3,0,none⟩:Addr)=some x->¬F1 x.block:=fun x hx e=>by injection hx with hx;subst hx;have e2:=D2.out.on.shelf.ltF e;have e3:w2.heap.size<=g3:=hg3;exact absurd e2 (Nat.not_lt.2 e3)
    clear bl3 bl3' hrow3
    refine r1 9 (some 40) fun K hK=>?_
    go_simp
    refine (sure_any D3.out hd1'.out (dataOf k) hk1s b3 hsec3 hr3 hA3 L2).mono ?_
    rintro e w4 ⟨he,F4,D4,M4⟩
    have hs4:StD a w.heap.size p d #[.int .i64 (k:Int),.int .i64 ((sumOf k:Nat):Int),.int .i64 ((dataOf k:Nat):Int),.slice (some ⟨b1,0,none⟩) 128 c1,.slice (some ⟨b2,0,none⟩) 128 c2,.int .u32 (x:Int),.int .u32 (y:Int),.int .u32 (s:Int)] w4:=⟨⟨D4.dev.c0,D4.dev.c1⟩,(M4.1.block w.heap.size z3 N1.out).trans hs3.2⟩
    generalize hy2:Sh.why (Wr S1 d (dataOf k) b3) d=y2 at he D4
    generalize hS2:Fl (Wr S1 d (dataOf k) b3) d=S2 at D4
    have Hy2:=hid hy2
    have HS2e:=hid hS2
    clear hy2 hS2
    subst he
    refine hK.out _ _ (hs4) (fun hHeld=>?_)
    clear hK K
    try simp only [Act.put,List.setIfInBounds_toArray,List.set_cons_zero,List.set_cons_succ]
    clear hs4 hs3 hr3 hA3
    refine tk 10 8 ?_
    refine wpAnyH_done (by kernel_rfl) ?_ _
    clear f0 f1 f2 f3 f4 f5 f6 f7 g0 g1
    have hs4:=hHeld
    have M34:=hid (M3.out.trans M4)
    have D4h:=hid D4
    have Y1d:=hid (Y1c.out.moves M4)
    have Y2d:=hid (Y2c.out.moves M4)
    have z4:=Nat.lt_of_lt_of_le z3 M4.1.size
    have N4:=hid (show ¬With F4 a w.heap.size from fun e=>(M34.out.2 _ e).elim hnF.out (fun e2=>Nat.lt_irrefl _ (Nat.lt_of_lt_of_le Z0.out e2)))
    have r4:=hs4.2
    have hld4:=load_state r4 info_state
    have hlen2:=hid (show d<S2.disks.length by rw [<- HS2e.out,fl_length,wr_length];exact hd1'.out)
    have hsec2:=hid (show sumOf k<S2.sectors by rw [<- HS2e.out,fl_sectors,wr_sectors,hs1];exact hk2)
    have L4:=hid (show ∀k∈S2.disks,k.waits.length+1<1099511627776 from by
     rw [<- HS2e.out]
     intro x hx
     have:=fl_waits (m:=1099511627775) (wr_waits (m:=1099511627775) (fun k hk=>by have:=L1.out k hk;omega)) x hx
     omega)
    have HS2:=hid (show spIf S1 d k false s s b3=S2 from by rw [<- HS2e.out];exact if_pos ⟨rfl,rfl⟩)
    have HC:=hid (show SpCond S1 d k false s s x y b3 from fun _=>hno3)
    have ho2:=shut_o (y:=y2) ho1
    clear hHeld hs4 M4 D4 Y1c Y2c M3 D3 hno3 L2 hO
    by_cases hy2:y2=0
    ·subst hy2
     obtain ⟨q0,q1,q2,q3,q4,q5,q6,q7,_⟩:=cells8_of r4
     go_wp2_with fail
     have bp:Below w4.heap.size w4 (w4.alloc (.cells #[.int .u32 (s:Int),.int .u32 (s:Int)] 255)):=(Below.refl _ _).alloc (Nat.le_refl _) _
     have rp:(w4.alloc (.cells #[.int .u32 (s:Int),.int .u32 (s:Int)] 255)).heap[w4.heap.size]?=some (.cells #[.int .u32 (s:Int),.int .u32 (s:Int)] 255 (0,0)):=heap_alloc_new _ _
     have zp:w4.heap.size<(w4.alloc (.cells #[.int .u32 (s:Int),.int .u32 (s:Int)] 255)).heap.size:=by simp
     have Rr:=hid ((bp.block w.heap.size z4).trans r4)
     have Dp:=hid (D4h.out.grown bp)
     have Mp:=hid (M34.out.trans (moves_below (F:=F4) (a:=a) bp))
     have Y1p:=hid (Y1d.out.grown bp)
     have Y2p:=hid (Y2d.out.grown bp)
     have Nq:=hid (show ¬With F4 a w4.heap.size from fun e=>Nat.lt_irrefl _ (with_lt D4h.out _ e))
     have hGp:=hid (HG.out _ Y2p.out.1)
     have zw:=hid z4
     clear q0 q1 q2 q3 q4 q5 q6 q7 r4 bp
     generalize (w4.alloc (.cells #[.int .u32 (s:Int),.int .u32 (s:Int)] 255))=Wp at *
     refine hGp.out.mono ?_
     rintro e w5 ⟨rfl,b5⟩
     have r5:=(b5.block w.heap.size (Nat.lt_trans zw.out zp)).trans Rr.out
     have p5:=(b5.block w4.heap.size zp).trans rp
     have z5:=Nat.lt_of_lt_of_le zp b5.size
     have D5:=hid (Dp.out.grown b5)
     have M5:=hid (Mp.out.trans (moves_below (F:=F4) (a:=a) b5))
     have Y15:=hid (Y1p.out.grown b5)
     clear b5 rp zp hGp Dp Mp Y1p Y2p Rr
     obtain ⟨q0,q1,q2,q3,q4,q5,q6,q7,_⟩:=cells8_of r5
     have P6:=hid p5
     have R6:=hid r5
     have D6:=hid D5.out
     have M6:=hid M5.out
     have Y16:=hid Y15.out
     have z6:=z5
     clear p5 r5 z5 D5 M5 Y15
     go_wp2_with fail
     clear q0 q1 q2 q3 q4 q5 q6 q7
     have hO:StP w.heap.size w4.heap.size #[.int .i64 (k:Int),.int .i64 ((sumOf k:Nat):Int),.int .i64 ((dataOf k:Nat):Int),.slice (some ⟨b1,0,none⟩) 128 c1,.slice (some ⟨b2,0,none⟩) 128 c2,.int .u32 (x:Int),.int .u32 (y:Int),.int .u32 (s:Int)] #[.int .u32 (s:Int),.int .u32 (s:Int)] w5.drew:=⟨R6.out,P6.out⟩
     have f0:=fun W' (h:StP w.heap.size w4.heap.size #[.int .i64 (k:Int),.int .i64 ((sumOf k:Nat):Int),.int .i64 ((dataOf k:Nat):Int),.slice (some ⟨b1,0,none⟩) 128 c1,.slice (some ⟨b2,0,none⟩) 128 c2,.int .u32 (x:Int),.int .u32 (y:Int),.int .u32 (s:Int)] #[.int .u32 (s:Int),.int .u32 (s:Int)] W')=>(cells8_of h.1).1
     have f1:=fun W' (h:StP w.heap.size w4.heap.size #[.int .i64 (k:Int),.int .i64 ((sumOf k:Nat):Int),.int .i64 ((dataOf k:Nat):Int),.slice (some ⟨b1,0,none⟩) 128 c1,.slice (some ⟨b2,0,none⟩) 128 c2,.int .u32 (x:Int),.int .u32 (y:Int),.int .u32 (s:Int)] #[.int .u32 (s:Int),.int .u32 (s:Int)] W')=>(cells8_of h.1).2.1
     have f2:=fun W' (h:StP w.heap.size w4.heap.size #[.int .i64 (k:Int),.int .i64 ((sumOf k:Nat):Int),.int .i64 ((dataOf k:Nat):Int),.slice (some ⟨b1,0,none⟩) 128 c1,.slice (some ⟨b2,0,none⟩) 128 c2,.int .u32 (x:Int),.int .u32 (y:Int),.int .u32 (s:Int)] #[.int .u32 (s:Int),.int .u32 (s:Int)] W')=>(cells8_of h.1).2.2.1
     have f3:=fun W' (h:StP w.heap.size w4.heap.size #[.int .i64 (k:Int),.int .i64 ((sumOf k:Nat):Int),.int .i64 ((dataOf k:Nat):Int),.slice (some ⟨b1,0,none⟩) 128 c1,.slice (some ⟨b2,0,none⟩) 128 c2,.int .u32 (x:Int),.int .u32 (y:Int),.int .u32 (s:Int)] #[.int .u32 (s:Int),.int .u32 (s:Int)] W')=>(cells8_of h.1).2.2.2.1
     have f4:=fun W' (h:StP w.heap.size w4.heap.size #[.int .i64 (k:Int),.int .i64 ((sumOf k:Nat):Int),.int .i64 ((dataOf k:Nat):Int),.slice (some ⟨b1,0,none⟩) 128 c1,.slice (some ⟨b2,0,none⟩) 128 c2,.int .u32 (x:Int),.int .u32 (y:Int),.int .u32 (s:Int)] #[.int .u32 (s:Int),.int .u32 (s:Int)] W')=>(cells8_of h.1).2.2.2.2.1
     have f5:=fun W' (h:StP w.heap.size w4.heap.size #[.int .i64 (k:Int),.int .i64 ((sumOf k:Nat):Int),.int .i64 ((dataOf k:Nat):Int),.slice (some ⟨b1,0,none⟩) 128 c1,.slice (some ⟨b2,0,none⟩) 128 c2,.int .u32 (x:Int),.int .u32 (y:Int),.int .u32 (s:Int)] #[.int .u32 (s:Int),.int .u32 (s:Int)] W')=>(cells8_of h.1).2.2.2.2.2.1
     have f6:=fun W' (h:StP w.heap.size w4.heap.size #[.int .i64 (k:Int),.int .i64 ((sumOf k:Nat):Int),.int .i64 ((dataOf k:Nat):Int),.slice (some ⟨b1,0,none⟩) 128 c1,.slice (some ⟨b2,0,none⟩) 128 c2,.int .u32 (x:Int),.int .u32 (y:Int),.int .u32 (s:Int)] #[.int .u32 (s:Int),.int .u32 (s:Int)] W')=>(cells8_of h.1).2.2.2.2.2.2.1
     have f7:=fun W' (h:StP w.heap.size w4.heap.size #[.int .i64 (k:Int),.int .i64 ((sumOf k:Nat):Int),.int .i64 ((dataOf k:Nat):Int),.slice (some ⟨b1,0,none⟩) 128 c1,.slice (some ⟨b2,0,none⟩) 128 c2,.int .u32 (x:Int),.int .u32 (y:Int),.int .u32 (s:Int)] #[.int .u32 (s:Int),.int .u32 (s:Int)] W')=>(cells8_of h.1).2.2.2.2.2.2.2.1
     have g0:=fun W' (h:StP w.heap.size w4.heap.size #[.int .i64 (k:Int),.int .i64 ((sumOf k:Nat):Int),.int .i64 ((dataOf k:Nat):Int),.slice (some ⟨b1,0,none⟩) 128 c1,.slice (some ⟨b2,0,none⟩) 128 c2,.int .u32 (x:Int),.int .u32 (y:Int),.int .u32 (s:Int)] #[.int .u32 (s:Int),.int .u32 (s:Int)] W')=>cell_of_row _ _ 0 _ _ _ h.2
     have g1:=fun W' (h:StP w.heap.size w4.heap.size #[.int .i64 (k:Int),.int .i64 ((sumOf k:Nat):Int),.int .i64 ((dataOf k:Nat):Int),.slice (some ⟨b1,0,none⟩) 128 c1,.slice (some ⟨b2,0,none⟩) 128 c2,.int .u32 (x:Int),.int .u32 (y:Int),.int .u32 (s:Int)] #[.int .u32 (s:Int),.int .u32 (s:Int)] W')=>cell_of_row _ _ 1 _ _ _ h.2
     refine wp_region_held_drew (S:=StP w.heap.size w4.heap.size #[.int .i64 (k:Int),.int .i64 ((sumOf k:Nat):Int),.int .i64 ((dataOf k:Nat):Int),.slice (some ⟨b1,0,none⟩) 128 c1,.slice (some ⟨b2,0,none⟩) 128 c2,.int .u32 (x:Int),.int .u32 (y:Int),.int .u32 (s:Int)] #[.int .u32 (s:Int),.int .u32 (s:Int)]) (by kernel_rfl) hO (fun hHeld=>?_)
     refine tk 0 52 ?_
     refine tk 1 53 ?_
     refine tk 2 54 ?_
     refine tk 3 55 ?_
     refine tk 4 56 ?_
     refine r1 5 (some 57) fun K hK=>?_
     go_simp
     refine (HW.out s hs w5.drew Y16.out.1).mono ?_
     rintro e w7 ⟨g7,d7,rest7,rfl,hg7,hrow7,b7⟩
     refine hK.out _ _ (⟨(b7.block w.heap.size (Nat.lt_trans zw.out z6)).trans hHeld.1,(b7.block w4.heap.size z6).trans hHeld.2⟩) (fun hHeld=>?_)
     clear hK K
     try simp only [Act.put,List.setIfInBounds_toArray,List.set_cons_zero,List.set_cons_succ]
     have hs7:StP w.heap.size w4.heap.size #[.int .i64 (k:Int),.int .i64 ((sumOf k:Nat):Int),.int .i64 ((dataOf k:Nat):Int),.slice (some ⟨b1,0,none⟩) 128 c1,.slice (some ⟨b2,0,none⟩) 128 c2,.int .u32 (x:Int),.int .u32 (y:Int),.int .u32 (s:Int)] #[.int .u32 (s:Int),.int .u32 (s:Int)] w7:=hHeld
     have b7':Below w5.heap.size w5 w7:=⟨b7.os,b7.tape,b7.output,b7.size,b7.block⟩
     have D7:=hid (D6.out.grown b7')
     have M7:=hid (M6.out.trans (moves_below (F:=F4) (a:=a) b7'))
     have hr7:=hrow7.reads (setPair_length h1.1)
     have hA7:∀x,some (⟨g7,0,none⟩:Addr)=some x->¬F4 x.block:=fun x hx e=>by injection hx with hx;subst hx;have e2:=D6.out.on.shelf.ltF e;have e3:w5.heap.size<=g7:=hg7;exact absurd e2 (Nat.not_lt.2 e3)
     have hlt7:=Nat.lt_of_lt_of_le z6 b7'.size
     clear b7 b7' hrow7
     refine r1 6 (some 58) fun K hK=>?_
     go_simp
     refine (sure_any D7.out hlen2.out (sumOf k) hsec2.out (setPair X1 k s s) (setPair_sec h1) hr7 hA7 L4.out).mono ?_
     rintro e w8 ⟨rfl,F8,D8,M8⟩
     refine hK.out _ _ (⟨(M8.1.block w.heap.size (Nat.lt_trans zw.out hlt7) N4.out).trans hs7.1,(M8.1.block w4.heap.size hlt7 Nq.out).trans hs7.2⟩) (fun hHeld=>?_)
     clear hK K
     try simp only [Act.put,List.setIfInBounds_toArray,List.set_cons_zero,List.set_cons_succ]
     refine tk 7 6 ?_
     refine wpAnyH_done (by kernel_rfl) ?_ _
     have HP:=hid (show PrepIs B W w a p d o S F k x y s s X1 X2 _ w8 from prep_mk HS1.out Hgb.out HS2.out hsec3 HC.out _ rfl (shut_o ho2) (goes_of M0.out D8 (M7.out.trans M8)))
     clear hHeld f0 f1 f2 f3 f4 f5 f6 f7 g0 g1 D8 M8 hO hs7
     go_wp2_with fail
     go_ret
     exact HP.out
    ·have hq2:(y2 == 0)=false:=by rw [beq_eq_false_iff_ne];exact hy2
     have hw2:Sh.why S2 d=y2:=by rw [<- HS2e.out,fl_why (by rw [Hy2.out];exact hy2),Hy2.out]
     have HP:=hid (show PrepIs B W w a p d o S F k x y s s X1 X2 (.returned (.int .i64 y2)) w4 from by
      have hw2':Sh.why S2 d≠0:=by rw [hw2];exact hy2
      refine prep_mk HS1.out Hgb.out HS2.out hsec3 HC.out y2 ?_ ho2 ?_
      ·rw [wr_why hw2',hw2]
      ·rw [wr_why hw2',fl_why hw2']
       exact goes_of M0.out D4h.out M34.out)
     clear hw2
     go_wp2_with fail
     go_ret
     exact HP.out
   ·have e5:((s:Int) == (sum:Int))=false:=by rw [beq_eq_false_iff_ne];omega
    have HS2:=hid (show spIf S1 d k false s sum Sh.noughts=S1 from if_neg (fun h=>hss h.2))
    have HC:=hid (show SpCond S1 d k false s sum x y Sh.noughts from fun h=>absurd h.2.2 hss)
    have L2:∀k∈S1.disks,k.waits.length+1<1099511627776:=fun k hk=>by have:=L1.out k hk;omega
    have hk2s:sumOf k<S1.sectors:=by rw [hs1];exact hk2
    clear hss
    go_wp2_with fail
    have bp:Below w2.heap.size w2 (w2.alloc (.cells #[.int .u32 (sum:Int),.int .u32 (sum:Int)] 255)):=(Below.refl _ _).alloc (Nat.le_refl _) _
    have rp:(w2.alloc (.cells #[.int .u32 (sum:Int),.int .u32 (sum:Int)] 255)).heap[w2.heap.size]?=some (.cells #[.int .u32 (sum:Int),.int .u32 (sum:Int)] 255 (0,0)):=heap_alloc_new _ _
    have zp:w2.heap.size<(w2.alloc (.cells #[.int .u32 (sum:Int),.int .u32 (sum:Int)] 255)).heap.size:=by simp
    have Rr:=hid ((bp.block w.heap.size z2).trans r2)
    have Dp:=hid (D2.out.grown bp)
    have Mp:=hid (M2.out.trans (moves_below (F:=F1) (a:=a) bp))
    have Y1p:=hid (Y1b.out.grown bp)
    have Y2p:=hid (Y2b.out.grown bp)
    have Nq:=hid (show ¬With F1 a w2.heap.size from fun e=>Nat.lt_irrefl _ (with_lt D2.out _ e))
    have hGp:=hid (HG.out _ Y2p.out.1)
    have zw:=hid z2
    clear q0 q1 q2 q3 q4 q5 q6 q7 r2 bp
    generalize (w2.alloc (.cells #[.int .u32 (sum:Int),.int .u32 (sum:Int)] 255))=Wp at *
    refine hGp.out.mono ?_
    rintro e w5 ⟨rfl,b5⟩
    have r5:=(b5.block w.heap.size (Nat.lt_trans zw.out zp)).trans Rr.out
    have p5:=(b5.block w2.heap.size zp).trans rp
    have z5:=Nat.lt_of_lt_of_le zp b5.size
    have D5:=hid (Dp.out.grown b5)
    have M5:=hid (Mp.out.trans (moves_below (F:=F1) (a:=a) b5))
    have Y15:=hid (Y1p.out.grown b5)
    clear b5 rp zp hGp Dp Mp Y1p Y2p Rr
    obtain ⟨q0,q1,q2,q3,q4,q5,q6,q7,_⟩:=cells8_of r5
    have P6:=hid p5
    have R6:=hid r5
    have D6:=hid D5.out
    have M6:=hid M5.out
    have Y16:=hid Y15.out
    have z6:=z5
    clear p5 r5 z5 D5 M5 Y15
    go_wp2_with fail
    clear q0 q1 q2 q3 q4 q5 q6 q7
    have hO:StP w.heap.size w2.heap.size #[.int .i64 (k:Int),.int .i64 ((sumOf k:Nat):Int),.int .i64 ((dataOf k:Nat):Int),.slice (some ⟨b1,0,none⟩) 128 c1,.slice (some ⟨b2,0,none⟩) 128 c2,.int .u32 (x:Int),.int .u32 (y:Int),.int .u32 (s:Int)] #[.int .u32 (sum:Int),.int .u32 (sum:Int)] w5.drew:=⟨R6.out,P6.out⟩
    have f0:=fun W' (h:StP w.heap.size w2.heap.size #[.int .i64 (k:Int),.int .i64 ((sumOf k:Nat):Int),.int .i64 ((dataOf k:Nat):Int),.slice (some ⟨b1,0,none⟩) 128 c1,.slice (some ⟨b2,0,none⟩) 128 c2,.int .u32 (x:Int),.int .u32 (y:Int),.int .u32 (s:Int)] #[.int .u32 (sum:Int),.int .u32 (sum:Int)] W')=>(cells8_of h.1).1
    have f1:=fun W' (h:StP w.heap.size w2.heap.size #[.int .i64 (k:Int),.int .i64 ((sumOf k:Nat):Int),.int .i64 ((dataOf k:Nat):Int),.slice (some ⟨b1,0,none⟩) 128 c1,.slice (some ⟨b2,0,none⟩) 128 c2,.int .u32 (x:Int),.int .u32 (y:Int),.int .u32 (s:Int)] #[.int .u32 (sum:Int),.int .u32 (sum:Int)] W')=>(cells8_of h.1).2.1
    have f2:=fun W' (h:StP w.heap.size w2.heap.size #[.int .i64 (k:Int),.int .i64 ((sumOf k:Nat):Int),.int .i64 ((dataOf k:Nat):Int),.slice (some ⟨b1,0,none⟩) 128 c1,.slice (some ⟨b2,0,none⟩) 128 c2,.int .u32 (x:Int),.int .u32 (y:Int),.int .u32 (s:Int)] #[.int .u32 (sum:Int),.int .u32 (sum:Int)] W')=>(cells8_of h.1).2.2.1
    have f3:=fun W' (h:StP w.heap.size w2.heap.size #[.int .i64 (k:Int),.int .i64 ((sumOf k:Nat):Int),.int .i64 ((dataOf k:Nat):Int),.slice (some ⟨b1,0,none⟩) 128 c1,.slice (some ⟨b2,0,none⟩) 128 c2,.int .u32 (x:Int),.int .u32 (y:Int),.int .u32 (s:Int)] #[.int .u32 (sum:Int),.int .u32 (sum:Int)] W')=>(cells8_of h.1).2.2.2.1
    have f4:=fun W' (h:StP w.heap.size w2.heap.size #[.int .i64 (k:Int),.int .i64 ((sumOf k:Nat):Int),.int .i64 ((dataOf k:Nat):Int),.slice (some ⟨b1,0,none⟩) 128 c1,.slice (some ⟨b2,0,none⟩) 128 c2,.int .u32 (x:Int),.int .u32 (y:Int),.int .u32 (s:Int)] #[.int .u32 (sum:Int),.int .u32 (sum:Int)] W')=>(cells8_of h.1).2.2.2.2.1
    have f5:=fun W' (h:StP w.heap.size w2.heap.size #[.int .i64 (k:Int),.int .i64 ((sumOf k:Nat):Int),.int .i64 ((dataOf k:Nat):Int),.slice (some ⟨b1,0,none⟩) 128 c1,.slice (some ⟨b2,0,none⟩) 128 c2,.int .u32 (x:Int),.int .u32 (y:Int),.int .u32 (s:Int)] #[.int .u32 (sum:Int),.int .u32 (sum:Int)] W')=>(cells8_of h.1).2.2.2.2.2.1
    have f6:=fun W' (h:StP w.heap.size w2.heap.size #[.int .i64 (k:Int),.int .i64 ((sumOf k:Nat):Int),.int .i64 ((dataOf k:Nat):Int),.slice (some ⟨b1,0,none⟩) 128 c1,.slice (some ⟨b2,0,none⟩) 128 c2,.int .u32 (x:Int),.int .u32 (y:Int),.int .u32 (s:Int)] #[.int .u32 (sum:Int),.int .u32 (sum:Int)] W')=>(cells8_of h.1).2.2.2.2.2.2.1
    have f7:=fun W' (h:StP w.heap.size w2.heap.size #[.int .i64 (k:Int),.int .i64 ((sumOf k:Nat):Int),.int .i64 ((dataOf k:Nat):Int),.slice (some ⟨b1,0,none⟩) 128 c1,.slice (some ⟨b2,0,none⟩) 128 c2,.int .u32 (x:Int),.int .u32 (y:Int),.int .u32 (s:Int)] #[.int .u32 (sum:Int),.int .u32 (sum:Int)] W')=>(cells8_of h.1).2.2.2.2.2.2.2.1
    have g0:=fun W' (h:StP w.heap.size w2.heap.size #[.int .i64 (k:Int),.int .i64 ((sumOf k:Nat):Int),.int .i64 ((dataOf k:Nat):Int),.slice (some ⟨b1,0,none⟩) 128 c1,.slice (some ⟨b2,0,none⟩) 128 c2,.int .u32 (x:Int),.int .u32 (y:Int),.int .u32 (s:Int)] #[.int .u32 (sum:Int),.int .u32 (sum:Int)] W')=>cell_of_row _ _ 0 _ _ _ h.2
    have g1:=fun W' (h:StP w.heap.size w2.heap.size #[.int .i64 (k:Int),.int .i64 ((sumOf k:Nat):Int),.int .i64 ((dataOf k:Nat):Int),.slice (some ⟨b1,0,none⟩) 128 c1,.slice (some ⟨b2,0,none⟩) 128 c2,.int .u32 (x:Int),.int .u32 (y:Int),.int .u32 (s:Int)] #[.int .u32 (sum:Int),.int .u32 (sum:Int)] W')=>cell_of_row _ _ 1 _ _ _ h.2
    refine wp_region_held_drew (S:=StP w.heap.size w2.heap.size #[.int .i64 (k:Int),.int .i64 ((sumOf k:Nat):Int),.int .i64 ((dataOf k:Nat):Int),.slice (some ⟨b1,0,none⟩) 128 c1,.slice (some ⟨b2,0,none⟩) 128 c2,.int .u32 (x:Int),.int .u32 (y:Int),.int .u32 (s:Int)] #[.int .u32 (sum:Int),.int .u32 (sum:Int)]) (by kernel_rfl) hO (fun hHeld=>?_)
    refine tk 0 52 ?_
    refine tk 1 53 ?_
    refine tk 2 54 ?_
    refine tk 3 55 ?_
    refine tk 4 56 ?_
    refine r1 5 (some 57) fun K hK=>?_
    go_simp
    refine (HW.out sum hsum w5.drew Y16.out.1).mono ?_
    rintro e w7 ⟨g7,d7,rest7,rfl,hg7,hrow7,b7⟩
    refine hK.out _ _ (⟨(b7.block w.heap.size (Nat.lt_trans zw.out z6)).trans hHeld.1,(b7.block w2.heap.size z6).trans hHeld.2⟩) (fun hHeld=>?_)
    clear hK K
    try simp only [Act.put,List.setIfInBounds_toArray,List.set_cons_zero,List.set_cons_succ]
    have hs7:StP w.heap.size w2.heap.size #[.int .i64 (k:Int),.int .i64 ((sumOf k:Nat):Int),.int .i64 ((dataOf k:Nat):Int),.slice (some ⟨b1,0,none⟩) 128 c1,.slice (some ⟨b2,0,none⟩) 128 c2,.int .u32 (x:Int),.int .u32 (y:Int),.int .u32 (s:Int)] #[.int .u32 (sum:Int),.int .u32 (sum:Int)] w7:=hHeld
    have b7':Below w5.heap.size w5 w7:=⟨b7.os,b7.tape,b7.output,b7.size,b7.block⟩
    have D7:=hid (D6.out.grown b7')
    have M7:=hid (M6.out.trans (moves_below (F:=F1) (a:=a) b7'))
    have hr7:=hrow7.reads (setPair_length h1.1)
    have hA7:∀x,some (⟨g7,0,none⟩:Addr)=some x->¬F1 x.block:=fun x hx e=>by injection hx with hx;subst hx;have e2:=D6.out.on.shelf.ltF e;have e3:w5.heap.size<=g7:=hg7;exact absurd e2 (Nat.not_lt.2 e3)
    have hlt7:=Nat.lt_of_lt_of_le z6 b7'.size
    clear b7 b7' hrow7
    refine r1 6 (some 58) fun K hK=>?_
    go_simp
    refine (sure_any D7.out hd1'.out (sumOf k) hk2s (setPair X1 k sum sum) (setPair_sec h1) hr7 hA7 L2).mono ?_
    rintro e w8 ⟨rfl,F8,D8,M8⟩
    refine hK.out _ _ (⟨(M8.1.block w.heap.size (Nat.lt_trans zw.out hlt7) N1.out).trans hs7.1,(M8.1.block w2.heap.size hlt7 Nq.out).trans hs7.2⟩) (fun hHeld=>?_)
    clear hK K
    try simp only [Act.put,List.setIfInBounds_toArray,List.set_cons_zero,List.set_cons_succ]
    refine tk 7 6 ?_
    refine wpAnyH_done (by kernel_rfl) ?_ _
    have HP:=hid (show PrepIs B W w a p d o S F k x y s sum X1 X2 _ w8 from prep_mk HS1.out Hgb.out HS2.out noughts_sec' HC.out _ rfl (shut_o ho1) (goes_of M0.out D8 (M7.out.trans M8)))
    clear hHeld f0 f1 f2 f3 f4 f5 f6 f7 g0 g1 D8 M8 hO hs7
    go_wp2_with fail
    go_ret
    exact HP.out
  ·have HS2:=hid (show spIf S1 d k true s sum Sh.noughts=S1 from if_neg (fun h=>by cases h.1))
   have HC:=hid (show SpCond S1 d k true s sum x y Sh.noughts from fun h=>by cases h.2.1)
   have L2:∀k∈S1.disks,k.waits.length+1<1099511627776:=fun k hk=>by have:=L1.out k hk;omega
   have hk2s:sumOf k<S1.sectors:=by rw [hs1];exact hk2
   go_wp2_with fail
   have bp:Below w2.heap.size w2 (w2.alloc (.cells #[.int .u32 (sum:Int),.int .u32 (sum:Int)] 255)):=(Below.refl _ _).alloc (Nat.le_refl _) _
   have rp:(w2.alloc (.cells #[.int .u32 (sum:Int),.int .u32 (sum:Int)] 255)).heap[w2.heap.size]?=some (.cells #[.int .u32 (sum:Int),.int .u32 (sum:Int)] 255 (0,0)):=heap_alloc_new _ _
   have zp:w2.heap.size<(w2.alloc (.cells #[.int .u32 (sum:Int),.int .u32 (sum:Int)] 255)).heap.size:=by simp
   have Rr:=hid ((bp.block w.heap.size z2).trans r2)
   have Dp:=hid (D2.out.grown bp)
   have Mp:=hid (M2.out.trans (moves_below (F:=F1) (a:=a) bp))
   have Y1p:=hid (Y1b.out.grown bp)
   have Y2p:=hid (Y2b.out.grown bp)
   have Nq:=hid (show ¬With F1 a w2.heap.size from fun e=>Nat.lt_irrefl _ (with_lt D2.out _ e))
   have hGp:=hid (HG.out _ Y2p.out.1)
   have zw:=hid z2
   clear q0 q1 q2 q3 q4 q5 q6 q7 r2 bp
   generalize (w2.alloc (.cells #[.int .u32 (sum:Int),.int .u32 (sum:Int)] 255))=Wp at *
   refine hGp.out.mono ?_
   rintro e w5 ⟨rfl,b5⟩
   have r5:=(b5.block w.heap.size (Nat.lt_trans zw.out zp)).trans Rr.out
   have p5:=(b5.block w2.heap.size zp).trans rp
   have z5:=Nat.lt_of_lt_of_le zp b5.size
   have D5:=hid (Dp.out.grown b5)
   have M5:=hid (Mp.out.trans (moves_below (F:=F1) (a:=a) b5))
   have Y15:=hid (Y1p.out.grown b5)
   clear b5 rp zp hGp Dp Mp Y1p Y2p Rr
   obtain ⟨q0,q1,q2,q3,q4,q5,q6,q7,_⟩:=cells8_of r5
   have pc:=cell_of_row _ _ 0 _ _ _ p5
   have pf:=frozen_of_row _ _ 0 _ _ p5
   have P6:=hid (show (w5.setCell ⟨w2.heap.size,0,none⟩ (.int .u32 (s:Int))).heap[w2.heap.size]?=some (.cells #[.int .u32 (s:Int),.int .u32 (sum:Int)] 255 (0,0)) from heap_setCell_same w5 _ 0 _ _ _ p5)
   have R6:=hid ((Sh.heap_set_other w5 ⟨w2.heap.size,0,none⟩ (.int .u32 (s:Int)) (Nat.ne_of_lt zw.out)).trans r5)
   have O6:=hid (show Sh.Only (fun b=>b=w2.heap.size) w5 (w5.setCell ⟨w2.heap.size,0,none⟩ (.int .u32 (s:Int))) from Sh.Only.setCell (F:=fun b=>b=w2.heap.size) (p:=⟨w2.heap.size,0,none⟩) (Sh.Only.refl _ _) (.inl (show w2.heap.size=w2.heap.size from rfl)) _)
   have D6:=hid (dv_over D5.out O6.out Nq.out D2.out.on.size)
   have M6:=hid (show Sh.Moves (With F a) W0 (With F1 a) (w5.setCell ⟨w2.heap.size,0,none⟩ (.int .u32 (s:Int))) from ⟨M5.out.1.trans O6.out (fun b e=>.inr (by have e2:b=w2.heap.size:=e;rw [e2];exact M2.out.1.size)),M5.out.2⟩)
   have Y16:=hid (beside_over Y15.out O6.out (beside_ne Y1b.out))
   have z6:w2.heap.size<(w5.setCell ⟨w2.heap.size,0,none⟩ (.int .u32 (s:Int))).heap.size:=by simpa using z5
   clear p5 r5 z5 D5 M5 Y15
   go_wp2_with fail
   generalize (w5.setCell ⟨w2.heap.size,0,none⟩ (.int .u32 (s:Int)))=w6 at *
   clear q0 q1 q2 q3 q4 q5 q6 q7
   have hO:StP w.heap.size w2.heap.size #[.int .i64 (k:Int),.int .i64 ((sumOf k:Nat):Int),.int .i64 ((dataOf k:Nat):Int),.slice (some ⟨b1,0,none⟩) 128 c1,.slice (some ⟨b2,0,none⟩) 128 c2,.int .u32 (x:Int),.int .u32 (y:Int),.int .u32 (s:Int)] #[.int .u32 (s:Int),.int .u32 (sum:Int)] w6.drew:=⟨R6.out,P6.out⟩
   have f0:=fun W' (h:StP w.heap.size w2.heap.size #[.int .i64 (k:Int),.int .i64 ((sumOf k:Nat):Int),.int .i64 ((dataOf k:Nat):Int),.slice (some ⟨b1,0,none⟩) 128 c1,.slice (some ⟨b2,0,none⟩) 128 c2,.int .u32 (x:Int),.int .u32 (y:Int),.int .u32 (s:Int)] #[.int .u32 (s:Int),.int .u32 (sum:Int)] W')=>(cells8_of h.1).1
   have f1:=fun W' (h:StP w.heap.size w2.heap.size #[.int .i64 (k:Int),.int .i64 ((sumOf k:Nat):Int),.int .i64 ((dataOf k:Nat):Int),.slice (some ⟨b1,0,none⟩) 128 c1,.slice (some ⟨b2,0,none⟩) 128 c2,.int .u32 (x:Int),.int .u32 (y:Int),.int .u32 (s:Int)] #[.int .u32 (s:Int),.int .u32 (sum:Int)] W')=>(cells8_of h.1).2.1
   have f2:=fun W' (h:StP w.heap.size w2.heap.size #[.int .i64 (k:Int),.int .i64 ((sumOf k:Nat):Int),.int .i64 ((dataOf k:Nat):Int),.slice (some ⟨b1,0,none⟩) 128 c1,.slice (some ⟨b2,0,none⟩) 128 c2,.int .u32 (x:Int),.int .u32 (y:Int),.int .u32 (s:Int)] #[.int .u32 (s:Int),.int .u32 (sum:Int)] W')=>(cells8_of h.1).2.2.1
   have f3:=fun W' (h:StP w.heap.size w2.heap.size #[.int .i64 (k:Int),.int .i64 ((sumOf k:Nat):Int),.int .i64 ((dataOf k:Nat):Int),.slice (some ⟨b1,0,none⟩) 128 c1,.slice (some ⟨b2,0,none⟩) 128 c2,.int .u32 (x:Int),.int .u32 (y:Int),.int .u32 (s:Int)] #[.int .u32 (s:Int),.int .u32 (sum:Int)] W')=>(cells8_of h.1).2.2.2.1
   have f4:=fun W' (h:StP w.heap.size w2.heap.size #[.int .i64 (k:Int),.int .i64 ((sumOf k:Nat):Int),.int .i64 ((dataOf k:Nat):Int),.slice (some ⟨b1,0,none⟩) 128 c1,.slice (some ⟨b2,0,none⟩) 128 c2,.int .u32 (x:Int),.int .u32 (y:Int),.int .u32 (s:Int)] #[.int .u32 (s:Int),.int .u32 (sum:Int)] W')=>(cells8_of h.1).2.2.2.2.1
   have f5:=fun W' (h:StP w.heap.size w2.heap.size #[.int .i64 (k:Int),.int .i64 ((sumOf k:Nat):Int),.int .i64 ((dataOf k:Nat):Int),.slice (some ⟨b1,0,none⟩) 128 c1,.slice (some ⟨b2,0,none⟩) 128 c2,.int .u32 (x:Int),.int .u32 (y:Int),.int .u32 (s:Int)] #[.int .u32 (s:Int),.int .u32 (sum:Int)] W')=>(cells8_of h.1).2.2.2.2.2.1
   have f6:=fun W' (h:StP w.heap.size w2.heap.size #[.int .i64 (k:Int),.int .i64 ((sumOf k:Nat):Int),.int .i64 ((dataOf k:Nat):Int),.slice (some ⟨b1,0,none⟩) 128 c1,.slice (some ⟨b2,0,none⟩) 128 c2,.int .u32 (x:Int),.int .u32 (y:Int),.int .u32 (s:Int)] #[.int .u32 (s:Int),.int .u32 (sum:Int)] W')=>(cells8_of h.1).2.2.2.2.2.2.1
   have f7:=fun W' (h:StP w.heap.size w2.heap.size #[.int .i64 (k:Int),.int .i64 ((sumOf k:Nat):Int),.int .i64 ((dataOf k:Nat):Int),.slice (some ⟨b1,0,none⟩) 128 c1,.slice (some ⟨b2,0,none⟩) 128 c2,.int .u32 (x:Int),.int .u32 (y:Int),.int .u32 (s:Int)] #[.int .u32 (s:Int),.int .u32 (sum:Int)] W')=>(cells8_of h.1).2.2.2.2.2.2.2.1
   have g0:=fun W' (h:StP w.heap.size w2.heap.size #[.int .i64 (k:Int),.int .i64 ((sumOf k:Nat):Int),.int .i64 ((dataOf k:Nat):Int),.slice (some ⟨b1,0,none⟩) 128 c1,.slice (some ⟨b2,0,none⟩) 128 c2,.int .u32 (x:Int),.int .u32 (y:Int),.int .u32 (s:Int)] #[.int .u32 (s:Int),.int .u32 (sum:Int)] W')=>cell_of_row _ _ 0 _ _ _ h.2
   have g1:=fun W' (h:StP w.heap.size w2.heap.size #[.int .i64 (k:Int),.int .i64 ((sumOf k:Nat):Int),.int .i64 ((dataOf k:Nat):Int),.slice (some ⟨b1,0,none⟩) 128 c1,.slice (some ⟨b2,0,none⟩) 128 c2,.int .u32 (x:Int),.int .u32 (y:Int),.int .u32 (s:Int)] #[.int .u32 (s:Int),.int .u32 (sum:Int)] W')=>cell_of_row _ _ 1 _ _ _ h.2
   refine wp_region_held_drew (S:=StP w.heap.size w2.heap.size #[.int .i64 (k:Int),.int .i64 ((sumOf k:Nat):Int),.int .i64 ((dataOf k:Nat):Int),.slice (some ⟨b1,0,none⟩) 128 c1,.slice (some ⟨b2,0,none⟩) 128 c2,.int .u32 (x:Int),.int .u32 (y:Int),.int .u32 (s:Int)] #[.int .u32 (s:Int),.int .u32 (sum:Int)]) (by kernel_rfl) hO (fun hHeld=>?_)
   refine tk 0 52 ?_
   refine tk 1 53 ?_
   refine tk 2 54 ?_
   refine tk 3 55 ?_
   refine tk 4 56 ?_
   refine r1 5 (some 57) fun K hK=>?_
   go_simp
   refine (HW.out s hs w6.drew Y16.out.1).mono ?_
   rintro e w7 ⟨g7,d7,rest7,rfl,hg7,hrow7,b7⟩
   refine hK.out _ _ (⟨(b7.block w.heap.size (Nat.lt_trans zw.out z6)).trans hHeld.1,(b7.block w2.heap.size z6).trans hHeld.2⟩) (fun hHeld=>?_)
   clear hK K
   try simp only [Act.put,List.setIfInBounds_toArray,List.set_cons_zero,List.set_cons_succ]
   have hs7:StP w.heap.size w2.heap.size #[.int .i64 (k:Int),.int .i64 ((sumOf k:Nat):Int),.int .i64 ((dataOf k:Nat):Int),.slice (some ⟨b1,0,none⟩) 128 c1,.slice (some ⟨b2,0,none⟩) 128 c2,.int .u32 (x:Int),.int .u32 (y:Int),.int .u32 (s:Int)] #[.int .u32 (s:Int),.int .u32 (sum:Int)] w7:=hHeld
   have b7':Below w6.heap.size w6 w7:=⟨b7.os,b7.tape,b7.output,b7.size,b7.block⟩
   have D7:=hid (D6.out.grown b7')
   have M7:=hid (M6.out.trans (moves_below (F:=F1) (a:=a) b7'))
   have hr7:=hrow7.reads (setPair_length h1.1)
   have hA7:∀x,some (⟨g7,0,none⟩:Addr)=some x->¬F1 x.block:=fun x hx e=>by injection hx with hx;subst hx;have e2:=D6.out.on.shelf.ltF e;have e3:w6.heap.size<=g7:=hg7;exact absurd e2 (Nat.not_lt.2 e3)
   have hlt7:=Nat.lt_of_lt_of_le z6 b7'.size
   clear b7 b7' hrow7
   refine r1 6 (some 58) fun K hK=>?_
   go_simp
   refine (sure_any D7.out hd1'.out (sumOf k) hk2s (setPair X1 k s sum) (setPair_sec h1) hr7 hA7 L2).mono ?_
   rintro e w8 ⟨rfl,F8,D8,M8⟩
   refine hK.out _ _ (⟨(M8.1.block w.heap.size (Nat.lt_trans zw.out hlt7) N1.out).trans hs7.1,(M8.1.block w2.heap.size hlt7 Nq.out).trans hs7.2⟩) (fun hHeld=>?_)
   clear hK K
   try simp only [Act.put,List.setIfInBounds_toArray,List.set_cons_zero,List.set_cons_succ]
   refine tk 7 6 ?_
   refine wpAnyH_done (by kernel_rfl) ?_ _
   have HP:=hid (show PrepIs B W w a p d o S F k x y s sum X1 X2 _ w8 from prep_mk HS1.out Hgb.out HS2.out noughts_sec' HC.out _ rfl (shut_o ho1) (goes_of M0.out D8 (M7.out.trans M8)))
   clear hHeld f0 f1 f2 f3 f4 f5 f6 f7 g0 g1 D8 M8 hO hs7
   go_wp2_with fail
   go_ret
   exact HP.out
end
end Go.Proofs.YtcnjpmcelihknaaGreatDoor.U
