/-
  What the statement's proof rests on, part 32.
  Conditions: each theorem's own.
-/
import Derived.Test.YtcnjpmcelihknaaGreatDoorV29
import Derived.Test.YtcnjpmcelihknaaGreatDoorV10
import Derived.Maps.OwnSet
import Derived.Test.YtcnjpmcelihknaaGreatDoorV03
import Derived.Test.YtcnjpmcelihknaaGreatDoorV04
import Derived.Test.YtcnjpmcelihknaaGreatDoorVtk
open Go.Lib (hid)
open Go.Proofs.YtcnjpmcelihknaaGreatDoor.S renaming Sup → SuP
namespace Go.Proofs.YtcnjpmcelihknaaGreatDoor.U
open Go.RowKit Go.Maps
def SayS (v p t n mo mu:Nat) (s:SuP) (base:Int) (a:Nat->Nat) (g:Nat->Option Addr) (q:Nat) (x:SuP) (w:World):Prop:=VolIs w v p t n mo mu s base a g/\w.heap[q]?=some (.cells x.cells 123 (0,0))
section
variable {B:Nat} {W w w':World} {v p t n mo mu q:Nat} {s x:SuP} {base:Int} {a:Nat->Nat} {o:Nat->Int} {g:Nat->Option Addr} {S S':Sh.Sf} {F:Nat->Prop}
theorem goes_moves {i:Nat} {y:Int} (h:Goes B W w w' (a i) p i y S' F):∃F',Sh.Moves (With F (a i)) w (With F' (a i)) w':=by
 obtain ⟨F',_,m⟩:=h
 exact ⟨F',m⟩
theorem sayS_moves {i:Nat} {y:Int} {w0:World} (h:SayS v p t n mo mu s base a g q x w) (hq:∀b,With F (a i) b->b≠v/\b≠t/\b≠q) (hG:Goes B W w0 w' (a i) p i y S' F) (hw:w0.heap=w.heap:=by rfl):SayS v p t n mo mu s base a g q x w':=by
 obtain ⟨F',m⟩:=goes_moves hG
 have hk:∀b,b<w.heap.size->(b=v\/b=t\/b=q)->w'.heap[b]?=w.heap[b]?:=fun b hb hx=>by
  rw [m.1.block b (by rw [hw];exact hb) fun e=>by
   obtain ⟨h1,h2,h3⟩:=hq b e
   rcases hx with h | h | h
   ·exact h1 h
   ·exact h2 h
   ·exact h3 h,hw]
 exact ⟨h.1.kept (hk v h.1.vlt (.inl rfl)) (hk t h.1.tlt (.inr (.inl rfl))),(hk q (lt_of_block h.2) (.inr (.inr rfl))).trans h.2⟩
set_option maxRecDepth 20000 in
theorem sayOn_any (h:Vo B W w v p t n mo mu s base a o g S F) (hT:Tabs W) (hTB:max 0 1+1<=B) (hWi:Go.Proofs.YtcnjpmcelihknaaGreatDoor.S.Wid W) (hWB:2+1<=B)
  (d:Nat) (hd:d<n) (x:SuP) (hr:({ x with disk:=(d:Int) }:SuP).right=true) {P:Cs} (hj:Jp S d (o d) P) (hn:S.disks.length=n) (hb:2<=blk S.sectors) {m:Nat} (hL:∀k∈S.disks,k.waits.length<=m) (hm:m<=1000000) :
  Calls Tryz.prog 137 #[.pointer (some ⟨v,0,none⟩),.int .i64 d,x.val] w fun e w'=>∃y:Int,e=.returned (.int .i64 y)/\∃o' S',Sured S d (x.gen%2).toNat (Go.Proofs.YtcnjpmcelihknaaGreatDoor.S.encL ({ x with disk:=(d:Int) }:SuP).nums) P m y o' S'/\VGoes B W w w' v p t n mo mu s base a (put1 o d o') g S' F:=by
 obtain ⟨hg1,-⟩:=Go.Proofs.YtcnjpmcelihknaaGreatDoor.S.right_parts hr
 obtain ⟨x0,x1,x2,x3,x4,x5,x6,x7⟩:=x
 simp only at hr hg1 ⊢
 obtain ⟨K,hK,hK2⟩:∃K:Nat,x0%2=(K:Int)/\K<2:=⟨(x0%2).toNat,by omega,by omega⟩
 have hKn:(x0%2).toNat=K:=by omega
 rw [hKn]
 have HSL:=hid (fun w=>Go.Proofs.YtcnjpmcelihknaaGreatDoor.S.slot_any x0 w (by omega) (by omega))
 rw [hK] at HSL
 have hlt:=with_lt (h.ds.dv hd)
 have hvl:=h.vol.vlt
 have htl:=h.vol.tlt
 have hr1:(w.alloc (.cells #[.int .i64 x0,.int .i64 x1,.int .i64 (d:Int),.int .i64 x3,.int .i64 x4,.int .i64 x5,.int .i64 x6,.int .i64 x7] 123)).heap[w.heap.size]?=some (.cells (⟨x0,x1,(d:Int),x3,x4,x5,x6,x7⟩:SuP).cells 123 (0,0)):=heap_alloc_new w _
 have hb1:Below w.heap.size w (w.alloc (.cells #[.int .i64 x0,.int .i64 x1,.int .i64 (d:Int),.int .i64 x3,.int .i64 x4,.int .i64 x5,.int .i64 x6,.int .i64 x7] 123)):=(Below.refl _ w).alloc (Nat.le_refl _) _
 have HR1:=hid hr1
 have HB1:=hid hb1
 have HQ:Hid (∀b,With F (a d) b->b≠v/\b≠t/\b≠w.heap.size):=hid fun b e=>by
  have h1:=hlt b e
  have h2:=h.apart b (e.imp id fun e=>⟨d,hd,e⟩)
  exact ⟨h2.1,h2.2.1,by omega⟩
 obtain ⟨c0,c1,c2,c3,c4,c5,c6,c7⟩:=sup_cells hr1
 simp only at c0 c1 c2 c3 c4 c5 c6 c7
 have HV:=hid h
 have HR:=hid hr
 have HJ:=hid hj
 have HLT:=hid hlt
 have j0:=fun (W':World) (h:SayS v p t n mo mu s base a g w.heap.size ⟨x0,x1,(d:Int),x3,x4,x5,x6,x7⟩ W')=>h.1.c10
 have j1:=fun (W':World) (h:SayS v p t n mo mu s base a g w.heap.size ⟨x0,x1,(d:Int),x3,x4,x5,x6,x7⟩ W')=>h.1.dev hd
 have j2:=fun (W':World) (h:SayS v p t n mo mu s base a g w.heap.size ⟨x0,x1,(d:Int),x3,x4,x5,x6,x7⟩ W')=>h.1.log hd
 have j3:=fun (W':World) (h:SayS v p t n mo mu s base a g w.heap.size ⟨x0,x1,(d:Int),x3,x4,x5,x6,x7⟩ W')=>show W'.cell? ⟨w.heap.size,0,none⟩=some (.int .i64 x0) from (sup_cells h.2).1
 have h17:n<=17:=by
  obtain ⟨D,gs,q⟩:=h.ds.on.shelf
  have:=q.most
  omega
 clear h hr hj hr1 hb1 hlt
 unfold Go.Proofs.YtcnjpmcelihknaaGreatDoor.S.Sup.val
 simp only [Go.Proofs.YtcnjpmcelihknaaGreatDoor.S.Sup.cells]
 go_enter Tryz.func137,Tryz.ntmps137
 go_wp2_with fail
 generalize (w.alloc (.cells #[.int .i64 x0,.int .i64 x1,.int .i64 (d:Int),.int .i64 x3,.int .i64 x4,.int .i64 x5,.int .i64 x6,.int .i64 x7] 123))=w1 at *
 have V1:=HV.out.grown HB1.out
 refine (Go.Proofs.YtcnjpmcelihknaaGreatDoor.S.encode_ok ⟨x0,x1,(d:Int),x3,x4,x5,x6,x7⟩ w1 HR.out (hT.below hTB V1.ds.on.bel) (hWi.below hWB V1.ds.on.bel)).mono ?_
 rintro e w2 ⟨g2,rfl,ho,hb2⟩
 have b2:Below w.heap.size w w2.drew:=(HB1.out.trans (hb2.mono HB1.out.size)).drew
 have V2:=HV.out.grown b2
 have hS2:SayS v p t n mo mu s base a g w.heap.size ⟨x0,x1,(d:Int),x3,x4,x5,x6,x7⟩ w2.drew:=⟨V2.vol,(hb2.block w.heap.size (lt_of_block HR1.out)).trans HR1.out⟩
 have hbs:Sh.Beside w2.drew (With F (a d)) (some ⟨g2,0,none⟩) (Go.Proofs.YtcnjpmcelihknaaGreatDoor.S.encL (⟨x0,x1,(d:Int),x3,x4,x5,x6,x7⟩:SuP).nums):=⟨Sh.Reads.of_own (w:=w2) ho,fun z hz e=>by
  injection hz with hz
  subst hz
  have:g2<w.heap.size:=HLT.out g2 e
  have:w1.heap.size<=g2:=(ho.lt g2 rfl).1
  have:=HB1.out.size
  omega⟩
 have HSU:=hid (sure_jp (c:=128) (V2.ds.dv hd) hT hTB HJ.out K (by omega) _ ⟨Go.Proofs.YtcnjpmcelihknaaGreatDoor.S.encL_length _,Go.Proofs.YtcnjpmcelihknaaGreatDoor.S.encL_small _⟩ hbs hL hm (g d))
 have KEEP:=hid (And.intro V2 b2)
 have hS3:=hid hS2
 clear V1 V2 hbs hS2 ho hb2 b2 c0 c1 c2 c3 c4 c5 c6 c7
 generalize hle:Go.Proofs.YtcnjpmcelihknaaGreatDoor.S.encL (⟨x0,x1,(d:Int),x3,x4,x5,x6,x7⟩:SuP).nums=l at *
 have HLE:=hid hle
 clear hle
 go_wp2_with fail
 refine wp_region_held_drew (S:=SayS v p t n mo mu s base a g w.heap.size ⟨x0,x1,(d:Int),x3,x4,x5,x6,x7⟩) (by kernel_rfl) hS3.out (fun hHeld=>?_)
 refine tk 0 19 ?_
 refine tk 1 20 ?_
 refine tk 2 21 ?_
 refine tk 3 22 ?_
 refine tk 4 23 ?_
 refine tk 5 24 ?_
 refine tk 6 25 ?_
 refine tk 7 26 ?_
 refine tk 8 27 ?_
 refine tk 10 29 ?_
 refine r1 9 (some 28) fun K hK=>?_
 go_simp
 refine (HSL.out _).mono ?_
 rintro e w' ⟨rfl,rfl⟩
 refine hK.out _ _ (hHeld) (fun hHeld=>?_)
 clear hK K
 try simp only [Act.put,List.setIfInBounds_toArray,List.set_cons_zero,List.set_cons_succ]
 refine r1 11 (some 30) fun K hK=>?_
 go_simp
 refine (HSU.out).mono ?_
 rintro e w4 ⟨y,rfl,o4,S4,hSu,hG⟩
 refine hK.out _ _ (sayS_moves hHeld HQ.out hG) (fun hHeld=>?_)
 clear hK K
 try simp only [Act.put,List.setIfInBounds_toArray,List.set_cons_zero,List.set_cons_succ]
 refine tk 12 6 ?_
 refine wpAnyH_done (by kernel_rfl) ?_ _
 go_wp2
 go_ret
 exact ⟨y,rfl,o4,S4,by rw [HLE.out];exact hSu,VGoes.trans (F':=F) ⟨⟨KEEP.out.2.os,KEEP.out.2.tape,KEEP.out.2.output,KEEP.out.2.size,fun k hk _=>KEEP.out.2.block k hk⟩,fun _ hb=>.inl hb⟩ (KEEP.out.1.goes (KEEP.out.1.ds.goes hd hG))⟩
end
def JpAll (S:Sh.Sf) (n:Nat) (o:Nat->Int) (Ps:Nat->Cs):Prop:=∀d,d<n->Jp S d (o d) (Ps d)
theorem Jp.alike {S T:Sh.Sf} {d i:Nat} {o:Int} {P:Cs} (h:Jp S d o P) (ha:Alike i S T) (hs:T.sectors=S.sectors) (hon:T.off=false->S.off=false) (hd:d≠i):Jp T d o P:=by
 have e:dk T d=dk S d:=ha.2 d hd
 obtain ⟨h1,h2,h3⟩:=h
 obtain ⟨k1,k2,k3⟩:=h1
 refine ⟨⟨by rw [ha.1];exact k1,by rw [e];exact k2,by rw [e,hs];exact k3⟩,?_,fun x=>?_⟩
 ·rw [hs,e];exact h2
 ·rw [hs,e];exact h3 (hon x)
def saidOn (S:Sh.Sf) (x:SuP) (d:Nat):Nat->Sh.Bs:=upd (vals (dk S d)) (x.gen%2).toNat (Go.Proofs.YtcnjpmcelihknaaGreatDoor.S.encL ({ x with disk:=(d:Int) }:SuP).nums)
structure Says (S:Sh.Sf) (n:Nat) (o:Nat->Int) (Ps:Nat->Cs) (x:SuP) (m j:Nat) (T:Sh.Sf) (o':Nat->Int):Prop where
 old:∀d,j<=d->d<n->Jp T d (o' d) (Ps d)/\dk T d=dk S d
 done:∀d,d<j->Jp T d (o' d) (fun c=>c=saidOn S x d)/\vals (dk T d)=saidOn S x d/\(dk T d).waits=[]
 len:T.disks.length=S.disks.length
 sectors:T.sectors=S.sectors
 on:T.off=false->S.off=false
 waits:∀y∈T.disks,y.waits.length<=m+2*j
theorem says_none {S:Sh.Sf} {n m:Nat} {o:Nat->Int} {Ps:Nat->Cs} {x:SuP} (h:JpAll S n o Ps) (hL:∀y∈S.disks,y.waits.length<=m):Says S n o Ps x m 0 S o :=
 ⟨fun d _ hd=>⟨h d hd,rfl⟩,fun d hd=>absurd hd (by omega),rfl,rfl,id,fun y hy=>by have:=hL y hy;omega⟩
theorem Says.next {S T T':Sh.Sf} {n m j:Nat} {o o1:Nat->Int} {o':Int} {Ps:Nat->Cs} {x:SuP} (h:Says S n o Ps x m j T o1) (hs:Sured T j (x.gen%2).toNat (Go.Proofs.YtcnjpmcelihknaaGreatDoor.S.encL ({ x with disk:=(j:Int) }:SuP).nums) (Ps j) (m+2*j) 0 o' T') (hj:j<n):Says S n o Ps x m (j+1) T' (put1 o1 j o'):=by
 obtain ⟨a1,a2⟩:=hs.alike
 refine ⟨fun d hd hn=>?_,fun d hd=>?_,a1.trans h.len,hs.sectors.trans h.sectors,fun e=>h.on (hs.on e),fun y hy=>by have:=hs.len y hy;omega⟩
 ·obtain ⟨k1,k2⟩:=h.old d (by omega) hn
  unfold put1
  rw [if_neg (by omega)]
  exact ⟨k1.alike hs.alike hs.sectors hs.on (by omega),(a2 d (by omega)).trans k2⟩
 ·unfold put1
  by_cases e:d=j
  ·subst e
   rw [if_pos rfl]
   obtain ⟨d1,d2,d3⟩:=hs.done rfl
   have hv:upd (vals (dk T d)) (x.gen%2).toNat (Go.Proofs.YtcnjpmcelihknaaGreatDoor.S.encL ({ x with disk:=(d:Int) }:SuP).nums)=saidOn S x d:=by
    unfold saidOn
    rw [(h.old d (Nat.le_refl _) hj).2]
   rw [hv] at d1 d2
   exact ⟨d1,d2,d3⟩
  ·rw [if_neg e]
   obtain ⟨k1,k2,k3⟩:=h.done d (by omega)
   have e2:dk T' d=dk T d:=a2 d e
   exact ⟨k1.alike hs.alike hs.sectors hs.on e,by rw [e2];exact k2,by rw [e2];exact k3⟩
theorem Calm.alike {S T:Sh.Sf} {d i:Nat} (h:Calm S d) (ha:Alike i S T) (hs:T.sectors=S.sectors) (hi:Calm T i):Calm T d:=by
 by_cases e:d=i
 ·subst e;exact hi
 ·obtain ⟨k1,_,_,k4,k5⟩:=h
  obtain ⟨_,i2,i3,_,_⟩:=hi
  have e2:=ha.2 d e
  exact ⟨by rw [ha.1];exact k1,i2,i3,by rw [e2];exact k4,by rw [e2,hs];exact k5⟩
section
variable {B:Nat} {W w:World} {v p t n mo mu:Nat} {s:SuP} {base:Int} {a:Nat->Nat} {o:Nat->Int} {g:Nat->Option Addr} {S:Sh.Sf} {F:Nat->Prop}
def SayRel (B:Nat) (W w wr:World) (v p t n mo mu:Nat) (s:SuP) (base:Int) (a:Nat->Nat) (o:Nat->Int) (g:Nat->Option Addr) (S:Sh.Sf) (F:Nat->Prop) (Ps:Nat->Cs) (x:SuP) (m j:Nat):Prop :=
 ∃T o',Says S n o Ps x m j T o'/\Calms T n/\VGoes B W w wr v p t n mo mu s base a o' g T F
theorem say_next {w wr w2:World} {F1:Nat->Prop} {T T':Sh.Sf} {Ps:Nat->Cs} {x:SuP} {m j:Nat} {y o':Int} {o1:Nat->Int} (hS:Says S n o Ps x m j T o1) (hC:Calms T n) (hj:j<n) (M1:Sh.Moves (AllB F a n) w (AllB F1 a n) wr)
  (hs:Sured T j (x.gen%2).toNat (Go.Proofs.YtcnjpmcelihknaaGreatDoor.S.encL ({ x with disk:=(j:Int) }:SuP).nums) (Ps j) (m+2*j) y o' T') (hG:VGoes B W wr w2 v p t n mo mu s base a (put1 o1 j o') g T' F1):y=0/\SayRel B W w w2 v p t n mo mu s base a o g S F Ps x m (j+1):=by
 obtain ⟨h0,hc⟩:=hs.calm (hC j hj)
 subst h0
 exact ⟨rfl,T',_,hS.next hs hj,fun d hd=>(hC d hd).alike hs.alike hs.sectors hc,VGoes.trans M1 hG⟩
set_option maxRecDepth 20000 in
theorem say_calm (h:Vo B W w v p t n mo mu s base a o g S F) (hT:Tabs W) (hTB:max 0 1+1<=B) (hWi:Go.Proofs.YtcnjpmcelihknaaGreatDoor.S.Wid W) (hWB:2+1<=B)
  (hn:S.disks.length=n) (x:SuP) (hr:∀d,d<n->({ x with disk:=(d:Int) }:SuP).right=true) {Ps:Nat->Cs} (hj:JpAll S n o Ps) (hc:Calms S n) (hb:2<=blk S.sectors) {m:Nat} (hL:∀k∈S.disks,k.waits.length<=m) (hm:m<=900000) :
  Calls Tryz.prog 75 #[.pointer (some ⟨v,0,none⟩),x.val] w fun e w'=>e=.returned (.int .i64 0)/\SayRel B W w w' v p t n mo mu s base a o g S F Ps x m n:=by
 have h17:n<=17:=by
  obtain ⟨D,gs,q⟩:=h.ds.on.shelf
  have:=q.most
  omega
 have hbw:Below w.heap.size w (w.alloc (.cells x.cells 123)):=(Below.refl _ _).alloc (Nat.le_refl _) _
 have HQ:=hid (heap_alloc_new w (.cells x.cells 123))
 have HLT:=hid h.ds.lt
 have HM0:Hid (Sh.Moves (AllB F a n) w (AllB F a n) (w.alloc (.cells x.cells 123))):=hid ⟨⟨hbw.os,hbw.tape,hbw.output,hbw.size,fun k hk _=>hbw.block k hk⟩,fun _ hb=>.inl hb⟩
 have V0:=h.grown hbw
 have c10:=V0.vol.c10
 have hrel0:Hid (SayRel B W (w.alloc (.cells x.cells 123)) (w.alloc (.cells x.cells 123)) v p t n mo mu s base a o g S F Ps x m 0):=hid ⟨S,o,says_none hj hL,hc,VGoes.here V0 (Below.refl _ _)⟩
 have hbd:Hid (∀w,Calls Tryz.prog 136 #[.int .i64 0] w fun e w'=>e=.returned (.int .i64 0)/\w=w'):=hid (butDead_any 0)
 have HS:Hid (∀wr j,j<n->SayRel B W (w.alloc (.cells x.cells 123)) wr v p t n mo mu s base a o g S F Ps x m j ->
   (wr.heap[w.heap.size]?=some (.cells x.cells 123 (0,0)))/\Hid (Calls Tryz.prog 137 #[.pointer (some ⟨v,0,none⟩),.int .i64 j,x.val] wr fun e w'=>e=.returned (.int .i64 0)/\SayRel B W (w.alloc (.cells x.cells 123)) w' v p t n mo mu s base a o g S F Ps x m (j+1))):=hid fun wr j hlt hrel=>by
  obtain ⟨T,o1,hS,hC,F1,V1,M1⟩:=hrel
  refine ⟨(M1.1.block w.heap.size (lt_of_block HQ.out) fun e=>Nat.lt_irrefl _ (HLT.out _ e)).trans HQ.out,hid ?_⟩
  refine (sayOn_any V1 hT hTB hWi hWB j hlt x (hr j hlt) (hS.old j (Nat.le_refl _) hlt).1 (by rw [hS.len];exact hn) (by rw [hS.sectors];exact hb) hS.waits (by omega)).mono ?_
  rintro e w2 ⟨y,rfl,o',T',hs,hG⟩
  obtain ⟨rfl,hR⟩:=say_next hS hC hlt M1 hs hG
  exact ⟨rfl,hR⟩
 have hE:Hid (∀wr,SayRel B W (w.alloc (.cells x.cells 123)) wr v p t n mo mu s base a o g S F Ps x m n->SayRel B W w wr v p t n mo mu s base a o g S F Ps x m n):=hid fun wr hrel=>by
  obtain ⟨T,o1,hS,hC,hG⟩:=hrel
  exact ⟨T,o1,hS,hC,VGoes.trans HM0.out hG⟩
 clear h hbw V0 hj hc hL hr HM0 HQ HLT hn hb
 unfold Go.Proofs.YtcnjpmcelihknaaGreatDoor.S.Sup.val at *
 obtain ⟨x0,x1,x2,x3,x4,x5,x6,x7⟩:=x
 simp only [Go.Proofs.YtcnjpmcelihknaaGreatDoor.S.Sup.cells] at *
 go_enter Tryz.func75,Tryz.ntmps75
 go_wp2
 clear c10
 generalize w.alloc _=w0 at *
 go_loopw [12] (fun i wr=>∃j:Nat,j<=n/\i=.int .i64 j/\Hid (SayRel B W w0 wr v p t n mo mu s base a o g S F Ps ⟨x0,x1,x2,x3,x4,x5,x6,x7⟩ m j)) (fun i _=>n-(intOf i).toNat)
 case atStart=>exact ⟨0,Nat.zero_le _,rfl,hrel0⟩
 case round =>
  obtain ⟨j,hj,rfl,hrel⟩:=hrel
  by_cases hlt:j<n
  ·obtain ⟨hrow,HC⟩:=HS.out wr j hlt hrel.out
   obtain ⟨c0,c1,c2,c3,c4,c5,c6,c7⟩:=sup_cells (x:=⟨x0,x1,x2,x3,x4,x5,x6,x7⟩) hrow
   simp only at c0 c1 c2 c3 c4 c5 c6 c7
   clear hrow hrel
   go_wp2_with fail
   refine HC.out.mono ?_
   rintro e w2 ⟨rfl,hR⟩
   have HR:=hid hR
   clear hR c0 c1 c2 c3 c4 c5 c6 c7 HC
   go_wp2_with (go_at_call 136;refine (hbd.out _).mono ?_;rintro e w' ⟨rfl,rfl⟩)
   go_roundw
   case rel=>exact ⟨j+1,by omega,by go_num,HR⟩
   case measure=>simp [intOf];omega
  ·obtain rfl:j=n:=by omega
   have HR:=hid (hE.out wr hrel.out)
   clear hrel
   go_wp2
   go_ret
   exact ⟨rfl,HR.out⟩
end
section
variable {B:Nat} {W w w4:World} {v p t n mo mu L j b:Nat} {s:SuP} {base:Int} {a gn:Nat->Nat} {o:Nat->Int} {g:Nat->Option Addr} {S:Sh.Sf} {F:Nat->Prop}
theorem Devs.set (h:Devs B W w p n a o S F) {x i:Nat} (u:Value) (hx:∀b,AllB F a n b->b≠x) (hB:B<=x):Devs B W (w.setCell ⟨x,i,none⟩ u) p n a o S F:=by
 have hO:Sh.Only (fun b=>b=x) w (w.setCell ⟨x,i,none⟩ u):=Sh.Only.setCell (F:=fun b=>b=x) (p:=⟨x,i,none⟩) (Sh.Only.refl _ w) (.inl rfl) _
 exact ⟨⟨h.on.shelf.only hO (fun b hb e=>hx b (.inl hb) e),h.on.low,h.on.bel.setCell (p:=⟨x,i,none⟩) hB _,by simpa using h.on.size⟩,fun k hk=>(h.dev k hk).same (Sh.heap_set_other _ _ _ (hx _ (.inr ⟨k,hk,rfl⟩))),h.apart,h.inj,h.low⟩
theorem dvG_put (a:Nat->Nat) (g:Nat->Option Addr) (n j:Nat) (A:Option Addr):(Sh.rowOf (dvG a g) n 2).set (j*2+1) (.pointer A)=Sh.rowOf (dvG a (put1 g j A)) n 2:=by
 rw [Sh.rowOf_set _ (by decide)]
 refine Sh.rowOf_congr (by decide) fun i c _ hc=>?_
 unfold dvG put1
 by_cases hi:i=j
 ·subst hi
  have h01:c=0\/c=1:=by omega
  rcases h01 with e | e<;>subst e<;>simp
 ·simp [hi]
theorem Vo.putLog (h:Vo B W w v p t n mo mu s base a o g S F) (hvt:v≠t) (j:Nat) (A:Option Addr):Vo B W (w.setCell ⟨t,j*2+1,none⟩ (.pointer A)) v p t n mo mu s base a o (put1 g j A) S F:=by
 have hr1:=(h.vol.row.stored (j*2+1) (.pointer A)).1
 rw [dvG_put] at hr1
 exact ⟨h.ds.set _ (fun b hb=>(h.apart b hb).2.1) h.low.2.1,⟨(Sh.heap_set_other _ _ _ hvt).trans h.vol.root,hr1⟩,h.apart,h.low,by simpa using h.lt⟩
structure LogsTo (B:Nat) (w:World) (v t mo mu n:Nat) (a gn:Nat->Nat) (L:Nat) (F:Nat->Prop) (j:Nat):Prop where
 log:∀i,i<j->LogIs w (gn i) (a i) L
 apart:∀i,i<j->¬AllB F a n (gn i)/\gn i≠v/\gn i≠t/\gn i≠mo/\gn i≠mu
 low:∀i,i<j->B<=gn i
theorem LogsTo.next (k:LogsTo B w v t mo mu n a gn L F j) (h:Vo B W w v p t n mo mu s base a o g S F) (hb:Below w.heap.size w w4) (hl:LogIs w4 b (a j) L) (hbl:w.heap.size<=b):LogsTo B (w4.setCell ⟨t,j*2+1,none⟩ (.pointer (some ⟨b,0,none⟩))) v t mo mu n a (atI gn j b) L F (j+1):=by
 have hvl:=h.vol.vlt
 have htl:=h.vol.tlt
 obtain ⟨l1,l2⟩:=h.lt
 have hB:=h.ds.on.size
 refine ⟨fun i hi=>?_,fun i hi=>?_,fun i hi=>?_⟩
 ·unfold atI
  by_cases e:i=j
  ·subst e
   rw [if_pos rfl]
   exact hl.same (Sh.heap_set_other _ _ _ (show b≠t by omega))
  ·rw [if_neg e]
   have hi2:=k.log i (by omega)
   exact hi2.same ((Sh.heap_set_other _ _ _ (k.apart i (by omega)).2.2.1).trans (hb.block _ hi2.lt))
 ·unfold atI
  by_cases e:i=j
  ·rw [if_pos e]
   exact ⟨fun e=>by have:=h.ds.lt _ e;omega,by omega,by omega,by omega,by omega⟩
  ·rw [if_neg e];exact k.apart i (by omega)
 ·unfold atI
  by_cases e:i=j
  ·rw [if_pos e];omega
  ·rw [if_neg e];exact k.low i (by omega)
end
def rdY (S:Sh.Sf) (d k:Nat):Int:=if Sh.why S d=0 then (if goodAt S d k=true then 0 else 5) else Sh.why S d
def DW (S:Sh.Sf) (d:Nat) (o:Int) (k:Nat) (b:Sh.Bs) (y o':Int) (S':Sh.Sf):Prop :=
 (Sh.why S d≠0/\y=Sh.why S d/\o'=o/\S'=S) \/
 (Sh.why S d=0/\∃b' R,Sh.Sec b'/\R=Ready S d o k b b' /\
  (Sh.why (flIf (Looked S d) d o k) d=0/\goodAt S d k=false/\sumL d k (V S d (dataOf k))=sumL d k b->¬(sumL d k b'=pr (V S d (sumOf k)) k 0\/sumL d k b'=pr (V S d (sumOf k)) k 1\/sumL d k b'=sumL d k (V S d (dataOf k)))) /\
  y=Sh.why R d/\(y=0->o'=(k:Int))/\(y≠0->o'=-1\/o'=o)/\S'=Wr R d (dataOf k) b)
section
variable {S S':Sh.Sf} {d k:Nat} {o y o':Int} {b:Sh.Bs}
theorem ready_length (S:Sh.Sf) (d:Nat) (o:Int) (k:Nat) (b b':Sh.Bs):(Ready S d o k b b').disks.length=S.disks.length:=by
 unfold Ready ReadyQ
 rw [fl_length,wr_length,spIf_length,flIf_length,looked_disks]
theorem ready_sectors (S:Sh.Sf) (d:Nat) (o:Int) (k:Nat) (b b':Sh.Bs):(Ready S d o k b b').sectors=S.sectors:=by
 unfold Ready ReadyQ
 rw [fl_sectors,wr_sectors,spIf_sectors,flIf_sectors,looked_sectors]
theorem DW.len (h:DW S d o k b y o' S'):S'.disks.length=S.disks.length:=by
 rcases h with ⟨_,_,_,rfl⟩ | ⟨_,b',R,_,rfl,_,_,_,_,rfl⟩
 ·rfl
 ·rw [wr_length,ready_length]
theorem DW.sectors (h:DW S d o k b y o' S'):S'.sectors=S.sectors:=by
 rcases h with ⟨_,_,_,rfl⟩ | ⟨_,b',R,_,rfl,_,_,_,_,rfl⟩
 ·rfl
 ·rw [wr_sectors,ready_sectors]
theorem DW.waits {m:Nat} (h:DW S d o k b y o' S') (hL:∀x∈S.disks,x.waits.length<=m):∀x∈S'.disks,x.waits.length<=m+3:=by
 rcases h with ⟨_,_,_,rfl⟩ | ⟨_,b',R,_,rfl,_,_,_,_,rfl⟩
 ·intro x hx;have:=hL x hx;omega
 ·refine wr_lens (m:=m+2) (fl_lens (wr_lens (m:=m+1) ?_))
  have hlk:∀x∈(Looked S d).disks,x.waits.length<=m:=by rw [looked_disks];exact hL
  have hfl:∀x∈(flIf (Looked S d) d o k).disks,x.waits.length<=m:=by
   unfold flIf
   split
   ·exact fl_lens hlk
   ·exact hlk
  generalize flIf (Looked S d) d o k=S1 at *
  unfold spIf
  split
  ·exact fl_lens (wr_lens hfl)
  ·intro x hx;have:=hfl x hx;omega
theorem DW.alike (h:DW S d o k b y o' S'):Alike d S S':=by
 rcases h with ⟨_,_,_,rfl⟩ | ⟨_,b',R,_,rfl,_,_,_,_,rfl⟩
 ·exact Alike.refl d _
 ·exact (alike_ready S d o k _ _ _ _ b').trans (alike_wr _ d _ b)
end
section
variable {B:Nat} {W w:World} {a p d:Nat} {o:Int} {S:Sh.Sf} {F:Nat->Prop}
theorem dwrite (h:Dv B W w a p d o S F) (hT:Tabs W) (hTB:max 0 1+1<=B) (k:Nat) (hk:k<blk S.sectors) (hd:d<S.disks.length) (b:Sh.Bs) {A:Option Addr} {c:Nat} {m:Nat}
  (hb:Sh.Sec b) (hA:Sh.Beside w (With F a) A b) (hL:∀x∈S.disks,x.waits.length<=m) (hm:m<=1000000000) :
  Calls Tryz.prog 188 #[.pointer (some ⟨a,0,none⟩),.int .i64 k,.slice A 128 c] w fun e w'=>∃y:Int,e=.returned (.int .i64 y)/\∃o' S',DW S d o k b y o' S'/\Goes B W w w' a p d o' S' F:=by
 by_cases hw:Sh.why S d=0
 ·refine (write_done h hT hTB k hk hd hw b hb hA (fun x hx=>by have:=hL x hx;omega)).mono ?_
  rintro e w' ⟨b',o',hs,hsp,rfl,h0,h1,hG⟩
  exact ⟨_,rfl,o',_,.inr ⟨hw,b',_,hs,rfl,hsp,rfl,h0,h1,rfl⟩,hG⟩
 ·refine (write_why h k hk hd hw A c).mono ?_
  rintro e w' ⟨rfl,hb⟩
  exact ⟨_,rfl,o,S,.inl ⟨hw,rfl,rfl,rfl⟩,F,h.grown hb,moves_below hb⟩
def ReadO (y:Int) (X:Sh.Bs) (w:World) (e:Ending) (w':World):Prop :=
 ∃A n c,e=.returned (.tuple #[.slice A n c,.int .i64 y])/\((y=0/\n=128/\Sh.Bytes w w' A X)\/(y≠0/\A=none/\n=0/\c=0))
theorem ReadO.from {y:Int} {X:Sh.Bs} {w0 w w':World} {e:Ending} (h:ReadO y X w e w') (hs:w0.heap.size<=w.heap.size):ReadO y X w0 e w':=by
 obtain ⟨A,n,c,rfl,h⟩:=h
 exact ⟨A,n,c,rfl,h.imp (fun ⟨h1,h2,h3⟩=>⟨h1,h2,h3.1,fun a ha=>⟨Nat.le_trans hs (h3.2 a ha).1,(h3.2 a ha).2⟩⟩) id⟩
theorem dread (h:Dv B W w a p d o S F) (hT:Tabs W) (hTB:max 0 1+1<=B) (k:Nat) (hk:k<blk S.sectors) (hd:d<S.disks.length) :
  Calls Tryz.prog 186 #[.pointer (some ⟨a,0,none⟩),.int .i64 k] w fun e w'=>ReadO (rdY S d k) (V S d (dataOf k)) w e w'/\Dv B W w' a p d o (Looked S d) F/\Sh.Only F w w':=by
 unfold rdY
 by_cases hw:Sh.why S d=0
 ·rw [if_pos hw]
  cases hg:goodAt S d k
  ·refine (read_done h hT hTB k hk hd hw false hg).mono ?_
   rintro e w' ⟨h1,h2,h3⟩
   refine ⟨?_,h2,h3⟩
   rcases h1 with ⟨h0,_⟩ | ⟨_,rfl⟩
   ·cases h0
   ·exact ⟨none,0,0,rfl,.inr ⟨by decide,rfl,rfl,rfl⟩⟩
  ·refine (read_done h hT hTB k hk hd hw true hg).mono ?_
   rintro e w' ⟨h1,h2,h3⟩
   refine ⟨?_,h2,h3⟩
   rcases h1 with ⟨_,A,c,rfl,hb⟩ | ⟨h0,_⟩
   ·exact ⟨A,128,c,rfl,.inl ⟨rfl,rfl,hb⟩⟩
   ·cases h0
 ·rw [if_neg hw,looked_off' hw]
  refine (read_why h k hk hd hw).mono ?_
  rintro e w' ⟨rfl,hb⟩
  exact ⟨⟨none,0,0,rfl,.inr ⟨hw,rfl,rfl,rfl⟩⟩,h.grown hb,below_only hb⟩
end
/-! ### a log's slot -/
def PutR (S:Sh.Sf) (d:Nat) (o:Int) (k:Nat) (l hd:Sh.Bs) (z o':Int) (S':Sh.Sf):Prop :=
 ∃y1 o1 S1,DW S d o (3+2*k) l y1 o1 S1/\((y1≠0/\z=y1/\o'=o1/\S'=S1)\/(y1=0/\DW S1 d o1 (2+2*k) hd z o' S'))
section
variable {S S':Sh.Sf} {d k:Nat} {o z o':Int} {l hd:Sh.Bs}
theorem PutR.len (h:PutR S d o k l hd z o' S'):S'.disks.length=S.disks.length:=by
 obtain ⟨y1,o1,S1,h1,⟨_,_,_,rfl⟩ | ⟨_,h2⟩⟩:=h
 ·exact h1.len
 ·exact h2.len.trans h1.len
theorem PutR.sectors (h:PutR S d o k l hd z o' S'):S'.sectors=S.sectors:=by
 obtain ⟨y1,o1,S1,h1,⟨_,_,_,rfl⟩ | ⟨_,h2⟩⟩:=h
 ·exact h1.sectors
 ·exact h2.sectors.trans h1.sectors
theorem PutR.waits {m:Nat} (h:PutR S d o k l hd z o' S') (hL:∀x∈S.disks,x.waits.length<=m):∀x∈S'.disks,x.waits.length<=m+6:=by
 obtain ⟨y1,o1,S1,h1,⟨_,_,_,rfl⟩ | ⟨_,h2⟩⟩:=h
 ·intro x hx;have:=h1.waits hL x hx;omega
 ·exact h2.waits (h1.waits hL)
end
section
variable {B:Nat} {W w w':World} {g a p d n:Nat} {o:Int} {S S':Sh.Sf} {F:Nat->Prop}
set_option maxRecDepth 20000 in
set_option maxHeartbeats 4000000 in
theorem put_any2 (h:Lg B W w g a p d o S F n) (hT:Tabs W) (hTB:max 0 1+1<=B) (hFl:Flds W) (hFB:4+1<=B) (hd:d<S.disks.length) (k:Nat) (hk:k<n) (hn:n<=8) (hb:2+2*n<=blk S.sectors)
  (x t:Nat) (hx:x<1024) (ht:t<15) (A:Option Addr) (c:Nat) (l:List Nat) (hl:Sh.Sec l) (hA:Sh.Beside w (With F a) A l) {m:Nat} (hL:∀k∈S.disks,k.waits.length<=m) (hm:m<=900000000) :
  Calls Tryz.prog 230 #[.pointer (some ⟨g,0,none⟩),.int .i64 k,.agg #[.int .i64 x,.int .i64 t,.slice A 128 c]] w fun e w'=>∃z:Int,e=.returned (.int .i64 z)/\∃o' S',PutR S d o k l (headL (numF x t (Nums.sum 0 l))) z o' S'/\LGoes B W w w' g a p d o' S' F n:=by
 have hbW:=h.dv.on.bel
 have HSZ:=hid h.dv.on.size
 have hb0:=(show Below w.heap.size w (w.alloc (.cells #[.int .i64 x,.int .i64 t,.slice A 128 c] 240)) from (Below.refl _ _).alloc (Nat.le_refl _) _)
 have hTw:Tabs w:=hT.below hTB hbW
 have hFw:Flds w:=hFl.below hFB hbW
 have hR:=hid (refusal_yes (h.log.same (hb0.block g h.log.lt)) k hk)
 have hE:=hid (encode_ok x t hx ht A c l _ hl.2 ((hA.1.below hb0).more hb0.size) (hTw.below hTw.size hb0) (hFw.below hFw.size hb0))
 have HHS:=hid (headL_small (numF x t (Nums.sum 0 l)))
 have HHL:=hid (headL_length (numF x t (Nums.sum 0 l)))
 have q0:=heap_alloc_new w (.cells #[.int .i64 x,.int .i64 t,.slice A 128 c] 240)
 have hz0:w.heap.size<(w.alloc (.cells #[.int .i64 x,.int .i64 t,.slice A 128 c] 240)).heap.size:=by simp
 have HNB:=hid (show ¬With F a w.heap.size from fun e=>Nat.lt_irrefl _ (h.lt _ e))
 have hk8:k<=1000:=by omega
 generalize headL (numF x t (Nums.sum 0 l))=hL2 at *
 have HD0:=hid (h.grown hb0)
 have HB0:=hid hb0
 obtain ⟨k0,k1,k2,_⟩:=cells3_of q0
 clear hbW hTw hFw hb0
 go_enter Tryz.func230,Tryz.ntmps230
 go_wp2_with fail
 generalize w.alloc (.cells #[.int .i64 x,.int .i64 t,.slice A 128 c] 240)=W0 at *
 refine hR.out.mono ?_
 rintro e w' ⟨rfl,rfl⟩
 go_wp2_with fail
 refine hE.out.mono ?_
 rintro e w1 ⟨v,rfl,gh,rfl,hgh,hrow,b1⟩
 have HD:=hid ((HD0.out.grown b1).grown (w':=w1.drew) ⟨rfl,rfl,rfl,Nat.le_refl _,fun _ _=>rfl⟩)
 have HB1:=hid (HB0.out.trans (b1.mono (Nat.le_of_lt hz0)))
 have Q1:=hid ((b1.block w.heap.size hz0).trans q0)
 have HZ1:=hid (show w.heap.size<w1.drew.heap.size from Nat.lt_of_lt_of_le hz0 b1.size)
 have hA1:Sh.Beside w1.drew (With F a) A l:=⟨(hA.1.below HB1.out).more HB1.out.size,hA.2⟩
 have HW:=hid (dwrite HD.out.dv hT hTB (3+2*k) (by omega) hd l (c:=c) hl hA1 hL (by omega))
 have HROW:=hid (show w1.drew.heap[gh]?=some (.cells (bts hL2).toArray 5 (0,0)) from hrow)
 have HGH:=hid (show w.heap.size<=gh from Nat.le_trans (Nat.le_of_lt hz0) hgh)
 have HLT:=hid h.lt
 clear k0 k1 k2 q0 b1 hz0 hgh hrow hA1 hR hE HD0
 have j0:=fun (W':World) (h:LogIs W' g a n/\W'.heap[w.heap.size]?=some (.cells #[.int .i64 x,.int .i64 t,.slice A 128 c] 240 (0,0)))=>h.1.c0
 have j2:=fun (W':World) (h:LogIs W' g a n/\W'.heap[w.heap.size]?=some (.cells #[.int .i64 x,.int .i64 t,.slice A 128 c] 240 (0,0)))=>(cells3_of h.2).2.2.1
 go_wp2_with fail
 refine wp_region_held_drew (S:=fun (W':World)=>LogIs W' g a n/\W'.heap[w.heap.size]?=some (.cells #[.int .i64 x,.int .i64 t,.slice A 128 c] 240 (0,0))) (by kernel_rfl) ⟨HD.out.log,Q1.out⟩ (fun hHeld=>?_)
 refine tk 0 25 ?_
 refine tk 1 26 ?_
 refine tk 2 27 ?_
 refine tk 3 28 ?_
 refine tk 4 29 ?_
 refine tk 6 31 ?_
 refine tk 7 32 ?_
 refine r1 5 (some 30) fun K hK=>?_
 go_simp
 refine (partAt_any k hk8 _).mono ?_
 rintro e w3 ⟨rfl,rfl⟩
 refine hK.out _ _ (hHeld) (fun hHeld=>?_)
 clear hK K
 try simp only [Act.put,List.setIfInBounds_toArray,List.set_cons_zero,List.set_cons_succ]
 refine r1 8 (some 33) fun K hK=>?_
 go_simp
 refine (HW.out).mono ?_
 rintro e w3 ⟨y,rfl,o1,S1,hW1,hG1⟩
 refine hK.out _ _ (⟨(HD.out.goes hG1).choose_spec.1.log,(goes_only hG1 w.heap.size HZ1.out HNB.out).trans Q1.out⟩) (fun hHeld=>?_)
 clear hK K
 try simp only [Act.put,List.setIfInBounds_toArray,List.set_cons_zero,List.set_cons_succ]
 refine tk 9 10 ?_
 refine wpAnyH_done (by kernel_rfl) ?_ _
 obtain ⟨F1,L1,M1⟩:=HD.out.goes hG1
 have M0:=hid ((moves_below (F:=F) (a:=a) HB1.out).trans ((moves_drew (F:=F) (a:=a) (w:=w1)).trans M1))
 have hnG:¬With F a gh:=fun e=>by have:=HLT.out gh e;have:=HGH.out;omega
 have hgl:gh<w1.drew.heap.size:=(Array.getElem?_eq_some_iff.1 HROW.out).1
 have hrow3:=(M1.1.block gh hgl hnG).trans HROW.out
 have hnG1:¬With F1 a gh:=fun e=>(M1.2 gh e).elim hnG (fun e=>Nat.lt_irrefl _ (Nat.lt_of_lt_of_le hgl e))
 have hsz3:=M1.1.size
 clear hG1 HW HD M1
 by_cases hy:y=0
 ·subst hy
  have hd3:Below w3.heap.size w3 w3.drew:=⟨rfl,rfl,rfl,Nat.le_refl _,fun _ _=>rfl⟩
  have HD2:=hid (L1.grown hd3)
  have hbr:Sh.Beside w3.drew (With F1 a) (some ⟨gh,0,none⟩) hL2:=by
   refine ⟨⟨(bts_length hL2).trans HHL.out,fun _=>⟨_,rfl,?_,fun j u hu=>?_⟩⟩,fun x hx=>by injection hx with hx;rw [<- hx];exact hnG1⟩
   ·show gh<w3.heap.size
    exact (Array.getElem?_eq_some_iff.1 hrow3).1
   ·have e:(⟨gh,0,none⟩:Addr).add j=⟨gh,j,none⟩:=by unfold Addr.add;split<;>simp_all
    rw [e]
    show w3.cell? ⟨gh,j,none⟩=some u
    rw [cell_of_row _ _ j _ _ _ hrow3,List.getElem?_toArray]
    exact hu
  have HW2:=hid (dwrite HD2.out.dv hT hTB (2+2*k) (by rw [hW1.sectors];omega) (by rw [hW1.len];exact hd) hL2 (c:=128) ⟨HHL.out,HHS.out⟩ hbr (hW1.waits hL) (by omega))
  have i0:=fun (W':World) (h:LogIs W' g a n)=>h.c0
  clear hbr hrow3 hnG1 hnG hgl j0 j2 L1
  go_wp2_with fail
  refine wp_region_held_drew (S:=fun (W':World)=>LogIs W' g a n) (by kernel_rfl) HD2.out.log (fun hHeld=>?_)
  refine tk 0 37 ?_
  refine tk 1 38 ?_
  refine tk 2 39 ?_
  refine tk 3 40 ?_
  refine tk 4 41 ?_
  refine tk 6 43 ?_
  refine r1 5 (some 42) fun K hK=>?_
  go_simp
  refine (headAt_any k hk8 _).mono ?_
  rintro e w5 ⟨rfl,rfl⟩
  refine hK.out _ _ (hHeld) (fun hHeld=>?_)
  clear hK K
  try simp only [Act.put,List.setIfInBounds_toArray,List.set_cons_zero,List.set_cons_succ]
  refine r1 7 (some 44) fun K hK=>?_
  go_simp
  refine (HW2.out).mono ?_
  rintro e w5 ⟨y2,rfl,o2,S2,hW2,hG2⟩
  refine hK.out _ _ ((HD2.out.goes hG2).choose_spec.1.log) (fun hHeld=>?_)
  clear hK K
  try simp only [Act.put,List.setIfInBounds_toArray,List.set_cons_zero,List.set_cons_succ]
  refine tk 8 6 ?_
  refine wpAnyH_done (by kernel_rfl) ?_ _
  obtain ⟨F2,L2,M2⟩:=HD2.out.goes hG2
  have M3:=hid (M0.out.trans ((moves_drew (F:=F1) (a:=a) (w:=w3)).trans M2))
  clear hG2 HW2 HD2 M2
  go_wp2_with fail
  go_ret
  exact ⟨y2,rfl,o2,S2,⟨_,_,_,hW1,.inr ⟨rfl,hW2⟩⟩,F2,L2,M3.out⟩
 ·have hq:(y != 0)=true:=by simpa using hy
  have hq2:(y == 0)=false:=by simpa using hy
  go_wp2_with fail
  go_ret
  exact ⟨y,rfl,o1,S1,⟨_,_,_,hW1,.inl ⟨hy,rfl,rfl,rfl⟩⟩,F1,L1,M0.out⟩
set_option maxRecDepth 20000 in
set_option maxHeartbeats 4000000 in
theorem clear_any2 (h:Lg B W w g a p d o S F n) (hT:Tabs W) (hTB:max 0 1+1<=B) (hd:d<S.disks.length) (k:Nat) (hk:k<n) (hn:n<=8) (hb:2+2*n<=blk S.sectors)
  {m:Nat} (hL:∀k∈S.disks,k.waits.length<=m) (hm:m<=900000000) :
  Calls Tryz.prog 201 #[.pointer (some ⟨g,0,none⟩),.int .i64 k] w fun e w'=>∃z:Int,e=.returned (.int .i64 z)/\∃o' S',DW S d o (2+2*k) Sh.noughts z o' S'/\LGoes B W w w' g a p d o' S' F n:=by
 have hR:=hid (refusal_yes h.log k hk)
 have hk8:k<=1000:=by omega
 have HD:=hid (h.grown (w':=w.drew) ⟨rfl,rfl,rfl,Nat.le_refl _,fun _ _=>rfl⟩)
 have HW0:=hid (fun w4 (p4:Pad w4 w.heap.size []) (b4:Below w.heap.size w.drew w4)=>(dwrite (HD.out.grown b4).dv hT hTB (2+2*k) (by omega) hd Sh.noughts (A:=some ⟨w.heap.size,0,none⟩) (c:=128) Sh.noughts_sec ⟨pad_noughts p4,fun x hx=>by injection hx with hx;rw [<- hx];exact fun e=>Nat.lt_irrefl _ (h.lt _ e)⟩ hL (by omega)).mono (fun e w5 ⟨y,h1,o1,S1,h2,h3⟩=>(⟨y,h1,o1,S1,h2,by
  obtain ⟨F1,L1,M1⟩:=(HD.out.grown b4).goes h3
  exact ⟨F1,L1,(moves_drew (F:=F) (a:=a) (w:=w)).trans ((moves_below b4).trans M1)⟩⟩:∃y:Int,e=Ending.returned (.int .i64 y)/\∃o1 S1,DW S d o (2+2*k) Sh.noughts y o1 S1/\LGoes B W w w5 g a p d o1 S1 F n)))
 have i0:=fun (W':World) (h:LogIs W' g a n)=>h.c0
 clear hb hk hd hT h
 go_enter Tryz.func201,Tryz.ntmps201
 go_wp2_with fail
 refine hR.out.mono ?_
 rintro e w' ⟨rfl,rfl⟩
 go_wp2_with fail
 refine wp_region_held_drew (S:=fun (W':World)=>LogIs W' g a n) (by kernel_rfl) HD.out.log (fun hHeld=>?_)
 refine tk 0 12 ?_
 refine tk 1 13 ?_
 refine tk 2 14 ?_
 refine tk 3 15 ?_
 refine tk 4 16 ?_
 refine wpAnyH_ready (rs:=[5,6]) (by kernel_rfl) (by simp) ?_
 refine AllReadyH.cons (o:=⟨some 17,_,_,_,_,_⟩) rfl (fun K hK=>?_) (AllReadyH.cons (o:=⟨some 18,_,_,_,_,_⟩) rfl (fun K hK=>?_) AllReadyH.nil)
 ·go_simp
  refine (headAt_any k hk8 _).mono ?_
  rintro e w3 ⟨rfl,rfl⟩
  refine hK.out _ _ (hHeld) (fun hHeld=>?_)
  clear hK K
  try simp only [Act.put,List.setIfInBounds_toArray,List.set_cons_zero,List.set_cons_succ]
  refine r1 6 (some 18) fun K hK=>?_
  rw [if_pos (by rfl)]
  refine wp_make_noughts _ _ rfl rfl rfl (fun w4 p4 b4=>?_)
  refine hK.out _ _ (hHeld.same (b4.block g hHeld.lt)) (fun hHeld=>?_)
  clear hK K
  try simp only [Act.put,List.setIfInBounds_toArray,List.set_cons_zero,List.set_cons_succ]
  have HW:=hid (HW0.out w4 p4 b4)
  refine r1 7 (some 19) fun K hK=>?_
  go_simp
  refine (HW.out).mono ?_
  rintro e w5 ⟨y,rfl,o1,S1,hW1,G1⟩
  refine hK.out _ _ (G1.choose_spec.1.log) (fun hHeld=>?_)
  clear hK K
  try simp only [Act.put,List.setIfInBounds_toArray,List.set_cons_zero,List.set_cons_succ]
  refine tk 8 4 ?_
  refine wpAnyH_done (by kernel_rfl) ?_ _
  obtain ⟨F1,L1,M1⟩:=G1
  clear HW
  go_wp2_with fail
  go_ret
  exact ⟨y,rfl,o1,S1,hW1,F1,L1,M1⟩
 ·rw [if_pos (by rfl)]
  refine wp_make_noughts _ _ rfl rfl rfl (fun w4 p4 b4=>?_)
  refine hK.out _ _ (hHeld.same (b4.block g hHeld.lt)) (fun hHeld=>?_)
  clear hK K
  try simp only [Act.put,List.setIfInBounds_toArray,List.set_cons_zero,List.set_cons_succ]
  refine r1 5 (some 17) fun K hK=>?_
  go_simp
  refine (headAt_any k hk8 _).mono ?_
  rintro e w3 ⟨rfl,rfl⟩
  refine hK.out _ _ (hHeld) (fun hHeld=>?_)
  clear hK K
  try simp only [Act.put,List.setIfInBounds_toArray,List.set_cons_zero,List.set_cons_succ]
  have HW:=hid (HW0.out w4 p4 b4)
  refine r1 7 (some 19) fun K hK=>?_
  go_simp
  refine (HW.out).mono ?_
  rintro e w5 ⟨y,rfl,o1,S1,hW1,G1⟩
  refine hK.out _ _ (G1.choose_spec.1.log) (fun hHeld=>?_)
  clear hK K
  try simp only [Act.put,List.setIfInBounds_toArray,List.set_cons_zero,List.set_cons_succ]
  refine tk 8 4 ?_
  refine wpAnyH_done (by kernel_rfl) ?_ _
  obtain ⟨F1,L1,M1⟩:=G1
  clear HW
  go_wp2_with fail
  go_ret
  exact ⟨y,rfl,o1,S1,hW1,F1,L1,M1⟩
end
structure Vk where
 B:Nat
 W:World
 v:Nat
 p:Nat
 t:Nat
 n:Nat
 mo:Nat
 mu:Nat
 L:Nat
 a:Nat->Nat
 gn:Nat->Nat
abbrev Set0:=DataW Unit
def Vk.gs (K:Vk):Nat->Option Addr:=fun i=>some ⟨K.gn i,0,none⟩
abbrev SetIs (w:World) (k:TypeId) (b:Nat) (D:Set0):Prop:=w.ownsMap Tryz.prog k (unitElem (H:=Unit)) b (Maps.size D) D
structure Vr (K:Vk) (w:World) (s:SuP) (o:Nat->Int) (S:Sh.Sf) (F:Nat->Prop) (D U:Set0):Prop where
 vo:Vo K.B K.W w K.v K.p K.t K.n K.mo K.mu s ((2+2*K.L:Nat):Int) K.a o K.gs S F
 logs:LogsTo K.B w K.v K.t K.mo K.mu K.n K.a K.gn K.L F K.n
 ne:K.v≠K.t/\K.mo≠K.v/\K.mo≠K.t/\K.mo≠K.mu/\K.mu≠K.v/\K.mu≠K.t
 opens:SetIs w 3 K.mo D
 used:SetIs w 224 K.mu U
def AllV (K:Vk) (F:Nat->Prop) (b:Nat):Prop:=AllB F K.a K.n b\/b=K.v\/b=K.t\/b=K.mo\/b=K.mu
def RGoes (K:Vk) (w w':World) (s:SuP) (o:Nat->Int) (S:Sh.Sf) (F:Nat->Prop) (D U:Set0):Prop :=
 ∃F',Vr K w' s o S F' D U/\Sh.Moves (AllV K F) w (AllV K F') w'
theorem set_same {w w':World} {k:TypeId} {b:Nat} {D:Set0} (h:SetIs w k b D) (hb:w'.heap[b]?=w.heap[b]?):SetIs w' k b D:=by
 obtain ⟨es,c,h1,h2⟩:=h
 exact ⟨es,c,hb.trans h1,h2⟩
theorem set_tight {w:World} {k:TypeId} {b n:Nat} {D:Set0} (h:w.ownsMap Tryz.prog k (unitElem (H:=Unit)) b n D):SetIs w k b D:=by
 obtain ⟨es,c,h1,h2,h3,rfl⟩:=h
 refine ⟨es,c,h1,h2,?_,rfl⟩
 simp [Maps.size,length_sorted]
section
variable {K:Vk} {w w' w'':World} {s:SuP} {o o':Nat->Int} {S S':Sh.Sf} {F F':Nat->Prop} {D U D' U':Set0}
theorem Vr.lt (h:Vr K w s o S F D U):∀b,AllV K F b->b<w.heap.size:=by
 rintro b (e | rfl | rfl | rfl | rfl)
 ·exact h.vo.ds.lt b e
 ·exact h.vo.vol.vlt
 ·exact h.vo.vol.tlt
 ·exact h.vo.lt.1
 ·exact h.vo.lt.2
theorem Vr.bel (h:Vr K w s o S F D U):Below K.B K.W w:=h.vo.ds.on.bel
theorem Vr.size (h:Vr K w s o S F D U):K.B<=w.heap.size:=h.vo.ds.on.size
theorem Vr.grown (h:Vr K w s o S F D U) (hb:Below w.heap.size w w'):Vr K w' s o S F D U :=
 ⟨h.vo.grown hb,⟨fun i hi=>(h.logs.log i hi).same (hb.block _ (h.logs.log i hi).lt),h.logs.apart,h.logs.low⟩,h.ne,set_same h.opens (hb.block _ h.vo.lt.1),set_same h.used (hb.block _ h.vo.lt.2)⟩
theorem RGoes.here (h:Vr K w s o S F D U) (hb:Below w.heap.size w w'):RGoes K w w' s o S F D U :=
 ⟨F,h.grown hb,⟨hb.os,hb.tape,hb.output,hb.size,fun k hk _=>hb.block k hk⟩,fun _ hb=>.inl hb⟩
theorem RGoes.trans (m:Sh.Moves (AllV K F) w (AllV K F') w') (k:RGoes K w' w'' s o S F' D U):RGoes K w w'' s o S F D U:=by
 obtain ⟨F2,V2,m2⟩:=k
 exact ⟨F2,V2,m.trans m2⟩
theorem moves_grown {G:Nat->Prop} (hb:Below w.heap.size w w'):Sh.Moves G w G w':=⟨⟨hb.os,hb.tape,hb.output,hb.size,fun k hk _=>hb.block k hk⟩,fun _ hb=>.inl hb⟩
theorem Vr.goesV (h:Vr K w s o S F D U) (hG:VGoes K.B K.W w w' K.v K.p K.t K.n K.mo K.mu s ((2+2*K.L:Nat):Int) K.a o' K.gs S' F):RGoes K w w' s o' S' F D U:=by
 obtain ⟨F',V,m⟩:=hG
 have hk:∀b,b<w.heap.size->¬AllB F K.a K.n b->w'.heap[b]?=w.heap[b]?:=fun b hb hx=>m.1.block b hb hx
 have hn:∀b,b<w.heap.size->¬AllB F K.a K.n b->¬AllB F' K.a K.n b:=fun b hb hx e=>(m.2 b e).elim hx (fun e=>by omega)
 refine ⟨F',⟨V,⟨fun i hi=>(h.logs.log i hi).same (hk _ (h.logs.log i hi).lt (h.logs.apart i hi).1),fun i hi=>⟨hn _ (h.logs.log i hi).lt (h.logs.apart i hi).1,(h.logs.apart i hi).2⟩,h.logs.low⟩,h.ne,set_same h.opens (hk _ h.vo.lt.1 fun e=>(h.vo.apart _ e).2.2.1 rfl),set_same h.used (hk _ h.vo.lt.2 fun e=>(h.vo.apart _ e).2.2.2 rfl)⟩,m.1.mono fun b hb=>.inl hb,?_⟩
 rintro b (e | e)
 ·exact (m.2 b e).imp .inl id
 ·exact .inl (.inr e)
theorem Vr.goes (h:Vr K w s o S F D U) {i:Nat} (hi:i<K.n) {x:Int} (hG:Goes K.B K.W w w' (K.a i) K.p i x S' F):RGoes K w w' s (put1 o i x) S' F D U:=h.goesV (h.vo.goes (h.vo.ds.goes hi hG))
theorem put1_same (f:Nat->Int) (i:Nat):put1 f i (f i)=f:=by
 funext j
 unfold put1
 split
 ·rename_i e;rw [e]
 ·rfl
def RStay (K:Vk) (w w':World) (s:SuP) (o:Nat->Int) (S:Sh.Sf) (F:Nat->Prop) (D U:Set0):Prop:=Vr K w' s o S F D U/\Sh.Only (AllV K F) w w'
theorem Vr.stays (h:Vr K w s o S F D U) {i:Nat} (hD:Dv K.B K.W w' (K.a i) K.p i (o i) S' F) (ho:Sh.Only F w w'):RStay K w w' s o S' F D U:=by
 have hk:∀b,b<w.heap.size->¬AllB F K.a K.n b->w'.heap[b]?=w.heap[b]?:=fun b hb hx=>ho.block b hb fun e=>hx (.inl e)
 have hv:=h.vo.vol.kept (hk _ h.vo.vol.vlt fun e=>(h.vo.apart _ e).1 rfl) (hk _ h.vo.vol.tlt fun e=>(h.vo.apart _ e).2.1 rfl)
 refine ⟨⟨⟨h.vo.ds.stays hD.on.shelf ho,hv,h.vo.apart,h.vo.low,⟨Nat.lt_of_lt_of_le h.vo.lt.1 ho.size,Nat.lt_of_lt_of_le h.vo.lt.2 ho.size⟩⟩,⟨fun i hi=>(h.logs.log i hi).same (hk _ (h.logs.log i hi).lt (h.logs.apart i hi).1),h.logs.apart,h.logs.low⟩,h.ne,set_same h.opens (hk _ h.vo.lt.1 fun e=>(h.vo.apart _ e).2.2.1 rfl),set_same h.used (hk _ h.vo.lt.2 fun e=>(h.vo.apart _ e).2.2.2 rfl)⟩,ho.mono fun b hb=>.inl (.inl hb)⟩
theorem RStay.goes (h:RStay K w w' s o S F D U):RGoes K w w' s o S F D U:=⟨F,h.1,h.2,fun _ hb=>.inl hb⟩
theorem RStay.here (h:Vr K w s o S F D U) (hb:Below w.heap.size w w'):RStay K w w' s o S F D U:=⟨h.grown hb,only_below _ hb⟩
theorem RStay.trans (h:Sh.Only (AllV K F) w w') (k:RStay K w' w'' s o S F D U):RStay K w w'' s o S F D U:=⟨k.1,h.trans k.2 fun _ e=>.inl e⟩
theorem Vr.dv (h:Vr K w s o S F D U) {i:Nat} (hi:i<K.n):Dv K.B K.W w (K.a i) K.p i (o i) S F:=h.vo.ds.dv hi
theorem Vr.lg (h:Vr K w s o S F D U) {i:Nat} (hi:i<K.n):Lg K.B K.W w (K.gn i) (K.a i) K.p i (o i) S F K.L :=
 ⟨h.dv hi,h.logs.log i hi,fun e=>(h.logs.apart i hi).1 (e.imp id fun e=>⟨i,hi,e⟩),h.logs.low i hi⟩
theorem Vr.turn (h:Vr K w s o S F D U) {x:Nat} (hx:x=K.mo\/x=K.mu) (ho:Sh.Only (fun b=>b=x) w w') (h1:SetIs w' 3 K.mo D') (h2:SetIs w' 224 K.mu U'):RGoes K w w' s o S F D' U':=by
 obtain ⟨n1,n2,n3,n4,n5,n6⟩:=h.ne
 have hnx:∀b,AllB F K.a K.n b->b≠x:=fun b hb=>by rcases hx with rfl | rfl;exact (h.vo.apart b hb).2.2.1;exact (h.vo.apart b hb).2.2.2
 have hk:∀b,b<w.heap.size->b≠x->w'.heap[b]?=w.heap[b]?:=fun b hb hx=>ho.block b hb hx
 have hB:K.B<=x:=by obtain ⟨l1,l2,l3,l4⟩:=h.vo.low;rcases hx with rfl | rfl<;>assumption
 have hgx:∀i,i<K.n->K.gn i≠x:=fun i hi=>by
  obtain ⟨_,_,_,g3,g4⟩:=h.logs.apart i hi
  rcases hx with rfl | rfl<;>assumption
 have hvx:K.v≠x:=by rcases hx with rfl | rfl<;>omega
 have htx:K.t≠x:=by rcases hx with rfl | rfl<;>omega
 have hbel:Below K.B K.W w':=h.bel.trans (ho.below (fun b e=>by rw [e];exact hB) h.size)
 refine ⟨F,⟨⟨⟨⟨h.vo.ds.on.shelf.only ho (fun b hb e=>hnx b (.inl hb) e),h.vo.ds.on.low,hbel,Nat.le_trans h.size ho.size⟩,fun i hi=>(h.vo.ds.dev i hi).same (hk _ (h.vo.ds.dev i hi).lt (hnx _ (.inr ⟨i,hi,rfl⟩))),h.vo.ds.apart,h.vo.ds.inj,h.vo.ds.low⟩,h.vo.vol.kept (hk _ h.vo.vol.vlt hvx) (hk _ h.vo.vol.tlt htx),h.vo.apart,h.vo.low,⟨Nat.lt_of_lt_of_le h.vo.lt.1 ho.size,Nat.lt_of_lt_of_le h.vo.lt.2 ho.size⟩⟩,⟨fun i hi=>(h.logs.log i hi).same (hk _ (h.logs.log i hi).lt (hgx i hi)),h.logs.apart,h.logs.low⟩,h.ne,h1,h2⟩,ho.mono fun b e=>?_,fun b hb=>.inl hb⟩
 subst e
 rcases hx with rfl | rfl
 ·exact .inr (.inr (.inr (.inl rfl)))
 ·exact .inr (.inr (.inr (.inr rfl)))
theorem only_turned {x:Nat} (h:w.mapTurned w' x):Sh.Only (fun b=>b=x) w w':=by
 have g:=h.grown
 exact ⟨g.os,g.tape,g.output,g.size,fun k hk hn=>g.block k hk (fun e=>hn (by injection e))⟩
theorem Vr.turnOpen (h:Vr K w s o S F D U) (ht:w.mapTurned w' K.mo) {c:Nat} (hs:w'.ownsMap Tryz.prog 3 (unitElem (H:=Unit)) K.mo c D'):RGoes K w w' s o S F D' U:=by
 obtain ⟨n1,n2,n3,n4,n5,n6⟩:=h.ne
 exact h.turn (.inl rfl) (only_turned ht) (set_tight hs) (set_same h.used ((only_turned ht).block _ h.vo.lt.2 (Ne.symm n4)))
theorem Vr.turnUsed (h:Vr K w s o S F D U) (ht:w.mapTurned w' K.mu) {c:Nat} (hs:w'.ownsMap Tryz.prog 224 (unitElem (H:=Unit)) K.mu c U'):RGoes K w w' s o S F D U':=by
 obtain ⟨n1,n2,n3,n4,n5,n6⟩:=h.ne
 exact h.turn (.inr rfl) (only_turned ht) (set_same h.opens ((only_turned ht).block _ h.vo.lt.1 n4)) (set_tight hs)
theorem beside_disk {A:Option Addr} {l:Sh.Bs} (h:Sh.Beside w (AllV K F) A l) {i:Nat} (hi:i<K.n):Sh.Beside w (With F (K.a i)) A l :=
 ⟨h.1,fun x hx e=>h.2 x hx (.inl (e.imp id fun e=>⟨i,hi,e⟩))⟩
theorem Vr.beside_new (h:Vr K w s o S F D U) {A:Option Addr} {l:Sh.Bs} (hb:Sh.Bytes w w' A l):Sh.Beside w' (AllV K F) A l :=
 ⟨hb.1,fun x hx e=>by
  have:=(hb.2 x hx).1
  have:=h.lt _ e
  omega⟩
end
structure Fits (n L:Nat) (s:SuP) (M St:Nat) (S:Sh.Sf):Prop where
 mem:s.mem=(M:Int)
 str:s.str=(St:Int)
 logs:s.logs=(L:Int)
 m3:3<=M
 m16:M<=16
 s1:1<=St
 s2:St<=1024
 l1:1<=L
 l2:L<=8
 cnt:n=M\/n=M+1
 spare:s.spare=-1\/(n=M+1/\0<=s.spare/\s.spare<(M:Int))
 mark:0<=s.mark/\s.mark<=(St:Int)
 len:S.disks.length=n
 need:2+2*L+St<=blk S.sectors
theorem Fits.same {n L M St:Nat} {s:SuP} {S S':Sh.Sf} (h:Fits n L s M St S) (h1:S'.disks.length=S.disks.length) (h2:S'.sectors=S.sectors):Fits n L s M St S' :=
 ⟨h.mem,h.str,h.logs,h.m3,h.m16,h.s1,h.s2,h.l1,h.l2,h.cnt,h.spare,h.mark,h1.trans h.len,by rw [h2];exact h.need⟩
def numOf (s:SuP) (M st m:Nat):Nat:=if (m:Int)=s.spare/\(st:Int)<s.mark then M else m
theorem Fits.num_lt {n L M St:Nat} {s:SuP} {S:Sh.Sf} (h:Fits n L s M St S) (st:Nat) {m:Nat} (hm:m<M):numOf s M st m<n:=by
 unfold numOf
 have:=h.cnt
 have:=h.spare
 split
 ·rename_i e;omega
 ·omega
/-! ### reads -/
def tog (s:SuP) (M k st:Nat) (tk:Nat->Bool) (S:Sh.Sf):Nat->Sh.Sf × Sh.Bs × Int
 | 0=>(S,Sh.noughts,0)
 | j+1 =>
  let r:=tog s M k st tk S j
  if r.2.2≠0\/tk j=false then r
  else (Looked r.1 (numOf s M st j),if rdY r.1 (numOf s M st j) k=0 then xorL r.2.1 (V r.1 (numOf s M st j) (dataOf k)) else r.2.1,
   if rdY r.1 (numOf s M st j) k=0 then 0 else if rdY r.1 (numOf s M st j) k=4\/rdY r.1 (numOf s M st j) k=5 then 10 else rdY r.1 (numOf s M st j) k)
section
variable {s:SuP} {M k st:Nat} {tk:Nat->Bool} {S:Sh.Sf}
theorem tog_stop {j n:Nat} (h:(tog s M k st tk S j).2.2≠0) (hj:j<=n):tog s M k st tk S n=tog s M k st tk S j:=by
 induction n with
 | zero =>
      have:j=0:=by omega
      rw [this]
 | succ n ih =>
  by_cases e:j=n+1
  ·rw [e]
  ·have e2:=ih (by omega)
   show (if (tog s M k st tk S n).2.2≠0\/tk n=false then _ else _)=_
   rw [if_pos (.inl (by rw [e2];exact h)),e2]
theorem tog_skip {j:Nat} (h:tk j=false):tog s M k st tk S (j+1)=tog s M k st tk S j:=if_pos (.inr h)
theorem tog_take {j:Nat} (h:(tog s M k st tk S j).2.2=0) (ht:tk j=true):tog s M k st tk S (j+1)=(Looked (tog s M k st tk S j).1 (numOf s M st j),if rdY (tog s M k st tk S j).1 (numOf s M st j) k=0 then xorL (tog s M k st tk S j).2.1 (V (tog s M k st tk S j).1 (numOf s M st j) (dataOf k)) else (tog s M k st tk S j).2.1,
   if rdY (tog s M k st tk S j).1 (numOf s M st j) k=0 then 0 else if rdY (tog s M k st tk S j).1 (numOf s M st j) k=4\/rdY (tog s M k st tk S j).1 (numOf s M st j) k=5 then 10 else rdY (tog s M k st tk S j).1 (numOf s M st j) k) :=
 if_neg (fun e=>e.elim (fun e=>e h) (fun e=>by rw [ht] at e;cases e))
theorem tog_same (j:Nat):Same S (tog s M k st tk S j).1:=by
 induction j with
 | zero=>exact Same.refl S
 | succ j ih =>
  unfold tog
  simp only
  split
  ·exact ih
  ·exact ih.looked _
end
theorem Same.why {S T:Sh.Sf} (h:Same S T) (d:Nat):Sh.why T d=Sh.why S d:=by unfold Sh.why;rw [h.disks,h.off]
theorem Same.rdY {S T:Sh.Sf} (h:Same S T) (d k:Nat):rdY T d k=U.rdY S d k:=by unfold U.rdY;rw [h.why,h.good]
theorem Same.len {S T:Sh.Sf} (h:Same S T):T.disks.length=S.disks.length:=by rw [h.disks]
theorem Same.trans {S T R:Sh.Sf} (h:Same S T) (k:Same T R):Same S R:=⟨k.disks.trans h.disks,k.sectors.trans h.sectors,k.off.trans h.off,k.left.trans h.left⟩
/-! ### a set of slots -/
def slotKey (d k:Nat):Lit:=.string (keyBytes [.int .i64 (d:Int),.int .i64 (k:Int)])
def slotsTo (L j k:Nat):List (Nat × Nat):=(List.range j).flatMap (fun d=>(List.range L).map fun x=>(d,x))++(List.range k).map fun x=>(j,x)
theorem slotsTo_succ (L j k:Nat):slotsTo L j (k+1)=slotsTo L j k++[(j,k)]:=by simp [slotsTo,List.range_succ]
theorem slotsTo_next (L j:Nat):slotsTo L (j+1) 0=slotsTo L j L:=by simp [slotsTo,List.range_succ]
structure Stt where
 S:Sh.Sf
 o:Nat->Int
def ClrStep (U:Set0) (x:Nat × Nat) (a:Stt) (y:Int) (b:Stt):Prop :=
 (Maps.has U (slotKey x.1 x.2)=false/\y=0/\b=a) \/
 (Maps.has U (slotKey x.1 x.2)=true/\∃z z',DW a.S x.1 (a.o x.1) (2+2*x.2) Sh.noughts z z' b.S/\y=bd z/\b.o=put1 a.o x.1 z')
inductive ClrSteps (U:Set0):List (Nat × Nat)->Stt->Stt->Prop
 | nil (a:Stt):ClrSteps U [] a a
 | snoc {l:List (Nat × Nat)} {x:Nat × Nat} {a b c:Stt}:ClrSteps U l a b->ClrStep U x b 0 c->ClrSteps U (l++[x]) a c
def ClrR (n L:Nat) (U:Set0) (a:Stt) (y:Int) (b:Stt):Prop :=
 (y=0/\ClrSteps U (slotsTo L n 0) a b)\/(y≠0/\∃j k c,j<n/\k<L/\ClrSteps U (slotsTo L j k) a c/\ClrStep U (j,k) c y b)
theorem ClrStep.len {U:Set0} {x:Nat × Nat} {a b:Stt} {y:Int} (h:ClrStep U x a y b):b.S.disks.length=a.S.disks.length/\b.S.sectors=a.S.sectors:=by
 rcases h with ⟨_,_,rfl⟩ | ⟨_,z,z',h,_,_⟩
 ·exact ⟨rfl,rfl⟩
 ·exact ⟨h.len,h.sectors⟩
theorem ClrStep.waits {U:Set0} {x:Nat × Nat} {a b:Stt} {y:Int} {m:Nat} (h:ClrStep U x a y b) (hL:∀x∈a.S.disks,x.waits.length<=m):∀x∈b.S.disks,x.waits.length<=m+3:=by
 rcases h with ⟨_,_,rfl⟩ | ⟨_,z,z',h,_,_⟩
 ·intro x hx;have:=hL x hx;omega
 ·exact h.waits hL
theorem ClrSteps.len {U:Set0} {l:List (Nat × Nat)} {a b:Stt} (h:ClrSteps U l a b):b.S.disks.length=a.S.disks.length/\b.S.sectors=a.S.sectors:=by
 induction h with
 | nil=>exact ⟨rfl,rfl⟩
 | snoc _ k ih=>exact ⟨k.len.1.trans ih.1,k.len.2.trans ih.2⟩
theorem ClrSteps.waits {U:Set0} {l:List (Nat × Nat)} {a b:Stt} {m:Nat} (h:ClrSteps U l a b) (hL:∀x∈a.S.disks,x.waits.length<=m):∀x∈b.S.disks,x.waits.length<=m+3*l.length:=by
 induction h with
 | nil=>simpa using hL
 | snoc _ k ih =>
  intro x hx
  have:=k.waits (ih hL) x hx
  simp only [List.length_append,List.length_singleton]
  omega
theorem slotsTo_length (L j k:Nat):(slotsTo L j k).length=j*L+k:=by
 unfold slotsTo
 rw [List.length_append,List.length_map,List.length_range]
 congr 1
 induction j with
 | zero=>simp
 | succ j ih=>rw [List.range_succ,List.flatMap_append,List.length_append,ih];simp [Nat.succ_mul]
theorem ClrR.len {n L:Nat} {U:Set0} {a b:Stt} {y:Int} (h:ClrR n L U a y b):b.S.disks.length=a.S.disks.length/\b.S.sectors=a.S.sectors:=by
 rcases h with ⟨_,h⟩ | ⟨_,j,k,c,_,_,h,h2⟩
 ·exact h.len
 ·exact ⟨h2.len.1.trans h.len.1,h2.len.2.trans h.len.2⟩
theorem fdS_sectors (S:Sh.Sf) (k:Nat):(fdS S k).1.sectors=S.sectors:=by
 induction k with
 | zero=>rfl
 | succ k ih =>
  unfold fdS
  split
  ·exact (fl_sectors _ _).trans ih
  ·exact ih
theorem fdS_lens {S:Sh.Sf} {m:Nat} (hL:∀x∈S.disks,x.waits.length<=m) (k:Nat):∀x∈(fdS S k).1.disks,x.waits.length<=m:=by
 induction k with
 | zero=>exact hL
 | succ k ih =>
  unfold fdS
  split
  ·exact fl_lens ih
  ·exact ih
abbrev noSet:Set0:=.map []
inductive FlR (n L:Nat) (D U:Set0) (S:Sh.Sf):Int->Stt->Set0->Set0->Prop
 | first (o':Nat->Int):(fdS S n).2≠0->FlR n L D U S (fdS S n).2 ⟨(fdS S n).1,o'⟩ D U
 | slots (o1:Nat->Int) (y:Int) (b:Stt):(fdS S n).2=0->Maps.size U≠0->ClrR n L U ⟨(fdS S n).1,o1⟩ y b->y≠0->FlR n L D U S y b D U
 | again (o1 o':Nat->Int) (b:Stt):(fdS S n).2=0->Maps.size U≠0->ClrR n L U ⟨(fdS S n).1,o1⟩ 0 b->(fdS b.S n).2≠0->FlR n L D U S (fdS b.S n).2 ⟨(fdS b.S n).1,o'⟩ D U
 | none (o':Nat->Int):(fdS S n).2=0->Maps.size U=0->FlR n L D U S 0 ⟨(fdS S n).1,o'⟩ noSet noSet
 | all (o1 o':Nat->Int) (b:Stt):(fdS S n).2=0->Maps.size U≠0->ClrR n L U ⟨(fdS S n).1,o1⟩ 0 b->(fdS b.S n).2=0->FlR n L D U S 0 ⟨(fdS b.S n).1,o'⟩ noSet noSet
section
variable {n L m:Nat} {D U D' U':Set0} {S:Sh.Sf} {y:Int} {b:Stt}
theorem ClrR.waits {a:Stt} (h:ClrR n L U a y b) (hn:n<=17) (h8:L<=8) (hL:∀x∈a.S.disks,x.waits.length<=m):∀x∈b.S.disks,x.waits.length<=m+408:=by
 rcases h with ⟨_,h⟩ | ⟨_,j,k,c,hj,hk,h,h2⟩
 ·intro x hx
  have:=h.waits hL x hx
  rw [slotsTo_length] at this
  have:n*L<=17*8:=Nat.mul_le_mul hn h8
  omega
 ·intro x hx
  have:=h2.waits (h.waits hL) x hx
  rw [slotsTo_length] at this
  have:(j+1)*L<=17*8:=Nat.mul_le_mul (by omega) h8
  rw [Nat.succ_mul] at this
  omega
theorem FlR.len (h:FlR n L D U S y b D' U'):b.S.disks.length=S.disks.length/\b.S.sectors=S.sectors:=by
 cases h with
 | first o' h=>exact ⟨fdS_length S n,fdS_sectors S n⟩
 | slots o1 y b h1 h2 h3 h4=>exact ⟨h3.len.1.trans (fdS_length S n),h3.len.2.trans (fdS_sectors S n)⟩
 | again o1 o' b h1 h2 h3 h4=>exact ⟨(fdS_length _ n).trans (h3.len.1.trans (fdS_length S n)),(fdS_sectors _ n).trans (h3.len.2.trans (fdS_sectors S n))⟩
 | none o' h1 h2=>exact ⟨fdS_length S n,fdS_sectors S n⟩
 | all o1 o' b h1 h2 h3 h4=>exact ⟨(fdS_length _ n).trans (h3.len.1.trans (fdS_length S n)),(fdS_sectors _ n).trans (h3.len.2.trans (fdS_sectors S n))⟩
theorem FlR.waits (h:FlR n L D U S y b D' U') (hn:n<=17) (h8:L<=8) (hL:∀x∈S.disks,x.waits.length<=m):∀x∈b.S.disks,x.waits.length<=m+408:=by
 have h0:=fdS_lens hL n
 cases h with
 | first o' h=>intro x hx;have:=h0 x hx;omega
 | slots o1 y b h1 h2 h3 h4=>exact h3.waits hn h8 h0
 | again o1 o' b h1 h2 h3 h4=>exact fdS_lens (h3.waits hn h8 h0) n
 | none o' h1 h2=>intro x hx;have:=h0 x hx;omega
 | all o1 o' b h1 h2 h3 h4=>exact fdS_lens (h3.waits hn h8 h0) n
theorem FlR.sets (h:FlR n L D U S y b D' U') (hD:Maps.size D<=m) (hU:Maps.size U<=m):Maps.size D'<=m/\Maps.size U'<=m:=by
 cases h with
 | first o' h=>exact ⟨hD,hU⟩
 | slots o1 y b h1 h2 h3 h4=>exact ⟨hD,hU⟩
 | again o1 o' b h1 h2 h3 h4=>exact ⟨hD,hU⟩
 | none o' h1 h2=>exact ⟨Nat.zero_le _,Nat.zero_le _⟩
 | all o1 o' b h1 h2 h3 h4=>exact ⟨Nat.zero_le _,Nat.zero_le _⟩
end
section
variable {w:World} {v p t n mo mu:Nat} {s:SuP} {base:Int} {a:Nat->Nat} {g:Nat->Option Addr}
theorem numberOf_ok (h:VolIs w v p t n mo mu s base a g) {M:Nat} (hm:s.mem=(M:Int)) (st m:Nat) :
  Calls Tryz.prog 196 #[.pointer (some ⟨v,0,none⟩),.int .i64 st,.int .i64 m] w fun e w'=>e=.returned (.int .i64 (numOf s M st m:Nat))/\w=w':=by
 have c2:=cell_of_row _ _ 2 _ _ _ h.root
 have c6:=cell_of_row _ _ 6 _ _ _ h.root
 have c7:=cell_of_row _ _ 7 _ _ _ h.root
 simp only [List.getElem?_toArray,List.getElem?_cons_zero,List.getElem?_cons_succ] at c2 c6 c7
 rw [hm] at c2
 unfold numOf
 generalize s.spare=sp at *
 generalize s.mark=mk at *
 clear h hm
 by_cases h1:(m:Int)=sp
 ·have q1:((m:Int) == sp)=true:=by simpa using h1
  by_cases h2:(st:Int)<mk
  ·rw [if_pos ⟨h1,h2⟩]
   subst h1
   clear q1
   go_enter Tryz.func196,Tryz.ntmps196
   go_wp2
   go_ret
   exact ⟨rfl,rfl⟩
  ·rw [if_neg (fun e=>h2 e.2)]
   have q2:decide ((st:Int)<mk)=false:=by simpa using h2
   subst h1
   clear q1 h2
   go_enter Tryz.func196,Tryz.ntmps196
   go_wp2
   go_ret
   exact ⟨rfl,rfl⟩
 ·have q1:((m:Int) == sp)=false:=by rw [beq_eq_false_iff_ne];exact h1
  rw [if_neg (fun e=>h1 e.1)]
  clear h1
  go_enter Tryz.func196,Tryz.ntmps196
  go_wp2
  go_ret
  exact ⟨rfl,rfl⟩
end
theorem isLacking_any (y:Int) (w:World):Calls Tryz.prog 152 #[.int .i64 y] w fun e w'=>e=.returned (.bool (decide (y=4\/y=5)))/\w=w':=by
 by_cases h4:y=4
 ·subst h4
  go_enter Tryz.func152,Tryz.ntmps152
  go_wp2
  go_ret
  exact ⟨rfl,rfl⟩
 ·by_cases h5:y=5
  ·subst h5
   go_enter Tryz.func152,Tryz.ntmps152
   go_wp2
   go_ret
   exact ⟨rfl,rfl⟩
  ·have q4:(y == 4)=false:=by rw [beq_eq_false_iff_ne];exact h4
   have q5:(y == 5)=false:=by rw [beq_eq_false_iff_ne];exact h5
   rw [show decide (y=4\/y=5)=false by simp [h4,h5]]
   clear h4 h5
   go_enter Tryz.func152,Tryz.ntmps152
   go_wp2
   go_ret
   exact ⟨rfl,rfl⟩
theorem rxor_ok (A C:Option Addr) (c d:Nat) (x y:List Nat) (w:World) (hx:Small x) (hy:Small y) (hrx:Reads w w.heap.size A 128 (bts x)) (hry:Reads w w.heap.size C 128 (bts y)) :
  Calls Tryz.prog 198 #[.slice A 128 c,.slice C 128 d] w fun e w'=>∃E f,e=.returned (.slice E 128 f)/\w'.ownsRow w.heap.size 5 1 (.slice E 128 f) 128 (bts (xorL x y))/\Below w.heap.size w w':=by
 have hl:(xorL x y).length=128:=by
  have:=hrx.len
  unfold xorL
  rw [tab_length]
  exact this
 have HX:=hid (xor_ok A C 128 c d w.heap.size x y w hx hy hrx hry (Nat.le_refl _) (by omega))
 clear hrx hry
 go_enter Tryz.func198,Tryz.ntmps198
 go_wp2_with fail
 refine HX.out.mono ?_
 rintro e w' ⟨vv,rfl,hown,hb⟩
 rw [hl] at hown
 obtain ⟨E,f,rfl⟩:∃E f,vv=.slice E 128 f:=by
  obtain ⟨E,f,h,_⟩:=own_shape hown
  exact ⟨E,f,h⟩
 have HO:=hid hown
 have HB:=hid hb
 clear hown hb hl
 go_wp2
 go_ret
 exact ⟨E,f,rfl,HO.out,HB.out⟩
theorem xorL_small {x y:List Nat} (hx:Small x) (hy:Small y):Small (xorL x y):=by
 exact tab_small fun i _=>Nat.xor_lt_two_pow (n:=8) (hx.get i) (hy.get i)
theorem xorL_sec {x y:List Nat} (hx:Sh.Sec x) (hy:Sh.Sec y):Sh.Sec (xorL x y):=⟨by unfold xorL;rw [tab_length];exact hx.1,xorL_small hx.2 hy.2⟩
end Go.Proofs.YtcnjpmcelihknaaGreatDoor.U
