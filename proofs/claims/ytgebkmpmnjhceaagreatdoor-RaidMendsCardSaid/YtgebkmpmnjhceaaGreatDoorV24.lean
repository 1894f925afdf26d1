/-
  What the statement's proof rests on, part 24.
  Conditions: each theorem's own.
-/
import Derived.Test.YtgebkmpmnjhceaaGreatDoorV23
import Derived.Test.YtgebkmpmnjhceaaGreatDoorV14
open Go.Lib (hid)
open Go.Proofs.YtgebkmpmnjhceaaGreatDoor.S renaming Sup → SuP
namespace Go.Proofs.YtgebkmpmnjhceaaGreatDoor.U
open Go.RowKit Go.Maps
structure Same (S T:Sh.Sf):Prop where
 disks:T.disks=S.disks
 sectors:T.sectors=S.sectors
 off:T.off=S.off
 left:T.left=S.left
theorem Same.refl (S:Sh.Sf):Same S S:=⟨rfl,rfl,rfl,rfl⟩
theorem Same.looked {S T:Sh.Sf} (h:Same S T) (d:Nat):Same S (Looked T d) :=
 ⟨(looked_disks T d).trans h.disks,(looked_sectors T d).trans h.sectors,(looked_off T d).1.trans h.off,(looked_off T d).2.trans h.left⟩
theorem Same.calm {S T:Sh.Sf} (h:Same S T) {d:Nat} (c:Calm S d):Calm T d:=by
 obtain ⟨c1,c2,c3,c4,c5⟩:=c
 exact ⟨by rw [h.disks];exact c1,h.off.trans c2,h.left.trans c3,by rw [h.disks];exact c4,by rw [h.disks,h.sectors];exact c5⟩
theorem Same.V {S T:Sh.Sf} (h:Same S T) (d n:Nat):U.V T d n=U.V S d n:=by unfold U.V;rw [h.disks]
theorem Same.good {S T:Sh.Sf} (h:Same S T) (d k:Nat):goodAt T d k=goodAt S d k:=by unfold goodAt;rw [h.V,h.V]
def Calms (S:Sh.Sf) (n:Nat):Prop:=∀d,d<n->Calm S d
theorem calm_fl {S:Sh.Sf} {d e:Nat} (c:Calm S d) (h:Calm S e):Calm (Fl S d) e:=by
 by_cases he:e=d
 ·subst he;exact c.fl
 ·have hg:=fl_getD S d c.lt c.why e
  rw [if_neg he] at hg
  have hf:=c.fl
  obtain ⟨_,f2,f3,_,_⟩:=hf
  obtain ⟨h1,_,_,h4,h5⟩:=h
  exact ⟨by rw [fl_length];exact h1,f2,f3,by rw [hg];exact h4,by rw [hg,fl_sectors];exact h5⟩
theorem fdS_calm {S:Sh.Sf} {n:Nat} (h:Calms S n) {k:Nat} (hk:k<=n):(fdS S k).2=0/\Calms (fdS S k).1 n:=by
 induction k with
 | zero=>exact ⟨rfl,h⟩
 | succ k ih =>
  obtain ⟨h1,h2⟩:=ih (by omega)
  rw [fdS_succ S h1]
  refine ⟨?_,fun d hd=>calm_fl (h2 k (by omega)) (h2 d hd)⟩
  show bd (Sh.why (fdS S k).1 k)=0
  rw [(h2 k (by omega)).why]
  rfl
section
variable {B:Nat} {W w w':World} {v p t n mo mu:Nat} {s:SuP} {base:Int} {a:Nat->Nat} {o:Nat->Int} {g:Nat->Option Addr} {S S':Sh.Sf} {F:Nat->Prop}
theorem Vo.reads (h:Vo B W w v p t n mo mu s base a o g S F) {i:Nat} (hD:Dv B W w' (a i) p i (o i) S' F) (ho:Sh.Only F w w'):VGoes B W w w' v p t n mo mu s base a o g S' F :=
 h.goes ⟨F,h.ds.stays hD.on.shelf ho,ho.mono fun _ hb=>.inl hb,fun _ hb=>.inl hb⟩
def NoRel (B:Nat) (W w wr:World) (v p t n mo mu:Nat) (s:SuP) (base:Int) (a:Nat->Nat) (o:Nat->Int) (g:Nat->Option Addr) (S:Sh.Sf) (F:Nat->Prop):Prop :=
 ∃T,Same S T/\VGoes B W w wr v p t n mo mu s base a o g T F
theorem noughts_calm (h:Vo B W w v p t n mo mu s base a o g S F) (hT:Tabs W) (hTB:max 0 1+1<=B) (hn:S.disks.length=n) (hL:∀k∈S.disks,k.waits.length<1099511627776) (hc:Calms S n)
  (x:SuP) (str logs:Nat) (hx1:x.str=(str:Int)) (hx2:x.logs=(logs:Int)) (h1:1<=logs) (h2:logs<=8) (h3:1<=str) (h4:str<=1024) (hb:2+2*logs+str<=blk S.sectors)
  (hz:∀d,d<n->∀k,k<2+2*logs+str->goodAt S d k=true/\V S d (dataOf k)=Sh.noughts) :
  Calls Tryz.prog 61 #[.pointer (some ⟨v,0,none⟩),x.val] w fun e w'=>e=.returned (.int .i64 0)/\∃o' T,Same S T/\VGoes B W w w' v p t n mo mu s base a o' g (fdS T n).1 F:=by
 have h17:n<=17:=by
  obtain ⟨D,gs,q⟩:=h.ds.on.shelf
  have:=q.most
  omega
 have hnd:=hid (need_ok str logs h1 h2 h3 h4)
 have hbw:Below w.heap.size w (w.alloc (.cells x.cells 69)):=(Below.refl _ _).alloc (Nat.le_refl _) _
 have hrel0:Hid (NoRel B W w (w.alloc (.cells x.cells 69)) v p t n mo mu s base a o g S F):=hid ⟨S,Same.refl S,VGoes.here h hbw⟩
 have q0:=heap_alloc_new w (.cells x.cells 69)
 have c3:=cell_of_row _ _ 3 _ _ _ q0
 have c4:=cell_of_row _ _ 4 _ _ _ q0
 have hv:=hid (h.vol.vlt)
 unfold Go.Proofs.YtgebkmpmnjhceaaGreatDoor.S.Sup.val
 simp only [Go.Proofs.YtgebkmpmnjhceaaGreatDoor.S.Sup.cells,List.getElem?_toArray,List.getElem?_cons_zero,List.getElem?_cons_succ,hx1,hx2] at *
 generalize hN:2+2*logs+str=need at *
 have hneed:need<=1042:=by omega
 clear hN h h1 h2 h3 h4 hx1 hx2
 go_enter Tryz.func61,Tryz.ntmps61
 go_wp2_with (go_at_call 92;refine (hnd.out _).mono ?_;rintro e w' ⟨rfl,rfl⟩)
 clear q0 c3 c4 hnd hbw
 generalize w.alloc _=w0 at *
 go_loopw [23] (fun i wr=>∃k:Nat,k<=need/\i=.int .i64 k/\Hid (NoRel B W w wr v p t n mo mu s base a o g S F)) (fun i _=>need-(intOf i).toNat)
 case atStart=>exact ⟨0,Nat.zero_le _,rfl,hrel0⟩
 case round =>
  obtain ⟨k,hk,rfl,hrel⟩:=hrel
  by_cases hkt:k<need
  ·obtain ⟨T0,_,F0,V0,_⟩:=hrel.out
   have c10:=V0.vol.c10
   clear V0
   go_wp2
   clear c10
   go_loopw [31] (fun i wr=>∃j:Nat,j<=n/\i=.int .i64 j/\Hid (NoRel B W w wr v p t n mo mu s base a o g S F)) (fun i _=>n-(intOf i).toNat)
   case atStart=>exact ⟨0,Nat.zero_le _,rfl,hrel⟩
   case round =>
    obtain ⟨j,hj,rfl,hrel⟩:=hrel
    by_cases hlt:j<n
    ·obtain ⟨T,hS,F1,V1,M1⟩:=hrel.out
     have d0:=V1.vol.dev hlt
     have d1:=V1.vol.log hlt
     have hbw:Below wr.heap.size wr (wr.alloc (.cells #[.pointer (some ⟨a j,0,none⟩),.pointer (g j)] 98)):=(Below.refl _ _).alloc (Nat.le_refl _) _
     have hl:=heap_alloc_new wr (.cells #[.pointer (some ⟨a j,0,none⟩),.pointer (g j)] 98)
     have V2:=V1.grown hbw
     obtain ⟨z1,z2⟩:=hz j hlt k hkt
     have HNO:=hid (nought_calm (V2.ds.dv hlt) hT hTB (hS.calm (hc j hlt)) k (by rw [hS.sectors];omega) (by rw [hS.good];exact z1) (by rw [hS.V];exact z2) (g j))
     have M2:Sh.Moves (AllB F a n) w (AllB F1 a n) (wr.alloc (.cells #[.pointer (some ⟨a j,0,none⟩),.pointer (g j)] 98)):=M1.trans ⟨⟨hbw.os,hbw.tape,hbw.output,hbw.size,fun k hk _=>hbw.block k hk⟩,fun _ hb=>.inl hb⟩
     have KEEP:=hid (And.intro hS (And.intro V2 M2))
     clear hbw V1 M1 V2 hrel M2 hS z1 z2
     have l0:=cell_of_row _ _ 0 _ _ _ hl
     have l1:=cell_of_row _ _ 1 _ _ _ hl
     simp only [List.getElem?_toArray,List.getElem?_cons_zero,List.getElem?_cons_succ] at l0 l1
     clear hl
     go_wp2_with fail
     refine HNO.out.mono ?_
     rintro e w2 ⟨rfl,hD,hO⟩
     obtain ⟨hS,V2,M2⟩:=KEEP.out
     have HG:=hid (show NoRel B W w w2 v p t n mo mu s base a o g S F from ⟨_,hS.looked j,VGoes.trans M2 (V2.reads hD hO)⟩)
     clear hD hO hS V2 M2 KEEP d0 d1 l0 l1 HNO
     go_wp2
     go_roundw
     case rel=>exact ⟨j+1,by omega,by go_num,HG⟩
     case measure=>simp [intOf];omega
    ·obtain rfl:j=n:=by omega
     go_wp2
     go_roundw
     case rel=>exact ⟨k+1,by omega,by go_num,hrel⟩
     case measure=>simp [intOf];omega
  ·obtain rfl:k=need:=by omega
   obtain ⟨T,hS,F1,V1,M1⟩:=hrel.out
   have HFD:=hid (flushDisks_any V1 (by rw [hS.disks];exact hn) (by rw [hS.disks];exact hL))
   have hz0:=(fdS_calm (S:=T) (n:=n) (fun d hd=>hS.calm (hc d hd)) (Nat.le_refl n)).1
   rw [hz0] at HFD
   have KEEP:=hid (And.intro hS M1)
   clear hrel hS V1 M1 hz0
   go_wp2_with (go_at_call 30;refine HFD.out.mono ?_;rintro e w2 ⟨rfl,o',hG⟩)
   go_ret
   exact ⟨rfl,o',T,KEEP.out.1,VGoes.trans KEEP.out.2 hG⟩
end
def Alike (d:Nat) (S T:Sh.Sf):Prop:=T.disks.length=S.disks.length/\∀e,e≠d->T.disks.getD e default=S.disks.getD e default
theorem Alike.refl (d:Nat) (S:Sh.Sf):Alike d S S:=⟨rfl,fun _ _=>rfl⟩
theorem Alike.trans {d:Nat} {S T U:Sh.Sf} (h:Alike d S T) (k:Alike d T U):Alike d S U:=⟨k.1.trans h.1,fun e he=>(k.2 e he).trans (h.2 e he)⟩
theorem getD_set_ne {l:List Sh.Dk} {d e:Nat} (x:Sh.Dk) (h:e≠d):(l.set d x).getD e default=l.getD e default:=by
 simp [List.getD,List.getElem?_set_ne (Ne.symm h)]
theorem alike_wr (S:Sh.Sf) (d n:Nat) (b:Sh.Bs):Alike d S (Wr S d n b):=by
 unfold Wr
 split
 ·exact ⟨List.length_set,fun e he=>getD_set_ne _ he⟩
 ·exact Alike.refl d S
theorem alike_fl (S:Sh.Sf) (d:Nat):Alike d S (Fl S d):=by
 unfold Fl
 split
 ·exact ⟨List.length_set,fun e he=>getD_set_ne _ he⟩
 ·exact Alike.refl d S
theorem alike_looked (S:Sh.Sf) (d c:Nat):Alike d S (Looked S c):=⟨by rw [looked_disks],fun e _=>by rw [looked_disks]⟩
theorem alike_ready (S:Sh.Sf) (d:Nat) (o:Int) (k:Nat) (g:Bool) (s sum:Nat) (v:Sh.Bs) (b:Sh.Bs):Alike d S (ReadyQ (Looked S d) d o k g s sum v b):=by
 unfold ReadyQ
 refine Alike.trans (Alike.trans ?_ (alike_wr _ d _ _)) (alike_fl _ d)
 have h1:Alike d S (flIf (Looked S d) d o k):=by
  refine (alike_looked S d d).trans ?_
  unfold flIf
  split
  ·exact alike_fl _ d
  ·exact Alike.refl d _
 refine h1.trans ?_
 unfold spIf
 split
 ·exact (alike_wr _ d _ _).trans (alike_fl _ d)
 ·exact Alike.refl d _
structure Sured (S:Sh.Sf) (d k:Nat) (b:Sh.Bs) (P:Cs) (m:Nat) (y:Int) (o':Int) (S':Sh.Sf):Prop where
 jp:Jp S' d o' (fun c=>P c\/(S.off=false/\c=upd (vals (dk S d)) k b))
 done:y=0->Jp S' d o' (fun c=>c=upd (vals (dk S d)) k b)/\vals (dk S' d)=upd (vals (dk S d)) k b/\(dk S' d).waits=[]
 now:S'.off=false->y=0
 on:S'.off=false->S.off=false
 sectors:S'.sectors=S.sectors
 calm:Calm S d->y=0/\Calm S' d
 len:∀x∈S'.disks,x.waits.length<=m+2
 alike:Alike d S S'
section
variable {B:Nat} {W w:World} {a p d:Nat} {o:Int} {S:Sh.Sf} {F:Nat->Prop} {P:Cs}
theorem fl_on {S:Sh.Sf} {d:Nat} (h1:One S d) (h:(Fl S d).off=false):S.off=false:=by
 by_cases hw:Sh.why S d=0
 ·exact h1.why0.mp hw
 ·unfold Fl at h
  rw [if_neg hw] at h
  exact h
theorem sured_no {k m:Nat} {b:Sh.Bs} {y o':Int} {S1:Sh.Sf} (hw:Wrote S d k b P m y o' S1) (ha:Alike d S S1) (hy:y≠0):Sured S d k b P m y o' S1 :=
 ⟨hw.jp,fun e=>absurd e hy,fun e=>(hw.now e).2,hw.on,hw.sectors,hw.calm,hw.len,ha⟩
theorem sured_yes {k m:Nat} {b:Sh.Bs} {o':Int} {S1:Sh.Sf} (hw:Wrote S d k b P m 0 o' S1) (ha:Alike d S S1):Sured S d k b P m (Sh.why S1 d) (shut (Sh.why S1 d) o') (Fl S1 d):=by
 have h1:=hw.jp.one
 have hsec:(Fl S1 d).sectors=S.sectors:=(fl_sectors S1 d).trans hw.sectors
 have hlen:=fl_lens (d:=d) hw.len
 by_cases hon:S1.off=false
 ·have h0:=h1.why0.mpr hon
  obtain ⟨hn,_⟩:=hw.now hon
  obtain ⟨j1,j2,j3⟩:=hw.jp.flush hon (shut (Sh.why S1 d) o')
  rw [hn] at j1 j2
  exact ⟨j1.more fun c e=>.inr ⟨hw.on hon,e⟩,fun _=>⟨j1,j2,j3⟩,fun _=>h0,fun _=>hw.on hon,hsec,fun hc=>⟨h0,(hw.calm hc).2.fl⟩,hlen,ha.trans (alike_fl S1 d)⟩
 ·have hne:Sh.why S1 d≠0:=fun e=>hon (h1.why0.mp e)
  have e:Fl S1 d=S1:=if_neg hne
  rw [e] at hsec hlen ⊢
  refine ⟨hw.jp.off_any hon _,fun e=>absurd e hne,fun e=>absurd e hon,fun e=>absurd e hon,hsec,fun hc=>absurd (hw.calm hc).2.on hon,hlen,ha⟩
theorem write_jp2 (h:Dv B W w a p d o S F) (hT:Tabs W) (hTB:max 0 1+1<=B) (hj:Jp S d o P) (k:Nat) (hk:k<blk S.sectors) (b:Sh.Bs) {A:Option Addr} {c:Nat} {m:Nat}
  (hb:Sh.Sec b) (hA:Sh.Beside w (With F a) A b) (hL:∀k∈S.disks,k.waits.length<=m) (hm:m<=1000000) :
  Calls Tryz.prog 75 #[.pointer (some ⟨a,0,none⟩),.int .i64 k,.slice A 128 c] w fun e w'=>∃y:Int,e=.returned (.int .i64 y)/\∃o' S',Wrote S d k b P m y o' S'/\Alike d S S'/\Goes B W w w' a p d o' S' F:=by
 by_cases hw:Sh.why S d=0
 ·refine (write_done h hT hTB k hk hj.one.lt hw b hb hA (fun k hk=>by have:=hL k hk;omega)).mono ?_
  rintro e w' ⟨b',o',_,_,rfl,h0,_,hG⟩
  have hon:=hj.one.why0.mp hw
  have hg:=hj.good hon k hk
  rw [hg] at h0 hG ⊢
  have hv:=V_sec h.on.shelf hj.one.lt (n:=dataOf k) (sum_of_lt hk).1
  obtain ⟨j1,j2⟩:=hj.write hon k hk b b' hb.2 hv.2 h0
  have hse:(Wr (ReadyQ (Looked S d) d o k true (sumL d k (V S d (dataOf k))) (sumL d k b) (V S d (sumOf k)) b') d (dataOf k) b).sectors=S.sectors:=by
   rw [wr_sectors]
   unfold ReadyQ
   rw [fl_sectors,wr_sectors,spIf_sectors,flIf_sectors,looked_sectors]
  refine ⟨_,rfl,o',_,⟨j1.more (fun c e=>e.imp id (fun e=>⟨hon,e⟩)),fun e=>⟨j2 e,?_⟩,fun _=>hon,hse,fun hc=>?_,?_⟩,((alike_ready S d o k true _ _ _ b').trans (alike_wr _ d _ b)),hG⟩
  ·have hww:=j1.one.why0.mpr e
   by_cases hq:Sh.why (ReadyQ (Looked S d) d o k true (sumL d k (V S d (dataOf k))) (sumL d k b) (V S d (sumOf k)) b') d=0
   ·exact hq
   ·rw [wr_why hq] at hww;exact absurd hww hq
  ·obtain ⟨r1,_,_⟩:=ready_over hc o k hk b b'
   unfold Ready at r1
   rw [hg] at r1
   refine ⟨r1.calm.why,r1.calm.wr _ _⟩
  ·refine wr_lens (m:=m+1) (fl_lens ?_)
   refine wr_lens ?_
   have e:∀s x,spIf (flIf (Looked S d) d o k) d k true s x b'=flIf (Looked S d) d o k:=fun s x=>by unfold spIf;rw [if_neg (fun h=>by simp at h)]
   rw [e]
   have hlk:∀k∈(Looked S d).disks,k.waits.length<=m:=by rw [looked_disks];exact hL
   unfold flIf
   split
   ·exact fl_lens hlk
   ·exact hlk
 ·refine (write_why h k hk hj.one.lt hw A c).mono ?_
  rintro e w' ⟨rfl,hb⟩
  have hoff:S.off≠false:=fun e=>hw (hj.one.why0.mpr e)
  refine ⟨_,rfl,o,S,⟨hj.more (fun c e=>.inl e),fun e=>absurd e hoff,id,rfl,fun hc=>absurd hc.on hoff,fun k hk=>by have:=hL k hk;omega⟩,Alike.refl d S,F,h.grown hb,moves_below hb⟩
theorem sure_jp (h:Dv B W w a p d o S F) (hT:Tabs W) (hTB:max 0 1+1<=B) (hj:Jp S d o P) (k:Nat) (hk:k<blk S.sectors) (b:Sh.Bs) {A:Option Addr} {c:Nat} {m:Nat}
  (hb:Sh.Sec b) (hA:Sh.Beside w (With F a) A b) (hL:∀k∈S.disks,k.waits.length<=m) (hm:m<=1000000) (g:Option Addr) :
  Calls Tryz.prog 111 #[.agg #[.pointer (some ⟨a,0,none⟩),.pointer g],.int .i64 k,.slice A 128 c] w fun e w'=>∃y:Int,e=.returned (.int .i64 y)/\∃o' S',Sured S d k b P m y o' S'/\Goes B W w w' a p d o' S' F:=by
 have hbw:Below w.heap.size w (w.alloc (.cells #[.pointer (some ⟨a,0,none⟩),.pointer g] 98)):=(Below.refl _ _).alloc (Nat.le_refl _) _
 have hl:=heap_alloc_new w (.cells #[.pointer (some ⟨a,0,none⟩),.pointer g] 98)
 have hlt:=with_lt h
 have HWR:=hid (write_jp2 (c:=c) (h.grown hbw) hT hTB hj k hk b hb (hA.grown hbw) hL hm)
 have l0:=cell_of_row _ _ 0 _ _ _ hl
 simp only [List.getElem?_toArray,List.getElem?_cons_zero] at l0
 have HLT:=hid hlt
 have HB:=hid hbw
 have HL2:=hid hl
 have HM:=hid hm
 clear h hb hA hL hl hbw hlt hk hj hm
 go_enter Tryz.func111,Tryz.ntmps111
 go_wp2_with fail
 refine HWR.out.mono ?_
 rintro e w1 ⟨y,rfl,o1,S1,hW,hA1,F1,D1,M1⟩
 have hrow:w1.heap[w.heap.size]?=_:=(M1.1.block w.heap.size (lt_of_block HL2.out) (fun e=>Nat.lt_irrefl _ (HLT.out _ e))).trans HL2.out
 have k0:=cell_of_row _ _ 0 _ _ _ hrow
 simp only [List.getElem?_toArray,List.getElem?_cons_zero] at k0
 have M0:Sh.Moves (With F a) w (With F1 a) w1:=(moves_below HB.out).trans M1
 by_cases h0:y=0
 ·subst h0
  have HFL:=hid (flush_dev D1 hW.jp.one.lt (fun x hx=>by have:=hW.len x hx;have:=HM.out;omega))
  have KEEP:=hid (And.intro (sured_yes hW hA1) M0)
  generalize shut (Sh.why S1 d) o1=o2 at *
  generalize Sh.why S1 d=y2 at *
  clear hW hA1 D1 M1 M0 hrow l0 HWR
  go_wp2_with fail
  refine HFL.out.mono ?_
  rintro e w2 ⟨rfl,F2,D2,M2⟩
  go_wp2
  go_ret
  exact ⟨y2,rfl,o2,_,KEEP.out.1,F2,D2,KEEP.out.2.trans M2⟩
 ·have hq:(y == 0)=false:=by rw [beq_eq_false_iff_ne];exact h0
  have KEEP:=hid (And.intro (sured_no hW hA1 h0) (And.intro D1 M0))
  clear hW hA1 D1 M1 M0 hrow l0 HWR h0
  go_wp2
  go_ret
  exact ⟨y,rfl,o1,S1,KEEP.out.1,F1,KEEP.out.2.1,KEEP.out.2.2⟩
end
section
variable {B:Nat} {W w:World} {v p t n mo mu:Nat} {s:SuP} {base:Int} {a:Nat->Nat} {o:Nat->Int} {g:Nat->Option Addr} {S:Sh.Sf} {F:Nat->Prop}
theorem sup_cells {w:World} {q:Nat} {x:SuP} (h:w.heap[q]?=some (.cells x.cells 69 (0,0))) :
  w.cell? ⟨q,0,none⟩=some (.int .i64 x.gen)/\w.cell? ⟨q,1,none⟩=some (.int .i64 x.mem)/\w.cell? ⟨q,2,none⟩=some (.int .i64 x.disk)/\w.cell? ⟨q,3,none⟩=some (.int .i64 x.str)/\w.cell? ⟨q,4,none⟩=some (.int .i64 x.logs)/\w.cell? ⟨q,5,none⟩=some (.int .i64 x.spare)/\w.cell? ⟨q,6,none⟩=some (.int .i64 x.mark)/\w.cell? ⟨q,7,none⟩=some (.int .i64 x.cur) :=
 ⟨cell_of_row _ _ 0 _ _ _ h,cell_of_row _ _ 1 _ _ _ h,cell_of_row _ _ 2 _ _ _ h,cell_of_row _ _ 3 _ _ _ h,cell_of_row _ _ 4 _ _ _ h,cell_of_row _ _ 5 _ _ _ h,cell_of_row _ _ 6 _ _ _ h,cell_of_row _ _ 7 _ _ _ h⟩
def Fit (n:Nat) (x:SuP):Prop:=((n:Int)=x.mem/\x.spare=-1)\/(n:Int)=x.mem+1
set_option maxRecDepth 20000 in
theorem fits_yes (h:Vo B W w v p t n mo mu s base a o g S F) (hn:S.disks.length=n) (x:SuP) (str logs:Nat) (hx1:x.str=(str:Int)) (hx2:x.logs=(logs:Int)) (h1:1<=logs) (h2:logs<=8) (h3:1<=str) (h4:str<=1024)
  (hr:x.right=true) (hf:Fit n x) (hb:2+2*logs+str<=blk S.sectors) :
  Calls Tryz.prog 58 #[.pointer (some ⟨v,0,none⟩),x.val] w fun e w'=>e=.returned (.bool true)/\Below w.heap.size w w':=by
 have h17:n<=17/\1<=n:=by
  obtain ⟨D,gs,q⟩:=h.ds.on.shelf
  have:=q.most
  have:=q.some_
  omega
 have hnd:=hid (need_ok str logs h1 h2 h3 h4)
 have hri:=hid (fun w=>Go.Proofs.YtgebkmpmnjhceaaGreatDoor.S.right_any x w)
 rw [hr] at hri
 have hbw:Below w.heap.size w (w.alloc (.cells x.cells 69)):=(Below.refl _ _).alloc (Nat.le_refl _) _
 have hq:=hid (heap_alloc_new w (.cells x.cells 69))
 have H:=hid h
 have HN:=hid hn
 have HF:=hid hf
 have HB:=hid hb
 have hcs:=sup_cells hq.out
 simp only [hx1,hx2] at hcs
 obtain ⟨c0,c1,c2,c3,c4,c5,c6,c7⟩:=hcs
 unfold Go.Proofs.YtgebkmpmnjhceaaGreatDoor.S.Sup.val at *
 have HW:=hid hbw
 have hgrow:∀w2,Below (w.alloc (.cells x.cells 69)).heap.size (w.alloc (.cells x.cells 69)) w2->w2.cell? ⟨w.heap.size,1,none⟩=some (.int .i64 x.mem)/\w2.cell? ⟨w.heap.size,5,none⟩=some (.int .i64 x.spare)/\w2.cell? ⟨v,10,none⟩=some (.slice (some ⟨t,0,none⟩) n n)/\w2.cell? ⟨t,0,none⟩=some (.pointer (some ⟨a 0,0,none⟩))/\Hid (∀k,Calls Tryz.prog 94 #[.pointer (some ⟨a 0,0,none⟩)] (w2.drewN k) fun e w'=>e=.returned (.int .i64 ((blk S.sectors:Nat):Int))/\∃n,w'=(w2.drewN k).drewN n)/\Below w.heap.size w w2:=by
  intro w2 hb2
  have hb3:=HW.out.trans (hb2.mono HW.out.size)
  have V2:=H.out.grown hb3
  have hrow:=(hb2.block w.heap.size (lt_of_block hq.out)).trans hq.out
  obtain ⟨_,k1,_,_,_,k5,_⟩:=sup_cells hrow
  have hd:=V2.vol.dev (j:=0) (by omega)
  exact ⟨k1,k5,V2.vol.c10,by simpa using hd,hid (fun k=>by
   have V3:=V2.grown (w':=w2.drewN k) (drawn (Below.refl _ w2) k)
   exact count_of (V3.ds.dv (i:=0) (by omega)).dev V3.ds.on.shelf (secM_of V3.ds.on.shelf)),hb3⟩
 have HG:=hid hgrow
 generalize hN:2+2*logs+str=need at *
 generalize hBK:blk S.sectors=bk at *
 have hge:decide (need<=bk)=true:=by simp;omega
 clear hgrow hbw h hn hb hN hBK hr h1 h2 h3 h4 hq hf
 obtain ⟨x0,x1,x2,x3,x4,x5,x6,x7⟩:=x
 simp only at hx1 hx2
 subst hx1 hx2
 simp only [Go.Proofs.YtgebkmpmnjhceaaGreatDoor.S.Sup.cells] at *
 go_enter Tryz.func58,Tryz.ntmps58
 go_wp2_with (first
  | (go_at_call 92;refine (hnd.out _).mono ?_;rintro e w' ⟨rfl,rfl⟩)
  | (go_at_call 93;refine (hri.out _).mono ?_;rintro e w2 ⟨rfl,hb2⟩;clear c0 c1 c2 c3 c4 c5 c6 c7;obtain ⟨k1,k5,k10,kd,HC,hb3⟩:=HG.out w2 hb2))
 rcases HF.out with ⟨e1,e2⟩ | e1
 ·simp only at e1 e2
  subst e2
  have hs0:(n:Int)-x1=0:=by omega
  clear hri HG HW HF hnd HB e1
  go_quiet (fail)
  go_wp2_with (go_at_call 94;refine (HC.out _).mono ?_;rintro e w' ⟨rfl,m,rfl⟩)
  go_ret
  exact ⟨rfl,drawn hb3 _⟩
 ·simp only at e1
  have hs0:(n:Int)-x1=1:=by omega
  clear hri HG HW HF hnd HB e1
  go_quiet (fail)
  go_wp2_with (go_at_call 94;refine (HC.out _).mono ?_;rintro e w' ⟨rfl,m,rfl⟩)
  go_ret
  exact ⟨rfl,drawn hb3 _⟩
end
end Go.Proofs.YtgebkmpmnjhceaaGreatDoor.U
