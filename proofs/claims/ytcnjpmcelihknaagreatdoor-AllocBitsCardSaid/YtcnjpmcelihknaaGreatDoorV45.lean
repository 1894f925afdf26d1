/-
  What the statement's proof rests on, part 45.
  Conditions: each theorem's own.
-/
import Derived.Test.YtcnjpmcelihknaaGreatDoorV31
import Derived.Test.YtcnjpmcelihknaaGreatDoorV41
import Derived.Test.YtcnjpmcelihknaaGreatDoorV42
import Derived.Test.YtcnjpmcelihknaaGreatDoorV40
namespace Go.Proofs.YtcnjpmcelihknaaGreatDoor.U
open Go.RowKit Go.Maps
structure Rs where
 S:Sh.Sf
 o:Nat->Int
 F:Nat->Prop
 D:Set0
 U:Set0
 g:Gh
def ownR (J:Vk) (F:Nat->Prop) (b:Nat):Prop:=b<J.B\/AllV J F b\/∃i,i<J.n/\b=J.gn i
structure IsR (J:Vk) (A:Ar) (w:World) (x:Rs) (k:Nat):Prop where
 vr:Vr J w A.s x.o x.S x.F x.D x.U
 oi:Oi A x.S x.o x.g x.D x.U
 ld:Ld A x.S x.g
 pw:Pw x.S
 few:∃m,Few x.S x.D x.U m/\m+1000*k<=400000000
def contR (A:Ar) (x:Rs) (m:Nat):Sh.Bs:=x.g.dat (stOf A.M m) (meOf A.M m)
structure Giv (J:Vk) (A:Ar):Prop where
 n:A.n=J.n
 l:A.L=J.L
 said:Said A
 tabs:Tabs J.W
 tb:max 0 1+1<=J.B
 flds:Flds J.W
 fb:4+1<=J.B
section
variable {J:Vk} {A:Ar} {w w':World} {x:Rs} {k:Nat}
theorem gn_lt {s:Go.Proofs.YtcnjpmcelihknaaGreatDoor.S.Sup} {o:Nat->Int} {S:Sh.Sf} {F:Nat->Prop} {D U:Set0} (h:Vr J w s o S F D U) {i:Nat} (hi:i<J.n):J.gn i<w.heap.size:=World.block_lt_of_cell? w _ (h.logs.log i hi).c0
theorem IsR.fits (h:IsR J A w x k) (hG:Giv J A):Fits J.n J.L A.s A.M A.St x.S:=by rw [<- hG.n,<- hG.l];exact fits_ci h.oi.fi.ci hG.said
theorem IsR.lt (h:IsR J A w x k):∀b,ownR J x.F b->b<w.heap.size:=by
 rintro b (e | e | ⟨i,hi,rfl⟩)
 ·exact Nat.lt_of_lt_of_le e h.vr.size
 ·exact h.vr.lt b e
 ·exact gn_lt h.vr hi
theorem Vr.only_tab2 {s:Go.Proofs.YtcnjpmcelihknaaGreatDoor.S.Sup} {o:Nat->Int} {S:Sh.Sf} {F:Nat->Prop} {D U:Set0} {X:Nat->Prop} (h:Vr J w s o S F D U) (ho:Sh.Only X w w') (hx2:∀b,AllV J F b->¬X b) (hbel:Below J.B J.W w') (hg:∀i,i<J.n->w'.heap[J.gn i]?=w.heap[J.gn i]?):Vr J w' s o S F D U:=by
 have hk:∀b,b<w.heap.size->¬X b->w'.heap[b]?=w.heap[b]?:=fun b hb hx=>ho.block b hb hx
 exact ⟨⟨⟨⟨h.vo.ds.on.shelf.only ho (fun b hb e=>hx2 b (.inl (.inl hb)) e),h.vo.ds.on.low,hbel,Nat.le_trans h.size ho.size⟩,fun i hi=>(h.vo.ds.dev i hi).same (hk _ (h.vo.ds.dev i hi).lt (hx2 _ (.inl (.inr ⟨i,hi,rfl⟩)))),h.vo.ds.apart,h.vo.ds.inj,h.vo.ds.low⟩,h.vo.vol.kept (hk _ h.vo.vol.vlt (hx2 _ (.inr (.inl rfl)))) (hk _ h.vo.vol.tlt (hx2 _ (.inr (.inr (.inl rfl))))),h.vo.apart,h.vo.low,⟨Nat.lt_of_lt_of_le h.vo.lt.1 ho.size,Nat.lt_of_lt_of_le h.vo.lt.2 ho.size⟩⟩,⟨fun i hi=>(h.logs.log i hi).same (hg i hi),h.logs.apart,h.logs.low⟩,h.ne,set_same h.opens (hk _ h.vo.lt.1 (hx2 _ (.inr (.inr (.inr (.inl rfl)))))),set_same h.used (hk _ h.vo.lt.2 (hx2 _ (.inr (.inr (.inr (.inr rfl))))))⟩
theorem IsR.stays {X:Nat->Prop} (h:IsR J A w x k) (ho:Sh.Only X w w') (hX:∀b,X b->¬ownR J x.F b):IsR J A w' x k :=
 ⟨h.vr.only_tab2 ho (fun b hb e=>hX b e (.inr (.inl hb))) (h.vr.bel.trans (ho.below (fun b hb=>Nat.le_of_not_lt fun e=>hX b hb (.inl e)) h.vr.size)) (fun i hi=>ho.block _ (gn_lt h.vr hi) fun e=>hX _ e (.inr (.inr ⟨i,hi,rfl⟩))),h.oi,h.ld,h.pw,h.few⟩
theorem IsR.less (h:IsR J A w x k) {k':Nat} (hk:k'<=k):IsR J A w x k':=by
 obtain ⟨m,h1,h2⟩:=h.few
 exact ⟨h.vr,h.oi,h.ld,h.pw,m,h1,by omega⟩
theorem movesR {F F':Nat->Prop} (hm:Sh.Moves (AllV J F) w (AllV J F') w'):Sh.Moves (ownR J F) w (ownR J F') w' :=
 ⟨hm.1.mono fun b hb=>.inr (.inl hb),by
  rintro b (e | e | e)
  ·exact .inl (.inl e)
  ·exact (hm.2 b e).imp (fun q=>.inr (.inl q)) id
  ·exact .inl (.inr (.inr e))⟩
theorem besideR {F:Nat->Prop} {a:Option Addr} {b:Sh.Bs} (h:Sh.Beside w (ownR J F) a b):Sh.Beside w (AllV J F) a b:=⟨h.1,fun ad ha e=>h.2 ad ha (.inr (.inl e))⟩
theorem IsR.size (h:IsR J A w x k) (hG:Giv J A):Calls Tryz.prog 140 #[.pointer (some ⟨J.v,0,none⟩)] w fun e w'=>e=.returned (.int .i64 ((A.St*(A.M-1):Nat):Int))/\Below w.heap.size w w':=vsize h.vr (h.fits hG)
theorem IsR.read (h:IsR J A w x (k+1)) (hG:Giv J A) (m:Nat) (hm:m<A.St*(A.M-1)):Calls Tryz.prog 84 #[.pointer (some ⟨J.v,0,none⟩),.int .i64 (m:Int)] w fun e w' =>
  ∃(y:Int) (a:Option Addr) (len cap:Nat) (X:Sh.Bs) (x':Rs),e=.returned (.tuple #[.slice a len cap,.int .i64 y])/\(y=0/\X=contR A x m/\∀j,contR A x' j=contR A x j)/\IsR J A w' x' k/\Sh.Moves (ownR J x.F) w (ownR J x'.F) w' /\
   ((y=0/\len=128/\Sh.Bytes w w' a X/\Sh.Sec X/\∀ad,a=some ad->¬ownR J x'.F ad.block)\/(y≠0/\a=none/\len=0/\cap=0)):=by
 obtain ⟨mm,hf,hmm⟩:=h.few
 refine (vRead_any h.vr (h.fits hG) hG.tabs hG.tb (m:Int) hf.waits (by omega)).mono ?_
 rintro e w' ⟨y,a,len,cap,rfl,X,t,F',hR,hV,hmv,hcase⟩
 have hR2:RdR A.L A.s A.M A.St (m:Int) x.S x.o y X t:=by rw [hG.l];exact hR
 obtain ⟨hy,hX,hd,ho⟩:=h.oi.read h.ld hm hR2
 refine ⟨y,a,len,cap,X,⟨t.S,t.o,F',x.D,x.U,x.g⟩,rfl,⟨hy,hX,fun _=>rfl⟩,⟨hV,ho,fun st q hs hq hl=>(hd _).trans (h.ld st q hs hq hl),h.pw.rdR hR2,mm+1000,hf.read hR2,by omega⟩,movesR hmv,?_⟩
 rcases hcase with ⟨e1,e2,hb,hs,hno⟩ | q
 ·refine .inl ⟨e1,e2,hb,hs,fun ad ha e=>?_⟩
  rcases e with e | e | ⟨i,hi,e⟩
  ·have:=(hb.2 ad ha).1
   have:=h.vr.size
   omega
  ·exact hno ad ha e
  ·have:=(hb.2 ad ha).1
   have:=gn_lt h.vr hi
   omega
 ·exact .inr q
theorem IsR.write (h:IsR J A w x (k+1)) (hG:Giv J A) (m:Nat) {a:Option Addr} {b:Sh.Bs} (c:Nat) (hm:m<A.St*(A.M-1)) (hA:Sh.Beside w (ownR J x.F) a b) (hb:Sh.Sec b):Calls Tryz.prog 80 #[.pointer (some ⟨J.v,0,none⟩),.int .i64 (m:Int),.slice a 128 c] w fun e w' =>
  ∃(y:Int) (x':Rs),e=.returned (.int .i64 y)/\(y=0/\∀j,j<A.St*(A.M-1)->contR A x' j=if j=m then b else contR A x j)/\IsR J A w' x' k/\Sh.Moves (ownR J x.F) w (ownR J x'.F) w':=by
 obtain ⟨mm,hf,hmm⟩:=h.few
 have h3:=h.oi.fi.ci.ar.m3
 refine (vWrite_any h.vr (h.fits hG) hG.tabs hG.tb hG.flds hG.fb (m:Int) hb (besideR hA) hf.waits hf.opens.2 hf.used (by omega)).mono ?_
 rintro e w' ⟨y,rfl,t,D',U',hW,F',hV,hmv⟩
 have hW2:WrR A.n A.L A.s A.M A.St (m:Int) b x.D x.U x.S x.o y t D' U':=by rw [hG.n,hG.l];exact hW
 have hp:=h.pw.wrR hW2
 obtain ⟨hd,⟨hy,g',hg,_,ho⟩ | ⟨_,hoff,_⟩⟩:=h.oi.write h.ld (isMap_set h.vr.opens) (isMap_set h.vr.used) hm hb hW2
 ·refine ⟨y,⟨t.S,t.o,F',D',U',g'⟩,rfl,⟨hy,fun j hj=>?_⟩,⟨hV,ho hp.1,fun st q hs hq hl=>(hd _).trans (h.ld st q hs hq (by rw [<- hg.lack];exact hl)),hp,mm+1000,hf.write h.vr.used (by rw [hG.n.symm];have:=hG.said.m16;have:=(h.fits hG).cnt;have:=hG.n;omega) (h.fits hG).l2 hW,by omega⟩,movesR hmv⟩
  unfold contR
  by_cases e:j=m
  ·rw [if_pos e,e];exact hg.dat
  ·rw [if_neg e]
   obtain ⟨w1,w2,_,_⟩:=me_ok (M:=A.M) (m:=j) h3
   refine hg.rest _ _ fun q=>?_
   obtain ⟨q1,q2 | q2⟩:=q
   ·exact e (me_inj h3 q1 q2)
   ·rw [<- q1] at q2;exact w2 q2
 ·exact absurd hp.1 hoff
theorem IsR.flush (h:IsR J A w x (k+1)) (hG:Giv J A):Calls Tryz.prog 82 #[.pointer (some ⟨J.v,0,none⟩)] w fun e w' =>
  ∃(y:Int) (x':Rs),e=.returned (.int .i64 y)/\(y=0/\∀j,contR A x' j=contR A x j)/\IsR J A w' x' k/\Sh.Moves (ownR J x.F) w (ownR J x'.F) w':=by
 obtain ⟨mm,hf,hmm⟩:=h.few
 refine (vFlush_any h.vr (h.fits hG) hG.tabs hG.tb hf.waits hf.used (by omega)).mono ?_
 rintro e w' ⟨y,rfl,t,D',U',hF,F',hV,hmv⟩
 have hF2:FlR A.n A.L x.D x.U x.S y t D' U':=by rw [hG.n,hG.l];exact hF
 have hp:=h.pw.flR hF2
 obtain ⟨hd,⟨hy,rfl,rfl,_,ho⟩ | ⟨_,hoff,_⟩⟩:=h.oi.fi.flush hF2
 ·exact ⟨y,⟨t.S,t.o,F',noSet,noSet,x.g.closed⟩,rfl,⟨hy,fun _=>rfl⟩,⟨hV,ho hp.1,fun st q hs hq hl=>(hd _).trans (h.ld st q hs hq hl),hp,mm+1000,hf.flush (by have:=hG.said.m16;have:=(h.fits hG).cnt;omega) (h.fits hG).l2 hF,by omega⟩,movesR hmv⟩
 ·exact absurd hp.1 hoff
def Hv (J:Vk) (A:Ar) (hG:Giv J A) (hN:A.St*(A.M-1)<=1073741824):Go.Proofs.YtcnjpmcelihknaaGreatDoor.Kc.VolK where
 v:=J.v
 n:=A.St*(A.M-1)
 σ:=Rs
 own x b:=ownR J x.F b
 is w x k:=IsR J A w x k
 rd x m y X x':=y=0/\X=contR A x m/\∀j,contR A x' j=contR A x j
 wr x m b y x':=y=0/\∀j,j<A.St*(A.M-1)->contR A x' j=if j=m then b else contR A x j
 fl x y x':=y=0/\∀j,contR A x' j=contR A x j
 nmax:=hN
 lt h:=h.lt
 stays h ho hF:=h.stays ho hF
 less h hk:=h.less hk
 size h:=h.size hG
 read m h hm:=h.read hG m hm
 write m _ _ c h hm hA hb:=h.write hG m c hm hA hb
 flush h:=h.flush hG
end
end Go.Proofs.YtcnjpmcelihknaaGreatDoor.U
namespace Go.Proofs.YtcnjpmcelihknaaGreatDoor.Kc
open Go.RowKit Go.Maps
structure Okv (V:VolK):Prop where
 rd:∀{x m y X x'},V.rd x m y X x'->y=0
 wr:∀{x m b y x'},V.wr x m b y x'->y=0
 fl:∀{x y x'},V.fl x y x'->y=0
section
variable {V:VolK} {most:Nat} {l l':List En} {x x':V.σ} {n:Int} {m:Nat} {y:Int} {X b:Sh.Bs}
end
end Go.Proofs.YtcnjpmcelihknaaGreatDoor.Kc
namespace Go.Proofs.YtcnjpmcelihknaaGreatDoor.U
open Go.RowKit Go.Maps
structure All10 (w:World):Prop where
 tabs:Tabs w
 fld:Flds w
 wid:Go.Proofs.YtcnjpmcelihknaaGreatDoor.S.Wid w
theorem All10.over {w w':World} (h:All10 w) (hb:Below w.heap.size w w'):All10 w':=⟨h.tabs.below h.tabs.size hb,h.fld.below h.fld.size hb,h.wid.below h.wid.size hb⟩
theorem ok_hv {J:Vk} {A:Ar} (hG:Giv J A) (hN:A.St*(A.M-1)<=1073741824):Go.Proofs.YtcnjpmcelihknaaGreatDoor.Kc.Okv (Hv J A hG hN):=⟨fun h=>h.1,fun h=>h.1,fun h=>h.1⟩
end Go.Proofs.YtcnjpmcelihknaaGreatDoor.U
