/-
  What the statement's proof rests on, part 45.
  Conditions: each theorem's own.
-/
import Derived.Test.YtepoepmndckmaaaGreatDoorY44
import Derived.Test.YtepoepmndckmaaaGreatDoorY43
import Derived.Test.YtepoepmndckmaaaGreatDoorY36
namespace Go.Proofs.YtepoepmndckmaaaGreatDoor.Kc
open Go.RowKit Go.Maps
def CQ (V:VolK) (w:World) (c most:Nat) (l:List En) (x:V.σ) (k:Nat) (Q:List (Nat × Obj)):Prop :=
 ∃g:Cg,g.c=c/\Cav V w g most l x k/\∀z∈Q,w.heap[z.1]?=some z.2/\¬AllC V x g l z.1
section
variable {V:VolK} {w w':World} {c most:Nat} {l l':List En} {x x':V.σ} {k k':Nat} {Q:List (Nat × Obj)} {a:Nat} {o o':Obj}
theorem CQ.at_ (h:CQ V w c most l x k ((a,o) :: Q)):w.heap[a]?=some o:=by
 obtain ⟨g,_,_,h3⟩:=h
 exact (h3 _ (List.mem_cons_self ..)).1
theorem CQ.at2 {b:Nat} {o2:Obj} (h:CQ V w c most l x k ((a,o) :: (b,o2) :: Q)):w.heap[b]?=some o2:=by
 obtain ⟨g,_,_,h3⟩:=h
 exact (h3 _ (List.mem_cons_of_mem _ (List.mem_cons_self ..))).1
theorem CQ.of (h:CQ V w c most l x k Q) {z:Nat × Obj} (hz:z∈Q):w.heap[z.1]?=some z.2:=by
 obtain ⟨g,_,_,h3⟩:=h
 exact (h3 _ hz).1
theorem CQ.less (h:CQ V w c most l x k Q) (hk:k'<=k):CQ V w c most l x k' Q:=by
 obtain ⟨g,h1,h2,h3⟩:=h
 exact ⟨g,h1,h2.less hk,h3⟩
theorem CQ.grown (h:CQ V w c most l x k Q) (hb:Below w.heap.size w w'):CQ V w' c most l x k Q:=by
 obtain ⟨g,h1,h2,h3⟩:=h
 exact ⟨g,h1,h2.grown hb,fun z hz=>⟨(hb.block _ (lt_of_block (h3 z hz).1)).trans (h3 z hz).1,(h3 z hz).2⟩⟩
theorem CQ.add (h:CQ V w c most l x k Q) (hb:Below w.heap.size w w') (ha:w.heap.size<=a) (ho:w'.heap[a]?=some o):CQ V w' c most l x k ((a,o) :: Q):=by
 have hlow:∀g:Cg,Cav V w g most l x k->¬AllC V x g l a:=fun g hg e=>by have:=hg.lt e;omega
 obtain ⟨g,h1,h2,h3⟩:=h
 refine ⟨g,h1,h2.grown hb,fun z hz=>?_⟩
 rcases List.mem_cons.1 hz with q | q
 ·rw [q];exact ⟨ho,hlow g h2⟩
 ·exact ⟨(hb.block _ (lt_of_block (h3 z q).1)).trans (h3 z q).1,(h3 z q).2⟩
theorem CQ.poke (h:CQ V w c most l x k ((a,o) :: Q)) (hne:∀z∈Q,z.1≠a) (hw:Sh.Only (fun b=>b=a) w w') (ho:w'.heap[a]?=some o'):CQ V w' c most l x k ((a,o') :: Q):=by
 obtain ⟨g,h1,h2,h3⟩:=h
 have h4:=(h3 _ (List.mem_cons_self ..)).2
 refine ⟨g,h1,h2.only hw (fun b hb=>by rw [hb];exact h4),fun z hz=>?_⟩
 rcases List.mem_cons.1 hz with q | q
 ·rw [q];exact ⟨ho,h4⟩
 ·have h5:=h3 z (List.mem_cons_of_mem _ q)
  exact ⟨(hw.block _ (lt_of_block h5.1) (hne z q)).trans h5.1,h5.2⟩
theorem cq_moves {g g':Cg} (hc:g'.c=c) (h3:∀z∈Q,w.heap[z.1]?=some z.2/\¬AllC V x g l z.1) (hv:Cav V w' g' most l' x' k') (hm:Sh.Moves (AllC V x g l) w (AllC V x' g' l') w'):CQ V w' c most l' x' k' Q :=
 ⟨g',hc,hv,fun z hz=>⟨(hm.1.block _ (lt_of_block (h3 z hz).1) (h3 z hz).2).trans (h3 z hz).1,fun e=>(hm.2 _ e).elim (h3 z hz).2 (fun e2=>absurd (lt_of_block (h3 z hz).1) (by omega))⟩⟩
theorem bytes_block {A:Option Addr} {X:Sh.Bs} (h:Sh.Bytes w w' A X):∃(ad:Addr) (o:Obj),A=some ad/\w.heap.size<=ad.block/\w'.heap[ad.block]?=some o:=by
 obtain ⟨ad,ha,hl,_⟩:=h.1.2 (by decide)
 exact ⟨ad,_,ha,(h.2 ad ha).1,Array.getElem?_eq_getElem hl⟩
theorem reads_at {B n:Nat} {A:Option Addr} {ad:Addr} {xs:List Value} {W:World} (h:Sh.Reads w B A n xs) (ha:A=some ad) (he:W.heap[ad.block]?=w.heap[ad.block]?):Sh.Reads W (ad.block+1) A n xs :=
 ⟨h.1,fun h0=>by
  obtain ⟨a2,h1,_,h3⟩:=h.2 h0
  rw [ha] at h1
  injection h1 with h1
  subst h1
  refine ⟨ad,ha,Nat.lt_succ_self _,fun j u hu=>?_⟩
  have:((ad.add j).block)=ad.block:=Sh.block_of_add ad j
  rw [World.cell?_of_block (w:=w) (a:=ad.add j) (by rw [this];exact he)]
  exact h3 j u hu⟩
def Got (V:VolK) (w w':World) (c most:Nat) (l:List En) (x:V.σ) (k:Nat) (Q:List (Nat × Obj)) (y:Int) (A:Option Addr) (len cap:Nat) (X:Sh.Bs):Prop :=
 (y=0/\len=128/\∃ad o,A=some ad/\Sh.Bytes w w' A X/\Sh.Sec X/\CQ V w' c most l x k ((ad.block,o) :: Q))\/(y≠0/\A=none/\len=0/\cap=0)
theorem CQ.get (h:CQ V w c most l x (k+2) Q) (n:Int):Calls Tryz.prog 16 #[.pointer (some ⟨c,0,none⟩),.int .i64 n] w fun r w' =>
  ∃(y:Int) (A:Option Addr) (len cap:Nat) (X:Sh.Bs) (l':List En) (x':V.σ),r=.returned (.tuple #[.slice A len cap,.int .i64 y])/\GetR V most n l x y X l' x'/\CQ V w' c most l' x' k Q/\Got V w w' c most l' x' k Q y A len cap X:=by
 obtain ⟨g,rfl,h2,h3⟩:=h
 refine (cGet h2 n).mono ?_
 rintro r w' ⟨y,A,len,cap,rfl,X,l',x',u,hg,hv,hm,hc⟩
 have hcq:CQ V w' g.c most l' x' k Q:=cq_moves (g:=g) (g':={ g with u:=u }) rfl h3 hv hm
 refine ⟨y,A,len,cap,X,l',x',rfl,hg,hcq,hc.imp (fun ⟨e1,e2,e3,e4,e5⟩=>⟨e1,e2,?_⟩) id⟩
 obtain ⟨ad,o,ha,_,ho⟩:=bytes_block e3
 refine ⟨ad,o,ha,e3,e4,{ g with u:=u },rfl,hv,fun z hz=>?_⟩
 rcases List.mem_cons.1 hz with q | q
 ·rw [q];exact ⟨ho,e5 ad ha⟩
 ·exact ⟨(hm.1.block _ (lt_of_block (h3 z q).1) (h3 z q).2).trans (h3 z q).1,fun e=>(hm.2 _ e).elim (h3 z q).2 (fun e2=>absurd (lt_of_block (h3 z q).1) (by omega))⟩
theorem CQ.put (h:CQ V w c most l x (k+1) Q) (n:Int) {b:Nat} (hb:b<256) {w0:World} (hw:Below w.heap.size w w0) (ho:w0.ownsRow w.heap.size 5 1 (.slice (some ⟨w.heap.size,0,none⟩) 128 128) 128 (Sh.bts (Sh.secOf b))) :
  Calls Tryz.prog 14 #[.pointer (some ⟨c,0,none⟩),.int .i64 n,.slice (some ⟨w.heap.size,0,none⟩) 128 128] w0 fun r w' =>
   ∃(y:Int) (l':List En) (x':V.σ),r=.returned (.int .i64 y)/\PutR V most n (Sh.secOf b) l x y l' x'/\CQ V w' c most l' x' k Q:=by
 obtain ⟨g,rfl,h2,h3⟩:=h
 have hbs:Sh.Beside w0 (AllC V x g l) (some ⟨w.heap.size,0,none⟩) (Sh.secOf b):=⟨Sh.Reads.of_own ho,fun a ha e=>by
  injection ha with ha
  subst ha
  exact Nat.lt_irrefl _ (h2.lt e)⟩
 refine (cPut (cp:=128) (h2.grown hw) n hbs (Sh.secOf_sec hb)).mono ?_
 rintro r w' ⟨y,l',x',rfl,hp,u,hv,hm⟩
 exact ⟨y,l',x',rfl,hp,cq_moves (g:=g) (g':={ g with u:=u }) rfl (fun z hz=>⟨(hw.block _ (lt_of_block (h3 z hz).1)).trans (h3 z hz).1,(h3 z hz).2⟩) hv hm⟩
theorem CQ.flush (h:CQ V w c most l x (k+1+(risesE fFlush l).length) Q):Calls Tryz.prog 17 #[.pointer (some ⟨c,0,none⟩)] w fun r w' =>
  ∃(y:Int) (l':List En) (x':V.σ),r=.returned (.int .i64 y)/\FlushR V l x y l' x'/\CQ V w' c most l' x' k Q:=by
 obtain ⟨g,rfl,h2,h3⟩:=h
 refine (cFlush h2).mono ?_
 rintro r w' ⟨y,l',x',rfl,hf,hv,hm⟩
 exact ⟨y,l',x',rfl,hf,cq_moves rfl h3 hv hm⟩
theorem CQ.len (h:CQ V w c most l x k Q):l.length<=most:=by
 obtain ⟨g,rfl,h2,_⟩:=h
 exact h2.ca.len
def SQ (Q:List (Nat × Obj)) (W:World):Prop:=∀z∈Q,W.heap[z.1]?=some z.2
theorem CQ.sq (h:CQ V w c most l x k Q):SQ Q w:=fun _ hz=>h.of hz
theorem SQ.tail {W:World} (h:SQ ((a,o) :: Q) W):SQ Q W:=fun z hz=>h z (List.mem_cons_of_mem _ hz)
theorem SQ.head {W:World} (h:SQ ((a,o) :: Q) W):W.heap[a]?=some o:=h _ (List.mem_cons_self ..)
theorem got_conv {w0:World} {A:Option Addr} {ad:Addr} {bs:Sh.Bs} (h:Sh.Bytes w0 w A bs) (ha:A=some ad) (ho:w.heap[ad.block]?=some o):∀W:World,W.heap[ad.block]?=some o->∀(cp:Nat) (s:ByteArray),Sh.strL bs=s->(convert 40 9 (.slice A 128 cp)).run Tryz.prog W=.ok (.string s) W:=by
 intro W hW cp s hs
 rw [<- hs]
 exact Sh.run_str cp (reads_at h.1 ha (by rw [hW,ho]))
end
end Go.Proofs.YtepoepmndckmaaaGreatDoor.Kc
namespace Go.Proofs.YtepoepmndckmaaaGreatDoor.U
open Go.RowKit Go.Maps
open Go.Proofs.YtepoepmndckmaaaGreatDoor.Kc (En Cg Cav CQ)
def pairO (c xr:Nat):Obj:=.cells #[.pointer (some ⟨c,0,none⟩),.pointer (some ⟨xr,0,none⟩)] 39 (0,0)
theorem pair_cell {w:World} {q c xr:Nat} (h:w.heap[q]?=some (pairO c xr)):w.cell? ⟨q,0,none⟩=some (.pointer (some ⟨c,0,none⟩)):=by
 rw [cell_of_row _ _ 0 _ _ _ h]
 rfl
theorem Beg.cq {w w':World} {J:Vk} {hG:Giv J ar10} {hN:ar10.St*(ar10.M-1)<=1073741824} {q xr n:Nat} {g:Cg} {x:Rs} (h:Beg w J hG hN q xr g x n w'):CQ (Hv J ar10 hG hN) w' g.c n [] x 390000 [(q,pairO g.c xr)] :=
 ⟨g,rfl,h.cav,fun z hz=>by
  rw [List.mem_singleton.1 hz]
  exact ⟨h.pair,fun e=>by
   have h1:=h.out q e
   have h2:=h.lt
   omega⟩⟩
theorem cq_below {w w':World} {J:Vk} {hG:Giv J ar10} {hN:ar10.St*(ar10.M-1)<=1073741824} {c n k:Nat} {l:List En} {x:Rs} {Q:List (Nat × Obj)} (h:CQ (Hv J ar10 hG hN) w' c n l x k Q) (hB:J.B=w.heap.size) (hW:J.W=w):Below w.heap.size w w':=by
 obtain ⟨g,_,h2,_⟩:=h
 have:=(h2.vol:IsR J ar10 w' x k).vr.bel
 rw [hB,hW] at this
 exact this
end Go.Proofs.YtepoepmndckmaaaGreatDoor.U
namespace Go.Proofs.YtepoepmndckmaaaGreatDoor.Kc
open Go.RowKit Go.Maps
section
variable {w:World} {g k:Nat}
theorem set_only (v:Value):Sh.Only (fun b=>b=g) w (w.setCell ⟨g,k,none⟩ v):=(Sh.Only.refl (fun b=>b=g) w).setCell (p:=⟨g,k,none⟩) (.inl rfl) v
end
theorem most_of (mo d:Int) (hd:0<d) (hd2:d<1000):∃n:Nat,1<=n/\(n:Int)<=d/\((mo<0/\n=1)\/(0<=mo/\wrap64 (1+mo.tmod d)=(n:Int))):=by
 by_cases h:mo<0
 ·exact ⟨1,Nat.le_refl _,by omega,.inl ⟨h,rfl⟩⟩
 ·have h1:=Int.tmod_lt_of_pos mo hd
  have h2:=Int.tmod_nonneg d (show 0<=mo by omega)
  exact ⟨(1+mo.tmod d).toNat,by omega,by omega,.inr ⟨by omega,by unfold wrap64;omega⟩⟩
section
variable {V:VolK} {P:V.σ->Prop} {l l':List En} {x x':V.σ} {y:Int} {z:En}
end
end Go.Proofs.YtepoepmndckmaaaGreatDoor.Kc
namespace Go.Proofs.YtepoepmndckmaaaGreatDoor.U
open Go.RowKit Go.Maps
section
variable {J:Vk} {A:Ar} {w w':World} {x:Rs} {k:Nat}
end
section
open Go.Proofs.YtepoepmndckmaaaGreatDoor.Kc (En Cg Cav CQ)
variable {J:Vk} {A:Ar} {hG:Giv J A} {hN:A.St*(A.M-1)<=1073741824} {w w':World} {c most k:Nat} {l:List En} {x:Rs} {Q:List (Nat × Obj)}
end
end Go.Proofs.YtepoepmndckmaaaGreatDoor.U
namespace Go.Proofs.YtepoepmndckmaaaGreatDoor.Kc
open Go.RowKit Go.Maps
structure OffV (V:VolK) (off:V.σ->Bool) (cont:V.σ->Nat->Sh.Bs):Prop where
 rd:∀{x m y X x'},V.rd x m y X x'->(y=0/\off x=false/\X=cont x m/\(∀j,cont x' j=cont x j)/\off x'=false)\/(y=3/\off x'=true)
 wr:∀{x m b y x'},V.wr x m b y x'->(y=0/\off x=false/\(off x'=false->∀j,j<V.n->cont x' j=if j=m then b else cont x j))\/(y=3/\off x'=true)
 fl:∀{x y x'},V.fl x y x'->(y=0/\(off x'=false->off x=false/\∀j,j<V.n->cont x' j=cont x j))\/(y=3/\off x'=true)
structure OffI (V:VolK) (off:V.σ->Bool) (cont:V.σ->Nat->Sh.Bs) (ex:Nat->Prop) (hv:Nat->Sh.Bs) (l:List En) (x:V.σ):Prop where
 dat:∀e∈l,e.d=hv e.k
 pins:∀e∈l,e.pins=0
 lows:∀e∈l,e.k<V.n
 keys:(l.map En.k).Nodup
 cln:off x=false->∀e∈l,e.dirty=false->cont x e.k=e.d
 out:off x=false->∀j,j<V.n->¬ex j->(∀e∈l,e.k≠j)->cont x j=hv j
def No (_:Nat):Prop:=False
section
variable {V:VolK} {off:V.σ->Bool} {cont:V.σ->Nat->Sh.Bs} {hv hv':Nat->Sh.Bs} {ex:Nat->Prop} {most k m:Nat} {l l':List En} {x x':V.σ} {n:Int} {y:Int} {X b:Sh.Bs}
theorem OffI.drop (h:OffI V off cont No hv l x) (k:Nat):OffI V off cont (fun j=>j=k) hv (dropE l k) x :=
 ⟨fun e he=>h.dat e (mem_dropE.1 he).1,fun e he=>h.pins e (mem_dropE.1 he).1,fun e he=>h.lows e (mem_dropE.1 he).1,nodup_drop h.keys _,fun q e he=>h.cln q e (mem_dropE.1 he).1,
  fun q j hj hne hk=>h.out q j hj (fun e=>e) fun e he hek=>(hk e (mem_dropE.2 ⟨he,by rw [hek];exact hne⟩)) hek⟩
theorem OffI.weak (h:OffI V off cont No hv l x):OffI V off cont ex hv l x:=⟨h.dat,h.pins,h.lows,h.keys,h.cln,fun q j hj _ hk=>h.out q j hj (fun e=>e) hk⟩
theorem OffI.snoc {e':En} (h:OffI V off cont (fun j=>j=e'.k) hv l x) (hk:∀e∈l,e.k≠e'.k) (hlow:e'.k<V.n) (hp:e'.pins=0) (hd:e'.d=hv' e'.k) (hs:∀j,j≠e'.k->hv' j=hv j) (hc:off x=false->e'.dirty=false->cont x e'.k=e'.d):OffI V off cont No hv' (l++[e']) x:=by
 refine ⟨fun e he=>?_,fun e he=>?_,fun e he=>?_,nodup_snoc h.keys hk,fun q e he hy=>?_,fun q j hj _ hj2=>?_⟩
 ·rcases List.mem_append.1 he with q | q
  ·rw [hs _ (hk e q)];exact h.dat e q
  ·rw [List.mem_singleton.1 q];exact hd
 ·rcases List.mem_append.1 he with q | q
  ·exact h.pins e q
  ·rw [List.mem_singleton.1 q];exact hp
 ·rcases List.mem_append.1 he with q | q
  ·exact h.lows e q
  ·rw [List.mem_singleton.1 q];exact hlow
 ·rcases List.mem_append.1 he with q2 | q2
  ·exact h.cln q e q2 hy
  ·rw [List.mem_singleton.1 q2] at hy ⊢;exact hc q hy
 ·have hne:j≠e'.k:=fun e=>hj2 e' (List.mem_append_right _ (List.mem_singleton.2 rfl)) e.symm
  rw [hs j hne]
  exact h.out q j hj hne fun e he=>hj2 e (List.mem_append_left _ he)
theorem OffI.gone (h:OffI V off cont ex hv l x) (ho:off x'=true):OffI V off cont ex hv l x':=⟨h.dat,h.pins,h.lows,h.keys,(fun q=>by rw [ho] at q;cases q),(fun q=>by rw [ho] at q;cases q)⟩
theorem OffI.like (h:OffI V off cont ex hv l x) (ho:off x'=false->off x=false/\∀j,j<V.n->cont x' j=cont x j):OffI V off cont ex hv l x' :=
 ⟨h.dat,h.pins,h.lows,h.keys,fun q e he hy=>((ho q).2 _ (h.lows e he)).trans (h.cln (ho q).1 e he hy),fun q j hj hx hk=>((ho q).2 j hj).trans (h.out (ho q).1 j hj hx hk)⟩
theorem OffI.wb (hV:OffV V off cont) (h:OffI V off cont No hv l x) {e e':En} (he:e∈l) (hw:WbR V x e y x' e') :
  (y=0/\e'.k=e.k/\OffI V off cont No hv (putE l e') x'/\(off x'=false->cont x' e.k=e.d)/\OffI V off cont (fun j=>j=e.k) hv (dropE l e.k) x')\/(y=3/\off x'=true/\OffI V off cont No hv l x'):=by
 cases hw with
 | clean hc =>
  have hp:putE l e=l:=by
   unfold putE
   conv=>rhs;rw [<- List.map_id l]
   apply List.map_congr_left
   intro z hz
   by_cases q:z.k=e.k
   ·rw [if_pos q];exact (one_of_key h.keys hz he q).symm
   ·rw [if_neg q];rfl
  exact .inl ⟨rfl,rfl,by rw [hp];exact h,fun q=>h.cln q e he hc,h.drop _⟩
 | no _ _ _ hw hne =>
  rcases hV.wr hw with ⟨q,_⟩ | ⟨q,ho⟩
  ·exact absurd q hne
  ·exact .inr ⟨q,ho,h.gone ho⟩
 | done _ _ hw =>
  rcases hV.wr hw with ⟨_,hon,hc⟩ | ⟨q,_⟩
  ·have hoth:off x'=false->∀z∈l,z.k≠e.k->cont x' z.k=cont x z.k:=fun q z hz hne=>by rw [hc q _ (h.lows z hz),if_neg hne]
   have hme:off x'=false->cont x' e.k=e.d:=fun q=>by rw [hc q _ (h.lows e he),if_pos rfl]
   refine .inl ⟨rfl,rfl,⟨fun z hz=>?_,fun z hz=>?_,fun z hz=>?_,by rw [putE_keys];exact h.keys,fun q z hz hy=>?_,fun q j hj _ hk=>?_⟩,hme,⟨fun z hz=>h.dat z (mem_dropE.1 hz).1,fun z hz=>h.pins z (mem_dropE.1 hz).1,fun z hz=>h.lows z (mem_dropE.1 hz).1,nodup_drop h.keys _,fun q z hz hy=>?_,fun q j hj hne hk=>?_⟩⟩
   ·rcases mem_putE hz with q | q
    ·rw [q];exact h.dat e he
    ·exact h.dat z q.1
   ·rcases mem_putE hz with q | q
    ·rw [q];exact h.pins e he
    ·exact h.pins z q.1
   ·rcases mem_putE hz with q | q
    ·rw [q];exact h.lows e he
    ·exact h.lows z q.1
   ·rcases mem_putE hz with q2 | q2
    ·rw [q2];exact hme q
    ·rw [hoth q z q2.1 q2.2];exact h.cln hon z q2.1 hy
   ·have hje:j≠e.k:=fun q2=>hk { e with dirty:=false } (by unfold putE;exact List.mem_map.2 ⟨e,he,if_pos rfl⟩) q2.symm
    rw [hc q j hj,if_neg hje]
    refine h.out hon j hj (fun e=>e) fun z hz q2=>?_
    exact hk z (by unfold putE;exact List.mem_map.2 ⟨z,hz,if_neg (by show z.k≠e.k;rw [q2];exact hje)⟩) q2
   ·rw [hoth q z (mem_dropE.1 hz).1 (mem_dropE.1 hz).2];exact h.cln hon z (mem_dropE.1 hz).1 hy
   ·rw [hc q j hj,if_neg hne]
    exact h.out hon j hj (fun e=>e) fun z hz q2=>hk z (mem_dropE.2 ⟨hz,by rw [q2];exact hne⟩) q2
  ·cases q
theorem OffI.room (hV:OffV V off cont) (h:OffI V off cont No hv l x) (h1:1<=most) (hr:RoomR V most l x y l' x'):((y=0/\OffI V off cont No hv l' x')\/(y=3/\off x'=true/\OffI V off cont No hv l' x'))/\∀e∈l',e∈l:=by
 cases hr with
 | free _=>exact ⟨.inl ⟨rfl,h⟩,fun _ q=>q⟩
 | full hlt hp =>
  have:0<l.length:=by omega
  exact absurd (h.pins _ (List.getElem_mem this)) (hp _ (List.getElem_mem this))
 | no e _ _ _ he _ hw hne =>
  rcases h.wb hV (List.mem_of_getElem? he) hw with ⟨q,_⟩ | q
  ·exact absurd q hne
  ·exact ⟨.inr q,fun _ q=>q⟩
 | left e e' _ _ he _ hw =>
  have hin:=List.mem_of_getElem? he
  rcases h.wb hV hin hw with ⟨_,_,_,hc,hd⟩ | ⟨q,_⟩
  ·refine ⟨.inl ⟨rfl,hd.dat,hd.pins,hd.lows,hd.keys,hd.cln,fun q j hj _ hk=>?_⟩,fun a ha=>(mem_dropE.1 ha).1⟩
   by_cases hje:j=e.k
   ·rw [hje,hc q];exact h.dat e hin
   ·exact hd.out q j hj hje hk
  ·cases q
theorem OffI.keep (hV:OffV V off cont) (h:OffI V off cont No hv l x) (h1:1<=most) (hk:∀e∈l,e.k≠k) (hr:KeepR V most k b l x y l' x') :
  (y=0/\∃l1 p,l'=l1++[⟨k,p,b,false,0⟩]/\OffI V off cont No hv l1 x'/\∀e∈l1,e.k≠k)\/(y=3/\off x'=true/\OffI V off cont No hv l' x'):=by
 cases hr with
 | no _ _ _ hr hne =>
  obtain ⟨⟨q,_⟩ | q,_⟩:=h.room hV h1 hr
  ·exact absurd q hne
  ·exact .inr q
 | kept l1 _ p hr =>
  obtain ⟨⟨_,q⟩ | ⟨q,_⟩,hm⟩:=h.room hV h1 hr
  ·exact .inl ⟨rfl,l1,p,rfl,q,fun e he=>hk e (hm e he)⟩
  ·cases q
theorem finds_last {k p:Nat} {d:Sh.Bs} {e:En} (hk:∀z∈l,z.k≠k) (hf:finds (l++[⟨k,p,d,false,0⟩]) (k:Int)=some e):e=⟨k,p,d,false,0⟩:=by
 rw [finds_snoc hk,if_pos rfl] at hf
 injection hf with hf
 exact hf.symm
theorem OffI.get (hV:OffV V off cont) (h:OffI V off cont No hv l x) (h1:1<=most) (hm:m<V.n) (hr:GetR V most (m:Int) l x y X l' x'):(y=0/\X=hv m/\OffI V off cont No hv l' x')\/(y=3/\off x'=true/\OffI V off cont No hv l' x'):=by
 cases hr with
 | out hno=>exact absurd ⟨by omega,by omega⟩ hno
 | here e _ hf =>
  obtain ⟨he,hek⟩:=finds_some hf
  have hkm:e.k=m:=by omega
  refine .inl ⟨rfl,by rw [h.dat e he,hkm],?_⟩
  unfold useE
  exact (h.drop e.k).snoc (fun z hz=>(mem_dropE.1 hz).2) (h.lows e he) (h.pins e he) (h.dat e he) (fun _ _=>rfl) (fun q hy=>h.cln q e he hy)
 | no k _ _ _ hk _ hf hfe hne =>
  have hkm:k=m:=by omega
  subst hkm
  have hno:∀e∈l,e.k≠k:=fun e he q=>finds_none hf e he (by rw [q])
  cases hfe with
  | no _ _ _ hrd _ =>
   rcases hV.rd hrd with ⟨q,_⟩ | ⟨q,ho⟩
   ·exact absurd q hne
   ·exact .inr ⟨q,ho,h.gone ho⟩
  | got _ x1 _ _ _ hrd hkp =>
   rcases hV.rd hrd with ⟨_,hon,_,hs,ho⟩ | ⟨q,_⟩
   ·rcases (h.like (x':=x1) fun _=>⟨hon,fun j _=>hs j⟩).keep hV h1 hno hkp with ⟨q,_⟩ | q
    ·exact absurd q hne
    ·exact .inr q
   ·cases q
 | got k _ _ e hk hlt hf hfe hfd =>
  have hkm:k=m:=by omega
  subst hkm
  have hno:∀e∈l,e.k≠k:=fun e he q=>finds_none hf e he (by rw [q])
  cases hfe with
  | no _ _ _ _ hne=>exact absurd rfl hne
  | got X x1 _ _ _ hrd hkp =>
   rcases hV.rd hrd with ⟨_,hon,hX,hs,ho⟩ | ⟨q,_⟩
   ·have hX2:X=hv k:=hX.trans (h.out hon k hlt (fun e=>e) hno)
    rcases (h.like (x':=x1) fun _=>⟨hon,fun j _=>hs j⟩).keep hV h1 hno hkp with ⟨_,l1,p,rfl,h2,hk2⟩ | ⟨q,_⟩
    ·have hee:=finds_last hk2 hfd
     subst hee
     refine .inl ⟨rfl,hX2,?_⟩
     rw [use_last hk2 rfl]
     exact h2.weak.snoc (e':=⟨k,p,X,false,0⟩) hk2 hlt rfl hX2 (fun _ _=>rfl) (fun q _=>(h2.out q k hlt (fun e=>e) hk2).trans hX2.symm)
    ·cases q
   ·cases q
def updH (hv:Nat->Sh.Bs) (m:Nat) (b:Sh.Bs):Nat->Sh.Bs:=fun j=>if j=m then b else hv j
theorem OffI.put (hV:OffV V off cont) (h:OffI V off cont No hv l x) (h1:1<=most) (hm:m<V.n) (hb:b.length=128) (hr:PutR V most (m:Int) b l x y l' x'):(y=0/\OffI V off cont No (updH hv m b) l' x')\/(y=3/\off x'=true/\OffI V off cont No hv l' x'):=by
 have hs:∀j,j≠m->updH hv m b j=hv j:=fun j hj=>if_neg hj
 have hme:b=updH hv m b m:=(if_pos rfl).symm
 cases hr with
 | out hno=>exact absurd ⟨⟨by omega,by omega⟩,hb⟩ hno
 | here e _ _ hf =>
  obtain ⟨he,hek⟩:=finds_some hf
  have hkm:e.k=m:=by omega
  refine .inl ⟨rfl,?_⟩
  unfold useE
  exact OffI.snoc (e':={ e with d:=b,dirty:=true }) (h.drop e.k) (fun z hz=>(mem_dropE.1 hz).2) (h.lows e he) (h.pins e he) (by show b=updH hv m b e.k;rw [hkm];exact hme) (fun j hj=>hs j (by rw [<- hkm];exact hj)) (fun _ hy=>by cases hy)
 | no k _ _ _ hk _ _ hf hkp hne =>
  have hkm:k=m:=by omega
  subst hkm
  rcases h.keep hV h1 (fun e he q=>finds_none hf e he (by rw [q])) hkp with ⟨q,_⟩ | q
  ·exact absurd q hne
  ·exact .inr q
 | new k _ _ e hk hlt _ hf hkp hfd =>
  have hkm:k=m:=by omega
  subst hkm
  rcases h.keep hV h1 (fun e he q=>finds_none hf e he (by rw [q])) hkp with ⟨_,l1,p,rfl,h2,hk2⟩ | ⟨q,_⟩
  ·have hee:=finds_last hk2 hfd
   subst hee
   refine .inl ⟨rfl,?_⟩
   rw [use_last (e:=⟨k,p,b,false,0⟩) (e':=⟨k,p,b,true,0⟩) hk2 rfl]
   exact OffI.snoc (e':=⟨k,p,b,true,0⟩) h2.weak hk2 hlt rfl hme hs (fun _ hy=>by cases hy)
  ·cases q
theorem OffI.wbs (hV:OffV V off cont) {ks:List Int} (hr:WbsR V ks l x y l' x') (h:OffI V off cont No hv l x):(y=0/\OffI V off cont No hv l' x')\/(y=3/\off x'=true/\OffI V off cont No hv l' x'):=by
 induction hr with
 | nil _ _=>exact .inl ⟨rfl,h⟩
 | no _ _ _ _ e _ _ hf hw hne =>
  rcases h.wb hV (finds_some hf).1 hw with ⟨q,_⟩ | q
  ·exact absurd q hne
  ·exact .inr q
 | next _ _ _ _ e e1 _ _ _ _ hf hw _ ih =>
  rcases h.wb hV (finds_some hf).1 hw with ⟨_,_,q,_⟩ | ⟨q,_⟩
  ·exact ih q
  ·cases q
theorem OffI.flush (hV:OffV V off cont) (h:OffI V off cont No hv l x) (hr:FlushR V l x y l' x'):(y=0/\OffI V off cont No hv l' x')\/(y=3/\off x'=true/\OffI V off cont No hv l' x'):=by
 cases hr with
 | no _ _ _ hr hne =>
  rcases h.wbs hV hr with ⟨q,_⟩ | q
  ·exact absurd q hne
  ·exact .inr q
 | all _ x1 _ _ hr hfl =>
  rcases h.wbs hV hr with ⟨_,q⟩ | ⟨q,_⟩
  ·rcases hV.fl hfl with ⟨q1,q2⟩ | ⟨q1,q2⟩
   ·exact .inl ⟨q1,q.like q2⟩
   ·exact .inr ⟨q1,q2,q.gone q2⟩
  ·cases q
end
end Go.Proofs.YtepoepmndckmaaaGreatDoor.Kc
namespace Go.Proofs.YtepoepmndckmaaaGreatDoor.U
open Go.RowKit Go.Maps
end Go.Proofs.YtepoepmndckmaaaGreatDoor.U
namespace Go.Proofs.YtepoepmndckmaaaGreatDoor.Kc
open Go.RowKit Go.Maps
def rowS (l:List ByteArray):Obj:=.cells (l.map Value.string).toArray 9 (0,0)
def rowH (hv:Nat->Sh.Bs):Obj:=rowS ((List.range 12).map fun j=>Sh.strL (hv j))
def rowF (s0:ByteArray) (t:Nat):Obj:=rowS ((List.range 12).map fun j=>if j<t then s0 else ⟨#[]⟩)
section
variable {w:World} {g k:Nat}
theorem rowS_cell {l:List ByteArray} {s:ByteArray} (h:w.heap[g]?=some (rowS l)) (hk:l[k]?=some s):w.cell? ⟨g,k,none⟩=some (.string s):=by
 rw [cell_of_row _ _ k _ _ _ h]
 simp [hk]
theorem rowS_free {l:List ByteArray} (h:w.heap[g]?=some (rowS l)):w.frozen? ⟨g,k,none⟩=false:=frozen_of_row _ _ _ _ _ h
theorem rowS_set {l:List ByteArray} (h:w.heap[g]?=some (rowS l)) (s:ByteArray):(w.setCell ⟨g,k,none⟩ (.string s)).heap[g]?=some (rowS (l.set k s)):=by
 rw [heap_setCell_same _ _ _ _ _ _ h]
 unfold rowS
 congr 2
 apply Array.toList_inj.1
 simp [List.map_set]
theorem range_set {α:Type} (f:Nat->α) (k:Nat) (s:α) (hk:k<12):((List.range 12).map f).set k s=(List.range 12).map fun j=>if j=k then s else f j:=by
 apply List.ext_getElem?
 intro a
 rw [List.getElem?_set]
 by_cases ha:a<12
 ·rw [List.getElem?_map,List.getElem?_map,List.getElem?_range ha]
  by_cases e:k=a
  ·subst e;simp [hk]
  ·rw [if_neg e]
   show some (f a)=some (if a=k then s else f a)
   rw [if_neg (Ne.symm e)]
 ·rw [if_neg (by omega),List.getElem?_eq_none (by simp;omega),List.getElem?_eq_none (by simp;omega)]
theorem rowH_cell {hv:Nat->Sh.Bs} (h:w.heap[g]?=some (rowH hv)) (hk:k<12):w.cell? ⟨g,k,none⟩=some (.string (Sh.strL (hv k))) :=
 rowS_cell h (by rw [List.getElem?_map,List.getElem?_range hk];rfl)
theorem rowH_set {hv:Nat->Sh.Bs} {b:Sh.Bs} {s:ByteArray} (h:w.heap[g]?=some (rowH hv)) (hk:k<12) (hs:Sh.strL b=s):(w.setCell ⟨g,k,none⟩ (.string s)).heap[g]?=some (rowH (updH hv k b)):=by
 rw [rowS_set h,range_set _ _ _ hk]
 unfold rowH
 congr 3
 funext j
 unfold updH
 by_cases e:j=k
 ·rw [if_pos e,if_pos e,hs]
 ·rw [if_neg e,if_neg e]
theorem rowF_set {s0:ByteArray} {t:Nat} (h:w.heap[g]?=some (rowF s0 t)) (ht:t<12):(w.setCell ⟨g,t,none⟩ (.string s0)).heap[g]?=some (rowF s0 (t+1)):=by
 rw [rowS_set h,range_set _ _ _ ht]
 unfold rowF
 congr 3
 funext j
 by_cases e:j=t
 ·rw [if_pos e,if_pos (by omega)]
 ·rw [if_neg e]
  by_cases e2:j<t
  ·rw [if_pos e2,if_pos (by omega)]
  ·rw [if_neg e2,if_neg (by omega)]
theorem rowF_cell {s0:ByteArray} {t:Nat} (h:w.heap[g]?=some (rowF s0 t)) (ht:t<12):w.cell? ⟨g,t,none⟩=some (.string ⟨#[]⟩) :=
 rowS_cell h (by rw [List.getElem?_map,List.getElem?_range ht];simp)
theorem rowF_end {s0:ByteArray} (hs:Sh.strL Sh.noughts=s0):rowF s0 12=rowH fun _=>Sh.noughts:=by
 unfold rowF rowH
 congr 1
 apply List.map_congr_left
 intro j hj
 rw [if_pos (List.mem_range.1 hj),hs]
theorem rowF_zero (s0:ByteArray):rowF s0 0=.cells #[.string ⟨#[]⟩,.string ⟨#[]⟩,.string ⟨#[]⟩,.string ⟨#[]⟩,.string ⟨#[]⟩,.string ⟨#[]⟩,.string ⟨#[]⟩,.string ⟨#[]⟩,.string ⟨#[]⟩,.string ⟨#[]⟩,.string ⟨#[]⟩,.string ⟨#[]⟩] 9 (0,0):=rfl
end
end Go.Proofs.YtepoepmndckmaaaGreatDoor.Kc
namespace Go.Proofs.YtepoepmndckmaaaGreatDoor.U
open Go.RowKit Go.Maps
theorem wpList_make128 {ops:Array Oper} {rest:List Oper} {o:Oper} {a:Act} {w:World} {Q:Exit->Act->World->Prop} (hgd:o.guard=none) (l c:Operand) (hop:o.op=Op.makeSlice 40 l c) (hl:a.eval l=.int .i64 128) (hc:a.eval c=.int .i64 128)
  (hK:∀w',w'.ownsRow w.heap.size 5 1 (.slice (some ⟨w.heap.size,0,none⟩) 128 128) 128 (Sh.bts Sh.noughts)->Below w.heap.size w w'->wpList Tryz.prog ops Q rest (a.put o.dst (.slice (some ⟨w.heap.size,0,none⟩) 128 128)) w'):wpList Tryz.prog ops Q (o :: rest) a w :=
 wpList_plain hgd fun _ hK'=>wp_make128 l c hop hl hc fun w' h1 h2=>hK' _ _ (hK w' h1 h2)
end Go.Proofs.YtepoepmndckmaaaGreatDoor.U
namespace Go.Proofs.YtepoepmndckmaaaGreatDoor.Kc
open Go.RowKit Go.Maps
section
variable {V:VolK} {off:V.σ->Bool} {cont:V.σ->Nat->Sh.Bs} {hv:Nat->Sh.Bs} {l l':List En} {x x':V.σ} {y:Int}
theorem WbsR.clean {ks:List Int} (hr:WbsR V ks l x y l' x') (hy:y=0) (hk:(l.map En.k).Nodup) (hd:∀e∈l,e.dirty=true->(e.k:Int)∈ks):∀e∈l',e.dirty=false:=by
 induction hr with
 | nil _ _ =>
  intro e he
  rcases hb:e.dirty with _ | _
  ·rfl
  ·cases hd e he hb
 | no _ _ _ _ _ _ _ _ _ hne=>exact absurd hy hne
 | next q t l _ e e1 _ _ _ _ hf hw _ ih =>
  obtain ⟨he,heq⟩:=finds_some hf
  have hk1:e1.k=e.k:=by cases hw<;>rfl
  have hc1:e1.dirty=false:=by
   cases hw with
   | clean h=>exact h
   | no _ _ _ _ hne=>exact absurd rfl hne
   | done _ _ _=>rfl
  refine ih hy (by rw [putE_keys];exact hk) fun z hz hzd=>?_
  rcases mem_putE hz with q2 | ⟨q2,q3⟩
  ·rw [q2,hc1] at hzd;cases hzd
  ·rcases List.mem_cons.1 (hd z q2 hzd) with q4 | q4
   ·exact absurd (by omega) q3
   ·exact q4
theorem FlushR.clean (hr:FlushR V l x y l' x') (hy:y=0) (hk:(l.map En.k).Nodup) (hp:∀e∈l,e.pins=0):(∀e∈l',e.dirty=false)/\∃x1,V.fl x1 0 x':=by
 cases hr with
 | no _ _ _ _ hne=>exact absurd hy hne
 | all _ x1 _ _ hr hfl =>
  subst hy
  refine ⟨hr.clean rfl hk fun e he hd=>?_,x1,hfl⟩
  unfold risesE
  rw [List.mem_mergeSort]
  exact List.mem_map.2 ⟨e,List.mem_filter.2 ⟨he,by simp [hd,hp e he]⟩,rfl⟩
theorem OffI.all (h:OffI V off cont No hv l x) (hon:off x=false) (hc:∀e∈l,e.dirty=false):∀j,j<V.n->cont x j=hv j:=fun j hj=>by
 by_cases hin:∃e∈l,e.k=j
 ·obtain ⟨e,he,rfl⟩:=hin
  rw [h.cln hon e he (hc e he),h.dat e he]
 ·exact h.out hon j hj (fun e=>e) fun e he hk=>hin ⟨e,he,hk⟩
end
end Go.Proofs.YtepoepmndckmaaaGreatDoor.Kc
namespace Go.Proofs.YtepoepmndckmaaaGreatDoor.U
open Go.RowKit Go.Maps
open Go.Proofs.YtepoepmndckmaaaGreatDoor.Kc (En Cg Cav CQ OffV)
section
variable {J:Vk} {A:Ar} {w w':World} {x:Rs} {k:Nat}
theorem IsR.flushS (h:IsR J A w x (k+1)) (hG:Giv J A):Calls Tryz.prog 53 #[.pointer (some ⟨J.v,0,none⟩)] w fun e w' =>
  ∃(y:Int) (x':Rs),e=.returned (.int .i64 y)/\(y=0/\(∀j,contR A x' j=contR A x j)/\∀st,x'.g.op st=none)/\IsR J A w' x' k/\Sh.Moves (ownR J x.F) w (ownR J x'.F) w':=by
 obtain ⟨mm,hf,hmm⟩:=h.few
 refine (vFlush_any h.vr (h.fits hG) hG.tabs hG.tb hf.waits hf.used (by omega)).mono ?_
 rintro e w' ⟨y,rfl,t,D',U',hF,F',hV,hmv⟩
 have hF2:FlR A.n A.L x.D x.U x.S y t D' U':=by rw [hG.n,hG.l];exact hF
 have hp:=h.pw.flR hF2
 obtain ⟨hd,⟨hy,rfl,rfl,_,ho⟩ | ⟨_,hoff,_⟩⟩:=h.oi.fi.flush hF2
 ·exact ⟨y,⟨t.S,t.o,F',noSet,noSet,x.g.closed⟩,rfl,⟨hy,fun _=>rfl,fun _=>rfl⟩,⟨hV,ho hp.1,fun st q hs hq hl=>(hd _).trans (h.ld st q hs hq hl),hp,mm+1000,hf.flush (by have:=hG.said.m16;have:=(h.fits hG).cnt;omega) (h.fits hG).l2 hF,by omega⟩,movesR hmv⟩
 ·exact absurd hp.1 hoff
def Hs (J:Vk) (A:Ar) (hG:Giv J A) (hN:A.St*(A.M-1)<=1073741824):Go.Proofs.YtepoepmndckmaaaGreatDoor.Kc.VolK where
 v:=J.v
 n:=A.St*(A.M-1)
 σ:=Rs
 own x b:=ownR J x.F b
 is w x k:=IsR J A w x k
 rd x m y X x':=y=0/\X=contR A x m/\∀j,contR A x' j=contR A x j
 wr x m b y x':=y=0/\∀j,j<A.St*(A.M-1)->contR A x' j=if j=m then b else contR A x j
 fl x y x':=y=0/\(∀j,contR A x' j=contR A x j)/\∀st,x'.g.op st=none
 nmax:=hN
 lt h:=h.lt
 stays h ho hF:=h.stays ho hF
 less h hk:=h.less hk
 size h:=h.size hG
 read m h hm:=h.read hG m hm
 write m _ _ c h hm hA hb:=h.write hG m c hm hA hb
 flush h:=h.flushS hG
variable {hG:Giv J A} {hN:A.St*(A.M-1)<=1073741824} {c most:Nat} {l:List En} {Q:List (Nat × Obj)}
theorem hs_off:OffV (Hs J A hG hN) (fun _=>false) (fun x:Rs=>contR A x) :=
 ⟨fun h=>.inl ⟨h.1,rfl,h.2.1,h.2.2,rfl⟩,fun h=>.inl ⟨h.1,rfl,fun _=>h.2⟩,fun h=>.inl ⟨h.1,fun _=>⟨rfl,fun j _=>h.2.1 j⟩⟩⟩
theorem cq_toS (h:CQ (Hv J A hG hN) w c most l x k Q):CQ (Hs J A hG hN) w c most l x k Q:=by
 obtain ⟨g,h1,h2,h3⟩:=h
 have hca:=h2.ca
 exact ⟨g,h1,⟨⟨hca.most1,hca.mostM,hca.root,hca.row,hca.len,hca.map,hca.ent,hca.secs,hca.pins,hca.lows,hca.keys,hca.ptr⟩,h2.vol,h2.apart⟩,h3⟩
theorem cqs_below (h:CQ (Hs J A hG hN) w' c most l x k Q) (hB:J.B=w.heap.size) (hW:J.W=w):Below w.heap.size w w':=by
 obtain ⟨g,_,h2,_⟩:=h
 have:=(h2.vol:IsR J A w' x k).vr.bel
 rw [hB,hW] at this
 exact this
theorem cq_crash (h:CQ (Hs J A hG hN) w c most l x k Q) (hop:∀st,x.g.op st=none) (hB:J.B=J.W.heap.size) (B0:Option Addr) (bn bc:Nat) {ks:List (List Int)} (hk:Sh.KeepIs J.W (Sh.Old J.W) B0 bn ks) (hbn:bn<=9223372036854775807) :
  Calls Tryz.prog 18 #[.pointer (some ⟨J.p,0,none⟩),.slice B0 bn bc] w fun e w'=>e=.returned (.tuple #[]) /\
   ∃F1,Sh.At J.B J.W w' J.p (x.S.crash ks) F1/\Rst A (x.S.crash ks) x.g (fun j=>[contR A x j]) true/\∀z∈Q,w'.heap[z.1]?=some z.2/\¬F1 z.1/\J.B<=z.1:=by
 obtain ⟨g,rfl,h2,h3⟩:=h
 have hR:IsR J A w x k:=h2.vol
 obtain ⟨mm,hf,hmm⟩:=hR.few
 refine (Sh.crash_of hB hR.vr.vo.ds.on B0 bn bc hk hbn (fun k hk=>by have:=hf.waits k hk;omega)).mono ?_
 rintro e w' ⟨rfl,hleft⟩
 obtain ⟨F1,a1,mv1⟩:=hR.vr.vo.ds.on.left hleft
 have hinv:Inv A x.S x.o x.g x.D x.U (fun j=>[contR A x j]) true:=⟨hR.oi.fi.ci,hG.said,hR.ld,(fun e=>by cases e),fun m _=>⟨List.mem_singleton.2 rfl,fun old ho=>by rw [hop] at ho;cases ho⟩,fun _=>hR.oi⟩
 refine ⟨rfl,F1,a1,hinv.crash ks,fun z hz=>?_⟩
 obtain ⟨h4,h5⟩:=h3 z hz
 have hlt:=lt_of_block h4
 have hnF:¬x.F z.1:=fun e=>h5 (.inl (.inr (.inl (.inl (.inl e)))))
 exact ⟨(mv1.1.block _ hlt hnF).trans h4,fun e=>(mv1.2 _ e).elim hnF (fun e2=>absurd hlt (by omega)),Nat.le_of_not_lt fun e=>h5 (.inl (.inl e))⟩
theorem open_back {B p:Nat} {W:World} {S:Sh.Sf} {g:Gh} {F:Nat->Prop} {may:Nat->List Sh.Bs} {ks:List (List Int)} (hr:Rst A (S.crash ks) g may true) (ha:Sh.At B W w p (S.crash ks) F) (hT:Tbl B W) :
  Calls Tryz.prog 19 #[.pointer (some ⟨p,0,none⟩)] w fun e w'=>∃(J2:Vk) (A2:Ar) (x2:Rs),e=.returned (.tuple #[.pointer (some ⟨J2.v,0,none⟩),.int .i64 0])/\Giv J2 A2/\A2.St=A.St/\A2.M=A.M/\IsR J2 A2 w' x2 390000 /\
   (∀j,j<A.St*(A.M-1)->contR A2 x2 j∈may j)/\J2.B=B/\J2.W=W/\Sh.Moves F w (AllV J2 x2.F) w':=by
 refine (rst_open hr ha hT (crash_waits S ks)).mono ?_
 rintro e w' ⟨y,t,hO,hres⟩
 obtain ⟨rfl,hpt,d0,g',hd0,hnw,hinv,hop⟩:=hr.opens (pw_crash S ks) hO
 rcases hres with ⟨h0,_⟩ | ⟨_,J2,F2,rfl,e1,e2,e3,e4,e5,V2,mv2⟩
 ·exact absurd rfl h0
 ·have hw:∀x∈t.S.disks,x.waits.length<=2000:=by
   have:=OpenR.waits (m:=0) hr.rest.ci.ar.n17 (fun _=>by
    rw [hnw]
    show A.s.logs.toNat<=8
    rw [hr.said.logs]
    exact hr.rest.ci.ar.l8) hO (crash_waits S ks)
   exact waits_more (by omega) this
  have hLL:(J2.L:Int)=(A.L:Int):=by
   rw [<- e5,hnw]
   exact hr.said.logs
  rw [hnw] at V2
  refine ⟨J2,A.as d0,⟨t.S,t.o,F2,noSet,noSet,g'⟩,rfl,⟨e4.symm,by show A.L=J2.L;omega,hr.said.as,by rw [e2];exact hT.tabs,by rw [e1];exact hT.tb,by rw [e2];exact hT.flds,by rw [e1];exact hT.fb⟩,rfl,rfl,
   ⟨V2,hinv.on hpt.1,hinv.ld,hpt,2000,⟨hw,⟨tidy_empty,Nat.zero_le _⟩,Nat.zero_le _⟩,by omega⟩,fun j hj=>(hinv.mays j hj).1,e1,e2,mv2⟩
theorem texts_out {hv:Nat->Sh.Bs} {gh:Nat} (h:IsR J A w x k) (hh:w.heap[gh]?=some (Go.Proofs.YtepoepmndckmaaaGreatDoor.Kc.rowH hv)) (hB:J.B<=gh) (hV:¬AllV J x.F gh):¬ownR J x.F gh:=by
 rintro (e | e | ⟨i,hi,e⟩)
 ·omega
 ·exact hV e
 ·have h1:=(h.vr.logs.log i hi).c0
  have h2:=Go.Proofs.YtepoepmndckmaaaGreatDoor.Kc.rowH_cell (k:=0) hh (by decide)
  rw [e,h1] at h2
  cases h2
end
end Go.Proofs.YtepoepmndckmaaaGreatDoor.U
