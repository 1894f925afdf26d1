/-
  What the statement's proof rests on, part 40.
  Conditions: each theorem's own.
-/
import Derived.Test.YtcepognpbeahhaaGreatDoorW39
open Go.Lib (hid)
namespace Go.Proofs.YtcepognpbeahhaaGreatDoor.Kc
open Go.RowKit Go.Maps
def CQ (V:VolK) (w:World) (c most:Nat) (l:List En) (x:V.σ) (k:Nat) (Q:List (Nat × Obj)):Prop :=
 ∃g:Cg,g.c=c/\Cav V w g most l x k/\∀z∈Q,w.heap[z.1]?=some z.2/\¬AllC V x g l z.1
section
variable {V:VolK} {w w':World} {c most:Nat} {l l':List En} {x x':V.σ} {k k':Nat} {Q:List (Nat × Obj)} {a:Nat} {o o':Obj}
theorem CQ.of (h:CQ V w c most l x k Q) {z:Nat × Obj} (hz:z∈Q):w.heap[z.1]?=some z.2:=by
 obtain ⟨g,_,_,h3⟩:=h
 exact (h3 _ hz).1
theorem CQ.tail (h:CQ V w c most l x k ((a,o) :: Q)):CQ V w c most l x k Q:=by
 obtain ⟨g,h1,h2,h3⟩:=h
 exact ⟨g,h1,h2,fun z hz=>h3 z (List.mem_cons_of_mem _ hz)⟩
theorem CQ.sub (h:CQ V w c most l x k Q) {Q':List (Nat × Obj)} (hs:∀z∈Q',z∈Q):CQ V w c most l x k Q':=by
 obtain ⟨g,h1,h2,h3⟩:=h
 exact ⟨g,h1,h2,fun z hz=>h3 z (hs z hz)⟩
theorem CQ.less (h:CQ V w c most l x k Q) (hk:k'<=k):CQ V w c most l x k' Q:=by
 obtain ⟨g,h1,h2,h3⟩:=h
 exact ⟨g,h1,h2.less hk,h3⟩
theorem CQ.grown (h:CQ V w c most l x k Q) (hb:Below w.heap.size w w'):CQ V w' c most l x k Q:=by
 obtain ⟨g,h1,h2,h3⟩:=h
 exact ⟨g,h1,h2.grown hb,fun z hz=>⟨(hb.block _ (lt_of_block (h3 z hz).1)).trans (h3 z hz).1,(h3 z hz).2⟩⟩
theorem CQ.add (h:CQ V w c most l x k Q) (hb:Below w.heap.size w w') (ha:w.heap.size<=a) (ho:w'.heap[a]?=some o):CQ V w' c most l x k ((a,o) :: Q):=by
 have hlow:∀g:Cg,Cav V w g most l x k->¬AllC V x g l a:=fun g hg e=>by have:=hg.lt e;omega
 obtain ⟨g,h1,h2,h3⟩:=h
 refine ⟨g,h1,h2.grown hb,fun z hz=>?_⟩
 rcases List.mem_cons.1 hz with q | q
 ·rw [q];exact ⟨ho,hlow g h2⟩
 ·exact ⟨(hb.block _ (lt_of_block (h3 z q).1)).trans (h3 z q).1,(h3 z q).2⟩
theorem CQ.poke (h:CQ V w c most l x k ((a,o) :: Q)) (hne:∀z∈Q,z.1≠a) (hw:Sh.Only (fun b=>b=a) w w') (ho:w'.heap[a]?=some o'):CQ V w' c most l x k ((a,o') :: Q):=by
 obtain ⟨g,h1,h2,h3⟩:=h
 have h4:=(h3 _ (List.mem_cons_self ..)).2
 refine ⟨g,h1,h2.only hw (fun b hb=>by rw [hb];exact h4),fun z hz=>?_⟩
 rcases List.mem_cons.1 hz with q | q
 ·rw [q];exact ⟨ho,h4⟩
 ·have h5:=h3 z (List.mem_cons_of_mem _ q)
  exact ⟨(hw.block _ (lt_of_block h5.1) (hne z q)).trans h5.1,h5.2⟩
theorem cq_moves {g g':Cg} (hc:g'.c=c) (h3:∀z∈Q,w.heap[z.1]?=some z.2/\¬AllC V x g l z.1) (hv:Cav V w' g' most l' x' k') (hm:Sh.Moves (AllC V x g l) w (AllC V x' g' l') w'):CQ V w' c most l' x' k' Q :=
 ⟨g',hc,hv,fun z hz=>⟨(hm.1.block _ (lt_of_block (h3 z hz).1) (h3 z hz).2).trans (h3 z hz).1,fun e=>(hm.2 _ e).elim (h3 z hz).2 (fun e2=>absurd (lt_of_block (h3 z hz).1) (by omega))⟩⟩
theorem bytes_block {A:Option Addr} {X:Sh.Bs} (h:Sh.Bytes w w' A X):∃(ad:Addr) (o:Obj),A=some ad/\w.heap.size<=ad.block/\w'.heap[ad.block]?=some o:=by
 obtain ⟨ad,ha,hl,_⟩:=h.1.2 (by decide)
 exact ⟨ad,_,ha,(h.2 ad ha).1,Array.getElem?_eq_getElem hl⟩
theorem reads_at {B n:Nat} {A:Option Addr} {ad:Addr} {xs:List Value} {W:World} (h:Sh.Reads w B A n xs) (ha:A=some ad) (he:W.heap[ad.block]?=w.heap[ad.block]?):Sh.Reads W (ad.block+1) A n xs :=
 ⟨h.1,fun h0=>by
  obtain ⟨a2,h1,_,h3⟩:=h.2 h0
  rw [ha] at h1
  injection h1 with h1
  subst h1
  refine ⟨ad,ha,Nat.lt_succ_self _,fun j u hu=>?_⟩
  have:((ad.add j).block)=ad.block:=Sh.block_of_add ad j
  rw [World.cell?_of_block (w:=w) (a:=ad.add j) (by rw [this];exact he)]
  exact h3 j u hu⟩
def Got (V:VolK) (w w':World) (c most:Nat) (l:List En) (x:V.σ) (k:Nat) (Q:List (Nat × Obj)) (y:Int) (A:Option Addr) (len cap:Nat) (X:Sh.Bs):Prop :=
 (y=0/\len=128/\∃ad o,A=some ad/\Sh.Bytes w w' A X/\Sh.Sec X/\CQ V w' c most l x k ((ad.block,o) :: Q))\/(y≠0/\A=none/\len=0/\cap=0)
theorem CQ.get (h:CQ V w c most l x (k+2) Q) (n:Int):Calls Tryz.prog 16 #[.pointer (some ⟨c,0,none⟩),.int .i64 n] w fun r w' =>
  ∃(y:Int) (A:Option Addr) (len cap:Nat) (X:Sh.Bs) (l':List En) (x':V.σ),r=.returned (.tuple #[.slice A len cap,.int .i64 y])/\GetR V most n l x y X l' x'/\CQ V w' c most l' x' k Q/\Got V w w' c most l' x' k Q y A len cap X:=by
 obtain ⟨g,rfl,h2,h3⟩:=h
 refine (cGet h2 n).mono ?_
 rintro r w' ⟨y,A,len,cap,rfl,X,l',x',u,hg,hv,hm,hc⟩
 have hcq:CQ V w' g.c most l' x' k Q:=cq_moves (g:=g) (g':={ g with u:=u }) rfl h3 hv hm
 refine ⟨y,A,len,cap,X,l',x',rfl,hg,hcq,hc.imp (fun ⟨e1,e2,e3,e4,e5⟩=>⟨e1,e2,?_⟩) id⟩
 obtain ⟨ad,o,ha,_,ho⟩:=bytes_block e3
 refine ⟨ad,o,ha,e3,e4,{ g with u:=u },rfl,hv,fun z hz=>?_⟩
 rcases List.mem_cons.1 hz with q | q
 ·rw [q];exact ⟨ho,e5 ad ha⟩
 ·exact ⟨(hm.1.block _ (lt_of_block (h3 z q).1) (h3 z q).2).trans (h3 z q).1,fun e=>(hm.2 _ e).elim (h3 z q).2 (fun e2=>absurd (lt_of_block (h3 z q).1) (by omega))⟩
theorem CQ.pin (h:CQ V w c most l x k Q) (n:Int) (hn:-9223372036854775808<=n/\n<=9223372036854775807) (hp:∀e∈l,e.pins<4611686018427387904):Calls Tryz.prog 20 #[.pointer (some ⟨c,0,none⟩),.int .i64 n] w fun r w' =>
  (finds l n=none/\r=.returned (.int .i64 7)/\w=w')\/∃e,finds l n=some e/\r=.returned (.int .i64 0)/\CQ V w' c most (putE l { e with pins:=e.pins+1 }) x k Q:=by
 obtain ⟨g,rfl,h2,h3⟩:=h
 refine (cPin h2 n hn hp).mono ?_
 rintro r w' (⟨h5,h6,h7⟩ | ⟨e,h5,h6,h7,h8⟩)
 ·exact .inl ⟨h5,h6,h7⟩
 ·exact .inr ⟨e,h5,h6,cq_moves rfl h3 h7 h8⟩
theorem CQ.unpin (h:CQ V w c most l x k Q) (n:Int) (hn:-9223372036854775808<=n/\n<=9223372036854775807):Calls Tryz.prog 22 #[.pointer (some ⟨c,0,none⟩),.int .i64 n] w fun r w' =>
  ((finds l n=none\/∃e,finds l n=some e/\e.pins=0)/\r=.returned (.int .i64 7)/\w=w')\/∃e,finds l n=some e/\e.pins≠0/\r=.returned (.int .i64 0)/\CQ V w' c most (putE l { e with pins:=e.pins-1 }) x k Q:=by
 obtain ⟨g,rfl,h2,h3⟩:=h
 refine (cUnpin h2 n hn).mono ?_
 rintro r w' (⟨h5,h6,h7⟩ | ⟨e,h5,h6,h7,h8,h9⟩)
 ·exact .inl ⟨h5,h6,h7⟩
 ·exact .inr ⟨e,h5,h6,h7,cq_moves rfl h3 h8 h9⟩
theorem CQ.flush (h:CQ V w c most l x (k+1+(risesE fFlush l).length) Q):Calls Tryz.prog 17 #[.pointer (some ⟨c,0,none⟩)] w fun r w' =>
  ∃(y:Int) (l':List En) (x':V.σ),r=.returned (.int .i64 y)/\FlushR V l x y l' x'/\CQ V w' c most l' x' k Q:=by
 obtain ⟨g,rfl,h2,h3⟩:=h
 refine (cFlush h2).mono ?_
 rintro r w' ⟨y,l',x',rfl,hf,hv,hm⟩
 exact ⟨y,l',x',rfl,hf,cq_moves rfl h3 hv hm⟩
theorem CQ.blocks (h:CQ V w c most l x k Q):Calls Tryz.prog 23 #[.pointer (some ⟨c,0,none⟩)] w fun r w'=>∃v,r=.returned v/\w'.ownsRow w.heap.size 3 1 v l.length (keysV l)/\Below w.heap.size w w':=by
 obtain ⟨g,rfl,h2,_⟩:=h
 exact cBlocks h2.ca
theorem CQ.dirties (h:CQ V w c most l x k Q):Calls Tryz.prog 21 #[.pointer (some ⟨c,0,none⟩)] w fun r w'=>∃v,r=.returned v/\w'.ownsRow w.heap.size 3 1 v (risesE En.dirty l).length ((risesE En.dirty l).map (Value.int .i64))/\Below w.heap.size w w':=by
 obtain ⟨g,rfl,h2,_⟩:=h
 exact cDirty h2.ca
theorem CQ.vread (h:CQ V w c most l x (k+1) Q) (m:Nat) (hm:m<V.n):Calls Tryz.prog 13 #[.pointer (some ⟨V.v,0,none⟩),.int .i64 (m:Int)] w fun r w' =>
  ∃(y:Int) (A:Option Addr) (len cap:Nat) (X:Sh.Bs) (x':V.σ),r=.returned (.tuple #[.slice A len cap,.int .i64 y])/\V.rd x m y X x'/\CQ V w' c most l x' k Q/\Got V w w' c most l x' k Q y A len cap X:=by
 obtain ⟨g,rfl,h2,h3⟩:=h
 refine (V.read m h2.vol hm).mono ?_
 rintro r w' ⟨y,A,len,cap,X,x',rfl,hrd,hi,hmv,hc⟩
 obtain ⟨h5,h6⟩:=h2.moved hi hmv
 refine ⟨y,A,len,cap,X,x',rfl,hrd,cq_moves rfl h3 h5 h6,hc.imp (fun ⟨e1,e2,e3,e4,e5⟩=>⟨e1,e2,?_⟩) id⟩
 obtain ⟨ad,o,ha,hlo,ho⟩:=bytes_block e3
 refine ⟨ad,o,ha,e3,e4,g,rfl,h5,fun z hz=>?_⟩
 rcases List.mem_cons.1 hz with q | q
 ·rw [q]
  exact ⟨ho,fun e=>e.elim (e5 ad ha) (fun e2=>absurd (h2.ca.lt e2) (by omega))⟩
 ·exact ⟨(h6.1.block _ (lt_of_block (h3 z q).1) (h3 z q).2).trans (h3 z q).1,fun e=>(h6.2 _ e).elim (h3 z q).2 (fun e2=>absurd (lt_of_block (h3 z q).1) (by omega))⟩
theorem CQ.keys (h:CQ V w c most l x k Q):(l.map En.k).Nodup:=by
 obtain ⟨g,rfl,h2,_⟩:=h
 exact h2.ca.keys
theorem CQ.len (h:CQ V w c most l x k Q):l.length<=most:=by
 obtain ⟨g,rfl,h2,_⟩:=h
 exact h2.ca.len
def SQ (Q:List (Nat × Obj)) (W:World):Prop:=∀z∈Q,W.heap[z.1]?=some z.2
theorem SQ.tail {W:World} (h:SQ ((a,o) :: Q) W):SQ Q W:=fun z hz=>h z (List.mem_cons_of_mem _ hz)
theorem SQ.head {W:World} (h:SQ ((a,o) :: Q) W):W.heap[a]?=some o:=h _ (List.mem_cons_self ..)
theorem own_conv {B b:Nat} {bs:Sh.Bs} (h:w.ownsRow B 5 1 (.slice (some ⟨b,0,none⟩) 128 128) 128 (Sh.bts bs)):∃o:Obj,w.heap[b]?=some o/\∀W:World,W.heap[b]?=some o->∀s,Sh.strL bs=s->(convert 40 9 (.slice (some ⟨b,0,none⟩) 128 128)).run Tryz.prog W=.ok (.string s) W:=by
 have hl:=(h.lt b rfl).2
 refine ⟨_,Array.getElem?_eq_getElem hl,fun W hW s hs=>?_⟩
 rw [<- hs]
 exact Sh.run_str 128 (reads_at (ad:=⟨b,0,none⟩) (Sh.Reads.of_own h) rfl (by rw [hW];exact (Array.getElem?_eq_getElem hl).symm))
theorem got_conv {w0:World} {A:Option Addr} {ad:Addr} {bs:Sh.Bs} (h:Sh.Bytes w0 w A bs) (ha:A=some ad) (ho:w.heap[ad.block]?=some o):∀W:World,W.heap[ad.block]?=some o->∀(cp:Nat) (s:ByteArray),Sh.strL bs=s->(convert 40 9 (.slice A 128 cp)).run Tryz.prog W=.ok (.string s) W:=by
 intro W hW cp s hs
 rw [<- hs]
 exact Sh.run_str cp (reads_at h.1 ha (by rw [hW,ho]))
end
end Go.Proofs.YtcepognpbeahhaaGreatDoor.Kc
namespace Go.Proofs.YtcepognpbeahhaaGreatDoor.U
open Go.RowKit Go.Maps
open Go.Proofs.YtcepognpbeahhaaGreatDoor.Kc (En Cg Cav CQ)
def pairO (c xr:Nat):Obj:=.cells #[.pointer (some ⟨c,0,none⟩),.pointer (some ⟨xr,0,none⟩)] 39 (0,0)
theorem Beg.cq {w w':World} {J:Vk} {hG:Giv J ar10} {hN:ar10.St*(ar10.M-1)<=1073741824} {q xr n:Nat} {g:Cg} {x:Rs} (h:Beg w J hG hN q xr g x n w'):CQ (Hv J ar10 hG hN) w' g.c n [] x 390000 [(q,pairO g.c xr)] :=
 ⟨g,rfl,h.cav,fun z hz=>by
  rw [List.mem_singleton.1 hz]
  exact ⟨h.pair,fun e=>by
   have h1:=h.out q e
   have h2:=h.lt
   omega⟩⟩
theorem cq_below {w w':World} {J:Vk} {hG:Giv J ar10} {hN:ar10.St*(ar10.M-1)<=1073741824} {c n k:Nat} {l:List En} {x:Rs} {Q:List (Nat × Obj)} (h:CQ (Hv J ar10 hG hN) w' c n l x k Q) (hB:J.B=w.heap.size) (hW:J.W=w):Below w.heap.size w w':=by
 obtain ⟨g,_,h2,_⟩:=h
 have:=(h2.vol:IsR J ar10 w' x k).vr.bel
 rw [hB,hW] at this
 exact this
end Go.Proofs.YtcepognpbeahhaaGreatDoor.U
namespace Go.Proofs.YtcepognpbeahhaaGreatDoor.Kc
open Go.RowKit Go.Maps
section
variable {w:World} {g k:Nat}
end
def SameW (a b:World):Prop:=a=b
section
variable {V:VolK} {P:V.σ->Prop} {l l':List En} {x x':V.σ} {y:Int} {z:En}
end
end Go.Proofs.YtcepognpbeahhaaGreatDoor.Kc
namespace Go.Proofs.YtcepognpbeahhaaGreatDoor.U
open Go.RowKit Go.Maps
end Go.Proofs.YtcepognpbeahhaaGreatDoor.U
namespace Go.Proofs.YtcepognpbeahhaaGreatDoor.Rc
open Go.RowKit Go.Maps
open Go.Proofs.YtcepognpbeahhaaGreatDoor.Kc (En finds dropE useE putE finds_some finds_none one_of_key placeE placeE_of)
def cR (e:En):List Value:=[.int .i64 (e.k:Int),.string (Sh.strL e.d),.bool e.dirty,.int .i64 (e.pins:Int)]
def cellsL (l:List En):List Value:=l.flatMap cR
theorem cellsL_length (l:List En):(cellsL l).length=l.length*4:=by
 unfold cellsL
 induction l with
 | nil=>rfl
 | cons a t ih=>rw [List.flatMap_cons,List.length_append,ih,List.length_cons];show 4+_=_;omega
theorem cellsL_append (a b:List En):cellsL (a++b)=cellsL a++cellsL b:=by simp [cellsL]
theorem cellsL_get (l:List En) (i c:Nat) (hi:i<l.length) (hc:c<4):(cellsL l)[i*4+c]?=(cR l[i])[c]?:=by
 have h1:l=l.take i++l[i] :: l.drop (i+1):=by rw [List.getElem_cons_drop,List.take_append_drop]
 have h2:(cellsL (l.take i)).length=i*4:=by rw [cellsL_length,List.length_take,Nat.min_eq_left (by omega)]
 have h3:cellsL l=cellsL (l.take i)++(cR l[i]++cellsL (l.drop (i+1))):=by
  conv=>lhs;rw [h1]
  rw [cellsL_append]
  rfl
 rw [h3,List.getElem?_append_right (by omega),h2,show i*4+c-i*4=c by omega,List.getElem?_append_left (by exact hc)]
theorem cellsL_take (l:List En) (i:Nat):cellsL (l.take i)=(cellsL l).take (i*4):=by
 by_cases h:i<=l.length
 ·have h2:(cellsL (l.take i)).length=i*4:=by rw [cellsL_length,List.length_take,Nat.min_eq_left h]
  conv=>rhs;rw [<- List.take_append_drop i l,cellsL_append]
  rw [List.take_left' h2]
 ·rw [List.take_of_length_le (by omega),List.take_of_length_le (by rw [cellsL_length];omega)]
theorem cellsL_drop (l:List En) (i:Nat) (h:i<=l.length):cellsL (l.drop i)=(cellsL l).drop (i*4):=by
 have h2:(cellsL (l.take i)).length=i*4:=by rw [cellsL_length,List.length_take,Nat.min_eq_left h]
 conv=>rhs;rw [<- List.take_append_drop i l,cellsL_append]
 rw [List.drop_left' h2]
theorem cellsL_one (l:List En):∀u∈cellsL l,u.oneCell'=true:=by
 intro u hu
 unfold cellsL at hu
 obtain ⟨e,_,he⟩:=List.mem_flatMap.1 hu
 unfold cR at he
 simp only [List.mem_cons,List.not_mem_nil,or_false] at he
 rcases he with rfl | rfl | rfl | rfl<;>rfl
def rowV (hv:Nat->Sh.Bs):List Value:=(List.range 12).map fun j=>Value.string (Sh.strL (hv j))
theorem rowV_get (hv:Nat->Sh.Bs) {j:Nat} (hj:j<12):(rowV hv)[j]?=some (.string (Sh.strL (hv j))):=by
 unfold rowV
 rw [List.getElem?_map,List.getElem?_range hj]
 rfl
structure RfIs (w:World) (xr:Nat) (vs ls:Value) (most:Nat) (hv:Nat->Sh.Bs) (l:List En):Prop where
 root:w.heap[xr]?=some (.cells #[vs,.int .i64 (most:Int),ls] 35 (0,0))
 rowV:w.ownsRow xr 9 1 vs 12 (rowV hv)
 rowL:w.ownsRow xr 129 4 ls l.length (cellsL l)
 vl:∀b,vs.ownBlock=some b->ls.ownBlock≠some b
 vx:vs.ownBlock≠some xr
 lx:ls.ownBlock≠some xr
 len:l.length<=1024
 keys:(l.map En.k).Nodup
 lows:∀e∈l,e.k<12
 pins:∀e∈l,e.pins<=4611686018427387904
def Own (xr:Nat) (vs ls:Value) (b:Nat):Prop:=b=xr\/vs.ownBlock=some b\/ls.ownBlock=some b
section
variable {w w':World} {xr most:Nat} {vs ls:Value} {hv:Nat->Sh.Bs} {l:List En}
theorem RfIs.lt (h:RfIs w xr vs ls most hv l) {b:Nat} (hb:Own xr vs ls b):b<w.heap.size:=by
 rcases hb with rfl | e | e
 ·exact lt_of_block h.root
 ·exact (h.rowV.lt b e).2
 ·exact (h.rowL.lt b e).2
theorem RfIs.same (h:RfIs w xr vs ls most hv l) (hk:∀b,Own xr vs ls b->w'.heap[b]?=w.heap[b]?):RfIs w' xr vs ls most hv l :=
 ⟨(hk xr (.inl rfl)).trans h.root,Sh.same_row h.rowV fun b hb=>hk b (.inr (.inl hb)),Sh.same_row h.rowL fun b hb=>hk b (.inr (.inr hb)),h.vl,h.vx,h.lx,h.len,h.keys,h.lows,h.pins⟩
theorem RfIs.grown (h:RfIs w xr vs ls most hv l) (hb:Below w.heap.size w w'):RfIs w' xr vs ls most hv l:=h.same fun _ e=>hb.block _ (h.lt e)
theorem RfIs.c0 (h:RfIs w xr vs ls most hv l):w.cell? ⟨xr,0,none⟩=some vs:=cell_of_row _ _ 0 _ _ _ h.root
theorem RfIs.c1 (h:RfIs w xr vs ls most hv l):w.cell? ⟨xr,1,none⟩=some (.int .i64 (most:Int)):=cell_of_row _ _ 1 _ _ _ h.root
theorem RfIs.c2 (h:RfIs w xr vs ls most hv l):w.cell? ⟨xr,2,none⟩=some ls:=cell_of_row _ _ 2 _ _ _ h.root
theorem RfIs.free (h:RfIs w xr vs ls most hv l) (i:Nat):w.frozen? ⟨xr,i,none⟩=false:=frozen_of_row _ _ _ _ _ h.root
theorem RfIs.vform (h:RfIs w xr vs ls most hv l):∃b cap,vs=.slice (some ⟨b,0,none⟩) 12 cap:=by
 obtain ⟨b,cap,hv,_⟩:=h.rowV.form (by decide)
 exact ⟨b,cap,hv⟩
theorem RfIs.lform (h:RfIs w xr vs ls most hv l) (h0:0<l.length):∃b cap,ls=.slice (some ⟨b,0,none⟩) l.length cap:=by
 obtain ⟨b,cap,hv,_⟩:=h.rowL.form h0
 exact ⟨b,cap,hv⟩
theorem RfIs.ent {b cap:Nat} (h:RfIs w xr vs (.slice (some ⟨b,0,none⟩) l.length cap) most hv l) {i:Nat} (hi:i<l.length) :
  w.cell? ⟨b,i*4,none⟩=some (.int .i64 (l[i].k:Int))/\w.cell? ⟨b,i*4+1,none⟩=some (.string (Sh.strL l[i].d))/\w.cell? ⟨b,i*4+2,none⟩=some (.bool l[i].dirty)/\w.cell? ⟨b,i*4+3,none⟩=some (.int .i64 (l[i].pins:Int)) :=
 ⟨Sh.cell_at h.rowL (cellsL_get l i 0 hi (by decide)),Sh.cell_at h.rowL (cellsL_get l i 1 hi (by decide)),Sh.cell_at h.rowL (cellsL_get l i 2 hi (by decide)),Sh.cell_at h.rowL (cellsL_get l i 3 hi (by decide))⟩
theorem RfIs.text {b cap:Nat} (h:RfIs w xr (.slice (some ⟨b,0,none⟩) 12 cap) ls most hv l) {j:Nat} (hj:j<12):w.cell? ⟨b,j,none⟩=some (.string (Sh.strL (hv j))) :=
 Sh.cell_at h.rowV (rowV_get hv hj)
theorem place_key {l:List En} (hn:(l.map En.k).Nodup) {i:Nat} (hi:i<l.length) {k:Nat} (hk:l[i].k=k):i=placeE l k:=by
 obtain ⟨h1,h2⟩:=placeE_of hn (List.getElem_mem hi)
 rw [hk] at h1 h2
 have h3:l[placeE l k].k=k:=by
  rw [List.getElem?_eq_getElem h1] at h2
  injection h2 with h2
  rw [h2,hk]
 have hp:=List.pairwise_iff_getElem.1 (show (l.map En.k).Pairwise (·≠·) from hn)
 rcases Nat.lt_trichotomy i (placeE l k) with q | q | q
 ·exact absurd (by rw [List.getElem_map,List.getElem_map,h3,hk]) (hp i (placeE l k) (by simpa using hi) (by simpa using h1) q)
 ·exact q
 ·exact absurd (by rw [List.getElem_map,List.getElem_map,h3,hk]) (hp (placeE l k) i (by simpa using h1) (by simpa using hi) q)
def atR (l:List En) (n:Int):Int:=match finds l n with | none=>-1 | some e=>(placeE l e.k:Int)
set_option maxRecDepth 20000 in
theorem rAt (h:RfIs w xr vs ls most hv l) (n:Int):Calls Tryz.prog 69 #[.pointer (some ⟨xr,0,none⟩),.int .i64 n] w fun r w'=>r=.returned (.int .i64 (atR l n))/\w=w':=by
 have HH:=hid h
 have c2:=h.c2
 obtain ⟨A,cap,hls⟩:=Sh.own_shape2 h.rowL
 subst hls
 have hlen:l.length<=1024:=h.len
 generalize hm:l.length=m at *
 have HM:=hid hm
 clear h hm
 go_enter Tryz.func69,Tryz.ntmps69
 go_wp2
 go_loopw [5] (fun s wr=>∃j:Nat,j<=m/\s=.int .i64 j/\Hid (Go.Proofs.YtcepognpbeahhaaGreatDoor.Kc.SameW wr w/\∀i (hi:i<l.length),i<j->(l[i].k:Int)≠n)) (fun s _=>m-(intOf s).toNat)
 case atStart=>exact ⟨0,Nat.zero_le _,rfl,hid ⟨rfl,fun i _ q=>absurd q (Nat.not_lt_zero i)⟩⟩
 case round =>
  obtain ⟨j,hj,rfl,hrel⟩:=hrel
  obtain ⟨hwr,hno⟩:=hrel.out
  have hwr:w=wr:=Eq.symm hwr
  subst hwr
  by_cases hlt:j<m
  ·have hjl:j<l.length:=by rw [HM.out];exact hlt
   have hHH:=HH.out
   have hF:=hHH.lform (by omega)
   obtain ⟨b,cp,hbc⟩:=hF
   injection hbc with hA _ hcp
   subst hA
   subst hcp
   rw [<- HM.out] at hHH
   obtain ⟨e0,_,_,_⟩:=hHH.ent hjl
   have HNO:=hid hno
   have HPL:=hid (fun hk:(l[j].k:Int)=n=>show (j:Int)=atR l n by
    have hf:finds l n=some l[j]:=by rw [<- hk];exact Go.Proofs.YtcepognpbeahhaaGreatDoor.Kc.finds_mem HH.out.keys (List.getElem_mem hjl)
    unfold atR
    rw [hf]
    show (j:Int)=(placeE l l[j].k:Int)
    rw [<- place_key HH.out.keys hjl rfl])
   have HKJ:Hid (∀i (hi:i<l.length),i=j->l[i].k=l[j].k):=hid fun i hi e=>by subst e;rfl
   generalize l[j].k=kj at *
   clear hno hrel hHH
   by_cases hk:(kj:Int)=n
   ·have HP:=hid (HPL.out hk)
    have qk:((kj:Int) == n)=true:=by simpa using hk
    clear hk
    go_wp2
    go_ret
    exact ⟨by rw [<- HP.out];rfl,rfl⟩
   ·have qk:((kj:Int) == n)=false:=by rw [beq_eq_false_iff_ne];exact hk
    have HK:=hid hk
    clear hk
    go_wp2
    go_roundw
    case rel=>exact ⟨j+1,by omega,by go_num,hid ⟨rfl,fun i hi (q:i<j+1)=>by
     by_cases e:i=j
     ·rw [HKJ.out i hi e];exact HK.out
     ·exact HNO.out i hi (Nat.lt_of_le_of_ne (Nat.le_of_lt_succ q) e)⟩⟩
    case measure=>simp [intOf];omega
  ·have HN:Hid (atR l n=-1):=hid (by
    have hf:finds l n=none:=by
     unfold finds
     rw [List.find?_eq_none]
     intro e he
     obtain ⟨i,hi,rfl⟩:=List.mem_iff_getElem.1 he
     simpa using hno i hi (by have:=HM.out;omega)
    unfold atR
    rw [hf])
   clear hno hrel
   go_wp2
   go_ret
   exact ⟨by rw [HN.out];rfl,rfl⟩
end
end Go.Proofs.YtcepognpbeahhaaGreatDoor.Rc
