/-
  What the statement's proof rests on, part 39.
  Conditions: each theorem's own.
-/
import Derived.Test.YtcepognpbeahhaaGreatDoorW29
import Derived.Test.YtcepognpbeahhaaGreatDoorW37
import Derived.Test.YtcepognpbeahhaaGreatDoorW38
import Derived.Test.YtcepognpbeahhaaGreatDoorW36
import Derived.Test.YtcepognpbeahhaaGreatDoorWtk
open Go.Lib (hid)
namespace Go.Proofs.YtcepognpbeahhaaGreatDoor.U
open Go.RowKit Go.Maps
structure Rs where
 S:Sh.Sf
 o:Nat->Int
 F:Nat->Prop
 D:Set0
 U:Set0
 g:Gh
def ownR (J:Vk) (F:Nat->Prop) (b:Nat):Prop:=b<J.B\/AllV J F b\/∃i,i<J.n/\b=J.gn i
structure IsR (J:Vk) (A:Ar) (w:World) (x:Rs) (k:Nat):Prop where
 vr:Vr J w A.s x.o x.S x.F x.D x.U
 oi:Oi A x.S x.o x.g x.D x.U
 ld:Ld A x.S x.g
 pw:Pw x.S
 few:∃m,Few x.S x.D x.U m/\m+1000*k<=400000000
def contR (A:Ar) (x:Rs) (m:Nat):Sh.Bs:=x.g.dat (stOf A.M m) (meOf A.M m)
structure Giv (J:Vk) (A:Ar):Prop where
 n:A.n=J.n
 l:A.L=J.L
 said:Said A
 tabs:Tabs J.W
 tb:max 0 1+1<=J.B
 flds:Flds J.W
 fb:4+1<=J.B
section
variable {J:Vk} {A:Ar} {w w':World} {x:Rs} {k:Nat}
theorem gn_lt {s:Go.Proofs.YtcepognpbeahhaaGreatDoor.S.Sup} {o:Nat->Int} {S:Sh.Sf} {F:Nat->Prop} {D U:Set0} (h:Vr J w s o S F D U) {i:Nat} (hi:i<J.n):J.gn i<w.heap.size:=World.block_lt_of_cell? w _ (h.logs.log i hi).c0
theorem IsR.fits (h:IsR J A w x k) (hG:Giv J A):Fits J.n J.L A.s A.M A.St x.S:=by rw [<- hG.n,<- hG.l];exact fits_ci h.oi.fi.ci hG.said
theorem IsR.lt (h:IsR J A w x k):∀b,ownR J x.F b->b<w.heap.size:=by
 rintro b (e | e | ⟨i,hi,rfl⟩)
 ·exact Nat.lt_of_lt_of_le e h.vr.size
 ·exact h.vr.lt b e
 ·exact gn_lt h.vr hi
theorem Vr.only_tab2 {s:Go.Proofs.YtcepognpbeahhaaGreatDoor.S.Sup} {o:Nat->Int} {S:Sh.Sf} {F:Nat->Prop} {D U:Set0} {X:Nat->Prop} (h:Vr J w s o S F D U) (ho:Sh.Only X w w') (hx2:∀b,AllV J F b->¬X b) (hbel:Below J.B J.W w') (hg:∀i,i<J.n->w'.heap[J.gn i]?=w.heap[J.gn i]?):Vr J w' s o S F D U:=by
 have hk:∀b,b<w.heap.size->¬X b->w'.heap[b]?=w.heap[b]?:=fun b hb hx=>ho.block b hb hx
 exact ⟨⟨⟨⟨h.vo.ds.on.shelf.only ho (fun b hb e=>hx2 b (.inl (.inl hb)) e),h.vo.ds.on.low,hbel,Nat.le_trans h.size ho.size⟩,fun i hi=>(h.vo.ds.dev i hi).same (hk _ (h.vo.ds.dev i hi).lt (hx2 _ (.inl (.inr ⟨i,hi,rfl⟩)))),h.vo.ds.apart,h.vo.ds.inj,h.vo.ds.low⟩,h.vo.vol.kept (hk _ h.vo.vol.vlt (hx2 _ (.inr (.inl rfl)))) (hk _ h.vo.vol.tlt (hx2 _ (.inr (.inr (.inl rfl))))),h.vo.apart,h.vo.low,⟨Nat.lt_of_lt_of_le h.vo.lt.1 ho.size,Nat.lt_of_lt_of_le h.vo.lt.2 ho.size⟩⟩,⟨fun i hi=>(h.logs.log i hi).same (hg i hi),h.logs.apart,h.logs.low⟩,h.ne,set_same h.opens (hk _ h.vo.lt.1 (hx2 _ (.inr (.inr (.inr (.inl rfl)))))),set_same h.used (hk _ h.vo.lt.2 (hx2 _ (.inr (.inr (.inr (.inr rfl))))))⟩
theorem IsR.stays {X:Nat->Prop} (h:IsR J A w x k) (ho:Sh.Only X w w') (hX:∀b,X b->¬ownR J x.F b):IsR J A w' x k :=
 ⟨h.vr.only_tab2 ho (fun b hb e=>hX b e (.inr (.inl hb))) (h.vr.bel.trans (ho.below (fun b hb=>Nat.le_of_not_lt fun e=>hX b hb (.inl e)) h.vr.size)) (fun i hi=>ho.block _ (gn_lt h.vr hi) fun e=>hX _ e (.inr (.inr ⟨i,hi,rfl⟩))),h.oi,h.ld,h.pw,h.few⟩
theorem IsR.less (h:IsR J A w x k) {k':Nat} (hk:k'<=k):IsR J A w x k':=by
 obtain ⟨m,h1,h2⟩:=h.few
 exact ⟨h.vr,h.oi,h.ld,h.pw,m,h1,by omega⟩
theorem movesR {F F':Nat->Prop} (hm:Sh.Moves (AllV J F) w (AllV J F') w'):Sh.Moves (ownR J F) w (ownR J F') w' :=
 ⟨hm.1.mono fun b hb=>.inr (.inl hb),by
  rintro b (e | e | e)
  ·exact .inl (.inl e)
  ·exact (hm.2 b e).imp (fun q=>.inr (.inl q)) id
  ·exact .inl (.inr (.inr e))⟩
theorem besideR {F:Nat->Prop} {a:Option Addr} {b:Sh.Bs} (h:Sh.Beside w (ownR J F) a b):Sh.Beside w (AllV J F) a b:=⟨h.1,fun ad ha e=>h.2 ad ha (.inr (.inl e))⟩
theorem IsR.size (h:IsR J A w x k) (hG:Giv J A):Calls Tryz.prog 29 #[.pointer (some ⟨J.v,0,none⟩)] w fun e w'=>e=.returned (.int .i64 ((A.St*(A.M-1):Nat):Int))/\Below w.heap.size w w':=vsize h.vr (h.fits hG)
theorem IsR.read (h:IsR J A w x (k+1)) (hG:Giv J A) (m:Nat) (hm:m<A.St*(A.M-1)):Calls Tryz.prog 13 #[.pointer (some ⟨J.v,0,none⟩),.int .i64 (m:Int)] w fun e w' =>
  ∃(y:Int) (a:Option Addr) (len cap:Nat) (X:Sh.Bs) (x':Rs),e=.returned (.tuple #[.slice a len cap,.int .i64 y])/\(y=0/\X=contR A x m/\∀j,contR A x' j=contR A x j)/\IsR J A w' x' k/\Sh.Moves (ownR J x.F) w (ownR J x'.F) w' /\
   ((y=0/\len=128/\Sh.Bytes w w' a X/\Sh.Sec X/\∀ad,a=some ad->¬ownR J x'.F ad.block)\/(y≠0/\a=none/\len=0/\cap=0)):=by
 obtain ⟨mm,hf,hmm⟩:=h.few
 refine (vRead_any h.vr (h.fits hG) hG.tabs hG.tb (m:Int) hf.waits (by omega)).mono ?_
 rintro e w' ⟨y,a,len,cap,rfl,X,t,F',hR,hV,hmv,hcase⟩
 have hR2:RdR A.L A.s A.M A.St (m:Int) x.S x.o y X t:=by rw [hG.l];exact hR
 obtain ⟨hy,hX,hd,ho⟩:=h.oi.read h.ld hm hR2
 refine ⟨y,a,len,cap,X,⟨t.S,t.o,F',x.D,x.U,x.g⟩,rfl,⟨hy,hX,fun _=>rfl⟩,⟨hV,ho,fun st q hs hq hl=>(hd _).trans (h.ld st q hs hq hl),h.pw.rdR hR2,mm+1000,hf.read hR2,by omega⟩,movesR hmv,?_⟩
 rcases hcase with ⟨e1,e2,hb,hs,hno⟩ | q
 ·refine .inl ⟨e1,e2,hb,hs,fun ad ha e=>?_⟩
  rcases e with e | e | ⟨i,hi,e⟩
  ·have:=(hb.2 ad ha).1
   have:=h.vr.size
   omega
  ·exact hno ad ha e
  ·have:=(hb.2 ad ha).1
   have:=gn_lt h.vr hi
   omega
 ·exact .inr q
theorem IsR.write (h:IsR J A w x (k+1)) (hG:Giv J A) (m:Nat) {a:Option Addr} {b:Sh.Bs} (c:Nat) (hm:m<A.St*(A.M-1)) (hA:Sh.Beside w (ownR J x.F) a b) (hb:Sh.Sec b):Calls Tryz.prog 83 #[.pointer (some ⟨J.v,0,none⟩),.int .i64 (m:Int),.slice a 128 c] w fun e w' =>
  ∃(y:Int) (x':Rs),e=.returned (.int .i64 y)/\(y=0/\∀j,j<A.St*(A.M-1)->contR A x' j=if j=m then b else contR A x j)/\IsR J A w' x' k/\Sh.Moves (ownR J x.F) w (ownR J x'.F) w':=by
 obtain ⟨mm,hf,hmm⟩:=h.few
 have h3:=h.oi.fi.ci.ar.m3
 refine (vWrite_any h.vr (h.fits hG) hG.tabs hG.tb hG.flds hG.fb (m:Int) hb (besideR hA) hf.waits hf.opens.2 hf.used (by omega)).mono ?_
 rintro e w' ⟨y,rfl,t,D',U',hW,F',hV,hmv⟩
 have hW2:WrR A.n A.L A.s A.M A.St (m:Int) b x.D x.U x.S x.o y t D' U':=by rw [hG.n,hG.l];exact hW
 have hp:=h.pw.wrR hW2
 obtain ⟨hd,⟨hy,g',hg,_,ho⟩ | ⟨_,hoff,_⟩⟩:=h.oi.write h.ld (isMap_set h.vr.opens) (isMap_set h.vr.used) hm hb hW2
 ·refine ⟨y,⟨t.S,t.o,F',D',U',g'⟩,rfl,⟨hy,fun j hj=>?_⟩,⟨hV,ho hp.1,fun st q hs hq hl=>(hd _).trans (h.ld st q hs hq (by rw [<- hg.lack];exact hl)),hp,mm+1000,hf.write h.vr.used (by rw [hG.n.symm];have:=hG.said.m16;have:=(h.fits hG).cnt;have:=hG.n;omega) (h.fits hG).l2 hW,by omega⟩,movesR hmv⟩
  unfold contR
  by_cases e:j=m
  ·rw [if_pos e,e];exact hg.dat
  ·rw [if_neg e]
   obtain ⟨w1,w2,_,_⟩:=me_ok (M:=A.M) (m:=j) h3
   refine hg.rest _ _ fun q=>?_
   obtain ⟨q1,q2 | q2⟩:=q
   ·exact e (me_inj h3 q1 q2)
   ·rw [<- q1] at q2;exact w2 q2
 ·exact absurd hp.1 hoff
theorem IsR.flush (h:IsR J A w x (k+1)) (hG:Giv J A):Calls Tryz.prog 53 #[.pointer (some ⟨J.v,0,none⟩)] w fun e w' =>
  ∃(y:Int) (x':Rs),e=.returned (.int .i64 y)/\(y=0/\∀j,contR A x' j=contR A x j)/\IsR J A w' x' k/\Sh.Moves (ownR J x.F) w (ownR J x'.F) w':=by
 obtain ⟨mm,hf,hmm⟩:=h.few
 refine (vFlush_any h.vr (h.fits hG) hG.tabs hG.tb hf.waits hf.used (by omega)).mono ?_
 rintro e w' ⟨y,rfl,t,D',U',hF,F',hV,hmv⟩
 have hF2:FlR A.n A.L x.D x.U x.S y t D' U':=by rw [hG.n,hG.l];exact hF
 have hp:=h.pw.flR hF2
 obtain ⟨hd,⟨hy,rfl,rfl,_,ho⟩ | ⟨_,hoff,_⟩⟩:=h.oi.fi.flush hF2
 ·exact ⟨y,⟨t.S,t.o,F',noSet,noSet,x.g.closed⟩,rfl,⟨hy,fun _=>rfl⟩,⟨hV,ho hp.1,fun st q hs hq hl=>(hd _).trans (h.ld st q hs hq hl),hp,mm+1000,hf.flush (by have:=hG.said.m16;have:=(h.fits hG).cnt;omega) (h.fits hG).l2 hF,by omega⟩,movesR hmv⟩
 ·exact absurd hp.1 hoff
def Hv (J:Vk) (A:Ar) (hG:Giv J A) (hN:A.St*(A.M-1)<=1073741824):Go.Proofs.YtcepognpbeahhaaGreatDoor.Kc.VolK where
 v:=J.v
 n:=A.St*(A.M-1)
 σ:=Rs
 own x b:=ownR J x.F b
 is w x k:=IsR J A w x k
 rd x m y X x':=y=0/\X=contR A x m/\∀j,contR A x' j=contR A x j
 wr x m b y x':=y=0/\∀j,j<A.St*(A.M-1)->contR A x' j=if j=m then b else contR A x j
 fl x y x':=y=0/\∀j,contR A x' j=contR A x j
 nmax:=hN
 lt h:=h.lt
 stays h ho hF:=h.stays ho hF
 less h hk:=h.less hk
 size h:=h.size hG
 read m h hm:=h.read hG m hm
 write m _ _ c h hm hA hb:=h.write hG m c hm hA hb
 flush h:=h.flush hG
end
end Go.Proofs.YtcepognpbeahhaaGreatDoor.U
namespace Go.Proofs.YtcepognpbeahhaaGreatDoor.Kc
open Go.RowKit Go.Maps
structure Okv (V:VolK):Prop where
 rd:∀{x m y X x'},V.rd x m y X x'->y=0
 wr:∀{x m b y x'},V.wr x m b y x'->y=0
 fl:∀{x y x'},V.fl x y x'->y=0
section
variable {V:VolK} {most:Nat} {l l':List En} {x x':V.σ} {n:Int} {m:Nat} {y:Int} {X b:Sh.Bs}
theorem Okv.wb (hV:Okv V) {e e':En} (h:WbR V x e y x' e'):y=0:=by
 cases h with
 | clean _=>rfl
 | no _ _ _ h _=>exact hV.wr h
 | done _ _ _=>rfl
theorem room_free (h:RoomR V most l x y l' x') (hr:l.length<most):y=0/\l'=l/\x'=x:=by
 cases h with
 | free _=>exact ⟨rfl,rfl,rfl⟩
 | full h _=>exact absurd hr h
 | no _ _ _ h _ _ _ _=>exact absurd hr h
 | left _ _ _ h _ _ _=>exact absurd hr h
theorem drop_none {l:List En} {k:Nat} (h:∀z∈l,z.k≠k):dropE l k=l:=by
 unfold dropE
 rw [List.filter_eq_self]
 intro z hz
 simpa using h z hz
theorem use_last {l:List En} {e e':En} (h:∀z∈l,z.k≠e.k) (hk:e'.k=e.k):useE (l++[e]) e'=l++[e']:=by
 unfold useE
 rw [hk]
 unfold dropE
 rw [List.filter_append,List.filter_cons_of_neg (by simp),List.filter_nil,List.append_nil]
 have:=drop_none h
 unfold dropE at this
 rw [this]
theorem Okv.get_miss (hV:Okv V) (h:GetR V most n l x y X l' x') (hn:n=(m:Int)) (hm:m<V.n) (hf:finds l n=none) (hr:l.length<most):y=0/\V.rd x m 0 X x'/\∃p,l'=l++[⟨m,p,X,false,0⟩]:=by
 subst hn
 have hk0:∀z∈l,z.k≠m:=fun z hz e=>finds_none hf z hz (by rw [e])
 cases h with
 | out h=>exact absurd ⟨by omega,by omega⟩ h
 | here e _ h=>rw [hf] at h;cases h
 | no k _ _ _ hk _ _ hfe hne =>
  cases hfe with
  | no _ _ _ hrd _=>exact absurd (hV.rd hrd) hne
  | got _ _ _ _ _ _ hkp =>
   cases hkp with
   | no _ _ _ hrm _=>exact absurd (room_free hrm hr).1 hne
   | kept _ _ _ _=>exact absurd rfl hne
 | got k _ _ e hk _ _ hfe hfd =>
  have hkm:k=m:=by omega
  subst hkm
  cases hfe with
  | no _ _ _ _ hne=>exact absurd rfl hne
  | got X1 x1 _ _ _ hrd hkp =>
   cases hkp with
   | no _ _ _ _ hne=>exact absurd rfl hne
   | kept l2 x2 p hrm =>
    obtain ⟨_,rfl,rfl⟩:=room_free hrm hr
    rw [finds_snoc hk0,if_pos rfl] at hfd
    injection hfd with hfd
    subst hfd
    exact ⟨rfl,hrd,p,use_last hk0 rfl⟩
theorem get_hit {e:En} (h:GetR V most n l x y X l' x') (hn:0<=n/\n<(V.n:Int)) (hf:finds l n=some e):y=0/\X=e.d/\l'=useE l e/\x'=x:=by
 cases h with
 | out h=>exact absurd hn h
 | here e2 _ h =>
  rw [hf] at h
  injection h with h
  subst h
  exact ⟨rfl,rfl,rfl,rfl⟩
 | no _ _ _ _ _ _ h _ _=>rw [hf] at h;cases h
 | got _ _ _ _ _ _ h _ _=>rw [hf] at h;cases h
theorem Okv.put_full (hV:Okv V) {e:En} {t:List En} (h:PutR V most n b (e :: t) x y l' x') (hn:n=(m:Int)) (hm:m<V.n) (hb:b.length=128) (hf:finds (e :: t) n=none) (hr:¬(e :: t).length<most) (hp:e.pins=0) (hd:e.dirty=false) :
  y=0/\x'=x/\∃p,l'=dropE (e :: t) e.k++[⟨m,p,b,true,0⟩]:=by
 subst hn
 have hfirst:firstE (e :: t)=0:=by unfold firstE;rw [List.findIdx_cons];simp [hp]
 have hrm:∀{y:Int} {l2:List En} {x2:V.σ},RoomR V most (e :: t) x y l2 x2->y=0/\l2=dropE (e :: t) e.k/\x2=x:=fun h=>by
  cases h with
  | free h=>exact absurd h hr
  | full _ h=>exact absurd hp (h e (List.mem_cons_self ..))
  | no e2 _ _ _ _ _ hw hne=>exact absurd (hV.wb hw) hne
  | left e2 e' _ _ h2 _ hw =>
   rw [hfirst] at h2
   injection h2 with h2
   subst h2
   cases hw with
   | clean _=>exact ⟨rfl,rfl,rfl⟩
   | no _ _ h3 _ _=>rw [hd] at h3;cases h3
   | done _ h3 _=>rw [hd] at h3;cases h3
 have hk0:∀z∈dropE (e :: t) e.k,z.k≠m:=fun z hz e2=>finds_none hf z (List.mem_filter.1 hz).1 (by rw [e2])
 cases h with
 | out h=>exact absurd ⟨⟨by omega,by omega⟩,hb⟩ h
 | here e2 _ _ h=>rw [hf] at h;cases h
 | no k _ _ _ hk _ _ _ hkp hne =>
  cases hkp with
  | no _ _ _ h _=>exact absurd (hrm h).1 hne
  | kept _ _ _ _=>exact absurd rfl hne
 | new k _ _ e2 hk _ _ _ hkp hfd =>
  have hkm:k=m:=by omega
  subst hkm
  cases hkp with
  | no _ _ _ _ hne=>exact absurd rfl hne
  | kept l2 x2 p h =>
   obtain ⟨_,rfl,rfl⟩:=hrm h
   rw [finds_snoc hk0,if_pos rfl] at hfd
   injection hfd with hfd
   subst hfd
   exact ⟨rfl,rfl,p,use_last hk0 rfl⟩
theorem Okv.flush_one (hV:Okv V) (h:FlushR V l x y l' x') {e:En} (hs:risesE fFlush l=[(e.k:Int)]) (hf:finds l (e.k:Int)=some e) (hd:e.dirty=true) :
  y=0/\l'=putE l { e with dirty:=false }/\∃x1,V.wr x e.k e.d 0 x1/\V.fl x1 0 x':=by
 have hw:∀{y:Int} {l2:List En} {x2:V.σ},WbsR V [(e.k:Int)] l x y l2 x2->y=0/\l2=putE l { e with dirty:=false }/\V.wr x e.k e.d 0 x2:=fun h=>by
  cases h with
  | no _ _ _ _ _ _ _ _ hwb hne=>exact absurd (hV.wb hwb) hne
  | next _ _ _ _ e2 e1 x1 _ _ _ hf2 hwb ht =>
   rw [hf] at hf2
   injection hf2 with hf2
   subst hf2
   cases ht with
   | nil _ _ =>
    cases hwb with
    | clean h3=>rw [hd] at h3;cases h3
    | no _ _ _ _ hne=>exact absurd rfl hne
    | done _ _ h4=>exact ⟨rfl,rfl,h4⟩
 have hs2:risesE (fun e=>e.dirty && decide (e.pins=0)) l=[(e.k:Int)]:=hs
 cases h with
 | no _ _ _ h hne=>rw [hs2] at h;exact absurd (hw h).1 hne
 | all _ x1 _ _ h hfl =>
  rw [hs2] at h
  obtain ⟨_,h2,h3⟩:=hw h
  have h0:=hV.fl hfl
  subst h0
  exact ⟨rfl,h2,x1,h3,hfl⟩
end
end Go.Proofs.YtcepognpbeahhaaGreatDoor.Kc
namespace Go.Proofs.YtcepognpbeahhaaGreatDoor.U
open Go.RowKit Go.Maps
structure All10 (w:World):Prop where
 tabs:Tabs w
 fld:Flds w
 wid:Go.Proofs.YtcepognpbeahhaaGreatDoor.S.Wid w
theorem All10.over {w w':World} (h:All10 w) (hb:Below w.heap.size w w'):All10 w':=⟨h.tabs.below h.tabs.size hb,h.fld.below h.fld.size hb,h.wid.below h.wid.size hb⟩
def ar10:Ar:=arOf (newSaid 4 4 1) 4 1 4 4
theorem ok_hv {J:Vk} {A:Ar} (hG:Giv J A) (hN:A.St*(A.M-1)<=1073741824):Go.Proofs.YtcepognpbeahhaaGreatDoor.Kc.Okv (Hv J A hG hN):=⟨fun h=>h.1,fun h=>h.1,fun h=>h.1⟩
set_option maxRecDepth 20000 in
theorem volume_any {w:World} (hA:All10 w):Calls Tryz.prog 26 #[] w fun e w'=>∃(J:Vk) (x:Rs) (_:Nat),e=.returned (.tuple #[.pointer (some ⟨J.p,0,none⟩),.pointer (some ⟨J.v,0,none⟩)])/\Giv J ar10/\IsR J ar10 w' x 390000/\(∀j,contR ar10 x j=Sh.noughts)/\J.B=w.heap.size/\J.W=w:=by
 have HN:=hid (Sh.new_ok 4 30 w (by decide) (by decide) (by decide) (by decide))
 have HA:=hid hA
 clear hA
 go_enter Tryz.func26,Tryz.ntmps26
 go_wp2_with fail
 refine HN.out.mono ?_
 rintro e w1 ⟨p,F,rfl,hsh,hlow,hb1⟩
 have hat:Sh.At w.heap.size w w1 p (Sh.newSf 4 30) F:=⟨hsh,hlow,hb1,hb1.size⟩
 have HC:=hid (create_new hat HA.out.tabs HA.out.tabs.size HA.out.wid HA.out.wid.size 4 4 1 (by decide) (by decide) (by decide) (by decide) (by decide) (by decide) (.inl rfl) (by decide))
 clear hat hsh hlow hb1 HN
 go_wp2_with fail
 refine HC.out.mono ?_
 rintro e w2 ⟨J,F',o,S,rfl,e1,e2,e3,e4,e5,hV,hB,hmv⟩
 have HR:=hid (And.intro e1 (And.intro e2 (And.intro e3 (And.intro e4 (And.intro e5 (And.intro hV hB))))))
 clear e1 e2 e3 e4 e5 hV hB hmv HC
 go_wp2
 go_ret2
 obtain ⟨e1,e2,e3,e4,e5,hV,hB⟩:=HR.out
 have hci:=hB.ci hV.vo.ds.on.shelf (by decide) (by decide) (by decide) (by decide) (by decide) (.inl rfl) (by decide)
 refine ⟨J,⟨S,o,F',noSet,noSet,gh0⟩,p,(by rw [e3];rfl),⟨e4.symm,e5.symm,said_new (by decide) (by decide) (by decide) (by decide) (by decide) (by decide) (.inl rfl),by rw [e2];exact HA.out.tabs,by rw [e1];exact HA.out.tabs.size,by rw [e2];exact HA.out.fld,by rw [e1];exact HA.out.fld.size⟩,⟨hV,hci.1,fun _ _ _ _ h=>h.elim,hci.2.1,100,⟨hB.waits,⟨tidy_empty,Nat.zero_le _⟩,Nat.zero_le _⟩,by decide⟩,fun _=>rfl,e1,e2⟩
theorem same_ints (w:World) (b1 c1 b2 c2:Nat) (zs:List Int) (hn:zs.length<=1048576) (h1:∀j,j<zs.length->w.cell? ⟨b1,j,none⟩=some (.int .i64 (zs.getD j 0))) (h2:∀j,j<zs.length->w.cell? ⟨b2,j,none⟩=some (.int .i64 (zs.getD j 0))) :
  Calls Tryz.prog 68 #[.slice (some ⟨b1,0,none⟩) zs.length c1,.slice (some ⟨b2,0,none⟩) zs.length c2] w fun e w'=>e=.returned (.bool true)/\Below w.heap.size w w':=by
 have HC:=hid (fun (W:World) (hb:Below w.heap.size w W) j (hj:j<zs.length)=>And.intro ((hb.cell (p:=⟨b1,j,none⟩) (block_lt_of_cell (h1 j hj))).trans (h1 j hj)) ((hb.cell (p:=⟨b2,j,none⟩) (block_lt_of_cell (h2 j hj))).trans (h2 j hj)))
 have h0:Hid (Below w.heap.size w w):=hid (Below.refl _ _)
 clear h1 h2
 generalize hq:zs.length=n at *
 clear hq
 go_enter Tryz.func68,Tryz.ntmps68
 go_wp2
 go_loopw [5] (fun s wr=>∃j:Nat,j<=n/\s=.int .i64 j/\Hid (Below w.heap.size w wr)) (fun s _=>n-(intOf s).toNat)
 case atStart=>exact ⟨0,Nat.zero_le _,rfl,h0⟩
 case round =>
  obtain ⟨j,hj,rfl,hrel⟩:=hrel
  by_cases hlt:j<n
  ·obtain ⟨k1,k2⟩:=HC.out _ hrel.out j hlt
   generalize zs.getD j 0=z at *
   have q:(z != z)=false:=by simp
   go_wp2
   go_region
   go_wp2
   go_roundw
   case rel=>exact ⟨j+1,by omega,by go_num,hid (hrel.out.trans ((Below.refl _ _).drew.mono hrel.out.size))⟩
   case measure=>simp [intOf];omega
  ·obtain rfl:j=n:=by omega
   go_wp2
   go_ret
   exact ⟨rfl,hrel.out⟩
theorem alike (w:World) (b1 c1 b2 c2:Nat) (zs:List Int) (hn:zs.length<=1048576) (h1:∀j,j<zs.length->w.cell? ⟨b1,j,none⟩=some (.int .i64 (zs.getD j 0))) (h2:∀j,j<zs.length->w.cell? ⟨b2,j,none⟩=some (.int .i64 (zs.getD j 0))) :
  Calls Tryz.prog 30 #[.slice (some ⟨b1,0,none⟩) zs.length c1,.slice (some ⟨b2,0,none⟩) zs.length c2] w fun e w'=>e=.returned (.int .i64 0)/\Below w.heap.size w w':=by
 have HC:=hid (same_ints w b1 c1 b2 c2 zs hn h1 h2)
 clear hn h1 h2
 go_enter Tryz.func30,Tryz.ntmps30
 go_wp2_with fail
 refine HC.out.mono ?_
 rintro e w1 ⟨rfl,hb⟩
 have HB:=hid hb
 clear hb
 go_wp2
 go_ret
 exact ⟨rfl,HB.out⟩
open Go.Proofs.YtcepognpbeahhaaGreatDoor.Kc (En Cg Cav)
theorem conv_own' {w:World} {B q:Nat} {l:Sh.Bs} {s:ByteArray} (h:w.ownsRow B 5 1 (.slice (some ⟨q,0,none⟩) 128 128) 128 (Sh.bts l)) (hs:Sh.strL l=s) (W:World) (hb:Below w.heap.size w W):(convert 40 9 (.slice (some ⟨q,0,none⟩) 128 128)).run Tryz.prog W=.ok (.string s) W:=by
 rw [<- hs]
 exact Sh.run_str 128 ((Sh.Reads.of_own h).below hb)
theorem conv_b10 {w0 w:World} {A:Option Addr} {c:Nat} {l:Sh.Bs} {s:ByteArray} (h:Sh.Bytes w0 w A l) (hs:Sh.strL l=s) (W:World) (hb:Below w.heap.size w W):(convert 40 9 (.slice A 128 c)).run Tryz.prog W=.ok (.string s) W:=by
 rw [<- hs]
 exact Sh.run_str c (h.1.below hb)
set_option maxRecDepth 100000 in
set_option maxHeartbeats 8000000 in
theorem lives10 {w:World} (hA:All10 w):Calls Tryz.prog 11 #[] w fun e w'=>e=.returned (.bool true)/\Below w.heap.size w w':=by
 have HV:=hid (volume_any hA)
 clear hA
 go_enter Tryz.func11,Tryz.ntmps11
 go_wp2_with fail
 refine HV.out.mono ?_
 rintro e w1 ⟨J,x0,p,rfl,hG,hI,hcont,hB,hW⟩
 have hN:ar10.St*(ar10.M-1)<=1073741824:=by decide
 have hV:=ok_hv hG hN
 have HX0:=hid (And.intro hcont (And.intro hB hW))
 have HNEW:=hid (show Calls Tryz.prog 27 #[.pointer (some ⟨J.v,0,none⟩),.int .i64 2] w1 _ from Go.Proofs.YtcepognpbeahhaaGreatDoor.Kc.cNew (V:=Hv J ar10 hG hN) (x:=x0) (k:=390000) (most:=2) hI (by decide) (by decide))
 clear hI HV hcont hB hW
 go_wp2_with fail
 refine HNEW.out.mono ?_
 rintro e w2 ⟨g,rfl,hc,_⟩
 have HG0:=hid (Go.Proofs.YtcepognpbeahhaaGreatDoor.Kc.cGet (k:=389998) hc 0)
 clear hc HNEW
 go_wp2_with fail
 refine HG0.out.mono ?_
 rintro r w3 ⟨y,A,len,cap,rfl,X,l1,x1,u,hget,hc,_,_⟩
 obtain ⟨_,hrd0,p0,rfl⟩:=hV.get_miss (m:=0) hget rfl (by show 0<ar10.St*(ar10.M-1);decide) rfl (by show (0:Nat)<2;decide)
 rw [List.nil_append] at hc
 have HG1:=hid (Go.Proofs.YtcepognpbeahhaaGreatDoor.Kc.cGet (k:=389996) hc 1)
 clear hc HG0 hget
 go_wp2_with fail
 refine HG1.out.mono ?_
 rintro r w4 ⟨y,A,len,cap,rfl,X1,l2,x2,u,hget,hc,_,_⟩
 obtain ⟨_,hrd1,p1,rfl⟩:=hV.get_miss (m:=1) hget rfl (by show 1<ar10.St*(ar10.M-1);decide) rfl (by show (1:Nat)<2;decide)
 have HG2:=hid (Go.Proofs.YtcepognpbeahhaaGreatDoor.Kc.cGet (k:=389994) hc 0)
 clear hc HG1 hget
 go_wp2_with fail
 refine HG2.out.mono ?_
 rintro r w5 ⟨y,A,len,cap,rfl,X2,l3,x3,u,hget,hc,_,_⟩
 obtain ⟨_,_,rfl,rfl⟩:=Go.Proofs.YtcepognpbeahhaaGreatDoor.Kc.get_hit (e:=⟨0,p0,X,false,0⟩) hget ⟨by decide,by show (0:Int)<((ar10.St*(ar10.M-1):Nat):Int);decide⟩ rfl
 have hl3:Go.Proofs.YtcepognpbeahhaaGreatDoor.Kc.useE ([⟨0,p0,X,false,0⟩]++[⟨1,p1,X1,false,0⟩]) ⟨0,p0,X,false,0⟩=[⟨1,p1,X1,false,0⟩,⟨0,p0,X,false,0⟩]:=rfl
 rw [hl3] at hc
 have HC5:=hid hc
 clear hc HG2 hget hl3
 go_wp2_with fail
 refine (Sh.sector_any w5 7 (by decide)).mono ?_
 rintro e w6 ⟨rfl,ho,hb6⟩
 have hbs:Sh.Beside w6 (Go.Proofs.YtcepognpbeahhaaGreatDoor.Kc.AllC (Hv J ar10 hG hN) x3 { c:=g.c,m:=g.m,u:=u } [⟨1,p1,X1,false,0⟩,⟨0,p0,X,false,0⟩]) (some ⟨w5.heap.size,0,none⟩) (Sh.secOf 7):=⟨Sh.Reads.of_own ho,fun a ha e=>by
  injection ha with ha
  subst ha
  exact Nat.lt_irrefl _ (HC5.out.lt e)⟩
 have HP:=hid (Go.Proofs.YtcepognpbeahhaaGreatDoor.Kc.cPut (k:=389993) (cp:=128) (HC5.out.grown hb6) 2 hbs (Sh.secOf_sec (b:=7) (by decide)))
 clear hbs ho hb6 HC5
 go_wp2_with fail
 refine HP.out.mono ?_
 rintro r w7 ⟨y,l4,x4,rfl,hput,u4,hc,_⟩
 obtain ⟨rfl,rfl,p2,rfl⟩:=hV.put_full (m:=2) (e:=⟨1,p1,X1,false,0⟩) (t:=[⟨0,p0,X,false,0⟩]) hput rfl (by show 2<ar10.St*(ar10.M-1);decide) (Sh.secOf_len 7) rfl (by show ¬(2:Nat)<2;decide) rfl rfl
 have hl4:Go.Proofs.YtcepognpbeahhaaGreatDoor.Kc.dropE [⟨1,p1,X1,false,0⟩,⟨0,p0,X,false,0⟩] 1++[⟨2,p2,Sh.secOf 7,true,0⟩]=([⟨0,p0,X,false,0⟩,⟨2,p2,Sh.secOf 7,true,0⟩]:List En):=rfl
 have hc:Cav (Hv J ar10 hG hN) w7 { c:=g.c,m:=g.m,u:=u4 } 2 [⟨0,p0,X,false,0⟩,⟨2,p2,Sh.secOf 7,true,0⟩] x4 389993:=by rw [<- hl4];exact hc
 have HB7:=hid (Go.Proofs.YtcepognpbeahhaaGreatDoor.Kc.cBlocks hc.ca)
 have HC7:=hid hc
 clear hc hput hl4 HP
 go_wp2_with fail
 refine HB7.out.mono ?_
 rintro r w8 ⟨v8,rfl,hrow8,hb8⟩
 have hc8:=HC7.out.grown hb8
 have hrises:(Go.Proofs.YtcepognpbeahhaaGreatDoor.Kc.risesE Go.Proofs.YtcepognpbeahhaaGreatDoor.Kc.fFlush [⟨0,p0,X,false,0⟩,⟨2,p2,Sh.secOf 7,true,0⟩])=[2]:=by
  show [((2:Nat):Int)].mergeSort _=[2]
  exact List.mergeSort_singleton _
 have HFL:=hid (Go.Proofs.YtcepognpbeahhaaGreatDoor.Kc.cFlush (k:=389991) (by rw [hrises];exact hc8))
 have HR8:=hid (And.intro hrow8 (And.intro hb8 hrises))
 obtain ⟨b8,c8,hv8,hb8lt,_,_⟩:=Sh.own_form hrow8 (by show (0:Nat)<2;decide)
 subst hv8
 have HRS:=hid hrises
 clear hc8 hrow8 hb8 HB7 hb8lt hrises
 go_wp2_with fail
 refine HFL.out.mono ?_
 rintro r w9 ⟨y,l5,x5,rfl,hfl,hc,hmv⟩
 obtain ⟨rfl,rfl,x6,hwr,hflx⟩:=hV.flush_one (e:=⟨2,p2,Sh.secOf 7,true,0⟩) hfl HRS.out rfl rfl
 have hcX:contR ar10 x5 2=Sh.secOf 7:=by rw [hflx.2 2,hwr.2 2 (by decide),if_pos rfl]
 have HRD:=hid (show Calls Tryz.prog 13 #[.pointer (some ⟨J.v,0,none⟩),.int .i64 2] w9 _ from (hc.vol:IsR J ar10 w9 x5 (389990+1)).read hG 2 (by decide))
 have HC9:=hid (And.intro hc (And.intro hmv hcX))
 clear hfl hc hmv hcX hwr hflx HFL
 go_wp2_with fail
 refine HRD.out.mono ?_
 rintro r w10 ⟨y,A10,len10,cap10,X10,x10,rfl,⟨rfl,hX10,_⟩,hi10,hm10,hcase⟩
 obtain ⟨_,rfl,hby,_,_⟩ | ⟨hne,_⟩:=hcase
 ·rw [HC9.out.2.2] at hX10
  subst hX10
  have hc10:=HC9.out.1.moved hi10 hm10
  have hno8:¬Go.Proofs.YtcepognpbeahhaaGreatDoor.Kc.AllC (Hv J ar10 hG hN) x4 { c:=g.c,m:=g.m,u:=u4 } [⟨0,p0,X,false,0⟩,⟨2,p2,Sh.secOf 7,true,0⟩] b8:=fun e=>by
   have h1:=HC7.out.lt e
   have h2:=(HR8.out.1.lt b8 rfl).1
   omega
  have hlt8:=(HR8.out.1.lt b8 rfl).2
  have hk9:=HC9.out.2.1.1.block b8 hlt8 hno8
  have hno9:¬ownR J x5.F b8:=fun e=>by
   rcases HC9.out.2.1.2 b8 (.inl e) with q | q
   ·exact hno8 q
   ·omega
  have hk10:=hm10.1.block b8 (Nat.lt_of_lt_of_le hlt8 HC9.out.2.1.1.size) hno9
  have hrow10:=Sh.same_row (Sh.same_row HR8.out.1 (w':=w9) (fun b hb=>by injection hb with hb;rw [<- hb];exact hk9)) (w':=w10) (fun b hb=>by injection hb with hb;rw [<- hb];exact hk10)
  have hBA:Below w10.heap.size w10 (w10.drew.alloc (.cells #[.int .i64 0,.int .i64 2] 3)):=(Below.refl _ w10).drew.alloc (Nat.le_refl _) _
  have HB0:=hid hBA
  have hb8lt:=(hrow10.lt b8 rfl).2
  have HUN:=hid (alike (w10.drew.alloc (.cells #[.int .i64 0,.int .i64 2] 3)) b8 c8 w10.heap.size 2 [0,2] (by decide) (fun j hj=>by
   rw [hBA.cell (p:=⟨b8,j,none⟩) hb8lt]
   match j,hj with
   | 0,_=>exact Sh.cell_at hrow10 rfl
   | 1,_=>exact Sh.cell_at hrow10 rfl) (fun j hj=>by
   have hbn:(w10.drew.alloc (.cells #[.int .i64 0,.int .i64 2] 3)).heap[w10.heap.size]?=some (.cells #[.int .i64 0,.int .i64 2] 3 (0,0)):=heap_alloc_new w10.drew _
   rw [cell_of_row _ _ j _ _ _ hbn]
   match j,hj with
   | 0,_=>rfl
   | 1,_=>rfl))
  have hdirty:Go.Proofs.YtcepognpbeahhaaGreatDoor.Kc.risesE En.dirty (Go.Proofs.YtcepognpbeahhaaGreatDoor.Kc.putE [⟨0,p0,X,false,0⟩,⟨2,p2,Sh.secOf 7,true,0⟩] ⟨2,p2,Sh.secOf 7,false,0⟩)=[]:=by
   show ([]:List Int).mergeSort _=[]
   exact List.mergeSort_nil
  have HDY:=hid (fun (W:World) (hb:Below w10.heap.size w10 W)=>Go.Proofs.YtcepognpbeahhaaGreatDoor.Kc.cDirty (hc10.1.grown hb).ca)
  rw [hdirty] at HDY
  have HFI:=hid (hc10.1.vol:IsR J ar10 w10 x10 389990).vr.bel
  generalize hs7:Sh.strL (Sh.secOf 7)=s7 at *
  have HS7:=hid hs7
  have t1:=fun (W:World) (hb:Below w10.heap.size w10 W)=>conv_b10 (c:=cap10) hby HS7.out W hb
  have HY:=hid (And.intro HX0.out.2.1 HX0.out.2.2)
  clear hs7 hby hdirty hb8lt hBA hrow10 hk10 hno9 hk9 hlt8 hno8 hc10 hi10 hm10 HR8 HRS HC9 HC7 HX0 HRD hrd0 hrd1
  go_wp2_with fail
  refine wp_region_held_drew (S:=fun W'=>Below w10.heap.size w10 W') (by kernel_rfl) ((Below.refl _ _).drew) (fun hHeld=>?_)
  refine tk 0 43 ?_
  refine tk 1 44 ?_
  refine tk 2 45 ?_
  refine tk 3 46 ?_
  refine r1 4 (some 47) fun K hK=>?_
  go_simp
  refine hK.out _ _ HB0.out (fun hHeld=>?_)
  clear hK K
  try simp only [Act.put,List.setIfInBounds_toArray,List.set_cons_zero,List.set_cons_succ]
  refine r1 5 (some 48) fun K hK=>?_
  go_simp
  refine (HUN.out).mono ?_
  rintro e w11 ⟨rfl,hb11⟩
  refine hK.out _ _ (HB0.out.trans (hb11.mono HB0.out.size)) (fun hHeld=>?_)
  clear hK K
  try simp only [Act.put,List.setIfInBounds_toArray,List.set_cons_zero,List.set_cons_succ]
  have hb11':=hid (HB0.out.trans (hb11.mono HB0.out.size))
  clear hb11 hHeld HUN
  refine Sh.wpAnyH_mono (S':=fun W'=>Below w10.heap.size w10 W') (fun W' h=>h) _ _ _ _ ?_
  have hHeld:Below w10.heap.size w10 w11:=hb11'.out
  refine tk 6 49 ?_
  refine tk 7 50 ?_
  refine tk 8 51 ?_
  refine tk 9 52 ?_
  refine tk 10 53 ?_
  refine tk 11 54 ?_
  refine tk 12 55 ?_
  refine tk 13 56 ?_
  refine tk 14 57 ?_
  refine tk 15 58 ?_
  refine tk 16 59 ?_
  refine tk 17 60 ?_
  refine tk 18 61 ?_
  refine r1 19 (some 62) fun K hK=>?_
  go_simp
  refine (Sh.sector_any _ 7 (by decide)).mono ?_
  rintro e w12 ⟨rfl,ho12,hb12⟩
  refine hK.out _ _ (hHeld.trans (hb12.mono hHeld.size)) (fun hHeld=>?_)
  clear hK K
  try simp only [Act.put,List.setIfInBounds_toArray,List.set_cons_zero,List.set_cons_succ]
  have hb912:Below w10.heap.size w10 w12:=hHeld
  clear hHeld t1
  refine Sh.wpAnyH_mono (S':=fun W'=>Below w12.heap.size w12 W') (fun W' h=>hb912.trans (h.mono hb912.size)) _ _ _ _ ?_
  have hHeld:Below w12.heap.size w12 w12:=Below.refl _ _
  have t2:=conv_own' ho12 HS7.out
  have HDI:=hid (HDY.out w12 hb912)
  have HB12:=hid hb912
  clear hb912 hb12 ho12 HDY
  refine tk 20 63 ?_
  refine tk 21 64 ?_
  refine tk 22 65 ?_
  refine tk 23 66 ?_
  refine tk 24 67 ?_
  refine r1 25 (some 68) fun K hK=>?_
  go_simp
  refine (HDI.out).mono ?_
  rintro e w13 ⟨v13,rfl,hrow13,hb13⟩
  refine hK.out _ _ (hb13) (fun hHeld=>?_)
  clear hK K
  try simp only [Act.put,List.setIfInBounds_toArray,List.set_cons_zero,List.set_cons_succ]
  have HB13:=hid hb13
  obtain ⟨A13,c13,hv13⟩:=Sh.own_shape2 hrow13
  subst hv13
  clear hrow13 hb13 t2 HDI
  refine tk 26 69 ?_
  refine tk 27 70 ?_
  refine tk 28 71 ?_
  refine tk 29 0 ?_
  refine wpAnyH_done (by kernel_rfl) ?_ _
  go_wp2
  go_ret
  have hf:=HFI.out
  rw [HY.out.1,HY.out.2] at hf
  exact ⟨rfl,hf.trans ((HB12.out.trans (HB13.out.mono HB12.out.size)).mono hf.size)⟩
 ·exact absurd rfl hne
end Go.Proofs.YtcepognpbeahhaaGreatDoor.U
namespace Go.Proofs.YtcepognpbeahhaaGreatDoor.U.cacheNobody
open Go.ChangeShapes Go.WideShapes Go.ChangeAt Go.RowKit
abbrev laidBoth : List (String × DataW Unit) := [("ashlar/octets.lowRests", Rows.laid_ashlar_octets_lowRests), ("ashlar/octets.highRests", Rows.laid_ashlar_octets_highRests), ("ashlar/ppl.fields", Rows.laid_ashlar_ppl_fields), ("ashlar/super.widths", Rows.laid_ashlar_super_widths)]
theorem tabs_of_laid {W:World} (h:laidMetH Tryz.prog laidBoth W):All10 W:=by
 rw [MakeChecks.laidMetH_plain _ _ _ (by kernel_rfl)] at h
 obtain ⟨ps,⟨g0,t0,cs0,f0,p0,q0,hg0,ht0,hv0,hd0,⟨g1,t1,cs1,f1,p1,q1,hg1,ht1,hv1,hd1,⟨g2,t2,cs2,f2,p2,q2,hg2,ht2,hv2,hd2,⟨g3,t3,cs3,f3,p3,q3,hg3,ht3,hv3,hd3,_,_⟩,_⟩,_⟩,_⟩,_,_⟩:=h
 obtain rfl:=Option.some.inj (gLow.symm.trans hg0)
 obtain rfl:=Option.some.inj (gHigh.symm.trans hg1)
 obtain rfl:=Option.some.inj (gFld.symm.trans hg2)
 obtain rfl:=Option.some.inj (gWid.symm.trans hg3)
 obtain rfl:=Option.some.inj (gWidType.symm.trans ht3)
 obtain rfl:=Option.some.inj (gLowType.symm.trans ht0)
 obtain rfl:=Option.some.inj (gHighType.symm.trans ht1)
 obtain rfl:=Option.some.inj (gFldType.symm.trans ht2)
 have e0:cs0.toList=(Nums.lowT.map fun (x:Nat)=>(x:Int)).map fun z=>Value.int .u32 z:=Lib.cells_of_tab Tryz.underlying239 Tryz.underlying163 cellsU32 cells16 hd0
 have e1:cs1.toList=(Nums.highT.map fun (x:Nat)=>(x:Int)).map fun z=>Value.int .u32 z:=Lib.cells_of_tab Tryz.underlying239 Tryz.underlying163 cellsU32 cells16 hd1
 have e2:=flds_val hd2
 have e3:cs3.toList=widZ.map fun z=>Value.int .i64 z:=Lib.cells_of_tab Tryz.underlying249 Tryz.underlying3 cellsInt cells8 hd3
 have wid0:∀i:Fin 8,widZ[i.val]?=some (((Go.Proofs.YtcepognpbeahhaaGreatDoor.S.widL.getD i.val 0:Nat):Int)):=by decide
 have low:∀i:Fin 16,((Nums.lowT.map fun (x:Nat)=>(x:Int)).map fun z=>Value.int .u32 z)[i.val]?=some (.int .u32 ((Nums.low i.val:Nat):Int)):=by
  intro i
  have:i.val<Nums.lowT.length:=i.isLt
  simp [Nums.low,List.getD,List.getElem?_eq_getElem this]
 have high:∀i:Fin 16,((Nums.highT.map fun (x:Nat)=>(x:Int)).map fun z=>Value.int .u32 z)[i.val]?=some (.int .u32 ((Nums.high i.val:Nat):Int)):=by
  intro i
  have:i.val<Nums.highT.length:=i.isLt
  simp [Nums.high,List.getD,List.getElem?_eq_getElem this]
 refine ⟨⟨fun i hi=>?_,fun i hi=>?_⟩,⟨fun i hi=>?_,fun i hi=>?_⟩,fun i hi=>?_⟩
 ·have h1:=World.var?_cell hg0 hv0 i
  have h2:=low ⟨i,hi⟩
  rw [<- e0] at h2
  rw [h1]
  simpa using h2
 ·have h1:=World.var?_cell hg1 hv1 i
  have h2:=high ⟨i,hi⟩
  rw [<- e1] at h2
  rw [h1]
  simpa using h2
 ·rw [World.var?_cell hg2 hv2 (i*2)]
  have h2:cs2.toList[i*2]?=some (.int .i64 ((4+i*4:Nat):Int)):=by
   rw [e2]
   obtain rfl | rfl | rfl:i=0\/i=1\/i=2:=by omega
   all_goals rfl
  simpa using h2
 ·rw [World.var?_cell hg2 hv2 (i*2+1)]
  have h2:cs2.toList[i*2+1]?=some (.int .u64 ((cntL.getD i 0:Nat):Int)):=by
   rw [e2]
   obtain rfl | rfl | rfl:i=0\/i=1\/i=2:=by omega
   all_goals rfl
  simpa using h2
 ·have h1:=World.var?_cell hg3 hv3 i
  have h2:(widZ.map fun z=>Value.int .i64 z)[i]?=some (.int .i64 ((Go.Proofs.YtcepognpbeahhaaGreatDoor.S.widL.getD i 0:Nat):Int)):=by rw [List.getElem?_map,wid0 ⟨i,hi⟩];rfl
  rw [<- e3] at h2
  rw [h1]
  simpa using h2
end Go.Proofs.YtcepognpbeahhaaGreatDoor.U.cacheNobody
namespace Go.Proofs.YtcepognpbeahhaaGreatDoor.U
open Go.RowKit Go.Maps
open Go.Proofs.YtcepognpbeahhaaGreatDoor.Kc (En Cg Cav)
theorem wp_make128 {o:Oper} {a:Act} {w:World} {K:Act->World->Prop} {Q:Exit->Act->World->Prop} (l c:Operand) (hop:o.op=Op.makeSlice 40 l c) (hl:a.eval l=.int .i64 128) (hc:a.eval c=.int .i64 128)
  (hK:∀w',w'.ownsRow w.heap.size 5 1 (.slice (some ⟨w.heap.size,0,none⟩) 128 128) 128 (Sh.bts Sh.noughts)->Below w.heap.size w w'->K (a.put o.dst (.slice (some ⟨w.heap.size,0,none⟩) 128 128)) w'):Oper.wp Tryz.prog o a w K Q:=by
 obtain ⟨i1,ki,kz0,kz1,kz2⟩:=info_parts (show (Tryz.prog.info? 5).map (fun i=>(i.zero,i.size,i.bytes))=some (some (.int .u8 0),1,1) by kernel_rfl)
 obtain ⟨w',hrun,r1,r2⟩:=run_make_full (P:=Tryz.prog) w w.heap.size 40 5 i1 _ 1 Tryz.underlying40 ki kz0 kz1 .i64 .i64 128 (by rw [kz2];omega) (by unfold maxLen;omega) (Nat.le_refl _)
 have hrun':(Instr.makeSlice 40 (.int .i64 128) (.int .i64 128)).run Tryz.prog w=.ok (.slice (some ⟨w.heap.size,0,none⟩) 128 128) w':=hrun
 unfold Oper.wp
 simp [execOp,hop,hl,hc,hrun',Result.andThen]
 exact hK _ (Sh.noughts_own r1) ((Below.refl _ w).grown r2 (Nat.le_refl _) (fun _ h=>by cases h))
theorem info_str:(Tryz.prog.info? 9).map (fun i=>(i.zero,i.size,i.bytes))=some (some (.string ⟨#[]⟩),1,16):=by kernel_rfl
structure Beg (w:World) (J:Vk) (hG:Giv J ar10) (hN:ar10.St*(ar10.M-1)<=1073741824) (q xr:Nat) (g:Cg) (x:Rs) (n:Nat) (w':World):Prop where
 pair:w'.heap[q]?=some (.cells #[.pointer (some ⟨g.c,0,none⟩),.pointer (some ⟨xr,0,none⟩)] 39 (0,0))
 cav:Cav (Hv J ar10 hG hN) w' g n [] x 390000
 out:∀b,Go.Proofs.YtcepognpbeahhaaGreatDoor.Kc.AllC (Hv J ar10 hG hN) x g [] b->b<xr
 lt:xr<q
 model:∃vs,w'.heap[xr]?=some (.cells #[vs,.int .i64 (n:Int),.slice none 0 0] 35 (0,0))/\w'.ownsRow xr 9 1 vs 12 (List.replicate 12 (Sh.sv Sh.noughts))/\vs.ownBlock≠some q
theorem beg_round {w2 w4 wm w5:World} {A:Option Addr} {j cap g5 cap5:Nat} {nm:Int} {s0:ByteArray}
  (hx4:w4.heap[w2.heap.size]?=some (.cells #[.slice A j cap,.int .i64 nm,.slice none 0 0] 35 (0,0))) (hb:Below w2.heap.size w2 w4) (hm:Below w4.drew.heap.size w4.drew wm) (hne:(Value.slice A j cap).ownBlock≠some w2.heap.size) (hlow:∀b,(Value.slice A j cap).ownBlock=some b->w2.heap.size<=b)
  (ho:w5.ownsRow w2.heap.size 9 1 (.slice (some ⟨g5,0,none⟩) (j+1) cap5) (j+1) (List.replicate j (Sh.sv Sh.noughts)++[.string s0])) (hg:(wm.alloc (.cells #[.string s0] 9)).grownBy w5 (Value.slice A j cap).ownBlock)
  (hl:(Value.slice A j cap).ownBlock=some g5\/g5=(wm.alloc (.cells #[.string s0] 9)).heap.size) (hx5:w5.heap[w2.heap.size]?=some (.cells #[.slice A j cap,.int .i64 nm,.slice none 0 0] 35 (0,0))) (hs:Sh.strL Sh.noughts=s0) :
  ∃vs,(w5.setCell ⟨w2.heap.size,0,none⟩ (.slice (some ⟨g5,0,none⟩) (j+1) cap5)).heap[w2.heap.size]?=some (.cells #[vs,.int .i64 nm,.slice none 0 0] 35 (0,0)) /\
   (w5.setCell ⟨w2.heap.size,0,none⟩ (.slice (some ⟨g5,0,none⟩) (j+1) cap5)).ownsRow w2.heap.size 9 1 vs (j+1) (List.replicate (j+1) (Sh.sv Sh.noughts))/\Below w2.heap.size w2 (w5.setCell ⟨w2.heap.size,0,none⟩ (.slice (some ⟨g5,0,none⟩) (j+1) cap5)):=by
 have hlt:=lt_of_block hx4
 have hms:w4.heap.size<=wm.heap.size:=hm.size
 have hbm:Below w2.heap.size w2 wm:=hb.trans ((Below.trans (show Below w4.heap.size w4 w4.drew from (Below.refl _ w4).drew) hm).mono (Nat.le_of_lt hlt))
 have hg5:g5≠w2.heap.size:=fun e=>by
  rcases hl with q | q
  ·exact hne (by rw [q,e])
  ·simp at q
   omega
 refine ⟨.slice (some ⟨g5,0,none⟩) (j+1) cap5,?_,?_,?_⟩
 ·rw [heap_setCell_same _ _ _ _ _ _ hx5]
  rfl
 ·have e1:(List.replicate (j+1) (Sh.sv Sh.noughts))=List.replicate j (Sh.sv Sh.noughts)++[.string s0]:=by rw [List.replicate_succ',<- hs];rfl
  rw [e1]
  exact Sh.same_row ho fun b hb=>heap_setCell_other _ _ _ _ (fun e2=>hg5 (by simp only [Value.ownBlock,Option.some.injEq] at hb;rw [hb,e2]))
 ·have h1:Below w2.heap.size w2 (wm.alloc (.cells #[.string s0] 9)):=hbm.alloc hbm.size _
  have h2:Below w2.heap.size w2 w5:=h1.grown hg h1.size hlow
  exact h2.trans ⟨rfl,rfl,rfl,by simp [World.setCell],fun k hk=>Below.heap_setCell _ _ _ _ (by show k≠w2.heap.size;omega)⟩
set_option maxRecDepth 20000 in
set_option maxHeartbeats 4000000 in
theorem begin10 {w:World} (hA:All10 w) (n:Nat) (h1:1<=n) (hM:n<=1024):Calls Tryz.prog 10 #[.int .i64 (n:Int)] w fun e w'=>∃(J:Vk) (x:Rs) (_ q xr:Nat) (g:Cg) (hG:Giv J ar10) (hN:ar10.St*(ar10.M-1)<=1073741824),
  e=.returned (.tuple #[.pointer (some ⟨q,0,none⟩),.pointer (some ⟨J.p,0,none⟩),.pointer (some ⟨J.v,0,none⟩)])/\(∀j,contR ar10 x j=Sh.noughts)/\J.B=w.heap.size/\J.W=w/\Beg w J hG hN q xr g x n w':=by
 obtain ⟨i0,hi,hz0,hz1,hz2⟩:=info_parts info_str
 have HV:=hid (volume_any hA)
 clear hA
 generalize hnm:(n:Int)=nm at *
 have HNM:=hid hnm
 clear hnm
 go_enter Tryz.func10,Tryz.ntmps10
 go_wp2_with fail
 refine HV.out.mono ?_
 rintro e w1 ⟨J,x0,p,rfl,hG,hI,hcont,hB,hW⟩
 have hN:ar10.St*(ar10.M-1)<=1073741824:=by decide
 have HX0:=hid (And.intro hcont (And.intro hB hW))
 have HNEW:=hid (Go.Proofs.YtcepognpbeahhaaGreatDoor.Kc.cNew (V:=Hv J ar10 hG hN) (x:=x0) (k:=390000) (most:=n) hI h1 hM)
 rw [HNM.out] at HNEW
 clear hI HV hcont hB hW
 go_wp2_with fail
 refine HNEW.out.mono ?_
 rintro e w2 ⟨g,rfl,hc,_⟩
 have HC:=hid hc
 have HSZ:Hid (∀W,Below w2.heap.size w2 W->Calls Tryz.prog 29 #[.pointer (some ⟨J.v,0,none⟩)] W fun e w'=>e=.returned (.int .i64 12)/\Below W.heap.size W w'):=hid fun W hb=>(Hv J ar10 hG hN).size (hc.grown hb).vol
 have hx0:(w2.alloc (.cells #[.slice none 0 0,.int .i64 nm,.slice none 0 0] 35)).heap[w2.heap.size]?=some (.cells #[.slice none 0 0,.int .i64 nm,.slice none 0 0] 35 (0,0)):=heap_alloc_new w2 _
 have hrel0:Hid (∃vs,(w2.alloc (.cells #[.slice none 0 0,.int .i64 nm,.slice none 0 0] 35)).heap[w2.heap.size]?=some (.cells #[vs,.int .i64 nm,.slice none 0 0] 35 (0,0))/\(w2.alloc (.cells #[.slice none 0 0,.int .i64 nm,.slice none 0 0] 35)).ownsRow w2.heap.size 9 1 vs 0 (List.replicate 0 (Sh.sv Sh.noughts))/\Below w2.heap.size w2 (w2.alloc (.cells #[.slice none 0 0,.int .i64 nm,.slice none 0 0] 35))) :=
  hid ⟨_,hx0,⟨rfl,.inl ⟨rfl,rfl⟩⟩,(Below.refl _ _).alloc (Nat.le_refl _) _⟩
 generalize hs0:Sh.strL Sh.noughts=s0 at *
 have HS0:=hid hs0
 clear hc HNEW hx0 hs0
 go_wp2
 go_loopw [10] (fun s wr=>∃j:Nat,j<=12/\s=.int .i64 j/\Hid (∃vs,wr.heap[w2.heap.size]?=some (.cells #[vs,.int .i64 nm,.slice none 0 0] 35 (0,0))/\wr.ownsRow w2.heap.size 9 1 vs j (List.replicate j (Sh.sv Sh.noughts))/\Below w2.heap.size w2 wr)) (fun s _=>12-(intOf s).toNat)
 case atStart=>exact ⟨0,Nat.zero_le _,rfl,hrel0⟩
 case round =>
  obtain ⟨j,hj,rfl,hrel⟩:=hrel
  clear hrel0
  obtain ⟨vs,hxr,hrow,hbel⟩:=hrel.out
  have HSS:=hid (HSZ.out wr hbel)
  by_cases hlt:j<12
  ·go_wp2_with fail
   refine HSS.out.mono ?_
   rintro e w4 ⟨rfl,hb4⟩
   obtain ⟨A,cap,hvs⟩:=Sh.own_shape2 hrow
   subst hvs
   have hxlt:=lt_of_block hxr
   have hxr4:=(hb4.block _ hxlt).trans hxr
   have c0:w4.cell? ⟨w2.heap.size,0,none⟩=some (.slice A j cap):=cell_of_row _ _ 0 _ _ _ hxr4
   have f0:w4.frozen? ⟨w2.heap.size,0,none⟩=false:=frozen_of_row _ _ _ _ _ hxr4
   have hrow4:=Sh.same_row hrow (w':=w4) (fun b hb=>hb4.block b (hrow.lt b hb).2)
   have HRW:=hid hrow4
   have hb24:=hbel.trans (hb4.mono hbel.size)
   have HX4:=hid (And.intro hxr4 hb24)
   have hx24:w2.heap.size<w4.heap.size:=lt_of_block hxr4
   have HNE:Hid ((Value.slice A j cap).ownBlock≠some w2.heap.size):=hid fun e2=>by
    rcases hrow4.2 with ⟨hv,_⟩ | ⟨gg,cc,cur,hv,_,hh,_⟩
    ·rw [hv] at e2;cases e2
    ·rw [hv] at e2
     simp only [Value.ownBlock,Option.some.injEq] at e2
     rw [e2,hxr4] at hh
     injection hh with hh
     injection hh with _ hh _
     exact absurd hh (by decide)
   clear hxr hrow hrow4 hxr4 hbel hb4 hxlt hb24
   go_wp2_with fail
   refine wp_region_held_drew (S:=fun _=>True) (by kernel_rfl) trivial (fun hHeld=>?_)
   refine tk 0 40 ?_
   refine tk 1 41 ?_
   refine tk 2 42 ?_
   refine tk 3 43 ?_
   refine wpAnyH_ready (rs:=[4,5]) (by kernel_rfl) (by simp) ?_
   refine AllReadyH.cons (o:=⟨some 44,_,_,_,_,_⟩) rfl (fun K hK=>?_) (AllReadyH.cons (o:=⟨some 45,_,_,_,_,_⟩) rfl (fun K hK=>?_) AllReadyH.nil)
   ·go_simp
    refine hK.out _ _ trivial (fun hHeld=>?_)
    clear hK K
    try simp only [Act.put,List.setIfInBounds_toArray,List.set_cons_zero,List.set_cons_succ]
    refine r1 5 (some 45) fun K hK=>?_
    rw [if_pos (by rfl)]
    refine wp_make128 _ _ rfl rfl rfl (fun wm hom hgm=>?_)
    refine hK.out _ _ trivial (fun hHeld=>?_)
    clear hK K
    try simp only [Act.put,List.setIfInBounds_toArray,List.set_cons_zero,List.set_cons_succ]
    have hom2:wm.ownsRow w4.heap.size 5 1 (.slice (some ⟨w4.heap.size,0,none⟩) 128 128) 128 (Sh.bts Sh.noughts):=hom
    have hrowm:=Sh.same_row HRW.out (w':=wm) (fun b hb=>hgm.block b (HRW.out.lt b hb).2)
    have hgs:w4.heap.size<=wm.heap.size:=hgm.size
    have t6:=conv_own' hom2 HS0.out wm (Below.refl _ _)
    have hxm:wm.heap[w2.heap.size]?=w4.heap[w2.heap.size]?:=hgm.block w2.heap.size hx24
    have c0m:wm.cell? ⟨w2.heap.size,0,none⟩=some (.slice A j cap):=(World.cell?_of_block (a:=⟨w2.heap.size,0,none⟩) hxm).trans c0
    have c0a:(wm.alloc (.cells #[.string s0] 9)).cell? ⟨w2.heap.size,0,none⟩=some (.slice A j cap):=(World.cell?_alloc_lt wm _ ⟨w2.heap.size,0,none⟩ (Nat.lt_of_lt_of_le hx24 hgs)).trans c0m
    have hx5:∀w5,(wm.alloc (.cells #[.string s0] 9)).grownBy w5 (Value.slice A j cap).ownBlock->w5.heap[w2.heap.size]?=some (.cells #[.slice A j cap,.int .i64 nm,.slice none 0 0] 35 (0,0)):=fun w5 hg=>(hg.block w2.heap.size (Nat.lt_of_lt_of_le (Nat.lt_of_lt_of_le hx24 hgs) (by simp)) (fun e2=>HNE.out e2.symm)).trans ((Below.heap_alloc _ _ _ (Nat.lt_of_lt_of_le hx24 hgs)).trans (hxm.trans HX4.out.1))
    clear hxm
    refine r1 6 (some 46) fun K hK=>?_
    go_simp
    refine hK.out _ _ trivial (fun hHeld=>?_)
    clear hK K
    try simp only [Act.put,List.setIfInBounds_toArray,List.set_cons_zero,List.set_cons_succ]
    refine r1 7 (some 47) fun K hK=>?_
    go_simp
    refine hK.out _ _ trivial (fun hHeld=>?_)
    clear hK K
    try simp only [Act.put,List.setIfInBounds_toArray,List.set_cons_zero,List.set_cons_succ]
    refine r1 8 (some 48) fun K hK=>?_
    rw [if_pos (by rfl)]
    refine wp_append_lies _ _ _ 32 rfl w2.heap.size 9 i0 _ 1 16 Tryz.underlying32 hi hz0 hz1 hz2 rfl (by decide) (.slice A j cap) j _ rfl (hrowm.alloc _) ⟨wm.heap.size,0,none⟩ 1 1 [.string s0] rfl rfl (Go.Proofs.YtcepognpbeahhaaGreatDoor.Kc.cells1_new _ _ _) (by intro q hq;rw [List.mem_singleton.1 hq];rfl) (by decide) (by unfold maxLen;omega) (by omega) (by simp;omega) _ rfl (fun g5 cap5 w5 hown5 hgrow5 hlie5 _=>?_)
    have k0:w5.cell? ⟨w2.heap.size,0,none⟩=some (.slice A j cap):=hgrow5.cell c0a (fun e2=>HNE.out e2.symm)
    have k1:w5.frozen? ⟨w2.heap.size,0,none⟩=false:=frozen_of_row _ _ _ _ _ (hx5 w5 hgrow5)
    refine hK.out _ _ trivial (fun hHeld=>?_)
    clear hK K
    try simp only [Act.put,List.setIfInBounds_toArray,List.set_cons_zero,List.set_cons_succ]
    refine tk 9 49 ?_
    refine tk 10 50 ?_
    refine r1 11 none fun K hK=>?_
    go_simp
    refine hK.out _ _ trivial (fun hHeld=>?_)
    clear hK K
    try simp only [Act.put]
    refine wpAnyH_done (by kernel_rfl) ?_ _
    have HE:=hid (And.intro hown5 (And.intro hgrow5 (And.intro hlie5 (hx5 w5 hgrow5))))
    have HM:=hid hgm
    clear hown5 hgrow5 hlie5 hgm hx5 k0 k1 c0a c0m c0 t6 hom hom2 hrowm hgs hHeld
    go_wp2
    go_roundw
    case rel=>exact ⟨j+1,by omega,by go_num,hid (beg_round HX4.out.1 HX4.out.2 HM.out HNE.out (fun b hb=>(HRW.out.lt b hb).1) HE.out.1 HE.out.2.1 HE.out.2.2.1 HE.out.2.2.2 HS0.out)⟩
    case measure=>simp [intOf];omega
   ·rw [if_pos (by rfl)]
    refine wp_make128 _ _ rfl rfl rfl (fun wm hom hgm=>?_)
    refine hK.out _ _ trivial (fun hHeld=>?_)
    clear hK K
    try simp only [Act.put,List.setIfInBounds_toArray,List.set_cons_zero,List.set_cons_succ]
    have hom2:wm.ownsRow w4.heap.size 5 1 (.slice (some ⟨w4.heap.size,0,none⟩) 128 128) 128 (Sh.bts Sh.noughts):=hom
    have hrowm:=Sh.same_row HRW.out (w':=wm) (fun b hb=>hgm.block b (HRW.out.lt b hb).2)
    have hgs:w4.heap.size<=wm.heap.size:=hgm.size
    have t6:=conv_own' hom2 HS0.out wm (Below.refl _ _)
    have hxm:wm.heap[w2.heap.size]?=w4.heap[w2.heap.size]?:=hgm.block w2.heap.size hx24
    have c0m:wm.cell? ⟨w2.heap.size,0,none⟩=some (.slice A j cap):=(World.cell?_of_block (a:=⟨w2.heap.size,0,none⟩) hxm).trans c0
    have c0a:(wm.alloc (.cells #[.string s0] 9)).cell? ⟨w2.heap.size,0,none⟩=some (.slice A j cap):=(World.cell?_alloc_lt wm _ ⟨w2.heap.size,0,none⟩ (Nat.lt_of_lt_of_le hx24 hgs)).trans c0m
    have hx5:∀w5,(wm.alloc (.cells #[.string s0] 9)).grownBy w5 (Value.slice A j cap).ownBlock->w5.heap[w2.heap.size]?=some (.cells #[.slice A j cap,.int .i64 nm,.slice none 0 0] 35 (0,0)):=fun w5 hg=>(hg.block w2.heap.size (Nat.lt_of_lt_of_le (Nat.lt_of_lt_of_le hx24 hgs) (by simp)) (fun e2=>HNE.out e2.symm)).trans ((Below.heap_alloc _ _ _ (Nat.lt_of_lt_of_le hx24 hgs)).trans (hxm.trans HX4.out.1))
    clear hxm
    refine wpAnyH_ready (rs:=[4,6]) (by kernel_rfl) (by simp) ?_
    refine AllReadyH.cons (o:=⟨some 44,_,_,_,_,_⟩) rfl (fun K hK=>?_) (AllReadyH.cons (o:=⟨some 46,_,_,_,_,_⟩) rfl (fun K hK=>?_) AllReadyH.nil)
    ·go_simp
     refine hK.out _ _ trivial (fun hHeld=>?_)
     clear hK K
     try simp only [Act.put,List.setIfInBounds_toArray,List.set_cons_zero,List.set_cons_succ]
     refine r1 6 (some 46) fun K hK=>?_
     go_simp
     refine hK.out _ _ trivial (fun hHeld=>?_)
     clear hK K
     try simp only [Act.put,List.setIfInBounds_toArray,List.set_cons_zero,List.set_cons_succ]
     refine r1 7 (some 47) fun K hK=>?_
     go_simp
     refine hK.out _ _ trivial (fun hHeld=>?_)
     clear hK K
     try simp only [Act.put,List.setIfInBounds_toArray,List.set_cons_zero,List.set_cons_succ]
     refine r1 8 (some 48) fun K hK=>?_
     rw [if_pos (by rfl)]
     refine wp_append_lies _ _ _ 32 rfl w2.heap.size 9 i0 _ 1 16 Tryz.underlying32 hi hz0 hz1 hz2 rfl (by decide) (.slice A j cap) j _ rfl (hrowm.alloc _) ⟨wm.heap.size,0,none⟩ 1 1 [.string s0] rfl rfl (Go.Proofs.YtcepognpbeahhaaGreatDoor.Kc.cells1_new _ _ _) (by intro q hq;rw [List.mem_singleton.1 hq];rfl) (by decide) (by unfold maxLen;omega) (by omega) (by simp;omega) _ rfl (fun g5 cap5 w5 hown5 hgrow5 hlie5 _=>?_)
     have k0:w5.cell? ⟨w2.heap.size,0,none⟩=some (.slice A j cap):=hgrow5.cell c0a (fun e2=>HNE.out e2.symm)
     have k1:w5.frozen? ⟨w2.heap.size,0,none⟩=false:=frozen_of_row _ _ _ _ _ (hx5 w5 hgrow5)
     refine hK.out _ _ trivial (fun hHeld=>?_)
     clear hK K
     try simp only [Act.put,List.setIfInBounds_toArray,List.set_cons_zero,List.set_cons_succ]
     refine tk 9 49 ?_
     refine tk 10 50 ?_
     refine r1 11 none fun K hK=>?_
     go_simp
     refine hK.out _ _ trivial (fun hHeld=>?_)
     clear hK K
     try simp only [Act.put]
     refine wpAnyH_done (by kernel_rfl) ?_ _
     have HE:=hid (And.intro hown5 (And.intro hgrow5 (And.intro hlie5 (hx5 w5 hgrow5))))
     have HM:=hid hgm
     clear hown5 hgrow5 hlie5 hgm hx5 k0 k1 c0a c0m c0 t6 hom hom2 hrowm hgs hHeld
     go_wp2
     go_roundw
     case rel=>exact ⟨j+1,by omega,by go_num,hid (beg_round HX4.out.1 HX4.out.2 HM.out HNE.out (fun b hb=>(HRW.out.lt b hb).1) HE.out.1 HE.out.2.1 HE.out.2.2.1 HE.out.2.2.2 HS0.out)⟩
     case measure=>simp [intOf];omega
    ·go_simp
     refine hK.out _ _ trivial (fun hHeld=>?_)
     clear hK K
     try simp only [Act.put,List.setIfInBounds_toArray,List.set_cons_zero,List.set_cons_succ]
     refine wpAnyH_ready (rs:=[4,7]) (by kernel_rfl) (by simp) ?_
     refine AllReadyH.cons (o:=⟨some 44,_,_,_,_,_⟩) rfl (fun K hK=>?_) (AllReadyH.cons (o:=⟨some 47,_,_,_,_,_⟩) rfl (fun K hK=>?_) AllReadyH.nil)
     ·go_simp
      refine hK.out _ _ trivial (fun hHeld=>?_)
      clear hK K
      try simp only [Act.put,List.setIfInBounds_toArray,List.set_cons_zero,List.set_cons_succ]
      refine r1 7 (some 47) fun K hK=>?_
      go_simp
      refine hK.out _ _ trivial (fun hHeld=>?_)
      clear hK K
      try simp only [Act.put,List.setIfInBounds_toArray,List.set_cons_zero,List.set_cons_succ]
      refine r1 8 (some 48) fun K hK=>?_
      rw [if_pos (by rfl)]
      refine wp_append_lies _ _ _ 32 rfl w2.heap.size 9 i0 _ 1 16 Tryz.underlying32 hi hz0 hz1 hz2 rfl (by decide) (.slice A j cap) j _ rfl (hrowm.alloc _) ⟨wm.heap.size,0,none⟩ 1 1 [.string s0] rfl rfl (Go.Proofs.YtcepognpbeahhaaGreatDoor.Kc.cells1_new _ _ _) (by intro q hq;rw [List.mem_singleton.1 hq];rfl) (by decide) (by unfold maxLen;omega) (by omega) (by simp;omega) _ rfl (fun g5 cap5 w5 hown5 hgrow5 hlie5 _=>?_)
      have k0:w5.cell? ⟨w2.heap.size,0,none⟩=some (.slice A j cap):=hgrow5.cell c0a (fun e2=>HNE.out e2.symm)
      have k1:w5.frozen? ⟨w2.heap.size,0,none⟩=false:=frozen_of_row _ _ _ _ _ (hx5 w5 hgrow5)
      refine hK.out _ _ trivial (fun hHeld=>?_)
      clear hK K
      try simp only [Act.put,List.setIfInBounds_toArray,List.set_cons_zero,List.set_cons_succ]
      refine tk 9 49 ?_
      refine tk 10 50 ?_
      refine r1 11 none fun K hK=>?_
      go_simp
      refine hK.out _ _ trivial (fun hHeld=>?_)
      clear hK K
      try simp only [Act.put]
      refine wpAnyH_done (by kernel_rfl) ?_ _
      have HE:=hid (And.intro hown5 (And.intro hgrow5 (And.intro hlie5 (hx5 w5 hgrow5))))
      have HM:=hid hgm
      clear hown5 hgrow5 hlie5 hgm hx5 k0 k1 c0a c0m c0 t6 hom hom2 hrowm hgs hHeld
      go_wp2
      go_roundw
      case rel=>exact ⟨j+1,by omega,by go_num,hid (beg_round HX4.out.1 HX4.out.2 HM.out HNE.out (fun b hb=>(HRW.out.lt b hb).1) HE.out.1 HE.out.2.1 HE.out.2.2.1 HE.out.2.2.2 HS0.out)⟩
      case measure=>simp [intOf];omega
     ·go_simp
      refine hK.out _ _ trivial (fun hHeld=>?_)
      clear hK K
      try simp only [Act.put,List.setIfInBounds_toArray,List.set_cons_zero,List.set_cons_succ]
      refine r1 4 (some 44) fun K hK=>?_
      go_simp
      refine hK.out _ _ trivial (fun hHeld=>?_)
      clear hK K
      try simp only [Act.put,List.setIfInBounds_toArray,List.set_cons_zero,List.set_cons_succ]
      refine r1 8 (some 48) fun K hK=>?_
      rw [if_pos (by rfl)]
      refine wp_append_lies _ _ _ 32 rfl w2.heap.size 9 i0 _ 1 16 Tryz.underlying32 hi hz0 hz1 hz2 rfl (by decide) (.slice A j cap) j _ rfl (hrowm.alloc _) ⟨wm.heap.size,0,none⟩ 1 1 [.string s0] rfl rfl (Go.Proofs.YtcepognpbeahhaaGreatDoor.Kc.cells1_new _ _ _) (by intro q hq;rw [List.mem_singleton.1 hq];rfl) (by decide) (by unfold maxLen;omega) (by omega) (by simp;omega) _ rfl (fun g5 cap5 w5 hown5 hgrow5 hlie5 _=>?_)
      have k0:w5.cell? ⟨w2.heap.size,0,none⟩=some (.slice A j cap):=hgrow5.cell c0a (fun e2=>HNE.out e2.symm)
      have k1:w5.frozen? ⟨w2.heap.size,0,none⟩=false:=frozen_of_row _ _ _ _ _ (hx5 w5 hgrow5)
      refine hK.out _ _ trivial (fun hHeld=>?_)
      clear hK K
      try simp only [Act.put,List.setIfInBounds_toArray,List.set_cons_zero,List.set_cons_succ]
      refine tk 9 49 ?_
      refine tk 10 50 ?_
      refine r1 11 none fun K hK=>?_
      go_simp
      refine hK.out _ _ trivial (fun hHeld=>?_)
      clear hK K
      try simp only [Act.put]
      refine wpAnyH_done (by kernel_rfl) ?_ _
      have HE:=hid (And.intro hown5 (And.intro hgrow5 (And.intro hlie5 (hx5 w5 hgrow5))))
      have HM:=hid hgm
      clear hown5 hgrow5 hlie5 hgm hx5 k0 k1 c0a c0m c0 t6 hom hom2 hrowm hgs hHeld
      go_wp2
      go_roundw
      case rel=>exact ⟨j+1,by omega,by go_num,hid (beg_round HX4.out.1 HX4.out.2 HM.out HNE.out (fun b hb=>(HRW.out.lt b hb).1) HE.out.1 HE.out.2.1 HE.out.2.2.1 HE.out.2.2.2 HS0.out)⟩
      case measure=>simp [intOf];omega
  ·obtain rfl:j=12:=by omega
   have HR:=hid (And.intro hxr (And.intro hrow hbel))
   clear hxr hrow hbel
   go_wp2_with fail
   refine HSS.out.mono ?_
   rintro e w4 ⟨rfl,hb4⟩
   have HB4:=hid hb4
   clear hb4
   go_wp2
   go_ret3
   obtain ⟨hxr,hrow,hbel⟩:=HR.out
   have hb4:=HB4.out
   have hxlt:=lt_of_block hxr
   have hs4:wr.heap.size<=w4.heap.size:=hb4.size
   have hbf:Below w2.heap.size w2 (w4.alloc (.cells #[.pointer (some ⟨g.c,0,none⟩),.pointer (some ⟨w2.heap.size,0,none⟩)] 39)):=(hbel.trans (hb4.mono hbel.size)).alloc (Nat.le_trans hbel.size hs4) _
   have hkeep:∀b,b<wr.heap.size->(w4.alloc (.cells #[.pointer (some ⟨g.c,0,none⟩),.pointer (some ⟨w2.heap.size,0,none⟩)] 39)).heap[b]?=wr.heap[b]?:=fun b hb=>(Below.heap_alloc _ _ _ (Nat.lt_of_lt_of_le hb hs4)).trans (hb4.block b hb)
   refine ⟨J,x0,p,w4.heap.size,w2.heap.size,g,hG,hN,rfl,HX0.out.1,HX0.out.2.1,HX0.out.2.2,heap_alloc_new w4 _,HC.out.grown hbf,fun b hb=>HC.out.lt hb,Nat.lt_of_lt_of_le hxlt hs4,vs,?_,Sh.same_row hrow (fun b hb=>hkeep b (hrow.lt b hb).2),fun e2=>?_⟩
   ·rw [hkeep _ hxlt,hxr,HNM.out]
   ·have:=(hrow.lt _ e2).2
    omega
end Go.Proofs.YtcepognpbeahhaaGreatDoor.U
namespace Go.Proofs.YtcepognpbeahhaaGreatDoor.Kc
open Go.RowKit Go.Maps
section
variable {V:VolK} {most:Nat} {l l':List En} {x x':V.σ} {n:Int} {m:Nat} {y:Int} {X b:Sh.Bs}
end
section
variable {V:VolK} {w w':World} {q xr c most:Nat} {l l':List En} {x x':V.σ} {k k':Nat}
end
end Go.Proofs.YtcepognpbeahhaaGreatDoor.Kc
namespace Go.Proofs.YtcepognpbeahhaaGreatDoor.U
open Go.RowKit Go.Maps
open Go.Proofs.YtcepognpbeahhaaGreatDoor.Kc (En Cg Cav)
end Go.Proofs.YtcepognpbeahhaaGreatDoor.U
namespace Go.Proofs.YtcepognpbeahhaaGreatDoor.Kc
open Go.ChangeShapes Go.WideShapes Go.ChangeAt Go.RowKit Go.Maps
section
variable {H:Type} {enc:TypeId × Value->H} {W:World}
theorem cells_got {base n:Nat} {a:Addr} {xs:List Value} (h:W.cells? base a n=some xs):xs.length=n/\∀k,k<n->∃v,xs[k]?=some v/\W.cell? (a.add k)=some v:=by
 unfold World.cells? at h
 split at h
 ·have hl:xs.length=n:=by simpa using mapM_some_length h
  refine ⟨hl,fun k hk=>?_⟩
  have:=mapM_some_get h k k (by simp [hk])
  rw [List.getElem?_eq_getElem (by omega)] at this
  exact ⟨_,List.getElem?_eq_getElem (by omega),this⟩
 ·cases h
theorem int_off {m:Nat} {v:Value} {y:DataW H × List MemPlace} (h:DataW.trod enc Tryz.prog W 0 (fun _=>true) true m 3 [v]=some y):∃z:Int,v=.int .i64 z/\-9223372036854775808<=z/\z<=9223372036854775807:=by
 cases m with
 | zero=>simp [DataW.trod] at h
 | succ m =>
  simp only [DataW.trod,Tryz.underlying3] at h
  cases v<;>simp at h
  rename_i k b
  obtain ⟨⟨rfl,hw⟩,_⟩:=h
  exact ⟨b,rfl,bounds_i64 hw⟩
theorem u8_off {m:Nat} {v:Value} {y:DataW H × List MemPlace} (h:DataW.trod enc Tryz.prog W 0 (fun _=>true) true m 5 [v]=some y):∃z:Nat,v=.int .u8 (z:Int)/\z<256:=by
 cases m with
 | zero=>simp [DataW.trod] at h
 | succ m =>
  simp only [DataW.trod,Tryz.underlying5] at h
  cases v<;>simp at h
  rename_i k b
  obtain ⟨⟨rfl,hw⟩,_⟩:=h
  have:=bounds_u8 hw
  exact ⟨b.toNat,by rw [Int.toNat_of_nonneg this.1],by omega⟩
def I64 (z:Int):Prop:=-9223372036854775808<=z/\z<=9223372036854775807
structure Op10 where
 kind:Int
 n:Int
 x:Nat
structure Op10Is (W:World) (b o:Nat) (v:Op10):Prop where
 c0:W.cell? ⟨b,o,none⟩=some (.int .i64 v.kind)
 c1:W.cell? ⟨b,o+1,none⟩=some (.int .i64 v.n)
 c2:W.cell? ⟨b,o+2,none⟩=some (.int .u8 (v.x:Int))
 b0:I64 v.kind
 b1:I64 v.n
 b2:v.x<256
def Ops10 (W:World) (A:Option Addr) (n:Nat) (f:Nat->Op10):Prop:=n<=9223372036854775807/\(0<n->∃b off,A=some ⟨b,off,none⟩/\b<W.heap.size/\∀i,i<n->Op10Is W b (off+i*3) (f i))
theorem cellsOp10:Tryz.prog.cellsOf 31=3:=by kernel_rfl
set_option maxRecDepth 20000 in
theorem op10_in {b o m:Nat} {cs:List Value} {y:DataW H × List MemPlace} (hl:cs.length=3) (hc:∀k,k<3->∃v,cs[k]?=some v/\W.cell? ⟨b,o+k,none⟩=some v) (h:DataW.trod enc Tryz.prog W 0 (fun _=>true) true m 31 cs=some y) :
  ∃v:Op10,Op10Is W b o v:=by
 obtain ⟨xs,k,rfl,rfl,_,hxs,hf⟩:=DataW.trod_struct Tryz.underlying31 h
 match cs,hl,hc with
 | [v0,v1,v2],_,hc =>
  have hs:xs.length=3:=hxs
  have f0:=hf 0 _ rfl
  have f1:=hf 1 _ rfl
  have f2:=hf 2 _ rfl
  match xs,hs with
  | [z0,z1,z2],_ =>
   obtain ⟨kind,rfl,a0⟩:=int_off (v:=v0) (show DataW.trod enc Tryz.prog W 0 (fun _=>true) true k 3 [v0]=some z0 from f0)
   obtain ⟨num,rfl,a1⟩:=int_off (v:=v1) (show DataW.trod enc Tryz.prog W 0 (fun _=>true) true k 3 [v1]=some z1 from f1)
   obtain ⟨z,rfl,a2⟩:=u8_off (v:=v2) (show DataW.trod enc Tryz.prog W 0 (fun _=>true) true k 5 [v2]=some z2 from f2)
   have g:∀i v,i<3->([.int .i64 kind,.int .i64 num,.int .u8 (z:Int)]:List Value)[i]?=some v->W.cell? ⟨b,o+i,none⟩=some v:=fun i v hi hv=>by
    obtain ⟨u,h1,h2⟩:=hc i hi
    rw [hv] at h1
    injection h1 with h1
    rw [h1]
    exact h2
   exact ⟨⟨kind,num,z⟩,g 0 _ (by decide) rfl,g 1 _ (by decide) rfl,g 2 _ (by decide) rfl,a0,a1,a2⟩
theorem ops10_in {fuel n c:Nat} {A:Option Addr} {x:DataW H × List MemPlace} (h:DataW.trod enc Tryz.prog W 0 (fun _=>true) true fuel 22 [.slice A n c]=some x):∃f,Ops10 W A n f:=by
 rcases DataW.trod_slice Tryz.underlying22 h with ⟨h0,hx⟩ | ⟨a,len,cap,elems,rest,m,_,h0,hx,_,hl,hm,hlen,hel,_⟩
 ·simp only [List.cons.injEq,Value.slice.injEq,and_true] at h0
  obtain ⟨rfl,rfl,rfl⟩:=h0
  exact ⟨fun _=>⟨0,0,0⟩,by decide,fun h=>absurd h (by decide)⟩
 ·simp only [List.cons.injEq,Value.slice.injEq,and_true] at h0
  obtain ⟨rfl,rfl,rfl⟩:=h0
  have hcs:∀i,i<n->∃cs y,cs.length=3/\(∀k,k<3->∃v,cs[k]?=some v/\W.cell? ((a.add (i*3)).add k)=some v)/\DataW.trod enc Tryz.prog W 0 (fun _=>true) true m 31 cs=some y:=by
   intro i hi
   have h1:=hel i hi
   rw [cellsOp10,List.getElem?_eq_getElem (by omega),Option.bind_eq_some_iff] at h1
   obtain ⟨cs,hcs,hy⟩:=h1
   obtain ⟨hl1,hg⟩:=cells_got hcs
   exact ⟨cs,_,hl1,hg,hy⟩
  rcases Nat.eq_zero_or_pos n with h0 | h0
  ·exact ⟨fun _=>⟨0,0,0⟩,by unfold maxLen at hm;omega,fun h=>by omega⟩
  ·obtain ⟨b,off,spot⟩:=a
   obtain ⟨cs,y,_,hg,_⟩:=hcs 0 h0
   obtain ⟨v,_,hv⟩:=hg 0 (by decide)
   have hspot:spot=none:=by simpa [Addr.add] using World.cell?_spot hv
   subst hspot
   have hblt:=World.block_lt_of_cell? W _ hv
   rw [Sh.block_of_add,Sh.block_of_add] at hblt
   have hz:∀i,∃v:Op10,i<n->Op10Is W b (off+i*3) v:=by
    intro i
    by_cases hi:i<n
    ·obtain ⟨cs,y,hl5,hg,hy⟩:=hcs i hi
     obtain ⟨v,hv⟩:=op10_in (b:=b) (o:=off+i*3) hl5 (fun k hk=>by
      obtain ⟨v,h1,h2⟩:=hg k hk
      rw [Sh.add_of_add,U.add_plain,<- Nat.add_assoc] at h2
      exact ⟨v,h1,h2⟩) hy
     exact ⟨v,fun _=>hv⟩
    ·exact ⟨⟨0,0,0⟩,fun h=>absurd h hi⟩
   obtain ⟨f,hf⟩:=Classical.axiomOfChoice hz
   exact ⟨f,by unfold maxLen at hm;omega,fun _=>⟨b,off,rfl,hblt,hf⟩⟩
end
theorem getD_mem {l:List Int} {k:Nat} (h:k<l.length):l.getD k 0∈l:=by
 rw [List.getD_eq_getElem?_getD,List.getElem?_eq_getElem h]
 exact List.getElem_mem h
section
variable {n:Nat} {l:List En} {last:List Int} {i:Nat}
theorem mem_dropE {l:List En} {k:Nat} {z:En}:z∈dropE l k↔z∈l/\z.k≠k:=by
 unfold dropE
 simp
end
section
variable {V:VolK} {P:V.σ->Prop} {most k:Nat} {l l':List En} {x x':V.σ} {n:Int} {y:Int} {X b:Sh.Bs} {z:En}
theorem nodup_drop (h:(l.map En.k).Nodup) (k:Nat):((dropE l k).map En.k).Nodup:=by
 unfold dropE
 exact h.sublist (List.filter_sublist.map _)
theorem nodup_snoc (h:(l.map En.k).Nodup) {e:En} (hk:∀a∈l,a.k≠e.k):((l++[e]).map En.k).Nodup:=by
 rw [List.map_append,List.nodup_append]
 refine ⟨h,by simp,fun a ha b hb=>?_⟩
 obtain ⟨z,hz,rfl⟩:=List.mem_map.1 ha
 simp only [List.map_cons,List.map_nil,List.mem_singleton] at hb
 rw [hb]
 exact hk z hz
end
end Go.Proofs.YtcepognpbeahhaaGreatDoor.Kc
