/-
  What the statement's proof rests on, part 43.
  Conditions: each theorem's own.
-/
import Derived.Test.YtcepognpbeahhaaGreatDoorW42
import Derived.Test.YtcepognpbeahhaaGreatDoorW40
import Derived.Test.YtcepognpbeahhaaGreatDoorW39
open Go.Lib (hid)
namespace Go.Proofs.YtcepognpbeahhaaGreatDoor.Rc
open Go.RowKit Go.Maps
open Go.Proofs.YtcepognpbeahhaaGreatDoor.Kc (En VolK WbR RoomR KeepR FetchR GetR PutR WbsR FlushR finds dropE useE putE finds_some finds_none finds_mem one_of_key placeE placeE_of keysV firstE fFlush risesE finds_putE mem_putE putE_keys mergeSort_perm_eq)
structure Vsure (V:VolK) (cont:V.σ->Nat->Sh.Bs):Prop where
 n:V.n=12
 rd:∀{x m y X x'},V.rd x m y X x'->y=0/\X=cont x m/\∀j,j<12->cont x' j=cont x j
 wr:∀{x m b y x'},V.wr x m b y x'->y=0/\∀j,j<12->cont x' j=if j=m then b else cont x j
 fl:∀{x y x'},V.fl x y x'->y=0/\∀j,j<12->cont x' j=cont x j
section
variable {V:VolK} {cont:V.σ->Nat->Sh.Bs} {most:Nat} {l l':List En} {x x':V.σ} {n:Int} {m:Nat} {y:Int} {X b:Sh.Bs} {hv:Nat->Sh.Bs}
def Agree (cont:V.σ->Nat->Sh.Bs) (x:V.σ) (hv:Nat->Sh.Bs):Prop:=∀j,j<12->cont x j=hv j
theorem Agree.wb (hA:Agree cont x hv) (hV:Vsure V cont) {e e':En} (h:WbR V x e y x' e'):y=0/\Agree cont x' (if e.dirty then updT hv e.k e.d else hv)/\e'={ e with dirty:=false }:=by
 cases h with
 | clean hd=>rw [hd];exact ⟨rfl,hA,by cases e;simp_all⟩
 | no _ _ _ h1 hne=>exact absurd (hV.wr h1).1 hne
 | done _ hd h1 =>
  rw [hd]
  refine ⟨rfl,fun j hj=>?_,rfl⟩
  rw [(hV.wr h1).2 j hj]
  simp only [if_pos,updT]
  split
  ·rfl
  ·exact hA j hj
theorem Agree.room (hA:Agree cont x hv) (hV:Vsure V cont) (h:RoomR V most l x y l' x') :
  (y=6/\l'=l/\x'=x/\most<=l.length/\∀e∈l,e.pins≠0)\/(y=0/\∃hv',RmR most hv l hv' l'/\Agree cont x' hv'):=by
 cases h with
 | free hr=>exact .inr ⟨rfl,hv,.inl ⟨hr,rfl,rfl⟩,hA⟩
 | full hr hp=>exact .inl ⟨rfl,rfl,rfl,Nat.le_of_not_lt hr,hp⟩
 | no e _ _ _ _ _ hw hne=>exact absurd (hA.wb hV hw).1 hne
 | left e e' _ hr he _ hw=>exact .inr ⟨rfl,_,.inr ⟨Nat.le_of_not_lt hr,e,he,rfl,rfl⟩,(hA.wb hV hw).2.1⟩
theorem RmR.one {hv1 hv2:Nat->Sh.Bs} {l1 l2:List En} (h:RmR most hv l hv1 l1) (k:RmR most hv l hv2 l2):hv1=hv2/\l1=l2:=by
 rcases h with ⟨h1,rfl,rfl⟩ | ⟨h1,e,h2,rfl,rfl⟩<;>rcases k with ⟨k1,rfl,rfl⟩ | ⟨k1,e2,k2,rfl,rfl⟩
 ·exact ⟨rfl,rfl⟩
 ·omega
 ·omega
 ·rw [h2] at k2
  injection k2 with k2
  subst k2
  exact ⟨rfl,rfl⟩
theorem RmR.sub {hv1:Nat->Sh.Bs} {l1:List En} (h:RmR most hv l hv1 l1) {z:En} (hz:z∈l1):z∈l:=by
 rcases h with ⟨_,_,rfl⟩ | ⟨_,e,_,_,rfl⟩
 ·exact hz
 ·exact (Go.Proofs.YtcepognpbeahhaaGreatDoor.Kc.mem_dropE.1 hz).1
theorem RmR.some {hv1:Nat->Sh.Bs} {l1:List En} (h:RmR most hv l hv1 l1) (hm:most<=l.length):firstE l≠l.length:=by
 rcases h with ⟨h1,_,_⟩ | ⟨_,e,h2,_⟩
 ·omega
 ·have:=(List.getElem?_eq_some_iff.1 h2).1
  omega
theorem Agree.get (hA:Agree cont x hv) (hV:Vsure V cont) (h:GetR V most n l x y X l' x') :
  (¬(0<=n/\n<12)/\y=1/\l'=l/\x'=x)\/(∃e,finds l n=some e/\(0<=n/\n<12)/\y=0/\X=e.d/\l'=useE l e/\x'=x) \/
  (∃k:Nat,k<12/\n=(k:Int)/\finds l n=none/\y=6/\l'=l/\Agree cont x' hv/\most<=l.length/\∀e∈l,e.pins≠0) \/
  (∃(k p:Nat) (hv':Nat->Sh.Bs) (l1:List En),k<12/\n=(k:Int)/\finds l n=none/\y=0/\X=hv k/\RmR most hv l hv' l1/\l'=useE l1 ⟨k,p,hv k,false,0⟩/\Agree cont x' hv'):=by
 cases h with
 | out h=>rw [hV.n] at h;exact .inl ⟨h,rfl,rfl,rfl⟩
 | here e hn hf=>rw [hV.n] at hn;exact .inr (.inl ⟨e,hf,hn,rfl,rfl,rfl,rfl⟩)
 | no k _ _ _ hk hkn hf hfe hne =>
  rw [hV.n] at hkn
  cases hfe with
  | no _ _ _ hrd _=>exact absurd (hV.rd hrd).1 hne
  | got Y x1 _ _ _ hrd hkp =>
   have hA1:Agree cont x1 hv:=fun j hj=>((hV.rd hrd).2.2 j hj).trans (hA j hj)
   cases hkp with
   | no _ _ _ hrm _ =>
    rcases hA1.room hV hrm with ⟨rfl,rfl,rfl,h1,h2⟩ | ⟨rfl,_⟩
    ·exact .inr (.inr (.inl ⟨k,hkn,hk,hf,rfl,rfl,hA1,h1,h2⟩))
    ·exact absurd rfl hne
   | kept _ _ _ _=>exact absurd rfl hne
 | got k _ _ e hk hkn hf hfe hfd =>
  rw [hV.n] at hkn
  cases hfe with
  | no _ _ _ _ hne=>exact absurd rfl hne
  | got Y x1 _ _ _ hrd hkp =>
   have hA1:Agree cont x1 hv:=fun j hj=>((hV.rd hrd).2.2 j hj).trans (hA j hj)
   have hY:Y=hv k:=(hV.rd hrd).2.1.trans (hA k hkn)
   cases hkp with
   | no _ _ _ _ hne=>exact absurd rfl hne
   | kept l1 x2 p hrm =>
    rcases hA1.room hV hrm with ⟨h1,_⟩ | ⟨_,hv',h1,h2⟩
    ·cases h1
    ·have hk0:∀z∈l1,z.k≠k:=fun z hz q=>finds_none hf z (h1.sub hz) (by rw [q];exact hk.symm)
     rw [hk,Go.Proofs.YtcepognpbeahhaaGreatDoor.Kc.finds_snoc hk0,if_pos rfl] at hfd
     injection hfd with hfd
     subst hfd
     subst hY
     refine .inr (.inr (.inr ⟨k,p,hv',l1,hkn,hk,hf,rfl,rfl,h1,?_,h2⟩))
     rw [Go.Proofs.YtcepognpbeahhaaGreatDoor.Kc.use_last hk0 rfl]
     unfold useE
     rw [Go.Proofs.YtcepognpbeahhaaGreatDoor.Kc.drop_none hk0]
theorem Agree.put (hA:Agree cont x hv) (hV:Vsure V cont) (h:PutR V most n b l x y l' x') :
  (¬((0<=n/\n<12)/\b.length=128)/\y=1/\l'=l/\x'=x)\/(b.length=128/\∃e,finds l n=some e/\(0<=n/\n<12)/\y=0/\l'=useE l { e with d:=b,dirty:=true }/\x'=x) \/
  (b.length=128/\∃k:Nat,k<12/\n=(k:Int)/\finds l n=none/\y=6/\l'=l/\Agree cont x' hv/\most<=l.length/\∀e∈l,e.pins≠0) \/
  (b.length=128/\∃(k p:Nat) (hv':Nat->Sh.Bs) (l1:List En),k<12/\n=(k:Int)/\finds l n=none/\y=0/\RmR most hv l hv' l1/\l'=useE l1 ⟨k,p,b,true,0⟩/\Agree cont x' hv'):=by
 cases h with
 | out h=>rw [hV.n] at h;exact .inl ⟨h,rfl,rfl,rfl⟩
 | here e hn hb hf=>rw [hV.n] at hn;exact .inr (.inl ⟨hb,e,hf,hn,rfl,rfl,rfl⟩)
 | no k _ _ _ hk hkn hb hf hkp hne =>
  rw [hV.n] at hkn
  cases hkp with
  | no _ _ _ hrm _ =>
   rcases hA.room hV hrm with ⟨rfl,rfl,rfl,h1,h2⟩ | ⟨rfl,_⟩
   ·exact .inr (.inr (.inl ⟨hb,k,hkn,hk,hf,rfl,rfl,hA,h1,h2⟩))
   ·exact absurd rfl hne
  | kept _ _ _ _=>exact absurd rfl hne
 | new k _ _ e hk hkn hb hf hkp hfd =>
  rw [hV.n] at hkn
  cases hkp with
  | no _ _ _ _ hne=>exact absurd rfl hne
  | kept l1 x2 p hrm =>
   rcases hA.room hV hrm with ⟨h1,_⟩ | ⟨_,hv',h1,h2⟩
   ·cases h1
   ·have hk0:∀z∈l1,z.k≠k:=fun z hz q=>finds_none hf z (h1.sub hz) (by rw [q];exact hk.symm)
    rw [hk,Go.Proofs.YtcepognpbeahhaaGreatDoor.Kc.finds_snoc hk0,if_pos rfl] at hfd
    injection hfd with hfd
    subst hfd
    refine .inr (.inr (.inr ⟨hb,k,p,hv',l1,hkn,hk,hf,rfl,h1,?_,h2⟩))
    refine (Go.Proofs.YtcepognpbeahhaaGreatDoor.Kc.use_last (e:=⟨k,p,b,false,0⟩) (e':=⟨k,p,b,true,0⟩) hk0 rfl).trans ?_
    unfold useE
    rw [Go.Proofs.YtcepognpbeahhaaGreatDoor.Kc.drop_none hk0]
def washE (ks:List Int) (l:List En):List En:=l.map fun e=>if (e.k:Int)∈ks then { e with dirty:=false } else e
def outOf (l:List En) (ks:List Int) (hv:Nat->Sh.Bs) (j:Nat):Sh.Bs:=match finds l (j:Int) with | some e=>if (e.k:Int)∈ks then e.d else hv j | none=>hv j
theorem Agree.wbs (hV:Vsure V cont) {ks:List Int} (h:WbsR V ks l x y l' x'):∀{hv:Nat->Sh.Bs},Agree cont x hv->(l.map En.k).Nodup->ks.Nodup->(∀e∈l,(e.k:Int)∈ks->e.dirty=true) ->
  y=0/\l'=washE ks l/\Agree cont x' (outOf l ks hv):=by
 induction h with
 | nil l x =>
  intro hv hA hn _ _
  refine ⟨rfl,by unfold washE;simp,fun j hj=>?_⟩
  rw [hA j hj]
  unfold outOf
  split<;>simp
 | no q t l x e y x' hf hw hne =>
  intro hv hA _ _ _
  exact absurd (hA.wb hV hw).1 hne
 | next q t l x e e1 x1 y l' x' hf hw hr ih =>
  intro hv hA hn hks hd
  obtain ⟨he,hek⟩:=finds_some hf
  obtain ⟨_,hA1,rfl⟩:=hA.wb hV hw
  have hed:e.dirty=true:=hd e he (by rw [hek];exact List.mem_cons_self ..)
  rw [hed,if_pos rfl] at hA1
  obtain ⟨hqt,htn⟩:=List.nodup_cons.1 hks
  have hqt2:¬(e.k:Int)∈t:=by rw [hek];exact hqt
  obtain ⟨h1,h2,h3⟩:=ih hA1 (by rw [putE_keys];exact hn) htn (fun z hz hzt=>by
   rcases mem_putE hz with q2 | ⟨q2,q3⟩
   ·rw [q2] at hzt;exact absurd hzt hqt2
   ·exact hd z q2 (List.mem_cons_of_mem _ hzt))
  refine ⟨h1,?_,fun j hj=>?_⟩
  ·rw [h2]
   unfold washE putE
   rw [List.map_map]
   refine List.map_congr_left fun z hz=>?_
   simp only [Function.comp]
   by_cases q2:z.k=e.k
   ·have:z=e:=one_of_key hn hz he q2
    subst this
    rw [if_pos rfl,if_neg hqt2,if_pos (by rw [hek];exact List.mem_cons_self ..)]
   ·rw [if_neg q2]
    have:(z.k:Int)∈q :: t↔(z.k:Int)∈t:=by
     rw [List.mem_cons,<- hek]
     exact ⟨fun h4=>h4.resolve_left (by omega),.inr⟩
    simp only [this]
  ·rw [h3 j hj]
   have hfp:finds (putE l { e with dirty:=false }) (j:Int)=if (e.k:Int)=j then some { e with dirty:=false } else finds l j:=finds_putE (e:={ e with dirty:=false }) hn he rfl (j:Int)
   unfold outOf
   rw [hfp]
   by_cases q2:(e.k:Int)=(j:Int)
   ·have hf2:finds l (j:Int)=some e:=by rw [<- q2,hek];exact hf
    rw [if_pos q2,hf2]
    show (if (e.k:Int)∈t then e.d else updT hv e.k e.d j)=if (e.k:Int)∈q :: t then e.d else hv j
    rw [if_neg hqt2,if_pos (by rw [hek];exact List.mem_cons_self ..)]
    unfold updT
    rw [if_pos (by omega)]
   ·rw [if_neg q2]
    have hu:updT hv e.k e.d j=hv j:=by unfold updT;rw [if_neg (by omega)]
    rcases hfj:finds l (j:Int) with _ | z
    ·exact hu
    ·obtain ⟨hz,hzk⟩:=finds_some hfj
     show (if (z.k:Int)∈t then z.d else updT hv e.k e.d j)=if (z.k:Int)∈q :: t then z.d else hv j
     have:(z.k:Int)∈q :: t↔(z.k:Int)∈t:=by
      rw [List.mem_cons,<- hek]
      exact ⟨fun h4=>h4.resolve_left (by omega),.inr⟩
     simp only [this,hu]
theorem hvF_find:∀(l:List En) (hv:Nat->Sh.Bs),(l.map En.k).Nodup->∀j:Nat,l.foldl (fun h e=>if fFlush e then updT h e.k e.d else h) hv j=match finds l (j:Int) with | some e=>if fFlush e then e.d else hv j | none=>hv j
 | [],_,_,_=>rfl
 | a :: t,hv,hn,j=>by
  rw [List.map_cons,List.nodup_cons] at hn
  rw [List.foldl_cons,hvF_find t _ hn.2 j]
  have hfc:finds (a :: t) (j:Int)=if (a.k:Int)=j then some a else finds t (j:Int):=by
   unfold finds
   by_cases q:(a.k:Int)=j
   ·rw [List.find?_cons_of_pos (by simpa using q),if_pos q]
   ·rw [List.find?_cons_of_neg (by simpa using q),if_neg q]
  rw [hfc]
  by_cases q:(a.k:Int)=j
  ·rw [if_pos q]
   have hft:finds t (j:Int)=none:=by
    unfold finds
    rw [List.find?_eq_none]
    intro z hz q2
    have q2:(z.k:Int)=j:=by simpa using q2
    exact hn.1 (List.mem_map.2 ⟨z,hz,by omega⟩)
   rw [hft]
   show (if fFlush a=true then updT hv a.k a.d else hv) j=if fFlush a then a.d else hv j
   split
   ·unfold updT;rw [if_pos (by omega)]
   ·rfl
  ·rw [if_neg q]
   have hu:(if fFlush a=true then updT hv a.k a.d else hv) j=hv j:=by
    split
    ·unfold updT;rw [if_neg (by omega)]
    ·rfl
   rw [hu]
theorem Agree.flush (hA:Agree cont x hv) (hV:Vsure V cont) (hn:(l.map En.k).Nodup) (h:FlushR V l x y l' x'):y=0/\l'=lF l l.length/\Agree cont x' (hvF hv l l.length):=by
 have hmem:∀e∈l,((e.k:Int)∈risesE fFlush l↔fFlush e=true):=fun e he=>by
  unfold risesE
  rw [List.mem_mergeSort,List.mem_map]
  constructor
  ·rintro ⟨z,hz,hk⟩
   have hz:=List.mem_filter.1 hz
   have:z=e:=one_of_key hn hz.1 he (by omega)
   rw [<- this];exact hz.2
  ·intro hf
   exact ⟨e,List.mem_filter.2 ⟨he,hf⟩,rfl⟩
 have hnd:(risesE fFlush l).Nodup:=by
  unfold risesE
  refine (List.mergeSort_perm _ _).nodup_iff.2 ?_
  have:((l.filter fFlush).map En.k).Nodup:=(List.Sublist.map _ List.filter_sublist).nodup hn
  rw [List.Nodup,List.pairwise_map] at this ⊢
  exact this.imp fun h1 h2=>h1 (by omega)
 have hgo:∀{y:Int} {l':List En} {x1:V.σ},WbsR V (risesE fFlush l) l x y l' x1->y=0/\l'=lF l l.length/\Agree cont x1 (hvF hv l l.length):=fun hr=>by
  obtain ⟨h1,h2,h3⟩:=Agree.wbs hV hr hA hn hnd (fun e he hk=>by
   have:=(hmem e he).1 hk
   unfold fFlush at this
   exact (Bool.and_eq_true_iff.1 this).1)
  refine ⟨h1,?_,fun j hj=>?_⟩
  ·rw [h2]
   unfold washE lF
   rw [List.take_length,List.drop_length,List.append_nil]
   refine List.map_congr_left fun e he=>?_
   unfold cleanE
   simp only [hmem e he]
  ·rw [h3 j hj]
   unfold hvF outOf
   rw [List.take_length,hvF_find l hv hn j]
   rcases hfj:finds l (j:Int) with _ | z
   ·rfl
   ·show (if (z.k:Int)∈risesE fFlush l then z.d else hv j)=if fFlush z=true then z.d else hv j
    simp only [hmem z (finds_some hfj).1]
 cases h with
 | no _ _ _ hr hne=>exact absurd (hgo hr).1 hne
 | all _ x1 _ _ hr hfl =>
  obtain ⟨_,h2,h3⟩:=hgo hr
  exact ⟨(hV.fl hfl).1,h2,fun j hj=>((hV.fl hfl).2 j hj).trans (h3 j hj)⟩
theorem dirts_rises (hn:(l.map En.k).Nodup) (hl:∀e∈l,e.k<12):dirtsTo l 12=risesE En.dirty l:=by
 have hs:(dirtsTo l 12).Pairwise (·<·):=by
  unfold dirtsTo
  rw [List.pairwise_map]
  exact (List.pairwise_lt_range.filter _).imp fun h=>by omega
 have h0:(dirtsTo l 12).mergeSort (fun a b=>decide (a<=b))=dirtsTo l 12:=List.mergeSort_of_pairwise (hs.imp fun h=>by simpa using Int.le_of_lt h)
 rw [<- h0]
 unfold risesE
 refine mergeSort_perm_eq ((List.perm_ext_iff_of_nodup (hs.imp fun h=>Int.ne_of_lt h) ?_).2 fun y=>?_)
 ·have:((l.filter En.dirty).map En.k).Nodup:=(List.Sublist.map _ List.filter_sublist).nodup hn
  rw [List.Nodup,List.pairwise_map] at this ⊢
  exact this.imp fun h1 h2=>h1 (by omega)
 ·unfold dirtsTo
  rw [List.mem_map,List.mem_map]
  constructor
  ·rintro ⟨a,ha,rfl⟩
   obtain ⟨_,h2⟩:=List.mem_filter.1 ha
   rcases hf:finds l (a:Int) with _ | e
   ·rw [hf] at h2;cases h2
   ·rw [hf] at h2
    exact ⟨e,List.mem_filter.2 ⟨(finds_some hf).1,h2⟩,(finds_some hf).2⟩
  ·rintro ⟨e,he,rfl⟩
   obtain ⟨h1,h2⟩:=List.mem_filter.1 he
   exact ⟨e.k,List.mem_filter.2 ⟨List.mem_range.2 (hl e h1),by rw [finds_mem hn h1];exact h2⟩,rfl⟩
end
open Go.Proofs.YtcepognpbeahhaaGreatDoor.Kc (En VolK CQ Got AllC GetR PutR FlushR finds dropE useE putE keysV risesE fFlush firstE)
structure Two (V:VolK) (w:World) (c most:Nat) (lr:List En) (x:V.σ) (k xr:Nat) (vs ls:Value) (hv:Nat->Sh.Bs) (l:List En) (Q:List (Nat × Obj)):Prop where
 rf:RfIs w xr vs ls most hv l
 cq:∃R,(∀b,Own xr vs ls b->∃o,(b,o)∈R)/\(∀z∈R,Own xr vs ls z.1)/\CQ V w c most lr x k (R++Q)
 ap:∀z∈Q,¬Own xr vs ls z.1
section
variable {V:VolK} {cont:V.σ->Nat->Sh.Bs} {w w' w2:World} {c most k k' xr a:Nat} {lr lr' l l':List En} {x x':V.σ} {vs ls:Value} {hv hv':Nat->Sh.Bs} {Q:List (Nat × Obj)} {o o':Obj} {n y:Int} {X b:Sh.Bs}
theorem Two.back (h:Two V w c most lr x k xr vs ls hv l Q) {R:List (Nat × Obj)} (h1:∀b,Own xr vs ls b->∃o,(b,o)∈R) (h2:∀z∈R,Own xr vs ls z.1) (h3:CQ V w c most lr x k (R++Q)) (h4:CQ V w' c most lr' x' k' (R++Q)):Two V w' c most lr' x' k' xr vs ls hv l Q :=
 ⟨h.rf.same fun b hb=>by
  obtain ⟨o,ho⟩:=h1 b hb
  exact (h4.of (z:=(b,o)) (List.mem_append_left _ ho)).trans (h3.of (z:=(b,o)) (List.mem_append_left _ ho)).symm,⟨R,h1,h2,h4⟩,h.ap⟩
theorem Two.of (h:Two V w c most lr x k xr vs ls hv l Q) {z:Nat × Obj} (hz:z∈Q):w.heap[z.1]?=some z.2:=by
 obtain ⟨R,_,_,h3⟩:=h.cq
 exact h3.of (List.mem_append_right _ hz)
theorem Two.sq (h:Two V w c most lr x k xr vs ls hv l Q):Go.Proofs.YtcepognpbeahhaaGreatDoor.Kc.SQ Q w:=fun _ hz=>h.of hz
theorem Two.head (h:Two V w c most lr x k xr vs ls hv l ((a,o) :: Q)):w.heap[a]?=some o:=h.of (List.mem_cons_self ..)
theorem Two.keys (h:Two V w c most lr x k xr vs ls hv l Q):(lr.map En.k).Nodup:=by
 obtain ⟨R,_,_,h3⟩:=h.cq
 exact h3.keys
theorem Two.len (h:Two V w c most lr x k xr vs ls hv l Q):lr.length<=most:=by
 obtain ⟨R,_,_,h3⟩:=h.cq
 exact h3.len
theorem Two.sub (h:Two V w c most lr x k xr vs ls hv l Q) {Q':List (Nat × Obj)} (hs:∀z∈Q',z∈Q):Two V w c most lr x k xr vs ls hv l Q':=by
 obtain ⟨R,h1,h2,h3⟩:=h.cq
 exact ⟨h.rf,⟨R,h1,h2,h3.sub fun z hz=>(List.mem_append.1 hz).elim (fun q=>List.mem_append_left _ q) (fun q=>List.mem_append_right _ (hs z q))⟩,fun z hz=>h.ap z (hs z hz)⟩
theorem Two.tail (h:Two V w c most lr x k xr vs ls hv l ((a,o) :: Q)):Two V w c most lr x k xr vs ls hv l Q:=h.sub fun _ hz=>List.mem_cons_of_mem _ hz
theorem Two.less (h:Two V w c most lr x k xr vs ls hv l Q) (hk:k'<=k):Two V w c most lr x k' xr vs ls hv l Q:=by
 obtain ⟨R,h1,h2,h3⟩:=h.cq
 exact ⟨h.rf,⟨R,h1,h2,h3.less hk⟩,h.ap⟩
theorem Two.grown (h:Two V w c most lr x k xr vs ls hv l Q) (hb:Below w.heap.size w w'):Two V w' c most lr x k xr vs ls hv l Q:=by
 obtain ⟨R,h1,h2,h3⟩:=h.cq
 exact ⟨h.rf.grown hb,⟨R,h1,h2,h3.grown hb⟩,h.ap⟩
theorem Two.add (h:Two V w c most lr x k xr vs ls hv l Q) (hb:Below w.heap.size w w') (ha:w.heap.size<=a) (ho:w'.heap[a]?=some o):Two V w' c most lr x k xr vs ls hv l ((a,o) :: Q):=by
 obtain ⟨R,h1,h2,h3⟩:=h.cq
 refine ⟨h.rf.grown hb,⟨R,h1,h2,(h3.add hb ha ho).sub fun z hz=>?_⟩,fun z hz=>?_⟩
 ·rcases List.mem_append.1 hz with q | q
  ·exact List.mem_cons_of_mem _ (List.mem_append_left _ q)
  ·rcases List.mem_cons.1 q with q | q
   ·rw [q];exact List.mem_cons_self ..
   ·exact List.mem_cons_of_mem _ (List.mem_append_right _ q)
 ·rcases List.mem_cons.1 hz with q | q
  ·rw [q];exact fun e=>by have:=h.rf.lt e;omega
  ·exact h.ap z q
theorem Two.poke (h:Two V w c most lr x k xr vs ls hv l ((a,o) :: Q)) (hne:∀z∈Q,z.1≠a) (hw:Sh.Only (fun b=>b=a) w w') (ho:w'.heap[a]?=some o'):Two V w' c most lr x k xr vs ls hv l ((a,o') :: Q):=by
 obtain ⟨R,h1,h2,h3⟩:=h.cq
 have hao:¬Own xr vs ls a:=h.ap _ (List.mem_cons_self ..)
 have h4:CQ V w c most lr x k ((a,o) :: (R++Q)):=h3.sub fun z hz=>by
  rcases List.mem_cons.1 hz with q | q
  ·rw [q];exact List.mem_append_right _ (List.mem_cons_self ..)
  ·rcases List.mem_append.1 q with q | q
   ·exact List.mem_append_left _ q
   ·exact List.mem_append_right _ (List.mem_cons_of_mem _ q)
 have h5:=h4.poke (fun z hz e=>by
  rcases List.mem_append.1 hz with q | q
  ·exact hao (by rw [<- e];exact h2 z q)
  ·exact hne z q e) hw ho
 refine ⟨h.rf.same fun b hb=>hw.block b (h.rf.lt hb) (fun e=>hao (by rw [<- e];exact hb)),⟨R,h1,h2,h5.sub fun z hz=>?_⟩,fun z hz=>?_⟩
 ·rcases List.mem_append.1 hz with q | q
  ·exact List.mem_cons_of_mem _ (List.mem_append_left _ q)
  ·rcases List.mem_cons.1 q with q | q
   ·rw [q];exact List.mem_cons_self ..
   ·exact List.mem_cons_of_mem _ (List.mem_append_right _ q)
 ·rcases List.mem_cons.1 hz with q | q
  ·rw [q];exact hao
  ·exact h.ap z (List.mem_cons_of_mem _ q)
theorem Two.ref (h:Two V w c most lr x k xr vs ls hv l Q) (hr:RfTo w xr vs ls most hv' l' w'):∃ls',Two V w' c most lr x k xr vs ls' hv' l' Q:=by
 obtain ⟨ls',h1,h2⟩:=hr
 obtain ⟨R,r1,r2,g,hgc,hg2,hg3⟩:=h.cq
 have hno:∀b,Own xr vs ls b->¬AllC V x g lr b:=fun b hb=>by
  obtain ⟨o,ho⟩:=r1 b hb
  exact (hg3 (b,o) (List.mem_append_left _ ho)).2
 refine ⟨ls',h1,⟨(xr :: (vs.ownBlock.toList++ls'.ownBlock.toList)).filterMap (fun b=>(w'.heap[b]?).map fun o=>(b,o)),fun b hb=>?_,fun z hz=>?_,g,hgc,hg2.only h2.1 hno,fun z hz=>?_⟩,fun z hz e=>?_⟩
 ·have hlt:=h1.lt hb
  refine ⟨w'.heap[b],List.mem_filterMap.2 ⟨b,?_,by rw [Array.getElem?_eq_getElem hlt];rfl⟩⟩
  rcases hb with q | q | q
  ·rw [q];exact List.mem_cons_self ..
  ·exact List.mem_cons_of_mem _ (List.mem_append_left _ (by rw [q];simp))
  ·exact List.mem_cons_of_mem _ (List.mem_append_right _ (by rw [q];simp))
 ·obtain ⟨b,hb,hz2⟩:=List.mem_filterMap.1 hz
  obtain ⟨o,_,rfl⟩:=Option.map_eq_some_iff.1 hz2
  rcases List.mem_cons.1 hb with q | q
  ·exact .inl q
  ·rcases List.mem_append.1 q with q | q
   ·exact .inr (.inl (by simpa using q))
   ·exact .inr (.inr (by simpa using q))
 ·rcases List.mem_append.1 hz with q | q
  ·obtain ⟨b,hb,hz2⟩:=List.mem_filterMap.1 q
   obtain ⟨o,ho,rfl⟩:=Option.map_eq_some_iff.1 hz2
   refine ⟨ho,fun e=>?_⟩
   have hob:Own xr vs ls' b:=by
    rcases List.mem_cons.1 hb with q | q
    ·exact .inl q
    ·rcases List.mem_append.1 q with q | q
     ·exact .inr (.inl (by simpa using q))
     ·exact .inr (.inr (by simpa using q))
   rcases h2.2 b hob with q2 | q2
   ·exact hno b q2 e
   ·have:=hg2.lt e
    omega
  ·have h3:=hg3 z (List.mem_append_right _ q)
   exact ⟨(h2.1.block _ (lt_of_block h3.1) (h.ap z q)).trans h3.1,h3.2⟩
 ·rcases h2.2 _ e with q | q
  ·exact h.ap z hz q
  ·have:=lt_of_block (h.of hz)
   omega
theorem Two.refB (h:Two V w c most lr x k xr vs ls hv l Q) (hb:Below w.heap.size w w'):∃ls',Two V w' c most lr x k xr vs ls' hv l Q:=⟨ls,h.grown hb⟩
def GotT (V:VolK) (w w':World) (c most:Nat) (lr:List En) (x:V.σ) (k xr:Nat) (vs ls:Value) (hv:Nat->Sh.Bs) (l:List En) (Q:List (Nat × Obj)) (y:Int) (A:Option Addr) (len cap:Nat) (X:Sh.Bs):Prop :=
 (y=0/\len=128/\∃ad o,A=some ad/\Sh.Bytes w w' A X/\Sh.Sec X/\Two V w' c most lr x k xr vs ls hv l ((ad.block,o) :: Q))\/(y≠0/\A=none/\len=0/\cap=0)
theorem Two.got {A:Option Addr} {len cap:Nat} {R:List (Nat × Obj)} (h:Two V w c most lr x k xr vs ls hv l Q) (h1:∀b,Own xr vs ls b->∃o,(b,o)∈R) (h2:∀z∈R,Own xr vs ls z.1) (h3:CQ V w c most lr x k (R++Q)) (hg:Got V w w' c most lr' x' k' (R++Q) y A len cap X):GotT V w w' c most lr' x' k' xr vs ls hv l Q y A len cap X:=by
 rcases hg with ⟨e1,e2,ad,o,e3,e4,e5,e6⟩ | hg
 ·refine .inl ⟨e1,e2,ad,o,e3,e4,e5,?_⟩
  have hlow:w.heap.size<=ad.block:=(e4.2 ad e3).1
  have hb:=h.back h1 h2 h3 (e6.tail)
  refine ⟨hb.rf,⟨R,h1,h2,e6.sub fun z hz=>?_⟩,fun z hz=>?_⟩
  ·rcases List.mem_append.1 hz with q | q
   ·exact List.mem_cons_of_mem _ (List.mem_append_left _ q)
   ·rcases List.mem_cons.1 q with q | q
    ·rw [q];exact List.mem_cons_self ..
    ·exact List.mem_cons_of_mem _ (List.mem_append_right _ q)
  ·rcases List.mem_cons.1 hz with q | q
   ·rw [q];exact fun e=>by have:=h.rf.lt e;omega
   ·exact h.ap z q
 ·exact .inr hg
theorem Two.get (h:Two V w c most lr x (k+2) xr vs ls hv l Q) (n:Int):Calls Tryz.prog 16 #[.pointer (some ⟨c,0,none⟩),.int .i64 n] w fun r w' =>
  ∃(y:Int) (A:Option Addr) (len cap:Nat) (X:Sh.Bs) (lr':List En) (x':V.σ),r=.returned (.tuple #[.slice A len cap,.int .i64 y])/\GetR V most n lr x y X lr' x'/\Two V w' c most lr' x' k xr vs ls hv l Q/\GotT V w w' c most lr' x' k xr vs ls hv l Q y A len cap X:=by
 obtain ⟨R,h1,h2,h3⟩:=h.cq
 refine (h3.get n).mono ?_
 rintro r w' ⟨y,A,len,cap,X,lr',x',rfl,hg,hc,ht⟩
 exact ⟨y,A,len,cap,X,lr',x',rfl,hg,h.back h1 h2 h3 hc,h.got h1 h2 h3 ht⟩
theorem Two.vread (h:Two V w c most lr x (k+1) xr vs ls hv l Q) (m:Nat) (hm:m<V.n):Calls Tryz.prog 13 #[.pointer (some ⟨V.v,0,none⟩),.int .i64 (m:Int)] w fun r w' =>
  ∃(y:Int) (A:Option Addr) (len cap:Nat) (X:Sh.Bs) (x':V.σ),r=.returned (.tuple #[.slice A len cap,.int .i64 y])/\V.rd x m y X x'/\Two V w' c most lr x' k xr vs ls hv l Q/\GotT V w w' c most lr x' k xr vs ls hv l Q y A len cap X:=by
 obtain ⟨R,h1,h2,h3⟩:=h.cq
 refine (h3.vread m hm).mono ?_
 rintro r w' ⟨y,A,len,cap,X,x',rfl,hg,hc,ht⟩
 exact ⟨y,A,len,cap,X,x',rfl,hg,h.back h1 h2 h3 hc,h.got h1 h2 h3 ht⟩
theorem Two.pin (h:Two V w c most lr x k xr vs ls hv l Q) (n:Int) (hn:-9223372036854775808<=n/\n<=9223372036854775807) (hp:∀e∈lr,e.pins<4611686018427387904):Calls Tryz.prog 20 #[.pointer (some ⟨c,0,none⟩),.int .i64 n] w fun r w' =>
  (finds lr n=none/\r=.returned (.int .i64 7)/\w=w')\/∃e,finds lr n=some e/\r=.returned (.int .i64 0)/\Two V w' c most (putE lr { e with pins:=e.pins+1 }) x k xr vs ls hv l Q:=by
 obtain ⟨R,h1,h2,h3⟩:=h.cq
 refine (h3.pin n hn hp).mono ?_
 rintro r w' (q | ⟨e,e1,e2,e3⟩)
 ·exact .inl q
 ·exact .inr ⟨e,e1,e2,h.back h1 h2 h3 e3⟩
theorem Two.unpin (h:Two V w c most lr x k xr vs ls hv l Q) (n:Int) (hn:-9223372036854775808<=n/\n<=9223372036854775807):Calls Tryz.prog 22 #[.pointer (some ⟨c,0,none⟩),.int .i64 n] w fun r w' =>
  ((finds lr n=none\/∃e,finds lr n=some e/\e.pins=0)/\r=.returned (.int .i64 7)/\w=w')\/∃e,finds lr n=some e/\e.pins≠0/\r=.returned (.int .i64 0)/\Two V w' c most (putE lr { e with pins:=e.pins-1 }) x k xr vs ls hv l Q:=by
 obtain ⟨R,h1,h2,h3⟩:=h.cq
 refine (h3.unpin n hn).mono ?_
 rintro r w' (q | ⟨e,e1,e2,e3,e4⟩)
 ·exact .inl q
 ·exact .inr ⟨e,e1,e2,e3,h.back h1 h2 h3 e4⟩
theorem Two.flush (h:Two V w c most lr x (k+1+(risesE fFlush lr).length) xr vs ls hv l Q):Calls Tryz.prog 17 #[.pointer (some ⟨c,0,none⟩)] w fun r w' =>
  ∃(y:Int) (lr':List En) (x':V.σ),r=.returned (.int .i64 y)/\FlushR V lr x y lr' x'/\Two V w' c most lr' x' k xr vs ls hv l Q:=by
 obtain ⟨R,h1,h2,h3⟩:=h.cq
 refine h3.flush.mono ?_
 rintro r w' ⟨y,lr',x',rfl,hf,hc⟩
 exact ⟨y,lr',x',rfl,hf,h.back h1 h2 h3 hc⟩
theorem Two.blocks (h:Two V w c most lr x k xr vs ls hv l Q):Calls Tryz.prog 23 #[.pointer (some ⟨c,0,none⟩)] w fun r w'=>∃v,r=.returned v/\w'.ownsRow w.heap.size 3 1 v lr.length (keysV lr)/\Below w.heap.size w w':=by
 obtain ⟨R,_,_,h3⟩:=h.cq
 exact h3.blocks
theorem Two.dirties (h:Two V w c most lr x k xr vs ls hv l Q):Calls Tryz.prog 21 #[.pointer (some ⟨c,0,none⟩)] w fun r w'=>∃v,r=.returned v/\w'.ownsRow w.heap.size 3 1 v (risesE En.dirty lr).length ((risesE En.dirty lr).map (Value.int .i64))/\Below w.heap.size w w':=by
 obtain ⟨R,_,_,h3⟩:=h.cq
 exact h3.dirties
theorem get_agree (hA:Agree cont x hv) (hV:Vsure V cont) (hg:GetR V most n l x y X lr' x'):∃p,∀{w' w2:World} {r:Ending},Two V w' c most lr' x' k xr vs ls hv l Q->GetTo w' xr vs ls most hv l n p r w2 ->
  ∃hv' ls',r=.returned (.tuple #[.string (Sh.strL X),.int .i64 y])/\Two V w2 c most lr' x' k xr vs ls' hv' lr' Q/\Agree cont x' hv':=by
 rcases hA.get hV hg with ⟨g1,rfl,rfl,rfl⟩ | ⟨e,g1,g2,rfl,rfl,rfl,rfl⟩ | ⟨m,g1,rfl,g2,rfl,rfl,g3,g4,g5⟩ | ⟨m,p,hv',l1,g1,rfl,g2,rfl,rfl,g3,rfl,g4⟩
 ·refine ⟨0,fun {w' w2 r} h k=>?_⟩
  have hX:X=[]:=by
   cases hg with
   | out _=>rfl
   | no _ _ _ _ _ _ _ _ _=>rfl
  subst hX
  rcases k with ⟨_,rfl,rfl⟩ | ⟨e,k1,rfl,_⟩ | ⟨m,k1,rfl,_⟩ | ⟨m,_,_,k1,rfl,_⟩
  ·exact ⟨hv,ls,rfl,h,hA⟩
  ·have:=(Go.Proofs.YtcepognpbeahhaaGreatDoor.Kc.finds_some k1)
   exact absurd ⟨by omega,by have:=h.rf.lows e this.1;omega⟩ g1
  ·exact absurd ⟨by omega,by omega⟩ g1
  ·exact absurd ⟨by omega,by omega⟩ g1
 ·refine ⟨0,fun {w' w2 r} h k=>?_⟩
  rcases k with ⟨k1,rfl,rfl⟩ | ⟨e2,k1,rfl,k2⟩ | ⟨m,k1,rfl,k2,_⟩ | ⟨m,_,_,k1,rfl,k2,_⟩
  ·exact absurd g2 k1
  ·rw [g1] at k1
   injection k1 with k1
   subst k1
   obtain ⟨ls',h2⟩:=h.ref k2
   exact ⟨hv,ls',rfl,h2,hA⟩
  ·rw [g1] at k2;cases k2
  ·rw [g1] at k2;cases k2
 ·refine ⟨0,fun {w' w2 r} h k=>?_⟩
  have hX:X=[]:=by
   cases hg with
   | no _ _ _ _ _ _ _ _ _=>rfl
  subst hX
  have hfe:firstE lr'=lr'.length:=firstE_none fun i hi=>g5 _ (List.getElem_mem hi)
  rcases k with ⟨k1,rfl,rfl⟩ | ⟨e2,k1,rfl,k2⟩ | ⟨m2,k1,_,k2,_,_,rfl,k5⟩ | ⟨m2,_,_,k1,_,k2,k3,rfl,_⟩
  ·exact absurd ⟨by omega,by omega⟩ k1
  ·rw [g2] at k1;cases k1
  ·obtain ⟨ls',h2⟩:=h.refB k5
   exact ⟨hv,ls',rfl,h2,g3⟩
  ·exact absurd hfe (k3.some g4)
 ·refine ⟨p,fun {w' w2 r} h k=>?_⟩
  rcases k with ⟨k1,rfl,rfl⟩ | ⟨e2,k1,rfl,k2⟩ | ⟨m2,k1,_,k2,k3,k4,rfl,k5⟩ | ⟨m2,hv2,l2,k1,km,k2,k3,rfl,k4⟩
  ·exact absurd ⟨by omega,by omega⟩ k1
  ·rw [g2] at k1;cases k1
  ·exact absurd k4 (g3.some k3)
  ·have hm2:m2=m:=by omega
   subst hm2
   obtain ⟨rfl,rfl⟩:=g3.one k3
   obtain ⟨ls',h2⟩:=h.ref k4
   exact ⟨_,ls',rfl,h2,g4⟩
theorem put_agree (hA:Agree cont x hv) (hV:Vsure V cont) (hg:PutR V most n b l x y lr' x'):∃p,∀{w' w2:World} {r:Ending},Two V w' c most lr' x' k xr vs ls hv l Q->PutTo w' xr vs ls most hv l n b p r w2 ->
  ∃hv' ls',r=.returned (.int .i64 y)/\Two V w2 c most lr' x' k xr vs ls' hv' lr' Q/\Agree cont x' hv':=by
 rcases hA.put hV hg with ⟨g1,rfl,rfl,rfl⟩ | ⟨gb,e,g1,g2,rfl,rfl,rfl⟩ | ⟨gb,m,g1,rfl,g2,rfl,rfl,g3,g4,g5⟩ | ⟨gb,m,p,hv',l1,g1,rfl,g2,rfl,g3,rfl,g4⟩
 ·refine ⟨0,fun {w' w2 r} h k=>?_⟩
  rcases k with ⟨_,rfl,rfl⟩ | ⟨kb,e,k1,rfl,_⟩ | ⟨kb,m,k1,rfl,_⟩ | ⟨kb,m,_,_,k1,rfl,_⟩
  ·exact ⟨hv,ls,rfl,h,hA⟩
  ·have:=(Go.Proofs.YtcepognpbeahhaaGreatDoor.Kc.finds_some k1)
   exact absurd ⟨⟨by omega,by have:=h.rf.lows e this.1;omega⟩,kb⟩ g1
  ·exact absurd ⟨⟨by omega,by omega⟩,kb⟩ g1
  ·exact absurd ⟨⟨by omega,by omega⟩,kb⟩ g1
 ·refine ⟨0,fun {w' w2 r} h k=>?_⟩
  rcases k with ⟨k1,rfl,rfl⟩ | ⟨_,e2,k1,rfl,k2⟩ | ⟨_,m,k1,rfl,k2,_⟩ | ⟨_,m,_,_,k1,rfl,k2,_⟩
  ·exact absurd ⟨g2,gb⟩ k1
  ·rw [g1] at k1
   injection k1 with k1
   subst k1
   obtain ⟨ls',h2⟩:=h.ref k2
   exact ⟨hv,ls',rfl,h2,hA⟩
  ·rw [g1] at k2;cases k2
  ·rw [g1] at k2;cases k2
 ·refine ⟨0,fun {w' w2 r} h k=>?_⟩
  have hfe:firstE lr'=lr'.length:=firstE_none fun i hi=>g5 _ (List.getElem_mem hi)
  rcases k with ⟨k1,rfl,rfl⟩ | ⟨_,e2,k1,rfl,k2⟩ | ⟨_,m2,k1,_,k2,_,_,rfl,k5⟩ | ⟨_,m2,_,_,k1,_,k2,k3,rfl,_⟩
  ·exact absurd ⟨⟨by omega,by omega⟩,gb⟩ k1
  ·rw [g2] at k1;cases k1
  ·obtain ⟨ls',h2⟩:=h.refB k5
   exact ⟨hv,ls',rfl,h2,g3⟩
  ·exact absurd hfe (k3.some g4)
 ·refine ⟨p,fun {w' w2 r} h k=>?_⟩
  rcases k with ⟨k1,rfl,rfl⟩ | ⟨_,e2,k1,rfl,k2⟩ | ⟨_,m2,k1,_,k2,k3,k4,rfl,k5⟩ | ⟨_,m2,hv2,l2,k1,km,k2,k3,rfl,k4⟩
  ·exact absurd ⟨⟨by omega,by omega⟩,gb⟩ k1
  ·rw [g2] at k1;cases k1
  ·exact absurd k4 (g3.some k3)
  ·have hm2:m2=m:=by omega
   subst hm2
   obtain ⟨rfl,rfl⟩:=g3.one k3
   obtain ⟨ls',h2⟩:=h.ref k4
   exact ⟨_,ls',rfl,h2,g4⟩
theorem flush_agree (hA:Agree cont x hv) (hV:Vsure V cont) (hg:FlushR V l x y lr' x') (hn:(l.map En.k).Nodup):y=0/\∀{w' w2:World},Two V w' c most lr' x' k xr vs ls hv l Q->FlI w' xr vs ls most hv l l.length w2->∃hv' ls',Two V w2 c most lr' x' k xr vs ls' hv' lr' Q/\Agree cont x' hv':=by
 obtain ⟨rfl,rfl,h3⟩:=hA.flush hV hn hg
 refine ⟨rfl,fun {w' w2} h k=>?_⟩
 obtain ⟨ls',h2⟩:=h.ref ⟨ls,k⟩
 exact ⟨_,ls',h2,h3⟩
end
open Go.Proofs.YtcepognpbeahhaaGreatDoor.Kc (En VolK CQ Got AllC GetR PutR FlushR finds dropE useE putE keysV risesE fFlush firstE)
theorem same_none (w:World) (A1 A2:Option Addr) (c1 c2:Nat):Calls Tryz.prog 68 #[.slice A1 0 c1,.slice A2 0 c2] w fun e w'=>e=.returned (.bool true)/\w=w':=by
 go_enter Tryz.func68,Tryz.ntmps68
 go_wp2
 go_loopw [5] (fun s wr=>s=.int .i64 0/\Hid (Go.Proofs.YtcepognpbeahhaaGreatDoor.Kc.SameW w wr)) (fun s _=>0)
 case atStart=>exact ⟨rfl,hid rfl⟩
 case round =>
  obtain ⟨rfl,hrel⟩:=hrel
  go_wp2
  go_ret
  exact ⟨rfl,hrel.out⟩
theorem alike_none (w:World) (A1 A2:Option Addr) (c1 c2:Nat):Calls Tryz.prog 30 #[.slice A1 0 c1,.slice A2 0 c2] w fun e w'=>e=.returned (.int .i64 0)/\Below w.heap.size w w':=by
 have HC:=hid (same_none w A1 A2 c1 c2)
 go_enter Tryz.func30,Tryz.ntmps30
 go_wp2_with fail
 refine HC.out.mono ?_
 rintro e w1 ⟨rfl,rfl⟩
 go_wp2
 go_ret
 exact ⟨rfl,Below.refl _ _⟩
theorem bump8 (x:Nat):∃y:Nat,y<256/\IntKind.u8.wrap ((x:Int)+1)=(y:Int):=by
 refine ⟨(IntKind.u8.wrap ((x:Int)+1)).toNat,?_,?_⟩<;>rw [IntKind.wrap_u8]<;>omega
theorem bts_zeros (m:Nat):(madeCells (Value.int .u8 0).cells (m*1)).toList=Sh.bts (List.replicate m 0):=by
 rw [show Sh.bts (List.replicate m 0)=List.replicate m (Value.int .u8 0) by simp [Sh.bts],Nat.mul_one]
 exact toList_madeCells_one (.int .u8 0) m
theorem wp_makeN {op:Oper} {ac:Act} {w:World} {K:Act->World->Prop} {Q:Exit->Act->World->Prop} (l c:Operand) (hop:op.op=Op.makeSlice 40 l c) {m:Nat} (hm:m<256) (hl:ac.eval l=.int .i64 (m:Int)) (hc:ac.eval c=.int .i64 (m:Int))
  (hK:∀w',w'.ownsRow w.heap.size 5 1 (.slice (some ⟨w.heap.size,0,none⟩) m m) m (Sh.bts (List.replicate m 0))->Below w.heap.size w w'->K (ac.put op.dst (.slice (some ⟨w.heap.size,0,none⟩) m m)) w'):Oper.wp Tryz.prog op ac w K Q:=by
 obtain ⟨i1,ki,kz0,kz1,kz2⟩:=info_parts (show (Tryz.prog.info? 5).map (fun i=>(i.zero,i.size,i.bytes))=some (some (.int .u8 0),1,1) by kernel_rfl)
 obtain ⟨w',hrun,r1,r2⟩:=run_make_full (P:=Tryz.prog) w w.heap.size 40 5 i1 _ 1 Tryz.underlying40 ki kz0 kz1 .i64 .i64 m (by rw [kz2];omega) (by unfold maxLen;omega) (Nat.le_refl _)
 rw [bts_zeros] at r1
 unfold Oper.wp
 simp [execOp,hop,hl,hc,hrun,Result.andThen]
 exact hK _ r1 ((Below.refl _ w).grown r2 (Nat.le_refl _) (fun _ h=>by cases h))
theorem own_convN {w:World} {B b m:Nat} {bs:Sh.Bs} (h:w.ownsRow B 5 1 (.slice (some ⟨b,0,none⟩) m m) m (Sh.bts bs)):∃o:Obj,w.heap[b]?=some o/\∀W:World,W.heap[b]?=some o->∀s,Sh.strL bs=s->(convert 40 9 (.slice (some ⟨b,0,none⟩) m m)).run Tryz.prog W=.ok (.string s) W:=by
 have hl:=(h.lt b rfl).2
 refine ⟨_,Array.getElem?_eq_getElem hl,fun W hW s hs=>?_⟩
 rw [<- hs]
 exact Sh.run_str m (Go.Proofs.YtcepognpbeahhaaGreatDoor.Kc.reads_at (ad:=⟨b,0,none⟩) (Sh.Reads.of_own h) rfl (by rw [hW];exact (Array.getElem?_eq_getElem hl).symm))
theorem alike_rows {w:World} {b1 b2:Nat} {v1 v2:Value} {zs:List Int} (hn:zs.length<=1048576) (h1:w.ownsRow b1 3 1 v1 zs.length (zs.map (Value.int .i64))) (h2:w.ownsRow b2 3 1 v2 zs.length (zs.map (Value.int .i64))) :
  Calls Tryz.prog 30 #[v1,v2] w fun e w'=>e=.returned (.int .i64 0)/\Below w.heap.size w w':=by
 rcases Nat.eq_zero_or_pos zs.length with q | q
 ·obtain ⟨A1,c1,rfl⟩:=Sh.own_shape2 h1
  obtain ⟨A2,c2,rfl⟩:=Sh.own_shape2 h2
  rw [q]
  exact alike_none w A1 A2 c1 c2
 ·obtain ⟨g1,c1,rfl,_⟩:=h1.form q
  obtain ⟨g2,c2,rfl,_⟩:=h2.form q
  have hz:∀j,j<zs.length->(zs.map (Value.int .i64))[j]?=some (.int .i64 (zs.getD j 0)):=fun j hj=>by
   rw [List.getElem?_map,List.getElem?_eq_getElem hj,List.getD_eq_getElem?_getD,List.getElem?_eq_getElem hj]
   rfl
  exact Go.Proofs.YtcepognpbeahhaaGreatDoor.U.alike w g1 c1 g2 c2 zs hn (fun j hj=>Sh.cell_at h1 (hz j hj)) (fun j hj=>Sh.cell_at h2 (hz j hj))
section
variable {V:VolK} {cont:V.σ->Nat->Sh.Bs} {w w' w2:World} {c most k k' xr a B:Nat} {lr lr' l l':List En} {x x':V.σ} {vs ls:Value} {hv hv':Nat->Sh.Bs} {Q:List (Nat × Obj)} {o o':Obj} {n y:Int} {X b:Sh.Bs}
theorem use_pins (h:∀e∈l,e.pins<=B) {e:En} (he:e.pins<=B):∀z∈useE l e,z.pins<=B:=fun z hz=>by
 unfold useE at hz
 rcases List.mem_append.1 hz with q | q
 ·exact h z (Go.Proofs.YtcepognpbeahhaaGreatDoor.Kc.mem_dropE.1 q).1
 ·rw [List.mem_singleton.1 q];exact he
theorem get_pins (hA:Agree cont x hv) (hV:Vsure V cont) (hg:GetR V most n l x y X l' x') (h:∀e∈l,e.pins<=B):∀e∈l',e.pins<=B:=by
 rcases hA.get hV hg with ⟨_,_,rfl,_⟩ | ⟨e,g1,_,_,_,rfl,_⟩ | ⟨m,_,_,_,_,rfl,_⟩ | ⟨m,p,hv',l1,_,_,_,_,_,g3,rfl,_⟩
 ·exact h
 ·exact use_pins h (h e (Go.Proofs.YtcepognpbeahhaaGreatDoor.Kc.finds_some g1).1)
 ·exact h
 ·exact use_pins (fun e he=>h e (g3.sub he)) (Nat.zero_le _)
theorem put_pins (hA:Agree cont x hv) (hV:Vsure V cont) (hg:PutR V most n b l x y l' x') (h:∀e∈l,e.pins<=B):∀e∈l',e.pins<=B:=by
 rcases hA.put hV hg with ⟨_,_,rfl,_⟩ | ⟨_,e,g1,_,_,rfl,_⟩ | ⟨_,m,_,_,_,_,rfl,_⟩ | ⟨_,m,p,hv',l1,_,_,_,_,g3,rfl,_⟩
 ·exact h
 ·exact use_pins h (h e (Go.Proofs.YtcepognpbeahhaaGreatDoor.Kc.finds_some g1).1)
 ·exact h
 ·exact use_pins (fun e he=>h e (g3.sub he)) (Nat.zero_le _)
theorem flush_pins (hA:Agree cont x hv) (hV:Vsure V cont) (hg:FlushR V l x y l' x') (hn:(l.map En.k).Nodup) (h:∀e∈l,e.pins<=B):∀e∈l',e.pins<=B:=by
 obtain ⟨_,rfl,_⟩:=hA.flush hV hn hg
 intro e he
 unfold lF at he
 rw [List.take_length,List.drop_length,List.append_nil] at he
 obtain ⟨z,hz,rfl⟩:=List.mem_map.1 he
 unfold cleanE
 split
 ·exact h z hz
 ·exact h z hz
theorem put_pins2 (h:∀e∈l,e.pins<=B) {e:En} (he:e.pins<=B+1):∀z∈putE l e,z.pins<=B+1:=fun z hz=>by
 rcases Go.Proofs.YtcepognpbeahhaaGreatDoor.Kc.mem_putE hz with q | q
 ·rw [q];exact he
 ·exact Nat.le_succ_of_le (h z q.1)
def Alike2 (V:VolK) (cont:V.σ->Nat->Sh.Bs) (w:World) (c most xr k B:Nat) (Q:List (Nat × Obj)):Prop:=∃(l:List En) (x:V.σ) (vs ls:Value) (hv:Nat->Sh.Bs),Two V w c most l x k xr vs ls hv l Q/\Agree cont x hv/\∀e∈l,e.pins<=B
def PinR (up:Bool) (l:List En) (n:Int) (y:Int) (l':List En):Prop :=
 (y=7/\l'=l/\(finds l n=none\/(up=false/\∃e,finds l n=some e/\e.pins=0))) \/
 (y=0/\∃e,finds l n=some e/\(up=true\/e.pins≠0)/\l'=putE l { e with pins:=if up then e.pins+1 else e.pins-1 })
theorem pin_pins {up:Bool} (h:PinR up l n y l') (hp:∀e∈l,e.pins<=B):∀e∈l',e.pins<=B+1:=by
 rcases h with ⟨_,rfl,_⟩ | ⟨_,e,h1,_,rfl⟩
 ·exact fun e he=>Nat.le_succ_of_le (hp e he)
 ·have:=hp e (Go.Proofs.YtcepognpbeahhaaGreatDoor.Kc.finds_some h1).1
  refine put_pins2 hp ?_
  show (if up then e.pins+1 else e.pins-1)<=B+1
  split<;>omega
theorem pin_real (h:Two V w c most l x k xr vs ls hv l Q) (n:Int) (hn:-9223372036854775808<=n/\n<=9223372036854775807) (hp:∀e∈l,e.pins<4611686018427387904):Calls Tryz.prog 20 #[.pointer (some ⟨c,0,none⟩),.int .i64 n] w fun r w' =>
  ∃y l',r=.returned (.int .i64 y)/\PinR true l n y l'/\Two V w' c most l' x k xr vs ls hv l Q:=by
 refine (h.pin n hn hp).mono ?_
 rintro r w' (⟨h1,rfl,rfl⟩ | ⟨e,h1,rfl,h2⟩)
 ·exact ⟨7,l,rfl,.inl ⟨rfl,rfl,.inl h1⟩,h⟩
 ·exact ⟨0,_,rfl,.inr ⟨rfl,e,h1,.inl rfl,rfl⟩,h2⟩
theorem unpin_real (h:Two V w c most l x k xr vs ls hv l Q) (n:Int) (hn:-9223372036854775808<=n/\n<=9223372036854775807):Calls Tryz.prog 22 #[.pointer (some ⟨c,0,none⟩),.int .i64 n] w fun r w' =>
  ∃y l',r=.returned (.int .i64 y)/\PinR false l n y l'/\Two V w' c most l' x k xr vs ls hv l Q:=by
 refine (h.unpin n hn).mono ?_
 rintro r w' (⟨h1,rfl,rfl⟩ | ⟨e,h1,h0,rfl,h2⟩)
 ·exact ⟨7,l,rfl,.inl ⟨rfl,rfl,h1.imp id fun q=>⟨rfl,q⟩⟩,h⟩
 ·exact ⟨0,_,rfl,.inr ⟨rfl,e,h1,.inr h0,rfl⟩,h2⟩
theorem pin_to {up:Bool} {r:Ending} (h:Two V w c most l' x k xr vs ls hv l Q) (hr:PinR up l n y l') (k2:PinTo w xr vs ls most hv l n up r w'):r=.returned (.int .i64 y)/\∃ls',Two V w' c most l' x k xr vs ls' hv l' Q:=by
 rcases k2 with ⟨k2,rfl,rfl⟩ | ⟨e,k2,k3,rfl,k4⟩<;>rcases hr with ⟨rfl,rfl,h1⟩ | ⟨rfl,e2,h1,h2,rfl⟩
 ·exact ⟨rfl,ls,h⟩
 ·rcases k2 with q | ⟨q,e3,q2,q3⟩
  ·rw [q] at h1;cases h1
  ·rw [q2] at h1
   injection h1 with h1
   subst h1
   rcases h2 with q4 | q4
   ·rw [q] at q4;cases q4
   ·exact absurd q3 q4
 ·rcases h1 with q | ⟨q,e3,q2,q3⟩
  ·rw [q] at k2;cases k2
  ·rw [q2] at k2
   injection k2 with k2
   subst k2
   rcases k3 with q4 | q4
   ·rw [q] at q4;cases q4
   ·exact absurd q3 q4
 ·rw [k2] at h1
  injection h1 with h1
  subst h1
  obtain ⟨ls',h3⟩:=h.ref k4
  exact ⟨rfl,ls',h3⟩
theorem pin_ref (h:Two V w c most l' x k xr vs ls hv l Q) (hr:PinR true l n y l') (hp:∀e∈l,e.pins<4611686018427387904):Calls Tryz.prog 33 #[.pointer (some ⟨xr,0,none⟩),.int .i64 n,.int .i64 1] w fun r w'=>r=.returned (.int .i64 y)/\∃ls',Two V w' c most l' x k xr vs ls' hv l' Q :=
 (rPinUp h.rf n hp).mono fun _ _ q=>pin_to h hr q
theorem unpin_ref (h:Two V w c most l' x k xr vs ls hv l Q) (hr:PinR false l n y l'):Calls Tryz.prog 33 #[.pointer (some ⟨xr,0,none⟩),.int .i64 n,.int .i64 (-1)] w fun r w'=>r=.returned (.int .i64 y)/\∃ls',Two V w' c most l' x k xr vs ls' hv l' Q :=
 (rPinDown h.rf n).mono fun _ _ q=>pin_to h hr q
theorem get_ref (hA:Agree cont x hv) (hV:Vsure V cont) (hmost:most<=1024) (hg:GetR V most n l x y X lr' x') (h:Two V w c most lr' x' k xr vs ls hv l Q):Calls Tryz.prog 31 #[.pointer (some ⟨xr,0,none⟩),.int .i64 n] w fun r w' =>
  ∃hv' ls',r=.returned (.tuple #[.string (Sh.strL X),.int .i64 y])/\Two V w' c most lr' x' k xr vs ls' hv' lr' Q/\Agree cont x' hv':=by
 obtain ⟨p,hp⟩:=get_agree (c:=c) (k:=k) (xr:=xr) (vs:=vs) (ls:=ls) (Q:=Q) hA hV hg
 exact (rGet h.rf hmost n p).mono fun _ _ q=>hp h q
theorem put_ref (hA:Agree cont x hv) (hV:Vsure V cont) (hmost:most<=1024) (hg:PutR V most n b l x y lr' x') (h:Two V w c most lr' x' k xr vs ls hv l Q):Calls Tryz.prog 32 #[.pointer (some ⟨xr,0,none⟩),.int .i64 n,.string (Sh.strL b)] w fun r w' =>
  ∃hv' ls',r=.returned (.int .i64 y)/\Two V w' c most lr' x' k xr vs ls' hv' lr' Q/\Agree cont x' hv':=by
 obtain ⟨p,hp⟩:=put_agree (c:=c) (k:=k) (xr:=xr) (vs:=vs) (ls:=ls) (Q:=Q) hA hV hg
 exact (rPut h.rf hmost n b p).mono fun _ _ q=>hp h q
theorem flush_ref (hA:Agree cont x hv) (hV:Vsure V cont) (hg:FlushR V l x y lr' x') (hn:(l.map En.k).Nodup) (h:Two V w c most lr' x' k xr vs ls hv l Q):Calls Tryz.prog 34 #[.pointer (some ⟨xr,0,none⟩)] w fun r w' =>
  r=.returned (.tuple #[])/\∃hv' ls',Two V w' c most lr' x' k xr vs ls' hv' lr' Q/\Agree cont x' hv' :=
 (rFlush h.rf).mono fun _ _ q=>⟨q.1,(flush_agree (c:=c) (k:=k) (xr:=xr) (vs:=vs) (ls:=ls) (Q:=Q) hA hV hg hn).2 h q.2⟩
theorem rises_12 (hn:(l.map En.k).Nodup) (hl:∀e∈l,e.k<12):(risesE fFlush l).length<=12:=by
 have h1:(risesE fFlush l).length<=l.length:=Go.Proofs.YtcepognpbeahhaaGreatDoor.Kc.rises_few
 have h2:=Go.Proofs.YtcepognpbeahhaaGreatDoor.Kc.nodup_len (l.map fun e=>(e.k:Int)) ((List.range 12).map fun (k:Nat)=>(k:Int)) (by
  rw [List.Nodup,List.pairwise_map] at hn ⊢
  exact hn.imp fun h1 h2=>h1 (by omega)) (fun y hy=>by
  obtain ⟨e,he,rfl⟩:=List.mem_map.1 hy
  exact List.mem_map.2 ⟨e.k,List.mem_range.2 (hl e he),rfl⟩)
 simp only [List.length_map,List.length_range] at h2
 omega
theorem Two.put2 {cp:Nat} {bs:Sh.Bs} (h:Two V w c most lr x (k+1) xr vs ls hv l ((a,o) :: Q)) (n:Int) (hs:Sh.Sec bs) (hr:Sh.Reads w w.heap.size (some ⟨a,0,none⟩) 128 (Sh.bts bs)):Calls Tryz.prog 14 #[.pointer (some ⟨c,0,none⟩),.int .i64 n,.slice (some ⟨a,0,none⟩) 128 cp] w fun r w' =>
  ∃(y:Int) (lr':List En) (x':V.σ),r=.returned (.int .i64 y)/\PutR V most n bs lr x y lr' x'/\Two V w' c most lr' x' k xr vs ls hv l ((a,o) :: Q):=by
 obtain ⟨R,h1,h2,h3⟩:=h.cq
 have h4:=h3
 obtain ⟨g,rfl,g2,g3⟩:=h4
 have hno:=(g3 (a,o) (List.mem_append_right _ (List.mem_cons_self ..))).2
 refine (Go.Proofs.YtcepognpbeahhaaGreatDoor.Kc.cPut g2 n ⟨hr,fun b hb e=>by injection hb with hb;subst hb;exact hno e⟩ hs).mono ?_
 rintro r w' ⟨y,lr',x',rfl,hp,u,hv,hm⟩
 exact ⟨y,lr',x',rfl,hp,h.back h1 h2 h3 (Go.Proofs.YtcepognpbeahhaaGreatDoor.Kc.cq_moves (g:=g) (g':={ g with u:=u }) rfl g3 hv hm)⟩
theorem Two.put_len {A:Option Addr} {len cp:Nat} (h:Two V w c most lr x k xr vs ls hv l Q) (n:Int) (b:Sh.Bs) (hl:len≠128) (hb:b.length=len):Calls Tryz.prog 14 #[.pointer (some ⟨c,0,none⟩),.int .i64 n,.slice A len cp] w fun r w' =>
  r=.returned (.int .i64 1)/\PutR V most n b lr x 1 lr x/\Below w.heap.size w w':=by
 obtain ⟨R,h1,h2,g,rfl,g2,g3⟩:=h.cq
 exact Go.Proofs.YtcepognpbeahhaaGreatDoor.Kc.cPut_len g2 n b hl hb
theorem row_bump {b j:Nat} {bs:Sh.Bs} {bb:Nat} (h:w.ownsRow bb 5 1 (.slice (some ⟨b,0,none⟩) 128 128) 128 (Sh.bts bs)) (hj:j<128):∃z:Nat,w.cell? ⟨b,j,none⟩=some (.int .u8 (z:Int))/\w.frozen? ⟨b,j,none⟩=false:=by
 have hl:(Sh.bts bs).length=128:=by have:=h.1;omega
 have hj2:j<bs.length:=by rw [Sh.bts_length] at hl;omega
 refine ⟨bs[j],Sh.cell_at h ?_,h.frozenAt j⟩
 unfold Sh.bts
 rw [List.getElem?_map,List.getElem?_eq_getElem hj2]
 rfl
theorem Two.bump (h:Two V w c most lr x k xr vs ls hv l ((a,o) :: Q)) (hne:∀z∈Q,z.1≠a) (p:Addr) (hp:p.block=a) (u:Value):∃o',Two V (w.setCell p u) c most lr x k xr vs ls hv l ((a,o') :: Q):=by
 have hw:Sh.Only (fun b=>b=a) w (w.setCell p u):=(Sh.Only.refl (fun b=>b=a) w).setCell (p:=p) (.inl hp) u
 have hlt:a<(w.setCell p u).heap.size:=Nat.lt_of_lt_of_le (lt_of_block h.head) hw.size
 exact ⟨_,h.poke hne hw (Array.getElem?_eq_getElem hlt)⟩
theorem get_err (hg:GetR V most n l x y X lr' x') (hy:y≠0):X=[]:=by
 cases hg with
 | out _=>rfl
 | here _ _ _=>exact absurd rfl hy
 | no _ _ _ _ _ _ _ _ _=>rfl
 | got _ _ _ _ _ _ _ _ _=>exact absurd rfl hy
theorem strL_none:Sh.strL []=⟨#[]⟩:=rfl
def ByA (w:World) (ad:Addr):Prop:=∀j,j<128->∃z:Nat,w.cell? (ad.add j)=some (.int .u8 (z:Int))/\w.frozen? (ad.add j)=false
theorem ByA.poke {ad:Addr} (h:ByA w ad) {j:Nat} (hj:j<128) (z1:Nat):ByA (w.setCell (ad.add j) (.int .u8 (z1:Int))) ad:=fun i hi=>by
 obtain ⟨z,h1,h2⟩:=h i hi
 by_cases e:ad.add i=ad.add j
 ·refine ⟨z1,?_,by rw [World.frozen?_setCell];exact h2⟩
  rw [e]
  obtain ⟨z0,h3,_⟩:=h j hj
  exact World.cell?_setCell_same _ _ _ (by rw [h3])
 ·exact ⟨z,(World.cell?_setCell_other _ _ _ _ (fun q=>e q.symm)).trans h1,by rw [World.frozen?_setCell];exact h2⟩
theorem ByA.of {w0:World} {ad:Addr} (h:Sh.Bytes w0 w (some ad) X) (hb:w'.heap[ad.block]?=w.heap[ad.block]?):ByA w' ad:=fun j hj=>by
 obtain ⟨⟨h1,h2⟩,h3⟩:=h
 obtain ⟨a2,e,_,h4⟩:=h2 (by decide)
 injection e with e
 subst e
 rw [Sh.bts_length] at h1
 have hblk:(ad.add j).block=ad.block:=Sh.block_of_add ad j
 refine ⟨X.getD j 0,(World.cell?_of_block (w:=w) (a:=ad.add j) (by rw [hblk];exact hb)).trans (h4 j _ (Sh.bts_get X j (by omega))),(World.frozen?_of_block (w:=w) (a:=ad.add j) (by rw [hblk];exact hb)).trans ((h3 ad rfl).2 j hj)⟩
theorem Two.swap {p1 p2:Nat × Obj} (h:Two V w c most lr x k xr vs ls hv l (p1 :: p2 :: Q)):Two V w c most lr x k xr vs ls hv l (p2 :: p1 :: Q):=h.sub fun z hz=>by
 simp only [List.mem_cons] at hz ⊢
 rcases hz with q | q | q
 ·exact .inr (.inl q)
 ·exact .inl q
 ·exact .inr (.inr q)
theorem Two.put3 {m bb:Nat} (h:Two V w c most lr x (k+1) xr vs ls hv l ((a,o) :: Q)) (n:Int) (hr:w.ownsRow bb 5 1 (.slice (some ⟨a,0,none⟩) m m) m (Sh.bts (List.replicate m 0))):Calls Tryz.prog 14 #[.pointer (some ⟨c,0,none⟩),.int .i64 n,.slice (some ⟨a,0,none⟩) m m] w fun r w' =>
  ∃(y:Int) (lr':List En) (x':V.σ),r=.returned (.int .i64 y)/\PutR V most n (List.replicate m 0) lr x y lr' x'/\Two V w' c most lr' x' k xr vs ls hv l ((a,o) :: Q):=by
 by_cases hm:m=128
 ·subst hm
  exact h.put2 n Sh.noughts_sec (Sh.Reads.of_own hr)
 ·refine (h.put_len n (List.replicate m 0) hm (by simp)).mono ?_
  rintro r w' ⟨rfl,h1,h2⟩
  exact ⟨1,lr,x,rfl,h1,(h.grown h2).less (Nat.le_succ k)⟩
end
end Go.Proofs.YtcepognpbeahhaaGreatDoor.Rc
