/-
  What the statement's proof rests on, part 41.
  Conditions: each theorem's own.
-/
import Derived.Test.YtepoepmndckmaaaGreatDoorZ40
namespace Go.Proofs.YtepoepmndckmaaaGreatDoor.Kc
open Go.RowKit Go.Maps
structure OffV (V:VolK) (off:V.σ→Bool) (cont:V.σ→Nat→Sh.Bs):Prop where
 rd:∀{x m y X x'},V.rd x m y X x'→(y=0∧off x=false∧X=cont x m∧(∀j,cont x' j=cont x j)∧off x'=false)∨(y=3∧off x'=true)
 wr:∀{x m b y x'},V.wr x m b y x'→(y=0∧off x=false∧(off x'=false→∀j,j<V.n→cont x' j=if j=m then b else cont x j))∨(y=3∧off x'=true)
 fl:∀{x y x'},V.fl x y x'→(y=0∧(off x'=false→off x=false∧∀j,j<V.n→cont x' j=cont x j))∨(y=3∧off x'=true)
structure OffI (V:VolK) (off:V.σ→Bool) (cont:V.σ→Nat→Sh.Bs) (ex:Nat→Prop) (hv:Nat→Sh.Bs) (l:List En) (x:V.σ):Prop where
 dat:∀e∈l,e.d=hv e.k
 pins:∀e∈l,e.pins=0
 lows:∀e∈l,e.k<V.n
 keys:(l.map En.k).Nodup
 cln:off x=false→∀e∈l,e.dirty=false→cont x e.k=e.d
 out:off x=false→∀j,j<V.n→¬ex j→(∀e∈l,e.k≠j)→cont x j=hv j
def No (_:Nat):Prop:=False
section
variable {V:VolK} {off:V.σ→Bool} {cont:V.σ→Nat→Sh.Bs} {hv hv':Nat→Sh.Bs} {ex:Nat→Prop} {most k m:Nat} {l l':List En} {x x':V.σ} {n:Int} {y:Int} {X b:Sh.Bs}
theorem OffI.drop (h:OffI V off cont No hv l x) (k:Nat):OffI V off cont (fun j=>j=k) hv (dropE l k) x :=
 ⟨fun e he=>h.dat e (mem_dropE.1 he).1,fun e he=>h.pins e (mem_dropE.1 he).1,fun e he=>h.lows e (mem_dropE.1 he).1,nodup_drop h.keys _,fun q e he=>h.cln q e (mem_dropE.1 he).1,
  fun q j hj hne hk=>h.out q j hj (fun e=>e) fun e he hek=>(hk e (mem_dropE.2 ⟨he,by rw [hek];exact hne⟩)) hek⟩
theorem OffI.weak (h:OffI V off cont No hv l x):OffI V off cont ex hv l x:=⟨h.dat,h.pins,h.lows,h.keys,h.cln,fun q j hj _ hk=>h.out q j hj (fun e=>e) hk⟩
theorem OffI.snoc {e':En} (h:OffI V off cont (fun j=>j=e'.k) hv l x) (hk:∀e∈l,e.k≠e'.k) (hlow:e'.k<V.n) (hp:e'.pins=0) (hd:e'.d=hv' e'.k) (hs:∀j,j≠e'.k→hv' j=hv j) (hc:off x=false→e'.dirty=false→cont x e'.k=e'.d):OffI V off cont No hv' (l++[e']) x:=by
 refine ⟨fun e he=>?_,fun e he=>?_,fun e he=>?_,nodup_snoc h.keys hk,fun q e he hy=>?_,fun q j hj _ hj2=>?_⟩
 ·rcases List.mem_append.1 he with q | q
  ·rw [hs _ (hk e q)];exact h.dat e q
  ·rw [List.mem_singleton.1 q];exact hd
 ·rcases List.mem_append.1 he with q | q
  ·exact h.pins e q
  ·rw [List.mem_singleton.1 q];exact hp
 ·rcases List.mem_append.1 he with q | q
  ·exact h.lows e q
  ·rw [List.mem_singleton.1 q];exact hlow
 ·rcases List.mem_append.1 he with q2 | q2
  ·exact h.cln q e q2 hy
  ·rw [List.mem_singleton.1 q2] at hy ⊢;exact hc q hy
 ·have hne:j≠e'.k:=fun e=>hj2 e' (List.mem_append_right _ (List.mem_singleton.2 rfl)) e.symm
  rw [hs j hne]
  exact h.out q j hj hne fun e he=>hj2 e (List.mem_append_left _ he)
theorem OffI.gone (h:OffI V off cont ex hv l x) (ho:off x'=true):OffI V off cont ex hv l x':=⟨h.dat,h.pins,h.lows,h.keys,(fun q=>by rw [ho] at q;cases q),(fun q=>by rw [ho] at q;cases q)⟩
theorem OffI.like (h:OffI V off cont ex hv l x) (ho:off x'=false→off x=false∧∀j,j<V.n→cont x' j=cont x j):OffI V off cont ex hv l x' :=
 ⟨h.dat,h.pins,h.lows,h.keys,fun q e he hy=>((ho q).2 _ (h.lows e he)).trans (h.cln (ho q).1 e he hy),fun q j hj hx hk=>((ho q).2 j hj).trans (h.out (ho q).1 j hj hx hk)⟩
theorem OffI.wb (hV:OffV V off cont) (h:OffI V off cont No hv l x) {e e':En} (he:e∈l) (hw:WbR V x e y x' e') :
  (y=0∧e'.k=e.k∧OffI V off cont No hv (putE l e') x'∧(off x'=false→cont x' e.k=e.d)∧OffI V off cont (fun j=>j=e.k) hv (dropE l e.k) x')∨(y=3∧off x'=true∧OffI V off cont No hv l x'):=by
 cases hw with
 | clean hc =>
  have hp:putE l e=l:=by
   unfold putE
   conv=>rhs;rw [← List.map_id l]
   apply List.map_congr_left
   intro z hz
   by_cases q:z.k=e.k
   ·rw [if_pos q];exact (one_of_key h.keys hz he q).symm
   ·rw [if_neg q];rfl
  exact .inl ⟨rfl,rfl,by rw [hp];exact h,fun q=>h.cln q e he hc,h.drop _⟩
 | no _ _ _ hw hne =>
  rcases hV.wr hw with ⟨q,_⟩ | ⟨q,ho⟩
  ·exact absurd q hne
  ·exact .inr ⟨q,ho,h.gone ho⟩
 | done _ _ hw =>
  rcases hV.wr hw with ⟨_,hon,hc⟩ | ⟨q,_⟩
  ·have hoth:off x'=false→∀z∈l,z.k≠e.k→cont x' z.k=cont x z.k:=fun q z hz hne=>by rw [hc q _ (h.lows z hz),if_neg hne]
   have hme:off x'=false→cont x' e.k=e.d:=fun q=>by rw [hc q _ (h.lows e he),if_pos rfl]
   refine .inl ⟨rfl,rfl,⟨fun z hz=>?_,fun z hz=>?_,fun z hz=>?_,by rw [putE_keys];exact h.keys,fun q z hz hy=>?_,fun q j hj _ hk=>?_⟩,hme,⟨fun z hz=>h.dat z (mem_dropE.1 hz).1,fun z hz=>h.pins z (mem_dropE.1 hz).1,fun z hz=>h.lows z (mem_dropE.1 hz).1,nodup_drop h.keys _,fun q z hz hy=>?_,fun q j hj hne hk=>?_⟩⟩
   ·rcases mem_putE hz with q | q
    ·rw [q];exact h.dat e he
    ·exact h.dat z q.1
   ·rcases mem_putE hz with q | q
    ·rw [q];exact h.pins e he
    ·exact h.pins z q.1
   ·rcases mem_putE hz with q | q
    ·rw [q];exact h.lows e he
    ·exact h.lows z q.1
   ·rcases mem_putE hz with q2 | q2
    ·rw [q2];exact hme q
    ·rw [hoth q z q2.1 q2.2];exact h.cln hon z q2.1 hy
   ·have hje:j≠e.k:=fun q2=>hk { e with dirty:=false } (by unfold putE;exact List.mem_map.2 ⟨e,he,if_pos rfl⟩) q2.symm
    rw [hc q j hj,if_neg hje]
    refine h.out hon j hj (fun e=>e) fun z hz q2=>?_
    exact hk z (by unfold putE;exact List.mem_map.2 ⟨z,hz,if_neg (by show z.k≠e.k;rw [q2];exact hje)⟩) q2
   ·rw [hoth q z (mem_dropE.1 hz).1 (mem_dropE.1 hz).2];exact h.cln hon z (mem_dropE.1 hz).1 hy
   ·rw [hc q j hj,if_neg hne]
    exact h.out hon j hj (fun e=>e) fun z hz q2=>hk z (mem_dropE.2 ⟨hz,by rw [q2];exact hne⟩) q2
  ·cases q
theorem OffI.room (hV:OffV V off cont) (h:OffI V off cont No hv l x) (h1:1≤most) (hr:RoomR V most l x y l' x'):((y=0∧OffI V off cont No hv l' x')∨(y=3∧off x'=true∧OffI V off cont No hv l' x'))∧∀e∈l',e∈l:=by
 cases hr with
 | free _=>exact ⟨.inl ⟨rfl,h⟩,fun _ q=>q⟩
 | full hlt hp =>
  have:0<l.length:=by omega
  exact absurd (h.pins _ (List.getElem_mem this)) (hp _ (List.getElem_mem this))
 | no e _ _ _ he _ hw hne =>
  rcases h.wb hV (List.mem_of_getElem? he) hw with ⟨q,_⟩ | q
  ·exact absurd q hne
  ·exact ⟨.inr q,fun _ q=>q⟩
 | left e e' _ _ he _ hw =>
  have hin:=List.mem_of_getElem? he
  rcases h.wb hV hin hw with ⟨_,_,_,hc,hd⟩ | ⟨q,_⟩
  ·refine ⟨.inl ⟨rfl,hd.dat,hd.pins,hd.lows,hd.keys,hd.cln,fun q j hj _ hk=>?_⟩,fun a ha=>(mem_dropE.1 ha).1⟩
   by_cases hje:j=e.k
   ·rw [hje,hc q];exact h.dat e hin
   ·exact hd.out q j hj hje hk
  ·cases q
theorem OffI.keep (hV:OffV V off cont) (h:OffI V off cont No hv l x) (h1:1≤most) (hk:∀e∈l,e.k≠k) (hr:KeepR V most k b l x y l' x') :
  (y=0∧∃l1 p,l'=l1++[⟨k,p,b,false,0⟩]∧OffI V off cont No hv l1 x'∧∀e∈l1,e.k≠k)∨(y=3∧off x'=true∧OffI V off cont No hv l' x'):=by
 cases hr with
 | no _ _ _ hr hne =>
  obtain ⟨⟨q,_⟩ | q,_⟩:=h.room hV h1 hr
  ·exact absurd q hne
  ·exact .inr q
 | kept l1 _ p hr =>
  obtain ⟨⟨_,q⟩ | ⟨q,_⟩,hm⟩:=h.room hV h1 hr
  ·exact .inl ⟨rfl,l1,p,rfl,q,fun e he=>hk e (hm e he)⟩
  ·cases q
theorem finds_last {k p:Nat} {d:Sh.Bs} {e:En} (hk:∀z∈l,z.k≠k) (hf:finds (l++[⟨k,p,d,false,0⟩]) (k:Int)=some e):e=⟨k,p,d,false,0⟩:=by
 rw [finds_snoc hk,if_pos rfl] at hf
 injection hf with hf
 exact hf.symm
theorem OffI.get (hV:OffV V off cont) (h:OffI V off cont No hv l x) (h1:1≤most) (hm:m<V.n) (hr:GetR V most (m:Int) l x y X l' x'):(y=0∧X=hv m∧OffI V off cont No hv l' x')∨(y=3∧off x'=true∧OffI V off cont No hv l' x'):=by
 cases hr with
 | out hno=>exact absurd ⟨by omega,by omega⟩ hno
 | here e _ hf =>
  obtain ⟨he,hek⟩:=finds_some hf
  have hkm:e.k=m:=by omega
  refine .inl ⟨rfl,by rw [h.dat e he,hkm],?_⟩
  unfold useE
  exact (h.drop e.k).snoc (fun z hz=>(mem_dropE.1 hz).2) (h.lows e he) (h.pins e he) (h.dat e he) (fun _ _=>rfl) (fun q hy=>h.cln q e he hy)
 | no k _ _ _ hk _ hf hfe hne =>
  have hkm:k=m:=by omega
  subst hkm
  have hno:∀e∈l,e.k≠k:=fun e he q=>finds_none hf e he (by rw [q])
  cases hfe with
  | no _ _ _ hrd _ =>
   rcases hV.rd hrd with ⟨q,_⟩ | ⟨q,ho⟩
   ·exact absurd q hne
   ·exact .inr ⟨q,ho,h.gone ho⟩
  | got _ x1 _ _ _ hrd hkp =>
   rcases hV.rd hrd with ⟨_,hon,_,hs,ho⟩ | ⟨q,_⟩
   ·rcases (h.like (x':=x1) fun _=>⟨hon,fun j _=>hs j⟩).keep hV h1 hno hkp with ⟨q,_⟩ | q
    ·exact absurd q hne
    ·exact .inr q
   ·cases q
 | got k _ _ e hk hlt hf hfe hfd =>
  have hkm:k=m:=by omega
  subst hkm
  have hno:∀e∈l,e.k≠k:=fun e he q=>finds_none hf e he (by rw [q])
  cases hfe with
  | no _ _ _ _ hne=>exact absurd rfl hne
  | got X x1 _ _ _ hrd hkp =>
   rcases hV.rd hrd with ⟨_,hon,hX,hs,ho⟩ | ⟨q,_⟩
   ·have hX2:X=hv k:=hX.trans (h.out hon k hlt (fun e=>e) hno)
    rcases (h.like (x':=x1) fun _=>⟨hon,fun j _=>hs j⟩).keep hV h1 hno hkp with ⟨_,l1,p,rfl,h2,hk2⟩ | ⟨q,_⟩
    ·have hee:=finds_last hk2 hfd
     subst hee
     refine .inl ⟨rfl,hX2,?_⟩
     rw [use_last hk2 rfl]
     exact h2.weak.snoc (e':=⟨k,p,X,false,0⟩) hk2 hlt rfl hX2 (fun _ _=>rfl) (fun q _=>(h2.out q k hlt (fun e=>e) hk2).trans hX2.symm)
    ·cases q
   ·cases q
def updH (hv:Nat→Sh.Bs) (m:Nat) (b:Sh.Bs):Nat→Sh.Bs:=fun j=>if j=m then b else hv j
theorem OffI.put (hV:OffV V off cont) (h:OffI V off cont No hv l x) (h1:1≤most) (hm:m<V.n) (hb:b.length=128) (hr:PutR V most (m:Int) b l x y l' x'):(y=0∧OffI V off cont No (updH hv m b) l' x')∨(y=3∧off x'=true∧OffI V off cont No hv l' x'):=by
 have hs:∀j,j≠m→updH hv m b j=hv j:=fun j hj=>if_neg hj
 have hme:b=updH hv m b m:=(if_pos rfl).symm
 cases hr with
 | out hno=>exact absurd ⟨⟨by omega,by omega⟩,hb⟩ hno
 | here e _ _ hf =>
  obtain ⟨he,hek⟩:=finds_some hf
  have hkm:e.k=m:=by omega
  refine .inl ⟨rfl,?_⟩
  unfold useE
  exact OffI.snoc (e':={ e with d:=b,dirty:=true }) (h.drop e.k) (fun z hz=>(mem_dropE.1 hz).2) (h.lows e he) (h.pins e he) (by show b=updH hv m b e.k;rw [hkm];exact hme) (fun j hj=>hs j (by rw [← hkm];exact hj)) (fun _ hy=>by cases hy)
 | no k _ _ _ hk _ _ hf hkp hne =>
  have hkm:k=m:=by omega
  subst hkm
  rcases h.keep hV h1 (fun e he q=>finds_none hf e he (by rw [q])) hkp with ⟨q,_⟩ | q
  ·exact absurd q hne
  ·exact .inr q
 | new k _ _ e hk hlt _ hf hkp hfd =>
  have hkm:k=m:=by omega
  subst hkm
  rcases h.keep hV h1 (fun e he q=>finds_none hf e he (by rw [q])) hkp with ⟨_,l1,p,rfl,h2,hk2⟩ | ⟨q,_⟩
  ·have hee:=finds_last hk2 hfd
   subst hee
   refine .inl ⟨rfl,?_⟩
   rw [use_last (e:=⟨k,p,b,false,0⟩) (e':=⟨k,p,b,true,0⟩) hk2 rfl]
   exact OffI.snoc (e':=⟨k,p,b,true,0⟩) h2.weak hk2 hlt rfl hme hs (fun _ hy=>by cases hy)
  ·cases q
theorem OffI.wbs (hV:OffV V off cont) {ks:List Int} (hr:WbsR V ks l x y l' x') (h:OffI V off cont No hv l x):(y=0∧OffI V off cont No hv l' x')∨(y=3∧off x'=true∧OffI V off cont No hv l' x'):=by
 induction hr with
 | nil _ _=>exact .inl ⟨rfl,h⟩
 | no _ _ _ _ e _ _ hf hw hne =>
  rcases h.wb hV (finds_some hf).1 hw with ⟨q,_⟩ | q
  ·exact absurd q hne
  ·exact .inr q
 | next _ _ _ _ e e1 _ _ _ _ hf hw _ ih =>
  rcases h.wb hV (finds_some hf).1 hw with ⟨_,_,q,_⟩ | ⟨q,_⟩
  ·exact ih q
  ·cases q
theorem OffI.flush (hV:OffV V off cont) (h:OffI V off cont No hv l x) (hr:FlushR V l x y l' x'):(y=0∧OffI V off cont No hv l' x')∨(y=3∧off x'=true∧OffI V off cont No hv l' x'):=by
 cases hr with
 | no _ _ _ hr hne =>
  rcases h.wbs hV hr with ⟨q,_⟩ | q
  ·exact absurd q hne
  ·exact .inr q
 | all _ x1 _ _ hr hfl =>
  rcases h.wbs hV hr with ⟨_,q⟩ | ⟨q,_⟩
  ·rcases hV.fl hfl with ⟨q1,q2⟩ | ⟨q1,q2⟩
   ·exact .inl ⟨q1,q.like q2⟩
   ·exact .inr ⟨q1,q2,q.gone q2⟩
  ·cases q
end
end Go.Proofs.YtepoepmndckmaaaGreatDoor.Kc
namespace Go.Proofs.YtepoepmndckmaaaGreatDoor.U
open Go.RowKit Go.Maps
theorem ho_off {J:Vk} {A:Ar} (hG:Giv J A) (hN:A.St*(A.M-1)≤1073741824):Go.Proofs.YtepoepmndckmaaaGreatDoor.Kc.OffV (Ho J A hG hN) (fun x:Rs=>x.S.off) (fun x:Rs=>contR A x) :=
 ⟨fun h=>h.imp id fun e=>⟨e.1,e.2.2⟩,fun h=>h,fun h=>h⟩
end Go.Proofs.YtepoepmndckmaaaGreatDoor.U
namespace Go.Proofs.YtepoepmndckmaaaGreatDoor.Kc
open Go.RowKit Go.Maps
def rowS (l:List ByteArray):Obj:=.cells (l.map Value.string).toArray 9 (0,0)
def rowH (hv:Nat→Sh.Bs):Obj:=rowS ((List.range 12).map fun j=>Sh.strL (hv j))
def rowF (s0:ByteArray) (t:Nat):Obj:=rowS ((List.range 12).map fun j=>if j<t then s0 else ⟨#[]⟩)
section
variable {w:World} {g k:Nat}
theorem rowS_cell {l:List ByteArray} {s:ByteArray} (h:w.heap[g]?=some (rowS l)) (hk:l[k]?=some s):w.cell? ⟨g,k,none⟩=some (.string s):=by
 rw [cell_of_row _ _ k _ _ _ h]
 simp [hk]
theorem rowS_free {l:List ByteArray} (h:w.heap[g]?=some (rowS l)):w.frozen? ⟨g,k,none⟩=false:=frozen_of_row _ _ _ _ _ h
theorem rowS_set {l:List ByteArray} (h:w.heap[g]?=some (rowS l)) (s:ByteArray):(w.setCell ⟨g,k,none⟩ (.string s)).heap[g]?=some (rowS (l.set k s)):=by
 rw [heap_setCell_same _ _ _ _ _ _ h]
 unfold rowS
 congr 2
 apply Array.toList_inj.1
 simp [List.map_set]
theorem range_set {α:Type} (f:Nat→α) (k:Nat) (s:α) (hk:k<12):((List.range 12).map f).set k s=(List.range 12).map fun j=>if j=k then s else f j:=by
 apply List.ext_getElem?
 intro a
 rw [List.getElem?_set]
 by_cases ha:a<12
 ·rw [List.getElem?_map,List.getElem?_map,List.getElem?_range ha]
  by_cases e:k=a
  ·subst e;simp [hk]
  ·rw [if_neg e]
   show some (f a)=some (if a=k then s else f a)
   rw [if_neg (Ne.symm e)]
 ·rw [if_neg (by omega),List.getElem?_eq_none (by simp;omega),List.getElem?_eq_none (by simp;omega)]
theorem rowH_cell {hv:Nat→Sh.Bs} (h:w.heap[g]?=some (rowH hv)) (hk:k<12):w.cell? ⟨g,k,none⟩=some (.string (Sh.strL (hv k))) :=
 rowS_cell h (by rw [List.getElem?_map,List.getElem?_range hk];rfl)
theorem rowH_set {hv:Nat→Sh.Bs} {b:Sh.Bs} {s:ByteArray} (h:w.heap[g]?=some (rowH hv)) (hk:k<12) (hs:Sh.strL b=s):(w.setCell ⟨g,k,none⟩ (.string s)).heap[g]?=some (rowH (updH hv k b)):=by
 rw [rowS_set h,range_set _ _ _ hk]
 unfold rowH
 congr 3
 funext j
 unfold updH
 by_cases e:j=k
 ·rw [if_pos e,if_pos e,hs]
 ·rw [if_neg e,if_neg e]
theorem rowF_set {s0:ByteArray} {t:Nat} (h:w.heap[g]?=some (rowF s0 t)) (ht:t<12):(w.setCell ⟨g,t,none⟩ (.string s0)).heap[g]?=some (rowF s0 (t+1)):=by
 rw [rowS_set h,range_set _ _ _ ht]
 unfold rowF
 congr 3
 funext j
 by_cases e:j=t
 ·rw [if_pos e,if_pos (by omega)]
 ·rw [if_neg e]
  by_cases e2:j<t
  ·rw [if_pos e2,if_pos (by omega)]
  ·rw [if_neg e2,if_neg (by omega)]
theorem rowF_cell {s0:ByteArray} {t:Nat} (h:w.heap[g]?=some (rowF s0 t)) (ht:t<12):w.cell? ⟨g,t,none⟩=some (.string ⟨#[]⟩) :=
 rowS_cell h (by rw [List.getElem?_map,List.getElem?_range ht];simp)
theorem rowF_end {s0:ByteArray} (hs:Sh.strL Sh.noughts=s0):rowF s0 12=rowH fun _=>Sh.noughts:=by
 unfold rowF rowH
 congr 1
 apply List.map_congr_left
 intro j hj
 rw [if_pos (List.mem_range.1 hj),hs]
theorem rowF_zero (s0:ByteArray):rowF s0 0=.cells #[.string ⟨#[]⟩,.string ⟨#[]⟩,.string ⟨#[]⟩,.string ⟨#[]⟩,.string ⟨#[]⟩,.string ⟨#[]⟩,.string ⟨#[]⟩,.string ⟨#[]⟩,.string ⟨#[]⟩,.string ⟨#[]⟩,.string ⟨#[]⟩,.string ⟨#[]⟩] 9 (0,0):=rfl
end
end Go.Proofs.YtepoepmndckmaaaGreatDoor.Kc
namespace Go.Proofs.YtepoepmndckmaaaGreatDoor.U
open Go.RowKit Go.Maps
theorem wpList_make128 {ops:Array Oper} {rest:List Oper} {o:Oper} {a:Act} {w:World} {Q:Exit→Act→World→Prop} (hgd:o.guard=none) (l c:Operand) (hop:o.op=Op.makeSlice 40 l c) (hl:a.eval l=.int .i64 128) (hc:a.eval c=.int .i64 128)
  (hK:∀w',w'.ownsRow w.heap.size 5 1 (.slice (some ⟨w.heap.size,0,none⟩) 128 128) 128 (Sh.bts Sh.noughts)→Below w.heap.size w w'→wpList Tryz.prog ops Q rest (a.put o.dst (.slice (some ⟨w.heap.size,0,none⟩) 128 128)) w'):wpList Tryz.prog ops Q (o :: rest) a w :=
 wpList_plain hgd fun _ hK'=>wp_make128 l c hop hl hc fun w' h1 h2=>hK' _ _ (hK w' h1 h2)
end Go.Proofs.YtepoepmndckmaaaGreatDoor.U
