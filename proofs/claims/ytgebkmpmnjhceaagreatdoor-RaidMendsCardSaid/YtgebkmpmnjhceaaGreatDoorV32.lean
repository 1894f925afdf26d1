/-
  What the statement's proof rests on, part 32.
  Conditions: each theorem's own.
-/
import Derived.Test.YtgebkmpmnjhceaaGreatDoorV31
import Derived.Test.YtgebkmpmnjhceaaGreatDoorCards
import Derived.Test.YtgebkmpmnjhceaaGreatDoorTie
import Derived.ProofKit
import Derived.OpenShut
import Derived.ChangeOld
import Derived.ChangeSlices
import Derived.SizedLaws
import Derived.Deep.DeepHandedRow
import Derived.Lib.LaidTab
import Derived.Test.YtgebkmpmnjhceaaGreatDoorV30
import Derived.Test.YtgebkmpmnjhceaaGreatDoorV26
import Derived.Test.YtgebkmpmnjhceaaGreatDoorV17
open Go.Lib (hid)
open Go.Proofs.YtgebkmpmnjhceaaGreatDoor.S renaming Sup → SuP
namespace Go.Proofs.YtgebkmpmnjhceaaGreatDoor.U
open Go.ChangeShapes Go.WideShapes Go.ChangeAt Go.RowKit
theorem own:ownKnob Tryz.prog.godebug=none:=by kernel_rfl
theorem laidOut:laidOutB Tryz.prog=true:=by kernel_rfl
theorem gLow : Tryz.prog.globalNamed "ashlar/octets.lowRests" = some 0 := by kernel_rfl
theorem gHigh : Tryz.prog.globalNamed "ashlar/octets.highRests" = some 1 := by kernel_rfl
theorem gFld : Tryz.prog.globalNamed "ashlar/ppl.fields" = some 3 := by kernel_rfl
theorem gWid : Tryz.prog.globalNamed "ashlar/super.widths" = some 2 := by kernel_rfl
theorem gPla : Tryz.prog.globalNamed "ashlar/lay.places" = some 4 := by kernel_rfl
theorem gPlaType:(Tryz.prog.globals[4]?).map (·.type)=some 220:=by kernel_rfl
theorem cells16i:Tryz.prog.cellsOf 220=16:=by kernel_rfl
theorem gWidType:(Tryz.prog.globals[2]?).map (·.type)=some 208:=by kernel_rfl
theorem gLowType:(Tryz.prog.globals[0]?).map (·.type)=some 200:=by kernel_rfl
theorem gHighType:(Tryz.prog.globals[1]?).map (·.type)=some 200:=by kernel_rfl
theorem gFldType:(Tryz.prog.globals[3]?).map (·.type)=some 215:=by kernel_rfl
theorem cells16:Tryz.prog.cellsOf 200=16:=by kernel_rfl
theorem cellsU32:Tryz.prog.cellsOf 151=1:=by kernel_rfl
theorem cellsInt:Tryz.prog.cellsOf 3=1:=by kernel_rfl
theorem cells8:Tryz.prog.cellsOf 208=8:=by kernel_rfl
theorem cellsFld:Tryz.prog.cellsOf 214=2:=by kernel_rfl
theorem cellsFlds:Tryz.prog.cellsOf 215=6:=by kernel_rfl
def widZ:List Int:=[8,1,1,1,1,4,4,4]
def plaZ:List Int:=[-1,0,1,2,3,4,5,6,7,8,9,10,11,12,13,14]
abbrev laidBoth : List (String × DataW Unit) := [("ashlar/lay.places", Rows.laid_ashlar_lay_places), ("ashlar/octets.lowRests", Rows.laid_ashlar_octets_lowRests), ("ashlar/octets.highRests", Rows.laid_ashlar_octets_highRests), ("ashlar/ppl.fields", Rows.laid_ashlar_ppl_fields), ("ashlar/super.widths", Rows.laid_ashlar_super_widths)]
structure All (w:World):Prop where
 tabs:Tabs w
 fld:Flds w
 wid:Go.Proofs.YtgebkmpmnjhceaaGreatDoor.S.Wid w
 lay:Go.Proofs.YtgebkmpmnjhceaaGreatDoor.L.Tab w
theorem All.over {w w':World} (h:All w) (hb:Below w.heap.size w w'):All w':=⟨h.tabs.below h.tabs.size hb,h.fld.below h.fld.size hb,h.wid.below h.wid.size hb,h.lay.below h.lay.size hb⟩
section
variable {H:Type} {enc:TypeId × Value->H} {w:World} {base:Nat} {sp:Nat->Bool} {held:Bool}
theorem lit_of {fuel:Nat} {t:TypeId} {k:IntKind} {v:Value} {z:Int} {y:DataW H × List MemPlace} (ht:Tryz.prog.underlying t=some (.int k)) (h:DataW.trod enc Tryz.prog w base sp held fuel t [v]=some y) (hy:y.1=.lit (.int k z)):v=.int k z:=by
 obtain ⟨z',hc,hd,_⟩:=DataW.trod_int ht h
 simp only [List.cons.injEq,and_true] at hc
 subst hc
 rw [hd] at hy
 simp only [DataW.lit.injEq,Lit.int.injEq,true_and] at hy
 rw [hy]
set_option maxRecDepth 20000 in
theorem fld_val {fuel:Nat} {cs:List Value} {y:DataW H × List MemPlace} {x z:Int} (hl:cs.length=2) (h:DataW.trod enc Tryz.prog w base sp held fuel 214 cs=some y) (hy:y.1=.agg [.lit (.int .i64 x),.lit (.int .u64 z)]):cs=[.int .i64 x,.int .u64 z]:=by
 obtain ⟨xs,k,rfl,rfl,_,hxs,hf⟩:=DataW.trod_struct Tryz.underlying214 h
 match cs,hl with
 | [v0,v1],_ =>
  have hs:xs.length=2:=hxs
  have f0:=hf 0 _ rfl
  have f1:=hf 1 _ rfl
  match xs,hs with
  | [z0,z1],_ =>
   simp only [List.map_cons,List.map_nil,DataW.agg.injEq,List.cons.injEq,and_true] at hy
   have e0:=lit_of (v:=v0) Tryz.underlying3 (show DataW.trod enc Tryz.prog w base sp held k 3 [v0]=some z0 from f0) hy.1
   have e1:=lit_of (v:=v1) Tryz.underlying173 (show DataW.trod enc Tryz.prog w base sp held k 173 [v1]=some z1 from f1) hy.2
   rw [e0,e1]
set_option maxRecDepth 20000 in
theorem flds_val {fuel:Nat} {cs:List Value} {p:List MemPlace} (h:DataW.trod enc Tryz.prog w base sp held fuel 215 cs=some (Rows.laid_ashlar_ppl_fields,p)) :
  cs=[.int .i64 4,.int .u64 1024,.int .i64 8,.int .u64 15,.int .i64 12,.int .u64 4294967296]:=by
 cases fuel with
 | zero=>simp [DataW.trod] at h
 | succ fuel =>
  simp only [DataW.trod,Tryz.underlying215,cellsFld,cellsFlds] at h
  split at h
  ·rename_i hl
   obtain ⟨xs,hm,hx⟩:=Option.map_eq_some_iff.1 h
   have hxs:xs.map (·.1)=[.agg [.lit (.int .i64 4),.lit (.int .u64 1024)],.agg [.lit (.int .i64 8),.lit (.int .u64 15)],.agg [.lit (.int .i64 12),.lit (.int .u64 4294967296)]]:=by
    have:=congrArg Prod.fst hx
    simpa [Rows.laid_ashlar_ppl_fields] using this
   have hl6:cs.length=6:=by simpa using hl
   have hxl:xs.length=3:=by simpa using Lib.mapM_length hm
   have key:∀i x z,i<3->(xs.map (·.1))[i]?=some (.agg [.lit (.int .i64 x),.lit (.int .u64 z)])->(cs.drop (i*2)).take 2=[.int .i64 x,.int .u64 z]:=by
    intro i x z hi he
    obtain ⟨y,hy,hf⟩:=Lib.mapM_at hm i i (by simp [hi])
    refine fld_val (by simp;omega) hf ?_
    rw [List.getElem?_map,hy] at he
    simpa using he
   have k0:=key 0 4 1024 (by decide) (by rw [hxs];rfl)
   have k1:=key 1 8 15 (by decide) (by rw [hxs];rfl)
   have k2:=key 2 12 4294967296 (by decide) (by rw [hxs];rfl)
   match cs,hl6,k0,k1,k2 with
   | [v0,v1,v2,v3,v4,v5],_,k0,k1,k2 =>
    have k0:[v0,v1]=_:=k0
    have k1:[v2,v3]=_:=k1
    have k2:[v4,v5]=_:=k2
    simp only [List.cons.injEq,and_true] at k0 k1 k2
    rw [k0.1,k0.2,k1.1,k1.2,k2.1,k2.2]
  ·cases h
end
theorem tabs_of_laid {W:World} (h:laidMetH Tryz.prog laidBoth W):All W:=by
 rw [MakeChecks.laidMetH_plain _ _ _ (by kernel_rfl)] at h
 obtain ⟨ps,⟨g9,t9,cs9,f9,p9,q9,hg9,ht9,hv9,hd9,⟨g0,t0,cs0,f0,p0,q0,hg0,ht0,hv0,hd0,⟨g1,t1,cs1,f1,p1,q1,hg1,ht1,hv1,hd1,⟨g2,t2,cs2,f2,p2,q2,hg2,ht2,hv2,hd2,⟨g3,t3,cs3,f3,p3,q3,hg3,ht3,hv3,hd3,_,_⟩,_⟩,_⟩,_⟩,_⟩,_,_⟩:=h
 obtain rfl:=Option.some.inj (gLow.symm.trans hg0)
 obtain rfl:=Option.some.inj (gHigh.symm.trans hg1)
 obtain rfl:=Option.some.inj (gFld.symm.trans hg2)
 obtain rfl:=Option.some.inj (gWid.symm.trans hg3)
 obtain rfl:=Option.some.inj (gWidType.symm.trans ht3)
 obtain rfl:=Option.some.inj (gPla.symm.trans hg9)
 obtain rfl:=Option.some.inj (gPlaType.symm.trans ht9)
 obtain rfl:=Option.some.inj (gLowType.symm.trans ht0)
 obtain rfl:=Option.some.inj (gHighType.symm.trans ht1)
 obtain rfl:=Option.some.inj (gFldType.symm.trans ht2)
 have e0:cs0.toList=(Nums.lowT.map fun (x:Nat)=>(x:Int)).map fun z=>Value.int .u32 z:=Lib.cells_of_tab Tryz.underlying200 Tryz.underlying151 cellsU32 cells16 hd0
 have e1:cs1.toList=(Nums.highT.map fun (x:Nat)=>(x:Int)).map fun z=>Value.int .u32 z:=Lib.cells_of_tab Tryz.underlying200 Tryz.underlying151 cellsU32 cells16 hd1
 have e2:=flds_val hd2
 have e3:cs3.toList=widZ.map fun z=>Value.int .i64 z:=Lib.cells_of_tab Tryz.underlying208 Tryz.underlying3 cellsInt cells8 hd3
 have e9:cs9.toList=plaZ.map fun z=>Value.int .i64 z:=Lib.cells_of_tab Tryz.underlying220 Tryz.underlying3 cellsInt cells16i hd9
 have low9:∀i:Fin 16,plaZ[i.val]?=some ((i.val:Int)-1):=by decide
 have wid0:∀i:Fin 8,widZ[i.val]?=some (((Go.Proofs.YtgebkmpmnjhceaaGreatDoor.S.widL.getD i.val 0:Nat):Int)):=by decide
 have low:∀i:Fin 16,((Nums.lowT.map fun (x:Nat)=>(x:Int)).map fun z=>Value.int .u32 z)[i.val]?=some (.int .u32 ((Nums.low i.val:Nat):Int)):=by
  intro i
  have:i.val<Nums.lowT.length:=i.isLt
  simp [Nums.low,List.getD,List.getElem?_eq_getElem this]
 have high:∀i:Fin 16,((Nums.highT.map fun (x:Nat)=>(x:Int)).map fun z=>Value.int .u32 z)[i.val]?=some (.int .u32 ((Nums.high i.val:Nat):Int)):=by
  intro i
  have:i.val<Nums.highT.length:=i.isLt
  simp [Nums.high,List.getD,List.getElem?_eq_getElem this]
 refine ⟨⟨fun i hi=>?_,fun i hi=>?_⟩,⟨fun i hi=>?_,fun i hi=>?_⟩,fun i hi=>?_,fun i hi=>?_⟩
 ·have h1:=World.var?_cell hg0 hv0 i
  have h2:=low ⟨i,hi⟩
  rw [<- e0] at h2
  rw [h1]
  simpa using h2
 ·have h1:=World.var?_cell hg1 hv1 i
  have h2:=high ⟨i,hi⟩
  rw [<- e1] at h2
  rw [h1]
  simpa using h2
 ·rw [World.var?_cell hg2 hv2 (i*2)]
  have h2:cs2.toList[i*2]?=some (.int .i64 ((4+i*4:Nat):Int)):=by
   rw [e2]
   obtain rfl | rfl | rfl:i=0\/i=1\/i=2:=by omega
   all_goals rfl
  simpa using h2
 ·rw [World.var?_cell hg2 hv2 (i*2+1)]
  have h2:cs2.toList[i*2+1]?=some (.int .u64 ((cntL.getD i 0:Nat):Int)):=by
   rw [e2]
   obtain rfl | rfl | rfl:i=0\/i=1\/i=2:=by omega
   all_goals rfl
  simpa using h2
 ·have h1:=World.var?_cell hg3 hv3 i
  have h2:(widZ.map fun z=>Value.int .i64 z)[i]?=some (.int .i64 ((Go.Proofs.YtgebkmpmnjhceaaGreatDoor.S.widL.getD i 0:Nat):Int)):=by rw [List.getElem?_map,wid0 ⟨i,hi⟩];rfl
  rw [<- e3] at h2
  rw [h1]
  simpa using h2
 ·have h1:=World.var?_cell hg9 hv9 i
  have h2:(plaZ.map fun z=>Value.int .i64 z)[i]?=some (.int .i64 ((i:Int)-1)):=by rw [List.getElem?_map,low9 ⟨i,hi⟩];rfl
  rw [<- e9] at h2
  rw [h1]
  simpa using h2
def withCells (l:List Nat):Obj->Obj
 | .cells _ t frozen=>.cells (l.map fun (x:Nat)=>Value.int .u32 (x:Int)).toArray t frozen
 | o=>o
def withFlds:Obj->Obj
 | .cells _ t frozen=>.cells #[.int .i64 4,.int .u64 1024,.int .i64 8,.int .u64 15,.int .i64 12,.int .u64 4294967296] t frozen
 | o=>o
def withI (l:List Int):Obj->Obj
 | .cells _ t frozen=>.cells (l.map fun (x:Int)=>Value.int .i64 x).toArray t frozen
 | o=>o
noncomputable def laidWorld (os:Os):World :=
 { World.holding Tryz.prog os ⟨#[],#[],[]⟩ with heap:=(((((World.holding Tryz.prog os ⟨#[],#[],[]⟩).heap.modify 0 (withCells Nums.lowT)).modify 1 (withCells Nums.highT)).modify 3 withFlds).modify 2 (withI widZ)).modify 4 (withI plaZ) }
open Go.Maps
section
variable {B:Nat} {W w w':World} {g a p d n:Nat} {o:Int} {S S':Sh.Sf} {F:Nat->Prop}
end
section
variable {J:Vk} {w w':World} {s:SuP} {o:Nat->Int} {S:Sh.Sf} {F:Nat->Prop} {D U:Set0} {M St:Nat}
end
section
variable {J:Vk} {w w':World} {s:SuP} {o:Nat->Int} {S:Sh.Sf} {F:Nat->Prop} {D U:Set0} {M St:Nat}
end
section
variable {J:Vk} {w w':World} {s:SuP} {o:Nat->Int} {S:Sh.Sf} {F:Nat->Prop} {D U:Set0} {M St:Nat}
theorem only_vr {r:Nat} (h:Vr J w s o S F D U) (ho:Sh.Only (fun b=>b=r) w w') (hn:¬AllV J F r) (hB:J.B<=r) (hg:∀i,i<J.n->J.gn i≠r):Vr J w' s o S F D U:=by
 have hk:∀b,b<w.heap.size->b≠r->w'.heap[b]?=w.heap[b]?:=fun b hb hx=>ho.block b hb hx
 have hx:∀b,AllV J F b->b≠r:=fun b hb e=>hn (e▸hb)
 have hbel:Below J.B J.W w':=h.bel.trans (ho.below (fun b e=>by rw [e];exact hB) h.size)
 exact ⟨⟨⟨⟨h.vo.ds.on.shelf.only ho (fun b hb e=>hx b (.inl (.inl hb)) e),h.vo.ds.on.low,hbel,Nat.le_trans h.size ho.size⟩,fun i hi=>(h.vo.ds.dev i hi).same (hk _ (h.vo.ds.dev i hi).lt (hx _ (.inl (.inr ⟨i,hi,rfl⟩)))),h.vo.ds.apart,h.vo.ds.inj,h.vo.ds.low⟩,h.vo.vol.kept (hk _ h.vo.vol.vlt (hx _ (.inr (.inl rfl)))) (hk _ h.vo.vol.tlt (hx _ (.inr (.inr (.inl rfl))))),h.vo.apart,h.vo.low,⟨Nat.lt_of_lt_of_le h.vo.lt.1 ho.size,Nat.lt_of_lt_of_le h.vo.lt.2 ho.size⟩⟩,⟨fun i hi=>(h.logs.log i hi).same (hk _ (h.logs.log i hi).lt (hg i hi)),h.logs.apart,h.logs.low⟩,h.ne,set_same h.opens (hk _ h.vo.lt.1 (hx _ (.inr (.inr (.inr (.inl rfl)))))),set_same h.used (hk _ h.vo.lt.2 (hx _ (.inr (.inr (.inr (.inr rfl))))))⟩
end
structure Iv (w:World) (g n c:Nat) (l:List Value):Prop where
 len:l.length=n
 le:n<=c
 lt:g<w.heap.size
 there:∀j,j<c->(w.cell? ⟨g,j,none⟩).isSome=true
 free:∀j,j<c->w.frozen? ⟨g,j,none⟩=false
 at_:∀j,j<n->w.cell? ⟨g,j,none⟩=l[j]?
def OIv (w:World) (s:Value) (n:Nat) (l:List Value):Prop:=(s=.slice none 0 0/\n=0/\l=[])\/∃g c,s=.slice (some ⟨g,0,none⟩) n c/\Iv w g n c l
theorem zero_cells_I (z:Value) (k i:Nat) (h:i<k):∃u,(Builtin.zeroCells #[z] k)[i]?=some u:=⟨_,Array.getElem?_eq_getElem (by simp [Builtin.zeroCells];exact h)⟩
set_option maxRecDepth 20000 in
theorem run_append_iv (ty:TypeId) {w:World} {s:Value} {n cc:Nat} {l:List Value} (h:OIv w s n l) {ad:Addr} {x:Value} (hx:w.cell? ad=some x) (h1:x.oneCell'=true) (hn:n<=100000) :
  ∃g' c' w',(Builtin.append_ #[24,24] ty #[s,.slice (some ad) 1 cc]).run Tryz.prog w=.ok (.slice (some ⟨g',0,none⟩) (n+1) c') w'/\Iv w' g' (n+1) c' (l++[x])/\((∃c,s=.slice (some ⟨g',0,none⟩) n c/\w.grownBy w' (some g'))\/(g'=w.heap.size/\Below w.heap.size w w')):=by
 obtain ⟨i,hi,hz,hsz,hby⟩:=info_parts L.info_int
 have hadd:ad.add 0=ad:=by unfold Addr.add;simp
 have hs:Src Tryz.prog i.size 24 (.slice (some ad) 1 cc) 1 [x] w:=by
  rw [hsz]
  refine Src.ofSlice w Tryz.underlying24 ad 1 cc _ rfl (fun j u hu=>?_) (fun u hu=>by simp at hu;subst hu;exact h1)
  match j,hu with
  | 0,hu=>rw [hadd,hx];exact hu
 have grow:∀(A0:Option Addr) (cp:Nat),n<=cp->¬n+1<=cp->l.length=n->(Builtin.firstCells i.size n (.slice A0 n cp)).run Tryz.prog w.drew=.ok l.toArray w.drew ->
   ∃g' c' w',(Builtin.append_ #[24,24] ty #[.slice A0 n cp,.slice (some ad) 1 cc]).run Tryz.prog w=.ok (.slice (some ⟨g',0,none⟩) (n+1) c') w'/\Iv w' g' (n+1) c' (l++[x])/\(g'=w.heap.size/\Below w.heap.size w w'):=by
  intro A0 cp h1' h2 hl hold
  obtain rfl:cp=n:=by omega
  have hg:=grownCap_ge w (cp+1) cp 3
  refine ⟨w.heap.size,_,_,run_append_grow_src w _ _ ty _ i _ Tryz.underlying24 hi hz A0 cp cp l hold _ 1 _ hs (by omega) (by omega) (by rw [hby];have:=nextslicecap_le (need:=cp+1) (old:=cp) (by omega);omega),?_,rfl,?_⟩
  ·generalize hG:grownCap w (cp+1) cp 3=G at *
   have hrow:(w.drew.alloc (.cells ((l++[x]).toArray++Builtin.zeroCells (Value.int .i64 0).cells (G-(cp+1))) 3)).heap[w.heap.size]?=_:=heap_alloc_new w.drew _
   have hlen:(l++[x]).toArray.size=cp+1:=by simp [hl]
   refine ⟨by simp [hl],hg,by simp,fun j hj=>?_,fun j _=>frozen_of_row _ _ _ _ _ hrow,fun j hj=>?_⟩
   ·rw [cell_of_row _ _ j _ _ _ hrow]
    by_cases hjc:j<cp+1
    ·rw [Array.getElem?_append_left (by rw [hlen];exact hjc),List.getElem?_toArray,List.getElem?_eq_getElem (by simp [hl];omega)];rfl
    ·rw [Array.getElem?_append_right (by rw [hlen];omega),hlen]
     obtain ⟨u,hu⟩:=zero_cells_I (.int .i64 0) (G-(cp+1)) (j-(cp+1)) (by omega)
     exact (congrArg Option.isSome hu).trans rfl
   ·rw [cell_of_row _ _ j _ _ _ hrow,Array.getElem?_append_left (by rw [hlen];exact hj),List.getElem?_toArray]
  ·exact (Below.refl _ _).drew.alloc (Nat.le_refl _) _
 rcases h with ⟨rfl,rfl,rfl⟩ | ⟨g,c,rfl,h⟩
 ·obtain ⟨g',c',w',h1,h2,h3⟩:=grow none 0 (Nat.le_refl _) (by omega) rfl (by rw [hsz];exact run_firstCells_none w.drew 1 0 0 0)
  exact ⟨g',c',w',h1,h2,.inr h3⟩
 ·by_cases hr:n+1<=c
  ·refine ⟨g,c,_,run_append_room_src w _ _ ty _ i Tryz.underlying24 hi g 0 n c _ 1 _ hs hr (fun j hj=>?_) (fun j hj=>?_),?_,.inl ⟨c,rfl,?_⟩⟩
   ·rw [hsz]
    obtain rfl:j=0:=by simpa using hj
    simp only [Nat.mul_one,Nat.zero_add,Nat.add_zero];exact h.there n (by omega)
   ·rw [hsz]
    obtain rfl:j=0:=by simpa using hj
    simp only [Nat.mul_one,Nat.zero_add,Nat.add_zero];exact h.free n (by omega)
   ·rw [hsz]
    have hin:∀j,j<([x]).length->(w.cell? ⟨g,0+n*1+j,none⟩).isSome=true:=fun j hj=>by
     obtain rfl:j=0:=by simpa using hj
     simp only [Nat.mul_one,Nat.zero_add,Nat.add_zero];exact h.there n (by omega)
    refine ⟨by simp [h.len],hr,?_,fun j hj=>World.isSome_setCells _ _ _ _ _ (h.there j hj),fun j hj=>by rw [World.frozen?_setCells];exact h.free j hj,fun j hj=>?_⟩
    ·exact World.block_lt_of_cell? (w.setCells g (0+n*1) [x]) _ (World.cell?_setCells_in g _ _ w hin 0 (by simp))
    ·by_cases e:j=n
     ·subst e
      have:=World.cell?_setCells_in g _ _ w hin 0 (by simp)
      simp only [Nat.mul_one,Nat.zero_add,Nat.add_zero] at this ⊢
      rw [this,<- h.len]
      simp
     ·rw [World.cell?_setCells_out g _ _ w _ (fun _ _=>.inl (by show j<0+n*1;omega)),h.at_ j (by omega),List.getElem?_append_left (by rw [h.len];omega)]
   ·rw [hsz]
    show w.grownBy (w.setCell ⟨g,0+n*1,none⟩ x) (some g)
    have hO:Sh.Only (fun b=>b=g) w (w.setCell ⟨g,0+n*1,none⟩ x):=(Sh.Only.refl (fun b=>b=g) w).setCell (p:=⟨g,0+n*1,none⟩) (.inl rfl) _
    exact ⟨hO.os,hO.tape,hO.output,hO.size,fun k _ hk=>Sh.heap_set_other w ⟨g,0+n*1,none⟩ _ (fun e=>hk (by rw [e]))⟩
  ·have hold:(Builtin.firstCells i.size n (.slice (some ⟨g,0,none⟩) n c)).run Tryz.prog w.drew=.ok l.toArray w.drew:=by
    rw [hsz]
    refine run_firstCells_some w.drew 1 n ⟨g,0,none⟩ n c l (by rw [h.len,Nat.mul_one]) (fun j v hv=>?_)
    have hj:j<l.length:=by
     rcases Nat.lt_or_ge j l.length with h | h
     ·exact h
     ·rw [List.getElem?_eq_none h] at hv;cases hv
    rw [Addr.add_mid,Nat.zero_add]
    exact (h.at_ j (by rw [<- h.len];exact hj)).trans hv
   obtain ⟨g',c',w',h1,h2,h3⟩:=grow (some ⟨g,0,none⟩) c h.le hr h.len hold
   exact ⟨g',c',w',h1,h2,.inr h3⟩
theorem wp_append_iv {o:Oper} {a:Act} {w:World} {K:Act->World->Prop} {Q:Exit->Act->World->Prop} (so x:Operand)
  (ho:o.op=.call { callee:=.builtin .append,args:=#[so,x],argTypes:=#[24,24] })
  {s v:Value} {n cc:Nat} {l:List Value} {ad:Addr} (hs:a.eval so=s) (hx:a.eval x=.slice (some ad) 1 cc) (h:OIv w s n l) (hb:w.cell? ad=some v) (h1:v.oneCell'=true) (hn:n<=100000)
  (hk:∀g' c' w',Iv w' g' (n+1) c' (l++[v])->((∃c,s=.slice (some ⟨g',0,none⟩) n c/\w.grownBy w' (some g'))\/(g'=w.heap.size/\Below w.heap.size w w'))->K (a.put o.dst (.slice (some ⟨g',0,none⟩) (n+1) c')) w'):Oper.wp Tryz.prog o a w K Q:=by
 obtain ⟨g',c',w',hr,h2,h3⟩:=run_append_iv (cc:=cc) o.type h hb h1 hn
 unfold Oper.wp execOp
 simp only [ho,resolve,invoke,builtin,Sem.run_bind,Sem.run_pure,Result.andThen_ok,List.map_toArray,List.map_cons,List.map_nil,hs,hx,hr]
 exact hk g' c' w' h2 h3
theorem wpList_append_iv {ops:Array Oper} {rest:List Oper} {o:Oper} {a:Act} {Q:Exit->Act->World->Prop} {w:World} (hgd:o.guard=none) (so x:Operand)
  (ho:o.op=.call { callee:=.builtin .append,args:=#[so,x],argTypes:=#[24,24] })
  {s v:Value} {n cc:Nat} {l:List Value} {ad:Addr} (hs:a.eval so=s) (hx:a.eval x=.slice (some ad) 1 cc) (h:OIv w s n l) (hb:w.cell? ad=some v) (h1:v.oneCell'=true) (hn:n<=100000)
  (hk:∀g' c' w',Iv w' g' (n+1) c' (l++[v])->((∃c,s=.slice (some ⟨g',0,none⟩) n c/\w.grownBy w' (some g'))\/(g'=w.heap.size/\Below w.heap.size w w'))->wpList Tryz.prog ops Q rest (a.put o.dst (.slice (some ⟨g',0,none⟩) (n+1) c')) w'):wpList Tryz.prog ops Q (o :: rest) a w :=
 wpList_plain hgd fun _ hK=>wp_append_iv so x ho hs hx h hb h1 hn fun g' c' w' h2 h3=>hK _ _ (hk g' c' w' h2 h3)
theorem Iv.same {w w':World} {g n c:Nat} {l:List Value} (h:Iv w g n c l) (hq:w'.heap[g]?=w.heap[g]?) (hs:w.heap.size<=w'.heap.size):Iv w' g n c l :=
 ⟨h.len,h.le,Nat.lt_of_lt_of_le h.lt hs,fun j hj=>by rw [World.cell?_of_block (w:=w) hq];exact h.there j hj,fun j hj=>by rw [World.frozen?_of_block (w:=w) hq];exact h.free j hj,fun j hj=>by rw [World.cell?_of_block (w:=w) hq];exact h.at_ j hj⟩
theorem OIv.kept {w w':World} {s:Value} {n:Nat} {l:List Value} (h:OIv w s n l) (hq:∀g c,s=.slice (some ⟨g,0,none⟩) n c->g<w.heap.size->w'.heap[g]?=w.heap[g]?) (hs:w.heap.size<=w'.heap.size):OIv w' s n l:=by
 rcases h with h | ⟨g,c,e,h⟩
 ·exact .inl h
 ·exact .inr ⟨g,c,e,h.same (hq g c e h.lt) hs⟩
theorem OIv.lt {w:World} {s:Value} {n:Nat} {l:List Value} (h:OIv w s n l) {g n' c:Nat} (e:s=.slice (some ⟨g,0,none⟩) n' c):g<w.heap.size:=by
 rcases h with ⟨rfl,_⟩ | ⟨g',c',e',h⟩
 ·cases e
 ·rw [e'] at e
  injection e with e1
  injection e1 with e1
  injection e1 with e1
  rw [<- e1];exact h.lt
structure Mdl where
 S:Sh.Sf
 x:Sh.Bs
 bad:List Nat
 dead:List Nat
 y:Int
def mdl (s:SuP) (M k st:Nat) (S:Sh.Sf):Nat->Mdl
 | 0=>⟨S,Sh.noughts,[],[],0⟩
 | j+1 =>
  let r:=mdl s M k st S j
  if r.y≠0 then r
  else if rdY r.S (numOf s M st j) k=0 then ⟨Looked r.S (numOf s M st j),xorL r.x (V r.S (numOf s M st j) (dataOf k)),r.bad,r.dead,0⟩
  else if rdY r.S (numOf s M st j) k=5 then ⟨Looked r.S (numOf s M st j),r.x,r.bad++[j],r.dead,0⟩
  else if rdY r.S (numOf s M st j) k=4 then ⟨Looked r.S (numOf s M st j),r.x,r.bad,r.dead++[j],0⟩
  else ⟨Looked r.S (numOf s M st j),r.x,r.bad,r.dead,rdY r.S (numOf s M st j) k⟩
section
variable {s:SuP} {M k st:Nat} {S:Sh.Sf}
theorem mdl_stop {j n:Nat} (h:(mdl s M k st S j).y≠0) (hj:j<=n):mdl s M k st S n=mdl s M k st S j:=by
 induction n with
 | zero =>
      obtain rfl:j=0:=by omega
      rfl
 | succ n ih =>
  by_cases e:j=n+1
  ·rw [e]
  ·have:=ih (by omega)
   show (if (mdl s M k st S n).y≠0 then mdl s M k st S n else _)=_
   rw [if_pos (by rw [this];exact h)]
   exact this
theorem mdl_succ {j:Nat} (h:(mdl s M k st S j).y=0):mdl s M k st S (j+1) =
  if rdY (mdl s M k st S j).S (numOf s M st j) k=0 then ⟨Looked (mdl s M k st S j).S (numOf s M st j),xorL (mdl s M k st S j).x (V (mdl s M k st S j).S (numOf s M st j) (dataOf k)),(mdl s M k st S j).bad,(mdl s M k st S j).dead,0⟩
  else if rdY (mdl s M k st S j).S (numOf s M st j) k=5 then ⟨Looked (mdl s M k st S j).S (numOf s M st j),(mdl s M k st S j).x,(mdl s M k st S j).bad++[j],(mdl s M k st S j).dead,0⟩
  else if rdY (mdl s M k st S j).S (numOf s M st j) k=4 then ⟨Looked (mdl s M k st S j).S (numOf s M st j),(mdl s M k st S j).x,(mdl s M k st S j).bad,(mdl s M k st S j).dead++[j],0⟩
  else ⟨Looked (mdl s M k st S j).S (numOf s M st j),(mdl s M k st S j).x,(mdl s M k st S j).bad,(mdl s M k st S j).dead,rdY (mdl s M k st S j).S (numOf s M st j) k⟩:=by
 show (if (mdl s M k st S j).y≠0 then mdl s M k st S j else _)=_
 rw [if_neg (by rw [h];decide)]
theorem mdl_same:∀j,Same S (mdl s M k st S j).S
 | 0=>Same.refl S
 | j+1=>by
  have ih:=mdl_same j
  by_cases h:(mdl s M k st S j).y=0
  ·rw [mdl_succ h]
   split
   ·exact ih.looked _
   ·split
    ·exact ih.looked _
    ·split<;>exact ih.looked _
  ·rw [mdl_stop h (Nat.le_succ j)]
   exact ih
theorem mdl_lens:∀j,(mdl s M k st S j).bad.length<=j/\(mdl s M k st S j).dead.length<=j/\(∀m∈(mdl s M k st S j).bad,m<j)
 | 0=>⟨Nat.le_refl _,Nat.le_refl _,fun _ h=>by cases h⟩
 | j+1=>by
  obtain ⟨h1,h2,h3⟩:=mdl_lens j
  have h3':∀m∈(mdl s M k st S j).bad,m<j+1:=fun m hm=>Nat.lt_succ_of_lt (h3 m hm)
  by_cases h:(mdl s M k st S j).y=0
  ·rw [mdl_succ h]
   split
   ·dsimp only;exact ⟨by omega,by omega,h3'⟩
   ·split
    ·dsimp only
     refine ⟨by rw [List.length_append];simp;omega,by omega,fun m hm=>?_⟩
     rcases List.mem_append.1 hm with e | e
     ·exact h3' m e
     ·rw [List.mem_singleton.1 e];exact Nat.lt_succ_self _
    ·split
     ·dsimp only;exact ⟨by omega,by rw [List.length_append];simp;omega,h3'⟩
     ·dsimp only;exact ⟨by omega,by omega,h3'⟩
  ·rw [mdl_stop h (Nat.le_succ j)]
   exact ⟨by omega,by omega,h3'⟩
end
def ivs (l:List Nat):List Value:=l.map fun (m:Nat)=>.int .i64 (m:Int)
theorem ivs_snoc (l:List Nat) (m:Nat):ivs l++[.int .i64 (m:Int)]=ivs (l++[m]):=by unfold ivs;rw [List.map_append];rfl
structure MdI (J:Vk) (w0 wr:World) (s:SuP) (o:Nat->Int) (F:Nat->Prop) (D U:Set0) (r:Mdl) (s7 s8:Value) (A:Option Addr):Prop where
 stay:RStay J w0 wr s o r.S F D U
 sec:Sh.Sec r.x
 sum:Sh.Bytes w0 wr A r.x
 b:OIv wr s7 r.bad.length (ivs r.bad)
 d:OIv wr s8 r.dead.length (ivs r.dead)
 ob:∀g n c,s7=.slice (some ⟨g,0,none⟩) n c->w0.heap.size<=g/\(∀a,A=some a->a.block≠g)/\∀g' n' c',s8=.slice (some ⟨g',0,none⟩) n' c'->g≠g'
 od:∀g n c,s8=.slice (some ⟨g,0,none⟩) n c->w0.heap.size<=g/\∀a,A=some a->a.block≠g
section
variable {J:Vk} {w0 wr w2:World} {s:SuP} {o:Nat->Int} {F:Nat->Prop} {D U:Set0} {r:Mdl} {s7 s8:Value} {A:Option Addr} {S':Sh.Sf} {m:Nat}
theorem MdI.ys (h:MdI J w0 wr s o F D U r s7 s8 A) (y:Int):MdI J w0 wr s o F D U { r with y:=y } s7 s8 A:=⟨h.stay,h.sec,h.sum,h.b,h.d,h.ob,h.od⟩
theorem MdI.look (h:MdI J w0 wr s o F D U r s7 s8 A) (hlt:∀b,AllV J F b->b<w0.heap.size) (hs:RStay J wr w2 s o S' F D U):MdI J w0 w2 s o F D U { r with S:=S' } s7 s8 A:=by
 have hk:∀g,w0.heap.size<=g->g<wr.heap.size->w2.heap[g]?=wr.heap[g]?:=fun g h1 h2=>hs.2.block g h2 fun e=>by have:=hlt g e;omega
 refine ⟨RStay.trans h.stay.2 hs,h.sec,bytes_only h.sum (fun a ha e=>?_) hs.2,h.b.kept (fun g c e h2=>hk g (h.ob g _ _ e).1 h2) hs.2.size,h.d.kept (fun g c e h2=>hk g (h.od g _ _ e).1 h2) hs.2.size,h.ob,h.od⟩
 have h1:=(h.sum.2 a ha).1
 have h2:=hlt _ e
 omega
theorem MdI.grown (h:MdI J w0 wr s o F D U r s7 s8 A) (hb:Below wr.heap.size wr w2):MdI J w0 w2 s o F D U r s7 s8 A :=
 ⟨RStay.trans h.stay.2 (RStay.here h.stay.1 hb),h.sec,bytes_only h.sum (F:=fun _=>False) (fun _ _ e=>e) ⟨hb.os,hb.tape,hb.output,hb.size,fun k hk _=>hb.block k hk⟩,h.b.kept (fun g _ _ h2=>hb.block g h2) hb.size,h.d.kept (fun g _ _ h2=>hb.block g h2) hb.size,h.ob,h.od⟩
theorem MdI.summed (h:MdI J w0 wr s o F D U r s7 s8 A) {E:Option Addr} {f:Nat} {x:Sh.Bs} (hx:Sh.Sec x) (ho:w2.ownsRow wr.heap.size 5 1 (.slice E 128 f) 128 (bts x)) (hb:Below wr.heap.size wr w2):MdI J w0 w2 s o F D U { r with x:=x } s7 s8 E:=by
 have h2:=h.grown hb
 have hsz:=h.stay.2.size
 have hE:∀a,E=some a->wr.heap.size<=a.block:=fun a ha=>((bytes_own (w0:=wr) ho (Nat.le_refl _)).2 a ha).1
 refine ⟨h2.stay,hx,bytes_own ho hsz,h2.b,h2.d,fun g n c e=>⟨(h.ob g n c e).1,fun a ha e2=>?_,(h.ob g n c e).2.2⟩,fun g n c e=>⟨(h.od g n c e).1,fun a ha e2=>?_⟩⟩
 ·have:=hE a ha
  have:=h.b.lt e
  omega
 ·have:=hE a ha
  have:=h.d.lt e
  omega
theorem grown_block {w w':World} {g x:Nat} (h:w.grownBy w' (some g)) (hx:x<w.heap.size) (hn:x≠g):w'.heap[x]?=w.heap[x]?:=h.block x hx (fun e=>hn (by injection e))
theorem app_only {w w':World} {sv:Value} {n g':Nat} (ha:(∃c,sv=.slice (some ⟨g',0,none⟩) n c/\w.grownBy w' (some g'))\/(g'=w.heap.size/\Below w.heap.size w w')):Sh.Only (fun b=>b=g') w w':=by
 rcases ha with ⟨c,e,hg⟩ | ⟨_,hb⟩
 ·exact ⟨hg.os,hg.tape,hg.output,hg.size,fun x hx hn=>grown_block hg hx hn⟩
 ·exact ⟨hb.os,hb.tape,hb.output,hb.size,fun k hk _=>hb.block k hk⟩
theorem MdI.lts (h:MdI J w0 wr s o F D U r s7 s8 A):∀a,A=some a->a.block<wr.heap.size:=fun a ha=>by
 obtain ⟨ad,e,hlt,_⟩:=h.sum.1.2 (by decide)
 rw [ha] at e
 injection e with e
 rw [e];exact hlt
theorem MdI.stayed {g':Nat} (h:MdI J w0 wr s o F D U r s7 s8 A) (hlt:∀b,AllV J F b->b<w0.heap.size) (hB:J.B<=w0.heap.size) (hlog:∀i,i<J.n->J.gn i<w0.heap.size) (hg:w0.heap.size<=g') (ho:Sh.Only (fun b=>b=g') wr w2):RStay J w0 w2 s o r.S F D U:=by
 refine ⟨only_vr h.stay.1 ho (fun e=>by have:=hlt _ e;omega) (by omega) (fun i hi=>by have:=hlog i hi;omega),?_⟩
 have h2:=h.stay.2
 exact ⟨ho.os.trans h2.os,ho.tape.trans h2.tape,ho.output.trans h2.output,Nat.le_trans h2.size ho.size,fun k hk hn=>(ho.block k (Nat.lt_of_lt_of_le hk h2.size) (fun e=>by omega)).trans (h2.block k hk hn)⟩
theorem MdI.bads (h:MdI J w0 wr s o F D U r s7 s8 A) (hlt:∀b,AllV J F b->b<w0.heap.size) (hB:J.B<=w0.heap.size) (hlog:∀i,i<J.n->J.gn i<w0.heap.size) {g' c':Nat} (hv:Iv w2 g' (r.bad.length+1) c' (ivs r.bad++[.int .i64 (m:Int)]))
  (ha:(∃c,s7=.slice (some ⟨g',0,none⟩) r.bad.length c/\wr.grownBy w2 (some g'))\/(g'=wr.heap.size/\Below wr.heap.size wr w2)) :
  MdI J w0 w2 s o F D U { r with bad:=r.bad++[m] } (.slice (some ⟨g',0,none⟩) (r.bad.length+1) c') s8 A:=by
 have hsz:=h.stay.2.size
 have hg:w0.heap.size<=g'/\(∀a,A=some a->a.block≠g')/\∀g2 n' c2,s8=.slice (some ⟨g2,0,none⟩) n' c2->g'≠g2:=by
  rcases ha with ⟨c,e,_⟩ | ⟨e,_⟩
  ·exact h.ob g' _ c e
  ·refine ⟨by omega,fun a ha e2=>?_,fun g2 n' c2 e2=>?_⟩
   ·have:=h.lts a ha
    omega
   ·have:=h.d.lt e2
    omega
 have ho:=app_only ha
 refine ⟨h.stayed hlt hB hlog hg.1 ho,h.sec,bytes_only h.sum (fun a ha=>hg.2.1 a ha) ho,.inr ⟨g',c',?_,?_⟩,h.d.kept (fun g c e h2=>ho.block g h2 (fun e2=>hg.2.2 g _ c e e2.symm)) ho.size,fun g n c e=>?_,fun g n c e=>h.od g n c e⟩
 ·rw [List.length_append];rfl
 ·rw [List.length_append,<- ivs_snoc];exact hv
 ·injection e with e1
  injection e1 with e1
  injection e1 with e1
  rw [<- e1]
  exact hg
theorem MdI.deads (h:MdI J w0 wr s o F D U r s7 s8 A) (hlt:∀b,AllV J F b->b<w0.heap.size) (hB:J.B<=w0.heap.size) (hlog:∀i,i<J.n->J.gn i<w0.heap.size) {g' c':Nat} (hv:Iv w2 g' (r.dead.length+1) c' (ivs r.dead++[.int .i64 (m:Int)]))
  (ha:(∃c,s8=.slice (some ⟨g',0,none⟩) r.dead.length c/\wr.grownBy w2 (some g'))\/(g'=wr.heap.size/\Below wr.heap.size wr w2)) :
  MdI J w0 w2 s o F D U { r with dead:=r.dead++[m] } s7 (.slice (some ⟨g',0,none⟩) (r.dead.length+1) c') A:=by
 have hsz:=h.stay.2.size
 have hg:w0.heap.size<=g'/\(∀a,A=some a->a.block≠g')/\∀g2 n' c2,s7=.slice (some ⟨g2,0,none⟩) n' c2->g2≠g':=by
  rcases ha with ⟨c,e,_⟩ | ⟨e,_⟩
  ·exact ⟨(h.od g' _ c e).1,(h.od g' _ c e).2,fun g2 n' c2 e2=>(h.ob g2 n' c2 e2).2.2 g' _ c e⟩
  ·refine ⟨by omega,fun a ha e2=>?_,fun g2 n' c2 e2=>?_⟩
   ·have:=h.lts a ha
    omega
   ·have:=h.b.lt e2
    omega
 have ho:=app_only ha
 refine ⟨h.stayed hlt hB hlog hg.1 ho,h.sec,bytes_only h.sum (fun a ha=>hg.2.1 a ha) ho,h.b.kept (fun g c e h2=>ho.block g h2 (fun e2=>hg.2.2 g _ c e e2)) ho.size,.inr ⟨g',c',?_,?_⟩,fun g n c e=>⟨(h.ob g n c e).1,(h.ob g n c e).2.1,fun g2 n2 c2 e2=>?_⟩,fun g n c e=>?_⟩
 ·rw [List.length_append];rfl
 ·rw [List.length_append,<- ivs_snoc];exact hv
 ·injection e2 with e1
  injection e1 with e1
  injection e1 with e1
  rw [<- e1]
  exact hg.2.2 g n c e
 ·injection e with e1
  injection e1 with e1
  injection e1 with e1
  rw [<- e1]
  exact ⟨hg.1,hg.2.1⟩
end
inductive MdR (n L:Nat) (s:SuP) (M st:Nat) (D U:Set0) (S:Sh.Sf) (o:Nat->Int):Int->Int->Stt->Set0->Set0->Prop
 | busy (y:Int) (t:Stt) (D' U':Set0):SetlR n L D U S o y t D' U'->y≠0->MdR n L s M st D U S o 0 y t D' U'
 | stop (t:Stt) (D' U':Set0) (r:Mdl):SetlR n L D U S o 0 t D' U'->mdl s M (2+2*L+st) st t.S M=r->r.y≠0->MdR n L s M st D U S o 0 r.y ⟨r.S,t.o⟩ D' U'
 | quiet (t:Stt) (D' U':Set0) (r:Mdl):SetlR n L D U S o 0 t D' U'->mdl s M (2+2*L+st) st t.S M=r->r.y=0->r.bad=[]->(r.dead≠[]\/r.x=Sh.noughts)->MdR n L s M st D U S o 0 0 ⟨r.S,t.o⟩ D' U'
 | mends (t e:Stt) (D' U':Set0) (b:Nat) (y:Int) (r:Mdl):SetlR n L D U S o 0 t D' U'->mdl s M (2+2*L+st) st t.S M=r->r.y=0->((∃l,r.bad=b :: l)\/(r.bad=[]/\r.dead=[]/\r.x≠Sh.noughts/\b=Go.Proofs.YtgebkmpmnjhceaaGreatDoor.L.par M st)) ->
   RoR s M (2+2*L+st) st b (numOf s M st b) r.S t.o y e->MdR n L s M st D U S o (if y=0 then 1 else 0) y e D' U'
theorem make128m (w:World):∃w',(Instr.makeSlice 41 (.int .i64 128) (.int .i64 128)).run Tryz.prog w=.ok (.slice (some ⟨w.heap.size,0,none⟩) 128 128) w'/\w'.ownsRow w.heap.size 5 1 (.slice (some ⟨w.heap.size,0,none⟩) 128 128) 128 (bts Sh.noughts)/\Below w.heap.size w w':=by
 obtain ⟨i1,ki,kz0,kz1,kz2⟩:=info_parts (show (Tryz.prog.info? 5).map (fun i=>(i.zero,i.size,i.bytes))=some (some (.int .u8 0),1,1) by kernel_rfl)
 obtain ⟨w',hrun,r1,r2⟩:=run_make_full (P:=Tryz.prog) w w.heap.size 41 5 i1 _ 1 Tryz.underlying41 ki kz0 kz1 .i64 .i64 128 (by rw [kz2];omega) (by unfold maxLen;omega) (Nat.le_refl _)
 exact ⟨w',hrun,Sh.noughts_own r1,(Below.refl _ w).grown r2 (Nat.le_refl _) (fun _ h=>by cases h)⟩
section
variable {J:Vk} {w w':World} {s:SuP} {o:Nat->Int} {S S':Sh.Sf} {F:Nat->Prop} {D U:Set0} {M St d k mm:Nat} {y z:Int} {b:Sh.Bs}
theorem SetlR.len {t:Stt} {D' U':Set0} {n L:Nat} (h:SetlR n L D U S o y t D' U'):t.S.disks.length=S.disks.length/\t.S.sectors=S.sectors:=by
 rcases h with ⟨_,_,_,rfl,_,_⟩ | ⟨_,h⟩
 ·exact ⟨rfl,rfl⟩
 ·exact h.len
theorem SetlR.waits {t:Stt} {D' U':Set0} {n L:Nat} (h:SetlR n L D U S o y t D' U') (hn:n<=17) (h8:L<=8) (hL:∀x∈S.disks,x.waits.length<=mm):∀x∈t.S.disks,x.waits.length<=mm+408:=by
 rcases h with ⟨_,_,_,rfl,_,_⟩ | ⟨_,h⟩
 ·exact fun x hx=>Nat.le_trans (hL x hx) (Nat.le_add_right _ _)
 ·exact h.waits hn h8 hL
def MdQ (J:Vk) (w:World) (s:SuP) (o:Nat->Int) (S:Sh.Sf) (F:Nat->Prop) (D U:Set0) (M st:Nat) (nn y:Int) (w':World):Prop :=
 ∃t D' U',MdR J.n J.L s M st D U S o nn y t D' U'/\RGoes J w w' s t.o t.S F D' U'
set_option maxRecDepth 20000 in
set_option maxHeartbeats 8000000 in
theorem mend_any (h:Vr J w s o S F D U) (hf:Fits J.n J.L s M St S) (hT:Tabs J.W) (hTB:max 0 1+1<=J.B) (hL:∀x∈S.disks,x.waits.length<=mm) (hU:Maps.size U<=mm) (hmm:mm<=700000000) (st:Nat) (hst:st<St) :
  Calls Tryz.prog 13 #[.pointer (some ⟨J.v,0,none⟩),.int .i64 st] w fun e w'=>∃nn y:Int,e=.returned (.tuple #[.int .i64 nn,.int .i64 y])/\MdQ J w s o S F D U M st nn y w':=by
 have HRD:=hid (vready h hf hT hTB hL hU (by omega) st hst)
 have h17:J.n<=17:=by
  obtain ⟨D0,gs,q⟩:=h.vo.ds.on.shelf
  have:=q.most
  have:=hf.len
  omega
 have hm16:=hf.m16
 have hm3:=hf.m3
 have hst2:st<1024:=by have:=hf.s2;omega
 have HF:=hid (And.intro hf (And.intro hL h17))
 have HMD:Hid (∀nn y w' t D' U',MdR J.n J.L s M st D U S o nn y t D' U'->RGoes J w w' s t.o t.S F D' U'->MdQ J w s o S F D U M st nn y w'):=hid fun _ _ _ t D' U' a b=>⟨t,D',U',a,b⟩
 clear h hf hL hU h17
 go_enter Tryz.func13,Tryz.ntmps13
 go_wp2_with fail
 refine HRD.out.mono ?_
 rintro e w1 ⟨y0,rfl,t,D',U',hS,F1,V1,m1⟩
 clear HRD
 by_cases h0:y0=0
 ·subst h0
  have HSR:=hid hS
  have HM1:=hid m1
  have HF1:=hid (HF.out.1.same hS.len.1 hS.len.2)
  have HL1:=hid (hS.waits HF.out.2.2 HF.out.1.l2 HF.out.2.1)
  clear hS m1 HF
  obtain ⟨w2,hmk,ho2,hb2⟩:=make128m w1
  have c2:=fun W' (hb:Below w1.heap.size w1 W')=>(cell_of_row _ _ 2 _ _ _ (V1.grown hb).vo.vol.root)
  simp only [List.getElem?_toArray,List.getElem?_cons_zero,List.getElem?_cons_succ,HF1.out.mem] at c2
  have c2b:=c2 w2 hb2
  have HI0:Hid (MdI J w1 w2 s t.o F1 D' U' (mdl s M (2+2*J.L+st) st t.S 0) (.slice none 0 0) (.slice none 0 0) (some ⟨w1.heap.size,0,none⟩)):=hid ⟨RStay.here V1 hb2,Sh.noughts_sec,bytes_own ho2 (Nat.le_refl _),.inl ⟨rfl,rfl,rfl⟩,.inl ⟨rfl,rfl,rfl⟩,(fun g n c e=>by cases e),(fun g n c e=>by cases e)⟩
  have HLT:=hid (fun b (e:AllV J F1 b)=>V1.lt b e)
  have HLG:=hid (fun i (hi:i<J.n)=>World.block_lt_of_cell? w1 _ (V1.logs.log i hi).c0)
  have HB1:=hid V1.size
  clear ho2 hb2 c2 V1
  go_wp2_with fail
  clear hmk c2b
  go_loopw [7,8,9,27] (fun s7 s8 s9 s27 wr=>∃(j:Nat) (A:Option Addr) (c:Nat),j<=M/\s9=.slice A 128 c/\s27=.int .i64 j/\Hid ((mdl s M (2+2*J.L+st) st t.S j).y=0/\MdI J w1 wr s t.o F1 D' U' (mdl s M (2+2*J.L+st) st t.S j) s7 s8 A)) (fun _ _ _ i _=>M-(intOf i).toNat)
  case atStart=>exact ⟨0,_,_,Nat.zero_le _,rfl,rfl,hid ⟨rfl,HI0.out⟩⟩
  case round =>
   obtain ⟨j,A,c,hj,rfl,rfl,hrel⟩:=hrel
   clear HI0
   by_cases hlt:j<M
   ·have q3:(j:Int)<(M:Int):=by omega
    have hsm:=mdl_same (s:=s) (M:=M) (k:=2+2*J.L+st) (st:=st) (S:=t.S) j
    have HFj:=hid (HF1.out.same hsm.len hsm.sectors)
    have HLK:=hid (look_any hrel.out.2.stay.1 HFj.out hT hTB st j hst hlt)
    have hVs:Sh.Sec (V (mdl s M (2+2*J.L+st) st t.S j).S (numOf s M st j) (dataOf (2+2*J.L+st))):=hrel.out.2.stay.1.sec (by rw [HFj.out.len];exact HFj.out.num_lt st hlt) (sum_of_lt (show 2+2*J.L+st<blk _ by have:=HFj.out.need;omega)).1
    have HVS:=hid hVs
    have hmd:=mdl_succ hrel.out.1
    have HDS:=hid (mdl_lens (s:=s) (M:=M) (k:=2+2*J.L+st) (st:=st) (S:=t.S) j)
    generalize rdY (mdl s M (2+2*J.L+st) st t.S j).S (numOf s M st j) (2+2*J.L+st)=y at *
    have HMJ:=hid hmd
    clear hmd hsm hVs
    go_wp2_with fail
    refine HLK.out.mono ?_
    rintro e w3 ⟨⟨A3,n3,c3,rfl,hX⟩,hs3⟩
    have HI3:=hid (hrel.out.2.look HLT.out hs3)
    clear HLK hs3
    by_cases hy:y=0
    ·subst hy
     obtain ⟨rfl,hX2⟩:n3=128/\Sh.Bytes wr w3 A3 (V (mdl s M (2+2*J.L+st) st t.S j).S (numOf s M st j) (dataOf (2+2*J.L+st))):=by
      rcases hX with ⟨_,h1,h2⟩ | ⟨h1,_⟩
      ·exact ⟨h1,h2⟩
      ·exact absurd rfl h1
     have HXR:=hid (rxor_ok A A3 c c3 _ _ w3 hrel.out.2.sec.2 HVS.out.2 HI3.out.sum.1 hX2.1)
     have HMK:=hid (HMJ.out.trans (if_pos rfl))
     clear hX hX2
     go_wp2_with fail
     refine HXR.out.mono ?_
     rintro e w4 ⟨E,f,rfl,hown,hb4⟩
     have HR:Hid ((mdl s M (2+2*J.L+st) st t.S (j+1)).y=0/\MdI J w1 w4 s t.o F1 D' U' (mdl s M (2+2*J.L+st) st t.S (j+1)) u7 u8 E):=hid (by rw [HMK.out];exact ⟨rfl,(HI3.out.summed (xorL_sec hrel.out.2.sec HVS.out) hown hb4).ys 0⟩)
     clear hown hb4 HMJ HMK HXR HI3 hrel HVS
     go_wp2_with fail
     refine ⟨⟨j+1,E,f,by omega,rfl,by go_num,HR⟩,?_⟩
     simp [intOf]
     omega
    ·obtain ⟨rfl,rfl,rfl⟩:A3=none/\n3=0/\c3=0:=by
      rcases hX with ⟨h1,_⟩ | ⟨_,h1⟩
      ·exact absurd h1 hy
      ·exact h1
     have q4:(y == 0)=false:=by simpa using hy
     by_cases hy5:y=5
     ·subst hy5
      have HMK:=hid (HMJ.out.trans ((if_neg hy).trans (if_pos rfl)))
      have hb8:Below w3.heap.size w3 (w3.alloc (.cells #[.int .i64 (j:Int)] 3)):=(Below.refl _ _).alloc (Nat.le_refl _) _
      have HI4:=hid (HI3.out.grown hb8)
      have X0:=hid (show (w3.alloc (.cells #[.int .i64 (j:Int)] 3)).cell? ⟨w3.heap.size,0,none⟩=some (.int .i64 (j:Int)) from cell_of_row _ _ 0 _ _ _ (heap_alloc_new w3 _))
      clear hX hy HMJ hb8 q4
      go_wp2_with (at_builtin;refine wpList_append_iv rfl (.tmp 46) (.tmp 48) rfl (cc:=1) (ad:=⟨w3.heap.size,0,none⟩) rfl rfl HI4.out.b X0.out rfl (by have:=HDS.out.1;show (mdl s M (2+2*J.L+st) st t.S j).bad.length<=100000;omega) ?_;intro g' c' w5 hv5 ha5)
      have HR:Hid ((mdl s M (2+2*J.L+st) st t.S (j+1)).y=0/\MdI J w1 w5 s t.o F1 D' U' (mdl s M (2+2*J.L+st) st t.S (j+1)) (.slice (some ⟨g',0,none⟩) ((mdl s M (2+2*J.L+st) st t.S j).bad.length+1) c') u8 A):=hid (by rw [HMK.out];exact ⟨rfl,(HI4.out.bads HLT.out HB1.out HLG.out hv5 ha5).ys 0⟩)
      clear hv5 ha5 HI3 HI4 X0 hrel HMK HVS
      go_wp2_with fail
      refine ⟨⟨j+1,A,c,by omega,rfl,by go_num,HR⟩,?_⟩
      simp [intOf]
      omega
     ·have q5:(y == 5)=false:=by simpa using hy5
      by_cases hy4:y=4
      ·subst hy4
       have HMK:=hid (HMJ.out.trans ((if_neg hy).trans ((if_neg hy5).trans (if_pos rfl))))
       have hb8:Below w3.heap.size w3 (w3.alloc (.cells #[.int .i64 (j:Int)] 3)):=(Below.refl _ _).alloc (Nat.le_refl _) _
       have HI4:=hid (HI3.out.grown hb8)
       have X0:=hid (show (w3.alloc (.cells #[.int .i64 (j:Int)] 3)).cell? ⟨w3.heap.size,0,none⟩=some (.int .i64 (j:Int)) from cell_of_row _ _ 0 _ _ _ (heap_alloc_new w3 _))
       clear hX hy hy5 HMJ hb8 q4 q5
       go_wp2_with (at_builtin;refine wpList_append_iv rfl (.tmp 52) (.tmp 54) rfl (cc:=1) (ad:=⟨w3.heap.size,0,none⟩) rfl rfl HI4.out.d X0.out rfl (by have:=HDS.out.2.1;show (mdl s M (2+2*J.L+st) st t.S j).dead.length<=100000;omega) ?_;intro g' c' w5 hv5 ha5)
       have HR:Hid ((mdl s M (2+2*J.L+st) st t.S (j+1)).y=0/\MdI J w1 w5 s t.o F1 D' U' (mdl s M (2+2*J.L+st) st t.S (j+1)) u7 (.slice (some ⟨g',0,none⟩) ((mdl s M (2+2*J.L+st) st t.S j).dead.length+1) c') A):=hid (by rw [HMK.out];exact ⟨rfl,(HI4.out.deads HLT.out HB1.out HLG.out hv5 ha5).ys 0⟩)
       clear hv5 ha5 HI3 HI4 X0 hrel HMK HVS
       go_wp2_with fail
       refine ⟨⟨j+1,A,c,by omega,rfl,by go_num,HR⟩,?_⟩
       simp [intOf]
       omega
      ·have q6:(y == 4)=false:=by simpa using hy4
       have hmj:=HMJ.out.trans ((if_neg hy).trans ((if_neg hy5).trans (if_neg hy4)))
       have hyy:(mdl s M (2+2*J.L+st) st t.S (j+1)).y=y:=by rw [hmj]
       have hst1:=mdl_stop (s:=s) (M:=M) (k:=2+2*J.L+st) (st:=st) (S:=t.S) (j:=j+1) (n:=M) (by rw [hyy];exact hy) hlt
       have HE:Hid (MdQ J w s o S F D U M st 0 y w3):=hid (by
        have:=MdR.stop (n:=J.n) (L:=J.L) (s:=s) (M:=M) (st:=st) (D:=D) (U:=U) (S:=S) (o:=o) t D' U' _ HSR.out hst1 (by rw [hyy];exact hy)
        rw [hyy] at this
        refine HMD.out _ _ _ _ _ _ this ?_
        rw [hmj]
        exact RGoes.trans HM1.out HI3.out.stay.goes)
       clear hX hy hy5 hy4 hmj hyy hst1 HI3 hrel HMJ HVS
       go_wp2
       go_ret2
       exact ⟨0,y,rfl,HE.out⟩
   ·obtain rfl:j=M:=by omega
    have q3:¬((j:Int)<(j:Int)):=by omega
    obtain ⟨hy0,hI⟩:=hrel.out
    have hsm:=mdl_same (s:=s) (M:=j) (k:=2+2*J.L+st) (st:=st) (S:=t.S) j
    have HFj:=hid (HF1.out.same hsm.len hsm.sectors)
    have HLj:Hid (∀x∈(mdl s j (2+2*J.L+st) st t.S j).S.disks,x.waits.length<=mm+408):=hid (by rw [hsm.disks];exact HL1.out)
    have hbl:=(mdl_lens (s:=s) (M:=j) (k:=2+2*J.L+st) (st:=st) (S:=t.S) j).2.2
    have HST:=hid (fun y w5 b tt (hc:(∃l,(mdl s j (2+2*J.L+st) st t.S j).bad=b :: l)\/((mdl s j (2+2*J.L+st) st t.S j).bad=[]/\(mdl s j (2+2*J.L+st) st t.S j).dead=[]/\(mdl s j (2+2*J.L+st) st t.S j).x≠Sh.noughts/\b=Go.Proofs.YtgebkmpmnjhceaaGreatDoor.L.par j st)) (hR:RoR s j (2+2*J.L+st) st b (numOf s j st b) (mdl s j (2+2*J.L+st) st t.S j).S t.o y tt) (hG:RGoes J wr w5 s tt.o tt.S F1 D' U') =>
     HMD.out _ y w5 _ _ _ (MdR.mends t tt D' U' b y _ HSR.out rfl hy0 hc hR) (RGoes.trans HM1.out (RGoes.trans (⟨hI.stay.2,fun _ e=>.inl e⟩:Sh.Moves (AllV J F1) w1 (AllV J F1) wr) hG)))
    have HSQ:=hid (fun (h1:(mdl s j (2+2*J.L+st) st t.S j).bad=[]) (h2:(mdl s j (2+2*J.L+st) st t.S j).dead≠[]\/(mdl s j (2+2*J.L+st) st t.S j).x=Sh.noughts)=>HMD.out 0 0 wr _ _ _ (MdR.quiet t D' U' _ HSR.out rfl hy0 h1 h2) (RGoes.trans HM1.out hI.stay.goes))
    have HBL:=hid (mdl_lens (s:=s) (M:=j) (k:=2+2*J.L+st) (st:=st) (S:=t.S) j).1
    have HBL2:=hid (mdl_lens (s:=s) (M:=j) (k:=2+2*J.L+st) (st:=st) (S:=t.S) j).2.1
    generalize mdl s j (2+2*J.L+st) st t.S j=rr at *
    have c2:=cell_of_row _ _ 2 _ _ _ hI.stay.1.vo.vol.root
    simp only [List.getElem?_toArray,List.getElem?_cons_zero,List.getElem?_cons_succ,HFj.out.mem] at c2
    clear hrel hsm
    obtain ⟨rb,hrb⟩:∃l,rr.bad=l:=⟨_,rfl⟩
    cases rb with
    | cons b l =>
     have hbM:b<j:=hbl b (by rw [hrb];exact List.mem_cons_self ..)
     have hob:=hI.b
     rw [hrb] at hob
     rcases hob with ⟨_,h2,_⟩ | ⟨g7,c7,rfl,hv⟩
     ·cases h2
     ·have k0:wr.cell? ⟨g7,0,none⟩=some (.int .i64 (b:Int)):=hv.at_ 0 (by simp)
      have hgt:(0:Int)<(((b :: l).length:Nat):Int):=by simp
      have HRS:=hid (restore_any hI.stay.1 HFj.out hT hTB st b hst hbM HLj.out (by omega))
      have HSB:=hid (fun y w5 tt hR hG=>HST.out y w5 b tt (.inl ⟨l,hrb⟩) hR hG)
      have hnl:(b :: l).length<=17:=by have:=HBL.out;rw [hrb] at this;omega
      clear hv hI hrb hbl HST HSQ c2 hy0
      generalize (b :: l).length=nl at *
      go_wp2_with fail
      refine HRS.out.mono ?_
      rintro e w5 ⟨y,rfl,tt,hR,hG⟩
      have HE:=hid (HSB.out y w5 tt hR hG)
      clear hR hG HSB HRS
      generalize (if y=0 then (1:Int) else 0)=nn at *
      go_wp2
      go_ret2
      exact ⟨nn,y,rfl,HE.out⟩
    | nil =>
     obtain ⟨A7,c7,rfl⟩:∃A7 c7,u7=.slice A7 0 c7:=by
      have hob:=hI.b
      rw [hrb] at hob
      rcases hob with ⟨rfl,_,_⟩ | ⟨g7,c7,rfl,_⟩
      ·exact ⟨none,0,rfl⟩
      ·exact ⟨_,c7,rfl⟩
     obtain ⟨rd,hrd⟩:∃l,rr.dead=l:=⟨_,rfl⟩
     cases rd with
     | cons b l =>
      obtain ⟨A8,c8,rfl⟩:∃A8 c8,u8=.slice A8 (b :: l).length c8:=by
       have hob:=hI.d
       rw [hrd] at hob
       rcases hob with ⟨_,h2,_⟩ | ⟨g8,c8,rfl,_⟩
       ·cases h2
       ·exact ⟨_,c8,rfl⟩
      have hgt:(0:Int)<(((b :: l).length:Nat):Int):=by simp
      have HE:=hid (HSQ.out hrb (.inl (by rw [hrd];simp)))
      have hnl:(b :: l).length<=17:=by have:=HBL2.out;rw [hrd] at this;omega
      clear hI hrb hrd hbl HST HSQ c2 hy0
      generalize (b :: l).length=nl at *
      go_wp2
      go_ret2
      exact ⟨0,0,rfl,HE.out⟩
     | nil =>
      obtain ⟨A8,c8,rfl⟩:∃A8 c8,u8=.slice A8 0 c8:=by
       have hob:=hI.d
       rw [hrd] at hob
       rcases hob with ⟨rfl,_,_⟩ | ⟨g8,c8,rfl,_⟩
       ·exact ⟨none,0,rfl⟩
       ·exact ⟨_,c8,rfl⟩
      obtain ⟨ad,rfl⟩:=bytes_some hI.sum
      have HNO:=hid (rNoughts_any ad c rr.x wr hI.sum.1)
      by_cases hx:rr.x=Sh.noughts
      ·rw [decide_eq_true hx] at HNO
       have HE:=hid (HSQ.out hrb (.inr hx))
       clear hI hrb hrd hbl HST HSQ c2 hy0 hx
       go_wp2_with fail
       refine HNO.out.mono ?_
       rintro e w' ⟨rfl,rfl⟩
       go_wp2
       go_ret2
       exact ⟨0,0,rfl,HE.out⟩
      ·rw [decide_eq_false hx] at HNO
       have hpl:=Go.Proofs.YtgebkmpmnjhceaaGreatDoor.L.par_lt j st (by omega)
       have HRS:=hid (restore_any hI.stay.1 HFj.out hT hTB st (Go.Proofs.YtgebkmpmnjhceaaGreatDoor.L.par j st) hst hpl HLj.out (by omega))
       have HSB:=hid (fun y w5 tt hR hG=>HST.out y w5 (Go.Proofs.YtgebkmpmnjhceaaGreatDoor.L.par j st) tt (.inr ⟨hrb,hrd,hx,rfl⟩) hR hG)
       have HPA:=hid (Go.Proofs.YtgebkmpmnjhceaaGreatDoor.L.parity_ok j st wr hm3 hm16 (by omega))
       clear hI hrb hrd hbl HST HSQ hy0 hx
       generalize Go.Proofs.YtgebkmpmnjhceaaGreatDoor.L.par j st=pp at *
       go_wp2_with fail
       refine HNO.out.mono ?_
       rintro e w' ⟨rfl,rfl⟩
       go_wp2_with fail
       refine HPA.out.mono ?_
       rintro e w' ⟨rfl,rfl⟩
       go_wp2_with fail
       refine HRS.out.mono ?_
       rintro e w5 ⟨y,rfl,tt,hR,hG⟩
       have HE:=hid (HSB.out y w5 tt hR hG)
       clear hR hG HSB HRS
       generalize (if y=0 then (1:Int) else 0)=nn at *
       go_wp2
       go_ret2
       exact ⟨nn,y,rfl,HE.out⟩
 ·have hq2:(y0 == 0)=false:=by simpa using h0
  have HE:=hid (HMD.out 0 y0 w1 t D' U' (.busy y0 t D' U' hS h0) ⟨F1,V1,m1⟩)
  clear hS V1 m1 h0
  go_wp2
  go_ret2
  exact ⟨0,y0,rfl,HE.out⟩
end
def xf (f:Nat->Nat) (tk:Nat->Bool):Nat->Nat
 | 0=>0
 | j+1=>if tk j then xf f tk j ^^^ f j else xf f tk j
def tkAll (_:Nat):Bool:=true
theorem xf_congr {f g:Nat->Nat} {tk tl:Nat->Bool}:∀{j:Nat},(∀m,m<j->tk m=tl m/\(tk m=true->f m=g m))->xf f tk j=xf g tl j
 | 0,_=>rfl
 | j+1,h=>by
  have ih:=xf_congr (j:=j) fun m hm=>h m (by omega)
  obtain ⟨h1,h2⟩:=h j (by omega)
  unfold xf
  rw [ih,<- h1]
  cases ht:tk j
  ·rfl
  ·rw [h2 ht]
theorem xor_swap (a b c:Nat):a ^^^ b ^^^ c=a ^^^ c ^^^ b:=by rw [Nat.xor_assoc,Nat.xor_comm b c,<- Nat.xor_assoc]
theorem xf_split (f:Nat->Nat) (tk:Nat->Bool):∀j,xf f tkAll j=xf f tk j ^^^ xf f (fun m=>!tk m) j
 | 0=>by simp [xf]
 | j+1=>by
  have ih:=xf_split f tk j
  show xf f tkAll j ^^^ f j=(if tk j then xf f tk j ^^^ f j else xf f tk j) ^^^ (if !tk j then xf f (fun m=>!tk m) j ^^^ f j else xf f (fun m=>!tk m) j)
  rw [ih]
  cases tk j
  ·simp only [Bool.not_false,if_true,Bool.false_eq_true,if_false,Nat.xor_assoc]
  ·simp only [Bool.not_true,if_true,Bool.false_eq_true,if_false]
   exact xor_swap _ _ _
theorem xf_one (f:Nat->Nat) (a:Nat):∀j,xf f (fun m=>decide (m=a)) j=if a<j then f a else 0
 | 0=>rfl
 | j+1=>by
  have ih:=xf_one f a j
  show (if decide (j=a) then xf f (fun m=>decide (m=a)) j ^^^ f j else xf f (fun m=>decide (m=a)) j)=_
  rw [ih]
  by_cases e:j=a
  ·subst e
   simp
  ·simp only [e,decide_false,Bool.false_eq_true,if_false]
   by_cases h:a<j
   ·rw [if_pos h,if_pos (by omega)]
   ·rw [if_neg h,if_neg (by omega)]
theorem xf_two (f:Nat->Nat) (a b:Nat) (hab:a≠b):∀j,xf f (tkEither a b) j=(if a<j then f a else 0) ^^^ (if b<j then f b else 0)
 | 0=>by simp [xf]
 | j+1=>by
  have ih:=xf_two f a b hab j
  show (if decide (j=a\/j=b) then xf f (tkEither a b) j ^^^ f j else xf f (tkEither a b) j)=_
  rw [ih]
  by_cases ha:j=a
  ·subst ha
   have hb:¬j=b:=hab
   simp only [true_or,decide_true,if_true]
   rw [if_neg (Nat.lt_irrefl j),if_pos (Nat.lt_succ_self j),Nat.zero_xor,Nat.xor_comm]
   by_cases h:b<j
   ·rw [if_pos h,if_pos (by omega)]
   ·rw [if_neg h,if_neg (by omega)]
  ·by_cases hb:j=b
   ·subst hb
    simp only [or_true,decide_true,if_true]
    rw [if_neg (Nat.lt_irrefl j),if_pos (Nat.lt_succ_self j),Nat.xor_zero]
    by_cases h:a<j
    ·rw [if_pos h,if_pos (by omega)]
    ·rw [if_neg h,if_neg (by omega)]
   ·simp only [ha,hb,or_self,decide_false,Bool.false_eq_true,if_false]
    congr 1
    ·by_cases h:a<j
     ·rw [if_pos h,if_pos (by omega)]
     ·rw [if_neg h,if_neg (by omega)]
    ·by_cases h:b<j
     ·rw [if_pos h,if_pos (by omega)]
     ·rw [if_neg h,if_neg (by omega)]
theorem xor_move {a b c:Nat} (h:a=b ^^^ c):b=a ^^^ c:=by rw [h,Nat.xor_assoc,Nat.xor_self,Nat.xor_zero]
theorem xf_not (f:Nat->Nat) {a j:Nat} (ha:a<j):xf f (tkNot a) j=xf f tkAll j ^^^ f a:=by
 have h:=xor_move (xf_split f (tkNot a) j)
 have e:(fun m=>!tkNot a m)=fun m=>decide (m=a):=by funext m;unfold tkNot;by_cases e:m=a<;>simp [e]
 rw [e,xf_one,if_pos ha] at h
 exact h
theorem xf_neither (f:Nat->Nat) {a b j:Nat} (ha:a<j) (hb:b<j) (hab:a≠b):xf f (tkNeither a b) j=xf f tkAll j ^^^ (f a ^^^ f b):=by
 have h:=xor_move (xf_split f (tkNeither a b) j)
 have e:(fun m=>!tkNeither a b m)=tkEither a b:=by funext m;unfold tkNeither tkEither;by_cases e:m=a<;>by_cases e2:m=b<;>simp [e,e2]
 rw [e,xf_two f a b hab,if_pos ha,if_pos hb] at h
 exact h
/-! ### blocks -/
def SumZ (M:Nat) (f:Nat->Sh.Bs):Prop:=∀i,i<128->xf (fun m=>(f m).getD i 0) tkAll M=0
theorem xor_sec {a b:Sh.Bs} (ha:Sh.Sec a) (hb:Sh.Sec b):Sh.Sec (xorL a b):=by
 refine ⟨by rw [xorL_len];exact ha.1,fun x hx=>?_⟩
 obtain ⟨i,hi,rfl⟩:=List.mem_iff_getElem.1 hx
 rw [xorL_len] at hi
 have e:(xorL a b)[i]'(by rw [xorL_len];exact hi)=(xorL a b).getD i 0:=by simp [List.getD,xorL_len,hi]
 rw [e,xorL_at a b i hi]
 have h1:a.getD i 0<2 ^ 8:=by
  rw [List.getD_eq_getElem?_getD,List.getElem?_eq_getElem hi]
  exact ha.2 _ (List.getElem_mem hi)
 have h2:b.getD i 0<2 ^ 8:=by
  have hi2:i<b.length:=by rw [hb.1,<- ha.1];exact hi
  rw [List.getD_eq_getElem?_getD,List.getElem?_eq_getElem hi2]
  exact hb.2 _ (List.getElem_mem hi2)
 exact Nat.xor_lt_two_pow h1 h2
theorem xl_at {a b:Sh.Bs} (ha:a.length=128) {i:Nat} (hi:i<128):(xorL a b).getD i 0=a.getD i 0 ^^^ b.getD i 0:=xorL_at a b i (by rw [ha];exact hi)
theorem sec_ext {a b:Sh.Bs} (ha:a.length=128) (hb:b.length=128) (h:∀i,i<128->a.getD i 0=b.getD i 0):a=b:=xorL_ext (ha.trans hb.symm) fun i hi=>h i (by rw [<- ha];exact hi)
def seen (S:Sh.Sf) (d k:Nat):Option Sh.Bs:=if Sh.why S d=0 then vo S d k else none
theorem rdY_seen {S:Sh.Sf} (hon:S.off=false) (d k:Nat):(rdY S d k=0/\seen S d k=some (V S d (dataOf k)))\/((rdY S d k=4\/rdY S d k=5)/\seen S d k=none):=by
 unfold rdY seen
 rw [vo_eq]
 by_cases hw:Sh.why S d=0
 ·rw [if_pos hw,if_pos hw]
  cases goodAt S d k
  ·exact .inr ⟨.inr rfl,rfl⟩
  ·exact .inl ⟨rfl,rfl⟩
 ·rw [if_neg hw,if_neg hw]
  refine .inr ⟨.inl ?_,rfl⟩
  unfold Sh.why at *
  rw [hon] at *
  simp only [Bool.false_eq_true,if_false] at *
  by_cases e:(S.disks.getD d default).dead=true
  ·rw [if_pos e]
  ·rw [if_neg e] at hw
   exact absurd rfl hw
section
variable {S T:Sh.Sf} {s:SuP} {M k st:Nat}
theorem seen_same (h:Same S T) (d k:Nat):seen T d k=seen S d k:=by
 unfold seen
 rw [h.why,vo_same h]
theorem seen_some (hon:S.off=false) {d k:Nat} {x:Sh.Bs} (h:seen S d k=some x):rdY S d k=0/\V S d (dataOf k)=x:=by
 rcases rdY_seen hon d k with ⟨h1,h2⟩ | ⟨_,h2⟩
 ·rw [h2] at h
  injection h with h
  exact ⟨h1,h⟩
 ·rw [h2] at h
  cases h
theorem seen_none (hon:S.off=false) {d k:Nat} (h:seen S d k=none):rdY S d k=4\/rdY S d k=5:=by
 rcases rdY_seen hon d k with ⟨_,h2⟩ | ⟨h1,_⟩
 ·rw [h2] at h
  cases h
 ·exact h1
theorem togV_xf {tk:Nat->Bool} (f:Nat->Sh.Bs):∀j,(∀m,m<j->tk m=true->U.V S (numOf s M st m) (dataOf k)=f m)->(togV s M k st tk S j).length=128/\∀i,i<128->(togV s M k st tk S j).getD i 0=xf (fun m=>(f m).getD i 0) tk j
 | 0,_=>⟨Sh.noughts_sec.1,fun i _=>noughts_at i⟩
 | j+1,h=>by
  obtain ⟨h1,h2⟩:=togV_xf f j fun m hm=>h m (by omega)
  unfold togV xf
  cases ht:tk j
  ·exact ⟨h1,fun i hi=>by simpa using h2 i hi⟩
  ·simp only [if_true]
   refine ⟨by rw [xorL_len];exact h1,fun i hi=>?_⟩
   rw [xl_at h1 hi,h2 i hi,h j (by omega) ht]
theorem tog_there (hon:S.off=false) {tk:Nat->Bool} (f:Nat->Sh.Bs) (h:∀m,m<M->tk m=true->seen S (numOf s M st m) k=some (f m)) :
  (tog s M k st tk S M).2.2=0/\(tog s M k st tk S M).2.1.length=128/\∀i,i<128->(tog s M k st tk S M).2.1.getD i 0=xf (fun m=>(f m).getD i 0) tk M:=by
 obtain ⟨h1,h2⟩:=tog_read (s:=s) (M:=M) (k:=k) (st:=st) (S:=S) (tk:=tk) (m:=M) fun j hj ht=>(seen_some hon (h j hj ht)).1
 obtain ⟨h3,h4⟩:=togV_xf (s:=s) (M:=M) (k:=k) (st:=st) (S:=S) (tk:=tk) f M fun j hj ht=>(seen_some hon (h j hj ht)).2
 rw [h2]
 exact ⟨h1,h3,h4⟩
theorem tog_lacks (hon:S.off=false) {tk:Nat->Bool} {a:Nat} (ha:a<M) (ht:tk a=true) (h:seen S (numOf s M st a) k=none):(tog s M k st tk S M).2.2=10:=by
 by_cases h0:(tog s M k st tk S a).2.2=0
 ·exact tog_lack h0 ht (seen_none hon h) ha
 ·have:∀j,(tog s M k st tk S j).2.2=0\/(tog s M k st tk S j).2.2=10:=by
   intro j
   induction j with
   | zero=>exact .inl rfl
   | succ j ih =>
    by_cases h1:(tog s M k st tk S j).2.2=0
    ·cases hj:tk j
     ·rw [tog_skip hj];exact ih
     ·rw [tog_take h1 hj]
      show (if _ then _ else _)=_\/(if _ then _ else _)=_
      have hs:=tog_same (s:=s) (M:=M) (k:=k) (st:=st) (S:=S) (tk:=tk) j
      rcases rdY_seen (S:=(tog s M k st tk S j).1) (hs.off.trans hon) (numOf s M st j) k with ⟨e,_⟩ | ⟨e,_⟩
      ·rw [if_pos e];exact .inl rfl
      ·have hn:rdY (tog s M k st tk S j).1 (numOf s M st j) k≠0:=by rcases e with e | e<;>rw [e]<;>decide
       rw [if_neg hn,if_pos e];exact .inr rfl
    ·rw [tog_stop h1 (Nat.le_succ j)];exact ih
  rw [tog_stop h0 (Nat.le_of_lt ha)]
  exact (this a).elim (fun e=>absurd e h0) id
theorem tog_not (hon:S.off=false) {f:Nat->Sh.Bs} (hz:SumZ M f) (hf:∀m,m<M->Sh.Sec (f m)) {a:Nat} (ha:a<M) (h:∀m,m<M->m≠a->seen S (numOf s M st m) k=some (f m)) :
  (tog s M k st (tkNot a) S M).2.2=0/\(tog s M k st (tkNot a) S M).2.1=f a:=by
 obtain ⟨h1,h2,h3⟩:=tog_there (s:=s) (M:=M) (k:=k) (st:=st) (tk:=tkNot a) hon f fun m hm ht=>h m hm (by simpa [tkNot] using ht)
 refine ⟨h1,sec_ext h2 (hf a ha).1 fun i hi=>?_⟩
 rw [h3 i hi,xf_not _ ha,hz i hi,Nat.zero_xor]
theorem tog_neither (hon:S.off=false) {f:Nat->Sh.Bs} (hz:SumZ M f) (hf:∀m,m<M->Sh.Sec (f m)) {a b:Nat} (ha:a<M) (hb:b<M) (hab:a≠b) (h:∀m,m<M->m≠a->m≠b->seen S (numOf s M st m) k=some (f m)) :
  (tog s M k st (tkNeither a b) S M).2.2=0/\(tog s M k st (tkNeither a b) S M).2.1=xorL (f a) (f b):=by
 obtain ⟨h1,h2,h3⟩:=tog_there (s:=s) (M:=M) (k:=k) (st:=st) (tk:=tkNeither a b) hon f fun m hm ht=>by
  have ht:m≠a/\m≠b:=by simpa [tkNeither] using ht
  exact h m hm ht.1 ht.2
 refine ⟨h1,sec_ext h2 (by rw [xorL_len];exact (hf a ha).1) fun i hi=>?_⟩
 rw [h3 i hi,xf_neither _ ha hb hab,hz i hi,Nat.zero_xor,xl_at (hf a ha).1 hi]
theorem tog_either (hon:S.off=false) {f:Nat->Sh.Bs} (hf:∀m,m<M->Sh.Sec (f m)) {a b:Nat} (ha:a<M) (hb:b<M) (hab:a≠b) (h1:seen S (numOf s M st a) k=some (f a)) (h2:seen S (numOf s M st b) k=some (f b)) :
  (tog s M k st (tkEither a b) S M).2.2=0/\(tog s M k st (tkEither a b) S M).2.1=xorL (f a) (f b):=by
 obtain ⟨h1,h2,h3⟩:=tog_there (s:=s) (M:=M) (k:=k) (st:=st) (tk:=tkEither a b) hon f fun m hm ht=>by
  have ht:m=a\/m=b:=by simpa [tkEither] using ht
  rcases ht with rfl | rfl
  ·exact h1
  ·exact h2
 refine ⟨h1,sec_ext h2 (by rw [xorL_len];exact (hf a ha).1) fun i hi=>?_⟩
 rw [h3 i hi,xf_two _ a b hab,if_pos ha,if_pos hb,xl_at (hf a ha).1 hi]
theorem part_is (hon:S.off=false) {f:Nat->Sh.Bs} (hz:SumZ M f) (hf:∀m,m<M->Sh.Sec (f m)) {a b:Nat} (ha:a<M) (hb:b<M) (hab:a≠b) {X:Nat->Prop} (hX:∀m m',m<M->m'<M->X m->X m'->m=m')
  (h:∀m,m<M->seen S (numOf s M st m) k=some (f m)\/(X m/\seen S (numOf s M st m) k=none)) :
  (partR s M k st a b S).2.2=0/\(partR s M k st a b S).2.1=xorL (f a) (f b):=by
 unfold partR
 by_cases hl:∃m,m<M/\m≠a/\m≠b/\seen S (numOf s M st m) k=none
 ·obtain ⟨m,hm,hma,hmb,hn⟩:=hl
  have hXm:X m:=(h m hm).elim (fun e=>by rw [hn] at e;cases e) (fun e=>e.1)
  have h10:=tog_lacks (s:=s) (M:=M) (k:=k) (st:=st) (tk:=tkNeither a b) hon hm (by simp [tkNeither,hma,hmb]) hn
  rw [if_neg (by rw [h10];simp)]
  have hsm:=tog_same (s:=s) (M:=M) (k:=k) (st:=st) (S:=S) (tk:=tkNeither a b) M
  generalize (tog s M k st (tkNeither a b) S M).1=T at *
  have hthere:∀x,x<M->x≠m->seen T (numOf s M st x) k=some (f x):=fun x hx hxm=>by
   rw [seen_same hsm]
   exact (h x hx).elim id fun e=>absurd (hX x m hx hm e.1 hXm) hxm
  exact tog_either (hsm.off.trans hon) hf ha hb hab (hthere a ha (Ne.symm hma)) (hthere b hb (Ne.symm hmb))
 ·have hth:∀m,m<M->m≠a->m≠b->seen S (numOf s M st m) k=some (f m):=fun m hm hma hmb=>(h m hm).elim id fun e=>absurd ⟨m,hm,hma,hmb,e.2⟩ hl
  obtain ⟨h1,h2⟩:=tog_neither (s:=s) (k:=k) (st:=st) hon hz hf ha hb hab hth
  rw [if_pos (by rw [h1];decide)]
  exact ⟨h1,h2⟩
end
section
variable {LL M St d k m:Nat} {s:SuP} {U U':Set0} {S:Sh.Sf} {o:Nat->Int} {y:Int} {t:Stt}
end
section
variable {J:Vk} {w w':World} {s:SuP} {o:Nat->Int} {S:Sh.Sf} {F:Nat->Prop} {D U:Set0} {M St:Nat}
end
def SayB (S:Sh.Sf) (d b:Nat) (x:SuP):Prop:=x.disk=(d:Int)/\x.gen%2=(b:Int)/\Fit S.disks.length x/\2+2*x.logs.toNat+x.str.toNat<=blk S.sectors
instance (S:Sh.Sf) (d b:Nat) (x:SuP):Decidable (SayB S d b x):=by unfold SayB Fit;exact inferInstance
section
variable {B:Nat} {W w w':World} {v p t n mo mu:Nat} {s:SuP} {base:Int} {a:Nat->Nat} {o:Nat->Int} {g:Nat->Option Addr} {S S':Sh.Sf} {F:Nat->Prop}
end
section
variable {B:Nat} {W w w':World} {v p t n mo mu:Nat} {s:SuP} {base:Int} {a:Nat->Nat} {o:Nat->Int} {g:Nat->Option Addr} {S S':Sh.Sf} {F:Nat->Prop}
end
section
variable {S S':Sh.Sf} {d k:Nat} {o y o':Int} {b:Sh.Bs}
end
section
variable {B:Nat} {W w:World} {a p d:Nat} {o:Int} {S:Sh.Sf} {F:Nat->Prop}
end
section
variable {B:Nat} {W w w':World} {v p t n mo mu q:Nat} {s x:SuP} {base:Int} {a:Nat->Nat} {o:Nat->Int} {g:Nat->Option Addr} {S S':Sh.Sf} {F:Nat->Prop}
end
section
variable {B:Nat} {W w w':World} {v p t n mo mu:Nat} {s:SuP} {base:Int} {a:Nat->Nat} {o:Nat->Int} {g:Nat->Option Addr} {S S':Sh.Sf} {F:Nat->Prop}
end
end Go.Proofs.YtgebkmpmnjhceaaGreatDoor.U
