/-
  What the statement's proof rests on, part 30.
  Conditions: each theorem's own.
-/
import Derived.Test.YtgebkmpmnjhceaaGreatDoorV29
import Derived.Laws.CopyRow
import Derived.Test.YtgebkmpmnjhceaaGreatDoorVtk
open Go.Lib (hid)
open Go.Proofs.YtgebkmpmnjhceaaGreatDoor.S renaming Sup → SuP
namespace Go.Proofs.YtgebkmpmnjhceaaGreatDoor.U
open Go.RowKit Go.Maps
section
variable {B:Nat} {W w w':World} {v p t n mo mu L:Nat} {s:SuP} {base:Int} {a:Nat->Nat} {o:Nat->Int} {g:Nat->Option Addr} {S:Sh.Sf} {F:Nat->Prop}
theorem wpList_store_part {ops:Array Oper} {rest:List Oper} {o:Oper} {a:Act} {w:World} {Q:Exit->Act->World->Prop} (hgd:o.guard=none) (ty:TypeId) (x y:Operand) (ho:o.op=.store ty x y)
  (g off:Nat) (cells:Array Value) (hx:a.eval x=.pointer (some ⟨g,off,none⟩)) (hy:a.eval y=.agg cells) (t:TypeId) (old:Array Value) (hg:w.heap[g]?=some (.cells old t (0,0))) (hi:(Tryz.prog.info? ty).map (·.size)=some cells.size)
  (hfit:off+cells.size<=old.size) (h1:cells.all (·.oneCell')=true) (new:Array Value) (hnew:(old.toList.take off++cells.toList++old.toList.drop (off+cells.size)).toArray=new)
  (h:wpList Tryz.prog ops Q rest (a.put o.dst undef) (w.setRow g new)):wpList Tryz.prog ops Q (o :: rest) a w:=by
 subst hnew
 refine wpList_plain hgd fun K hK=>?_
 have hst:=run_storeCells_at (P:=Tryz.prog) g off t cells.toList 0 old w hg (by simpa using hfit) (fun v hv=>by
  rw [Array.all_eq_true_iff_forall_mem] at h1
  exact h1 v (Array.mem_toList_iff.1 hv))
 simp only [Nat.add_zero,Array.length_toList] at hst
 have hrun:(storeVar ty ⟨g,off,none⟩ (.agg cells)).run Tryz.prog w=.ok () (w.setRow g (old.toList.take off++cells.toList++old.toList.drop (off+cells.size)).toArray):=by
  cases hq:Tryz.prog.info? ty with
  | none=>simp [hq] at hi
  | some i =>
   have hs:cells.size=i.size:=by simp [hq] at hi;omega
   simp [storeVar,sizeOf,typeInfo,hq,Value.cells,hs,hst]
 unfold Oper.wp execOp
 simp only [ho,hx,hy,Instr.storeAt,Instr.sureAddr,Sem.run_bind,Sem.run_pure,Result.andThen_ok,hrun]
 exact hK _ _ h
theorem Vo.setRoot (h:Vo B W w v p t n mo mu s base a o g S F) (ne:v≠t/\mo≠v/\mu≠v) (ho:Sh.Only (fun b=>b=v) w w') {s':SuP} {base':Int}
  (hr:w'.heap[v]?=some (.cells #[.pointer (some ⟨p,0,none⟩),.int .i64 s'.gen,.int .i64 s'.mem,.int .i64 s'.disk,.int .i64 s'.str,.int .i64 s'.logs,.int .i64 s'.spare,.int .i64 s'.mark,.int .i64 s'.cur,.int .i64 base',.slice (some ⟨t,0,none⟩) n n,.map (some mo),.map (some mu)] 74 (0,0))) :
  Vo B W w' v p t n mo mu s' base' a o g S F:=by
 have hnx:∀b,AllB F a n b->b≠v:=fun b hb=>(h.apart b hb).1
 have hk:∀b,b<w.heap.size->b≠v->w'.heap[b]?=w.heap[b]?:=fun b hb hx=>ho.block b hb hx
 have hbel:Below B W w':=h.ds.on.bel.trans (ho.below (fun b e=>by rw [e];exact h.low.1) h.ds.on.size)
 exact ⟨⟨⟨h.ds.on.shelf.only ho (fun b hb e=>hnx b (.inl hb) e),h.ds.on.low,hbel,Nat.le_trans h.ds.on.size ho.size⟩,fun i hi=>(h.ds.dev i hi).same (hk _ (h.ds.dev i hi).lt (hnx _ (.inr ⟨i,hi,rfl⟩))),h.ds.apart,h.ds.inj,h.ds.low⟩,
  ⟨hr,Sh.same_row h.vol.row fun x hx=>by injection hx with hx;subst hx;exact hk _ h.vol.tlt (Ne.symm ne.1)⟩,h.apart,h.low,⟨Nat.lt_of_lt_of_le h.lt.1 ho.size,Nat.lt_of_lt_of_le h.lt.2 ho.size⟩⟩
theorem info_super8:(Tryz.prog.info? 69).map (·.size)=some 8:=by kernel_rfl
theorem LogsTo.same {w w':World} {gn:Nat->Nat} {j:Nat} (k:LogsTo B w v t mo mu n a gn L F j) (hk:∀i,i<j->w'.heap[gn i]?=w.heap[gn i]?):LogsTo B w' v t mo mu n a gn L F j :=
 ⟨fun i hi=>(k.log i hi).same (hk i hi),k.apart,k.low⟩
def S8 (v t n j q L ad:Nat) (W':World):Prop:=W'.cell? ⟨v,10,none⟩=some (.slice (some ⟨t,0,none⟩) n n)/\W'.cell? ⟨t,j*2,none⟩=some (.pointer (some ⟨ad,0,none⟩))/\W'.cell? ⟨q,4,none⟩=some (.int .i64 L)/\(W'.cell? ⟨t,j*2+1,none⟩).isSome=true/\W'.frozen? ⟨t,j*2+1,none⟩=false
theorem s8_grown {v t n j q L ad:Nat} {w w':World} (h:S8 v t n j q L ad w) (hv:v<w.heap.size) (ht:t<w.heap.size) (hq:q<w.heap.size) (hb:Below w.heap.size w w'):S8 v t n j q L ad w' :=
 ⟨(hb.cell (p:=⟨v,10,none⟩) hv).trans h.1,(hb.cell (p:=⟨t,j*2,none⟩) ht).trans h.2.1,(hb.cell (p:=⟨q,4,none⟩) hq).trans h.2.2.1,by rw [hb.cell (p:=⟨t,j*2+1,none⟩) ht];exact h.2.2.2.1,by rw [hb.frozen (p:=⟨t,j*2+1,none⟩) ht];exact h.2.2.2.2⟩
theorem s8_set {v t n j q L ad:Nat} {w:World} (h:S8 v t n j q L ad w) (hv:v≠t) (hq:q≠t) (u:Value):S8 v t n j q L ad (w.setCell ⟨t,j*2+1,none⟩ u) :=
 ⟨(World.cell?_setCell_far w ⟨t,j*2+1,none⟩ ⟨v,10,none⟩ u (Ne.symm hv)).trans h.1,(by apply World.cell?_setCell_other;intro e;injection e with _ e _;omega:(w.setCell ⟨t,j*2+1,none⟩ u).cell? ⟨t,j*2,none⟩=w.cell? ⟨t,j*2,none⟩).trans h.2.1,(World.cell?_setCell_far w ⟨t,j*2+1,none⟩ ⟨q,4,none⟩ u (Ne.symm hq)).trans h.2.2.1,by rw [World.cell?_setCell_same' w _ u h.2.2.2.1];rfl,by rw [World.frozen?_setCell];exact h.2.2.2.2⟩
def AsRel (B:Nat) (W w wr:World) (v p t n mo mu L:Nat) (x:SuP) (a:Nat->Nat) (o:Nat->Int) (S:Sh.Sf) (F:Nat->Prop) (j:Nat):Prop :=
 ∃gn g,Vo B W wr v p t n mo mu x ((2+2*L:Nat):Int) a o g S F/\(∀i,i<j->g i=some ⟨gn i,0,none⟩)/\LogsTo B wr v t mo mu n a gn L F j/\Sh.Only (fun b=>b=v\/b=t) w wr/\wr.heap[w.heap.size]?=some (.cells x.cells 69 (0,0))
set_option maxRecDepth 20000 in
set_option maxHeartbeats 4000000 in
theorem as_ok (h:Vo B W w v p t n mo mu s base a o g S F) (ne:v≠t/\mo≠v/\mu≠v) (hn:S.disks.length=n) (x:SuP) (hx:x.logs=(L:Int)) (h1:1<=L) (h2:L<=8) (hb:2+2*L<=blk S.sectors) :
  Calls Tryz.prog 63 #[.pointer (some ⟨v,0,none⟩),x.val] w fun e w'=>e=.returned (.tuple #[.pointer (some ⟨v,0,none⟩),.int .i64 0])/\AsRel B W w w' v p t n mo mu L x a o S F n:=by
 have h17:n<=17:=by
  obtain ⟨D,gs,q⟩:=h.ds.on.shelf
  have:=q.most
  omega
 have hbs:=hid (base_ok L h1 h2)
 generalize hbb:2+2*L=bs at hbs
 have HBB:=hid hbb
 clear hbb
 have hbw:Below w.heap.size w (w.alloc (.cells x.cells 69)):=(Below.refl _ _).alloc (Nat.le_refl _) _
 have hq:=heap_alloc_new w (.cells x.cells 69)
 have V0:=h.grown hbw
 have r0:=V0.vol.root
 have HV0:=hid (And.intro V0 (And.intro hq (And.intro hbw (And.intro h.vol.vlt h.vol.tlt))))
 have HXL:=hid hx
 have c4:=cell_of_row _ _ 4 _ _ _ hq
 have HC:Hid (x.cells=#[.int .i64 x.gen,.int .i64 x.mem,.int .i64 x.disk,.int .i64 x.str,.int .i64 x.logs,.int .i64 x.spare,.int .i64 x.mark,.int .i64 x.cur]):=hid rfl
 have HVL:Hid (x.val=.agg #[.int .i64 x.gen,.int .i64 x.mem,.int .i64 x.disk,.int .i64 x.str,.int .i64 x.logs,.int .i64 x.spare,.int .i64 x.mark,.int .i64 x.cur]):=hid rfl
 obtain ⟨k0,k1,k2,k3,k4,k5,k6,k7⟩:=sup_cells hq
 rw [HC.out,hx] at r0 HV0 k0 k1 k2 k3 k4 k5 k6 k7
 rw [HVL.out,hx]
 have hfit:1+(#[Value.int .i64 x.gen,.int .i64 x.mem,.int .i64 x.disk,.int .i64 x.str,.int .i64 L,.int .i64 x.spare,.int .i64 x.mark,.int .i64 x.cur]:Array Value).size<=(#[Value.pointer (some ⟨p,0,none⟩),.int .i64 s.gen,.int .i64 s.mem,.int .i64 s.disk,.int .i64 s.str,.int .i64 s.logs,.int .i64 s.spare,.int .i64 s.mark,.int .i64 s.cur,.int .i64 base,.slice (some ⟨t,0,none⟩) n n,.map (some mo),.map (some mu)]:Array Value).size:=by simp
 have hi8:(Tryz.prog.info? 69).map (·.size)=some (#[Value.int .i64 x.gen,.int .i64 x.mem,.int .i64 x.disk,.int .i64 x.str,.int .i64 L,.int .i64 x.spare,.int .i64 x.mark,.int .i64 x.cur]:Array Value).size:=info_super8
 have hone:(#[Value.int .i64 x.gen,.int .i64 x.mem,.int .i64 x.disk,.int .i64 x.str,.int .i64 L,.int .i64 x.spare,.int .i64 x.mark,.int .i64 x.cur]:Array Value).all (·.oneCell')=true:=by simp [Value.oneCell']
 clear h hbw hq V0 c4
 have hnew:((#[.pointer (some ⟨p,0,none⟩),.int .i64 s.gen,.int .i64 s.mem,.int .i64 s.disk,.int .i64 s.str,.int .i64 s.logs,.int .i64 s.spare,.int .i64 s.mark,.int .i64 s.cur,.int .i64 base,.slice (some ⟨t,0,none⟩) n n,.map (some mo),.map (some mu)]:Array Value).toList.take 1++(#[.int .i64 x.gen,.int .i64 x.mem,.int .i64 x.disk,.int .i64 x.str,.int .i64 L,.int .i64 x.spare,.int .i64 x.mark,.int .i64 x.cur]:Array Value).toList++(#[.pointer (some ⟨p,0,none⟩),.int .i64 s.gen,.int .i64 s.mem,.int .i64 s.disk,.int .i64 s.str,.int .i64 s.logs,.int .i64 s.spare,.int .i64 s.mark,.int .i64 s.cur,.int .i64 base,.slice (some ⟨t,0,none⟩) n n,.map (some mo),.map (some mu)]:Array Value).toList.drop (1+(#[.int .i64 x.gen,.int .i64 x.mem,.int .i64 x.disk,.int .i64 x.str,.int .i64 L,.int .i64 x.spare,.int .i64 x.mark,.int .i64 x.cur]:Array Value).size)).toArray=#[.pointer (some ⟨p,0,none⟩),.int .i64 x.gen,.int .i64 x.mem,.int .i64 x.disk,.int .i64 x.str,.int .i64 L,.int .i64 x.spare,.int .i64 x.mark,.int .i64 x.cur,.int .i64 base,.slice (some ⟨t,0,none⟩) n n,.map (some mo),.map (some mu)]:=by simp
 have rA:=setRow_heap (w.alloc (.cells #[.int .i64 x.gen,.int .i64 x.mem,.int .i64 x.disk,.int .i64 x.str,.int .i64 L,.int .i64 x.spare,.int .i64 x.mark,.int .i64 x.cur] 69)) v _ (#[.pointer (some ⟨p,0,none⟩),.int .i64 x.gen,.int .i64 x.mem,.int .i64 x.disk,.int .i64 x.str,.int .i64 L,.int .i64 x.spare,.int .i64 x.mark,.int .i64 x.cur,.int .i64 base,.slice (some ⟨t,0,none⟩) n n,.map (some mo),.map (some mu)]) _ _ (show _ from r0)
 have cA:=cell_of_row _ _ 9 _ _ _ rA
 have fA:=frozen_of_row _ _ 9 _ _ rA
 simp only [List.getElem?_toArray,List.getElem?_cons_zero,List.getElem?_cons_succ] at cA
 have rB:(((w.alloc (.cells #[.int .i64 x.gen,.int .i64 x.mem,.int .i64 x.disk,.int .i64 x.str,.int .i64 L,.int .i64 x.spare,.int .i64 x.mark,.int .i64 x.cur] 69)).setRow v #[.pointer (some ⟨p,0,none⟩),.int .i64 x.gen,.int .i64 x.mem,.int .i64 x.disk,.int .i64 x.str,.int .i64 L,.int .i64 x.spare,.int .i64 x.mark,.int .i64 x.cur,.int .i64 base,.slice (some ⟨t,0,none⟩) n n,.map (some mo),.map (some mu)]).setCell ⟨v,9,none⟩ (.int .i64 bs)).heap[v]?=some (.cells #[.pointer (some ⟨p,0,none⟩),.int .i64 x.gen,.int .i64 x.mem,.int .i64 x.disk,.int .i64 x.str,.int .i64 L,.int .i64 x.spare,.int .i64 x.mark,.int .i64 x.cur,.int .i64 bs,.slice (some ⟨t,0,none⟩) n n,.map (some mo),.map (some mu)] 74 (0,0)):=cells_set (i:=9) _ rA
 have cB:=cell_of_row _ _ 10 _ _ _ rB
 simp only [List.getElem?_toArray,List.getElem?_cons_zero,List.getElem?_cons_succ] at cB
 have HRB:=hid rB
 have HRA:=hid rA
 clear rA rB
 go_enter Tryz.func63,Tryz.ntmps63
 go_wp2_with (first
  | (go_at_call 98;refine (hbs.out _).mono ?_;rintro e w' ⟨rfl,rfl⟩)
  | (refine wpList_store_part rfl 69 (.tmp 23) (.tmp 20) rfl v 1 #[.int .i64 x.gen,.int .i64 x.mem,.int .i64 x.disk,.int .i64 x.str,.int .i64 L,.int .i64 x.spare,.int .i64 x.mark,.int .i64 x.cur] rfl rfl 74 _ r0 hi8 hfit hone _ hnew ?_))
 have hrel0:Hid (AsRel B W w (((w.alloc (.cells #[.int .i64 x.gen,.int .i64 x.mem,.int .i64 x.disk,.int .i64 x.str,.int .i64 L,.int .i64 x.spare,.int .i64 x.mark,.int .i64 x.cur] 69)).setRow v #[.pointer (some ⟨p,0,none⟩),.int .i64 x.gen,.int .i64 x.mem,.int .i64 x.disk,.int .i64 x.str,.int .i64 L,.int .i64 x.spare,.int .i64 x.mark,.int .i64 x.cur,.int .i64 base,.slice (some ⟨t,0,none⟩) n n,.map (some mo),.map (some mu)]).setCell ⟨v,9,none⟩ (.int .i64 bs)) v p t n mo mu L x a o S F 0):=hid (by
  obtain ⟨V0,hq,hbw,hvl,_⟩:=HV0.out
  have hO1:=(only_setRow (w.alloc (.cells #[.int .i64 x.gen,.int .i64 x.mem,.int .i64 x.disk,.int .i64 x.str,.int .i64 L,.int .i64 x.spare,.int .i64 x.mark,.int .i64 x.cur] 69)) v #[.pointer (some ⟨p,0,none⟩),.int .i64 x.gen,.int .i64 x.mem,.int .i64 x.disk,.int .i64 x.str,.int .i64 L,.int .i64 x.spare,.int .i64 x.mark,.int .i64 x.cur,.int .i64 base,.slice (some ⟨t,0,none⟩) n n,.map (some mo),.map (some mu)]).setCell (p:=⟨v,9,none⟩) (.inl rfl) (.int .i64 bs)
  have hqv:w.heap.size≠v:=by omega
  have hr:=HRB.out
  rw [<- hx,<- HBB.out] at hr
  refine ⟨fun _=>0,g,V0.setRoot ne hO1 (by rw [HBB.out,hx] at hr ⊢;exact hr),fun i hi=>absurd hi (by omega),⟨fun i hi=>absurd hi (by omega),fun i hi=>absurd hi (by omega),fun i hi=>absurd hi (by omega)⟩,(only_below _ hbw).trans (hO1.mono fun b e=>.inl e) (fun b e=>.inl e),?_⟩
  rw [hO1.block w.heap.size (lt_of_block hq) hqv,HC.out,hx]
  exact hq)
 have HX:=hid hx
 clear HRB HRA cA fA cB hnew hfit hone hi8 r0 k0 k1 k2 k3 k4 k5 k6 k7 HVL hx HXL
 generalize ((w.alloc (.cells #[.int .i64 x.gen,.int .i64 x.mem,.int .i64 x.disk,.int .i64 x.str,.int .i64 L,.int .i64 x.spare,.int .i64 x.mark,.int .i64 x.cur] 69)).setRow v #[.pointer (some ⟨p,0,none⟩),.int .i64 x.gen,.int .i64 x.mem,.int .i64 x.disk,.int .i64 x.str,.int .i64 L,.int .i64 x.spare,.int .i64 x.mark,.int .i64 x.cur,.int .i64 base,.slice (some ⟨t,0,none⟩) n n,.map (some mo),.map (some mu)]).setCell ⟨v,9,none⟩ (.int .i64 bs)=wS at *
 have HWV:Hid (v<w.heap.size/\t<w.heap.size):=hid HV0.out.2.2.2
 clear HV0
 go_loopw [31] (fun i wr=>∃j:Nat,j<=n/\i=.int .i64 j/\Hid (AsRel B W w wr v p t n mo mu L x a o S F j)) (fun i _=>n-(intOf i).toNat)
 case atStart=>exact ⟨0,Nat.zero_le _,rfl,hrel0⟩
 case round =>
  obtain ⟨j,hj,rfl,hrel⟩:=hrel
  by_cases hlt:j<n
  ·obtain ⟨gn,g2,V,hg,hlg,hO,hqr⟩:=hrel.out
   have hqt:w.heap.size≠t:=by have:=HWV.out.2;omega
   have hd:=drew_below wr
   have Vd:=V.grown hd
   have hqd:wr.drew.heap[w.heap.size]?=_:=hqr
   have hS8:S8 v t n j w.heap.size L (a j) wr.drew:=⟨Vd.vol.c10,Vd.vol.dev hlt,by have:=(sup_cells hqd).2.2.2.2.1;rw [HX.out] at this;exact this,by rw [Vd.vol.log hlt];rfl,Vd.vol.row.frozenAt _⟩
   have HLO:Hid (Calls Tryz.prog 99 #[.pointer (some ⟨a j,0,none⟩),.int .i64 L] wr.drew fun e w'=>∃b,e=.returned (.tuple #[.pointer (some ⟨b,0,none⟩),.int .i64 0])/\LogIs w' b (a j) L/\wr.heap.size<=b/\Below wr.drew.heap.size wr.drew w'):=hid ((logOpen_ok L h1 h2 (Vd.ds.dev j hlt) Vd.ds.on.shelf hb).mono (by
    rintro e w' ⟨rfl,hl,hbl⟩
    exact ⟨_,rfl,hl,Nat.le_refl _,hbl⟩))
   have HSZ:Hid (v<wr.drew.heap.size/\t<wr.drew.heap.size/\w.heap.size<wr.drew.heap.size):=hid ⟨Vd.vol.vlt,Vd.vol.tlt,lt_of_block hqd⟩
   have HQT:=hid hqt
   have HNE:=hid ne.1
   have HKP:=hid (And.intro Vd (And.intro hg (And.intro hlg (And.intro hO hqd))))
   have i10:=fun (W':World) (h:S8 v t n j w.heap.size L (a j) W')=>h.1
   have i0:=fun (W':World) (h:S8 v t n j w.heap.size L (a j) W')=>h.2.1
   have i4:=fun (W':World) (h:S8 v t n j w.heap.size L (a j) W')=>h.2.2.1
   clear V hg hlg hO hqr hd Vd hqd hrel hrel0 hqt
   go_wp2
   refine wp_region_held_drew (S:=S8 v t n j w.heap.size L (a j)) (by kernel_rfl) hS8 (fun hHeld=>?_)
   refine tk 0 35 ?_
   refine tk 1 36 ?_
   refine tk 2 37 ?_
   refine tk 3 38 ?_
   refine tk 4 39 ?_
   refine tk 5 40 ?_
   refine tk 6 41 ?_
   refine tk 7 42 ?_
   refine tk 8 43 ?_
   refine tk 9 44 ?_
   refine tk 10 45 ?_
   refine tk 11 46 ?_
   refine tk 12 47 ?_
   refine tk 13 48 ?_
   refine tk 14 49 ?_
   refine r1 15 (some 50) fun K hK=>?_
   go_simp
   refine (HLO.out).mono ?_
   rintro e w5 ⟨b,rfl,hlog,hb5,hbel5⟩
   refine hK.out _ _ (s8_grown hHeld HSZ.out.1 HSZ.out.2.1 HSZ.out.2.2 hbel5) (fun hHeld=>?_)
   clear hK K
   try simp only [Act.put,List.setIfInBounds_toArray,List.set_cons_zero,List.set_cons_succ]
   refine tk 16 34 ?_
   refine tk 17 51 ?_
   refine tk 18 52 ?_
   refine tk 19 53 ?_
   refine tk 20 54 ?_
   refine r1 21 none fun K hK=>?_
   rw [if_pos (by rfl)]
   obtain ⟨l5,hl5⟩:=Option.isSome_iff_exists.1 hHeld.2.2.2.1
   have f5:=hHeld.2.2.2.2
   go_simp
   refine hK.out _ _ (s8_set hHeld HNE.out HQT.out _) (fun hHeld=>?_)
   clear hK K hl5 f5
   try simp only [Act.put,List.setIfInBounds_toArray,List.set_cons_zero,List.set_cons_succ]
   refine tk 22 7 ?_
   refine wpAnyH_done (by kernel_rfl) ?_ _
   obtain ⟨Vd,hg,hlg,hO,hqd⟩:=HKP.out
   have V5:=(Vd.grown hbel5).putLog HNE.out j (some ⟨b,0,none⟩)
   have hlg5:=(hlg.same (w':=wr.drew) (fun i hi=>rfl)).next Vd hbel5 hlog hb5
   have HR:Hid (AsRel B W w (w5.setCell ⟨t,j*2+1,none⟩ (.pointer (some ⟨b,0,none⟩))) v p t n mo mu L x a o S F (j+1)):=hid ⟨atI gn j b,_,V5,fun i hi=>by
    unfold put1 atI
    by_cases e:i=j
    ·rw [if_pos e,if_pos e]
    ·rw [if_neg e,if_neg e];exact hg i (by omega),hlg5,((hO.trans (only_below _ (drew_below wr)) fun b e=>.inl e).trans (only_below _ hbel5) fun b e=>.inl e).setCell (p:=⟨t,j*2+1,none⟩) (.inl (.inr rfl)) _,(Sh.heap_set_other _ _ _ HQT.out).trans ((hbel5.block _ (lt_of_block hqd)).trans hqd)⟩
   clear Vd hg hlg hO hqd V5 hlg5 hHeld hlog hbel5 i10 i0 i4 hS8 HLO
   go_wp2
   go_roundw
   case rel=>exact ⟨j+1,by omega,by go_num,HR⟩
   case measure=>simp [intOf];omega
  ·obtain rfl:j=n:=by omega
   have HR:=hid hrel.out
   clear hrel hrel0
   go_wp2
   go_ret2
   exact ⟨rfl,HR.out⟩
end
section
variable {B:Nat} {W w w':World} {v p t n mo mu L:Nat} {s:SuP} {base:Int} {a:Nat->Nat} {o:Nat->Int} {g:Nat->Option Addr} {S:Sh.Sf} {F:Nat->Prop}
theorem isDead_disk (h:Vo B W w v p t n mo mu s base a o g S F) (hn:S.disks.length=n) (i:Nat) (hi:i<n) (G:Option Addr):Calls Tryz.prog 60 #[.agg #[.pointer (some ⟨a i,0,none⟩),.pointer G]] w fun e w'=>e=.returned (.bool (dk S i).dead)/\Below w.heap.size w w':=by
 have hb:Below w.heap.size w (w.alloc (.cells #[.pointer (some ⟨a i,0,none⟩),.pointer G] 98)):=(Below.refl _ _).alloc (Nat.le_refl _) _
 have HD:=hid (dead_dev ((h.grown hb).ds.dv hi) (by rw [hn];exact hi))
 have HB:=hid hb
 clear h hn hb
 go_enter Tryz.func60,Tryz.ntmps60
 go_wp2_with fail
 refine HD.out.mono ?_
 rintro e w' ⟨rfl,hb2⟩
 go_wp2
 go_ret
 exact ⟨rfl,HB.out.trans (hb2.mono HB.out.size)⟩
set_option maxRecDepth 20000 in
theorem indexDead (h:Vo B W w v p t n mo mu s base a o g S F) (hn:S.disks.length=n) (hd:∀i,i<n->(dk S i).dead=false):Calls Tryz.prog 95 #[.slice (some ⟨t,0,none⟩) n n,.func (.func 60) #[] #[]] w fun e w'=>e=.returned (.int .i64 (-1))/\Below w.heap.size w w':=by
 have h17:n<=17:=by
  obtain ⟨D,gs,q⟩:=h.ds.on.shelf
  have:=q.most
  omega
 have HH:=hid (And.intro h (And.intro hn hd))
 have hen:=enters_is (f:=60) Tryz.func60 (by kernel_rfl) rfl
 have hrel0:Hid (Below w.heap.size w w):=hid (Below.refl _ _)
 clear h hn hd
 go_enter Tryz.func95,Tryz.ntmps95
 go_wp2
 go_loopw [8] (fun i wr=>∃j:Nat,j<=n/\i=.int .i64 j/\Hid (Below w.heap.size w wr)) (fun i _=>n-(intOf i).toNat)
 case atStart=>exact ⟨0,Nat.zero_le _,rfl,hrel0⟩
 case round =>
  obtain ⟨j,hj,rfl,hrel⟩:=hrel
  by_cases hlt:j<n
  ·have V:=HH.out.1.grown hrel.out
   have d0:=V.vol.dev hlt
   have d1:=V.vol.log hlt
   have HC:=hid (isDead_disk V HH.out.2.1 j hlt (g j))
   rw [HH.out.2.2 j hlt] at HC
   clear V
   go_wp2_with fail
   refine HC.out.mono ?_
   rintro e w2 ⟨rfl,hb2⟩
   have HR:Hid (Below w.heap.size w w2):=hid (hrel.out.trans (hb2.mono hrel.out.size))
   clear hb2 d0 d1 HC
   go_wp2
   go_roundw
   case rel=>exact ⟨j+1,by omega,by go_num,HR⟩
   case measure=>simp [intOf];omega
  ·obtain rfl:j=n:=by omega
   go_wp2
   go_ret
   exact ⟨rfl,hrel.out⟩
theorem noneDead (h:Vo B W w v p t n mo mu s base a o g S F) (hn:S.disks.length=n) (hd:∀i,i<n->(dk S i).dead=false):Calls Tryz.prog 59 #[.slice (some ⟨t,0,none⟩) n n,.func (.func 60) #[] #[]] w fun e w'=>e=.returned (.bool false)/\Below w.heap.size w w':=by
 have HC:=hid (indexDead h hn hd)
 clear h hn hd
 go_enter Tryz.func59,Tryz.ntmps59
 go_wp2_with fail
 refine HC.out.mono ?_
 rintro e w' ⟨rfl,hb⟩
 go_wp2
 go_ret
 exact ⟨rfl,hb⟩
end
section
variable {B:Nat} {W w w':World} {v p t n mo mu L:Nat} {s:SuP} {base:Int} {a:Nat->Nat} {o:Nat->Int} {g:Nat->Option Addr} {S:Sh.Sf} {F:Nat->Prop}
end
def Still (S:Sh.Sf) (n:Nat) (v0:Nat->Nat->Sh.Bs):Prop:=∀d,d<n->(∀o,Jp S d o (fun c=>c=vals (dk S d)))/\(dk S d).waits=[]/\vals (dk S d)=v0 d
theorem Still.same {S T:Sh.Sf} {n:Nat} {v0:Nat->Nat->Sh.Bs} (h:Still S n v0) (k:Same S T):Still T n v0:=by
 intro d hd
 obtain ⟨h1,h2,h3⟩:=h d hd
 have e:dk T d=dk S d:=by unfold dk;rw [k.disks]
 rw [e]
 refine ⟨fun o=>?_,h2,h3⟩
 obtain ⟨j1,j2,j3⟩:=h1 o
 exact ⟨⟨by rw [k.disks];exact j1.lt,by rw [e];exact j1.alive,by rw [e,k.sectors];exact j1.len⟩,by rw [k.sectors,e];exact j2,fun x=>by rw [k.sectors,e];exact j3 (k.off.symm.trans x)⟩
theorem Still.fl {S:Sh.Sf} {n:Nat} {v0:Nat->Nat->Sh.Bs} (h:Still S n v0) (hc:Calms S n) {k:Nat} (hk:k<n):Still (Fl S k) n v0:=by
 intro d hd
 obtain ⟨h1,h2,h3⟩:=h d hd
 by_cases e:d=k
 ·subst e
  obtain ⟨j1,j2,j3⟩:=(h1 0).flush (hc d hd).on 0
  refine ⟨fun o=>?_,j3,j2.trans h3⟩
  obtain ⟨i1,i2,_⟩:=(h1 0).flush (hc d hd).on o
  rw [i2]
  exact i1
 ·have e2:dk (Fl S k) d=dk S d:=(alike_fl S k).2 d e
  rw [e2]
  refine ⟨fun o=>?_,h2,h3⟩
  exact (h1 o).alike (alike_fl S k) (fl_sectors S k) (fun _=>(hc d hd).on) e
theorem Still.fd {S:Sh.Sf} {n:Nat} {v0:Nat->Nat->Sh.Bs} (h:Still S n v0) (hc:Calms S n) {k:Nat} (hk:k<=n):Still (fdS S k).1 n v0:=by
 induction k with
 | zero=>exact h
 | succ k ih =>
  obtain ⟨h1,h2⟩:=fdS_calm hc (k:=k) (by omega)
  rw [fdS_succ S h1]
  exact (ih (by omega)).fl h2 (by omega)
theorem still_new {n s:Nat}:Still (Sh.newSf n s) n (fun d=>vals (dk (Sh.newSf n s) d)):=by
 intro d hd
 have hj:=(Jp.new (n:=n) (s:=s) hd).1
 have hk:dk (Sh.newSf n s) d=Sh.newDk s:=by
  unfold dk
  show (List.replicate n (Sh.newDk s)).getD d default=_
  simp [List.getD,hd]
 have hw:(dk (Sh.newSf n s) d).waits=[]:=by rw [hk];rfl
 refine ⟨fun o=>?_,hw,rfl⟩
 have hn:=(hj.neat rfl).any hw o
 have hv:=vals_nil hw
 exact Jp.of hj.one ⟨hn.secs,hn.fits,hn.good,hv.symm,.inl hw⟩
section
variable {B:Nat} {W w w':World} {v p t n mo mu L:Nat} {s:SuP} {base:Int} {a:Nat->Nat} {o:Nat->Int} {g:Nat->Option Addr} {S:Sh.Sf} {F:Nat->Prop}
theorem Vo.same_g (h:Vo B W w v p t n mo mu s base a o g S F) {g':Nat->Option Addr} (hg:∀i,i<n->g i=g' i):Vo B W w v p t n mo mu s base a o g' S F:=by
 refine ⟨h.ds,⟨h.vol.root,?_⟩,h.apart,h.low,h.lt⟩
 have e:Sh.rowOf (dvG a g) n 2=Sh.rowOf (dvG a g') n 2:=Sh.rowOf_congr (by decide) fun i c hi _=>by
  unfold dvG
  rw [hg i hi]
 rw [<- e]
 exact h.vol.row
def newSaid (M St L:Nat):SuP:=⟨1,M,0,St,L,-1,0,0⟩
structure Born (S:Sh.Sf) (n sc M St L:Nat) (o:Nat->Int):Prop where
 calm:Calms S n
 len:S.disks.length=n
 sectors:S.sectors=sc
 waits:∀x∈S.disks,x.waits.length<=100
 disk:∀d,d<n->Jp S d (o d) (fun c=>c=vals (dk S d))/\vals (dk S d)=upd (vals (dk (Sh.newSf n sc) d)) 1 (Go.Proofs.YtgebkmpmnjhceaaGreatDoor.S.encL ({ newSaid M St L with disk:=(d:Int) }:SuP).nums)/\(dk S d).waits=[]
theorem said_right {M St L d:Nat} (m3:3<=M) (m16:M<=16) (s1:1<=St) (s2:St<=1024) (l1:1<=L) (l2:L<=8) (hd:d<=M):({ newSaid M St L with disk:=(d:Int) }:SuP).right=true:=by
 unfold newSaid Go.Proofs.YtgebkmpmnjhceaaGreatDoor.S.Sup.right Go.Proofs.YtgebkmpmnjhceaaGreatDoor.S.Sup.most
 simp
 omega
theorem keepB {o':Nat->Int} {S':Sh.Sf} (hG:VGoes B W w w' v p t n mo mu s base a o' g S' F):∃F',Vo B W w' v p t n mo mu s base a o' g S' F'/\Sh.Moves (AllB F a n) w (AllB F' a n) w'/\∀b,b<w.heap.size->¬AllB F a n b->w'.heap[b]?=w.heap[b]?/\¬AllB F' a n b:=by
 obtain ⟨F',V,m⟩:=hG
 exact ⟨F',V,m,fun b hb hn=>⟨m.1.block b hb hn,fun e=>(m.2 b e).elim hn (fun e=>by omega)⟩⟩
theorem empty_set {k:TypeId} {b:Nat} (h:w.heap[b]?=some (.map #[] 0)):SetIs w k b noSet:=⟨#[],0,h,⟨by simp,MapKept.stamped_empty 0,by simp⟩,Nat.zero_le _,rfl⟩
set_option maxRecDepth 20000 in
set_option maxHeartbeats 4000000 in
theorem create_new {sc:Nat} (h:Sh.At B W w p (Sh.newSf n sc) F) (hT:Tabs W) (hTB:max 0 1+1<=B) (hWi:Go.Proofs.YtgebkmpmnjhceaaGreatDoor.S.Wid W) (hWB:2+1<=B)
  (M St L:Nat) (m3:3<=M) (m16:M<=16) (s1:1<=St) (s2:St<=1024) (l1:1<=L) (l2:L<=8) (hn:n=M\/n=M+1) (hb:2+2*L+St<=blk sc) :
  Calls Tryz.prog 24 #[.pointer (some ⟨p,0,none⟩),.int .i64 M,.int .i64 St,.int .i64 L] w fun e w'=>∃(J:Vk) (F':Nat->Prop) (o:Nat->Int) (S:Sh.Sf),e=.returned (.tuple #[.pointer (some ⟨J.v,0,none⟩),.int .i64 0])/\J.B=B/\J.W=W/\J.p=p/\J.n=n/\J.L=L/\Vr J w' (newSaid M St L) o S F' noSet noSet/\Born S n sc M St L o/\Sh.Moves F w (AllV J F') w':=by
 have hlen:(Sh.newSf n sc).disks.length=n:=by simp [Sh.newSf]
 have HO:=hid (over_ok w p n h.shelf hlen (by omega) (by omega))
 have HH:=hid h
 have hr:=said_right (M:=M) (St:=St) (L:=L) (d:=0) m3 m16 s1 s2 l1 l2 (by omega)
 have hrd:Hid (∀d,d<n->({ newSaid M St L with disk:=(d:Int) }:SuP).right=true):=hid fun d hd=>said_right m3 m16 s1 s2 l1 l2 (by omega)
 clear h
 go_enter Tryz.func24,Tryz.ntmps24
 go_wp2_with fail
 refine HO.out.mono ?_
 rintro e w1 ⟨v,t,mo,mu,a,rfl,hO⟩
 clear HO
 have hb1:Below w1.heap.size w1 (w1.alloc (.cells (newSaid M St L).cells 69)):=(Below.refl _ _).alloc (Nat.le_refl _) _
 have HQ:=hid (heap_alloc_new w1 (.cells (newSaid M St L).cells 69))
 have V0:=over_vo HH.out hO
 have V1:=V0.grown hb1
 have HNE:Hid (v≠t/\mo≠v/\mo≠t/\mo≠mu/\mu≠v/\mu≠t):=hid (by obtain ⟨_,o2,o3,o4⟩:=hO.ord;omega)
 have HMS:Hid (w1.heap[mo]?=some (.map #[] 0)/\w1.heap[mu]?=some (.map #[] 0)):=hid ⟨hO.opens,hO.used⟩
 have HBW:=hid (hO.bel.trans (hb1.mono hO.bel.size))
 have HAW:Hid (∀b,AllB F a n b\/b=v\/b=t\/b=mo\/b=mu->F b\/w.heap.size<=b):=hid fun b hb=>by
  obtain ⟨o1,o2,o3,o4⟩:=hO.ord
  rcases hb with (e | ⟨i,hi,rfl⟩) | rfl | rfl | rfl | rfl
  ·exact .inl e
  ·have:=hO.low i hi;exact .inr (by omega)
  all_goals exact .inr (by omega)
 have HV1:=hid V1
 have HB1:=hid hb1
 have HFT:=hid (fits_yes V1 hlen (newSaid M St L) St L rfl rfl l1 l2 s1 s2 hr (by unfold Fit newSaid;rcases hn with e | e;exact .inl ⟨by show (n:Int)=(M:Int);omega,rfl⟩;exact .inr (by show (n:Int)=(M:Int)+1;omega)) hb)
 obtain ⟨k0,k1,k2,k3,k4,k5,k6,k7⟩:=sup_cells HQ.out
 have HXV:Hid ((newSaid M St L).val=.agg #[.int .i64 1,.int .i64 M,.int .i64 0,.int .i64 St,.int .i64 L,.int .i64 (-1),.int .i64 0,.int .i64 0]):=hid rfl
 have HXC:Hid ((newSaid M St L).cells=#[.int .i64 1,.int .i64 M,.int .i64 0,.int .i64 St,.int .i64 L,.int .i64 (-1),.int .i64 0,.int .i64 0]):=hid rfl
 rw [HXC.out] at k0 k1 k2 k3 k4 k5 k6 k7 HQ HBW HV1 HB1 HFT
 rw [HXV.out] at HFT
 have hXg:(newSaid M St L).gen=1:=rfl
 have hXm:(newSaid M St L).mem=M:=rfl
 simp only [newSaid] at k0 k1 k2 k3 k4 k5 k6 k7
 have HQN:Hid (¬AllB F a n w1.heap.size):=hid fun e=>Nat.lt_irrefl _ (V0.ds.lt _ e)
 have HLT1:=hid V0.lt
 have HAP:=hid V0.apart
 clear hO hb1 V0 V1
 go_wp2_with fail
 generalize w1.alloc (.cells #[.int .i64 1,.int .i64 M,.int .i64 0,.int .i64 St,.int .i64 L,.int .i64 (-1),.int .i64 0,.int .i64 0] 69)=w2 at *
 generalize w1.heap.size=q at *
 refine HFT.out.mono ?_
 rintro e w3 ⟨rfl,hb3⟩
 have V3:=HV1.out.grown hb3
 have hq3:=(hb3.block q (lt_of_block HQ.out)).trans HQ.out
 have HC3:=hid (noneDead V3 hlen (fun d hd=>(calm_new (m:=n) (n:=sc) hd).alive))
 have c10:=V3.vol.c10
 have HMSA:Hid (∀wX:World,wX.heap[mo]?=some (.map #[] 0)/\wX.heap[mu]?=some (.map #[] 0)->mo<wX.heap.size/\mu<wX.heap.size):=hid fun wX h=>⟨(Array.getElem?_eq_some_iff.1 h.1).1,(Array.getElem?_eq_some_iff.1 h.2).1⟩
 have ms2:w2.heap[mo]?=some (.map #[] 0)/\w2.heap[mu]?=some (.map #[] 0):=⟨(HB1.out.block mo HLT1.out.1).trans HMS.out.1,(HB1.out.block mu HLT1.out.2).trans HMS.out.2⟩
 have ms3:w3.heap[mo]?=some (.map #[] 0)/\w3.heap[mu]?=some (.map #[] 0):=⟨(hb3.block mo (HMSA.out _ ms2).1).trans ms2.1,(hb3.block mu (HMSA.out _ ms2).2).trans ms2.2⟩
 have on3:=HBW.out.trans (hb3.mono HBW.out.size)
 have HK3:=hid (And.intro V3 hq3)
 have HM3:=hid (And.intro ms3 on3)
 clear hb3 V3 hq3 ms2 ms3 on3 k0 k1 k2 k3 k4 k5 k6 k7 HFT
 go_wp2_with fail
 refine HC3.out.mono ?_
 rintro e w4 ⟨rfl,hb4⟩
 have V4:=HK3.out.1.grown hb4
 have hq4:=(hb4.block q (lt_of_block HK3.out.2)).trans HK3.out.2
 obtain ⟨k0,k1,k2,k3,k4,k5,k6,k7⟩:=sup_cells (x:=newSaid M St L) hq4
 simp only [newSaid] at k0 k1 k2 k3 k4 k5 k6 k7
 have HNO:=hid (noughts_calm V4 hT hTB hlen (fun x hx=>by have:=new_small n sc x hx;omega) (fun d hd=>calm_new hd) (newSaid M St L) St L rfl rfl l1 l2 s1 s2 hb (fun d hd k hk=>by
  have hkb:k<blk sc:=by omega
  obtain ⟨e1,e2,_⟩:=sum_of_lt hkb
  have v1:=V_new (m:=n) (n:=sc) hd e2
  have v2:=V_new (m:=n) (n:=sc) hd e1
  exact ⟨good_noughts v1 v2,v2⟩))
 rw [HXV.out] at HNO
 have HK4:=hid (And.intro V4 hq4)
 have ms4:w4.heap[mo]?=some (.map #[] 0)/\w4.heap[mu]?=some (.map #[] 0):=⟨(hb4.block mo (HMSA.out _ HM3.out.1).1).trans HM3.out.1.1,(hb4.block mu (HMSA.out _ HM3.out.1).2).trans HM3.out.1.2⟩
 have HM4:=hid (And.intro ms4 (HM3.out.2.trans (hb4.mono HM3.out.2.size)))
 clear ms4
 clear hb4 V4 hq4 HC3 c10
 go_wp2_with fail
 refine HNO.out.mono ?_
 rintro e w5 ⟨rfl,o5,T5,hsm5,hG5⟩
 obtain ⟨F5,V5,m5,hk5⟩:=keepB hG5
 obtain ⟨hq5,hqn5⟩:=hk5 q (lt_of_block HK4.out.2) HQN.out
 have hq5b:=hq5.trans HK4.out.2
 have hst5:=((still_new (n:=n) (s:=sc)).same hsm5).fd (fun d hd=>hsm5.calm (calm_new hd)) (Nat.le_refl n)
 have hc5:=(fdS_calm (fun d hd=>hsm5.calm (calm_new (m:=n) (n:=sc) hd)) (Nat.le_refl n)).2
 have hl5:(fdS T5 n).1.disks.length=n:=by rw [fdS_length,hsm5.disks];exact hlen
 have hs5:(fdS T5 n).1.sectors=sc:=by rw [fdS_sectors,hsm5.sectors];rfl
 have hw5:∀x∈(fdS T5 n).1.disks,x.waits.length<=0:=by
  intro x hx
  obtain ⟨d,hd,rfl⟩:=List.mem_iff_getElem.1 hx
  have e:(fdS T5 n).1.disks[d]=dk (fdS T5 n).1 d:=by unfold dk;simp [List.getD,hd]
  rw [e,(hst5 d (by rw [hl5] at hd;exact hd)).2.1]
  exact Nat.le_refl 0
 generalize (fdS T5 n).1=S5 at *
 obtain ⟨k0,k1,k2,k3,k4,k5,k6,k7⟩:=sup_cells (x:=newSaid M St L) hq5b
 simp only [newSaid] at k0 k1 k2 k3 k4 k5 k6 k7
 have HSY:=hid (say_calm V5 hT hTB hWi hWB hl5 (newSaid M St L) hrd.out (Ps:=fun d c=>c=vals (dk S5 d)) (fun d hd=>(hst5 d hd).1 _) hc5 (by rw [hs5];omega) hw5 (by omega))
 rw [HXV.out] at HSY
 have hmoF:¬AllB F a n mo:=fun e=>(HAP.out mo e).2.2.1 rfl
 have hmuF:¬AllB F a n mu:=fun e=>(HAP.out mu e).2.2.2 rfl
 have HM5:Hid ((w5.heap[mo]?=some (.map #[] 0)/\w5.heap[mu]?=some (.map #[] 0))/\Sh.Only F w w5/\(∀b,AllB F5 a n b->F b\/w.heap.size<=b)/\¬AllB F5 a n mo/\¬AllB F5 a n mu):=hid (by
  obtain ⟨l1,l2⟩:=HMSA.out _ HM4.out.1
  exact ⟨⟨(hk5 mo l1 hmoF).1.trans HM4.out.1.1,(hk5 mu l2 hmuF).1.trans HM4.out.1.2⟩,(only_below F HM4.out.2).trans m5.1 (fun b e=>HAW.out b (.inl e)),fun b e=>(m5.2 b e).elim (fun e=>HAW.out b (.inl e)) (fun e=>.inr (Nat.le_trans HM4.out.2.size e)),(hk5 mo l1 hmoF).2,(hk5 mu l2 hmuF).2⟩)
 clear hmoF hmuF
 have HK5:=hid (And.intro V5 (And.intro m5 (And.intro hk5 (And.intro hq5b hqn5))))
 have HS5:=hid (And.intro hst5 (And.intro hl5 hs5))
 clear hG5 V5 m5 hk5 hq5 hqn5 hq5b hst5 hc5 hl5 hs5 hw5 hsm5 HNO
 go_wp2_with fail
 refine HSY.out.mono ?_
 rintro e w6 ⟨rfl,T6,o6,hSy,hc6,hG6⟩
 obtain ⟨F6,V6,m6,hk6⟩:=keepB hG6
 obtain ⟨hq6,hqn6⟩:=hk6 q (lt_of_block HK5.out.2.2.2.1) HK5.out.2.2.2.2
 have hq6b:=hq6.trans HK5.out.2.2.2.1
 obtain ⟨k0,k1,k2,k3,k4,k5,k6,k7⟩:=sup_cells (x:=newSaid M St L) hq6b
 simp only [newSaid] at k0 k1 k2 k3 k4 k5 k6 k7
 have HAS:=hid (as_ok V6 ⟨HNE.out.1,HNE.out.2.1,HNE.out.2.2.2.2.1⟩ (by rw [hSy.len];exact HS5.out.2.1) (newSaid M St L) rfl l1 l2 (by rw [hSy.sectors,HS5.out.2.2];omega))
 rw [HXV.out] at HAS
 have HM6:Hid ((w6.heap[mo]?=some (.map #[] 0)/\w6.heap[mu]?=some (.map #[] 0))/\Sh.Only F w w6/\(∀b,AllB F6 a n b->F b\/w.heap.size<=b)):=hid (by
  obtain ⟨l1,l2⟩:=HMSA.out _ HM5.out.1
  obtain ⟨ms,on,hA,n1,n2⟩:=HM5.out
  exact ⟨⟨(hk6 mo l1 n1).1.trans ms.1,(hk6 mu l2 n2).1.trans ms.2⟩,on.trans m6.1 hA,fun b e=>(m6.2 b e).elim (hA b) (fun e=>.inr (Nat.le_trans on.size e))⟩)
 have HK6:=hid (And.intro V6 (And.intro m6 (And.intro hk6 (And.intro hSy hc6))))
 clear hG6 V6 m6 hk6 hq6 hqn6 hq6b hSy hc6 HSY
 go_wp2_with fail
 refine HAS.out.mono ?_
 rintro e w7 ⟨rfl,gn,g7,V7,hg7,hl7,hO7,_⟩
 have HK7:=hid (And.intro V7 (And.intro hg7 (And.intro hl7 hO7)))
 clear V7 hg7 hl7 hO7 HAS k0 k1 k2 k3 k4 k5 k6 k7
 go_wp2
 go_ret2
 obtain ⟨V7,hg7,hl7,hO7⟩:=HK7.out
 obtain ⟨l1,l2⟩:=HMSA.out _ HM6.out.1
 have hne:=HNE.out
 have ms7:w7.heap[mo]?=some (.map #[] 0)/\w7.heap[mu]?=some (.map #[] 0):=⟨(hO7.block mo l1 (fun e=>e.elim hne.2.1 hne.2.2.1)).trans HM6.out.1.1,(hO7.block mu l2 (fun e=>e.elim hne.2.2.2.2.1 hne.2.2.2.2.2)).trans HM6.out.1.2⟩
 obtain ⟨_,_,_,hSy,hc6⟩:=HK6.out
 obtain ⟨hst5,hl5,hs5⟩:=HS5.out
 refine ⟨⟨B,W,v,p,t,n,mo,mu,L,a,gn⟩,F6,o6,T6,rfl,rfl,rfl,rfl,rfl,rfl,⟨V7.same_g hg7,hl7,hne,empty_set ms7.1,empty_set ms7.2⟩,⟨hc6,hSy.len.trans hl5,hSy.sectors.trans hs5,fun x hx=>?_,fun d hd=>?_⟩,HM6.out.2.1.trans hO7 (fun b e=>HAW.out b (e.elim (fun e=>.inr (.inl e)) (fun e=>.inr (.inr (.inl e))))),?_⟩
 ·have:=hSy.waits x hx
  omega
 ·obtain ⟨d1,d2,d3⟩:=hSy.done d hd
  rw [d2]
  refine ⟨d1,?_,d3⟩
  unfold saidOn
  rw [(hst5 d hd).2.2]
  rfl
 ·rintro b (e | e)
  ·exact HM6.out.2.2 b e
  ·exact HAW.out b (.inr e)
end
section
variable {J:Vk} {w w':World} {s:SuP} {o:Nat->Int} {S:Sh.Sf} {F:Nat->Prop} {D U:Set0} {M St:Nat}
theorem hasStripe_yes (h:Vr J w s o S F D U) (hf:Fits J.n J.L s M St S) (st:Nat) (hst:st<St):Calls Tryz.prog 44 #[.pointer (some ⟨J.v,0,none⟩),.int .i64 st] w fun e w'=>e=.returned (.bool true)/\w=w':=by
 have c4:=cell_of_row _ _ 4 _ _ _ h.vo.vol.root
 simp only [List.getElem?_toArray,List.getElem?_cons_zero,List.getElem?_cons_succ,hf.str] at c4
 have HST:=hid hst
 clear h hf hst
 go_enter Tryz.func44,Tryz.ntmps44
 go_wp2
 go_ret
 refine ⟨?_,rfl⟩
 show Ending.returned (Value.bool (decide (st<St)))=_
 rw [decide_eq_true HST.out]
def wholeV (r:Sh.Sf × Sh.Bs × Int):Value:=if r.2.2=0 then .tuple #[.bool (decide (r.2.1=Sh.noughts)),.int .i64 0] else if r.2.2=10 then .tuple #[.bool false,.int .i64 0] else .tuple #[.bool false,.int .i64 r.2.2]
theorem whole_any (h:Vr J w s o S F D U) (hf:Fits J.n J.L s M St S) (hT:Tabs J.W) (hTB:max 0 1+1<=J.B) (st:Nat) (hst:st<St) :
  Calls Tryz.prog 14 #[.pointer (some ⟨J.v,0,none⟩),.int .i64 st] w fun e w'=>e=.returned (wholeV (tog s M (2+2*J.L+st) st (fun _=>true) S M))/\RStay J w w' s o (tog s M (2+2*J.L+st) st (fun _=>true) S M).1 F D U:=by
 have HS:=hid (hasStripe_yes h hf st hst)
 have HT:=hid (together_any h hf hT hTB st hst (fun _=>true) 46 #[] (enters_is Tryz.func46 (by kernel_rfl) rfl) (fun m w1 _ _=>cl_whole m w1))
 unfold wholeV
 generalize tog s M (2+2*J.L+st) st (fun _=>true) S M=r at *
 obtain ⟨S1,x1,y1⟩:=r
 simp only at HT ⊢
 generalize hv:(if y1=0 then Value.tuple #[.bool (decide (x1=Sh.noughts)),.int .i64 0] else if y1=10 then .tuple #[.bool false,.int .i64 0] else .tuple #[.bool false,.int .i64 y1])=V at *
 have HVV:=hid hv
 clear h hf hT hTB hst hv
 go_enter Tryz.func14,Tryz.ntmps14
 go_wp2_with (go_at_call 44;refine HS.out.mono ?_;rintro e w' ⟨rfl,rfl⟩)
 refine HT.out.mono ?_
 rintro e w3 ⟨⟨A,n,c,rfl,hX⟩,hs⟩
 have HSS:=hid hs
 clear hs HT HS
 by_cases h0:y1=0
 ·subst h0
  obtain ⟨rfl,hb⟩:n=128/\Sh.Bytes w w3 A x1:=by
   rcases hX with ⟨_,h1,h2⟩ | ⟨h1,_⟩
   ·exact ⟨h1,h2⟩
   ·exact absurd rfl h1
  obtain ⟨ad,rfl⟩:=bytes_some hb
  have HN:=hid (rNoughts_any ad c x1 w3 hb.1)
  have HV2:=hid HVV.out
  rw [if_pos rfl] at HV2
  clear HVV
  generalize decide (x1=Sh.noughts)=q at *
  clear hX hb
  go_wp2_with (go_at_call 42;refine HN.out.mono ?_;rintro e w' ⟨rfl,rfl⟩)
  go_ret2
  exact ⟨by rw [<- HV2.out];rfl,HSS.out⟩
 ·have HV2:=hid HVV.out
  rw [if_neg h0] at HV2
  clear HVV
  have hq2:(y1 == 0)=false:=by simpa using h0
  by_cases h10:y1=10
  ·subst h10
   rw [if_pos rfl] at HV2
   clear hX h0
   go_wp2
   go_ret2
   exact ⟨by rw [<- HV2.out];rfl,HSS.out⟩
  ·rw [if_neg h10] at HV2
   have hq3:(y1 == 10)=false:=by simpa using h10
   clear hX h0 h10
   go_wp2
   go_ret2
   exact ⟨by rw [<- HV2.out];rfl,HSS.out⟩
def memDead (s:SuP) (M St:Nat) (S:Sh.Sf) (m:Nat):Bool:=(dk S (numOf s M 0 m)).dead || (dk S (numOf s M (St-1) m)).dead
set_option maxRecDepth 20000 in
theorem isDead_any (h:Vr J w s o S F D U) (hf:Fits J.n J.L s M St S) (m:Nat) (hm:m<M) :
  Calls Tryz.prog 65 #[.pointer (some ⟨J.v,0,none⟩),.int .i64 m] w fun e w'=>e=.returned (.bool (memDead s M St S m))/\Below w.heap.size w w':=by
 have h0:=hf.num_lt 0 hm
 have h1:=hf.num_lt (St-1) hm
 have HD1:=hid (diskOf_ok h.vo.vol hf.mem 0 m h0)
 have HD2:=hid (fun (w1:World) (hb:Below w.heap.size w w1)=>diskOf_ok (h.grown hb).vo.vol hf.mem (St-1) m h1)
 have HE1:=hid (fun (w1:World) (hb:Below w.heap.size w w1)=>dead_dev ((h.grown hb).dv h0) (by rw [hf.len];exact h0))
 have HE2:=hid (fun (w1:World) (hb:Below w.heap.size w w1)=>dead_dev ((h.grown hb).dv h1) (by rw [hf.len];exact h1))
 have HC4:Hid (∀w1,Below w.heap.size w w1->w1.cell? ⟨J.v,4,none⟩=some (.int .i64 St)):=hid fun w1 hb=>by
  have c4:=cell_of_row _ _ 4 _ _ _ (h.grown hb).vo.vol.root
  simp only [List.getElem?_toArray,List.getElem?_cons_zero,List.getElem?_cons_succ,hf.str] at c4
  exact c4
 have hs1:(St:Int)-1=((St-1:Nat):Int):=by have:=hf.s1;omega
 have hs2:=hf.s2
 have hfd:=field_disk
 unfold memDead
 generalize (dk S (numOf s M 0 m)).dead=d0 at *
 generalize (dk S (numOf s M (St-1) m)).dead=d1 at *
 generalize numOf s M 0 m=n0 at *
 generalize numOf s M (St-1) m=n1 at *
 rw [<- hs1] at HD2
 clear h hf hm hs1
 go_enter Tryz.func65,Tryz.ntmps65
 go_wp2_with fail
 refine HD1.out.mono ?_
 rintro e w1 ⟨rfl,hb1⟩
 have HB1:=hid hb1
 have HE:=hid (HE1.out w1 hb1)
 clear hb1
 go_wp2_with fail
 refine HE.out.mono ?_
 rintro e w2 ⟨rfl,hb2⟩
 have HB2:=hid (HB1.out.trans (hb2.mono HB1.out.size))
 clear hb2 HE
 cases d0
 ·have c4:=HC4.out w2 HB2.out
  have HDD:=hid (HD2.out w2 HB2.out)
  go_wp2_with fail
  refine HDD.out.mono ?_
  rintro e w3 ⟨rfl,hb3⟩
  have HB3:=hid (HB2.out.trans (hb3.mono HB2.out.size))
  have HEE:=hid (HE2.out w3 HB3.out)
  clear hb3 HDD c4
  go_wp2_with fail
  refine HEE.out.mono ?_
  rintro e w4 ⟨rfl,hb4⟩
  have HB4:=hid (HB3.out.trans (hb4.mono HB3.out.size))
  clear hb4 HEE
  go_wp2
  go_ret
  exact ⟨rfl,HB4.out⟩
 ·go_wp2
  go_ret
  exact ⟨rfl,HB2.out⟩
end
open Go.ChangeShapes Go.WideShapes Go.ChangeAt
def SwR (S:Sh.Sf) (d:Nat) (o:Int) (k:Nat) (b:Sh.Bs) (y z:Int) (S':Sh.Sf):Prop :=
 ∃y1 o1 S1,DW S d o k b y1 o1 S1/\((y1≠0/\y=y1/\z=o1/\S'=S1)\/(y1=0/\y=Sh.why S1 d/\z=shut (Sh.why S1 d) o1/\S'=Fl S1 d))
section
variable {J:Vk} {w w':World} {s:SuP} {o:Nat->Int} {S S':Sh.Sf} {F:Nat->Prop} {D U:Set0} {M St d k mm:Nat} {y z:Int} {b:Sh.Bs}
theorem SwR.waits {oo:Int} (h:SwR S d oo k b y z S') (hL:∀x∈S.disks,x.waits.length<=mm):∀x∈S'.disks,x.waits.length<=mm+3:=by
 obtain ⟨y1,o1,S1,hD,⟨_,_,_,rfl⟩ | ⟨_,_,_,rfl⟩⟩:=h
 ·exact hD.waits hL
 ·exact fun x hx=>Nat.le_of_lt_succ (fl_waits (m:=mm+4) (fun x hx=>by have:=hD.waits hL x hx;omega) x hx)
set_option maxRecDepth 20000 in
theorem vsure (h:Vr J w s o S F D U) (hf:Fits J.n J.L s M St S) (hT:Tabs J.W) (hTB:max 0 1+1<=J.B) (st:Nat) (hst:st<St) (d:Nat) (hd:d<J.n) (g:Option Addr) {A:Option Addr} {c:Nat}
  (hb:Sh.Sec b) (hA:Sh.Beside w (AllV J F) A b) (hL:∀x∈S.disks,x.waits.length<=mm) (hm:mm<=800000000) :
  Calls Tryz.prog 111 #[.agg #[.pointer (some ⟨J.a d,0,none⟩),.pointer g],.int .i64 (((2+2*J.L:Nat):Int)+(st:Int)),.slice A 128 c] w fun e w' =>
   ∃(y z:Int) (S':Sh.Sf),e=.returned (.int .i64 y)/\SwR S d (o d) (2+2*J.L+st) b y z S'/\RGoes J w w' s (put1 o d z) S' F D U:=by
 have hbw:Below w.heap.size w (w.alloc (.cells #[.pointer (some ⟨J.a d,0,none⟩),.pointer g] 98)):=(Below.refl _ _).alloc (Nat.le_refl _) _
 have hl:=heap_alloc_new w (.cells #[.pointer (some ⟨J.a d,0,none⟩),.pointer g] 98)
 have hlt:=h.lt
 have HWR:=hid (set_write (c:=c) (h.grown hbw) hf hT hTB st hst d hd hb (hA.grown hbw) hL (by omega) _ (Below.refl _ _))
 have l0:=cell_of_row _ _ 0 _ _ _ hl
 simp only [List.getElem?_toArray,List.getElem?_cons_zero] at l0
 have HLT:=hid hlt
 have HB:=hid hbw
 have HL2:=hid hl
 have HM:=hid (And.intro hf.len (And.intro hL hm))
 clear h hf hb hA hL hl hbw hlt hm hst hT hTB
 go_enter Tryz.func111,Tryz.ntmps111
 go_wp2_with fail
 refine HWR.out.mono ?_
 rintro e w1 ⟨y,rfl,⟨o1,S1,hW,F1,V1,M1⟩,_⟩
 have hrow:w1.heap[w.heap.size]?=_:=(M1.1.block w.heap.size (lt_of_block HL2.out) (fun e=>Nat.lt_irrefl _ (HLT.out _ e))).trans HL2.out
 have k0:=cell_of_row _ _ 0 _ _ _ hrow
 simp only [List.getElem?_toArray,List.getElem?_cons_zero] at k0
 have M0:Sh.Moves (AllV J F) w (AllV J F1) w1:=(moves_grown HB.out).trans M1
 by_cases h0:y=0
 ·subst h0
  have HFL:=hid (vflush V1 (hW.len.trans HM.out.1) d hd (hW.waits HM.out.2.1) (by have:=HM.out.2.2;omega))
  have e1:put1 o d o1 d=o1:=by unfold put1;exact if_pos rfl
  rw [e1] at HFL
  have KEEP:=hid (And.intro hW M0)
  clear hW V1 M1 M0 hrow l0 HWR
  go_wp2_with fail
  refine HFL.out.mono ?_
  rintro e w2 ⟨rfl,F2,D2,M2⟩
  go_wp2
  go_ret
  refine ⟨_,_,_,rfl,⟨0,o1,S1,KEEP.out.1,.inr ⟨rfl,rfl,rfl,rfl⟩⟩,F2,?_,KEEP.out.2.trans M2⟩
  have e2:put1 (put1 o d o1) d (shut (Sh.why S1 d) o1)=put1 o d (shut (Sh.why S1 d) o1):=by funext j;unfold put1;split<;>rfl
  rw [<- e2]
  exact D2
 ·have hq:(y == 0)=false:=by rw [beq_eq_false_iff_ne];exact h0
  have KEEP:=hid (And.intro hW (And.intro V1 (And.intro M0 h0)))
  clear hW V1 M1 M0 hrow l0 HWR h0
  go_wp2
  go_ret
  exact ⟨y,o1,S1,rfl,⟨y,o1,S1,KEEP.out.1,.inl ⟨KEEP.out.2.2.2,rfl,rfl,rfl⟩⟩,F1,KEEP.out.2.1,KEEP.out.2.2.1⟩
def SetlR (n L:Nat) (D U:Set0) (S:Sh.Sf) (o:Nat->Int) (y:Int) (t:Stt) (D' U':Set0):Prop :=
 (Maps.size D=0/\Maps.size U=0/\y=0/\t=⟨S,o⟩/\D'=D/\U'=U)\/(¬(Maps.size D=0/\Maps.size U=0)/\FlR n L D U S y t D' U')
def SetlQ (J:Vk) (w:World) (s:SuP) (o:Nat->Int) (S:Sh.Sf) (F:Nat->Prop) (D U:Set0) (y:Int) (w':World):Prop :=
 ∃t D' U',SetlR J.n J.L D U S o y t D' U'/\RGoes J w w' s t.o t.S F D' U'
set_option maxRecDepth 100000 in
theorem vsettle (h:Vr J w s o S F D U) (hf:Fits J.n J.L s M St S) (hT:Tabs J.W) (hTB:max 0 1+1<=J.B) (hL:∀x∈S.disks,x.waits.length<=mm) (hU:Maps.size U<=mm) (hmm:mm<=800000000) :
  Calls Tryz.prog 76 #[.pointer (some ⟨J.v,0,none⟩)] w fun e w'=>∃y,e=.returned (.int .i64 y)/\SetlQ J w s o S F D U y w':=by
 have hV:=h.grown (drew_below w)
 have c12:=cell_of_row _ _ 12 _ _ _ h.vo.vol.root
 have c11:=cell_of_row _ _ 11 _ _ _ h.vo.vol.root
 simp only [List.getElem?_toArray,List.getElem?_cons_zero,List.getElem?_cons_succ] at c12 c11
 have hl1:=fun ty=>World.ownsMap.len (P:=Tryz.prog) (show w.ownsMap Tryz.prog 3 (unitElem (H:=Unit)) J.mo (Maps.size D) D from h.opens) Tryz.underlying71 ty
 have hl2:=fun ty=>World.ownsMap.len (P:=Tryz.prog) (show w.ownsMap Tryz.prog 121 (unitElem (H:=Unit)) J.mu (Maps.size U) U from h.used) Tryz.underlying72 ty
 have HFL:=hid (vFlush_any h hf hT hTB hL hU (by omega))
 have HH:=hid h
 clear h hf hL hV
 by_cases hz:Maps.size D=0
 ·have hz2:((Maps.size D:Nat):Int)=0:=by omega
  by_cases hu:Maps.size U=0
  ·have hu2:((Maps.size U:Nat):Int)=0:=by omega
   have HZ:=hid (And.intro hz hu)
   clear hz hu
   go_enter Tryz.func76,Tryz.ntmps76
   go_wp2_with fail
   go_ret
   exact ⟨0,rfl,⟨S,o⟩,D,U,.inl ⟨HZ.out.1,HZ.out.2,rfl,rfl,rfl,rfl⟩,F,HH.out,moves_grown (Below.refl _ _)⟩
  ·have hu2:(((Maps.size U:Nat):Int) == 0)=false:=by rw [beq_eq_false_iff_ne];omega
   have HNZ:=hid (fun (e:Maps.size D=0/\Maps.size U=0)=>hu e.2)
   clear hz hu
   go_enter Tryz.func76,Tryz.ntmps76
   go_wp2_with fail
   refine HFL.out.mono ?_
   rintro e w2 ⟨y,rfl,t,D',U',hF,hG⟩
   go_wp2
   go_ret
   exact ⟨y,rfl,t,D',U',.inr ⟨HNZ.out,hF⟩,hG⟩
 ·have hz2:(((Maps.size D:Nat):Int) == 0)=false:=by rw [beq_eq_false_iff_ne];omega
  have HNZ:=hid (fun (e:Maps.size D=0/\Maps.size U=0)=>hz e.1)
  clear hz
  go_enter Tryz.func76,Tryz.ntmps76
  go_wp2_with fail
  refine HFL.out.mono ?_
  rintro e w2 ⟨y,rfl,t,D',U',hF,hG⟩
  go_wp2
  go_ret
  exact ⟨y,rfl,t,D',U',.inr ⟨HNZ.out,hF⟩,hG⟩
set_option maxRecDepth 20000 in
theorem vready (h:Vr J w s o S F D U) (hf:Fits J.n J.L s M St S) (hT:Tabs J.W) (hTB:max 0 1+1<=J.B) (hL:∀x∈S.disks,x.waits.length<=mm) (hU:Maps.size U<=mm) (hmm:mm<=800000000) (st:Nat) (hst:st<St) :
  Calls Tryz.prog 39 #[.pointer (some ⟨J.v,0,none⟩),.int .i64 st] w fun e w'=>∃y,e=.returned (.int .i64 y)/\SetlQ J w s o S F D U y w':=by
 have HS:=hid (hasStripe_yes h hf st hst)
 have HT:=hid (vsettle h hf hT hTB hL hU hmm)
 clear h hf hL hU hst
 go_enter Tryz.func39,Tryz.ntmps39
 go_wp2_with fail
 refine HS.out.mono ?_
 rintro e w' ⟨rfl,rfl⟩
 go_wp2_with fail
 refine HT.out.mono ?_
 rintro e w2 ⟨y,rfl,hq⟩
 have HQ:=hid hq
 clear hq
 go_wp2
 go_ret
 exact ⟨y,rfl,HQ.out⟩
end
inductive RoR (s:SuP) (M k st me d:Nat) (S:Sh.Sf) (o:Nat->Int):Int->Stt->Prop
 | lack:(tog s M k st (tkNot me) S M).2.2≠0->RoR s M k st me d S o (tog s M k st (tkNot me) S M).2.2 ⟨(tog s M k st (tkNot me) S M).1,o⟩
 | done (y z:Int) (S':Sh.Sf):(tog s M k st (tkNot me) S M).2.2=0->SwR (tog s M k st (tkNot me) S M).1 d (o d) k (tog s M k st (tkNot me) S M).2.1 y z S'->RoR s M k st me d S o y ⟨S',put1 o d z⟩
section
variable {J:Vk} {w w':World} {s:SuP} {o:Nat->Int} {S S':Sh.Sf} {F:Nat->Prop} {D U:Set0} {M St d k mm:Nat} {y z:Int} {b:Sh.Bs}
theorem RoR.waits {t:Stt} {st me:Nat} (h:RoR s M k st me d S o y t) (hL:∀x∈S.disks,x.waits.length<=mm):∀x∈t.S.disks,x.waits.length<=mm+3:=by
 have hs:=tog_same (s:=s) (M:=M) (k:=k) (st:=st) (tk:=tkNot me) (S:=S) M
 cases h with
 | lack _=>intro x hx;have hx:x∈(tog s M k st (tkNot me) S M).1.disks:=hx;rw [hs.disks] at hx;have:=hL x hx;omega
 | done y z S' _ h=>exact h.waits (by rw [hs.disks];exact hL)
def RoQ (J:Vk) (w:World) (s:SuP) (o:Nat->Int) (S:Sh.Sf) (F:Nat->Prop) (D U:Set0) (M st me d:Nat) (y:Int) (w':World):Prop :=
 ∃t,RoR s M (2+2*J.L+st) st me d S o y t/\RGoes J w w' s t.o t.S F D U
set_option maxRecDepth 20000 in
set_option maxHeartbeats 4000000 in
theorem restoreOn_any (h:Vr J w s o S F D U) (hf:Fits J.n J.L s M St S) (hT:Tabs J.W) (hTB:max 0 1+1<=J.B) (st me:Nat) (hst:st<St) (hd:d<J.n) (g:Option Addr)
  (hL:∀x∈S.disks,x.waits.length<=mm) (hm:mm<=800000000) :
  Calls Tryz.prog 78 #[.pointer (some ⟨J.v,0,none⟩),.agg #[.pointer (some ⟨J.a d,0,none⟩),.pointer g],.int .i64 st,.int .i64 me] w fun e w'=>∃y:Int,e=.returned (.int .i64 y)/\RoQ J w s o S F D U M st me d y w':=by
 have hbw:Below w.heap.size w (w.alloc (.cells #[.pointer (some ⟨J.a d,0,none⟩),.pointer g] 98)):=(Below.refl _ _).alloc (Nat.le_refl _) _
 have hl:=heap_alloc_new w (.cells #[.pointer (some ⟨J.a d,0,none⟩),.pointer g] 98)
 have hnV:¬AllV J F w.heap.size:=fun e=>Nat.lt_irrefl _ (h.lt _ e)
 have V0:=h.grown hbw
 have HSH:=hid (should_any V0 hf hT hTB st me hst)
 have hsec:Sh.Sec (tog s M (2+2*J.L+st) st (tkNot me) S M).2.1:=tog_sec hf (h.secs hf (show 2+2*J.L+st<2+2*J.L+St by omega)) (Nat.le_refl _)
 have hsame:Same S (tog s M (2+2*J.L+st) st (tkNot me) S M).1:=tog_same M
 have HRO:Hid (∀(y:Int) (t:Stt),RoR s M (2+2*J.L+st) st me d S o y t->RoR s M (2+2*J.L+st) st me d S o y t):=hid fun _ _ h=>h
 have HLK:=hid (RoR.lack (s:=s) (M:=M) (k:=2+2*J.L+st) (st:=st) (me:=me) (d:=d) (S:=S) (o:=o))
 have HDN:=hid (RoR.done (s:=s) (M:=M) (k:=2+2*J.L+st) (st:=st) (me:=me) (d:=d) (S:=S) (o:=o))
 generalize tog s M (2+2*J.L+st) st (tkNot me) S M=pr at *
 obtain ⟨S1,x1,y1⟩:=pr
 simp only at HSH hsec hsame HLK HDN
 have HH:=hid (And.intro hf (And.intro hbw hnV))
 have HF1:=hid (hf.same hsame.len hsame.sectors)
 have HL1:Hid (∀x∈S1.disks,x.waits.length<=mm):=hid (by rw [hsame.disks];exact hL)
 have HL2:=hid hl
 have HNV:=hid (fun b (e:AllV J F b)=>h.lt b e)
 have hbs:2+2*J.L<=18:=by have:=hf.l2;omega
 have hst2:st<1024:=by have:=hf.s2;omega
 have hwr:IntKind.i64.wrap (((2+2*J.L:Nat):Int)+(st:Int))=((2+2*J.L:Nat):Int)+(st:Int):=IntWalk.i64_in _ (by omega)
 have l0:=cell_of_row _ _ 0 _ _ _ hl
 have l1:=cell_of_row _ _ 1 _ _ _ hl
 simp only [List.getElem?_toArray,List.getElem?_cons_zero,List.getElem?_cons_succ] at l0 l1
 clear h hf hL hbw hnV V0 hsame hl HRO
 go_enter Tryz.func78,Tryz.ntmps78
 go_wp2_with fail
 generalize w.alloc (.cells #[.pointer (some ⟨J.a d,0,none⟩),.pointer g] 98)=w0 at *
 refine HSH.out.mono ?_
 rintro e w3 ⟨⟨B1,n1,c1,rfl,hX⟩,hS1⟩
 clear HSH
 by_cases h1:y1=0
 ·subst h1
  obtain ⟨rfl,hBy⟩:n1=128/\Sh.Bytes w0 w3 B1 x1:=by
   rcases hX with ⟨_,h1,h2⟩ | ⟨h1,_⟩
   ·exact ⟨h1,h2⟩
   ·exact absurd rfl h1
  have hV3:=hS1.1
  have hm1:Sh.Moves (AllV J F) w0 (AllV J F) w3:=⟨hS1.2,fun _ e=>.inl e⟩
  obtain ⟨hq3,hn3⟩:=beside_goes HL2.out HH.out.2.2 hm1
  have hd3:=drew_below w3
  have V3d:=hV3.grown hd3
  have hlt:=V3d.lt
  have hqlt:=lt_of_block hq3
  have hbe0:Sh.Beside w3 (AllV J F) B1 x1:=⟨hBy.1,fun a ha e=>by
   have h5:=(hBy.2 a ha).1
   have h6:=HH.out.2.1.size
   have:=HNV.out a.block e
   omega⟩
  have hbe:Sh.Beside w3.drew (AllV J F) B1 x1:=hbe0.moves (moves_grown hd3)
  have HSU:=hid (vsure (c:=c1) V3d HF1.out hT hTB st hst d hd g hsec hbe HL1.out hm)
  have hM3:Sh.Moves (AllV J F) w (AllV J F) w3.drew:=((moves_grown HH.out.2.1).trans hm1).trans (moves_grown hd3)
  have HM3:=hid hM3
  have b9:w3.drew.cell? ⟨J.v,9,none⟩=some (.int .i64 ((2+2*J.L:Nat):Int)):=cell_of_row _ _ 9 _ _ _ V3d.vo.vol.root
  have k0:w3.drew.cell? ⟨w.heap.size,0,none⟩=some (.pointer (some ⟨J.a d,0,none⟩)):=cell_of_row _ _ 0 _ _ _ hq3
  have k1:w3.drew.cell? ⟨w.heap.size,1,none⟩=some (.pointer g):=cell_of_row _ _ 1 _ _ _ hq3
  have HKP:Hid (∀(z5:Int) (S5:Sh.Sf) (w5:World),RGoes J w3.drew w5 s (put1 o d z5) S5 F D U->w5.cell? ⟨J.v,9,none⟩=some (.int .i64 ((2+2*J.L:Nat):Int))/\w5.cell? ⟨w.heap.size,0,none⟩=some (.pointer (some ⟨J.a d,0,none⟩))/\w5.cell? ⟨w.heap.size,1,none⟩=some (.pointer g)):=hid fun z5 S5 w5 hG=>by
   obtain ⟨F5,V5,m5⟩:=hG
   exact ⟨cell_of_row _ _ 9 _ _ _ V5.vo.vol.root,(m5.1.cell (p:=⟨w.heap.size,0,none⟩) hqlt hn3).trans k0,(m5.1.cell (p:=⟨w.heap.size,1,none⟩) hqlt hn3).trans k1⟩
  clear hV3 hm1 hq3 hn3 hd3 V3d hlt hqlt hbe hbe0 hM3 hX hS1 hBy HF1 HL1 HLK l0 l1
  have HRQ:Hid (∀(y:Int) (t:Stt) (w5:World),RoR s M (2+2*J.L+st) st me d S o y t->RGoes J w w5 s t.o t.S F D U->RoQ J w s o S F D U M st me d y w5):=hid fun y t w5 a b=>⟨t,a,b⟩
  generalize 2+2*J.L=bs at *
  go_wp2_with fail
  refine wp_region_held_drew (S:=fun W'=>W'.cell? ⟨J.v,9,none⟩=some (.int .i64 (bs:Int))/\W'.cell? ⟨w.heap.size,0,none⟩=some (.pointer (some ⟨J.a d,0,none⟩))/\W'.cell? ⟨w.heap.size,1,none⟩=some (.pointer g)) (by kernel_rfl) ⟨b9,k0,k1⟩ (fun hHeld=>?_)
  refine tk 1 22 ?_
  refine tk 2 23 ?_
  refine tk 3 24 ?_
  refine tk 5 26 ?_
  refine tk 7 28 ?_
  refine wpAnyH_take (i:=0) (oi:=⟨some 21,_,_,_,_,_⟩) (v:=?_) rfl (by kernel_rfl) (by kernel_rfl) (by kernel_rfl) (fun _ _ _ h=>h) (Or.inl ⟨by rfl,?_⟩) (by assumption) ?_
  rotate_left
  ·(intro w hSw;obtain ⟨hSa,hSb,hSc⟩:=hSw;(try dsimp only at hSw);go_simp;first | done | with_reducible rfl)
  try simp only [Act.put,List.setIfInBounds_toArray,List.set_cons_zero,List.set_cons_succ]
  refine wpAnyH_take (i:=4) (oi:=⟨some 25,_,_,_,_,_⟩) (v:=?_) rfl (by kernel_rfl) (by kernel_rfl) (by kernel_rfl) (fun _ _ _ h=>h) (Or.inl ⟨by rfl,?_⟩) (by assumption) ?_
  rotate_left
  ·(intro w hSw;obtain ⟨hSa,hSb,hSc⟩:=hSw;(try dsimp only at hSw);go_simp;first | done | with_reducible rfl)
  try simp only [Act.put,List.setIfInBounds_toArray,List.set_cons_zero,List.set_cons_succ]
  refine tk 6 27 ?_
  refine r1 8 (some 29) fun K hK=>?_
  go_simp
  refine HSU.out.mono ?_
  rintro e w5 ⟨y5,z5,S5,rfl,hS5,hG5⟩
  refine hK.out _ _ (HKP.out _ _ _ hG5) (fun hHeld=>?_)
  clear hK K
  try simp only [Act.put,List.setIfInBounds_toArray,List.set_cons_zero,List.set_cons_succ]
  refine tk 9 8 ?_
  refine wpAnyH_done (by kernel_rfl) ?_ _
  have HE:Hid (RoQ J w s o S F D U M st me d y5 w5):=hid (by
   obtain ⟨F5,V5,m5⟩:=hG5
   exact HRQ.out _ _ _ (HDN.out y5 z5 S5 (by trivial) hS5) ⟨F5,V5,HM3.out.trans m5⟩)
  clear hS5 hG5 hHeld HDN HKP HSU b9 k0 k1
  go_wp2
  go_ret
  exact ⟨y5,rfl,HE.out⟩
 ·have hq:(y1 != 0)=true:=by simpa using h1
  have hq2:(y1 == 0)=false:=by simpa using h1
  have HE:Hid (RoQ J w s o S F D U M st me d y1 w3):=hid ⟨_,HLK.out h1,RGoes.trans (moves_grown HH.out.2.1) hS1.goes⟩
  obtain ⟨rfl,rfl,rfl⟩:B1=none/\n1=0/\c1=0:=by
   rcases hX with ⟨h2,_⟩ | ⟨_,h2⟩
   ·exact absurd h2 h1
   ·exact h2
  clear hX hS1 HLK HDN h1 l0 l1
  go_wp2
  go_ret
  exact ⟨y1,rfl,HE.out⟩
set_option maxRecDepth 20000 in
theorem restore_any (h:Vr J w s o S F D U) (hf:Fits J.n J.L s M St S) (hT:Tabs J.W) (hTB:max 0 1+1<=J.B) (st me:Nat) (hst:st<St) (hme:me<M)
  (hL:∀x∈S.disks,x.waits.length<=mm) (hm:mm<=800000000) :
  Calls Tryz.prog 41 #[.pointer (some ⟨J.v,0,none⟩),.int .i64 st,.int .i64 me] w fun e w'=>∃y:Int,e=.returned (.tuple #[.int .i64 (if y=0 then 1 else 0),.int .i64 y])/\RoQ J w s o S F D U M st me (numOf s M st me) y w':=by
 have hd:=hf.num_lt st hme
 have HDO:=hid (diskOf_ok h.vo.vol hf.mem st me hd)
 have HRO:=hid (fun w2 (hb:Below w.heap.size w w2)=>restoreOn_any (h.grown hb) hf hT hTB st me hst hd (some ⟨J.gn (numOf s M st me),0,none⟩) hL hm)
 clear h hf hL
 go_enter Tryz.func41,Tryz.ntmps41
 go_wp2_with fail
 refine HDO.out.mono ?_
 rintro e w1 ⟨rfl,hb1⟩
 have HB1:=hid hb1
 clear hb1 HDO
 go_wp2_with fail
 refine (HRO.out w1 HB1.out).mono ?_
 rintro e w2 ⟨y,rfl,tt,hR,hG⟩
 have HE:Hid (RoQ J w s o S F D U M st me (numOf s M st me) y w2):=hid ⟨tt,hR,RGoes.trans (moves_grown HB1.out) hG⟩
 clear hR hG HRO
 by_cases h0:y=0
 ·subst h0
  go_wp2
  go_ret2
  exact ⟨0,rfl,HE.out⟩
 ·have hq2:(y == 0)=false:=by simpa using h0
  have HY:=hid h0
  clear h0
  go_wp2
  go_ret2
  exact ⟨y,by rw [if_neg HY.out];rfl,HE.out⟩
end
end Go.Proofs.YtgebkmpmnjhceaaGreatDoor.U
