/-
  What the statement's proof rests on, part 39.
  Conditions: each theorem's own.
-/
import Derived.Test.YtcnjpmcelihknaaGreatDoorV37
import Derived.Laws.CopyRow
import Derived.Test.YtcnjpmcelihknaaGreatDoorVtk
open Go.Lib (hid)
open Go.Proofs.YtcnjpmcelihknaaGreatDoor.S renaming Sup → SuP
namespace Go.Proofs.YtcnjpmcelihknaaGreatDoor.U
open Go.RowKit Go.Maps
section
variable {B:Nat} {W w w':World} {v p t n mo mu L:Nat} {s:SuP} {base:Int} {a:Nat->Nat} {o:Nat->Int} {g:Nat->Option Addr} {S:Sh.Sf} {F:Nat->Prop}
theorem wpList_store_part {ops:Array Oper} {rest:List Oper} {o:Oper} {a:Act} {w:World} {Q:Exit->Act->World->Prop} (hgd:o.guard=none) (ty:TypeId) (x y:Operand) (ho:o.op=.store ty x y)
  (g off:Nat) (cells:Array Value) (hx:a.eval x=.pointer (some ⟨g,off,none⟩)) (hy:a.eval y=.agg cells) (t:TypeId) (old:Array Value) (hg:w.heap[g]?=some (.cells old t (0,0))) (hi:(Tryz.prog.info? ty).map (·.size)=some cells.size)
  (hfit:off+cells.size<=old.size) (h1:cells.all (·.oneCell')=true) (new:Array Value) (hnew:(old.toList.take off++cells.toList++old.toList.drop (off+cells.size)).toArray=new)
  (h:wpList Tryz.prog ops Q rest (a.put o.dst undef) (w.setRow g new)):wpList Tryz.prog ops Q (o :: rest) a w:=by
 subst hnew
 refine wpList_plain hgd fun K hK=>?_
 have hst:=run_storeCells_at (P:=Tryz.prog) g off t cells.toList 0 old w hg (by simpa using hfit) (fun v hv=>by
  rw [Array.all_eq_true_iff_forall_mem] at h1
  exact h1 v (Array.mem_toList_iff.1 hv))
 simp only [Nat.add_zero,Array.length_toList] at hst
 have hrun:(storeVar ty ⟨g,off,none⟩ (.agg cells)).run Tryz.prog w=.ok () (w.setRow g (old.toList.take off++cells.toList++old.toList.drop (off+cells.size)).toArray):=by
  cases hq:Tryz.prog.info? ty with
  | none=>simp [hq] at hi
  | some i =>
   have hs:cells.size=i.size:=by simp [hq] at hi;omega
   simp [storeVar,sizeOf,typeInfo,hq,Value.cells,hs,hst]
 unfold Oper.wp execOp
 simp only [ho,hx,hy,Instr.storeAt,Instr.sureAddr,Sem.run_bind,Sem.run_pure,Result.andThen_ok,hrun]
 exact hK _ _ h
theorem Vo.setRoot (h:Vo B W w v p t n mo mu s base a o g S F) (ne:v≠t/\mo≠v/\mu≠v) (ho:Sh.Only (fun b=>b=v) w w') {s':SuP} {base':Int}
  (hr:w'.heap[v]?=some (.cells #[.pointer (some ⟨p,0,none⟩),.int .i64 s'.gen,.int .i64 s'.mem,.int .i64 s'.disk,.int .i64 s'.str,.int .i64 s'.logs,.int .i64 s'.spare,.int .i64 s'.mark,.int .i64 s'.cur,.int .i64 base',.slice (some ⟨t,0,none⟩) n n,.map (some mo),.map (some mu)] 134 (0,0))) :
  Vo B W w' v p t n mo mu s' base' a o g S F:=by
 have hnx:∀b,AllB F a n b->b≠v:=fun b hb=>(h.apart b hb).1
 have hk:∀b,b<w.heap.size->b≠v->w'.heap[b]?=w.heap[b]?:=fun b hb hx=>ho.block b hb hx
 have hbel:Below B W w':=h.ds.on.bel.trans (ho.below (fun b e=>by rw [e];exact h.low.1) h.ds.on.size)
 exact ⟨⟨⟨h.ds.on.shelf.only ho (fun b hb e=>hnx b (.inl hb) e),h.ds.on.low,hbel,Nat.le_trans h.ds.on.size ho.size⟩,fun i hi=>(h.ds.dev i hi).same (hk _ (h.ds.dev i hi).lt (hnx _ (.inr ⟨i,hi,rfl⟩))),h.ds.apart,h.ds.inj,h.ds.low⟩,
  ⟨hr,Sh.same_row h.vol.row fun x hx=>by injection hx with hx;subst hx;exact hk _ h.vol.tlt (Ne.symm ne.1)⟩,h.apart,h.low,⟨Nat.lt_of_lt_of_le h.lt.1 ho.size,Nat.lt_of_lt_of_le h.lt.2 ho.size⟩⟩
theorem info_super8:(Tryz.prog.info? 123).map (·.size)=some 8:=by kernel_rfl
theorem LogsTo.same {w w':World} {gn:Nat->Nat} {j:Nat} (k:LogsTo B w v t mo mu n a gn L F j) (hk:∀i,i<j->w'.heap[gn i]?=w.heap[gn i]?):LogsTo B w' v t mo mu n a gn L F j :=
 ⟨fun i hi=>(k.log i hi).same (hk i hi),k.apart,k.low⟩
def S8 (v t n j q L ad:Nat) (W':World):Prop:=W'.cell? ⟨v,10,none⟩=some (.slice (some ⟨t,0,none⟩) n n)/\W'.cell? ⟨t,j*2,none⟩=some (.pointer (some ⟨ad,0,none⟩))/\W'.cell? ⟨q,4,none⟩=some (.int .i64 L)/\(W'.cell? ⟨t,j*2+1,none⟩).isSome=true/\W'.frozen? ⟨t,j*2+1,none⟩=false
theorem s8_grown {v t n j q L ad:Nat} {w w':World} (h:S8 v t n j q L ad w) (hv:v<w.heap.size) (ht:t<w.heap.size) (hq:q<w.heap.size) (hb:Below w.heap.size w w'):S8 v t n j q L ad w' :=
 ⟨(hb.cell (p:=⟨v,10,none⟩) hv).trans h.1,(hb.cell (p:=⟨t,j*2,none⟩) ht).trans h.2.1,(hb.cell (p:=⟨q,4,none⟩) hq).trans h.2.2.1,by rw [hb.cell (p:=⟨t,j*2+1,none⟩) ht];exact h.2.2.2.1,by rw [hb.frozen (p:=⟨t,j*2+1,none⟩) ht];exact h.2.2.2.2⟩
theorem s8_set {v t n j q L ad:Nat} {w:World} (h:S8 v t n j q L ad w) (hv:v≠t) (hq:q≠t) (u:Value):S8 v t n j q L ad (w.setCell ⟨t,j*2+1,none⟩ u) :=
 ⟨(World.cell?_setCell_far w ⟨t,j*2+1,none⟩ ⟨v,10,none⟩ u (Ne.symm hv)).trans h.1,(by apply World.cell?_setCell_other;intro e;injection e with _ e _;omega:(w.setCell ⟨t,j*2+1,none⟩ u).cell? ⟨t,j*2,none⟩=w.cell? ⟨t,j*2,none⟩).trans h.2.1,(World.cell?_setCell_far w ⟨t,j*2+1,none⟩ ⟨q,4,none⟩ u (Ne.symm hq)).trans h.2.2.1,by rw [World.cell?_setCell_same' w _ u h.2.2.2.1];rfl,by rw [World.frozen?_setCell];exact h.2.2.2.2⟩
def AsRel (B:Nat) (W w wr:World) (v p t n mo mu L:Nat) (x:SuP) (a:Nat->Nat) (o:Nat->Int) (S:Sh.Sf) (F:Nat->Prop) (j:Nat):Prop :=
 ∃gn g,Vo B W wr v p t n mo mu x ((2+2*L:Nat):Int) a o g S F/\(∀i,i<j->g i=some ⟨gn i,0,none⟩)/\LogsTo B wr v t mo mu n a gn L F j/\Sh.Only (fun b=>b=v\/b=t) w wr/\wr.heap[w.heap.size]?=some (.cells x.cells 123 (0,0))
set_option maxRecDepth 20000 in
set_option maxHeartbeats 4000000 in
theorem as_ok (h:Vo B W w v p t n mo mu s base a o g S F) (ne:v≠t/\mo≠v/\mu≠v) (hn:S.disks.length=n) (x:SuP) (hx:x.logs=(L:Int)) (h1:1<=L) (h2:L<=8) (hb:2+2*L<=blk S.sectors) :
  Calls Tryz.prog 76 #[.pointer (some ⟨v,0,none⟩),x.val] w fun e w'=>e=.returned (.tuple #[.pointer (some ⟨v,0,none⟩),.int .i64 0])/\AsRel B W w w' v p t n mo mu L x a o S F n:=by
 have h17:n<=17:=by
  obtain ⟨D,gs,q⟩:=h.ds.on.shelf
  have:=q.most
  omega
 have hbs:=hid (base_ok L h1 h2)
 generalize hbb:2+2*L=bs at hbs
 have HBB:=hid hbb
 clear hbb
 have hbw:Below w.heap.size w (w.alloc (.cells x.cells 123)):=(Below.refl _ _).alloc (Nat.le_refl _) _
 have hq:=heap_alloc_new w (.cells x.cells 123)
 have V0:=h.grown hbw
 have r0:=V0.vol.root
 have HV0:=hid (And.intro V0 (And.intro hq (And.intro hbw (And.intro h.vol.vlt h.vol.tlt))))
 have HXL:=hid hx
 have c4:=cell_of_row _ _ 4 _ _ _ hq
 have HC:Hid (x.cells=#[.int .i64 x.gen,.int .i64 x.mem,.int .i64 x.disk,.int .i64 x.str,.int .i64 x.logs,.int .i64 x.spare,.int .i64 x.mark,.int .i64 x.cur]):=hid rfl
 have HVL:Hid (x.val=.agg #[.int .i64 x.gen,.int .i64 x.mem,.int .i64 x.disk,.int .i64 x.str,.int .i64 x.logs,.int .i64 x.spare,.int .i64 x.mark,.int .i64 x.cur]):=hid rfl
 obtain ⟨k0,k1,k2,k3,k4,k5,k6,k7⟩:=sup_cells hq
 rw [HC.out,hx] at r0 HV0 k0 k1 k2 k3 k4 k5 k6 k7
 rw [HVL.out,hx]
 have hfit:1+(#[Value.int .i64 x.gen,.int .i64 x.mem,.int .i64 x.disk,.int .i64 x.str,.int .i64 L,.int .i64 x.spare,.int .i64 x.mark,.int .i64 x.cur]:Array Value).size<=(#[Value.pointer (some ⟨p,0,none⟩),.int .i64 s.gen,.int .i64 s.mem,.int .i64 s.disk,.int .i64 s.str,.int .i64 s.logs,.int .i64 s.spare,.int .i64 s.mark,.int .i64 s.cur,.int .i64 base,.slice (some ⟨t,0,none⟩) n n,.map (some mo),.map (some mu)]:Array Value).size:=by simp
 have hi8:(Tryz.prog.info? 123).map (·.size)=some (#[Value.int .i64 x.gen,.int .i64 x.mem,.int .i64 x.disk,.int .i64 x.str,.int .i64 L,.int .i64 x.spare,.int .i64 x.mark,.int .i64 x.cur]:Array Value).size:=info_super8
 have hone:(#[Value.int .i64 x.gen,.int .i64 x.mem,.int .i64 x.disk,.int .i64 x.str,.int .i64 L,.int .i64 x.spare,.int .i64 x.mark,.int .i64 x.cur]:Array Value).all (·.oneCell')=true:=by simp [Value.oneCell']
 clear h hbw hq V0 c4
 have hnew:((#[.pointer (some ⟨p,0,none⟩),.int .i64 s.gen,.int .i64 s.mem,.int .i64 s.disk,.int .i64 s.str,.int .i64 s.logs,.int .i64 s.spare,.int .i64 s.mark,.int .i64 s.cur,.int .i64 base,.slice (some ⟨t,0,none⟩) n n,.map (some mo),.map (some mu)]:Array Value).toList.take 1++(#[.int .i64 x.gen,.int .i64 x.mem,.int .i64 x.disk,.int .i64 x.str,.int .i64 L,.int .i64 x.spare,.int .i64 x.mark,.int .i64 x.cur]:Array Value).toList++(#[.pointer (some ⟨p,0,none⟩),.int .i64 s.gen,.int .i64 s.mem,.int .i64 s.disk,.int .i64 s.str,.int .i64 s.logs,.int .i64 s.spare,.int .i64 s.mark,.int .i64 s.cur,.int .i64 base,.slice (some ⟨t,0,none⟩) n n,.map (some mo),.map (some mu)]:Array Value).toList.drop (1+(#[.int .i64 x.gen,.int .i64 x.mem,.int .i64 x.disk,.int .i64 x.str,.int .i64 L,.int .i64 x.spare,.int .i64 x.mark,.int .i64 x.cur]:Array Value).size)).toArray=#[.pointer (some ⟨p,0,none⟩),.int .i64 x.gen,.int .i64 x.mem,.int .i64 x.disk,.int .i64 x.str,.int .i64 L,.int .i64 x.spare,.int .i64 x.mark,.int .i64 x.cur,.int .i64 base,.slice (some ⟨t,0,none⟩) n n,.map (some mo),.map (some mu)]:=by simp
 have rA:=setRow_heap (w.alloc (.cells #[.int .i64 x.gen,.int .i64 x.mem,.int .i64 x.disk,.int .i64 x.str,.int .i64 L,.int .i64 x.spare,.int .i64 x.mark,.int .i64 x.cur] 123)) v _ (#[.pointer (some ⟨p,0,none⟩),.int .i64 x.gen,.int .i64 x.mem,.int .i64 x.disk,.int .i64 x.str,.int .i64 L,.int .i64 x.spare,.int .i64 x.mark,.int .i64 x.cur,.int .i64 base,.slice (some ⟨t,0,none⟩) n n,.map (some mo),.map (some mu)]) _ _ (show _ from r0)
 have cA:=cell_of_row _ _ 9 _ _ _ rA
 have fA:=frozen_of_row _ _ 9 _ _ rA
 simp only [List.getElem?_toArray,List.getElem?_cons_zero,List.getElem?_cons_succ] at cA
 have rB:(((w.alloc (.cells #[.int .i64 x.gen,.int .i64 x.mem,.int .i64 x.disk,.int .i64 x.str,.int .i64 L,.int .i64 x.spare,.int .i64 x.mark,.int .i64 x.cur] 123)).setRow v #[.pointer (some ⟨p,0,none⟩),.int .i64 x.gen,.int .i64 x.mem,.int .i64 x.disk,.int .i64 x.str,.int .i64 L,.int .i64 x.spare,.int .i64 x.mark,.int .i64 x.cur,.int .i64 base,.slice (some ⟨t,0,none⟩) n n,.map (some mo),.map (some mu)]).setCell ⟨v,9,none⟩ (.int .i64 bs)).heap[v]?=some (.cells #[.pointer (some ⟨p,0,none⟩),.int .i64 x.gen,.int .i64 x.mem,.int .i64 x.disk,.int .i64 x.str,.int .i64 L,.int .i64 x.spare,.int .i64 x.mark,.int .i64 x.cur,.int .i64 bs,.slice (some ⟨t,0,none⟩) n n,.map (some mo),.map (some mu)] 134 (0,0)):=cells_set (i:=9) _ rA
 have cB:=cell_of_row _ _ 10 _ _ _ rB
 simp only [List.getElem?_toArray,List.getElem?_cons_zero,List.getElem?_cons_succ] at cB
 have HRB:=hid rB
 have HRA:=hid rA
 clear rA rB
 go_enter Tryz.func76,Tryz.ntmps76
 go_wp2_with (first
  | (go_at_call 138;refine (hbs.out _).mono ?_;rintro e w' ⟨rfl,rfl⟩)
  | (refine wpList_store_part rfl 123 (.tmp 23) (.tmp 20) rfl v 1 #[.int .i64 x.gen,.int .i64 x.mem,.int .i64 x.disk,.int .i64 x.str,.int .i64 L,.int .i64 x.spare,.int .i64 x.mark,.int .i64 x.cur] rfl rfl 134 _ r0 hi8 hfit hone _ hnew ?_))
 have hrel0:Hid (AsRel B W w (((w.alloc (.cells #[.int .i64 x.gen,.int .i64 x.mem,.int .i64 x.disk,.int .i64 x.str,.int .i64 L,.int .i64 x.spare,.int .i64 x.mark,.int .i64 x.cur] 123)).setRow v #[.pointer (some ⟨p,0,none⟩),.int .i64 x.gen,.int .i64 x.mem,.int .i64 x.disk,.int .i64 x.str,.int .i64 L,.int .i64 x.spare,.int .i64 x.mark,.int .i64 x.cur,.int .i64 base,.slice (some ⟨t,0,none⟩) n n,.map (some mo),.map (some mu)]).setCell ⟨v,9,none⟩ (.int .i64 bs)) v p t n mo mu L x a o S F 0):=hid (by
  obtain ⟨V0,hq,hbw,hvl,_⟩:=HV0.out
  have hO1:=(only_setRow (w.alloc (.cells #[.int .i64 x.gen,.int .i64 x.mem,.int .i64 x.disk,.int .i64 x.str,.int .i64 L,.int .i64 x.spare,.int .i64 x.mark,.int .i64 x.cur] 123)) v #[.pointer (some ⟨p,0,none⟩),.int .i64 x.gen,.int .i64 x.mem,.int .i64 x.disk,.int .i64 x.str,.int .i64 L,.int .i64 x.spare,.int .i64 x.mark,.int .i64 x.cur,.int .i64 base,.slice (some ⟨t,0,none⟩) n n,.map (some mo),.map (some mu)]).setCell (p:=⟨v,9,none⟩) (.inl rfl) (.int .i64 bs)
  have hqv:w.heap.size≠v:=by omega
  have hr:=HRB.out
  rw [<- hx,<- HBB.out] at hr
  refine ⟨fun _=>0,g,V0.setRoot ne hO1 (by rw [HBB.out,hx] at hr ⊢;exact hr),fun i hi=>absurd hi (by omega),⟨fun i hi=>absurd hi (by omega),fun i hi=>absurd hi (by omega),fun i hi=>absurd hi (by omega)⟩,(only_below _ hbw).trans (hO1.mono fun b e=>.inl e) (fun b e=>.inl e),?_⟩
  rw [hO1.block w.heap.size (lt_of_block hq) hqv,HC.out,hx]
  exact hq)
 have HX:=hid hx
 clear HRB HRA cA fA cB hnew hfit hone hi8 r0 k0 k1 k2 k3 k4 k5 k6 k7 HVL hx HXL
 generalize ((w.alloc (.cells #[.int .i64 x.gen,.int .i64 x.mem,.int .i64 x.disk,.int .i64 x.str,.int .i64 L,.int .i64 x.spare,.int .i64 x.mark,.int .i64 x.cur] 123)).setRow v #[.pointer (some ⟨p,0,none⟩),.int .i64 x.gen,.int .i64 x.mem,.int .i64 x.disk,.int .i64 x.str,.int .i64 L,.int .i64 x.spare,.int .i64 x.mark,.int .i64 x.cur,.int .i64 base,.slice (some ⟨t,0,none⟩) n n,.map (some mo),.map (some mu)]).setCell ⟨v,9,none⟩ (.int .i64 bs)=wS at *
 have HWV:Hid (v<w.heap.size/\t<w.heap.size):=hid HV0.out.2.2.2
 clear HV0
 go_loopw [31] (fun i wr=>∃j:Nat,j<=n/\i=.int .i64 j/\Hid (AsRel B W w wr v p t n mo mu L x a o S F j)) (fun i _=>n-(intOf i).toNat)
 case atStart=>exact ⟨0,Nat.zero_le _,rfl,hrel0⟩
 case round =>
  obtain ⟨j,hj,rfl,hrel⟩:=hrel
  by_cases hlt:j<n
  ·obtain ⟨gn,g2,V,hg,hlg,hO,hqr⟩:=hrel.out
   have hqt:w.heap.size≠t:=by have:=HWV.out.2;omega
   have hd:=drew_below wr
   have Vd:=V.grown hd
   have hqd:wr.drew.heap[w.heap.size]?=_:=hqr
   have hS8:S8 v t n j w.heap.size L (a j) wr.drew:=⟨Vd.vol.c10,Vd.vol.dev hlt,by have:=(sup_cells hqd).2.2.2.2.1;rw [HX.out] at this;exact this,by rw [Vd.vol.log hlt];rfl,Vd.vol.row.frozenAt _⟩
   have HLO:Hid (Calls Tryz.prog 139 #[.pointer (some ⟨a j,0,none⟩),.int .i64 L] wr.drew fun e w'=>∃b,e=.returned (.tuple #[.pointer (some ⟨b,0,none⟩),.int .i64 0])/\LogIs w' b (a j) L/\wr.heap.size<=b/\Below wr.drew.heap.size wr.drew w'):=hid ((logOpen_ok L h1 h2 (Vd.ds.dev j hlt) Vd.ds.on.shelf hb).mono (by
    rintro e w' ⟨rfl,hl,hbl⟩
    exact ⟨_,rfl,hl,Nat.le_refl _,hbl⟩))
   have HSZ:Hid (v<wr.drew.heap.size/\t<wr.drew.heap.size/\w.heap.size<wr.drew.heap.size):=hid ⟨Vd.vol.vlt,Vd.vol.tlt,lt_of_block hqd⟩
   have HQT:=hid hqt
   have HNE:=hid ne.1
   have HKP:=hid (And.intro Vd (And.intro hg (And.intro hlg (And.intro hO hqd))))
   have i10:=fun (W':World) (h:S8 v t n j w.heap.size L (a j) W')=>h.1
   have i0:=fun (W':World) (h:S8 v t n j w.heap.size L (a j) W')=>h.2.1
   have i4:=fun (W':World) (h:S8 v t n j w.heap.size L (a j) W')=>h.2.2.1
   clear V hg hlg hO hqr hd Vd hqd hrel hrel0 hqt
   go_wp2
   refine wp_region_held_drew (S:=S8 v t n j w.heap.size L (a j)) (by kernel_rfl) hS8 (fun hHeld=>?_)
   refine tk 0 35 ?_
   refine tk 1 36 ?_
   refine tk 2 37 ?_
   refine tk 3 38 ?_
   refine tk 4 39 ?_
   refine tk 5 40 ?_
   refine tk 6 41 ?_
   refine tk 7 42 ?_
   refine tk 8 43 ?_
   refine tk 9 44 ?_
   refine tk 10 45 ?_
   refine tk 11 46 ?_
   refine tk 12 47 ?_
   refine tk 13 48 ?_
   refine tk 14 49 ?_
   refine r1 15 (some 50) fun K hK=>?_
   go_simp
   refine (HLO.out).mono ?_
   rintro e w5 ⟨b,rfl,hlog,hb5,hbel5⟩
   refine hK.out _ _ (s8_grown hHeld HSZ.out.1 HSZ.out.2.1 HSZ.out.2.2 hbel5) (fun hHeld=>?_)
   clear hK K
   try simp only [Act.put,List.setIfInBounds_toArray,List.set_cons_zero,List.set_cons_succ]
   refine tk 16 34 ?_
   refine tk 17 51 ?_
   refine tk 18 52 ?_
   refine tk 19 53 ?_
   refine tk 20 54 ?_
   refine r1 21 none fun K hK=>?_
   rw [if_pos (by rfl)]
   obtain ⟨l5,hl5⟩:=Option.isSome_iff_exists.1 hHeld.2.2.2.1
   have f5:=hHeld.2.2.2.2
   go_simp
   refine hK.out _ _ (s8_set hHeld HNE.out HQT.out _) (fun hHeld=>?_)
   clear hK K hl5 f5
   try simp only [Act.put,List.setIfInBounds_toArray,List.set_cons_zero,List.set_cons_succ]
   refine tk 22 7 ?_
   refine wpAnyH_done (by kernel_rfl) ?_ _
   obtain ⟨Vd,hg,hlg,hO,hqd⟩:=HKP.out
   have V5:=(Vd.grown hbel5).putLog HNE.out j (some ⟨b,0,none⟩)
   have hlg5:=(hlg.same (w':=wr.drew) (fun i hi=>rfl)).next Vd hbel5 hlog hb5
   have HR:Hid (AsRel B W w (w5.setCell ⟨t,j*2+1,none⟩ (.pointer (some ⟨b,0,none⟩))) v p t n mo mu L x a o S F (j+1)):=hid ⟨atI gn j b,_,V5,fun i hi=>by
    unfold put1 atI
    by_cases e:i=j
    ·rw [if_pos e,if_pos e]
    ·rw [if_neg e,if_neg e];exact hg i (by omega),hlg5,((hO.trans (only_below _ (drew_below wr)) fun b e=>.inl e).trans (only_below _ hbel5) fun b e=>.inl e).setCell (p:=⟨t,j*2+1,none⟩) (.inl (.inr rfl)) _,(Sh.heap_set_other _ _ _ HQT.out).trans ((hbel5.block _ (lt_of_block hqd)).trans hqd)⟩
   clear Vd hg hlg hO hqd V5 hlg5 hHeld hlog hbel5 i10 i0 i4 hS8 HLO
   go_wp2
   go_roundw
   case rel=>exact ⟨j+1,by omega,by go_num,HR⟩
   case measure=>simp [intOf];omega
  ·obtain rfl:j=n:=by omega
   have HR:=hid hrel.out
   clear hrel hrel0
   go_wp2
   go_ret2
   exact ⟨rfl,HR.out⟩
end
section
variable {B:Nat} {W w w':World} {v p t n mo mu L:Nat} {s:SuP} {base:Int} {a:Nat->Nat} {o:Nat->Int} {g:Nat->Option Addr} {S:Sh.Sf} {F:Nat->Prop}
theorem isDead_disk (h:Vo B W w v p t n mo mu s base a o g S F) (hn:S.disks.length=n) (i:Nat) (hi:i<n) (G:Option Addr):Calls Tryz.prog 73 #[.agg #[.pointer (some ⟨a i,0,none⟩),.pointer G]] w fun e w'=>e=.returned (.bool (dk S i).dead)/\Below w.heap.size w w':=by
 have hb:Below w.heap.size w (w.alloc (.cells #[.pointer (some ⟨a i,0,none⟩),.pointer G] 130)):=(Below.refl _ _).alloc (Nat.le_refl _) _
 have HD:=hid (dead_dev ((h.grown hb).ds.dv hi) (by rw [hn];exact hi))
 have HB:=hid hb
 clear h hn hb
 go_enter Tryz.func73,Tryz.ntmps73
 go_wp2_with fail
 refine HD.out.mono ?_
 rintro e w' ⟨rfl,hb2⟩
 go_wp2
 go_ret
 exact ⟨rfl,HB.out.trans (hb2.mono HB.out.size)⟩
set_option maxRecDepth 20000 in
theorem indexDead (h:Vo B W w v p t n mo mu s base a o g S F) (hn:S.disks.length=n) (hd:∀i,i<n->(dk S i).dead=false):Calls Tryz.prog 132 #[.slice (some ⟨t,0,none⟩) n n,.func (.func 73) #[] #[]] w fun e w'=>e=.returned (.int .i64 (-1))/\Below w.heap.size w w':=by
 have h17:n<=17:=by
  obtain ⟨D,gs,q⟩:=h.ds.on.shelf
  have:=q.most
  omega
 have HH:=hid (And.intro h (And.intro hn hd))
 have hen:=enters_is (f:=73) Tryz.func73 (by kernel_rfl) rfl
 have hrel0:Hid (Below w.heap.size w w):=hid (Below.refl _ _)
 clear h hn hd
 go_enter Tryz.func132,Tryz.ntmps132
 go_wp2
 go_loopw [8] (fun i wr=>∃j:Nat,j<=n/\i=.int .i64 j/\Hid (Below w.heap.size w wr)) (fun i _=>n-(intOf i).toNat)
 case atStart=>exact ⟨0,Nat.zero_le _,rfl,hrel0⟩
 case round =>
  obtain ⟨j,hj,rfl,hrel⟩:=hrel
  by_cases hlt:j<n
  ·have V:=HH.out.1.grown hrel.out
   have d0:=V.vol.dev hlt
   have d1:=V.vol.log hlt
   have HC:=hid (isDead_disk V HH.out.2.1 j hlt (g j))
   rw [HH.out.2.2 j hlt] at HC
   clear V
   go_wp2_with fail
   refine HC.out.mono ?_
   rintro e w2 ⟨rfl,hb2⟩
   have HR:Hid (Below w.heap.size w w2):=hid (hrel.out.trans (hb2.mono hrel.out.size))
   clear hb2 d0 d1 HC
   go_wp2
   go_roundw
   case rel=>exact ⟨j+1,by omega,by go_num,HR⟩
   case measure=>simp [intOf];omega
  ·obtain rfl:j=n:=by omega
   go_wp2
   go_ret
   exact ⟨rfl,hrel.out⟩
theorem noneDead (h:Vo B W w v p t n mo mu s base a o g S F) (hn:S.disks.length=n) (hd:∀i,i<n->(dk S i).dead=false):Calls Tryz.prog 72 #[.slice (some ⟨t,0,none⟩) n n,.func (.func 73) #[] #[]] w fun e w'=>e=.returned (.bool false)/\Below w.heap.size w w':=by
 have HC:=hid (indexDead h hn hd)
 clear h hn hd
 go_enter Tryz.func72,Tryz.ntmps72
 go_wp2_with fail
 refine HC.out.mono ?_
 rintro e w' ⟨rfl,hb⟩
 go_wp2
 go_ret
 exact ⟨rfl,hb⟩
end
section
variable {B:Nat} {W w w':World} {v p t n mo mu L:Nat} {s:SuP} {base:Int} {a:Nat->Nat} {o:Nat->Int} {g:Nat->Option Addr} {S:Sh.Sf} {F:Nat->Prop}
end
def Still (S:Sh.Sf) (n:Nat) (v0:Nat->Nat->Sh.Bs):Prop:=∀d,d<n->(∀o,Jp S d o (fun c=>c=vals (dk S d)))/\(dk S d).waits=[]/\vals (dk S d)=v0 d
theorem Still.same {S T:Sh.Sf} {n:Nat} {v0:Nat->Nat->Sh.Bs} (h:Still S n v0) (k:Same S T):Still T n v0:=by
 intro d hd
 obtain ⟨h1,h2,h3⟩:=h d hd
 have e:dk T d=dk S d:=by unfold dk;rw [k.disks]
 rw [e]
 refine ⟨fun o=>?_,h2,h3⟩
 obtain ⟨j1,j2,j3⟩:=h1 o
 exact ⟨⟨by rw [k.disks];exact j1.lt,by rw [e];exact j1.alive,by rw [e,k.sectors];exact j1.len⟩,by rw [k.sectors,e];exact j2,fun x=>by rw [k.sectors,e];exact j3 (k.off.symm.trans x)⟩
theorem Still.fl {S:Sh.Sf} {n:Nat} {v0:Nat->Nat->Sh.Bs} (h:Still S n v0) (hc:Calms S n) {k:Nat} (hk:k<n):Still (Fl S k) n v0:=by
 intro d hd
 obtain ⟨h1,h2,h3⟩:=h d hd
 by_cases e:d=k
 ·subst e
  obtain ⟨j1,j2,j3⟩:=(h1 0).flush (hc d hd).on 0
  refine ⟨fun o=>?_,j3,j2.trans h3⟩
  obtain ⟨i1,i2,_⟩:=(h1 0).flush (hc d hd).on o
  rw [i2]
  exact i1
 ·have e2:dk (Fl S k) d=dk S d:=(alike_fl S k).2 d e
  rw [e2]
  refine ⟨fun o=>?_,h2,h3⟩
  exact (h1 o).alike (alike_fl S k) (fl_sectors S k) (fun _=>(hc d hd).on) e
theorem Still.fd {S:Sh.Sf} {n:Nat} {v0:Nat->Nat->Sh.Bs} (h:Still S n v0) (hc:Calms S n) {k:Nat} (hk:k<=n):Still (fdS S k).1 n v0:=by
 induction k with
 | zero=>exact h
 | succ k ih =>
  obtain ⟨h1,h2⟩:=fdS_calm hc (k:=k) (by omega)
  rw [fdS_succ S h1]
  exact (ih (by omega)).fl h2 (by omega)
theorem still_new {n s:Nat}:Still (Sh.newSf n s) n (fun d=>vals (dk (Sh.newSf n s) d)):=by
 intro d hd
 have hj:=(Jp.new (n:=n) (s:=s) hd).1
 have hk:dk (Sh.newSf n s) d=Sh.newDk s:=by
  unfold dk
  show (List.replicate n (Sh.newDk s)).getD d default=_
  simp [List.getD,hd]
 have hw:(dk (Sh.newSf n s) d).waits=[]:=by rw [hk];rfl
 refine ⟨fun o=>?_,hw,rfl⟩
 have hn:=(hj.neat rfl).any hw o
 have hv:=vals_nil hw
 exact Jp.of hj.one ⟨hn.secs,hn.fits,hn.good,hv.symm,.inl hw⟩
section
variable {B:Nat} {W w w':World} {v p t n mo mu L:Nat} {s:SuP} {base:Int} {a:Nat->Nat} {o:Nat->Int} {g:Nat->Option Addr} {S:Sh.Sf} {F:Nat->Prop}
theorem Vo.same_g (h:Vo B W w v p t n mo mu s base a o g S F) {g':Nat->Option Addr} (hg:∀i,i<n->g i=g' i):Vo B W w v p t n mo mu s base a o g' S F:=by
 refine ⟨h.ds,⟨h.vol.root,?_⟩,h.apart,h.low,h.lt⟩
 have e:Sh.rowOf (dvG a g) n 2=Sh.rowOf (dvG a g') n 2:=Sh.rowOf_congr (by decide) fun i c hi _=>by
  unfold dvG
  rw [hg i hi]
 rw [<- e]
 exact h.vol.row
def newSaid (M St L:Nat):SuP:=⟨1,M,0,St,L,-1,0,0⟩
structure Born (S:Sh.Sf) (n sc M St L:Nat) (o:Nat->Int):Prop where
 calm:Calms S n
 len:S.disks.length=n
 sectors:S.sectors=sc
 waits:∀x∈S.disks,x.waits.length<=100
 disk:∀d,d<n->Jp S d (o d) (fun c=>c=vals (dk S d))/\vals (dk S d)=upd (vals (dk (Sh.newSf n sc) d)) 1 (Go.Proofs.YtcnjpmcelihknaaGreatDoor.S.encL ({ newSaid M St L with disk:=(d:Int) }:SuP).nums)/\(dk S d).waits=[]
theorem said_right {M St L d:Nat} (m3:3<=M) (m16:M<=16) (s1:1<=St) (s2:St<=1024) (l1:1<=L) (l2:L<=8) (hd:d<=M):({ newSaid M St L with disk:=(d:Int) }:SuP).right=true:=by
 unfold newSaid Go.Proofs.YtcnjpmcelihknaaGreatDoor.S.Sup.right Go.Proofs.YtcnjpmcelihknaaGreatDoor.S.Sup.most
 simp
 omega
theorem keepB {o':Nat->Int} {S':Sh.Sf} (hG:VGoes B W w w' v p t n mo mu s base a o' g S' F):∃F',Vo B W w' v p t n mo mu s base a o' g S' F'/\Sh.Moves (AllB F a n) w (AllB F' a n) w'/\∀b,b<w.heap.size->¬AllB F a n b->w'.heap[b]?=w.heap[b]?/\¬AllB F' a n b:=by
 obtain ⟨F',V,m⟩:=hG
 exact ⟨F',V,m,fun b hb hn=>⟨m.1.block b hb hn,fun e=>(m.2 b e).elim hn (fun e=>by omega)⟩⟩
theorem empty_set {k:TypeId} {b:Nat} (h:w.heap[b]?=some (.map #[] 0)):SetIs w k b noSet:=⟨#[],0,h,⟨by simp,MapKept.stamped_empty 0,by simp⟩,Nat.zero_le _,rfl⟩
set_option maxRecDepth 20000 in
set_option maxHeartbeats 4000000 in
theorem create_new {sc:Nat} (h:Sh.At B W w p (Sh.newSf n sc) F) (hT:Tabs W) (hTB:max 0 1+1<=B) (hWi:Go.Proofs.YtcnjpmcelihknaaGreatDoor.S.Wid W) (hWB:2+1<=B)
  (M St L:Nat) (m3:3<=M) (m16:M<=16) (s1:1<=St) (s2:St<=1024) (l1:1<=L) (l2:L<=8) (hn:n=M\/n=M+1) (hb:2+2*L+St<=blk sc) :
  Calls Tryz.prog 27 #[.pointer (some ⟨p,0,none⟩),.int .i64 M,.int .i64 St,.int .i64 L] w fun e w'=>∃(J:Vk) (F':Nat->Prop) (o:Nat->Int) (S:Sh.Sf),e=.returned (.tuple #[.pointer (some ⟨J.v,0,none⟩),.int .i64 0])/\J.B=B/\J.W=W/\J.p=p/\J.n=n/\J.L=L/\Vr J w' (newSaid M St L) o S F' noSet noSet/\Born S n sc M St L o/\Sh.Moves F w (AllV J F') w':=by
 have hlen:(Sh.newSf n sc).disks.length=n:=by simp [Sh.newSf]
 have HO:=hid (over_ok w p n h.shelf hlen (by omega) (by omega))
 have HH:=hid h
 have hr:=said_right (M:=M) (St:=St) (L:=L) (d:=0) m3 m16 s1 s2 l1 l2 (by omega)
 have hrd:Hid (∀d,d<n->({ newSaid M St L with disk:=(d:Int) }:SuP).right=true):=hid fun d hd=>said_right m3 m16 s1 s2 l1 l2 (by omega)
 clear h
 go_enter Tryz.func27,Tryz.ntmps27
 go_wp2_with fail
 refine HO.out.mono ?_
 rintro e w1 ⟨v,t,mo,mu,a,rfl,hO⟩
 clear HO
 have hb1:Below w1.heap.size w1 (w1.alloc (.cells (newSaid M St L).cells 123)):=(Below.refl _ _).alloc (Nat.le_refl _) _
 have HQ:=hid (heap_alloc_new w1 (.cells (newSaid M St L).cells 123))
 have V0:=over_vo HH.out hO
 have V1:=V0.grown hb1
 have HNE:Hid (v≠t/\mo≠v/\mo≠t/\mo≠mu/\mu≠v/\mu≠t):=hid (by obtain ⟨_,o2,o3,o4⟩:=hO.ord;omega)
 have HMS:Hid (w1.heap[mo]?=some (.map #[] 0)/\w1.heap[mu]?=some (.map #[] 0)):=hid ⟨hO.opens,hO.used⟩
 have HBW:=hid (hO.bel.trans (hb1.mono hO.bel.size))
 have HAW:Hid (∀b,AllB F a n b\/b=v\/b=t\/b=mo\/b=mu->F b\/w.heap.size<=b):=hid fun b hb=>by
  obtain ⟨o1,o2,o3,o4⟩:=hO.ord
  rcases hb with (e | ⟨i,hi,rfl⟩) | rfl | rfl | rfl | rfl
  ·exact .inl e
  ·have:=hO.low i hi;exact .inr (by omega)
  all_goals exact .inr (by omega)
 have HV1:=hid V1
 have HB1:=hid hb1
 have HFT:=hid (fits_yes V1 hlen (newSaid M St L) St L rfl rfl l1 l2 s1 s2 hr (by unfold Fit newSaid;rcases hn with e | e;exact .inl ⟨by show (n:Int)=(M:Int);omega,rfl⟩;exact .inr (by show (n:Int)=(M:Int)+1;omega)) hb)
 obtain ⟨k0,k1,k2,k3,k4,k5,k6,k7⟩:=sup_cells HQ.out
 have HXV:Hid ((newSaid M St L).val=.agg #[.int .i64 1,.int .i64 M,.int .i64 0,.int .i64 St,.int .i64 L,.int .i64 (-1),.int .i64 0,.int .i64 0]):=hid rfl
 have HXC:Hid ((newSaid M St L).cells=#[.int .i64 1,.int .i64 M,.int .i64 0,.int .i64 St,.int .i64 L,.int .i64 (-1),.int .i64 0,.int .i64 0]):=hid rfl
 rw [HXC.out] at k0 k1 k2 k3 k4 k5 k6 k7 HQ HBW HV1 HB1 HFT
 rw [HXV.out] at HFT
 have hXg:(newSaid M St L).gen=1:=rfl
 have hXm:(newSaid M St L).mem=M:=rfl
 simp only [newSaid] at k0 k1 k2 k3 k4 k5 k6 k7
 have HQN:Hid (¬AllB F a n w1.heap.size):=hid fun e=>Nat.lt_irrefl _ (V0.ds.lt _ e)
 have HLT1:=hid V0.lt
 have HAP:=hid V0.apart
 clear hO hb1 V0 V1
 go_wp2_with fail
 generalize w1.alloc (.cells #[.int .i64 1,.int .i64 M,.int .i64 0,.int .i64 St,.int .i64 L,.int .i64 (-1),.int .i64 0,.int .i64 0] 123)=w2 at *
 generalize w1.heap.size=q at *
 refine HFT.out.mono ?_
 rintro e w3 ⟨rfl,hb3⟩
 have V3:=HV1.out.grown hb3
 have hq3:=(hb3.block q (lt_of_block HQ.out)).trans HQ.out
 have HC3:=hid (noneDead V3 hlen (fun d hd=>(calm_new (m:=n) (n:=sc) hd).alive))
 have c10:=V3.vol.c10
 have HMSA:Hid (∀wX:World,wX.heap[mo]?=some (.map #[] 0)/\wX.heap[mu]?=some (.map #[] 0)->mo<wX.heap.size/\mu<wX.heap.size):=hid fun wX h=>⟨(Array.getElem?_eq_some_iff.1 h.1).1,(Array.getElem?_eq_some_iff.1 h.2).1⟩
 have ms2:w2.heap[mo]?=some (.map #[] 0)/\w2.heap[mu]?=some (.map #[] 0):=⟨(HB1.out.block mo HLT1.out.1).trans HMS.out.1,(HB1.out.block mu HLT1.out.2).trans HMS.out.2⟩
 have ms3:w3.heap[mo]?=some (.map #[] 0)/\w3.heap[mu]?=some (.map #[] 0):=⟨(hb3.block mo (HMSA.out _ ms2).1).trans ms2.1,(hb3.block mu (HMSA.out _ ms2).2).trans ms2.2⟩
 have on3:=HBW.out.trans (hb3.mono HBW.out.size)
 have HK3:=hid (And.intro V3 hq3)
 have HM3:=hid (And.intro ms3 on3)
 clear hb3 V3 hq3 ms2 ms3 on3 k0 k1 k2 k3 k4 k5 k6 k7 HFT
 go_wp2_with fail
 refine HC3.out.mono ?_
 rintro e w4 ⟨rfl,hb4⟩
 have V4:=HK3.out.1.grown hb4
 have hq4:=(hb4.block q (lt_of_block HK3.out.2)).trans HK3.out.2
 obtain ⟨k0,k1,k2,k3,k4,k5,k6,k7⟩:=sup_cells (x:=newSaid M St L) hq4
 simp only [newSaid] at k0 k1 k2 k3 k4 k5 k6 k7
 have HNO:=hid (noughts_calm V4 hT hTB hlen (fun x hx=>by have:=new_small n sc x hx;omega) (fun d hd=>calm_new hd) (newSaid M St L) St L rfl rfl l1 l2 s1 s2 hb (fun d hd k hk=>by
  have hkb:k<blk sc:=by omega
  obtain ⟨e1,e2,_⟩:=sum_of_lt hkb
  have v1:=V_new (m:=n) (n:=sc) hd e2
  have v2:=V_new (m:=n) (n:=sc) hd e1
  exact ⟨good_noughts v1 v2,v2⟩))
 rw [HXV.out] at HNO
 have HK4:=hid (And.intro V4 hq4)
 have ms4:w4.heap[mo]?=some (.map #[] 0)/\w4.heap[mu]?=some (.map #[] 0):=⟨(hb4.block mo (HMSA.out _ HM3.out.1).1).trans HM3.out.1.1,(hb4.block mu (HMSA.out _ HM3.out.1).2).trans HM3.out.1.2⟩
 have HM4:=hid (And.intro ms4 (HM3.out.2.trans (hb4.mono HM3.out.2.size)))
 clear ms4
 clear hb4 V4 hq4 HC3 c10
 go_wp2_with fail
 refine HNO.out.mono ?_
 rintro e w5 ⟨rfl,o5,T5,hsm5,hG5⟩
 obtain ⟨F5,V5,m5,hk5⟩:=keepB hG5
 obtain ⟨hq5,hqn5⟩:=hk5 q (lt_of_block HK4.out.2) HQN.out
 have hq5b:=hq5.trans HK4.out.2
 have hst5:=((still_new (n:=n) (s:=sc)).same hsm5).fd (fun d hd=>hsm5.calm (calm_new hd)) (Nat.le_refl n)
 have hc5:=(fdS_calm (fun d hd=>hsm5.calm (calm_new (m:=n) (n:=sc) hd)) (Nat.le_refl n)).2
 have hl5:(fdS T5 n).1.disks.length=n:=by rw [fdS_length,hsm5.disks];exact hlen
 have hs5:(fdS T5 n).1.sectors=sc:=by rw [fdS_sectors,hsm5.sectors];rfl
 have hw5:∀x∈(fdS T5 n).1.disks,x.waits.length<=0:=by
  intro x hx
  obtain ⟨d,hd,rfl⟩:=List.mem_iff_getElem.1 hx
  have e:(fdS T5 n).1.disks[d]=dk (fdS T5 n).1 d:=by unfold dk;simp [List.getD,hd]
  rw [e,(hst5 d (by rw [hl5] at hd;exact hd)).2.1]
  exact Nat.le_refl 0
 generalize (fdS T5 n).1=S5 at *
 obtain ⟨k0,k1,k2,k3,k4,k5,k6,k7⟩:=sup_cells (x:=newSaid M St L) hq5b
 simp only [newSaid] at k0 k1 k2 k3 k4 k5 k6 k7
 have HSY:=hid (say_calm V5 hT hTB hWi hWB hl5 (newSaid M St L) hrd.out (Ps:=fun d c=>c=vals (dk S5 d)) (fun d hd=>(hst5 d hd).1 _) hc5 (by rw [hs5];omega) hw5 (by omega))
 rw [HXV.out] at HSY
 have hmoF:¬AllB F a n mo:=fun e=>(HAP.out mo e).2.2.1 rfl
 have hmuF:¬AllB F a n mu:=fun e=>(HAP.out mu e).2.2.2 rfl
 have HM5:Hid ((w5.heap[mo]?=some (.map #[] 0)/\w5.heap[mu]?=some (.map #[] 0))/\Sh.Only F w w5/\(∀b,AllB F5 a n b->F b\/w.heap.size<=b)/\¬AllB F5 a n mo/\¬AllB F5 a n mu):=hid (by
  obtain ⟨l1,l2⟩:=HMSA.out _ HM4.out.1
  exact ⟨⟨(hk5 mo l1 hmoF).1.trans HM4.out.1.1,(hk5 mu l2 hmuF).1.trans HM4.out.1.2⟩,(only_below F HM4.out.2).trans m5.1 (fun b e=>HAW.out b (.inl e)),fun b e=>(m5.2 b e).elim (fun e=>HAW.out b (.inl e)) (fun e=>.inr (Nat.le_trans HM4.out.2.size e)),(hk5 mo l1 hmoF).2,(hk5 mu l2 hmuF).2⟩)
 clear hmoF hmuF
 have HK5:=hid (And.intro V5 (And.intro m5 (And.intro hk5 (And.intro hq5b hqn5))))
 have HS5:=hid (And.intro hst5 (And.intro hl5 hs5))
 clear hG5 V5 m5 hk5 hq5 hqn5 hq5b hst5 hc5 hl5 hs5 hw5 hsm5 HNO
 go_wp2_with fail
 refine HSY.out.mono ?_
 rintro e w6 ⟨rfl,T6,o6,hSy,hc6,hG6⟩
 obtain ⟨F6,V6,m6,hk6⟩:=keepB hG6
 obtain ⟨hq6,hqn6⟩:=hk6 q (lt_of_block HK5.out.2.2.2.1) HK5.out.2.2.2.2
 have hq6b:=hq6.trans HK5.out.2.2.2.1
 obtain ⟨k0,k1,k2,k3,k4,k5,k6,k7⟩:=sup_cells (x:=newSaid M St L) hq6b
 simp only [newSaid] at k0 k1 k2 k3 k4 k5 k6 k7
 have HAS:=hid (as_ok V6 ⟨HNE.out.1,HNE.out.2.1,HNE.out.2.2.2.2.1⟩ (by rw [hSy.len];exact HS5.out.2.1) (newSaid M St L) rfl l1 l2 (by rw [hSy.sectors,HS5.out.2.2];omega))
 rw [HXV.out] at HAS
 have HM6:Hid ((w6.heap[mo]?=some (.map #[] 0)/\w6.heap[mu]?=some (.map #[] 0))/\Sh.Only F w w6/\(∀b,AllB F6 a n b->F b\/w.heap.size<=b)):=hid (by
  obtain ⟨l1,l2⟩:=HMSA.out _ HM5.out.1
  obtain ⟨ms,on,hA,n1,n2⟩:=HM5.out
  exact ⟨⟨(hk6 mo l1 n1).1.trans ms.1,(hk6 mu l2 n2).1.trans ms.2⟩,on.trans m6.1 hA,fun b e=>(m6.2 b e).elim (hA b) (fun e=>.inr (Nat.le_trans on.size e))⟩)
 have HK6:=hid (And.intro V6 (And.intro m6 (And.intro hk6 (And.intro hSy hc6))))
 clear hG6 V6 m6 hk6 hq6 hqn6 hq6b hSy hc6 HSY
 go_wp2_with fail
 refine HAS.out.mono ?_
 rintro e w7 ⟨rfl,gn,g7,V7,hg7,hl7,hO7,_⟩
 have HK7:=hid (And.intro V7 (And.intro hg7 (And.intro hl7 hO7)))
 clear V7 hg7 hl7 hO7 HAS k0 k1 k2 k3 k4 k5 k6 k7
 go_wp2
 go_ret2
 obtain ⟨V7,hg7,hl7,hO7⟩:=HK7.out
 obtain ⟨l1,l2⟩:=HMSA.out _ HM6.out.1
 have hne:=HNE.out
 have ms7:w7.heap[mo]?=some (.map #[] 0)/\w7.heap[mu]?=some (.map #[] 0):=⟨(hO7.block mo l1 (fun e=>e.elim hne.2.1 hne.2.2.1)).trans HM6.out.1.1,(hO7.block mu l2 (fun e=>e.elim hne.2.2.2.2.1 hne.2.2.2.2.2)).trans HM6.out.1.2⟩
 obtain ⟨_,_,_,hSy,hc6⟩:=HK6.out
 obtain ⟨hst5,hl5,hs5⟩:=HS5.out
 refine ⟨⟨B,W,v,p,t,n,mo,mu,L,a,gn⟩,F6,o6,T6,rfl,rfl,rfl,rfl,rfl,rfl,⟨V7.same_g hg7,hl7,hne,empty_set ms7.1,empty_set ms7.2⟩,⟨hc6,hSy.len.trans hl5,hSy.sectors.trans hs5,fun x hx=>?_,fun d hd=>?_⟩,HM6.out.2.1.trans hO7 (fun b e=>HAW.out b (e.elim (fun e=>.inr (.inl e)) (fun e=>.inr (.inr (.inl e))))),?_⟩
 ·have:=hSy.waits x hx
  omega
 ·obtain ⟨d1,d2,d3⟩:=hSy.done d hd
  rw [d2]
  refine ⟨d1,?_,d3⟩
  unfold saidOn
  rw [(hst5 d hd).2.2]
  rfl
 ·rintro b (e | e)
  ·exact HM6.out.2.2 b e
  ·exact HAW.out b (.inr e)
end
section
variable {J:Vk} {w w':World} {s:SuP} {o:Nat->Int} {S:Sh.Sf} {F:Nat->Prop} {D U:Set0} {M St:Nat}
end
section
variable {J:Vk} {w w':World} {s:SuP} {o:Nat->Int} {S:Sh.Sf} {F:Nat->Prop} {D U:Set0} {M St:Nat}
end
section
variable {S S' T:Sh.Sf} {n L M St k st:Nat} {o:Nat->Int} {v:Nat->Nat->Sh.Bs} {s:SuP}
theorem freeK_lt {U:Set0} {d L:Nat} (h1:1<=L):(freeK U d L).getD 0<L:=by
 cases h:freeK U d L with
 | none=>exact h1
 | some k =>
  have:=List.mem_of_find?_eq_some h
  exact List.mem_range.1 this
/-! ### reads -/
def togV (s:SuP) (M k st:Nat) (tk:Nat->Bool) (S:Sh.Sf):Nat->Sh.Bs
 | 0=>Sh.noughts
 | j+1=>if tk j then xorL (togV s M k st tk S j) (U.V S (numOf s M st j) (dataOf k)) else togV s M k st tk S j
theorem tog_read {tk:Nat->Bool} {m:Nat} (h:∀j,j<m->tk j=true->rdY S (numOf s M st j) k=0):(tog s M k st tk S m).2.2=0/\(tog s M k st tk S m).2.1=togV s M k st tk S m:=by
 induction m with
 | zero=>exact ⟨rfl,rfl⟩
 | succ m ih =>
  obtain ⟨h1,h2⟩:=ih fun j hj=>h j (by omega)
  unfold togV
  cases ht:tk m
  ·rw [tog_skip ht]
   exact ⟨h1,by simpa using h2⟩
  ·have hr:rdY (tog s M k st tk S m).1 (numOf s M st m) k=0:=by rw [(tog_same m).rdY];exact h m (by omega) ht
   rw [tog_take h1 ht,if_pos hr,if_pos hr,h2,(tog_same m).V]
   exact ⟨rfl,by simp⟩
theorem tog_lack {tk:Nat->Bool} {m j:Nat} (h0:(tog s M k st tk S j).2.2=0) (ht:tk j=true) (hr:rdY S (numOf s M st j) k=4\/rdY S (numOf s M st j) k=5) (hj:j<m):(tog s M k st tk S m).2.2=10:=by
 have hr':rdY (tog s M k st tk S j).1 (numOf s M st j) k=4\/rdY (tog s M k st tk S j).1 (numOf s M st j) k=5:=by rw [(tog_same j).rdY];exact hr
 have hn:rdY (tog s M k st tk S j).1 (numOf s M st j) k≠0:=by rcases hr' with e | e<;>rw [e]<;>decide
 have e1:(tog s M k st tk S (j+1)).2.2=10:=by
  rw [tog_take h0 ht]
  show (if _ then _ else _)=_
  rw [if_neg hn,if_pos hr']
 rw [tog_stop (j:=j+1) (n:=m) (by rw [e1];decide) (by omega),e1]
end
section
variable {S S' T:Sh.Sf} {n L M St k st:Nat} {o:Nat->Int} {v v':Nat->Nat->Sh.Bs} {s:SuP} {tk:Nat->Bool}
/-! ### a disk dies -/
end
section
variable {J:Vk} {w w':World} {s:SuP} {o:Nat->Int} {S:Sh.Sf} {F:Nat->Prop} {D U:Set0} {M St:Nat}
theorem numOf_id {s:SuP} (hs:s.spare=-1) (M st m:Nat):numOf s M st m=m:=by
 unfold numOf
 rw [if_neg]
 rw [hs]
 omega
end
def UsedOf (U U':Set0):Prop:=U'=U\/U'=noSet\/(∃kl,U'=U.put kl one0)\/∃kl,U'=noSet.put kl one0
theorem FlR.usedOf {n L:Nat} {D U D' U':Set0} {S:Sh.Sf} {y:Int} {b:Stt} (h:FlR n L D U S y b D' U'):U'=U\/U'=noSet:=by
 cases h with
 | first o' h=>exact .inl rfl
 | slots o1 y b h1 h2 h3 h4=>exact .inl rfl
 | again o1 o' b h1 h2 h3 h4=>exact .inl rfl
 | none o' h1 h2=>exact .inr rfl
 | all o1 o' b h1 h2 h3 h4=>exact .inr rfl
theorem RecR.usedOf {n L d:Nat} {l hd:Sh.Bs} {a b:Stt} {D U D' U':Set0} {y:Int} (h:RecR n L d l hd a D U y b D' U'):UsedOf U U':=by
 rcases h with ⟨_,_,rfl,_⟩ | ⟨_,y1,a1,D1,U1,h1,⟨_,_,_,_,rfl⟩ | ⟨_,_,rfl,_⟩⟩
 ·exact .inr (.inr (.inl ⟨_,rfl⟩))
 ·exact h1.usedOf.imp id .inl
 ·rcases h1.usedOf with rfl | rfl
  ·exact .inr (.inr (.inl ⟨_,rfl⟩))
  ·exact .inr (.inr (.inr ⟨_,rfl⟩))
theorem WrT.usedOf {nn LL M k st a pl b:Nat} {s:SuP} {x:Sh.Bs} {D U D' U':Set0} {t e:Stt} {y:Int} (h:WrT nn LL s M k st a pl b x D U t y e D' U'):UsedOf U U':=by
 cases h with
 | io=>exact .inl rfl
 | data=>exact .inl rfl
 | par _ _ _ _ _ _ hw=>cases hw with
  | lack=>exact .inl rfl
  | done=>exact .inl rfl
 | both _ _ _ _ _ _ hw=>cases hw with
  | lack=>exact .inl rfl
  | recd _ _ _ _ _ hr=>exact hr.usedOf
  | data _ _ _ _ _ _ _ hr=>exact hr.usedOf
  | both _ _ _ _ _ _ _ _ _ hr=>exact hr.usedOf
theorem WrR.usedOf {nn LL M St:Nat} {s:SuP} {n:Int} {x:Sh.Bs} {D U D' U':Set0} {S:Sh.Sf} {o:Nat->Int} {e:Stt} {y:Int} (h:WrR nn LL s M St n x D U S o y e D' U'):UsedOf U U':=by
 cases h with
 | refused=>exact .inl rfl
 | flush _ _ _ _ _ _ _ _ _ hf=>exact hf.usedOf.imp id .inl
 | after _ _ _ _ _ _ _ _ _ _ _ _ hf hw =>
  rcases hf.usedOf with rfl | rfl
  ·exact hw.usedOf
  ·rcases hw.usedOf with e | e | e | e
   ·exact .inr (.inl e)
   ·exact .inr (.inl e)
   ·exact .inr (.inr (.inr e))
   ·exact .inr (.inr (.inr e))
 | first _ _ _ _ _ _ _ _ _ hw=>exact hw.usedOf
theorem size_noput (w:World) (kl:Lit):Maps.size (DataW.put noSet kl one0)<=1:=size_put_le (empty_set (k:=224) (heap_alloc_new w (.map #[] 0))) lawSlot
theorem UsedOf.size {U U':Set0} {w:World} {b:Nat} (h:UsedOf U U') (hs:SetIs w 224 b U):Maps.size U'<=Maps.size U+1:=by
 rcases h with rfl | rfl | ⟨kl,rfl⟩ | ⟨kl,rfl⟩
 ·omega
 ·exact Nat.zero_le _
 ·exact size_put_le hs lawSlot
 ·have:=size_noput w kl
  omega
theorem xorL_ext {a b:List Nat} (hl:a.length=b.length) (h:∀i,i<a.length->a.getD i 0=b.getD i 0):a=b:=by
 refine List.ext_getElem hl fun i h1 h2=>?_
 have:=h i h1
 simpa [List.getD,h1,h2] using this
theorem xorL_len (a b:List Nat):(xorL a b).length=a.length:=by unfold xorL;rw [tab_length]
theorem xorL_at (a b:List Nat) (i:Nat) (h:i<a.length):(xorL a b).getD i 0=a.getD i 0 ^^^ b.getD i 0:=by
 unfold xorL
 exact tab_get _ _ _ h
theorem noughts_at (i:Nat):Sh.noughts.getD i 0=0:=by
 unfold Sh.noughts
 rw [List.getD_eq_getElem?_getD,List.getElem?_replicate]
 split<;>rfl
end Go.Proofs.YtcnjpmcelihknaaGreatDoor.U
