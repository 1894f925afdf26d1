/-
  What the statement's proof rests on, part 35.
  Conditions: each theorem's own.
-/
import Derived.Test.YtgebkmpmnjhceaaGreatDoorZ34
import Derived.Test.YtgebkmpmnjhceaaGreatDoorZ33
import Derived.Test.YtgebkmpmnjhceaaGreatDoorZtk
open Go.Lib (hid)
namespace Go.Proofs.YtgebkmpmnjhceaaGreatDoor.U
open Go.ChangeShapes Go.WideShapes Go.ChangeAt Go.RowKit Go.Maps
theorem info_strs:(Tryz.prog.info? 50).map (fun i=>(i.zero,i.size,i.bytes))=some (some (.slice none 0 0),1,24):=by kernel_rfl
theorem info_bools:(Tryz.prog.info? 4).map (fun i=>(i.zero,i.size,i.bytes))=some (some (.bool false),1,1):=by kernel_rfl
structure Vals (w:World) (g n c:Nat) (l:List Value):Prop where
 len:l.length=n
 le:n<=c
 lt:g<w.heap.size
 there:∀j,j<c->(w.cell? ⟨g,j,none⟩).isSome=true
 free:∀j,j<c->w.frozen? ⟨g,j,none⟩=false
 at_:∀j,j<n->w.cell? ⟨g,j,none⟩=l[j]?
def OVals (w:World) (s:Value) (n:Nat) (l:List Value):Prop:=(s=.slice none 0 0/\n=0/\l=[])\/∃g c,s=.slice (some ⟨g,0,none⟩) n c/\Vals w g n c l
theorem zero_cells_V (z:Value) (k i:Nat) (h:i<k):∃u,(Builtin.zeroCells #[z] k)[i]?=some u:=⟨_,Array.getElem?_eq_getElem (by simp [Builtin.zeroCells];exact h)⟩
set_option maxRecDepth 20000 in
theorem run_append_vals (ty:TypeId) {w:World} {s:Value} {n cc:Nat} {l:List Value} (h:OVals w s n l) {ad:Addr} {x:Value} (hx:w.cell? ad=some x) (h1:x.oneCell'=true) (hn:n<=100000) :
  ∃g' c' w',(Builtin.append_ #[36,36] ty #[s,.slice (some ad) 1 cc]).run Tryz.prog w=.ok (.slice (some ⟨g',0,none⟩) (n+1) c') w'/\Vals w' g' (n+1) c' (l++[x])/\((∃c,s=.slice (some ⟨g',0,none⟩) n c/\w.grownBy w' (some g'))\/(g'=w.heap.size/\Below w.heap.size w w')):=by
 obtain ⟨i,hi,hz,hsz,hby⟩:=info_parts info_strs
 have hadd:ad.add 0=ad:=by unfold Addr.add;simp
 have hs:Src Tryz.prog i.size 36 (.slice (some ad) 1 cc) 1 [x] w:=by
  rw [hsz]
  refine Src.ofSlice w Tryz.underlying36 ad 1 cc _ rfl (fun j u hu=>?_) (fun u hu=>by simp at hu;subst hu;exact h1)
  match j,hu with
  | 0,hu=>rw [hadd,hx];exact hu
 have grow:∀(A0:Option Addr) (cp:Nat),n<=cp->¬n+1<=cp->l.length=n->(Builtin.firstCells i.size n (.slice A0 n cp)).run Tryz.prog w.drew=.ok l.toArray w.drew ->
   ∃g' c' w',(Builtin.append_ #[36,36] ty #[.slice A0 n cp,.slice (some ad) 1 cc]).run Tryz.prog w=.ok (.slice (some ⟨g',0,none⟩) (n+1) c') w'/\Vals w' g' (n+1) c' (l++[x])/\(g'=w.heap.size/\Below w.heap.size w w'):=by
  intro A0 cp h1' h2 hl hold
  obtain rfl:cp=n:=by omega
  have hg:=grownCap_ge w (cp+1) cp 50
  refine ⟨w.heap.size,_,_,run_append_grow_src w _ _ ty _ i _ Tryz.underlying36 hi hz A0 cp cp l hold _ 1 _ hs (by omega) (by omega) (by rw [hby];have:=nextslicecap_le (need:=cp+1) (old:=cp) (by omega);omega),?_,rfl,?_⟩
  ·generalize hG:grownCap w (cp+1) cp 50=G at *
   have hrow:(w.drew.alloc (.cells ((l++[x]).toArray++Builtin.zeroCells (Value.slice none 0 0).cells (G-(cp+1))) 50)).heap[w.heap.size]?=_:=heap_alloc_new w.drew _
   have hlen:(l++[x]).toArray.size=cp+1:=by simp [hl]
   refine ⟨by simp [hl],hg,by simp,fun j hj=>?_,fun j _=>frozen_of_row _ _ _ _ _ hrow,fun j hj=>?_⟩
   ·rw [cell_of_row _ _ j _ _ _ hrow]
    by_cases hjc:j<cp+1
    ·rw [Array.getElem?_append_left (by rw [hlen];exact hjc),List.getElem?_toArray,List.getElem?_eq_getElem (by simp [hl];omega)];rfl
    ·rw [Array.getElem?_append_right (by rw [hlen];omega),hlen]
     obtain ⟨u,hu⟩:=zero_cells_V (.slice none 0 0) (G-(cp+1)) (j-(cp+1)) (by omega)
     exact (congrArg Option.isSome hu).trans rfl
   ·rw [cell_of_row _ _ j _ _ _ hrow,Array.getElem?_append_left (by rw [hlen];exact hj),List.getElem?_toArray]
  ·exact (Below.refl _ _).drew.alloc (Nat.le_refl _) _
 rcases h with ⟨rfl,rfl,rfl⟩ | ⟨g,c,rfl,h⟩
 ·obtain ⟨g',c',w',h1,h2,h3⟩:=grow none 0 (Nat.le_refl _) (by omega) rfl (by rw [hsz];exact run_firstCells_none w.drew 1 0 0 0)
  exact ⟨g',c',w',h1,h2,.inr h3⟩
 ·by_cases hr:n+1<=c
  ·refine ⟨g,c,_,run_append_room_src w _ _ ty _ i Tryz.underlying36 hi g 0 n c _ 1 _ hs hr (fun j hj=>?_) (fun j hj=>?_),?_,.inl ⟨c,rfl,?_⟩⟩
   ·rw [hsz]
    obtain rfl:j=0:=by simpa using hj
    simp only [Nat.mul_one,Nat.zero_add,Nat.add_zero];exact h.there n (by omega)
   ·rw [hsz]
    obtain rfl:j=0:=by simpa using hj
    simp only [Nat.mul_one,Nat.zero_add,Nat.add_zero];exact h.free n (by omega)
   ·rw [hsz]
    have hin:∀j,j<([x]).length->(w.cell? ⟨g,0+n*1+j,none⟩).isSome=true:=fun j hj=>by
     obtain rfl:j=0:=by simpa using hj
     simp only [Nat.mul_one,Nat.zero_add,Nat.add_zero];exact h.there n (by omega)
    refine ⟨by simp [h.len],hr,?_,fun j hj=>World.isSome_setCells _ _ _ _ _ (h.there j hj),fun j hj=>by rw [World.frozen?_setCells];exact h.free j hj,fun j hj=>?_⟩
    ·exact World.block_lt_of_cell? (w.setCells g (0+n*1) [x]) _ (World.cell?_setCells_in g _ _ w hin 0 (by simp))
    ·by_cases e:j=n
     ·subst e
      have:=World.cell?_setCells_in g _ _ w hin 0 (by simp)
      simp only [Nat.mul_one,Nat.zero_add,Nat.add_zero] at this ⊢
      rw [this,<- h.len]
      simp
     ·rw [World.cell?_setCells_out g _ _ w _ (fun _ _=>.inl (by show j<0+n*1;omega)),h.at_ j (by omega),List.getElem?_append_left (by rw [h.len];omega)]
   ·rw [hsz]
    show w.grownBy (w.setCell ⟨g,0+n*1,none⟩ x) (some g)
    have hO:Sh.Only (fun b=>b=g) w (w.setCell ⟨g,0+n*1,none⟩ x):=(Sh.Only.refl (fun b=>b=g) w).setCell (p:=⟨g,0+n*1,none⟩) (.inl rfl) _
    exact ⟨hO.os,hO.tape,hO.output,hO.size,fun k _ hk=>Sh.heap_set_other w ⟨g,0+n*1,none⟩ _ (fun e=>hk (by rw [e]))⟩
  ·have hold:(Builtin.firstCells i.size n (.slice (some ⟨g,0,none⟩) n c)).run Tryz.prog w.drew=.ok l.toArray w.drew:=by
    rw [hsz]
    refine run_firstCells_some w.drew 1 n ⟨g,0,none⟩ n c l (by rw [h.len,Nat.mul_one]) (fun j v hv=>?_)
    have hj:j<l.length:=by
     rcases Nat.lt_or_ge j l.length with h | h
     ·exact h
     ·rw [List.getElem?_eq_none h] at hv;cases hv
    rw [Addr.add_mid,Nat.zero_add]
    exact (h.at_ j (by rw [<- h.len];exact hj)).trans hv
   obtain ⟨g',c',w',h1,h2,h3⟩:=grow (some ⟨g,0,none⟩) c h.le hr h.len hold
   exact ⟨g',c',w',h1,h2,.inr h3⟩
theorem wp_append_vals {o:Oper} {a:Act} {w:World} {K:Act->World->Prop} {Q:Exit->Act->World->Prop} (so x:Operand)
  (ho:o.op=.call { callee:=.builtin .append,args:=#[so,x],argTypes:=#[36,36] })
  {s v:Value} {n cc:Nat} {l:List Value} {ad:Addr} (hs:a.eval so=s) (hx:a.eval x=.slice (some ad) 1 cc) (h:OVals w s n l) (hb:w.cell? ad=some v) (h1:v.oneCell'=true) (hn:n<=100000)
  (hk:∀g' c' w',Vals w' g' (n+1) c' (l++[v])->((∃c,s=.slice (some ⟨g',0,none⟩) n c/\w.grownBy w' (some g'))\/(g'=w.heap.size/\Below w.heap.size w w'))->K (a.put o.dst (.slice (some ⟨g',0,none⟩) (n+1) c')) w'):Oper.wp Tryz.prog o a w K Q:=by
 obtain ⟨g',c',w',hr,h2,h3⟩:=run_append_vals (cc:=cc) o.type h hb h1 hn
 unfold Oper.wp execOp
 simp only [ho,resolve,invoke,builtin,Sem.run_bind,Sem.run_pure,Result.andThen_ok,List.map_toArray,List.map_cons,List.map_nil,hs,hx,hr]
 exact hk g' c' w' h2 h3
def rowB (p v M St L:Nat) (s:Value) (tq:Nat):Array Value:=#[.pointer (some ⟨p,0,none⟩),.pointer (some ⟨v,0,none⟩),.int .i64 M,.int .i64 St,.int .i64 L,s,.bool false,.slice (some ⟨tq,0,none⟩) St St,.bool false]
structure BegI (J:Vk) (w:World) (r tq:Nat) (A:Ar) (S:Sh.Sf) (o:Nat->Int) (F:Nat->Prop) (i:Nat) (s:Value) (g:Nat->Nat):Prop where
 vr:Vr J w A.s o S F noSet noSet
 row:w.heap[r]?=some (.cells (rowB J.p J.v A.M A.St A.L s tq) 39 (0,0))
 low:J.B<=r
 out:¬AllV J F r
 log:∀i,i<J.n->J.gn i≠r
 tab:OVals w s i ((List.range i).map fun j=>.slice (some ⟨g j,0,none⟩) 1 1)
 mid:∀j,j<i->Sh.Mids w (g j) 0 1 1 [Sh.noughts]/\J.B<=g j/\¬RG J r F (g j)
 inj:∀j k,j<i->k<i->g j=g k->j=k
 own:∀q n c,s=.slice (some ⟨q,0,none⟩) n c->J.B<=q/\¬RG J r F q/\∀j,j<i->g j≠q
section
variable {J:Vk} {w w' w3 w4:World} {r tq i:Nat} {A:Ar} {S:Sh.Sf} {o:Nat->Int} {F:Nat->Prop} {s:Value} {g:Nat->Nat}
theorem OVals.grown {n:Nat} {l:List Value} (h:OVals w s n l) (hb:Below w.heap.size w w'):OVals w' s n l:=by
 rcases h with h | ⟨q,c,e,h⟩
 ·exact .inl h
 ·have hq:=hb.block q h.lt
  exact .inr ⟨q,c,e,h.len,h.le,Nat.lt_of_lt_of_le h.lt hb.size,fun j hj=>by rw [World.cell?_of_block (w:=w) hq];exact h.there j hj,fun j hj=>by rw [World.frozen?_of_block (w:=w) hq];exact h.free j hj,fun j hj=>by rw [World.cell?_of_block (w:=w) hq];exact h.at_ j hj⟩
theorem BegI.grown (h:BegI J w r tq A S o F i s g) (hb:Below w.heap.size w w'):BegI J w' r tq A S o F i s g :=
 ⟨h.vr.grown hb,(hb.block r (Array.getElem?_eq_some_iff.1 h.row).1).trans h.row,h.low,h.out,h.log,h.tab.grown hb,fun j hj=>⟨(h.mid j hj).1.same (hb.block _ (h.mid j hj).1.lt) hb.size,(h.mid j hj).2⟩,h.inj,h.own⟩
theorem BegI.cells (h:BegI J w r tq A S o F i s g):w.cell? ⟨r,5,none⟩=some s/\w.frozen? ⟨r,5,none⟩=false :=
 ⟨cell_of_row _ _ 5 _ _ _ h.row,frozen_of_row _ _ 5 _ _ h.row⟩
theorem BegI.lt (h:BegI J w r tq A S o F i s g):∀b,RG J r F b->b<w.heap.size:=by
 rintro b (e | rfl | ⟨i,hi,rfl⟩)
 ·exact h.vr.lt b e
 ·exact (Array.getElem?_eq_some_iff.1 h.row).1
 ·exact World.block_lt_of_cell? w _ (h.vr.logs.log i hi).c0
theorem range_snoc (i:Nat) (f f':Nat->Value) (h:∀j,j<i->f' j=f j):(List.range (i+1)).map f'=(List.range i).map f++[f' i]:=by
 rw [List.range_succ,List.map_append]
 congr 1
 exact List.map_congr_left fun j hj=>h j (by simpa using hj)
theorem mids_new (w:World) (t:TypeId) (b:Sh.Bs):Sh.Mids (w.alloc (.cells #[Sh.sv b] t)) w.heap.size 0 1 1 [b]:=by
 have hrow:=heap_alloc_new w (.cells #[Sh.sv b] t)
 refine ⟨rfl,Nat.le_refl _,by simp,fun j hj=>?_,fun j _=>frozen_of_row _ _ _ _ _ hrow,fun j hj=>?_⟩
 ·obtain rfl:j=0:=by omega
  rw [cell_of_row _ _ (0+0) _ _ _ hrow];rfl
 ·obtain rfl:j=0:=by omega
  rw [cell_of_row _ _ (0+0) _ _ _ hrow];rfl
theorem mids_grown {w w':World} {g off n c:Nat} {l:List Sh.Bs} (h:Sh.Mids w g off n c l) (hb:Below w.heap.size w w'):Sh.Mids w' g off n c l:=h.same (hb.block _ h.lt) hb.size
theorem wp_make128 {o:Oper} {a:Act} {w:World} {K:Act->World->Prop} {Q:Exit->Act->World->Prop} (l c:Operand) (hop:o.op=Op.makeSlice 41 l c) (hl:a.eval l=.int .i64 128) (hc:a.eval c=.int .i64 128)
  (hK:∀w',w'.ownsRow w.heap.size 5 1 (.slice (some ⟨w.heap.size,0,none⟩) 128 128) 128 (bts Sh.noughts)->Below w.heap.size w w'->K (a.put o.dst (.slice (some ⟨w.heap.size,0,none⟩) 128 128)) w'):Oper.wp Tryz.prog o a w K Q:=by
 obtain ⟨i1,ki,kz0,kz1,kz2⟩:=info_parts (show (Tryz.prog.info? 5).map (fun i=>(i.zero,i.size,i.bytes))=some (some (.int .u8 0),1,1) by kernel_rfl)
 obtain ⟨w',hrun,r1,r2⟩:=run_make_full (P:=Tryz.prog) w w.heap.size 41 5 i1 _ 1 Tryz.underlying41 ki kz0 kz1 .i64 .i64 128 (by rw [kz2];omega) (by unfold maxLen;omega) (Nat.le_refl _)
 have hrun':(Instr.makeSlice 41 (.int .i64 128) (.int .i64 128)).run Tryz.prog w=.ok (.slice (some ⟨w.heap.size,0,none⟩) 128 128) w':=hrun
 unfold Oper.wp
 simp [execOp,hop,hl,hc,hrun',Result.andThen]
 exact hK _ (Sh.noughts_own r1) ((Below.refl _ w).grown r2 (Nat.le_refl _) (fun _ h=>by cases h))
theorem make_bools (w:World) (n:Nat) (hn:n<=1000):∃w',(Instr.makeSlice 37 (.int .i64 n) (.int .i64 n)).run Tryz.prog w=.ok (.slice (some ⟨w.heap.size,0,none⟩) n n) w'/\Below w.heap.size w w':=by
 obtain ⟨i1,ki,kz0,kz1,kz2⟩:=info_parts info_bools
 obtain ⟨w',hrun,r1,r2⟩:=run_make_full (P:=Tryz.prog) w w.heap.size 37 4 i1 _ 1 Tryz.underlying37 ki kz0 kz1 .i64 .i64 n (by rw [kz2];omega) (by unfold maxLen;omega) (Nat.le_refl _)
 exact ⟨w',hrun,(Below.refl _ w).grown r2 (Nat.le_refl _) (fun _ h=>by cases h)⟩
theorem BegI.next (h:BegI J w r tq A S o F i s g) {x q' c':Nat} (hb:Below w.heap.size w w3) (hx:w.heap.size<=x) (hm:Sh.Mids w3 x 0 1 1 [Sh.noughts])
  (hv:Vals w4 q' (i+1) c' ((List.range i).map (fun j=>Value.slice (some ⟨g j,0,none⟩) 1 1)++[.slice (some ⟨x,0,none⟩) 1 1]))
  (ha:(∃c,s=.slice (some ⟨q',0,none⟩) i c/\w3.grownBy w4 (some q'))\/(q'=w3.heap.size/\Below w3.heap.size w3 w4)) :
  BegI J (w4.setCell ⟨r,5,none⟩ (.slice (some ⟨q',0,none⟩) (i+1) c')) r tq A S o F (i+1) (.slice (some ⟨q',0,none⟩) (i+1) c') (fun j=>if j=i then x else g j):=by
 have h3:=h.grown hb
 have hlt3:=h3.lt
 have hltw:=h.lt
 have hrlt:=hlt3 r (.inr (.inl rfl))
 have hsz:=h3.vr.size
 -- the table's block
 have hq:¬RG J r F q'/\J.B<=q'/\(∀j,j<i->g j≠q')/\x≠q':=by
  rcases ha with ⟨c,e,_⟩ | ⟨e,_⟩
  ·obtain ⟨a1,a2,a3⟩:=h3.own q' i c e
   refine ⟨a2,a1,a3,fun e2=>?_⟩
   rcases h.tab with ⟨e3,_⟩ | ⟨q,c3,e3,hvv⟩
   ·rw [e3] at e;cases e
   ·rw [e3] at e
    injection e with e4 e5 e6
    injection e4 with e4
    injection e4 with e4
    have:=hvv.lt
    omega
  ·refine ⟨fun e2=>?_,by omega,fun j hj e2=>?_,fun e2=>?_⟩
   ·have:=hlt3 _ e2;omega
   ·have:=(h3.mid j hj).1.lt;omega
   ·have:=hm.lt;omega
 have ho4:Sh.Only (fun b=>b=q') w3 w4:=by
  rcases ha with ⟨c,e,hg⟩ | ⟨e,hb4⟩
  ·exact ⟨hg.os,hg.tape,hg.output,hg.size,fun k hk hn=>hg.block k hk (fun e=>hn (by injection e))⟩
  ·exact ⟨hb4.os,hb4.tape,hb4.output,hb4.size,fun k hk hn=>hb4.block k hk⟩
 have ho:Sh.Only (fun b=>b=q'\/b=r) w3 (w4.setCell ⟨r,5,none⟩ (.slice (some ⟨q',0,none⟩) (i+1) c')) :=
  (ho4.mono fun _ e=>.inl e).setCell (p:=⟨r,5,none⟩) (.inl (.inr rfl)) _
 have hrq:r≠q':=fun e=>hq.1 (.inr (.inl e.symm))
 have hb5:∀k,k≠r->(w4.setCell ⟨r,5,none⟩ (.slice (some ⟨q',0,none⟩) (i+1) c')).heap[k]?=w4.heap[k]?:=fun k hk=>heap_setCell_other w4 ⟨r,5,none⟩ k _ hk
 have hrow4:=(ho4.block r hrlt hrq).trans h3.row
 have hrow:=heap_setCell_same w4 r 5 _ _ (.slice (some ⟨q',0,none⟩) (i+1) c') hrow4
 have hsz5:w4.heap.size<=(w4.setCell ⟨r,5,none⟩ (.slice (some ⟨q',0,none⟩) (i+1) c')).heap.size:=by simp
 refine ⟨h3.vr.only_tab ho ?_ (h3.vr.bel.trans (ho.below (fun b e=>e.elim (fun e=>e▸hq.2.1) (fun e=>e▸h.low)) hsz)) ?_,hrow,h.low,h.out,h.log,?_,fun j hj=>?_,fun j k hj hk e=>?_,fun q n c e=>?_⟩
 ·intro b hb e
  rcases e with rfl | rfl
  ·exact hq.1 (.inl hb)
  ·exact h.out hb
 ·intro j hj
  refine ho.block _ (hlt3 _ (.inr (.inr ⟨j,hj,rfl⟩))) fun e=>?_
  rcases e with e | e
  ·exact hq.1 (.inr (.inr ⟨j,hj,e.symm⟩))
  ·exact h.log j hj e
 ·refine .inr ⟨q',c',rfl,?_⟩
  rw [range_snoc i (fun j=>Value.slice (some ⟨g j,0,none⟩) 1 1) (fun j=>Value.slice (some ⟨if j=i then x else g j,0,none⟩) 1 1) (fun j hj=>by show Value.slice (some ⟨if j=i then x else g j,0,none⟩) 1 1=_;rw [if_neg (by omega)])]
  simp only [if_true]
  have hqb:=hb5 q' (Ne.symm hrq)
  exact ⟨hv.len,hv.le,Nat.lt_of_lt_of_le hv.lt hsz5,fun j hj=>by rw [World.cell?_of_block (w:=w4) hqb];exact hv.there j hj,fun j hj=>by rw [World.frozen?_of_block (w:=w4) hqb];exact hv.free j hj,fun j hj=>by rw [World.cell?_of_block (w:=w4) hqb];exact hv.at_ j hj⟩
 ·by_cases e:j=i
  ·simp only [e,if_true]
   have hxr:¬RG J r F x:=fun e2=>by have:=hltw x e2;omega
   refine ⟨hm.same ?_ (Nat.le_trans ho4.size hsz5),by have:=h.vr.size;omega,hxr⟩
   rw [hb5 x fun e2=>hxr (.inr (.inl e2))]
   exact ho4.block x hm.lt hq.2.2.2
  ·simp only [e,if_false]
   obtain ⟨m1,m2,m3⟩:=h3.mid j (by omega)
   refine ⟨m1.same ?_ (Nat.le_trans ho4.size hsz5),m2,m3⟩
   rw [hb5 _ fun e2=>m3 (.inr (.inl e2))]
   exact ho4.block _ m1.lt (hq.2.2.1 j (by omega))
 ·have hne:∀j,j<i->g j≠x:=fun j hj e2=>by have:=(h.mid j hj).1.lt;omega
  by_cases e1:j=i<;>by_cases e2:k=i
  ·rw [e1,e2]
  ·simp only [e1,e2,if_true,if_false] at e
   exact absurd e.symm (hne k (by omega))
  ·simp only [e1,e2,if_true,if_false] at e
   exact absurd e (hne j (by omega))
  ·simp only [e1,e2,if_false] at e
   exact h.inj j k (by omega) (by omega) e
 ·injection e with e4 e5 e6
  injection e4 with e4
  injection e4 with e4
  subst e4
  refine ⟨hq.2.1,hq.1,fun j hj=>?_⟩
  by_cases e1:j=i
  ·simp only [e1,if_true];exact hq.2.2.2
  ·simp only [e1,if_false];exact hq.2.2.1 j (by omega)
theorem BegI.rig {m:Nat} (h:BegI J w r tq A S o F i s g) (hi:i=A.St*(A.M-1)) (h0:0<i) (hf:Few S noSet noSet m) (hn:J.n=A.n) (hL:J.L=A.L):Rig J w r A S o noSet noSet F false (fun _=>[Sh.noughts]) m:=by
 subst hi
 rcases h.tab with ⟨_,e,_⟩ | ⟨q,c,e,hv⟩
 ·omega
 ·obtain ⟨o1,o2,o3⟩:=h.own q _ c e
  have hrow:=h.row
  rw [e] at hrow
  have hle:=hv.le
  refine ⟨h.vr,hf,hn,hL,q,c,tq,g,fun _=>0,fun _=>1,hrow,⟨fun k hk=>hk,o1,hv.lt,fun k hk=>hv.there k (by omega),fun k hk=>hv.free k (by omega),fun k hk=>?_,fun k hk=>(h.mid k hk).1,fun k hk=>(h.mid k hk).2.1,fun k hk=>o3 k hk,fun a b ha hb e=>h.inj a b ha hb e,o2,fun k hk=>(h.mid k hk).2.2⟩,h.low,h.out,h.log⟩
  rw [hv.at_ k hk]
  simp [hk]
end
section
theorem begun {J:Vk} {w:World} {r M St L n:Nat} {S:Sh.Sf} {o:Nat->Int} {F:Nat->Prop} (h:Rig J w r (arOf (newSaid M St L) n L M St) S o noSet noSet F false (fun _=>[Sh.noughts]) 100) (hb:Born S n 40 M St L o) (m3:3<=M) (m16:M<=16) (s1:1<=St) (s2:St<=1024) (l1:1<=L) (l2:L<=8) (hn:n=M\/n=M+1) (hbk:2+2*L+St<=blk 40) :
  Good J.B J.W J.p r (arOf (newSaid M St L) n L M St) false 100 1 w:=by
 obtain ⟨q1,q2,q3⟩:=hb.ci h.vr.vo.ds.on.shelf m3 m16 s2 l1 l2 hn hbk
 refine ⟨J,_,S,o,gh0,noSet,noSet,F,_,rfl,rfl,rfl,⟨rfl,rfl,rfl,rfl⟩,h,⟨q1.fi.ci,said_new m3 m16 s1 s2 l1 l2 hn,fun _ _ _ _ e=>e.elim,fun _ _ _ e=>e.elim,fun j hj=>⟨List.mem_singleton.2 rfl,fun old e=>by cases e⟩,fun _=>q1⟩,fun _ j hj=>⟨by simp,rfl⟩,fun j hj=>Nat.le_refl 1⟩
def Begun (B:Nat) (W:World) (p r M St L:Nat) (w:World):Prop :=
 ∃J S o F,J.B=B/\J.W=W/\J.p=p/\Rig J w r (arOf (newSaid M St L) (M+1) L M St) S o noSet noSet F false (fun _=>[Sh.noughts]) 100/\Born S (M+1) 40 M St L o/\3<=M/\M<=16/\1<=St/\St<=6/\1<=L/\L<=8/\St*(M-1)<=90
theorem BegI.kept {J:Vk} {w3 w4:World} {r tq i q':Nat} {A:Ar} {S:Sh.Sf} {o:Nat->Int} {F:Nat->Prop} {s:Value} {g:Nat->Nat} (h:BegI J w3 r tq A S o F i s g) (ha:(∃c,s=.slice (some ⟨q',0,none⟩) i c/\w3.grownBy w4 (some q'))\/(q'=w3.heap.size/\Below w3.heap.size w3 w4)):w4.cell? ⟨r,5,none⟩=some s/\w4.frozen? ⟨r,5,none⟩=false:=by
 obtain ⟨k1,k2⟩:=h.cells
 have hlt:=h.lt r (.inr (.inl rfl))
 have hb:w4.heap[r]?=w3.heap[r]?:=by
  rcases ha with ⟨c,e,hg⟩ | ⟨_,hb⟩
  ·exact hg.block r hlt fun e2=>(h.own q' i c e).2.1 (by injection e2 with e2;rw [e2];exact .inr (.inl rfl))
  ·exact hb.block r hlt
 exact ⟨(World.cell?_of_block (w:=w3) (a:=⟨r,5,none⟩) hb).trans k1,(World.frozen?_of_block (w:=w3) (a:=⟨r,5,none⟩) hb).trans k2⟩
set_option maxRecDepth 20000 in
set_option maxHeartbeats 8000000 in
theorem begin_full {B:Nat} {W w:World} (hb:Below B W w) (hB:B<=w.heap.size) (hT:Tb4 B W) (a b c:Int) :
  Calls Tryz.prog 7 #[.int .i64 a,.int .i64 b,.int .i64 c] w fun e w'=>∃r p M St L,e=.returned (.pointer (some ⟨r,0,none⟩))/\Begun B W p r M St L w'/\(L:Int)=1+c%8/\(St:Int)=1+b%6:=by
 obtain ⟨k1,hk1⟩:∃k,(a%(14:Nat)).toNat=k:=⟨_,rfl⟩
 obtain ⟨k2,hk2⟩:∃k,(b%(6:Nat)).toNat=k:=⟨_,rfl⟩
 obtain ⟨k3,hk3⟩:∃k,(c%(8:Nat)).toNat=k:=⟨_,rfl⟩
 have HM1:=hid (mod8_any a 14 (by decide) (by decide) w)
 have HM2:=hid (mod8_any b 6 (by decide) (by decide) w)
 have HM3:=hid (mod8_any c 8 (by decide) (by decide) w)
 rw [hk1] at HM1
 rw [hk2] at HM2
 rw [hk3] at HM3
 have q1:k1<14:=by omega
 have q2:k2<6:=by omega
 have q3:k3<8:=by omega
 obtain ⟨M,hM⟩:∃M:Nat,M=3+k1:=⟨_,rfl⟩
 obtain ⟨St,hSt⟩:∃M:Nat,M=1+k2:=⟨_,rfl⟩
 obtain ⟨L,hL⟩:∃M:Nat,M=1+k3:=⟨_,rfl⟩
 obtain ⟨N1,hN1⟩:∃M1:Nat,M1=M+1:=⟨_,rfl⟩
 obtain ⟨M1,hM1⟩:∃M1:Nat,M1=M-1:=⟨_,rfl⟩
 have e1:3+(k1:Int)=(M:Int):=by omega
 have e2:1+(k2:Int)=(St:Int):=by omega
 have e3:1+(k3:Int)=(L:Int):=by omega
 have e4:(M:Int)+1=(N1:Int):=by omega
 have HQ:=hid (show (3<=M/\M<=16)/\(1<=St/\St<=6)/\(1<=L/\L<=8)/\N1=M+1/\M1=M-1 by omega)
 have HNB:=hid (show St*M1<=90 from Nat.le_trans (Nat.mul_le_mul (show St<=6 by omega) (show M1<=15 by omega)) (by decide))
 have b1:M<=16:=by omega
 have b2:St<=6:=by omega
 have b3:L<=8:=by omega
 have b4:N1<=17:=by omega
 have HLC:=hid (show (L:Int)=1+c%8/\(St:Int)=1+b%6 by omega)
 clear hk1 hk2 hk3 hM hSt hL hN1 hM1
 go_enter Tryz.func7,Tryz.ntmps7
 go_wp2_with fail
 refine HM1.out.mono ?_
 rintro e w' ⟨rfl,rfl⟩
 go_wp2_with fail
 refine HM2.out.mono ?_
 rintro e w' ⟨rfl,rfl⟩
 go_wp2_with fail
 refine HM3.out.mono ?_
 rintro e w' ⟨rfl,rfl⟩
 clear HM1 HM2 HM3
 go_wp2_with fail
 refine (Sh.new_ok N1 40 _ (by have:=HQ.out;omega) (by omega) (by decide) (by decide)).mono ?_
 rintro e w2 ⟨p,F1,rfl,hS,hF,hb2⟩
 have hrowA:=heap_alloc_new w (.cells #[.pointer none,.pointer none,.int .i64 M,.int .i64 St,.int .i64 L,.slice none 0 0,.bool false,.slice none 0 0,.bool false] 39)
 have hszA:w.heap.size<(w.alloc (.cells #[.pointer none,.pointer none,.int .i64 M,.int .i64 St,.int .i64 L,.slice none 0 0,.bool false,.slice none 0 0,.bool false] 39)).heap.size:=by simp
 have hrow2:=(hb2.block w.heap.size hszA).trans hrowA
 have hrlt2:=(Array.getElem?_eq_some_iff.1 hrow2).1
 have hnF:¬F1 w.heap.size:=fun e=>by have:=hF _ e;omega
 have AT:Sh.At B W w2 p (Sh.newSf N1 40) F1:=⟨hS,fun b e=>by have:=hF b e;omega,(hb.alloc hB _).trans (hb2.mono (by omega)),by omega⟩
 clear hS hF hb2 hrowA hszA hb
 generalize w.heap.size=r at *
 have ATd:=AT.grown ((Below.refl w2.heap.size w2).drew)
 have c2:=cell_of_row _ _ 2 _ _ _ hrow2
 have c3:=cell_of_row _ _ 3 _ _ _ hrow2
 have c4:=cell_of_row _ _ 4 _ _ _ hrow2
 have HKP:Hid (∀(w3:World) (J:Vk) (F3:Nat->Prop),Sh.Moves F1 w2.drew (AllV J F3) w3->w3.heap[r]?=w2.heap[r]?/\¬AllV J F3 r):=hid fun w3 J F3 mv=>⟨mv.1.block r hrlt2 hnF,fun e=>(mv.2 r e).elim hnF fun e2=>absurd hrlt2 (Nat.not_lt.2 e2)⟩
 have HS:Hid (∀(w3:World) (J:Vk) (F3:Nat->Prop),Sh.Moves F1 w2.drew (AllV J F3) w3->w3.cell? ⟨r,2,none⟩=some (.int .i64 M)/\w3.cell? ⟨r,3,none⟩=some (.int .i64 St)/\w3.cell? ⟨r,4,none⟩=some (.int .i64 L)):=hid fun w3 J F3 mv =>
  ⟨(World.cell?_of_block (w:=w2) (a:=⟨r,2,none⟩) (HKP.out w3 J F3 mv).1).trans c2,(World.cell?_of_block (w:=w2) (a:=⟨r,3,none⟩) (HKP.out w3 J F3 mv).1).trans c3,(World.cell?_of_block (w:=w2) (a:=⟨r,4,none⟩) (HKP.out w3 J F3 mv).1).trans c4⟩
 have HCR:=hid (create_new ATd hT.tabs hT.tb hT.wid hT.wb M St L (by have:=HQ.out;omega) (by omega) (by have:=HQ.out;omega) (by omega) (by have:=HQ.out;omega) (by omega) (by have:=HQ.out;omega) (by rw [blk40'];omega))
 have HR2:=hid (And.intro hrow2 hrlt2)
 clear AT ATd hnF hrow2 hrlt2
 go_wp2_with fail
 refine wp_region_held_drew (S:=fun W'=>W'.cell? ⟨r,2,none⟩=some (.int .i64 M)/\W'.cell? ⟨r,3,none⟩=some (.int .i64 St)/\W'.cell? ⟨r,4,none⟩=some (.int .i64 L)) (by kernel_rfl) ⟨c2,c3,c4⟩ (fun hHeld=>?_)
 refine tk 0 39 ?_
 refine tk 1 40 ?_
 refine tk 2 41 ?_
 refine tk 3 42 ?_
 refine wpAnyH_take (i:=4) (oi:=⟨some 43,_,_,_,_,_⟩) (v:=?_) rfl (by kernel_rfl) (by kernel_rfl) (by kernel_rfl) (fun _ _ _ h=>h) (Or.inl ⟨by rfl,?_⟩) (by assumption) ?_
 rotate_left
 ·(intro w hSw;obtain ⟨hS2,hS3,hS4⟩:=hSw;(try dsimp only at hSw);go_simp;first | done | with_reducible rfl)
 try simp only [Act.put,List.setIfInBounds_toArray,List.set_cons_zero,List.set_cons_succ]
 refine tk 5 44 ?_
 refine tk 6 45 ?_
 refine tk 7 46 ?_
 refine wpAnyH_take (i:=8) (oi:=⟨some 47,_,_,_,_,_⟩) (v:=?_) rfl (by kernel_rfl) (by kernel_rfl) (by kernel_rfl) (fun _ _ _ h=>h) (Or.inl ⟨by rfl,?_⟩) (by assumption) ?_
 rotate_left
 ·(intro w hSw;obtain ⟨hS2,hS3,hS4⟩:=hSw;(try dsimp only at hSw);go_simp;first | done | with_reducible rfl)
 try simp only [Act.put,List.setIfInBounds_toArray,List.set_cons_zero,List.set_cons_succ]
 refine tk 9 48 ?_
 refine tk 10 49 ?_
 refine tk 11 50 ?_
 refine wpAnyH_take (i:=12) (oi:=⟨some 51,_,_,_,_,_⟩) (v:=?_) rfl (by kernel_rfl) (by kernel_rfl) (by kernel_rfl) (fun _ _ _ h=>h) (Or.inl ⟨by rfl,?_⟩) (by assumption) ?_
 rotate_left
 ·(intro w hSw;obtain ⟨hS2,hS3,hS4⟩:=hSw;(try dsimp only at hSw);go_simp;first | done | with_reducible rfl)
 try simp only [Act.put,List.setIfInBounds_toArray,List.set_cons_zero,List.set_cons_succ]
 refine r1 13 (some 52) fun K hK=>?_
 go_simp
 refine (HCR.out).mono ?_
 rintro e w3 ⟨J,F3,o3,S3,rfl,hJB,hJW,hJp,hJn,hJL,V3,hbn,mv3⟩
 refine hK.out _ _ (HS.out _ _ _ mv3) (fun hHeld=>?_)
 clear hK K
 try simp only [Act.put,List.setIfInBounds_toArray,List.set_cons_zero,List.set_cons_succ]
 refine tk 14 38 ?_
 refine tk 15 53 ?_
 refine tk 16 54 ?_
 refine tk 17 10 ?_
 refine tk 18 9 ?_
 refine wpAnyH_done (by kernel_rfl) ?_ _
 obtain ⟨hkp,hout⟩:=HKP.out _ _ _ mv3
 obtain ⟨hrow2,hrlt2⟩:=HR2.out
 have hrow3:=hkp.trans hrow2
 have hrlt3:=(Array.getElem?_eq_some_iff.1 hrow3).1
 have hlow:J.B<=r:=by rw [hJB];exact hB
 have hN1M:N1=M\/N1=M+1:=.inr HQ.out.2.2.2.1
 have hbk:2+2*L+St<=blk 40:=by rw [blk40'];omega
 obtain ⟨q1',q2',q3'⟩:=hbn.ci V3.vo.ds.on.shelf HQ.out.1.1 HQ.out.1.2 (by omega) HQ.out.2.2.1.1 HQ.out.2.2.1.2 hN1M hbk
 have hFi:=fits_ci q1'.fi.ci (said_new HQ.out.1.1 HQ.out.1.2 HQ.out.2.1.1 (by omega) HQ.out.2.2.1.1 HQ.out.2.2.1.2 hN1M)
 have hFJ:Fits J.n J.L (newSaid M St L) M St S3:=by rw [hJn,hJL];exact hFi
 have hlog:∀i,i<J.n->J.gn i≠r:=fun i hi e=>by
  have hl:w3.heap[J.gn i]?=_:=V3.logs.log i hi
  have e1:=hrow3
  rw [<- e,hl] at e1
  injection e1 with e1
  injection e1 with e1
  have e2:(2:Nat)=9:=congrArg Array.size e1
  exact absurd e2 (by decide)
 obtain ⟨N,hN⟩:∃N:Nat,N=St*(M-1):=⟨_,rfl⟩
 have hN1:N=St*M1:=by rw [hN,HQ.out.2.2.2.2]
 have hN90:N<=90:=by rw [hN1];exact HNB.out
 have HNE:=hid hN
 have HSZ:Hid (∀W,Below w3.heap.size w3 W->Calls Tryz.prog 25 #[.pointer (some ⟨J.v,0,none⟩)] W fun e w'=>e=.returned (.int .i64 (N:Int))/\Below W.heap.size W w'):=hid fun W hb=>by rw [hN];exact vsize (V3.grown hb) hFJ
 have k2:=fun W' (hb:Below w3.heap.size w3 W')=>(hb.cell (p:=⟨r,2,none⟩) hrlt3).trans (cell_of_row _ _ 2 _ _ _ hrow3)
 have k3:=fun W' (hb:Below w3.heap.size w3 W')=>(hb.cell (p:=⟨r,3,none⟩) hrlt3).trans (cell_of_row _ _ 3 _ _ _ hrow3)
 have HK3:=hid (And.intro hrow3 (And.intro V3 (And.intro hout (And.intro hlog (And.intro hFJ hbn)))))
 have hwm:IntKind.i64.wrap ((M:Int)-1)=(M1:Int):=(IntWalk.i64_in _ ⟨by omega,by omega⟩).trans (by have:=HQ.out;omega)
 have hwp:IntKind.i64.wrap ((St:Int)*(M1:Int))=(N:Int):=by
  have e:(St:Int)*(M1:Int)=(N:Int):=by rw [hN1];simp
  rw [e]
  exact IntWalk.i64_in _ ⟨by omega,by omega⟩
 clear hkp hrow2 hrlt2 hrow3 HR2 HKP HS HCR hFi q1' q2' q3' hFJ hbn V3 mv3 hout hlog hN hN1 c2 c3 c4 hHeld
 go_wp2_with fail
 refine wp_region_held_drew (S:=fun W'=>Below w3.heap.size w3 W') (by kernel_rfl) ((Below.refl _ _).drew) (fun hHeld=>?_)
 refine tk 0 55 ?_
 refine tk 1 56 ?_
 refine tk 2 57 ?_
 refine tk 3 58 ?_
 refine tk 4 59 ?_
 refine tk 5 60 ?_
 refine tk 6 61 ?_
 refine tk 7 62 ?_
 refine tk 9 64 ?_
 refine tk 10 65 ?_
 refine tk 11 66 ?_
 refine tk 12 67 ?_
 refine tk 13 68 ?_
 refine tk 14 69 ?_
 refine tk 15 70 ?_
 refine tk 16 71 ?_
 refine tk 17 72 ?_
 refine tk 18 73 ?_
 refine r1 8 (some 63) fun K hK=>?_
 go_simp
 refine (HSZ.out _ hHeld).mono ?_
 rintro e w4 ⟨rfl,hb4⟩
 refine hK.out _ _ (hHeld.trans (hb4.mono hHeld.size)) (fun hHeld=>?_)
 clear hK K
 try simp only [Act.put,List.setIfInBounds_toArray,List.set_cons_zero,List.set_cons_succ]
 refine tk 19 74 ?_
 refine tk 20 75 ?_
 refine wpAnyH_done (by kernel_rfl) ?_ _
 obtain ⟨hrow3,V3,hout,hlog,hFJ,hbn⟩:=HK3.out
 have hrow4:=(hHeld.block r hrlt3).trans hrow3
 have x0:=cell_of_row _ _ 0 _ _ _ hrow4
 have x1:=cell_of_row _ _ 1 _ _ _ hrow4
 have x3:=cell_of_row _ _ 3 _ _ _ hrow4
 have f0:=frozen_of_row _ _ 0 _ _ hrow4
 have f1:=frozen_of_row _ _ 1 _ _ hrow4
 obtain ⟨w6,hmk,hb6⟩:=make_bools ((w4.setCell ⟨r,0,none⟩ (.pointer (some ⟨p,0,none⟩))).setCell ⟨r,1,none⟩ (.pointer (some ⟨J.v,0,none⟩))) St (by omega)
 have hrow5:=heap_setCell_same _ r 1 _ _ (.pointer (some ⟨J.v,0,none⟩)) (heap_setCell_same w4 r 0 _ _ (.pointer (some ⟨p,0,none⟩)) hrow4)
 have hrow6:=(hb6.block r (Array.getElem?_eq_some_iff.1 hrow5).1).trans hrow5
 have ho5:Sh.Only (fun b=>b=r) w4 ((w4.setCell ⟨r,0,none⟩ (.pointer (some ⟨p,0,none⟩))).setCell ⟨r,1,none⟩ (.pointer (some ⟨J.v,0,none⟩))):=((Sh.Only.refl (fun b=>b=r) w4).setCell (p:=⟨r,0,none⟩) (.inl rfl) _).setCell (p:=⟨r,1,none⟩) (.inl rfl) _
 have V5:=only_vr (V3.grown hHeld) ho5 hout hlow hlog
 have V6:=V5.grown hb6
 have e5:((w4.setCell ⟨r,0,none⟩ (.pointer (some ⟨p,0,none⟩))).setCell ⟨r,1,none⟩ (.pointer (some ⟨J.v,0,none⟩))).heap.size=w4.heap.size:=by simp
 rw [e5] at hmk
 have x7:=cell_of_row _ _ 7 _ _ _ hrow6
 have f7:=frozen_of_row _ _ 7 _ _ hrow6
 have H0:Hid (BegI J (w6.setCell ⟨r,7,none⟩ (.slice (some ⟨w4.heap.size,0,none⟩) St St)) r w4.heap.size (arOf (newSaid M St L) N1 L M St) S3 o3 F3 0 (.slice none 0 0) (fun _=>0)):=hid
  ⟨only_vr V6 ((Sh.Only.refl (fun b=>b=r) w6).setCell (p:=⟨r,7,none⟩) (.inl rfl) _) hout hlow hlog,by rw [hJp];exact heap_setCell_same w6 r 7 _ _ (.slice (some ⟨w4.heap.size,0,none⟩) St St) hrow6,hlow,hout,hlog,.inl ⟨rfl,rfl,rfl⟩,(fun j hj=>absurd hj (Nat.not_lt_zero j)),(fun j k hj=>absurd hj (Nat.not_lt_zero j)),(fun q n c e=>by cases e)⟩
 have HK6:=hid (And.intro hFJ hbn)
 clear hrow3 V3 hout hlog hFJ hbn hrow4 hb6 hrow5 hrow6 ho5 V5 V6 e5 hHeld k2 k3 HSZ hwm hwp HK3 hb4
 go_wp2_with fail
 clear hmk
 generalize w4.heap.size=tq at *
 obtain ⟨sn,hsn⟩:∃sn,Sh.strL Sh.noughts=sn:=⟨_,rfl⟩
 have HSN:=hid hsn
 clear hsn x0 x1 x3 f0 f1 x7 f7
 go_loopw [11] (fun i wr=>∃(k:Nat) (s:Value) (g:Nat->Nat),k<=N/\i=.int .i64 k/\Hid (BegI J wr r tq (arOf (newSaid M St L) N1 L M St) S3 o3 F3 k s g)) (fun i _=>N-(intOf i).toNat)
 case atStart=>exact ⟨0,_,_,Nat.zero_le _,rfl,H0⟩
 case round =>
  obtain ⟨k,s,g,hk,rfl,HBr⟩:=hrel
  clear H0
  have HSZ:Hid (Calls Tryz.prog 25 #[.pointer (some ⟨J.v,0,none⟩)] wr fun e w'=>e=.returned (.int .i64 (N:Int))/\Below wr.heap.size wr w'):=hid (by rw [HNE.out];exact vsize HBr.out.vr HK6.out.1)
  by_cases hlt:k<N
  ·have q3:(k:Int)<(N:Int):=by omega
   go_wp2_with fail
   refine HSZ.out.mono ?_
   rintro e wz ⟨rfl,hbz⟩
   have HB:=hid (HBr.out.grown hbz)
   clear HBr HSZ hbz
   have KC:Hid (∀W',Below wz.heap.size wz W'->W'.cell? ⟨r,5,none⟩=some s):=hid fun W' hb=>(HB.out.grown hb).cells.1
   have hcz:Below wz.heap.size wz wz.drew:=(Below.refl _ _).drew
   go_wp2_with fail
   refine wp_region_held_drew (S:=fun _=>True) (by kernel_rfl) trivial (fun hHeld=>?_)
   refine tk 0 98 ?_
   refine tk 1 99 ?_
   refine tk 2 100 ?_
   refine tk 3 101 ?_
   refine wpAnyH_ready (rs:=[4,5]) (by kernel_rfl) (by simp) ?_
   refine AllReadyH.cons (o:=⟨some 102,_,_,_,_,_⟩) rfl (fun K hK=>?_) (AllReadyH.cons (o:=⟨some 103,_,_,_,_,_⟩) rfl (fun K hK=>?_) AllReadyH.nil)
   ·have q5:=KC.out _ hcz
    go_simp
    refine hK.out _ _ trivial (fun hHeld=>?_)
    clear hK K
    try simp only [Act.put,List.setIfInBounds_toArray,List.set_cons_zero,List.set_cons_succ]
    clear q5
    refine r1 5 (some 103) fun K hK=>?_
    rw [if_pos (by rfl)]
    refine wp_make128 _ _ rfl rfl rfl (fun wm hom hgm=>?_)
    refine hK.out _ _ trivial (fun hHeld=>?_)
    clear hK K
    try simp only [Act.put,List.setIfInBounds_toArray,List.set_cons_zero,List.set_cons_succ]
    have hcm:Below wz.heap.size wz wm:=hcz.trans (hgm.mono hcz.size)
    have t1:(convert 41 9 (.slice (some ⟨wz.heap.size,0,none⟩) 128 128)).run Tryz.prog wm=.ok (.string sn) wm:=Sh.conv_own hom HSN.out wm (Below.refl _ _)
    refine r1 6 (some 104) fun K hK=>?_
    go_simp
    refine hK.out _ _ trivial (fun hHeld=>?_)
    clear hK K
    try simp only [Act.put,List.setIfInBounds_toArray,List.set_cons_zero,List.set_cons_succ]
    clear t1
    refine r1 7 (some 105) fun K hK=>?_
    go_simp
    refine hK.out _ _ trivial (fun hHeld=>?_)
    clear hK K
    try simp only [Act.put,List.setIfInBounds_toArray,List.set_cons_zero,List.set_cons_succ]
    have hc7:Below wz.heap.size wz (wm.alloc (.cells #[.string sn] 9)):=hcm.trans (((Below.refl _ wm).alloc (Nat.le_refl _) _).mono hcm.size)
    refine r1 8 (some 106) fun K hK=>?_
    go_simp
    refine hK.out _ _ trivial (fun hHeld=>?_)
    clear hK K
    try simp only [Act.put,List.setIfInBounds_toArray,List.set_cons_zero,List.set_cons_succ]
    have hc8:Below wz.heap.size wz ((wm.alloc (.cells #[.string sn] 9)).alloc (.cells #[.slice (some ⟨wm.heap.size,0,none⟩) 1 1] 50)):=hc7.trans (((Below.refl _ _).alloc (Nat.le_refl _) _).mono hc7.size)
    refine r1 9 (some 107) fun K hK=>?_
    have X8:=cell_of_row _ _ 0 _ _ _ (heap_alloc_new (wm.alloc (.cells #[.string sn] 9)) (.cells #[.slice (some ⟨wm.heap.size,0,none⟩) 1 1] 50))
    have hM8:=hid (mids_grown (mids_new wm 9 Sh.noughts) (w':=(wm.alloc (.cells #[Sh.sv Sh.noughts] 9)).alloc (.cells #[.slice (some ⟨wm.heap.size,0,none⟩) 1 1] 50)) ((Below.refl _ _).alloc (Nat.le_refl _) _))
    unfold Sh.sv at hM8
    rw [HSN.out] at hM8
    have hB8:=hid (HB.out.grown hc8)
    rw [if_pos (by rfl)]
    refine wp_append_vals (.tmp 102) (.tmp 106) rfl (s:=s) (v:=.slice (some ⟨wm.heap.size,0,none⟩) 1 1) (n:=k) (cc:=1) rfl rfl hB8.out.tab (by first | exact X8 | simp at X8 ⊢) rfl (by omega) (fun q2 c2 w9 hv ha=>?_)
    have hnx:=hid (HB.out.next hc8 hcm.size hM8.out hv ha)
    have hc9:w9.cell? ⟨r,5,none⟩=some s/\w9.frozen? ⟨r,5,none⟩=false:=hB8.out.kept ha
    obtain ⟨kc9,kf9⟩:=hc9
    refine hK.out _ _ trivial (fun hHeld=>?_)
    clear hK K
    try simp only [Act.put,List.setIfInBounds_toArray,List.set_cons_zero,List.set_cons_succ]
    refine tk 10 108 ?_
    refine tk 11 109 ?_
    refine r1 12 none fun K hK=>?_
    go_simp
    refine hK.out _ _ trivial (fun hHeld=>?_)
    clear hK K
    try simp only [Act.put,List.setIfInBounds_toArray,List.set_cons_zero,List.set_cons_succ]
    refine wpAnyH_done (by kernel_rfl) ?_ _
    clear kc9 kf9
    have hnx2:=hid hnx.out
    go_wp2_with fail
    refine ⟨⟨k+1,_,_,by omega,by go_num,hnx⟩,?_⟩
    simp [intOf]
    omega
   ·rw [if_pos (by rfl)]
    refine wp_make128 _ _ rfl rfl rfl (fun wm hom hgm=>?_)
    refine hK.out _ _ trivial (fun hHeld=>?_)
    clear hK K
    try simp only [Act.put,List.setIfInBounds_toArray,List.set_cons_zero,List.set_cons_succ]
    have hcm:Below wz.heap.size wz wm:=hcz.trans (hgm.mono hcz.size)
    have t1:(convert 41 9 (.slice (some ⟨wz.heap.size,0,none⟩) 128 128)).run Tryz.prog wm=.ok (.string sn) wm:=Sh.conv_own hom HSN.out wm (Below.refl _ _)
    refine wpAnyH_ready (rs:=[4,6]) (by kernel_rfl) (by simp) ?_
    refine AllReadyH.cons (o:=⟨some 102,_,_,_,_,_⟩) rfl (fun K hK=>?_) (AllReadyH.cons (o:=⟨some 104,_,_,_,_,_⟩) rfl (fun K hK=>?_) AllReadyH.nil)
    ·have q5:=KC.out _ hcm
     go_simp
     refine hK.out _ _ trivial (fun hHeld=>?_)
     clear hK K
     try simp only [Act.put,List.setIfInBounds_toArray,List.set_cons_zero,List.set_cons_succ]
     clear q5
     refine r1 6 (some 104) fun K hK=>?_
     go_simp
     refine hK.out _ _ trivial (fun hHeld=>?_)
     clear hK K
     try simp only [Act.put,List.setIfInBounds_toArray,List.set_cons_zero,List.set_cons_succ]
     clear t1
     refine r1 7 (some 105) fun K hK=>?_
     go_simp
     refine hK.out _ _ trivial (fun hHeld=>?_)
     clear hK K
     try simp only [Act.put,List.setIfInBounds_toArray,List.set_cons_zero,List.set_cons_succ]
     have hc7:Below wz.heap.size wz (wm.alloc (.cells #[.string sn] 9)):=hcm.trans (((Below.refl _ wm).alloc (Nat.le_refl _) _).mono hcm.size)
     refine r1 8 (some 106) fun K hK=>?_
     go_simp
     refine hK.out _ _ trivial (fun hHeld=>?_)
     clear hK K
     try simp only [Act.put,List.setIfInBounds_toArray,List.set_cons_zero,List.set_cons_succ]
     have hc8:Below wz.heap.size wz ((wm.alloc (.cells #[.string sn] 9)).alloc (.cells #[.slice (some ⟨wm.heap.size,0,none⟩) 1 1] 50)):=hc7.trans (((Below.refl _ _).alloc (Nat.le_refl _) _).mono hc7.size)
     refine r1 9 (some 107) fun K hK=>?_
     have X8:=cell_of_row _ _ 0 _ _ _ (heap_alloc_new (wm.alloc (.cells #[.string sn] 9)) (.cells #[.slice (some ⟨wm.heap.size,0,none⟩) 1 1] 50))
     have hM8:=hid (mids_grown (mids_new wm 9 Sh.noughts) (w':=(wm.alloc (.cells #[Sh.sv Sh.noughts] 9)).alloc (.cells #[.slice (some ⟨wm.heap.size,0,none⟩) 1 1] 50)) ((Below.refl _ _).alloc (Nat.le_refl _) _))
     unfold Sh.sv at hM8
     rw [HSN.out] at hM8
     have hB8:=hid (HB.out.grown hc8)
     rw [if_pos (by rfl)]
     refine wp_append_vals (.tmp 102) (.tmp 106) rfl (s:=s) (v:=.slice (some ⟨wm.heap.size,0,none⟩) 1 1) (n:=k) (cc:=1) rfl rfl hB8.out.tab (by first | exact X8 | simp at X8 ⊢) rfl (by omega) (fun q2 c2 w9 hv ha=>?_)
     have hnx:=hid (HB.out.next hc8 hcm.size hM8.out hv ha)
     have hc9:w9.cell? ⟨r,5,none⟩=some s/\w9.frozen? ⟨r,5,none⟩=false:=hB8.out.kept ha
     obtain ⟨kc9,kf9⟩:=hc9
     refine hK.out _ _ trivial (fun hHeld=>?_)
     clear hK K
     try simp only [Act.put,List.setIfInBounds_toArray,List.set_cons_zero,List.set_cons_succ]
     refine tk 10 108 ?_
     refine tk 11 109 ?_
     refine r1 12 none fun K hK=>?_
     go_simp
     refine hK.out _ _ trivial (fun hHeld=>?_)
     clear hK K
     try simp only [Act.put,List.setIfInBounds_toArray,List.set_cons_zero,List.set_cons_succ]
     refine wpAnyH_done (by kernel_rfl) ?_ _
     clear kc9 kf9
     have hnx2:=hid hnx.out
     go_wp2_with fail
     refine ⟨⟨k+1,_,_,by omega,by go_num,hnx⟩,?_⟩
     simp [intOf]
     omega
    ·go_simp
     refine hK.out _ _ trivial (fun hHeld=>?_)
     clear hK K
     try simp only [Act.put,List.setIfInBounds_toArray,List.set_cons_zero,List.set_cons_succ]
     clear t1
     refine wpAnyH_ready (rs:=[4,7]) (by kernel_rfl) (by simp) ?_
     refine AllReadyH.cons (o:=⟨some 102,_,_,_,_,_⟩) rfl (fun K hK=>?_) (AllReadyH.cons (o:=⟨some 105,_,_,_,_,_⟩) rfl (fun K hK=>?_) AllReadyH.nil)
     ·have q5:=KC.out _ hcm
      go_simp
      refine hK.out _ _ trivial (fun hHeld=>?_)
      clear hK K
      try simp only [Act.put,List.setIfInBounds_toArray,List.set_cons_zero,List.set_cons_succ]
      clear q5
      refine r1 7 (some 105) fun K hK=>?_
      go_simp
      refine hK.out _ _ trivial (fun hHeld=>?_)
      clear hK K
      try simp only [Act.put,List.setIfInBounds_toArray,List.set_cons_zero,List.set_cons_succ]
      have hc7:Below wz.heap.size wz (wm.alloc (.cells #[.string sn] 9)):=hcm.trans (((Below.refl _ wm).alloc (Nat.le_refl _) _).mono hcm.size)
      refine r1 8 (some 106) fun K hK=>?_
      go_simp
      refine hK.out _ _ trivial (fun hHeld=>?_)
      clear hK K
      try simp only [Act.put,List.setIfInBounds_toArray,List.set_cons_zero,List.set_cons_succ]
      have hc8:Below wz.heap.size wz ((wm.alloc (.cells #[.string sn] 9)).alloc (.cells #[.slice (some ⟨wm.heap.size,0,none⟩) 1 1] 50)):=hc7.trans (((Below.refl _ _).alloc (Nat.le_refl _) _).mono hc7.size)
      refine r1 9 (some 107) fun K hK=>?_
      have X8:=cell_of_row _ _ 0 _ _ _ (heap_alloc_new (wm.alloc (.cells #[.string sn] 9)) (.cells #[.slice (some ⟨wm.heap.size,0,none⟩) 1 1] 50))
      have hM8:=hid (mids_grown (mids_new wm 9 Sh.noughts) (w':=(wm.alloc (.cells #[Sh.sv Sh.noughts] 9)).alloc (.cells #[.slice (some ⟨wm.heap.size,0,none⟩) 1 1] 50)) ((Below.refl _ _).alloc (Nat.le_refl _) _))
      unfold Sh.sv at hM8
      rw [HSN.out] at hM8
      have hB8:=hid (HB.out.grown hc8)
      rw [if_pos (by rfl)]
      refine wp_append_vals (.tmp 102) (.tmp 106) rfl (s:=s) (v:=.slice (some ⟨wm.heap.size,0,none⟩) 1 1) (n:=k) (cc:=1) rfl rfl hB8.out.tab (by first | exact X8 | simp at X8 ⊢) rfl (by omega) (fun q2 c2 w9 hv ha=>?_)
      have hnx:=hid (HB.out.next hc8 hcm.size hM8.out hv ha)
      have hc9:w9.cell? ⟨r,5,none⟩=some s/\w9.frozen? ⟨r,5,none⟩=false:=hB8.out.kept ha
      obtain ⟨kc9,kf9⟩:=hc9
      refine hK.out _ _ trivial (fun hHeld=>?_)
      clear hK K
      try simp only [Act.put,List.setIfInBounds_toArray,List.set_cons_zero,List.set_cons_succ]
      refine tk 10 108 ?_
      refine tk 11 109 ?_
      refine r1 12 none fun K hK=>?_
      go_simp
      refine hK.out _ _ trivial (fun hHeld=>?_)
      clear hK K
      try simp only [Act.put,List.setIfInBounds_toArray,List.set_cons_zero,List.set_cons_succ]
      refine wpAnyH_done (by kernel_rfl) ?_ _
      clear kc9 kf9
      have hnx2:=hid hnx.out
      go_wp2_with fail
      refine ⟨⟨k+1,_,_,by omega,by go_num,hnx⟩,?_⟩
      simp [intOf]
      omega
     ·go_simp
      refine hK.out _ _ trivial (fun hHeld=>?_)
      clear hK K
      try simp only [Act.put,List.setIfInBounds_toArray,List.set_cons_zero,List.set_cons_succ]
      have hc7:Below wz.heap.size wz (wm.alloc (.cells #[.string sn] 9)):=hcm.trans (((Below.refl _ wm).alloc (Nat.le_refl _) _).mono hcm.size)
      refine wpAnyH_ready (rs:=[4,8]) (by kernel_rfl) (by simp) ?_
      refine AllReadyH.cons (o:=⟨some 102,_,_,_,_,_⟩) rfl (fun K hK=>?_) (AllReadyH.cons (o:=⟨some 106,_,_,_,_,_⟩) rfl (fun K hK=>?_) AllReadyH.nil)
      ·have q5:=KC.out _ hc7
       go_simp
       refine hK.out _ _ trivial (fun hHeld=>?_)
       clear hK K
       try simp only [Act.put,List.setIfInBounds_toArray,List.set_cons_zero,List.set_cons_succ]
       clear q5
       refine r1 8 (some 106) fun K hK=>?_
       go_simp
       refine hK.out _ _ trivial (fun hHeld=>?_)
       clear hK K
       try simp only [Act.put,List.setIfInBounds_toArray,List.set_cons_zero,List.set_cons_succ]
       have hc8:Below wz.heap.size wz ((wm.alloc (.cells #[.string sn] 9)).alloc (.cells #[.slice (some ⟨wm.heap.size,0,none⟩) 1 1] 50)):=hc7.trans (((Below.refl _ _).alloc (Nat.le_refl _) _).mono hc7.size)
       refine r1 9 (some 107) fun K hK=>?_
       have X8:=cell_of_row _ _ 0 _ _ _ (heap_alloc_new (wm.alloc (.cells #[.string sn] 9)) (.cells #[.slice (some ⟨wm.heap.size,0,none⟩) 1 1] 50))
       have hM8:=hid (mids_grown (mids_new wm 9 Sh.noughts) (w':=(wm.alloc (.cells #[Sh.sv Sh.noughts] 9)).alloc (.cells #[.slice (some ⟨wm.heap.size,0,none⟩) 1 1] 50)) ((Below.refl _ _).alloc (Nat.le_refl _) _))
       unfold Sh.sv at hM8
       rw [HSN.out] at hM8
       have hB8:=hid (HB.out.grown hc8)
       rw [if_pos (by rfl)]
       refine wp_append_vals (.tmp 102) (.tmp 106) rfl (s:=s) (v:=.slice (some ⟨wm.heap.size,0,none⟩) 1 1) (n:=k) (cc:=1) rfl rfl hB8.out.tab (by first | exact X8 | simp at X8 ⊢) rfl (by omega) (fun q2 c2 w9 hv ha=>?_)
       have hnx:=hid (HB.out.next hc8 hcm.size hM8.out hv ha)
       have hc9:w9.cell? ⟨r,5,none⟩=some s/\w9.frozen? ⟨r,5,none⟩=false:=hB8.out.kept ha
       obtain ⟨kc9,kf9⟩:=hc9
       refine hK.out _ _ trivial (fun hHeld=>?_)
       clear hK K
       try simp only [Act.put,List.setIfInBounds_toArray,List.set_cons_zero,List.set_cons_succ]
       refine tk 10 108 ?_
       refine tk 11 109 ?_
       refine r1 12 none fun K hK=>?_
       go_simp
       refine hK.out _ _ trivial (fun hHeld=>?_)
       clear hK K
       try simp only [Act.put,List.setIfInBounds_toArray,List.set_cons_zero,List.set_cons_succ]
       refine wpAnyH_done (by kernel_rfl) ?_ _
       clear kc9 kf9
       have hnx2:=hid hnx.out
       go_wp2_with fail
       refine ⟨⟨k+1,_,_,by omega,by go_num,hnx⟩,?_⟩
       simp [intOf]
       omega
      ·go_simp
       refine hK.out _ _ trivial (fun hHeld=>?_)
       clear hK K
       try simp only [Act.put,List.setIfInBounds_toArray,List.set_cons_zero,List.set_cons_succ]
       have hc8:Below wz.heap.size wz ((wm.alloc (.cells #[.string sn] 9)).alloc (.cells #[.slice (some ⟨wm.heap.size,0,none⟩) 1 1] 50)):=hc7.trans (((Below.refl _ _).alloc (Nat.le_refl _) _).mono hc7.size)
       refine r1 4 (some 102) fun K hK=>?_
       have q5:=KC.out _ hc8
       go_simp
       refine hK.out _ _ trivial (fun hHeld=>?_)
       clear hK K
       try simp only [Act.put,List.setIfInBounds_toArray,List.set_cons_zero,List.set_cons_succ]
       clear q5
       refine r1 9 (some 107) fun K hK=>?_
       have X8:=cell_of_row _ _ 0 _ _ _ (heap_alloc_new (wm.alloc (.cells #[.string sn] 9)) (.cells #[.slice (some ⟨wm.heap.size,0,none⟩) 1 1] 50))
       have hM8:=hid (mids_grown (mids_new wm 9 Sh.noughts) (w':=(wm.alloc (.cells #[Sh.sv Sh.noughts] 9)).alloc (.cells #[.slice (some ⟨wm.heap.size,0,none⟩) 1 1] 50)) ((Below.refl _ _).alloc (Nat.le_refl _) _))
       unfold Sh.sv at hM8
       rw [HSN.out] at hM8
       have hB8:=hid (HB.out.grown hc8)
       rw [if_pos (by rfl)]
       refine wp_append_vals (.tmp 102) (.tmp 106) rfl (s:=s) (v:=.slice (some ⟨wm.heap.size,0,none⟩) 1 1) (n:=k) (cc:=1) rfl rfl hB8.out.tab (by first | exact X8 | simp at X8 ⊢) rfl (by omega) (fun q2 c2 w9 hv ha=>?_)
       have hnx:=hid (HB.out.next hc8 hcm.size hM8.out hv ha)
       have hc9:w9.cell? ⟨r,5,none⟩=some s/\w9.frozen? ⟨r,5,none⟩=false:=hB8.out.kept ha
       obtain ⟨kc9,kf9⟩:=hc9
       refine hK.out _ _ trivial (fun hHeld=>?_)
       clear hK K
       try simp only [Act.put,List.setIfInBounds_toArray,List.set_cons_zero,List.set_cons_succ]
       refine tk 10 108 ?_
       refine tk 11 109 ?_
       refine r1 12 none fun K hK=>?_
       go_simp
       refine hK.out _ _ trivial (fun hHeld=>?_)
       clear hK K
       try simp only [Act.put,List.setIfInBounds_toArray,List.set_cons_zero,List.set_cons_succ]
       refine wpAnyH_done (by kernel_rfl) ?_ _
       clear kc9 kf9
       have hnx2:=hid hnx.out
       go_wp2_with fail
       refine ⟨⟨k+1,_,_,by omega,by go_num,hnx⟩,?_⟩
       simp [intOf]
       omega
  ·have hkN:k=N:=by omega
   go_wp2_with fail
   refine HSZ.out.mono ?_
   rintro e wz ⟨rfl,hbz⟩
   have HG:Hid (Begun B W J.p r M St L wz):=hid (by
    obtain ⟨hFJ,hbn⟩:=HK6.out
    have h90:=HNE.out
    obtain ⟨⟨r1,r2⟩,⟨r3,r4⟩,⟨r5,r6⟩,r7,r8⟩:=HQ.out
    have hpos:0<St*(M-1):=Nat.mul_pos (by omega) (by omega)
    have hR:=(HBr.out.grown hbz).rig (m:=100) (show k=St*(M-1) from hkN.trans h90) (by rw [hkN,h90];exact hpos) ⟨hbn.waits,⟨tidy_empty,Nat.zero_le _⟩,Nat.zero_le _⟩ hJn hJL
    subst r7
    exact ⟨J,_,_,_,hJB,hJW,rfl,hR,hbn,r1,r2,r3,r4,r5,r6,by rw [<- h90,<- hkN];omega⟩)
   clear HBr HSZ hbz
   go_wp2
   go_ret
   exact ⟨r,J.p,M,St,L,rfl,HG.out,HLC.out⟩
end
end Go.Proofs.YtgebkmpmnjhceaaGreatDoor.U
