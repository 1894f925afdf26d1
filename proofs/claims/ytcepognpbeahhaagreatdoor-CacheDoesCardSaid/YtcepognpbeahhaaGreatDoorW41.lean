/-
  What the statement's proof rests on, part 41.
  Conditions: each theorem's own.
-/
import Derived.Test.YtcepognpbeahhaaGreatDoorW40
import Derived.Deep.AppendLies
import Derived.Deep.AppendSrc
import Derived.Deep.Upon
import Derived.Test.YtcepognpbeahhaaGreatDoorWtk
open Go.Lib (hid)
namespace Go.Proofs.YtcepognpbeahhaaGreatDoor.Rc
open Go.RowKit Go.Maps
open Go.Proofs.YtcepognpbeahhaaGreatDoor.Kc (En finds dropE useE putE finds_some finds_none one_of_key placeE placeE_of)
theorem info_ent:(Tryz.prog.info? 129).map (fun i=>(i.zero,i.size,i.bytes))=some (some (.agg #[.int .i64 0,.string ⟨#[]⟩,.bool false,.int .i64 0]),4,40):=by kernel_rfl
theorem wpList_append_not {P:Program} {w:World} {ops:Array Oper} {rest:List Oper} {o:Oper} {a:Act} {Q:Exit->Act->World->Prop} (hgd:o.guard=none) (s x:Operand) (t:TypeId)
  (ho:o.op=.call { callee:=.builtin .append,args:=#[s,x],argTypes:=#[t,t] })
  (e:TypeId) (i:TypeInfo) (ht:P.underlying t=some (.slice e)) (hi:P.info? e=some i)
  (A:Option Addr) (n c:Nat) (hnc:n<=c) (hs:a.eval s=.slice A n c) (ad:Addr) (c2:Nat) (hx:a.eval x=.slice (some ad) 0 c2)
  (h:wpList P ops Q rest (a.put o.dst (.slice A n c)) w):wpList P ops Q (o :: rest) a w:=by
 refine wpList_plain hgd fun K hK=>?_
 have hrun:=run_append_nothing (P:=P) w t t o.type e i ht hi A n c hnc (.slice (some ad) 0 c2) (Src.ofSlice w ht ad 0 c2 [] (by simp) (fun j u hu=>by simp at hu) (fun u hu=>by cases hu))
 unfold Oper.wp
 simp [execOp,ho,resolve,invoke,builtin,hs,hx,hrun,Result.andThen]
 exact hK _ _ h
section
variable {w w':World} {xr most:Nat} {vs ls:Value} {hv:Nat->Sh.Bs} {l:List En}
def NewRow (w:World) (l:List En) (r:Ending) (w':World):Prop:=∃v,r=.returned v/\w'.ownsRow w.heap.size 129 4 v l.length (cellsL l)/\Below w.heap.size w w'
theorem news_of {b m cap n:Nat} {W:World} {xs:List Value} (h:W.ownsRow n 129 4 (.slice (some ⟨b,0,none⟩) m cap) m xs) (o:Nat) {ys:List Value} (hy:∀j,j<ys.length->ys[j]?=xs[o+j]?):∀j u,ys[j]?=some u->W.cell? ((⟨b,o,none⟩:Addr).add j)=some u:=fun j u hu=>by
 rw [U.add_plain]
 have hj:j<ys.length:=(List.getElem?_eq_some_iff.1 hu).1
 exact Sh.cell_at h (by rw [<- hy j hj];exact hu)
set_option maxRecDepth 20000 in
set_option maxHeartbeats 2000000 in
theorem rWithout (h:RfIs w xr vs ls most hv l) (i:Nat) (hi:i<l.length):Calls Tryz.prog 104 #[.pointer (some ⟨xr,0,none⟩),.int .i64 (i:Int)] w (NewRow w (l.take i++l.drop (i+1))):=by
 have c2:=h.c2
 obtain ⟨b,cap,rfl⟩:=h.lform (by omega)
 obtain ⟨i0,hi0,hz0,hz1,hz2⟩:=info_parts info_ent
 have hlen:l.length<=1024:=h.len
 have hcap:l.length<=cap/\cap<=9223372036854775807:=by
  rcases h.rowL.2 with ⟨h0,_⟩ | ⟨g,cc,cur,hv2,_,_,hc,hm,_⟩
  ·cases h0
  ·injection hv2 with _ _ e;rw [e];unfold maxLen at hm;exact ⟨hc,by omega⟩
 obtain ⟨hcap,hcm⟩:=hcap
 have hrow:=h.rowL
 have hblt:b<w.heap.size:=(hrow.lt b rfl).2
 have hN1:∀W:World,W.heap[b]?=w.heap[b]?->∀j u,(cellsL (l.take i))[j]?=some u->W.cell? ((⟨b,0,none⟩:Addr).add j)=some u:=fun W hW=>news_of (Sh.same_row hrow fun x hx=>by injection hx with hx;rw [<- hx];exact hW) 0 fun j hj=>by
  rw [Nat.zero_add,cellsL_take,List.getElem?_take_of_lt (by rw [cellsL_length,List.length_take] at hj;omega)]
 have hN2:∀W:World,W.heap[b]?=w.heap[b]?->∀j u,(cellsL (l.drop (i+1)))[j]?=some u->W.cell? ((⟨b,(i+1)*4,none⟩:Addr).add j)=some u:=fun W hW=>news_of (Sh.same_row hrow fun x hx=>by injection hx with hx;rw [<- hx];exact hW) ((i+1)*4) fun j hj=>by
  rw [cellsL_drop _ _ (by omega),List.getElem?_drop]
 have hL1:(cellsL (l.take i)).length=i*4:=by rw [cellsL_length,List.length_take,Nat.min_eq_left (by omega)]
 have hL2:(cellsL (l.drop (i+1))).length=(l.length-(i+1))*4:=by rw [cellsL_length,List.length_drop]
 have HT:Hid (cellsL (l.take i++l.drop (i+1))=cellsL (l.take i)++cellsL (l.drop (i+1))/\(l.take i++l.drop (i+1)).length=i+(l.length-(i+1))):=hid ⟨cellsL_append _ _,by rw [List.length_append,List.length_take,List.length_drop,Nat.min_eq_left (by omega)]⟩
 have HO1:=hid (cellsL_one (l.take i))
 have HO2:=hid (cellsL_one (l.drop (i+1)))
 have HN1:=hid hN1
 have HN2:=hid hN2
 unfold NewRow
 rw [HT.out.1,HT.out.2]
 have HZ1:Hid (i=0->cellsL (l.take i)=[]):=hid fun e=>by rw [e];rfl
 have HZ2:Hid (l.length-(i+1)=0->cellsL (l.drop (i+1))=[]):=hid fun e=>List.eq_nil_of_length_eq_zero (by rw [hL2,e])
 clear hN1 hN2 hrow h HT
 generalize cellsL (l.take i)=xs1 at *
 generalize cellsL (l.drop (i+1))=xs2 at *
 generalize hmr:l.length-(i+1)=mr at *
 have hs1:(i:Int)+1<=1025:=by omega
 have HL1:=hid hL1
 have HL2:=hid hL2
 have hmi:(l.length:Int)-((i:Int)+1)=(mr:Int):=by omega
 generalize hm:l.length=m at *
 have him:(i:Int)+1<=(m:Int):=by omega
 have hicap:(i:Int)+1<=(cap:Int):=by omega
 have hicap0:(i:Int)<=(cap:Int):=by omega
 clear hm hL1 hL2
 by_cases h0:i=0
 ·have HX:=hid (HZ1.out h0)
  have HI0:=hid h0
  by_cases h2:mr=0
  ·have HX2:=hid (HZ2.out h2)
   have HM0:=hid h2
   by_cases hne:cap=i+1
   all_goals
    have HC0:Hid ((0:Nat)<=0):=hid (Nat.le_refl _)
    clear h0 h2
    go_enter Tryz.func104,Tryz.ntmps104
    go_wp2_with (first | (at_builtin;(refine wpList_append_not rfl _ _ 33 rfl 129 i0 Tryz.underlying33 hi0 none 0 0 (Nat.le_refl _) rfl ⟨b,0,none⟩ _ (by have e:=HI0.out;subst e;rfl) ?_)) | (at_builtin;(refine wpList_append_not rfl _ _ 33 rfl 129 i0 Tryz.underlying33 hi0 none 0 0 (Nat.le_refl _) rfl ⟨b,0,none⟩ _ (by have e:=HM0.out;subst e;rfl) ?_)) | (at_builtin;(refine wpList_append_not rfl _ _ 33 rfl 129 i0 Tryz.underlying33 hi0 none 0 0 (Nat.le_refl _) rfl ⟨b,(i+1)*4,none⟩ _ (by have e:=HM0.out;subst e;rfl) ?_)))
    go_ret
    exact ⟨_,rfl,by rw [HX.out,HX2.out,HI0.out,HM0.out];exact World.ownsRow_nil _ _ _ _,Below.refl _ _⟩
  ·have hne:¬cap=i+1:=by omega
   have hm0:0<mr:=by omega
   clear h0 h2
   go_enter Tryz.func104,Tryz.ntmps104
   go_wp2_with (first | (at_builtin;(refine wpList_append_not rfl _ _ 33 rfl 129 i0 Tryz.underlying33 hi0 none 0 0 (Nat.le_refl _) rfl ⟨b,0,none⟩ _ (by have e:=HI0.out;subst e;rfl) ?_)) | (at_builtin;(refine wpList_append_lies _ rfl _ _ 33 rfl w.heap.size 129 i0 _ 4 40 Tryz.underlying33 hi0 hz0 hz1 hz2 rfl (by decide) (.slice none 0 0) 0 [] rfl (World.ownsRow_nil _ _ _ _) ⟨b,(i+1)*4,none⟩ mr (cap-(i+1)) xs2 rfl HL2.out (HN2.out _ rfl) HO2.out hm0 (by unfold maxLen;omega) (by omega) (Nat.le_refl _) _ rfl ?_)))
   intro g2 cp2 w2 hown2 hgrow2 hat2 hlt2
   have HE:Hid (∃v,(Value.slice (some ⟨g2,0,none⟩) mr cp2)=v/\w2.ownsRow w.heap.size 129 4 v (i+mr) (xs1++xs2)/\Below w.heap.size w w2):=hid ⟨_,rfl,by rw [HX.out,HI0.out,Nat.zero_add,List.nil_append];exact hown2,(Below.refl w.heap.size w).grown hgrow2 (Nat.le_refl _) (fun _ e=>by cases e)⟩
   clear hown2 hgrow2 hat2 hlt2
   go_wp2
   go_ret
   obtain ⟨v,hv1,hv2,hv3⟩:=HE.out
   subst hv1
   exact ⟨_,by first | rfl | (rw [Nat.zero_add];rfl),hv2,hv3⟩
 ·by_cases h2:mr=0
  ·have HX2:=hid (HZ2.out h2)
   have HM0:=hid h2
   have hi0':0<i:=by omega
   by_cases hne:cap=i+1
   all_goals
    clear h0 h2
    go_enter Tryz.func104,Tryz.ntmps104
    go_wp2_with ((at_builtin;go_must (refine wpList_append_lies _ rfl _ _ 33 rfl w.heap.size 129 i0 _ 4 40 Tryz.underlying33 hi0 hz0 hz1 hz2 rfl (by decide) (.slice none 0 0) 0 [] rfl (World.ownsRow_nil _ _ _ _) ⟨b,0,none⟩ i _ xs1 rfl HL1.out (HN1.out _ rfl) HO1.out (by omega) (by unfold maxLen;omega) (by omega) (Nat.le_refl _) _ rfl ?_)))
    intro g1 cp1 w1 hown1 hgrow1 hat1 hlt1
    obtain rfl:g1=w.heap.size:=hat1.elim (fun e=>by cases e) id
    have c3:=hgrow1.cell c2 (fun e=>by cases e)
    have hW1:=hgrow1.block b hblt (fun e=>by cases e)
    have hb1:=(Below.refl w.heap.size w).grown hgrow1 (Nat.le_refl _) (fun _ e=>by cases e)
    have HG1:=hid (And.intro hown1 (And.intro hb1 hW1))
    have hcp1:i<=cp1:=by
     rcases hown1.2 with ⟨e,_⟩ | ⟨_,_,_,e,_,_,hc,_⟩
     ·cases e
     ·injection e with _ _ e;rw [e];exact hc
    clear hown1 hgrow1 hat1 hW1 hb1 c2
    go_wp2_with (first | (at_builtin;(refine wpList_append_not rfl _ _ 33 rfl 129 i0 Tryz.underlying33 hi0 (some ⟨w.heap.size,0,none⟩) i cp1 hcp1 rfl ⟨b,0,none⟩ _ (by have e:=HM0.out;subst e;rfl) ?_)) | (at_builtin;(refine wpList_append_not rfl _ _ 33 rfl 129 i0 Tryz.underlying33 hi0 (some ⟨w.heap.size,0,none⟩) i cp1 hcp1 rfl ⟨b,(i+1)*4,none⟩ _ (by have e:=HM0.out;subst e;rfl) ?_)))
    go_ret
    exact ⟨_,rfl,by rw [HX2.out,HM0.out,List.append_nil];exact HG1.out.1,HG1.out.2.1⟩
  ·have hne:¬cap=i+1:=by omega
   have hm0:0<mr:=by omega
   clear h2
   go_enter Tryz.func104,Tryz.ntmps104
   go_wp2_with ((at_builtin;go_must (refine wpList_append_lies _ rfl _ _ 33 rfl w.heap.size 129 i0 _ 4 40 Tryz.underlying33 hi0 hz0 hz1 hz2 rfl (by decide) (.slice none 0 0) 0 [] rfl (World.ownsRow_nil _ _ _ _) ⟨b,0,none⟩ i _ xs1 rfl HL1.out (HN1.out _ rfl) HO1.out (by omega) (by unfold maxLen;omega) (by omega) (Nat.le_refl _) _ rfl ?_)))
   intro g1 cp1 w1 hown1 hgrow1 hat1 hlt1
   obtain rfl:g1=w.heap.size:=hat1.elim (fun e=>by cases e) id
   have c3:=hgrow1.cell c2 (fun e=>by cases e)
   have hW1:=hgrow1.block b hblt (fun e=>by cases e)
   have hb1:=(Below.refl w.heap.size w).grown hgrow1 (Nat.le_refl _) (fun _ e=>by cases e)
   have HG1:=hid (And.intro hown1 (And.intro hb1 hW1))
   have hcp1:i<=cp1:=by
    rcases hown1.2 with ⟨e,_⟩ | ⟨_,_,_,e,_,_,hc,_⟩
    ·cases e
    ·injection e with _ _ e;rw [e];exact hc
   clear hown1 hgrow1 hat1 hW1 hb1 c2
   go_wp2_with ((at_builtin;go_must (refine wpList_append_lies _ rfl _ _ 33 rfl w.heap.size 129 i0 _ 4 40 Tryz.underlying33 hi0 hz0 hz1 hz2 rfl (by decide) (.slice (some ⟨w.heap.size,0,none⟩) i cp1) i xs1 rfl HG1.out.1 ⟨b,(i+1)*4,none⟩ mr (cap-(i+1)) xs2 rfl HL2.out (HN2.out _ HG1.out.2.2) HO2.out hm0 (by unfold maxLen;omega) (by omega) HG1.out.2.1.size _ rfl ?_)))
   intro g2 cp2 w2 hown2 hgrow2 hat2 hlt2
   have HE:=hid (And.intro hown2 (HG1.out.2.1.grown hgrow2 HG1.out.2.1.size (fun x e=>by simp [Value.ownBlock] at e;omega)))
   clear hown2 hgrow2 hat2 hlt2
   go_wp2
   go_ret
   exact ⟨_,rfl,HE.out.1,HE.out.2⟩
end
open Go.Proofs.YtcepognpbeahhaaGreatDoor.Kc (En finds dropE useE putE finds_some finds_none one_of_key placeE placeE_of)
theorem cells4_new {w:World} {H:Nat} (hH:w.heap.size=H) (a b c d:Value):∀j v,[a,b,c,d][j]?=some v->(w.alloc (.cells #[a,b,c,d] 129)).cell? ((⟨H,0,none⟩:Addr).add j)=some v:=by
 intro j v hv
 subst hH
 rw [U.add_plain,Nat.zero_add,World.cell?_alloc_at _ _ _ _ rfl]
 simpa using hv
theorem ones4 (k:Int) (s:ByteArray) (d:Bool) (p:Int):∀u∈[Value.int .i64 k,.string s,.bool d,.int .i64 p],u.oneCell'=true:=by
 intro u hu
 simp only [List.mem_cons,List.not_mem_nil,or_false] at hu
 rcases hu with rfl | rfl | rfl | rfl<;>rfl
def entV (e:En):Value:=.agg #[.int .i64 (e.k:Int),.string (Sh.strL e.d),.bool e.dirty,.int .i64 (e.pins:Int)]
section
variable {w w':World} {xr most:Nat} {vs ls:Value} {hv:Nat->Sh.Bs} {l:List En}
def RfTo (w:World) (xr:Nat) (vs ls:Value) (most:Nat) (hv:Nat->Sh.Bs) (l:List En) (w':World):Prop:=∃ls',RfIs w' xr vs ls' most hv l/\Sh.Moves (Own xr vs ls) w (Own xr vs ls') w'
theorem dropE_len (l:List En) (k:Nat):(dropE l k).length<=l.length:=List.length_filter_le _ _
structure MidU (w:World) (xr:Nat) (vs ls:Value) (most:Nat) (hv:Nat->Sh.Bs) (l:List En) (k:Nat) (bx:Obj) (ls1:Value) (w1:World):Prop where
 root:w1.heap[xr]?=some (.cells #[vs,.int .i64 (most:Int),ls1] 35 (0,0))
 box:w1.heap[w.heap.size]?=some bx
 rowV:w1.ownsRow xr 9 1 vs 12 (rowV hv)
 rowL:w1.ownsRow xr 129 4 ls1 (dropE l k).length (cellsL (dropE l k))
 own:∀b,ls1.ownBlock=some b->ls.ownBlock=some b\/w.heap.size<b
 only:Sh.Only (Own xr vs ls) w w1
theorem MidU.done {e:En} {bx:Obj} {ls1:Value} {w1 w5:World} {g5 cap5:Nat} (h:RfIs w xr vs ls most hv l) (hM:MidU w xr vs ls most hv l e.k bx ls1 w1) (hlow:e.k<12) (hp:e.pins<=4611686018427387904) (hlen:(dropE l e.k).length+1<=1024) {bs:Obj}
  (hown:w5.ownsRow xr 129 4 (.slice (some ⟨g5,0,none⟩) ((dropE l e.k).length+1) cap5) ((dropE l e.k).length+1) (cellsL (dropE l e.k)++cR e)) (hgrow:((w1.alloc bs).drew).grownBy w5 ls1.ownBlock) (hlie:ls1.ownBlock=some g5\/g5=w1.heap.size+1)
  (hx5:w5.heap[xr]?=some (.cells #[vs,.int .i64 (most:Int),ls1] 35 (0,0))):RfTo w xr vs ls most hv (useE l e) (w5.setCell ⟨xr,2,none⟩ (.slice (some ⟨g5,0,none⟩) ((dropE l e.k).length+1) cap5)):=by
 have hs1:=hM.only.size
 have hxlt:=lt_of_block h.root
 have hg5x:g5≠xr:=fun q=>by
  rcases hlie with q2 | q2
  ·rcases hM.own g5 q2 with q3 | q3
   ·exact h.lx (by rw [q3,q])
   ·omega
  ·omega
 have hv5:∀b,vs.ownBlock=some b->b≠g5/\w5.heap[b]?=w1.heap[b]?:=fun b hb=>by
  have hlt:=(h.rowV.lt b hb).2
  have hne:ls1.ownBlock≠some b:=fun q=>(hM.own b q).elim (h.vl b hb) (fun q2=>by omega)
  refine ⟨fun q=>?_,(hgrow.block b (by simp;omega) (fun q=>hne q.symm)).trans (Below.heap_alloc _ _ _ (by omega))⟩
  rcases hlie with q2 | q2
  ·exact hne (by rw [q2,q])
  ·omega
 have hlu:(useE l e).length=(dropE l e.k).length+1:=by unfold useE;simp
 refine ⟨.slice (some ⟨g5,0,none⟩) ((dropE l e.k).length+1) cap5,⟨?_,?_,?_,?_,h.vx,?_,by rw [hlu];exact hlen,?_,?_,?_⟩,?_,?_⟩
 ·rw [heap_setCell_same _ _ _ _ _ _ hx5]
  rfl
 ·exact Sh.same_row hM.rowV fun b hb=>(heap_setCell_other _ ⟨xr,2,none⟩ _ _ (fun q=>h.vx (by rw [hb,q]))).trans (hv5 b hb).2
 ·rw [hlu]
  have e1:cellsL (useE l e)=cellsL (dropE l e.k)++cR e:=by
   unfold useE
   rw [cellsL_append]
   unfold cellsL
   simp
  rw [e1]
  exact Sh.same_row hown fun b hb=>heap_setCell_other _ ⟨xr,2,none⟩ _ _ (fun q=>hg5x (by injection hb with hb;exact (show g5=b from hb).trans q))
 ·intro b hb q
  injection q with q
  exact (hv5 b hb).1 q.symm
 ·intro q
  injection q with q
  exact hg5x q
 ·unfold useE
  exact Go.Proofs.YtcepognpbeahhaaGreatDoor.Kc.nodup_snoc (Go.Proofs.YtcepognpbeahhaaGreatDoor.Kc.nodup_drop h.keys _) fun a ha=>(Go.Proofs.YtcepognpbeahhaaGreatDoor.Kc.mem_dropE.1 ha).2
 ·intro z hz
  unfold useE at hz
  rcases List.mem_append.1 hz with q | q
  ·exact h.lows z (Go.Proofs.YtcepognpbeahhaaGreatDoor.Kc.mem_dropE.1 q).1
  ·rw [List.mem_singleton.1 q];exact hlow
 ·intro z hz
  unfold useE at hz
  rcases List.mem_append.1 hz with q | q
  ·exact h.pins z (Go.Proofs.YtcepognpbeahhaaGreatDoor.Kc.mem_dropE.1 q).1
  ·rw [List.mem_singleton.1 q];exact hp
 ·exact ((hM.only.alloc bs).drew.grown hgrow fun b hb=>(hM.own b hb).imp (fun q=>.inr (.inr q)) Nat.le_of_lt).setCell (p:=⟨xr,2,none⟩) (.inl (.inl rfl)) _
 ·rintro b (q | q | q)
  ·exact .inl (.inl q)
  ·exact .inl (.inr (.inl q))
  ·injection q with q
   have q:g5=b:=q
   rcases hlie with q2 | q2
   ·exact (hM.own g5 q2).elim (fun q3=>.inl (.inr (.inr (by rw [<- q];exact q3)))) (fun q3=>.inr (by omega))
   ·exact .inr (by omega)
set_option maxRecDepth 20000 in
set_option maxHeartbeats 4000000 in
theorem rUse (h:RfIs w xr vs ls most hv l) (e:En) (hlow:e.k<12) (hp:e.pins<=4611686018427387904) (hlen:(dropE l e.k).length+1<=1024):Calls Tryz.prog 71 #[.pointer (some ⟨xr,0,none⟩),entV e] w fun r w'=>r=.returned (.tuple #[])/\RfTo w xr vs ls most hv (useE l e) w':=by
 have hb0:Below w.heap.size w (w.alloc (.cells #[.int .i64 (e.k:Int),.string (Sh.strL e.d),.bool e.dirty,.int .i64 (e.pins:Int)] 129)):=(Below.refl _ _).alloc (Nat.le_refl _) _
 have hbx0:(w.alloc (.cells #[.int .i64 (e.k:Int),.string (Sh.strL e.d),.bool e.dirty,.int .i64 (e.pins:Int)] 129)).heap[w.heap.size]?=some (.cells #[.int .i64 (e.k:Int),.string (Sh.strL e.d),.bool e.dirty,.int .i64 (e.pins:Int)] 129 (0,0)):=heap_alloc_new w _
 have bk:=cell_of_row _ _ 0 _ _ _ hbx0
 simp only [List.getElem?_toArray,List.getElem?_cons_zero] at bk
 have h0:=h.grown hb0
 have HAT:=hid (rAt h0 (e.k:Int))
 have HDN:Hid (∀{bx:Obj} {ls1:Value} {w1 w5:World} {g5 cap5:Nat} {bs:Obj},MidU w xr vs ls most hv l e.k bx ls1 w1->w5.ownsRow xr 129 4 (.slice (some ⟨g5,0,none⟩) ((dropE l e.k).length+1) cap5) ((dropE l e.k).length+1) (cellsL (dropE l e.k)++cR e)->((w1.alloc bs).drew).grownBy w5 ls1.ownBlock->(ls1.ownBlock=some g5\/g5=w1.heap.size+1) ->
   w5.heap[xr]?=some (.cells #[vs,.int .i64 (most:Int),ls1] 35 (0,0))->RfTo w xr vs ls most hv (useE l e) (w5.setCell ⟨xr,2,none⟩ (.slice (some ⟨g5,0,none⟩) ((dropE l e.k).length+1) cap5))):=hid fun a b c d f=>MidU.done h a hlow hp hlen b c d f
 have HML:Hid (∀w1,Below w.heap.size w w1->w1.heap[w.heap.size]?=some (.cells #[.int .i64 (e.k:Int),.string (Sh.strL e.d),.bool e.dirty,.int .i64 (e.pins:Int)] 129 (0,0))->finds l (e.k:Int)=none->MidU w xr vs ls most hv l e.k (.cells #[.int .i64 (e.k:Int),.string (Sh.strL e.d),.bool e.dirty,.int .i64 (e.pins:Int)] 129 (0,0)) ls w1):=hid fun w1 hb hbx hf=>by
  have hd:dropE l e.k=l:=Go.Proofs.YtcepognpbeahhaaGreatDoor.Kc.drop_none fun z hz q=>finds_none hf z hz (by rw [q])
  have h1:=h.grown hb
  exact ⟨h1.root,hbx,h1.rowV,by rw [hd];exact h1.rowL,fun b hb=>.inl hb,Sh.Only.of_below hb fun b h1 h2=>absurd h2 (by omega)⟩
 have HX:=hid (And.intro h (And.intro h0 hbx0))
 unfold entV
 have hki:-9223372036854775808<=(e.k:Int)/\(e.k:Int)<=9223372036854775807:=⟨by omega,by omega⟩
 go_enter Tryz.func71,Tryz.ntmps71
 go_wp2_with fail
 refine HAT.out.mono ?_
 rintro r w0 ⟨rfl,rfl⟩
 rcases hf:finds l (e.k:Int) with _ | e0
 ·have hat:atR l (e.k:Int)=-1:=by unfold atR;rw [hf]
  rw [hat]
  have hM:=HML.out _ hb0 hbx0 hf
  have HFIN:Hid (∃ls1,MidU w xr vs ls most hv l e.k (.cells #[.int .i64 (e.k:Int),.string (Sh.strL e.d),.bool e.dirty,.int .i64 (e.pins:Int)] 129 (0,0)) ls1 (w.alloc (.cells #[.int .i64 (e.k:Int),.string (Sh.strL e.d),.bool e.dirty,.int .i64 (e.pins:Int)] 129))):=hid ⟨ls,hM⟩
  clear h0 hb0 hbx0 bk HAT HML hf hat hki hlow hp hM
  go_wp2_with fail
  generalize (w.alloc (.cells #[.int .i64 (e.k:Int),.string (Sh.strL e.d),.bool e.dirty,.int .i64 (e.pins:Int)] 129))=w1 at *
  obtain ⟨i0,hi0,hz0,hz1,hz2⟩:=info_parts info_ent
  obtain ⟨ls1,hM⟩:=HFIN.out
  have HM:=hid hM
  have hroot:=hM.root
  have hbx:=hM.box
  have hrow1:=hM.rowL
  have c2:w1.cell? ⟨xr,2,none⟩=some ls1:=cell_of_row _ _ 2 _ _ _ hroot
  have hxlt:=lt_of_block hroot
  have hbxlt:=lt_of_block hbx
  have hlx:ls1.ownBlock≠some xr:=fun q=>(hM.own xr q).elim h.lx (fun q2=>by have:=lt_of_block h.root;omega)
  have hlb:ls1.ownBlock≠some w.heap.size:=fun q=>(hM.own _ q).elim (fun q2=>absurd (h.rowL.lt _ q2).2 (by omega)) (fun q2=>by omega)
  have hwx:xr<w.heap.size:=lt_of_block h.root
  generalize hn1:(dropE l e.k).length=n1 at *
  generalize hx1:cellsL (dropE l e.k)=xs1 at *
  have hbx2:(w1.drew.alloc (.cells #[.int .i64 (e.k:Int),.string (Sh.strL e.d),.bool e.dirty,.int .i64 (e.pins:Int)] 129)).heap[w.heap.size]?=some (.cells #[.int .i64 (e.k:Int),.string (Sh.strL e.d),.bool e.dirty,.int .i64 (e.pins:Int)] 129 (0,0)):=(Below.heap_alloc _ _ _ hbxlt).trans hbx
  clear hM HFIN h HX
  refine wp_region_held_drew (S:=fun W:World=>W.heap[w.heap.size]?=some (.cells #[.int .i64 (e.k:Int),.string (Sh.strL e.d),.bool e.dirty,.int .i64 (e.pins:Int)] 129 (0,0))) (by kernel_rfl) hbx (fun hHeld=>?_)
  refine tk 0 17 ?_
  refine tk 1 18 ?_
  refine tk 2 19 ?_
  refine tk 3 20 ?_
  refine wpAnyH_take (i:=5) (oi:=⟨some 22,_,_,_,_,_⟩) (v:=.agg #[.int .i64 (e.k:Int),.string (Sh.strL e.d),.bool e.dirty,.int .i64 (e.pins:Int)]) rfl (by kernel_rfl) (by kernel_rfl) (by kernel_rfl) (fun _ _ _ h=>h) (Or.inl ⟨by rfl,?_⟩) (by assumption) ?_
  ·(intro wq hSw;exact Go.Proofs.YtcepognpbeahhaaGreatDoor.Kc.exec_load_any 129 _ rfl ⟨w.heap.size,0,none⟩ rfl [.int .i64 (e.k:Int),.string (Sh.strL e.d),.bool e.dirty,.int .i64 (e.pins:Int)] _ (fun j v hv=>by rw [U.add_plain,cell_of_row _ _ _ _ _ _ hSw];simpa using hv) Tryz.underlying129 rfl (by kernel_rfl))
  try simp only [Act.put,List.setIfInBounds_toArray,List.set_cons_zero,List.set_cons_succ]
  refine wpAnyH_ready (rs:=[4,6]) (by kernel_rfl) (by simp) ?_
  refine AllReadyH.cons (o:=⟨some 21,_,_,_,_,_⟩) rfl (fun K hK=>?_) (AllReadyH.cons (o:=⟨some 23,_,_,_,_,_⟩) rfl (fun K hK=>?_) AllReadyH.nil)
  ·go_simp
   refine hK.out _ _ hHeld (fun hHeld=>?_)
   clear hK K
   try simp only [Act.put,List.setIfInBounds_toArray,List.set_cons_zero,List.set_cons_succ]
   refine r1 6 (some 23) fun K hK=>?_
   go_simp
   refine hK.out _ _ hbx2 (fun hHeld=>?_)
   clear hK K
   try simp only [Act.put,List.setIfInBounds_toArray,List.set_cons_zero,List.set_cons_succ]
   refine r1 7 (some 24) fun K hK=>?_
   rw [if_pos (by rfl)]
   refine wp_append_lies _ _ _ 33 rfl xr 129 i0 _ 4 40 Tryz.underlying33 hi0 hz0 hz1 hz2 rfl (by decide) ls1 n1 xs1 rfl (hrow1.alloc _) ⟨w1.heap.size,0,none⟩ 1 1 [.int .i64 (e.k:Int),.string (Sh.strL e.d),.bool e.dirty,.int .i64 (e.pins:Int)] rfl rfl (cells4_new rfl _ _ _ _) (ones4 _ _ _ _) (by decide) (by unfold maxLen;omega) (by omega) (by simp;omega) _ rfl (fun g5 cap5 w5 hown5 hgrow5 hlie5 _=>?_)
   have hx5:w5.heap[xr]?=some (.cells #[vs,.int .i64 (most:Int),ls1] 35 (0,0)):=(hgrow5.block xr (by simp;omega) (fun e2=>hlx e2.symm)).trans ((Below.heap_alloc _ _ _ hxlt).trans hroot)
   have hb5:w5.heap[w.heap.size]?=some (.cells #[.int .i64 (e.k:Int),.string (Sh.strL e.d),.bool e.dirty,.int .i64 (e.pins:Int)] 129 (0,0)):=(hgrow5.block w.heap.size (by simp;omega) (fun e2=>hlb e2.symm)).trans ((Below.heap_alloc _ _ _ hbxlt).trans hbx)
   have k1:w5.frozen? ⟨xr,2,none⟩=false:=frozen_of_row _ _ _ _ _ hx5
   have k0:w5.cell? ⟨xr,2,none⟩=some ls1:=cell_of_row _ _ 2 _ _ _ hx5
   refine hK.out _ _ hb5 (fun hHeld=>?_)
   clear hK K
   try simp only [Act.put,List.setIfInBounds_toArray,List.set_cons_zero,List.set_cons_succ]
   refine tk 8 25 ?_
   refine tk 9 26 ?_
   refine r1 10 none fun K hK=>?_
   go_simp
   refine hK.out _ _ ((heap_setCell_other _ ⟨xr,2,none⟩ _ _ (by simp;omega)).trans hb5) (fun hHeld=>?_)
   clear hK K
   try simp only [Act.put]
   refine wpAnyH_done (by kernel_rfl) ?_ _
   have HE:=hid (And.intro hown5 (And.intro hgrow5 (And.intro hlie5 hx5)))
   clear hown5 hgrow5 hlie5 hx5 hb5 k0 k1 hHeld
   go_wp2
   refine bodyPost_end (results_none rfl _ _ _) rfl ?_
   exact ⟨rfl,by subst hn1;subst hx1;exact HDN.out HM.out HE.out.1 HE.out.2.1 (HE.out.2.2.1.imp_right fun q=>q.trans (World.size_alloc _ _)) HE.out.2.2.2⟩
  ·go_simp
   refine hK.out _ _ hbx2 (fun hHeld=>?_)
   clear hK K
   try simp only [Act.put,List.setIfInBounds_toArray,List.set_cons_zero,List.set_cons_succ]
   refine r1 4 (some 21) fun K hK=>?_
   have c2a:(w1.alloc (.cells #[.int .i64 (e.k:Int),.string (Sh.strL e.d),.bool e.dirty,.int .i64 (e.pins:Int)] 129)).cell? ⟨xr,2,none⟩=some ls1:=(World.cell?_alloc_lt w1 _ ⟨xr,2,none⟩ hxlt).trans c2
   go_simp
   refine hK.out _ _ hHeld (fun hHeld=>?_)
   clear hK K
   try simp only [Act.put,List.setIfInBounds_toArray,List.set_cons_zero,List.set_cons_succ]
   clear c2a
   refine r1 7 (some 24) fun K hK=>?_
   rw [if_pos (by rfl)]
   refine wp_append_lies _ _ _ 33 rfl xr 129 i0 _ 4 40 Tryz.underlying33 hi0 hz0 hz1 hz2 rfl (by decide) ls1 n1 xs1 rfl (hrow1.alloc _) ⟨w1.heap.size,0,none⟩ 1 1 [.int .i64 (e.k:Int),.string (Sh.strL e.d),.bool e.dirty,.int .i64 (e.pins:Int)] rfl rfl (cells4_new rfl _ _ _ _) (ones4 _ _ _ _) (by decide) (by unfold maxLen;omega) (by omega) (by simp;omega) _ rfl (fun g5 cap5 w5 hown5 hgrow5 hlie5 _=>?_)
   have hx5:w5.heap[xr]?=some (.cells #[vs,.int .i64 (most:Int),ls1] 35 (0,0)):=(hgrow5.block xr (by simp;omega) (fun e2=>hlx e2.symm)).trans ((Below.heap_alloc _ _ _ hxlt).trans hroot)
   have hb5:w5.heap[w.heap.size]?=some (.cells #[.int .i64 (e.k:Int),.string (Sh.strL e.d),.bool e.dirty,.int .i64 (e.pins:Int)] 129 (0,0)):=(hgrow5.block w.heap.size (by simp;omega) (fun e2=>hlb e2.symm)).trans ((Below.heap_alloc _ _ _ hbxlt).trans hbx)
   have k1:w5.frozen? ⟨xr,2,none⟩=false:=frozen_of_row _ _ _ _ _ hx5
   have k0:w5.cell? ⟨xr,2,none⟩=some ls1:=cell_of_row _ _ 2 _ _ _ hx5
   refine hK.out _ _ hb5 (fun hHeld=>?_)
   clear hK K
   try simp only [Act.put,List.setIfInBounds_toArray,List.set_cons_zero,List.set_cons_succ]
   refine tk 8 25 ?_
   refine tk 9 26 ?_
   refine r1 10 none fun K hK=>?_
   go_simp
   refine hK.out _ _ ((heap_setCell_other _ ⟨xr,2,none⟩ _ _ (by simp;omega)).trans hb5) (fun hHeld=>?_)
   clear hK K
   try simp only [Act.put]
   refine wpAnyH_done (by kernel_rfl) ?_ _
   have HE:=hid (And.intro hown5 (And.intro hgrow5 (And.intro hlie5 hx5)))
   clear hown5 hgrow5 hlie5 hx5 hb5 k0 k1 hHeld
   go_wp2
   refine bodyPost_end (results_none rfl _ _ _) rfl ?_
   exact ⟨rfl,by subst hn1;subst hx1;exact HDN.out HM.out HE.out.1 HE.out.2.1 (HE.out.2.2.1.imp_right fun q=>q.trans (World.size_alloc _ _)) HE.out.2.2.2⟩
 ·obtain ⟨he0,hek⟩:=finds_some hf
  have hek2:e0.k=e.k:=by omega
  obtain ⟨hi1,hi2⟩:=placeE_of h.keys he0
  have hat:atR l (e.k:Int)=(placeE l e.k:Int):=by unfold atR;rw [hf,<- hek2]
  rw [hat]
  have hdr:l.take (placeE l e.k)++l.drop (placeE l e.k+1)=dropE l e.k:=by rw [<- hek2];exact (Go.Proofs.YtcepognpbeahhaaGreatDoor.Kc.dropE_at h.keys hi2).symm
  have HWO:=hid (rWithout h0 (placeE l e.k) (by rw [<- hek2];exact hi1))
  rw [hdr] at HWO
  have hpl:placeE l e.k<=1024:=by rw [<- hek2];have:=h.len;omega
  generalize placeE l e.k=pl at *
  clear h0 hb0 hbx0 bk HAT HML hf hat hki hlow hp he0 hek hek2 hi1 hi2 hdr
  go_wp2_with fail
  refine HWO.out.mono ?_
  rintro r w2 ⟨v2,rfl,ho2,hb2⟩
  obtain ⟨A2,cp2,hv2⟩:=Sh.own_shape2 ho2
  subst hv2
  have hx2:=HX.out.2.1.grown hb2
  have c22:=hx2.c2
  have f22:=hx2.free 2
  have hv2lo:∀b,(Value.slice A2 (dropE l e.k).length cp2).ownBlock=some b->w.heap.size<b:=fun b hb=>by have:=(ho2.lt b hb).1;simp at this;omega
  have hxlt2:xr<w.heap.size:=lt_of_block h.root
  have HFIN:Hid (∃ls1,MidU w xr vs ls most hv l e.k (.cells #[.int .i64 (e.k:Int),.string (Sh.strL e.d),.bool e.dirty,.int .i64 (e.pins:Int)] 129 (0,0)) ls1 (w2.setCell ⟨xr,2,none⟩ (.slice A2 (dropE l e.k).length cp2))):=hid ⟨(.slice A2 (dropE l e.k).length cp2),by
    rw [heap_setCell_same _ _ _ _ _ _ hx2.root];rfl,(heap_setCell_other _ ⟨xr,2,none⟩ _ _ (by show w.heap.size≠xr;omega)).trans ((hb2.block _ (by simp)).trans HX.out.2.2),
    Sh.same_row hx2.rowV fun b hb=>heap_setCell_other _ ⟨xr,2,none⟩ _ _ (fun q=>h.vx (by rw [hb,q])),
    Sh.same_row (ho2.mono (by simp;omega)) fun b hb=>heap_setCell_other _ ⟨xr,2,none⟩ _ _ (fun q=>by have:=hv2lo b hb;have q:b=xr:=q;omega),
    fun b hb=>.inr (hv2lo b hb),((Sh.Only.refl (Own xr vs ls) w).alloc _ |>.trans (Sh.Only.of_below hb2 fun b h1 h2=>absurd h2 (by omega)) (F':=fun _=>False) (fun _ q=>q.elim)).setCell (p:=⟨xr,2,none⟩) (.inl (.inl rfl)) _⟩
  clear ho2 hb2 hx2 hv2lo hxlt2 HWO
  go_wp2_with fail
  generalize w2.setCell ⟨xr,2,none⟩ (.slice A2 (dropE l e.k).length cp2)=w1 at *
  obtain ⟨i0,hi0,hz0,hz1,hz2⟩:=info_parts info_ent
  obtain ⟨ls1,hM⟩:=HFIN.out
  have HM:=hid hM
  have hroot:=hM.root
  have hbx:=hM.box
  have hrow1:=hM.rowL
  have c2:w1.cell? ⟨xr,2,none⟩=some ls1:=cell_of_row _ _ 2 _ _ _ hroot
  have hxlt:=lt_of_block hroot
  have hbxlt:=lt_of_block hbx
  have hlx:ls1.ownBlock≠some xr:=fun q=>(hM.own xr q).elim h.lx (fun q2=>by have:=lt_of_block h.root;omega)
  have hlb:ls1.ownBlock≠some w.heap.size:=fun q=>(hM.own _ q).elim (fun q2=>absurd (h.rowL.lt _ q2).2 (by omega)) (fun q2=>by omega)
  have hwx:xr<w.heap.size:=lt_of_block h.root
  generalize hn1:(dropE l e.k).length=n1 at *
  generalize hx1:cellsL (dropE l e.k)=xs1 at *
  have hbx2:(w1.drew.alloc (.cells #[.int .i64 (e.k:Int),.string (Sh.strL e.d),.bool e.dirty,.int .i64 (e.pins:Int)] 129)).heap[w.heap.size]?=some (.cells #[.int .i64 (e.k:Int),.string (Sh.strL e.d),.bool e.dirty,.int .i64 (e.pins:Int)] 129 (0,0)):=(Below.heap_alloc _ _ _ hbxlt).trans hbx
  clear hM HFIN h HX
  refine wp_region_held_drew (S:=fun W:World=>W.heap[w.heap.size]?=some (.cells #[.int .i64 (e.k:Int),.string (Sh.strL e.d),.bool e.dirty,.int .i64 (e.pins:Int)] 129 (0,0))) (by kernel_rfl) hbx (fun hHeld=>?_)
  refine tk 0 17 ?_
  refine tk 1 18 ?_
  refine tk 2 19 ?_
  refine tk 3 20 ?_
  refine wpAnyH_take (i:=5) (oi:=⟨some 22,_,_,_,_,_⟩) (v:=.agg #[.int .i64 (e.k:Int),.string (Sh.strL e.d),.bool e.dirty,.int .i64 (e.pins:Int)]) rfl (by kernel_rfl) (by kernel_rfl) (by kernel_rfl) (fun _ _ _ h=>h) (Or.inl ⟨by rfl,?_⟩) (by assumption) ?_
  ·(intro wq hSw;exact Go.Proofs.YtcepognpbeahhaaGreatDoor.Kc.exec_load_any 129 _ rfl ⟨w.heap.size,0,none⟩ rfl [.int .i64 (e.k:Int),.string (Sh.strL e.d),.bool e.dirty,.int .i64 (e.pins:Int)] _ (fun j v hv=>by rw [U.add_plain,cell_of_row _ _ _ _ _ _ hSw];simpa using hv) Tryz.underlying129 rfl (by kernel_rfl))
  try simp only [Act.put,List.setIfInBounds_toArray,List.set_cons_zero,List.set_cons_succ]
  refine wpAnyH_ready (rs:=[4,6]) (by kernel_rfl) (by simp) ?_
  refine AllReadyH.cons (o:=⟨some 21,_,_,_,_,_⟩) rfl (fun K hK=>?_) (AllReadyH.cons (o:=⟨some 23,_,_,_,_,_⟩) rfl (fun K hK=>?_) AllReadyH.nil)
  ·go_simp
   refine hK.out _ _ hHeld (fun hHeld=>?_)
   clear hK K
   try simp only [Act.put,List.setIfInBounds_toArray,List.set_cons_zero,List.set_cons_succ]
   refine r1 6 (some 23) fun K hK=>?_
   go_simp
   refine hK.out _ _ hbx2 (fun hHeld=>?_)
   clear hK K
   try simp only [Act.put,List.setIfInBounds_toArray,List.set_cons_zero,List.set_cons_succ]
   refine r1 7 (some 24) fun K hK=>?_
   rw [if_pos (by rfl)]
   refine wp_append_lies _ _ _ 33 rfl xr 129 i0 _ 4 40 Tryz.underlying33 hi0 hz0 hz1 hz2 rfl (by decide) ls1 n1 xs1 rfl (hrow1.alloc _) ⟨w1.heap.size,0,none⟩ 1 1 [.int .i64 (e.k:Int),.string (Sh.strL e.d),.bool e.dirty,.int .i64 (e.pins:Int)] rfl rfl (cells4_new rfl _ _ _ _) (ones4 _ _ _ _) (by decide) (by unfold maxLen;omega) (by omega) (by simp;omega) _ rfl (fun g5 cap5 w5 hown5 hgrow5 hlie5 _=>?_)
   have hx5:w5.heap[xr]?=some (.cells #[vs,.int .i64 (most:Int),ls1] 35 (0,0)):=(hgrow5.block xr (by simp;omega) (fun e2=>hlx e2.symm)).trans ((Below.heap_alloc _ _ _ hxlt).trans hroot)
   have hb5:w5.heap[w.heap.size]?=some (.cells #[.int .i64 (e.k:Int),.string (Sh.strL e.d),.bool e.dirty,.int .i64 (e.pins:Int)] 129 (0,0)):=(hgrow5.block w.heap.size (by simp;omega) (fun e2=>hlb e2.symm)).trans ((Below.heap_alloc _ _ _ hbxlt).trans hbx)
   have k1:w5.frozen? ⟨xr,2,none⟩=false:=frozen_of_row _ _ _ _ _ hx5
   have k0:w5.cell? ⟨xr,2,none⟩=some ls1:=cell_of_row _ _ 2 _ _ _ hx5
   refine hK.out _ _ hb5 (fun hHeld=>?_)
   clear hK K
   try simp only [Act.put,List.setIfInBounds_toArray,List.set_cons_zero,List.set_cons_succ]
   refine tk 8 25 ?_
   refine tk 9 26 ?_
   refine r1 10 none fun K hK=>?_
   go_simp
   refine hK.out _ _ ((heap_setCell_other _ ⟨xr,2,none⟩ _ _ (by simp;omega)).trans hb5) (fun hHeld=>?_)
   clear hK K
   try simp only [Act.put]
   refine wpAnyH_done (by kernel_rfl) ?_ _
   have HE:=hid (And.intro hown5 (And.intro hgrow5 (And.intro hlie5 hx5)))
   clear hown5 hgrow5 hlie5 hx5 hb5 k0 k1 hHeld
   go_wp2
   refine bodyPost_end (results_none rfl _ _ _) rfl ?_
   exact ⟨rfl,by subst hn1;subst hx1;exact HDN.out HM.out HE.out.1 HE.out.2.1 (HE.out.2.2.1.imp_right fun q=>q.trans (World.size_alloc _ _)) HE.out.2.2.2⟩
  ·go_simp
   refine hK.out _ _ hbx2 (fun hHeld=>?_)
   clear hK K
   try simp only [Act.put,List.setIfInBounds_toArray,List.set_cons_zero,List.set_cons_succ]
   refine r1 4 (some 21) fun K hK=>?_
   have c2a:(w1.alloc (.cells #[.int .i64 (e.k:Int),.string (Sh.strL e.d),.bool e.dirty,.int .i64 (e.pins:Int)] 129)).cell? ⟨xr,2,none⟩=some ls1:=(World.cell?_alloc_lt w1 _ ⟨xr,2,none⟩ hxlt).trans c2
   go_simp
   refine hK.out _ _ hHeld (fun hHeld=>?_)
   clear hK K
   try simp only [Act.put,List.setIfInBounds_toArray,List.set_cons_zero,List.set_cons_succ]
   clear c2a
   refine r1 7 (some 24) fun K hK=>?_
   rw [if_pos (by rfl)]
   refine wp_append_lies _ _ _ 33 rfl xr 129 i0 _ 4 40 Tryz.underlying33 hi0 hz0 hz1 hz2 rfl (by decide) ls1 n1 xs1 rfl (hrow1.alloc _) ⟨w1.heap.size,0,none⟩ 1 1 [.int .i64 (e.k:Int),.string (Sh.strL e.d),.bool e.dirty,.int .i64 (e.pins:Int)] rfl rfl (cells4_new rfl _ _ _ _) (ones4 _ _ _ _) (by decide) (by unfold maxLen;omega) (by omega) (by simp;omega) _ rfl (fun g5 cap5 w5 hown5 hgrow5 hlie5 _=>?_)
   have hx5:w5.heap[xr]?=some (.cells #[vs,.int .i64 (most:Int),ls1] 35 (0,0)):=(hgrow5.block xr (by simp;omega) (fun e2=>hlx e2.symm)).trans ((Below.heap_alloc _ _ _ hxlt).trans hroot)
   have hb5:w5.heap[w.heap.size]?=some (.cells #[.int .i64 (e.k:Int),.string (Sh.strL e.d),.bool e.dirty,.int .i64 (e.pins:Int)] 129 (0,0)):=(hgrow5.block w.heap.size (by simp;omega) (fun e2=>hlb e2.symm)).trans ((Below.heap_alloc _ _ _ hbxlt).trans hbx)
   have k1:w5.frozen? ⟨xr,2,none⟩=false:=frozen_of_row _ _ _ _ _ hx5
   have k0:w5.cell? ⟨xr,2,none⟩=some ls1:=cell_of_row _ _ 2 _ _ _ hx5
   refine hK.out _ _ hb5 (fun hHeld=>?_)
   clear hK K
   try simp only [Act.put,List.setIfInBounds_toArray,List.set_cons_zero,List.set_cons_succ]
   refine tk 8 25 ?_
   refine tk 9 26 ?_
   refine r1 10 none fun K hK=>?_
   go_simp
   refine hK.out _ _ ((heap_setCell_other _ ⟨xr,2,none⟩ _ _ (by simp;omega)).trans hb5) (fun hHeld=>?_)
   clear hK K
   try simp only [Act.put]
   refine wpAnyH_done (by kernel_rfl) ?_ _
   have HE:=hid (And.intro hown5 (And.intro hgrow5 (And.intro hlie5 hx5)))
   clear hown5 hgrow5 hlie5 hx5 hb5 k0 k1 hHeld
   go_wp2
   refine bodyPost_end (results_none rfl _ _ _) rfl ?_
   exact ⟨rfl,by subst hn1;subst hx1;exact HDN.out HM.out HE.out.1 HE.out.2.1 (HE.out.2.2.1.imp_right fun q=>q.trans (World.size_alloc _ _)) HE.out.2.2.2⟩
end
open Go.Proofs.YtcepognpbeahhaaGreatDoor.Kc (En finds dropE useE putE finds_some finds_none one_of_key placeE placeE_of keysV)
theorem keysV_take {l:List En} {j:Nat} (hj:j<l.length):keysV (l.take (j+1))=keysV (l.take j)++[Value.int .i64 (l[j].k:Int)]:=by
 unfold keysV
 rw [List.take_add_one,List.getElem?_eq_getElem hj,List.map_append]
 rfl
def dirtsTo (l:List En) (j:Nat):List Int:=((List.range j).filter fun (n:Nat)=>match finds l (n:Int) with | some e=>e.dirty | none=>false).map fun (n:Nat)=>(n:Int)
theorem dirtsTo_len (l:List En) (j:Nat):(dirtsTo l j).length<=j:=by
 unfold dirtsTo
 rw [List.length_map]
 exact Nat.le_trans (List.length_filter_le _ _) (by simp)
theorem dirtsTo_succ (l:List En) (j:Nat):dirtsTo l (j+1)=dirtsTo l j++if (match finds l (j:Int) with | some e=>e.dirty | none=>false)=true then [(j:Int)] else []:=by
 unfold dirtsTo
 rw [List.range_succ,List.filter_append,List.map_append]
 congr 1
 by_cases h:(match finds l (j:Int) with | some e=>e.dirty | none=>false)=true
 ·rw [if_pos h,List.filter_cons_of_pos (by exact h)];rfl
 ·rw [if_neg h,List.filter_cons_of_neg (by exact h)];rfl
section
variable {w w':World} {xr most:Nat} {vs ls:Value} {hv:Nat->Sh.Bs} {l:List En}
set_option maxRecDepth 20000 in
theorem rBlocks (h:RfIs w xr vs ls most hv l):Calls Tryz.prog 35 #[.pointer (some ⟨xr,0,none⟩)] w fun r w'=>∃v,r=.returned v/\w'.ownsRow w.heap.size 3 1 v l.length (keysV l)/\Below w.heap.size w w':=by
 have HH:=hid h
 obtain ⟨A,cap,hls⟩:=Sh.own_shape2 h.rowL
 subst hls
 have hlen:l.length<=1024:=h.len
 obtain ⟨i0,hi,hz0,hz1,hz2⟩:=info_parts L.info_int
 have HK:Hid (keysV l=keysV (l.take l.length)):=hid (by rw [List.take_length])
 have c2:=h.c2
 generalize hm:l.length=m at *
 have HM:=hid hm
 clear h hm
 rw [HK.out]
 clear HK
 go_enter Tryz.func35,Tryz.ntmps35
 go_wp2
 go_loopw [3,4] (fun s i wr=>∃j:Nat,j<=m/\i=.int .i64 j/\Hid (wr.ownsRow w.heap.size 3 1 s j (keysV (l.take j))/\Below w.heap.size w wr)) (fun _ i _=>m-(intOf i).toNat)
 case atStart=>exact ⟨0,Nat.zero_le _,rfl,hid ⟨World.ownsRow_nil _ _ _ _,Below.refl _ _⟩⟩
 case round =>
  obtain ⟨j,hj,rfl,hrel⟩:=hrel
  clear c2
  have hHH:=HH.out.grown hrel.out.2
  have c2:=hHH.c2
  by_cases hlt:j<m
  ·have hjl:j<l.length:=by rw [HM.out];exact hlt
   obtain ⟨b,cp,hbc⟩:=hHH.lform (by omega)
   injection hbc with hA _ hcp
   subst hA
   subst hcp
   rw [<- HM.out] at hHH
   obtain ⟨e0,_,_,_⟩:=hHH.ent hjl
   have hown:=hrel.out.1
   have hbel:=hrel.out.2
   have hsz:=hbel.size
   have HT:=hid (keysV_take hjl)
   generalize keysV (l.take j)=xs at *
   generalize l[j].k=kj at *
   clear hrel hHH
   go_wp2_with (at_builtin;refine append1 rfl _ _ 54 rfl w.heap.size 3 i0 (.int .i64 0) 8 Tryz.underlying54 hi hz0 hz1 hz2 rfl _ j _ rfl (.int .i64 (kj:Int)) rfl rfl (by exact hown) (by unfold maxLen;omega) (by omega) w (by exact hbel) (by exact hsz) ?_;intro v' w1 hown1 hbel1)
   have HG:Hid (w1.ownsRow w.heap.size 3 1 v' (j+1) (keysV (l.take (j+1)))/\Below w.heap.size w w1):=hid ⟨by rw [HT.out];exact hown1,hbel1⟩
   clear hown1 hbel1 hown hbel
   go_wp2
   go_roundw
   case rel=>exact ⟨j+1,by omega,by go_num,HG⟩
   case measure=>simp [intOf];omega
  ·obtain rfl:j=m:=by omega
   clear hHH
   go_wp2
   go_ret
   exact ⟨_,rfl,hrel.out.1,hrel.out.2⟩
set_option maxRecDepth 20000 in
theorem rDirty (h:RfIs w xr vs ls most hv l):Calls Tryz.prog 36 #[.pointer (some ⟨xr,0,none⟩)] w fun r w'=>∃v,r=.returned v/\w'.ownsRow w.heap.size 3 1 v (dirtsTo l 12).length ((dirtsTo l 12).map (Value.int .i64))/\Below w.heap.size w w':=by
 have HH:=hid h
 obtain ⟨vb,vcap,hvs⟩:=h.vform
 subst hvs
 obtain ⟨A,cap,hls⟩:=Sh.own_shape2 h.rowL
 subst hls
 obtain ⟨i0,hi,hz0,hz1,hz2⟩:=info_parts L.info_int
 have c0:=h.c0
 clear h
 go_enter Tryz.func36,Tryz.ntmps36
 go_wp2
 go_loopw [3,4] (fun s i wr=>∃j:Nat,j<=12/\i=.int .i64 j/\Hid (wr.ownsRow w.heap.size 3 1 s (dirtsTo l j).length ((dirtsTo l j).map (Value.int .i64))/\Below w.heap.size w wr)) (fun _ i _=>12-(intOf i).toNat)
 case atStart=>exact ⟨0,Nat.zero_le _,rfl,hid ⟨World.ownsRow_nil _ _ _ _,Below.refl _ _⟩⟩
 case round =>
  obtain ⟨j,hj,rfl,hrel⟩:=hrel
  clear c0
  have hHH:=HH.out.grown hrel.out.2
  have c0:=hHH.c0
  by_cases hlt:j<12
  ·have HAT:=hid (rAt hHH (j:Int))
   have hdl:=dirtsTo_len l j
   have hds:=dirtsTo_succ l j
   have c2:=hHH.c2
   rcases hf:finds l (j:Int) with _ | e0
   ·have hat:atR l (j:Int)=-1:=by unfold atR;rw [hf]
    rw [hat] at HAT
    rw [hf,if_neg (by simp)] at hds
    have HG:Hid (_/\_):=hid (show wr.ownsRow w.heap.size 3 1 _ (dirtsTo l (j+1)).length ((dirtsTo l (j+1)).map (Value.int .i64))/\Below w.heap.size w wr from by rw [hds,List.append_nil];exact hrel.out)
    clear hHH hrel hds hf hat hdl
    go_wp2_with fail
    refine HAT.out.mono ?_
    rintro r w2 ⟨rfl,rfl⟩
    clear HAT
    go_wp2
    go_roundw
    case rel=>exact ⟨j+1,by omega,by go_num,HG⟩
    case measure=>simp [intOf];omega
   ·obtain ⟨he0,hek⟩:=finds_some hf
    have hek2:e0.k=j:=by omega
    obtain ⟨hi1,hi2⟩:=placeE_of hHH.keys he0
    have hat:atR l (j:Int)=(placeE l j:Int):=by unfold atR;rw [hf,<- hek2]
    rw [hek2] at hi1 hi2
    obtain ⟨b,cp,hbc⟩:=hHH.lform (by omega)
    injection hbc with hA hcl hcp
    subst hA
    subst hcp
    have e2:=(hHH.ent hi1).2.2.1
    have hlen:l.length<=1024:=hHH.len
    have hd:l[placeE l j].dirty=e0.dirty:=by
     rw [List.getElem?_eq_getElem hi1] at hi2
     injection hi2 with hi2
     rw [hi2]
    rw [hd] at e2
    rw [hat] at HAT
    rw [hf] at hds
    have hds:dirtsTo l (j+1)=dirtsTo l j++if e0.dirty=true then [(j:Int)] else []:=hds
    have hil:placeE l j<l.length:=hi1
    clear hHH hd hi2 hi1 hat hek hek2 he0 hf hcl HH
    generalize placeE l j=pl at *
    generalize l.length=m at *
    have hown:=hrel.out.1
    have hbel:=hrel.out.2
    have hsz:=hbel.size
    cases hdd:e0.dirty
    ·rw [hdd] at e2 hds
     rw [if_neg (by simp)] at hds
     have HG:Hid (_/\_):=hid (show wr.ownsRow w.heap.size 3 1 _ (dirtsTo l (j+1)).length ((dirtsTo l (j+1)).map (Value.int .i64))/\Below w.heap.size w wr from by rw [hds,List.append_nil];exact hrel.out)
     clear hrel hds hdl hown hbel
     go_wp2_with fail
     refine HAT.out.mono ?_
     rintro r w2 ⟨rfl,rfl⟩
     clear HAT
     go_wp2
     go_roundw
     case rel=>exact ⟨j+1,by omega,by go_num,HG⟩
     case measure=>simp [intOf];omega
    ·rw [hdd] at e2 hds
     rw [if_pos (by rfl)] at hds
     have HDS:=hid hds
     clear hrel hds
     generalize hdj:(dirtsTo l j)=dj at *
     go_wp2_with fail
     refine HAT.out.mono ?_
     rintro r w2 ⟨rfl,rfl⟩
     clear HAT
     go_wp2_with (at_builtin;refine append1 rfl _ _ 54 rfl w.heap.size 3 i0 (.int .i64 0) 8 Tryz.underlying54 hi hz0 hz1 hz2 rfl _ dj.length _ rfl (.int .i64 (j:Int)) rfl rfl (by exact hown) (by unfold maxLen;omega) (by omega) w (by exact hbel) (by exact hsz) ?_;intro v' w1 hown1 hbel1)
     have HG:Hid (w1.ownsRow w.heap.size 3 1 v' (dirtsTo l (j+1)).length ((dirtsTo l (j+1)).map (Value.int .i64))/\Below w.heap.size w w1):=hid ⟨by rw [HDS.out,List.length_append,List.map_append];exact hown1,hbel1⟩
     clear hown1 hbel1 hown hbel
     go_wp2
     go_roundw
     case rel=>exact ⟨j+1,by omega,by go_num,HG⟩
     case measure=>simp [intOf];omega
  ·obtain rfl:j=12:=by omega
   clear hHH
   go_wp2
   go_ret
   exact ⟨_,rfl,hrel.out.1,hrel.out.2⟩
end
open Go.Proofs.YtcepognpbeahhaaGreatDoor.Kc (En finds dropE useE putE finds_some finds_none one_of_key placeE placeE_of keysV)
theorem cellsL_set {l:List En} {i c:Nat} (hi:i<l.length) (hc:c<4) {e:En} {u:Value} (h:cR e=(cR l[i]).set c u):cellsL (l.set i e)=(cellsL l).set (i*4+c) u:=by
 have h1:l=l.take i++l[i] :: l.drop (i+1):=by rw [List.getElem_cons_drop,List.take_append_drop]
 have h0:(l.take i).length=i:=by rw [List.length_take,Nat.min_eq_left (by omega)]
 have h2:(cellsL (l.take i)).length=i*4:=by rw [cellsL_length,h0]
 have h3:cellsL l=cellsL (l.take i)++(cR l[i]++cellsL (l.drop (i+1))):=by
  conv=>lhs;rw [h1]
  rw [cellsL_append]
  rfl
 have h4:l.set i e=l.take i++e :: l.drop (i+1):=List.set_eq_take_append_cons_drop.trans (by rw [if_pos hi])
 have h5:cellsL (l.set i e)=cellsL (l.take i)++(cR e++cellsL (l.drop (i+1))):=by
  rw [h4,cellsL_append]
  rfl
 rw [h5,h3,h,List.set_append_right _ _ (by omega),h2,show i*4+c-i*4=c by omega,List.set_append_left _ _ (by exact hc)]
theorem set_putE {l:List En} (hn:(l.map En.k).Nodup) {i:Nat} (hi:i<l.length) {e:En} (hk:e.k=l[i].k):l.set i e=putE l e:=by
 refine List.ext_getElem (by unfold putE;simp) fun j h1 h2=>?_
 have hj:j<l.length:=by simpa using h1
 have h3:(putE l e)[j]=if l[j].k=e.k then e else l[j]:=List.getElem_map _
 rw [List.getElem_set,h3]
 by_cases q:i=j
 ·subst q
  rw [if_pos rfl,if_pos hk.symm]
 ·rw [if_neg q,if_neg fun q2=>q ((place_key hn hi (hk.symm)).trans (place_key hn hj q2).symm)]
section
variable {w w':World} {xr most:Nat} {vs ls:Value} {hv:Nat->Sh.Bs} {l:List En}
theorem RfIs.setEnt {b cap:Nat} (h:RfIs w xr vs (.slice (some ⟨b,0,none⟩) l.length cap) most hv l) {i c:Nat} (hi:i<l.length) (hc:c<4) {e:En} (hk:e.k=l[i].k) (hp:e.pins<=4611686018427387904) {u:Value} (hu:cR e=(cR l[i]).set c u) :
  RfTo w xr vs (.slice (some ⟨b,0,none⟩) l.length cap) most hv (putE l e) (w.setCell ⟨b,i*4+c,none⟩ u):=by
 rw [<- set_putE h.keys hi hk]
 have hbx:b≠xr:=fun q=>h.lx (by rw [<- q];rfl)
 have hm:l.map En.k=(l.set i e).map En.k:=by rw [set_putE h.keys hi hk,Go.Proofs.YtcepognpbeahhaaGreatDoor.Kc.putE_keys]
 refine ⟨_,⟨?_,?_,?_,h.vl,h.vx,h.lx,by rw [List.length_set];exact h.len,?_,?_,?_⟩,?_,fun b hb=>.inl hb⟩
 ·exact (heap_setCell_other _ ⟨b,_,none⟩ _ _ (fun q=>hbx q.symm)).trans h.root
 ·exact Sh.same_row h.rowV fun a ha=>heap_setCell_other _ ⟨b,_,none⟩ _ _ (fun q=>h.vl a ha (by rw [show a=b from q];rfl))
 ·rw [cellsL_set hi hc hu,List.length_set]
  exact (h.rowL.stored _ _).1
 ·rw [<- hm];exact h.keys
 ·intro z hz
  rw [set_putE h.keys hi hk] at hz
  rcases Go.Proofs.YtcepognpbeahhaaGreatDoor.Kc.mem_putE hz with q | q
  ·rw [q,hk];exact h.lows _ (List.getElem_mem hi)
  ·exact h.lows z q.1
 ·intro z hz
  rw [set_putE h.keys hi hk] at hz
  rcases Go.Proofs.YtcepognpbeahhaaGreatDoor.Kc.mem_putE hz with q | q
  ·rw [q];exact hp
  ·exact h.pins z q.1
 ·exact (Sh.Only.refl _ w).setCell (p:=⟨b,_,none⟩) (.inl (.inr (.inr rfl))) _
theorem RfTo.drew (h:RfTo w xr vs ls most hv l w'):RfTo w xr vs ls most hv l w'.drew:=by
 obtain ⟨ls',h1,h2⟩:=h
 exact ⟨ls',h1.same fun _ _=>rfl,h2.1.drew,h2.2⟩
def PinTo (w:World) (xr:Nat) (vs ls:Value) (most:Nat) (hv:Nat->Sh.Bs) (l:List En) (n:Int) (up:Bool) (r:Ending) (w':World):Prop :=
 ((finds l n=none\/(up=false/\∃e,finds l n=some e/\e.pins=0))/\r=.returned (.int .i64 7)/\w=w') \/
 ∃e,finds l n=some e/\(up=true\/e.pins≠0)/\r=.returned (.int .i64 0)/\RfTo w xr vs ls most hv (putE l { e with pins:=if up then e.pins+1 else e.pins-1 }) w'
set_option maxRecDepth 20000 in
theorem rPinUp (h:RfIs w xr vs ls most hv l) (n:Int) (hpb:∀e∈l,e.pins<4611686018427387904):Calls Tryz.prog 33 #[.pointer (some ⟨xr,0,none⟩),.int .i64 n,.int .i64 1] w (PinTo w xr vs ls most hv l n true):=by
 have HH:=hid h
 have HAT:=hid (rAt h n)
 obtain ⟨A,cap,hls⟩:=Sh.own_shape2 h.rowL
 subst hls
 rcases hf:finds l n with _ | e0
 ·have hat:atR l n=-1:=by unfold atR;rw [hf]
  rw [hat] at HAT
  have HG:=hid hf
  clear h hf hat
  go_enter Tryz.func33,Tryz.ntmps33
  go_wp2_with fail
  refine HAT.out.mono ?_
  rintro r w2 ⟨rfl,rfl⟩
  clear HAT
  go_wp2
  go_ret
  exact .inl ⟨.inl HG.out,rfl,rfl⟩
 ·obtain ⟨he0,hek⟩:=finds_some hf
  obtain ⟨hi1,hi2⟩:=placeE_of h.keys he0
  have hat:atR l n=(placeE l e0.k:Int):=by unfold atR;rw [hf]
  rw [hat] at HAT
  obtain ⟨b,cp,hbc⟩:=h.lform (by omega)
  injection hbc with hA hcl hcp
  subst hA
  subst hcp
  have hlen:l.length<=1024:=h.len
  have hd:l[placeE l e0.k]=e0:=by
   rw [List.getElem?_eq_getElem hi1] at hi2
   injection hi2
  have e3:=(h.ent hi1).2.2.2
  rw [hd] at e3
  have c2:=h.c2
  have fr:=h.rowL.frozenAt (placeE l e0.k*4+3)
  have hpins:=h.pins e0 he0
  have hbx:b≠xr:=fun q=>h.lx (by rw [<- q];rfl)
  have hpb1:=hpb e0 he0
  have HF:=hid hf
  have HS:Hid (∀(p:Nat),p<=4611686018427387904->RfTo w xr vs (.slice (some ⟨b,0,none⟩) l.length cap) most hv (putE l { e0 with pins:=p }) (w.setCell ⟨b,placeE l e0.k*4+3,none⟩ (.int .i64 (p:Int)))):=hid fun p hp=>h.setEnt hi1 (by decide) (by rw [hd]) hp (by rw [hd];rfl)
  have hil:placeE l e0.k<l.length:=hi1
  clear h hf hat hi1 hi2 hd he0 hek hcl HH
  generalize hpl:placeE l e0.k=pl at *
  generalize hm:l.length=m at *
  generalize hpn:e0.pins=pn at *
  have HW:Hid (IntKind.i64.wrap ((pn:Int)+1)=((pn+1:Nat):Int)):=hid (by rw [show (pn:Int)+1=((pn+1:Nat):Int) by omega];exact Go.IntWalk.i64_in _ ⟨by omega,by omega⟩)
  go_enter Tryz.func33,Tryz.ntmps33
  go_wp2_with fail
  refine HAT.out.mono ?_
  rintro r w2 ⟨rfl,rfl⟩
  clear HAT
  go_wp2_with fail
  refine wp_region_held_drew (S:=fun W:World=>W.cell? ⟨xr,2,none⟩=some (.slice (some ⟨b,0,none⟩) m cap)) (by kernel_rfl) c2 (fun hHeld=>?_)
  refine tk 0 28 ?_
  refine tk 1 29 ?_
  refine tk 2 30 ?_
  refine wpAnyH_take (i:=3) (oi:=⟨some 31,_,_,_,_,_⟩) (v:=?_) rfl (by kernel_rfl) (by kernel_rfl) (by kernel_rfl) (fun _ _ _ h=>h) (Or.inl ⟨by rfl,?_⟩) (by assumption) ?_
  rotate_left
  ·(intro w hSw;have c2w:=hSw;(try dsimp only at hSw);go_simp;first | done | with_reducible rfl)
  try simp only [Act.put,List.setIfInBounds_toArray,List.set_cons_zero,List.set_cons_succ]
  refine tk 4 32 ?_
  refine tk 5 33 ?_
  refine tk 6 34 ?_
  refine tk 7 35 ?_
  refine wpAnyH_take (i:=8) (oi:=⟨some 36,_,_,_,_,_⟩) (v:=?_) rfl (by kernel_rfl) (by kernel_rfl) (by kernel_rfl) (fun _ _ _ h=>h) (Or.inl ⟨by rfl,?_⟩) (by assumption) ?_
  rotate_left
  ·(intro w hSw;have c2w:=hSw;(try dsimp only at hSw);go_simp;first | done | with_reducible rfl)
  try simp only [Act.put,List.setIfInBounds_toArray,List.set_cons_zero,List.set_cons_succ]
  refine tk 9 37 ?_
  refine tk 10 38 ?_
  refine tk 11 39 ?_
  refine tk 13 41 ?_
  refine r1 12 (some 40) fun K hK=>?_
  go_simp
  refine hK.out _ _ hHeld (fun hHeld=>?_)
  clear hK K
  try simp only [Act.put,List.setIfInBounds_toArray,List.set_cons_zero,List.set_cons_succ]
  refine tk 14 42 ?_
  refine tk 15 43 ?_
  refine tk 16 44 ?_
  refine r1 17 none fun K hK=>?_
  go_simp
  refine hK.out _ _ ((World.cell?_setCell_far _ _ _ _ hbx).trans hHeld) (fun hHeld=>?_)
  clear hK K
  refine wpAnyH_done (by kernel_rfl) ?_ _
  go_wp2
  go_ret
  exact .inr ⟨e0,HF.out,.inl rfl,rfl,(by rw [HW.out];subst hpn;subst hpl;subst hm;exact (HS.out (e0.pins+1) (by omega)).drew)⟩
set_option maxRecDepth 20000 in
theorem rPinDown (h:RfIs w xr vs ls most hv l) (n:Int):Calls Tryz.prog 33 #[.pointer (some ⟨xr,0,none⟩),.int .i64 n,.int .i64 (-1)] w (PinTo w xr vs ls most hv l n false):=by
 have HH:=hid h
 have HAT:=hid (rAt h n)
 obtain ⟨A,cap,hls⟩:=Sh.own_shape2 h.rowL
 subst hls
 rcases hf:finds l n with _ | e0
 ·have hat:atR l n=-1:=by unfold atR;rw [hf]
  rw [hat] at HAT
  have HG:=hid hf
  clear h hf hat
  go_enter Tryz.func33,Tryz.ntmps33
  go_wp2_with fail
  refine HAT.out.mono ?_
  rintro r w2 ⟨rfl,rfl⟩
  clear HAT
  go_wp2
  go_ret
  exact .inl ⟨.inl HG.out,rfl,rfl⟩
 ·obtain ⟨he0,hek⟩:=finds_some hf
  obtain ⟨hi1,hi2⟩:=placeE_of h.keys he0
  have hat:atR l n=(placeE l e0.k:Int):=by unfold atR;rw [hf]
  rw [hat] at HAT
  obtain ⟨b,cp,hbc⟩:=h.lform (by omega)
  injection hbc with hA hcl hcp
  subst hA
  subst hcp
  have hlen:l.length<=1024:=h.len
  have hd:l[placeE l e0.k]=e0:=by
   rw [List.getElem?_eq_getElem hi1] at hi2
   injection hi2
  have e3:=(h.ent hi1).2.2.2
  rw [hd] at e3
  have c2:=h.c2
  have fr:=h.rowL.frozenAt (placeE l e0.k*4+3)
  have hpins:=h.pins e0 he0
  have hbx:b≠xr:=fun q=>h.lx (by rw [<- q];rfl)
  skip
  have HF:=hid hf
  have HS:Hid (∀(p:Nat),p<=4611686018427387904->RfTo w xr vs (.slice (some ⟨b,0,none⟩) l.length cap) most hv (putE l { e0 with pins:=p }) (w.setCell ⟨b,placeE l e0.k*4+3,none⟩ (.int .i64 (p:Int)))):=hid fun p hp=>h.setEnt hi1 (by decide) (by rw [hd]) hp (by rw [hd];rfl)
  have hil:placeE l e0.k<l.length:=hi1
  clear h hf hat hi1 hi2 hd he0 hek hcl HH
  generalize hpl:placeE l e0.k=pl at *
  generalize hm:l.length=m at *
  generalize hpn:e0.pins=pn at *
  by_cases h0:pn=0
  ·subst h0
   go_enter Tryz.func33,Tryz.ntmps33
   go_wp2_with fail
   refine HAT.out.mono ?_
   rintro r w2 ⟨rfl,rfl⟩
   clear HAT
   go_wp2
   go_ret
   exact .inl ⟨.inr ⟨rfl,e0,HF.out,hpn⟩,rfl,rfl⟩
  ·have h1:0<pn:=by omega
   have HN0:=hid h0
   have hq0:((pn:Int) == 0)=false:=by rw [beq_eq_false_iff_ne];omega
   have hwv:(pn:Int)+-1=((pn-1:Nat):Int):=by omega
   have HW:Hid (IntKind.i64.wrap ((pn:Int)+(-1))=((pn-1:Nat):Int)):=hid (by rw [show (pn:Int)+(-1)=((pn-1:Nat):Int) by omega];exact Go.IntWalk.i64_in _ ⟨by omega,by omega⟩)
   clear hwv
   go_enter Tryz.func33,Tryz.ntmps33
   go_wp2_with fail
   refine HAT.out.mono ?_
   rintro r w2 ⟨rfl,rfl⟩
   clear HAT
   go_wp2_with fail
   refine wp_region_held_drew (S:=fun W:World=>W.cell? ⟨xr,2,none⟩=some (.slice (some ⟨b,0,none⟩) m cap)) (by kernel_rfl) c2 (fun hHeld=>?_)
   refine tk 0 28 ?_
   refine tk 1 29 ?_
   refine tk 2 30 ?_
   refine wpAnyH_take (i:=3) (oi:=⟨some 31,_,_,_,_,_⟩) (v:=?_) rfl (by kernel_rfl) (by kernel_rfl) (by kernel_rfl) (fun _ _ _ h=>h) (Or.inl ⟨by rfl,?_⟩) (by assumption) ?_
   rotate_left
   ·(intro w hSw;have c2w:=hSw;(try dsimp only at hSw);go_simp;first | done | with_reducible rfl)
   try simp only [Act.put,List.setIfInBounds_toArray,List.set_cons_zero,List.set_cons_succ]
   refine tk 4 32 ?_
   refine tk 5 33 ?_
   refine tk 6 34 ?_
   refine tk 7 35 ?_
   refine wpAnyH_take (i:=8) (oi:=⟨some 36,_,_,_,_,_⟩) (v:=?_) rfl (by kernel_rfl) (by kernel_rfl) (by kernel_rfl) (fun _ _ _ h=>h) (Or.inl ⟨by rfl,?_⟩) (by assumption) ?_
   rotate_left
   ·(intro w hSw;have c2w:=hSw;(try dsimp only at hSw);go_simp;first | done | with_reducible rfl)
   try simp only [Act.put,List.setIfInBounds_toArray,List.set_cons_zero,List.set_cons_succ]
   refine tk 9 37 ?_
   refine tk 10 38 ?_
   refine tk 11 39 ?_
   refine tk 13 41 ?_
   refine r1 12 (some 40) fun K hK=>?_
   go_simp
   refine hK.out _ _ hHeld (fun hHeld=>?_)
   clear hK K
   try simp only [Act.put,List.setIfInBounds_toArray,List.set_cons_zero,List.set_cons_succ]
   refine tk 14 42 ?_
   refine tk 15 43 ?_
   refine tk 16 44 ?_
   refine r1 17 none fun K hK=>?_
   go_simp
   refine hK.out _ _ ((World.cell?_setCell_far _ _ _ _ hbx).trans hHeld) (fun hHeld=>?_)
   clear hK K
   refine wpAnyH_done (by kernel_rfl) ?_ _
   go_wp2
   go_ret
   exact .inr ⟨e0,HF.out,.inr (by rw [hpn];exact HN0.out),rfl,(by rw [HW.out];subst hpn;subst hpl;subst hm;exact (HS.out (e0.pins-1) (by omega)).drew)⟩
end
end Go.Proofs.YtcepognpbeahhaaGreatDoor.Rc
