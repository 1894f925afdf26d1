/-
  What the statement's proof rests on, part 34.
  Conditions: each theorem's own.
-/
import Derived.Test.YtgebkmpmnjhceaaGreatDoorZ33
import Derived.Deep.AppendSrc
import Derived.Deep.AppendLies
import Derived.Deep.MidRow
open Go.Proofs.YtgebkmpmnjhceaaGreatDoor.S renaming Sup → SuP
namespace Go.Proofs.YtgebkmpmnjhceaaGreatDoor.Sh
open Go.RowKit Go.Maps
structure Mids (w:World) (g off n c:Nat) (l:List Bs):Prop where
 len:l.length=n
 le:n<=c
 lt:g<w.heap.size
 there:∀j,j<c->(w.cell? ⟨g,off+j,none⟩).isSome=true
 free:∀j,j<c->w.frozen? ⟨g,off+j,none⟩=false
 at_:∀j,j<n->w.cell? ⟨g,off+j,none⟩=some (sv (l.getD j []))
theorem Mids.same {w w':World} {g off n c:Nat} {l:List Bs} (h:Mids w g off n c l) (hb:w'.heap[g]?=w.heap[g]?) (hs:w.heap.size<=w'.heap.size):Mids w' g off n c l :=
 ⟨h.len,h.le,Nat.lt_of_lt_of_le h.lt hs,fun j hj=>by rw [World.cell?_of_block (w:=w) hb];exact h.there j hj,fun j hj=>by rw [World.frozen?_of_block (w:=w) hb];exact h.free j hj,fun j hj=>by rw [World.cell?_of_block (w:=w) hb];exact h.at_ j hj⟩
theorem getD_snoc_oldS (l:List Bs) (x:Bs) (j:Nat) (h:j<l.length):(l++[x]).getD j []=l.getD j []:=by simp [List.getD,List.getElem?_append_left h]
theorem getD_snoc_newS (l:List Bs) (x:Bs):(l++[x]).getD l.length []=x:=by simp [List.getD]
theorem zero_cells_S (k i:Nat) (h:i<k):∃u,(Builtin.zeroCells #[Value.string ⟨#[]⟩] k)[i]?=some u:=⟨_,Array.getElem?_eq_getElem (by simp [Builtin.zeroCells];exact h)⟩
theorem info_str:(Tryz.prog.info? 9).map (fun i=>(i.zero,i.size,i.bytes))=some (some (.string ⟨#[]⟩),1,16):=by kernel_rfl
set_option maxRecDepth 20000 in
theorem run_append_mids (ty:TypeId) {w:World} {g off n c cc:Nat} {x:Bs} {l:List Bs} (h:Mids w g off n c l) {ad:Addr} (hx:w.cell? ad=some (sv x)) (hn:n<=100000) :
  ∃g' off' c' w',(Builtin.append_ #[50,50] ty #[.slice (some ⟨g,off,none⟩) n c,.slice (some ad) 1 cc]).run Tryz.prog w=.ok (.slice (some ⟨g',off',none⟩) (n+1) c') w'/\Mids w' g' off' (n+1) c' (l++[x])/\w.grownBy w' (some g)/\(g'=g\/g'=w.heap.size):=by
 obtain ⟨i,hi,hz,hsz,hby⟩:=info_parts info_str
 have hadd:ad.add 0=ad:=by unfold Addr.add;simp
 have hs:Src Tryz.prog i.size 50 (.slice (some ad) 1 cc) 1 [sv x] w:=by
  rw [hsz]
  refine Src.ofSlice w Tryz.underlying50 ad 1 cc _ rfl (fun j u hu=>?_) (fun u hu=>by simp at hu;subst hu;rfl)
  match j,hu with
  | 0,hu=>rw [hadd,hx];exact hu
 by_cases hr:n+1<=c
 ·refine ⟨g,off,c,_,run_append_room_src w _ _ ty _ i Tryz.underlying50 hi g off n c _ 1 _ hs hr (fun j hj=>?_) (fun j hj=>?_),?_,?_,.inl rfl⟩
  ·rw [hsz]
   obtain rfl:j=0:=by simpa using hj
   rw [Nat.mul_one];exact h.there n (by omega)
  ·rw [hsz]
   obtain rfl:j=0:=by simpa using hj
   rw [Nat.mul_one];exact h.free n (by omega)
  ·rw [hsz]
   have hin:∀j,j<([sv x]).length->(w.cell? ⟨g,off+n*1+j,none⟩).isSome=true:=fun j hj=>by
    obtain rfl:j=0:=by simpa using hj
    rw [Nat.mul_one];exact h.there n (by omega)
   refine ⟨by simp [h.len],hr,?_,fun j hj=>World.isSome_setCells _ _ _ _ _ (h.there j hj),fun j hj=>by rw [World.frozen?_setCells];exact h.free j hj,fun j hj=>?_⟩
   ·have:=World.block_lt_of_cell? (w.setCells g (off+n*1) [sv x]) _ (World.cell?_setCells_in g _ _ w hin 0 (by simp))
    exact this
   ·by_cases e:j=n
    ·subst e
     rw [<- h.len,getD_snoc_newS,h.len]
     have:=World.cell?_setCells_in g _ _ w hin 0 (by simp)
     simpa using this
    ·rw [World.cell?_setCells_out g _ _ w _ (fun _ _=>.inl (by show off+j<off+n*1;omega)),h.at_ j (by omega),getD_snoc_oldS _ _ _ (by rw [h.len];omega)]
  ·rw [hsz]
   show w.grownBy (w.setCell ⟨g,off+n*1,none⟩ (sv x)) (some g)
   have hO:Only (fun b=>b=g) w (w.setCell ⟨g,off+n*1,none⟩ (sv x)):=(Only.refl (fun b=>b=g) w).setCell (p:=⟨g,off+n*1,none⟩) (.inl rfl) _
   exact ⟨hO.os,hO.tape,hO.output,hO.size,fun k _ hk=>heap_set_other w ⟨g,off+n*1,none⟩ _ (fun e=>hk (by rw [e]))⟩
 ·have hcn:c=n:=by have:=h.le;omega
  subst hcn
  have hold:(Builtin.firstCells i.size c (.slice (some ⟨g,off,none⟩) c c)).run Tryz.prog w.drew=.ok ((l.map sv)).toArray w.drew:=by
   rw [hsz]
   refine run_firstCells_some w.drew 1 c ⟨g,off,none⟩ c c ((l.map sv)) (by rw [List.length_map,h.len,Nat.mul_one]) (fun j v hv=>?_)
   have hj:j<l.length:=by
    rcases Nat.lt_or_ge j l.length with h | h
    ·exact h
    ·rw [List.getElem?_eq_none (by simpa using h)] at hv;cases hv
   rw [sv_at hj] at hv
   rw [Addr.add_mid]
   exact (h.at_ j (by rw [<- h.len];exact hj)).trans hv
  have hg:=grownCap_ge w (c+1) c 9
  refine ⟨w.heap.size,0,_,_,run_append_grow_src w _ _ ty _ i _ Tryz.underlying50 hi hz (some ⟨g,off,none⟩) c c ((l.map sv)) hold _ 1 _ hs (by omega) (by omega) (by rw [hby];have:=nextslicecap_le (need:=c+1) (old:=c) (by omega);omega),?_,?_,.inr rfl⟩
  ·generalize hG:grownCap w (c+1) c 9=G at *
   have hrow:(w.drew.alloc (.cells (((l.map sv)++[sv x]).toArray++Builtin.zeroCells (Value.string ⟨#[]⟩).cells (G-(c+1))) 9)).heap[w.heap.size]?=_:=heap_alloc_new w.drew _
   have hlen:((l.map sv)++[sv x]).toArray.size=c+1:=by simp [h.len]
   have hat:∀j,j<c+1->(((l.map sv)++[sv x]).toArray++Builtin.zeroCells (Value.string ⟨#[]⟩).cells (G-(c+1)))[j]?=some (sv ((l++[x]).getD j [])):=fun j hj=>by
    rw [Array.getElem?_append_left (by rw [hlen];exact hj)]
    have e:(l.map sv)++[sv x]=(l++[x]).map sv:=by simp
    rw [e,List.getElem?_toArray]
    exact sv_at (by simp [h.len];omega)
   refine ⟨by simp [h.len],hg,by simp,fun j hj=>?_,fun j _=>frozen_of_row _ _ _ _ _ hrow,fun j hj=>?_⟩
   ·rw [Nat.zero_add,cell_of_row _ _ j _ _ _ hrow]
    by_cases hjc:j<c+1
    ·rw [hat j hjc];rfl
    ·rw [Array.getElem?_append_right (by rw [hlen];omega),hlen]
     obtain ⟨u,hu⟩:=zero_cells_S (G-(c+1)) (j-(c+1)) (by omega)
     exact (congrArg Option.isSome hu).trans rfl
   ·rw [Nat.zero_add,cell_of_row _ _ j _ _ _ hrow]
    exact hat j hj
  ·exact ⟨rfl,rfl,rfl,by simp,fun k hk _=>heap_alloc_old w.drew _ hk⟩
end Go.Proofs.YtgebkmpmnjhceaaGreatDoor.Sh
namespace Go.Proofs.YtgebkmpmnjhceaaGreatDoor.U
open Go.RowKit Go.Maps
structure MayIs (N:Nat) (w:World) (B q:Nat) (G:Nat->Prop) (P:Nat->Prop) (may:Nat->List Sh.Bs) (g off c:Nat->Nat):Prop where
 small:∀k,P k->k<N
 low:B<=q
 lt:q<w.heap.size
 there:∀k,k<N->(w.cell? ⟨q,k,none⟩).isSome=true
 free:∀k,k<N->w.frozen? ⟨q,k,none⟩=false
 cells:∀k,P k->w.cell? ⟨q,k,none⟩=some (.slice (some ⟨g k,off k,none⟩) (may k).length (c k))
 mid:∀k,P k->Sh.Mids w (g k) (off k) (may k).length (c k) (may k)
 glow:∀k,P k->B<=g k
 gne:∀k,P k->g k≠q
 inj:∀i j,P i->P j->g i=g j->i=j
 outq:¬G q
 outg:∀k,P k->¬G (g k)
def May (N:Nat) (w:World) (B q:Nat) (G:Nat->Prop) (P:Nat->Prop) (may:Nat->List Sh.Bs):Prop:=∃g off c,MayIs N w B q G P may g off c
section
variable {N:Nat} {w w':World} {B q:Nat} {G G' P P':Nat->Prop} {may:Nat->List Sh.Bs} {g off c:Nat->Nat}
theorem MayIs.same (h:MayIs N w B q G P may g off c) (hP:∀k,P' k->P k) (hq:w'.heap[q]?=w.heap[q]?) (hg:∀k,P' k->w'.heap[g k]?=w.heap[g k]?) (hs:w.heap.size<=w'.heap.size) (hG:∀b,G' b->G b\/w.heap.size<=b):MayIs N w' B q G' P' may g off c:=by
 refine ⟨fun k hk=>h.small k (hP k hk),h.low,Nat.lt_of_lt_of_le h.lt hs,fun k hk=>by rw [World.cell?_of_block (w:=w) hq];exact h.there k hk,fun k hk=>by rw [World.frozen?_of_block (w:=w) hq];exact h.free k hk,fun k hk=>by rw [World.cell?_of_block (w:=w) hq];exact h.cells k (hP k hk),fun k hk=>(h.mid k (hP k hk)).same (hg k hk) hs,fun k hk=>h.glow k (hP k hk),fun k hk=>h.gne k (hP k hk),fun i j hi hj=>h.inj i j (hP i hi) (hP j hj),fun e=>?_,fun k hk e=>?_⟩
 ·rcases hG q e with e | e
  ·exact h.outq e
  ·exact Nat.lt_irrefl _ (Nat.lt_of_lt_of_le h.lt e)
 ·rcases hG _ e with e | e
  ·exact h.outg k (hP k hk) e
  ·exact Nat.lt_irrefl _ (Nat.lt_of_lt_of_le (h.mid k (hP k hk)).lt e)
theorem MayIs.moves (h:MayIs N w B q G P may g off c) (m:Sh.Moves G w G' w'):MayIs N w' B q G' P may g off c :=
 h.same (fun _ hk=>hk) (m.1.block q h.lt h.outq) (fun k hk=>m.1.block _ (h.mid k hk).lt (h.outg k hk)) m.1.size m.2
theorem MayIs.grown (h:MayIs N w B q G P may g off c) (hb:Below w.heap.size w w'):MayIs N w' B q G P may g off c :=
 h.same (fun _ hk=>hk) (hb.block q h.lt) (fun k hk=>hb.block _ (h.mid k hk).lt) hb.size (fun _ e=>.inl e)
theorem MayIs.put (h:MayIs N w B q G P may g off c) {k g' off' c':Nat} {l:List Sh.Bs} (hk:k<N) (hm:Sh.Mids w g' off' l.length c' l) (hlow:B<=g') (hne:g'≠q) (hap:∀j,P j->j≠k->g j≠g') (hout:¬G g') (hP:∀j,P' j->P j\/j=k) :
  May N (w.setCell ⟨q,k,none⟩ (.slice (some ⟨g',off',none⟩) l.length c')) B q G P' (fun j=>if j=k then l else may j):=by
 have hb:∀x,x≠q->(w.setCell ⟨q,k,none⟩ (.slice (some ⟨g',off',none⟩) l.length c')).heap[x]?=w.heap[x]?:=fun x hx=>heap_setCell_other w ⟨q,k,none⟩ x _ hx
 have hsz:w.heap.size<=(w.setCell ⟨q,k,none⟩ (.slice (some ⟨g',off',none⟩) l.length c')).heap.size:=by simp
 have hself:(w.setCell ⟨q,k,none⟩ (.slice (some ⟨g',off',none⟩) l.length c')).cell? ⟨q,k,none⟩=some (.slice (some ⟨g',off',none⟩) l.length c'):=World.cell?_setCell_same' _ _ _ (h.there k hk)
 have hoth:∀j,j≠k->(w.setCell ⟨q,k,none⟩ (.slice (some ⟨g',off',none⟩) l.length c')).cell? ⟨q,j,none⟩=w.cell? ⟨q,j,none⟩:=fun j hj=>World.cell?_setCell_other _ _ _ _ (fun e=>hj (by injection e with _ e _;exact e.symm))
 refine ⟨fun j=>if j=k then g' else g j,fun j=>if j=k then off' else off j,fun j=>if j=k then c' else c j,fun j hj=>?_,h.low,Nat.lt_of_lt_of_le h.lt hsz,fun j hj=>?_,fun j hj=>?_,fun j hj=>?_,fun j hj=>?_,fun j hj=>?_,fun j hj=>?_,fun i j hi hj e=>?_,h.outq,fun j hj=>?_⟩
 ·rcases hP j hj with h1 | h1
  ·exact h.small j h1
  ·omega
 ·by_cases e:j=k
  ·rw [e,hself];rfl
  ·rw [hoth j e];exact h.there j hj
 ·rw [World.frozen?_setCell];exact h.free j hj
 ·by_cases e:j=k
  ·subst e;rw [hself];simp
  ·rw [hoth j e];simp only [e,if_false];exact h.cells j ((hP j hj).resolve_right e)
 ·by_cases e:j=k
  ·subst e;simp only [if_true];exact hm.same (hb _ hne) hsz
  ·simp only [e,if_false]
   have h1:=(hP j hj).resolve_right e
   exact (h.mid j h1).same (hb _ (h.gne j h1)) hsz
 ·by_cases e:j=k
  ·simp only [e,if_true];exact hlow
  ·simp only [e,if_false];exact h.glow j ((hP j hj).resolve_right e)
 ·by_cases e:j=k
  ·simp only [e,if_true];exact hne
  ·simp only [e,if_false];exact h.gne j ((hP j hj).resolve_right e)
 ·by_cases e1:i=k<;>by_cases e2:j=k
  ·rw [e1,e2]
  ·simp only [e1,e2,if_true,if_false] at e
   exact absurd e.symm (hap j ((hP j hj).resolve_right e2) e2)
  ·simp only [e1,e2,if_true,if_false] at e
   exact absurd e (hap i ((hP i hi).resolve_right e1) e1)
  ·simp only [e1,e2,if_false] at e
   exact h.inj i j ((hP i hi).resolve_right e1) ((hP j hj).resolve_right e2) e
 ·by_cases e:j=k
  ·simp only [e,if_true];exact hout
  ·simp only [e,if_false];exact h.outg j ((hP j hj).resolve_right e)
theorem MayIs.append (h:MayIs N w B q G P may g off c) {k g' off' c':Nat} {b:Sh.Bs} (hk:P k) (hg:w.grownBy w' (some (g k))) (hm:Sh.Mids w' g' off' ((may k).length+1) c' (may k++[b])) (ho:g'=g k\/g'=w.heap.size) (hB:B<=w.heap.size) (hG:∀b,G b->b<w.heap.size) :
  May N (w'.setCell ⟨q,k,none⟩ (.slice (some ⟨g',off',none⟩) ((may k).length+1) c')) B q G P (fun j=>if j=k then may j++[b] else may j):=by
 have hb:∀x,x<w.heap.size->x≠g k->w'.heap[x]?=w.heap[x]?:=fun x hx hn=>hg.block x hx (fun e=>hn (by injection e))
 have h1:MayIs N w' B q G (fun j=>P j/\j≠k) may g off c:=h.same (fun _ hj=>hj.1) (hb q h.lt (Ne.symm (h.gne k hk))) (fun j hj=>hb _ (h.mid j hj.1).lt (fun e=>hj.2 (h.inj j k hj.1 hk e))) hg.size (fun _ e=>.inl e)
 have e:(fun j=>if j=k then may j++[b] else may j)=(fun j=>if j=k then may k++[b] else may j):=by
  funext j
  by_cases e:j=k
  ·rw [if_pos e,if_pos e,e]
  ·rw [if_neg e,if_neg e]
 rw [e]
 have hl:(may k).length+1=(may k++[b]).length:=by simp
 rw [hl] at hm ⊢
 refine h1.put (h.small k hk) hm ?_ ?_ ?_ ?_ (fun j hj=>?_)
 ·rcases ho with e | e
  ·rw [e];exact h.glow k hk
  ·rw [e];exact hB
 ·rcases ho with e | e
  ·rw [e];exact h.gne k hk
  ·rw [e];exact Nat.ne_of_gt h.lt
 ·intro j hj hjk e2
  rcases ho with e | e
  ·exact hjk (h.inj j k hj.1 hk (e2.trans e))
  ·have:=(h.mid j hj.1).lt
   omega
 ·intro hG'
  rcases ho with e | e
  ·exact h.outg k hk (e▸hG')
  ·have:=hG _ hG';omega
 ·by_cases e:j=k
  ·exact .inr e
  ·exact .inl ⟨hj,e⟩
end
end Go.Proofs.YtgebkmpmnjhceaaGreatDoor.U
namespace Go.Proofs.YtgebkmpmnjhceaaGreatDoor.Sh
open Go.ChangeShapes Go.WideShapes Go.ChangeAt Go.RowKit Go.Maps
section
variable {H:Type} {enc:TypeId × Value->H} {W:World}
theorem cellsInt:Tryz.prog.cellsOf 3=1:=by kernel_rfl
theorem cellsInts:Tryz.prog.cellsOf 24=1:=by kernel_rfl
theorem cells_get {base n:Nat} {a:Addr} {xs:List Value} (h:W.cells? base a n=some xs):xs.length=n/\∀k,k<n->∃v,xs[k]?=some v/\W.cell? (a.add k)=some v:=by
 unfold World.cells? at h
 split at h
 ·have hl:xs.length=n:=by simpa using mapM_some_length h
  refine ⟨hl,fun k hk=>?_⟩
  have:=mapM_some_get h k k (by simp [hk])
  rw [List.getElem?_eq_getElem (by omega)] at this
  exact ⟨_,List.getElem?_eq_getElem (by omega),this⟩
 ·cases h
theorem int_of {m:Nat} {v:Value} {y:DataW H × List MemPlace} (h:DataW.trod enc Tryz.prog W 0 (fun _=>true) true m 3 [v]=some y):∃z:Int,v=.int .i64 z/\-9223372036854775808<=z/\z<=9223372036854775807:=by
 cases m with
 | zero=>simp [DataW.trod] at h
 | succ m =>
  simp only [DataW.trod,Tryz.underlying3] at h
  cases v<;>simp at h
  rename_i k b
  obtain ⟨⟨rfl,hw⟩,_⟩:=h
  exact ⟨b,rfl,bounds_i64 hw⟩
theorem u8_of {m:Nat} {v:Value} {y:DataW H × List MemPlace} (h:DataW.trod enc Tryz.prog W 0 (fun _=>true) true m 5 [v]=some y):∃z:Nat,v=.int .u8 (z:Int)/\z<256:=by
 cases m with
 | zero=>simp [DataW.trod] at h
 | succ m =>
  simp only [DataW.trod,Tryz.underlying5] at h
  cases v<;>simp at h
  rename_i k b
  obtain ⟨⟨rfl,hw⟩,_⟩:=h
  have:=bounds_u8 hw
  exact ⟨b.toNat,by rw [Int.toNat_of_nonneg this.1],by omega⟩
theorem each_in {t e:TypeId} {fuel n c:Nat} {A:Option Addr} {x:DataW H × List MemPlace} (ht:Tryz.prog.underlying t=some (.slice e)) (hc:Tryz.prog.cellsOf e=1)
  (h:DataW.trod enc Tryz.prog W 0 (fun _=>true) true fuel t [.slice A n c]=some x) :
  (A=none/\n=0)\/∃(ad:Addr) (m:Nat),A=some ad/\n<=9223372036854775807/\∀i,i<n->∃v y,W.cell? (ad.add i)=some v/\DataW.trod enc Tryz.prog W 0 (fun _=>true) true m e [v]=some y:=by
 rcases DataW.trod_slice ht h with ⟨h0,hx⟩ | ⟨a,len,cap,elems,rest,m,_,h0,hx,_,hl,hm,hlen,hel,_⟩
 ·simp only [List.cons.injEq,Value.slice.injEq,and_true] at h0
  obtain ⟨rfl,rfl,rfl⟩:=h0
  exact .inl ⟨rfl,rfl⟩
 ·simp only [List.cons.injEq,Value.slice.injEq,and_true] at h0
  obtain ⟨rfl,rfl,rfl⟩:=h0
  refine .inr ⟨a,m,rfl,by unfold maxLen at hm;omega,fun i hi=>?_⟩
  have h1:=hel i hi
  rw [hc,Nat.mul_one,List.getElem?_eq_getElem (by omega),Option.bind_eq_some_iff] at h1
  obtain ⟨cs,hcs,hy⟩:=h1
  obtain ⟨hl1,hg⟩:=cells_get hcs
  obtain ⟨v,hv,hcv⟩:=hg 0 (by decide)
  have e:cs=[v]:=by
   match cs,hl1,hv with
   | [u],_,hv=>simpa using hv
  subst e
  have e2:(a.add i).add 0=a.add i:=by unfold Addr.add;simp
  rw [e2] at hcv
  exact ⟨v,_,hcv,hy⟩
theorem ints_in {fuel n c:Nat} {A:Option Addr} {x:DataW H × List MemPlace} (h:DataW.trod enc Tryz.prog W 0 (fun _=>true) true fuel 24 [.slice A n c]=some x) :
  ∃l:List Int,n<=9223372036854775807/\Reads W W.heap.size A n (ints l)/\(0<n->∀a,A=some a->a.block<W.heap.size):=by
 rcases each_in Tryz.underlying24 cellsInt h with ⟨rfl,rfl⟩ | ⟨ad,m,rfl,hn,hel⟩
 ·exact ⟨[],by decide,Reads.none_,fun h=>absurd h (by decide)⟩
 ·have hz:∀i,∃z:Int,i<n->W.cell? (ad.add i)=some (.int .i64 z):=by
   intro i
   by_cases hi:i<n
   ·obtain ⟨v,y,hv,hy⟩:=hel i hi
    obtain ⟨z,rfl,_⟩:=int_of hy
    exact ⟨z,fun _=>hv⟩
   ·exact ⟨0,fun h=>absurd h hi⟩
  obtain ⟨f,hf⟩:=Classical.axiomOfChoice hz
  have hb:0<n->ad.block<W.heap.size:=fun h0=>by
   have:=World.block_lt_of_cell? W _ (hf 0 h0)
   rwa [block_of_add] at this
  refine ⟨(List.range n).map f,hn,⟨by simp [ints],fun h0=>⟨ad,rfl,hb h0,fun j u hu=>?_⟩⟩,fun h0 a ha=>by injection ha with ha;subst ha;exact hb h0⟩
  have hj:j<n:=by
   rcases Nat.lt_or_ge j n with h | h
   ·exact h
   ·rw [List.getElem?_eq_none (by simpa [ints] using h)] at hu;cases hu
  rw [hf j hj,<- hu]
  simp [ints,hj]
theorem keep_in {fuel n c:Nat} {A:Option Addr} {x:DataW H × List MemPlace} (h:DataW.trod enc Tryz.prog W 0 (fun _=>true) true fuel 29 [.slice A n c]=some x) :
  ∃ks:List (List Int),n<=9223372036854775807/\KeepIs W (Old W) A n ks:=by
 rcases each_in Tryz.underlying29 cellsInts h with ⟨rfl,rfl⟩ | ⟨ad,m,rfl,hn,hel⟩
 ·exact ⟨[],by decide,rfl,fun h=>absurd h (by decide)⟩
 ·have hz:∀i,∃l:List Int,i<n->∃A' m c,W.cell? (ad.add i)=some (.slice A' m c)/\m<=9223372036854775807/\Reads W W.heap.size A' m (ints l)/\(0<m->∀a',A'=some a'->Old W a'.block):=by
   intro i
   by_cases hi:i<n
   ·obtain ⟨v,y,hv,hy⟩:=hel i hi
    obtain ⟨A',n',c',rfl⟩:∃A' n' c',v=.slice A' n' c':=by
     rcases DataW.trod_slice Tryz.underlying24 hy with ⟨h0,_⟩ | ⟨a,len,cap,_,_,_,_,h0,_⟩
     ·simp only [List.cons.injEq,and_true] at h0;exact ⟨_,_,_,h0⟩
     ·simp only [List.cons.injEq,and_true] at h0;exact ⟨_,_,_,h0⟩
    obtain ⟨l,h1,h2,h3⟩:=ints_in hy
    exact ⟨l,fun _=>⟨A',n',c',hv,h1,h2,h3⟩⟩
   ·exact ⟨[],fun h=>absurd h hi⟩
  obtain ⟨f,hf⟩:=Classical.axiomOfChoice hz
  refine ⟨(List.range n).map f,hn,by simp,fun h0=>⟨ad,rfl,?_,fun j hj=>?_⟩⟩
  ·obtain ⟨_,_,_,h1,_⟩:=hf 0 h0
   have:=World.block_lt_of_cell? W _ h1
   rwa [block_of_add] at this
  ·have e:((List.range n).map f).getD j []=f j:=by simp [List.getD,hj]
   rw [e]
   exact hf j hj
theorem cellsOp8:Tryz.prog.cellsOf 31=5:=by kernel_rfl
structure Op8 where
 kind:Int
 n:Int
 at_:Int
 x:Nat
 A:Option Addr
 m:Nat
 c:Nat
 ks:List (List Int)
def I64 (z:Int):Prop:=-9223372036854775808<=z/\z<=9223372036854775807
structure Op8Is (W:World) (b o:Nat) (v:Op8):Prop where
 c0:W.cell? ⟨b,o,none⟩=some (.int .i64 v.kind)
 c1:W.cell? ⟨b,o+1,none⟩=some (.int .i64 v.n)
 c2:W.cell? ⟨b,o+2,none⟩=some (.int .i64 v.at_)
 c3:W.cell? ⟨b,o+3,none⟩=some (.int .u8 (v.x:Int))
 c4:W.cell? ⟨b,o+4,none⟩=some (.slice v.A v.m v.c)
 b0:I64 v.kind
 b1:I64 v.n
 b2:I64 v.at_
 b3:v.x<256
 b4:v.m<=9223372036854775807
 keep:KeepIs W (Old W) v.A v.m v.ks
def Ops8 (W:World) (A:Option Addr) (n:Nat) (f:Nat->Op8):Prop:=n<=9223372036854775807/\(0<n->∃b off,A=some ⟨b,off,none⟩/\b<W.heap.size/\∀i,i<n->Op8Is W b (off+i*5) (f i))
set_option maxRecDepth 20000 in
theorem op_in {b o m:Nat} {cs:List Value} {y:DataW H × List MemPlace} (hl:cs.length=5) (hc:∀k,k<5->∃v,cs[k]?=some v/\W.cell? ⟨b,o+k,none⟩=some v) (h:DataW.trod enc Tryz.prog W 0 (fun _=>true) true m 31 cs=some y):∃v:Op8,Op8Is W b o v:=by
 obtain ⟨xs,k,rfl,_,_,hxs,hf⟩:=DataW.trod_struct Tryz.underlying31 h
 match cs,hl with
 | [v0,v1,v2,v3,v4],_ =>
  have hs:xs.length=5:=hxs
  have g:∀i,i<5->∃z,xs[i]?=some z:=fun i hi=>⟨_,List.getElem?_eq_getElem (by omega)⟩
  have f0:=hf 0 _ rfl
  have f1:=hf 1 _ rfl
  have f2:=hf 2 _ rfl
  have f3:=hf 3 _ rfl
  have f4:=hf 4 _ rfl
  obtain ⟨z0,e0⟩:=g 0 (by decide)
  obtain ⟨z1,e1⟩:=g 1 (by decide)
  obtain ⟨z2,e2⟩:=g 2 (by decide)
  obtain ⟨z3,e3⟩:=g 3 (by decide)
  obtain ⟨z4,e4⟩:=g 4 (by decide)
  rw [e0] at f0
  rw [e1] at f1
  rw [e2] at f2
  rw [e3] at f3
  rw [e4] at f4
  obtain ⟨kind,rfl,a0,a0'⟩:=int_of (v:=v0) (show DataW.trod enc Tryz.prog W 0 (fun _=>true) true k 3 [v0]=some z0 from f0)
  obtain ⟨n,rfl,a1,a1'⟩:=int_of (v:=v1) (show DataW.trod enc Tryz.prog W 0 (fun _=>true) true k 3 [v1]=some z1 from f1)
  obtain ⟨at_,rfl,a2,a2'⟩:=int_of (v:=v2) (show DataW.trod enc Tryz.prog W 0 (fun _=>true) true k 3 [v2]=some z2 from f2)
  obtain ⟨x,rfl,a3⟩:=u8_of (v:=v3) (show DataW.trod enc Tryz.prog W 0 (fun _=>true) true k 5 [v3]=some z3 from f3)
  have g4:=show DataW.trod enc Tryz.prog W 0 (fun _=>true) true k 29 [v4]=some z4 from f4
  obtain ⟨A',n',c',rfl⟩:∃A' n' c',v4=.slice A' n' c':=by
   rcases DataW.trod_slice Tryz.underlying29 g4 with ⟨h0,_⟩ | ⟨a,len,cap,_,_,_,_,h0,_⟩
   ·simp only [List.cons.injEq,and_true] at h0;exact ⟨_,_,_,h0⟩
   ·simp only [List.cons.injEq,and_true] at h0;exact ⟨_,_,_,h0⟩
  obtain ⟨ks,h1,h2⟩:=keep_in g4
  have cc:∀k,k<5->∀u,[Value.int .i64 kind,.int .i64 n,.int .i64 at_,.int .u8 (x:Int),.slice A' n' c'][k]?=some u->W.cell? ⟨b,o+k,none⟩=some u:=fun k hk u hu=>by
   obtain ⟨v,hv,hcv⟩:=hc k hk
   rw [hu] at hv
   injection hv with hv
   rw [hv];exact hcv
  exact ⟨⟨kind,n,at_,x,A',n',c',ks⟩,cc 0 (by decide) _ rfl,cc 1 (by decide) _ rfl,cc 2 (by decide) _ rfl,cc 3 (by decide) _ rfl,cc 4 (by decide) _ rfl,⟨a0,a0'⟩,⟨a1,a1'⟩,⟨a2,a2'⟩,a3,h1,h2⟩
theorem ops_in {fuel n c:Nat} {A:Option Addr} {x:DataW H × List MemPlace} (h:DataW.trod enc Tryz.prog W 0 (fun _=>true) true fuel 22 [.slice A n c]=some x):∃f,Ops8 W A n f:=by
 rcases DataW.trod_slice Tryz.underlying22 h with ⟨h0,hx⟩ | ⟨a,len,cap,elems,rest,m,_,h0,hx,_,hl,hm,hlen,hel,_⟩
 ·simp only [List.cons.injEq,Value.slice.injEq,and_true] at h0
  obtain ⟨rfl,rfl,rfl⟩:=h0
  exact ⟨fun _=>⟨0,0,0,0,none,0,0,[]⟩,by decide,fun h=>absurd h (by decide)⟩
 ·simp only [List.cons.injEq,Value.slice.injEq,and_true] at h0
  obtain ⟨rfl,rfl,rfl⟩:=h0
  have hcs:∀i,i<n->∃cs y,cs.length=5/\(∀k,k<5->∃v,cs[k]?=some v/\W.cell? ((a.add (i*5)).add k)=some v)/\DataW.trod enc Tryz.prog W 0 (fun _=>true) true m 31 cs=some y:=by
   intro i hi
   have h1:=hel i hi
   rw [cellsOp8,List.getElem?_eq_getElem (by omega),Option.bind_eq_some_iff] at h1
   obtain ⟨cs,hcs,hy⟩:=h1
   obtain ⟨hl1,hg⟩:=cells_get hcs
   exact ⟨cs,_,hl1,hg,hy⟩
  rcases Nat.eq_zero_or_pos n with h0 | h0
  ·exact ⟨fun _=>⟨0,0,0,0,none,0,0,[]⟩,by unfold maxLen at hm;omega,fun h=>by omega⟩
  ·obtain ⟨b,off,spot⟩:=a
   obtain ⟨cs,y,_,hg,_⟩:=hcs 0 h0
   obtain ⟨v,_,hv⟩:=hg 0 (by decide)
   have hspot:spot=none:=by simpa [Addr.add] using World.cell?_spot hv
   subst hspot
   have hblt:=World.block_lt_of_cell? W _ hv
   rw [block_of_add,block_of_add] at hblt
   have hz:∀i,∃v:Op8,i<n->Op8Is W b (off+i*5) v:=by
    intro i
    by_cases hi:i<n
    ·obtain ⟨cs,y,hl5,hg,hy⟩:=hcs i hi
     obtain ⟨v,hv⟩:=op_in (b:=b) (o:=off+i*5) hl5 (fun k hk=>by
      obtain ⟨v,h1,h2⟩:=hg k hk
      rw [add_of_add,add_plain,<- Nat.add_assoc] at h2
      exact ⟨v,h1,h2⟩) hy
     exact ⟨v,fun _=>hv⟩
    ·exact ⟨⟨0,0,0,0,none,0,0,[]⟩,fun h=>absurd h hi⟩
   obtain ⟨f,hf⟩:=Classical.axiomOfChoice hz
   exact ⟨f,by unfold maxLen at hm;omega,fun _=>⟨b,off,rfl,hblt,hf⟩⟩
end
end Go.Proofs.YtgebkmpmnjhceaaGreatDoor.Sh
namespace Go.Proofs.YtgebkmpmnjhceaaGreatDoor.U
open Go.RowKit Go.Maps
def MayOk (A:Ar) (g:Gh) (may:Nat->List Sh.Bs):Prop :=
 ∀m,m<A.St*(A.M-1)->g.dat (stOf A.M m) (meOf A.M m)∈may m/\∀old,g.op (stOf A.M m)=some (meOf A.M m,old)->old∈may m
def LastOk (A:Ar) (g:Gh) (may:Nat->List Sh.Bs):Prop:=∀m,m<A.St*(A.M-1)->may m≠[]/\(may m).getD ((may m).length-1) []=g.dat (stOf A.M m) (meOf A.M m)
structure Inv (A:Ar) (S:Sh.Sf) (o:Nat->Int) (g:Gh) (D U:Set0) (may:Nat->List Sh.Bs) (kd:Bool):Prop where
 ci:Ci A S o g
 said:Said A
 ld:Ld A S g
 kds:kd=false->∀st m,¬g.lack st m
 mays:MayOk A g may
 on:S.off=false->Oi A S o g D U
section
variable {A:Ar} {S S':Sh.Sf} {o:Nat->Int} {g g':Gh} {D U D' U':Set0} {may:Nat->List Sh.Bs} {kd:Bool} {y:Int} {x X:Sh.Bs} {t e:Stt} {m:Nat}
theorem me_inj {M a b:Nat} (h3:3<=M) (h1:stOf M a=stOf M b) (h2:meOf M a=meOf M b):a=b:=by
 obtain ⟨a1,a2,a3,_⟩:=me_ok (M:=M) (m:=a) h3
 obtain ⟨b1,b2,b3,_⟩:=me_ok (M:=M) (m:=b) h3
 rw [h1,h2,b3] at a3
 have e1:b%(M-1)=a%(M-1):=a3
 have e2:a / (M-1)=b / (M-1):=h1
 have:=Nat.div_add_mod a (M-1)
 have:=Nat.div_add_mod b (M-1)
 rw [e1,<- e2] at this
 omega
def pushM (may:Nat->List Sh.Bs) (m:Nat) (x:Sh.Bs):Nat->List Sh.Bs:=fun j=>if j=m then may j++[x] else may j
theorem MayOk.gle (h:MayOk A g may) (k:Gle g' g):MayOk A g' may:=fun j hj=>⟨by rw [k.dat];exact (h j hj).1,fun old ho=>(h j hj).2 old (k.op _ _ ho)⟩
theorem MayOk.gw (h:MayOk A g may) (h3:3<=A.M) (k:Gw A.M g' g (stOf A.M m) (meOf A.M m) x):MayOk A g' (pushM may m x):=fun j hj=>by
 obtain ⟨h1,h2⟩:=h j hj
 by_cases e:j=m
 ·subst e
  unfold pushM
  rw [if_pos rfl]
  refine ⟨by rw [k.dat];exact List.mem_append_right _ (List.mem_singleton.2 rfl),fun old ho=>?_⟩
  rw [(k.opst _ _ ho).2]
  exact List.mem_append_left _ h1
 ·unfold pushM
  rw [if_neg e]
  have hne:=(me_ok (M:=A.M) (m:=j) h3).2.1
  by_cases c:stOf A.M j=stOf A.M m
  ·have hm:meOf A.M j≠meOf A.M m:=fun e2=>e (me_inj h3 c e2)
   refine ⟨?_,fun old ho=>?_⟩
   ·rw [k.rest _ _ fun q=>q.2.elim hm fun q=>hne (by rw [q,c])];exact h1
   ·rw [c] at ho
    exact absurd (k.opst _ _ ho).1 hm
  ·refine ⟨?_,fun old ho=>h2 old (k.op _ c _ ho)⟩
   rw [k.rest _ _ fun q=>c q.1];exact h1
end
theorem isMap_set {w:World} {k:TypeId} {b:Nat} {D:Set0} (h:SetIs w k b D):IsMap D:=by
 obtain ⟨es,_,_,_,_,rfl⟩:=h
 exact ⟨_,rfl⟩
section
variable {A:Ar} {S S':Sh.Sf} {o:Nat->Int} {g g':Gh} {D U D' U':Set0} {may:Nat->List Sh.Bs} {kd:Bool} {y:Int} {x X:Sh.Bs} {t e:Stt} {m:Nat}
theorem write_off {nn LL M St:Nat} {s:SuP} {n:Int} (hoff:S.off≠false) (hn:0<=n/\n<((St*(M-1):Nat):Int)) (hW:WrR nn LL s M St n x D U S o y e D' U'):y=3/\e=⟨S,o⟩/\D'=D/\U'=U:=by
 cases hW with
 | refused h0 =>
  refine ⟨?_,rfl,rfl,rfl⟩
  unfold refY hasB
  rw [decide_eq_true hn]
  have:S.off=true:=by simpa using hoff
  rw [this]
  rfl
 | flush m y t D1 U1 e1 e2 e3=>exact absurd e3 hoff
 | after m t D1 U1 y e D' U' e1 e2 e3=>exact absurd e3 hoff
 | first m y e D' U' e1 e2 e3=>exact absurd e3 hoff
theorem Oi.stop (h:Oi A S o g D U) (n:Int) (hon:(S.doStop n).off=false):Oi A (S.doStop n) o g D U:=by
 have hv:∀d k,seen (S.doStop n) d k=seen S d k:=fun d k=>by
  by_cases hd:Dead S d=true
  ·rw [seen_dead hd,seen_dead ((dead_stop S n d).trans hd)]
  ·have hd:Dead S d=false:=by simpa using hd
   rw [seen_alive hd h.fi.on,seen_alive ((dead_stop S n d).trans hd) hon,vo_stop]
 exact ⟨⟨h.fi.ci.stop n,hon,fun st hst m hm=>by rw [hv];exact h.fi.now st hst m hm,h.fi.used⟩,h.opens,h.slots⟩
theorem stop_on {S:Sh.Sf} {n:Int} (h:(S.doStop n).off=false):S.off=false:=by
 unfold Sh.Sf.doStop at h
 by_cases e:S.off=true
 ·rw [if_pos e] at h
  exact h
 ·simpa using e
/-! ### a crash -/
end
section
variable {S:Sh.Sf} {o:Nat->Int} {D U D' U':Set0} {y:Int} {x X:Sh.Bs} {t e:Stt} {m:Nat}
theorem waits_same {S T:Sh.Sf} (h:Same S T) (hL:∀x∈S.disks,x.waits.length<=m):∀x∈T.disks,x.waits.length<=m:=by rw [h.disks];exact hL
theorem waits_more {T:Sh.Sf} {a b:Nat} (hab:a<=b) (hL:∀x∈T.disks,x.waits.length<=a):∀x∈T.disks,x.waits.length<=b:=fun x hx=>Nat.le_trans (hL x hx) hab
theorem RdT.waits {s:SuP} {M k st me:Nat} (h:RdT s M k st me S o y X t) (hL:∀x∈S.disks,x.waits.length<=m):∀x∈t.S.disks,x.waits.length<=m+3:=by
 have hs:Same S (shouldR s M k st me S).1:=((Same.refl S).looked _).trans (tog_same M)
 cases h with
 | plain _=>exact waits_more (Nat.le_add_right _ _) (waits_same ((Same.refl S).looked _) hL)
 | lack _ _=>exact waits_more (Nat.le_add_right _ _) (waits_same hs hL)
 | dead _ _=>exact waits_more (Nat.le_add_right _ _) (waits_same hs hL)
 | bad z x S2 _ _ hD _=>exact hD.waits (waits_same hs hL)
 | mend x S2 _ _ hD=>exact hD.waits (waits_same hs hL)
theorem RdR.waits {LL M St:Nat} {s:SuP} {n:Int} (h:RdR LL s M St n S o y X t) (hL:∀x∈S.disks,x.waits.length<=m):∀x∈t.S.disks,x.waits.length<=m+3:=by
 cases h with
 | refused _=>exact waits_more (Nat.le_add_right _ _) hL
 | there m' y X t _ _ _ hT=>exact hT.waits hL
theorem WrT.waits {nn LL M k st a pl b:Nat} {s:SuP} (hn:nn<=17) (h8:LL<=8) (h:WrT nn LL s M k st a pl b x D U t y e D' U') (hL:∀x∈t.S.disks,x.waits.length<=m):∀x∈e.S.disks,x.waits.length<=m+500:=by
 cases h with
 | io=>exact waits_more (by omega) hL
 | data y z S2 _ _ hw=>exact waits_more (by omega) (hw.waits hL)
 | par y e D' U' _ _ hw =>
  cases hw with
  | lack=>exact waits_more (by omega) (waits_same (tog_same M) hL)
  | done y z S2 _ hw=>exact waits_more (by omega) (hw.waits (waits_same (tog_same M) hL))
 | both y e D' U' _ _ hw =>
  cases hw with
  | lack=>exact waits_more (by omega) (waits_same partR_same hL)
  | recd y a1 D1 U1 _ hr _ =>
   have:=hr.waits hn h8 (m:=m) (waits_same (T:=(partR s M k st a b t.S).1) partR_same hL)
   exact waits_more (by omega) this
  | data y a1 D1 U1 z S2 _ hr hw _ =>
   have:=hw.waits (hr.waits hn h8 (m:=m) (waits_same (T:=(partR s M k st a b t.S).1) partR_same hL))
   exact waits_more (by omega) this
  | both y a1 D1 U1 z z3 S2 S3 _ hr hw hw2 =>
   have:=hw2.waits (hw.waits (hr.waits hn h8 (m:=m) (waits_same (T:=(partR s M k st a b t.S).1) partR_same hL)))
   exact waits_more (by omega) this
theorem WrR.waits {nn LL M St:Nat} {s:SuP} {n:Int} (hn:nn<=17) (h8:LL<=8) (h:WrR nn LL s M St n x D U S o y e D' U') (hL:∀x∈S.disks,x.waits.length<=m):∀x∈e.S.disks,x.waits.length<=m+1000:=by
 cases h with
 | refused=>exact waits_more (by omega) hL
 | flush _ _ _ _ _ _ _ _ _ hf=>exact waits_more (by omega) (hf.waits hn h8 hL)
 | after _ t _ _ _ _ _ _ _ _ _ _ hf hw =>
  have:=WrT.waits hn h8 hw (hf.waits hn h8 hL)
  exact waits_more (by omega) this
 | first _ _ _ _ _ _ _ _ _ hw=>exact waits_more (by omega) (WrT.waits (t:=⟨S,o⟩) hn h8 hw hL)
theorem tidy_puti (h:Tidy D) (k:Nat):Tidy (D.put (.int .i64 (k:Int)) one0)/\Maps.size (D.put (.int .i64 (k:Int)) one0)<=Maps.size D+1 :=
 ⟨h.put (show WideAt.IsKeyLit (.int .i64 (k:Int)) from trivial) _,by rw [Maps.size_put h];split<;>omega⟩
theorem FlR.opensOf {n L:Nat} {b:Stt} (h:FlR n L D U S y b D' U'):D'=D\/D'=noSet:=by
 cases h with
 | first o' h=>exact .inl rfl
 | slots o1 y b h1 h2 h3 h4=>exact .inl rfl
 | again o1 o' b h1 h2 h3 h4=>exact .inl rfl
 | none o' h1 h2=>exact .inr rfl
 | all o1 o' b h1 h2 h3 h4=>exact .inr rfl
theorem tidy_of {D1:Set0} (h:D1=D\/D1=noSet) (hD:Tidy D/\Maps.size D<=m):Tidy D1/\Maps.size D1<=m:=by
 rcases h with rfl | rfl
 ·exact hD
 ·exact ⟨tidy_empty,Nat.zero_le _⟩
theorem RecR.opensOf {n L d:Nat} {l hd:Sh.Bs} {a b:Stt} (h:RecR n L d l hd a D U y b D' U'):D'=D\/D'=noSet:=by
 rcases h with ⟨_,rfl,_⟩ | ⟨_,y1,a1,D1,U1,h1,⟨_,_,_,rfl,_⟩ | ⟨_,rfl,_⟩⟩
 ·exact .inl rfl
 ·exact h1.opensOf
 ·exact h1.opensOf
theorem tidy_more {D:Set0} {a b:Nat} (hab:a<=b) (h:Tidy D/\Maps.size D<=a):Tidy D/\Maps.size D<=b:=⟨h.1,Nat.le_trans h.2 hab⟩
theorem tidy_put1 (k:Nat) (h:Tidy D/\Maps.size D<=m):Tidy (D.put (.int .i64 (k:Int)) one0)/\Maps.size (D.put (.int .i64 (k:Int)) one0)<=m+1:=by
 obtain ⟨h1,h2⟩:=tidy_puti h.1 k
 exact ⟨h1,Nat.le_trans h2 (Nat.succ_le_succ h.2)⟩
theorem WrT.opensOf {nn LL M k st a pl b:Nat} {s:SuP} (h:WrT nn LL s M k st a pl b x D U t y e D' U') (hD:Tidy D/\Maps.size D<=m):Tidy D'/\Maps.size D'<=m+2:=by
 cases h with
 | io=>exact tidy_more (by omega) hD
 | data=>first
  | exact tidy_more (by omega) (tidy_put1 st hD)
  | exact tidy_more (by omega) hD
 | par y e D' U' _ _ hw=>cases hw with
  | lack=>exact tidy_more (by omega) hD
  | done=>first
   | exact tidy_more (by omega) (tidy_put1 st hD)
   | exact tidy_more (by omega) hD
 | both y e D' U' _ _ hw=>cases hw with
  | lack=>exact tidy_more (by omega) hD
  | recd _ _ _ _ _ hr=>exact tidy_more (by omega) (tidy_of hr.opensOf hD)
  | data _ _ _ _ _ _ _ hr=>exact tidy_more (by omega) (tidy_put1 st (tidy_of hr.opensOf hD))
  | both _ _ _ _ _ _ _ _ _ hr=>exact tidy_put1 st (tidy_put1 st (tidy_of hr.opensOf hD))
theorem WrR.opensOf {nn LL M St:Nat} {s:SuP} {n:Int} (h:WrR nn LL s M St n x D U S o y e D' U') (hD:Tidy D/\Maps.size D<=m):Tidy D'/\Maps.size D'<=m+2:=by
 cases h with
 | refused=>exact tidy_more (by omega) hD
 | flush _ _ _ _ _ _ _ _ _ hf=>exact tidy_more (by omega) (tidy_of hf.opensOf hD)
 | after _ _ _ _ _ _ _ _ _ _ _ _ hf hw=>exact hw.opensOf (tidy_of hf.opensOf hD)
 | first _ _ _ _ _ _ _ _ _ hw=>exact hw.opensOf hD
structure Few (S:Sh.Sf) (D U:Set0) (m:Nat):Prop where
 waits:∀x∈S.disks,x.waits.length<=m
 opens:Tidy D/\Maps.size D<=m
 used:Maps.size U<=m
theorem Few.more {a b:Nat} (hab:a<=b) (h:Few S D U a):Few S D U b:=⟨waits_more hab h.waits,tidy_more hab h.opens,Nat.le_trans h.used hab⟩
theorem Few.write {nn LL M St:Nat} {s:SuP} {n:Int} {w:World} {b:Nat} (h:Few S D U m) (hs:SetIs w 121 b U) (hn:nn<=17) (h8:LL<=8) (hW:WrR nn LL s M St n x D U S o y e D' U'):Few e.S D' U' (m+1000) :=
 ⟨hW.waits hn h8 h.waits,tidy_more (by omega) (hW.opensOf h.opens),by have:=hW.usedOf.size hs;have:=h.used;omega⟩
theorem Few.flush {n L:Nat} (h:Few S D U m) (hn:n<=17) (h8:L<=8) (hF:FlR n L D U S y e D' U'):Few e.S D' U' (m+1000) :=
 ⟨waits_more (by omega) (hF.waits hn h8 h.waits),tidy_more (by omega) (tidy_of hF.opensOf h.opens),by
  have:=h.used
  rcases hF.usedOf with rfl | rfl
  ·omega
  ·exact Nat.zero_le _⟩
theorem Few.read {LL M St:Nat} {s:SuP} {n:Int} (h:Few S D U m) (hR:RdR LL s M St n S o y X t):Few t.S D U (m+1000) :=
 ⟨waits_more (by omega) (hR.waits h.waits),tidy_more (by omega) h.opens,Nat.le_trans h.used (by omega)⟩
end
def rigC (p v M St L q N cap tq:Nat) (kd:Bool):Array Value:=#[.pointer (some ⟨p,0,none⟩),.pointer (some ⟨v,0,none⟩),.int .i64 M,.int .i64 St,.int .i64 L,.slice (some ⟨q,0,none⟩) N cap,.bool kd,.slice (some ⟨tq,0,none⟩) St St,.bool false]
def RG (J:Vk) (r:Nat) (F:Nat->Prop) (b:Nat):Prop:=AllV J F b\/b=r\/∃i,i<J.n/\b=J.gn i
structure RgIs (J:Vk) (w:World) (r q cap tq:Nat) (A:Ar) (kd:Bool) (may:Nat->List Sh.Bs) (F:Nat->Prop) (g off c:Nat->Nat):Prop where
 row:w.heap[r]?=some (.cells (rigC J.p J.v A.M A.St A.L q (A.St*(A.M-1)) cap tq kd) 39 (0,0))
 may:MayIs (A.St*(A.M-1)) w J.B q (RG J r F) (fun j=>j<A.St*(A.M-1)) may g off c
 low:J.B<=r
 out:¬AllV J F r
 log:∀i,i<J.n->J.gn i≠r
def Rg (J:Vk) (w:World) (r:Nat) (A:Ar) (kd:Bool) (may:Nat->List Sh.Bs) (F:Nat->Prop):Prop:=∃q cap tq g off c,RgIs J w r q cap tq A kd may F g off c
structure Rig (J:Vk) (w:World) (r:Nat) (A:Ar) (S:Sh.Sf) (o:Nat->Int) (D U:Set0) (F:Nat->Prop) (kd:Bool) (may:Nat->List Sh.Bs) (m:Nat):Prop where
 vr:Vr J w A.s o S F D U
 few:Few S D U m
 n:J.n=A.n
 L:J.L=A.L
 rg:Rg J w r A kd may F
section
variable {J:Vk} {w w':World} {r q cap tq:Nat} {A:Ar} {S S':Sh.Sf} {o o':Nat->Int} {D U D' U':Set0} {F F':Nat->Prop} {kd:Bool} {may:Nat->List Sh.Bs} {m:Nat} {g off c:Nat->Nat}
theorem moves_rg (m:Sh.Moves (AllV J F) w (AllV J F') w'):Sh.Moves (RG J r F) w (RG J r F') w' :=
 ⟨⟨m.1.os,m.1.tape,m.1.output,m.1.size,fun k hk hn=>m.1.block k hk fun e=>hn (.inl e)⟩,fun b e=>e.elim (fun e=>(m.2 b e).imp .inl id) (fun e=>.inl (.inr e))⟩
theorem RgIs.moves (h:RgIs J w r q cap tq A kd may F g off c) (m:Sh.Moves (AllV J F) w (AllV J F') w'):RgIs J w' r q cap tq A kd may F' g off c:=by
 have hlt:=(Array.getElem?_eq_some_iff.1 h.row).1
 refine ⟨(m.1.block r hlt h.out).trans h.row,h.may.moves (moves_rg m),h.low,fun e=>?_,h.log⟩
 rcases m.2 r e with e | e
 ·exact h.out e
 ·omega
theorem RgIs.grown (h:RgIs J w r q cap tq A kd may F g off c) (hb:Below w.heap.size w w'):RgIs J w' r q cap tq A kd may F g off c:=h.moves (moves_grown hb)
theorem fits_ci {g:Gh} (h:Ci A S o g) (hs:Said A):Fits A.n A.L A.s A.M A.St S:=by
 have hr:=hs.right 0 h.n1
 have hf:=hs.fit
 obtain ⟨r1,r2,r3,r4,r5,r6,r7,r8⟩:=Go.Proofs.YtgebkmpmnjhceaaGreatDoor.S.right_parts hr
 have hm:(saidOf A.s 0).most<=(saidOf A.s 0).str:=by unfold Go.Proofs.YtgebkmpmnjhceaaGreatDoor.S.Sup.most;split<;>omega
 have e1:(saidOf A.s 0).str=A.s.str:=rfl
 have e2:(saidOf A.s 0).mark=A.s.mark:=rfl
 have e3:(saidOf A.s 0).spare=A.s.spare:=rfl
 have h1:=hs.mem
 have h2:=hs.str
 have h3:=hs.logs
 have:=h.ar.m3
 have:=h.ar.l1
 have:=h.ar.l8
 have:=h.ar.s2
 have:=hs.m16
 have:=hs.st1
 unfold Fit at hf
 have e4:(saidOf A.s 0).mem=A.s.mem:=rfl
 exact ⟨h1,h2,h3,by omega,by omega,by omega,by omega,by omega,by omega,by omega,by omega,⟨by omega,by omega⟩,h.len,h.fit⟩
theorem RgIs.cells (h:RgIs J w r q cap tq A kd may F g off c) :
  w.cell? ⟨r,0,none⟩=some (.pointer (some ⟨J.p,0,none⟩))/\w.cell? ⟨r,1,none⟩=some (.pointer (some ⟨J.v,0,none⟩))/\w.cell? ⟨r,2,none⟩=some (.int .i64 A.M)/\w.cell? ⟨r,5,none⟩=some (.slice (some ⟨q,0,none⟩) (A.St*(A.M-1)) cap)/\w.cell? ⟨r,6,none⟩=some (.bool kd)/\w.cell? ⟨r,8,none⟩=some (.bool false) :=
 ⟨cell_of_row _ _ 0 _ _ _ h.row,cell_of_row _ _ 1 _ _ _ h.row,cell_of_row _ _ 2 _ _ _ h.row,cell_of_row _ _ 5 _ _ _ h.row,cell_of_row _ _ 6 _ _ _ h.row,cell_of_row _ _ 8 _ _ _ h.row⟩
end
section
variable {J:Vk} {w w':World} {r q cap tq:Nat} {A:Ar} {F:Nat->Prop} {kd:Bool} {may:Nat->List Sh.Bs} {g off c:Nat->Nat}
end
def setTo (A:Ar) (g:Gh) (may:Nat->List Sh.Bs) (k:Nat):Nat->List Sh.Bs:=fun j=>if j<k then [g.dat (stOf A.M j) (meOf A.M j)] else may j
section
variable {J:Vk} {w w':World} {r q cap tq m:Nat} {A:Ar} {S S':Sh.Sf} {o o':Nat->Int} {D U:Set0} {F:Nat->Prop} {kd:Bool} {may:Nat->List Sh.Bs} {gh:Gh} {g off c:Nat->Nat}
theorem settled (h:Inv A S o gh D U may kd) (ho:∀st,gh.op st=none):Inv A S o gh D U (setTo A gh may (A.St*(A.M-1))) kd/\LastOk A gh (setTo A gh may (A.St*(A.M-1))):=by
 refine ⟨⟨h.ci,h.said,h.ld,h.kds,fun j hj=>?_,h.on⟩,fun j hj=>?_⟩
 ·unfold setTo
  rw [if_pos hj]
  exact ⟨List.mem_singleton.2 rfl,fun old e=>by rw [ho] at e;cases e⟩
 ·unfold setTo
  rw [if_pos hj]
  exact ⟨by simp,by simp [List.getD]⟩
end
section
variable {J:Vk} {w w':World} {r q cap tq m k:Nat} {A:Ar} {S S':Sh.Sf} {o o':Nat->Int} {D U:Set0} {F:Nat->Prop} {kd:Bool} {may:Nat->List Sh.Bs} {gh:Gh} {g off c:Nat->Nat} {b:Sh.Bs}
theorem Vr.only_tab {s:SuP} {X:Nat->Prop} (h:Vr J w s o S F D U) (ho:Sh.Only X w w') (hx2:∀b,AllV J F b->¬X b) (hbel:Below J.B J.W w') (hg:∀i,i<J.n->w'.heap[J.gn i]?=w.heap[J.gn i]?):Vr J w' s o S F D U:=by
 have hk:∀b,b<w.heap.size->¬X b->w'.heap[b]?=w.heap[b]?:=fun b hb hx=>ho.block b hb hx
 exact ⟨⟨⟨⟨h.vo.ds.on.shelf.only ho (fun b hb e=>hx2 b (.inl (.inl hb)) e),h.vo.ds.on.low,hbel,Nat.le_trans h.size ho.size⟩,fun i hi=>(h.vo.ds.dev i hi).same (hk _ (h.vo.ds.dev i hi).lt (hx2 _ (.inl (.inr ⟨i,hi,rfl⟩)))),h.vo.ds.apart,h.vo.ds.inj,h.vo.ds.low⟩,h.vo.vol.kept (hk _ h.vo.vol.vlt (hx2 _ (.inr (.inl rfl)))) (hk _ h.vo.vol.tlt (hx2 _ (.inr (.inr (.inl rfl))))),h.vo.apart,h.vo.low,⟨Nat.lt_of_lt_of_le h.vo.lt.1 ho.size,Nat.lt_of_lt_of_le h.vo.lt.2 ho.size⟩⟩,⟨fun i hi=>(h.logs.log i hi).same (hg i hi),h.logs.apart,h.logs.low⟩,h.ne,set_same h.opens (hk _ h.vo.lt.1 (hx2 _ (.inr (.inr (.inr (.inl rfl)))))),set_same h.used (hk _ h.vo.lt.2 (hx2 _ (.inr (.inr (.inr (.inr rfl))))))⟩
theorem rg_lt (h:Vr J w A.s o S F D U) (hr:RgIs J w r q cap tq A kd may F g off c):∀b,RG J r F b->b<w.heap.size:=by
 rintro b (e | rfl | ⟨i,hi,rfl⟩)
 ·exact h.lt b e
 ·exact (Array.getElem?_eq_some_iff.1 hr.row).1
 ·have:=(h.lg hi)
  exact World.block_lt_of_cell? w _ (h.logs.log i hi).c0
end
open Go.ChangeShapes Go.WideShapes Go.ChangeAt
section
variable {J:Vk} {w:World} {r m lb:Nat} {A:Ar} {S:Sh.Sf} {o:Nat->Int} {D U:Set0} {F:Nat->Prop} {kd:Bool} {may:Nat->List Sh.Bs} {gh:Gh}
end
section
variable {J:Vk} {B p v:Nat} {w w':World} {r q cap tq:Nat} {A:Ar} {S S':Sh.Sf} {o o':Nat->Int} {D U:Set0} {F F':Nat->Prop} {kd:Bool} {may:Nat->List Sh.Bs} {m:Nat} {g off c:Nat->Nat}
end
section
variable {A:Ar} {S S':Sh.Sf} {o:Nat->Int} {g:Gh} {may:Nat->List Sh.Bs} {kd:Bool} {y:Int} {t:Stt} {m n:Nat}
theorem stop_waits {S:Sh.Sf} {m:Nat} (h:∀x∈S.disks,x.waits.length<=m) (n:Int):∀x∈(S.doStop n).disks,x.waits.length<=m:=by
 have:(S.doStop n).disks=S.disks:=by unfold Sh.Sf.doStop;split<;>rfl
 rw [this];exact h
end
section
variable {A:Ar} {S:Sh.Sf} {F:Nat->Prop} {kd:Bool} {may:Nat->List Sh.Bs} {gh:Gh}
structure Tb4 (B:Nat) (W:World):Prop where
 tabs:Tabs W
 tb:max 0 1+1<=B
 wid:Go.Proofs.YtgebkmpmnjhceaaGreatDoor.S.Wid W
 wb:2+1<=B
 flds:Flds W
 fb:3+1<=B
end
structure Akin (A A':Ar):Prop where
 n:A'.n=A.n
 L:A'.L=A.L
 M:A'.M=A.M
 St:A'.St=A.St
def Good (B:Nat) (W:World) (p r:Nat) (A0:Ar) (kd:Bool) (m lb:Nat) (w:World):Prop :=
 ∃(J:Vk) (A:Ar) (S:Sh.Sf) (o:Nat->Int) (g:Gh) (D U:Set0) (F:Nat->Prop) (may:Nat->List Sh.Bs),J.B=B/\J.W=W/\J.p=p/\Akin A0 A/\Rig J w r A S o D U F kd may m/\Inv A S o g D U may kd/\(S.off=false->LastOk A g may)/\(∀j,j<A.St*(A.M-1)->(may j).length<=lb)
section
variable {J:Vk} {w:World} {r m lb:Nat} {A:Ar} {S:Sh.Sf} {o:Nat->Int} {D U:Set0} {F:Nat->Prop} {kd:Bool} {may:Nat->List Sh.Bs} {gh:Gh}
end
section
variable {J:Vk} {w:World} {r m lb:Nat} {A:Ar} {S:Sh.Sf} {o:Nat->Int} {D U:Set0} {F:Nat->Prop} {kd:Bool} {may:Nat->List Sh.Bs} {gh:Gh}
end
def Octs (w:World) (b:Nat):Prop:=∃cs t,w.heap[b]?=some (.cells cs t (0,0))/\∀(i:Nat) (v:Value),cs[i]?=some v->∃z,v=Value.int .u8 z
theorem octs_own {w:World} {base b:Nat} {l:List Nat} (h:w.ownsRow base 5 1 (.slice (some ⟨b,0,none⟩) 128 128) 128 (bts l)):Octs w b:=by
 rcases h.2 with ⟨h,_⟩ | ⟨g,cap,cur,h,_,hh,hnc,hm,hs,ht⟩
 ·cases h
 ·injection h with h1 h2 h3
  injection h1 with h1
  injection h1 with h1
  subst h1
  refine ⟨_,_,hh,fun i v hv=>?_⟩
  have hc:cap=128:=by omega
  subst hc
  have hi:i<128:=by
   have:=(Array.getElem?_eq_some_iff.1 hv).1
   omega
  have h2:(bts l)[i]?=some v:=by
   rw [<- ht,List.getElem?_take,if_pos (by omega)]
   rw [<- Array.getElem?_toList] at hv
   exact hv
  unfold bts at h2
  rw [List.getElem?_map] at h2
  cases hx:l[i]? with
  | none=>rw [hx] at h2;cases h2
  | some x=>rw [hx] at h2;injection h2 with h2;exact ⟨_,h2.symm⟩
section
variable {J:Vk} {w w':World} {r m sb:Nat} {A:Ar} {S:Sh.Sf} {o:Nat->Int} {D U:Set0} {F:Nat->Prop} {kd:Bool} {may:Nat->List Sh.Bs} {q cap tq:Nat} {g off c:Nat->Nat}
end
section
variable {J:Vk} {w:World} {r m lb:Nat} {A:Ar} {S:Sh.Sf} {o:Nat->Int} {D U:Set0} {F:Nat->Prop} {kd:Bool} {may:Nat->List Sh.Bs} {gh:Gh}
end
theorem wp_append_mids {o:Oper} {a:Act} {w:World} {K:Act->World->Prop} {Q:Exit->Act->World->Prop} (s x:Operand)
  (ho:o.op=.call { callee:=.builtin .append,args:=#[s,x],argTypes:=#[50,50] })
  {g off n c cc:Nat} {b:Sh.Bs} {l:List Sh.Bs} {ad:Addr} (hs:a.eval s=.slice (some ⟨g,off,none⟩) n c) (hx:a.eval x=.slice (some ad) 1 cc) (h:Sh.Mids w g off n c l) (hb:w.cell? ad=some (Sh.sv b)) (hn:n<=100000)
  (hk:∀g' off' c' w',Sh.Mids w' g' off' (n+1) c' (l++[b])->w.grownBy w' (some g)->(g'=g\/g'=w.heap.size)->K (a.put o.dst (.slice (some ⟨g',off',none⟩) (n+1) c')) w'):Oper.wp Tryz.prog o a w K Q:=by
 obtain ⟨g',off',c',w',hr,h2,h3,h4⟩:=Sh.run_append_mids (cc:=cc) o.type h hb hn
 unfold Oper.wp execOp
 simp only [ho,resolve,invoke,builtin,Sem.run_bind,Sem.run_pure,Result.andThen_ok,List.map_toArray,List.map_cons,List.map_nil,hs,hx,hr]
 exact hk g' off' c' w' h2 h3 h4
section
variable {J:Vk} {w:World} {r m lb:Nat} {A:Ar} {S:Sh.Sf} {o:Nat->Int} {D U:Set0} {F:Nat->Prop} {kd:Bool} {may:Nat->List Sh.Bs} {gh:Gh}
end
section
variable {J:Vk} {w:World} {r m lb:Nat} {A:Ar} {S:Sh.Sf} {o:Nat->Int} {D U:Set0} {F:Nat->Prop} {kd:Bool} {may:Nat->List Sh.Bs} {gh:Gh}
theorem op_cells {w:World} {b:Nat} {x0 x1 x2 x3 x4:Value} {t:TypeId} (h:w.heap[b]?=some (.cells #[x0,x1,x2,x3,x4] t (0,0))) :
  w.cell? ⟨b,0,none⟩=some x0/\w.cell? ⟨b,1,none⟩=some x1/\w.cell? ⟨b,2,none⟩=some x2/\w.cell? ⟨b,3,none⟩=some x3/\w.cell? ⟨b,4,none⟩=some x4 :=
 ⟨cell_of_row _ _ 0 _ _ _ h,cell_of_row _ _ 1 _ _ _ h,cell_of_row _ _ 2 _ _ _ h,cell_of_row _ _ 3 _ _ _ h,cell_of_row _ _ 4 _ _ _ h⟩
end
section
variable {J:Vk} {w:World} {r m lb:Nat} {A:Ar} {S:Sh.Sf} {o:Nat->Int} {D U:Set0} {F:Nat->Prop} {kd:Bool} {may:Nat->List Sh.Bs} {gh:Gh}
end
section
variable {J:Vk} {w w2:World} {r q cap tq m lb:Nat} {A:Ar} {S:Sh.Sf} {o:Nat->Int} {D U:Set0} {F F2:Nat->Prop} {kd:Bool} {may may':Nat->List Sh.Bs} {gh:Gh} {g off c:Nat->Nat} {y n:Int} {X:Sh.Bs} {t:Stt}
end
structure Wd (A:Ar) (wr:Nat->List Sh.Bs) (d:Nat) (c:Nat->Option Sh.Bs):Prop where
 dat:∀m,m<A.St*(A.M-1)->A.num (stOf A.M m) (meOf A.M m)=d->∃v,v∈wr m/\c (A.at (stOf A.M m))=some v
 blk:∀st,st<A.St->∀m,m<A.M->A.num st m=d->c (A.at st)≠none
 slot:∀k,k<A.L->c (2+2*k)≠none/\c (3+2*k)≠none
structure Wk (A:Ar) (S:Sh.Sf) (o:Nat->Int) (wr:Nat->List Sh.Bs):Prop where
 ar:ArOk A
 disk:∀d,d<A.n->Dead S d=false->Jp2 S d (o d) (Wd A wr d)
 len:S.disks.length=A.n
 fit:2+2*A.L+A.St<=blk S.sectors
 sec:SecS S
section
variable {A:Ar} {S S':Sh.Sf} {o:Nat->Int} {D U D' U':Set0} {wr wr':Nat->List Sh.Bs} {d k m st:Nat} {y z:Int} {b x:Sh.Bs} {c:Nat->Option Sh.Bs}
theorem Wd.more (h:Wd A wr d c) (hm:∀m v,v∈wr m->v∈wr' m):Wd A wr' d c :=
 ⟨fun m h1 h2=>let ⟨v,h3,h4⟩:=h.dat m h1 h2;⟨v,hm m v h3,h4⟩,h.blk,h.slot⟩
theorem Wk.more (h:Wk A S o wr) (hm:∀m v,v∈wr m->v∈wr' m):Wk A S o wr' :=
 ⟨h.ar,fun d h1 h2=>(h.disk d h1 h2).more fun _ e=>e.more hm,h.len,h.fit,h.sec⟩
theorem Wk.at_lt (h:Wk A S o wr) (hst:st<A.St):A.at st<blk S.sectors:=by have:=h.fit;unfold Ar.at;omega
theorem Wk.same (h:Wk A S o wr) (hs:Same S S'):Wk A S' o wr :=
 ⟨h.ar,fun d hd hda=>(h.disk d hd (by rw [<- dead_same hs];exact hda)).same hs,by rw [hs.disks];exact h.len,by rw [hs.sectors];exact h.fit,h.sec.same hs⟩
theorem Wk.stop (h:Wk A S o wr) (n:Int):Wk A (S.doStop n) o wr :=
 ⟨h.ar,fun d hd hda=>(h.disk d hd (by rw [<- dead_stop S n];exact hda)).stop n,by unfold Sh.Sf.doStop;split<;>exact h.len,by unfold Sh.Sf.doStop;split<;>exact h.fit,h.sec.stop n⟩
theorem Wk.kill (h:Wk A S o wr) {e:Nat} (he:e<A.n):Wk A (S.doKill e) o wr:=by
 have hdk:=fun d=>dead_kill (S:=S) (d:=e) (by rw [h.len];exact he) d
 refine ⟨h.ar,fun d hd hda=>?_,by unfold Sh.Sf.doKill;simp [h.len],h.fit,h.sec.kill (by rw [h.len];exact he)⟩
 rw [hdk d] at hda
 by_cases c:d=e
 ·rw [if_pos c] at hda;cases hda
 ·rw [if_neg c] at hda
  exact (h.disk d hd hda).kill c
theorem Wd.slot_put (h:Wd A wr d c) {j:Nat} (hk:k<A.L) (hj:j=2+2*k\/j=3+2*k):Wd A wr d (updO c j (some b)):=by
 have hat:∀st,A.at st≠j:=fun st=>by unfold Ar.at;omega
 refine ⟨fun m h1 h2=>?_,fun st h1 m h2 h3=>?_,fun k' hk'=>⟨?_,?_⟩⟩
 ·have e:updO c j (some b) (A.at (stOf A.M m))=c (A.at (stOf A.M m)):=if_neg (hat _)
  rw [e];exact h.dat m h1 h2
 ·have e:updO c j (some b) (A.at st)=c (A.at st):=if_neg (hat _)
  rw [e];exact h.blk st h1 m h2 h3
 ·unfold updO;split
  ·simp
  ·exact (h.slot k' hk').1
 ·unfold updO;split
  ·simp
  ·exact (h.slot k' hk').2
theorem at_slot (hk:k<A.L) (st:Nat):2+2*k≠A.at st/\3+2*k≠A.at st:=by unfold Ar.at;omega
theorem at_inj {st st':Nat} (h:A.at st=A.at st'):st=st':=by unfold Ar.at at h;omega
theorem Wd.blk_put (h:Wd A wr d c) (hd:∀m',m'<A.St*(A.M-1)->A.num (stOf A.M m') (meOf A.M m')=d->stOf A.M m'=st->b∈wr m'):Wd A wr d (updO c (A.at st) (some b)):=by
 refine ⟨fun m h1 h2=>?_,fun st' h1 m h2 h3=>?_,fun k' hk'=>⟨?_,?_⟩⟩
 ·by_cases e:stOf A.M m=st
  ·refine ⟨b,hd m h1 h2 e,?_⟩
   rw [e];exact if_pos rfl
  ·have e1:updO c (A.at st) (some b) (A.at (stOf A.M m))=c (A.at (stOf A.M m)):=if_neg fun h=>e (at_inj h)
   rw [e1];exact h.dat m h1 h2
 ·unfold updO;split
  ·simp
  ·exact h.blk st' h1 m h2 h3
 ·have e:updO c (A.at st) (some b) (2+2*k')=c (2+2*k'):=if_neg (at_slot hk' st).1
  rw [e];exact (h.slot k' hk').1
 ·have e:updO c (A.at st) (some b) (3+2*k')=c (3+2*k'):=if_neg (at_slot hk' st).2
  rw [e];exact (h.slot k' hk').2
theorem Wd.data_put (ha:ArOk A) (h:Wd A wr d c) (hd:A.num (stOf A.M m) (meOf A.M m)=d) (hx:b∈wr m):Wd A wr d (updO c (A.at (stOf A.M m)) (some b)) :=
 h.blk_put fun m' h1 h2 h3=>by
  have e:meOf A.M m'=meOf A.M m:=ha.inj (stOf A.M m) _ _ (me_ok ha.m3).1 (me_ok ha.m3).1 (by rw [hd,<- h3];exact h2)
  rw [me_inj ha.m3 h3 e];exact hx
theorem Wd.par_put (ha:ArOk A) (h:Wd A wr d c) (hd:A.num st (pm A.M st)=d):Wd A wr d (updO c (A.at st) (some b)) :=
 h.blk_put fun m' h1 h2 h3=>by
  have e:meOf A.M m'=pm A.M st:=ha.inj st _ _ (me_ok ha.m3).1 (pm_lt ha st) (by rw [hd,<- h3];exact h2)
  exact absurd (by rw [h3];exact e) (me_ok (M:=A.M) (m:=m') ha.m3).2.1
theorem Wk.good (h:Wk A S o wr) (hd:d<A.n) (ha:Dead S d=false) (hon:S.off=false):Wd A wr d (vo S d):=(h.disk d hd ha).now hon
theorem Wk.dw (h:Wk A S o wr) (hd:d<A.n) (ha:Dead S d=false) (hk:k<blk S.sectors) (hb:Sh.Sec b) (hg:∀c,Wd A wr d c->c k≠none/\Wd A wr d (updO c k (some b))) (hD:DW S d (o d) k b y z S') :
  Wk A S' (put1 o d z) wr/\(y=0\/y=3)/\∀e,Dead S' e=Dead S e:=by
 have hsm:Small (V S d (dataOf k)):=(h.sec.V (by rw [h.len];exact hd) (sum_of_lt hk).1).2
 obtain ⟨j1,j2,j3,j4,j5,j6⟩:=(h.disk d hd ha).dw hk hb.2 hsm (fun hon=>noBlank_good (hg _ (h.good hd ha hon)).1 b) hD
 have hdd:=dead_dw hD
 have hal:=hD.alike
 refine ⟨⟨h.ar,fun e he hde=>?_,hD.len.trans h.len,by rw [hD.sectors];exact h.fit,h.sec.dw (by rw [h.len];exact hd) hk hb hD⟩,j5,hdd⟩
 by_cases c:e=d
 ·rw [c]
  have e1:put1 o d z d=z:=by unfold put1;rw [if_pos rfl]
  rw [e1]
  exact j1.more fun c hc=>hc.elim id fun e2=>by rw [e2.2];exact (hg _ (h.good hd ha e2.1)).2
 ·have e1:put1 o d z e=o e:=by unfold put1;rw [if_neg c]
  rw [e1]
  rw [hdd] at hde
  exact (h.disk e he hde).alike hal hD.sectors (fun e2=>(j3 e2).2) c
theorem Wk.dws {j:Nat} (h:Wk A S o wr) (hd:d<A.n) (ha:Dead S d=false) (hk:k<A.L) (hj:j=2+2*k\/j=3+2*k) (hb:Sh.Sec b) (hD:DW S d (o d) j b y z S') :
  Wk A S' (put1 o d z) wr/\(y=0\/y=3)/\∀e,Dead S' e=Dead S e :=
 h.dw hd ha (by have:=h.fit;omega) hb (fun c hc=>⟨by rcases hj with rfl | rfl;exact (hc.slot k hk).1;exact (hc.slot k hk).2,hc.slot_put hk hj⟩) hD
theorem put1_put1 (o:Nat->Int) (d:Nat) (a b:Int):put1 (put1 o d a) d b=put1 o d b:=by
 funext j;unfold put1;split<;>rfl
theorem put1_at (o:Nat->Int) (d:Nat) (a:Int):put1 o d a d=a:=by unfold put1;exact if_pos rfl
theorem put1_ne (o:Nat->Int) {d e:Nat} (h:e≠d) (a:Int):put1 o d a e=o e:=by unfold put1;exact if_neg h
/-! ### flushes -/
theorem Wk.fds (h:Wk A S o wr) (o':Nat->Int):Wk A (fdS S A.n).1 o' wr/\((fdS S A.n).2=0\/(fdS S A.n).2=3)/\∀e,Dead (fdS S A.n).1 e=Dead S e:=by
 have hF:=Fds.all (P:=Wd A wr) h.len (fun d hd ha=>h.disk d hd ha) A.n (Nat.le_refl _)
 have hd:=fdS_dead S A.n
 refine ⟨⟨h.ar,fun d h1 h2=>?_,(fdS_length S A.n).trans h.len,by rw [fdS_sectors];exact h.fit,fdS_secS h.sec (by rw [h.len];exact Nat.le_refl _)⟩,hF.y03,hd⟩
 rw [hd] at h2
 by_cases h0:(fdS S A.n).2=0
 ·by_cases hon:(fdS S A.n).1.off=false
  ·exact ((hF.done h0 d h1 h1 h2).1 (o' d)).more fun c e=>by rw [e];exact h.good h1 h2 (hF.on hon)
  ·exact (hF.jp d h1 h2).off_any hon _
 ·exact (hF.jp d h1 h2).off_any (hF.off h0) _
theorem Wk.clear {a e:Stt} {q:Nat × Nat} (h:Wk A a.S a.o wr) (hq:q.1<A.n/\q.2<A.L) (hC:ClrStep U q a y e):Wk A e.S e.o wr/\(y=0\/y=3)/\∀d,Dead e.S d=Dead a.S d:=by
 rcases hC with ⟨_,rfl,rfl⟩ | ⟨_,z,z',hD,rfl,ho⟩
 ·exact ⟨h,.inl rfl,fun _=>rfl⟩
 ·rw [ho]
  by_cases ha:Dead a.S q.1=false
  ·obtain ⟨h1,h2,h3⟩:=h.dws hq.1 ha hq.2 (.inl rfl) Sh.noughts_sec hD
   exact ⟨h1,by rcases h2 with rfl | rfl;exact .inl rfl;exact .inr rfl,h3⟩
  ·have ha:Dead a.S q.1=true:=by simpa using ha
   rcases hD with ⟨h1,rfl,rfl,h4⟩ | ⟨h1,_⟩
   ·rw [h4,put1_same]
    refine ⟨h,?_,fun _=>rfl⟩
    by_cases hon:a.S.off=false
    ·rw [dead_why ha hon];exact .inl rfl
    ·rw [off_why hon];exact .inr rfl
   ·exfalso
    by_cases hon:a.S.off=false
    ·rw [dead_why ha hon] at h1;cases h1
    ·rw [off_why hon] at h1;cases h1
theorem Wk.clears {a e:Stt} {l:List (Nat × Nat)} (hC:ClrSteps U l a e) (h:Wk A a.S a.o wr) (hl:∀q∈l,q.1<A.n/\q.2<A.L):Wk A e.S e.o wr/\∀d,Dead e.S d=Dead a.S d:=by
 induction hC with
 | nil a=>exact ⟨h,fun _=>rfl⟩
 | snoc h1 h2 ih =>
  obtain ⟨i1,i2⟩:=ih h fun q hq=>hl q (List.mem_append_left _ hq)
  obtain ⟨j1,_,j3⟩:=i1.clear (hl _ (List.mem_append_right _ (List.mem_singleton.2 rfl))) h2
  exact ⟨j1,fun d=>(j3 d).trans (i2 d)⟩
theorem Wk.clr {a e:Stt} (h:Wk A a.S a.o wr) (hC:ClrR A.n A.L U a y e):Wk A e.S e.o wr/\(y=0\/y=3)/\∀d,Dead e.S d=Dead a.S d:=by
 rcases hC with ⟨rfl,hC⟩ | ⟨_,j,k,c,hj,hk,h1,h2⟩
 ·obtain ⟨i1,i2⟩:=Wk.clears hC h fun q hq=>slotsTo_all hq
  exact ⟨i1,.inl rfl,i2⟩
 ·obtain ⟨i1,i2⟩:=Wk.clears h1 h fun q hq=>slotsTo_lt hj (Nat.le_of_lt hk) hq
  obtain ⟨j1,j2,j3⟩:=i1.clear ⟨hj,hk⟩ h2
  exact ⟨j1,j2,fun d=>(j3 d).trans (i2 d)⟩
theorem Wk.flush {e:Stt} (h:Wk A S o wr) (hF:FlR A.n A.L D U S y e D' U'):Wk A e.S e.o wr/\(y=0\/y=3)/\∀d,Dead e.S d=Dead S d:=by
 cases hF with
 | first o' h0=>exact h.fds o'
 | slots o1 y b h0 _ hC _ =>
  obtain ⟨i1,i2,i3⟩:=h.fds o1
  obtain ⟨j1,j2,j3⟩:=Wk.clr (a:=⟨(fdS S A.n).1,o1⟩) i1 hC
  exact ⟨j1,j2,fun d=>(j3 d).trans (i3 d)⟩
 | again o1 o' b h0 _ hC _ =>
  obtain ⟨i1,i2,i3⟩:=h.fds o1
  obtain ⟨j1,j2,j3⟩:=Wk.clr (a:=⟨(fdS S A.n).1,o1⟩) i1 hC
  obtain ⟨k1,k2,k3⟩:=j1.fds o'
  exact ⟨k1,k2,fun d=>(k3 d).trans ((j3 d).trans (i3 d))⟩
 | none o' h0 _ =>
  obtain ⟨i1,i2,i3⟩:=h.fds o'
  exact ⟨i1,.inl rfl,i3⟩
 | all o1 o' b h0 _ hC _ =>
  obtain ⟨i1,i2,i3⟩:=h.fds o1
  obtain ⟨j1,j2,j3⟩:=Wk.clr (a:=⟨(fdS S A.n).1,o1⟩) i1 hC
  obtain ⟨k1,k2,k3⟩:=j1.fds o'
  exact ⟨k1,.inl rfl,fun d=>(k3 d).trans ((j3 d).trans (i3 d))⟩
/-! ### a record -/
theorem Wk.fl (h:Wk A S o wr) (hd:d<A.n) (ha:Dead S d=false) (z:Int):Wk A (Fl S d) (put1 o d z) wr/\∀e,Dead (Fl S d) e=Dead S e:=by
 have hj:=h.disk d hd ha
 have hdd:=dead_fl S d
 have hal:=alike_fl S d
 have hon:(Fl S d).off=false->S.off=false:=fl_on hj.one
 refine ⟨⟨h.ar,fun e he hde=>?_,(fl_length S d).trans h.len,by rw [fl_sectors];exact h.fit,h.sec.fl (by rw [h.len];exact hd)⟩,hdd⟩
 by_cases c:e=d
 ·rw [c,put1_at]
  by_cases ho:S.off=false
  ·exact (hj.fl ho _).1.more fun c e2=>by rw [e2];exact h.good hd ha ho
  ·rw [hj.fl_off ho]
   exact hj.off_any ho _
 ·rw [put1_ne _ c]
  rw [hdd] at hde
  exact (h.disk e he hde).alike hal (fl_sectors S d) hon c
theorem Wk.tail {a e:Stt} {l hd:Sh.Bs} (h:Wk A a.S a.o wr) (hn:d<A.n) (ha:Dead a.S d=false) (hk:k<A.L) (hl:Sh.Sec l) (hh:Sh.Sec hd) (hR:RecTail d k l hd a D U y e D' U') :
  Wk A e.S e.o wr/\(y=0\/y=3)/\∀d,Dead e.S d=Dead a.S d:=by
 obtain ⟨_,_,z,o1,S1,⟨y1,x1,T,hD1,hD2⟩,hT⟩:=hR
 obtain ⟨h1,h2,h3⟩:=h.dws hn ha hk (.inr rfl) hl hD1
 have hput:Wk A S1 (put1 a.o d o1) wr/\(z=0\/z=3)/\∀e,Dead S1 e=Dead a.S e:=by
  rcases hD2 with ⟨_,rfl,rfl,rfl⟩ | ⟨rfl,hD2⟩
  ·exact ⟨h1,h2,h3⟩
  ·have hD2:DW T d (put1 a.o d x1 d) (2+2*k) hd z o1 S1:=by rw [put1_at];exact hD2
   obtain ⟨j1,j2,j3⟩:=h1.dws hn ((h3 d).trans ha) hk (.inl rfl) hh hD2
   rw [put1_put1] at j1
   exact ⟨j1,j2,fun e=>(j3 e).trans (h3 e)⟩
 obtain ⟨p1,p2,p3⟩:=hput
 rcases hT with ⟨_,rfl,rfl⟩ | ⟨_,rfl,rfl⟩
 ·exact ⟨p1,p2,p3⟩
 ·obtain ⟨q1,q2⟩:=p1.fl hn ((p3 d).trans ha) (shut (Sh.why S1 d) o1)
  refine ⟨q1,?_,fun e=>(q2 e).trans (p3 e)⟩
  by_cases hon:S1.off=false
  ·exact .inl (alive_why ((p3 d).trans ha) hon)
  ·exact .inr (off_why hon d)
theorem Wk.record {a e:Stt} {l hd:Sh.Bs} (h:Wk A a.S a.o wr) (hn:d<A.n) (ha:Dead a.S d=false) (hl:Sh.Sec l) (hh:Sh.Sec hd) (hR:RecR A.n A.L d l hd a D U y e D' U') :
  Wk A e.S e.o wr/\(y=0\/y=3)/\∀d,Dead e.S d=Dead a.S d:=by
 have hk:(freeK U d A.L).getD 0<A.L:=by
  cases he:freeK U d A.L with
  | none=>have:=h.ar.l1;simp;omega
  | some k=>exact (freeK_is he).1
 rcases hR with ⟨_,hR⟩ | ⟨_,y1,a1,D1,U1,hF,hR⟩
 ·exact h.tail hn ha hk hl hh hR
 ·obtain ⟨i1,i2,i3⟩:=h.flush hF
  rcases hR with ⟨_,rfl,rfl,_,_⟩ | ⟨_,hR⟩
  ·exact ⟨i1,i2,i3⟩
  ·obtain ⟨j1,j2,j3⟩:=i1.tail hn ((i3 d).trans ha) hk hl hh hR
   exact ⟨j1,j2,fun e=>(j3 e).trans (i3 e)⟩
end
end Go.Proofs.YtgebkmpmnjhceaaGreatDoor.U
