/-
  What the statement's proof rests on, part 35.
  Conditions: each theorem's own.
-/
import Derived.Test.YtgebkmpmnjhceaaGreatDoorV34
import Derived.Deep.AppendSrc
import Derived.Deep.AppendLies
import Derived.Deep.MidRow
import Derived.Test.YtgebkmpmnjhceaaGreatDoorV32
open Go.Proofs.YtgebkmpmnjhceaaGreatDoor.S renaming Sup → SuP
namespace Go.Proofs.YtgebkmpmnjhceaaGreatDoor.Sh
open Go.RowKit Go.Maps
structure Mids (w:World) (g off n c:Nat) (l:List Bs):Prop where
 len:l.length=n
 le:n<=c
 lt:g<w.heap.size
 there:∀j,j<c->(w.cell? ⟨g,off+j,none⟩).isSome=true
 free:∀j,j<c->w.frozen? ⟨g,off+j,none⟩=false
 at_:∀j,j<n->w.cell? ⟨g,off+j,none⟩=some (sv (l.getD j []))
theorem Mids.same {w w':World} {g off n c:Nat} {l:List Bs} (h:Mids w g off n c l) (hb:w'.heap[g]?=w.heap[g]?) (hs:w.heap.size<=w'.heap.size):Mids w' g off n c l :=
 ⟨h.len,h.le,Nat.lt_of_lt_of_le h.lt hs,fun j hj=>by rw [World.cell?_of_block (w:=w) hb];exact h.there j hj,fun j hj=>by rw [World.frozen?_of_block (w:=w) hb];exact h.free j hj,fun j hj=>by rw [World.cell?_of_block (w:=w) hb];exact h.at_ j hj⟩
theorem Mids.last {w:World} {g off n c:Nat} {l:List Bs} (h:Mids w g off n c l) (hn:0<n):Mids w g (off+(n-1)) 1 (c-(n-1)) [l.getD (n-1) []]:=by
 refine ⟨rfl,by have:=h.le;omega,h.lt,fun j hj=>?_,fun j hj=>?_,fun j hj=>?_⟩
 ·rw [Nat.add_assoc];exact h.there _ (by omega)
 ·rw [Nat.add_assoc];exact h.free _ (by omega)
 ·obtain rfl:j=0:=by omega
  exact h.at_ (n-1) (by omega)
theorem getD_snoc_oldS (l:List Bs) (x:Bs) (j:Nat) (h:j<l.length):(l++[x]).getD j []=l.getD j []:=by simp [List.getD,List.getElem?_append_left h]
theorem getD_snoc_newS (l:List Bs) (x:Bs):(l++[x]).getD l.length []=x:=by simp [List.getD]
theorem zero_cells_S (k i:Nat) (h:i<k):∃u,(Builtin.zeroCells #[Value.string ⟨#[]⟩] k)[i]?=some u:=⟨_,Array.getElem?_eq_getElem (by simp [Builtin.zeroCells];exact h)⟩
theorem info_str:(Tryz.prog.info? 9).map (fun i=>(i.zero,i.size,i.bytes))=some (some (.string ⟨#[]⟩),1,16):=by kernel_rfl
set_option maxRecDepth 20000 in
theorem run_append_mids (ty:TypeId) {w:World} {g off n c cc:Nat} {x:Bs} {l:List Bs} (h:Mids w g off n c l) {ad:Addr} (hx:w.cell? ad=some (sv x)) (hn:n<=100000) :
  ∃g' off' c' w',(Builtin.append_ #[50,50] ty #[.slice (some ⟨g,off,none⟩) n c,.slice (some ad) 1 cc]).run Tryz.prog w=.ok (.slice (some ⟨g',off',none⟩) (n+1) c') w'/\Mids w' g' off' (n+1) c' (l++[x])/\w.grownBy w' (some g)/\(g'=g\/g'=w.heap.size):=by
 obtain ⟨i,hi,hz,hsz,hby⟩:=info_parts info_str
 have hadd:ad.add 0=ad:=by unfold Addr.add;simp
 have hs:Src Tryz.prog i.size 50 (.slice (some ad) 1 cc) 1 [sv x] w:=by
  rw [hsz]
  refine Src.ofSlice w Tryz.underlying50 ad 1 cc _ rfl (fun j u hu=>?_) (fun u hu=>by simp at hu;subst hu;rfl)
  match j,hu with
  | 0,hu=>rw [hadd,hx];exact hu
 by_cases hr:n+1<=c
 ·refine ⟨g,off,c,_,run_append_room_src w _ _ ty _ i Tryz.underlying50 hi g off n c _ 1 _ hs hr (fun j hj=>?_) (fun j hj=>?_),?_,?_,.inl rfl⟩
  ·rw [hsz]
   obtain rfl:j=0:=by simpa using hj
   rw [Nat.mul_one];exact h.there n (by omega)
  ·rw [hsz]
   obtain rfl:j=0:=by simpa using hj
   rw [Nat.mul_one];exact h.free n (by omega)
  ·rw [hsz]
   have hin:∀j,j<([sv x]).length->(w.cell? ⟨g,off+n*1+j,none⟩).isSome=true:=fun j hj=>by
    obtain rfl:j=0:=by simpa using hj
    rw [Nat.mul_one];exact h.there n (by omega)
   refine ⟨by simp [h.len],hr,?_,fun j hj=>World.isSome_setCells _ _ _ _ _ (h.there j hj),fun j hj=>by rw [World.frozen?_setCells];exact h.free j hj,fun j hj=>?_⟩
   ·have:=World.block_lt_of_cell? (w.setCells g (off+n*1) [sv x]) _ (World.cell?_setCells_in g _ _ w hin 0 (by simp))
    exact this
   ·by_cases e:j=n
    ·subst e
     rw [<- h.len,getD_snoc_newS,h.len]
     have:=World.cell?_setCells_in g _ _ w hin 0 (by simp)
     simpa using this
    ·rw [World.cell?_setCells_out g _ _ w _ (fun _ _=>.inl (by show off+j<off+n*1;omega)),h.at_ j (by omega),getD_snoc_oldS _ _ _ (by rw [h.len];omega)]
  ·rw [hsz]
   show w.grownBy (w.setCell ⟨g,off+n*1,none⟩ (sv x)) (some g)
   have hO:Only (fun b=>b=g) w (w.setCell ⟨g,off+n*1,none⟩ (sv x)):=(Only.refl (fun b=>b=g) w).setCell (p:=⟨g,off+n*1,none⟩) (.inl rfl) _
   exact ⟨hO.os,hO.tape,hO.output,hO.size,fun k _ hk=>heap_set_other w ⟨g,off+n*1,none⟩ _ (fun e=>hk (by rw [e]))⟩
 ·have hcn:c=n:=by have:=h.le;omega
  subst hcn
  have hold:(Builtin.firstCells i.size c (.slice (some ⟨g,off,none⟩) c c)).run Tryz.prog w.drew=.ok ((l.map sv)).toArray w.drew:=by
   rw [hsz]
   refine run_firstCells_some w.drew 1 c ⟨g,off,none⟩ c c ((l.map sv)) (by rw [List.length_map,h.len,Nat.mul_one]) (fun j v hv=>?_)
   have hj:j<l.length:=by
    rcases Nat.lt_or_ge j l.length with h | h
    ·exact h
    ·rw [List.getElem?_eq_none (by simpa using h)] at hv;cases hv
   rw [sv_at hj] at hv
   rw [Addr.add_mid]
   exact (h.at_ j (by rw [<- h.len];exact hj)).trans hv
  have hg:=grownCap_ge w (c+1) c 9
  refine ⟨w.heap.size,0,_,_,run_append_grow_src w _ _ ty _ i _ Tryz.underlying50 hi hz (some ⟨g,off,none⟩) c c ((l.map sv)) hold _ 1 _ hs (by omega) (by omega) (by rw [hby];have:=nextslicecap_le (need:=c+1) (old:=c) (by omega);omega),?_,?_,.inr rfl⟩
  ·generalize hG:grownCap w (c+1) c 9=G at *
   have hrow:(w.drew.alloc (.cells (((l.map sv)++[sv x]).toArray++Builtin.zeroCells (Value.string ⟨#[]⟩).cells (G-(c+1))) 9)).heap[w.heap.size]?=_:=heap_alloc_new w.drew _
   have hlen:((l.map sv)++[sv x]).toArray.size=c+1:=by simp [h.len]
   have hat:∀j,j<c+1->(((l.map sv)++[sv x]).toArray++Builtin.zeroCells (Value.string ⟨#[]⟩).cells (G-(c+1)))[j]?=some (sv ((l++[x]).getD j [])):=fun j hj=>by
    rw [Array.getElem?_append_left (by rw [hlen];exact hj)]
    have e:(l.map sv)++[sv x]=(l++[x]).map sv:=by simp
    rw [e,List.getElem?_toArray]
    exact sv_at (by simp [h.len];omega)
   refine ⟨by simp [h.len],hg,by simp,fun j hj=>?_,fun j _=>frozen_of_row _ _ _ _ _ hrow,fun j hj=>?_⟩
   ·rw [Nat.zero_add,cell_of_row _ _ j _ _ _ hrow]
    by_cases hjc:j<c+1
    ·rw [hat j hjc];rfl
    ·rw [Array.getElem?_append_right (by rw [hlen];omega),hlen]
     obtain ⟨u,hu⟩:=zero_cells_S (G-(c+1)) (j-(c+1)) (by omega)
     exact (congrArg Option.isSome hu).trans rfl
   ·rw [Nat.zero_add,cell_of_row _ _ j _ _ _ hrow]
    exact hat j hj
  ·exact ⟨rfl,rfl,rfl,by simp,fun k hk _=>heap_alloc_old w.drew _ hk⟩
end Go.Proofs.YtgebkmpmnjhceaaGreatDoor.Sh
namespace Go.Proofs.YtgebkmpmnjhceaaGreatDoor.U
open Go.RowKit Go.Maps
structure MayIs (N:Nat) (w:World) (B q:Nat) (G:Nat->Prop) (P:Nat->Prop) (may:Nat->List Sh.Bs) (g off c:Nat->Nat):Prop where
 small:∀k,P k->k<N
 low:B<=q
 lt:q<w.heap.size
 there:∀k,k<N->(w.cell? ⟨q,k,none⟩).isSome=true
 free:∀k,k<N->w.frozen? ⟨q,k,none⟩=false
 cells:∀k,P k->w.cell? ⟨q,k,none⟩=some (.slice (some ⟨g k,off k,none⟩) (may k).length (c k))
 mid:∀k,P k->Sh.Mids w (g k) (off k) (may k).length (c k) (may k)
 glow:∀k,P k->B<=g k
 gne:∀k,P k->g k≠q
 inj:∀i j,P i->P j->g i=g j->i=j
 outq:¬G q
 outg:∀k,P k->¬G (g k)
def May (N:Nat) (w:World) (B q:Nat) (G:Nat->Prop) (P:Nat->Prop) (may:Nat->List Sh.Bs):Prop:=∃g off c,MayIs N w B q G P may g off c
section
variable {N:Nat} {w w':World} {B q:Nat} {G G' P P':Nat->Prop} {may:Nat->List Sh.Bs} {g off c:Nat->Nat}
theorem MayIs.same (h:MayIs N w B q G P may g off c) (hP:∀k,P' k->P k) (hq:w'.heap[q]?=w.heap[q]?) (hg:∀k,P' k->w'.heap[g k]?=w.heap[g k]?) (hs:w.heap.size<=w'.heap.size) (hG:∀b,G' b->G b\/w.heap.size<=b):MayIs N w' B q G' P' may g off c:=by
 refine ⟨fun k hk=>h.small k (hP k hk),h.low,Nat.lt_of_lt_of_le h.lt hs,fun k hk=>by rw [World.cell?_of_block (w:=w) hq];exact h.there k hk,fun k hk=>by rw [World.frozen?_of_block (w:=w) hq];exact h.free k hk,fun k hk=>by rw [World.cell?_of_block (w:=w) hq];exact h.cells k (hP k hk),fun k hk=>(h.mid k (hP k hk)).same (hg k hk) hs,fun k hk=>h.glow k (hP k hk),fun k hk=>h.gne k (hP k hk),fun i j hi hj=>h.inj i j (hP i hi) (hP j hj),fun e=>?_,fun k hk e=>?_⟩
 ·rcases hG q e with e | e
  ·exact h.outq e
  ·exact Nat.lt_irrefl _ (Nat.lt_of_lt_of_le h.lt e)
 ·rcases hG _ e with e | e
  ·exact h.outg k (hP k hk) e
  ·exact Nat.lt_irrefl _ (Nat.lt_of_lt_of_le (h.mid k (hP k hk)).lt e)
theorem MayIs.moves (h:MayIs N w B q G P may g off c) (m:Sh.Moves G w G' w'):MayIs N w' B q G' P may g off c :=
 h.same (fun _ hk=>hk) (m.1.block q h.lt h.outq) (fun k hk=>m.1.block _ (h.mid k hk).lt (h.outg k hk)) m.1.size m.2
theorem MayIs.put (h:MayIs N w B q G P may g off c) {k g' off' c':Nat} {l:List Sh.Bs} (hk:k<N) (hm:Sh.Mids w g' off' l.length c' l) (hlow:B<=g') (hne:g'≠q) (hap:∀j,P j->j≠k->g j≠g') (hout:¬G g') (hP:∀j,P' j->P j\/j=k) :
  May N (w.setCell ⟨q,k,none⟩ (.slice (some ⟨g',off',none⟩) l.length c')) B q G P' (fun j=>if j=k then l else may j):=by
 have hb:∀x,x≠q->(w.setCell ⟨q,k,none⟩ (.slice (some ⟨g',off',none⟩) l.length c')).heap[x]?=w.heap[x]?:=fun x hx=>heap_setCell_other w ⟨q,k,none⟩ x _ hx
 have hsz:w.heap.size<=(w.setCell ⟨q,k,none⟩ (.slice (some ⟨g',off',none⟩) l.length c')).heap.size:=by simp
 have hself:(w.setCell ⟨q,k,none⟩ (.slice (some ⟨g',off',none⟩) l.length c')).cell? ⟨q,k,none⟩=some (.slice (some ⟨g',off',none⟩) l.length c'):=World.cell?_setCell_same' _ _ _ (h.there k hk)
 have hoth:∀j,j≠k->(w.setCell ⟨q,k,none⟩ (.slice (some ⟨g',off',none⟩) l.length c')).cell? ⟨q,j,none⟩=w.cell? ⟨q,j,none⟩:=fun j hj=>World.cell?_setCell_other _ _ _ _ (fun e=>hj (by injection e with _ e _;exact e.symm))
 refine ⟨fun j=>if j=k then g' else g j,fun j=>if j=k then off' else off j,fun j=>if j=k then c' else c j,fun j hj=>?_,h.low,Nat.lt_of_lt_of_le h.lt hsz,fun j hj=>?_,fun j hj=>?_,fun j hj=>?_,fun j hj=>?_,fun j hj=>?_,fun j hj=>?_,fun i j hi hj e=>?_,h.outq,fun j hj=>?_⟩
 ·rcases hP j hj with h1 | h1
  ·exact h.small j h1
  ·omega
 ·by_cases e:j=k
  ·rw [e,hself];rfl
  ·rw [hoth j e];exact h.there j hj
 ·rw [World.frozen?_setCell];exact h.free j hj
 ·by_cases e:j=k
  ·subst e;rw [hself];simp
  ·rw [hoth j e];simp only [e,if_false];exact h.cells j ((hP j hj).resolve_right e)
 ·by_cases e:j=k
  ·subst e;simp only [if_true];exact hm.same (hb _ hne) hsz
  ·simp only [e,if_false]
   have h1:=(hP j hj).resolve_right e
   exact (h.mid j h1).same (hb _ (h.gne j h1)) hsz
 ·by_cases e:j=k
  ·simp only [e,if_true];exact hlow
  ·simp only [e,if_false];exact h.glow j ((hP j hj).resolve_right e)
 ·by_cases e:j=k
  ·simp only [e,if_true];exact hne
  ·simp only [e,if_false];exact h.gne j ((hP j hj).resolve_right e)
 ·by_cases e1:i=k<;>by_cases e2:j=k
  ·rw [e1,e2]
  ·simp only [e1,e2,if_true,if_false] at e
   exact absurd e.symm (hap j ((hP j hj).resolve_right e2) e2)
  ·simp only [e1,e2,if_true,if_false] at e
   exact absurd e (hap i ((hP i hi).resolve_right e1) e1)
  ·simp only [e1,e2,if_false] at e
   exact h.inj i j ((hP i hi).resolve_right e1) ((hP j hj).resolve_right e2) e
 ·by_cases e:j=k
  ·simp only [e,if_true];exact hout
  ·simp only [e,if_false];exact h.outg j ((hP j hj).resolve_right e)
theorem MayIs.append (h:MayIs N w B q G P may g off c) {k g' off' c':Nat} {b:Sh.Bs} (hk:P k) (hg:w.grownBy w' (some (g k))) (hm:Sh.Mids w' g' off' ((may k).length+1) c' (may k++[b])) (ho:g'=g k\/g'=w.heap.size) (hB:B<=w.heap.size) (hG:∀b,G b->b<w.heap.size) :
  May N (w'.setCell ⟨q,k,none⟩ (.slice (some ⟨g',off',none⟩) ((may k).length+1) c')) B q G P (fun j=>if j=k then may j++[b] else may j):=by
 have hb:∀x,x<w.heap.size->x≠g k->w'.heap[x]?=w.heap[x]?:=fun x hx hn=>hg.block x hx (fun e=>hn (by injection e))
 have h1:MayIs N w' B q G (fun j=>P j/\j≠k) may g off c:=h.same (fun _ hj=>hj.1) (hb q h.lt (Ne.symm (h.gne k hk))) (fun j hj=>hb _ (h.mid j hj.1).lt (fun e=>hj.2 (h.inj j k hj.1 hk e))) hg.size (fun _ e=>.inl e)
 have e:(fun j=>if j=k then may j++[b] else may j)=(fun j=>if j=k then may k++[b] else may j):=by
  funext j
  by_cases e:j=k
  ·rw [if_pos e,if_pos e,e]
  ·rw [if_neg e,if_neg e]
 rw [e]
 have hl:(may k).length+1=(may k++[b]).length:=by simp
 rw [hl] at hm ⊢
 refine h1.put (h.small k hk) hm ?_ ?_ ?_ ?_ (fun j hj=>?_)
 ·rcases ho with e | e
  ·rw [e];exact h.glow k hk
  ·rw [e];exact hB
 ·rcases ho with e | e
  ·rw [e];exact h.gne k hk
  ·rw [e];exact Nat.ne_of_gt h.lt
 ·intro j hj hjk e2
  rcases ho with e | e
  ·exact hjk (h.inj j k hj.1 hk (e2.trans e))
  ·have:=(h.mid j hj.1).lt
   omega
 ·intro hG'
  rcases ho with e | e
  ·exact h.outg k hk (e▸hG')
  ·have:=hG _ hG';omega
 ·by_cases e:j=k
  ·exact .inr e
  ·exact .inl ⟨hj,e⟩
theorem MayIs.trim (h:MayIs N w B q G P may g off c) {k:Nat} (hk:P k) (h0:0<(may k).length) :
  May N (w.setCell ⟨q,k,none⟩ (.slice (some ⟨g k,off k+((may k).length-1),none⟩) 1 (c k-((may k).length-1)))) B q G P (fun j=>if j=k then (may j).drop ((may j).length-1) else may j):=by
 have e:(fun j=>if j=k then (may j).drop ((may j).length-1) else may j)=(fun j=>if j=k then [(may k).getD ((may k).length-1) []] else may j):=by
  funext j
  by_cases e:j=k
  ·rw [if_pos e,if_pos e,e]
   generalize may k=l at *
   rcases Sh.snoc_cases l with rfl | ⟨t,x,rfl⟩
   ·exact absurd h0 (by simp)
   ·simp [List.getD]
  ·rw [if_neg e,if_neg e]
 rw [e]
 exact h.put (h.small k hk) (l:=[(may k).getD ((may k).length-1) []]) ((h.mid k hk).last h0) (h.glow k hk) (h.gne k hk) (fun j hj hjk e=>hjk (h.inj j k hj hk e)) (h.outg k hk) (fun j hj=>.inl hj)
end
end Go.Proofs.YtgebkmpmnjhceaaGreatDoor.U
namespace Go.Proofs.YtgebkmpmnjhceaaGreatDoor.Sh
open Go.ChangeShapes Go.WideShapes Go.ChangeAt Go.RowKit Go.Maps
section
variable {H:Type} {enc:TypeId × Value->H} {W:World}
theorem cellsInt:Tryz.prog.cellsOf 3=1:=by kernel_rfl
theorem cellsInts:Tryz.prog.cellsOf 24=1:=by kernel_rfl
theorem cells_get {base n:Nat} {a:Addr} {xs:List Value} (h:W.cells? base a n=some xs):xs.length=n/\∀k,k<n->∃v,xs[k]?=some v/\W.cell? (a.add k)=some v:=by
 unfold World.cells? at h
 split at h
 ·have hl:xs.length=n:=by simpa using mapM_some_length h
  refine ⟨hl,fun k hk=>?_⟩
  have:=mapM_some_get h k k (by simp [hk])
  rw [List.getElem?_eq_getElem (by omega)] at this
  exact ⟨_,List.getElem?_eq_getElem (by omega),this⟩
 ·cases h
theorem int_of {m:Nat} {v:Value} {y:DataW H × List MemPlace} (h:DataW.trod enc Tryz.prog W 0 (fun _=>true) true m 3 [v]=some y):∃z:Int,v=.int .i64 z/\-9223372036854775808<=z/\z<=9223372036854775807:=by
 cases m with
 | zero=>simp [DataW.trod] at h
 | succ m =>
  simp only [DataW.trod,Tryz.underlying3] at h
  cases v<;>simp at h
  rename_i k b
  obtain ⟨⟨rfl,hw⟩,_⟩:=h
  exact ⟨b,rfl,bounds_i64 hw⟩
theorem u8_of {m:Nat} {v:Value} {y:DataW H × List MemPlace} (h:DataW.trod enc Tryz.prog W 0 (fun _=>true) true m 5 [v]=some y):∃z:Nat,v=.int .u8 (z:Int)/\z<256:=by
 cases m with
 | zero=>simp [DataW.trod] at h
 | succ m =>
  simp only [DataW.trod,Tryz.underlying5] at h
  cases v<;>simp at h
  rename_i k b
  obtain ⟨⟨rfl,hw⟩,_⟩:=h
  have:=bounds_u8 hw
  exact ⟨b.toNat,by rw [Int.toNat_of_nonneg this.1],by omega⟩
theorem each_in {t e:TypeId} {fuel n c:Nat} {A:Option Addr} {x:DataW H × List MemPlace} (ht:Tryz.prog.underlying t=some (.slice e)) (hc:Tryz.prog.cellsOf e=1)
  (h:DataW.trod enc Tryz.prog W 0 (fun _=>true) true fuel t [.slice A n c]=some x) :
  (A=none/\n=0)\/∃(ad:Addr) (m:Nat),A=some ad/\n<=9223372036854775807/\∀i,i<n->∃v y,W.cell? (ad.add i)=some v/\DataW.trod enc Tryz.prog W 0 (fun _=>true) true m e [v]=some y:=by
 rcases DataW.trod_slice ht h with ⟨h0,hx⟩ | ⟨a,len,cap,elems,rest,m,_,h0,hx,_,hl,hm,hlen,hel,_⟩
 ·simp only [List.cons.injEq,Value.slice.injEq,and_true] at h0
  obtain ⟨rfl,rfl,rfl⟩:=h0
  exact .inl ⟨rfl,rfl⟩
 ·simp only [List.cons.injEq,Value.slice.injEq,and_true] at h0
  obtain ⟨rfl,rfl,rfl⟩:=h0
  refine .inr ⟨a,m,rfl,by unfold maxLen at hm;omega,fun i hi=>?_⟩
  have h1:=hel i hi
  rw [hc,Nat.mul_one,List.getElem?_eq_getElem (by omega),Option.bind_eq_some_iff] at h1
  obtain ⟨cs,hcs,hy⟩:=h1
  obtain ⟨hl1,hg⟩:=cells_get hcs
  obtain ⟨v,hv,hcv⟩:=hg 0 (by decide)
  have e:cs=[v]:=by
   match cs,hl1,hv with
   | [u],_,hv=>simpa using hv
  subst e
  have e2:(a.add i).add 0=a.add i:=by unfold Addr.add;simp
  rw [e2] at hcv
  exact ⟨v,_,hcv,hy⟩
theorem ints_in {fuel n c:Nat} {A:Option Addr} {x:DataW H × List MemPlace} (h:DataW.trod enc Tryz.prog W 0 (fun _=>true) true fuel 24 [.slice A n c]=some x) :
  ∃l:List Int,n<=9223372036854775807/\Reads W W.heap.size A n (ints l)/\(0<n->∀a,A=some a->a.block<W.heap.size):=by
 rcases each_in Tryz.underlying24 cellsInt h with ⟨rfl,rfl⟩ | ⟨ad,m,rfl,hn,hel⟩
 ·exact ⟨[],by decide,Reads.none_,fun h=>absurd h (by decide)⟩
 ·have hz:∀i,∃z:Int,i<n->W.cell? (ad.add i)=some (.int .i64 z):=by
   intro i
   by_cases hi:i<n
   ·obtain ⟨v,y,hv,hy⟩:=hel i hi
    obtain ⟨z,rfl,_⟩:=int_of hy
    exact ⟨z,fun _=>hv⟩
   ·exact ⟨0,fun h=>absurd h hi⟩
  obtain ⟨f,hf⟩:=Classical.axiomOfChoice hz
  have hb:0<n->ad.block<W.heap.size:=fun h0=>by
   have:=World.block_lt_of_cell? W _ (hf 0 h0)
   rwa [block_of_add] at this
  refine ⟨(List.range n).map f,hn,⟨by simp [ints],fun h0=>⟨ad,rfl,hb h0,fun j u hu=>?_⟩⟩,fun h0 a ha=>by injection ha with ha;subst ha;exact hb h0⟩
  have hj:j<n:=by
   rcases Nat.lt_or_ge j n with h | h
   ·exact h
   ·rw [List.getElem?_eq_none (by simpa [ints] using h)] at hu;cases hu
  rw [hf j hj,<- hu]
  simp [ints,hj]
theorem keep_in {fuel n c:Nat} {A:Option Addr} {x:DataW H × List MemPlace} (h:DataW.trod enc Tryz.prog W 0 (fun _=>true) true fuel 29 [.slice A n c]=some x) :
  ∃ks:List (List Int),n<=9223372036854775807/\KeepIs W (Old W) A n ks:=by
 rcases each_in Tryz.underlying29 cellsInts h with ⟨rfl,rfl⟩ | ⟨ad,m,rfl,hn,hel⟩
 ·exact ⟨[],by decide,rfl,fun h=>absurd h (by decide)⟩
 ·have hz:∀i,∃l:List Int,i<n->∃A' m c,W.cell? (ad.add i)=some (.slice A' m c)/\m<=9223372036854775807/\Reads W W.heap.size A' m (ints l)/\(0<m->∀a',A'=some a'->Old W a'.block):=by
   intro i
   by_cases hi:i<n
   ·obtain ⟨v,y,hv,hy⟩:=hel i hi
    obtain ⟨A',n',c',rfl⟩:∃A' n' c',v=.slice A' n' c':=by
     rcases DataW.trod_slice Tryz.underlying24 hy with ⟨h0,_⟩ | ⟨a,len,cap,_,_,_,_,h0,_⟩
     ·simp only [List.cons.injEq,and_true] at h0;exact ⟨_,_,_,h0⟩
     ·simp only [List.cons.injEq,and_true] at h0;exact ⟨_,_,_,h0⟩
    obtain ⟨l,h1,h2,h3⟩:=ints_in hy
    exact ⟨l,fun _=>⟨A',n',c',hv,h1,h2,h3⟩⟩
   ·exact ⟨[],fun h=>absurd h hi⟩
  obtain ⟨f,hf⟩:=Classical.axiomOfChoice hz
  refine ⟨(List.range n).map f,hn,by simp,fun h0=>⟨ad,rfl,?_,fun j hj=>?_⟩⟩
  ·obtain ⟨_,_,_,h1,_⟩:=hf 0 h0
   have:=World.block_lt_of_cell? W _ h1
   rwa [block_of_add] at this
  ·have e:((List.range n).map f).getD j []=f j:=by simp [List.getD,hj]
   rw [e]
   exact hf j hj
theorem cellsOp8:Tryz.prog.cellsOf 31=5:=by kernel_rfl
structure Op8 where
 kind:Int
 n:Int
 at_:Int
 x:Nat
 A:Option Addr
 m:Nat
 c:Nat
 ks:List (List Int)
def I64 (z:Int):Prop:=-9223372036854775808<=z/\z<=9223372036854775807
structure Op8Is (W:World) (b o:Nat) (v:Op8):Prop where
 c0:W.cell? ⟨b,o,none⟩=some (.int .i64 v.kind)
 c1:W.cell? ⟨b,o+1,none⟩=some (.int .i64 v.n)
 c2:W.cell? ⟨b,o+2,none⟩=some (.int .i64 v.at_)
 c3:W.cell? ⟨b,o+3,none⟩=some (.int .u8 (v.x:Int))
 c4:W.cell? ⟨b,o+4,none⟩=some (.slice v.A v.m v.c)
 b0:I64 v.kind
 b1:I64 v.n
 b2:I64 v.at_
 b3:v.x<256
 b4:v.m<=9223372036854775807
 keep:KeepIs W (Old W) v.A v.m v.ks
def Ops8 (W:World) (A:Option Addr) (n:Nat) (f:Nat->Op8):Prop:=n<=9223372036854775807/\(0<n->∃b off,A=some ⟨b,off,none⟩/\b<W.heap.size/\∀i,i<n->Op8Is W b (off+i*5) (f i))
set_option maxRecDepth 20000 in
theorem op_in {b o m:Nat} {cs:List Value} {y:DataW H × List MemPlace} (hl:cs.length=5) (hc:∀k,k<5->∃v,cs[k]?=some v/\W.cell? ⟨b,o+k,none⟩=some v) (h:DataW.trod enc Tryz.prog W 0 (fun _=>true) true m 31 cs=some y):∃v:Op8,Op8Is W b o v:=by
 obtain ⟨xs,k,rfl,_,_,hxs,hf⟩:=DataW.trod_struct Tryz.underlying31 h
 match cs,hl with
 | [v0,v1,v2,v3,v4],_ =>
  have hs:xs.length=5:=hxs
  have g:∀i,i<5->∃z,xs[i]?=some z:=fun i hi=>⟨_,List.getElem?_eq_getElem (by omega)⟩
  have f0:=hf 0 _ rfl
  have f1:=hf 1 _ rfl
  have f2:=hf 2 _ rfl
  have f3:=hf 3 _ rfl
  have f4:=hf 4 _ rfl
  obtain ⟨z0,e0⟩:=g 0 (by decide)
  obtain ⟨z1,e1⟩:=g 1 (by decide)
  obtain ⟨z2,e2⟩:=g 2 (by decide)
  obtain ⟨z3,e3⟩:=g 3 (by decide)
  obtain ⟨z4,e4⟩:=g 4 (by decide)
  rw [e0] at f0
  rw [e1] at f1
  rw [e2] at f2
  rw [e3] at f3
  rw [e4] at f4
  obtain ⟨kind,rfl,a0,a0'⟩:=int_of (v:=v0) (show DataW.trod enc Tryz.prog W 0 (fun _=>true) true k 3 [v0]=some z0 from f0)
  obtain ⟨n,rfl,a1,a1'⟩:=int_of (v:=v1) (show DataW.trod enc Tryz.prog W 0 (fun _=>true) true k 3 [v1]=some z1 from f1)
  obtain ⟨at_,rfl,a2,a2'⟩:=int_of (v:=v2) (show DataW.trod enc Tryz.prog W 0 (fun _=>true) true k 3 [v2]=some z2 from f2)
  obtain ⟨x,rfl,a3⟩:=u8_of (v:=v3) (show DataW.trod enc Tryz.prog W 0 (fun _=>true) true k 5 [v3]=some z3 from f3)
  have g4:=show DataW.trod enc Tryz.prog W 0 (fun _=>true) true k 29 [v4]=some z4 from f4
  obtain ⟨A',n',c',rfl⟩:∃A' n' c',v4=.slice A' n' c':=by
   rcases DataW.trod_slice Tryz.underlying29 g4 with ⟨h0,_⟩ | ⟨a,len,cap,_,_,_,_,h0,_⟩
   ·simp only [List.cons.injEq,and_true] at h0;exact ⟨_,_,_,h0⟩
   ·simp only [List.cons.injEq,and_true] at h0;exact ⟨_,_,_,h0⟩
  obtain ⟨ks,h1,h2⟩:=keep_in g4
  have cc:∀k,k<5->∀u,[Value.int .i64 kind,.int .i64 n,.int .i64 at_,.int .u8 (x:Int),.slice A' n' c'][k]?=some u->W.cell? ⟨b,o+k,none⟩=some u:=fun k hk u hu=>by
   obtain ⟨v,hv,hcv⟩:=hc k hk
   rw [hu] at hv
   injection hv with hv
   rw [hv];exact hcv
  exact ⟨⟨kind,n,at_,x,A',n',c',ks⟩,cc 0 (by decide) _ rfl,cc 1 (by decide) _ rfl,cc 2 (by decide) _ rfl,cc 3 (by decide) _ rfl,cc 4 (by decide) _ rfl,⟨a0,a0'⟩,⟨a1,a1'⟩,⟨a2,a2'⟩,a3,h1,h2⟩
theorem ops_in {fuel n c:Nat} {A:Option Addr} {x:DataW H × List MemPlace} (h:DataW.trod enc Tryz.prog W 0 (fun _=>true) true fuel 22 [.slice A n c]=some x):∃f,Ops8 W A n f:=by
 rcases DataW.trod_slice Tryz.underlying22 h with ⟨h0,hx⟩ | ⟨a,len,cap,elems,rest,m,_,h0,hx,_,hl,hm,hlen,hel,_⟩
 ·simp only [List.cons.injEq,Value.slice.injEq,and_true] at h0
  obtain ⟨rfl,rfl,rfl⟩:=h0
  exact ⟨fun _=>⟨0,0,0,0,none,0,0,[]⟩,by decide,fun h=>absurd h (by decide)⟩
 ·simp only [List.cons.injEq,Value.slice.injEq,and_true] at h0
  obtain ⟨rfl,rfl,rfl⟩:=h0
  have hcs:∀i,i<n->∃cs y,cs.length=5/\(∀k,k<5->∃v,cs[k]?=some v/\W.cell? ((a.add (i*5)).add k)=some v)/\DataW.trod enc Tryz.prog W 0 (fun _=>true) true m 31 cs=some y:=by
   intro i hi
   have h1:=hel i hi
   rw [cellsOp8,List.getElem?_eq_getElem (by omega),Option.bind_eq_some_iff] at h1
   obtain ⟨cs,hcs,hy⟩:=h1
   obtain ⟨hl1,hg⟩:=cells_get hcs
   exact ⟨cs,_,hl1,hg,hy⟩
  rcases Nat.eq_zero_or_pos n with h0 | h0
  ·exact ⟨fun _=>⟨0,0,0,0,none,0,0,[]⟩,by unfold maxLen at hm;omega,fun h=>by omega⟩
  ·obtain ⟨b,off,spot⟩:=a
   obtain ⟨cs,y,_,hg,_⟩:=hcs 0 h0
   obtain ⟨v,_,hv⟩:=hg 0 (by decide)
   have hspot:spot=none:=by simpa [Addr.add] using World.cell?_spot hv
   subst hspot
   have hblt:=World.block_lt_of_cell? W _ hv
   rw [block_of_add,block_of_add] at hblt
   have hz:∀i,∃v:Op8,i<n->Op8Is W b (off+i*5) v:=by
    intro i
    by_cases hi:i<n
    ·obtain ⟨cs,y,hl5,hg,hy⟩:=hcs i hi
     obtain ⟨v,hv⟩:=op_in (b:=b) (o:=off+i*5) hl5 (fun k hk=>by
      obtain ⟨v,h1,h2⟩:=hg k hk
      rw [add_of_add,add_plain,<- Nat.add_assoc] at h2
      exact ⟨v,h1,h2⟩) hy
     exact ⟨v,fun _=>hv⟩
    ·exact ⟨⟨0,0,0,0,none,0,0,[]⟩,fun h=>absurd h hi⟩
   obtain ⟨f,hf⟩:=Classical.axiomOfChoice hz
   exact ⟨f,by unfold maxLen at hm;omega,fun _=>⟨b,off,rfl,hblt,hf⟩⟩
end
end Go.Proofs.YtgebkmpmnjhceaaGreatDoor.Sh
namespace Go.Proofs.YtgebkmpmnjhceaaGreatDoor.U
open Go.RowKit Go.Maps
def MayOk (A:Ar) (g:Gh) (may:Nat->List Sh.Bs):Prop :=
 ∀m,m<A.St*(A.M-1)->g.dat (stOf A.M m) (meOf A.M m)∈may m/\∀old,g.op (stOf A.M m)=some (meOf A.M m,old)->old∈may m
def LastOk (A:Ar) (g:Gh) (may:Nat->List Sh.Bs):Prop:=∀m,m<A.St*(A.M-1)->may m≠[]/\(may m).getD ((may m).length-1) []=g.dat (stOf A.M m) (meOf A.M m)
structure Inv (A:Ar) (S:Sh.Sf) (o:Nat->Int) (g:Gh) (D U:Set0) (may:Nat->List Sh.Bs) (kd:Bool):Prop where
 ci:Ci A S o g
 said:Said A
 ld:Ld A S g
 kds:kd=false->∀st m,¬g.lack st m
 mays:MayOk A g may
 on:S.off=false->Oi A S o g D U
section
variable {A:Ar} {S S':Sh.Sf} {o:Nat->Int} {g g':Gh} {D U D' U':Set0} {may:Nat->List Sh.Bs} {kd:Bool} {y:Int} {x X:Sh.Bs} {t e:Stt} {m:Nat}
theorem me_inj {M a b:Nat} (h3:3<=M) (h1:stOf M a=stOf M b) (h2:meOf M a=meOf M b):a=b:=by
 obtain ⟨a1,a2,a3,_⟩:=me_ok (M:=M) (m:=a) h3
 obtain ⟨b1,b2,b3,_⟩:=me_ok (M:=M) (m:=b) h3
 rw [h1,h2,b3] at a3
 have e1:b%(M-1)=a%(M-1):=a3
 have e2:a / (M-1)=b / (M-1):=h1
 have:=Nat.div_add_mod a (M-1)
 have:=Nat.div_add_mod b (M-1)
 rw [e1,<- e2] at this
 omega
def pushM (may:Nat->List Sh.Bs) (m:Nat) (x:Sh.Bs):Nat->List Sh.Bs:=fun j=>if j=m then may j++[x] else may j
theorem MayOk.push (h:MayOk A g may) (m:Nat) (x:Sh.Bs):MayOk A g (pushM may m x):=fun j hj=>by
 obtain ⟨h1,h2⟩:=h j hj
 unfold pushM
 by_cases e:j=m
 ·rw [if_pos e]
  exact ⟨List.mem_append_left _ h1,fun old ho=>List.mem_append_left _ (h2 old ho)⟩
 ·rw [if_neg e];exact ⟨h1,h2⟩
theorem MayOk.gle (h:MayOk A g may) (k:Gle g' g):MayOk A g' may:=fun j hj=>⟨by rw [k.dat];exact (h j hj).1,fun old ho=>(h j hj).2 old (k.op _ _ ho)⟩
theorem MayOk.gw (h:MayOk A g may) (h3:3<=A.M) (k:Gw A.M g' g (stOf A.M m) (meOf A.M m) x):MayOk A g' (pushM may m x):=fun j hj=>by
 obtain ⟨h1,h2⟩:=h j hj
 by_cases e:j=m
 ·subst e
  unfold pushM
  rw [if_pos rfl]
  refine ⟨by rw [k.dat];exact List.mem_append_right _ (List.mem_singleton.2 rfl),fun old ho=>?_⟩
  rw [(k.opst _ _ ho).2]
  exact List.mem_append_left _ h1
 ·unfold pushM
  rw [if_neg e]
  have hne:=(me_ok (M:=A.M) (m:=j) h3).2.1
  by_cases c:stOf A.M j=stOf A.M m
  ·have hm:meOf A.M j≠meOf A.M m:=fun e2=>e (me_inj h3 c e2)
   refine ⟨?_,fun old ho=>?_⟩
   ·rw [k.rest _ _ fun q=>q.2.elim hm fun q=>hne (by rw [q,c])];exact h1
   ·rw [c] at ho
    exact absurd (k.opst _ _ ho).1 hm
  ·refine ⟨?_,fun old ho=>h2 old (k.op _ c _ ho)⟩
   rw [k.rest _ _ fun q=>c q.1];exact h1
theorem LastOk.gw (h:LastOk A g may) (h3:3<=A.M) (k:Gw A.M g' g (stOf A.M m) (meOf A.M m) x):LastOk A g' (pushM may m x):=fun j hj=>by
 obtain ⟨h1,h2⟩:=h j hj
 by_cases e:j=m
 ·subst e
  unfold pushM
  rw [if_pos rfl,k.dat]
  refine ⟨by simp,?_⟩
  simp [List.getD]
 ·unfold pushM
  rw [if_neg e]
  have hne:=(me_ok (M:=A.M) (m:=j) h3).2.1
  refine ⟨h1,h2.trans (k.rest _ _ fun q=>?_).symm⟩
  rcases q.2 with e2 | e2
  ·exact e (me_inj h3 q.1 e2)
  ·exact hne (by rw [e2,q.1])
def trimAll (may:Nat->List Sh.Bs):Nat->List Sh.Bs:=fun j=>(may j).drop ((may j).length-1)
theorem drop_last {l:List Sh.Bs} (h:l≠[]):l.drop (l.length-1)=[l.getD (l.length-1) []]:=by
 rcases Sh.snoc_cases l with rfl | ⟨t,x,rfl⟩
 ·exact absurd rfl h
 ·simp [List.getD]
theorem LastOk.trim (h:LastOk A g may):LastOk A g (trimAll may):=fun j hj=>by
 obtain ⟨h1,h2⟩:=h j hj
 unfold trimAll
 rw [drop_last h1,h2]
 exact ⟨by simp,by simp [List.getD]⟩
theorem trim_may (h:LastOk A g may) (ho:∀st,g.op st=none):MayOk A g (trimAll may):=fun j hj=>by
 obtain ⟨h1,h2⟩:=h j hj
 unfold trimAll
 rw [drop_last h1,h2]
 exact ⟨List.mem_singleton.2 rfl,fun old e=>by rw [ho] at e;cases e⟩
end
theorem isMap_set {w:World} {k:TypeId} {b:Nat} {D:Set0} (h:SetIs w k b D):IsMap D:=by
 obtain ⟨es,_,_,_,_,rfl⟩:=h
 exact ⟨_,rfl⟩
section
variable {A:Ar} {S S':Sh.Sf} {o:Nat->Int} {g g':Gh} {D U D' U':Set0} {may:Nat->List Sh.Bs} {kd:Bool} {y:Int} {x X:Sh.Bs} {t e:Stt} {m:Nat}
theorem read_out {LL M St:Nat} {s:SuP} {n:Int} (hn:¬(0<=n/\n<((St*(M-1):Nat):Int))) (hR:RdR LL s M St n S o y X t):y=1/\t=⟨S,o⟩:=by
 cases hR with
 | refused h0 =>
  refine ⟨?_,rfl⟩
  unfold refY hasB
  rw [decide_eq_false hn]
  rfl
 | there m y X t e1 e2=>exact absurd ⟨by omega,by omega⟩ hn
theorem write_out {nn LL M St:Nat} {s:SuP} {n:Int} (hn:¬(0<=n/\n<((St*(M-1):Nat):Int))) (hW:WrR nn LL s M St n x D U S o y e D' U'):y=1/\e=⟨S,o⟩/\D'=D/\U'=U:=by
 cases hW with
 | refused h0 =>
  refine ⟨?_,rfl,rfl,rfl⟩
  unfold refY hasB
  rw [decide_eq_false hn]
  rfl
 | flush m y t D1 U1 e1 e2=>exact absurd ⟨by omega,by omega⟩ hn
 | after m t D1 U1 y e D' U' e1 e2=>exact absurd ⟨by omega,by omega⟩ hn
 | first m y e D' U' e1 e2=>exact absurd ⟨by omega,by omega⟩ hn
theorem Inv.write (h:Inv A S o g D U may kd) (hlast:LastOk A g may) (hon:S.off=false) (hD:IsMap D) (hU:IsMap U) (hm:m<A.St*(A.M-1)) (hx:Sh.Sec x) (hW:WrR A.n A.L A.s A.M A.St (m:Int) x D U S o y e D' U') :
  ∃g',Inv A e.S e.o g' D' U' (pushM may m x) kd/\((y=0/\(e.S.off=false->LastOk A g' (pushM may m x)))\/(y=3/\e.S.off≠false)):=by
 have h3:=h.ci.ar.m3
 obtain ⟨q1,q2⟩:=(h.on hon).write h.ld hD hU hm hx hW
 have hld:∀{g':Gh},g'.lack=g.lack->Ld A e.S g':=fun hg st m a b c=>(q1 _).trans (h.ld st m a b (by rw [<- hg];exact c))
 rcases q2 with ⟨e1,g',e2,e3,e4⟩ | ⟨e1,e2,g',e3,e4⟩
 ·exact ⟨g',⟨e3,h.said,hld e2.lack,fun hk=>by rw [e2.lack];exact h.kds hk,h.mays.gw h3 e2,e4⟩,.inl ⟨e1,fun _=>hlast.gw h3 e2⟩⟩
 ·refine ⟨g',⟨e4,h.said,?_,fun hk=>?_,?_,fun q=>absurd q e2⟩,.inr ⟨e1,e2⟩⟩
  ·exact hld (e3.elim Gle.lack Gw.lack)
  ·rw [e3.elim Gle.lack Gw.lack];exact h.kds hk
  ·rcases e3 with e3 | e3
   ·exact (h.mays.push m x).gle e3
   ·exact h.mays.gw h3 e3
theorem Inv.flush (h:Inv A S o g D U may kd) (hlast:S.off=false->LastOk A g may) (hF:FlR A.n A.L D U S y e D' U') :
  ∃g',(y=0/\Inv A e.S e.o g' D' U' (trimAll may) kd/\(e.S.off=false->LastOk A g' (trimAll may)))\/(y=3/\e.S.off≠false/\Inv A e.S e.o g' D' U' may kd):=by
 by_cases hon:S.off=false
 ·obtain ⟨q1,q2⟩:=(h.on hon).fi.flush hF
  have hld:∀{g':Gh},g'.lack=g.lack->Ld A e.S g':=fun hg st m a b c=>(q1 _).trans (h.ld st m a b (by rw [<- hg];exact c))
  rcases q2 with ⟨r1,rfl,rfl,r3,r4⟩ | ⟨r1,r2,g',r3,r4⟩
  ·have hl:LastOk A g.closed may:=fun j hj=>(hlast hon) j hj
   exact ⟨g.closed,.inl ⟨r1,⟨r3,h.said,hld rfl,h.kds,trim_may hl fun _=>rfl,r4⟩,fun _=>hl.trim⟩⟩
  ·exact ⟨g',.inr ⟨r1,r2,⟨r4,h.said,hld r3.lack,fun hk=>by rw [r3.lack];exact h.kds hk,h.mays.gle r3,fun q=>absurd q r2⟩⟩⟩
 ·have h3:=fdS_off hon h.ci.n1
  have off:∀{o':Nat->Int},Inv A S o' g D U may kd:=⟨⟨h.ci.ar,h.ci.ok,fun d x1 x2=>(h.ci.disk d x1 x2).off_any hon _,h.ci.dead,h.ci.rc,h.ci.len,h.ci.fit,h.ci.sec⟩,h.said,h.ld,h.kds,h.mays,fun q=>absurd q hon⟩
  cases hF with
  | first o' h0 =>
   rw [h3]
   exact ⟨g,.inr ⟨rfl,hon,off⟩⟩
  | none o' h0 _=>exact absurd ((congrArg Prod.snd h3).symm.trans h0) (show ¬(3:Int)=0 by decide)
  | slots o1 y b h0 _ _ _=>exact absurd ((congrArg Prod.snd h3).symm.trans h0) (show ¬(3:Int)=0 by decide)
  | again o1 o' b h0 _ _ _=>exact absurd ((congrArg Prod.snd h3).symm.trans h0) (show ¬(3:Int)=0 by decide)
  | all o1 o' b h0 _ _ _=>exact absurd ((congrArg Prod.snd h3).symm.trans h0) (show ¬(3:Int)=0 by decide)
/-! ### a crash -/
end
section
variable {S S':Sh.Sf} {d k j:Nat} {o y z:Int} {b:Sh.Bs}
theorem dw_calm (h:Calm S d) (hk:k<blk S.sectors) (hD:DW S d o k b y z S'):y=0/\Put S d k b S':=by
 rcases hD with ⟨hw,_⟩ | ⟨_,b',R,_,rfl,_,rfl,_,_,rfl⟩
 ·exact absurd h.why hw
 ·exact ⟨(ready_over h o k hk b b').1.calm.why,put_done h o k hk b b'⟩
theorem sw_calm (h:Calm S d) (hk:k<blk S.sectors) (hD:SwR S d o k b y z S'):y=0/\∃S1 o1,DW S d o k b 0 o1 S1/\Put S d k b S1/\S'=Fl S1 d:=by
 obtain ⟨y1,o1,S1,h1,h2⟩:=hD
 obtain ⟨rfl,hp⟩:=dw_calm h hk h1
 rcases h2 with ⟨e,_⟩ | ⟨_,rfl,_,rfl⟩
 ·exact absurd rfl e
 ·exact ⟨hp.over.calm.why,S1,o1,h1,hp,rfl⟩
theorem Over.calms {N:Nat->Prop} (h:Over S d N S') {e:Nat} (he:Calm S e):Calm S' e:=by
 by_cases c:e=d
 ·rw [c];exact h.calm
 ·exact ⟨by rw [h.len];exact he.lt,h.calm.on,h.calm.left,by rw [h.alike e c];exact he.alive,by rw [h.alike e c,h.sectors];exact he.len⟩
theorem Put.other (h:Put S d k b S') (hl:(V S d (sumOf k)).length=128) (hj:j<blk S.sectors) (hne:j≠k):goodAt S' d j=goodAt S d j/\V S' d (dataOf j)=V S d (dataOf j):=by
 have hd:=h.over.same (dataOf j) (sum_of_lt hj).1 (fun e=>e.elim (fun e=>data_ne_sum j k e) (fun e=>hne (dataOf_inj e)))
 refine ⟨?_,hd⟩
 show goodL d j (V S' d (sumOf j)) (V S' d (dataOf j))=goodL d j (V S d (sumOf j)) (V S d (dataOf j))
 rw [hd]
 by_cases c:sumOf j=sumOf k
 ·rw [c,h.sums,goodL_other hl (sumOf_eq c hne)]
 ·rw [h.over.same (sumOf j) (sum_of_lt hj).2.1 (fun e=>e.elim c (fun e=>data_ne_sum k j e.symm))]
theorem Put.seen (h:Put S d k b S') (hc:∀e,e<S.disks.length->Calm S e) (hl:(V S d (sumOf k)).length=128) (hb:Small b) {e:Nat} (he:e<S.disks.length) (hj:j<blk S.sectors) :
  seen S' e j=if e=d/\j=k then some b else U.seen S e j:=by
 have h1:Sh.why S' e=0:=(h.over.calms (hc e he)).why
 have h2:Sh.why S e=0:=(hc e he).why
 unfold U.seen
 rw [if_pos h1,if_pos h2]
 by_cases c:e=d
 ·subst c
  by_cases cj:j=k
  ·subst cj
   rw [if_pos ⟨rfl,rfl⟩,vo_eq,if_pos (h.good hl hb),h.data]
  ·rw [if_neg (fun e=>cj e.2),vo_eq,vo_eq,(h.other hl hj cj).1,(h.other hl hj cj).2]
 ·rw [if_neg (fun e=>c e.1)]
  exact congrFun (vo_dk (h.over.alike e c)) j
theorem Over.fl_seen (h:Calm S d) (hc:∀e,e<S.disks.length->Calm S e) {e:Nat} (he:e<S.disks.length) (hj:j<blk S.sectors):seen (Fl S d) e j=seen S e j:=by
 have ho:Over S d (fun _=>False) (Fl S d):=Over.fl h
 have h1:Sh.why (Fl S d) e=0:=(ho.calms (hc e he)).why
 have h2:Sh.why S e=0:=(hc e he).why
 unfold seen
 rw [if_pos h1,if_pos h2]
 by_cases c:e=d
 ·subst c
  obtain ⟨q1,q2,_⟩:=sum_of_lt hj
  rw [vo_eq,vo_eq]
  have a1:=ho.same (dataOf j) q1 id
  have a2:=ho.same (sumOf j) q2 id
  rw [a1]
  show (if goodL _ _ _ _=true then _ else _)=if goodL _ _ _ _=true then _ else _
  rw [a1,a2]
 ·exact congrFun (vo_dk (ho.alike e c)) j
end
structure Ws (A:Ar) (S:Sh.Sf) (g:Nat->Nat->Sh.Bs) (lk:Nat->Nat->Prop):Prop where
 ar:ArOk A
 calm:∀d,d<A.n->Calm S d
 sec:SecS S
 len:S.disks.length=A.n
 fit:2+2*A.L+A.St<=blk S.sectors
 sum:∀st,st<A.St->SumZ A.M (g st)
 gsec:∀st m,st<A.St->m<A.M->Sh.Sec (g st m)
 vals:∀st,st<A.St->∀m,m<A.M->seen S (A.num st m) (A.at st)=some (g st m)\/(lk st m/\seen S (A.num st m) (A.at st)=none)
 uniq:∀st m m',st<A.St->lk st m->lk st m'->m=m'
section
variable {A:Ar} {S S':Sh.Sf} {g:Nat->Nat->Sh.Bs} {lk:Nat->Nat->Prop} {st m:Nat} {o y z:Int} {of:Nat->Int} {b X:Sh.Bs} {t:Stt}
theorem Ws.at_lt (h:Ws A S g lk) (hst:st<A.St):A.at st<blk S.sectors:=by have:=h.fit;unfold Ar.at;omega
theorem Ws.on (h:Ws A S g lk):S.off=false:=(h.calm 0 (by have:=h.ar.num 0 0 (by have:=h.ar.m3;omega);omega)).on
theorem Ws.calms (h:Ws A S g lk):∀e,e<S.disks.length->Calm S e:=fun e he=>h.calm e (by rw [<- h.len];exact he)
theorem Ws.same (h:Ws A S g lk) (hs:Same S S'):Ws A S' g lk :=
 ⟨h.ar,fun d hd=>by
  have c:=h.calm d hd
  exact ⟨by rw [hs.disks];exact c.lt,hs.off.trans c.on,hs.left.trans c.left,by rw [hs.disks];exact c.alive,by rw [hs.disks,hs.sectors];exact c.len⟩,h.sec.same hs,by rw [hs.disks];exact h.len,by rw [hs.sectors];exact h.fit,h.sum,h.gsec,fun st hst m hm=>by rw [seen_same hs];exact h.vals st hst m hm,h.uniq⟩
theorem Ws.len128 (h:Ws A S g lk) {d:Nat} (hd:d<A.n) (hst:st<A.St):(V S d (sumOf (A.at st))).length=128:=(h.sec.V (by rw [h.len];exact hd) (sum_of_lt (h.at_lt hst)).2.1).1
theorem Ws.put (h:Ws A S g lk) (hst:st<A.St) (hm:m<A.M) (hp:Put S (A.num st m) (A.at st) (g st m) S') (hsec:SecS S'):Ws A S' g (fun s x=>lk s x/\¬(s=st/\x=m)):=by
 have hd:=h.ar.num st m hm
 have hsn:=fun e (he:e<A.n) j (hj:j<blk S.sectors)=>hp.seen (j:=j) h.calms (h.len128 hd hst) (h.gsec st m hst hm).2 (e:=e) (by rw [h.len];exact he) hj
 refine ⟨h.ar,fun d hd=>hp.over.calms (h.calm d hd),hsec,hp.over.len.trans h.len,by rw [hp.over.sectors];exact h.fit,h.sum,h.gsec,fun s hs x hx=>?_,fun s a b h1 h2 h3=>h.uniq s a b h1 h2.1 h3.1⟩
 rw [hsn _ (h.ar.num s x hx) _ (h.at_lt hs)]
 by_cases c:A.num s x=A.num st m/\A.at s=A.at st
 ·rw [if_pos c]
  have e1:s=st:=by have:=c.2;unfold Ar.at at this;omega
  subst e1
  have e2:=h.ar.inj s x m hx hm c.1
  subst e2
  exact .inl rfl
 ·rw [if_neg c]
  rcases h.vals s hs x hx with e | ⟨e1,e2⟩
  ·exact .inl e
  ·refine .inr ⟨⟨e1,fun e=>c ?_⟩,e2⟩
   rw [e.1,e.2];exact ⟨rfl,rfl⟩
theorem Ws.less {lk':Nat->Nat->Prop} (h:Ws A S g lk) (hl:∀st m,st<A.St->m<A.M->lk st m->lk' st m) (hu:∀st m m',st<A.St->lk' st m->lk' st m'->m=m'):Ws A S g lk' :=
 ⟨h.ar,h.calm,h.sec,h.len,h.fit,h.sum,h.gsec,fun st hst m hm=>(h.vals st hst m hm).imp id fun e=>⟨hl st m hst hm e.1,e.2⟩,hu⟩
theorem Ws.fl (h:Ws A S g lk) {d:Nat} (hd:d<A.n):Ws A (Fl S d) g lk:=by
 have ho:Over S d (fun _=>False) (Fl S d):=Over.fl (h.calm d hd)
 exact ⟨h.ar,fun e he=>ho.calms (h.calm e he),h.sec.fl (by rw [h.len];exact hd),ho.len.trans h.len,by rw [ho.sectors];exact h.fit,h.sum,h.gsec,fun st hst m hm=>by rw [Over.fl_seen (h.calm d hd) h.calms (by rw [h.len];exact h.ar.num st m hm) (h.at_lt hst)];exact h.vals st hst m hm,h.uniq⟩
theorem Ws.should (h:Ws A S g lk) (hst:st<A.St) (hm:m<A.M) (hl:lk st m):(tog A.s A.M (A.at st) st (tkNot m) S A.M).2.2=0/\(tog A.s A.M (A.at st) st (tkNot m) S A.M).2.1=g st m :=
 tog_not h.on (h.sum st hst) (fun x hx=>h.gsec st x hst hx) hm fun x hx hne=>by
  rcases h.vals st hst x hx with e | ⟨e,_⟩
  ·exact e
  ·exact absurd (h.uniq st x m hst e hl) hne
theorem Ws.read {m:Nat} (h:Ws A S g lk) (hm:m<A.St*(A.M-1)) (hR:RdR A.L A.s A.M A.St (m:Int) S of y X t) :
  y=0/\X=g (stOf A.M m) (meOf A.M m)/\Ws A t.S g (fun s x=>lk s x/\¬(s=stOf A.M m/\x=meOf A.M m)):=by
 have h3:=h.ar.m3
 have hst:=st_lt h3 hm
 obtain ⟨w1,_,_,_⟩:=me_ok (M:=A.M) (m:=m) h3
 have hd:=h.ar.num (stOf A.M m) (meOf A.M m) w1
 have hno:∀{T:Sh.Sf},Ws A T g lk->¬lk (stOf A.M m) (meOf A.M m)->Ws A T g (fun s x=>lk s x/\¬(s=stOf A.M m/\x=meOf A.M m)):=fun hT hn=>hT.less (fun s x _ _ e=>⟨e,fun e2=>hn (by rw [<- e2.1,<- e2.2];exact e)⟩) fun s a b q e1 e2=>h.uniq s a b q e1.1 e2.1
 have hv:=h.vals _ hst _ w1
 cases hR with
 | refused h0 =>
  exfalso
  unfold refY hasB at h0
  rw [h.on,decide_eq_true (⟨by omega,by omega⟩:0<=(m:Int)/\(m:Int)<((A.St*(A.M-1):Nat):Int))] at h0
  exact h0 rfl
 | there m' y X t e1 _ _ hT =>
  obtain rfl:m'=m:=by omega
  have h4:rdY S (A.num (stOf A.M m') (meOf A.M m')) (A.at (stOf A.M m'))≠4:=fun e=>by
   unfold rdY at e
   rw [if_pos (h.calm _ hd).why] at e
   split at e<;>cases e
  have hls:=Same.looked (Same.refl S) (numOf A.s A.M (stOf A.M m') (meOf A.M m'))
  have hW:=h.same hls
  cases hT with
  | plain hn =>
   rcases hv with e | ⟨_,e⟩
   ·obtain ⟨q1,q2⟩:=seen_some h.on e
    refine ⟨q1,q2,?_⟩
    by_cases hl:lk (stOf A.M m') (meOf A.M m')
    ·refine ⟨hW.ar,hW.calm,hW.sec,hW.len,hW.fit,hW.sum,hW.gsec,fun s hs x hx=>?_,fun s a b q e1 e2=>h.uniq s a b q e1.1 e2.1⟩
     rcases hW.vals s hs x hx with a | ⟨a1,a2⟩
     ·exact .inl a
     ·refine .inr ⟨⟨a1,fun e2=>?_⟩,a2⟩
      rw [seen_same hls,e2.1,e2.2,e] at a2
      cases a2
    ·exact hno hW hl
   ·exact absurd (seen_none h.on e) hn
  | lack hn h0 =>
   rcases hv with e | ⟨e1,_⟩
   ·have:=(seen_some h.on e).1
    have hn':rdY S (A.num (stOf A.M m') (meOf A.M m')) (A.at (stOf A.M m'))=4\/rdY S (A.num (stOf A.M m') (meOf A.M m')) (A.at (stOf A.M m'))=5:=hn
    rw [this] at hn'
    exact absurd hn' (by decide)
   ·exact absurd (hW.should hst w1 e1).1 h0
  | dead hn _=>exact absurd hn h4
  | bad z x S2 hn h0 hD hz =>
   rcases hv with e | ⟨e1,_⟩
   ·have:=(seen_some h.on e).1
    have hn':rdY S (A.num (stOf A.M m') (meOf A.M m')) (A.at (stOf A.M m'))=5:=hn
    rw [this] at hn'
    exact absurd hn' (by decide)
   ·have hT:=hW.same (tog_same (s:=A.s) (M:=A.M) (k:=A.at (stOf A.M m')) (st:=stOf A.M m') (tk:=tkNot (meOf A.M m')) A.M)
    exact absurd (dw_calm (hT.calm _ hd) (hT.at_lt hst) hD).1 hz
  | mend x S2 hn h0 hD =>
   rcases hv with e | ⟨e1,_⟩
   ·have:=(seen_some h.on e).1
    have hn':rdY S (A.num (stOf A.M m') (meOf A.M m')) (A.at (stOf A.M m'))=5:=hn
    rw [this] at hn'
    exact absurd hn' (by decide)
   ·have hs:=(hW.should hst w1 e1).2
    have hT:=hW.same (tog_same (s:=A.s) (M:=A.M) (k:=A.at (stOf A.M m')) (st:=stOf A.M m') (tk:=tkNot (meOf A.M m')) A.M)
    have hD:DW (tog A.s A.M (A.at (stOf A.M m')) (stOf A.M m') (tkNot (meOf A.M m')) (Looked S (numOf A.s A.M (stOf A.M m') (meOf A.M m'))) A.M).1 (A.num (stOf A.M m') (meOf A.M m')) (of (numOf A.s A.M (stOf A.M m') (meOf A.M m'))) (A.at (stOf A.M m')) (tog A.s A.M (A.at (stOf A.M m')) (stOf A.M m') (tkNot (meOf A.M m')) (Looked S (numOf A.s A.M (stOf A.M m') (meOf A.M m'))) A.M).2.1 0 x S2:=hD
    rw [hs] at hD
    have hp:=(dw_calm (hT.calm _ hd) (hT.at_lt hst) hD).2
    exact ⟨rfl,hs,hT.put hst w1 hp (hT.sec.dw (by rw [hT.len];exact hd) (hT.at_lt hst) (h.gsec _ _ hst w1) hD)⟩
end
section
variable {A:Ar} {S S':Sh.Sf} {g:Nat->Nat->Sh.Bs} {lk:Nat->Nat->Prop} {st m:Nat} {y z nn:Int} {of:Nat->Int} {b X:Sh.Bs} {t:Stt} {D' U':Set0}
theorem Ws.rdY (h:Ws A S g lk) (hst:st<A.St) (hm:m<A.M):(rdY S (A.num st m) (A.at st)=0/\seen S (A.num st m) (A.at st)=some (V S (A.num st m) (dataOf (A.at st)))/\V S (A.num st m) (dataOf (A.at st))=g st m)\/(U.rdY S (A.num st m) (A.at st)=5/\seen S (A.num st m) (A.at st)=none/\lk st m):=by
 have hd:=h.ar.num st m hm
 rcases rdY_seen h.on (A.num st m) (A.at st) with ⟨e1,e2⟩ | ⟨e1,e2⟩
 ·refine .inl ⟨e1,e2,?_⟩
  rcases h.vals st hst m hm with e | ⟨_,e⟩
  ·rw [e2] at e;injection e
  ·rw [e2] at e;cases e
 ·refine .inr ⟨?_,e2,?_⟩
  ·rcases e1 with e | e
   ·exfalso
    unfold U.rdY at e
    rw [if_pos (h.calm _ hd).why] at e
    split at e<;>cases e
   ·exact e
  ·rcases h.vals st hst m hm with e | ⟨e,_⟩
   ·rw [e2] at e;cases e
   ·exact e
theorem Ws.mdl (h:Ws A S g lk) (hst:st<A.St):∀j,j<=A.M->(U.mdl A.s A.M (A.at st) st S j).y=0/\(U.mdl A.s A.M (A.at st) st S j).dead=[]/\(∀m∈(U.mdl A.s A.M (A.at st) st S j).bad,m<j/\seen S (A.num st m) (A.at st)=none)/\(∀m,m<j->seen S (A.num st m) (A.at st)=none->m∈(U.mdl A.s A.M (A.at st) st S j).bad) /\
  (U.mdl A.s A.M (A.at st) st S j).x.length=128/\((∀m,m<j->seen S (A.num st m) (A.at st)≠none)->∀i,i<128->(U.mdl A.s A.M (A.at st) st S j).x.getD i 0=xf (fun m=>(g st m).getD i 0) tkAll j)
 | 0,_=>⟨rfl,rfl,(fun _ h=>by cases h),fun _ h=>absurd h (Nat.not_lt_zero _),Sh.noughts_sec.1,fun _ i _=>noughts_at i⟩
 | j+1,hj=>by
  obtain ⟨h1,h2,h3,h4,h5,h6⟩:=h.mdl hst j (by omega)
  have hsm:=mdl_same (s:=A.s) (M:=A.M) (k:=A.at st) (st:=st) (S:=S) j
  have hV:V (U.mdl A.s A.M (A.at st) st S j).S (numOf A.s A.M st j) (dataOf (A.at st))=V S (A.num st j) (dataOf (A.at st)):=by unfold V;rw [hsm.disks];rfl
  have hy:U.rdY (U.mdl A.s A.M (A.at st) st S j).S (numOf A.s A.M st j) (A.at st)=U.rdY S (A.num st j) (A.at st):=hsm.rdY _ _
  rw [mdl_succ h1,hy,hV]
  rcases h.rdY hst (m:=j) (by omega) with ⟨e1,e2,e3⟩ | ⟨e1,e2,_⟩
  ·rw [if_pos e1]
   refine ⟨rfl,h2,fun m hm=>⟨Nat.lt_succ_of_lt (h3 m hm).1,(h3 m hm).2⟩,fun m hm hn=>?_,by rw [xorL_len];exact h5,fun hno i hi=>?_⟩
   ·by_cases c:m=j
    ·rw [c,e2] at hn;cases hn
    ·exact h4 m (by omega) hn
   ·show (xorL (U.mdl A.s A.M (A.at st) st S j).x (V S (A.num st j) (dataOf (A.at st)))).getD i 0=_
    rw [xl_at h5 hi,h6 (fun m hm=>hno m (by omega)) i hi,e3]
    rfl
  ·rw [if_neg (by rw [e1];decide),if_pos e1]
   refine ⟨rfl,h2,fun m hm=>?_,fun m hm hn=>?_,h5,fun hno=>absurd e2 (hno j (Nat.lt_succ_self j))⟩
   ·rcases List.mem_append.1 hm with e | e
    ·exact ⟨Nat.lt_succ_of_lt (h3 m e).1,(h3 m e).2⟩
    ·rw [List.mem_singleton.1 e];exact ⟨Nat.lt_succ_self j,e2⟩
   ·by_cases c:m=j
    ·rw [c];exact List.mem_append_right _ (List.mem_singleton.2 rfl)
    ·exact List.mem_append_left _ (h4 m (by omega) hn)
theorem Ws.whole (h:Ws A S g lk) (hst:st<A.St) (hno:∀m,m<A.M->seen S (A.num st m) (A.at st)≠none):(tog A.s A.M (A.at st) st (fun _=>true) S A.M).2.2=0/\(tog A.s A.M (A.at st) st (fun _=>true) S A.M).2.1=Sh.noughts:=by
 obtain ⟨q1,q2,q3⟩:=tog_there (s:=A.s) (M:=A.M) (k:=A.at st) (st:=st) h.on (tk:=fun _=>true) (g st) fun m hm _=>by
  rcases h.vals st hst m hm with e | ⟨_,e⟩
  ·exact e
  ·exact absurd e (hno m hm)
 refine ⟨q1,sec_ext q2 Sh.noughts_sec.1 fun i hi=>?_⟩
 rw [q3 i hi,noughts_at]
 exact h.sum st hst i hi
theorem Ws.mend (h:Ws A S g lk) (hst:st<A.St) (hR:MdR A.n A.L A.s A.M st noSet noSet S of nn y t D' U') :
  y=0/\D'=noSet/\U'=noSet/\Ws A t.S g (fun s x=>lk s x/\s≠st)/\(∀m,m<A.M->seen t.S (A.num st m) (A.at st)≠none)/\(∀s x,s<A.St->x<A.M->s≠st->seen t.S (A.num s x) (A.at s)=seen S (A.num s x) (A.at s)) /\
  ((nn=1/\∃m,m<A.M/\seen S (A.num st m) (A.at st)=none)\/(nn=0/\∀m,m<A.M->seen S (A.num st m) (A.at st)≠none)):=by
 have hset:∀{y:Int} {t:Stt} {D' U':Set0},SetlR A.n A.L noSet noSet S of y t D' U'->y=0/\t=⟨S,of⟩/\D'=noSet/\U'=noSet:=fun hs=>by
  rcases hs with ⟨_,_,e1,e2,e3,e4⟩ | ⟨e,_⟩
  ·exact ⟨e1,e2,e3,e4⟩
  ·exact absurd ⟨rfl,rfl⟩ e
 obtain ⟨m1,m2,m3,m4,m5,m6⟩:=h.mdl hst A.M (Nat.le_refl _)
 have hsm:=mdl_same (s:=A.s) (M:=A.M) (k:=A.at st) (st:=st) (S:=S) A.M
 have hM:=h.same hsm
 have hx0:(∀m,m<A.M->seen S (A.num st m) (A.at st)≠none)->(U.mdl A.s A.M (A.at st) st S A.M).x=Sh.noughts:=fun hno=>sec_ext m5 Sh.noughts_sec.1 fun i hi=>by
  rw [m6 hno i hi,noughts_at]
  exact h.sum st hst i hi
 cases hR with
 | busy y t D' U' hs hy=>exact absurd (hset hs).1 hy
 | stop t D' U' r hs hr hy =>
  obtain ⟨_,rfl,_,_⟩:=hset hs
  have hr:U.mdl A.s A.M (A.at st) st S A.M=r:=hr
  rw [<- hr] at hy
  exact absurd m1 hy
 | quiet t D' U' r hs hr hy hb hd =>
  obtain ⟨_,rfl,rfl,rfl⟩:=hset hs
  have hr:U.mdl A.s A.M (A.at st) st S A.M=r:=hr
  subst hr
  have hno:∀m,m<A.M->seen S (A.num st m) (A.at st)≠none:=fun m hm e=>by
   have:=m4 m hm e
   rw [hb] at this
   cases this
  have hno2:∀m,m<A.M->seen (U.mdl A.s A.M (A.at st) st S A.M).S (A.num st m) (A.at st)≠none:=fun m hm=>by rw [seen_same hsm];exact hno m hm
  refine ⟨rfl,rfl,rfl,⟨hM.ar,hM.calm,hM.sec,hM.len,hM.fit,hM.sum,hM.gsec,fun s hs x hx=>?_,fun s a b q e1 e2=>h.uniq s a b q e1.1 e2.1⟩,hno2,fun _ _ _ _ _=>seen_same hsm _ _,.inr ⟨rfl,hno⟩⟩
  rcases hM.vals s hs x hx with a | ⟨a1,a2⟩
  ·exact .inl a
  ·exact .inr ⟨⟨a1,fun e=>by rw [e] at a2;exact hno2 x hx a2⟩,a2⟩
 | mends t e D' U' b y r hs hr hy hc hRo =>
  obtain ⟨_,rfl,rfl,rfl⟩:=hset hs
  have hr:U.mdl A.s A.M (A.at st) st S A.M=r:=hr
  subst hr
  obtain ⟨l,hb⟩:∃l,(U.mdl A.s A.M (A.at st) st S A.M).bad=b :: l:=by
   rcases hc with hc | ⟨hb,_,hx,_⟩
   ·exact hc
   ·refine absurd (hx0 fun m hm e=>?_) hx
    have:=m4 m hm e
    rw [hb] at this
    cases this
  obtain ⟨hbM,hbn⟩:=m3 b (by rw [hb];exact List.mem_cons_self ..)
  have hlk:lk st b:=by
   rcases h.vals st hst b hbM with e | ⟨e,_⟩
   ·rw [hbn] at e;cases e
   ·exact e
  have hsh:=hM.should hst hbM hlk
  have hdn:=h.ar.num st b hbM
  cases hRo with
  | lack h0=>exact absurd hsh.1 h0
  | done y z S2 _ hsw =>
   have hT:=hM.same (tog_same (s:=A.s) (M:=A.M) (k:=A.at st) (st:=st) (tk:=tkNot b) A.M)
   have hsw:SwR (tog A.s A.M (A.at st) st (tkNot b) (U.mdl A.s A.M (A.at st) st S A.M).S A.M).1 (A.num st b) (of (A.num st b)) (A.at st) (tog A.s A.M (A.at st) st (tkNot b) (U.mdl A.s A.M (A.at st) st S A.M).S A.M).2.1 y z S2:=hsw
   rw [hsh.2] at hsw
   obtain ⟨rfl,S1,o1,hD,hp,rfl⟩:=sw_calm (hT.calm _ hdn) (hT.at_lt hst) hsw
   have hsec:SecS S1:=hT.sec.dw (by rw [hT.len];exact hdn) (hT.at_lt hst) (h.gsec st b hst hbM) hD
   have hW:=(hT.put hst hbM hp hsec).fl hdn
   have hno:∀m,m<A.M->seen (Fl S1 (A.num st b)) (A.num st m) (A.at st)≠none:=fun m hm e=>by
    rcases hW.vals st hst m hm with a | ⟨⟨a1,a2⟩,_⟩
    ·rw [e] at a;cases a
    ·exact a2 ⟨rfl,h.uniq st m b hst a1 hlk⟩
   refine ⟨rfl,rfl,rfl,⟨hW.ar,hW.calm,hW.sec,hW.len,hW.fit,hW.sum,hW.gsec,fun s hs x hx=>?_,fun s a b q e1 e2=>h.uniq s a b q e1.1 e2.1⟩,hno,fun s x hs hx hne=>?_,.inl ⟨rfl,b,hbM,hbn⟩⟩
   ·rcases hW.vals s hs x hx with a | ⟨a1,a2⟩
    ·exact .inl a
    ·exact .inr ⟨⟨a1.1,fun e=>by rw [e] at a2;exact hno x hx a2⟩,a2⟩
   ·have hP:=hT.put hst hbM hp hsec
    rw [Over.fl_seen (hP.calm _ hdn) hP.calms (by rw [hP.len];exact h.ar.num s x hx) (hP.at_lt hs),hp.seen hT.calms (hT.len128 hdn hst) (h.gsec st b hst hbM).2 (by rw [hT.len];exact h.ar.num s x hx) (hT.at_lt hs),if_neg (fun e=>hne (by have:=e.2;unfold Ar.at at this;omega)),seen_same (tog_same (s:=A.s) (M:=A.M) (k:=A.at st) (st:=st) (tk:=tkNot b) A.M),seen_same hsm]
end
section
variable {S:Sh.Sf} {o:Nat->Int} {D U D' U':Set0} {y:Int} {x X:Sh.Bs} {t e:Stt} {m:Nat}
theorem waits_same {S T:Sh.Sf} (h:Same S T) (hL:∀x∈S.disks,x.waits.length<=m):∀x∈T.disks,x.waits.length<=m:=by rw [h.disks];exact hL
theorem waits_more {T:Sh.Sf} {a b:Nat} (hab:a<=b) (hL:∀x∈T.disks,x.waits.length<=a):∀x∈T.disks,x.waits.length<=b:=fun x hx=>Nat.le_trans (hL x hx) hab
theorem RdT.waits {s:SuP} {M k st me:Nat} (h:RdT s M k st me S o y X t) (hL:∀x∈S.disks,x.waits.length<=m):∀x∈t.S.disks,x.waits.length<=m+3:=by
 have hs:Same S (shouldR s M k st me S).1:=((Same.refl S).looked _).trans (tog_same M)
 cases h with
 | plain _=>exact waits_more (Nat.le_add_right _ _) (waits_same ((Same.refl S).looked _) hL)
 | lack _ _=>exact waits_more (Nat.le_add_right _ _) (waits_same hs hL)
 | dead _ _=>exact waits_more (Nat.le_add_right _ _) (waits_same hs hL)
 | bad z x S2 _ _ hD _=>exact hD.waits (waits_same hs hL)
 | mend x S2 _ _ hD=>exact hD.waits (waits_same hs hL)
theorem RdR.waits {LL M St:Nat} {s:SuP} {n:Int} (h:RdR LL s M St n S o y X t) (hL:∀x∈S.disks,x.waits.length<=m):∀x∈t.S.disks,x.waits.length<=m+3:=by
 cases h with
 | refused _=>exact waits_more (Nat.le_add_right _ _) hL
 | there m' y X t _ _ _ hT=>exact hT.waits hL
theorem WrT.waits {nn LL M k st a pl b:Nat} {s:SuP} (hn:nn<=17) (h8:LL<=8) (h:WrT nn LL s M k st a pl b x D U t y e D' U') (hL:∀x∈t.S.disks,x.waits.length<=m):∀x∈e.S.disks,x.waits.length<=m+500:=by
 cases h with
 | io=>exact waits_more (by omega) hL
 | data y z S2 _ _ hw=>exact waits_more (by omega) (hw.waits hL)
 | par y e D' U' _ _ hw =>
  cases hw with
  | lack=>exact waits_more (by omega) (waits_same (tog_same M) hL)
  | done y z S2 _ hw=>exact waits_more (by omega) (hw.waits (waits_same (tog_same M) hL))
 | both y e D' U' _ _ hw =>
  cases hw with
  | lack=>exact waits_more (by omega) (waits_same partR_same hL)
  | recd y a1 D1 U1 _ hr _ =>
   have:=hr.waits hn h8 (m:=m) (waits_same (T:=(partR s M k st a b t.S).1) partR_same hL)
   exact waits_more (by omega) this
  | data y a1 D1 U1 z S2 _ hr hw _ =>
   have:=hw.waits (hr.waits hn h8 (m:=m) (waits_same (T:=(partR s M k st a b t.S).1) partR_same hL))
   exact waits_more (by omega) this
  | both y a1 D1 U1 z z3 S2 S3 _ hr hw hw2 =>
   have:=hw2.waits (hw.waits (hr.waits hn h8 (m:=m) (waits_same (T:=(partR s M k st a b t.S).1) partR_same hL)))
   exact waits_more (by omega) this
theorem WrR.waits {nn LL M St:Nat} {s:SuP} {n:Int} (hn:nn<=17) (h8:LL<=8) (h:WrR nn LL s M St n x D U S o y e D' U') (hL:∀x∈S.disks,x.waits.length<=m):∀x∈e.S.disks,x.waits.length<=m+1000:=by
 cases h with
 | refused=>exact waits_more (by omega) hL
 | flush _ _ _ _ _ _ _ _ _ hf=>exact waits_more (by omega) (hf.waits hn h8 hL)
 | after _ t _ _ _ _ _ _ _ _ _ _ hf hw =>
  have:=WrT.waits hn h8 hw (hf.waits hn h8 hL)
  exact waits_more (by omega) this
 | first _ _ _ _ _ _ _ _ _ hw=>exact waits_more (by omega) (WrT.waits (t:=⟨S,o⟩) hn h8 hw hL)
theorem tidy_puti (h:Tidy D) (k:Nat):Tidy (D.put (.int .i64 (k:Int)) one0)/\Maps.size (D.put (.int .i64 (k:Int)) one0)<=Maps.size D+1 :=
 ⟨h.put (show WideAt.IsKeyLit (.int .i64 (k:Int)) from trivial) _,by rw [Maps.size_put h];split<;>omega⟩
theorem FlR.opensOf {n L:Nat} {b:Stt} (h:FlR n L D U S y b D' U'):D'=D\/D'=noSet:=by
 cases h with
 | first o' h=>exact .inl rfl
 | slots o1 y b h1 h2 h3 h4=>exact .inl rfl
 | again o1 o' b h1 h2 h3 h4=>exact .inl rfl
 | none o' h1 h2=>exact .inr rfl
 | all o1 o' b h1 h2 h3 h4=>exact .inr rfl
theorem tidy_of {D1:Set0} (h:D1=D\/D1=noSet) (hD:Tidy D/\Maps.size D<=m):Tidy D1/\Maps.size D1<=m:=by
 rcases h with rfl | rfl
 ·exact hD
 ·exact ⟨tidy_empty,Nat.zero_le _⟩
theorem RecR.opensOf {n L d:Nat} {l hd:Sh.Bs} {a b:Stt} (h:RecR n L d l hd a D U y b D' U'):D'=D\/D'=noSet:=by
 rcases h with ⟨_,rfl,_⟩ | ⟨_,y1,a1,D1,U1,h1,⟨_,_,_,rfl,_⟩ | ⟨_,rfl,_⟩⟩
 ·exact .inl rfl
 ·exact h1.opensOf
 ·exact h1.opensOf
theorem tidy_more {D:Set0} {a b:Nat} (hab:a<=b) (h:Tidy D/\Maps.size D<=a):Tidy D/\Maps.size D<=b:=⟨h.1,Nat.le_trans h.2 hab⟩
theorem tidy_put1 (k:Nat) (h:Tidy D/\Maps.size D<=m):Tidy (D.put (.int .i64 (k:Int)) one0)/\Maps.size (D.put (.int .i64 (k:Int)) one0)<=m+1:=by
 obtain ⟨h1,h2⟩:=tidy_puti h.1 k
 exact ⟨h1,Nat.le_trans h2 (Nat.succ_le_succ h.2)⟩
theorem WrT.opensOf {nn LL M k st a pl b:Nat} {s:SuP} (h:WrT nn LL s M k st a pl b x D U t y e D' U') (hD:Tidy D/\Maps.size D<=m):Tidy D'/\Maps.size D'<=m+2:=by
 cases h with
 | io=>exact tidy_more (by omega) hD
 | data=>first
  | exact tidy_more (by omega) (tidy_put1 st hD)
  | exact tidy_more (by omega) hD
 | par y e D' U' _ _ hw=>cases hw with
  | lack=>exact tidy_more (by omega) hD
  | done=>first
   | exact tidy_more (by omega) (tidy_put1 st hD)
   | exact tidy_more (by omega) hD
 | both y e D' U' _ _ hw=>cases hw with
  | lack=>exact tidy_more (by omega) hD
  | recd _ _ _ _ _ hr=>exact tidy_more (by omega) (tidy_of hr.opensOf hD)
  | data _ _ _ _ _ _ _ hr=>exact tidy_more (by omega) (tidy_put1 st (tidy_of hr.opensOf hD))
  | both _ _ _ _ _ _ _ _ _ hr=>exact tidy_put1 st (tidy_put1 st (tidy_of hr.opensOf hD))
theorem WrR.opensOf {nn LL M St:Nat} {s:SuP} {n:Int} (h:WrR nn LL s M St n x D U S o y e D' U') (hD:Tidy D/\Maps.size D<=m):Tidy D'/\Maps.size D'<=m+2:=by
 cases h with
 | refused=>exact tidy_more (by omega) hD
 | flush _ _ _ _ _ _ _ _ _ hf=>exact tidy_more (by omega) (tidy_of hf.opensOf hD)
 | after _ _ _ _ _ _ _ _ _ _ _ _ hf hw=>exact hw.opensOf (tidy_of hf.opensOf hD)
 | first _ _ _ _ _ _ _ _ _ hw=>exact hw.opensOf hD
structure Few (S:Sh.Sf) (D U:Set0) (m:Nat):Prop where
 waits:∀x∈S.disks,x.waits.length<=m
 opens:Tidy D/\Maps.size D<=m
 used:Maps.size U<=m
theorem Few.more {a b:Nat} (hab:a<=b) (h:Few S D U a):Few S D U b:=⟨waits_more hab h.waits,tidy_more hab h.opens,Nat.le_trans h.used hab⟩
theorem Few.write {nn LL M St:Nat} {s:SuP} {n:Int} {w:World} {b:Nat} (h:Few S D U m) (hs:SetIs w 121 b U) (hn:nn<=17) (h8:LL<=8) (hW:WrR nn LL s M St n x D U S o y e D' U'):Few e.S D' U' (m+1000) :=
 ⟨hW.waits hn h8 h.waits,tidy_more (by omega) (hW.opensOf h.opens),by have:=hW.usedOf.size hs;have:=h.used;omega⟩
theorem Few.flush {n L:Nat} (h:Few S D U m) (hn:n<=17) (h8:L<=8) (hF:FlR n L D U S y e D' U'):Few e.S D' U' (m+1000) :=
 ⟨waits_more (by omega) (hF.waits hn h8 h.waits),tidy_more (by omega) (tidy_of hF.opensOf h.opens),by
  have:=h.used
  rcases hF.usedOf with rfl | rfl
  ·omega
  ·exact Nat.zero_le _⟩
theorem Few.read {LL M St:Nat} {s:SuP} {n:Int} (h:Few S D U m) (hR:RdR LL s M St n S o y X t):Few t.S D U (m+1000) :=
 ⟨waits_more (by omega) (hR.waits h.waits),tidy_more (by omega) h.opens,Nat.le_trans h.used (by omega)⟩
end
section
variable {A:Ar} {S S':Sh.Sf} {o:Nat->Int} {g:Gh} {may:Nat->List Sh.Bs} {kd:Bool} {y:Int} {t:Stt} {m n:Nat}
end
section
variable {A:Ar} {S:Sh.Sf} {F:Nat->Prop} {kd:Bool} {may:Nat->List Sh.Bs} {gh:Gh}
structure Tbl (B:Nat) (W:World):Prop where
 tabs:Tabs W
 tb:max 0 1+1<=B
 wid:Go.Proofs.YtgebkmpmnjhceaaGreatDoor.S.Wid W
 wb:2+1<=B
 flds:Flds W
 fb:3+1<=B
 lay:Go.Proofs.YtgebkmpmnjhceaaGreatDoor.L.Tab W
 pb:4+1<=B
structure Tb4 (B:Nat) (W:World):Prop where
 tabs:Tabs W
 tb:max 0 1+1<=B
 wid:Go.Proofs.YtgebkmpmnjhceaaGreatDoor.S.Wid W
 wb:2+1<=B
 flds:Flds W
 fb:3+1<=B
theorem Tbl.b4 {B:Nat} {W:World} (h:Tbl B W):Tb4 B W:=⟨h.tabs,h.tb,h.wid,h.wb,h.flds,h.fb⟩
end
end Go.Proofs.YtgebkmpmnjhceaaGreatDoor.U
