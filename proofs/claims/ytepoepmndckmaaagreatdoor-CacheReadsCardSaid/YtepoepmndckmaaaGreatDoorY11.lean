/-
  What the statement's proof rests on, part 11.
  Conditions: each theorem's own.
-/
import Derived.Test.YtepoepmndckmaaaGreatDoorY10
namespace Go.Proofs.YtepoepmndckmaaaGreatDoor.Kc
open Go.RowKit Go.Maps
open Go.Proofs.YtepoepmndckmaaaGreatDoor.Sh (bts bts_length Reads)
theorem finds_some {l:List En} {x:Int} {e:En} (h:finds l x=some e):e∈l/\(e.k:Int)=x:=by
 unfold finds at h
 exact ⟨List.mem_of_find?_eq_some h,by simpa using List.find?_some h⟩
theorem finds_none {l:List En} {x:Int} (h:finds l x=none):∀e∈l,(e.k:Int)≠x:=by
 unfold finds at h
 intro e he
 have:=List.find?_eq_none.1 h e he
 simpa using this
theorem finds_mem:∀{l:List En} (_:(l.map En.k).Nodup) {e:En} (_:e∈l),finds l (e.k:Int)=some e:=by
 intro l
 induction l with
 | nil=>intro _ e h;cases h
 | cons a t ih =>
  intro h e he
  rw [List.map_cons,List.nodup_cons] at h
  by_cases hk:a.k=e.k
  ·rcases List.mem_cons.1 he with rfl | he
   ·simp [finds]
   ·exact absurd (hk▸List.mem_map_of_mem he) h.1
  ·rcases List.mem_cons.1 he with rfl | he
   ·exact absurd rfl hk
   ·have:=ih h.2 he
    unfold finds at this ⊢
    rw [List.find?_cons_of_neg (by simpa using fun h0:(a.k:Int)=e.k=>hk (by omega))]
    exact this
def putE (l:List En) (e:En):List En:=l.map fun z=>if z.k=e.k then e else z
def dropE (l:List En) (k:Nat):List En:=l.filter fun z=>decide (z.k≠k)
theorem putE_length (l:List En) (e:En):(putE l e).length=l.length:=by simp [putE]
theorem putE_keys (l:List En) (e:En):(putE l e).map En.k=l.map En.k:=by
 unfold putE
 rw [List.map_map]
 apply List.map_congr_left
 intro z _
 simp only [Function.comp]
 split
 ·rename_i h;exact h.symm
 ·rfl
theorem keysV_eq (l:List En):keysV l=(l.map En.k).map fun (k:Nat)=>Value.int .i64 (k:Int):=by simp [keysV]
theorem putE_keysV (l:List En) (e:En):keysV (putE l e)=keysV l:=by rw [keysV_eq,keysV_eq,putE_keys]
theorem mem_putE {l:List En} {e z:En} (h:z∈putE l e):z=e\/(z∈l/\z.k≠e.k):=by
 unfold putE at h
 obtain ⟨a,ha,rfl⟩:=List.mem_map.1 h
 split
 ·exact .inl rfl
 ·rename_i hk;exact .inr ⟨ha,hk⟩
theorem one_of_key {l:List En} (hn:(l.map En.k).Nodup) {a b:En} (ha:a∈l) (hb:b∈l) (h:a.k=b.k):a=b:=by
 have h1:=finds_mem hn ha
 have h2:=finds_mem hn hb
 rw [h] at h1
 rw [h1] at h2
 injection h2
theorem one_of_ptr:∀{l:List En} (_:(l.map En.p).Nodup) {a b:En} (_:a∈l) (_:b∈l) (_:a.p=b.p),a=b:=by
 intro l
 induction l with
 | nil=>intro _ a b h;cases h
 | cons x t ih =>
  intro h a b ha hb hp
  rw [List.map_cons,List.nodup_cons] at h
  rcases List.mem_cons.1 ha with e1 | ha2<;>rcases List.mem_cons.1 hb with e2 | hb2
  ·rw [e1,e2]
  ·exact absurd (by rw [<- e1,hp];exact List.mem_map_of_mem hb2) h.1
  ·exact absurd (by rw [<- e2,<- hp];exact List.mem_map_of_mem ha2) h.1
  ·exact ih h.2 ha2 hb2 hp
theorem putE_ptrs {l:List En} (hn:(l.map En.k).Nodup) {e0 e:En} (h0:e0∈l) (hk:e.k=e0.k) (hp:e.p=e0.p):(putE l e).map En.p=l.map En.p:=by
 unfold putE
 rw [List.map_map]
 apply List.map_congr_left
 intro z hz
 simp only [Function.comp]
 split
 ·rename_i h
  rw [one_of_key hn hz h0 (h.trans hk)]
  exact hp
 ·rfl
theorem finds_putE {l:List En} (hn:(l.map En.k).Nodup) {e0 e:En} (h0:e0∈l) (hk:e.k=e0.k) (x:Int):finds (putE l e) x=if (e.k:Int)=x then some e else finds l x:=by
 have hn2:((putE l e).map En.k).Nodup:=by rw [putE_keys];exact hn
 have hin:e∈putE l e:=List.mem_map.2 ⟨e0,h0,by rw [if_pos hk.symm]⟩
 by_cases h:(e.k:Int)=x
 ·rw [if_pos h,<- h]
  exact finds_mem hn2 hin
 ·rw [if_neg h]
  rcases hf:finds l x with _ | a
  ·rcases hg:finds (putE l e) x with _ | b
   ·rfl
   ·obtain ⟨hb,hbx⟩:=finds_some hg
    rcases mem_putE hb with rfl | ⟨hb,_⟩
    ·exact absurd hbx h
    ·exact absurd hbx (finds_none hf b hb)
  ·obtain ⟨ha,hax⟩:=finds_some hf
   have:a∈putE l e:=List.mem_map.2 ⟨a,ha,by rw [if_neg (fun e2=>h (by omega))]⟩
   have:=finds_mem hn2 this
   rw [hax] at this
   exact this
theorem ptrs_putE {l:List En} (hn:(l.map En.k).Nodup) {e0 e:En} (h0:e0∈l) (hk:e.k=e0.k) (hp:e.p=e0.p):ptrs (putE l e)=ptrs l:=by
 funext x
 unfold ptrs
 rw [finds_putE hn h0 hk]
 split
 ·rename_i h
  rw [<- h,hk,finds_mem hn h0]
  simp [hp]
 ·rfl
theorem finds_dropE {l:List En} (hn:(l.map En.k).Nodup) (k:Nat) (x:Int):finds (dropE l k) x=if (k:Int)=x then none else finds l x:=by
 have hn2:((dropE l k).map En.k).Nodup:=(List.Sublist.map _ List.filter_sublist).nodup hn
 rcases hg:finds (dropE l k) x with _ | b
 ·split
  ·rfl
  ·rename_i h
   rcases hf:finds l x with _ | a
   ·rfl
   ·obtain ⟨ha,hax⟩:=finds_some hf
    exact absurd hax (finds_none hg a (List.mem_filter.2 ⟨ha,by simpa using fun e2:a.k=k=>h (by omega)⟩))
 ·obtain ⟨hb,hbx⟩:=finds_some hg
  obtain ⟨hb1,hb2⟩:=List.mem_filter.1 hb
  have hb3:b.k≠k:=by simpa using hb2
  rw [if_neg (by omega),<- hbx,finds_mem hn hb1]
theorem ptrs_dropE {l:List En} (hn:(l.map En.k).Nodup) (k:Nat):ptrs (dropE l k)=fun x=>if (k:Int)=x then none else ptrs l x:=by
 funext x
 unfold ptrs
 rw [finds_dropE hn]
 split<;>rfl
theorem finds_snoc {l:List En} {e:En} (hk:∀z∈l,z.k≠e.k) (x:Int):finds (l++[e]) x=if (e.k:Int)=x then some e else finds l x:=by
 unfold finds
 rw [List.find?_append]
 by_cases h:(e.k:Int)=x
 ·rw [if_pos h]
  have:l.find? (fun z=>decide ((z.k:Int)=x))=none:=by
   rw [List.find?_eq_none]
   intro z hz
   have:=hk z hz
   simpa using fun e2:(z.k:Int)=x=>this (by omega)
  rw [this]
  simp [h]
 ·rw [if_neg h]
  simp [h]
theorem ptrs_snoc {l:List En} {e:En} (hk:∀z∈l,z.k≠e.k):ptrs (l++[e])=fun x=>if (e.k:Int)=x then some e.p else ptrs l x:=by
 funext x
 unfold ptrs
 rw [finds_snoc hk]
 split<;>rfl
theorem dropE_at {l:List En} (hn:(l.map En.k).Nodup) {i:Nat} {e:En} (h:l[i]?=some e):dropE l e.k=l.take i++l.drop (i+1):=by
 obtain ⟨hi,he⟩:=List.getElem?_eq_some_iff.1 h
 have hl:l=l.take i++e :: l.drop (i+1):=by rw [<- he,<- List.drop_eq_getElem_cons hi,List.take_append_drop]
 have hn2:=hn
 rw [hl] at hn2
 rw [List.map_append,List.map_cons,List.nodup_append,List.nodup_cons] at hn2
 obtain ⟨_,⟨h2,_⟩,h3⟩:=hn2
 conv=>lhs;rw [hl]
 unfold dropE
 rw [List.filter_append,List.filter_cons_of_neg (by simp)]
 congr 1
 ·rw [List.filter_eq_self]
  intro z hz
  have:=h3 z.k (List.mem_map_of_mem hz) e.k (List.mem_cons_self ..)
  simpa using this
 ·rw [List.filter_eq_self]
  intro z hz
  have:z.k≠e.k:=fun e2=>h2 (e2▸List.mem_map_of_mem hz)
  simpa using this
section
variable {V:VolK} {w w':World} {g:Cg} {most:Nat} {l:List En}
theorem Ca.lt (h:Ca V w g most l) {b:Nat} (hb:g.has l b):b<w.heap.size:=by
 rcases hb with rfl | rfl | hb | ⟨e,he,rfl⟩
 ·exact lt_of_block h.root
 ·exact h.map.lt
 ·exact (h.row.lt b hb).2
 ·exact lt_of_block (h.ent e he)
theorem Ca.same (h:Ca V w g most l) (hk:∀b,g.has l b->w'.heap[b]?=w.heap[b]?):Ca V w' g most l :=
 ⟨h.most1,h.mostM,by rw [hk _ (.inl rfl)];exact h.root,Sh.same_row h.row fun b hb=>hk b (.inr (.inr (.inl hb))),h.len,h.map.same (hk _ (.inr (.inl rfl))),fun e he=>by rw [hk _ (.inr (.inr (.inr ⟨e,he,rfl⟩)))];exact h.ent e he,h.secs,h.pins,h.lows,h.keys,h.ptr⟩
theorem Ca.only {F:Nat->Prop} (h:Ca V w g most l) (ho:Sh.Only F w w') (hF:∀b,F b->¬g.has l b):Ca V w' g most l :=
 h.same fun b hb=>ho.block b (h.lt hb) fun e=>hF b e hb
theorem Ca.grown (h:Ca V w g most l) (hb:Below w.heap.size w w'):Ca V w' g most l :=
 h.same fun b hb2=>hb.block b (h.lt hb2)
theorem ty_ne:(93:Nat)≠96/\(3:Nat)≠96/\(93:Nat)≠3:=by decide
theorem row_block {w:World} {u:Value} {n b:Nat} {xs:List Value} (h:w.ownsRow 0 3 1 u n xs) (hb:u.ownBlock=some b):∃cur,w.heap[b]?=some (.cells cur 3 (0,0)):=by
 rcases h.2 with ⟨rfl,_⟩ | ⟨gg,cap,cur,rfl,_,hh,_⟩
 ·cases hb
 ·simp only [Value.ownBlock,Option.some.injEq] at hb
  subst hb
  exact ⟨cur,hh⟩
theorem Ca.c_m (h:Ca V w g most l):g.c≠g.m:=by
 intro e
 obtain ⟨D,⟨es,clock,hb,_⟩,_⟩:=h.map
 have:=h.root
 rw [e,hb] at this
 cases this
theorem Ca.c_u (h:Ca V w g most l):g.u.ownBlock≠some g.c:=by
 intro e
 obtain ⟨cur,hb⟩:=row_block h.row e
 have:=h.root
 rw [hb] at this
 injection this with this
 injection this with _ this _
 exact ty_ne.2.2 this.symm
theorem Ca.u_m (h:Ca V w g most l):g.u.ownBlock≠some g.m:=by
 intro e
 obtain ⟨cur,hb⟩:=row_block h.row e
 obtain ⟨D,⟨es,clock,hb2,_⟩,_⟩:=h.map
 rw [hb] at hb2
 cases hb2
theorem Ca.p_c (h:Ca V w g most l) {e:En} (he:e∈l):e.p≠g.c:=by
 intro e2
 have:=h.root
 rw [<- e2,h.ent e he] at this
 injection this with this
 injection this with _ this _
 exact ty_ne.1 this.symm
theorem Ca.p_m (h:Ca V w g most l) {e:En} (he:e∈l):e.p≠g.m:=by
 intro e2
 obtain ⟨D,⟨es,clock,hb,_⟩,_⟩:=h.map
 rw [<- e2,h.ent e he] at hb
 cases hb
theorem Ca.p_u (h:Ca V w g most l) {e:En} (he:e∈l):g.u.ownBlock≠some e.p:=by
 intro e2
 obtain ⟨cur,hb⟩:=row_block h.row e2
 rw [h.ent e he] at hb
 injection hb with hb
 injection hb with _ hb _
 exact ty_ne.2.1 hb.symm
theorem has_putE {l:List En} (hn:(l.map En.k).Nodup) {e0 e:En} (h0:e0∈l) (hk:e.k=e0.k) (hp:e.p=e0.p) {b:Nat}:g.has (putE l e) b↔g.has l b:=by
 unfold Cg.has
 have:(∃z∈putE l e,b=z.p)↔∃z∈l,b=z.p:=by
  have e1:=putE_ptrs hn h0 hk hp
  constructor
  ·rintro ⟨z,hz,rfl⟩
   have:z.p∈(putE l e).map En.p:=List.mem_map_of_mem hz
   rw [e1] at this
   obtain ⟨a,ha,h2⟩:=List.mem_map.1 this
   exact ⟨a,ha,h2.symm⟩
  ·rintro ⟨z,hz,rfl⟩
   have:z.p∈l.map En.p:=List.mem_map_of_mem hz
   rw [<- e1] at this
   obtain ⟨a,ha,h2⟩:=List.mem_map.1 this
   exact ⟨a,ha,h2.symm⟩
 rw [this]
theorem Ca.put (h:Ca V w g most l) {e0 e:En} (h0:e0∈l) (hk:e.k=e0.k) (hp:e.p=e0.p) (hs:Sh.Sec e.d) (hpin:e.pins<=4611686018427387904)
  (he:w'.heap[e0.p]?=some (.cells (cellsE e).toArray 96 (0,0))) (ho:∀b,b<w.heap.size->b≠e0.p->w'.heap[b]?=w.heap[b]?):Ca V w' g most (putE l e) :=
 ⟨h.most1,h.mostM,by rw [ho _ (lt_of_block h.root) (h.p_c h0).symm];exact h.root,
  by rw [putE_length,putE_keysV];exact Sh.same_row h.row fun b hb=>ho b (h.row.lt b hb).2 (fun e2=>h.p_u h0 (e2▸hb)),
  by rw [putE_length];exact h.len,
  by rw [ptrs_putE h.keys h0 hk hp];exact h.map.same (ho _ h.map.lt (h.p_m h0).symm),
  fun z hz=>by
   rcases mem_putE hz with rfl | ⟨hz,hne⟩
   ·rw [hp];exact he
   ·rw [ho _ (lt_of_block (h.ent z hz)) (fun e2=>hne (by rw [one_of_ptr h.ptr hz h0 e2,hk]))]
    exact h.ent z hz,
  fun z hz=>(mem_putE hz).elim (fun e2=>e2▸hs) (fun q=>h.secs z q.1),
  fun z hz=>(mem_putE hz).elim (fun e2=>e2▸hpin) (fun q=>h.pins z q.1),
  fun z hz=>(mem_putE hz).elim (fun e2=>by rw [e2,hk];exact h.lows _ h0) (fun q=>h.lows z q.1),
  by rw [putE_keys];exact h.keys,
  by rw [putE_ptrs h.keys h0 hk hp];exact h.ptr⟩
end
open Go.Proofs.YtepoepmndckmaaaGreatDoor.Sh (bts bts_length Reads)
def AllC (V:VolK) (x:V.σ) (g:Cg) (l:List En) (b:Nat):Prop:=V.own x b\/g.has l b
structure Cav (V:VolK) (w:World) (g:Cg) (most:Nat) (l:List En) (x:V.σ) (k:Nat):Prop where
 ca:Ca V w g most l
 vol:V.is w x k
 apart:∀b,V.own x b->¬g.has l b
section
variable {V:VolK} {w w':World} {g:Cg} {most:Nat} {l:List En} {x:V.σ} {k:Nat}
theorem Cav.lt (h:Cav V w g most l x k) {b:Nat} (hb:AllC V x g l b):b<w.heap.size:=hb.elim (h.vol |> fun q=>V.lt q b) h.ca.lt
theorem Cav.only {F:Nat->Prop} (h:Cav V w g most l x k) (ho:Sh.Only F w w') (hF:∀b,F b->¬AllC V x g l b):Cav V w' g most l x k :=
 ⟨h.ca.only ho fun b hb e=>hF b hb (.inr e),V.stays h.vol ho fun b hb e=>hF b hb (.inl e),h.apart⟩
theorem only_below (hb:Below w.heap.size w w'):Sh.Only (fun _=>False) w w':=Sh.Only.of_below hb fun b h1 h2=>absurd h2 (by omega)
theorem Cav.grown (h:Cav V w g most l x k) (hb:Below w.heap.size w w'):Cav V w' g most l x k:=h.only (only_below hb) fun _ e=>e.elim
theorem Cav.less (h:Cav V w g most l x k) {k':Nat} (hk:k'<=k):Cav V w g most l x k':=⟨h.ca,V.less h.vol hk,h.apart⟩
theorem Cav.moved (h:Cav V w g most l x k) {x':V.σ} {k':Nat} (hi:V.is w' x' k') (hm:Sh.Moves (V.own x) w (V.own x') w'):Cav V w' g most l x' k'/\Sh.Moves (AllC V x g l) w (AllC V x' g l) w' :=
 ⟨⟨h.ca.only hm.1 h.apart,hi,fun b hb e=>(hm.2 b hb).elim (fun e2=>h.apart b e2 e) (fun e2=>absurd (h.ca.lt e) (by omega))⟩,
  ⟨hm.1.mono fun b hb=>.inl hb,fun b hb=>hb.elim (fun e=>(hm.2 b e).imp .inl id) (fun e=>.inl (.inr e))⟩⟩
theorem Cav.put (h:Cav V w g most l x k) {e0 e:En} (h0:e0∈l) (hk:e.k=e0.k) (hp:e.p=e0.p) (hs:Sh.Sec e.d) (hpin:e.pins<=4611686018427387904)
  (he:w'.heap[e0.p]?=some (.cells (cellsE e).toArray 96 (0,0))) (ho:Sh.Only (fun b=>b=e0.p) w w') :
  Cav V w' g most (putE l e) x k/\Sh.Moves (AllC V x g l) w (AllC V x g (putE l e)) w':=by
 have hin:g.has l e0.p:=.inr (.inr (.inr ⟨e0,h0,rfl⟩))
 have hh:=@has_putE g l h.ca.keys e0 e h0 hk hp
 exact ⟨⟨h.ca.put h0 hk hp hs hpin he fun b hb hne=>ho.block b hb hne,V.stays h.vol ho fun b hb e2=>h.apart b e2 (by rw [hb];exact hin),fun b hb e2=>h.apart b hb (hh.1 e2)⟩,
  ⟨ho.mono fun b hb=>.inr (by rw [hb];exact hin),fun b hb=>.inl (hb.imp id fun e2=>hh.1 e2)⟩⟩
/-! ### what the walks read -/
theorem Ca.c0 (h:Ca V w g most l):w.cell? ⟨g.c,0,none⟩=some (.pointer (some ⟨V.v,0,none⟩)):=cell_of_row _ _ 0 _ _ _ h.root
theorem Ca.c1 (h:Ca V w g most l):w.cell? ⟨g.c,1,none⟩=some (.int .i64 (most:Int)):=cell_of_row _ _ 1 _ _ _ h.root
theorem Ca.c2 (h:Ca V w g most l):w.cell? ⟨g.c,2,none⟩=some (.map (some g.m)):=cell_of_row _ _ 2 _ _ _ h.root
theorem Ca.c3 (h:Ca V w g most l):w.cell? ⟨g.c,3,none⟩=some g.u:=cell_of_row _ _ 3 _ _ _ h.root
theorem Ca.free (h:Ca V w g most l) (i:Nat):w.frozen? ⟨g.c,i,none⟩=false:=frozen_of_row _ _ _ _ _ h.root
theorem cellsE_length {e:En} (h:Sh.Sec e.d):(cellsE e).length=130:=by simp [cellsE,bts_length,h.1]
theorem Ca.e128 (h:Ca V w g most l) {e:En} (he:e∈l):w.cell? ⟨e.p,128,none⟩=some (.bool e.dirty):=by
 rw [cell_of_row _ _ 128 _ _ _ (h.ent e he)]
 simp [cellsE,bts_length,(h.secs e he).1]
theorem Ca.e129 (h:Ca V w g most l) {e:En} (he:e∈l):w.cell? ⟨e.p,129,none⟩=some (.int .i64 (e.pins:Int)):=by
 rw [cell_of_row _ _ 129 _ _ _ (h.ent e he)]
 simp [cellsE,bts_length,(h.secs e he).1]
theorem Ca.efree (h:Ca V w g most l) {e:En} (he:e∈l) (i:Nat):w.frozen? ⟨e.p,i,none⟩=false:=frozen_of_row _ _ _ _ _ (h.ent e he)
theorem Ca.look (h:Ca V w g most l) (x:Int) (hx:-9223372036854775808<=x/\x<=9223372036854775807):(Instr.lookup 91 (.map (some g.m)) (.int .i64 x) false).run Tryz.prog w=.ok (ptrV (ptrs l x)) w:=h.map.look x hx
theorem Ca.bytes (h:Ca V w g most l) {e:En} (he:e∈l):Reads w w.heap.size (some ⟨e.p,0,none⟩) 128 (bts e.d):=by
 refine ⟨by rw [bts_length,(h.secs e he).1],fun _=>⟨_,rfl,lt_of_block (h.ent e he),fun j u hu=>?_⟩⟩
 have e1:(⟨e.p,0,none⟩:Addr).add j=⟨e.p,j,none⟩:=by unfold Addr.add;split<;>simp_all
 rw [e1,cell_of_row _ _ j _ _ _ (h.ent e he)]
 have hj:j<(bts e.d).length:=(List.getElem?_eq_some_iff.1 hu).1
 simp only [cellsE,List.getElem?_toArray]
 rw [List.getElem?_append_left hj]
 exact hu
end
open Go.Proofs.YtepoepmndckmaaaGreatDoor.Sh (bts bts_length Reads)
section
variable (V:VolK)
inductive WbR (x:V.σ) (e:En):Int->V.σ->En->Prop
 | clean:e.dirty=false->WbR x e 0 x e
 | no (y:Int) (x':V.σ):e.dirty=true->V.wr x e.k e.d y x'->y≠0->WbR x e y x' e
 | done (x':V.σ):e.dirty=true->V.wr x e.k e.d 0 x'->WbR x e 0 x' { e with dirty:=false }
def firstE (l:List En):Nat:=l.findIdx fun e=>decide (e.pins=0)
inductive RoomR (most:Nat) (l:List En) (x:V.σ):Int->List En->V.σ->Prop
 | free:l.length<most->RoomR most l x 0 l x
 | full:¬l.length<most->(∀e∈l,e.pins≠0)->RoomR most l x 6 l x
 | no (e:En) (y:Int) (x':V.σ):¬l.length<most->l[firstE l]?=some e->e.pins=0->WbR V x e y x' e->y≠0->RoomR most l x y l x'
 | left (e e':En) (x':V.σ):¬l.length<most->l[firstE l]?=some e->e.pins=0->WbR V x e 0 x' e'->RoomR most l x 0 (dropE l e.k) x'
inductive KeepR (most:Nat) (k:Nat) (b:Sh.Bs) (l:List En) (x:V.σ):Int->List En->V.σ->Prop
 | no (y:Int) (l':List En) (x':V.σ):RoomR V most l x y l' x'->y≠0->KeepR most k b l x y l' x'
 | kept (l':List En) (x':V.σ) (p:Nat):RoomR V most l x 0 l' x'->KeepR most k b l x 0 (l'++[⟨k,p,b,false,0⟩]) x'
inductive FetchR (most:Nat) (k:Nat) (l:List En) (x:V.σ):Int->List En->V.σ->Prop
 | no (y:Int) (X:Sh.Bs) (x':V.σ):V.rd x k y X x'->y≠0->FetchR most k l x y l x'
 | got (X:Sh.Bs) (x1:V.σ) (y:Int) (l':List En) (x':V.σ):V.rd x k 0 X x1->KeepR V most k X l x1 y l' x'->FetchR most k l x y l' x'
def useE (l:List En) (e:En):List En:=dropE l e.k++[e]
inductive GetR (most:Nat) (n:Int) (l:List En) (x:V.σ):Int->Sh.Bs->List En->V.σ->Prop
 | out:¬(0<=n/\n<(V.n:Int))->GetR most n l x 1 [] l x
 | here (e:En):(0<=n/\n<(V.n:Int))->finds l n=some e->GetR most n l x 0 e.d (useE l e) x
 | no (k:Nat) (y:Int) (l':List En) (x':V.σ):n=(k:Int)->k<V.n->finds l n=none->FetchR V most k l x y l' x'->y≠0->GetR most n l x y [] l' x'
 | got (k:Nat) (l':List En) (x':V.σ) (e:En):n=(k:Int)->k<V.n->finds l n=none->FetchR V most k l x 0 l' x'->finds l' n=some e->GetR most n l x 0 e.d (useE l' e) x'
inductive PutR (most:Nat) (n:Int) (b:Sh.Bs) (l:List En) (x:V.σ):Int->List En->V.σ->Prop
 | out:¬((0<=n/\n<(V.n:Int))/\b.length=128)->PutR most n b l x 1 l x
 | here (e:En):(0<=n/\n<(V.n:Int))->b.length=128->finds l n=some e->PutR most n b l x 0 (useE l { e with d:=b,dirty:=true }) x
 | no (k:Nat) (y:Int) (l':List En) (x':V.σ):n=(k:Int)->k<V.n->b.length=128->finds l n=none->KeepR V most k b l x y l' x'->y≠0->PutR most n b l x y l' x'
 | new (k:Nat) (l':List En) (x':V.σ) (e:En):n=(k:Int)->k<V.n->b.length=128->finds l n=none->KeepR V most k b l x 0 l' x'->finds l' n=some e->PutR most n b l x 0 (useE l' { e with d:=b,dirty:=true }) x'
inductive WbsR:List Int->List En->V.σ->Int->List En->V.σ->Prop
 | nil (l:List En) (x:V.σ):WbsR [] l x 0 l x
 | no (k:Int) (t:List Int) (l:List En) (x:V.σ) (e:En) (y:Int) (x':V.σ):finds l k=some e->WbR V x e y x' e->y≠0->WbsR (k :: t) l x y l x'
 | next (k:Int) (t:List Int) (l:List En) (x:V.σ) (e e1:En) (x1:V.σ) (y:Int) (l':List En) (x':V.σ):finds l k=some e->WbR V x e 0 x1 e1->WbsR t (putE l e1) x1 y l' x'->WbsR (k :: t) l x y l' x'
def risesE (f:En->Bool) (l:List En):List Int:=((l.filter f).map fun e=>(e.k:Int)).mergeSort (fun a b=>decide (a<=b))
inductive FlushR (l:List En) (x:V.σ):Int->List En->V.σ->Prop
 | no (y:Int) (l':List En) (x':V.σ):WbsR V (risesE (fun e=>e.dirty && decide (e.pins=0)) l) l x y l' x'->y≠0->FlushR l x y l' x'
 | all (l':List En) (x1 x':V.σ) (y:Int):WbsR V (risesE (fun e=>e.dirty && decide (e.pins=0)) l) l x 0 l' x1->V.fl x1 y x'->FlushR l x y l' x'
end
def LeftC (V:VolK) (w:World) (g:Cg) (most:Nat) (l:List En) (x:V.σ) (l':List En) (x':V.σ) (k:Nat) (w':World):Prop :=
 ∃u,Cav V w' { g with u:=u } most l' x' k/\Sh.Moves (AllC V x g l) w (AllC V x' { g with u:=u } l') w'
end Go.Proofs.YtepoepmndckmaaaGreatDoor.Kc
