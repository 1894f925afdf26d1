/-
  What the statement's proof rests on, part 24.
  Conditions: each theorem's own.
-/
import Derived.Shelf.Sort.Plain
import Derived.Ground.Names2Prog
import Derived.Shelf.Slices.In.SortNone
import Derived.Shelf.Slices.Clone
import Derived.Shelf.Slices.Delete
import Derived.Shelf.Slices.Cells
import Derived.Shelf.Slices.Empties
import Derived.Sort.OwnSortedInts
import Derived.Test.YtcnjpmcelihknaaGreatDoorV14
import Derived.Deep.AppendLies
import Derived.Test.YtcnjpmcelihknaaGreatDoorVtk
open Go.Lib (hid)
namespace Go.Proofs.YtcnjpmcelihknaaGreatDoor
open Go.Shelf Go.RowKit Go.Lib Go.Sort
def Tryz.lays189_ren:Go.Shelf.Ren:=⟨fun | 189=>158 | 125=>209 | 257=>208 | 128=>242 | 129=>243 | 294=>233 | 295=>234 | 296=>235 | 297=>236 | 298=>237 | 299=>238 | 216=>239 | 300=>240 | 301=>241 | 328=>267 | 329=>268 | 330=>269 | 331=>270 | 332=>271 | 215=>272 | 343=>280 | n=>n,fun | 28=>22 | 3=>3 | 46=>177 | 0=>0 | 51=>23 | 53=>167 | 4=>4 | 183=>270 | 182=>269 | 131=>161 | 5=>5 | 9=>9 | 218=>292 | 222=>296 | 228=>308 | 229=>180 | n=>n,fun | n=>n⟩
theorem Tryz.lays189:Go.Proofs.Lays.n189 Tryz.prog Tryz.lays189_ren:={
 mixed:=by kernel_rfl
 f125:=Tryz.func209.trans (congrArg some (by kernel_rfl))
 f128:=Tryz.func242.trans (congrArg some (by kernel_rfl))
 f129:=Tryz.func243.trans (congrArg some (by kernel_rfl))
 f189:=Tryz.func158.trans (congrArg some (by kernel_rfl))
 f215:=Tryz.func272.trans (congrArg some (by kernel_rfl))
 f216:=Tryz.func239.trans (congrArg some (by kernel_rfl))
 f257:=Tryz.func208.trans (congrArg some (by kernel_rfl))
 f294:=Tryz.func233.trans (congrArg some (by kernel_rfl))
 f295:=Tryz.func234.trans (congrArg some (by kernel_rfl))
 f296:=Tryz.func235.trans (congrArg some (by kernel_rfl))
 f297:=Tryz.func236.trans (congrArg some (by kernel_rfl))
 f298:=Tryz.func237.trans (congrArg some (by kernel_rfl))
 f299:=Tryz.func238.trans (congrArg some (by kernel_rfl))
 f300:=Tryz.func240.trans (congrArg some (by kernel_rfl))
 f301:=Tryz.func241.trans (congrArg some (by kernel_rfl))
 f328:=Tryz.func267.trans (congrArg some (by kernel_rfl))
 f329:=Tryz.func268.trans (congrArg some (by kernel_rfl))
 f330:=Tryz.func269.trans (congrArg some (by kernel_rfl))
 f331:=Tryz.func270.trans (congrArg some (by kernel_rfl))
 f332:=Tryz.func271.trans (congrArg some (by kernel_rfl))
 f343:=Tryz.func280.trans (congrArg some (by kernel_rfl))
 t0:=Tryz.underlying0
 a0:=Tryz.isAgg0
 z0:=Tryz.sizeOf0
 v0:=Tryz.zeroValue0
 t3:=Tryz.underlying3
 a3:=Tryz.isAgg3
 z3:=Tryz.sizeOf3
 v3:=Tryz.zeroValue3
 t4:=Tryz.underlying4
 a4:=Tryz.isAgg4
 z4:=Tryz.sizeOf4
 v4:=Tryz.zeroValue4
 t5:=Tryz.underlying5
 a5:=Tryz.isAgg5
 z5:=Tryz.sizeOf5
 v5:=Tryz.zeroValue5
 t9:=Tryz.underlying9
 a9:=Tryz.isAgg9
 z9:=Tryz.sizeOf9
 v9:=Tryz.zeroValue9
 t28:=Tryz.underlying22
 a28:=Tryz.isAgg22
 z28:=Tryz.sizeOf22
 v28:=Tryz.zeroValue22
 t46:=Tryz.underlying177
 a46:=Tryz.isAgg177
 z46:=Tryz.sizeOf177
 v46:=Tryz.zeroValue177
 t51:=Tryz.underlying23
 a51:=Tryz.isAgg23
 z51:=Tryz.sizeOf23
 v51:=Tryz.zeroValue23
 t53:=Tryz.underlying167
 a53:=Tryz.isAgg167
 z53:=Tryz.sizeOf167
 v53:=Tryz.zeroValue167
 t131:=Tryz.underlying161
 a131:=Tryz.isAgg161
 z131:=Tryz.sizeOf161
 v131:=Tryz.zeroValue161
 t182:=Tryz.underlying269
 a182:=Tryz.isAgg269
 z182:=Tryz.sizeOf269
 v182:=Tryz.zeroValue269
 t183:=Tryz.underlying270
 a183:=Tryz.isAgg270
 z183:=Tryz.sizeOf270
 v183:=Tryz.zeroValue270
 t218:=Tryz.underlying292
 a218:=Tryz.isAgg292
 z218:=Tryz.sizeOf292
 v218:=Tryz.zeroValue292
 t222:=Tryz.underlying296
 a222:=Tryz.isAgg296
 z222:=Tryz.sizeOf296
 v222:=Tryz.zeroValue296
 t228:=Tryz.underlying308
 a228:=Tryz.isAgg308
 z228:=Tryz.sizeOf308
 v228:=Tryz.zeroValue308
 t229:=Tryz.underlying180
 a229:=Tryz.isAgg180
 z229:=Tryz.sizeOf180
 v229:=Tryz.zeroValue180 }
theorem Tryz.slices_Sort_int (blk off cap:Nat) (zs:List Int) (w:World) (hH:Holds (Value.int .i64) w blk off zs.toArray) (hblk:blk<w.heap.size) (hsz:zs.length<4611686018427387904) :
  Calls Tryz.prog 158 #[.slice (some ⟨blk,off,none⟩) zs.length cap] w fun e w' =>
   e=.returned (.tuple #[])/\∃n os,w'=grow (putRow (Value.int .i64) (Sort.ahead w n) blk off (zs.mergeSort fun x y=>decide (x<=y)).toArray) os:=Any.slices_Sort_int Tryz.lays189 blk off cap zs w hH hblk hsz
def Tryz.laysNm223_ren:Go.Shelf.Ren:=⟨fun | 23=>212 | n=>n,fun | 22=>22 | 3=>3 | 4=>4 | 0=>0 | n=>n,fun | n=>n⟩
theorem Tryz.laysNm223:Go.Proofs.Lays2.n23 Tryz.prog Tryz.laysNm223_ren:={
 mixed:=by kernel_rfl
 f23:=Tryz.func212.trans (congrArg some (by kernel_rfl))
 t0:=Tryz.underlying0
 a0:=Tryz.isAgg0
 z0:=Tryz.sizeOf0
 v0:=Tryz.zeroValue0
 t3:=Tryz.underlying3
 a3:=Tryz.isAgg3
 z3:=Tryz.sizeOf3
 v3:=Tryz.zeroValue3
 t4:=Tryz.underlying4
 a4:=Tryz.isAgg4
 z4:=Tryz.sizeOf4
 v4:=Tryz.zeroValue4
 t22:=Tryz.underlying22
 a22:=Tryz.isAgg22
 z22:=Tryz.sizeOf22
 v22:=Tryz.zeroValue22
 i3:=by kernel_rfl }
theorem Tryz.slices_Delete_int (blk off cap i j:Nat) (zs:List Int) (w:World) (hH:Holds (Value.int .i64) w blk off zs.toArray) (hcap:zs.length<=cap) (hm:cap<=9223372036854775807) (hij:i<=j) (hj:j<=zs.length) :
  Calls Tryz.prog 212 #[.slice (some ⟨blk,off,none⟩) zs.length cap,.int .i64 i,.int .i64 j] w fun e w'=>e=.returned (.slice (some ⟨blk,off,none⟩) (zs.length-(j-i)) cap)/\∃q,w'=putRow (Value.int .i64) (Sort.ahead w q) blk off (zs.take i++zs.drop j++List.replicate (j-i) 0).toArray:=Any.slices_Delete_int Tryz.laysNm223 blk off cap i j zs w hH hcap hm hij hj
theorem Tryz.slices_Sort_int_none (p:Option Addr) (cap:Nat) (w:World) :
  Calls Tryz.prog 158 #[.slice p 0 cap] w fun e w'=>e=.returned (.tuple #[])/\w'=w:=Any.slices_Sort_int_none Tryz.lays189 p cap w
end Go.Proofs.YtcnjpmcelihknaaGreatDoor
namespace Go.Proofs.YtcnjpmcelihknaaGreatDoor.Kc
open Go.RowKit Go.Maps
open Go.Proofs.YtcnjpmcelihknaaGreatDoor.Sh (bts bts_length Reads)
def intsK (l:List En):List Int:=l.map fun e=>(e.k:Int)
theorem intsK_V (l:List En):(intsK l).map (Value.int .i64)=keysV l:=by simp [intsK,keysV,Function.comp_def]
theorem grow_none (w:World):Sort.grow w #[]=w:=by simp [Sort.grow]
theorem delRow {w:World} {b n cap i:Nat} {zs:List Int} (h:w.ownsRow 0 3 1 (.slice (some ⟨b,0,none⟩) n cap) n (zs.map (Value.int .i64))) (hi:i<n) (hb0:0<n) :
  Calls Tryz.prog 212 #[.slice (some ⟨b,0,none⟩) n cap,.int .i64 (i:Int),.int .i64 ((i:Int)+1)] w fun r w' =>
   r=.returned (.slice (some ⟨b,0,none⟩) (n-1) cap)/\w'.ownsRow 0 3 1 (.slice (some ⟨b,0,none⟩) (n-1) cap) (n-1) ((zs.take i++zs.drop (i+1)).map (Value.int .i64))/\w.grownBy w' (some b):=by
 have hl:zs.length=n:=by have:=h.1;simpa using this
 rw [show (i:Int)+1=((i+1:Nat):Int) by omega]
 rcases h.2 with ⟨_,h0⟩ | ⟨g,cap',cur,hv,_,hb,hnc,hcm,hcs,ht⟩
 ·omega
 ·injection hv with hv1 _ hv3
  injection hv1 with hv1
  injection hv1 with hv1 _ _
  subst hv1
  subst hv3
  subst hl
  have hH:=holds_of_blockI (ss:=zs) hb (by rw [Nat.mul_one] at ht;exact ht)
  refine (Tryz.slices_Delete_int b 0 cap i (i+1) zs w hH hnc (by unfold maxLen at hcm;omega) (Nat.le_succ _) hi).mono ?_
  rintro r w' ⟨rfl,q,rfl⟩
  have e1:i+1-i=1:=by omega
  rw [e1]
  generalize hts:zs.take i++zs.drop (i+1)++List.replicate 1 (0:Int)=ts
  have htl:ts.length=zs.length:=by rw [<- hts];simp;omega
  have hg:=grownBy_sortedI (w:=w) (g:=b) (n:=q) (os:=#[]) ts.toArray
  have hb2:=heap_sortedI (w:=w) (g:=b) (n:=q) (os:=#[]) ts.toArray hb
  rw [grow_none] at hg hb2
  refine ⟨rfl,⟨?_,.inr ⟨b,cap,_,rfl,Nat.zero_le _,hb2,by omega,hcm,by simp [Sort.putCells,hcs],?_⟩⟩,hg⟩
  ·simp;omega
  ·have h3:=take_putCellsI cur ts (by omega)
   have h4:((Sort.putCells (Value.int .i64) 0 ts.toArray cur).toList.take ts.length).take (zs.length-1)=(ts.map (Value.int .i64)).take (zs.length-1):=by rw [h3]
   rw [List.take_take,Nat.min_eq_left (by omega)] at h4
   rw [Nat.mul_one,h4,<- hts,List.map_append,List.take_left' (by simp;omega)]
theorem info_int:(Tryz.prog.info? 3).map (fun i=>(i.zero,i.size,i.bytes))=some (some (.int .i64 0),1,8):=by kernel_rfl
theorem cells1_new (w:World) (u:Value) (t:TypeId):∀j v,[u][j]?=some v->(w.alloc (.cells #[u] t)).cell? ((⟨w.heap.size,0,none⟩:Addr).add j)=some v:=by
 intro j v hv
 have e:(⟨w.heap.size,0,none⟩:Addr).add j=⟨w.heap.size,j,none⟩:=by unfold Addr.add;split<;>simp_all
 rw [e,World.cell?_alloc_at _ _ _ _ rfl]
 match j,hv with
 | 0,hv=>simpa using hv
theorem one1 (n:Int):∀u∈[Value.int .i64 n],u.oneCell'=true:=by
 intro u hu
 simp only [List.mem_cons,List.not_mem_nil,or_false] at hu
 subst hu
 rfl
def placeE (l:List En) (k:Nat):Nat:=l.findIdx fun e=>decide (e.k=k)
theorem placeE_of {l:List En} (hn:(l.map En.k).Nodup) {e:En} (he:e∈l):placeE l e.k<l.length/\l[placeE l e.k]?=some e:=by
 have h1:placeE l e.k<l.length:=List.findIdx_lt_length_of_exists ⟨e,he,by simp⟩
 refine ⟨h1,?_⟩
 have h2:(decide ((l[placeE l e.k]'h1).k=e.k))=true:=List.findIdx_getElem (p:=fun z:En=>decide (z.k=e.k)) (w:=h1)
 rw [List.getElem?_eq_getElem h1,one_of_key hn (List.getElem_mem h1) he (by simpa using h2)]
section
variable {V:VolK} {w w':World} {g:Cg} {most:Nat} {l:List En} {x:V.σ} {k:Nat}
set_option maxRecDepth 20000 in
theorem idxUse (h:Ca V w g most l) {b cap:Nat} (hu:g.u=.slice (some ⟨b,0,none⟩) l.length cap) {e:En} (he:e∈l) :
  Calls Tryz.prog 211 #[.slice (some ⟨b,0,none⟩) l.length cap,.int .i64 (e.k:Int)] w fun r w'=>r=.returned (.int .i64 (placeE l e.k:Int))/\w=w':=by
 have HH:=hid (And.intro h (And.intro he hu))
 have HP:=hid (placeE_of h.keys he)
 have hM:l.length<=1024:=Nat.le_trans h.len h.mostM
 have hp:placeE l e.k<l.length:=(placeE_of h.keys he).1
 generalize hn:l.length=n at *
 generalize hpe:placeE l e.k=pe at *
 have HPE:=hid hpe
 clear h hu hpe
 go_enter Tryz.func211,Tryz.ntmps211
 go_wp2
 go_loopw [8] (fun i wr=>∃j:Nat,j<=pe/\i=.int .i64 j/\wr=w) (fun i _=>n-(intOf i).toNat)
 case atStart=>exact ⟨0,Nat.zero_le _,rfl,rfl⟩
 case round =>
  obtain ⟨j,hj,rfl,rfl⟩:=hrel
  have hlt:j<n:=by omega
  have hjl:j<l.length:=by omega
  have hcell:wr.cell? ⟨b,j,none⟩=some (.int .i64 ((l[j].k:Nat):Int)):=by
   have hr:=HH.out.1.row
   rw [HH.out.2.2,hn] at hr
   exact Sh.cell_at hr (keysV_get l j hjl)
  by_cases hp2:j=pe
  ·have hk:((e.k:Int) == ((l[j].k:Nat):Int))=true:=by
    have h1:=HP.out.2
    rw [<- hp2,List.getElem?_eq_getElem hjl] at h1
    injection h1 with h1
    rw [h1]
    simp
   have HP2:=hid hp2
   clear hp2
   generalize ((l[j].k:Nat):Int)=lk at *
   generalize (e.k:Int)=ek at *
   go_wp2
   go_ret
   exact ⟨by rw [HP2.out];rfl,rfl⟩
  ·have hk:((e.k:Int) == ((l[j].k:Nat):Int))=false:=by
    rw [beq_eq_false_iff_ne]
    intro e2
    have h1:decide ((l[j]).k=e.k)=false:=List.not_of_lt_findIdx (p:=fun z:En=>decide (z.k=e.k)) (xs:=l) (i:=j) (by have:=HPE.out;unfold placeE at this;omega) |> fun q=>by simpa using q
    have h2:¬(l[j]).k=e.k:=by simpa using h1
    omega
   generalize ((l[j].k:Nat):Int)=lk at *
   generalize (e.k:Int)=ek at *
   go_wp2
   go_roundw
   case rel=>exact ⟨j+1,by omega,by go_num,trivial⟩
   case measure=>simp [intOf];omega
end
open Go.Proofs.YtcnjpmcelihknaaGreatDoor.Sh (bts bts_length Reads)
theorem keys_useE {l:List En} {e:En} (hn:(l.map En.k).Nodup):((useE l e).map En.k).Nodup:=by
 unfold useE
 rw [List.map_append,List.nodup_append]
 refine ⟨(List.Sublist.map _ List.filter_sublist).nodup hn,by simp,?_⟩
 intro a ha b hb
 obtain ⟨z,hz,rfl⟩:=List.mem_map.1 ha
 have h1:=(List.mem_filter.1 hz).2
 simp only [List.map_cons,List.map_nil,List.mem_singleton] at hb
 rw [hb]
 simpa using h1
theorem mem_useE {l:List En} {e z:En} (he:e∈l) (h:z∈useE l e):z∈l:=by
 unfold useE at h
 rcases List.mem_append.1 h with h | h
 ·exact (List.mem_filter.1 h).1
 ·rw [List.mem_singleton.1 h];exact he
theorem ptr_useE {l:List En} {e:En} (hn:(l.map En.p).Nodup) (he:e∈l):((useE l e).map En.p).Nodup:=by
 unfold useE
 rw [List.map_append,List.nodup_append]
 refine ⟨(List.Sublist.map _ List.filter_sublist).nodup hn,by simp,?_⟩
 intro a ha b hb
 obtain ⟨z,hz,rfl⟩:=List.mem_map.1 ha
 obtain ⟨hz1,h1⟩:=List.mem_filter.1 hz
 simp only [List.map_cons,List.map_nil,List.mem_singleton] at hb
 rw [hb]
 intro e2
 rw [one_of_ptr hn hz1 he e2] at h1
 simp at h1
theorem len_dropE {l:List En} {e:En} (hn:(l.map En.k).Nodup) (he:e∈l):(dropE l e.k).length=l.length-1/\0<l.length:=by
 obtain ⟨h1,h2⟩:=placeE_of hn he
 rw [dropE_at hn h2]
 simp
 omega
theorem len_useE {l:List En} {e:En} (hn:(l.map En.k).Nodup) (he:e∈l):(useE l e).length=l.length:=by
 have:=len_dropE hn he
 simp [useE]
 omega
theorem finds_useE {l:List En} {e:En} (hn:(l.map En.k).Nodup) (he:e∈l) (x:Int):finds (useE l e) x=finds l x:=by
 unfold useE
 rw [finds_snoc (fun z hz=>by simpa using (List.mem_filter.1 hz).2),finds_dropE hn]
 split
 ·rename_i h
  rw [<- h,finds_mem hn he]
 ·rfl
theorem ptrs_useE {l:List En} {e:En} (hn:(l.map En.k).Nodup) (he:e∈l):ptrs (useE l e)=ptrs l:=by
 funext x
 unfold ptrs
 rw [finds_useE hn he]
theorem keysV_useE {l:List En} {e:En} (hn:(l.map En.k).Nodup) (he:e∈l):keysV (useE l e)=((intsK l).take (placeE l e.k)++(intsK l).drop (placeE l e.k+1)).map (Value.int .i64)++[.int .i64 (e.k:Int)]:=by
 unfold useE
 rw [dropE_at hn (placeE_of hn he).2]
 simp [keysV,intsK,List.map_take,List.map_drop,Function.comp_def]
section
variable {V:VolK} {w w':World} {g:Cg} {most:Nat} {l:List En} {x:V.σ} {k:Nat}
theorem Cav.rerow (h:Cav V w g most l x k) {l':List En} {u:Value} (hmem:∀e∈l',e∈l) (hk:(l'.map En.k).Nodup) (hp:(l'.map En.p).Nodup) (hlen:l'.length<=most)
  (hmap:PMap w' g.m 1024 (ptrs l')) (hroot:w'.heap[g.c]?=some (.cells #[.pointer (some ⟨V.v,0,none⟩),.int .i64 (most:Int),.map (some g.m),u] 140 (0,0)))
  (hrow:w'.ownsRow 0 3 1 u l'.length (keysV l')) (hu:∀b,u.ownBlock=some b->g.u.ownBlock=some b\/w.heap.size<=b)
  (ho:Sh.Only (fun b=>b=g.c\/b=g.m\/g.u.ownBlock=some b) w w') :
  Cav V w' { g with u:=u } most l' x k/\Sh.Moves (AllC V x g l) w (AllC V x { g with u:=u } l') w':=by
 have hin:∀b,(b=g.c\/b=g.m\/g.u.ownBlock=some b)->g.has l b:=fun b hb=>hb.imp id (fun q=>q.imp id .inl)
 have hent:∀e∈l,w'.heap[e.p]?=w.heap[e.p]?:=fun e he=>ho.block _ (lt_of_block (h.ca.ent e he)) fun q=>by
  rcases q with q | q | q
  ·exact h.ca.p_c he q
  ·exact h.ca.p_m he q
  ·exact h.ca.p_u he q
 have hsub:∀b,Cg.has { g with u:=u } l' b->g.has l b\/w.heap.size<=b:=fun b hb=>by
  rcases hb with q | q | q | ⟨e,he,q⟩
  ·exact .inl (.inl q)
  ·exact .inl (.inr (.inl q))
  ·exact (hu b q).imp (fun e=>.inr (.inr (.inl e))) id
  ·exact .inl (.inr (.inr (.inr ⟨e,hmem e he,q⟩)))
 refine ⟨⟨⟨h.ca.most1,h.ca.mostM,hroot,hrow,hlen,hmap,fun e he=>by rw [hent e (hmem e he)];exact h.ca.ent e (hmem e he),fun e he=>h.ca.secs e (hmem e he),fun e he=>h.ca.pins e (hmem e he),fun e he=>h.ca.lows e (hmem e he),hk,hp⟩,V.stays h.vol ho fun b hb e=>h.apart b e (hin b hb),fun b hb e=>?_⟩,ho.mono fun b hb=>.inr (hin b hb),fun b hb=>?_⟩
 ·rcases hsub b e with q | q
  ·exact h.apart b hb q
  ·have:=V.lt h.vol b hb
   omega
 ·rcases hb with q | q
  ·exact .inl (.inl q)
  ·exact (hsub b q).imp .inr id
set_option maxRecDepth 20000 in
theorem cUse (h:Cav V w g most l x k) {e:En} (he:e∈l):Calls Tryz.prog 164 #[.pointer (some ⟨g.c,0,none⟩),.int .i64 (e.k:Int)] w fun r w' =>
  r=.returned (.tuple #[])/\LeftC V w g most l x (useE l e) x k w':=by
 obtain ⟨i0,hi,hz0,hz1,hz2⟩:=info_parts info_int
 obtain ⟨b,cap,hu,hblt,hbn,hcap⟩:=Sh.own_form h.ca.row (Nat.lt_of_le_of_lt (Nat.zero_le _) (placeE_of h.ca.keys he).1)
 have c3:=h.ca.c3
 have f3:=h.ca.free 3
 rw [hu] at c3
 have HI:=hid (idxUse h.ca hu he)
 have hpl:=(placeE_of h.ca.keys he).1
 have HK:=hid (keysV_useE h.ca.keys he)
 have HD:=hid (delRow (zs:=intsK l) (i:=placeE l e.k) (by have:=h.ca.row;rw [hu,<- intsK_V] at this;exact this) hpl (by omega))
 have hM:l.length<=1024:=Nat.le_trans h.ca.len h.ca.mostM
 have hbc:b≠g.c:=fun e2=>h.ca.c_u (by rw [hu,<- e2];rfl)
 have hclt:=lt_of_block h.ca.root
 have HH:=hid (And.intro h (And.intro he hu))
 generalize hpe:placeE l e.k=pe at *
 generalize hn:l.length=n at *
 have HN:=hid hn
 clear h hpe hn hu
 generalize hek:(e.k:Int)=ek at *
 go_enter Tryz.func164,Tryz.ntmps164
 go_wp2_with fail
 refine HI.out.mono ?_
 rintro r w1 ⟨rfl,rfl⟩
 go_wp2_with fail
 refine HD.out.mono ?_
 rintro r w1 ⟨rfl,hrow1,hg1⟩
 have c3':w1.cell? ⟨g.c,3,none⟩=some (.slice (some ⟨b,0,none⟩) n cap):=hg1.cell c3 (fun e2=>hbc (by injection e2 with e2;exact e2.symm))
 have f3':w1.frozen? ⟨g.c,3,none⟩=false:=(World.frozen?_of_block (w:=w) (hg1.block g.c hclt (fun e2=>hbc (by injection e2 with e2;exact e2.symm)))).trans f3
 have hclt1:=block_lt_of_cell c3'
 clear c3 f3 HI HD
 go_wp2_with (first
  | (at_builtin;go_must (refine wpList_append_lies _ rfl _ _ 22 rfl 0 3 i0 _ 1 8 Tryz.underlying22 hi hz0 hz1 hz2 rfl (by decide) _ (n-1) _ rfl (hrow1.alloc _) ⟨w1.heap.size,0,none⟩ 1 1 [.int .i64 ek] rfl rfl (cells1_new _ _ _) (one1 _) (by decide) (by unfold maxLen;omega) (by omega) (Nat.zero_le _) _ rfl ?_;intro g2 cap2 w2 hown2 hgrow2 hlie _;have k3:w2.cell? ⟨g.c,3,none⟩=some (.slice (some ⟨b,0,none⟩) n cap):=hgrow2.cell ((World.cell?_alloc_lt w1 _ ⟨g.c,3,none⟩ hclt1).trans c3') (fun e2=>hbc (by injection e2 with e2;exact e2.symm));have k4:w2.frozen? ⟨g.c,3,none⟩=false:=(World.frozen?_of_block (w:=w1) ((hgrow2.block g.c (Nat.lt_of_lt_of_le hclt1 (by simp)) (fun e2=>hbc (by injection e2 with e2;exact e2.symm))).trans (Below.heap_alloc _ _ _ hclt1))).trans f3'))
  | go_in)
 go_end0
 have h:=HH.out.1
 have hu:=HH.out.2.2
 have hb1:g.u.ownBlock=some b:=by rw [hu];rfl
 have hkeep:∀b',b'<w.heap.size->b'≠b->w2.heap[b']?=w.heap[b']?:=fun b' h1 h2=>by
  rw [hgrow2.block b' (Nat.lt_of_lt_of_le (Nat.lt_of_lt_of_le h1 hg1.size) (by simp)) (fun e2=>h2 (by injection e2 with e2)),Below.heap_alloc _ _ _ (Nat.lt_of_lt_of_le h1 hg1.size),hg1.block b' h1 (fun e2=>h2 (by injection e2 with e2))]
 have hg2:g2=b\/w.heap.size<=g2:=by
  rcases hlie with e2 | e2
  ·left
   have e3:some b=some g2:=e2
   injection e3 with e3
   exact e3.symm
  ·right
   have h1:=hg1.size
   rw [e2]
   simp
   omega
 have hg2c:g2≠g.c:=by omega
 have hO:Sh.Only (fun b'=>b'=g.c\/b'=g.m\/g.u.ownBlock=some b') w w2 :=
  (((Sh.Only.refl _ w).grown hg1 (fun b' e2=>.inl (.inr (.inr (by rw [hb1,e2]))))).alloc _).grown hgrow2 (fun b' e2=>.inl (.inr (.inr (by rw [hb1,<- e2];rfl))))
 refine ⟨rfl,_,h.rerow (fun z hz=>mem_useE he hz) (keys_useE h.ca.keys) (ptr_useE h.ca.ptr he) (by rw [len_useE h.ca.keys he];exact h.ca.len) ?_ ?_ ?_ (u:=.slice (some ⟨g2,0,none⟩) (n-1+1) cap2) ?_ (hO.setCell (p:=⟨g.c,3,none⟩) (.inl (.inl rfl)) _)⟩
 ·rw [ptrs_useE h.ca.keys he]
  exact h.ca.map.same (by rw [heap_setCell_other _ _ _ _ (h.ca.c_m).symm];exact hkeep _ h.ca.map.lt (fun e2=>h.ca.u_m (by rw [hb1,e2])))
 ·have hr:=hkeep _ hclt hbc.symm
  rw [h.ca.root] at hr
  rw [heap_setCell_same _ _ _ _ _ _ hr]
  rfl
 ·have e3:(useE l e).length=n-1+1:=by rw [len_useE h.ca.keys he,HN.out];omega
  rw [HK.out,e3]
  exact Sh.same_row hown2 fun b' hb'=>heap_setCell_other _ _ _ _ (fun e2=>hg2c (by simp only [Value.ownBlock,Option.some.injEq] at hb';rw [hb',e2]))
 ·intro b' hb'
  simp only [Value.ownBlock,Option.some.injEq] at hb'
  subst hb'
  rcases hg2 with e2 | e2
  ·left;rw [hb1,e2]
  ·exact .inr e2
end
open Go.Proofs.YtcnjpmcelihknaaGreatDoor.Sh (bts bts_length Reads)
theorem drop_put {l:List En} {e0 e:En} (hk:e.k=e0.k):dropE (putE l e) e0.k=dropE l e0.k:=by
 unfold dropE putE
 induction l with
 | nil=>rfl
 | cons a t ih =>
  rw [List.map_cons]
  by_cases h:a.k=e.k
  ·rw [if_pos h,List.filter_cons_of_neg (by simp [hk]),List.filter_cons_of_neg (by simp [h,hk]),ih]
  ·rw [if_neg h]
   have h2:a.k≠e0.k:=fun q=>h (q.trans hk.symm)
   rw [List.filter_cons_of_pos (by simpa using h2),List.filter_cons_of_pos (by simpa using h2),ih]
theorem WbR.same {V:VolK} {x x':V.σ} {e e':En} {y:Int} (h:WbR V x e y x' e'):e'.k=e.k/\e'.p=e.p/\e'.pins=e.pins/\e'.d=e.d:=by
 cases h<;>exact ⟨rfl,rfl,rfl,rfl⟩
theorem WbR.refused {V:VolK} {x x':V.σ} {e e':En} {y:Int} (h:WbR V x e y x' e') (hy:y≠0):e'=e:=by
 cases h with
 | clean _=>exact absurd rfl hy
 | no _ _ _ _ _=>rfl
 | done _ _ _=>exact absurd rfl hy
theorem first_spec {l:List En} (h:firstE l<l.length):(l[firstE l]'h).pins=0:=by
 exact of_decide_eq_true (List.findIdx_getElem (p:=fun e:En=>decide (e.pins=0)) (w:=h))
theorem first_none {l:List En} (h:¬firstE l<l.length):∀e∈l,e.pins≠0:=by
 intro e he h2
 exact h (List.findIdx_lt_length_of_exists ⟨e,he,by simpa using h2⟩)
section
variable {V:VolK} {w w':World} {g:Cg} {most:Nat} {l:List En} {x:V.σ} {k:Nat}
set_option maxRecDepth 20000 in
theorem cLeave (h:Cav V w g most l x (k+1)) (hfull:¬l.length<most) {B:Nat} (hB:w.cell? ⟨B,0,none⟩=some (.pointer (some ⟨g.c,0,none⟩))) :
  Calls Tryz.prog 265 #[.pointer (some ⟨g.c,0,none⟩),.func (.func 266) #[] #[.pointer (some ⟨B,0,none⟩)]] w fun r w' =>
   ∃(y:Int) (l':List En) (x':V.σ),r=.returned (.int .i64 y)/\RoomR V most l x y l' x'/\LeftC V w g most l x l' x' k w':=by
 have hpos:0<l.length:=by have:=h.ca.most1;omega
 obtain ⟨b,cap,hu,hblt,hbn,hcap⟩:=Sh.own_form h.ca.row hpos
 have c3:=h.ca.c3
 rw [hu] at c3
 have HI:=hid (idxRoom h.ca hB hu)
 have HF:=hid hfull
 have HH:=hid (And.intro h hu)
 have hM:l.length<=1024:=Nat.le_trans h.ca.len h.ca.mostM
 by_cases hfi:firstE l<l.length
 ·have hat:atV l (firstE l)=(firstE l:Int):=by simp [atV,hfi]
  rw [hat] at HI
  have HE:=hid (And.intro (first_spec hfi) (List.getElem?_eq_getElem hfi))
  have he:l[firstE l]∈l:=List.getElem_mem hfi
  have hcell:w.cell? ⟨b,firstE l,none⟩=some (.int .i64 ((l[firstE l].k:Nat):Int)):=by
   have hr:=h.ca.row
   rw [hu] at hr
   exact Sh.cell_at hr (keysV_get l _ hfi)
  generalize hee:l[firstE l]=e at *
  have HW:=hid (cWB h he)
  have HEK:=hid (And.intro he hfi)
  have hbc:b≠g.c:=fun e2=>h.ca.c_u (by rw [hu,<- e2];rfl)
  have hbm:b≠g.m:=fun e2=>h.ca.u_m (by rw [hu,<- e2];rfl)
  have hcm:=h.ca.c_m
  have hkey:=keyI (e.k:Int) (h.ca.klow he)
  clear hee h
  generalize hfe:firstE l=i at *
  generalize hn:l.length=n at *
  have HN:=hid (And.intro hn hfe)
  clear hfull hu hat hfe hn hB
  generalize hek:(e.k:Int)=ek at *
  have HEQ:=hid hek
  clear hek
  go_enter Tryz.func265,Tryz.ntmps265
  go_wp2_with fail
  refine HI.out.mono ?_
  rintro r w1 ⟨rfl,rfl⟩
  go_wp2_with fail
  refine HW.out.mono ?_
  rintro r w1 ⟨y,x',e',rfl,hwb,hst⟩
  have HS:=hid (And.intro hwb hst)
  by_cases hy:y=0
  ·subst hy
   have c2':=hst.1.ca.c2
   have c3':=hst.1.ca.c3
   rw [HH.out.2] at c3'
   have f3':=hst.1.ca.free 3
   obtain ⟨Dm,hown,hf⟩:=hst.1.ca.map
   have HD:=hid hf
   have hrow1:=hst.1.ca.row
   rw [putE_length,putE_keysV,HH.out.2,<- intsK_V,HN.out.1] at hrow1
   clear hf hwb hst HI HW c3
   have hclt1:=block_lt_of_cell c3'
   go_wp2_with (first
    | (at_delete;refine wpList_delete_own _ rfl _ _ 138 3 rfl 208 Sh.lawInt Tryz.underlying138 _ g.m _ Dm rfl (by first | exact hown | exact hown.drew) _ _ rfl hkey ?_;intro w2 hown2 hturn2;have hg2:=hturn2.grown;have c3'':w2.cell? ⟨g.c,3,none⟩=some (.slice (some ⟨b,0,none⟩) n cap):=hg2.cell c3' (fun e2=>hcm (by injection e2));have f3'':w2.frozen? ⟨g.c,3,none⟩=false:=(World.frozen?_of_block (w:=w1) (hg2.block g.c hclt1 (fun e2=>hcm (by injection e2)))).trans f3';have hrow2:=hrow1.kept hg2 (.inr (fun e2=>hbm (by injection e2))))
    | fail)
   refine (delRow hrow2 hfi (by omega)).mono ?_
   rintro r w3 ⟨rfl,hrow3,hg3⟩
   have c3''':w3.cell? ⟨g.c,3,none⟩=some (.slice (some ⟨b,0,none⟩) n cap):=hg3.cell c3'' (fun e2=>hbc (by injection e2 with e2;exact e2.symm))
   have hclt2:=block_lt_of_cell c3''
   have f3''':w3.frozen? ⟨g.c,3,none⟩=false:=(World.frozen?_of_block (w:=w2) (hg3.block g.c hclt2 (fun e2=>hbc (by injection e2 with e2;exact e2.symm)))).trans f3''
   clear c2' c3' f3' c3'' f3''
   go_wp2
   go_ret
   have h:=HH.out.1
   have h1:=HS.out.2.1
   have hu:=HH.out.2
   have hb1:g.u.ownBlock=some b:=by rw [hu];rfl
   have hsm:=HS.out.1.same
   have hin:e'∈putE l e':=List.mem_map.2 ⟨e,HEK.out.1,by rw [if_pos hsm.1.symm]⟩
   have hdrop:dropE (putE l e') e'.k=dropE l e.k:=by rw [hsm.1];exact drop_put hsm.1
   have hnd1:=h1.ca.keys
   have hlen1:=len_dropE hnd1 hin
   have hO:Sh.Only (fun b'=>b'=g.c\/b'=g.m\/g.u.ownBlock=some b') w1 w3 :=
    ((Sh.Only.refl _ w1).grown hg2 (fun b' e2=>.inl (.inr (.inl (by injection e2 with e2;exact e2.symm))))).grown hg3 (fun b' e2=>.inl (.inr (.inr (by rw [hb1,e2]))))
   have hwc:w3.heap[g.c]?=w1.heap[g.c]?:=by
    rw [hg3.block g.c hclt2 (fun e2=>hbc (by injection e2 with e2;exact e2.symm)),hg2.block g.c hclt1 (fun e2=>hcm (by injection e2))]
   have hwm:w3.heap[g.m]?=w2.heap[g.m]?:=hg3.block g.m hown2.lt (fun e2=>hbm (by injection e2 with e2;exact e2.symm))
   refine ⟨0,dropE l e.k,x',rfl,.left e e' x' (by rw [HN.out.1];exact HF.out) (by rw [HN.out.2];exact HE.out.2) HE.out.1 HS.out.1,.slice (some ⟨b,0,none⟩) (n-1) cap,?_⟩
   have hr:=h1.rerow (w':=w3.setCell ⟨g.c,3,none⟩ (.slice (some ⟨b,0,none⟩) (n-1) cap)) (l':=dropE (putE l e') e'.k) (u:=.slice (some ⟨b,0,none⟩) (n-1) cap) (fun z hz=>(List.mem_filter.1 hz).1) ((List.Sublist.map _ List.filter_sublist).nodup hnd1) ((List.Sublist.map _ List.filter_sublist).nodup h1.ca.ptr)
    (by have:=h1.ca.len;omega) ?_ ?_ ?_ ?_ (hO.setCell (p:=⟨g.c,3,none⟩) (.inl (.inl rfl)) _)
   ·rw [hdrop] at hr
    exact ⟨hr.1,HS.out.2.2.trans hr.2⟩
   ·refine ⟨_,Sh.same_map hown2 (by rw [heap_setCell_other _ _ _ _ hcm.symm,hwm]),?_⟩
    have hd:=pdel_is ek HD.out
    rw [ptrs_dropE hnd1,hsm.1,HEQ.out]
    exact hd
   ·rw [h1.ca.root] at hwc
    rw [heap_setCell_same _ _ _ _ _ _ hwc]
    rfl
   ·have e3:(dropE (putE l e') e'.k).length=n-1:=by rw [hlen1.1,putE_length,HN.out.1]
    have hpl:keysV (dropE (putE l e') e'.k)=((intsK l).take i++(intsK l).drop (i+1)).map (Value.int .i64):=by
     rw [hdrop,dropE_at h.ca.keys HE.out.2]
     simp [keysV,intsK,List.map_take,List.map_drop,Function.comp_def]
    rw [e3,hpl]
    exact Sh.same_row hrow3 fun b' hb'=>heap_setCell_other _ _ _ _ (fun e2=>hbc (by simp only [Value.ownBlock,Option.some.injEq] at hb';rw [hb',e2]))
   ·intro b' hb'
    left
    rw [hb1]
    exact hb'
  ·have hself:e'=e:=HS.out.1.refused hy
   have q:(y != 0)=true:=by simpa using hy
   clear hwb hst HI HW c3
   go_wp2
   go_ret
   subst hself
   have hst:=HS.out.2
   rw [putE_self HH.out.1.ca.keys HEK.out.1] at hst
   refine ⟨y,l,x',rfl,.no e' y x' (by rw [HN.out.1];exact HF.out) (by rw [HN.out.2];exact HE.out.2) HE.out.1 HS.out.1 hy,g.u,hst⟩
 ·have hat:atV l (firstE l)=-1:=by simp [atV,hfi]
  rw [hat] at HI
  have HFI:=hid hfi
  clear h hfull hu hat hfi hB
  go_enter Tryz.func265,Tryz.ntmps265
  go_wp2_with fail
  refine HI.out.mono ?_
  rintro r w1 ⟨rfl,rfl⟩
  go_wp2
  go_ret
  exact ⟨6,l,x,rfl,.full HF.out (first_none HFI.out),g.u,HH.out.1.less (Nat.le_succ _),Sh.Moves.refl _ _⟩
end
open Go.Proofs.YtcnjpmcelihknaaGreatDoor.Sh (bts bts_length Reads)
theorem fold_set:∀(l:List Value) (i0:Nat) (cs:List Value),i0+l.length<=cs.length ->
  (l.zipIdx i0).foldl (fun (cs:Array Value) (x:Value × Nat)=>cs.setIfInBounds (0+x.2) x.1) cs.toArray=(cs.take i0++l++cs.drop (i0+l.length)).toArray
 | [],i0,cs,_=>by simp
 | a :: t,i0,cs,h=>by
  rw [List.zipIdx_cons,List.foldl_cons]
  simp only [List.length_cons] at h
  have e1:cs.toArray.setIfInBounds (0+i0) a=(cs.set i0 a).toArray:=by rw [Nat.zero_add,List.setIfInBounds_toArray]
  rw [e1,fold_set t (i0+1) (cs.set i0 a) (by simp;omega)]
  congr 1
  have hi:i0<cs.length:=by omega
  have e2:(cs.set i0 a).take (i0+1)=cs.take i0++[a]:=by
   rw [List.take_add_one,List.take_set_of_le (Nat.le_refl _)]
   simp [hi]
  have e3:(cs.set i0 a).drop (i0+1+t.length)=cs.drop (i0+(a :: t).length):=by
   rw [List.drop_set_of_lt (by omega)]
   congr 1
   simp
   omega
  rw [e2,e3]
  simp
def zeroE:Array Value:=(List.replicate 128 (Value.int .u8 0)++[Value.bool false,Value.int .i64 0]).toArray
theorem built_entry (v:Value):Tryz.prog.built 210 [(0,v)]=Instr.fill (#[(0,128),(128,1),(129,1)][·]?) zeroE [(0,v)]:=by kernel_rfl
theorem run_entry (w:World) (b:Sh.Bs) (hb:b.length=128):(Instr.build 210 #[(0,.agg (bts b).toArray)]).run Tryz.prog w=.ok (.agg (bts b++[Value.bool false,Value.int .i64 0]).toArray) w:=by
 refine run_build w _ _ _ ?_
 rw [built_entry]
 have hl:(bts b).length=128:=by rw [bts_length,hb]
 have hz:zeroE=(List.replicate 128 (Value.int .u8 0)++[Value.bool false,Value.int .i64 0]).toArray:=rfl
 unfold Instr.fill
 have e0:(#[(0,128),(128,1),(129,1)]:Array (Nat × Nat))[0]?=some (0,128):=rfl
 have e1:(Value.agg (bts b).toArray).cells=(bts b).toArray:=rfl
 have e2:((bts b).toArray.size≠128 || 0+(bts b).toArray.size>zeroE.size)=false:=by
  rw [hz]
  simp [hl]
 have e3:(bts b).toArray.zipIdx.foldl (fun (cs:Array Value) (x:Value × Nat)=>cs.setIfInBounds (0+x.2) x.1) zeroE=(bts b++[Value.bool false,Value.int .i64 0]).toArray:=by
  have h1:=fold_set (bts b) 0 (List.replicate 128 (Value.int .u8 0)++[Value.bool false,Value.int .i64 0]) (by simp [hl])
  rw [hl,List.take_zero,List.nil_append,List.drop_left' (by simp)] at h1
  rw [hz,<- h1,<- Array.foldl_toList,Array.toList_zipIdx]
 simp only [e0,e1,e2,Bool.false_eq_true,if_false]
 unfold Instr.fill
 exact congrArg some e3
section
variable {V:VolK} {w w':World} {g:Cg} {most:Nat} {l:List En} {x:V.σ} {k:Nat}
theorem LeftC.from_ {w1:World} {l':List En} {x':V.σ} (hb:Below w.heap.size w w1) (h:LeftC V w1 g most l x l' x' k w'):LeftC V w g most l x l' x' k w':=by
 obtain ⟨u,h1,h2⟩:=h
 exact ⟨u,h1,Sh.Moves.trans (F1:=AllC V x g l) ⟨(only_below hb).mono (fun _ e=>e.elim),fun b e=>.inl e⟩ h2⟩
theorem cRoom (h:Cav V w g most l x (k+1)):Calls Tryz.prog 232 #[.pointer (some ⟨g.c,0,none⟩)] w fun r w' =>
  ∃(y:Int) (l':List En) (x':V.σ),r=.returned (.int .i64 y)/\RoomR V most l x y l' x'/\LeftC V w g most l x l' x' k w':=by
 have hb0:Below w.heap.size w (w.alloc (.cells #[.pointer (some ⟨g.c,0,none⟩)] 47)):=(Below.refl _ _).alloc (Nat.le_refl _) _
 have h1:=h.grown hb0
 obtain ⟨A,cap,hu⟩:=Sh.own_shape2 h1.ca.row
 have c1:=h1.ca.c1
 have c3:=h1.ca.c3
 rw [hu] at c3
 have HH:=hid h
 have HB:=hid (hb0.trans ((Below.refl _ _).drew.mono hb0.size))
 by_cases hf:l.length<most
 ·have q:decide ((l.length:Int)<(most:Int))=true:=by simpa using hf
  have HF:=hid hf
  clear h h1 hu hf
  generalize hn:l.length=n at *
  have HN:=hid hn
  clear hn
  go_enter Tryz.func232,Tryz.ntmps232
  go_wp2
  go_region
  go_wp2
  go_ret
  exact ⟨0,l,x,rfl,.free (by rw [HN.out];exact HF.out),LeftC.from_ HB.out ⟨g.u,(HH.out.less (Nat.le_succ _)).grown HB.out,Sh.Moves.refl _ _⟩⟩
 ·have q:decide ((l.length:Int)<(most:Int))=false:=by simpa using hf
  have HF:=hid hf
  have HL:=hid (fun (W:World) (hb:Below w.heap.size w W) (hB:W.cell? ⟨w.heap.size,0,none⟩=some (.pointer (some ⟨g.c,0,none⟩)))=>cLeave (h.grown hb) hf hB)
  clear h h1 hu hf
  generalize hn:l.length=n at *
  have HN:=hid hn
  clear hn
  go_enter Tryz.func232,Tryz.ntmps232
  go_wp2
  go_region
  go_wp2_with fail
  refine (HL.out _ HB.out (cell_of_row _ _ 0 _ _ _ (heap_alloc_new w _))).mono ?_
  rintro r w1 ⟨y,l',x',rfl,hR,hL⟩
  go_wp2
  go_ret
  exact ⟨y,l',x',rfl,hR,LeftC.from_ HB.out hL⟩
end
open Go.Proofs.YtcnjpmcelihknaaGreatDoor.Sh (bts bts_length Reads)
theorem exec_load_any {P:Program} {o:Oper} {a:Act} {w:World} (ty:TypeId) (p:Operand) (ho:o.op=.load ty p)
  (ad:Addr) (hx:a.eval p=.pointer (some ad)) (cs:List Value) (d:TypeDesc) (hc:∀j v,cs[j]?=some v->w.cell? (ad.add j)=some v)
  (hu:P.underlying ty=some d) (hd:d.isRow=true) (hi:(P.info? ty).map (·.size)=some cs.length):(execOp a.eval o).run P w=.ok (.value (.agg cs.toArray)) w:=by
 unfold execOp
 simp only [ho,hx,Instr.loadAt,Instr.sureAddr,Sem.run_bind,Sem.run_pure,Result.andThen_ok,run_loadVar_any w ad ty cs d hc hu hd hi]
theorem exec_entry {o:Oper} {a:Act} {w:World} (p:Operand) (ho:o.op=.build 210 #[(0,p)]) (b:Sh.Bs) (hb:b.length=128) (hx:a.eval p=.agg (bts b).toArray) :
  (execOp a.eval o).run Tryz.prog w=.ok (.value (.agg (bts b++[Value.bool false,Value.int .i64 0]).toArray)) w:=by
 have h1:=run_entry w b hb
 have h2:(#[(0,p)]:Array (Nat × Operand)).map (fun (i,x)=>(i,a.eval x))=#[(0,.agg (bts b).toArray)]:=by simp [hx]
 unfold execOp
 simp only [ho,h2,Sem.run_bind,h1,Result.andThen_ok,Sem.run_pure]
theorem wp_mapUpdate_p {P:Program} {o:Oper} {a:Act} {w w':World} {K:Act->World->Prop} {Q:Exit->Act->World->Prop} (m x v:Operand) (t:TypeId) (hop:o.op=Op.mapUpdate t m x v)
  (M key val:Value) (hm:a.eval m=M) (hx:a.eval x=key) (hv:a.eval v=val) (hrun:(Instr.mapUpdate t M key val).run P w=.ok () w') (hK:K (a.put o.dst undef) w'):o.wp P a w K Q:=by
 unfold Oper.wp
 simp [execOp,hop,hm,hx,hv,hrun,Result.andThen]
 exact hK
section
variable {V:VolK} {w w':World} {g:Cg} {most:Nat} {l:List En} {x:V.σ} {k:Nat}
theorem Cav.add (h:Cav V w g most l x k) {e:En} {u:Value} (hlen:l.length<most) (hk:∀z∈l,z.k≠e.k) (hV:e.k<V.n) (hs:Sh.Sec e.d) (hpin:e.pins<=4611686018427387904) (hp:w.heap.size<=e.p)
  (he:w'.heap[e.p]?=some (.cells (cellsE e).toArray 210 (0,0)))
  (hmap:PMap w' g.m 1024 (ptrs (l++[e]))) (hroot:w'.heap[g.c]?=some (.cells #[.pointer (some ⟨V.v,0,none⟩),.int .i64 (most:Int),.map (some g.m),u] 140 (0,0)))
  (hrow:w'.ownsRow 0 3 1 u (l++[e]).length (keysV (l++[e]))) (hu:∀b,u.ownBlock=some b->g.u.ownBlock=some b\/w.heap.size<=b)
  (ho:Sh.Only (fun b=>b=g.c\/b=g.m\/g.u.ownBlock=some b) w w') :
  Cav V w' { g with u:=u } most (l++[e]) x k/\Sh.Moves (AllC V x g l) w (AllC V x { g with u:=u } (l++[e])) w':=by
 have hin:∀b,(b=g.c\/b=g.m\/g.u.ownBlock=some b)->g.has l b:=fun b hb=>hb.imp id (fun q=>q.imp id .inl)
 have hent:∀z∈l,w'.heap[z.p]?=w.heap[z.p]?:=fun z hz=>ho.block _ (lt_of_block (h.ca.ent z hz)) fun q=>by
  rcases q with q | q | q
  ·exact h.ca.p_c hz q
  ·exact h.ca.p_m hz q
  ·exact h.ca.p_u hz q
 have hall:∀{p:En->Prop},(∀z∈l,p z)->p e->∀z∈l++[e],p z:=fun h1 h2 z hz=>by
  rcases List.mem_append.1 hz with q | q
  ·exact h1 z q
  ·rw [List.mem_singleton.1 q];exact h2
 have hsub:∀b,Cg.has { g with u:=u } (l++[e]) b->g.has l b\/w.heap.size<=b:=fun b hb=>by
  rcases hb with q | q | q | ⟨z,hz,q⟩
  ·exact .inl (.inl q)
  ·exact .inl (.inr (.inl q))
  ·exact (hu b q).imp (fun e=>.inr (.inr (.inl e))) id
  ·rcases List.mem_append.1 hz with hz | hz
   ·exact .inl (.inr (.inr (.inr ⟨z,hz,q⟩)))
   ·right;rw [q,List.mem_singleton.1 hz];exact hp
 refine ⟨⟨⟨h.ca.most1,h.ca.mostM,hroot,hrow,by simp;omega,hmap,hall (fun z hz=>by rw [hent z hz];exact h.ca.ent z hz) he,hall h.ca.secs hs,hall h.ca.pins hpin,hall h.ca.lows hV,?_,?_⟩,V.stays h.vol ho fun b hb e=>h.apart b e (hin b hb),fun b hb e=>?_⟩,ho.mono fun b hb=>.inr (hin b hb),fun b hb=>?_⟩
 ·rw [List.map_append,List.nodup_append]
  refine ⟨h.ca.keys,by simp,fun a ha b hb=>?_⟩
  obtain ⟨z,hz,rfl⟩:=List.mem_map.1 ha
  simp only [List.map_cons,List.map_nil,List.mem_singleton] at hb
  rw [hb]
  exact hk z hz
 ·rw [List.map_append,List.nodup_append]
  refine ⟨h.ca.ptr,by simp,fun a ha b hb=>?_⟩
  obtain ⟨z,hz,rfl⟩:=List.mem_map.1 ha
  simp only [List.map_cons,List.map_nil,List.mem_singleton] at hb
  rw [hb]
  have:=lt_of_block (h.ca.ent z hz)
  omega
 ·rcases hsub b e with q | q
  ·exact h.apart b hb q
  ·have:=V.lt h.vol b hb
   omega
 ·rcases hb with q | q
  ·exact .inl (.inl q)
  ·exact (hsub b q).imp .inr id
theorem RoomR.room {y:Int} {l':List En} {x':V.σ} (h:RoomR V most l x y l' x') (hn:(l.map En.k).Nodup) (hm:l.length<=most) (hy:y=0):l'.length<most:=by
 cases h with
 | free h=>exact h
 | full _ _=>cases hy
 | no _ _ _ _ _ _ _ hne=>exact absurd hy hne
 | left e _ _ h1 h2 _ _ =>
  have:=len_dropE hn (List.mem_of_getElem? h2)
  omega
theorem RoomR.sub {y:Int} {l':List En} {x':V.σ} (h:RoomR V most l x y l' x'):∀z∈l',z∈l:=by
 intro z hz
 cases h with
 | free _=>exact hz
 | full _ _=>exact hz
 | no _ _ _ _ _ _ _ _=>exact hz
 | left _ _ _ _ _ _ _=>exact (List.mem_filter.1 hz).1
end
open Go.Proofs.YtcnjpmcelihknaaGreatDoor.Sh (bts bts_length Reads)
theorem nodup_len:∀(a b:List Int),a.Nodup->(∀x∈a,x∈b)->a.length<=b.length
 | [],_,_,_=>by simp
 | x :: t,b,hn,hs=>by
  rw [List.nodup_cons] at hn
  have hx:x∈b:=hs x (List.mem_cons_self ..)
  have h1:=nodup_len t (b.erase x) hn.2 (fun y hy=>(List.mem_erase_of_ne (fun e=>hn.1 (by rw [<- e];exact hy))).2 (hs y (List.mem_cons_of_mem _ hy)))
  rw [List.length_erase_of_mem hx] at h1
  have:=List.length_pos_of_mem hx
  simp only [List.length_cons]
  omega
def numL:Lit->Int
 | .int _ a=>a
 | _=>0
theorem PMap.tight {w:World} {m n:Nat} {l:List En} (h:PMap w m n (ptrs l)):PMap w m l.length (ptrs l):=by
 obtain ⟨D,hown,hf⟩:=h
 have hent:=hown.entries Sh.lawInt
 obtain ⟨es,clock,hb,F,hs,hD⟩:=hown
 refine ⟨D,⟨es,clock,hb,F,?_,hD⟩,hf⟩
 obtain ⟨es0,h0,hpw,_⟩:=hent
 have hk:=Maps.fit_keys F
 have hes:es0=(es.toList.map (WideElems.rg Tryz.prog 3 ptrR)).foldr DataW.insert []:=by
  rw [h0] at hD
  injection hD
 have hlen:es0.length=es.size:=by rw [hes,length_sorted];simp
 have hint:∀p∈es0,∃a,p.1=.int .i64 a/\a∈l.map fun e=>(e.k:Int):=by
  intro p hp
  have hp2:=hp
  rw [hes,(WideShapes.sorted_perm _).mem_iff] at hp2
  obtain ⟨v,hv⟩:=hk _ hp2
  obtain ⟨a,ha⟩:∃a,p.1=.int .i64 a:=by
   generalize p.1=q at hv
   cases v<;>simp [keyOf,mapKey,Tryz.underlying3] at hv
   exact ⟨_,hv.2.symm⟩
  refine ⟨a,ha,?_⟩
  have h1:=(hf a).1
  rw [h0,Maps.has_eq] at h1
  have h2:es0.any (fun p=>p.1.sameKey (.int .i64 a))=true:=by
   rw [List.any_eq_true]
   exact ⟨p,hp,by rw [ha];simp [Lit.sameKey]⟩
  rw [h2] at h1
  unfold ptrs at h1
  rcases hq:finds l a with _ | z
  ·rw [hq] at h1;cases h1
  ·obtain ⟨hz,hza⟩:=finds_some hq
   exact List.mem_map.2 ⟨z,hz,hza⟩
 rw [<- hlen]
 have h3:=nodup_len (es0.map fun p=>numL p.1) (l.map fun e=>(e.k:Int)) ?_ ?_
 ·simpa using h3
 ·rw [List.Nodup,List.pairwise_map]
  refine hpw.imp_of_mem fun {p q} hp hq hne e=>hne ?_
  obtain ⟨a,ha,_⟩:=hint p hp
  obtain ⟨b,hb2,_⟩:=hint q hq
  rw [ha,hb2] at e ⊢
  simp only [numL] at e
  rw [e]
 ·intro y hy
  obtain ⟨p,hp,rfl⟩:=List.mem_map.1 hy
  obtain ⟨a,ha,hm⟩:=hint p hp
  rw [ha]
  exact hm
open Go.Proofs.YtcnjpmcelihknaaGreatDoor.Sh (bts bts_length Reads)
theorem info_arr:(Tryz.prog.info? 147).map (·.size)=some 128:=by kernel_rfl
theorem run_arr (w:World) (A:Option Addr) (c:Nat):(Instr.arrayAt 147 (.slice A 128 c)).run Tryz.prog w=.ok (.pointer A) w:=by
 unfold Instr.arrayAt
 simp only [Sem.run_bind,run_underlying Tryz.underlying147 w,Result.andThen_ok]
 rfl
theorem exec_arr {o:Oper} {a:Act} {w:World} (p:Operand) (ho:o.op=.sliceToArrayPointer 147 p) (A:Option Addr) (c:Nat) (hx:a.eval p=.slice A 128 c):(execOp a.eval o).run Tryz.prog w=.ok (.value (.pointer A)) w:=by
 unfold execOp
 simp only [ho,hx,Sem.run_bind,run_arr,Result.andThen_ok,Sem.run_pure]
section
variable {V:VolK} {w w':World} {g:Cg} {most:Nat} {l:List En} {x:V.σ} {k:Nat}
set_option maxRecDepth 20000 in
set_option maxHeartbeats 1000000 in
theorem cKeep (h:Cav V w g most l x (k+1)) {m:Nat} (hm:m<V.n) (hf:finds l (m:Int)=none) {A:Option Addr} {b:Sh.Bs} (hA:Sh.Beside w (AllC V x g l) A b) (hb:Sh.Sec b) (cp:Nat) :
  Calls Tryz.prog 206 #[.pointer (some ⟨g.c,0,none⟩),.int .i64 (m:Int),.slice A 128 cp] w fun r w' =>
   ∃(y:Int) (l':List En) (x':V.σ),r=.returned (.int .i64 y)/\KeepR V most m b l x y l' x'/\LeftC V w g most l x l' x' k w':=by
 have HR:=hid (cRoom h)
 have HH:=hid (And.intro h (And.intro hf hA))
 have HB:=hid hb.1
 have HS:=hid hb
 have HM:=hid hm
 obtain ⟨i0,hi,hz0,hz1,hz2⟩:=info_parts info_int
 have hmk:=keyI (m:Int) (by have:=V.nmax;omega)
 generalize hmm:(m:Int)=mk at *
 have HMK:=hid hmm
 clear h hf hA hb hm hmm
 go_enter Tryz.func206,Tryz.ntmps206
 go_wp2_with fail
 refine HR.out.mono ?_
 rintro r w1 ⟨y,l1,x1,rfl,hR,hL⟩
 have HRR:=hid hR
 by_cases hy:y=0
 ·subst hy
  obtain ⟨u,hc1,hmv⟩:=hL
  have hroom:=hR.room HH.out.1.ca.keys HH.out.1.ca.len rfl
  have hbs:=HH.out.2.2.moves hmv
  obtain ⟨ad,hAd,hadlt,hrd⟩:=hbs.1.2 (by decide)
  subst hAd
  have HRD:Hid (∀W',Below w1.heap.size w1 W'->∀j v,(bts b)[j]?=some v->W'.cell? (ad.add j)=some v):=hid fun W' hW j v hv=>by
   rw [hW.cell (by rw [Sh.block_of_add];exact hadlt)]
   exact hrd j v hv
  have c2:=hc1.ca.c2
  have c3:=hc1.ca.c3
  have f3:=hc1.ca.free 3
  have hclt:=block_lt_of_cell c2
  have HI94:Hid ((Tryz.prog.info? 147).map (·.size)=some (bts b).length):=hid (by rw [bts_length,HB.out];exact info_arr)
  obtain ⟨Dm,hown,hD⟩:=hc1.ca.map.tight
  have hlow:l1.length<=1024:=Nat.le_trans hc1.ca.len hc1.ca.mostM
  obtain ⟨A2,cap,hu⟩:=Sh.own_shape2 hc1.ca.row
  have hu2:u=.slice A2 l1.length cap:=hu
  have hrow1:=hc1.ca.row
  have hr3:Cg.u { g with u:=u }=u:=rfl
  rw [hr3,hu2] at hrow1
  rw [hr3,hu2] at c3
  have hcm:=hc1.ca.c_m
  have hcu:(Value.slice A2 l1.length cap).ownBlock≠some g.c:=by rw [<- hu2];exact hc1.ca.c_u
  have hum:(Value.slice A2 l1.length cap).ownBlock≠some g.m:=by rw [<- hu2];exact hc1.ca.u_m
  obtain ⟨X,hX⟩:∃X,(bts b++[Value.bool false,Value.int .i64 0]).toArray=X:=⟨_,rfl⟩
  have HX:=hid hX
  have hownA:=(hown.drew.alloc (.cells X 210))
  have hptr:ptrR (.pointer (some ⟨w1.heap.size,0,none⟩))=some (ptrD (some w1.heap.size),[]):=rfl
  obtain ⟨w2,hrun,hown2,hgrow2⟩:=World.ownsMap.update (t:=138) (e:=208) (d:=ptrD (some w1.heap.size)) (ps:=[]) hownA Sh.lawInt Tryz.underlying138 (by unfold maxLen;omega) hmk hptr
  have HU:=hid hrun
  have HIM:=hid hownA.isMap
  have hBA:Below w1.heap.size w1 (w1.drew.alloc (.cells X 210)):=(Below.refl _ w1).drew.alloc (Nat.le_refl _) _
  have c3':w2.cell? ⟨g.c,3,none⟩=some (.slice A2 l1.length cap):=hgrow2.cell ((World.cell?_of_block (a:=⟨g.c,3,none⟩) (hBA.block g.c hclt)).trans c3) (fun e2=>hcm (by injection e2))
  have f3':w2.frozen? ⟨g.c,3,none⟩=false:=(World.frozen?_of_block (w:=w1) ((hgrow2.block g.c (Nat.lt_of_lt_of_le hclt hBA.size) (fun e2=>hcm (by injection e2))).trans (hBA.block g.c hclt))).trans f3
  have hrow2:=(hrow1.alloc (.cells X 210)).kept (w:=w1.alloc (.cells X 210)) (w':=w2) ⟨hgrow2.os,hgrow2.tape,hgrow2.output,hgrow2.size,hgrow2.block⟩ (.inr hum)
  have HC:=hid (And.intro hc1 (And.intro hmv (And.intro hroom (And.intro hu2 hD))))
  have hadm:ad.block≠g.m:=fun e2=>hbs.2 ad rfl (.inr (.inr (.inl e2)))
  have HBU:Hid (∀W',Below w1.heap.size w1 W'->W'.cell? ⟨g.c,2,none⟩=some (.map (some g.m))/\∀j v,(bts b)[j]?=some v->W'.cell? (ad.add j)=some v):=hid fun W' hW=>⟨(hW.cell hclt).trans c2,HRD.out W' hW⟩
  have HBV:Hid (w2.cell? ⟨g.c,2,none⟩=some (.map (some g.m))/\∀j v,(bts b)[j]?=some v->w2.cell? (ad.add j)=some v):=hid ⟨hgrow2.cell ((hBA.cell hclt).trans c2) (fun e2=>hcm (by injection e2)),fun j v hv=>hgrow2.cell (HRD.out _ hBA j v hv) (fun e2=>hadm (by injection e2 with e2;rw [Sh.block_of_add] at e2;exact e2))⟩
  have HBA:=hid hBA
  clear hBA hadm hadlt hc1 hmv hR hroom hbs hrd c2 c3 f3 hu hu2 hX hown hD hownA hptr hrun hr3 hrow1
  go_wp2_with fail
  refine wp_region_held_drew (S:=fun W'=>W'.cell? ⟨g.c,2,none⟩=some (.map (some g.m))/\∀j v,(bts b)[j]?=some v->W'.cell? (ad.add j)=some v) (by kernel_rfl) (HBU.out _ (Below.refl _ w1).drew) (fun hHeld=>?_)
  refine tk 0 13 ?_
  refine tk 1 14 ?_
  refine tk 2 15 ?_
  refine wpAnyH_take (i:=3) (oi:=⟨some 16,_,_,_,_,_⟩) (v:=?_) rfl (by kernel_rfl) (by kernel_rfl) (by kernel_rfl) (fun _ _ _ h=>h) (Or.inl ⟨by rfl,?_⟩) (by assumption) ?_
  rotate_left
  ·(intro w hSw;obtain ⟨hq,_⟩:=hSw;(try dsimp only at hSw);go_simp;first | done | with_reducible rfl)
  try simp only [Act.put,List.setIfInBounds_toArray,List.set_cons_zero,List.set_cons_succ]
  refine tk 4 17 ?_
  refine tk 5 18 ?_
  refine wpAnyH_take (i:=6) (oi:=⟨some 19,_,_,_,_,_⟩) (v:=.pointer (some ad)) rfl (by kernel_rfl) (by kernel_rfl) (by kernel_rfl) (fun _ _ _ h=>h) (Or.inl ⟨by rfl,fun W hW=>exec_arr (.tmp 18) rfl (some ad) cp rfl⟩) (by assumption) ?_
  try simp only [Act.put,List.setIfInBounds_toArray,List.set_cons_zero,List.set_cons_succ]
  refine wpAnyH_take (i:=7) (oi:=⟨some 20,_,_,_,_,_⟩) (v:=.agg (bts b).toArray) rfl (by kernel_rfl) (by kernel_rfl) (by kernel_rfl) (fun _ _ _ h=>h) (Or.inl ⟨by rfl,fun W hW=>exec_load_any 147 (.tmp 19) rfl ad rfl (bts b) _ hW.2 Tryz.underlying147 rfl HI94.out⟩) (by assumption) ?_
  try simp only [Act.put,List.setIfInBounds_toArray,List.set_cons_zero,List.set_cons_succ]
  refine wpAnyH_take (i:=8) (oi:=⟨some 21,_,_,_,_,_⟩) (v:=.agg X) rfl (by kernel_rfl) (by kernel_rfl) (by kernel_rfl) (fun _ _ _ h=>h) (Or.inl ⟨by rfl,fun W hW=>by rw [<- HX.out];exact exec_entry (.tmp 20) rfl b HB.out rfl⟩) (by assumption) ?_
  try simp only [Act.put,List.setIfInBounds_toArray,List.set_cons_zero,List.set_cons_succ]
  refine r1 9 (some 22) fun K hK=>?_
  go_simp
  refine hK.out _ _ (HBU.out _ HBA.out) (fun hHeld=>?_)
  clear hK K
  try simp only [Act.put,List.setIfInBounds_toArray,List.set_cons_zero,List.set_cons_succ]
  refine r1 10 none fun K hK=>?_
  refine wp_mapUpdate_p _ _ _ 138 rfl (.map (some g.m)) (.int .i64 mk) (.pointer (some ⟨w1.heap.size,0,none⟩)) rfl rfl rfl HU.out ?_
  refine hK.out _ _ HBV.out (fun hHeld=>?_)
  clear hK K
  try simp only [Act.put]
  refine wpAnyH_done (by kernel_rfl) ?_ _
  have hclt2:=block_lt_of_cell c3'
  generalize hn:l1.length=n at *
  have HN:=hid hn
  clear hn hHeld HBV HBU HRD HI94 HU
  go_wp2_with (first
   | (at_builtin;go_must (refine wpList_append_lies _ rfl _ _ 22 rfl 0 3 i0 _ 1 8 Tryz.underlying22 hi hz0 hz1 hz2 rfl (by decide) _ n _ rfl (hrow2.alloc _) ⟨w2.heap.size,0,none⟩ 1 1 [.int .i64 mk] rfl rfl (cells1_new _ _ _) (one1 _) (by decide) (by unfold maxLen;omega) (by omega) (Nat.zero_le _) _ rfl ?_;intro g3 cap3 w3 hown3 hgrow3 hlie _;have k3:w3.cell? ⟨g.c,3,none⟩=some (.slice A2 n cap):=hgrow3.cell ((World.cell?_alloc_lt w2 _ ⟨g.c,3,none⟩ hclt2).trans c3') (fun e2=>hcu e2.symm);have k4:w3.frozen? ⟨g.c,3,none⟩=false:=(World.frozen?_of_block (w:=w2) ((hgrow3.block g.c (Nat.lt_of_lt_of_le hclt2 (by simp)) (fun e2=>hcu e2.symm)).trans (Below.heap_alloc _ _ _ hclt2))).trans f3'))
   | go_in)
  go_ret
  obtain ⟨h1,hmv,hroom,hu2,hD⟩:=HC.out
  have hb1:∀b',(Value.slice A2 n cap).ownBlock=some b'->b'<w1.heap.size:=fun b' hb'=>by
   have:=h1.ca.row.lt b' (by show u.ownBlock=some b';rw [hu2];exact hb')
   exact this.2
  have hs2:w1.heap.size+1<=w2.heap.size:=by
   have:=hgrow2.size
   simpa using this
  have hkeep:∀b',b'<w2.heap.size->(Value.slice A2 n cap).ownBlock≠some b'->w3.heap[b']?=w2.heap[b']?:=fun b' q1 q2 =>
   (hgrow3.block b' (Nat.lt_of_lt_of_le q1 (by simp)) (fun e2=>q2 e2.symm)).trans (Below.heap_alloc _ _ _ q1)
  have hg3:(Value.slice A2 n cap).ownBlock=some g3\/w2.heap.size<=g3:=by
   rcases hlie with e2 | e2
   ·exact .inl e2
   ·right
    rw [e2]
    simp
  have hg3c:g3≠g.c:=fun e2=>by
   rcases hg3 with q | q
   ·exact hcu (by rw [q,e2])
   ·omega
  have hO:Sh.Only (fun b'=>b'=g.c\/b'=g.m\/u.ownBlock=some b') w1 w3 :=
   ((((Sh.Only.refl _ w1).drew.alloc (.cells X 210)).grown hgrow2 (fun b' e2=>.inl (.inr (.inl (by injection e2 with e2;exact e2.symm))))).alloc _).grown hgrow3 (fun b' e2=>.inl (.inr (.inr (by rw [hu2];exact e2))))
  have hk1:∀z∈l1,z.k≠m:=fun z hz e2=>by
   have hf:=HH.out.2.1
   exact finds_none hf z (HRR.out.sub z hz) (by rw [<- HMK.out,e2])
  have hadd:=h1.add (w':=w3.setCell ⟨g.c,3,none⟩ (.slice (some ⟨g3,0,none⟩) (n+1) cap3)) (e:=⟨m,w1.heap.size,b,false,0⟩) (u:=.slice (some ⟨g3,0,none⟩) (n+1) cap3) (by rw [HN.out];exact hroom) hk1 HM.out HS.out (by show (0:Nat)<=_;exact Nat.zero_le _) (Nat.le_refl _) ?_ ?_ ?_ ?_ ?_ (hO.setCell (p:=⟨g.c,3,none⟩) (.inl (.inl rfl)) _)
  ·exact ⟨0,rfl,_,x1,.kept l1 x1 w1.heap.size HRR.out,.slice (some ⟨g3,0,none⟩) (n+1) cap3,hadd.1,hmv.trans hadd.2⟩
  ·have q1:w2.heap[w1.heap.size]?=some (.cells X 210 (0,0)):=by
    rw [hgrow2.block w1.heap.size (by simp) (fun e2=>by injection e2 with e2;have:=h1.ca.map.lt;exact Nat.lt_irrefl _ (e2▸this))]
    exact heap_alloc_new w1.drew _
   rw [heap_setCell_other _ _ _ _ (by show w1.heap.size≠g.c;have:=lt_of_block h1.ca.root;intro e2;exact Nat.lt_irrefl _ (e2▸this)),hkeep _ (by omega) (fun e2=>Nat.lt_irrefl _ (hb1 _ e2)),q1,<- HX.out]
   rfl
  ·refine (PMap.mono (n:=n+1) ⟨_,Sh.same_map hown2 (by rw [heap_setCell_other _ _ _ _ (by exact (hcm).symm)];exact hkeep _ hown2.lt hum),?_⟩ (by have:=h1.ca.mostM;omega))
   rw [ptrs_snoc hk1]
   have hp:=pput_is (f:=ptrs l1) (HIM.out) mk w1.heap.size hD
   rw [HMK.out]
   exact hp
  ·have hwc:w3.heap[g.c]?=w1.heap[g.c]?:=by
    rw [hkeep g.c hclt2 hcu,hgrow2.block g.c (Nat.lt_of_lt_of_le hclt HBA.out.size) (fun e2=>hcm (by injection e2)),HBA.out.block g.c hclt]
   rw [h1.ca.root] at hwc
   rw [heap_setCell_same _ _ _ _ _ _ hwc]
   rfl
  ·have e3:(l1++[⟨m,w1.heap.size,b,false,0⟩]:List En).length=n+1:=by simp [HN.out]
   have e4:keysV (l1++[⟨m,w1.heap.size,b,false,0⟩])=keysV l1++[.int .i64 mk]:=by rw [<- HMK.out];simp [keysV]
   rw [e3,e4]
   exact Sh.same_row hown3 fun b' hb'=>heap_setCell_other _ _ _ _ (fun e2=>hg3c (by simp only [Value.ownBlock,Option.some.injEq] at hb';rw [hb',e2]))
  ·intro b' hb'
   simp only [Value.ownBlock,Option.some.injEq] at hb'
   subst hb'
   rcases hg3 with q | q
   ·left;show u.ownBlock=_;rw [hu2];exact q
   ·right;omega
 ·have q:(y != 0)=true:=by simpa using hy
  have HL:=hid hL
  have HY:=hid hy
  clear hL hR hy
  go_wp2
  go_ret
  exact ⟨y,l1,x1,rfl,.no y l1 x1 HRR.out HY.out,HL.out⟩
end
end Go.Proofs.YtcnjpmcelihknaaGreatDoor.Kc
