/-
  What the statement's proof rests on, part 12.
  Conditions: each theorem's own.
-/
import Derived.Test.YtcnjpmcelihknaaGreatDoorV06
import Derived.Lib.MinMax
import Derived.Shelf.Bits.Mul64
import Derived.Laws.CopyOwn
import Derived.Deep.RegionLaw
import Derived.Deep.RegionWith
import Derived.Deep.RegionHeld3
import Derived.Maps.OwnSet
open Go.Lib (hid)
namespace Go.Proofs.YtcnjpmcelihknaaGreatDoor.Sh
open Go.RowKit Go.Maps
def ints (l:List Int):List Value:=l.map fun x=>Value.int .i64 x
def kpOf (l:List Int) (j:Nat):Bool:=decide ((j:Int)∈l)
def stands (l:List Int) (L:Nat):List Value:=(List.range L).map fun j=>.bool (kpOf l j)
theorem info_bool:(Tryz.prog.info? 4).map (fun i=>(i.zero,i.size,i.bytes))=some (some (.bool false),1,1):=by kernel_rfl
theorem turn_only {w w2:World} {p D:Nat} {S:Sf} {F:Nat->Prop} {gs:Nat->Gh} (h:ShelfIs w p S F D gs) {d:Nat} (hd:d<S.disks.length) (k':Dk) (v:Value)
  (hdead:k'.dead=(S.disks.getD d default).dead)
  (hO:Only ((gs d).has) w w2)
  (hdisk:DiskIs w2 S.sectors { s:=(gs d).s,m:=(gs d).m,v:=v } k')
  (hnew:∀b,v.ownBlock=some b->(gs d).v.ownBlock=some b\/w.heap.size<=b) :
  Left F w p { S with disks:=S.disks.set d k' } (w2.setCell ⟨D,d*4+1,none⟩ v):=by
 have hDF:¬(gs d).has D:=h.nD hd
 have hD2:w2.heap[D]?=w.heap[D]?:=hO.block D h.Dlt hDF
 have hroot:w2.heap[p]?=w.heap[p]?:=hO.block p h.plt (h.np hd)
 have hrow2:=same_row (w':=w2) h.row fun b hb=>by injection hb with hb;subst hb;exact hD2
 have hrow3:=(hrow2.stored (d*4+1) v).1
 rw [rowOf_set _ (by decide)] at hrow3
 have hvD:¬(Gh.has { s:=(gs d).s,m:=(gs d).m,v:=v } D):=by
  intro e
  obtain ⟨cur,hc⟩:=row_type hrow2 rfl
  rcases hdisk.kinds e hc with e | e<;>exact absurd e (by decide)
 have hOF:Only F w w2:=hO.mono fun b hb=>h.inF.2.2 d b hd hb
 have hO4:Only F w (w2.setCell ⟨D,d*4+1,none⟩ v):=hOF.setCell (.inl h.inF.2.1) v
 refine ⟨_,⟨D,_,h.turned hd { s:=(gs d).s,m:=(gs d).m,v:=v } k' S.off S.left S.count h.left ?_ ?_ ?_ ?_ hO4.size ?_⟩,hO4,?_⟩
 ·rw [heap_set_other _ _ _ h.pD,hroot];exact h.root
 ·have e:rowOf (fun a c=>if a=d/\c=1 then v else diskV (gs a) (S.disks.getD a default).dead c) S.disks.length 4=rowOf (fun a c=>if a=d then diskV { s:=(gs d).s,m:=(gs d).m,v:=v } k'.dead c else diskV (gs a) (S.disks.getD a default).dead c) S.disks.length 4:=by
   refine rowOf_congr (by decide) fun a c _ hc=>?_
   by_cases ea:a=d
   ·subst ea
    rw [if_pos rfl,hdead]
    match c,hc with
    | 0,_=>simp [diskV]
    | 1,_=>simp [diskV]
    | 2,_=>simp [diskV]
    | 3,_=>simp [diskV]
   ·rw [if_neg ea,if_neg (fun h=>ea h.1)]
  rw [<- e]
  exact hrow3
 ·refine hdisk.same fun b hb=>heap_set_other _ _ _ (by rintro rfl;exact hvD hb)
 ·intro b hb _ hbD hbg
  rw [heap_set_other _ _ _ hbD]
  exact hO.block b (h.ltF b hb) hbg
 ·intro b hb
  rcases hb with hb | hb | hb
  ·exact .inl (.inl hb)
  ·exact .inl (.inr (.inl hb))
  ·exact (hnew b hb).imp (fun e=>.inr (.inr e)) id
 ·rintro b (hb | hb)
  ·exact .inl hb
  ·rcases hb with hb | hb | hb
   ·exact .inl (h.inF.2.2 d b hd (.inl hb))
   ·exact .inl (h.inF.2.2 d b hd (.inr (.inl hb)))
   ·exact (hnew b hb).imp (fun e=>h.inF.2.2 d b hd (.inr (.inr e))) id
open Go.Shelf
def mulRen:Go.Shelf.Ren:=⟨fun | 212=>126 | 263=>179 | 264=>180 | n=>n,fun | 46=>177 | 51=>23 | 53=>167 | 146=>225 | 148=>227 | n=>n,fun | n=>n⟩
theorem mulLays:Go.Proofs.Lays.n212 Tryz.prog mulRen:={
 mixed:=by kernel_rfl
 f212:=Tryz.func126.trans (congrArg some (by kernel_rfl))
 f263:=Tryz.func179.trans (congrArg some (by kernel_rfl))
 f264:=Tryz.func180.trans (congrArg some (by kernel_rfl))
 t46:=Tryz.underlying177
 a46:=Tryz.isAgg177
 z46:=Tryz.sizeOf177
 v46:=Tryz.zeroValue177
 t51:=Tryz.underlying23
 a51:=Tryz.isAgg23
 z51:=Tryz.sizeOf23
 v51:=Tryz.zeroValue23
 t53:=Tryz.underlying167
 a53:=Tryz.isAgg167
 z53:=Tryz.sizeOf167
 v53:=Tryz.zeroValue167
 t146:=Tryz.underlying225
 a146:=Tryz.isAgg225
 z146:=Tryz.sizeOf225
 v146:=Tryz.zeroValue225
 t148:=Tryz.underlying227
 a148:=Tryz.isAgg227
 z148:=Tryz.sizeOf227
 v148:=Tryz.zeroValue227 }
theorem mul_one (n:Nat) (hn:n<=4096) (w:World):Calls Tryz.prog 126 #[.int .u64 1,.int .u64 (n:Int)] w fun e w'=>e=.returned (.tuple #[.int .u64 0,.int .u64 (n:Int)])/\w=w' :=
 (Any.bits_Mul mulLays 1 n (by decide) (by omega) w).mono fun e w' ⟨h1,h2⟩=>⟨by rw [h1,Nat.one_mul,Nat.div_eq_of_lt (by omega),Nat.mod_eq_of_lt (by omega)];rfl,h2.symm⟩
theorem info_string:(Tryz.prog.info? 9).map (fun i=>(i.zero,i.size,i.bytes))=some (some (.string ⟨#[]⟩),1,16):=by kernel_rfl
theorem size_string:(Tryz.prog.info? 9).map (·.size)=some 1:=by kernel_rfl
def repTo (s:ByteArray) (n k:Nat):List Value:=List.replicate k (.string s)++List.replicate (n-k) (.string ⟨#[]⟩)
theorem repTo_length (s:ByteArray) {n k:Nat} (h:k<=n):(repTo s n k).length=n:=by simp [repTo];omega
theorem repTo_zero (s:ByteArray) (n:Nat):(madeCells (Value.string ⟨#[]⟩).cells (n*1)).toList=repTo s n 0:=by
 rw [Nat.mul_one]
 refine (toList_madeCells_one _ _).trans ?_
 simp [repTo]
theorem repTo_all (s:ByteArray) (n:Nat):repTo s n n=List.replicate n (.string s):=by simp [repTo]
theorem repTo_get (s:ByteArray) {n k j:Nat} (h:j<k):(repTo s n k)[j]?=some (.string s):=by
 unfold repTo
 rw [List.getElem?_append_left (by simpa using h)]
 simp [h]
theorem repTo_splice (s:ByteArray) (n k m:Nat):splice (repTo s n k) k (List.replicate m (.string s))=repTo s n (k+m):=by
 unfold splice repTo
 rw [List.take_left' (by simp),List.drop_append,List.drop_replicate,List.drop_replicate]
 simp
 rw [<- List.append_assoc,List.replicate_append_replicate]
 congr 2
 omega
theorem one_rep (s:ByteArray) (m:Nat):∀v∈List.replicate m (Value.string s),v.oneCell'=true:=by
 intro v hv
 rw [List.eq_of_mem_replicate hv];rfl
theorem one_one (s:ByteArray):∀v∈[Value.string s],v.oneCell'=true:=one_rep s 1
theorem rep_made (s:ByteArray) {w1:World} {q n:Nat} (hown1:w1.ownsRow 0 9 1 (.slice (some ⟨q,0,none⟩) n n) n (madeCells (Value.string ⟨#[]⟩).cells (n*1)).toList):w1.heap[q]?=some (.cells (repTo s n 0).toArray 9 (0,0)):=by
 rcases hown1.2 with ⟨h',_⟩ | ⟨g',cap',cur',h',_,hg,_,_,hcs,htake⟩
 ·simp at h'
 ·simp only [Value.slice.injEq,Option.some.injEq,Addr.mk.injEq,and_true,true_and] at h'
  obtain ⟨rfl,rfl⟩:=h'
  rw [repTo_zero s,List.take_of_length_le (by rw [Array.length_toList,hcs];exact Nat.le_refl _)] at htake
  rw [hg,<- htake]
theorem cell_zero {w:World} {b:Nat} {x:Value} (hc:w.cell? ⟨b,0,none⟩=some x):∀j v,[x][j]?=some v->w.cell? ((⟨b,0,none⟩:Addr).add j)=some v:=by
 intro j v hj
 match j,hj with
 | 0,hj=>simp at hj;subst hj;simpa [Addr.add] using hc
set_option maxRecDepth 20000 in
set_option maxHeartbeats 1600000 in
theorem repeat_any (w:World) (s:ByteArray) (b n:Nat) (h1:1<=n) (hn:n<=4096) (hb:b<w.heap.size) (hc:w.cell? ⟨b,0,none⟩=some (.string s)) :
  Calls Tryz.prog 69 #[.slice (some ⟨b,0,none⟩) 1 1,.int .i64 n] w fun e w' =>
   e=.returned (.slice (some ⟨w.heap.size,0,none⟩) n n)/\w'.ownsRow 0 9 1 (.slice (some ⟨w.heap.size,0,none⟩) n n) n (List.replicate n (.string s))/\Below w.heap.size w w':=by
 obtain ⟨i0,hi,hz0,hz1,hz2⟩:=info_parts info_string
 have HM:=hid (show [Value.string s].length=Nat.min 1 n from (Nat.min_eq_left h1).symm)
 have HFit:=hid (show 0+[Value.string s].length<=(repTo s n 0).length by rw [repTo_length _ (Nat.zero_le _)];simpa using h1)
 have hd0:decide ((n:Int)<0)=false:=by simp
 have hd1:decide (9223372036854775807<(n:Int))=false:=by simp;omega
 go_enter Tryz.func69,Tryz.ntmps69
 go_wp2_with (first
  | (go_at_call 126;refine (mul_one n hn _).mono ?_;rintro e w' ⟨rfl,rfl⟩)
  | (at_make;refine wpList_make_full _ rfl _ _ 63 rfl 0 9 i0 (.string ⟨#[]⟩) 1 Tryz.underlying63 hi hz0 hz1 _ _ _ _ n rfl rfl rfl rfl (by rw [hz2];omega) (by unfold maxLen;omega) (Nat.zero_le _) ?_;intro w1 hown1 hgrow1;have hcells:=rep_made s hown1;have hbel1:Below w.heap.size w w1:=(Below.refl _ w).grown hgrow1 (Nat.le_refl _) (fun _ h=>by cases h);have hc1:=(hbel1.cell (p:=⟨b,0,none⟩) hb).trans hc)
  | (have _t:=hc1;(with_reducible refine wpList_copy_splice (o:=⟨some 33,_,_,_,_,_⟩) rfl (.tmp 31) (.tmp 32) 63 63 rfl 9 Tryz.underlying63 size_string (some ⟨w.heap.size,0,none⟩) (some ⟨b,0,none⟩) n n 1 1 rfl rfl w.heap.size 0 (repTo s n 0) 9 hcells [.string s] HM.out (fun _=>⟨rfl,_,rfl,cell_zero hc1⟩) HFit.out (one_one s) w.heap.size w hbel1 (Nat.le_refl _) ?_);intro w2 hcells2 hbel2))
 have hx:=hcells2.out
 have e1:splice (repTo s n 0) 0 [Value.string s]=repTo s n 1:=by
  have:=repTo_splice s n 0 1
  rw [Nat.zero_add] at this
  exact this
 rw [e1] at hx
 have HX:=hid hx
 have HB2:=hid hbel2
 clear hcells hcells2 hbel2 hbel1 hc1 hown1 hgrow1 e1 hx hc
 generalize hq:w.heap.size=q at *
 have HQ:=hid hq
 clear hq
 go_loopw [8] (fun i wr=>∃k:Nat,1<=k/\k<=n/\i=.int .i64 k/\Hid (wr.heap[q]?=some (.cells (repTo s n k).toArray 9 (0,0)))/\Hid (Below q w wr)) (fun i _=>n-(intOf i).toNat)
 case atStart=>exact ⟨1,Nat.le_refl _,h1,rfl,HX,HB2⟩
 case round =>
  obtain ⟨k,hk1,hk,rfl,hrow,hbel⟩:=hrel
  by_cases hlt:k<n
  ·have hne:¬(n=k):=by omega
   have HM2:=hid (show (List.replicate (min k (n-k)) (Value.string s)).length=Nat.min k (n-k) by simp)
   have HF2:=hid (show k+(List.replicate (min k (n-k)) (Value.string s)).length<=(repTo s n k).length by rw [repTo_length _ hk];simp;omega)
   have HC2:=hid (show ∀j v,(List.replicate (min k (n-k)) (Value.string s))[j]?=some v->wr.drew.cell? ((⟨q,0,none⟩:Addr).add j)=some v by
    intro j v hj
    have hjl:j<min k (n-k):=by
     have:=(List.getElem?_eq_some_iff.1 hj).1
     simpa using this
    have hv:v=.string s:=by simpa [hjl] using hj.symm
    subst hv
    have e:(⟨q,0,none⟩:Addr).add j=⟨q,j,none⟩:=by unfold Addr.add;split<;>simp_all
    rw [e]
    show wr.cell? ⟨q,j,none⟩=_
    rw [cell_of_row _ _ j _ _ _ hrow.out]
    simpa using repTo_get s (n:=n) (show j<k by omega))
   have HR2:=hid (show wr.drew.heap[q]?=some (.cells (repTo s n k).toArray 9 (0,0)) from hrow.out)
   have HB2:=hid hbel.out.drew
   go_wp2
   go_region_law (refine step_copy_splice rfl (.tmp 41) (.tmp 44) 63 63 rfl 9 Tryz.underlying63 size_string (some ⟨q,k,none⟩) (some ⟨q,0,none⟩) (n-k) (n-k) k n (by simp [Act.eval,Act.put]) (by simp [Act.eval,Act.put]) q k (repTo s n k) 9 HR2.out (List.replicate (min k (n-k)) (.string s)) HM2.out (fun _=>⟨rfl,_,rfl,HC2.out⟩) HF2.out (one_rep s _) q w HB2.out (Nat.le_refl _) ?_;intro w3 hcells3 hbel3)
   all_goals
    have hx3:=hcells3.out
    rw [repTo_splice s n k (min k (n-k))] at hx3
    have HX3:=hid hx3
    have HB3:=hid hbel3
    clear hcells3 hbel3 hx3
    have hle:k+min k (n-k)<=n:=by omega
    have hlo:k<k+min k (n-k):=by omega
    have hwr:IntKind.i64.wrap ((k:Int)+((min k (n-k):Nat):Int))=((k+min k (n-k):Nat):Int):=by rw [IntWalk.i64_in _ (by omega)];omega
    rw [hwr]
    simp only [Act.put,List.setIfInBounds_toArray,List.set_cons_succ,List.set_cons_zero,List.getElem_toArray,List.getElem_cons_succ,List.getElem_cons_zero]
    go_roundw
    case rel=>exact ⟨_,_,_,_,_,_,_,_,_,_,_,_,_,_,⟨k+min k (n-k),by omega,hle,rfl,HX3,HB3⟩,rfl⟩
    case measure=>simp [intOf];omega
  ·obtain rfl:k=n:=by omega
   go_wp2
   go_ret
   have hx:=hrow.out
   rw [repTo_all] at hx
   rw [HQ.out]
   refine ⟨rfl,⟨by simp,.inr ⟨q,k,_,rfl,Nat.zero_le _,hx,Nat.le_refl _,by unfold maxLen;omega,by simp,by simp⟩⟩,?_⟩
   exact hbel.out
def zeroD:Nat->Value
 | 0=>.slice none 0 0
 | 1=>.slice none 0 0
 | 2=>.map none
 | _=>.bool false
theorem info_disk:(Tryz.prog.info? 120).map (fun i=>(i.zero,i.size,i.bytes))=some (some (.agg #[.slice none 0 0,.slice none 0 0,.map none,.bool false]),4,64):=by kernel_rfl
theorem info_u8:(Tryz.prog.info? 5).map (fun i=>(i.zero,i.size,i.bytes))=some (some (.int .u8 0),1,1):=by kernel_rfl
theorem noughts_sec:Sec noughts:=⟨by simp [noughts],fun x hx=>by rw [List.eq_of_mem_replicate hx];decide⟩
theorem bts_noughts:bts noughts=List.replicate 128 (.int .u8 0):=by simp [bts,noughts]
theorem noughts_reads {w:World} {g:Nat} (h:w.ownsRow 0 5 1 (.slice (some ⟨g,0,none⟩) 128 128) 128 (madeCells (Value.int .u8 0).cells (128*1)).toList):Reads w w.heap.size (some ⟨g,0,none⟩) 128 (bts noughts):=by
 have e:(madeCells (Value.int .u8 0).cells (128*1)).toList=bts noughts:=by
  rw [bts_noughts]
  exact toList_madeCells_one _ _
 rw [e] at h
 exact Reads.of_own h
theorem own_next {w1 w2:World} {o:Obj} {base:Nat} {e:TypeId} {size n c:Nat} {xs:List Value} (h:w2.ownsRow base e size (.slice (some ⟨(w1.alloc o).heap.size,0,none⟩) n c) n xs):w2.ownsRow base e size (.slice (some ⟨w1.heap.size+1,0,none⟩) n c) n xs:=by
 have e:(w1.alloc o).heap.size=w1.heap.size+1:=by simp
 rwa [e] at h
structure NewRel (w wr:World) (p D n d j:Nat) (gs:Nat->Gh):Prop where
 root:wr.heap[p]?=some (.cells #[.bool false,.int .i64 0,.slice (some ⟨D,0,none⟩) d d,.int .i64 (n:Int),.int .i64 0] 115 (0,0))
 row:wr.ownsRow 0 120 4 (.slice (some ⟨D,0,none⟩) d d) d (rowOf (fun i c=>if i<j then diskV (gs i) false c else zeroD c) d 4)
 disk:∀i,i<j->DiskIs wr n (gs i) (newDk n)
 apart:∀a c b,a<j->c<j->a≠c->(gs a).has b->¬(gs c).has b
 low:∀i,i<j->∀b,(gs i).has b->w.heap.size<=b
 bel:Below w.heap.size w wr
def RepIs (wr:World) (s:ByteArray) (n q:Nat) (w':World):Prop :=
 w'.ownsRow 0 9 1 (.slice (some ⟨q,0,none⟩) n n) n (List.replicate n (.string s))/\Below wr.heap.size wr w'/\wr.heap.size<=q/\q<w'.heap.size
theorem rep_in {wr W:World} {s:ByteArray} {b n q:Nat} (h1:1<=n) (hn:n<=4096) (hW:Below wr.heap.size wr W) (hb:b<W.heap.size) (hc:W.cell? ⟨b,0,none⟩=some (.string s)) (hq:W.heap.size=q) :
  Calls Tryz.prog 69 #[.slice (some ⟨b,0,none⟩) 1 1,.int .i64 n] W fun e w'=>e=.returned (.slice (some ⟨q,0,none⟩) n n)/\RepIs wr s n q w'/\∀k,k<q->w'.heap[k]?=W.heap[k]?:=by
 subst hq
 refine (repeat_any W s b n h1 hn hb hc).mono ?_
 rintro e w' ⟨rfl,ho,hb3⟩
 exact ⟨rfl,⟨ho,hW.trans (hb3.mono hW.size),hW.size,(ho.lt _ rfl).2⟩,hb3.block⟩
theorem repA (wr:World) (s:ByteArray) (n:Nat) (h1:1<=n) (hn:n<=4096) :
  Calls Tryz.prog 69 #[.slice (some ⟨wr.heap.size,0,none⟩) 1 1,.int .i64 n] (wr.alloc (.cells #[.string s] 9)).drew fun e w'=>e=.returned (.slice (some ⟨wr.heap.size+1,0,none⟩) n n)/\RepIs wr s n (wr.heap.size+1) w':=by
 refine (rep_in (wr:=wr) (s:=s) (q:=wr.heap.size+1) h1 hn (((Below.refl _ wr).alloc (Nat.le_refl _) _).drew) (by show wr.heap.size<(wr.alloc _).heap.size;simp) ?_ (by show (wr.alloc _).heap.size=_;simp)).mono fun e w' h=>⟨h.1,h.2.1⟩
 exact cell_of_row _ _ 0 _ _ _ (heap_alloc_new wr (.cells #[.string s] 9))
theorem repB (wr:World) (s:ByteArray) (n:Nat) (h1:1<=n) (hn:n<=4096) :
  Calls Tryz.prog 69 #[.slice (some ⟨wr.heap.size,0,none⟩) 1 1,.int .i64 n] ((wr.alloc (.cells #[.string s] 9)).alloc (.map #[] 0)).drew fun e w'=>e=.returned (.slice (some ⟨wr.heap.size+2,0,none⟩) n n)/\RepIs wr s n (wr.heap.size+2) w'/\w'.heap[wr.heap.size+1]?=some (.map #[] 0):=by
 refine (rep_in (wr:=wr) (s:=s) (q:=wr.heap.size+2) h1 hn ((((Below.refl _ wr).alloc (Nat.le_refl _) _).alloc (by simp) _).drew) (by show wr.heap.size<((wr.alloc _).alloc _).heap.size;simp;omega) ?_ (by show ((wr.alloc _).alloc _).heap.size=_;simp)).mono fun e w' h=>⟨h.1,h.2.1,(h.2.2 _ (by omega)).trans (heap_alloc2_new wr _ _)⟩
 exact cell_of_row _ _ 0 _ _ _ (heap_alloc2_old wr (.cells #[.string s] 9) (.map #[] 0))
theorem repC (wr:World) (s:ByteArray) (n:Nat) (h1:1<=n) (hn:n<=4096) :
  Calls Tryz.prog 69 #[.slice (some ⟨wr.heap.size+1,0,none⟩) 1 1,.int .i64 n] ((wr.alloc (.map #[] 0)).alloc (.cells #[.string s] 9)).drew fun e w'=>e=.returned (.slice (some ⟨wr.heap.size+2,0,none⟩) n n)/\RepIs wr s n (wr.heap.size+2) w'/\w'.heap[wr.heap.size]?=some (.map #[] 0):=by
 refine (rep_in (wr:=wr) (s:=s) (q:=wr.heap.size+2) h1 hn ((((Below.refl _ wr).alloc (Nat.le_refl _) _).alloc (by simp) _).drew) (by show wr.heap.size+1<((wr.alloc _).alloc _).heap.size;simp) ?_ (by show ((wr.alloc _).alloc _).heap.size=_;simp)).mono fun e w' h=>⟨h.1,h.2.1,(h.2.2 _ (by omega)).trans (heap_alloc2_old wr _ _)⟩
 exact cell_of_row _ _ 0 _ _ _ (heap_alloc2_new wr (.map #[] 0) (.cells #[.string s] 9))
theorem NewRel.facts {w wr w':World} {p D n d j:Nat} {gs:Nat->Gh} (h:NewRel w wr p D n d j gs) (hb:Below wr.heap.size wr w') (hj:j<d) :
  (w'.cell? ⟨p,2,none⟩=some (.slice (some ⟨D,0,none⟩) d d)/\w'.cell? ⟨D,j*4,none⟩=some (.slice none 0 0)/\w'.cell? ⟨D,j*4+1,none⟩=some (.slice none 0 0)/\w'.cell? ⟨D,j*4+2,none⟩=some (.map none)/\w'.cell? ⟨D,j*4+3,none⟩=some (.bool false)) /\
   ∀i,w'.frozen? ⟨D,i,none⟩=false:=by
 have hD:=(h.row.lt D rfl).2
 have hp:=lt_of_block h.root
 have c:∀c,c<4->w'.cell? ⟨D,j*4+c,none⟩=some (zeroD c):=fun c hc=>by
  rw [hb.cell (p:=⟨D,j*4+c,none⟩) hD,cell_at h.row (rowOf_at _ hj hc),if_neg (Nat.lt_irrefl _)]
 refine ⟨⟨?_,c 0 (by decide),c 1 (by decide),c 2 (by decide),c 3 (by decide)⟩,fun i=>?_⟩
 ·rw [hb.cell (p:=⟨p,2,none⟩) hp];exact cell_of_row _ _ 2 _ _ _ h.root
 ·rw [hb.frozen (p:=⟨D,i,none⟩) hD];exact h.row.frozenAt i
theorem new_round {w wr w4:World} {p D n d j q m:Nat} {gs:Nat->Gh} {s:ByteArray} (h:NewRel w wr p D n d j gs) (hs:s=strL noughts) (hj:j<d) (hw:w.heap.size<=D) (hpD:p≠D) (hb:Below wr.heap.size wr w4)
  (ho:w4.ownsRow 0 9 1 (.slice (some ⟨q,0,none⟩) n n) n (List.replicate n (.string s))) (hm:w4.heap[m]?=some (.map #[] 0)) (hq:wr.heap.size<=q) (hmq:wr.heap.size<=m) :
  NewRel w ((((w4.setCell ⟨D,j*4,none⟩ (.slice (some ⟨q,0,none⟩) n n)).setCell ⟨D,j*4+1,none⟩ (.slice none 0 0)).setCell ⟨D,j*4+2,none⟩ (.map (some m))).setCell ⟨D,j*4+3,none⟩ (.bool false)) p D n d (j+1) (upd gs j ⟨.slice (some ⟨q,0,none⟩) n n,m,.slice none 0 0⟩):=by
 have hD:=(h.row.lt D rfl).2
 have hp:=lt_of_block h.root
 have hk:∀b,b≠D->((((w4.setCell ⟨D,j*4,none⟩ (.slice (some ⟨q,0,none⟩) n n)).setCell ⟨D,j*4+1,none⟩ (.slice none 0 0)).setCell ⟨D,j*4+2,none⟩ (.map (some m))).setCell ⟨D,j*4+3,none⟩ (.bool false)).heap[b]?=w4.heap[b]?:=by
  intro b hb'
  rw [heap_set_other _ _ _ hb',heap_set_other _ _ _ hb',heap_set_other _ _ _ hb',heap_set_other _ _ _ hb']
 have hr0:w4.ownsRow 0 120 4 (.slice (some ⟨D,0,none⟩) d d) d (rowOf (fun i c=>if i<j then diskV (gs i) false c else zeroD c) d 4):=same_row h.row fun b hb'=>by
  injection hb' with hb';subst hb';exact hb.block _ hD
 have hr1:=(((((hr0.stored (j*4+0) (.slice (some ⟨q,0,none⟩) n n)).1.stored (j*4+1) (.slice none 0 0)).1.stored (j*4+2) (.map (some m))).1).stored (j*4+3) (.bool false)).1
 rw [rowOf_set _ (by decide),rowOf_set _ (by decide),rowOf_set _ (by decide),rowOf_set _ (by decide)] at hr1
 have hbel:Below w.heap.size w ((((w4.setCell ⟨D,j*4,none⟩ (.slice (some ⟨q,0,none⟩) n n)).setCell ⟨D,j*4+1,none⟩ (.slice none 0 0)).setCell ⟨D,j*4+2,none⟩ (.map (some m))).setCell ⟨D,j*4+3,none⟩ (.bool false)):=((((h.bel.trans (hb.mono h.bel.size)).setCell hw _).setCell hw _).setCell hw _).setCell hw _
 have hr2:((((w4.setCell ⟨D,j*4,none⟩ (.slice (some ⟨q,0,none⟩) n n)).setCell ⟨D,j*4+1,none⟩ (.slice none 0 0)).setCell ⟨D,j*4+2,none⟩ (.map (some m))).setCell ⟨D,j*4+3,none⟩ (.bool false)).ownsRow 0 120 4 (.slice (some ⟨D,0,none⟩) d d) d _:=hr1
 clear hr1 hr0
 generalize ((((w4.setCell ⟨D,j*4,none⟩ (.slice (some ⟨q,0,none⟩) n n)).setCell ⟨D,j*4+1,none⟩ (.slice none 0 0)).setCell ⟨D,j*4+2,none⟩ (.map (some m))).setCell ⟨D,j*4+3,none⟩ (.bool false))=w5 at *
 have hdk:DiskIs w5 n ⟨.slice (some ⟨q,0,none⟩) n n,m,.slice none 0 0⟩ (newDk n):=by
  refine ⟨by simp [newDk],?_,?_,World.ownsRow_nil _ _ _ _,(fun x hx=>by cases hx),?_⟩
  ·refine same_row (w:=w4) ?_ (fun b hb'=>by injection hb' with hb';subst hb';exact hk _ (by show q≠D;omega))
   have e:(newDk n).sure.map sv=List.replicate n (.string s):=by simp [newDk,sv,hs]
   rw [e];exact ho
  ·intro b hb'
   rw [List.eq_of_mem_replicate hb'];exact noughts_sec
  ·refine MapIs.same (w:=w4) ?_ (hk _ (by show m≠D;omega))
   exact ⟨.map [],⟨#[],0,hm,⟨by simp,MapKept.stamped_empty 0,by simp⟩,Nat.le_refl _,rfl⟩,fun x=>⟨rfl,fun j h=>by cases h⟩⟩
 refine ⟨?_,?_,?_,?_,?_,?_⟩
 ·exact (hk p hpD).trans ((hb.block p hp).trans h.root)
 ·refine Eq.mp ?_ hr2
  congr 1
  refine rowOf_congr (by decide) fun a c _ hc=>?_
  by_cases ea:a=j
  ·subst ea
   match c,hc with
   | 0,_=>simp [diskV,upd]
   | 1,_=>simp [diskV,upd]
   | 2,_=>simp [diskV,upd]
   | 3,_=>simp [diskV]
  ·by_cases hlt:a<j
   ·simp [ea,hlt,upd,show a<j+1 by omega]
   ·simp [ea,hlt,show ¬a<j+1 by omega]
 ·intro i hi
  by_cases e:i=j
  ·subst e
   rw [upd,if_pos rfl];exact hdk
  ·rw [upd,if_neg e]
   have hii:i<j:=by omega
   have hdi:=h.disk i hii
   refine hdi.same fun b hb'=>?_
   have hbl:=hdi.lt hb'
   refine (hk b ?_).trans (hb.block b hbl)
   rintro rfl
   obtain ⟨cur,hcur⟩:=row_type h.row rfl
   rcases hdi.kinds hb' hcur with e | e<;>exact absurd e (by decide)
 ·intro a c b ha hc hne hab hcb
  unfold upd at hab hcb
  have hnew:∀b,Gh.has ⟨.slice (some ⟨q,0,none⟩) n n,m,.slice none 0 0⟩ b->wr.heap.size<=b:=by
   rintro b (e | e | e)
   ·injection e with e;subst e;exact hq
   ·subst e;exact hmq
   ·cases e
  by_cases ea:a=j
  ·rw [if_pos ea] at hab
   rw [if_neg (by omega)] at hcb
   have:=hnew b hab
   have:=(h.disk c (by omega)).lt hcb
   omega
  ·rw [if_neg ea] at hab
   by_cases ec:c=j
   ·rw [if_pos ec] at hcb
    have:=hnew b hcb
    have:=(h.disk a (by omega)).lt hab
    omega
   ·rw [if_neg ec] at hcb
    exact h.apart a c b (by omega) (by omega) hne hab hcb
 ·intro i hi b hb'
  have hsz:=h.bel.size
  by_cases e:i=j
  ·rw [upd,if_pos e] at hb'
   rcases hb' with e | e | e
   ·injection e with e;subst e;exact Nat.le_trans hsz hq
   ·subst e;exact Nat.le_trans hsz hmq
   ·cases e
  ·rw [upd,if_neg e] at hb'
   exact h.low i (by omega) b hb'
 ·exact hbel
theorem zero_row (d:Nat):(madeCells (Value.agg #[.slice none 0 0,.slice none 0 0,.map none,.bool false]).cells (d*4)).toList=rowOf (fun i c=>if i<0 then diskV ((default:Nat->Gh) i) false c else zeroD c) d 4:=by
 apply List.ext_getElem?
 intro i
 by_cases h:i<d*4
 ·have h4:i%4=0\/i%4=1\/i%4=2\/i%4=3:=by omega
  rcases h4 with e | e | e | e<;>simp [madeCells,rowOf,Value.cells,h,e,zeroD]
 ·simp [madeCells,rowOf,h]
theorem new_start {w w1 w2:World} {d n:Nat} {o:Obj} (hown1:w1.ownsRow 0 120 4 (.slice (some ⟨w.heap.size,0,none⟩) d d) d (madeCells (Value.agg #[.slice none 0 0,.slice none 0 0,.map none,.bool false]).cells (d*4)).toList) (hgrow1:w.grownBy w1 none) (hgrow2:(w1.alloc o).grownBy w2 none)
  (hp2:w2.heap[w1.heap.size]?=some (.cells #[.bool false,.int .i64 0,.slice (some ⟨w.heap.size,0,none⟩) d d,.int .i64 (n:Int),.int .i64 0] 115 (0,0))):NewRel w w2 w1.heap.size w.heap.size n d 0 default:=by
 have hz:(madeCells (Value.agg #[.slice none 0 0,.slice none 0 0,.map none,.bool false]).cells (d*4)).toList=rowOf (fun i c=>if i<0 then diskV ((default:Nat->Gh) i) false c else zeroD c) d 4:=by
  exact zero_row d
 rw [hz] at hown1
 refine ⟨hp2,(hown1.alloc o).kept hgrow2 (.inr (by simp [Value.ownBlock])),fun i h=>absurd h (by omega),fun a c b h=>absurd h (by omega),fun i h=>absurd h (by omega),?_⟩
 exact (((Below.refl _ w).grown hgrow1 (Nat.le_refl _) (fun _ h=>by cases h)).alloc hgrow1.size o).grown hgrow2 (by simp;have:=hgrow1.size;omega) (fun _ h=>by cases h)
theorem new_shelf {w wr:World} {p D n d:Nat} {gs:Nat->Gh} (h:NewRel w wr p D n d d gs) (hd1:1<=d) (hd:d<=17) (hn1:1<=n) (hn:n<=4096) (hpD:p≠D) :
  Shelf wr p (newSf d n) (fun b=>b=p\/b=D\/∃i,i<d/\(gs i).has b):=by
 have hl:(newSf d n).disks.length=d:=by simp [newSf]
 refine ⟨D,gs,?_⟩
 refine ⟨by rw [hl];exact hd1,by rw [hl];exact hd,hn1,hn,by simp [newSf],?_,?_,?_,?_,?_,?_⟩
 ·rw [hl];exact h.root
 ·rw [hl]
  refine Eq.mp ?_ h.row
  congr 1
  refine rowOf_congr (by decide) fun a c ha _=>?_
  rw [if_pos ha]
  have e:((newSf d n).disks.getD a default).dead=false:=by simp [newSf,List.getD,ha,newDk]
  rw [e]
 ·intro i k hk
  have hi:i<d:=by rw [<- hl];exact (List.getElem?_eq_some_iff.1 hk).1
  have e:k=newDk n:=by simp [newSf,hi] at hk;exact hk.symm
  subst e
  exact h.disk i hi
 ·intro i j b hi hj hne
  rw [hl] at hi hj
  exact h.apart i j b hi hj hne
 ·exact ⟨.inl rfl,.inr (.inl rfl),fun i b hi hb=>.inr (.inr ⟨i,by rw [<- hl];exact hi,hb⟩)⟩
 ·rintro b (rfl | rfl | ⟨i,hi,hb⟩)
  ·exact lt_of_block h.root
  ·exact (h.row.lt _ rfl).2
  ·exact (h.disk i hi).lt hb
set_option maxRecDepth 20000 in
set_option maxHeartbeats 1600000 in
theorem new_ok (d n:Nat) (w:World) (hd1:1<=d) (hd:d<=17) (hn1:1<=n) (hn:n<=4096) :
  Calls Tryz.prog 26 #[.int .i64 d,.int .i64 n] w fun e w'=>∃p F,e=.returned (.tuple #[.pointer (some ⟨p,0,none⟩),.int .i64 0])/\Shelf w' p (newSf d n) F/\(∀b,F b->w.heap.size<=b)/\Below w.heap.size w w':=by
 obtain ⟨i0,hi,hz0,hz1,hz2⟩:=info_parts info_disk
 obtain ⟨i1,ki,kz0,kz1,kz2⟩:=info_parts info_u8
 have hq0:decide ((d:Int)<1)=false:=by simp;omega
 have hq1:decide (17<(d:Int))=false:=by simp;omega
 have hq2:decide ((n:Int)<1)=false:=by simp;omega
 have hq3:decide (4096<(n:Int))=false:=by simp;omega
 go_enter Tryz.func26,Tryz.ntmps26
 go_wp2_with (first
  | (at_make;refine wpList_make_full _ rfl _ _ 111 rfl 0 120 i0 _ 4 Tryz.underlying111 hi hz0 hz1 _ _ _ _ d rfl rfl rfl rfl (by rw [hz2];omega) (by unfold maxLen;omega) (Nat.zero_le _) ?_;intro w1 hown1 hgrow1)
  | (at_make;refine wpList_make_full _ rfl _ _ 24 rfl 0 5 i1 _ 1 Tryz.underlying24 ki kz0 kz1 _ _ _ _ 128 rfl rfl rfl rfl (by rw [kz2];omega) (by unfold maxLen;omega) (Nat.zero_le _) ?_;intro w2 hown2 hgrow2;have hstr:=run_str 128 (noughts_reads (own_next hown2));have hp2:w2.heap[w1.heap.size]?=some (.cells #[.bool false,.int .i64 0,.slice (some ⟨w.heap.size,0,none⟩) d d,.int .i64 (n:Int),.int .i64 0] 115 (0,0)):=(hgrow2.block w1.heap.size (by simp) (by simp)).trans (heap_alloc_new _ _);have c2:=cell_of_row _ _ 2 _ _ _ hp2))
 have hrel0:Hid (∃gs,NewRel w w2 w1.heap.size w.heap.size n d 0 gs):=hid ⟨default,new_start hown1 hgrow1 hgrow2 hp2⟩
 have hpD:w1.heap.size≠w.heap.size:=by have:=(hown1.lt w.heap.size rfl).2;omega
 have HP:Hid (w.heap.size<=w1.heap.size):=hid hgrow1.size
 clear hown1 hgrow1 hown2 hgrow2 hstr hp2 c2
 generalize hss:strL noughts=s at *
 have HS:=hid hss
 clear hss
 generalize w1.heap.size=p at *
 generalize hDD:w.heap.size=D at *
 have HDD:=hid hDD
 clear hDD
 go_loopw [35] (fun i wr=>∃j:Nat,j<=d/\i=.int .i64 j/\Hid (∃gs,NewRel w wr p D n d j gs)) (fun i _=>d-(intOf i).toNat)
 case atStart=>exact ⟨0,Nat.zero_le _,rfl,hrel0⟩
 case round =>
  obtain ⟨j,hj,rfl,hrel⟩:=hrel
  obtain ⟨gs,hN⟩:=hrel.out
  have c2:=cell_of_row _ _ 2 _ _ _ hN.root
  have HN:=hid hN
  clear hN hrel
  by_cases hlt:j<d
  ·go_wp2
   have hmm:=@run_makeMap Tryz.prog
   have hplt:=lt_of_block HN.out.root
   go_region_with (first
    | (go_at_call 69;(with_reducible refine (repA wr s n hn1 hn).mono ?_);rintro e w' ⟨rfl,hr⟩;obtain ⟨⟨x,a0,a1,a2,a3⟩,ff⟩:=HN.out.facts hr.2.1 hlt;have f0:=ff (j*4);have f1:=ff (j*4+1);have f2:=ff (j*4+2);have f3:=ff (j*4+3);clear ff;obtain ⟨⟨xb,a0b,a1b,a2b,a3b⟩,ffb⟩:=HN.out.facts (hr.2.1.alloc (Nat.le_of_lt (Nat.lt_of_le_of_lt hr.2.2.1 hr.2.2.2)) (.map #[] 0)) hlt;have f0b:=ffb (j*4);have f1b:=ffb (j*4+1);have f2b:=ffb (j*4+2);have f3b:=ffb (j*4+3);clear ffb)
    | (go_at_call 69;(with_reducible refine (repB wr s n hn1 hn).mono ?_);rintro e w' ⟨rfl,hr,hmp⟩;obtain ⟨⟨x,a0,a1,a2,a3⟩,ff⟩:=HN.out.facts hr.2.1 hlt;have f0:=ff (j*4);have f1:=ff (j*4+1);have f2:=ff (j*4+2);have f3:=ff (j*4+3);clear ff)
    | (go_at_call 69;(with_reducible refine (repC wr s n hn1 hn).mono ?_);rintro e w' ⟨rfl,hr,hmp⟩;obtain ⟨⟨x,a0,a1,a2,a3⟩,ff⟩:=HN.out.facts hr.2.1 hlt;have f0:=ff (j*4);have f1:=ff (j*4+1);have f2:=ff (j*4+2);have f3:=ff (j*4+3);clear ff))
   all_goals
    go_wp2
    go_roundw
    case rel =>
     first
      | exact ⟨j+1,by omega,by go_num,hid ⟨_,new_round HN.out HS.out.symm hlt (by have:=HDD.out;omega) hpD hr.2.1 hr.1 hmp hr.2.2.1 (by omega)⟩⟩
      | exact ⟨j+1,by omega,by go_num,hid ⟨_,new_round HN.out HS.out.symm hlt (by have:=HDD.out;omega) hpD (hr.2.1.alloc (Nat.le_of_lt (Nat.lt_of_le_of_lt hr.2.2.1 hr.2.2.2)) _) (hr.1.alloc _) (heap_alloc_new _ _) hr.2.2.1 (Nat.le_of_lt (Nat.lt_of_le_of_lt hr.2.2.1 hr.2.2.2))⟩⟩
    case measure=>simp [intOf];omega
  ·obtain rfl:j=d:=by omega
   go_wp2
   go_ret2
   refine ⟨_,_,rfl,new_shelf HN.out hd1 hd hn1 hn hpD,?_,by first | exact HN.out.bel | (rw [<- HDD.out];exact HN.out.bel)⟩
   rintro b (rfl | rfl | ⟨i,hi,hb⟩)
   ·have:=HP.out;have:=HDD.out;omega
   ·have:=HDD.out;omega
   ·have:=HN.out.low i hi b hb;have:=HDD.out;omega
theorem bts_set (l:List Nat) (i x:Nat):bts (l.set i x)=(bts l).set i (.int .u8 (x:Int)):=by simp [bts,List.map_set]
theorem noughts_own {w:World} {base g:Nat} (h:w.ownsRow base 5 1 (.slice (some ⟨g,0,none⟩) 128 128) 128 (madeCells (Value.int .u8 0).cells (128*1)).toList):w.ownsRow base 5 1 (.slice (some ⟨g,0,none⟩) 128 128) 128 (bts noughts):=by
 have e:(madeCells (Value.int .u8 0).cells (128*1)).toList=bts noughts:=by
  rw [bts_noughts]
  exact toList_madeCells_one _ _
 rw [e] at h
 exact h
structure At (B:Nat) (W w:World) (p:Nat) (S:Sf) (F:Nat->Prop):Prop where
 shelf:Shelf w p S F
 low:∀b,F b->B<=b
 bel:Below B W w
 size:B<=w.heap.size
def Beside (w:World) (F:Nat->Prop) (A:Option Addr) (l:Bs):Prop:=Reads w w.heap.size A 128 (bts l)/\∀a,A=some a->¬F a.block
section
variable {B:Nat} {W w w':World} {p:Nat} {S S':Sf} {F F':Nat->Prop}
theorem At.left (h:At B W w p S F) (hl:Left F w p S' w'):∃F',At B W w' p S' F'/\Moves F w F' w':=by
 obtain ⟨F',hs,hm⟩:=hl
 exact ⟨F',⟨hs,fun b hb=>(hm.2 b hb).elim (h.low b) (fun e=>Nat.le_trans h.size e),h.bel.trans (hm.1.below h.low h.size),Nat.le_trans h.size hm.1.size⟩,hm⟩
theorem At.grown (h:At B W w p S F) (hb:Below w.heap.size w w'):At B W w' p S F :=
 ⟨h.shelf.only (G:=fun _=>False) ⟨hb.os,hb.tape,hb.output,hb.size,fun k hk _=>hb.block k hk⟩ (fun _ _ e=>e),h.low,h.bel.trans (hb.mono h.size),Nat.le_trans h.size hb.size⟩
theorem At.stays (h:At B W w p S F) (hs:Shelf w' p S' F) (ho:Only F w w'):At B W w' p S' F :=
 ⟨hs,h.low,h.bel.trans (ho.below h.low h.size),Nat.le_trans h.size ho.size⟩
theorem Beside.moves {A:Option Addr} {l:Bs} (h:Beside w F A l) (hm:Moves F w F' w'):Beside w' F' A l:=by
 refine ⟨⟨h.1.1,fun h0=>?_⟩,fun a ha hF=>?_⟩
 ·obtain ⟨ad,e,hlt,hc⟩:=h.1.2 h0
  refine ⟨ad,e,Nat.lt_of_lt_of_le hlt hm.1.size,fun j u hu=>?_⟩
  rw [hm.1.cell (p:=ad.add j) (by rw [block_of_add];exact hlt) (by rw [block_of_add];exact h.2 ad e)]
  exact hc j u hu
 ·rcases hm.2 _ hF with e | e
  ·exact h.2 a ha e
  ·obtain ⟨ad,e2,hlt,_⟩:=h.1.2 (by decide)
   rw [ha] at e2
   injection e2 with e2
   subst e2
   omega
theorem Beside.grown {A:Option Addr} {l:Bs} (h:Beside w F A l) (hb:Below w.heap.size w w'):Beside w' F A l :=
 ⟨(h.1.below hb).more hb.size,h.2⟩
end
theorem below_on {w w1 w2:World} (h:Below w.heap.size w w1) (k:Below w1.heap.size w1 w2):Below w.heap.size w w2:=h.trans (k.mono h.size)
def Wrote (S:Sf) (d n:Int) (b:Bs) (y:Int) (S':Sf):Prop :=
 (S'=S/\y≠0/\(y=1\/S.off=true\/∃d':Nat,d=d'/\d'<S.disks.length/\(S.disks.getD d' default).dead=true))\/∃d' n':Nat,d=d'/\n=n'/\d'<S.disks.length/\n'<S.sectors/\why S d'=0/\y=0/\S'=S.doWrite d' n' b
theorem getD_mem {l:List Dk} {d:Nat} (h:d<l.length):l.getD d default∈l:=by simp [List.getD,h]
section
variable {w:World} {p:Nat} {S:Sf} {F:Nat->Prop}
theorem left_here (h:Shelf w p S F):Left F w p S w:=⟨F,h,Moves.refl _ _⟩
end
end Go.Proofs.YtcnjpmcelihknaaGreatDoor.Sh
namespace Go.Proofs.YtcnjpmcelihknaaGreatDoor.Kc
open Go.RowKit Go.Maps
open Go.Proofs.YtcnjpmcelihknaaGreatDoor.Sh (bts bts_length Reads)
/-! ### a map of pointers -/
def ptrV:Option Nat->Value
 | none=>.pointer none
 | some b=>.pointer (some ⟨b,0,none⟩)
def ptrD:Option Nat->DataW Unit
 | none=>.lit (.int .i64 (-1))
 | some b=>.lit (.int .i64 (b:Int))
def ptrR (v:Value):Option (DataW Unit × List MemPlace) :=
 match v with
 | .pointer none=>some (ptrD none,[])
 | .pointer (some ⟨b,0,none⟩)=>some (ptrD (some b),[])
 | _=>none
theorem ptrR_inv {v:Value} {z:DataW Unit × List MemPlace} (h:ptrR v=some z):∃c,v=ptrV c/\z=(ptrD c,[]):=by
 unfold ptrR at h
 split at h
 ·injection h with h;exact ⟨none,rfl,h.symm⟩
 ·injection h with h;exact ⟨some _,rfl,h.symm⟩
 ·cases h
theorem ptrD_inj {c d:Option Nat} (h:ptrD c=ptrD d):c=d:=by
 cases c<;>cases d<;>simp [ptrD] at h ⊢<;>omega
def PMap (w:World) (m n:Nat) (f:Int->Option Nat):Prop :=
 ∃D:DataW Unit,w.ownsMap Tryz.prog 3 ptrR m n D/\∀x:Int,Maps.has D (.int .i64 x)=(f x).isSome/\D.atKey (.int .i64 x) (ptrD none)=ptrD (f x)
theorem PMap.lt {w:World} {m n:Nat} {f:Int->Option Nat} (h:PMap w m n f):m<w.heap.size:=by
 obtain ⟨D,h,_⟩:=h;exact h.lt
theorem PMap.same {w w':World} {m n:Nat} {f:Int->Option Nat} (h:PMap w m n f) (hk:w'.heap[m]?=w.heap[m]?):PMap w' m n f:=by
 obtain ⟨D,h,r⟩:=h;exact ⟨D,Sh.same_map h hk,r⟩
theorem PMap.mono {w:World} {m n n':Nat} {f:Int->Option Nat} (h:PMap w m n f) (hn:n<=n'):PMap w m n' f:=by
 obtain ⟨D,h,r⟩:=h;exact ⟨D,h.mono hn,r⟩
theorem PMap.made (w:World):PMap (w.alloc (.map #[] 0)) w.heap.size 0 (fun _=>none) :=
 ⟨.map [],World.ownsMap_made w _ _ _,fun x=>⟨by rfl,by rfl⟩⟩
theorem pput_is {D:DataW Unit} {f:Int->Option Nat} (hD:IsMap D) (x:Int) (j:Nat) (hf:∀x:Int,Maps.has D (.int .i64 x)=(f x).isSome/\D.atKey (.int .i64 x) (ptrD none)=ptrD (f x)) :
  ∀y:Int,Maps.has (D.put (.int .i64 x) (ptrD (some j))) (.int .i64 y)=(if x=y then some j else f y).isSome /\
   (D.put (.int .i64 x) (ptrD (some j))).atKey (.int .i64 y) (ptrD none)=ptrD (if x=y then some j else f y):=by
 intro y
 by_cases h:x=y
 ·subst h
  rw [if_pos rfl]
  exact ⟨by rw [Maps.has_put_same hD (by trivial)];rfl,Maps.atKey_put_same hD (by trivial) _ _⟩
 ·have hne:Lit.int .i64 y≠Lit.int .i64 x:=fun e=>h (by injection e with _ e;exact e.symm)
  rw [if_neg h]
  exact ⟨by rw [Maps.has_put_other hne];exact (hf y).1,by rw [Maps.atKey_put_other hne];exact (hf y).2⟩
theorem pdel_is {D:DataW Unit} {f:Int->Option Nat} (x:Int) (hf:∀x:Int,Maps.has D (.int .i64 x)=(f x).isSome/\D.atKey (.int .i64 x) (ptrD none)=ptrD (f x)) :
  ∀y:Int,Maps.has (D.del (.int .i64 x)) (.int .i64 y)=(if x=y then none else f y).isSome /\
   (D.del (.int .i64 x)).atKey (.int .i64 y) (ptrD none)=ptrD (if x=y then none else f y):=by
 intro y
 by_cases h:x=y
 ·subst h
  rw [if_pos rfl]
  exact ⟨by rw [Maps.has_del_same];rfl,Maps.atKey_del_same _⟩
 ·have hne:Lit.int .i64 y≠Lit.int .i64 x:=fun e=>h (by injection e with _ e;exact e.symm)
  rw [if_neg h]
  exact ⟨by rw [Maps.has_del_other hne];exact (hf y).1,by rw [Maps.atKey_del_other hne];exact (hf y).2⟩
theorem zeroEnt (w:World):(zeroValue 208).run Tryz.prog w=.ok (.pointer none) w:=by kernel_rfl
theorem keyI (x:Int) (hx:-9223372036854775808<=x/\x<=9223372036854775807):keyOf Tryz.prog 3 (.int .i64 x)=some (.int .i64 x):=keyOf_int_mk Tryz.underlying3 (by exact WalkArith.wf_i64 (by omega))
theorem PMap.look {w:World} {m n:Nat} {f:Int->Option Nat} (h:PMap w m n f) (x:Int) (hx:-9223372036854775808<=x/\x<=9223372036854775807) :
  (Instr.lookup 138 (.map (some m)) (.int .i64 x) false).run Tryz.prog w=.ok (ptrV (f x)) w:=by
 obtain ⟨D,h,r⟩:=h
 have hz:ptrR (.pointer none)=some (ptrD none,[]):=rfl
 have hk:=keyI x hx
 obtain ⟨v,ps,hrun,hv⟩:=World.ownsMap.lookup (t:=138) (e:=208) (z:=.pointer none) (zd:=ptrD none) (zp:=[]) (key:=.int .i64 x) (kl:=.int .i64 x) h Sh.lawInt Tryz.underlying138 (zeroEnt w) hz hk
 obtain ⟨c,rfl,hc⟩:=ptrR_inv hv
 have hc2:D.atKey (.int .i64 x) (ptrD none)=ptrD c:=congrArg Prod.fst hc
 rw [hrun,ptrD_inj ((r x).2.symm.trans hc2)]
/-! ### the blocks that are kept -/
structure En where
 k:Nat
 p:Nat
 d:Sh.Bs
 dirty:Bool
 pins:Nat
instance:Inhabited En:=⟨⟨0,0,[],false,0⟩⟩
def cellsE (e:En):List Value:=bts e.d++[.bool e.dirty,.int .i64 (e.pins:Int)]
def finds (l:List En) (x:Int):Option En:=l.find? fun e=>decide ((e.k:Int)=x)
def ptrs (l:List En) (x:Int):Option Nat:=(finds l x).map En.p
def keysV (l:List En):List Value:=l.map fun e=>Value.int .i64 (e.k:Int)
structure VolK where
 v:Nat
 n:Nat
 σ:Type
 own:σ->Nat->Prop
 is:World->σ->Nat->Prop
 rd:σ->Nat->Int->Sh.Bs->σ->Prop
 wr:σ->Nat->Sh.Bs->Int->σ->Prop
 fl:σ->Int->σ->Prop
 nmax:n<=1073741824
 lt:∀{w x k},is w x k->∀b,own x b->b<w.heap.size
 stays:∀{w w' x k} {F:Nat->Prop},is w x k->Sh.Only F w w'->(∀b,F b->¬own x b)->is w' x k
 less:∀{w x k k'},is w x k->k'<=k->is w x k'
 size:∀{w x k},is w x k->Calls Tryz.prog 140 #[.pointer (some ⟨v,0,none⟩)] w fun e w'=>e=.returned (.int .i64 (n:Int))/\Below w.heap.size w w'
 read:∀{w x k} (m:Nat),is w x (k+1)->m<n->Calls Tryz.prog 84 #[.pointer (some ⟨v,0,none⟩),.int .i64 (m:Int)] w fun e w' =>
  ∃(y:Int) (A:Option Addr) (len cap:Nat) (X:Sh.Bs) (x':σ),e=.returned (.tuple #[.slice A len cap,.int .i64 y])/\rd x m y X x'/\is w' x' k/\Sh.Moves (own x) w (own x') w' /\
   ((y=0/\len=128/\Sh.Bytes w w' A X/\Sh.Sec X/\∀a,A=some a->¬own x' a.block)\/(y≠0/\A=none/\len=0/\cap=0))
 write:∀{w x k} (m:Nat) {A:Option Addr} {b:Sh.Bs} (c:Nat),is w x (k+1)->m<n->Sh.Beside w (own x) A b->Sh.Sec b->Calls Tryz.prog 80 #[.pointer (some ⟨v,0,none⟩),.int .i64 (m:Int),.slice A 128 c] w fun e w' =>
  ∃(y:Int) (x':σ),e=.returned (.int .i64 y)/\wr x m b y x'/\is w' x' k/\Sh.Moves (own x) w (own x') w'
 flush:∀{w x k},is w x (k+1)->Calls Tryz.prog 82 #[.pointer (some ⟨v,0,none⟩)] w fun e w' =>
  ∃(y:Int) (x':σ),e=.returned (.int .i64 y)/\fl x y x'/\is w' x' k/\Sh.Moves (own x) w (own x') w'
structure Cg where
 c:Nat
 m:Nat
 u:Value
def Cg.has (g:Cg) (l:List En) (b:Nat):Prop:=b=g.c\/b=g.m\/g.u.ownBlock=some b\/∃e∈l,b=e.p
structure Ca (V:VolK) (w:World) (g:Cg) (most:Nat) (l:List En):Prop where
 most1:1<=most
 mostM:most<=1024
 root:w.heap[g.c]?=some (.cells #[.pointer (some ⟨V.v,0,none⟩),.int .i64 (most:Int),.map (some g.m),g.u] 140 (0,0))
 row:w.ownsRow 0 3 1 g.u l.length (keysV l)
 len:l.length<=most
 map:PMap w g.m 1024 (ptrs l)
 ent:∀e∈l,w.heap[e.p]?=some (.cells (cellsE e).toArray 210 (0,0))
 secs:∀e∈l,Sh.Sec e.d
 pins:∀e∈l,e.pins<=4611686018427387904
 lows:∀e∈l,e.k<V.n
 keys:(l.map En.k).Nodup
 ptr:(l.map En.p).Nodup
open Go.Proofs.YtcnjpmcelihknaaGreatDoor.Sh (bts bts_length Reads)
theorem finds_some {l:List En} {x:Int} {e:En} (h:finds l x=some e):e∈l/\(e.k:Int)=x:=by
 unfold finds at h
 exact ⟨List.mem_of_find?_eq_some h,by simpa using List.find?_some h⟩
theorem finds_none {l:List En} {x:Int} (h:finds l x=none):∀e∈l,(e.k:Int)≠x:=by
 unfold finds at h
 intro e he
 have:=List.find?_eq_none.1 h e he
 simpa using this
theorem finds_mem:∀{l:List En} (_:(l.map En.k).Nodup) {e:En} (_:e∈l),finds l (e.k:Int)=some e:=by
 intro l
 induction l with
 | nil=>intro _ e h;cases h
 | cons a t ih =>
  intro h e he
  rw [List.map_cons,List.nodup_cons] at h
  by_cases hk:a.k=e.k
  ·rcases List.mem_cons.1 he with rfl | he
   ·simp [finds]
   ·exact absurd (hk▸List.mem_map_of_mem he) h.1
  ·rcases List.mem_cons.1 he with rfl | he
   ·exact absurd rfl hk
   ·have:=ih h.2 he
    unfold finds at this ⊢
    rw [List.find?_cons_of_neg (by simpa using fun h0:(a.k:Int)=e.k=>hk (by omega))]
    exact this
def putE (l:List En) (e:En):List En:=l.map fun z=>if z.k=e.k then e else z
def dropE (l:List En) (k:Nat):List En:=l.filter fun z=>decide (z.k≠k)
theorem putE_length (l:List En) (e:En):(putE l e).length=l.length:=by simp [putE]
theorem putE_keys (l:List En) (e:En):(putE l e).map En.k=l.map En.k:=by
 unfold putE
 rw [List.map_map]
 apply List.map_congr_left
 intro z _
 simp only [Function.comp]
 split
 ·rename_i h;exact h.symm
 ·rfl
theorem keysV_eq (l:List En):keysV l=(l.map En.k).map fun (k:Nat)=>Value.int .i64 (k:Int):=by simp [keysV]
theorem putE_keysV (l:List En) (e:En):keysV (putE l e)=keysV l:=by rw [keysV_eq,keysV_eq,putE_keys]
theorem mem_putE {l:List En} {e z:En} (h:z∈putE l e):z=e\/(z∈l/\z.k≠e.k):=by
 unfold putE at h
 obtain ⟨a,ha,rfl⟩:=List.mem_map.1 h
 split
 ·exact .inl rfl
 ·rename_i hk;exact .inr ⟨ha,hk⟩
theorem one_of_key {l:List En} (hn:(l.map En.k).Nodup) {a b:En} (ha:a∈l) (hb:b∈l) (h:a.k=b.k):a=b:=by
 have h1:=finds_mem hn ha
 have h2:=finds_mem hn hb
 rw [h] at h1
 rw [h1] at h2
 injection h2
theorem one_of_ptr:∀{l:List En} (_:(l.map En.p).Nodup) {a b:En} (_:a∈l) (_:b∈l) (_:a.p=b.p),a=b:=by
 intro l
 induction l with
 | nil=>intro _ a b h;cases h
 | cons x t ih =>
  intro h a b ha hb hp
  rw [List.map_cons,List.nodup_cons] at h
  rcases List.mem_cons.1 ha with e1 | ha2<;>rcases List.mem_cons.1 hb with e2 | hb2
  ·rw [e1,e2]
  ·exact absurd (by rw [<- e1,hp];exact List.mem_map_of_mem hb2) h.1
  ·exact absurd (by rw [<- e2,<- hp];exact List.mem_map_of_mem ha2) h.1
  ·exact ih h.2 ha2 hb2 hp
theorem putE_ptrs {l:List En} (hn:(l.map En.k).Nodup) {e0 e:En} (h0:e0∈l) (hk:e.k=e0.k) (hp:e.p=e0.p):(putE l e).map En.p=l.map En.p:=by
 unfold putE
 rw [List.map_map]
 apply List.map_congr_left
 intro z hz
 simp only [Function.comp]
 split
 ·rename_i h
  rw [one_of_key hn hz h0 (h.trans hk)]
  exact hp
 ·rfl
theorem finds_putE {l:List En} (hn:(l.map En.k).Nodup) {e0 e:En} (h0:e0∈l) (hk:e.k=e0.k) (x:Int):finds (putE l e) x=if (e.k:Int)=x then some e else finds l x:=by
 have hn2:((putE l e).map En.k).Nodup:=by rw [putE_keys];exact hn
 have hin:e∈putE l e:=List.mem_map.2 ⟨e0,h0,by rw [if_pos hk.symm]⟩
 by_cases h:(e.k:Int)=x
 ·rw [if_pos h,<- h]
  exact finds_mem hn2 hin
 ·rw [if_neg h]
  rcases hf:finds l x with _ | a
  ·rcases hg:finds (putE l e) x with _ | b
   ·rfl
   ·obtain ⟨hb,hbx⟩:=finds_some hg
    rcases mem_putE hb with rfl | ⟨hb,_⟩
    ·exact absurd hbx h
    ·exact absurd hbx (finds_none hf b hb)
  ·obtain ⟨ha,hax⟩:=finds_some hf
   have:a∈putE l e:=List.mem_map.2 ⟨a,ha,by rw [if_neg (fun e2=>h (by omega))]⟩
   have:=finds_mem hn2 this
   rw [hax] at this
   exact this
theorem ptrs_putE {l:List En} (hn:(l.map En.k).Nodup) {e0 e:En} (h0:e0∈l) (hk:e.k=e0.k) (hp:e.p=e0.p):ptrs (putE l e)=ptrs l:=by
 funext x
 unfold ptrs
 rw [finds_putE hn h0 hk]
 split
 ·rename_i h
  rw [<- h,hk,finds_mem hn h0]
  simp [hp]
 ·rfl
theorem finds_dropE {l:List En} (hn:(l.map En.k).Nodup) (k:Nat) (x:Int):finds (dropE l k) x=if (k:Int)=x then none else finds l x:=by
 have hn2:((dropE l k).map En.k).Nodup:=(List.Sublist.map _ List.filter_sublist).nodup hn
 rcases hg:finds (dropE l k) x with _ | b
 ·split
  ·rfl
  ·rename_i h
   rcases hf:finds l x with _ | a
   ·rfl
   ·obtain ⟨ha,hax⟩:=finds_some hf
    exact absurd hax (finds_none hg a (List.mem_filter.2 ⟨ha,by simpa using fun e2:a.k=k=>h (by omega)⟩))
 ·obtain ⟨hb,hbx⟩:=finds_some hg
  obtain ⟨hb1,hb2⟩:=List.mem_filter.1 hb
  have hb3:b.k≠k:=by simpa using hb2
  rw [if_neg (by omega),<- hbx,finds_mem hn hb1]
theorem ptrs_dropE {l:List En} (hn:(l.map En.k).Nodup) (k:Nat):ptrs (dropE l k)=fun x=>if (k:Int)=x then none else ptrs l x:=by
 funext x
 unfold ptrs
 rw [finds_dropE hn]
 split<;>rfl
theorem finds_snoc {l:List En} {e:En} (hk:∀z∈l,z.k≠e.k) (x:Int):finds (l++[e]) x=if (e.k:Int)=x then some e else finds l x:=by
 unfold finds
 rw [List.find?_append]
 by_cases h:(e.k:Int)=x
 ·rw [if_pos h]
  have:l.find? (fun z=>decide ((z.k:Int)=x))=none:=by
   rw [List.find?_eq_none]
   intro z hz
   have:=hk z hz
   simpa using fun e2:(z.k:Int)=x=>this (by omega)
  rw [this]
  simp [h]
 ·rw [if_neg h]
  simp [h]
theorem ptrs_snoc {l:List En} {e:En} (hk:∀z∈l,z.k≠e.k):ptrs (l++[e])=fun x=>if (e.k:Int)=x then some e.p else ptrs l x:=by
 funext x
 unfold ptrs
 rw [finds_snoc hk]
 split<;>rfl
theorem dropE_at {l:List En} (hn:(l.map En.k).Nodup) {i:Nat} {e:En} (h:l[i]?=some e):dropE l e.k=l.take i++l.drop (i+1):=by
 obtain ⟨hi,he⟩:=List.getElem?_eq_some_iff.1 h
 have hl:l=l.take i++e :: l.drop (i+1):=by rw [<- he,<- List.drop_eq_getElem_cons hi,List.take_append_drop]
 have hn2:=hn
 rw [hl] at hn2
 rw [List.map_append,List.map_cons,List.nodup_append,List.nodup_cons] at hn2
 obtain ⟨_,⟨h2,_⟩,h3⟩:=hn2
 conv=>lhs;rw [hl]
 unfold dropE
 rw [List.filter_append,List.filter_cons_of_neg (by simp)]
 congr 1
 ·rw [List.filter_eq_self]
  intro z hz
  have:=h3 z.k (List.mem_map_of_mem hz) e.k (List.mem_cons_self ..)
  simpa using this
 ·rw [List.filter_eq_self]
  intro z hz
  have:z.k≠e.k:=fun e2=>h2 (e2▸List.mem_map_of_mem hz)
  simpa using this
section
variable {V:VolK} {w w':World} {g:Cg} {most:Nat} {l:List En}
theorem Ca.lt (h:Ca V w g most l) {b:Nat} (hb:g.has l b):b<w.heap.size:=by
 rcases hb with rfl | rfl | hb | ⟨e,he,rfl⟩
 ·exact lt_of_block h.root
 ·exact h.map.lt
 ·exact (h.row.lt b hb).2
 ·exact lt_of_block (h.ent e he)
theorem Ca.same (h:Ca V w g most l) (hk:∀b,g.has l b->w'.heap[b]?=w.heap[b]?):Ca V w' g most l :=
 ⟨h.most1,h.mostM,by rw [hk _ (.inl rfl)];exact h.root,Sh.same_row h.row fun b hb=>hk b (.inr (.inr (.inl hb))),h.len,h.map.same (hk _ (.inr (.inl rfl))),fun e he=>by rw [hk _ (.inr (.inr (.inr ⟨e,he,rfl⟩)))];exact h.ent e he,h.secs,h.pins,h.lows,h.keys,h.ptr⟩
theorem Ca.only {F:Nat->Prop} (h:Ca V w g most l) (ho:Sh.Only F w w') (hF:∀b,F b->¬g.has l b):Ca V w' g most l :=
 h.same fun b hb=>ho.block b (h.lt hb) fun e=>hF b e hb
theorem Ca.grown (h:Ca V w g most l) (hb:Below w.heap.size w w'):Ca V w' g most l :=
 h.same fun b hb2=>hb.block b (h.lt hb2)
theorem ty_ne:(140:Nat)≠210/\(3:Nat)≠210/\(140:Nat)≠3:=by decide
theorem row_block {w:World} {u:Value} {n b:Nat} {xs:List Value} (h:w.ownsRow 0 3 1 u n xs) (hb:u.ownBlock=some b):∃cur,w.heap[b]?=some (.cells cur 3 (0,0)):=by
 rcases h.2 with ⟨rfl,_⟩ | ⟨gg,cap,cur,rfl,_,hh,_⟩
 ·cases hb
 ·simp only [Value.ownBlock,Option.some.injEq] at hb
  subst hb
  exact ⟨cur,hh⟩
theorem Ca.c_m (h:Ca V w g most l):g.c≠g.m:=by
 intro e
 obtain ⟨D,⟨es,clock,hb,_⟩,_⟩:=h.map
 have:=h.root
 rw [e,hb] at this
 cases this
theorem Ca.c_u (h:Ca V w g most l):g.u.ownBlock≠some g.c:=by
 intro e
 obtain ⟨cur,hb⟩:=row_block h.row e
 have:=h.root
 rw [hb] at this
 injection this with this
 injection this with _ this _
 exact ty_ne.2.2 this.symm
theorem Ca.u_m (h:Ca V w g most l):g.u.ownBlock≠some g.m:=by
 intro e
 obtain ⟨cur,hb⟩:=row_block h.row e
 obtain ⟨D,⟨es,clock,hb2,_⟩,_⟩:=h.map
 rw [hb] at hb2
 cases hb2
theorem Ca.p_c (h:Ca V w g most l) {e:En} (he:e∈l):e.p≠g.c:=by
 intro e2
 have:=h.root
 rw [<- e2,h.ent e he] at this
 injection this with this
 injection this with _ this _
 exact ty_ne.1 this.symm
theorem Ca.p_m (h:Ca V w g most l) {e:En} (he:e∈l):e.p≠g.m:=by
 intro e2
 obtain ⟨D,⟨es,clock,hb,_⟩,_⟩:=h.map
 rw [<- e2,h.ent e he] at hb
 cases hb
theorem Ca.p_u (h:Ca V w g most l) {e:En} (he:e∈l):g.u.ownBlock≠some e.p:=by
 intro e2
 obtain ⟨cur,hb⟩:=row_block h.row e2
 rw [h.ent e he] at hb
 injection hb with hb
 injection hb with _ hb _
 exact ty_ne.2.1 hb.symm
theorem has_putE {l:List En} (hn:(l.map En.k).Nodup) {e0 e:En} (h0:e0∈l) (hk:e.k=e0.k) (hp:e.p=e0.p) {b:Nat}:g.has (putE l e) b↔g.has l b:=by
 unfold Cg.has
 have:(∃z∈putE l e,b=z.p)↔∃z∈l,b=z.p:=by
  have e1:=putE_ptrs hn h0 hk hp
  constructor
  ·rintro ⟨z,hz,rfl⟩
   have:z.p∈(putE l e).map En.p:=List.mem_map_of_mem hz
   rw [e1] at this
   obtain ⟨a,ha,h2⟩:=List.mem_map.1 this
   exact ⟨a,ha,h2.symm⟩
  ·rintro ⟨z,hz,rfl⟩
   have:z.p∈l.map En.p:=List.mem_map_of_mem hz
   rw [<- e1] at this
   obtain ⟨a,ha,h2⟩:=List.mem_map.1 this
   exact ⟨a,ha,h2.symm⟩
 rw [this]
theorem Ca.put (h:Ca V w g most l) {e0 e:En} (h0:e0∈l) (hk:e.k=e0.k) (hp:e.p=e0.p) (hs:Sh.Sec e.d) (hpin:e.pins<=4611686018427387904)
  (he:w'.heap[e0.p]?=some (.cells (cellsE e).toArray 210 (0,0))) (ho:∀b,b<w.heap.size->b≠e0.p->w'.heap[b]?=w.heap[b]?):Ca V w' g most (putE l e) :=
 ⟨h.most1,h.mostM,by rw [ho _ (lt_of_block h.root) (h.p_c h0).symm];exact h.root,
  by rw [putE_length,putE_keysV];exact Sh.same_row h.row fun b hb=>ho b (h.row.lt b hb).2 (fun e2=>h.p_u h0 (e2▸hb)),
  by rw [putE_length];exact h.len,
  by rw [ptrs_putE h.keys h0 hk hp];exact h.map.same (ho _ h.map.lt (h.p_m h0).symm),
  fun z hz=>by
   rcases mem_putE hz with rfl | ⟨hz,hne⟩
   ·rw [hp];exact he
   ·rw [ho _ (lt_of_block (h.ent z hz)) (fun e2=>hne (by rw [one_of_ptr h.ptr hz h0 e2,hk]))]
    exact h.ent z hz,
  fun z hz=>(mem_putE hz).elim (fun e2=>e2▸hs) (fun q=>h.secs z q.1),
  fun z hz=>(mem_putE hz).elim (fun e2=>e2▸hpin) (fun q=>h.pins z q.1),
  fun z hz=>(mem_putE hz).elim (fun e2=>by rw [e2,hk];exact h.lows _ h0) (fun q=>h.lows z q.1),
  by rw [putE_keys];exact h.keys,
  by rw [putE_ptrs h.keys h0 hk hp];exact h.ptr⟩
end
open Go.Proofs.YtcnjpmcelihknaaGreatDoor.Sh (bts bts_length Reads)
def AllC (V:VolK) (x:V.σ) (g:Cg) (l:List En) (b:Nat):Prop:=V.own x b\/g.has l b
structure Cav (V:VolK) (w:World) (g:Cg) (most:Nat) (l:List En) (x:V.σ) (k:Nat):Prop where
 ca:Ca V w g most l
 vol:V.is w x k
 apart:∀b,V.own x b->¬g.has l b
section
variable {V:VolK} {w w':World} {g:Cg} {most:Nat} {l:List En} {x:V.σ} {k:Nat}
theorem Cav.lt (h:Cav V w g most l x k) {b:Nat} (hb:AllC V x g l b):b<w.heap.size:=hb.elim (h.vol |> fun q=>V.lt q b) h.ca.lt
theorem Cav.only {F:Nat->Prop} (h:Cav V w g most l x k) (ho:Sh.Only F w w') (hF:∀b,F b->¬AllC V x g l b):Cav V w' g most l x k :=
 ⟨h.ca.only ho fun b hb e=>hF b hb (.inr e),V.stays h.vol ho fun b hb e=>hF b hb (.inl e),h.apart⟩
theorem only_below (hb:Below w.heap.size w w'):Sh.Only (fun _=>False) w w':=Sh.Only.of_below hb fun b h1 h2=>absurd h2 (by omega)
theorem Cav.grown (h:Cav V w g most l x k) (hb:Below w.heap.size w w'):Cav V w' g most l x k:=h.only (only_below hb) fun _ e=>e.elim
theorem Cav.less (h:Cav V w g most l x k) {k':Nat} (hk:k'<=k):Cav V w g most l x k':=⟨h.ca,V.less h.vol hk,h.apart⟩
theorem Cav.moved (h:Cav V w g most l x k) {x':V.σ} {k':Nat} (hi:V.is w' x' k') (hm:Sh.Moves (V.own x) w (V.own x') w'):Cav V w' g most l x' k'/\Sh.Moves (AllC V x g l) w (AllC V x' g l) w' :=
 ⟨⟨h.ca.only hm.1 h.apart,hi,fun b hb e=>(hm.2 b hb).elim (fun e2=>h.apart b e2 e) (fun e2=>absurd (h.ca.lt e) (by omega))⟩,
  ⟨hm.1.mono fun b hb=>.inl hb,fun b hb=>hb.elim (fun e=>(hm.2 b e).imp .inl id) (fun e=>.inl (.inr e))⟩⟩
theorem Cav.put (h:Cav V w g most l x k) {e0 e:En} (h0:e0∈l) (hk:e.k=e0.k) (hp:e.p=e0.p) (hs:Sh.Sec e.d) (hpin:e.pins<=4611686018427387904)
  (he:w'.heap[e0.p]?=some (.cells (cellsE e).toArray 210 (0,0))) (ho:Sh.Only (fun b=>b=e0.p) w w') :
  Cav V w' g most (putE l e) x k/\Sh.Moves (AllC V x g l) w (AllC V x g (putE l e)) w':=by
 have hin:g.has l e0.p:=.inr (.inr (.inr ⟨e0,h0,rfl⟩))
 have hh:=@has_putE g l h.ca.keys e0 e h0 hk hp
 exact ⟨⟨h.ca.put h0 hk hp hs hpin he fun b hb hne=>ho.block b hb hne,V.stays h.vol ho fun b hb e2=>h.apart b e2 (by rw [hb];exact hin),fun b hb e2=>h.apart b hb (hh.1 e2)⟩,
  ⟨ho.mono fun b hb=>.inr (by rw [hb];exact hin),fun b hb=>.inl (hb.imp id fun e2=>hh.1 e2)⟩⟩
/-! ### what the walks read -/
theorem Ca.c0 (h:Ca V w g most l):w.cell? ⟨g.c,0,none⟩=some (.pointer (some ⟨V.v,0,none⟩)):=cell_of_row _ _ 0 _ _ _ h.root
theorem Ca.c1 (h:Ca V w g most l):w.cell? ⟨g.c,1,none⟩=some (.int .i64 (most:Int)):=cell_of_row _ _ 1 _ _ _ h.root
theorem Ca.c2 (h:Ca V w g most l):w.cell? ⟨g.c,2,none⟩=some (.map (some g.m)):=cell_of_row _ _ 2 _ _ _ h.root
theorem Ca.c3 (h:Ca V w g most l):w.cell? ⟨g.c,3,none⟩=some g.u:=cell_of_row _ _ 3 _ _ _ h.root
theorem Ca.free (h:Ca V w g most l) (i:Nat):w.frozen? ⟨g.c,i,none⟩=false:=frozen_of_row _ _ _ _ _ h.root
theorem cellsE_length {e:En} (h:Sh.Sec e.d):(cellsE e).length=130:=by simp [cellsE,bts_length,h.1]
theorem Ca.e128 (h:Ca V w g most l) {e:En} (he:e∈l):w.cell? ⟨e.p,128,none⟩=some (.bool e.dirty):=by
 rw [cell_of_row _ _ 128 _ _ _ (h.ent e he)]
 simp [cellsE,bts_length,(h.secs e he).1]
theorem Ca.e129 (h:Ca V w g most l) {e:En} (he:e∈l):w.cell? ⟨e.p,129,none⟩=some (.int .i64 (e.pins:Int)):=by
 rw [cell_of_row _ _ 129 _ _ _ (h.ent e he)]
 simp [cellsE,bts_length,(h.secs e he).1]
theorem Ca.efree (h:Ca V w g most l) {e:En} (he:e∈l) (i:Nat):w.frozen? ⟨e.p,i,none⟩=false:=frozen_of_row _ _ _ _ _ (h.ent e he)
theorem Ca.look (h:Ca V w g most l) (x:Int) (hx:-9223372036854775808<=x/\x<=9223372036854775807):(Instr.lookup 138 (.map (some g.m)) (.int .i64 x) false).run Tryz.prog w=.ok (ptrV (ptrs l x)) w:=h.map.look x hx
theorem Ca.bytes (h:Ca V w g most l) {e:En} (he:e∈l):Reads w w.heap.size (some ⟨e.p,0,none⟩) 128 (bts e.d):=by
 refine ⟨by rw [bts_length,(h.secs e he).1],fun _=>⟨_,rfl,lt_of_block (h.ent e he),fun j u hu=>?_⟩⟩
 have e1:(⟨e.p,0,none⟩:Addr).add j=⟨e.p,j,none⟩:=by unfold Addr.add;split<;>simp_all
 rw [e1,cell_of_row _ _ j _ _ _ (h.ent e he)]
 have hj:j<(bts e.d).length:=(List.getElem?_eq_some_iff.1 hu).1
 simp only [cellsE,List.getElem?_toArray]
 rw [List.getElem?_append_left hj]
 exact hu
end
open Go.Proofs.YtcnjpmcelihknaaGreatDoor.Sh (bts bts_length Reads)
section
variable (V:VolK)
inductive WbR (x:V.σ) (e:En):Int->V.σ->En->Prop
 | clean:e.dirty=false->WbR x e 0 x e
 | no (y:Int) (x':V.σ):e.dirty=true->V.wr x e.k e.d y x'->y≠0->WbR x e y x' e
 | done (x':V.σ):e.dirty=true->V.wr x e.k e.d 0 x'->WbR x e 0 x' { e with dirty:=false }
def firstE (l:List En):Nat:=l.findIdx fun e=>decide (e.pins=0)
inductive RoomR (most:Nat) (l:List En) (x:V.σ):Int->List En->V.σ->Prop
 | free:l.length<most->RoomR most l x 0 l x
 | full:¬l.length<most->(∀e∈l,e.pins≠0)->RoomR most l x 6 l x
 | no (e:En) (y:Int) (x':V.σ):¬l.length<most->l[firstE l]?=some e->e.pins=0->WbR V x e y x' e->y≠0->RoomR most l x y l x'
 | left (e e':En) (x':V.σ):¬l.length<most->l[firstE l]?=some e->e.pins=0->WbR V x e 0 x' e'->RoomR most l x 0 (dropE l e.k) x'
inductive KeepR (most:Nat) (k:Nat) (b:Sh.Bs) (l:List En) (x:V.σ):Int->List En->V.σ->Prop
 | no (y:Int) (l':List En) (x':V.σ):RoomR V most l x y l' x'->y≠0->KeepR most k b l x y l' x'
 | kept (l':List En) (x':V.σ) (p:Nat):RoomR V most l x 0 l' x'->KeepR most k b l x 0 (l'++[⟨k,p,b,false,0⟩]) x'
inductive FetchR (most:Nat) (k:Nat) (l:List En) (x:V.σ):Int->List En->V.σ->Prop
 | no (y:Int) (X:Sh.Bs) (x':V.σ):V.rd x k y X x'->y≠0->FetchR most k l x y l x'
 | got (X:Sh.Bs) (x1:V.σ) (y:Int) (l':List En) (x':V.σ):V.rd x k 0 X x1->KeepR V most k X l x1 y l' x'->FetchR most k l x y l' x'
def useE (l:List En) (e:En):List En:=dropE l e.k++[e]
inductive GetR (most:Nat) (n:Int) (l:List En) (x:V.σ):Int->Sh.Bs->List En->V.σ->Prop
 | out:¬(0<=n/\n<(V.n:Int))->GetR most n l x 1 [] l x
 | here (e:En):(0<=n/\n<(V.n:Int))->finds l n=some e->GetR most n l x 0 e.d (useE l e) x
 | no (k:Nat) (y:Int) (l':List En) (x':V.σ):n=(k:Int)->k<V.n->finds l n=none->FetchR V most k l x y l' x'->y≠0->GetR most n l x y [] l' x'
 | got (k:Nat) (l':List En) (x':V.σ) (e:En):n=(k:Int)->k<V.n->finds l n=none->FetchR V most k l x 0 l' x'->finds l' n=some e->GetR most n l x 0 e.d (useE l' e) x'
inductive PutR (most:Nat) (n:Int) (b:Sh.Bs) (l:List En) (x:V.σ):Int->List En->V.σ->Prop
 | out:¬((0<=n/\n<(V.n:Int))/\b.length=128)->PutR most n b l x 1 l x
 | here (e:En):(0<=n/\n<(V.n:Int))->b.length=128->finds l n=some e->PutR most n b l x 0 (useE l { e with d:=b,dirty:=true }) x
 | no (k:Nat) (y:Int) (l':List En) (x':V.σ):n=(k:Int)->k<V.n->b.length=128->finds l n=none->KeepR V most k b l x y l' x'->y≠0->PutR most n b l x y l' x'
 | new (k:Nat) (l':List En) (x':V.σ) (e:En):n=(k:Int)->k<V.n->b.length=128->finds l n=none->KeepR V most k b l x 0 l' x'->finds l' n=some e->PutR most n b l x 0 (useE l' { e with d:=b,dirty:=true }) x'
inductive WbsR:List Int->List En->V.σ->Int->List En->V.σ->Prop
 | nil (l:List En) (x:V.σ):WbsR [] l x 0 l x
 | no (k:Int) (t:List Int) (l:List En) (x:V.σ) (e:En) (y:Int) (x':V.σ):finds l k=some e->WbR V x e y x' e->y≠0->WbsR (k :: t) l x y l x'
 | next (k:Int) (t:List Int) (l:List En) (x:V.σ) (e e1:En) (x1:V.σ) (y:Int) (l':List En) (x':V.σ):finds l k=some e->WbR V x e 0 x1 e1->WbsR t (putE l e1) x1 y l' x'->WbsR (k :: t) l x y l' x'
def risesE (f:En->Bool) (l:List En):List Int:=((l.filter f).map fun e=>(e.k:Int)).mergeSort (fun a b=>decide (a<=b))
inductive FlushR (l:List En) (x:V.σ):Int->List En->V.σ->Prop
 | no (y:Int) (l':List En) (x':V.σ):WbsR V (risesE (fun e=>e.dirty && decide (e.pins=0)) l) l x y l' x'->y≠0->FlushR l x y l' x'
 | all (l':List En) (x1 x':V.σ) (y:Int):WbsR V (risesE (fun e=>e.dirty && decide (e.pins=0)) l) l x 0 l' x1->V.fl x1 y x'->FlushR l x y l' x'
end
def LeftC (V:VolK) (w:World) (g:Cg) (most:Nat) (l:List En) (x:V.σ) (l':List En) (x':V.σ) (k:Nat) (w':World):Prop :=
 ∃u,Cav V w' { g with u:=u } most l' x' k/\Sh.Moves (AllC V x g l) w (AllC V x' { g with u:=u } l') w'
end Go.Proofs.YtcnjpmcelihknaaGreatDoor.Kc
