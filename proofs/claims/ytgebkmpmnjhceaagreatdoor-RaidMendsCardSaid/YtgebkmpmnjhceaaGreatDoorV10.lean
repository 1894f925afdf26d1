/-
  What the statement's proof rests on, part 10.
  Conditions: each theorem's own.
-/
import Derived.Test.YtgebkmpmnjhceaaGreatDoorV05
import Derived.Lib.MinMax
import Derived.Shelf.Bits.Mul64
import Derived.Laws.CopyOwn
import Derived.Deep.RegionLaw
import Derived.Deep.RegionWith
import Derived.Deep.RegionHeld3
open Go.Lib (hid)
namespace Go.Proofs.YtgebkmpmnjhceaaGreatDoor.Sh
open Go.RowKit Go.Maps
def ints (l:List Int):List Value:=l.map fun x=>Value.int .i64 x
def kpOf (l:List Int) (j:Nat):Bool:=decide ((j:Int)∈l)
def stands (l:List Int) (L:Nat):List Value:=(List.range L).map fun j=>.bool (kpOf l j)
theorem turn_only {w w2:World} {p D:Nat} {S:Sf} {F:Nat->Prop} {gs:Nat->Gh} (h:ShelfIs w p S F D gs) {d:Nat} (hd:d<S.disks.length) (k':Dk) (v:Value)
  (hdead:k'.dead=(S.disks.getD d default).dead)
  (hO:Only ((gs d).has) w w2)
  (hdisk:DiskIs w2 S.sectors { s:=(gs d).s,m:=(gs d).m,v:=v } k')
  (hnew:∀b,v.ownBlock=some b->(gs d).v.ownBlock=some b\/w.heap.size<=b) :
  Left F w p { S with disks:=S.disks.set d k' } (w2.setCell ⟨D,d*4+1,none⟩ v):=by
 have hDF:¬(gs d).has D:=h.nD hd
 have hD2:w2.heap[D]?=w.heap[D]?:=hO.block D h.Dlt hDF
 have hroot:w2.heap[p]?=w.heap[p]?:=hO.block p h.plt (h.np hd)
 have hrow2:=same_row (w':=w2) h.row fun b hb=>by injection hb with hb;subst hb;exact hD2
 have hrow3:=(hrow2.stored (d*4+1) v).1
 rw [rowOf_set _ (by decide)] at hrow3
 have hvD:¬(Gh.has { s:=(gs d).s,m:=(gs d).m,v:=v } D):=by
  intro e
  obtain ⟨cur,hc⟩:=row_type hrow2 rfl
  rcases hdisk.kinds e hc with e | e<;>exact absurd e (by decide)
 have hOF:Only F w w2:=hO.mono fun b hb=>h.inF.2.2 d b hd hb
 have hO4:Only F w (w2.setCell ⟨D,d*4+1,none⟩ v):=hOF.setCell (.inl h.inF.2.1) v
 refine ⟨_,⟨D,_,h.turned hd { s:=(gs d).s,m:=(gs d).m,v:=v } k' S.off S.left S.count h.left ?_ ?_ ?_ ?_ hO4.size ?_⟩,hO4,?_⟩
 ·rw [heap_set_other _ _ _ h.pD,hroot];exact h.root
 ·have e:rowOf (fun a c=>if a=d/\c=1 then v else diskV (gs a) (S.disks.getD a default).dead c) S.disks.length 4=rowOf (fun a c=>if a=d then diskV { s:=(gs d).s,m:=(gs d).m,v:=v } k'.dead c else diskV (gs a) (S.disks.getD a default).dead c) S.disks.length 4:=by
   refine rowOf_congr (by decide) fun a c _ hc=>?_
   by_cases ea:a=d
   ·subst ea
    rw [if_pos rfl,hdead]
    match c,hc with
    | 0,_=>simp [diskV]
    | 1,_=>simp [diskV]
    | 2,_=>simp [diskV]
    | 3,_=>simp [diskV]
   ·rw [if_neg ea,if_neg (fun h=>ea h.1)]
  rw [<- e]
  exact hrow3
 ·refine hdisk.same fun b hb=>heap_set_other _ _ _ (by rintro rfl;exact hvD hb)
 ·intro b hb _ hbD hbg
  rw [heap_set_other _ _ _ hbD]
  exact hO.block b (h.ltF b hb) hbg
 ·intro b hb
  rcases hb with hb | hb | hb
  ·exact .inl (.inl hb)
  ·exact .inl (.inr (.inl hb))
  ·exact (hnew b hb).imp (fun e=>.inr (.inr e)) id
 ·rintro b (hb | hb)
  ·exact .inl hb
  ·rcases hb with hb | hb | hb
   ·exact .inl (h.inF.2.2 d b hd (.inl hb))
   ·exact .inl (h.inF.2.2 d b hd (.inr (.inl hb)))
   ·exact (hnew b hb).imp (fun e=>h.inF.2.2 d b hd (.inr (.inr e))) id
def KeepIs (w:World) (G:Nat->Prop) (A:Option Addr) (n:Nat) (ks:List (List Int)):Prop :=
 ks.length=n/\(0<n->∃ad,A=some ad/\G ad.block/\∀j,j<n->∃A' m c,w.cell? (ad.add j)=some (.slice A' m c)/\m<=9223372036854775807/\Reads w w.heap.size A' m (ints (ks.getD j []))/\(0<m->∀a',A'=some a'->G a'.block))
open Go.Shelf
def mulRen:Go.Shelf.Ren:=⟨fun | 212=>90 | 263=>121 | 264=>122 | n=>n,fun | 46=>141 | 51=>151 | 53=>173 | 146=>171 | 148=>174 | n=>n,fun | n=>n⟩
theorem mulLays:Go.Proofs.Lays.n212 Tryz.prog mulRen:={
 mixed:=by kernel_rfl
 f212:=Tryz.func90.trans (congrArg some (by kernel_rfl))
 f263:=Tryz.func121.trans (congrArg some (by kernel_rfl))
 f264:=Tryz.func122.trans (congrArg some (by kernel_rfl))
 t46:=Tryz.underlying141
 a46:=Tryz.isAgg141
 z46:=Tryz.sizeOf141
 v46:=Tryz.zeroValue141
 t51:=Tryz.underlying151
 a51:=Tryz.isAgg151
 z51:=Tryz.sizeOf151
 v51:=Tryz.zeroValue151
 t53:=Tryz.underlying173
 a53:=Tryz.isAgg173
 z53:=Tryz.sizeOf173
 v53:=Tryz.zeroValue173
 t146:=Tryz.underlying171
 a146:=Tryz.isAgg171
 z146:=Tryz.sizeOf171
 v146:=Tryz.zeroValue171
 t148:=Tryz.underlying174
 a148:=Tryz.isAgg174
 z148:=Tryz.sizeOf174
 v148:=Tryz.zeroValue174 }
theorem mul_one (n:Nat) (hn:n<=4096) (w:World):Calls Tryz.prog 90 #[.int .u64 1,.int .u64 (n:Int)] w fun e w'=>e=.returned (.tuple #[.int .u64 0,.int .u64 (n:Int)])/\w=w' :=
 (Any.bits_Mul mulLays 1 n (by decide) (by omega) w).mono fun e w' ⟨h1,h2⟩=>⟨by rw [h1,Nat.one_mul,Nat.div_eq_of_lt (by omega),Nat.mod_eq_of_lt (by omega)];rfl,h2.symm⟩
theorem info_string:(Tryz.prog.info? 9).map (fun i=>(i.zero,i.size,i.bytes))=some (some (.string ⟨#[]⟩),1,16):=by kernel_rfl
theorem size_string:(Tryz.prog.info? 9).map (·.size)=some 1:=by kernel_rfl
def repTo (s:ByteArray) (n k:Nat):List Value:=List.replicate k (.string s)++List.replicate (n-k) (.string ⟨#[]⟩)
theorem repTo_length (s:ByteArray) {n k:Nat} (h:k<=n):(repTo s n k).length=n:=by simp [repTo];omega
theorem repTo_zero (s:ByteArray) (n:Nat):(madeCells (Value.string ⟨#[]⟩).cells (n*1)).toList=repTo s n 0:=by
 rw [Nat.mul_one]
 refine (toList_madeCells_one _ _).trans ?_
 simp [repTo]
theorem repTo_all (s:ByteArray) (n:Nat):repTo s n n=List.replicate n (.string s):=by simp [repTo]
theorem repTo_get (s:ByteArray) {n k j:Nat} (h:j<k):(repTo s n k)[j]?=some (.string s):=by
 unfold repTo
 rw [List.getElem?_append_left (by simpa using h)]
 simp [h]
theorem repTo_splice (s:ByteArray) (n k m:Nat):splice (repTo s n k) k (List.replicate m (.string s))=repTo s n (k+m):=by
 unfold splice repTo
 rw [List.take_left' (by simp),List.drop_append,List.drop_replicate,List.drop_replicate]
 simp
 rw [<- List.append_assoc,List.replicate_append_replicate]
 congr 2
 omega
theorem one_rep (s:ByteArray) (m:Nat):∀v∈List.replicate m (Value.string s),v.oneCell'=true:=by
 intro v hv
 rw [List.eq_of_mem_replicate hv];rfl
theorem one_one (s:ByteArray):∀v∈[Value.string s],v.oneCell'=true:=one_rep s 1
theorem rep_made (s:ByteArray) {w1:World} {q n:Nat} (hown1:w1.ownsRow 0 9 1 (.slice (some ⟨q,0,none⟩) n n) n (madeCells (Value.string ⟨#[]⟩).cells (n*1)).toList):w1.heap[q]?=some (.cells (repTo s n 0).toArray 9 (0,0)):=by
 rcases hown1.2 with ⟨h',_⟩ | ⟨g',cap',cur',h',_,hg,_,_,hcs,htake⟩
 ·simp at h'
 ·simp only [Value.slice.injEq,Option.some.injEq,Addr.mk.injEq,and_true,true_and] at h'
  obtain ⟨rfl,rfl⟩:=h'
  rw [repTo_zero s,List.take_of_length_le (by rw [Array.length_toList,hcs];exact Nat.le_refl _)] at htake
  rw [hg,<- htake]
theorem cell_zero {w:World} {b:Nat} {x:Value} (hc:w.cell? ⟨b,0,none⟩=some x):∀j v,[x][j]?=some v->w.cell? ((⟨b,0,none⟩:Addr).add j)=some v:=by
 intro j v hj
 match j,hj with
 | 0,hj=>simp at hj;subst hj;simpa [Addr.add] using hc
set_option maxRecDepth 20000 in
set_option maxHeartbeats 1600000 in
theorem repeat_any (w:World) (s:ByteArray) (b n:Nat) (h1:1<=n) (hn:n<=4096) (hb:b<w.heap.size) (hc:w.cell? ⟨b,0,none⟩=some (.string s)) :
  Calls Tryz.prog 56 #[.slice (some ⟨b,0,none⟩) 1 1,.int .i64 n] w fun e w' =>
   e=.returned (.slice (some ⟨w.heap.size,0,none⟩) n n)/\w'.ownsRow 0 9 1 (.slice (some ⟨w.heap.size,0,none⟩) n n) n (List.replicate n (.string s))/\Below w.heap.size w w':=by
 obtain ⟨i0,hi,hz0,hz1,hz2⟩:=info_parts info_string
 have HM:=hid (show [Value.string s].length=Nat.min 1 n from (Nat.min_eq_left h1).symm)
 have HFit:=hid (show 0+[Value.string s].length<=(repTo s n 0).length by rw [repTo_length _ (Nat.zero_le _)];simpa using h1)
 have hd0:decide ((n:Int)<0)=false:=by simp
 have hd1:decide (9223372036854775807<(n:Int))=false:=by simp;omega
 go_enter Tryz.func56,Tryz.ntmps56
 go_wp2_with (first
  | (go_at_call 90;refine (mul_one n hn _).mono ?_;rintro e w' ⟨rfl,rfl⟩)
  | (at_make;refine wpList_make_full _ rfl _ _ 50 rfl 0 9 i0 (.string ⟨#[]⟩) 1 Tryz.underlying50 hi hz0 hz1 _ _ _ _ n rfl rfl rfl rfl (by rw [hz2];omega) (by unfold maxLen;omega) (Nat.zero_le _) ?_;intro w1 hown1 hgrow1;have hcells:=rep_made s hown1;have hbel1:Below w.heap.size w w1:=(Below.refl _ w).grown hgrow1 (Nat.le_refl _) (fun _ h=>by cases h);have hc1:=(hbel1.cell (p:=⟨b,0,none⟩) hb).trans hc)
  | (have _t:=hc1;(with_reducible refine wpList_copy_splice (o:=⟨some 33,_,_,_,_,_⟩) rfl (.tmp 31) (.tmp 32) 50 50 rfl 9 Tryz.underlying50 size_string (some ⟨w.heap.size,0,none⟩) (some ⟨b,0,none⟩) n n 1 1 rfl rfl w.heap.size 0 (repTo s n 0) 9 hcells [.string s] HM.out (fun _=>⟨rfl,_,rfl,cell_zero hc1⟩) HFit.out (one_one s) w.heap.size w hbel1 (Nat.le_refl _) ?_);intro w2 hcells2 hbel2))
 have hx:=hcells2.out
 have e1:splice (repTo s n 0) 0 [Value.string s]=repTo s n 1:=by
  have:=repTo_splice s n 0 1
  rw [Nat.zero_add] at this
  exact this
 rw [e1] at hx
 have HX:=hid hx
 have HB2:=hid hbel2
 clear hcells hcells2 hbel2 hbel1 hc1 hown1 hgrow1 e1 hx hc
 generalize hq:w.heap.size=q at *
 have HQ:=hid hq
 clear hq
 go_loopw [8] (fun i wr=>∃k:Nat,1<=k/\k<=n/\i=.int .i64 k/\Hid (wr.heap[q]?=some (.cells (repTo s n k).toArray 9 (0,0)))/\Hid (Below q w wr)) (fun i _=>n-(intOf i).toNat)
 case atStart=>exact ⟨1,Nat.le_refl _,h1,rfl,HX,HB2⟩
 case round =>
  obtain ⟨k,hk1,hk,rfl,hrow,hbel⟩:=hrel
  by_cases hlt:k<n
  ·have hne:¬(n=k):=by omega
   have HM2:=hid (show (List.replicate (min k (n-k)) (Value.string s)).length=Nat.min k (n-k) by simp)
   have HF2:=hid (show k+(List.replicate (min k (n-k)) (Value.string s)).length<=(repTo s n k).length by rw [repTo_length _ hk];simp;omega)
   have HC2:=hid (show ∀j v,(List.replicate (min k (n-k)) (Value.string s))[j]?=some v->wr.drew.cell? ((⟨q,0,none⟩:Addr).add j)=some v by
    intro j v hj
    have hjl:j<min k (n-k):=by
     have:=(List.getElem?_eq_some_iff.1 hj).1
     simpa using this
    have hv:v=.string s:=by simpa [hjl] using hj.symm
    subst hv
    have e:(⟨q,0,none⟩:Addr).add j=⟨q,j,none⟩:=by unfold Addr.add;split<;>simp_all
    rw [e]
    show wr.cell? ⟨q,j,none⟩=_
    rw [cell_of_row _ _ j _ _ _ hrow.out]
    simpa using repTo_get s (n:=n) (show j<k by omega))
   have HR2:=hid (show wr.drew.heap[q]?=some (.cells (repTo s n k).toArray 9 (0,0)) from hrow.out)
   have HB2:=hid hbel.out.drew
   go_wp2
   go_region_law (refine step_copy_splice rfl (.tmp 41) (.tmp 44) 50 50 rfl 9 Tryz.underlying50 size_string (some ⟨q,k,none⟩) (some ⟨q,0,none⟩) (n-k) (n-k) k n (by simp [Act.eval,Act.put]) (by simp [Act.eval,Act.put]) q k (repTo s n k) 9 HR2.out (List.replicate (min k (n-k)) (.string s)) HM2.out (fun _=>⟨rfl,_,rfl,HC2.out⟩) HF2.out (one_rep s _) q w HB2.out (Nat.le_refl _) ?_;intro w3 hcells3 hbel3)
   all_goals
    have hx3:=hcells3.out
    rw [repTo_splice s n k (min k (n-k))] at hx3
    have HX3:=hid hx3
    have HB3:=hid hbel3
    clear hcells3 hbel3 hx3
    have hle:k+min k (n-k)<=n:=by omega
    have hlo:k<k+min k (n-k):=by omega
    have hwr:IntKind.i64.wrap ((k:Int)+((min k (n-k):Nat):Int))=((k+min k (n-k):Nat):Int):=by rw [IntWalk.i64_in _ (by omega)];omega
    rw [hwr]
    simp only [Act.put,List.setIfInBounds_toArray,List.set_cons_succ,List.set_cons_zero,List.getElem_toArray,List.getElem_cons_succ,List.getElem_cons_zero]
    go_roundw
    case rel=>exact ⟨_,_,_,_,_,_,_,_,_,_,_,_,_,_,⟨k+min k (n-k),by omega,hle,rfl,HX3,HB3⟩,rfl⟩
    case measure=>simp [intOf];omega
  ·obtain rfl:k=n:=by omega
   go_wp2
   go_ret
   have hx:=hrow.out
   rw [repTo_all] at hx
   rw [HQ.out]
   refine ⟨rfl,⟨by simp,.inr ⟨q,k,_,rfl,Nat.zero_le _,hx,Nat.le_refl _,by unfold maxLen;omega,by simp,by simp⟩⟩,?_⟩
   exact hbel.out
def zeroD:Nat->Value
 | 0=>.slice none 0 0
 | 1=>.slice none 0 0
 | 2=>.map none
 | _=>.bool false
theorem info_disk:(Tryz.prog.info? 104).map (fun i=>(i.zero,i.size,i.bytes))=some (some (.agg #[.slice none 0 0,.slice none 0 0,.map none,.bool false]),4,64):=by kernel_rfl
theorem info_u8:(Tryz.prog.info? 5).map (fun i=>(i.zero,i.size,i.bytes))=some (some (.int .u8 0),1,1):=by kernel_rfl
theorem noughts_sec:Sec noughts:=⟨by simp [noughts],fun x hx=>by rw [List.eq_of_mem_replicate hx];decide⟩
theorem bts_noughts:bts noughts=List.replicate 128 (.int .u8 0):=by simp [bts,noughts]
theorem noughts_reads {w:World} {g:Nat} (h:w.ownsRow 0 5 1 (.slice (some ⟨g,0,none⟩) 128 128) 128 (madeCells (Value.int .u8 0).cells (128*1)).toList):Reads w w.heap.size (some ⟨g,0,none⟩) 128 (bts noughts):=by
 have e:(madeCells (Value.int .u8 0).cells (128*1)).toList=bts noughts:=by
  rw [bts_noughts]
  exact toList_madeCells_one _ _
 rw [e] at h
 exact Reads.of_own h
theorem own_next {w1 w2:World} {o:Obj} {base:Nat} {e:TypeId} {size n c:Nat} {xs:List Value} (h:w2.ownsRow base e size (.slice (some ⟨(w1.alloc o).heap.size,0,none⟩) n c) n xs):w2.ownsRow base e size (.slice (some ⟨w1.heap.size+1,0,none⟩) n c) n xs:=by
 have e:(w1.alloc o).heap.size=w1.heap.size+1:=by simp
 rwa [e] at h
structure NewRel (w wr:World) (p D n d j:Nat) (gs:Nat->Gh):Prop where
 root:wr.heap[p]?=some (.cells #[.bool false,.int .i64 0,.slice (some ⟨D,0,none⟩) d d,.int .i64 (n:Int),.int .i64 0] 92 (0,0))
 row:wr.ownsRow 0 104 4 (.slice (some ⟨D,0,none⟩) d d) d (rowOf (fun i c=>if i<j then diskV (gs i) false c else zeroD c) d 4)
 disk:∀i,i<j->DiskIs wr n (gs i) (newDk n)
 apart:∀a c b,a<j->c<j->a≠c->(gs a).has b->¬(gs c).has b
 low:∀i,i<j->∀b,(gs i).has b->w.heap.size<=b
 bel:Below w.heap.size w wr
def RepIs (wr:World) (s:ByteArray) (n q:Nat) (w':World):Prop :=
 w'.ownsRow 0 9 1 (.slice (some ⟨q,0,none⟩) n n) n (List.replicate n (.string s))/\Below wr.heap.size wr w'/\wr.heap.size<=q/\q<w'.heap.size
theorem rep_in {wr W:World} {s:ByteArray} {b n q:Nat} (h1:1<=n) (hn:n<=4096) (hW:Below wr.heap.size wr W) (hb:b<W.heap.size) (hc:W.cell? ⟨b,0,none⟩=some (.string s)) (hq:W.heap.size=q) :
  Calls Tryz.prog 56 #[.slice (some ⟨b,0,none⟩) 1 1,.int .i64 n] W fun e w'=>e=.returned (.slice (some ⟨q,0,none⟩) n n)/\RepIs wr s n q w'/\∀k,k<q->w'.heap[k]?=W.heap[k]?:=by
 subst hq
 refine (repeat_any W s b n h1 hn hb hc).mono ?_
 rintro e w' ⟨rfl,ho,hb3⟩
 exact ⟨rfl,⟨ho,hW.trans (hb3.mono hW.size),hW.size,(ho.lt _ rfl).2⟩,hb3.block⟩
theorem repA (wr:World) (s:ByteArray) (n:Nat) (h1:1<=n) (hn:n<=4096) :
  Calls Tryz.prog 56 #[.slice (some ⟨wr.heap.size,0,none⟩) 1 1,.int .i64 n] (wr.alloc (.cells #[.string s] 9)).drew fun e w'=>e=.returned (.slice (some ⟨wr.heap.size+1,0,none⟩) n n)/\RepIs wr s n (wr.heap.size+1) w':=by
 refine (rep_in (wr:=wr) (s:=s) (q:=wr.heap.size+1) h1 hn (((Below.refl _ wr).alloc (Nat.le_refl _) _).drew) (by show wr.heap.size<(wr.alloc _).heap.size;simp) ?_ (by show (wr.alloc _).heap.size=_;simp)).mono fun e w' h=>⟨h.1,h.2.1⟩
 exact cell_of_row _ _ 0 _ _ _ (heap_alloc_new wr (.cells #[.string s] 9))
theorem repB (wr:World) (s:ByteArray) (n:Nat) (h1:1<=n) (hn:n<=4096) :
  Calls Tryz.prog 56 #[.slice (some ⟨wr.heap.size,0,none⟩) 1 1,.int .i64 n] ((wr.alloc (.cells #[.string s] 9)).alloc (.map #[] 0)).drew fun e w'=>e=.returned (.slice (some ⟨wr.heap.size+2,0,none⟩) n n)/\RepIs wr s n (wr.heap.size+2) w'/\w'.heap[wr.heap.size+1]?=some (.map #[] 0):=by
 refine (rep_in (wr:=wr) (s:=s) (q:=wr.heap.size+2) h1 hn ((((Below.refl _ wr).alloc (Nat.le_refl _) _).alloc (by simp) _).drew) (by show wr.heap.size<((wr.alloc _).alloc _).heap.size;simp;omega) ?_ (by show ((wr.alloc _).alloc _).heap.size=_;simp)).mono fun e w' h=>⟨h.1,h.2.1,(h.2.2 _ (by omega)).trans (heap_alloc2_new wr _ _)⟩
 exact cell_of_row _ _ 0 _ _ _ (heap_alloc2_old wr (.cells #[.string s] 9) (.map #[] 0))
theorem repC (wr:World) (s:ByteArray) (n:Nat) (h1:1<=n) (hn:n<=4096) :
  Calls Tryz.prog 56 #[.slice (some ⟨wr.heap.size+1,0,none⟩) 1 1,.int .i64 n] ((wr.alloc (.map #[] 0)).alloc (.cells #[.string s] 9)).drew fun e w'=>e=.returned (.slice (some ⟨wr.heap.size+2,0,none⟩) n n)/\RepIs wr s n (wr.heap.size+2) w'/\w'.heap[wr.heap.size]?=some (.map #[] 0):=by
 refine (rep_in (wr:=wr) (s:=s) (q:=wr.heap.size+2) h1 hn ((((Below.refl _ wr).alloc (Nat.le_refl _) _).alloc (by simp) _).drew) (by show wr.heap.size+1<((wr.alloc _).alloc _).heap.size;simp) ?_ (by show ((wr.alloc _).alloc _).heap.size=_;simp)).mono fun e w' h=>⟨h.1,h.2.1,(h.2.2 _ (by omega)).trans (heap_alloc2_old wr _ _)⟩
 exact cell_of_row _ _ 0 _ _ _ (heap_alloc2_new wr (.map #[] 0) (.cells #[.string s] 9))
theorem NewRel.facts {w wr w':World} {p D n d j:Nat} {gs:Nat->Gh} (h:NewRel w wr p D n d j gs) (hb:Below wr.heap.size wr w') (hj:j<d) :
  (w'.cell? ⟨p,2,none⟩=some (.slice (some ⟨D,0,none⟩) d d)/\w'.cell? ⟨D,j*4,none⟩=some (.slice none 0 0)/\w'.cell? ⟨D,j*4+1,none⟩=some (.slice none 0 0)/\w'.cell? ⟨D,j*4+2,none⟩=some (.map none)/\w'.cell? ⟨D,j*4+3,none⟩=some (.bool false)) /\
   ∀i,w'.frozen? ⟨D,i,none⟩=false:=by
 have hD:=(h.row.lt D rfl).2
 have hp:=lt_of_block h.root
 have c:∀c,c<4->w'.cell? ⟨D,j*4+c,none⟩=some (zeroD c):=fun c hc=>by
  rw [hb.cell (p:=⟨D,j*4+c,none⟩) hD,cell_at h.row (rowOf_at _ hj hc),if_neg (Nat.lt_irrefl _)]
 refine ⟨⟨?_,c 0 (by decide),c 1 (by decide),c 2 (by decide),c 3 (by decide)⟩,fun i=>?_⟩
 ·rw [hb.cell (p:=⟨p,2,none⟩) hp];exact cell_of_row _ _ 2 _ _ _ h.root
 ·rw [hb.frozen (p:=⟨D,i,none⟩) hD];exact h.row.frozenAt i
theorem new_round {w wr w4:World} {p D n d j q m:Nat} {gs:Nat->Gh} {s:ByteArray} (h:NewRel w wr p D n d j gs) (hs:s=strL noughts) (hj:j<d) (hw:w.heap.size<=D) (hpD:p≠D) (hb:Below wr.heap.size wr w4)
  (ho:w4.ownsRow 0 9 1 (.slice (some ⟨q,0,none⟩) n n) n (List.replicate n (.string s))) (hm:w4.heap[m]?=some (.map #[] 0)) (hq:wr.heap.size<=q) (hmq:wr.heap.size<=m) :
  NewRel w ((((w4.setCell ⟨D,j*4,none⟩ (.slice (some ⟨q,0,none⟩) n n)).setCell ⟨D,j*4+1,none⟩ (.slice none 0 0)).setCell ⟨D,j*4+2,none⟩ (.map (some m))).setCell ⟨D,j*4+3,none⟩ (.bool false)) p D n d (j+1) (upd gs j ⟨.slice (some ⟨q,0,none⟩) n n,m,.slice none 0 0⟩):=by
 have hD:=(h.row.lt D rfl).2
 have hp:=lt_of_block h.root
 have hk:∀b,b≠D->((((w4.setCell ⟨D,j*4,none⟩ (.slice (some ⟨q,0,none⟩) n n)).setCell ⟨D,j*4+1,none⟩ (.slice none 0 0)).setCell ⟨D,j*4+2,none⟩ (.map (some m))).setCell ⟨D,j*4+3,none⟩ (.bool false)).heap[b]?=w4.heap[b]?:=by
  intro b hb'
  rw [heap_set_other _ _ _ hb',heap_set_other _ _ _ hb',heap_set_other _ _ _ hb',heap_set_other _ _ _ hb']
 have hr0:w4.ownsRow 0 104 4 (.slice (some ⟨D,0,none⟩) d d) d (rowOf (fun i c=>if i<j then diskV (gs i) false c else zeroD c) d 4):=same_row h.row fun b hb'=>by
  injection hb' with hb';subst hb';exact hb.block _ hD
 have hr1:=(((((hr0.stored (j*4+0) (.slice (some ⟨q,0,none⟩) n n)).1.stored (j*4+1) (.slice none 0 0)).1.stored (j*4+2) (.map (some m))).1).stored (j*4+3) (.bool false)).1
 rw [rowOf_set _ (by decide),rowOf_set _ (by decide),rowOf_set _ (by decide),rowOf_set _ (by decide)] at hr1
 have hbel:Below w.heap.size w ((((w4.setCell ⟨D,j*4,none⟩ (.slice (some ⟨q,0,none⟩) n n)).setCell ⟨D,j*4+1,none⟩ (.slice none 0 0)).setCell ⟨D,j*4+2,none⟩ (.map (some m))).setCell ⟨D,j*4+3,none⟩ (.bool false)):=((((h.bel.trans (hb.mono h.bel.size)).setCell hw _).setCell hw _).setCell hw _).setCell hw _
 have hr2:((((w4.setCell ⟨D,j*4,none⟩ (.slice (some ⟨q,0,none⟩) n n)).setCell ⟨D,j*4+1,none⟩ (.slice none 0 0)).setCell ⟨D,j*4+2,none⟩ (.map (some m))).setCell ⟨D,j*4+3,none⟩ (.bool false)).ownsRow 0 104 4 (.slice (some ⟨D,0,none⟩) d d) d _:=hr1
 clear hr1 hr0
 generalize ((((w4.setCell ⟨D,j*4,none⟩ (.slice (some ⟨q,0,none⟩) n n)).setCell ⟨D,j*4+1,none⟩ (.slice none 0 0)).setCell ⟨D,j*4+2,none⟩ (.map (some m))).setCell ⟨D,j*4+3,none⟩ (.bool false))=w5 at *
 have hdk:DiskIs w5 n ⟨.slice (some ⟨q,0,none⟩) n n,m,.slice none 0 0⟩ (newDk n):=by
  refine ⟨by simp [newDk],?_,?_,World.ownsRow_nil _ _ _ _,(fun x hx=>by cases hx),?_⟩
  ·refine same_row (w:=w4) ?_ (fun b hb'=>by injection hb' with hb';subst hb';exact hk _ (by show q≠D;omega))
   have e:(newDk n).sure.map sv=List.replicate n (.string s):=by simp [newDk,sv,hs]
   rw [e];exact ho
  ·intro b hb'
   rw [List.eq_of_mem_replicate hb'];exact noughts_sec
  ·refine MapIs.same (w:=w4) ?_ (hk _ (by show m≠D;omega))
   exact ⟨.map [],⟨#[],0,hm,⟨by simp,MapKept.stamped_empty 0,by simp⟩,Nat.le_refl _,rfl⟩,fun x=>⟨rfl,fun j h=>by cases h⟩⟩
 refine ⟨?_,?_,?_,?_,?_,?_⟩
 ·exact (hk p hpD).trans ((hb.block p hp).trans h.root)
 ·refine Eq.mp ?_ hr2
  congr 1
  refine rowOf_congr (by decide) fun a c _ hc=>?_
  by_cases ea:a=j
  ·subst ea
   match c,hc with
   | 0,_=>simp [diskV,upd]
   | 1,_=>simp [diskV,upd]
   | 2,_=>simp [diskV,upd]
   | 3,_=>simp [diskV]
  ·by_cases hlt:a<j
   ·simp [ea,hlt,upd,show a<j+1 by omega]
   ·simp [ea,hlt,show ¬a<j+1 by omega]
 ·intro i hi
  by_cases e:i=j
  ·subst e
   rw [upd,if_pos rfl];exact hdk
  ·rw [upd,if_neg e]
   have hii:i<j:=by omega
   have hdi:=h.disk i hii
   refine hdi.same fun b hb'=>?_
   have hbl:=hdi.lt hb'
   refine (hk b ?_).trans (hb.block b hbl)
   rintro rfl
   obtain ⟨cur,hcur⟩:=row_type h.row rfl
   rcases hdi.kinds hb' hcur with e | e<;>exact absurd e (by decide)
 ·intro a c b ha hc hne hab hcb
  unfold upd at hab hcb
  have hnew:∀b,Gh.has ⟨.slice (some ⟨q,0,none⟩) n n,m,.slice none 0 0⟩ b->wr.heap.size<=b:=by
   rintro b (e | e | e)
   ·injection e with e;subst e;exact hq
   ·subst e;exact hmq
   ·cases e
  by_cases ea:a=j
  ·rw [if_pos ea] at hab
   rw [if_neg (by omega)] at hcb
   have:=hnew b hab
   have:=(h.disk c (by omega)).lt hcb
   omega
  ·rw [if_neg ea] at hab
   by_cases ec:c=j
   ·rw [if_pos ec] at hcb
    have:=hnew b hcb
    have:=(h.disk a (by omega)).lt hab
    omega
   ·rw [if_neg ec] at hcb
    exact h.apart a c b (by omega) (by omega) hne hab hcb
 ·intro i hi b hb'
  have hsz:=h.bel.size
  by_cases e:i=j
  ·rw [upd,if_pos e] at hb'
   rcases hb' with e | e | e
   ·injection e with e;subst e;exact Nat.le_trans hsz hq
   ·subst e;exact Nat.le_trans hsz hmq
   ·cases e
  ·rw [upd,if_neg e] at hb'
   exact h.low i (by omega) b hb'
 ·exact hbel
theorem zero_row (d:Nat):(madeCells (Value.agg #[.slice none 0 0,.slice none 0 0,.map none,.bool false]).cells (d*4)).toList=rowOf (fun i c=>if i<0 then diskV ((default:Nat->Gh) i) false c else zeroD c) d 4:=by
 apply List.ext_getElem?
 intro i
 by_cases h:i<d*4
 ·have h4:i%4=0\/i%4=1\/i%4=2\/i%4=3:=by omega
  rcases h4 with e | e | e | e<;>simp [madeCells,rowOf,Value.cells,h,e,zeroD]
 ·simp [madeCells,rowOf,h]
theorem new_start {w w1 w2:World} {d n:Nat} {o:Obj} (hown1:w1.ownsRow 0 104 4 (.slice (some ⟨w.heap.size,0,none⟩) d d) d (madeCells (Value.agg #[.slice none 0 0,.slice none 0 0,.map none,.bool false]).cells (d*4)).toList) (hgrow1:w.grownBy w1 none) (hgrow2:(w1.alloc o).grownBy w2 none)
  (hp2:w2.heap[w1.heap.size]?=some (.cells #[.bool false,.int .i64 0,.slice (some ⟨w.heap.size,0,none⟩) d d,.int .i64 (n:Int),.int .i64 0] 92 (0,0))):NewRel w w2 w1.heap.size w.heap.size n d 0 default:=by
 have hz:(madeCells (Value.agg #[.slice none 0 0,.slice none 0 0,.map none,.bool false]).cells (d*4)).toList=rowOf (fun i c=>if i<0 then diskV ((default:Nat->Gh) i) false c else zeroD c) d 4:=by
  exact zero_row d
 rw [hz] at hown1
 refine ⟨hp2,(hown1.alloc o).kept hgrow2 (.inr (by simp [Value.ownBlock])),fun i h=>absurd h (by omega),fun a c b h=>absurd h (by omega),fun i h=>absurd h (by omega),?_⟩
 exact (((Below.refl _ w).grown hgrow1 (Nat.le_refl _) (fun _ h=>by cases h)).alloc hgrow1.size o).grown hgrow2 (by simp;have:=hgrow1.size;omega) (fun _ h=>by cases h)
theorem new_shelf {w wr:World} {p D n d:Nat} {gs:Nat->Gh} (h:NewRel w wr p D n d d gs) (hd1:1<=d) (hd:d<=17) (hn1:1<=n) (hn:n<=4096) (hpD:p≠D) :
  Shelf wr p (newSf d n) (fun b=>b=p\/b=D\/∃i,i<d/\(gs i).has b):=by
 have hl:(newSf d n).disks.length=d:=by simp [newSf]
 refine ⟨D,gs,?_⟩
 refine ⟨by rw [hl];exact hd1,by rw [hl];exact hd,hn1,hn,by simp [newSf],?_,?_,?_,?_,?_,?_⟩
 ·rw [hl];exact h.root
 ·rw [hl]
  refine Eq.mp ?_ h.row
  congr 1
  refine rowOf_congr (by decide) fun a c ha _=>?_
  rw [if_pos ha]
  have e:((newSf d n).disks.getD a default).dead=false:=by simp [newSf,List.getD,ha,newDk]
  rw [e]
 ·intro i k hk
  have hi:i<d:=by rw [<- hl];exact (List.getElem?_eq_some_iff.1 hk).1
  have e:k=newDk n:=by simp [newSf,hi] at hk;exact hk.symm
  subst e
  exact h.disk i hi
 ·intro i j b hi hj hne
  rw [hl] at hi hj
  exact h.apart i j b hi hj hne
 ·exact ⟨.inl rfl,.inr (.inl rfl),fun i b hi hb=>.inr (.inr ⟨i,by rw [<- hl];exact hi,hb⟩)⟩
 ·rintro b (rfl | rfl | ⟨i,hi,hb⟩)
  ·exact lt_of_block h.root
  ·exact (h.row.lt _ rfl).2
  ·exact (h.disk i hi).lt hb
set_option maxRecDepth 20000 in
set_option maxHeartbeats 1600000 in
theorem new_ok (d n:Nat) (w:World) (hd1:1<=d) (hd:d<=17) (hn1:1<=n) (hn:n<=4096) :
  Calls Tryz.prog 23 #[.int .i64 d,.int .i64 n] w fun e w'=>∃p F,e=.returned (.tuple #[.pointer (some ⟨p,0,none⟩),.int .i64 0])/\Shelf w' p (newSf d n) F/\(∀b,F b->w.heap.size<=b)/\Below w.heap.size w w':=by
 obtain ⟨i0,hi,hz0,hz1,hz2⟩:=info_parts info_disk
 obtain ⟨i1,ki,kz0,kz1,kz2⟩:=info_parts info_u8
 have hq0:decide ((d:Int)<1)=false:=by simp;omega
 have hq1:decide (17<(d:Int))=false:=by simp;omega
 have hq2:decide ((n:Int)<1)=false:=by simp;omega
 have hq3:decide (4096<(n:Int))=false:=by simp;omega
 go_enter Tryz.func23,Tryz.ntmps23
 go_wp2_with (first
  | (at_make;refine wpList_make_full _ rfl _ _ 90 rfl 0 104 i0 _ 4 Tryz.underlying90 hi hz0 hz1 _ _ _ _ d rfl rfl rfl rfl (by rw [hz2];omega) (by unfold maxLen;omega) (Nat.zero_le _) ?_;intro w1 hown1 hgrow1)
  | (at_make;refine wpList_make_full _ rfl _ _ 41 rfl 0 5 i1 _ 1 Tryz.underlying41 ki kz0 kz1 _ _ _ _ 128 rfl rfl rfl rfl (by rw [kz2];omega) (by unfold maxLen;omega) (Nat.zero_le _) ?_;intro w2 hown2 hgrow2;have hstr:=run_str 128 (noughts_reads (own_next hown2));have hp2:w2.heap[w1.heap.size]?=some (.cells #[.bool false,.int .i64 0,.slice (some ⟨w.heap.size,0,none⟩) d d,.int .i64 (n:Int),.int .i64 0] 92 (0,0)):=(hgrow2.block w1.heap.size (by simp) (by simp)).trans (heap_alloc_new _ _);have c2:=cell_of_row _ _ 2 _ _ _ hp2))
 have hrel0:Hid (∃gs,NewRel w w2 w1.heap.size w.heap.size n d 0 gs):=hid ⟨default,new_start hown1 hgrow1 hgrow2 hp2⟩
 have hpD:w1.heap.size≠w.heap.size:=by have:=(hown1.lt w.heap.size rfl).2;omega
 have HP:Hid (w.heap.size<=w1.heap.size):=hid hgrow1.size
 clear hown1 hgrow1 hown2 hgrow2 hstr hp2 c2
 generalize hss:strL noughts=s at *
 have HS:=hid hss
 clear hss
 generalize w1.heap.size=p at *
 generalize hDD:w.heap.size=D at *
 have HDD:=hid hDD
 clear hDD
 go_loopw [35] (fun i wr=>∃j:Nat,j<=d/\i=.int .i64 j/\Hid (∃gs,NewRel w wr p D n d j gs)) (fun i _=>d-(intOf i).toNat)
 case atStart=>exact ⟨0,Nat.zero_le _,rfl,hrel0⟩
 case round =>
  obtain ⟨j,hj,rfl,hrel⟩:=hrel
  obtain ⟨gs,hN⟩:=hrel.out
  have c2:=cell_of_row _ _ 2 _ _ _ hN.root
  have HN:=hid hN
  clear hN hrel
  by_cases hlt:j<d
  ·go_wp2
   have hmm:=@run_makeMap Tryz.prog
   have hplt:=lt_of_block HN.out.root
   go_region_with (first
    | (go_at_call 56;(with_reducible refine (repA wr s n hn1 hn).mono ?_);rintro e w' ⟨rfl,hr⟩;obtain ⟨⟨x,a0,a1,a2,a3⟩,ff⟩:=HN.out.facts hr.2.1 hlt;have f0:=ff (j*4);have f1:=ff (j*4+1);have f2:=ff (j*4+2);have f3:=ff (j*4+3);clear ff;obtain ⟨⟨xb,a0b,a1b,a2b,a3b⟩,ffb⟩:=HN.out.facts (hr.2.1.alloc (Nat.le_of_lt (Nat.lt_of_le_of_lt hr.2.2.1 hr.2.2.2)) (.map #[] 0)) hlt;have f0b:=ffb (j*4);have f1b:=ffb (j*4+1);have f2b:=ffb (j*4+2);have f3b:=ffb (j*4+3);clear ffb)
    | (go_at_call 56;(with_reducible refine (repB wr s n hn1 hn).mono ?_);rintro e w' ⟨rfl,hr,hmp⟩;obtain ⟨⟨x,a0,a1,a2,a3⟩,ff⟩:=HN.out.facts hr.2.1 hlt;have f0:=ff (j*4);have f1:=ff (j*4+1);have f2:=ff (j*4+2);have f3:=ff (j*4+3);clear ff)
    | (go_at_call 56;(with_reducible refine (repC wr s n hn1 hn).mono ?_);rintro e w' ⟨rfl,hr,hmp⟩;obtain ⟨⟨x,a0,a1,a2,a3⟩,ff⟩:=HN.out.facts hr.2.1 hlt;have f0:=ff (j*4);have f1:=ff (j*4+1);have f2:=ff (j*4+2);have f3:=ff (j*4+3);clear ff))
   all_goals
    go_wp2
    go_roundw
    case rel =>
     first
      | exact ⟨j+1,by omega,by go_num,hid ⟨_,new_round HN.out HS.out.symm hlt (by have:=HDD.out;omega) hpD hr.2.1 hr.1 hmp hr.2.2.1 (by omega)⟩⟩
      | exact ⟨j+1,by omega,by go_num,hid ⟨_,new_round HN.out HS.out.symm hlt (by have:=HDD.out;omega) hpD (hr.2.1.alloc (Nat.le_of_lt (Nat.lt_of_le_of_lt hr.2.2.1 hr.2.2.2)) _) (hr.1.alloc _) (heap_alloc_new _ _) hr.2.2.1 (Nat.le_of_lt (Nat.lt_of_le_of_lt hr.2.2.1 hr.2.2.2))⟩⟩
    case measure=>simp [intOf];omega
  ·obtain rfl:j=d:=by omega
   go_wp2
   go_ret2
   refine ⟨_,_,rfl,new_shelf HN.out hd1 hd hn1 hn hpD,?_,by first | exact HN.out.bel | (rw [<- HDD.out];exact HN.out.bel)⟩
   rintro b (rfl | rfl | ⟨i,hi,hb⟩)
   ·have:=HP.out;have:=HDD.out;omega
   ·have:=HDD.out;omega
   ·have:=HN.out.low i hi b hb;have:=HDD.out;omega
def secOf (b:Nat):Bs:=(noughts.set 0 b).set 127 (b ^^^ 85)
theorem secOf_len (b:Nat):(secOf b).length=128:=by simp [secOf,noughts]
theorem secOf_sec {b:Nat} (h:b<256):Sec (secOf b):=by
 refine ⟨secOf_len b,fun x hx=>?_⟩
 rcases List.mem_or_eq_of_mem_set hx with hx | rfl
 ·rcases List.mem_or_eq_of_mem_set hx with hx | rfl
  ·rw [List.eq_of_mem_replicate hx];decide
  ·exact h
 ·exact Nat.xor_lt_two_pow (n:=8) h (by decide)
theorem bts_set (l:List Nat) (i x:Nat):bts (l.set i x)=(bts l).set i (.int .u8 (x:Int)):=by simp [bts,List.map_set]
theorem noughts_own {w:World} {base g:Nat} (h:w.ownsRow base 5 1 (.slice (some ⟨g,0,none⟩) 128 128) 128 (madeCells (Value.int .u8 0).cells (128*1)).toList):w.ownsRow base 5 1 (.slice (some ⟨g,0,none⟩) 128 128) 128 (bts noughts):=by
 have e:(madeCells (Value.int .u8 0).cells (128*1)).toList=bts noughts:=by
  rw [bts_noughts]
  exact toList_madeCells_one _ _
 rw [e] at h
 exact h
set_option maxRecDepth 20000 in
theorem sector_any (w:World) (b:Nat) (hb:b<256) :
  Calls Tryz.prog 18 #[.int .u8 b] w fun e w'=>e=.returned (.slice (some ⟨w.heap.size,0,none⟩) 128 128) /\
   w'.ownsRow w.heap.size 5 1 (.slice (some ⟨w.heap.size,0,none⟩) 128 128) 128 (bts (secOf b))/\Below w.heap.size w w':=by
 obtain ⟨i1,ki,kz0,kz1,kz2⟩:=info_parts info_u8
 have hxor:bits .xor .u8 (b:Int) 85=((b ^^^ 85:Nat):Int):=u8_xor_nat b 85 hb (by decide)
 go_enter Tryz.func18,Tryz.ntmps18
 go_wp2_with (at_make;refine wpList_make_full _ rfl _ _ 41 rfl w.heap.size 5 i1 _ 1 Tryz.underlying41 ki kz0 kz1 _ _ _ _ 128 rfl rfl rfl rfl (by rw [kz2];omega) (by unfold maxLen;omega) (Nat.le_refl _) ?_;intro w2 hown2 hgrow2;have ho:=noughts_own hown2;have k0:=cell_at ho (j:=0) (u:=.int .u8 0) rfl;have k1:=cell_at ho (j:=127) (u:=.int .u8 0) rfl;have f0:=ho.frozenAt 0;have f1:=ho.frozenAt 127)
 go_ret
 have h2:=(ho.stored 0 (.int .u8 (b:Int))).1.stored 127 (.int .u8 ((b ^^^ 85:Nat):Int))
 refine ⟨rfl,?_,?_⟩
 ·unfold secOf
  rw [bts_set,bts_set]
  exact h2.1
 ·exact (((Below.refl _ w).grown hgrow2 (Nat.le_refl _) (fun _ h=>by cases h)).setCell (Nat.le_refl _) _).setCell (Nat.le_refl _) _
structure At (B:Nat) (W w:World) (p:Nat) (S:Sf) (F:Nat->Prop):Prop where
 shelf:Shelf w p S F
 low:∀b,F b->B<=b
 bel:Below B W w
 size:B<=w.heap.size
def Beside (w:World) (F:Nat->Prop) (A:Option Addr) (l:Bs):Prop:=Reads w w.heap.size A 128 (bts l)/\∀a,A=some a->¬F a.block
section
variable {B:Nat} {W w w':World} {p:Nat} {S S':Sf} {F F':Nat->Prop}
theorem At.left (h:At B W w p S F) (hl:Left F w p S' w'):∃F',At B W w' p S' F'/\Moves F w F' w':=by
 obtain ⟨F',hs,hm⟩:=hl
 exact ⟨F',⟨hs,fun b hb=>(hm.2 b hb).elim (h.low b) (fun e=>Nat.le_trans h.size e),h.bel.trans (hm.1.below h.low h.size),Nat.le_trans h.size hm.1.size⟩,hm⟩
theorem At.grown (h:At B W w p S F) (hb:Below w.heap.size w w'):At B W w' p S F :=
 ⟨h.shelf.only (G:=fun _=>False) ⟨hb.os,hb.tape,hb.output,hb.size,fun k hk _=>hb.block k hk⟩ (fun _ _ e=>e),h.low,h.bel.trans (hb.mono h.size),Nat.le_trans h.size hb.size⟩
theorem At.stays (h:At B W w p S F) (hs:Shelf w' p S' F) (ho:Only F w w'):At B W w' p S' F :=
 ⟨hs,h.low,h.bel.trans (ho.below h.low h.size),Nat.le_trans h.size ho.size⟩
theorem Beside.moves {A:Option Addr} {l:Bs} (h:Beside w F A l) (hm:Moves F w F' w'):Beside w' F' A l:=by
 refine ⟨⟨h.1.1,fun h0=>?_⟩,fun a ha hF=>?_⟩
 ·obtain ⟨ad,e,hlt,hc⟩:=h.1.2 h0
  refine ⟨ad,e,Nat.lt_of_lt_of_le hlt hm.1.size,fun j u hu=>?_⟩
  rw [hm.1.cell (p:=ad.add j) (by rw [block_of_add];exact hlt) (by rw [block_of_add];exact h.2 ad e)]
  exact hc j u hu
 ·rcases hm.2 _ hF with e | e
  ·exact h.2 a ha e
  ·obtain ⟨ad,e2,hlt,_⟩:=h.1.2 (by decide)
   rw [ha] at e2
   injection e2 with e2
   subst e2
   omega
theorem Beside.grown {A:Option Addr} {l:Bs} (h:Beside w F A l) (hb:Below w.heap.size w w'):Beside w' F A l :=
 ⟨(h.1.below hb).more hb.size,h.2⟩
theorem Beside.str {A:Option Addr} {l:Bs} (h:Beside w F A l) (c:Nat):(convert 41 9 (.slice A 128 c)).run Tryz.prog w=.ok (.string (strL l)) w:=run_str c h.1
end
def Old (W:World) (b:Nat):Prop:=b<W.heap.size
theorem wpAnyH_mono {P:Program} {md:Region.Mode} {ops:Array Oper} {Q:Exit->Act->World->Prop} {S S':World->Prop} (hS:∀w,S' w->S w):∀(fuel:Nat) (listed:Array Bool) (a:Act) (w:World),wpAnyH P md ops Q S' fuel listed a w->wpAnyH P md ops Q S fuel listed a w
 | 0,_,_,_,h=>h
 | fuel+1,_,_,_,h=>⟨h.1,fun i hi=>wpOp_mono (fun a' w' h'=>⟨hS _ h'.1,wpAnyH_mono hS fuel _ a' w' h'.2⟩) (h.2 i hi)⟩
theorem below_on {w w1 w2:World} (h:Below w.heap.size w w1) (k:Below w1.heap.size w1 w2):Below w.heap.size w w2:=h.trans (k.mono h.size)
theorem conv_grown {w:World} {F:Nat->Prop} {A:Option Addr} {c:Nat} {l:Bs} {s:ByteArray} (h:Beside w F A l) (hs:strL l=s) (W:World) (hb:Below w.heap.size w W):(convert 41 9 (.slice A 128 c)).run Tryz.prog W=.ok (.string s) W:=by
 rw [<- hs]
 exact (h.grown hb).str c
theorem conv_own {w:World} {B q:Nat} {l:Bs} {s:ByteArray} (h:w.ownsRow B 5 1 (.slice (some ⟨q,0,none⟩) 128 128) 128 (bts l)) (hs:strL l=s) (W:World) (hb:Below w.heap.size w W):(convert 41 9 (.slice (some ⟨q,0,none⟩) 128 128)).run Tryz.prog W=.ok (.string s) W:=by
 rw [<- hs]
 exact run_str 128 (((Reads.of_own h).below hb).more hb.size)
def Wrote (S:Sf) (d n:Int) (b:Bs) (y:Int) (S':Sf):Prop :=
 (S'=S/\y≠0/\(y=1\/S.off=true\/∃d':Nat,d=d'/\d'<S.disks.length/\(S.disks.getD d' default).dead=true))\/∃d' n':Nat,d=d'/\n=n'/\d'<S.disks.length/\n'<S.sectors/\why S d'=0/\y=0/\S'=S.doWrite d' n' b
theorem getD_mem {l:List Dk} {d:Nat} (h:d<l.length):l.getD d default∈l:=by simp [List.getD,h]
section
variable {w:World} {p:Nat} {S:Sf} {F:Nat->Prop}
theorem left_here (h:Shelf w p S F):Left F w p S w:=⟨F,h,Moves.refl _ _⟩
end
def turnB (b:Bs) (i x:Nat):Bs:=b.set i (b.getD i 0 ^^^ x)
def Dk.turn (k:Dk) (n i x:Nat):Dk:={ k with sure:=k.sure.set n (turnB (k.sure.getD n []) i x) }
def Sf.doCorrupt (S:Sf) (d n i x:Nat):Sf:={ S with disks:=S.disks.set d ((S.disks.getD d default).turn n i x) }
theorem turnB_sec {b:Bs} (h:Sec b) {i x:Nat} (hx:x<256):Sec (turnB b i x):=by
 refine ⟨by unfold turnB;rw [List.length_set];exact h.1,fun y hy=>?_⟩
 rcases List.mem_or_eq_of_mem_set hy with hy | rfl
 ·exact h.2 y hy
 ·exact Nat.xor_lt_two_pow (n:=8) (h.2.get i) hx
set_option maxRecDepth 20000 in
theorem corrupt_waits (w:World) (p d n i:Nat) (x:Nat) {S:Sf} {F:Nat->Prop} (h:Shelf w p S F) (hd:d<S.disks.length) (hn:n<S.sectors) (hi:i<128) (hw:(lastOf (S.disks.getD d default).waits n).isSome=true) :
  Calls Tryz.prog 67 #[.pointer (some ⟨p,0,none⟩),.int .i64 d,.int .i64 n,.int .i64 i,.int .u8 x] w fun e w'=>e=.returned (.int .i64 9)/\w=w':=by
 obtain ⟨D,gs,h⟩:=h
 have hc:=hid (hasSector_yes h d n hd hn)
 have c2:=h.c2
 have hm:=h.most
 have hsM:=h.secM
 have m2:w.cell? ⟨D,d*4+2,none⟩=some (.map (some (gs d).m)):=h.dc hd (by decide)
 obtain ⟨Dm,hown,hf⟩:=(h.diskOf hd).map
 have hh:Maps.has Dm (.int .i64 (n:Int))=true:=by rw [(hf n).1];exact hw
 have hkey:=keyInt n (by omega)
 have t0:decide ((i:Int)<0)=false:=by simp
 have t1:decide ((i:Int)≥128)=false:=by simp;omega
 clear h hf hw
 generalize (S.disks.getD d default).waits.length=L at *
 generalize S.disks.length=k at *
 go_enter Tryz.func67,Tryz.ntmps67
 go_wp2_with (first
  | (go_at_call 101;refine hc.out.mono ?_;rintro e w' ⟨rfl,rfl⟩)
  | (at_lookup;refine wpList_lookup_own_ok_int _ rfl _ _ 102 rfl 3 3 .i64 lawInt Tryz.underlying102 Tryz.underlying3 (zeroInt _) (gs d).m L Dm rfl hown _ _ rfl hkey ?_;intro c hat hwc;clear hat hwc)
  | go_in)
 go_ret
 exact ⟨rfl,rfl⟩
theorem getD_memB {l:List Bs} {n:Nat} (h:n<l.length):l.getD n []∈l:=by
 rw [List.getD,List.getElem?_eq_getElem h];exact List.getElem_mem h
theorem sv_at {l:List Bs} {n:Nat} (h:n<l.length):(l.map sv)[n]?=some (sv (l.getD n [])):=by
 rw [List.getElem?_map,List.getD,List.getElem?_eq_getElem h];rfl
theorem map_set_sv (l:List Bs) (n:Nat) (b:Bs):(l.map sv).set n (sv b)=(l.set n b).map sv:=by rw [List.map_set]
theorem corrupted {w w2:World} {p D:Nat} {S:Sf} {F:Nat->Prop} {gs:Nat->Gh} (h:ShelfIs w p S F D gs) {d n i x gb cap:Nat} (hd:d<S.disks.length) (hn:n<S.sectors) (hx:x<256) (hv:(gs d).s=.slice (some ⟨gb,0,none⟩) S.sectors cap)
  (hO:Only (fun _=>False) w w2):Left F w p (S.doCorrupt d n i x) (w2.setCell ⟨gb,n,none⟩ (sv (turnB ((S.disks.getD d default).sure.getD n []) i x))):=by
 have hdk:=h.diskOf hd
 have hgbhas:(gs d).has gb:=.inl (by rw [hv];rfl)
 have hgbF:F gb:=h.inF.2.2 d gb hd hgbhas
 have hgbp:gb≠p:=by rintro rfl;exact h.np hd hgbhas
 have hgbD:gb≠D:=by rintro rfl;exact h.nD hd hgbhas
 have hk2:∀b,F b->w2.heap[b]?=w.heap[b]?:=fun b hb=>hO.block b (h.ltF b hb) (fun e=>e)
 have hdk2:DiskIs w2 S.sectors (gs d) (S.disks.getD d default):=hdk.same fun b hb=>hk2 b (h.inF.2.2 d b hd hb)
 have hsec:Sec ((S.disks.getD d default).sure.getD n []):=hdk.secs _ (getD_memB (by rw [hdk.len];exact hn))
 have hO2:Only F w (w2.setCell ⟨gb,n,none⟩ (sv (turnB ((S.disks.getD d default).sure.getD n []) i x))):=(hO.mono (fun _ e=>e.elim)).setCell (.inl hgbF) _
 have hs0:w2.ownsRow 0 9 1 (.slice (some ⟨gb,0,none⟩) S.sectors cap) S.sectors ((S.disks.getD d default).sure.map sv):=by rw [<- hv];exact hdk2.sure
 have hst:=(hs0.stored n (sv (turnB ((S.disks.getD d default).sure.getD n []) i x))).1
 rw [map_set_sv] at hst
 have ht:=h.turned (w':=w2.setCell ⟨gb,n,none⟩ (sv (turnB ((S.disks.getD d default).sure.getD n []) i x))) hd (gs d) ((S.disks.getD d default).turn n i x) S.off S.left S.count h.left ?_ ?_ ?_ ?_ hO2.size (fun b hb=>.inl hb)
 ·refine ⟨_,⟨D,_,ht⟩,hO2,?_⟩
  rintro b (hb | hb)
  ·exact .inl hb
  ·exact .inl (h.inF.2.2 d b hd hb)
 ·exact (heap_set_other _ _ _ (Ne.symm hgbp)).trans ((hk2 p h.inF.1).trans h.root)
 ·refine same_row (w:=w) ?_ fun b hb=>by
   injection hb with hb
   subst hb
   exact (heap_set_other _ _ _ (Ne.symm hgbD)).trans (hk2 _ h.inF.2.1)
  refine Eq.mp ?_ h.row
  congr 1
  refine rowOf_congr (by decide) fun a c _ hc=>?_
  by_cases ea:a=d
  ·subst ea;rw [if_pos rfl];rfl
  ·rw [if_neg ea]
 ·refine ⟨by show ((S.disks.getD d default).sure.set n _).length=S.sectors;rw [List.length_set];exact hdk.len,by rw [hv];exact hst,?_,?_,hdk.fits,?_⟩
  ·intro b hb
   rcases List.mem_or_eq_of_mem_set hb with hb | rfl
   ·exact hdk.secs b hb
   ·exact turnB_sec hsec hx
  ·refine same_row hdk2.waits fun b hb=>heap_set_other _ _ _ (fun e=>?_)
   exact row_ne_row hdk2.sure hdk2.waits (by decide) (b:=gb) (by rw [hv];rfl) (by rw [hb,e])
  ·refine hdk2.map.same (heap_set_other _ _ _ (fun e=>?_))
   exact row_ne_map hdk2.sure hdk2.map (by rw [hv,e];rfl)
 ·intro b hb hbp hbD hbg
  have hne:b≠gb:=by rintro rfl;exact hbg hgbhas
  exact (heap_set_other _ _ _ hne).trans (hk2 b hb)
set_option maxRecDepth 20000 in
set_option maxHeartbeats 2000000 in
theorem corrupt_done (w:World) (p d n i:Nat) (x:Nat) (hx:x<256) {S:Sf} {F:Nat->Prop} (h:Shelf w p S F) (hd:d<S.disks.length) (hn:n<S.sectors) (hi:i<128) (hw:lastOf (S.disks.getD d default).waits n=none) :
  Calls Tryz.prog 67 #[.pointer (some ⟨p,0,none⟩),.int .i64 d,.int .i64 n,.int .i64 i,.int .u8 x] w fun e w'=>e=.returned (.int .i64 0)/\Left F w p (S.doCorrupt d n i x) w':=by
 obtain ⟨D,gs,h⟩:=h
 have hc:=hid (hasSector_yes h d n hd hn)
 have c2:=h.c2
 have hm:=h.most
 have hsM:=h.secM
 have hdk:=h.diskOf hd
 have m2:w.cell? ⟨D,d*4+2,none⟩=some (.map (some (gs d).m)):=h.dc hd (by decide)
 have m0:w.cell? ⟨D,d*4,none⟩=some (gs d).s:=h.dc (c:=0) hd (by decide)
 obtain ⟨Dm,hown,hf⟩:=hdk.map
 have hh:Maps.has Dm (.int .i64 (n:Int))=false:=by rw [(hf n).1,hw];rfl
 have hkey:=keyInt n (by omega)
 obtain ⟨gb,cap,hv,hgb,hlc,hcm⟩:=own_form hdk.sure (by omega)
 have hr:=hdk.sure
 rw [hv] at hr m0
 have hcell:=cell_at hr (j:=n) (u:=sv ((S.disks.getD d default).sure.getD n [])) (sv_at (by rw [hdk.len];exact hn))
 have hfz:=hr.frozenAt n
 have hsec:Sec ((S.disks.getD d default).sure.getD n []):=hdk.secs _ (getD_memB (by rw [hdk.len];exact hn))
 have t0:decide ((i:Int)<0)=false:=by simp
 have t1:decide ((i:Int)≥128)=false:=by simp;omega
 have t2:(i:Int)<128:=by omega
 have hDlt:=h.Dlt
 have hD1:D≠gb:=by rintro rfl;exact h.nD hd (.inl (by rw [hv];rfl))
 have HEND:=hid (fun w2 (hO:Only (fun _=>False) w w2)=>corrupted (i:=i) h hd hn hx hv hO)
 have kb:=bytes_of w ((S.disks.getD d default).sure.getD n []) hsec.1
 have hby:=bytes_new w ((S.disks.getD d default).sure.getD n []) hsec (grownCap w 128 0 5)
 have hO1:Only (fun _=>False) w (w.drew.alloc (.cells (bytesRow (strL ((S.disks.getD d default).sure.getD n [])) (grownCap w 128 0 5)) 5 ((bytesRow (strL ((S.disks.getD d default).sure.getD n [])) (grownCap w 128 0 5)).size,(bytesRow (strL ((S.disks.getD d default).sure.getD n [])) (grownCap w 128 0 5)).size+1))):=((Only.refl _ w).drew).alloc _
 unfold turnB at HEND
 have hy:=hsec.2.get i
 have hxor:bits .xor .u8 (((((S.disks.getD d default).sure.getD n []).getD i 0:Nat)):Int) (x:Int)=((((S.disks.getD d default).sure.getD n []).getD i 0 ^^^ x:Nat):Int):=u8_xor_nat _ x hy hx
 have hl128:=hsec.1
 clear h hdk hf hw hv hr hsec
 unfold sv at hcell
 generalize (S.disks.getD d default).waits.length=L at *
 generalize (S.disks.getD d default).sure.getD n []=b at *
 generalize S.disks.length=k at *
 generalize S.sectors=sec at *
 generalize hW1:w.drew.alloc (.cells (bytesRow (strL b) (grownCap w 128 0 5)) 5 ((bytesRow (strL b) (grownCap w 128 0 5)).size,(bytesRow (strL b) (grownCap w 128 0 5)).size+1))=W1 at *
 have hsz1:w.heap.size<W1.heap.size:=by rw [<- hW1];simp
 clear hW1
 obtain ⟨hrd,hfr⟩:=hby
 have e:∀j,(⟨w.heap.size,0,none⟩:Addr).add j=⟨w.heap.size,j,none⟩:=fun j=>by unfold Addr.add;split<;>simp_all
 have f1:W1.frozen? ⟨w.heap.size,i,none⟩=false:=by have:=(hfr _ rfl).2 i hi;rwa [e] at this
 obtain ⟨ad,had,hadl,hcells⟩:=hrd.2 (by decide)
 injection had with had
 subst had
 have kk1:W1.cell? ⟨w.heap.size,i,none⟩=some (.int .u8 ((b.getD i 0:Nat):Int)):=by
  have:=hcells i _ (bts_get b i (by omega))
  rwa [e] at this
 have a0:W1.cell? ⟨D,d*4,none⟩=_:=(hO1.cell (p:=⟨D,d*4,none⟩) hDlt (fun e=>e)).trans m0
 have an:W1.cell? ⟨gb,n,none⟩=_:=(hO1.cell (p:=⟨gb,n,none⟩) hgb (fun e=>e)).trans hcell
 have af:W1.frozen? ⟨gb,n,none⟩=_:=(hO1.frozen (p:=⟨gb,n,none⟩) hgb (fun e=>e)).trans hfz
 have hO2:Only (fun _=>False) w (W1.setCell ⟨w.heap.size,i,none⟩ (.int .u8 ((b.getD i 0 ^^^ x:Nat):Int))):=hO1.setCell (p:=⟨w.heap.size,i,none⟩) (.inr (Nat.le_refl _)) _
 have hrd2:Reads (W1.setCell ⟨w.heap.size,i,none⟩ (.int .u8 ((b.getD i 0 ^^^ x:Nat):Int))) (w.heap.size+1) (some ⟨w.heap.size,0,none⟩) 128 (bts (b.set i (b.getD i 0 ^^^ x))):=by
  refine ⟨by rw [bts_length,List.length_set,hl128],fun _=>⟨_,rfl,Nat.lt_succ_self _,fun j u hu=>?_⟩⟩
  rw [e]
  rw [bts_set] at hu
  by_cases hji:j=i
  ·subst hji
   rw [List.getElem?_set_self (by rw [bts_length];omega)] at hu
   rw [World.cell?_setCell_same' W1 ⟨w.heap.size,j,none⟩ _ (by rw [kk1];rfl)]
   exact hu
  ·rw [List.getElem?_set_ne (Ne.symm hji)] at hu
   rw [World.cell?_setCell_other W1 ⟨w.heap.size,i,none⟩ ⟨w.heap.size,j,none⟩ _ (by intro e2;apply hji;injection e2 with _ e3 _;first | exact e3 | exact e3.symm)]
   have:=hcells j u hu
   rwa [e] at this
 have hconv:=run_str (grownCap w 128 0 5) (w:=(W1.setCell ⟨w.heap.size,i,none⟩ (.int .u8 ((b.getD i 0 ^^^ x:Nat):Int))).drew) (show Reads (W1.setCell ⟨w.heap.size,i,none⟩ (.int .u8 ((b.getD i 0 ^^^ x:Nat):Int))).drew _ _ _ _ from hrd2)
 have a0':=(cell_set_other W1 ⟨w.heap.size,i,none⟩ ⟨D,d*4,none⟩ (.int .u8 ((b.getD i 0 ^^^ x:Nat):Int)) (Nat.ne_of_lt hDlt)).trans a0
 have an':=(cell_set_other W1 ⟨w.heap.size,i,none⟩ ⟨gb,n,none⟩ (.int .u8 ((b.getD i 0 ^^^ x:Nat):Int)) (Nat.ne_of_lt hgb)).trans an
 have af':=(frozen_set W1 ⟨w.heap.size,i,none⟩ ⟨gb,n,none⟩ (.int .u8 ((b.getD i 0 ^^^ x:Nat):Int)) (Nat.ne_of_lt hgb)).trans af
 have HF:=hid (HEND.out _ hO2.drew)
 unfold sv at HF
 clear HEND hcells hrd hfr hO1 hO2 hrd2 hl128 hy
 generalize b.getD i 0=y at *
 go_enter Tryz.func67,Tryz.ntmps67
 go_wp2_with (first
  | (go_at_call 101;refine hc.out.mono ?_;rintro e w' ⟨rfl,rfl⟩)
  | (at_lookup;refine wpList_lookup_own_ok_int _ rfl _ _ 102 rfl 3 3 .i64 lawInt Tryz.underlying102 Tryz.underlying3 (zeroInt _) (gs d).m L Dm rfl hown _ _ rfl hkey ?_;intro c hat hwc;clear hat hwc)
  | go_in)
 generalize W1.setCell ⟨w.heap.size,i,none⟩ (.int .u8 ((y ^^^ x:Nat):Int))=W2 at *
 clear kk1 f1 a0 an af kb hxor
 generalize strL (b.set i (y ^^^ x))=sb at *
 go_still_tail 8,(by kernel_rfl)
 change wpList _ _ _ _ _ W2.drew
 go_wp2
 go_ret
 exact ⟨rfl,HF.out⟩
end Go.Proofs.YtgebkmpmnjhceaaGreatDoor.Sh
