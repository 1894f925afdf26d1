/-
  What the statement's proof rests on, part 11.
  Conditions: each theorem's own.
-/
import Derived.Test.YtcnjpmcelihknaaGreatDoorV07
import Derived.Laws.CopyOwn
import Derived.Shelf.Spec.SlicesInsert
import Derived.Lib.LazyBuf
import Derived.Test.YtcnjpmcelihknaaGreatDoorV01
open Go.Lib (hid)
namespace Go.Proofs.YtcnjpmcelihknaaGreatDoor.S
open Go.RowKit
def widL:List Nat:=[8,1,1,1,1,4,4,4]
def offL:List Nat:=[4,12,13,14,15,16,20,24,28]
def Wid (w:World):Prop:=∀i,i<8->w.cell? ⟨2,i,none⟩=some (.int .i64 ((widL.getD i 0:Nat):Int))
theorem Wid.keep {w w':World} (h:Wid w) (hk:∀p:Addr,p.block<2+1->w'.cell? p=w.cell? p):Wid w':=fun i hi=>(hk _ (by simp)).trans (h i hi)
theorem Wid.size {w:World} (h:Wid w):2+1<=w.heap.size:=World.block_lt_of_cell? w _ (h 0 (by decide))
theorem Wid.below {w w':World} {B:Nat} (h:Wid w) (hB:2+1<=B) (hb:Below B w w'):Wid w':=h.keep fun p hp=>hb.cell (by omega)
def preTo (ns:List Nat):Nat->List Nat
 | 0=>[65,83,72,76]
 | j+1=>preTo ns j++putL (ns.getD j 0) (widL.getD j 0)
theorem preTo_length (ns:List Nat):∀j,j<=8->(preTo ns j).length=offL.getD j 0
 | 0,_=>rfl
 | j+1,h=>by
  rw [preTo,List.length_append,preTo_length ns j (by omega),putL_length]
  have:∀i:Fin 8,offL.getD i.val 0+widL.getD i.val 0=offL.getD (i.val+1) 0:=by decide
  exact this ⟨j,by omega⟩
def encTo (ns:List Nat) (j:Nat):List Nat:=preTo ns j++List.replicate (128-(preTo ns j).length) 0
theorem off_le:∀j:Fin 9,offL.getD j.val 0<=28:=by decide
theorem encTo_length (ns:List Nat) (j:Nat) (h:j<=8):(encTo ns j).length=128:=by
 have:=off_le ⟨j,by omega⟩
 rw [encTo,List.length_append,List.length_replicate,preTo_length ns j h]
 have:offL.getD j 0<=28:=this
 omega
theorem splice_bts (a:List Nat) (n k:Nat) (c:List Nat) (h:a.length=k) (_:c.length<=n) :
  splice (bts (a++List.replicate n 0)) k (bts c)=bts ((a++c)++List.replicate (n-c.length) 0):=by
 unfold splice
 subst h
 simp only [bts,List.length_map,List.map_append,List.map_replicate]
 rw [List.take_append_of_le_length (by simp),List.take_of_length_le (by simp),List.drop_append,List.drop_eq_nil_of_le (by simp),List.nil_append,List.drop_replicate]
 simp
theorem encTo_splice (ns:List Nat) (j:Nat) (h:j<8):splice (bts (encTo ns j)) (offL.getD j 0) (bts (putL (ns.getD j 0) (widL.getD j 0)))=bts (encTo ns (j+1)):=by
 have h1:=preTo_length ns j (by omega)
 have h2:=preTo_length ns (j+1) (by omega)
 have h3:offL.getD (j+1) 0<=28:=off_le ⟨j+1,by omega⟩
 have h4:(preTo ns (j+1)).length=(preTo ns j).length+widL.getD j 0:=by rw [preTo,List.length_append,putL_length]
 unfold encTo
 rw [splice_bts _ _ _ _ h1 (by rw [putL_length];omega),h4,putL_length,preTo,Nat.sub_sub]
theorem zero61:zcB.toList=List.replicate 128 (Value.int .u8 0):=by rfl
theorem sign_splice:splice (List.replicate 128 (Value.int .u8 0)) 0 (bts [65,83,72,76])=bts (encTo [] 0):=by
 have h:=splice_bts [] 128 0 [65,83,72,76] rfl (by decide)
 simpa [bts,encTo,preTo] using h
theorem setCells_heap {g:Nat} {t:TypeId}:∀(vs:List Value) (o:Nat) (W:World) (cur:List Value),W.heap[g]?=some (.cells cur.toArray t (0,0))->(W.setCells g o vs).heap[g]?=some (.cells (Ins.setL cur o vs).toArray t (0,0))
 | [],_,_,_,h=>h
 | v :: r,o,W,cur,h=>by
  have h2:=heap_setCell_same W g o cur.toArray t v h
  rw [List.setIfInBounds_toArray] at h2
  exact setCells_heap r (o+1) _ _ h2
theorem sign_run (W:World) (g:Nat) (ty:TypeId) (h:W.heap[g]?=some (.cells (List.replicate 128 (Value.int .u8 0)).toArray 263 (0,0))) :
  ∃W',(Builtin.copy_ #[24,9] ty #[.slice (some ⟨g,0,none⟩) 128 128,.string ⟨#[65,83,72,76]⟩]).run Tryz.prog W=.ok (.int .i64 4) W' /\
   W'.heap[g]?=some (.cells (bts (encTo [] 0)).toArray 263 (0,0))/\∀B w0,B<=g->Below B w0 W->Below B w0 W':=by
 refine ⟨W.setCells g 0 (bts [65,83,72,76]),?_,?_,fun B w0 hB hb=>Ins.below_setCells hB _ _ hb⟩
 ·have hc:∀j,j<128->W.cell? ⟨g,j,none⟩=some (.int .u8 0):=fun j hj=>by
   rw [cell_of_row _ _ j _ _ _ h,List.getElem?_toArray,List.getElem?_replicate,if_pos hj]
  have:=_root_.Go.run_copy_string (P:=Tryz.prog) W 24 9 ty 5 g 0 128 128 ⟨#[65,83,72,76]⟩ Tryz.underlying24 Tryz.sizeOf5 (by decide)
   (fun j hj=>by rw [Nat.zero_add,hc j (by have:j<4:=hj;omega)];rfl) (fun j _=>by rw [Nat.zero_add];exact frozen_of_row _ _ j _ _ h)
  exact this
 ·have h2:=setCells_heap (bts [65,83,72,76]) 0 W _ h
  rw [Ins.setL_eq _ _ _ (by simp [bts])] at h2
  rw [<- sign_splice]
  unfold splice
  simpa using h2
theorem info_block:(Tryz.prog.info? 263).map (·.size)=some 128:=by kernel_rfl
theorem info_u8s:(Tryz.prog.info? 5).map (·.size)=some 1:=by kernel_rfl
theorem bytes_run (W:World) (g off m n c B:Nat) (A:Option Addr) (l cur:List Nat) (e ty:TypeId) (h:W.heap[g]?=some (.cells (bts cur).toArray e (0,0))) (hr:Reads W B A n (bts l)) (hn:0<n) (hm:n<=m) (hfit:off+n<=cur.length) :
  ∃W',(Builtin.copy_ #[24,24] ty #[.slice (some ⟨g,off,none⟩) m m,.slice A n c]).run Tryz.prog W=.ok (.int .i64 (n:Int)) W' /\
   W'.heap[g]?=some (.cells (splice (bts cur) off (bts l)).toArray e (0,0))/\∀B w0,B<=g->Below B w0 W->Below B w0 W':=by
 obtain ⟨ad,rfl,_,hc⟩:=hr.2 hn
 have hl:(bts l).length=n:=hr.1
 refine ⟨W.setCells g off (bts l),?_,?_,fun B w0 hB hb=>Ins.below_setCells hB _ _ hb⟩
 ·have:=run_copy_cells (P:=Tryz.prog) W 24 24 ty 5 g off m m ad n c (bts l) Tryz.underlying24 info_u8s (by rw [hl];exact (Nat.min_eq_left hm).symm) hc
   (fun j hj=>by
    have hj2:off+j<(bts cur).length:=by rw [bts_length];omega
    rw [cell_of_row _ _ (off+j) _ _ _ h,List.getElem?_toArray,List.getElem?_eq_getElem hj2];rfl)
   (fun j _=>frozen_of_row _ _ _ _ _ h) (bts_one l)
  rw [this,hl]
  rfl
 ·have h2:=setCells_heap (bts l) off W _ h
  rw [Ins.setL_eq _ _ _ (by rw [hl,bts_length];exact hfit)] at h2
  unfold splice
  rw [<- List.append_assoc]
  exact h2
theorem encTo_small (ns:List Nat) (j:Nat):Small (encTo ns j):=by
 have hp:∀j,Small (preTo ns j):=fun j=>by
  induction j with
  | zero=>intro x hx;simp [preTo] at hx;omega
  | succ j ih =>
   intro x hx
   rw [preTo,List.mem_append] at hx
   rcases hx with hx | hx
   ·exact ih x hx
   ·simp only [putL,List.mem_map] at hx
    obtain ⟨i,_,rfl⟩:=hx
    exact Nat.mod_lt _ (by decide)
 intro x hx
 rw [encTo,List.mem_append] at hx
 rcases hx with hx | hx
 ·exact hp j x hx
 ·rw [(List.mem_replicate.1 hx).2];decide
theorem sum_lt {l:List Nat} (h:Small l):Nums.sum 0 l<2 ^ (8*4):=by
 unfold Nums.sum
 exact Nums.xor_lt_32 (Nums.run_lt h (by decide)) (by decide)
theorem block_reads {W:World} {g:Nat} {l:List Nat} {e:TypeId} (h:W.heap[g]?=some (.cells (bts l).toArray e (0,0))) (hg:g<W.heap.size) (hl:l.length=128):Reads W W.heap.size (some ⟨g,0,none⟩) 124 (bts (l.take 124)):=by
 refine ⟨by rw [bts_length,List.length_take,hl];rfl,fun _=>⟨_,rfl,hg,fun j u hu=>?_⟩⟩
 have e:(⟨g,0,none⟩:Addr).add j=⟨g,j,none⟩:=by unfold Addr.add;split<;>simp_all
 rw [e,cell_of_row _ _ j _ _ _ h,List.getElem?_toArray]
 rw [bts,List.map_take,List.getElem?_take] at hu
 split at hu
 ·exact hu
 ·cases hu
theorem last_splice {l c:List Nat} (hl:l.length=128) (hc:c.length=4):splice (bts l) 124 (bts c)=bts (l.take 124++c):=by
 unfold splice
 have h:(bts l).drop (124+(bts c).length)=[]:=List.drop_eq_nil_of_le (by rw [bts_length,bts_length];omega)
 rw [h,List.append_nil,bts_append]
 simp [bts,List.map_take]
theorem results_cell {fn:Func} {a:Tmp} {t:TypeId} {P:Program} {w:World} {v:Value} {tmps:Array Value} {g:Nat} (h:fn.results=#[.cell a t])
  (hp:tmps.getD a undef=.pointer (some ⟨g,0,none⟩)) (hl:(loadVar t ⟨g,0,none⟩).run P w=.ok v w):(results fn tmps).run P w=.ok v w:=by
 rw [Array.getD_eq_getD_getElem?] at hp
 simp [results,h,hp,asAddr,hl]
theorem load_run {W:World} {g:Nat} {l:List Nat} {e:TypeId} (h:W.heap[g]?=some (.cells (bts l).toArray e (0,0))) (hl:l.length=128):(loadCellsFrom ⟨g,0,none⟩ 0 128 #[]).run Tryz.prog W=.ok (bts l).toArray W:=by
 have:=run_loadCells_list (P:=Tryz.prog) W ⟨g,0,none⟩ (bts l) (fun j v hv=>by
  have hadd:(⟨g,0,none⟩:Addr).add j=⟨g,j,none⟩:=by unfold Addr.add;split<;>simp_all
  rw [hadd,cell_of_row _ _ j _ _ _ h,List.getElem?_toArray];exact hv)
 rw [bts_length,hl] at this
 simpa [loadCells] using this
def Sup.nums (s:Sup):List Nat:=[s.gen.toNat,s.mem.toNat,s.disk.toNat,s.logs.toNat,(s.spare%256).toNat,s.str.toNat,s.mark.toNat,s.cur.toNat]
def encL (ns:List Nat):List Nat:=let b:=(encTo ns 8).take 124;b++putL (Nums.sum 0 b) 4
set_option maxRecDepth 100000 in
set_option maxHeartbeats 4000000 in
theorem block_any (s:Sup) (w:World) (hr:s.right=true) (hT:Tabs w) (hW:Wid w) :
  Calls Tryz.prog 225 #[s.val] w fun e w'=>e=.returned (.agg (bts (encL s.nums)).toArray)/\Below w.heap.size w w':=by
 have hns:Hid (s.nums=[s.gen.toNat,s.mem.toNat,s.disk.toNat,s.logs.toNat,(s.spare%256).toNat,s.str.toNat,s.mark.toNat,s.cur.toNat]):=hid rfl
 simp only [Sup.right,Bool.and_eq_true,decide_eq_true_eq] at hr
 obtain ⟨⟨⟨⟨⟨⟨⟨h1,h2⟩,h3⟩,h4⟩,h5⟩,h6⟩,h7⟩,h8⟩:=hr
 have hmost:s.most<=1024:=by unfold Sup.most;split<;>omega
 have h7b:0<=s.mark/\s.mark<=1024:=by omega
 generalize s.nums=ns at *
 obtain ⟨x0,x1,x2,x3,x4,x5,x6,x7⟩:=s
 simp only [Sup.val,Sup.cells] at *
 clear h7 hmost
 have hsg:(((w.alloc (.cells #[.int .i64 x0,.int .i64 x1,.int .i64 x2,.int .i64 x3,.int .i64 x4,.int .i64 x5,.int .i64 x6,.int .i64 x7] 123)).alloc (.cells zcB 263)).alloc (.cells #[.int .i64 x0,.int .i64 x1,.int .i64 x2,.int .i64 x4,.int .i64 (x5%256),.int .i64 x3,.int .i64 x6,.int .i64 x7] 289)).heap.size=w.heap.size+1+1+1:=by simp
 have hz:(((( w.alloc (.cells #[.int .i64 x0,.int .i64 x1,.int .i64 x2,.int .i64 x3,.int .i64 x4,.int .i64 x5,.int .i64 x6,.int .i64 x7] 123)).alloc (.cells zcB 263)).alloc (.cells #[.int .i64 x0,.int .i64 x1,.int .i64 x2,.int .i64 x4,.int .i64 (x5%256),.int .i64 x3,.int .i64 x6,.int .i64 x7] 289)).alloc (.cells zcB 263)).heap[w.heap.size+1+1+1]?=some (.cells (List.replicate 128 (Value.int .u8 0)).toArray 263 (0,0)):=by
  rw [<- zero61,<- hsg]
  exact heap_alloc_last _ _
 obtain ⟨W1,hrun,hblk,hbel⟩:=sign_run _ _ 3 hz
 have hb0:Below w.heap.size w ((((w.alloc (.cells #[.int .i64 x0,.int .i64 x1,.int .i64 x2,.int .i64 x3,.int .i64 x4,.int .i64 x5,.int .i64 x6,.int .i64 x7] 123)).alloc (.cells zcB 263)).alloc (.cells #[.int .i64 x0,.int .i64 x1,.int .i64 x2,.int .i64 x4,.int .i64 (x5%256),.int .i64 x3,.int .i64 x6,.int .i64 x7] 289)).alloc (.cells zcB 263)) :=
  ((((Below.refl _ _).alloc (Nat.le_refl _) _).alloc (by simp) _).alloc (by simp;omega) _).alloc (by simp;omega) _
 have hb1:=hbel w.heap.size w (by omega) hb0
 have hbk:=hbel (w.heap.size+1+1+1) _ (Nat.le_refl _) (Below.refl _ _)
 have hs2:((w.alloc (.cells #[.int .i64 x0,.int .i64 x1,.int .i64 x2,.int .i64 x3,.int .i64 x4,.int .i64 x5,.int .i64 x6,.int .i64 x7] 123)).alloc (.cells zcB 263)).heap.size=w.heap.size+1+1:=by simp
 have hnum:W1.heap[w.heap.size+1+1]?=some (.cells #[.int .i64 x0,.int .i64 x1,.int .i64 x2,.int .i64 x4,.int .i64 (x5%256),.int .i64 x3,.int .i64 x6,.int .i64 x7] 289):=by
  rw [hbk.block _ (by omega),Below.heap_alloc _ _ _ (by rw [hsg];omega),<- hs2]
  exact heap_alloc_last _ _
 have hs1:(w.alloc (.cells #[.int .i64 x0,.int .i64 x1,.int .i64 x2,.int .i64 x3,.int .i64 x4,.int .i64 x5,.int .i64 x6,.int .i64 x7] 123)).heap.size=w.heap.size+1:=by simp
 have hres:W1.heap[w.heap.size+1]?=some (.cells (List.replicate 128 (Value.int .u8 0)).toArray 263 (0,0)):=by
  rw [hbk.block _ (by omega),Below.heap_alloc _ _ _ (by rw [hsg];omega),Below.heap_alloc _ _ _ (by rw [hs2];omega),<- hs1,<- zero61]
  exact heap_alloc_last _ _
 have Hres:=hid hres
 clear hres hs1
 have m0:W1.cell? ⟨w.heap.size+1+1,0,none⟩=some (.int .i64 x0):=cell_of_row _ _ 0 _ _ _ hnum
 have m1:W1.cell? ⟨w.heap.size+1+1,1,none⟩=some (.int .i64 x1):=cell_of_row _ _ 1 _ _ _ hnum
 have m2:W1.cell? ⟨w.heap.size+1+1,2,none⟩=some (.int .i64 x2):=cell_of_row _ _ 2 _ _ _ hnum
 have m3:W1.cell? ⟨w.heap.size+1+1,3,none⟩=some (.int .i64 x4):=cell_of_row _ _ 3 _ _ _ hnum
 have m4:W1.cell? ⟨w.heap.size+1+1,4,none⟩=some (.int .i64 (x5%256)):=cell_of_row _ _ 4 _ _ _ hnum
 have m5:W1.cell? ⟨w.heap.size+1+1,5,none⟩=some (.int .i64 x3):=cell_of_row _ _ 5 _ _ _ hnum
 have m6:W1.cell? ⟨w.heap.size+1+1,6,none⟩=some (.int .i64 x6):=cell_of_row _ _ 6 _ _ _ hnum
 have m7:W1.cell? ⟨w.heap.size+1+1,7,none⟩=some (.int .i64 x7):=cell_of_row _ _ 7 _ _ _ hnum
 have hblk0:W1.heap[w.heap.size+1+1+1]?=some (.cells (bts (encTo ns 0)).toArray 263 (0,0)):=hblk
 have hg1:w.heap.size+1+1+1<W1.heap.size:=by
  rcases Nat.lt_or_ge (w.heap.size+1+1+1) W1.heap.size with h | h
  ·exact h
  ·rw [Array.getElem?_eq_none h] at hblk0;cases hblk0
 have Hblk0:=hid hblk0
 have HW:=hid (hW.below hW.size hb1)
 have HT:=hid (hT.below hT.size hb1)
 have Hb1:=hid hb1
 have hwsz:=hW.size
 clear hblk hblk0 hbel hbk hs2 hnum hW hT hb1 hz hsg hb0
 have hz0:=zero_block
 have hzn:=zcB_ne
 go_enter Tryz.func225,Tryz.ntmps225
 go_wp2_with fail
 clear m0 m1 m2 m3 m4 m5 m6 m7 hrun
 generalize hgs:w.heap.size=g at *
 have Hgs:=hid hgs
 clear hgs
 go_loopw [6,37] (fun s6 s37 wr=>∃j:Nat,j<=8/\s37=.int .i64 j/\s6=.int .i64 ((offL.getD j 0:Nat):Int)/\Hid (wr.heap[g+1+1+1]?=some (.cells (bts (encTo ns j)).toArray 263 (0,0)))/\Below (g+1+1+1) W1 wr) (fun _ s37 _=>8-(intOf s37).toNat)
 case atStart=>exact ⟨0,by omega,rfl,rfl,Hblk0,Below.refl _ _⟩
 case round =>
  obtain ⟨j,hj,rfl,rfl,Hblk,hbr⟩:=hrel
  have hszr:W1.heap.size<=wr.heap.size:=hbr.size
  have hcases:j=0\/j=1\/j=2\/j=3\/j=4\/j=5\/j=6\/j=7\/j=8:=by omega
  rcases hcases with rfl | rfl | rfl | rfl | rfl | rfl | rfl | rfl | rfl
  case inl =>
   obtain ⟨n0,rfl⟩:∃n:Nat,x0=(n:Int):=⟨Int.toNat x0,by omega⟩
   have hwid:wr.cell? ⟨2,0,none⟩=some (.int .i64 8):=(HW.out.below (by omega) hbr) 0 (by decide)
   have hget:ns.getD 0 0=n0:=by rw [hns.out];simp
   have q:=hid (put_ok n0 8 wr (by decide) (by decide) (by simp;omega))
   have hidx:∀W,(Instr.index 289 (.agg #[.int .i64 n0,.int .i64 x1,.int .i64 x2,.int .i64 x4,.int .i64 (x5%256),.int .i64 x3,.int .i64 x6,.int .i64 x7]) (.int .i64 0)).run Tryz.prog W=.ok (.int .i64 (n0:Int)) W:=fun W=>by kernel_rfl
   have hspl:=encTo_splice ns 0 (by decide)
   rw [hget,show offL.getD 0 0=4 from rfl,show widL.getD 0 0=8 from rfl] at hspl
   have Hspl:=hid hspl
   clear hspl hget
   rw [show offL.getD 0 0=4 from rfl]
   go_wp2_with (go_at_call 112;refine q.out.mono ?_;rintro e w2 ⟨v2,rfl,hown2,hb2⟩)
   obtain ⟨A2,c2,rfl,hr2,_,_⟩:=own_shape hown2
   clear hown2
   rw [putL_length] at hr2
   have hblk2:=(hb2.block (g+1+1+1) (by omega)).trans Hblk.out
   obtain ⟨W3,hrun3,hblk3,hbel3⟩:=bytes_run w2 (g+1+1+1) 4 124 8 c2 _ A2 (putL n0 8) (encTo ns 0) 263 3 hblk2 hr2 (by decide) (by decide) (by rw [encTo_length ns 0 (by decide)];decide)
   rw [Hspl.out] at hblk3
   have Hblk3:=hid hblk3
   have hb3:=hbel3 (g+1+1+1) W1 (Nat.le_refl _) (hbr.trans (hb2.mono (by omega)))
   rw [putL_length]
   rw [hrun3]
   clear hblk2 hblk3 hbel3 hr2 hb2
   go_wp2_with fail
   go_roundw
   case rel=>exact ⟨0+1,by decide,rfl,rfl,Hblk3,hb3⟩
   case measure=>simp [intOf]
  case inr.inl =>
   obtain ⟨n0,rfl⟩:∃n:Nat,x1=(n:Int):=⟨Int.toNat x1,by omega⟩
   have hwid:wr.cell? ⟨2,1,none⟩=some (.int .i64 1):=(HW.out.below (by omega) hbr) 1 (by decide)
   have hget:ns.getD 1 0=n0:=by rw [hns.out];simp
   have q:=hid (put_ok n0 1 wr (by decide) (by decide) (by simp;omega))
   have hidx:∀W,(Instr.index 289 (.agg #[.int .i64 x0,.int .i64 n0,.int .i64 x2,.int .i64 x4,.int .i64 (x5%256),.int .i64 x3,.int .i64 x6,.int .i64 x7]) (.int .i64 1)).run Tryz.prog W=.ok (.int .i64 (n0:Int)) W:=fun W=>by kernel_rfl
   have hspl:=encTo_splice ns 1 (by decide)
   rw [hget,show offL.getD 1 0=12 from rfl,show widL.getD 1 0=1 from rfl] at hspl
   have Hspl:=hid hspl
   clear hspl hget
   rw [show offL.getD 1 0=12 from rfl]
   go_wp2_with (go_at_call 112;refine q.out.mono ?_;rintro e w2 ⟨v2,rfl,hown2,hb2⟩)
   obtain ⟨A2,c2,rfl,hr2,_,_⟩:=own_shape hown2
   clear hown2
   rw [putL_length] at hr2
   have hblk2:=(hb2.block (g+1+1+1) (by omega)).trans Hblk.out
   obtain ⟨W3,hrun3,hblk3,hbel3⟩:=bytes_run w2 (g+1+1+1) 12 116 1 c2 _ A2 (putL n0 1) (encTo ns 1) 263 3 hblk2 hr2 (by decide) (by decide) (by rw [encTo_length ns 1 (by decide)];decide)
   rw [Hspl.out] at hblk3
   have Hblk3:=hid hblk3
   have hb3:=hbel3 (g+1+1+1) W1 (Nat.le_refl _) (hbr.trans (hb2.mono (by omega)))
   rw [putL_length]
   rw [hrun3]
   clear hblk2 hblk3 hbel3 hr2 hb2
   go_wp2_with fail
   go_roundw
   case rel=>exact ⟨1+1,by decide,rfl,rfl,Hblk3,hb3⟩
   case measure=>simp [intOf]
  case inr.inr.inl =>
   obtain ⟨n0,rfl⟩:∃n:Nat,x2=(n:Int):=⟨Int.toNat x2,by omega⟩
   have hwid:wr.cell? ⟨2,2,none⟩=some (.int .i64 1):=(HW.out.below (by omega) hbr) 2 (by decide)
   have hget:ns.getD 2 0=n0:=by rw [hns.out];simp
   have q:=hid (put_ok n0 1 wr (by decide) (by decide) (by simp;omega))
   have hidx:∀W,(Instr.index 289 (.agg #[.int .i64 x0,.int .i64 x1,.int .i64 n0,.int .i64 x4,.int .i64 (x5%256),.int .i64 x3,.int .i64 x6,.int .i64 x7]) (.int .i64 2)).run Tryz.prog W=.ok (.int .i64 (n0:Int)) W:=fun W=>by kernel_rfl
   have hspl:=encTo_splice ns 2 (by decide)
   rw [hget,show offL.getD 2 0=13 from rfl,show widL.getD 2 0=1 from rfl] at hspl
   have Hspl:=hid hspl
   clear hspl hget
   rw [show offL.getD 2 0=13 from rfl]
   go_wp2_with (go_at_call 112;refine q.out.mono ?_;rintro e w2 ⟨v2,rfl,hown2,hb2⟩)
   obtain ⟨A2,c2,rfl,hr2,_,_⟩:=own_shape hown2
   clear hown2
   rw [putL_length] at hr2
   have hblk2:=(hb2.block (g+1+1+1) (by omega)).trans Hblk.out
   obtain ⟨W3,hrun3,hblk3,hbel3⟩:=bytes_run w2 (g+1+1+1) 13 115 1 c2 _ A2 (putL n0 1) (encTo ns 2) 263 3 hblk2 hr2 (by decide) (by decide) (by rw [encTo_length ns 2 (by decide)];decide)
   rw [Hspl.out] at hblk3
   have Hblk3:=hid hblk3
   have hb3:=hbel3 (g+1+1+1) W1 (Nat.le_refl _) (hbr.trans (hb2.mono (by omega)))
   rw [putL_length]
   rw [hrun3]
   clear hblk2 hblk3 hbel3 hr2 hb2
   go_wp2_with fail
   go_roundw
   case rel=>exact ⟨2+1,by decide,rfl,rfl,Hblk3,hb3⟩
   case measure=>simp [intOf]
  case inr.inr.inr.inl =>
   obtain ⟨n0,rfl⟩:∃n:Nat,x4=(n:Int):=⟨Int.toNat x4,by omega⟩
   have hwid:wr.cell? ⟨2,3,none⟩=some (.int .i64 1):=(HW.out.below (by omega) hbr) 3 (by decide)
   have hget:ns.getD 3 0=n0:=by rw [hns.out];simp
   have q:=hid (put_ok n0 1 wr (by decide) (by decide) (by simp;omega))
   have hidx:∀W,(Instr.index 289 (.agg #[.int .i64 x0,.int .i64 x1,.int .i64 x2,.int .i64 n0,.int .i64 (x5%256),.int .i64 x3,.int .i64 x6,.int .i64 x7]) (.int .i64 3)).run Tryz.prog W=.ok (.int .i64 (n0:Int)) W:=fun W=>by kernel_rfl
   have hspl:=encTo_splice ns 3 (by decide)
   rw [hget,show offL.getD 3 0=14 from rfl,show widL.getD 3 0=1 from rfl] at hspl
   have Hspl:=hid hspl
   clear hspl hget
   rw [show offL.getD 3 0=14 from rfl]
   go_wp2_with (go_at_call 112;refine q.out.mono ?_;rintro e w2 ⟨v2,rfl,hown2,hb2⟩)
   obtain ⟨A2,c2,rfl,hr2,_,_⟩:=own_shape hown2
   clear hown2
   rw [putL_length] at hr2
   have hblk2:=(hb2.block (g+1+1+1) (by omega)).trans Hblk.out
   obtain ⟨W3,hrun3,hblk3,hbel3⟩:=bytes_run w2 (g+1+1+1) 14 114 1 c2 _ A2 (putL n0 1) (encTo ns 3) 263 3 hblk2 hr2 (by decide) (by decide) (by rw [encTo_length ns 3 (by decide)];decide)
   rw [Hspl.out] at hblk3
   have Hblk3:=hid hblk3
   have hb3:=hbel3 (g+1+1+1) W1 (Nat.le_refl _) (hbr.trans (hb2.mono (by omega)))
   rw [putL_length]
   rw [hrun3]
   clear hblk2 hblk3 hbel3 hr2 hb2
   go_wp2_with fail
   go_roundw
   case rel=>exact ⟨3+1,by decide,rfl,rfl,Hblk3,hb3⟩
   case measure=>simp [intOf]
  case inr.inr.inr.inr.inl =>
   have hs0:0<=x5%256/\x5%256<256:=by omega
   generalize x5%256=y at *
   obtain ⟨n0,rfl⟩:∃n:Nat,y=(n:Int):=⟨y.toNat,by omega⟩
   have hwid:wr.cell? ⟨2,4,none⟩=some (.int .i64 1):=(HW.out.below (by omega) hbr) 4 (by decide)
   have hget:ns.getD 4 0=n0:=by rw [hns.out];simp
   have q:=hid (put_ok n0 1 wr (by decide) (by decide) (by simp;omega))
   have hidx:∀W,(Instr.index 289 (.agg #[.int .i64 x0,.int .i64 x1,.int .i64 x2,.int .i64 x4,.int .i64 n0,.int .i64 x3,.int .i64 x6,.int .i64 x7]) (.int .i64 4)).run Tryz.prog W=.ok (.int .i64 (n0:Int)) W:=fun W=>by kernel_rfl
   have hspl:=encTo_splice ns 4 (by decide)
   rw [hget,show offL.getD 4 0=15 from rfl,show widL.getD 4 0=1 from rfl] at hspl
   have Hspl:=hid hspl
   clear hspl hget
   rw [show offL.getD 4 0=15 from rfl]
   go_wp2_with (go_at_call 112;refine q.out.mono ?_;rintro e w2 ⟨v2,rfl,hown2,hb2⟩)
   obtain ⟨A2,c2,rfl,hr2,_,_⟩:=own_shape hown2
   clear hown2
   rw [putL_length] at hr2
   have hblk2:=(hb2.block (g+1+1+1) (by omega)).trans Hblk.out
   obtain ⟨W3,hrun3,hblk3,hbel3⟩:=bytes_run w2 (g+1+1+1) 15 113 1 c2 _ A2 (putL n0 1) (encTo ns 4) 263 3 hblk2 hr2 (by decide) (by decide) (by rw [encTo_length ns 4 (by decide)];decide)
   rw [Hspl.out] at hblk3
   have Hblk3:=hid hblk3
   have hb3:=hbel3 (g+1+1+1) W1 (Nat.le_refl _) (hbr.trans (hb2.mono (by omega)))
   rw [putL_length]
   rw [hrun3]
   clear hblk2 hblk3 hbel3 hr2 hb2
   go_wp2_with fail
   go_roundw
   case rel=>exact ⟨4+1,by decide,rfl,rfl,Hblk3,hb3⟩
   case measure=>simp [intOf]
  case inr.inr.inr.inr.inr.inl =>
   obtain ⟨n0,rfl⟩:∃n:Nat,x3=(n:Int):=⟨Int.toNat x3,by omega⟩
   have hwid:wr.cell? ⟨2,5,none⟩=some (.int .i64 4):=(HW.out.below (by omega) hbr) 5 (by decide)
   have hget:ns.getD 5 0=n0:=by rw [hns.out];simp
   have q:=hid (put_ok n0 4 wr (by decide) (by decide) (by simp;omega))
   have hidx:∀W,(Instr.index 289 (.agg #[.int .i64 x0,.int .i64 x1,.int .i64 x2,.int .i64 x4,.int .i64 (x5%256),.int .i64 n0,.int .i64 x6,.int .i64 x7]) (.int .i64 5)).run Tryz.prog W=.ok (.int .i64 (n0:Int)) W:=fun W=>by kernel_rfl
   have hspl:=encTo_splice ns 5 (by decide)
   rw [hget,show offL.getD 5 0=16 from rfl,show widL.getD 5 0=4 from rfl] at hspl
   have Hspl:=hid hspl
   clear hspl hget
   rw [show offL.getD 5 0=16 from rfl]
   go_wp2_with (go_at_call 112;refine q.out.mono ?_;rintro e w2 ⟨v2,rfl,hown2,hb2⟩)
   obtain ⟨A2,c2,rfl,hr2,_,_⟩:=own_shape hown2
   clear hown2
   rw [putL_length] at hr2
   have hblk2:=(hb2.block (g+1+1+1) (by omega)).trans Hblk.out
   obtain ⟨W3,hrun3,hblk3,hbel3⟩:=bytes_run w2 (g+1+1+1) 16 112 4 c2 _ A2 (putL n0 4) (encTo ns 5) 263 3 hblk2 hr2 (by decide) (by decide) (by rw [encTo_length ns 5 (by decide)];decide)
   rw [Hspl.out] at hblk3
   have Hblk3:=hid hblk3
   have hb3:=hbel3 (g+1+1+1) W1 (Nat.le_refl _) (hbr.trans (hb2.mono (by omega)))
   rw [putL_length]
   rw [hrun3]
   clear hblk2 hblk3 hbel3 hr2 hb2
   go_wp2_with fail
   go_roundw
   case rel=>exact ⟨5+1,by decide,rfl,rfl,Hblk3,hb3⟩
   case measure=>simp [intOf]
  case inr.inr.inr.inr.inr.inr.inl =>
   obtain ⟨n0,rfl⟩:∃n:Nat,x6=(n:Int):=⟨Int.toNat x6,by omega⟩
   have hwid:wr.cell? ⟨2,6,none⟩=some (.int .i64 4):=(HW.out.below (by omega) hbr) 6 (by decide)
   have hget:ns.getD 6 0=n0:=by rw [hns.out];simp
   have q:=hid (put_ok n0 4 wr (by decide) (by decide) (by simp;omega))
   have hidx:∀W,(Instr.index 289 (.agg #[.int .i64 x0,.int .i64 x1,.int .i64 x2,.int .i64 x4,.int .i64 (x5%256),.int .i64 x3,.int .i64 n0,.int .i64 x7]) (.int .i64 6)).run Tryz.prog W=.ok (.int .i64 (n0:Int)) W:=fun W=>by kernel_rfl
   have hspl:=encTo_splice ns 6 (by decide)
   rw [hget,show offL.getD 6 0=20 from rfl,show widL.getD 6 0=4 from rfl] at hspl
   have Hspl:=hid hspl
   clear hspl hget
   rw [show offL.getD 6 0=20 from rfl]
   go_wp2_with (go_at_call 112;refine q.out.mono ?_;rintro e w2 ⟨v2,rfl,hown2,hb2⟩)
   obtain ⟨A2,c2,rfl,hr2,_,_⟩:=own_shape hown2
   clear hown2
   rw [putL_length] at hr2
   have hblk2:=(hb2.block (g+1+1+1) (by omega)).trans Hblk.out
   obtain ⟨W3,hrun3,hblk3,hbel3⟩:=bytes_run w2 (g+1+1+1) 20 108 4 c2 _ A2 (putL n0 4) (encTo ns 6) 263 3 hblk2 hr2 (by decide) (by decide) (by rw [encTo_length ns 6 (by decide)];decide)
   rw [Hspl.out] at hblk3
   have Hblk3:=hid hblk3
   have hb3:=hbel3 (g+1+1+1) W1 (Nat.le_refl _) (hbr.trans (hb2.mono (by omega)))
   rw [putL_length]
   rw [hrun3]
   clear hblk2 hblk3 hbel3 hr2 hb2
   go_wp2_with fail
   go_roundw
   case rel=>exact ⟨6+1,by decide,rfl,rfl,Hblk3,hb3⟩
   case measure=>simp [intOf]
  case inr.inr.inr.inr.inr.inr.inr.inl =>
   obtain ⟨n0,rfl⟩:∃n:Nat,x7=(n:Int):=⟨Int.toNat x7,by omega⟩
   have hwid:wr.cell? ⟨2,7,none⟩=some (.int .i64 4):=(HW.out.below (by omega) hbr) 7 (by decide)
   have hget:ns.getD 7 0=n0:=by rw [hns.out];simp
   have q:=hid (put_ok n0 4 wr (by decide) (by decide) (by simp;omega))
   have hidx:∀W,(Instr.index 289 (.agg #[.int .i64 x0,.int .i64 x1,.int .i64 x2,.int .i64 x4,.int .i64 (x5%256),.int .i64 x3,.int .i64 x6,.int .i64 n0]) (.int .i64 7)).run Tryz.prog W=.ok (.int .i64 (n0:Int)) W:=fun W=>by kernel_rfl
   have hspl:=encTo_splice ns 7 (by decide)
   rw [hget,show offL.getD 7 0=24 from rfl,show widL.getD 7 0=4 from rfl] at hspl
   have Hspl:=hid hspl
   clear hspl hget
   rw [show offL.getD 7 0=24 from rfl]
   go_wp2_with (go_at_call 112;refine q.out.mono ?_;rintro e w2 ⟨v2,rfl,hown2,hb2⟩)
   obtain ⟨A2,c2,rfl,hr2,_,_⟩:=own_shape hown2
   clear hown2
   rw [putL_length] at hr2
   have hblk2:=(hb2.block (g+1+1+1) (by omega)).trans Hblk.out
   obtain ⟨W3,hrun3,hblk3,hbel3⟩:=bytes_run w2 (g+1+1+1) 24 104 4 c2 _ A2 (putL n0 4) (encTo ns 7) 263 3 hblk2 hr2 (by decide) (by decide) (by rw [encTo_length ns 7 (by decide)];decide)
   rw [Hspl.out] at hblk3
   have Hblk3:=hid hblk3
   have hb3:=hbel3 (g+1+1+1) W1 (Nat.le_refl _) (hbr.trans (hb2.mono (by omega)))
   rw [putL_length]
   rw [hrun3]
   clear hblk2 hblk3 hbel3 hr2 hb2
   go_wp2_with fail
   go_roundw
   case rel=>exact ⟨7+1,by decide,rfl,rfl,Hblk3,hb3⟩
   case measure=>simp [intOf]
  case inr.inr.inr.inr.inr.inr.inr.inr =>
   have hl8:=encTo_length ns 8 (by decide)
   have hsm:Small ((encTo ns 8).take 124):=(encTo_small ns 8).take 124
   have hrd:Reads wr wr.heap.size (some ⟨g+1+1+1,0,none⟩) 124 (bts ((encTo ns 8).take 124)):=block_reads Hblk.out (by omega) hl8
   have q:=hid (crc_any (some ⟨g+1+1+1,0,none⟩) 124 128 wr.heap.size ((encTo ns 8).take 124) 0 wr (by decide) hsm hrd (by decide) (HT.out.below (by omega) hbr))
   have q2:=hid (fun W=>put_ok (Nums.sum 0 ((encTo ns 8).take 124)) 4 W (by decide) (by decide) (sum_lt hsm))
   have Henc:=hid (show encL ns=(encTo ns 8).take 124++putL (Nums.sum 0 ((encTo ns 8).take 124)) 4 from rfl)
   have hs32:=sum_lt hsm
   generalize Nums.sum 0 ((encTo ns 8).take 124)=S at *
   go_wp2_with (first
    | (go_at_call 113;refine q.out.mono ?_;rintro e w1 ⟨rfl,d,rfl⟩)
    | (go_at_call 112;refine (q2.out _).mono ?_;rintro e w2 ⟨v2,rfl,hown2,hb2⟩))
   obtain ⟨A2,c2,rfl,hr2,_,_⟩:=own_shape hown2
   clear hown2
   rw [putL_length] at hr2
   have hszd:(wr.drewN d).heap.size=wr.heap.size:=rfl
   have hblk2:w2.heap[g+1+1+1]?=some (.cells (bts (encTo ns 8)).toArray 263 (0,0)):=(hb2.block (g+1+1+1) (by rw [hszd];omega)).trans Hblk.out
   have hres2:w2.heap[g+1]?=some (.cells (List.replicate 128 (Value.int .u8 0)).toArray 263 (0,0)):=(hb2.block (g+1) (by rw [hszd];omega)).trans ((hbr.block (g+1) (by omega)).trans Hres.out)
   obtain ⟨W3,hrun3,hblk3,hbel3⟩:=bytes_run w2 (g+1+1+1) 124 4 4 c2 _ A2 (putL S 4) (encTo ns 8) 263 3 hblk2 hr2 (by decide) (by decide) (by rw [hl8];decide)
   rw [last_splice hl8 (putL_length _ _),<- Henc.out] at hblk3
   have hres3:=((hbel3 (g+1+1+1) w2 (Nat.le_refl _) (Below.refl _ _)).block (g+1) (by omega)).trans hres2
   have hb4:Below g w W3:=hbel3 g w (by omega) (Hb1.out.trans ((hbr.mono (by omega)).trans ((show Below g wr (wr.drewN d) from ⟨rfl,rfl,rfl,Nat.le_refl _,fun _ _=>rfl⟩).trans (hb2.mono (by rw [hszd];omega)))))
   have hle:(encL ns).length=128:=by rw [Henc.out,List.length_append,List.length_take,hl8,putL_length];rfl
   have hload:=load_run hblk3 hle
   rw [putL_length]
   rw [hrun3]
   clear hblk2 hbel3 hr2 hb2 hres2 Henc hl8 hsm hrd q q2
   have hs128:(bts (encL ns)).toArray.size=128:=by rw [List.size_toArray,bts_length,hle]
   have hi61:(Tryz.prog.info? 263).map (·.size)=some (bts (encL ns)).toArray.size:=by rw [hs128];exact info_block
   have hone:(bts (encL ns)).toArray.all (·.oneCell')=true:=Array.all_eq_true_iff_forall_mem.2 (fun v hv=>bts_one _ v (by simpa using hv))
   have hold:(List.replicate 128 (Value.int .u8 0)).toArray.size=(bts (encL ns)).toArray.size:=by rw [hs128];simp only [List.size_toArray,List.length_replicate]
   have hb5:=below_setRow (g:=g+1) hb4 (by omega) (bts (encL ns)).toArray
   have hfin:=setRow_heap W3 (g+1) _ (bts (encL ns)).toArray 263 (0,0) hres3
   have hlv:=run_loadVar_row (P:=Tryz.prog) (W3.setRow (g+1) (bts (encL ns)).toArray) (g+1) 263 263 (bts (encL ns)).toArray (0,0) _ hfin Tryz.underlying263 rfl hi61
   clear hload hle
   go_wp2_with (first
    | (with_reducible refine wpList_load_row rfl 263 (.tmp 5) rfl (g+1+1+1) rfl 263 _ (0,0) _ hblk3 Tryz.underlying263 rfl hi61 ?_)
    | (with_reducible refine wpList_store_row rfl 263 (.tmp 2) (.tmp 70) rfl (g+1) _ rfl rfl 263 _ hres3 hi61 hold hone ?_))
   generalize W3.setRow (g+1) (bts (encL ns)).toArray=W4 at *
   generalize (bts (encL ns)).toArray=cs at *
   refine bodyPost_ret (results_cell (g:=g+1) Tryz.results225 rfl hlv) rfl ?_
   exact ⟨rfl,by rw [Hgs.out];exact hb5⟩
theorem putL_succ (x n:Nat):putL x (n+1)=putL x n++[x / 2 ^ (8*n)%256]:=by simp [putL,List.range_succ]
theorem getN_putL (x n:Nat):getN (putL x n)=x%2 ^ (8*n):=by
 induction n with
 | zero=>simp [putL,getN,Nat.mod_one]
 | succ n ih =>
  rw [putL_succ,getN_snoc,putL_length,ih,show 8*(n+1)=8*n+8 by omega,Nat.pow_add,Nat.mod_mul]
  rw [Nat.mul_comm (2 ^ (8*n))]
theorem putL_small (x n:Nat):Small (putL x n):=by
 intro y hy
 simp only [putL,List.mem_map] at hy
 obtain ⟨i,_,rfl⟩:=hy
 exact Nat.mod_lt _ (by decide)
theorem encL_length (ns:List Nat):(encL ns).length=128:=by
 show ((encTo ns 8).take 124++putL _ 4).length=128
 rw [List.length_append,List.length_take,encTo_length ns 8 (by decide),putL_length]
 rfl
theorem encL_small (ns:List Nat):Small (encL ns):=by
 intro x hx
 rcases List.mem_append.1 hx with hx | hx
 ·exact encTo_small ns 8 x (List.mem_of_mem_take hx)
 ·exact putL_small _ _ x hx
def numAt (l:List Nat) (j:Nat):Nat:=getN (cutAt l (offL.getD j 0) (widL.getD j 0))
def supOf (l:List Nat):Sup :=
 ⟨IntKind.i64.wrap (numAt l 0:Nat),(numAt l 1:Nat),(numAt l 2:Nat),(numAt l 5:Nat),(numAt l 3:Nat),IntKind.i8.wrap (numAt l 4:Nat),(numAt l 6:Nat),(numAt l 7:Nat)⟩
theorem right_parts {s:Sup} (hr:s.right=true):(1<=s.gen/\s.gen<=4611686018427387904)/\(3<=s.mem/\s.mem<=16)/\(0<=s.disk/\s.disk<=s.mem)/\(1<=s.str/\s.str<=1024)/\(1<=s.logs/\s.logs<=8)/\(-1<=s.spare/\s.spare<=s.mem-1)/\(0<=s.mark/\s.mark<=s.most)/\(0<=s.cur/\s.cur<=s.str-1):=by
 simp only [Sup.right,Bool.and_eq_true,decide_eq_true_eq] at hr
 obtain ⟨⟨⟨⟨⟨⟨⟨h1,h2⟩,h3⟩,h4⟩,h5⟩,h6⟩,h7⟩,h8⟩:=hr
 exact ⟨h1,h2,h3,h4,h5,h6,h7,h8⟩
end Go.Proofs.YtcnjpmcelihknaaGreatDoor.S
